import Derived.Laws.IdiomStrings
import Derived.Laws.BytesArg
import Derived.Test.YtogcbbkhnpmgeaaGreatDoorZAB
set_option maxRecDepth 100000
set_option maxHeartbeats 4000000
namespace Go.Proofs.YtogcbbkhnpmgeaaGreatDoor
def zpb(n:Nat):List Nat:=if _h:n=0 then[]else zpb (n/27)++[n%27]
termination_by n
decreasing_by omega
theorem zjr:zpb 0=[]:=by rw[zpb];simp
theorem zhs{n:Nat}(h:0<n):zpb n=zpb (n/27)++[n%27]:=by rw[zpb];simp[show n≠0 by omega]
def val(ds:List Nat):Nat:=ds.foldl (fun a d=>27*a+d) 0
theorem zml(ds:List Nat)(d:Nat):val (ds++[d])=27*val ds+d:=by simp[val]
theorem yaeo{n:Nat}(h:0<n):1<=(zpb n).length:=by rw[zhs h];simp
theorem zzh{α:Type}{P:List α->Prop}(h0:P [])(h1:∀ l x,P l->P (l++[x])):∀ l,P l:=by
 intro l
 have:∀ n (l:List α),l.length=n->P l:=by
  intro n
  induction n with
  | zero=>intro l hl;rw[List.length_eq_zero_iff.1 hl];exact h0
  | succ n ih =>
   intro l hl
   have hne:l≠[]:=by intro h;subst h;simp at hl
   rw[<- List.dropLast_concat_getLast hne];exact h1 _ _ (ih _ (by simp[hl]))
 exact this _ l rfl
theorem yara{ds:List Nat}(h:∀ d∈ds,1<=d/\d<27)(hn:ds≠[]):0<val ds:=by
 rw[<- List.dropLast_concat_getLast hn,zml];have:=(h _ (List.getLast_mem hn)).1;omega
theorem yaop(ds:List Nat):(∀ d∈ds,1<=d/\d<27)->zpb (val ds)=ds:=by
 refine zzh (P:=fun ds=>(∀ d∈ds,1<=d/\d<27)->zpb (val ds)=ds) (fun _=>zjr) (fun l x ih h=>?_) ds;have hx:=h x (by simp);rw[zml,zhs (by omega),show(27*val l+x)/27=val l by omega,show(27*val l+x)%27=x by omega,ih (fun d hd=>h d (by simp[hd]))]
theorem yatb(ds:List Nat):(∀ d∈ds,d<27)->val ds<27 ^ ds.length:=by
 refine zzh (P:=fun ds=>(∀ d∈ds,d<27)->val ds<27 ^ ds.length) (fun _=>by simp[val]) (fun l x ih h=>?_) ds;have hx:=h x (by simp);have:=ih (fun d hd=>h d (by simp[hd]));rw[zml,List.length_append,List.length_singleton,Nat.pow_succ];omega
theorem yamx(k:Nat):∀ n,n<27 ^ k->(zpb n).length<=k:=by
 induction k with
 | zero =>
  intro n h
  have:n=0:=by simpa using h
  subst this;rw[zjr];simp
 | succ k ih =>
  intro n h
  by_cases h0:n=0
  ·subst h0;rw[zjr];simp
  ·rw[zhs (by omega),List.length_append,List.length_singleton];have:=ih (n/27) (by rw[Nat.pow_succ]at h;omega);omega
structure Dg(n m:Nat)(ds:List Nat):Prop where
 eq:zpb n=zpb m++ds
 ok:∀ d∈ds,1<=d/\d<27
theorem Dg.start(n:Nat):Dg n n []:=⟨by simp,fun d h=>by cases h⟩
theorem Dg.step{n m:Nat}{ds:List Nat}(h:Dg n m ds)(hm:0<m)(h1:m%27≠0):Dg n (m/27) (m%27::ds) :=
 ⟨by rw[h.eq,zhs hm];simp,fun d hd=>by
  rcases List.mem_cons.1 hd with rfl | hd
  ·omega
  ·exact h.ok d hd⟩
theorem Dg.zero{n m:Nat}{ds:List Nat}(h:Dg n m ds)(hm:0<m)(h0:m%27=0):¬ ∀ d∈zpb n,1<=d:=fun x=>by
 have:=x (m%27) (by rw[h.eq,zhs hm];simp);omega
theorem Dg.many{n m:Nat}{ds:List Nat}(h:Dg n m ds)(hm:0<m):ds.length<(zpb n).length:=by
 rw[h.eq,zhs hm];simp;omega
theorem Dg.len{n m:Nat}{ds:List Nat}(h:Dg n m ds):ds.length<=(zpb n).length:=by rw[h.eq];simp
theorem Dg.done{n:Nat}{ds:List Nat}(h:Dg n 0 ds):zpb n=ds:=by rw[h.eq,zjr];simp
def nmB(s:ByteArray):Bool:=decide (1<=s.size/\s.size<=6/\∀ j (h:j<s.size),97<=s[j].toNat/\s[j].toNat<=122)
theorem zuk{s:ByteArray}(h:s.size<1):nmB s=false:=decide_eq_false (fun x=>by omega)
theorem zqw{s:ByteArray}(h:6<s.size):nmB s=false:=decide_eq_false (fun x=>by omega)
theorem zot{s:ByteArray}{k:Nat}(h:k<s.size)(hb:¬ (97<=s[k].toNat/\s[k].toNat<=122)):nmB s=false:=decide_eq_false (fun x=>hb (x.2.2 k h))
theorem zyq{s:ByteArray}(h0:1<=s.size)(h6:s.size<=6)(h:∀ j (h:j<s.size),97<=s[j].toNat/\s[j].toNat<=122):nmB s=true:=decide_eq_true ⟨h0,h6,h⟩
theorem zeq{s:ByteArray}(h:nmB s=true):1<=s.size/\s.size<=6/\∀ j (h:j<s.size),97<=s[j].toNat/\s[j].toNat<=122:=of_decide_eq_true h
def letD(b:UInt8):Nat:=b.toNat-96
def zwl(s:ByteArray):List Nat:=s.data.toList.map letD
def pk(s:ByteArray)(k:Nat):Nat:=val ((zwl s).take k)
theorem zgo(s:ByteArray):(zwl s).length=s.size:=by unfold zwl;rw[List.length_map,Array.length_toList];rfl
theorem zyw(s:ByteArray)(j:Nat)(h:j<s.size):(zwl s)[j]'(by rw[zgo];exact h)=s[j].toNat-96:=by
 simp only[zwl,List.getElem_map,letD,Array.getElem_toList];rfl
theorem zww(s:ByteArray):pk s 0=0:=by simp[pk,val]
theorem yaem(s:ByteArray)(k:Nat)(h:k<s.size):pk s (k+1)=27*pk s k+(s[k].toNat-96):=by
 unfold pk;rw[List.take_succ_eq_append_getElem (by rw[zgo];exact h),zml,zyw s k h]
theorem yarx{s:ByteArray}(h:nmB s=true):∀ d∈zwl s,1<=d/\d<27:=by
 intro d hd;obtain⟨i,hi,rfl⟩:=List.getElem_of_mem hd;rw[zgo]at hi;rw[zyw s i hi];have:=(zeq h).2.2 i hi;omega
theorem yats{s:ByteArray}:pk s s.size=val (zwl s):=by unfold pk;rw[<- zgo,List.take_length]
theorem yaqz{s:ByteArray}{k:Nat}(hl:∀ j (h:j<s.size),j<k->97<=s[j].toNat/\s[j].toNat<=122)(h6:k<=6):pk s k<387420489:=by
 have h1:pk s k<27 ^ ((zwl s).take k).length:=by
  unfold pk;apply yatb;intro d hd;obtain⟨i,hi,rfl⟩:=List.getElem_of_mem hd;simp only[List.length_take,zgo]at hi;rw[List.getElem_take,zyw s i (by omega)];have:=hl i (by omega) (by omega);omega
 have h2:((zwl s).take k).length<=6:=by simp only[List.length_take];omega
 have h3:27 ^ ((zwl s).take k).length<=27 ^ 6:=Nat.pow_le_pow_right (by omega) h2;omega
def zch(ds:List Nat):ByteArray:=⟨(ds.map fun d=>UInt8.ofNat (96+d)).toArray⟩
theorem zce(ds:List Nat):(zch ds).size=ds.length:=by simp[zch,ByteArray.size]
theorem yacf(ds:List Nat)(j:Nat)(h:j<(zch ds).size)(hd:∀ d∈ds,d<27):(zch ds)[j].toNat=96+ds[j]'(by rw[zce]at h;exact h):=by
 have hj:j<ds.length:=by rw[zce]at h;exact h
 have:=hd _ (List.getElem_mem hj)
 have e:(zch ds)[j]=UInt8.ofNat (96+ds[j]):=by
  have e1:(zch ds)[j]=((ds.map fun d=>UInt8.ofNat (96+d)).toArray)[j]'(by simpa using hj):=rfl;rw[e1,List.getElem_toArray,List.getElem_map]
 rw[e,UInt8.toNat_ofNat'];omega
theorem zup{s:ByteArray}(h:nmB s=true):zch (zwl s)=s:=by
 obtain⟨⟨l⟩⟩:=s;simp only[zch,zwl,List.map_map]
 congr 2
 have hh:=(zeq h).2.2;apply List.ext_getElem
 ·simp
 ·intro i h1 h2;simp only[List.getElem_map,Function.comp,letD];have:=hh i h2;have e:(ByteArray.mk ⟨l⟩)[i]'h2=l[i]'h2:=rfl;rw[e]at this
  have e2:96+(l[i].toNat-96)=l[i].toNat:=by omega
  rw[e2,UInt8.ofNat_toNat]
theorem zuz(d:Nat)(ds:List Nat):(⟨#[UInt8.ofNat (96+d)]⟩:ByteArray)++zch ds=zch (d::ds):=by
 apply ByteArray.ext;simp[zch]
theorem zxr{ds:List Nat}(hd:∀ d∈ds,1<=d/\d<27)(h1:1<=ds.length)(h6:ds.length<=6):nmB (zch ds)=true:=by
 refine zyq (by rw[zce];exact h1) (by rw[zce];exact h6) (fun j h=>?_);rw[yacf ds j h (fun d x=>(hd d x).2)];have:=hd _ (List.getElem_mem (by rw[zce]at h;exact h));omega
def zfs(n:Int):Bool:=decide (0<n/\(∀ d∈zpb n.toNat,1<=d)/\(zpb n.toNat).length<=6)
def zte(n:Int):ByteArray:=if zfs n=true then zch (zpb n.toNat) else⟨#[]⟩
def unpC(n:Int):Int:=if zfs n=true then 0 else 3
def zkp(s:ByteArray):Int:=if nmB s=true then(pk s s.size:Nat)else 0
def zpc(s:ByteArray):Int:=if 65536<s.size then 2 else if nmB s=true then 0 else 12
theorem zzc{n:Int}(h:zfs n=false):zte n=⟨#[]⟩/\unpC n=3:=by unfold zte unpC;rw[h];exact⟨rfl,rfl⟩
theorem zxq{n:Int}(h:¬ 0<n):zfs n=false:=decide_eq_false (fun x=>h x.1)
theorem yaau{n:Nat}{m:Nat}{ds:List Nat}(h:Dg n m ds)(hm:0<m)(h0:m%27=0):zfs (n:Int)=false:=decide_eq_false (fun x=>h.zero hm h0 x.2.1)
theorem yamc{n:Nat}{m:Nat}{ds:List Nat}(h:Dg n m ds)(hm:0<m)(h6:6<=ds.length):zfs (n:Int)=false:=decide_eq_false (fun x=>by have:=h.many hm;have:=x.2.2;simp only[Int.toNat_natCast]at this;omega)
theorem yamo{n:Nat}{ds:List Nat}(h:Dg n 0 ds)(hn:0<n)(h6:ds.length<=6):zte (n:Int)=zch ds/\unpC (n:Int)=0:=by
 have g:zfs (n:Int)=true:=decide_eq_true ⟨by omega,by rw[Int.toNat_natCast,h.done];exact fun d x=>(h.ok d x).1,by rw[Int.toNat_natCast,h.done];exact h6⟩;unfold zte unpC;rw[if_pos g,if_pos g,Int.toNat_natCast,h.done];exact⟨rfl,rfl⟩
theorem yako{s:ByteArray}(h:nmB s=true):zfs (zkp s)=true/\zte (zkp s)=s:=by
 have e:zkp s=((val (zwl s):Nat):Int):=by unfold zkp;rw[if_pos h,yats]
 have hl:=yarx h;have hd:zpb (val (zwl s))=zwl s:=yaop _ hl;have hn:=zeq h
 have hne:zwl s≠[]:=by intro x;have:=zgo s;rw[x]at this;simp at this;omega
 have hp:=yara hl hne
 have g:zfs (zkp s)=true:=by
  rw[e];refine decide_eq_true ⟨by omega,?_,?_⟩
  ·rw[Int.toNat_natCast,hd];exact fun d x=>(hl d x).1
  ·rw[Int.toNat_natCast,hd,zgo];exact hn.2.1
 refine⟨g,?_⟩;unfold zte;rw[if_pos g,e,Int.toNat_natCast,hd,zup h]
end Go.Proofs.YtogcbbkhnpmgeaaGreatDoor

namespace Go.Proofs.YtogcbbkhnpmgeaaGreatDoor
open Go.RowKit
theorem yabh{a b:ByteArray}{c d:Int}(h:a=b)(k:c=d):Ending.returned (.tuple #[.string a,.I c])=.returned (.tuple #[.string b,.I d]):=by rw[h,k]
theorem yapr{a b:ByteArray}{c d:Bool}(h:a=b)(k:c=d):Ending.returned (.tuple #[.string a,.bool c])=.returned (.tuple #[.string b,.bool d]):=by rw[h,k]
theorem yabr(n:Int)(w:World)(h:1<=n/\n<=6):zC 75 #[.I n,.I 1,.I 6] w fun e w'=>e=.returned (.bool true)/\w'=w:=by
 obtain⟨h1,h2⟩:=h;go_enter Tryz.func75,Tryz.ntmps75;go_wp2;go_ret;exact⟨rfl,rfl⟩
theorem yahn(n:Int)(w:World)(h:¬ (1<=n/\n<=6)):zC 75 #[.I n,.I 1,.I 6] w fun e w'=>e=.returned (.bool false)/\w'=w:=by
 rcases(show ¬ 1<=n\/(1<=n/\¬ n<=6) by omega)with h1 | ⟨h1,h2⟩
 all_goals
  clear h;go_enter Tryz.func75,Tryz.ntmps75;go_wp2;go_ret;exact⟨rfl,rfl⟩
theorem zee(s:ByteArray)(w:World)(hs:s.size<=maxLen):zC 155 #[.string s] w fun e w'=>e=.returned (.bool (nmB s))/\w'=w:=by
 unfold maxLen at hs
 by_cases c:1<=s.size/\s.size<=6
 ·have c':1<=(s.size:Int)/\(s.size:Int)<=6:=by omega
  have C:=zaa c';obtain⟨c1,c2⟩:=c;clear c';go_enter Tryz.func155,Tryz.ntmps155;go_wp2_with (go_at_call 75;refine(yabr _ _ C.o).mono ?_;rintro e w' ⟨rfl,rfl⟩)
  go_loop [3] (fun i=>∃ k:Nat,k<=s.size/\i=.I k/\Hid (∀ j (h:j<s.size),j<k->97<=s[j].toNat/\s[j].toNat<=122)) (fun i=>s.size-(intOf i).toNat)
  case atStart=>exact⟨0,by omega,rfl,fun j h b=>absurd b (by omega)⟩
  case round =>
   obtain⟨k,hk,rfl,H⟩:=hrel
   by_cases hlt:k<s.size
   ·rcases(show((s[k].toNat:Int)<97)\/(¬ ((s[k].toNat:Int)<97)/\(122:Int)<(s[k].toNat:Int))\/(¬ ((s[k].toNat:Int)<97)/\¬ (122:Int)<(s[k].toNat:Int)) by omega)with d | ⟨d,d'⟩ | ⟨d,d'⟩
    ·have E:=zaa (zot hlt (by omega));go_wp2;go_ret;exact⟨zag E.o.symm,rfl⟩
    ·have E:=zaa (zot hlt (by omega));go_wp2;go_ret;exact⟨zag E.o.symm,rfl⟩
    ·go_wp2
     go_round
     case rel =>
      refine⟨k+1,by omega,by go_num,fun j h b=>?_⟩
      by_cases e:j=k
      ·subst e;omega
      ·exact H.o j h (by omega)
     case measure=>simp[intOf];omega
   ·have E:=zaa (zyq c1 c2 (fun j h=>H.o j h (by omega)));go_wp2;go_ret;exact⟨zag E.o.symm,rfl⟩
 ·have c':¬ (1<=(s.size:Int)/\(s.size:Int)<=6):=by omega
  have C:=zaa c';have E:=zaa (show nmB s=false from decide_eq_false (fun x=>c ⟨x.1,x.2.1⟩));clear c c';go_enter Tryz.func155,Tryz.ntmps155;go_wp2_with (go_at_call 75;refine(yahn _ _ C.o).mono ?_;rintro e w' ⟨rfl,rfl⟩);go_ret;exact⟨zag E.o.symm,rfl⟩
theorem yaiv{s:ByteArray}(h:65536<s.size):zkp s=0/\zpc s=2:=by
 unfold zkp zpc;rw[if_neg (by rw[zqw (by omega)];simp),if_pos h];exact⟨rfl,rfl⟩
theorem zmj{s:ByteArray}(h:¬ 65536<s.size)(h2:nmB s=false):zkp s=0/\zpc s=12:=by
 unfold zkp zpc;rw[h2,if_neg h];exact⟨rfl,rfl⟩
theorem zzj{s:ByteArray}(h:nmB s=true):zkp s=((pk s s.size:Nat):Int)/\zpc s=0:=by
 unfold zkp zpc;have:=(zeq h).2.1;rw[if_pos h,if_neg (by omega),if_pos h];exact⟨rfl,rfl⟩
theorem zlt(s:ByteArray)(w:World)(hs:s.size<=maxLen):zC 213 #[.string s] w fun e w'=>e=.returned (.tuple #[.I (zkp s),.I (zpc s)])/\zB w w':=by
 unfold maxLen at hs
 by_cases c0:65536<s.size
 ·have E:=zaa (yaiv c0);go_enter Tryz.func213,Tryz.ntmps213;go_wp2;go_ret2;exact⟨zdh E.o.1.symm E.o.2.symm,zR⟩
 by_cases c1:s.size<1
 ·have E:=zaa (zmj c0 (zuk c1));go_enter Tryz.func213,Tryz.ntmps213;go_wp2;go_ret2;exact⟨zdh E.o.1.symm E.o.2.symm,zR⟩
 by_cases c2:6<s.size
 ·have E:=zaa (zmj c0 (zqw c2));go_enter Tryz.func213,Tryz.ntmps213;go_wp2;go_ret2;exact⟨zdh E.o.1.symm E.o.2.symm,zR⟩
 have hconv:=run_bytes_of_string (P:=Tryz.prog) w 9 22 5 s Tryz.underlying9 Tryz.underlying22 Tryz.underlying5;generalize hcap:grownCap w s.size 0 5=cap at hconv
 have CELL:Hid (∀ k (h:k<s.size),(w.drew.alloc (.cells (bytesRow s cap) 5 ((bytesRow s cap).size,(bytesRow s cap).size+1))).cell? ⟨w.heap.size,k,none⟩=some (.int .u8 (s[k].toNat:Int))):=fun k h=>by
  have e:=World.cell?_alloc_mark w.drew (bytesRow s cap) 5 ((bytesRow s cap).size,(bytesRow s cap).size+1) k;rw[bytesRow_at s cap k h]at e;exact e
 have BB:Hid (zB w (w.drew.alloc (.cells (bytesRow s cap) 5 ((bytesRow s cap).size,(bytesRow s cap).size+1)))):=(zR.drew).alloc zL _;clear hcap;generalize w.drew.alloc (.cells (bytesRow s cap) 5 ((bytesRow s cap).size,(bytesRow s cap).size+1))=w1 at hconv CELL BB;go_enter Tryz.func213,Tryz.ntmps213;go_wp2
 go_loop [4,6,21] (fun n _ i=>∃ k:Nat,k<=s.size/\i=.I k/\n=.I ((pk s k:Nat):Int)/\Hid (∀ j (h:j<s.size),j<k->97<=s[j].toNat/\s[j].toNat<=122)) (fun _ _ i=>s.size-(intOf i).toNat)
 case atStart=>exact⟨0,by omega,rfl,by rw[zww];rfl,fun j h b=>absurd b (by omega)⟩
 case round =>
  obtain⟨k,hk,rfl,rfl,H⟩:=hrel
  by_cases hlt:k<s.size
  ·have x0:=CELL.o k hlt;have bd:pk s k<387420489:=yaqz H.o (by omega);have SU:=zaa (yaem s k hlt);have b255:s[k].toNat<256:=s[k].toNat_lt;have NO:=zaa (zot (s:=s) hlt)
   have NX:Hid (97<=s[k].toNat/\s[k].toNat<=122->∀ j (h:j<s.size),j<k+1->97<=s[j].toNat/\s[j].toNat<=122):=fun hx j h b=>by
    by_cases e:j=k
    ·subst e;exact hx
    ·exact H.o j h (by omega)
   generalize s[k].toNat=x at x0 SU b255 NO NX
   rcases(show((x:Int)<97)\/(¬ ((x:Int)<97)/\(122:Int)<(x:Int))\/(¬ ((x:Int)<97)/\¬ (122:Int)<(x:Int)) by omega)with d | ⟨d,d'⟩ | ⟨d,d'⟩
   ·have E:=zaa (zmj c0 (NO.o (by omega)));go_wp2;go_ret2;exact⟨zdh E.o.1.symm E.o.2.symm,BB.o⟩
   ·have E:=zaa (zmj c0 (NO.o (by omega)));go_wp2;go_ret2;exact⟨zdh E.o.1.symm E.o.2.symm,BB.o⟩
   ·go_wp2
    go_round
    case rel=>exact⟨k+1,by omega,by go_num,by rw[SU.o];congr 1;omega,NX.o (by omega)⟩
    case measure=>simp[intOf];omega
  ·have ek:k=s.size:=by omega
   subst ek;have E:=zaa (zzj (zyq (s:=s) (by omega) (by omega) (fun j h=>H.o j h h)));go_wp2;go_ret2;exact⟨zdh E.o.1.symm E.o.2.symm,BB.o⟩
theorem zxa(s:ByteArray)(w:World)(hs:nmB s=true):zC 237 #[.string s] w fun e w'=>e=.returned (.I ((pk s s.size:Nat):Int))/\w'=w:=by
 have N:=zaa (zeq hs);have h6:s.size<=6:=(zeq hs).2.1;clear hs;go_enter Tryz.func237,Tryz.ntmps237;go_wp2
 go_loop [3,4] (fun n i=>∃ k:Nat,k<=s.size/\i=.I k/\n=.I ((pk s k:Nat):Int)) (fun _ i=>s.size-(intOf i).toNat)
 case atStart=>exact⟨0,by omega,rfl,by rw[zww];rfl⟩
 case round =>
  obtain⟨k,hk,rfl,rfl⟩:=hrel
  by_cases hlt:k<s.size
  ·have bd:pk s k<387420489:=yaqz (fun j h _=>N.o.2.2 j h) (by omega);have SU:=zaa (yaem s k hlt);have b1:=N.o.2.2 k hlt;go_wp2
   go_round
   case rel=>exact⟨k+1,by omega,by go_num,by rw[SU.o];congr 1;omega⟩
   case measure=>simp[intOf];omega
  ·have ek:k=s.size:=by omega
   subst ek;go_wp2;go_ret;exact⟨rfl,rfl⟩
theorem zmo(w:World)(t:TypeId)(size:Nat):Row (w.alloc (.cells #[] t)) t size w.heap.size (w.alloc (.cells #[] t)).heap.size (.slice (some ⟨w.heap.size,0,none⟩) 0 0) 0 [] :=
 zad (World.ownsRow_lit w #[] 0 zL (by simp[maxLen]) (by simp))
theorem Ino.all{x:Ino}{w':World}{b:Nat}(h:∀ j,w'.cell? ⟨b,j,none⟩=x.cs[j]?):w'.cell? ⟨b,0,none⟩=some (.I x.kind)/\w'.cell? ⟨b,1,none⟩=some (.I x.size)/\w'.cell? ⟨b,2,none⟩=some (.I x.links)/\w'.cell? ⟨b,3,none⟩=some (.I x.m0)/\w'.cell? ⟨b,4,none⟩=some (.I x.m1)/\w'.cell? ⟨b,5,none⟩=some (.I x.m2)/\w'.cell? ⟨b,6,none⟩=some (.I x.m3)/\w'.cell? ⟨b,7,none⟩=some (.I x.m4)/\w'.cell? ⟨b,8,none⟩=some (.I x.m5)/\w'.cell? ⟨b,9,none⟩=some (.I x.m6)/\w'.cell? ⟨b,10,none⟩=some (.I x.m7):=⟨h 0,h 1,h 2,h 3,h 4,h 5,h 6,h 7,h 8,h 9,h 10⟩
def inos(ps:List Ino):List Value:=ps.flatMap Ino.cs
theorem Ino.cs_len(x:Ino):x.cs.length=11:=rfl
theorem zfc(ps:List Ino)(k i:Nat)(h:k<ps.length)(hi:i<11):(inos ps)[k*11+i]?=ps[k].cs[i]?:=(zbh _ 11 Ino.cs_len ps k i h hi).trans (by rw[List.getElem?_eq_getElem (show i<ps[k].cs.length by rw[Ino.cs_len];exact hi)])
def RdN(w:World)(v:Value)(ps:List Ino):Prop:=Rd w 11 v ps.length (inos ps)
theorem RdN.shape{w:World}{v:Value}{ps:List Ino}(h:RdN w v ps):∃ ao cap,v=.slice ao ps.length cap/\ps.length<=cap/\(0<ps.length->∃ b o,ao=some ⟨b,o,none⟩/\b<w.heap.size /\
  ∀ k (h:k<ps.length),w.cell? ⟨b,o+k*11,none⟩=some (.I ps[k].kind)/\w.cell? ⟨b,o+k*11+1,none⟩=some (.I ps[k].size)/\w.cell? ⟨b,o+k*11+2,none⟩=some (.I ps[k].links)/\w.cell? ⟨b,o+k*11+3,none⟩=some (.I ps[k].m0)/\w.cell? ⟨b,o+k*11+4,none⟩=some (.I ps[k].m1)/\w.cell? ⟨b,o+k*11+5,none⟩=some (.I ps[k].m2)/\w.cell? ⟨b,o+k*11+6,none⟩=some (.I ps[k].m3)/\w.cell? ⟨b,o+k*11+7,none⟩=some (.I ps[k].m4)/\w.cell? ⟨b,o+k*11+8,none⟩=some (.I ps[k].m5)/\w.cell? ⟨b,o+k*11+9,none⟩=some (.I ps[k].m6)/\w.cell? ⟨b,o+k*11+10,none⟩=some (.I ps[k].m7)):=by
 obtain⟨_,ao,cap,rfl,h2,h3⟩:=h;refine⟨ao,cap,rfl,h2.1,fun hn=>?_⟩;obtain⟨b,o,rfl,hb,hc⟩:=h3 hn;exact⟨b,o,rfl,hb,fun k hk=>⟨(hc (k*11) (by omega)).trans (zfc ps k 0 hk (by omega)),(hc (k*11+1) (by omega)).trans (zfc ps k 1 hk (by omega)),(hc (k*11+2) (by omega)).trans (zfc ps k 2 hk (by omega)),(hc (k*11+3) (by omega)).trans (zfc ps k 3 hk (by omega)),(hc (k*11+4) (by omega)).trans (zfc ps k 4 hk (by omega)),(hc (k*11+5) (by omega)).trans (zfc ps k 5 hk (by omega)),(hc (k*11+6) (by omega)).trans (zfc ps k 6 hk (by omega)),(hc (k*11+7) (by omega)).trans (zfc ps k 7 hk (by omega)),(hc (k*11+8) (by omega)).trans (zfc ps k 8 hk (by omega)),(hc (k*11+9) (by omega)).trans (zfc ps k 9 hk (by omega)),(hc (k*11+10) (by omega)).trans (zfc ps k 10 hk (by omega))⟩⟩
theorem yait:(Tryz.prog.info? 87).map (fun i=>(i.zero,i.size,i.bytes))=some (some (.agg #[.I 0,.I 0,.I 0,.I 0,.I 0,.I 0,.I 0,.I 0,.I 0,.I 0,.I 0]),11,88):=by kernel_rfl
structure St where
 at_:Int
 val:Int
 fl:Bool
deriving DecidableEq
def St.cells(s:St):List Value:=[.I s.at_,.I s.val,.bool s.fl]
def sts(ps:List St):List Value:=ps.flatMap St.cells
theorem St.cells_len(s:St):s.cells.length=3:=rfl
theorem zwu(ps:List St):(sts ps).length=ps.length*3:=zov _ 3 St.cells_len ps
theorem zmx(ps:List St)(k:Nat)(h:k<ps.length):(sts ps)[k*3]?=some (.I ps[k].at_):=zbh _ 3 St.cells_len ps k 0 h (by omega)
theorem yagd(ps:List St)(k:Nat)(h:k<ps.length):(sts ps)[k*3+1]?=some (.I ps[k].val):=zbh _ 3 St.cells_len ps k 1 h (by omega)
theorem zya(ps:List St)(k:Nat)(h:k<ps.length):(sts ps)[k*3+2]?=some (.bool ps[k].fl):=zbh _ 3 St.cells_len ps k 2 h (by omega)
def RdS(w:World)(v:Value)(ps:List St):Prop:=Rd w 3 v ps.length (sts ps)
theorem RdS.shape{w:World}{v:Value}{ps:List St}(h:RdS w v ps):∃ ao cap,v=.slice ao ps.length cap/\ps.length<=cap/\(0<ps.length->∃ b o,ao=some ⟨b,o,none⟩/\b<w.heap.size /\
  ∀ k (h:k<ps.length),w.cell? ⟨b,o+k*3,none⟩=some (.I ps[k].at_)/\w.cell? ⟨b,o+k*3+1,none⟩=some (.I ps[k].val)/\w.cell? ⟨b,o+k*3+2,none⟩=some (.bool ps[k].fl)):=by
 obtain⟨_,ao,cap,rfl,h2,h3⟩:=h;refine⟨ao,cap,rfl,h2.1,fun hn=>?_⟩;obtain⟨b,o,rfl,hb,hc⟩:=h3 hn;exact⟨b,o,rfl,hb,fun k hk=>⟨(hc (k*3) (by omega)).trans (zmx ps k hk),(hc (k*3+1) (by omega)).trans (yagd ps k hk),(hc (k*3+2) (by omega)).trans (zya ps k hk)⟩⟩
theorem zpy:(Tryz.prog.info? 138).map (fun i=>(i.zero,i.size,i.bytes))=some (some (.agg #[.I 0,.I 0,.bool false]),3,24):=by kernel_rfl
structure Den where
 dir:Int
 name:ByteArray
 child:Int
def Den.v(x:Den):Value:=.agg #[.I x.dir,.string x.name,.I x.child]
def Den.freeB(x:Den):Bool:=x.dir == 0&&(x.name.size == 0&&x.child == -1)
def Den.okB(x:Den):Bool:=x.freeB||(decide (1<=x.child/\x.child<=15)&&(decide (0<=x.dir/\x.dir<=15)&&nmB x.name))
def enL(k:Int)(x:Den):List Se:=[⟨240+3*k,x.dir⟩,⟨240+3*k+1,((pk x.name x.name.size:Nat):Int)⟩,⟨240+3*k+2,x.child+1⟩]
theorem zwh(s:ByteArray)(w:World)(hs:s.size=0):zC 237 #[.string s] w fun e w'=>e=.returned (.I ((pk s s.size:Nat):Int))/\w'=w:=by
 have E:=zaa (show((pk s s.size:Nat):Int)=0 by rw[hs,zww];rfl);rw[E.o];go_enter Tryz.func237,Tryz.ntmps237;go_wp2
 go_loop [3,4] (fun n i=>i=.I 0/\n=.I 0) (fun _ i=>0)
 case atStart=>exact⟨rfl,rfl⟩
 case round =>
  obtain⟨rfl,rfl⟩:=hrel;go_wp2;go_ret;exact⟨rfl,rfl⟩
theorem zfm(k:Int)(x:Den)(w:World)(hk:0<=k/\k<24)(hc:-1<=x.child/\x.child<=15)(hn:x.name.size=0\/nmB x.name=true) :
  zC 202 #[.I k,x.v] w fun e w'=>∃ v',e=.returned v'/\Row w' 104 2 w.heap.size w'.heap.size v' (enL k x).length (ses (enL k x))/\zB w w':=by
 have LP:=zaa (fun w1=>show zC 237 #[.string x.name] w1 fun e w'=>e=.returned (.I ((pk x.name x.name.size:Nat):Int))/\w'=w1 by
  rcases hn with h | h
  ·exact zwh _ _ h
  ·exact zxa _ _ h)
 clear hn;have EL:=zaa (show enL k x=[⟨240+3*k,x.dir⟩,⟨240+3*k+1,((pk x.name x.name.size:Nat):Int)⟩,⟨240+3*k+2,x.child+1⟩]from rfl);generalize ((pk x.name x.name.size:Nat):Int)=p at LP EL
 obtain⟨W,hW⟩:=zE (w.alloc (.cells #[.I x.dir,.string x.name,.I x.child] 90))
 have SK:Hid (∀ w',zB W w'->w'.cell? ⟨w.heap.size,0,none⟩=some (.I x.dir)/\w'.cell? ⟨w.heap.size,1,none⟩=some (.string x.name)/\w'.cell? ⟨w.heap.size,2,none⟩=some (.I x.child)):=fun w' hb=>by
  have:w'.heap[w.heap.size]?=some (.cells #[.I x.dir,.string x.name,.I x.child] 90 (0,0)):=(hb.block _ (by rw[hW];simp)).trans (by rw[hW];exact zah rfl);exact zba this
 have BW:Hid (zB w W):=by rw[hW];exact zR.alloc zL _
 have hz:w.heap.size<=W.heap.size:=BW.o.size;unfold Den.v;go_enter Tryz.func202,Tryz.ntmps202;go_wp2_with fail;rw[<- hW];clear hW
 go_region_held3 (fun w'=>w'.cell? ⟨w.heap.size,0,none⟩=some (.I x.dir)/\w'.cell? ⟨w.heap.size,1,none⟩=some (.string x.name)/\w'.cell? ⟨w.heap.size,2,none⟩=some (.I x.child))
  (exact SK.o _ (by repeat (first | exact zR | refine Below.drew ?_ | refine Below.alloc ?_ (by simp) _)))
  (first | (go_at_call 161;refine(zdu _ _ _ hk (by omega)).mono ?_;rintro e w' ⟨rfl,hw'⟩;subst w') | (go_at_call 237;refine(LP.o _).mono ?_;rintro e w' ⟨rfl,hw'⟩;subst w'))
 have wp1:IntKind.i64.wrap (x.child+1)=x.child+1:=by rw[IntKind.wrap_i64];omega
 rw[wp1]
 have R:Hid (UpI W (W.alloc (.cells #[.I (240+3*k),.I x.dir,.I (240+3*k+1),.I p,.I (240+3*k+2),.I (x.child+1)] 104)).drew (.slice (some ⟨W.heap.size,0,none⟩) 3 3) (enL k x)):=by
  show UpI _ _ _ _
  rw[EL.o];exact UpI.below (w:=W.alloc (.cells #[.I (240+3*k),.I x.dir,.I (240+3*k+1),.I p,.I (240+3*k+2),.I (x.child+1)] 104)) ⟨World.ownsRow_lit W _ 3 zL (by simp[maxLen]) rfl,zR.alloc zL _⟩ (zR.drew)
 go_wp2;go_ret;exact⟨_,rfl,(zad R.o.l).wide hz zL,zab BW.o R.o.b hz⟩
theorem yaki(s:ByteArray):s.toList=[]↔s.size=0:=by
 rw[ByteArray.toList_eq];obtain⟨⟨x⟩⟩:=s
 show x=[]↔x.length=0
 exact List.length_eq_zero_iff.symm
def Den.cells(s:Den):List Value:=[.I s.dir,.string s.name,.I s.child]
def dens(ps:List Den):List Value:=ps.flatMap Den.cells
theorem Den.cells_len(s:Den):s.cells.length=3:=rfl
theorem zzq(ps:List Den):(dens ps).length=ps.length*3:=zov _ 3 Den.cells_len ps
theorem yamn(ps:List Den)(k:Nat)(h:k<ps.length):(dens ps)[k*3]?=some (.I ps[k].dir):=zbh _ 3 Den.cells_len ps k 0 h (by omega)
theorem yaky(ps:List Den)(k:Nat)(h:k<ps.length):(dens ps)[k*3+1]?=some (.string ps[k].name):=zbh _ 3 Den.cells_len ps k 1 h (by omega)
theorem yaof(ps:List Den)(k:Nat)(h:k<ps.length):(dens ps)[k*3+2]?=some (.I ps[k].child):=zbh _ 3 Den.cells_len ps k 2 h (by omega)
def RdD(w:World)(v:Value)(ps:List Den):Prop:=Rd w 3 v ps.length (dens ps)
theorem RdD.shape{w:World}{v:Value}{ps:List Den}(h:RdD w v ps):∃ ao cap,v=.slice ao ps.length cap/\ps.length<=cap/\(0<ps.length->∃ b o,ao=some ⟨b,o,none⟩/\b<w.heap.size /\
  ∀ k (h:k<ps.length),w.cell? ⟨b,o+k*3,none⟩=some (.I ps[k].dir)/\w.cell? ⟨b,o+k*3+1,none⟩=some (.string ps[k].name)/\w.cell? ⟨b,o+k*3+2,none⟩=some (.I ps[k].child)):=by
 obtain⟨_,ao,cap,rfl,h2,h3⟩:=h;refine⟨ao,cap,rfl,h2.1,fun hn=>?_⟩;obtain⟨b,o,rfl,hb,hc⟩:=h3 hn;exact⟨b,o,rfl,hb,fun k hk=>⟨(hc (k*3) (by omega)).trans (yamn ps k hk),(hc (k*3+1) (by omega)).trans (yaky ps k hk),(hc (k*3+2) (by omega)).trans (yaof ps k hk)⟩⟩
theorem zmy:(Tryz.prog.info? 90).map (fun i=>(i.zero,i.size,i.bytes))=some (some (.agg #[.I 0,.string ⟨#[]⟩,.I 0]),3,32):=by kernel_rfl
end Go.Proofs.YtogcbbkhnpmgeaaGreatDoor
