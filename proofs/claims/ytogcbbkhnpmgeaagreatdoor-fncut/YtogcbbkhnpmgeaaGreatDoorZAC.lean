import Derived.Laws.IdiomStrings
import Derived.Laws.BytesArg
import Derived.Test.YtogcbbkhnpmgeaaGreatDoorZAB
set_option maxRecDepth 100000
set_option maxHeartbeats 4000000
namespace Go.Proofs.YtogcbbkhnpmgeaaGreatDoor
def zpa(n:Nat):List Nat:=if _h:n=0 then[]else zpa (n/27)++[n%27]
termination_by n
decreasing_by omega
theorem zkd:zpa 0=[]:=by rw[zpa];simp
theorem zhv{n:Nat}(h:0<n):zpa n=zpa (n/27)++[n%27]:=by rw[zpa];simp[show n≠0 by omega]
def val(ds:List Nat):Nat:=ds.foldl (fun a d=>27*a+d) 0
theorem zly(ds:List Nat)(d:Nat):val (ds++[d])=27*val ds+d:=by simp[val]
theorem yaiw{n:Nat}(h:0<n):1<=(zpa n).length:=by rw[zhv h];simp
theorem yabc{α:Type}{P:List α->Prop}(h0:P [])(h1:∀ l x,P l->P (l++[x])):∀ l,P l:=by
 intro l
 have:∀ n (l:List α),l.length=n->P l:=by
  intro n
  induction n with
  | zero=>intro l hl;rw[List.length_eq_zero_iff.1 hl];exact h0
  | succ n ih =>
   intro l hl
   have hne:l≠[]:=by intro h;subst h;simp at hl
   rw[<- List.dropLast_concat_getLast hne];exact h1 _ _ (ih _ (by simp[hl]))
 exact this _ l rfl
theorem yasi{ds:List Nat}(h:∀ d∈ds,1<=d/\d<27)(hn:ds≠[]):0<val ds:=by
 rw[<- List.dropLast_concat_getLast hn,zly];have:=(h _ (List.getLast_mem hn)).1;omega
theorem yaor(ds:List Nat):(∀ d∈ds,1<=d/\d<27)->zpa (val ds)=ds:=by
 refine yabc (P:=fun ds=>(∀ d∈ds,1<=d/\d<27)->zpa (val ds)=ds) (fun _=>zkd) (fun l x ih h=>?_) ds;have hx:=h x (by simp);rw[zly,zhv (by omega),show(27*val l+x)/27=val l by omega,show(27*val l+x)%27=x by omega,ih (fun d hd=>h d (by simp[hd]))]
theorem yauq(ds:List Nat):(∀ d∈ds,d<27)->val ds<27 ^ ds.length:=by
 refine yabc (P:=fun ds=>(∀ d∈ds,d<27)->val ds<27 ^ ds.length) (fun _=>by simp[val]) (fun l x ih h=>?_) ds;have hx:=h x (by simp);have:=ih (fun d hd=>h d (by simp[hd]));rw[zly,List.length_append,List.length_singleton,Nat.pow_succ];omega
theorem yalu(k:Nat):∀ n,n<27 ^ k->(zpa n).length<=k:=by
 induction k with
 | zero =>
  intro n h
  have:n=0:=by simpa using h
  subst this;rw[zkd];simp
 | succ k ih =>
  intro n h
  by_cases h0:n=0
  ·subst h0;rw[zkd];simp
  ·rw[zhv (by omega),List.length_append,List.length_singleton];have:=ih (n/27) (by rw[Nat.pow_succ]at h;omega);omega
structure Dg(n m:Nat)(ds:List Nat):Prop where
 eq:zpa n=zpa m++ds
 ok:∀ d∈ds,1<=d/\d<27
theorem Dg.start(n:Nat):Dg n n []:=⟨by simp,fun d h=>by cases h⟩
theorem Dg.step{n m:Nat}{ds:List Nat}(h:Dg n m ds)(hm:0<m)(h1:m%27≠0):Dg n (m/27) (m%27::ds) :=
 ⟨by rw[h.eq,zhv hm];simp,fun d hd=>by
  rcases List.mem_cons.1 hd with rfl | hd
  ·omega
  ·exact h.ok d hd⟩
theorem Dg.zero{n m:Nat}{ds:List Nat}(h:Dg n m ds)(hm:0<m)(h0:m%27=0):¬ ∀ d∈zpa n,1<=d:=fun x=>by
 have:=x (m%27) (by rw[h.eq,zhv hm];simp);omega
theorem Dg.many{n m:Nat}{ds:List Nat}(h:Dg n m ds)(hm:0<m):ds.length<(zpa n).length:=by
 rw[h.eq,zhv hm];simp;omega
theorem Dg.len{n m:Nat}{ds:List Nat}(h:Dg n m ds):ds.length<=(zpa n).length:=by rw[h.eq];simp
theorem Dg.done{n:Nat}{ds:List Nat}(h:Dg n 0 ds):zpa n=ds:=by rw[h.eq,zkd];simp
def nmB(s:ByteArray):Bool:=decide (1<=s.size/\s.size<=6/\∀ j (h:j<s.size),97<=s[j].toNat/\s[j].toNat<=122)
theorem zwj{s:ByteArray}(h:s.size<1):nmB s=false:=decide_eq_false (fun x=>by omega)
theorem zrp{s:ByteArray}(h:6<s.size):nmB s=false:=decide_eq_false (fun x=>by omega)
theorem zod{s:ByteArray}{k:Nat}(h:k<s.size)(hb:¬ (97<=s[k].toNat/\s[k].toNat<=122)):nmB s=false:=decide_eq_false (fun x=>hb (x.2.2 k h))
theorem zxq{s:ByteArray}(h0:1<=s.size)(h6:s.size<=6)(h:∀ j (h:j<s.size),97<=s[j].toNat/\s[j].toNat<=122):nmB s=true:=decide_eq_true ⟨h0,h6,h⟩
theorem zex{s:ByteArray}(h:nmB s=true):1<=s.size/\s.size<=6/\∀ j (h:j<s.size),97<=s[j].toNat/\s[j].toNat<=122:=of_decide_eq_true h
def letD(b:UInt8):Nat:=b.toNat-96
def zwn(s:ByteArray):List Nat:=s.data.toList.map letD
def pk(s:ByteArray)(k:Nat):Nat:=val ((zwn s).take k)
theorem zgi(s:ByteArray):(zwn s).length=s.size:=by unfold zwn;rw[List.length_map,Array.length_toList];rfl
theorem zwu(s:ByteArray)(j:Nat)(h:j<s.size):(zwn s)[j]'(by rw[zgi];exact h)=s[j].toNat-96:=by
 simp only[zwn,List.getElem_map,letD,Array.getElem_toList];rfl
theorem zyb(s:ByteArray):pk s 0=0:=by simp[pk,val]
theorem yain(s:ByteArray)(k:Nat)(h:k<s.size):pk s (k+1)=27*pk s k+(s[k].toNat-96):=by
 unfold pk;rw[List.take_succ_eq_append_getElem (by rw[zgi];exact h),zly,zwu s k h]
theorem yaqv{s:ByteArray}(h:nmB s=true):∀ d∈zwn s,1<=d/\d<27:=by
 intro d hd;obtain⟨i,hi,rfl⟩:=List.getElem_of_mem hd;rw[zgi]at hi;rw[zwu s i hi];have:=(zex h).2.2 i hi;omega
theorem yata{s:ByteArray}:pk s s.size=val (zwn s):=by unfold pk;rw[<- zgi,List.take_length]
theorem yaqp{s:ByteArray}{k:Nat}(hl:∀ j (h:j<s.size),j<k->97<=s[j].toNat/\s[j].toNat<=122)(h6:k<=6):pk s k<387420489:=by
 have h1:pk s k<27 ^ ((zwn s).take k).length:=by
  unfold pk;apply yauq;intro d hd;obtain⟨i,hi,rfl⟩:=List.getElem_of_mem hd;simp only[List.length_take,zgi]at hi;rw[List.getElem_take,zwu s i (by omega)];have:=hl i (by omega) (by omega);omega
 have h2:((zwn s).take k).length<=6:=by simp only[List.length_take];omega
 have h3:27 ^ ((zwn s).take k).length<=27 ^ 6:=Nat.pow_le_pow_right (by omega) h2;omega
def zci(ds:List Nat):ByteArray:=⟨(ds.map fun d=>UInt8.ofNat (96+d)).toArray⟩
theorem zcf(ds:List Nat):(zci ds).size=ds.length:=by simp[zci,ByteArray.size]
theorem yack(ds:List Nat)(j:Nat)(h:j<(zci ds).size)(hd:∀ d∈ds,d<27):(zci ds)[j].toNat=96+ds[j]'(by rw[zcf]at h;exact h):=by
 have hj:j<ds.length:=by rw[zcf]at h;exact h
 have:=hd _ (List.getElem_mem hj)
 have e:(zci ds)[j]=UInt8.ofNat (96+ds[j]):=by
  have e1:(zci ds)[j]=((ds.map fun d=>UInt8.ofNat (96+d)).toArray)[j]'(by simpa using hj):=rfl;rw[e1,List.getElem_toArray,List.getElem_map]
 rw[e,UInt8.toNat_ofNat'];omega
theorem zue{s:ByteArray}(h:nmB s=true):zci (zwn s)=s:=by
 obtain⟨⟨l⟩⟩:=s;simp only[zci,zwn,List.map_map]
 congr 2
 have hh:=(zex h).2.2;apply List.ext_getElem
 ·simp
 ·intro i h1 h2;simp only[List.getElem_map,Function.comp,letD];have:=hh i h2;have e:(ByteArray.mk ⟨l⟩)[i]'h2=l[i]'h2:=rfl;rw[e]at this
  have e2:96+(l[i].toNat-96)=l[i].toNat:=by omega
  rw[e2,UInt8.ofNat_toNat]
theorem zvw(d:Nat)(ds:List Nat):(⟨#[UInt8.ofNat (96+d)]⟩:ByteArray)++zci ds=zci (d::ds):=by
 apply ByteArray.ext;simp[zci]
theorem zyd{ds:List Nat}(hd:∀ d∈ds,1<=d/\d<27)(h1:1<=ds.length)(h6:ds.length<=6):nmB (zci ds)=true:=by
 refine zxq (by rw[zcf];exact h1) (by rw[zcf];exact h6) (fun j h=>?_);rw[yack ds j h (fun d x=>(hd d x).2)];have:=hd _ (List.getElem_mem (by rw[zcf]at h;exact h));omega
def zfs(n:Int):Bool:=decide (0<n/\(∀ d∈zpa n.toNat,1<=d)/\(zpa n.toNat).length<=6)
def zte(n:Int):ByteArray:=if zfs n=true then zci (zpa n.toNat) else⟨#[]⟩
def unpC(n:Int):Int:=if zfs n=true then 0 else 3
def zla(s:ByteArray):Int:=if nmB s=true then(pk s s.size:Nat)else 0
def zpm(s:ByteArray):Int:=if 65536<s.size then 2 else if nmB s=true then 0 else 12
theorem zxa{n:Int}(h:zfs n=false):zte n=⟨#[]⟩/\unpC n=3:=by unfold zte unpC;rw[h];exact⟨rfl,rfl⟩
theorem zyp{n:Int}(h:¬ 0<n):zfs n=false:=decide_eq_false (fun x=>h x.1)
theorem zzv{n:Nat}{m:Nat}{ds:List Nat}(h:Dg n m ds)(hm:0<m)(h0:m%27=0):zfs (n:Int)=false:=decide_eq_false (fun x=>h.zero hm h0 x.2.1)
theorem yanb{n:Nat}{m:Nat}{ds:List Nat}(h:Dg n m ds)(hm:0<m)(h6:6<=ds.length):zfs (n:Int)=false:=decide_eq_false (fun x=>by have:=h.many hm;have:=x.2.2;simp only[Int.toNat_natCast]at this;omega)
theorem yaoe{n:Nat}{ds:List Nat}(h:Dg n 0 ds)(hn:0<n)(h6:ds.length<=6):zte (n:Int)=zci ds/\unpC (n:Int)=0:=by
 have g:zfs (n:Int)=true:=decide_eq_true ⟨by omega,by rw[Int.toNat_natCast,h.done];exact fun d x=>(h.ok d x).1,by rw[Int.toNat_natCast,h.done];exact h6⟩;unfold zte unpC;rw[if_pos g,if_pos g,Int.toNat_natCast,h.done];exact⟨rfl,rfl⟩
theorem yaoo{s:ByteArray}(h:nmB s=true):zfs (zla s)=true/\zte (zla s)=s:=by
 have e:zla s=((val (zwn s):Nat):Int):=by unfold zla;rw[if_pos h,yata]
 have hl:=yaqv h;have hd:zpa (val (zwn s))=zwn s:=yaor _ hl;have hn:=zex h
 have hne:zwn s≠[]:=by intro x;have:=zgi s;rw[x]at this;simp at this;omega
 have hp:=yasi hl hne
 have g:zfs (zla s)=true:=by
  rw[e];refine decide_eq_true ⟨by omega,?_,?_⟩
  ·rw[Int.toNat_natCast,hd];exact fun d x=>(hl d x).1
  ·rw[Int.toNat_natCast,hd,zgi];exact hn.2.1
 refine⟨g,?_⟩;unfold zte;rw[if_pos g,e,Int.toNat_natCast,hd,zue h]
end Go.Proofs.YtogcbbkhnpmgeaaGreatDoor

namespace Go.Proofs.YtogcbbkhnpmgeaaGreatDoor
open Go.RowKit
theorem yabd{a b:ByteArray}{c d:Int}(h:a=b)(k:c=d):Ending.returned (.tuple #[.string a,.I c])=.returned (.tuple #[.string b,.I d]):=by rw[h,k]
theorem yapo{a b:ByteArray}{c d:Bool}(h:a=b)(k:c=d):Ending.returned (.tuple #[.string a,.bool c])=.returned (.tuple #[.string b,.bool d]):=by rw[h,k]
theorem yadl(n:Int)(w:World)(h:1<=n/\n<=6):zC 75 #[.I n,.I 1,.I 6] w fun e w'=>e=.returned (.bool true)/\w'=w:=by
 obtain⟨h1,h2⟩:=h;go_enter Tryz.func75,Tryz.ntmps75;go_wp2;go_ret;exact⟨rfl,rfl⟩
theorem yajp(n:Int)(w:World)(h:¬ (1<=n/\n<=6)):zC 75 #[.I n,.I 1,.I 6] w fun e w'=>e=.returned (.bool false)/\w'=w:=by
 rcases(show ¬ 1<=n\/(1<=n/\¬ n<=6) by omega)with h1 | ⟨h1,h2⟩
 all_goals
  clear h;go_enter Tryz.func75,Tryz.ntmps75;go_wp2;go_ret;exact⟨rfl,rfl⟩
theorem zed(s:ByteArray)(w:World)(hs:s.size<=maxLen):zC 155 #[.string s] w fun e w'=>e=.returned (.bool (nmB s))/\w'=w:=by
 unfold maxLen at hs
 by_cases c:1<=s.size/\s.size<=6
 ·have c':1<=(s.size:Int)/\(s.size:Int)<=6:=by omega
  have C:=zaa c';obtain⟨c1,c2⟩:=c;clear c';go_enter Tryz.func155,Tryz.ntmps155;go_wp2_with (go_at_call 75;refine(yadl _ _ C.o).mono ?_;rintro e w' ⟨rfl,rfl⟩)
  go_loop [3] (fun i=>∃ k:Nat,k<=s.size/\i=.I k/\Hid (∀ j (h:j<s.size),j<k->97<=s[j].toNat/\s[j].toNat<=122)) (fun i=>s.size-(intOf i).toNat)
  case atStart=>exact⟨0,by omega,rfl,fun j h b=>absurd b (by omega)⟩
  case round =>
   obtain⟨k,hk,rfl,H⟩:=hrel
   by_cases hlt:k<s.size
   ·rcases(show((s[k].toNat:Int)<97)\/(¬ ((s[k].toNat:Int)<97)/\(122:Int)<(s[k].toNat:Int))\/(¬ ((s[k].toNat:Int)<97)/\¬ (122:Int)<(s[k].toNat:Int)) by omega)with d | ⟨d,d'⟩ | ⟨d,d'⟩
    ·have E:=zaa (zod hlt (by omega));go_wp2;go_ret;exact⟨zag E.o.symm,rfl⟩
    ·have E:=zaa (zod hlt (by omega));go_wp2;go_ret;exact⟨zag E.o.symm,rfl⟩
    ·go_wp2
     go_round
     case rel =>
      refine⟨k+1,by omega,by go_num,fun j h b=>?_⟩
      by_cases e:j=k
      ·subst e;omega
      ·exact H.o j h (by omega)
     case measure=>simp[intOf];omega
   ·have E:=zaa (zxq c1 c2 (fun j h=>H.o j h (by omega)));go_wp2;go_ret;exact⟨zag E.o.symm,rfl⟩
 ·have c':¬ (1<=(s.size:Int)/\(s.size:Int)<=6):=by omega
  have C:=zaa c';have E:=zaa (show nmB s=false from decide_eq_false (fun x=>c ⟨x.1,x.2.1⟩));clear c c';go_enter Tryz.func155,Tryz.ntmps155;go_wp2_with (go_at_call 75;refine(yajp _ _ C.o).mono ?_;rintro e w' ⟨rfl,rfl⟩);go_ret;exact⟨zag E.o.symm,rfl⟩
theorem yafr{s:ByteArray}(h:65536<s.size):zla s=0/\zpm s=2:=by
 unfold zla zpm;rw[if_neg (by rw[zrp (by omega)];simp),if_pos h];exact⟨rfl,rfl⟩
theorem zme{s:ByteArray}(h:¬ 65536<s.size)(h2:nmB s=false):zla s=0/\zpm s=12:=by
 unfold zla zpm;rw[h2,if_neg h];exact⟨rfl,rfl⟩
theorem yaan{s:ByteArray}(h:nmB s=true):zla s=((pk s s.size:Nat):Int)/\zpm s=0:=by
 unfold zla zpm;have:=(zex h).2.1;rw[if_pos h,if_neg (by omega),if_pos h];exact⟨rfl,rfl⟩
theorem zlp(s:ByteArray)(w:World)(hs:s.size<=maxLen):zC 213 #[.string s] w fun e w'=>e=.returned (.tuple #[.I (zla s),.I (zpm s)])/\zB w w':=by
 unfold maxLen at hs
 by_cases c0:65536<s.size
 ·have E:=zaa (yafr c0);go_enter Tryz.func213,Tryz.ntmps213;go_wp2;go_ret2;exact⟨zdi E.o.1.symm E.o.2.symm,zR⟩
 by_cases c1:s.size<1
 ·have E:=zaa (zme c0 (zwj c1));go_enter Tryz.func213,Tryz.ntmps213;go_wp2;go_ret2;exact⟨zdi E.o.1.symm E.o.2.symm,zR⟩
 by_cases c2:6<s.size
 ·have E:=zaa (zme c0 (zrp c2));go_enter Tryz.func213,Tryz.ntmps213;go_wp2;go_ret2;exact⟨zdi E.o.1.symm E.o.2.symm,zR⟩
 have hconv:=run_bytes_of_string (P:=Tryz.prog) w 9 22 5 s Tryz.underlying9 Tryz.underlying22 Tryz.underlying5;generalize hcap:grownCap w s.size 0 5=cap at hconv
 have CELL:Hid (∀ k (h:k<s.size),(w.drew.alloc (.cells (bytesRow s cap) 5 ((bytesRow s cap).size,(bytesRow s cap).size+1))).cell? ⟨w.heap.size,k,none⟩=some (.int .u8 (s[k].toNat:Int))):=fun k h=>by
  have e:=World.cell?_alloc_mark w.drew (bytesRow s cap) 5 ((bytesRow s cap).size,(bytesRow s cap).size+1) k;rw[bytesRow_at s cap k h]at e;exact e
 have BB:Hid (zB w (w.drew.alloc (.cells (bytesRow s cap) 5 ((bytesRow s cap).size,(bytesRow s cap).size+1)))):=(zR.drew).alloc zL _;clear hcap;generalize w.drew.alloc (.cells (bytesRow s cap) 5 ((bytesRow s cap).size,(bytesRow s cap).size+1))=w1 at hconv CELL BB;go_enter Tryz.func213,Tryz.ntmps213;go_wp2
 go_loop [4,6,21] (fun n _ i=>∃ k:Nat,k<=s.size/\i=.I k/\n=.I ((pk s k:Nat):Int)/\Hid (∀ j (h:j<s.size),j<k->97<=s[j].toNat/\s[j].toNat<=122)) (fun _ _ i=>s.size-(intOf i).toNat)
 case atStart=>exact⟨0,by omega,rfl,by rw[zyb];rfl,fun j h b=>absurd b (by omega)⟩
 case round =>
  obtain⟨k,hk,rfl,rfl,H⟩:=hrel
  by_cases hlt:k<s.size
  ·have x0:=CELL.o k hlt;have bd:pk s k<387420489:=yaqp H.o (by omega);have SU:=zaa (yain s k hlt);have b255:s[k].toNat<256:=s[k].toNat_lt;have NO:=zaa (zod (s:=s) hlt)
   have NX:Hid (97<=s[k].toNat/\s[k].toNat<=122->∀ j (h:j<s.size),j<k+1->97<=s[j].toNat/\s[j].toNat<=122):=fun hx j h b=>by
    by_cases e:j=k
    ·subst e;exact hx
    ·exact H.o j h (by omega)
   generalize s[k].toNat=x at x0 SU b255 NO NX
   rcases(show((x:Int)<97)\/(¬ ((x:Int)<97)/\(122:Int)<(x:Int))\/(¬ ((x:Int)<97)/\¬ (122:Int)<(x:Int)) by omega)with d | ⟨d,d'⟩ | ⟨d,d'⟩
   ·have E:=zaa (zme c0 (NO.o (by omega)));go_wp2;go_ret2;exact⟨zdi E.o.1.symm E.o.2.symm,BB.o⟩
   ·have E:=zaa (zme c0 (NO.o (by omega)));go_wp2;go_ret2;exact⟨zdi E.o.1.symm E.o.2.symm,BB.o⟩
   ·go_wp2
    go_round
    case rel=>exact⟨k+1,by omega,by go_num,by rw[SU.o];congr 1;omega,NX.o (by omega)⟩
    case measure=>simp[intOf];omega
  ·have ek:k=s.size:=by omega
   subst ek;have E:=zaa (yaan (zxq (s:=s) (by omega) (by omega) (fun j h=>H.o j h h)));go_wp2;go_ret2;exact⟨zdi E.o.1.symm E.o.2.symm,BB.o⟩
theorem zxv(s:ByteArray)(w:World)(hs:nmB s=true):zC 237 #[.string s] w fun e w'=>e=.returned (.I ((pk s s.size:Nat):Int))/\w'=w:=by
 have N:=zaa (zex hs);have h6:s.size<=6:=(zex hs).2.1;clear hs;go_enter Tryz.func237,Tryz.ntmps237;go_wp2
 go_loop [3,4] (fun n i=>∃ k:Nat,k<=s.size/\i=.I k/\n=.I ((pk s k:Nat):Int)) (fun _ i=>s.size-(intOf i).toNat)
 case atStart=>exact⟨0,by omega,rfl,by rw[zyb];rfl⟩
 case round =>
  obtain⟨k,hk,rfl,rfl⟩:=hrel
  by_cases hlt:k<s.size
  ·have bd:pk s k<387420489:=yaqp (fun j h _=>N.o.2.2 j h) (by omega);have SU:=zaa (yain s k hlt);have b1:=N.o.2.2 k hlt;go_wp2
   go_round
   case rel=>exact⟨k+1,by omega,by go_num,by rw[SU.o];congr 1;omega⟩
   case measure=>simp[intOf];omega
  ·have ek:k=s.size:=by omega
   subst ek;go_wp2;go_ret;exact⟨rfl,rfl⟩
theorem zmc(w:World)(t:TypeId)(size:Nat):Row (w.alloc (.cells #[] t)) t size w.heap.size (w.alloc (.cells #[] t)).heap.size (.slice (some ⟨w.heap.size,0,none⟩) 0 0) 0 [] :=
 zad (World.ownsRow_lit w #[] 0 zL (by simp[maxLen]) (by simp))
theorem Ino.all{x:Ino}{w':World}{b:Nat}(h:∀ j,w'.cell? ⟨b,j,none⟩=x.cs[j]?):w'.cell? ⟨b,0,none⟩=some (.I x.kind)/\w'.cell? ⟨b,1,none⟩=some (.I x.size)/\w'.cell? ⟨b,2,none⟩=some (.I x.links)/\w'.cell? ⟨b,3,none⟩=some (.I x.m0)/\w'.cell? ⟨b,4,none⟩=some (.I x.m1)/\w'.cell? ⟨b,5,none⟩=some (.I x.m2)/\w'.cell? ⟨b,6,none⟩=some (.I x.m3)/\w'.cell? ⟨b,7,none⟩=some (.I x.m4)/\w'.cell? ⟨b,8,none⟩=some (.I x.m5)/\w'.cell? ⟨b,9,none⟩=some (.I x.m6)/\w'.cell? ⟨b,10,none⟩=some (.I x.m7):=⟨h 0,h 1,h 2,h 3,h 4,h 5,h 6,h 7,h 8,h 9,h 10⟩
def inos(ps:List Ino):List Value:=ps.flatMap Ino.cs
theorem Ino.cs_len(x:Ino):x.cs.length=11:=rfl
theorem zfi(ps:List Ino)(k i:Nat)(h:k<ps.length)(hi:i<11):(inos ps)[k*11+i]?=ps[k].cs[i]?:=(zbi _ 11 Ino.cs_len ps k i h hi).trans (by rw[List.getElem?_eq_getElem (show i<ps[k].cs.length by rw[Ino.cs_len];exact hi)])
def RdN(w:World)(v:Value)(ps:List Ino):Prop:=Rd w 11 v ps.length (inos ps)
theorem RdN.shape{w:World}{v:Value}{ps:List Ino}(h:RdN w v ps):∃ ao cap,v=.slice ao ps.length cap/\ps.length<=cap/\(0<ps.length->∃ b o,ao=some ⟨b,o,none⟩/\b<w.heap.size /\
  ∀ k (h:k<ps.length),w.cell? ⟨b,o+k*11,none⟩=some (.I ps[k].kind)/\w.cell? ⟨b,o+k*11+1,none⟩=some (.I ps[k].size)/\w.cell? ⟨b,o+k*11+2,none⟩=some (.I ps[k].links)/\w.cell? ⟨b,o+k*11+3,none⟩=some (.I ps[k].m0)/\w.cell? ⟨b,o+k*11+4,none⟩=some (.I ps[k].m1)/\w.cell? ⟨b,o+k*11+5,none⟩=some (.I ps[k].m2)/\w.cell? ⟨b,o+k*11+6,none⟩=some (.I ps[k].m3)/\w.cell? ⟨b,o+k*11+7,none⟩=some (.I ps[k].m4)/\w.cell? ⟨b,o+k*11+8,none⟩=some (.I ps[k].m5)/\w.cell? ⟨b,o+k*11+9,none⟩=some (.I ps[k].m6)/\w.cell? ⟨b,o+k*11+10,none⟩=some (.I ps[k].m7)):=by
 obtain⟨_,ao,cap,rfl,h2,h3⟩:=h;refine⟨ao,cap,rfl,h2.1,fun hn=>?_⟩;obtain⟨b,o,rfl,hb,hc⟩:=h3 hn;exact⟨b,o,rfl,hb,fun k hk=>⟨(hc (k*11) (by omega)).trans (zfi ps k 0 hk (by omega)),(hc (k*11+1) (by omega)).trans (zfi ps k 1 hk (by omega)),(hc (k*11+2) (by omega)).trans (zfi ps k 2 hk (by omega)),(hc (k*11+3) (by omega)).trans (zfi ps k 3 hk (by omega)),(hc (k*11+4) (by omega)).trans (zfi ps k 4 hk (by omega)),(hc (k*11+5) (by omega)).trans (zfi ps k 5 hk (by omega)),(hc (k*11+6) (by omega)).trans (zfi ps k 6 hk (by omega)),(hc (k*11+7) (by omega)).trans (zfi ps k 7 hk (by omega)),(hc (k*11+8) (by omega)).trans (zfi ps k 8 hk (by omega)),(hc (k*11+9) (by omega)).trans (zfi ps k 9 hk (by omega)),(hc (k*11+10) (by omega)).trans (zfi ps k 10 hk (by omega))⟩⟩
theorem yafx:(Tryz.prog.info? 87).map (fun i=>(i.zero,i.size,i.bytes))=some (some (.agg #[.I 0,.I 0,.I 0,.I 0,.I 0,.I 0,.I 0,.I 0,.I 0,.I 0,.I 0]),11,88):=by kernel_rfl
structure St where
 at_:Int
 val:Int
 fl:Bool
deriving DecidableEq
def St.cells(s:St):List Value:=[.I s.at_,.I s.val,.bool s.fl]
def sts(ps:List St):List Value:=ps.flatMap St.cells
theorem St.cells_len(s:St):s.cells.length=3:=rfl
theorem zxu(ps:List St):(sts ps).length=ps.length*3:=znn _ 3 St.cells_len ps
theorem zoa(ps:List St)(k:Nat)(h:k<ps.length):(sts ps)[k*3]?=some (.I ps[k].at_):=zbi _ 3 St.cells_len ps k 0 h (by omega)
theorem yafl(ps:List St)(k:Nat)(h:k<ps.length):(sts ps)[k*3+1]?=some (.I ps[k].val):=zbi _ 3 St.cells_len ps k 1 h (by omega)
theorem zyo(ps:List St)(k:Nat)(h:k<ps.length):(sts ps)[k*3+2]?=some (.bool ps[k].fl):=zbi _ 3 St.cells_len ps k 2 h (by omega)
def RdS(w:World)(v:Value)(ps:List St):Prop:=Rd w 3 v ps.length (sts ps)
theorem RdS.shape{w:World}{v:Value}{ps:List St}(h:RdS w v ps):∃ ao cap,v=.slice ao ps.length cap/\ps.length<=cap/\(0<ps.length->∃ b o,ao=some ⟨b,o,none⟩/\b<w.heap.size /\
  ∀ k (h:k<ps.length),w.cell? ⟨b,o+k*3,none⟩=some (.I ps[k].at_)/\w.cell? ⟨b,o+k*3+1,none⟩=some (.I ps[k].val)/\w.cell? ⟨b,o+k*3+2,none⟩=some (.bool ps[k].fl)):=by
 obtain⟨_,ao,cap,rfl,h2,h3⟩:=h;refine⟨ao,cap,rfl,h2.1,fun hn=>?_⟩;obtain⟨b,o,rfl,hb,hc⟩:=h3 hn;exact⟨b,o,rfl,hb,fun k hk=>⟨(hc (k*3) (by omega)).trans (zoa ps k hk),(hc (k*3+1) (by omega)).trans (yafl ps k hk),(hc (k*3+2) (by omega)).trans (zyo ps k hk)⟩⟩
theorem zpz:(Tryz.prog.info? 138).map (fun i=>(i.zero,i.size,i.bytes))=some (some (.agg #[.I 0,.I 0,.bool false]),3,24):=by kernel_rfl
structure Den where
 dir:Int
 name:ByteArray
 child:Int
def Den.v(x:Den):Value:=.agg #[.I x.dir,.string x.name,.I x.child]
def Den.freeB(x:Den):Bool:=x.dir == 0&&(x.name.size == 0&&x.child == -1)
def Den.okB(x:Den):Bool:=x.freeB||(decide (1<=x.child/\x.child<=15)&&(decide (0<=x.dir/\x.dir<=15)&&nmB x.name))
def enL(k:Int)(x:Den):List Se:=[⟨240+3*k,x.dir⟩,⟨240+3*k+1,((pk x.name x.name.size:Nat):Int)⟩,⟨240+3*k+2,x.child+1⟩]
theorem zwd(s:ByteArray)(w:World)(hs:s.size=0):zC 237 #[.string s] w fun e w'=>e=.returned (.I ((pk s s.size:Nat):Int))/\w'=w:=by
 have E:=zaa (show((pk s s.size:Nat):Int)=0 by rw[hs,zyb];rfl);rw[E.o];go_enter Tryz.func237,Tryz.ntmps237;go_wp2
 go_loop [3,4] (fun n i=>i=.I 0/\n=.I 0) (fun _ i=>0)
 case atStart=>exact⟨rfl,rfl⟩
 case round =>
  obtain⟨rfl,rfl⟩:=hrel;go_wp2;go_ret;exact⟨rfl,rfl⟩
theorem zfn(k:Int)(x:Den)(w:World)(hk:0<=k/\k<24)(hc:-1<=x.child/\x.child<=15)(hn:x.name.size=0\/nmB x.name=true) :
  zC 202 #[.I k,x.v] w fun e w'=>∃ v',e=.returned v'/\Row w' 104 2 w.heap.size w'.heap.size v' (enL k x).length (ses (enL k x))/\zB w w':=by
 have LP:=zaa (fun w1=>show zC 237 #[.string x.name] w1 fun e w'=>e=.returned (.I ((pk x.name x.name.size:Nat):Int))/\w'=w1 by
  rcases hn with h | h
  ·exact zwd _ _ h
  ·exact zxv _ _ h)
 clear hn;have EL:=zaa (show enL k x=[⟨240+3*k,x.dir⟩,⟨240+3*k+1,((pk x.name x.name.size:Nat):Int)⟩,⟨240+3*k+2,x.child+1⟩]from rfl);generalize ((pk x.name x.name.size:Nat):Int)=p at LP EL
 obtain⟨W,hW⟩:=zE (w.alloc (.cells #[.I x.dir,.string x.name,.I x.child] 90))
 have SK:Hid (∀ w',zB W w'->w'.cell? ⟨w.heap.size,0,none⟩=some (.I x.dir)/\w'.cell? ⟨w.heap.size,1,none⟩=some (.string x.name)/\w'.cell? ⟨w.heap.size,2,none⟩=some (.I x.child)):=fun w' hb=>by
  have:w'.heap[w.heap.size]?=some (.cells #[.I x.dir,.string x.name,.I x.child] 90 (0,0)):=(hb.block _ (by rw[hW];simp)).trans (by rw[hW];exact zah rfl);exact zba this
 have BW:Hid (zB w W):=by rw[hW];exact zR.alloc zL _
 have hz:w.heap.size<=W.heap.size:=BW.o.size;unfold Den.v;go_enter Tryz.func202,Tryz.ntmps202;go_wp2_with fail;rw[<- hW];clear hW
 go_region_held3 (fun w'=>w'.cell? ⟨w.heap.size,0,none⟩=some (.I x.dir)/\w'.cell? ⟨w.heap.size,1,none⟩=some (.string x.name)/\w'.cell? ⟨w.heap.size,2,none⟩=some (.I x.child))
  (exact SK.o _ (by repeat (first | exact zR | refine Below.drew ?_ | refine Below.alloc ?_ (by simp) _)))
  (first | (go_at_call 161;refine(zdt _ _ _ hk (by omega)).mono ?_;rintro e w' ⟨rfl,hw'⟩;subst w') | (go_at_call 237;refine(LP.o _).mono ?_;rintro e w' ⟨rfl,hw'⟩;subst w'))
 have wp1:IntKind.i64.wrap (x.child+1)=x.child+1:=by rw[IntKind.wrap_i64];omega
 rw[wp1]
 have R:Hid (UpI W (W.alloc (.cells #[.I (240+3*k),.I x.dir,.I (240+3*k+1),.I p,.I (240+3*k+2),.I (x.child+1)] 104)).drew (.slice (some ⟨W.heap.size,0,none⟩) 3 3) (enL k x)):=by
  show UpI _ _ _ _
  rw[EL.o];exact UpI.below (w:=W.alloc (.cells #[.I (240+3*k),.I x.dir,.I (240+3*k+1),.I p,.I (240+3*k+2),.I (x.child+1)] 104)) ⟨World.ownsRow_lit W _ 3 zL (by simp[maxLen]) rfl,zR.alloc zL _⟩ (zR.drew)
 go_wp2;go_ret;exact⟨_,rfl,(zad R.o.l).wide hz zL,zab BW.o R.o.b hz⟩
theorem yahx(s:ByteArray):s.toList=[]↔s.size=0:=by
 rw[ByteArray.toList_eq];obtain⟨⟨x⟩⟩:=s
 show x=[]↔x.length=0
 exact List.length_eq_zero_iff.symm
def Den.cells(s:Den):List Value:=[.I s.dir,.string s.name,.I s.child]
def dens(ps:List Den):List Value:=ps.flatMap Den.cells
theorem Den.cells_len(s:Den):s.cells.length=3:=rfl
theorem yaat(ps:List Den):(dens ps).length=ps.length*3:=znn _ 3 Den.cells_len ps
theorem yalo(ps:List Den)(k:Nat)(h:k<ps.length):(dens ps)[k*3]?=some (.I ps[k].dir):=zbi _ 3 Den.cells_len ps k 0 h (by omega)
theorem yalv(ps:List Den)(k:Nat)(h:k<ps.length):(dens ps)[k*3+1]?=some (.string ps[k].name):=zbi _ 3 Den.cells_len ps k 1 h (by omega)
theorem yama(ps:List Den)(k:Nat)(h:k<ps.length):(dens ps)[k*3+2]?=some (.I ps[k].child):=zbi _ 3 Den.cells_len ps k 2 h (by omega)
def RdD(w:World)(v:Value)(ps:List Den):Prop:=Rd w 3 v ps.length (dens ps)
theorem RdD.shape{w:World}{v:Value}{ps:List Den}(h:RdD w v ps):∃ ao cap,v=.slice ao ps.length cap/\ps.length<=cap/\(0<ps.length->∃ b o,ao=some ⟨b,o,none⟩/\b<w.heap.size /\
  ∀ k (h:k<ps.length),w.cell? ⟨b,o+k*3,none⟩=some (.I ps[k].dir)/\w.cell? ⟨b,o+k*3+1,none⟩=some (.string ps[k].name)/\w.cell? ⟨b,o+k*3+2,none⟩=some (.I ps[k].child)):=by
 obtain⟨_,ao,cap,rfl,h2,h3⟩:=h;refine⟨ao,cap,rfl,h2.1,fun hn=>?_⟩;obtain⟨b,o,rfl,hb,hc⟩:=h3 hn;exact⟨b,o,rfl,hb,fun k hk=>⟨(hc (k*3) (by omega)).trans (yalo ps k hk),(hc (k*3+1) (by omega)).trans (yalv ps k hk),(hc (k*3+2) (by omega)).trans (yama ps k hk)⟩⟩
theorem znc:(Tryz.prog.info? 90).map (fun i=>(i.zero,i.size,i.bytes))=some (some (.agg #[.I 0,.string ⟨#[]⟩,.I 0]),3,32):=by kernel_rfl
end Go.Proofs.YtogcbbkhnpmgeaaGreatDoor
