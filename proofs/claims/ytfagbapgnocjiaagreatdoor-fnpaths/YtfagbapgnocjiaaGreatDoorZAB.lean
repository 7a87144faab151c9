import Derived.Laws.IdiomStrings
import Derived.Laws.BytesArg
import Derived.Test.YtfagbapgnocjiaaGreatDoorZAC
import Derived.Orders
import Derived.Shelf.Small.Strs
import Derived.Shelf.Small.Wraps
import Derived.Shelf.Strings.Search3
import Derived.Shelf.Strings.Count
import Derived.Shelf.Strings.Split
set_option maxRecDepth 100000
set_option maxHeartbeats 4000000
namespace Go.Proofs.YtfagbapgnocjiaaGreatDoor
def zou(n:Nat):List Nat:=if _h:n=0 then[]else zou (n/27)++[n%27]
termination_by n
decreasing_by omega
theorem zip:zou 0=[]:=by rw[zou];simp
theorem zio{n:Nat}(h:0<n):zou n=zou (n/27)++[n%27]:=by rw[zou];simp[show n≠0 by omega]
def val(ds:List Nat):Nat:=ds.foldl (fun a d=>27*a+d) 0
theorem zlx(ds:List Nat)(d:Nat):val (ds++[d])=27*val ds+d:=by simp[val]
theorem yapl{n:Nat}(h:0<n):1<=(zou n).length:=by rw[zio h];simp
theorem zzs{α:Type}{P:List α->Prop}(h0:P [])(h1:∀ l x,P l->P (l++[x])):∀ l,P l:=by
 intro l
 have:∀ n (l:List α),l.length=n->P l:=by
  intro n
  induction n with
  | zero=>intro l hl;rw[List.length_eq_zero_iff.1 hl];exact h0
  | succ n ih =>
   intro l hl
   have hne:l≠[]:=by intro h;subst h;simp at hl
   rw[<- List.dropLast_concat_getLast hne];exact h1 _ _ (ih _ (by simp[hl]))
 exact this _ l rfl
theorem yaou{ds:List Nat}(h:∀ d∈ds,1<=d/\d<27)(hn:ds≠[]):0<val ds:=by
 rw[<- List.dropLast_concat_getLast hn,zlx];have:=(h _ (List.getLast_mem hn)).1;omega
theorem yakq(ds:List Nat):(∀ d∈ds,1<=d/\d<27)->zou (val ds)=ds:=by
 refine zzs (P:=fun ds=>(∀ d∈ds,1<=d/\d<27)->zou (val ds)=ds) (fun _=>zip) (fun l x ih h=>?_) ds;have hx:=h x (by simp);rw[zlx,zio (by omega),show(27*val l+x)/27=val l by omega,show(27*val l+x)%27=x by omega,ih (fun d hd=>h d (by simp[hd]))]
theorem yarz(ds:List Nat):(∀ d∈ds,d<27)->val ds<27 ^ ds.length:=by
 refine zzs (P:=fun ds=>(∀ d∈ds,d<27)->val ds<27 ^ ds.length) (fun _=>by simp[val]) (fun l x ih h=>?_) ds;have hx:=h x (by simp);have:=ih (fun d hd=>h d (by simp[hd]));rw[zlx,List.length_append,List.length_singleton,Nat.pow_succ];omega
theorem yalp(k:Nat):∀ n,n<27 ^ k->(zou n).length<=k:=by
 induction k with
 | zero =>
  intro n h
  have:n=0:=by simpa using h
  subst this;rw[zip];simp
 | succ k ih =>
  intro n h
  by_cases h0:n=0
  ·subst h0;rw[zip];simp
  ·rw[zio (by omega),List.length_append,List.length_singleton];have:=ih (n/27) (by rw[Nat.pow_succ]at h;omega);omega
structure Dg(n m:Nat)(ds:List Nat):Prop where
 eq:zou n=zou m++ds
 ok:∀ d∈ds,1<=d/\d<27
theorem Dg.start(n:Nat):Dg n n []:=⟨by simp,fun d h=>by cases h⟩
theorem Dg.step{n m:Nat}{ds:List Nat}(h:Dg n m ds)(hm:0<m)(h1:m%27≠0):Dg n (m/27) (m%27::ds) :=
 ⟨by rw[h.eq,zio hm];simp,fun d hd=>by
  rcases List.mem_cons.1 hd with rfl | hd
  ·omega
  ·exact h.ok d hd⟩
theorem Dg.zero{n m:Nat}{ds:List Nat}(h:Dg n m ds)(hm:0<m)(h0:m%27=0):¬ ∀ d∈zou n,1<=d:=fun x=>by
 have:=x (m%27) (by rw[h.eq,zio hm];simp);omega
theorem Dg.len{n m:Nat}{ds:List Nat}(h:Dg n m ds):ds.length<=(zou n).length:=by rw[h.eq];simp
theorem Dg.done{n:Nat}{ds:List Nat}(h:Dg n 0 ds):zou n=ds:=by rw[h.eq,zip];simp
def nmB(s:ByteArray):Bool:=decide (1<=s.size/\s.size<=6/\∀ j (h:j<s.size),97<=s[j].toNat/\s[j].toNat<=122)
theorem zvt{s:ByteArray}(h:s.size<1):nmB s=false:=decide_eq_false (fun x=>by omega)
theorem zsh{s:ByteArray}(h:6<s.size):nmB s=false:=decide_eq_false (fun x=>by omega)
theorem zop{s:ByteArray}{k:Nat}(h:k<s.size)(hb:¬ (97<=s[k].toNat/\s[k].toNat<=122)):nmB s=false:=decide_eq_false (fun x=>hb (x.2.2 k h))
theorem zyi{s:ByteArray}(h0:1<=s.size)(h6:s.size<=6)(h:∀ j (h:j<s.size),97<=s[j].toNat/\s[j].toNat<=122):nmB s=true:=decide_eq_true ⟨h0,h6,h⟩
theorem zes{s:ByteArray}(h:nmB s=true):1<=s.size/\s.size<=6/\∀ j (h:j<s.size),97<=s[j].toNat/\s[j].toNat<=122:=of_decide_eq_true h
def letD(b:UInt8):Nat:=b.toNat-96
def zwa(s:ByteArray):List Nat:=s.data.toList.map letD
def pk(s:ByteArray)(k:Nat):Nat:=val ((zwa s).take k)
theorem zgo(s:ByteArray):(zwa s).length=s.size:=by unfold zwa;rw[List.length_map,Array.length_toList];rfl
theorem zxv(s:ByteArray)(j:Nat)(h:j<s.size):(zwa s)[j]'(by rw[zgo];exact h)=s[j].toNat-96:=by
 simp only[zwa,List.getElem_map,letD,Array.getElem_toList];rfl
theorem zyr(s:ByteArray):pk s 0=0:=by simp[pk,val]
theorem yajg(s:ByteArray)(k:Nat)(h:k<s.size):pk s (k+1)=27*pk s k+(s[k].toNat-96):=by
 unfold pk;rw[List.take_succ_eq_append_getElem (by rw[zgo];exact h),zlx,zxv s k h]
theorem yapa{s:ByteArray}(h:nmB s=true):∀ d∈zwa s,1<=d/\d<27:=by
 intro d hd;obtain⟨i,hi,rfl⟩:=List.getElem_of_mem hd;rw[zgo]at hi;rw[zxv s i hi];have:=(zes h).2.2 i hi;omega
theorem yass{s:ByteArray}:pk s s.size=val (zwa s):=by unfold pk;rw[<- zgo,List.take_length]
theorem yapo{s:ByteArray}{k:Nat}(hl:∀ j (h:j<s.size),j<k->97<=s[j].toNat/\s[j].toNat<=122)(h6:k<=6):pk s k<387420489:=by
 have h1:pk s k<27 ^ ((zwa s).take k).length:=by
  unfold pk;apply yarz;intro d hd;obtain⟨i,hi,rfl⟩:=List.getElem_of_mem hd;simp only[List.length_take,zgo]at hi;rw[List.getElem_take,zxv s i (by omega)];have:=hl i (by omega) (by omega);omega
 have h2:((zwa s).take k).length<=6:=by simp only[List.length_take];omega
 have h3:27 ^ ((zwa s).take k).length<=27 ^ 6:=Nat.pow_le_pow_right (by omega) h2;omega
def zcq(ds:List Nat):ByteArray:=⟨(ds.map fun d=>UInt8.ofNat (96+d)).toArray⟩
theorem zcb(ds:List Nat):(zcq ds).size=ds.length:=by simp[zcq,ByteArray.size]
theorem yacz(ds:List Nat)(j:Nat)(h:j<(zcq ds).size)(hd:∀ d∈ds,d<27):(zcq ds)[j].toNat=96+ds[j]'(by rw[zcb]at h;exact h):=by
 have hj:j<ds.length:=by rw[zcb]at h;exact h
 have:=hd _ (List.getElem_mem hj)
 have e:(zcq ds)[j]=UInt8.ofNat (96+ds[j]):=by
  have e1:(zcq ds)[j]=((ds.map fun d=>UInt8.ofNat (96+d)).toArray)[j]'(by simpa using hj):=rfl;rw[e1,List.getElem_toArray,List.getElem_map]
 rw[e,UInt8.toNat_ofNat'];omega
theorem zux{s:ByteArray}(h:nmB s=true):zcq (zwa s)=s:=by
 obtain⟨⟨l⟩⟩:=s;simp only[zcq,zwa,List.map_map]
 congr 2
 have hh:=(zes h).2.2;apply List.ext_getElem
 ·simp
 ·intro i h1 h2;simp only[List.getElem_map,Function.comp,letD];have:=hh i h2;have e:(ByteArray.mk ⟨l⟩)[i]'h2=l[i]'h2:=rfl;rw[e]at this
  have e2:96+(l[i].toNat-96)=l[i].toNat:=by omega
  rw[e2,UInt8.ofNat_toNat]
theorem zug(d:Nat)(ds:List Nat):(⟨#[UInt8.ofNat (96+d)]⟩:ByteArray)++zcq ds=zcq (d::ds):=by
 apply ByteArray.ext;simp[zcq]
theorem zyk{ds:List Nat}(hd:∀ d∈ds,1<=d/\d<27)(h1:1<=ds.length)(h6:ds.length<=6):nmB (zcq ds)=true:=by
 refine zyi (by rw[zcb];exact h1) (by rw[zcb];exact h6) (fun j h=>?_);rw[yacz ds j h (fun d x=>(hd d x).2)];have:=hd _ (List.getElem_mem (by rw[zcb]at h;exact h));omega
def zjx(n:Int):Bool:=decide (0<n/\(∀ d∈zou n.toNat,1<=d)/\(zou n.toNat).length<=6)
def unpS(n:Int):ByteArray:=if zjx n=true then zcq (zou n.toNat) else⟨#[]⟩
def zki(s:ByteArray):Int:=if nmB s=true then(pk s s.size:Nat)else 0
def zpa(s:ByteArray):Int:=if 65536<s.size then 2 else if nmB s=true then 0 else 12
theorem yaey{n:Int}(h:¬ 0<n):zjx n=false:=decide_eq_false (fun x=>h x.1)
theorem yajv{n:Nat}{m:Nat}{ds:List Nat}(h:Dg n m ds)(hm:0<m)(h0:m%27=0):zjx (n:Int)=false:=decide_eq_false (fun x=>h.zero hm h0 x.2.1)
theorem yamt{s:ByteArray}(h:nmB s=true):zjx (zki s)=true/\unpS (zki s)=s:=by
 have e:zki s=((val (zwa s):Nat):Int):=by unfold zki;rw[if_pos h,yass]
 have hl:=yapa h;have hd:zou (val (zwa s))=zwa s:=yakq _ hl;have hn:=zes h
 have hne:zwa s≠[]:=by intro x;have:=zgo s;rw[x]at this;simp at this;omega
 have hp:=yaou hl hne
 have g:zjx (zki s)=true:=by
  rw[e];refine decide_eq_true ⟨by omega,?_,?_⟩
  ·rw[Int.toNat_natCast,hd];exact fun d x=>(hl d x).1
  ·rw[Int.toNat_natCast,hd,zgo];exact hn.2.1
 refine⟨g,?_⟩;unfold unpS;rw[if_pos g,e,Int.toNat_natCast,hd,zux h]
end Go.Proofs.YtfagbapgnocjiaaGreatDoor

namespace Go.Proofs.YtfagbapgnocjiaaGreatDoor
open Go.RowKit
theorem yanw{a b:ByteArray}{c d:Bool}(h:a=b)(k:c=d):Ending.returned (.tuple #[.string a,.bool c])=.returned (.tuple #[.string b,.bool d]):=by rw[h,k]
theorem yabc(n:Int)(w:World)(h:1<=n/\n<=6):zC 87 #[.I n,.I 1,.I 6] w fun e w'=>e=.returned (.bool true)/\w'=w:=by
 obtain⟨h1,h2⟩:=h;go_enter Tryz.func87,Tryz.ntmps87;go_wp2;go_ret;exact⟨rfl,rfl⟩
theorem yaik(n:Int)(w:World)(h:¬ (1<=n/\n<=6)):zC 87 #[.I n,.I 1,.I 6] w fun e w'=>e=.returned (.bool false)/\w'=w:=by
 rcases(show ¬ 1<=n\/(1<=n/\¬ n<=6) by omega)with h1 | ⟨h1,h2⟩
 all_goals
  clear h;go_enter Tryz.func87,Tryz.ntmps87;go_wp2;go_ret;exact⟨rfl,rfl⟩
theorem zed(s:ByteArray)(w:World)(hs:s.size<=maxLen):zC 89 #[.string s] w fun e w'=>e=.returned (.bool (nmB s))/\w'=w:=by
 unfold maxLen at hs
 by_cases c:1<=s.size/\s.size<=6
 ·have c':1<=(s.size:Int)/\(s.size:Int)<=6:=by omega
  have C:=zaa c';obtain⟨c1,c2⟩:=c;clear c';go_enter Tryz.func89,Tryz.ntmps89;go_wp2_with (go_at_call 87;refine(yabc _ _ C.o).mono ?_;rintro e w' ⟨rfl,rfl⟩)
  go_loop [3] (fun i=>∃ k:Nat,k<=s.size/\i=.I k/\Hid (∀ j (h:j<s.size),j<k->97<=s[j].toNat/\s[j].toNat<=122)) (fun i=>s.size-(intOf i).toNat)
  case atStart=>exact⟨0,by omega,rfl,fun j h b=>absurd b (by omega)⟩
  case round =>
   obtain⟨k,hk,rfl,H⟩:=hrel
   by_cases hlt:k<s.size
   ·rcases(show((s[k].toNat:Int)<97)\/(¬ ((s[k].toNat:Int)<97)/\(122:Int)<(s[k].toNat:Int))\/(¬ ((s[k].toNat:Int)<97)/\¬ (122:Int)<(s[k].toNat:Int)) by omega)with d | ⟨d,d'⟩ | ⟨d,d'⟩
    ·have E:=zaa (zop hlt (by omega));go_wp2;go_ret;exact⟨zah E.o.symm,rfl⟩
    ·have E:=zaa (zop hlt (by omega));go_wp2;go_ret;exact⟨zah E.o.symm,rfl⟩
    ·go_wp2
     go_round
     case rel =>
      refine⟨k+1,by omega,by go_num,fun j h b=>?_⟩
      by_cases e:j=k
      ·subst e;omega
      ·exact H.o j h (by omega)
     case measure=>simp[intOf];omega
   ·have E:=zaa (zyi c1 c2 (fun j h=>H.o j h (by omega)));go_wp2;go_ret;exact⟨zah E.o.symm,rfl⟩
 ·have c':¬ (1<=(s.size:Int)/\(s.size:Int)<=6):=by omega
  have C:=zaa c';have E:=zaa (show nmB s=false from decide_eq_false (fun x=>c ⟨x.1,x.2.1⟩));clear c c';go_enter Tryz.func89,Tryz.ntmps89;go_wp2_with (go_at_call 87;refine(yaik _ _ C.o).mono ?_;rintro e w' ⟨rfl,rfl⟩);go_ret;exact⟨zah E.o.symm,rfl⟩
theorem yaiv{s:ByteArray}(h:65536<s.size):zki s=0/\zpa s=2:=by
 unfold zki zpa;rw[if_neg (by rw[zsh (by omega)];simp),if_pos h];exact⟨rfl,rfl⟩
theorem zln{s:ByteArray}(h:¬ 65536<s.size)(h2:nmB s=false):zki s=0/\zpa s=12:=by
 unfold zki zpa;rw[h2,if_neg h];exact⟨rfl,rfl⟩
theorem zzc{s:ByteArray}(h:nmB s=true):zki s=((pk s s.size:Nat):Int)/\zpa s=0:=by
 unfold zki zpa;have:=(zes h).2.1;rw[if_pos h,if_neg (by omega),if_pos h];exact⟨rfl,rfl⟩
theorem zkz(s:ByteArray)(w:World)(hs:s.size<=maxLen):zC 53 #[.string s] w fun e w'=>e=.returned (.tuple #[.I (zki s),.I (zpa s)])/\zB w w':=by
 unfold maxLen at hs
 by_cases c0:65536<s.size
 ·have E:=zaa (yaiv c0);go_enter Tryz.func53,Tryz.ntmps53;go_wp2;go_ret2;exact⟨zkh E.o.1.symm E.o.2.symm,zR⟩
 by_cases c1:s.size<1
 ·have E:=zaa (zln c0 (zvt c1));go_enter Tryz.func53,Tryz.ntmps53;go_wp2;go_ret2;exact⟨zkh E.o.1.symm E.o.2.symm,zR⟩
 by_cases c2:6<s.size
 ·have E:=zaa (zln c0 (zsh c2));go_enter Tryz.func53,Tryz.ntmps53;go_wp2;go_ret2;exact⟨zkh E.o.1.symm E.o.2.symm,zR⟩
 have hconv:=run_bytes_of_string (P:=Tryz.prog) w 9 22 5 s Tryz.underlying9 Tryz.underlying22 Tryz.underlying5;generalize hcap:grownCap w s.size 0 5=cap at hconv
 have CELL:Hid (∀ k (h:k<s.size),(w.drew.alloc (.cells (bytesRow s cap) 5 ((bytesRow s cap).size,(bytesRow s cap).size+1))).cell? ⟨w.heap.size,k,none⟩=some (.int .u8 (s[k].toNat:Int))):=fun k h=>by
  have e:=World.cell?_alloc_mark w.drew (bytesRow s cap) 5 ((bytesRow s cap).size,(bytesRow s cap).size+1) k;rw[bytesRow_at s cap k h]at e;exact e
 have BB:Hid (zB w (w.drew.alloc (.cells (bytesRow s cap) 5 ((bytesRow s cap).size,(bytesRow s cap).size+1)))):=(zR.drew).alloc zL _;clear hcap;generalize w.drew.alloc (.cells (bytesRow s cap) 5 ((bytesRow s cap).size,(bytesRow s cap).size+1))=w1 at hconv CELL BB;go_enter Tryz.func53,Tryz.ntmps53;go_wp2
 go_loop [4,6,21] (fun n _ i=>∃ k:Nat,k<=s.size/\i=.I k/\n=.I ((pk s k:Nat):Int)/\Hid (∀ j (h:j<s.size),j<k->97<=s[j].toNat/\s[j].toNat<=122)) (fun _ _ i=>s.size-(intOf i).toNat)
 case atStart=>exact⟨0,by omega,rfl,by rw[zyr];rfl,fun j h b=>absurd b (by omega)⟩
 case round =>
  obtain⟨k,hk,rfl,rfl,H⟩:=hrel
  by_cases hlt:k<s.size
  ·have x0:=CELL.o k hlt;have bd:pk s k<387420489:=yapo H.o (by omega);have SU:=zaa (yajg s k hlt);have b255:s[k].toNat<256:=s[k].toNat_lt;have NO:=zaa (zop (s:=s) hlt)
   have NX:Hid (97<=s[k].toNat/\s[k].toNat<=122->∀ j (h:j<s.size),j<k+1->97<=s[j].toNat/\s[j].toNat<=122):=fun hx j h b=>by
    by_cases e:j=k
    ·subst e;exact hx
    ·exact H.o j h (by omega)
   generalize s[k].toNat=x at x0 SU b255 NO NX
   rcases(show((x:Int)<97)\/(¬ ((x:Int)<97)/\(122:Int)<(x:Int))\/(¬ ((x:Int)<97)/\¬ (122:Int)<(x:Int)) by omega)with d | ⟨d,d'⟩ | ⟨d,d'⟩
   ·have E:=zaa (zln c0 (NO.o (by omega)));go_wp2;go_ret2;exact⟨zkh E.o.1.symm E.o.2.symm,BB.o⟩
   ·have E:=zaa (zln c0 (NO.o (by omega)));go_wp2;go_ret2;exact⟨zkh E.o.1.symm E.o.2.symm,BB.o⟩
   ·go_wp2
    go_round
    case rel=>exact⟨k+1,by omega,by go_num,by rw[SU.o];congr 1;omega,NX.o (by omega)⟩
    case measure=>simp[intOf];omega
  ·have ek:k=s.size:=by omega
   subst ek;have E:=zaa (zzc (zyi (s:=s) (by omega) (by omega) (fun j h=>H.o j h h)));go_wp2;go_ret2;exact⟨zkh E.o.1.symm E.o.2.symm,BB.o⟩
theorem zxa(s:ByteArray)(w:World)(hs:nmB s=true):zC 193 #[.string s] w fun e w'=>e=.returned (.I ((pk s s.size:Nat):Int))/\w'=w:=by
 have N:=zaa (zes hs);have h6:s.size<=6:=(zes hs).2.1;clear hs;go_enter Tryz.func193,Tryz.ntmps193;go_wp2
 go_loop [3,4] (fun n i=>∃ k:Nat,k<=s.size/\i=.I k/\n=.I ((pk s k:Nat):Int)) (fun _ i=>s.size-(intOf i).toNat)
 case atStart=>exact⟨0,by omega,rfl,by rw[zyr];rfl⟩
 case round =>
  obtain⟨k,hk,rfl,rfl⟩:=hrel
  by_cases hlt:k<s.size
  ·have bd:pk s k<387420489:=yapo (fun j h _=>N.o.2.2 j h) (by omega);have SU:=zaa (yajg s k hlt);have b1:=N.o.2.2 k hlt;go_wp2
   go_round
   case rel=>exact⟨k+1,by omega,by go_num,by rw[SU.o];congr 1;omega⟩
   case measure=>simp[intOf];omega
  ·have ek:k=s.size:=by omega
   subst ek;go_wp2;go_ret;exact⟨rfl,rfl⟩
theorem zrj(n:Int)(w:World)(hn:n<=9223372036854775807):zC 58 #[.I n] w fun e w'=>(∃ s,e=.returned (.tuple #[.string s,.bool (zjx n)])/\(zjx n=true->s=unpS n))/\zB w w':=by
 obtain⟨N,hN,hN2,hN3⟩:∃ N:Nat,(0<n->n=(N:Int))/\(¬ 0<n->N=0)/\N<=9223372036854775807:=⟨n.toNat,fun h=>by omega,fun h=>by omega,by omega⟩
 have hdl:(zou N).length<=14:=yalp 14 N (by omega);go_enter Tryz.func58,Tryz.ntmps58;go_wp2
 go_loopw [0,4,5] (fun x o _ wr=>∃ (y:Int) (ds:List Nat),x=.I y/\o=.string (zcq ds)/\y<=9223372036854775807/\Hid ((0<n->∃ m:Nat,y=(m:Int)/\Dg N m ds)/\(¬ 0<n->¬ 0<y/\ds=[]))/\Hid (zB w wr)) (fun x _ _ _=>(intOf x).toNat)
 case atStart=>exact⟨n,[],rfl,rfl,hn,⟨fun h=>⟨N,hN h,Dg.start N⟩,fun h=>⟨h,rfl⟩⟩,zR⟩
 case round =>
  obtain⟨y,ds,rfl,rfl,hy,D,B⟩:=hrel
  by_cases c1:0<y
  ·have hp:0<n:=by
    rcases Decidable.em (0<n)with h | h
    ·exact h
    ·exact absurd c1 (D.o.2 h).1
   obtain⟨m,rfl,D1⟩:=D.o.1 hp;have D0:=zaa D1;clear D D1
   by_cases c2:m%27=0
   ·have E:Hid (zjx n=false):=by
     rw[hN hp];exact yajv D0.o (by omega) c2
    have c2':((m:Int)%27 == 0)=true:=by rw[beq_iff_eq];omega
    go_wp2;go_ret2;exact⟨⟨_,yanw rfl E.o.symm,fun h=>by rw[E.o]at h;cases h⟩,B.o⟩
   ·have c2':((m:Int)%27 == 0)=false:=by rw[beq_eq_false_iff_ne];omega
    have D2:=zaa (D0.o.step (by omega) c2);have hl14:ds.length<=14:=Nat.le_trans D0.o.len hdl
    have hcv:=run_convert_bytes_arg (P:=Tryz.prog) (wr.alloc (.cells #[.int .u8 (97+(m:Int)%27-1)] 5)) 22 5 Tryz.underlying22 Tryz.underlying5 wr.heap.size 0 1 1 [97+(m:Int)%27-1] rfl (fun i hi=>by
     obtain rfl:i=0:=by omega
     exact World.cell?_alloc_mark wr #[.int .u8 (97+(m:Int)%27-1)] 5 (0,0) 0) 9 Tryz.underlying9
    have eb:strOfNums [97+(m:Int)%27-1]=⟨#[UInt8.ofNat (96+m%27)]⟩:=by
     unfold strOfNums;simp only[List.map_cons,List.map_nil];rw[show(97+(m:Int)%27-1).toNat=96+m%27 by omega]
    rw[eb]at hcv;have had:=run_string_add_sum (P:=Tryz.prog) (wr.alloc (.cells #[.int .u8 (97+(m:Int)%27-1)] 5)) ⟨#[UInt8.ofNat (96+m%27)]⟩ (zcq ds) (by rw[zcb];show 1+_<=_;omega);rw[zug]at had;have B2:Hid (zB w (wr.alloc (.cells #[.int .u8 (97+(m:Int)%27-1)] 5))):=B.o.alloc B.o.size _;clear eb;generalize hbb:(⟨#[UInt8.ofNat (96+m%27)]⟩:ByteArray)=bb at hcv had;clear hbb;go_wp2
    go_roundw
    case rel=>exact⟨(m:Int)/27,m%27::ds,rfl,rfl,by omega,⟨fun _=>⟨m/27,by omega,D2.o⟩,fun h=>absurd hp h⟩,B2.o⟩
    case measure=>simp[intOf];omega
  ·have LEN:Hid (ds.length<=14/\nmB (zcq ds)=zjx n/\(zjx n=true->zcq ds=unpS n)):=by
    rcases Decidable.em (0<n)with hp | hp
    ·obtain⟨m,em,D1⟩:=D.o.1 hp
     obtain rfl:m=0:=by omega
     have en:=hN hp;have hl:=D1.len;have hd:=D1.done;refine⟨by omega,?_,fun h=>?_⟩
     ·by_cases c6:ds.length<=6
      ·have h1:1<=ds.length:=by rw[<- hd];exact yapl (by omega)
       rw[zyk D1.ok h1 c6,en];exact(decide_eq_true ⟨by omega,by rw[Int.toNat_natCast,hd];exact fun d x=>(D1.ok d x).1,by rw[Int.toNat_natCast,hd];exact c6⟩).symm
      ·rw[zsh (by rw[zcb];omega),en];exact(decide_eq_false (fun x=>by have:=x.2.2;rw[Int.toNat_natCast,hd]at this;omega)).symm
     ·unfold unpS;rw[if_pos h,en,Int.toNat_natCast,hd]
    ·obtain⟨_,rfl⟩:=D.o.2 hp;refine⟨by simp,?_,fun h=>?_⟩
     ·rw[zvt (by rw[zcb];simp),yaey hp]
     ·rw[yaey hp]at h;cases h
   have hsz:(zcq ds).size<=maxLen:=by
    have:=LEN.o.1;rw[zcb];unfold maxLen;omega
   go_wp2_with (go_at_call 89;refine(zed _ _ hsz).mono ?_;rintro e w' ⟨rfl,rfl⟩);go_ret2;exact⟨⟨_,yanw rfl LEN.o.2.1,LEN.o.2.2⟩,B.o⟩
def yakv(l:Array Bool):Nat:=(l.toList.filter fun b=>!b).length
theorem zvc{l:Array Bool}{i:Nat}(h:l.getD i true=false):yakv (l.setIfInBounds i true)+1=yakv l:=by
 have hi:i<l.size:=by
  rcases Nat.lt_or_ge i l.size with h1 | h1
  ·exact h1
  ·rw[Array.getD_eq_getD_getElem?,Array.getElem?_eq_none h1]at h;cases h
 have he:l[i]=false:=by
  rw[Array.getD_eq_getD_getElem?,Array.getElem?_eq_getElem hi]at h;exact h
 obtain⟨l⟩:=l;simp only[List.size_toArray]at hi;simp only[List.getElem_toArray]at he;unfold yakv;simp only[List.setIfInBounds_toArray]
 have e:l=l.take i++l[i]::l.drop (i+1):=by rw[List.getElem_cons_drop,List.take_append_drop]
 have e':l.set i true=l.take i++true::l.drop (i+1):=by rw[List.set_eq_take_append_cons_drop,if_pos hi]
 rw[e']
 conv=>rhs;rw[e]
 rw[he,List.filter_append,List.filter_append,List.length_append,List.length_append];simp;omega
theorem zqq{md:Region.Mode}{ops:Array Oper}{l:Array Bool}{i:Nat}(h:i∈Region.ready md ops l):i<ops.size/\l.getD i true=false/\∃ o,ops[i]?=some o/\∀ e∈o.after,Region.binds md e=true->l.getD e.on false=true:=by
 unfold Region.ready at h;rw[List.mem_filter,List.mem_range,Bool.and_eq_true]at h;obtain⟨h1,h2,h3⟩:=h;refine⟨h1,by simpa using h2,ops[i],Array.getElem?_eq_getElem h1,fun e he hb=>?_⟩;rw[Array.getElem?_eq_getElem h1]at h3;simp only[Option.map_some,Option.getD_some,Array.all_eq_true_iff_forall_mem]at h3;have:=h3 e he;rw[hb]at this;simpa using this
theorem zvk {P:Program} {md:Region.Mode} {ops:Array Oper} {Q:Exit->Act->World->Prop} (Inv:Array Bool->Act->World->Prop)
  (step:∀ l a w,Inv l a w->∀ i∈Region.ready md ops l,wpOp P ops Q i (Inv (l.setIfInBounds i true)) a w)
  (done:∀ l a w,Inv l a w->Region.ready md ops l=[]->Q .normal a w):∀ fuel l a w,yakv l<=fuel->Inv l a w->wpAny P md ops Q fuel l a w
 | 0,l,a,w,hf,h=>by
  have hr:Region.ready md ops l=[]:=by
   rw[List.eq_nil_iff_forall_not_mem];intro i hi;have:=zvc (zqq hi).2.1;omega
  exact⟨hr,done l a w h hr⟩
 | fuel+1,l,a,w,hf,h=>by
  refine⟨fun hr=>done l a w h hr,fun i hi=>?_⟩;refine wpOp_mono (fun a' w' h'=>zvk Inv step done fuel _ a' w' ?_ h') (step l a w h i hi);have:=zvc (zqq hi).2.1;omega
end Go.Proofs.YtfagbapgnocjiaaGreatDoor

namespace Go.Proofs.YtfagbapgnocjiaaGreatDoor
open Go.Shelf Go.RowKit
def zyf:Go.Shelf.Ren:=⟨fun | 103=>26 | 210=>51 | 206=>94 | n=>n,fun | 9=>9 | 4=>4 | 24=>59 | 3=>3 | n=>n,fun | n=>n⟩
theorem yaqk:Go.Proofs.Lays.n103 Tryz.prog zyf:={
 mixed:=by kernel_rfl
 f103:=Tryz.func26.trans (congrArg some (by kernel_rfl))
 f206:=Tryz.func94.trans (congrArg some (by kernel_rfl))
 f210:=Tryz.func51.trans (congrArg some (by kernel_rfl))
 t3:=Tryz.underlying3
 a3:=Tryz.isAgg3
 z3:=Tryz.sizeOf3
 v3:=Tryz.zeroValue3
 t4:=Tryz.underlying4
 a4:=Tryz.isAgg4
 z4:=Tryz.sizeOf4
 v4:=Tryz.zeroValue4
 t9:=Tryz.underlying9
 a9:=Tryz.isAgg9
 z9:=Tryz.sizeOf9
 v9:=Tryz.zeroValue9
 t24:=Tryz.underlying59
 a24:=Tryz.isAgg59
 z24:=Tryz.sizeOf59
 v24:=Tryz.zeroValue59 }
def zgf:Go.Shelf.Ren:=⟨fun | 146=>27 | 221=>52 | 268=>95 | 138=>96 | 143=>97 | 195=>130 | 197=>131 | 218=>132 | 219=>133 | 260=>156 | 217=>157 | 225=>158 | 224=>159 | 267=>160 | 266=>175 | 314=>176 | n=>n,fun | 9=>9 | 31=>28 | 3=>3 | 4=>4 | 0=>0 | 105=>163 | 21=>21 | 5=>5 | 46=>91 | 119=>201 | 139=>204 | 138=>203 | 146=>205 | 51=>126 | n=>n,fun | 1=>1 | 3=>3 | 4=>4 | n=>n⟩
theorem zwu:Go.Proofs.Lays.n146 Tryz.prog zgf:={
 mixed:=by kernel_rfl
 f138:=Tryz.func96.trans (congrArg some (by kernel_rfl))
 f143:=Tryz.func97.trans (congrArg some (by kernel_rfl))
 f146:=Tryz.func27.trans (congrArg some (by kernel_rfl))
 f195:=Tryz.func130.trans (congrArg some (by kernel_rfl))
 f197:=Tryz.func131.trans (congrArg some (by kernel_rfl))
 f217:=Tryz.func157.trans (congrArg some (by kernel_rfl))
 f218:=Tryz.func132.trans (congrArg some (by kernel_rfl))
 f219:=Tryz.func133.trans (congrArg some (by kernel_rfl))
 f221:=Tryz.func52.trans (congrArg some (by kernel_rfl))
 f224:=Tryz.func159.trans (congrArg some (by kernel_rfl))
 f225:=Tryz.func158.trans (congrArg some (by kernel_rfl))
 f260:=Tryz.func156.trans (congrArg some (by kernel_rfl))
 f266:=Tryz.func175.trans (congrArg some (by kernel_rfl))
 f267:=Tryz.func160.trans (congrArg some (by kernel_rfl))
 f268:=Tryz.func95.trans (congrArg some (by kernel_rfl))
 f314:=Tryz.func176.trans (congrArg some (by kernel_rfl))
 t0:=Tryz.underlying0
 a0:=Tryz.isAgg0
 z0:=Tryz.sizeOf0
 v0:=Tryz.zeroValue0
 t3:=Tryz.underlying3
 a3:=Tryz.isAgg3
 z3:=Tryz.sizeOf3
 v3:=Tryz.zeroValue3
 t4:=Tryz.underlying4
 a4:=Tryz.isAgg4
 z4:=Tryz.sizeOf4
 v4:=Tryz.zeroValue4
 t5:=Tryz.underlying5
 a5:=Tryz.isAgg5
 z5:=Tryz.sizeOf5
 v5:=Tryz.zeroValue5
 t9:=Tryz.underlying9
 a9:=Tryz.isAgg9
 z9:=Tryz.sizeOf9
 v9:=Tryz.zeroValue9
 t21:=Tryz.underlying21
 a21:=Tryz.isAgg21
 z21:=Tryz.sizeOf21
 v21:=Tryz.zeroValue21
 t31:=Tryz.underlying28
 a31:=Tryz.isAgg28
 z31:=Tryz.sizeOf28
 v31:=Tryz.zeroValue28
 t46:=Tryz.underlying91
 a46:=Tryz.isAgg91
 z46:=Tryz.sizeOf91
 v46:=Tryz.zeroValue91
 t51:=Tryz.underlying126
 a51:=Tryz.isAgg126
 z51:=Tryz.sizeOf126
 v51:=Tryz.zeroValue126
 t105:=Tryz.underlying163
 a105:=Tryz.isAgg163
 z105:=Tryz.sizeOf163
 v105:=Tryz.zeroValue163
 t119:=Tryz.underlying201
 a119:=Tryz.isAgg201
 z119:=Tryz.sizeOf201
 t138:=Tryz.underlying203
 a138:=Tryz.isAgg203
 z138:=Tryz.sizeOf203
 v138:=Tryz.zeroValue203
 t139:=Tryz.underlying204
 a139:=Tryz.isAgg204
 z139:=Tryz.sizeOf204
 v139:=Tryz.zeroValue204
 t146:=Tryz.underlying205
 a146:=Tryz.isAgg205
 z146:=Tryz.sizeOf205
 v146:=Tryz.zeroValue205
 g1:=by kernel_rfl
 g3:=by kernel_rfl
 g4:=by kernel_rfl }
def zxx:Go.Shelf.Ren:=⟨fun | 106=>20 | 213=>44 | 265=>86 | n=>n,fun | 9=>9 | 3=>3 | n=>n,fun | n=>n⟩
theorem yapf:Go.Proofs.Lays.n106 Tryz.prog zxx:={
 mixed:=by kernel_rfl
 f106:=Tryz.func20.trans (congrArg some (by kernel_rfl))
 f213:=Tryz.func44.trans (congrArg some (by kernel_rfl))
 f265:=Tryz.func86.trans (congrArg some (by kernel_rfl))
 t3:=Tryz.underlying3
 a3:=Tryz.isAgg3
 z3:=Tryz.sizeOf3
 v3:=Tryz.zeroValue3
 t9:=Tryz.underlying9
 a9:=Tryz.isAgg9
 z9:=Tryz.sizeOf9
 v9:=Tryz.zeroValue9 }
end Go.Proofs.YtfagbapgnocjiaaGreatDoor
