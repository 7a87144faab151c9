/- Several texts laid together: ThA, WdM. -/
import Derived.Test.YtbohndgbfbfldaaGreatDoorZAB
import Derived.WalkKit
namespace Go.Proofs.YtbohndgbfbfldaaGreatDoor
open Go.RowKit
structure Th where
 kind:Int
 links:Int
 pages:List Int
def thc (u:Th×Value):List Value:=[.int .i64 u.1.kind,.int .i64 u.1.links,u.2]
def thv (us:List (Th×Value)):List Value:=us.flatMap thc
theorem zig (u:Th×Value):(thc u).length=3:=rfl
theorem zpx (us:List (Th×Value)):(thv us).length=us.length*3:=zby _ 3 zig us
theorem yacj (us:List (Th×Value)) (k:Nat) (h:k < us.length):(thv us)[k*3]?=some (.int .i64 us[k].1.kind):=zan _ 3 zig us k 0 h (by omega)
theorem yabg (us:List (Th×Value)) (k:Nat) (h:k < us.length):(thv us)[k*3+1]?=some (.int .i64 us[k].1.links):=zan _ 3 zig us k 1 h (by omega)
theorem yabz (us:List (Th×Value)) (k:Nat) (h:k < us.length):(thv us)[k*3+2]?=some us[k].2:=zan _ 3 zig us k 2 h (by omega)
theorem yaba (us vs:List (Th×Value)):thv (us ++ vs)=thv us ++ thv vs:=by simp[thv]
def RdU (w:World) (v:Value) (us:List (Th×Value)):Prop:=Rd w 3 v us.length (thv us)∧∀ k (h:k < us.length),RdI w us[k].2 us[k].1.pages
def RdTh (w:World) (v:Value) (ts:List Th):Prop:=∃ us:List (Th×Value),us.map Prod.fst=ts∧RdU w v us
theorem RdU.below {w w':World} {v:Value} {us:List (Th×Value)} (h:RdU w v us) (hb:Below w.heap.size w w'):RdU w' v us:=⟨Rd.below h.1 hb,fun k hk=>Rd.below (h.2 k hk) hb⟩
theorem RdTh.below {w w':World} {v:Value} {ts:List Th} (h:RdTh w v ts) (hb:Below w.heap.size w w'):RdTh w' v ts:=by
 obtain ⟨us,e,r⟩:=h;exact ⟨us,e,r.below hb⟩
theorem RdU.shape {w:World} {v:Value} {us:List (Th×Value)} (h:RdU w v us):∃ ao cap,v=.slice ao us.length cap∧us.length≤cap∧(0 < us.length→∃ b o,ao=some ⟨b,o,none⟩∧b < w.heap.size ∧
  ∀ k (h:k < us.length),w.cell? ⟨b,o+k*3,none⟩=some (.int .i64 us[k].1.kind)∧w.cell? ⟨b,o+k*3+1,none⟩=some (.int .i64 us[k].1.links)∧w.cell? ⟨b,o+k*3+2,none⟩=some us[k].2):=by
 obtain ⟨⟨h1,ao,cap,rfl,h2,h3⟩,-⟩:=h;refine ⟨ao,cap,rfl,h2.1,fun hp=>?_⟩;obtain ⟨b,o,rfl,hb,hc⟩:=h3 hp;refine ⟨b,o,rfl,hb,fun k hk=>⟨?_,?_,?_⟩⟩
 ·exact (hc (k*3) (by omega)).trans (yacj us k hk)
 ·exact (hc (k*3+1) (by omega)).trans (yabg us k hk)
 ·exact (hc (k*3+2) (by omega)).trans (yabz us k hk)
theorem RdU.val {w:World} {v:Value} {us:List (Th×Value)} (h:RdU w v us) (k:Nat) (hk:k < us.length):∃ ao cap,us[k].2=.slice ao us[k].1.pages.length cap:=by
 obtain ⟨ao,cap,e,-⟩:=(h.2 k hk).shape;exact ⟨ao,cap,e⟩
def Apt (a b:Value):Prop:=∀ x,a.ownBlock=some x→¬ b.ownBlock=some x
structure OwU (w:World) (lo hi:Nat) (v:Value) (us:List (Th×Value)):Prop where
 row:Row w 128 3 lo hi v us.length (thv us)
 pg:∀ k (h:k < us.length),Row w 3 1 lo hi us[k].2 us[k].1.pages.length (zdi us[k].1.pages)
 ap:∀ j k (hj:j < us.length) (hk:k < us.length),¬ j=k→Apt us[j].2 us[k].2
def RowTh (w:World) (lo hi:Nat) (v:Value) (ts:List Th):Prop:=∃ us:List (Th×Value),us.map Prod.fst=ts∧OwU w lo hi v us
theorem OwU.rd {w:World} {lo hi:Nat} {v:Value} {us:List (Th×Value)} (h:OwU w lo hi v us):RdU w v us:=⟨h.row.rd,fun k hk=>(h.pg k hk).rd⟩
theorem RowTh.rd {w:World} {lo hi:Nat} {v:Value} {ts:List Th} (h:RowTh w lo hi v ts):RdTh w v ts:=by
 obtain ⟨us,e,r⟩:=h;exact ⟨us,e,r.rd⟩
theorem OwU.below {w w':World} {lo hi:Nat} {v:Value} {us:List (Th×Value)} (h:OwU w lo hi v us) {B:Nat} (hb:Below B w w') (hB:hi≤B):OwU w' lo hi v us:=⟨h.row.below hb hB,fun k hk=>(h.pg k hk).below hb hB,h.ap⟩
theorem RowTh.below {w w':World} {lo hi:Nat} {v:Value} {ts:List Th} (h:RowTh w lo hi v ts) {B:Nat} (hb:Below B w w') (hB:hi≤B):RowTh w' lo hi v ts:=by
 obtain ⟨us,e,r⟩:=h;exact ⟨us,e,r.below hb hB⟩
theorem OwU.wide {w:World} {lo hi:Nat} {v:Value} {us:List (Th×Value)} (h:OwU w lo hi v us) {lo' hi':Nat} (a:lo'≤lo) (b:hi≤hi'):OwU w lo' hi' v us:=⟨h.row.wide a b,fun k hk=>(h.pg k hk).wide a b,h.ap⟩
theorem RowTh.wide {w:World} {lo hi:Nat} {v:Value} {ts:List Th} (h:RowTh w lo hi v ts) {lo' hi':Nat} (a:lo'≤lo) (b:hi≤hi'):RowTh w lo' hi' v ts:=by
 obtain ⟨us,e,r⟩:=h;exact ⟨us,e,r.wide a b⟩
theorem OwU.outside {w w':World} {lo hi:Nat} {v:Value} {us:List (Th×Value)} (h:OwU w lo hi v us) {lo' hi':Nat} (ho:Outside lo' hi' w w') (hd:hi≤lo'∨hi'≤lo) (hz:hi≤w.heap.size):OwU w' lo hi v us:=⟨h.row.outside ho hd hz,fun k hk=>(h.pg k hk).outside ho hd hz,h.ap⟩
theorem RowTh.outside {w w':World} {lo hi:Nat} {v:Value} {ts:List Th} (h:RowTh w lo hi v ts) {lo' hi':Nat} (ho:Outside lo' hi' w w') (hd:hi≤lo'∨hi'≤lo) (hz:hi≤w.heap.size):RowTh w' lo hi v ts:=by
 obtain ⟨us,e,r⟩:=h;exact ⟨us,e,r.outside ho hd hz⟩
theorem zda {us:List (Th×Value)} {ts:List Th} (e:us.map Prod.fst=ts):us.length=ts.length:=by rw[← e,List.length_map]
theorem zjm {us:List (Th×Value)} {ts:List Th} (e:us.map Prod.fst=ts) (k:Nat) (h:k < us.length):us[k].1=ts[k]'(by rw[← zda e];exact h):=by
 subst e;simp
theorem ztr {w w':World} {e e':TypeId} {s s' lo hi lo' hi':Nat} {v v':Value} {n n':Nat} {xs xs':List Value} (h:Row w e s lo hi v n xs) (h':Row w' e' s' lo' hi' v' n' xs') (hd:hi≤lo'∨hi'≤lo):Apt v v':=fun x a b=>by
 have p:=(h.1.lt x a).1;have q:=h.2 x a;have r:=(h'.1.lt x b).1;have s:=h'.2 x b;omega
theorem Apt.symm {a b:Value} (h:Apt a b):Apt b a:=fun x p q=>h x q p
theorem zwd:(Tryz.prog.info? 128).map (fun i=>(i.zero,i.size,i.bytes))=some (some (.agg #[.int .i64 0,.int .i64 0,.slice none 0 0]),3,40):=by kernel_rfl
def zez:List Th→Nat
 | []=>0
 | t :: ts=>t.pages.length+zez ts
theorem zli:∀ (a b:List Th),zez (a ++ b)=zez a+zez b
 | [],b=>by simp[zez]
 | t :: a,b=>by
  show t.pages.length+zez (a ++ b)=t.pages.length+zez a+zez b
  rw[zli a b];omega
theorem znu {ts:List Th} {k:Nat} (h:k < ts.length):zez (ts.take (k+1))=zez (ts.take k)+ts[k].pages.length:=by
 rw[List.take_add_one,List.getElem?_eq_getElem h,zli];rfl
theorem zvx (ts:List Th) (k:Nat):zez (ts.take k)≤zez ts:=by
 have e:zez (ts.take k ++ ts.drop k)=zez (ts.take k)+zez (ts.drop k):=zli _ _;rw[List.take_append_drop] at e;omega
theorem yacp {ts:List Th} {k:Nat} (h:k < ts.length):ts[k].pages.length≤zez ts:=by
 have a:=znu h;have b:=zvx ts (k+1);omega
end Go.Proofs.YtbohndgbfbfldaaGreatDoor

namespace Go.Proofs.YtbohndgbfbfldaaGreatDoor
def zkx (n:Nat):List Nat:=if _h:n=0 then [] else zkx (n / 27) ++ [n % 27]
termination_by n
decreasing_by omega
theorem zie:zkx 0=[]:=by rw[zkx];simp
theorem zex {n:Nat} (h:0 < n):zkx n=zkx (n / 27) ++ [n % 27]:=by rw[zkx];simp[show n≠0 by omega]
def val (ds:List Nat):Nat:=ds.foldl (fun a d=>27*a+d) 0
theorem zqq (ds:List Nat) (d:Nat):val (ds ++ [d])=27*val ds+d:=by simp[val]
theorem zvl {n:Nat} (h:0 < n):1≤(zkx n).length:=by rw[zex h];simp
theorem zxg {α:Type} {P:List α→Prop} (h0:P []) (h1:∀ l x,P l→P (l ++ [x])):∀ l,P l:=by
 intro l
 have:∀ n (l:List α),l.length=n→P l:=by
  intro n
  induction n with
  | zero=>intro l hl;rw[List.length_eq_zero_iff.1 hl];exact h0
  | succ n ih =>
   intro l hl
   have hne:l≠[]:=by intro h;subst h;simp at hl
   rw[← List.dropLast_concat_getLast hne];exact h1 _ _ (ih _ (by simp[hl]))
 exact this _ l rfl
theorem yadl (ds:List Nat):(∀ d∈ds,d < 27)→val ds < 27 ^ ds.length:=by
 refine zxg (P:=fun ds=>(∀ d∈ds,d < 27)→val ds < 27 ^ ds.length) (fun _=>by simp[val]) (fun l x ih h=>?_) ds;have hx:=h x (by simp);have:=ih (fun d hd=>h d (by simp[hd]));rw[zqq,List.length_append,List.length_singleton,Nat.pow_succ];omega
theorem zwt (k:Nat):∀ n,n < 27 ^ k→(zkx n).length≤k:=by
 induction k with
 | zero =>
  intro n h
  have:n=0:=by simpa using h
  subst this;rw[zie];simp
 | succ k ih =>
  intro n h
  by_cases h0:n=0
  ·subst h0;rw[zie];simp
  ·rw[zex (by omega),List.length_append,List.length_singleton];have:=ih (n / 27) (by rw[Nat.pow_succ] at h;omega);omega
structure Dg (n m:Nat) (ds:List Nat):Prop where
 eq:zkx n=zkx m ++ ds
 ok:∀ d∈ds,1≤d∧d < 27
theorem Dg.start (n:Nat):Dg n n []:=⟨by simp,fun d h=>by cases h⟩
theorem Dg.step {n m:Nat} {ds:List Nat} (h:Dg n m ds) (hm:0 < m) (h1:m % 27≠0):Dg n (m / 27) (m % 27 :: ds) :=
 ⟨by rw[h.eq,zex hm];simp,fun d hd=>by
  rcases List.mem_cons.1 hd with rfl | hd
  ·omega
  ·exact h.ok d hd⟩
theorem Dg.zero {n m:Nat} {ds:List Nat} (h:Dg n m ds) (hm:0 < m) (h0:m % 27=0):¬ ∀ d∈zkx n,1≤d:=fun x=>by
 have:=x (m % 27) (by rw[h.eq,zex hm];simp);omega
theorem Dg.many {n m:Nat} {ds:List Nat} (h:Dg n m ds) (hm:0 < m):ds.length < (zkx n).length:=by
 rw[h.eq,zex hm];simp;omega
theorem Dg.len {n m:Nat} {ds:List Nat} (h:Dg n m ds):ds.length≤(zkx n).length:=by rw[h.eq];simp
theorem Dg.done {n:Nat} {ds:List Nat} (h:Dg n 0 ds):zkx n=ds:=by rw[h.eq,zie];simp
def nmB (s:ByteArray):Bool:=decide (1≤s.size∧s.size≤6∧∀ j (h:j < s.size),97≤s[j].toNat∧s[j].toNat≤122)
theorem zny {s:ByteArray} (h:s.size < 1):nmB s=false:=decide_eq_false (fun x=>by omega)
theorem zkt {s:ByteArray} (h:6 < s.size):nmB s=false:=decide_eq_false (fun x=>by omega)
theorem zii {s:ByteArray} {k:Nat} (h:k < s.size) (hb:¬ (97≤s[k].toNat∧s[k].toNat≤122)):nmB s=false:=decide_eq_false (fun x=>hb (x.2.2 k h))
theorem zpf {s:ByteArray} (h0:1≤s.size) (h6:s.size≤6) (h:∀ j (h:j < s.size),97≤s[j].toNat∧s[j].toNat≤122):nmB s=true:=decide_eq_true ⟨h0,h6,h⟩
theorem zwp {s:ByteArray} (h:nmB s=true):1≤s.size∧s.size≤6∧∀ j (h:j < s.size),97≤s[j].toNat∧s[j].toNat≤122:=of_decide_eq_true h
def letD (b:UInt8):Nat:=b.toNat - 96
def ltrs (s:ByteArray):List Nat:=s.data.toList.map letD
def pk (s:ByteArray) (k:Nat):Nat:=val ((ltrs s).take k)
theorem zlg (s:ByteArray):(ltrs s).length=s.size:=by unfold ltrs;rw[List.length_map,Array.length_toList];rfl
theorem zup (s:ByteArray) (j:Nat) (h:j < s.size):(ltrs s)[j]'(by rw[zlg];exact h)=s[j].toNat - 96:=by
 simp only[ltrs,List.getElem_map,letD,Array.getElem_toList];rfl
theorem yaaq (s:ByteArray):pk s 0=0:=by simp[pk,val]
theorem yaan (s:ByteArray) (k:Nat) (h:k < s.size):pk s (k+1)=27*pk s k+(s[k].toNat - 96):=by
 unfold pk;rw[List.take_succ_eq_append_getElem (by rw[zlg];exact h),zqq,zup s k h]
theorem yael {s:ByteArray} {k:Nat} (hl:∀ j (h:j < s.size),j < k→97≤s[j].toNat∧s[j].toNat≤122) (h6:k≤6):pk s k < 387420489:=by
 have h1:pk s k < 27 ^ ((ltrs s).take k).length:=by
  unfold pk;apply yadl;intro d hd;obtain ⟨i,hi,rfl⟩:=List.getElem_of_mem hd;simp only[List.length_take,zlg] at hi;rw[List.getElem_take,zup s i (by omega)];have:=hl i (by omega) (by omega);omega
 have h2:((ltrs s).take k).length≤6:=by simp only[List.length_take];omega
 have h3:27 ^ ((ltrs s).take k).length≤27 ^ 6:=Nat.pow_le_pow_right (by omega) h2;omega
def zbi (ds:List Nat):ByteArray:=⟨(ds.map fun d=>UInt8.ofNat (96+d)).toArray⟩
theorem zbd (ds:List Nat):(zbi ds).size=ds.length:=by simp[zbi,ByteArray.size]
theorem zsr (ds:List Nat) (j:Nat) (h:j < (zbi ds).size) (hd:∀ d∈ds,d < 27):(zbi ds)[j].toNat=96+ds[j]'(by rw[zbd] at h;exact h):=by
 have hj:j < ds.length:=by rw[zbd] at h;exact h
 have:=hd _ (List.getElem_mem hj)
 have e:(zbi ds)[j]=UInt8.ofNat (96+ds[j]):=by
  have e1:(zbi ds)[j]=((ds.map fun d=>UInt8.ofNat (96+d)).toArray)[j]'(by simpa using hj):=rfl;rw[e1,List.getElem_toArray,List.getElem_map]
 rw[e,UInt8.toNat_ofNat'];omega
theorem zmb (d:Nat) (ds:List Nat):(⟨#[UInt8.ofNat (96+d)]⟩:ByteArray) ++ zbi ds=zbi (d :: ds):=by
 apply ByteArray.ext;simp[zbi]
theorem zpt {ds:List Nat} (hd:∀ d∈ds,1≤d∧d < 27) (h1:1≤ds.length) (h6:ds.length≤6):nmB (zbi ds)=true:=by
 refine zpf (by rw[zbd];exact h1) (by rw[zbd];exact h6) (fun j h=>?_);rw[zsr ds j h (fun d x=>(hd d x).2)];have:=hd _ (List.getElem_mem (by rw[zbd] at h;exact h));omega
def zdb (n:Int):Bool:=decide (0 < n∧(∀ d∈zkx n.toNat,1≤d)∧(zkx n.toNat).length≤6)
def zoh (n:Int):ByteArray:=if zdb n=true then zbi (zkx n.toNat) else ⟨#[]⟩
def unpC (n:Int):Int:=if zdb n=true then 0 else 3
def zmi (s:ByteArray):Int:=if nmB s=true then (pk s s.size:Nat) else 0
def zjc (s:ByteArray):Int:=if 65536 < s.size then 2 else if nmB s=true then 0 else 12
theorem zop {n:Int} (h:zdb n=false):zoh n=⟨#[]⟩∧unpC n=3:=by unfold zoh unpC;rw[h];exact ⟨rfl,rfl⟩
theorem zpm {n:Int} (h:¬ 0 < n):zdb n=false:=decide_eq_false (fun x=>h x.1)
theorem zrf {n:Nat} {m:Nat} {ds:List Nat} (h:Dg n m ds) (hm:0 < m) (h0:m % 27=0):zdb (n:Int)=false:=decide_eq_false (fun x=>h.zero hm h0 x.2.1)
theorem zyc {n:Nat} {m:Nat} {ds:List Nat} (h:Dg n m ds) (hm:0 < m) (h6:6≤ds.length):zdb (n:Int)=false:=decide_eq_false (fun x=>by have:=h.many hm;have:=x.2.2;simp only[Int.toNat_natCast] at this;omega)
theorem zxj {n:Nat} {ds:List Nat} (h:Dg n 0 ds) (hn:0 < n) (h6:ds.length≤6):zoh (n:Int)=zbi ds∧unpC (n:Int)=0:=by
 have g:zdb (n:Int)=true:=decide_eq_true ⟨by omega,by rw[Int.toNat_natCast,h.done];exact fun d x=>(h.ok d x).1,by rw[Int.toNat_natCast,h.done];exact h6⟩;unfold zoh unpC;rw[if_pos g,if_pos g,Int.toNat_natCast,h.done];exact ⟨rfl,rfl⟩
end Go.Proofs.YtbohndgbfbfldaaGreatDoor
