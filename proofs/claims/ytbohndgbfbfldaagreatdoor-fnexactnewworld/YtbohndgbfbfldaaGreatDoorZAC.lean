/- Several texts laid together: StoreS, ThA. -/
import Derived.Test.YtbohndgbfbfldaaGreatDoorIntS
set_option maxHeartbeats 1000000
namespace Go.Proofs.YtbohndgbfbfldaaGreatDoor
open Go.RowKit
structure St where
 at_:Int
 val:Int
 fl:Bool
deriving DecidableEq
def St.cells (s:St):List Value:=[.int .i64 s.at_,.int .i64 s.val,.bool s.fl]
def sts (ps:List St):List Value:=ps.flatMap St.cells
theorem St.cells_len (s:St):s.cells.length=3:=rfl
theorem yabl (ps:List St):(sts ps).length=ps.length*3:=zcu _ 3 St.cells_len ps
theorem zpu (ps:List St) (k:Nat) (h:k < ps.length):(sts ps)[k*3]?=some (.int .i64 ps[k].at_):=zam _ 3 St.cells_len ps k 0 h (by omega)
theorem zpx (ps:List St) (k:Nat) (h:k < ps.length):(sts ps)[k*3+1]?=some (.int .i64 ps[k].val):=zam _ 3 St.cells_len ps k 1 h (by omega)
theorem zou (ps:List St) (k:Nat) (h:k < ps.length):(sts ps)[k*3+2]?=some (.bool ps[k].fl):=zam _ 3 St.cells_len ps k 2 h (by omega)
def RdS (w:World) (v:Value) (ps:List St):Prop:=Rd w 3 v ps.length (sts ps)
theorem RdS.shape {w:World} {v:Value} {ps:List St} (h:RdS w v ps):∃ ao cap,v=.slice ao ps.length cap∧ps.length≤cap∧(0 < ps.length→∃ b o,ao=some ⟨b,o,none⟩∧b < w.heap.size ∧
  ∀ k (h:k < ps.length),w.cell? ⟨b,o+k*3,none⟩=some (.int .i64 ps[k].at_)∧w.cell? ⟨b,o+k*3+1,none⟩=some (.int .i64 ps[k].val)∧w.cell? ⟨b,o+k*3+2,none⟩=some (.bool ps[k].fl)):=by
 obtain ⟨_,ao,cap,rfl,h2,h3⟩:=h;refine ⟨ao,cap,rfl,h2.1,fun hn=>?_⟩;obtain ⟨b,o,rfl,hb,hc⟩:=h3 hn;exact ⟨b,o,rfl,hb,fun k hk=>⟨(hc (k*3) (by omega)).trans (zpu ps k hk),(hc (k*3+1) (by omega)).trans (zpx ps k hk),(hc (k*3+2) (by omega)).trans (zou ps k hk)⟩⟩
theorem yadp:(Tryz.prog.info? 207).map (fun i=>(i.zero,i.size,i.bytes))=some (some (.agg #[.int .i64 0,.int .i64 0,.bool false]),3,24):=by kernel_rfl
theorem zor (a v:Int) (f:Bool) (w:World):Calls Tryz.prog 202 #[.agg #[.int .i64 a,.int .i64 v,.bool f]] w fun e w'=>e=.returned (.agg #[.int .i64 a,.int .i64 v,.bool f])∧Below w.heap.size w w':=by
 go_enter Tryz.func202,Tryz.ntmps202;go_wp2;refine bodyPost_ret (v:=.agg #[.int .i64 a,.int .i64 v,.bool f]) (by simp[results,Tryz.results202,go_sem]) rfl ⟨rfl,?_⟩
 repeat (refine Below.alloc ?_ (by simp <;> omega) _)
 exact Below.refl _ _
def put3 (ys:List Value) (k:Nat) (a b c:Value):List Value:=((ys.set (k*3) a).set (k*3+1) b).set (k*3+2) c
theorem zxm (ys:List Value) (k:Nat) (a b c:Value):(put3 ys k a b c).length=ys.length:=by simp[put3]
theorem zdn {ys:List Value} {k:Nat} {a b c:Value} {j:Nat} (hj:j < ys.length):(put3 ys k a b c)[j]?=if j=k*3+2 then some c else if j=k*3+1 then some b else if j=k*3 then some a else ys[j]?:=by
 unfold put3;rw[zdv (by simpa using hj),zdv (by simpa using hj),zdv hj]
theorem zmf {ys:List Value} {ps:List St} {k:Nat} (hk:k < ps.length) (hl:ys.length=ps.length*3) (h:∀ j,j < k*3→ys[j]?=(sts ps)[j]?) :
  ∀ j,j < (k+1)*3→(put3 ys k (.int .i64 ps[k].at_) (.int .i64 ps[k].val) (.bool ps[k].fl))[j]?=(sts ps)[j]?:=by
 intro j hj;rw[zdn (by omega)]
 split
 ·rename_i e;rw[e,zou ps k hk]
 ·split
  ·rename_i e;rw[e,zpx ps k hk]
  ·split
   ·rename_i e;rw[e,zpu ps k hk]
   ·exact h j (by omega)
theorem ztd {ys:List Value} {ps:List St} (hl:ys.length=ps.length*3) (h:∀ j,j < ps.length*3→ys[j]?=(sts ps)[j]?):ys=sts ps:=by
 apply List.ext_getElem?;intro j
 by_cases hj:j < ps.length*3
 ·exact h j hj
 ·rw[List.getElem?_eq_none (by omega),List.getElem?_eq_none (by rw[yabl];omega)]
theorem Row.put3 {w:World} {e:TypeId} {lo hi:Nat} {b n cap:Nat} {ys:List Value} (h:Row w e 3 lo hi (.slice (some ⟨b,0,none⟩) n cap) n ys) (k:Nat) (x y z:Value) :
  Row (((w.setCell ⟨b,k*3,none⟩ x).setCell ⟨b,k*3+1,none⟩ y).setCell ⟨b,k*3+2,none⟩ z) e 3 lo hi (.slice (some ⟨b,0,none⟩) n cap) n (put3 ys k x y z) :=
 ((h.stored (k*3) x).stored (k*3+1) y).stored (k*3+2) z
theorem zmr (v:Value) (ps:List St) (w:World) (h:RdS w v ps) (hn:ps.length≤1048576) :
  Calls Tryz.prog 176 #[v] w fun e w'=>∃ v',e=.returned v'∧Row w' 207 3 w.heap.size w'.heap.size v' ps.length (sts ps)∧Below w.heap.size w w':=by
 obtain ⟨ao,cap,rfl,hcap,hc⟩:=h.shape;clear h;have hmk:=zbc (P:=Tryz.prog) 23 207 (.agg #[.int .i64 0,.int .i64 0,.bool false]) 3 24 Tryz.underlying23 yadp .i64 .i64 ps.length (by omega) (by omega);go_enter Tryz.func176,Tryz.ntmps176;go_wp2
 go_loopw [4] (fun i wr=>∃ k:Nat,k≤ps.length∧i=.int .i64 k∧(∃ ys,Row wr 207 3 w.heap.size (w.heap.size+1) (.slice (some ⟨w.heap.size,0,none⟩) ps.length ps.length) ps.length ys∧∀ j,j < k*3→ys[j]?=(sts ps)[j]?)∧Below w.heap.size w wr∧w.heap.size+1≤wr.heap.size) (fun i _=>ps.length - (intOf i).toNat)
 case atStart =>
  refine ⟨0,by omega,rfl,⟨_,zlk w (.agg #[.int .i64 0,.int .i64 0,.bool false]) 3 ps.length 207 (by simp[maxLen];omega),fun j hj=>absurd hj (by omega)⟩,(Below.refl _ _).alloc (Nat.le_refl _) _,by simp⟩
 case round =>
  obtain ⟨k,hk,rfl,⟨ys,hrow,hys⟩,hb,hz⟩:=hrel
  by_cases hlt:k < ps.length
  ·obtain ⟨b,o,rfl,hbl,hcell⟩:=hc (by omega);obtain ⟨c0,c1,c2⟩:=hcell k hlt;have d0:=(hb.cell (p:=⟨b,o+k*3,none⟩) hbl).trans c0;have d1:=(hb.cell (p:=⟨b,o+k*3+1,none⟩) hbl).trans c1;have d2:=(hb.cell (p:=⟨b,o+k*3+2,none⟩) hbl).trans c2;have RH:=zaa hrow;have YH:=zaa hys;clear hcell hc c0 c1 c2 hrow hys;go_wp2_with fail;refine (zor _ _ _ _).mono ?_;rintro e w1 ⟨rfl,hb1⟩;have R1:=zaa (RH.o.below hb1 (by omega))
   obtain ⟨_,_,_,hsz,hfr,hcl⟩:=R1.o.at
   have hl:=RH.o.len;have f0:=hfr (k*3);have f1:=hfr (k*3+1);have f2:=hfr (k*3+2)
   have e0:w1.cell? ⟨w.heap.size,k*3,none⟩=some (ys[k*3]'(by omega)):=by rw[hcl _ (by omega)];simp
   have e1:w1.cell? ⟨w.heap.size,k*3+1,none⟩=some (ys[k*3+1]'(by omega)):=by rw[hcl _ (by omega)];simp
   have e2:w1.cell? ⟨w.heap.size,k*3+2,none⟩=some (ys[k*3+2]'(by omega)):=by rw[hcl _ (by omega)];simp
   have BH:=zaa (hb.trans (hb1.mono (show w.heap.size≤wr.heap.size by omega)));have hz1:=hb1.size;clear hfr hcl hb1 hb d0 d1 d2;have P1:=zaa (R1.o.put3 k (.int .i64 ps[k].at_) (.int .i64 ps[k].val) (.bool ps[k].fl));have B1:=zaa (((BH.o.setCell (p:=⟨w.heap.size,k*3,none⟩) (Nat.le_refl _) (.int .i64 ps[k].at_)).setCell (p:=⟨w.heap.size,k*3+1,none⟩) (Nat.le_refl _) (.int .i64 ps[k].val)).setCell (p:=⟨w.heap.size,k*3+2,none⟩) (Nat.le_refl _) (.bool ps[k].fl));go_wp2
   go_roundw
   case rel=>exact ⟨k+1,by omega,by go_num,⟨_,P1.o,zmf hlt hl YH.o⟩,B1.o,by simp;omega⟩
   case measure=>simp[intOf];omega
  ·have e:k=ps.length:=by omega
   subst e;have hl:=hrow.len;have RH:=zaa hrow;have YH:=zaa hys;clear hrow hys hc;go_wp2;go_ret;have e:=ztd hl YH.o;refine ⟨_,rfl,?_,hb⟩;rw[← e];exact RH.o.wide (Nat.le_refl _) hz
theorem zgh (ao:Option Addr) (n cap:Nat) (left:Int) (w:World) (hn:n≤maxLen) (h0:0≤left) (h1:left≤1048576) :
  Calls Tryz.prog 166 #[.slice ao n cap,.int .i64 left] w fun e w'=>e=.returned (.int .i64 (zdr left n))∧w'=w:=by
 unfold maxLen at hn
 by_cases h:left < n
 ·have e:zdr left n=-1:=by unfold zdr;rw[if_pos h]
  rw[e];clear e;go_enter Tryz.func166,Tryz.ntmps166;go_wp2;go_ret;exact ⟨rfl,rfl⟩
 ·have e:zdr left n=left - n:=by unfold zdr;rw[if_neg h]
  rw[e];clear e;go_enter Tryz.func166,Tryz.ntmps166;go_wp2;go_ret;exact ⟨rfl,rfl⟩
theorem zmk (a v:Int) (f:Bool) (w:World):Calls Tryz.prog 198 #[.agg #[.int .i64 a,.int .i64 v,.bool f],.agg #[.int .i64 a,.int .i64 v,.bool f]] w fun e w'=>e=.returned (.bool true)∧Below w.heap.size w w':=by
 go_enter Tryz.func198,Tryz.ntmps198;go_wp2;go_ret;refine ⟨rfl,?_⟩
 repeat (refine Below.alloc ?_ (by simp <;> omega) _)
 exact Below.refl _ _
structure Th where
 kind:Int
 links:Int
 pages:List Int
def thZ:Th:=⟨0,0,[]⟩
def thc (u:Th×Value):List Value:=[.int .i64 u.1.kind,.int .i64 u.1.links,u.2]
def thv (us:List (Th×Value)):List Value:=us.flatMap thc
theorem zes (u:Th×Value):(thc u).length=3:=rfl
theorem zhw (us:List (Th×Value)):(thv us).length=us.length*3:=zcu _ 3 zes us
theorem zlh (us:List (Th×Value)) (k:Nat) (h:k < us.length):(thv us)[k*3]?=some (.int .i64 us[k].1.kind):=zam _ 3 zes us k 0 h (by omega)
theorem zlt (us:List (Th×Value)) (k:Nat) (h:k < us.length):(thv us)[k*3+1]?=some (.int .i64 us[k].1.links):=zam _ 3 zes us k 1 h (by omega)
theorem zko (us:List (Th×Value)) (k:Nat) (h:k < us.length):(thv us)[k*3+2]?=some us[k].2:=zam _ 3 zes us k 2 h (by omega)
theorem yaca (us vs:List (Th×Value)):thv (us ++ vs)=thv us ++ thv vs:=by simp[thv]
def RdU (w:World) (v:Value) (us:List (Th×Value)):Prop:=Rd w 3 v us.length (thv us)∧∀ k (h:k < us.length),RdI w us[k].2 us[k].1.pages
def RdTh (w:World) (v:Value) (ts:List Th):Prop:=∃ us:List (Th×Value),us.map Prod.fst=ts∧RdU w v us
theorem RdU.below {w w':World} {v:Value} {us:List (Th×Value)} (h:RdU w v us) (hb:Below w.heap.size w w'):RdU w' v us:=⟨Rd.below h.1 hb,fun k hk=>Rd.below (h.2 k hk) hb⟩
theorem RdTh.below {w w':World} {v:Value} {ts:List Th} (h:RdTh w v ts) (hb:Below w.heap.size w w'):RdTh w' v ts:=by
 obtain ⟨us,e,r⟩:=h;exact ⟨us,e,r.below hb⟩
theorem RdU.shape {w:World} {v:Value} {us:List (Th×Value)} (h:RdU w v us):∃ ao cap,v=.slice ao us.length cap∧us.length≤cap∧(0 < us.length→∃ b o,ao=some ⟨b,o,none⟩∧b < w.heap.size ∧
  ∀ k (h:k < us.length),w.cell? ⟨b,o+k*3,none⟩=some (.int .i64 us[k].1.kind)∧w.cell? ⟨b,o+k*3+1,none⟩=some (.int .i64 us[k].1.links)∧w.cell? ⟨b,o+k*3+2,none⟩=some us[k].2):=by
 obtain ⟨⟨h1,ao,cap,rfl,h2,h3⟩,-⟩:=h;refine ⟨ao,cap,rfl,h2.1,fun hp=>?_⟩;obtain ⟨b,o,rfl,hb,hc⟩:=h3 hp;refine ⟨b,o,rfl,hb,fun k hk=>⟨?_,?_,?_⟩⟩
 ·exact (hc (k*3) (by omega)).trans (zlh us k hk)
 ·exact (hc (k*3+1) (by omega)).trans (zlt us k hk)
 ·exact (hc (k*3+2) (by omega)).trans (zko us k hk)
def Apt (a b:Value):Prop:=∀ x,a.ownBlock=some x→¬ b.ownBlock=some x
structure OwU (w:World) (lo hi:Nat) (v:Value) (us:List (Th×Value)):Prop where
 row:Row w 128 3 lo hi v us.length (thv us)
 pg:∀ k (h:k < us.length),Row w 3 1 lo hi us[k].2 us[k].1.pages.length (zbk us[k].1.pages)
 ap:∀ j k (hj:j < us.length) (hk:k < us.length),¬ j=k→Apt us[j].2 us[k].2
def RowTh (w:World) (lo hi:Nat) (v:Value) (ts:List Th):Prop:=∃ us:List (Th×Value),us.map Prod.fst=ts∧OwU w lo hi v us
theorem OwU.rd {w:World} {lo hi:Nat} {v:Value} {us:List (Th×Value)} (h:OwU w lo hi v us):RdU w v us:=⟨h.row.rd,fun k hk=>(h.pg k hk).rd⟩
theorem RowTh.rd {w:World} {lo hi:Nat} {v:Value} {ts:List Th} (h:RowTh w lo hi v ts):RdTh w v ts:=by
 obtain ⟨us,e,r⟩:=h;exact ⟨us,e,r.rd⟩
theorem OwU.below {w w':World} {lo hi:Nat} {v:Value} {us:List (Th×Value)} (h:OwU w lo hi v us) {B:Nat} (hb:Below B w w') (hB:hi≤B):OwU w' lo hi v us:=⟨h.row.below hb hB,fun k hk=>(h.pg k hk).below hb hB,h.ap⟩
theorem RowTh.below {w w':World} {lo hi:Nat} {v:Value} {ts:List Th} (h:RowTh w lo hi v ts) {B:Nat} (hb:Below B w w') (hB:hi≤B):RowTh w' lo hi v ts:=by
 obtain ⟨us,e,r⟩:=h;exact ⟨us,e,r.below hb hB⟩
theorem OwU.outside {w w':World} {lo hi:Nat} {v:Value} {us:List (Th×Value)} (h:OwU w lo hi v us) {lo' hi':Nat} (ho:Outside lo' hi' w w') (hd:hi≤lo'∨hi'≤lo) (hz:hi≤w.heap.size):OwU w' lo hi v us:=⟨h.row.outside ho hd hz,fun k hk=>(h.pg k hk).outside ho hd hz,h.ap⟩
theorem RowTh.outside {w w':World} {lo hi:Nat} {v:Value} {ts:List Th} (h:RowTh w lo hi v ts) {lo' hi':Nat} (ho:Outside lo' hi' w w') (hd:hi≤lo'∨hi'≤lo) (hz:hi≤w.heap.size):RowTh w' lo hi v ts:=by
 obtain ⟨us,e,r⟩:=h;exact ⟨us,e,r.outside ho hd hz⟩
theorem RowTh.nil (w:World) (lo hi:Nat):RowTh w lo hi (.slice none 0 0) []:=⟨[],rfl,⟨Row.nil _ _ _ _ _,fun k h=>absurd h (by simp),fun j k h=>absurd h (by simp)⟩⟩
theorem zdl {us:List (Th×Value)} {ts:List Th} (e:us.map Prod.fst=ts):us.length=ts.length:=by rw[← e,List.length_map]
theorem zki {us:List (Th×Value)} {ts:List Th} (e:us.map Prod.fst=ts) (k:Nat) (h:k < us.length):us[k].1=ts[k]'(by rw[← zdl e];exact h):=by
 subst e;simp
theorem yaci {w w':World} {e e':TypeId} {s s' lo hi lo' hi':Nat} {v v':Value} {n n':Nat} {xs xs':List Value} (h:Row w e s lo hi v n xs) (h':Row w' e' s' lo' hi' v' n' xs') (hd:hi≤lo'∨hi'≤lo):Apt v v':=fun x a b=>by
 have p:=(h.1.lt x a).1;have q:=h.2 x a;have r:=(h'.1.lt x b).1;have s:=h'.2 x b;omega
theorem Apt.symm {a b:Value} (h:Apt a b):Apt b a:=fun x p q=>h x q p
theorem znl:(Tryz.prog.info? 128).map (fun i=>(i.zero,i.size,i.bytes))=some (some (.agg #[.int .i64 0,.int .i64 0,.slice none 0 0]),3,40):=by kernel_rfl
def zci:List Th→Nat
 | []=>0
 | t :: ts=>t.pages.length+zci ts
theorem zkn:∀ (a b:List Th),zci (a ++ b)=zci a+zci b
 | [],b=>by simp[zci]
 | t :: a,b=>by
  show t.pages.length+zci (a ++ b)=t.pages.length+zci a+zci b
  rw[zkn a b];omega
theorem zns {ts:List Th} {k:Nat} (h:k < ts.length):zci (ts.take (k+1))=zci (ts.take k)+ts[k].pages.length:=by
 rw[List.take_add_one,List.getElem?_eq_getElem h,zkn];rfl
theorem znf (ts:List Th) (k:Nat):zci (ts.take k)≤zci ts:=by
 have e:zci (ts.take k ++ ts.drop k)=zci (ts.take k)+zci (ts.drop k):=zkn _ _;rw[List.take_append_drop] at e;omega
theorem zqe {ts:List Th} {k:Nat} (h:k < ts.length):ts[k].pages.length≤zci ts:=by
 have a:=zns h;have b:=znf ts (k+1);omega
end Go.Proofs.YtbohndgbfbfldaaGreatDoor
