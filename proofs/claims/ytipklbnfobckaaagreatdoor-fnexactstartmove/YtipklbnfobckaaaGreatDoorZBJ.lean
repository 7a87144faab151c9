/- Several texts laid together: DuA, TrD, JiF, JiG. -/
import Derived.Test.YtipklbnfobckaaaGreatDoorZBF
import Derived.Test.YtipklbnfobckaaaGreatDoorZBI
import Derived.Test.YtipklbnfobckaaaGreatDoorZAH
import Derived.Test.YtipklbnfobckaaaGreatDoorZBG
import Derived.Laws.CopyOwn
import Derived.Laws.Cover3
import Derived.Test.YtipklbnfobckaaaGreatDoorZAR
import Derived.Test.YtipklbnfobckaaaGreatDoorZAG
import Derived.Test.YtipklbnfobckaaaGreatDoorZBC
namespace Go.Proofs.YtipklbnfobckaaaGreatDoor
open Go.RowKit

theorem dv_blk {ws : List Int} {ps : List St} {es : List Int} {qs : List Se} (h : zeh es qs = false) : dvN ws ps es qs = [] ∧ dvD ws ps es qs = [] := (dv_not (by rw [h, Bool.and_false])).2
theorem dv_ri {ws : List Int} {ps : List St} {es : List Int} {qs : List Se} (h : zeh es qs = true) : dvN ws ps es qs = riN ws ps ∧ dvD ws ps es qs = riD ws ps := by
 cases p : pmB ws ps with
 | true => exact (dv_form (by rw [p, h]; rfl)).2
 | false =>
  obtain ⟨-, a, b⟩ := ri_not p
  obtain ⟨-, c, d⟩ := dv_not (ws := ws) (ps := ps) (es := es) (qs := qs) (by rw [p]; rfl)
  exact ⟨by rw [a, c], by rw [b, d]⟩
theorem zik {ws : List Int} {ps : List St} {es : List Int} {qs : List Se} (h : ¬ dvB ws ps es qs = true) : dvN ws ps es qs = [] ∧ dvD ws ps es qs = [] := ⟨by unfold dvN; rw [if_neg h], by unfold dvD; rw [if_neg h]⟩
theorem dv_R {ws : List Int} {ps : List St} {es : List Int} {qs : List Se} : ∀ k (h : k < (dvN ws ps es qs).length), (dvN ws ps es qs)[k].R := by
 by_cases c : dvB ws ps es qs = true
 ·obtain ⟨p, -, e, -, -⟩ := zjy c
  rw [e]
  exact zqd p 16
 ·rw [(zik c).1]
  intro k h
  cases h
theorem zhh {ws : List Int} {ps : List St} {es : List Int} {qs : List Se} : ∀ k (h : k < (dvD ws ps es qs).length), (dvD ws ps es qs)[k].name.size ≤ maxLen := by
 by_cases c : dvB ws ps es qs = true
 ·obtain ⟨p, -, -, e, -⟩ := zjy c
  rw [e]
  exact zgz _ 24
 ·rw [(zik c).2]
  intro k h
  cases h
theorem zfp (ws : List Int) (ps : List St) (es : List Int) (qs : List Se) : (dvN ws ps es qs).length ≤ 1048576 ∧ (dvD ws ps es qs).length ≤ 1048576 := by
 by_cases c : dvB ws ps es qs = true
 ·obtain ⟨-, -, e1, e2, -⟩ := zjy c
  rw [e1, e2, zbd, zba]
  omega
 ·rw [(zik c).1, (zik c).2]
  exact ⟨by simp, by simp⟩
theorem img_none : zdm [] [] = false := by decide
theorem zjs (ws : List Int) (ps : List St) (es : List Int) (qs : List Se) : zdm (dvN ws ps es qs) (dvD ws ps es qs) = dvB ws ps es qs := by
 by_cases c : dvB ws ps es qs = true
 ·obtain ⟨-, -, e1, e2, h⟩ := zjy c
  rw [e1, e2, h, c]
 ·rw [(zik c).1, (zik c).2, img_none]
  exact ((Bool.not_eq_true _).mp c).symm

set_option maxRecDepth 100000 in
set_option maxHeartbeats 4000000 in
theorem zdq (v : Value) (ws : List Int) (ps : List St) (es : List Int) (qs : List Se) (w : World) (h : RdDev w v ws ps es qs) (hw : ws.length ≤ 1048576) (hp : ps.length ≤ 1048576) (he : es.length ≤ 1048576) (hq : qs.length ≤ 1048576) (hT : TS w) (hE : ED w) (hF : FD w) :
  Calls Tryz.prog 112 #[v] w fun e w' => ∃ v', e = .returned v' ∧ RowIm w' w.heap.size w'.heap.size v' (dvN ws ps es qs) (dvD ws ps es qs) ∧ Below w.heap.size w w' := by
 obtain ⟨aW, cW, aP, cP, aS, cS, aQ, cQ, rfl, h1, h2⟩ := h.form
 have LO := zaa (fun w1 (hb : Below w.heap.size w w1) => zcp _ es qs w1 (h2.below hb) he hq)
 have LR := zaa (fun w1 (hb : Below w.heap.size w w1) => ziq _ ws ps w1 (h1.below hb) hw hp (hT.below hb) (hE.below hb) (hF.below hb))
 have NO := zaa (fun q => dv_blk (ws := ws) (ps := ps) (es := es) (qs := qs) q)
 have YES := zaa (fun q => dv_ri (ws := ws) (ps := ps) (es := es) (qs := qs) q)
 clear h h1 h2 hT hE hF
 obtain ⟨W1, hW1⟩ : ∃ W1, W1 = (w.alloc (.cells #[.slice aW ws.length cW, .slice aP ps.length cP, .slice aS es.length cS, .slice aQ qs.length cQ] 46)).alloc (.cells #[.slice none 0 0, .slice none 0 0] 83) := ⟨_, rfl⟩
 have hz1 : W1.heap.size = w.heap.size + 1 + 1 := by rw [hW1]; simp
 have CA : Hid (∀ w', Below W1.heap.size W1 w' → w'.cell? ⟨w.heap.size, 0, none⟩ = some (.slice aW ws.length cW) ∧ w'.cell? ⟨w.heap.size, 1, none⟩ = some (.slice aP ps.length cP) ∧ w'.cell? ⟨w.heap.size, 2, none⟩ = some (.slice aS es.length cS) ∧ w'.cell? ⟨w.heap.size, 3, none⟩ = some (.slice aQ qs.length cQ)) := fun w' hb => by
  have : w'.heap[w.heap.size]? = some (.cells #[.slice aW ws.length cW, .slice aP ps.length cP, .slice aS es.length cS, .slice aQ qs.length cQ] 46 (0, 0)) := (hb.block _ (by omega)).trans (by rw [hW1]; exact zap (zah rfl))
  obtain ⟨x0, x1, x2, x3, -, -, -, -⟩ := zan this
  exact ⟨x0, x1, x2, x3⟩
 have CR : Hid (∀ w', Below W1.heap.size W1 w' → w'.heap[w.heap.size + 1]? = some (.cells #[.slice none 0 0, .slice none 0 0] 83 (0, 0))) := fun w' hb => (hb.block _ (by omega)).trans (by
  rw [hW1]
  have := zah (w := w.alloc (.cells #[.slice aW ws.length cW, .slice aP ps.length cP, .slice aS es.length cS, .slice aQ qs.length cQ] 46)) (o := .cells #[.slice none 0 0, .slice none 0 0] 83) rfl
  rw [World.size_alloc] at this
  exact this)
 have BW : Hid (Below w.heap.size w W1) := by rw [hW1]; exact ((Below.refl _ _).alloc (Nat.le_refl _) _).alloc (by simp) _
 have hz0 : w.heap.size + 1 < W1.heap.size := by omega
 clear hz1
 obtain ⟨x0, x1, x2, x3⟩ := CA.out W1 (Below.refl _ _)
 generalize riC ws ps = rc at *
 generalize riN ws ps = rn at *
 generalize riD ws ps = rd at *
 generalize dvN ws ps es qs = dn at *
 generalize dvD ws ps es qs = dd at *
 generalize zeh es qs = ok at *
 go_enter Tryz.func112, Tryz.ntmps112
 go_wp2_with fail
 rw [← hW1]
 clear hW1
 refine (LO.out _ BW.out).mono ?_
 rintro e w1 ⟨rfl, hb1⟩
 have B1 := zaa hb1
 have B1w := zaa (zab BW.out B1.out BW.out.size)
 clear x0 x1 x2 x3 hb1
 obtain ⟨x0, x1, x2, x3⟩ := CA.out w1 B1.out
 cases ok with
 | false =>
  obtain ⟨rfl, rfl⟩ := NO.out rfl
  have CB := zaa (CR.out _ B1.out)
  obtain ⟨p0, p1, p2, p3⟩ := zad CB.out
  have BR : Hid (Below w.heap.size w ((w1.setCell ⟨w.heap.size + 1, 0, none⟩ (.slice none 0 0)).setCell ⟨w.heap.size + 1, 1, none⟩ (.slice none 0 0))) := (B1w.out.setCell (by simp only; omega) _).setCell (by simp only; omega) _
  clear NO YES
  go_wp2
  refine bodyPost_ret (v := .agg #[.slice none 0 0, .slice none 0 0]) (by simp [results, Tryz.results112, go_sem, p0, p1]) rfl ?_
  exact ⟨_, rfl, zch _ _ _, BR.out⟩
 | true =>
  obtain ⟨rfl, rfl⟩ := YES.out rfl
  clear NO YES
  go_wp2_with fail
  refine (LR.out _ B1w.out).mono ?_
  rintro e w2 ⟨v2, rfl, ⟨vI, vD, rfl, hI, hD⟩, hb2⟩
  obtain ⟨-, a1, c1, hv1, -⟩ := hI.rd
  obtain ⟨-, a2, c2, hv2, -⟩ := hD.rd
  subst hv1
  subst hv2
  have HI := zaa hI
  have HD := zaa hD
  have B2 := zaa (zhl B1.out hb2)
  have B3 : Hid (Below W1.heap.size W1 (w2.alloc (.cells #[.slice a1 dn.length c1, .slice a2 dd.length c2] 83))) := zam B2.out _
  have hz12 : W1.heap.size ≤ w1.heap.size := B1.out.size
  have hz2 : w1.heap.size ≤ w2.heap.size := hb2.size
  have hzw : w.heap.size ≤ w1.heap.size := B1w.out.size
  clear x0 x1 x2 x3 hb2 hI hD
  obtain ⟨y0, y1, _, _⟩ := zad (zah (w := w2) (o := .cells #[.slice a1 dn.length c1, .slice a2 dd.length c2] 83) rfl)
  obtain ⟨w3, hw3⟩ : ∃ w3, w3 = w2.alloc (.cells #[.slice a1 dn.length c1, .slice a2 dd.length c2] 83) := ⟨_, rfl⟩
  have BC : Hid (Below w2.heap.size w2 w3) := by rw [hw3]; exact (Below.refl _ _).alloc (Nat.le_refl _) _
  rw [← hw3] at B3 y0 y1
  have HI3 := zaa (HI.out.below BC.out (Nat.le_refl _))
  have HD3 := zaa (HD.out.below BC.out (Nat.le_refl _))
  have hz3 : w2.heap.size ≤ w3.heap.size := BC.out.size
  have CB := zaa (CR.out _ B3.out)
  obtain ⟨p0, p1, p2, p3⟩ := zad CB.out
  have BR : Hid (Below w.heap.size w ((w3.setCell ⟨w.heap.size + 1, 0, none⟩ (.slice a1 dn.length c1)).setCell ⟨w.heap.size + 1, 1, none⟩ (.slice a2 dd.length c2))) := ((zab BW.out B3.out BW.out.size).setCell (by simp only; omega) _).setCell (by simp only; omega) _
  have RF := zaa (ziz (rowim_set HI3.out HD3.out CB.out (.slice a1 dn.length c1) (.slice a2 dd.length c2)) (lo' := w.heap.size) (hi' := ((w3.setCell ⟨w.heap.size + 1, 0, none⟩ (.slice a1 dn.length c1)).setCell ⟨w.heap.size + 1, 1, none⟩ (.slice a2 dd.length c2)).heap.size) (by omega) (by simp; omega))
  clear CB HI HD HI3 HD3 BC B3 B2 LR LO CA CR
  subst hw3
  go_wp2
  refine bodyPost_ret (v := .agg #[.slice a1 dn.length c1, .slice a2 dd.length c2]) (by simp [results, Tryz.results112, go_sem, p0, p1]) rfl ?_
  exact ⟨_, rfl, RF.out, BR.out⟩
end Go.Proofs.YtipklbnfobckaaaGreatDoor

namespace Go.Proofs.YtipklbnfobckaaaGreatDoor
open Go.RowKit

/-- A number of heat. -/
def isH (n : Int) : Bool := decide (0 ≤ n ∧ n < 65)
def zol (zs : List Int) : Bool := decide (∀ k (h : k < zs.length), isH zs[k] = true)
theorem heatsB_mk {zs : List Int} (h : ∀ k (h : k < zs.length), isH zs[k] = true) : zol zs = true := decide_eq_true h
theorem heatsB_not {zs : List Int} {k : Nat} (hk : k < zs.length) (h : isH zs[k] = false) : zol zs = false := decide_eq_false (fun x => by have := x k hk; rw [h] at this; cases this)
theorem heat_every {hs : List Int} : zcn hs = (decide (hs.length = 128) && zol hs) := by
 unfold zcn zol isH
 rw [Bool.eq_iff_iff, Bool.and_eq_true]
 simp only [decide_eq_true_eq]
 constructor
 ·exact fun h => ⟨h.1, fun k hk => ⟨(h.2 k hk).1, by have := (h.2 k hk).2; omega⟩⟩
 ·exact fun h => ⟨h.1, fun k hk => ⟨(h.2 k hk).1, by have := (h.2 k hk).2; omega⟩⟩

theorem znu (n : Int) (w : World) : Calls Tryz.prog 106 #[.int .i64 n] w fun e w' => e = .returned (.bool (isH n)) ∧ w' = w := by
 by_cases h : 0 ≤ n ∧ n < 65
 ·have e : isH n = true := decide_eq_true h
  rw [e]; clear e
  go_enter Tryz.func106, Tryz.ntmps106
  go_wp2_with fail
  refine (zal _ _ _ h).mono ?_
  rintro e w' ⟨rfl, hw'⟩
  subst w'
  go_wp2
  go_ret
  exact ⟨rfl, rfl⟩
 ·have e : isH n = false := decide_eq_false h
  rw [e]; clear e
  go_enter Tryz.func106, Tryz.ntmps106
  go_wp2_with fail
  refine (zaq _ _ _ h).mono ?_
  rintro e w' ⟨rfl, hw'⟩
  subst w'
  go_wp2
  go_ret
  exact ⟨rfl, rfl⟩

set_option maxHeartbeats 2000000 in
theorem zqh (v : Value) (zs : List Int) (w : World) (h : RdI w v zs) (hn : zs.length ≤ 2147483648) :
  Calls Tryz.prog 105 #[v, .func (.func 106) #[] #[]] w fun e w' => e = .returned (.bool (zol zs)) ∧ w' = w := by
 obtain ⟨ao, cap, rfl, _, hc⟩ := h.shape
 clear h
 go_enter Tryz.func105, Tryz.ntmps105
 go_wp2
 go_loop [6, 9] (fun _ i => ∃ k : Nat, k ≤ zs.length ∧ i = .int .i64 k ∧ Hid (∀ j (h : j < zs.length), j < k → isH zs[j] = true)) (fun _ i => zs.length - (intOf i).toNat)
 case atStart => exact ⟨0, by omega, rfl, fun j h a => absurd a (by omega)⟩
 case round =>
  obtain ⟨k, hk, rfl, H⟩ := hrel
  by_cases hlt : k < zs.length
  ·obtain ⟨b, o, rfl, hbl, hcell⟩ := hc (by omega)
   have hck := hcell k hlt
   clear hcell hc
   by_cases q : isH zs[k] = true
   ·go_wp2_with (go_at_call 106; refine (znu _ _).mono ?_; rintro e w' ⟨rfl, rfl⟩)
    go_round
    case rel =>
     refine ⟨k + 1, by omega, by go_num, fun j h a => ?_⟩
     by_cases e : j = k
     ·subst e; exact q
     ·exact H.out j h (by omega)
    case measure => simp [intOf]; omega
   ·have q' : isH zs[k] = false := by simpa using q
    have E := zaa (heatsB_not hlt q')
    go_wp2_with (go_at_call 106; refine (znu _ _).mono ?_; rintro e w' ⟨rfl, rfl⟩)
    go_ret
    exact ⟨zac E.out.symm, rfl⟩
  ·have E := zaa (heatsB_mk (fun j h => H.out j h (by omega)))
   clear H
   go_wp2
   go_ret
   exact ⟨zac E.out.symm, rfl⟩

set_option maxRecDepth 100000 in
set_option maxHeartbeats 4000000 in
theorem zgt (v : Value) (hs : List Int) (w : World) (h : RdI w v hs) (hn : hs.length ≤ 1048576) : Calls Tryz.prog 51 #[v] w fun e w' => e = .returned (.bool (zcn hs)) ∧ w' = w := by
 have LE := zaa (zqh v hs w h (by omega))
 obtain ⟨ao, cap, rfl, -, -⟩ := h.shape
 rw [heat_every]
 clear h
 generalize zol hs = b at *
 by_cases c : hs.length = 128
 ·rw [decide_eq_true c, Bool.true_and]
  have q : ((hs.length : Int) == 128) = true := by rw [beq_iff_eq]; omega
  clear c
  go_enter Tryz.func51, Tryz.ntmps51
  go_wp2_with fail
  refine LE.out.mono ?_
  rintro e w' ⟨rfl, hw'⟩
  subst w'
  go_wp2
  go_ret
  exact ⟨rfl, rfl⟩
 ·rw [decide_eq_false c, Bool.false_and]
  have q : ((hs.length : Int) == 128) = false := by rw [beq_eq_false_iff_ne]; omega
  clear c LE
  go_enter Tryz.func51, Tryz.ntmps51
  go_wp2
  go_ret
  exact ⟨rfl, rfl⟩

/-- What is wrong about heat. -/
def hfI (hs : List Int) : Int := if 4096 < hs.length then 2 else if zcn hs = true then 0 else 1
set_option maxRecDepth 100000 in
set_option maxHeartbeats 4000000 in
theorem zie (v : Value) (hs : List Int) (w : World) (h : RdI w v hs) (hn : hs.length ≤ 1048576) : Calls Tryz.prog 143 #[v] w fun e w' => e = .returned (.int .i64 (hfI hs)) ∧ w' = w := by
 have LE := zaa (zgt v hs w h hn)
 have EO := zaa (show hfI hs = if 4096 < hs.length then 2 else if zcn hs = true then 0 else 1 from rfl)
 obtain ⟨ao, cap, rfl, -, -⟩ := h.shape
 generalize hfI hs = r at *
 generalize zcn hs = b at *
 clear h
 by_cases c1 : 4096 < hs.length
 ·rw [if_pos c1] at EO
  obtain rfl := EO.out
  have c2 : (hs.length : Int) > 4096 := by omega
  clear EO c1 LE
  go_enter Tryz.func143, Tryz.ntmps143
  go_wp2
  go_ret
  exact ⟨rfl, rfl⟩
 rw [if_neg c1] at EO
 have c2 : ¬ (hs.length : Int) > 4096 := by omega
 clear c1
 cases b
 all_goals
  simp only [if_true, Bool.false_eq_true, if_false] at EO
  obtain rfl := EO.out
  clear EO
  go_enter Tryz.func143, Tryz.ntmps143
  go_wp2_with fail
  refine LE.out.mono ?_
  rintro e w' ⟨rfl, hw'⟩
  subst w'
  go_wp2
  go_ret
  exact ⟨rfl, rfl⟩

@[go_sem] theorem eqlNilInt (a : Option Addr) (l c : Nat) (w : World) : (binOp .eql 22 (.slice a l c) (.slice none 0 0)).run Tryz.prog w = .ok (.bool a.isNone) w := by
 simp only [binOp]
 simp [run_equal_slice_nil w 22 3 a l c Tryz.underlying22]

end Go.Proofs.YtipklbnfobckaaaGreatDoor

namespace Go.Proofs.YtipklbnfobckaaaGreatDoor
open Go.RowKit

theorem zjz (zs : List Int) : zmk zs = allP zs := by
 unfold zmk allP
 rw [decide_eq_decide]
 exact ⟨fun h k hk => zhj (h k hk), fun h k hk => decide_eq_true (h k hk)⟩
/-- As many times 'false' as there are lines. -/
def zjt : Array Value := (List.replicate 42 (Value.bool false)).toArray
theorem run_fals42 (w : World) : (zeroValue 341).run Tryz.prog w = .ok (.agg zjt) w := by kernel_rfl
theorem zly : zjt.size = 42 := by unfold zjt; rw [List.size_toArray, List.length_replicate]
theorem fals42_at (k : Nat) (hk : k < 42) : zjt[k]? = some (.bool false) := by unfold zjt; rw [List.getElem?_toArray, List.getElem?_replicate, if_pos hk]
/-- A place ahead has this line. -/
def zfx (zs : List Int) (m j : Nat) : Bool := (List.range m).any (fun i => zs[i]?.getD 0 / 8 == (j : Int))
theorem lineB_succ (zs : List Int) (m j : Nat) : zfx zs (m + 1) j = (zfx zs m j || (zs[m]?.getD 0 / 8 == (j : Int))) := by
 unfold zfx
 rw [List.range_succ, List.any_append]
 simp
theorem zul (zs : List Int) (m : Nat) (hm : m < zs.length) (h0 : 0 ≤ zs[m]) : zfx zs m (zs[m] / 8).toNat = zmf zs m := by
 have e : (((zs[m] / 8).toNat : Nat) : Int) = zs[m] / 8 := by omega
 unfold zfx zmf
 rw [e, List.getElem?_eq_getElem hm]
 rfl

set_option maxRecDepth 100000 in
set_option maxHeartbeats 4000000 in
theorem zjd (v : Value) (zs : List Int) (w : World) (h : RdI w v zs) (hn : zs.length ≤ 1048576) :
  Calls Tryz.prog 319 #[v] w fun e w' => ∃ v', e = .returned (.tuple #[v', .int .i64 (flC zs)]) ∧ Row w' 79 3 w.heap.size w'.heap.size v' (fpL zs).length (mis (fpL zs)) ∧ Below w.heap.size w w' := by
 have HR := zaa h
 obtain ⟨aZ, cZ, rfl, _, hcZ⟩ := h.shape
 have HZ := zaa hcZ
 clear h hcZ
 rcases fp_cases zs with ⟨c1, e1, e2⟩ | ⟨c1, c2, e1, e2⟩ | ⟨c1, c2, c3, e1, e2⟩ | ⟨c1, c2, c3, e1, e2⟩
 ·rw [e1, e2]
  clear e1 e2
  go_enter Tryz.func319, Tryz.ntmps319
  go_wp2
  go_ret2
  exact ⟨_, rfl, Row.nil _ _ _ _ _, Below.refl _ _⟩
 ·rw [e1, e2]
  clear e1 e2
  go_enter Tryz.func319, Tryz.ntmps319
  go_wp2
  go_ret2
  exact ⟨_, rfl, Row.nil _ _ _ _ _, Below.refl _ _⟩
 ·rw [e1, e2]
  have C3 := zaa ((zjz zs).trans c3)
  clear c3 e1 e2
  go_enter Tryz.func319, Tryz.ntmps319
  go_wp2_with (go_at_call 105; refine (zgs _ zs _ HR.out (by omega)).mono ?_; rw [C3.out]; rintro e w' ⟨rfl, hw'⟩; subst w')
  go_ret2
  exact ⟨_, rfl, Row.nil _ _ _ _ _, Below.refl _ _⟩
 ·rw [e1, e2]
  have C3 := zaa ((zjz zs).trans c3)
  have Z0 := zaa (of_decide_eq_true c3 : ∀ k (h : k < zs.length), 0 ≤ zs[k] ∧ zs[k] < 336)
  clear c3 e1 e2
  have hal := run_fals42
  have START : Hid ((w.alloc (.cells zjt 341)).rowIs w.heap.size 341 42 (fun k => .bool (zfx zs 0 k))) := by
   have := World.rowIs_alloc w zjt 341 (fun k => .bool (zfx zs 0 k)) (fun k hk => by rw [zly] at hk; rw [fals42_at k hk]; rfl)
   rw [zly] at this
   exact this
  have BS := zaa ((Below.refl w.heap.size w).alloc (Nat.le_refl _) (.cells zjt 341))
  go_enter Tryz.func319, Tryz.ntmps319
  go_wp2_with (go_at_call 105; refine (zgs _ zs _ HR.out (by omega)).mono ?_; rw [C3.out]; rintro e w' ⟨rfl, hw'⟩; subst w')
  clear hal
  go_loopw [5, 7, 8, 20] (fun vL _ _ i wr => ∃ m : Nat, m ≤ zs.length ∧ i = .int .i64 m ∧ Hid (wr.ownsRow (w.heap.size + 1) 79 3 vL (nl zs m).length (mis (nl zs m)) ∧ Below w.heap.size w wr ∧ wr.rowIs w.heap.size 341 42 (fun k => .bool (zfx zs m k))) ∧ w.heap.size + 1 ≤ wr.heap.size) (fun _ _ _ i _ => zs.length - (intOf i).toNat)
  case atStart => exact ⟨0, by omega, rfl, ⟨World.ownsRow_nil _ _ _ _, BS.out, START.out⟩, by simp⟩
  case round =>
   obtain ⟨m, hm, rfl, I, hz⟩ := hrel
   by_cases hlt : m < zs.length
   ·obtain ⟨b, o, rfl, hbl, hcell⟩ := HZ.out (by omega)
    have d0 := (I.out.2.1.cell (p := ⟨b, o + m, none⟩) hbl).trans (hcell m hlt)
    have p0 := Z0.out m hlt
    have KN := zaa (zul zs m hlt p0.1)
    have SU := zaa (fun j => (lineB_succ zs m j).trans (by rw [List.getElem?_eq_getElem hlt]; rfl) : ∀ j, zfx zs (m + 1) j = (zfx zs m j || (zs[m] / 8 == (j : Int))))
    have NX := zaa (show nl zs (m + 1) = if zmf zs m = true then nl zs m else nl zs m ++ [⟨2, zs[m], 0⟩] by rw [nl, List.getElem?_eq_getElem hlt]; rfl)
    have g0 := I.out.2.2.frozen (zs[m] / 8).toNat
    have g1 := I.out.2.2.cell (i := (zs[m] / 8).toNat) (by omega)
    have m0 : (0 : Int) ≤ (m : Int) := by omega
    have m1 : (m : Int) < (zs.length : Int) := by omega
    clear hcell
    generalize zs[m] = y at *
    obtain ⟨y0, y1⟩ := p0
    have t0 : 0 ≤ y / 8 := by omega
    have t1 : y / 8 < 42 := by omega
    have yt : Hid (((y / 8).toNat : Int) = y / 8) := by show (((y / 8).toNat : Nat) : Int) = y / 8; omega
    cases hk : zmf zs m
    ·rw [KN.out, hk] at g1
     have E := zaa (NX.out.trans (by rw [hk]; rfl) : nl zs (m + 1) = nl zs m ++ [⟨2, y, 0⟩])
     have F := zaa (I.out.2.2.set (y / 8).toNat (.bool true))
     have B2 := zaa (I.out.2.1.setCell (p := ⟨w.heap.size, (y / 8).toNat, none⟩) (Nat.le_refl _) (.bool true))
     have O1 : (wr.setCell ⟨w.heap.size, (y / 8).toNat, none⟩ (.bool true)).ownsRow (w.heap.size + 1) 79 3 u5 (nl zs m).length (mis (nl zs m)) := ownsRow_setCell_below I.out.1 (by simp only; omega) _
     have hle := zwo zs m
     have FR := zaa (fun k (_ : k < 42) => show (if k = (y / 8).toNat then Value.bool true else Value.bool (zfx zs m k)) = Value.bool (zfx zs (m + 1) k) by
      rw [SU.out]
      by_cases e : k = (y / 8).toNat
      ·rw [if_pos e, e, yt.out]; simp
      ·rw [if_neg e]
       have : (y / 8 == (k : Int)) = false := by rw [beq_eq_false_iff_ne]; omega
       rw [this, Bool.or_false])
     obtain ⟨wb, hwb⟩ : ∃ wb : World, wb = wr.setCell ⟨w.heap.size, (y / 8).toNat, none⟩ (.bool true) := ⟨_, rfl⟩
     have hzb : wb.heap.size = wr.heap.size := by rw [hwb]; simp [World.setCell]
     have O2 : Hid ((wb.alloc (.cells #[.int .i64 2, .int .i64 y, .int .i64 0] 79)).ownsRow (w.heap.size + 1) 79 3 u5 (nl zs m).length (mis (nl zs m))) := by rw [hwb]; exact O1.alloc _
     have HRD : Hid (Rd (wb.alloc (.cells #[.int .i64 2, .int .i64 y, .int .i64 0] 79)) 3 (.slice (some ⟨wr.heap.size, 0, none⟩) 1 1) 1 (Mi.cells ⟨2, y, 0⟩)) := by rw [← hzb]; exact zoa wb 2 y 0
     have BB : Hid (Below w.heap.size w wb) := by rw [hwb]; exact B2.out
     have FF : Hid (wb.rowIs w.heap.size 341 42 (fun k => .bool (zfx zs (m + 1) k))) := by rw [hwb]; exact F.out.congr FR.out
     clear hk O1 B2 F FR
     go_wp2_with (at_builtin; rw [← hwb]; refine zai _ rfl (.tmp 32) (.tmp 35) 47 rfl (w.heap.size + 1) 79 (.agg #[.int .i64 0, .int .i64 0, .int .i64 0]) 3 24 Tryz.underlying47 zcd rfl (by decide) _ _ _ rfl O2.out _ 1 _ rfl HRD.out (zli _) (by simp [maxLen]; omega) (by omega) (by simp; omega) ?_)
     intro vN wN hownN hgrN
     rw [← hwb] at hgrN
     have hl := fun q hq => (O2.out.lt q hq).1
     have hzN := hgrN.size
     simp only [World.size_alloc] at hzN
     have G : Hid (wN.ownsRow (w.heap.size + 1) 79 3 vN (nl zs (m + 1)).length (mis (nl zs (m + 1))) ∧ Below w.heap.size w wN ∧ wN.rowIs w.heap.size 341 42 (fun k => .bool (zfx zs (m + 1) k))) := by
      refine ⟨?_, (BB.out.alloc (by omega) (.cells #[.int .i64 2, .int .i64 y, .int .i64 0] 79)).grown hgrN (by simp; omega) (fun q hq => by have := hl q hq; omega), ?_⟩
      ·rw [E.out, zko, List.length_append]
       exact hownN
      ·obtain ⟨cs, hh, h1, h2⟩ := FF.out.alloc (.cells #[.int .i64 2, .int .i64 y, .int .i64 0] 79)
       exact ⟨cs, (hgrN.block w.heap.size (by simp; omega) (fun e => by have := hl _ e.symm; omega)).trans hh, h1, h2⟩
     clear hownN hgrN hl
     go_wp2
     go_roundw
     case rel => exact ⟨m + 1, by omega, by go_num, G, by omega⟩
     case measure => simp [intOf]; omega
    ·rw [KN.out, hk] at g1
     have E := zaa (NX.out.trans (by rw [hk]; rfl) : nl zs (m + 1) = nl zs m)
     have HK := zaa hk
     clear hk
     go_wp2
     go_roundw
     case rel =>
      refine ⟨m + 1, by omega, by go_num, ⟨by rw [E.out]; exact I.out.1, I.out.2.1, I.out.2.2.congr (fun k hk => ?_)⟩, hz⟩
      show Value.bool (zfx zs m k) = Value.bool (zfx zs (m + 1) k)
      rw [SU.out]
      by_cases e : y / 8 = (k : Int)
      ·have : zfx zs m k = true := by rw [show k = (y / 8).toNat by omega, KN.out]; exact HK.out
       rw [this]; rfl
      ·rw [show (y / 8 == (k : Int)) = false by rw [beq_eq_false_iff_ne]; exact e, Bool.or_false]
     case measure => simp [intOf]; omega
   ·obtain rfl : m = zs.length := by omega
    have E := zaa (show zaw zs = nl zs zs.length ++ [⟨3, 0, 0⟩] from rfl)
    have O2 := zaa (I.out.1.alloc (.cells #[.int .i64 3, .int .i64 0, .int .i64 0] 79))
    have HRD := zaa (zoa wr 3 0 0)
    have hle := zwo zs zs.length
    go_wp2_with (at_builtin; refine zai _ rfl (.tmp 38) (.tmp 40) 47 rfl (w.heap.size + 1) 79 (.agg #[.int .i64 0, .int .i64 0, .int .i64 0]) 3 24 Tryz.underlying47 zcd rfl (by decide) _ _ _ rfl O2.out _ 1 _ rfl HRD.out (zli _) (by simp [maxLen]; omega) (by omega) (by simp; omega) ?_)
    intro vN wN hownN hgrN
    have hl := fun q hq => (O2.out.lt q hq).1
    have G : Hid (wN.ownsRow (w.heap.size + 1) 79 3 vN (zaw zs).length (mis (zaw zs)) ∧ Below w.heap.size w wN) := by
     refine ⟨?_, (I.out.2.1.alloc (by omega) (.cells #[.int .i64 3, .int .i64 0, .int .i64 0] 79)).grown hgrN (by simp; omega) (fun q hq => by have := hl q hq; omega)⟩
     rw [E.out, zko, List.length_append]
     exact hownN
    clear hownN hgrN hl
    obtain ⟨aL, cL, hvL⟩ := RdM.form (zaf G.out.1).rd rfl
    subst hvL
    go_wp2
    go_ret2
    exact ⟨_, rfl, (zaf G.out.1).wide (by omega) (Nat.le_refl _), G.out.2⟩
end Go.Proofs.YtipklbnfobckaaaGreatDoor

namespace Go.Proofs.YtipklbnfobckaaaGreatDoor
open Go.RowKit

theorem zur (i : Nat) (a x : Int) (w : World) : Calls Tryz.prog 274 #[.int .i64 (i : Int), .agg #[.int .i64 a, .int .i64 x]] w fun e w' => ∃ v', e = .returned v' ∧ RdM w' v' [⟨1, a, x⟩] ∧ Below w.heap.size w w' := by
 have R := zaa (zoa (w.alloc (.cells #[.int .i64 a, .int .i64 x] 244)) 1 a x)
 have B : Hid (Below w.heap.size w ((w.alloc (.cells #[.int .i64 a, .int .i64 x] 244)).alloc (.cells #[.int .i64 1, .int .i64 a, .int .i64 x] 79))) := ((Below.refl _ _).alloc (Nat.le_refl _) _).alloc (by simp) _
 go_enter Tryz.func274, Tryz.ntmps274
 go_wp2
 go_ret
 exact ⟨_, rfl, by unfold RdM; rw [mis_one_]; simpa using R.out, B.out⟩

theorem World.ownsRow.below {w w' : World} {base : Nat} {e : TypeId} {size : Nat} {v : Value} {n : Nat} {xs : List Value} (h : w.ownsRow base e size v n xs) (hb : Below w.heap.size w w') : w'.ownsRow base e size v n xs := by
 obtain ⟨hl, h⟩ := h
 refine ⟨hl, ?_⟩
 rcases h with h | ⟨g, cap, cur, h1, h2, h3, h4⟩
 ·exact .inl h
 ·exact .inr ⟨g, cap, cur, h1, h2, (hb.block g (Array.getElem?_eq_some_iff.1 h3).1).trans h3, h4⟩

set_option maxRecDepth 100000 in
set_option maxHeartbeats 4000000 in
theorem zoq (v : Value) (us : List Se) (w : World) (h : RdE w v us) (hn : us.length ≤ 64) :
  Calls Tryz.prog 273 #[v, .func (.func 274) #[] #[]] w fun e w' => ∃ v', e = .returned v' ∧ Row w' 79 3 w.heap.size w'.heap.size v' (apM us us.length).length (mis (apM us us.length)) ∧ Below w.heap.size w w' := by
 obtain ⟨aU, cU, rfl, _, hcU⟩ := h.shape
 have HU := zaa hcU
 clear h hcU
 go_enter Tryz.func273, Tryz.ntmps273
 go_wp2
 go_loopw [5, 6, 7, 10] (fun vL _ _ i wr => ∃ m : Nat, m ≤ us.length ∧ i = .int .i64 m ∧ Hid (wr.ownsRow w.heap.size 79 3 vL (apM us m).length (mis (apM us m)) ∧ Below w.heap.size w wr) ∧ w.heap.size ≤ wr.heap.size) (fun _ _ _ i _ => us.length - (intOf i).toNat)
 case atStart => exact ⟨0, by omega, rfl, ⟨World.ownsRow_nil _ _ _ _, Below.refl _ _⟩, Nat.le_refl _⟩
 case round =>
  obtain ⟨m, hm, rfl, I, hz⟩ := hrel
  by_cases hlt : m < us.length
  ·obtain ⟨b, o, rfl, hbl, hcell⟩ := HU.out (by omega)
   obtain ⟨d0, d1⟩ := hcell m hlt
   have e0 := (I.out.2.cell (p := ⟨b, o + m * 2, none⟩) hbl).trans d0
   have e1 := (I.out.2.cell (p := ⟨b, o + m * 2 + 1, none⟩) hbl).trans d1
   have m0 : (0 : Int) ≤ (m : Int) := by omega
   have m1 : (m : Int) < (us.length : Int) := by omega
   have NX := zaa (apM_succ us m hlt)
   have hle := apM_len us m
   clear d0 d1 hcell
   generalize us[m].at_ = a at *
   generalize us[m].val = x at *
   obtain ⟨wb, hwb⟩ : ∃ wb : World, wb = wr.alloc (.cells #[.int .i64 a, .int .i64 x] 244) := ⟨_, rfl⟩
   have BB : Hid (Below wr.heap.size wr wb) := by rw [hwb]; exact (Below.refl _ _).alloc (Nat.le_refl _) _
   have hzb : wr.heap.size ≤ wb.heap.size := BB.out.size
   have OB : Hid (wb.ownsRow w.heap.size 79 3 u5 (apM us m).length (mis (apM us m))) := by rw [hwb]; exact I.out.1.alloc _
   go_wp2_with (first
    | (go_at_call 274; rw [← hwb]; refine (zur m a x wb).mono ?_; rintro e w1 ⟨v1, rfl, hr1, hb1⟩; have O1 := zaa (World.ownsRow.below OB.out hb1); have R1 := zaa hr1; have B1 := zaa hb1; have hz1 : wb.heap.size ≤ w1.heap.size := hb1.size; obtain ⟨a1, c1, rfl, -, -⟩ := hr1.shape; clear hr1 hb1)
    | (at_builtin; refine zai _ rfl (.tmp 15) (.tmp 19) 47 rfl w.heap.size 79 (.agg #[.int .i64 0, .int .i64 0, .int .i64 0]) 3 24 Tryz.underlying47 zcd rfl (by decide) _ _ _ rfl O1.out _ 1 _ rfl R1.out (zdl _) (by simp [maxLen]; omega) (by omega) (by omega) ?_))
   intro vN wN hownN hgrN
   have hl := fun q hq => (O1.out.lt q hq).1
   have hzN := hgrN.size
   have G : Hid (wN.ownsRow w.heap.size 79 3 vN (apM us (m + 1)).length (mis (apM us (m + 1))) ∧ Below w.heap.size w wN) := by
    refine ⟨?_, ((I.out.2.trans (BB.out.mono hz)).trans (B1.out.mono (by omega))).grown hgrN (by omega) (fun q hq => hl q hq)⟩
    rw [NX.out, zji, List.length_append]
    exact hownN
   clear hownN hgrN hl
   go_wp2
   go_roundw
   case rel => exact ⟨m + 1, by omega, by go_num, G, by omega⟩
   case measure => simp [intOf]; omega
  ·obtain rfl : m = us.length := by omega
   obtain ⟨aL, cL, hvL⟩ := RdM.form (zaf I.out.1).rd rfl
   subst hvL
   go_wp2
   go_ret
   exact ⟨_, rfl, zaf I.out.1, I.out.2⟩
end Go.Proofs.YtipklbnfobckaaaGreatDoor
