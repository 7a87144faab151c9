/- Several texts laid together: DuA, TrD, JiG, JrE. -/
import Derived.Test.YtipklbnfobckaaaGreatDoorZBI
import Derived.Test.YtipklbnfobckaaaGreatDoorRdF
import Derived.Test.YtipklbnfobckaaaGreatDoorZAJ
import Derived.Test.YtipklbnfobckaaaGreatDoorZBJ
import Derived.Laws.CopyOwn
import Derived.Laws.Cover3
import Derived.Test.YtipklbnfobckaaaGreatDoorZAU
import Derived.Test.YtipklbnfobckaaaGreatDoorZAG
import Derived.Test.YtipklbnfobckaaaGreatDoorZBE
import Derived.Test.YtipklbnfobckaaaGreatDoorZAC
import Derived.Deep.RegionHeld3
namespace Go.Proofs.YtipklbnfobckaaaGreatDoor
open Go.RowKit

theorem dv_blk {ws : List Int} {ps : List St} {es : List Int} {qs : List Se} (h : blkB es qs = false) : dvN ws ps es qs = [] ∧ dvD ws ps es qs = [] := (dv_not (by rw [h, Bool.and_false])).2
theorem dv_ri {ws : List Int} {ps : List St} {es : List Int} {qs : List Se} (h : blkB es qs = true) : dvN ws ps es qs = riN ws ps ∧ dvD ws ps es qs = riD ws ps := by
  cases p : pmB ws ps with
  | true => exact (dv_form (by rw [p, h]; rfl)).2
  | false =>
    obtain ⟨-, a, b⟩ := ri_not p
    obtain ⟨-, c, d⟩ := dv_not (ws := ws) (ps := ps) (es := es) (qs := qs) (by rw [p]; rfl)
    exact ⟨by rw [a, c], by rw [b, d]⟩
theorem dv_none {ws : List Int} {ps : List St} {es : List Int} {qs : List Se} (h : ¬ dvB ws ps es qs = true) : dvN ws ps es qs = [] ∧ dvD ws ps es qs = [] := ⟨by unfold dvN; rw [if_neg h], by unfold dvD; rw [if_neg h]⟩
theorem dv_R {ws : List Int} {ps : List St} {es : List Int} {qs : List Se} : ∀ k (h : k < (dvN ws ps es qs).length), (dvN ws ps es qs)[k].R := by
  by_cases c : dvB ws ps es qs = true
  · obtain ⟨p, -, e, -, -⟩ := dv_yes c
    rw [e]
    exact inosOf_R p 16
  · rw [(dv_none c).1]
    intro k h
    cases h
theorem dv_name {ws : List Int} {ps : List St} {es : List Int} {qs : List Se} : ∀ k (h : k < (dvD ws ps es qs).length), (dvD ws ps es qs)[k].name.size ≤ maxLen := by
  by_cases c : dvB ws ps es qs = true
  · obtain ⟨p, -, -, e, -⟩ := dv_yes c
    rw [e]
    exact densOf_name _ 24
  · rw [(dv_none c).2]
    intro k h
    cases h
theorem dv_len (ws : List Int) (ps : List St) (es : List Int) (qs : List Se) : (dvN ws ps es qs).length ≤ 1048576 ∧ (dvD ws ps es qs).length ≤ 1048576 := by
  by_cases c : dvB ws ps es qs = true
  · obtain ⟨-, -, e1, e2, -⟩ := dv_yes c
    rw [e1, e2, inosOf_len, densOf_len]
    omega
  · rw [(dv_none c).1, (dv_none c).2]
    exact ⟨by simp, by simp⟩
theorem img_none : imgB [] [] = false := by decide
theorem dv_img (ws : List Int) (ps : List St) (es : List Int) (qs : List Se) : imgB (dvN ws ps es qs) (dvD ws ps es qs) = dvB ws ps es qs := by
  by_cases c : dvB ws ps es qs = true
  · obtain ⟨-, -, e1, e2, h⟩ := dv_yes c
    rw [e1, e2, h, c]
  · rw [(dv_none c).1, (dv_none c).2, img_none]
    exact ((Bool.not_eq_true _).mp c).symm

set_option maxRecDepth 100000 in
set_option maxHeartbeats 4000000 in
theorem seenImage_any (v : Value) (ws : List Int) (ps : List St) (es : List Int) (qs : List Se) (w : World) (h : RdDev w v ws ps es qs) (hw : ws.length ≤ 1048576) (hp : ps.length ≤ 1048576) (he : es.length ≤ 1048576) (hq : qs.length ≤ 1048576) (hT : TS w) (hE : ED w) (hF : FD w) :
    Calls Tryz.prog 112 #[v] w fun e w' => ∃ v', e = .returned v' ∧ RowIm w' w.heap.size w'.heap.size v' (dvN ws ps es qs) (dvD ws ps es qs) ∧ Below w.heap.size w w' := by
  obtain ⟨aW, cW, aP, cP, aS, cS, aQ, cQ, rfl, h1, h2⟩ := h.form
  have LO := hideIt (fun w1 (hb : Below w.heap.size w w1) => implBlkOK_any _ es qs w1 (h2.below hb) he hq)
  have LR := hideIt (fun w1 (hb : Below w.heap.size w w1) => implReadImage_any _ ws ps w1 (h1.below hb) hw hp (hT.below hb) (hE.below hb) (hF.below hb))
  have NO := hideIt (fun q => dv_blk (ws := ws) (ps := ps) (es := es) (qs := qs) q)
  have YES := hideIt (fun q => dv_ri (ws := ws) (ps := ps) (es := es) (qs := qs) q)
  clear h h1 h2 hT hE hF
  obtain ⟨W1, hW1⟩ : ∃ W1, W1 = (w.alloc (.cells #[.slice aW ws.length cW, .slice aP ps.length cP, .slice aS es.length cS, .slice aQ qs.length cQ] 46)).alloc (.cells #[.slice none 0 0, .slice none 0 0] 83) := ⟨_, rfl⟩
  have hz1 : W1.heap.size = w.heap.size + 1 + 1 := by rw [hW1]; simp
  have CA : Hid (∀ w', Below W1.heap.size W1 w' → w'.cell? ⟨w.heap.size, 0, none⟩ = some (.slice aW ws.length cW) ∧ w'.cell? ⟨w.heap.size, 1, none⟩ = some (.slice aP ps.length cP) ∧ w'.cell? ⟨w.heap.size, 2, none⟩ = some (.slice aS es.length cS) ∧ w'.cell? ⟨w.heap.size, 3, none⟩ = some (.slice aQ qs.length cQ)) := fun w' hb => by
    have : w'.heap[w.heap.size]? = some (.cells #[.slice aW ws.length cW, .slice aP ps.length cP, .slice aS es.length cS, .slice aQ qs.length cQ] 46 (0, 0)) := (hb.block _ (by omega)).trans (by rw [hW1]; exact at_old (at_new rfl))
    obtain ⟨x0, x1, x2, x3, -, -, -, -⟩ := four_cells this
    exact ⟨x0, x1, x2, x3⟩
  have CR : Hid (∀ w', Below W1.heap.size W1 w' → w'.heap[w.heap.size + 1]? = some (.cells #[.slice none 0 0, .slice none 0 0] 83 (0, 0))) := fun w' hb => (hb.block _ (by omega)).trans (by
    rw [hW1]
    have := at_new (w := w.alloc (.cells #[.slice aW ws.length cW, .slice aP ps.length cP, .slice aS es.length cS, .slice aQ qs.length cQ] 46)) (o := .cells #[.slice none 0 0, .slice none 0 0] 83) rfl
    rw [World.size_alloc] at this
    exact this)
  have BW : Hid (Below w.heap.size w W1) := by rw [hW1]; exact ((Below.refl _ _).alloc (Nat.le_refl _) _).alloc (by simp) _
  have hz0 : w.heap.size + 1 < W1.heap.size := by omega
  clear hz1
  obtain ⟨x0, x1, x2, x3⟩ := CA.out W1 (Below.refl _ _)
  generalize riC ws ps = rc at *
  generalize riN ws ps = rn at *
  generalize riD ws ps = rd at *
  generalize dvN ws ps es qs = dn at *
  generalize dvD ws ps es qs = dd at *
  generalize blkB es qs = ok at *
  go_enter Tryz.func112, Tryz.ntmps112
  go_wp2_with fail
  rw [← hW1]
  clear hW1
  refine (LO.out _ BW.out).mono ?_
  rintro e w1 ⟨rfl, hb1⟩
  have B1 := hideIt hb1
  have B1w := hideIt (below_trans BW.out B1.out BW.out.size)
  clear x0 x1 x2 x3 hb1
  obtain ⟨x0, x1, x2, x3⟩ := CA.out w1 B1.out
  cases ok with
  | false =>
    obtain ⟨rfl, rfl⟩ := NO.out rfl
    have CB := hideIt (CR.out _ B1.out)
    obtain ⟨p0, p1, p2, p3⟩ := two_cells CB.out
    have BR : Hid (Below w.heap.size w ((w1.setCell ⟨w.heap.size + 1, 0, none⟩ (.slice none 0 0)).setCell ⟨w.heap.size + 1, 1, none⟩ (.slice none 0 0))) := (B1w.out.setCell (by simp only; omega) _).setCell (by simp only; omega) _
    clear NO YES
    go_wp2
    refine bodyPost_ret (v := .agg #[.slice none 0 0, .slice none 0 0]) (by simp [results, Tryz.results112, go_sem, p0, p1]) rfl ?_
    exact ⟨_, rfl, rowim_nil _ _ _, BR.out⟩
  | true =>
    obtain ⟨rfl, rfl⟩ := YES.out rfl
    clear NO YES
    go_wp2_with fail
    refine (LR.out _ B1w.out).mono ?_
    rintro e w2 ⟨v2, rfl, ⟨vI, vD, rfl, hI, hD⟩, hb2⟩
    obtain ⟨-, a1, c1, hv1, -⟩ := hI.rd
    obtain ⟨-, a2, c2, hv2, -⟩ := hD.rd
    subst hv1
    subst hv2
    have HI := hideIt hI
    have HD := hideIt hD
    have B2 := hideIt (bel2 B1.out hb2)
    have B3 : Hid (Below W1.heap.size W1 (w2.alloc (.cells #[.slice a1 dn.length c1, .slice a2 dd.length c2] 83))) := below_allocB B2.out _
    have hz12 : W1.heap.size ≤ w1.heap.size := B1.out.size
    have hz2 : w1.heap.size ≤ w2.heap.size := hb2.size
    have hzw : w.heap.size ≤ w1.heap.size := B1w.out.size
    clear x0 x1 x2 x3 hb2 hI hD
    obtain ⟨y0, y1, _, _⟩ := two_cells (at_new (w := w2) (o := .cells #[.slice a1 dn.length c1, .slice a2 dd.length c2] 83) rfl)
    obtain ⟨w3, hw3⟩ : ∃ w3, w3 = w2.alloc (.cells #[.slice a1 dn.length c1, .slice a2 dd.length c2] 83) := ⟨_, rfl⟩
    have BC : Hid (Below w2.heap.size w2 w3) := by rw [hw3]; exact (Below.refl _ _).alloc (Nat.le_refl _) _
    rw [← hw3] at B3 y0 y1
    have HI3 := hideIt (HI.out.below BC.out (Nat.le_refl _))
    have HD3 := hideIt (HD.out.below BC.out (Nat.le_refl _))
    have hz3 : w2.heap.size ≤ w3.heap.size := BC.out.size
    have CB := hideIt (CR.out _ B3.out)
    obtain ⟨p0, p1, p2, p3⟩ := two_cells CB.out
    have BR : Hid (Below w.heap.size w ((w3.setCell ⟨w.heap.size + 1, 0, none⟩ (.slice a1 dn.length c1)).setCell ⟨w.heap.size + 1, 1, none⟩ (.slice a2 dd.length c2))) := ((below_trans BW.out B3.out BW.out.size).setCell (by simp only; omega) _).setCell (by simp only; omega) _
    have RF := hideIt (rowim_wide (rowim_set HI3.out HD3.out CB.out (.slice a1 dn.length c1) (.slice a2 dd.length c2)) (lo' := w.heap.size) (hi' := ((w3.setCell ⟨w.heap.size + 1, 0, none⟩ (.slice a1 dn.length c1)).setCell ⟨w.heap.size + 1, 1, none⟩ (.slice a2 dd.length c2)).heap.size) (by omega) (by simp; omega))
    clear CB HI HD HI3 HD3 BC B3 B2 LR LO CA CR
    subst hw3
    go_wp2
    refine bodyPost_ret (v := .agg #[.slice a1 dn.length c1, .slice a2 dd.length c2]) (by simp [results, Tryz.results112, go_sem, p0, p1]) rfl ?_
    exact ⟨_, rfl, RF.out, BR.out⟩
end Go.Proofs.YtipklbnfobckaaaGreatDoor

namespace Go.Proofs.YtipklbnfobckaaaGreatDoor
open Go.RowKit

/-- A number of heat. -/
def isH (n : Int) : Bool := decide (0 ≤ n ∧ n < 65)
def heatsB (zs : List Int) : Bool := decide (∀ k (h : k < zs.length), isH zs[k] = true)
theorem heatsB_mk {zs : List Int} (h : ∀ k (h : k < zs.length), isH zs[k] = true) : heatsB zs = true := decide_eq_true h
theorem heatsB_not {zs : List Int} {k : Nat} (hk : k < zs.length) (h : isH zs[k] = false) : heatsB zs = false := decide_eq_false (fun x => by have := x k hk; rw [h] at this; cases this)
theorem heat_every {hs : List Int} : heatB hs = (decide (hs.length = 128) && heatsB hs) := by
  unfold heatB heatsB isH
  rw [Bool.eq_iff_iff, Bool.and_eq_true]
  simp only [decide_eq_true_eq]
  constructor
  · exact fun h => ⟨h.1, fun k hk => ⟨(h.2 k hk).1, by have := (h.2 k hk).2; omega⟩⟩
  · exact fun h => ⟨h.1, fun k hk => ⟨(h.2 k hk).1, by have := (h.2 k hk).2; omega⟩⟩

theorem isHeat_any (n : Int) (w : World) : Calls Tryz.prog 106 #[.int .i64 n] w fun e w' => e = .returned (.bool (isH n)) ∧ w' = w := by
  by_cases h : 0 ≤ n ∧ n < 65
  · have e : isH n = true := decide_eq_true h
    rw [e]; clear e
    go_enter Tryz.func106, Tryz.ntmps106
    go_wp2_with fail
    refine (isIndex_yes _ _ _ h).mono ?_
    rintro e w' ⟨rfl, hw'⟩
    subst w'
    go_wp2
    go_ret
    exact ⟨rfl, rfl⟩
  · have e : isH n = false := decide_eq_false h
    rw [e]; clear e
    go_enter Tryz.func106, Tryz.ntmps106
    go_wp2_with fail
    refine (isIndex_no _ _ _ h).mono ?_
    rintro e w' ⟨rfl, hw'⟩
    subst w'
    go_wp2
    go_ret
    exact ⟨rfl, rfl⟩

set_option maxHeartbeats 2000000 in
theorem everyHeat_any (v : Value) (zs : List Int) (w : World) (h : RdI w v zs) (hn : zs.length ≤ 2147483648) :
    Calls Tryz.prog 105 #[v, .func (.func 106) #[] #[]] w fun e w' => e = .returned (.bool (heatsB zs)) ∧ w' = w := by
  obtain ⟨ao, cap, rfl, _, hc⟩ := h.shape
  clear h
  go_enter Tryz.func105, Tryz.ntmps105
  go_wp2
  go_loop [6, 9] (fun _ i => ∃ k : Nat, k ≤ zs.length ∧ i = .int .i64 k ∧ Hid (∀ j (h : j < zs.length), j < k → isH zs[j] = true)) (fun _ i => zs.length - (intOf i).toNat)
  case atStart => exact ⟨0, by omega, rfl, fun j h a => absurd a (by omega)⟩
  case round =>
    obtain ⟨k, hk, rfl, H⟩ := hrel
    by_cases hlt : k < zs.length
    · obtain ⟨b, o, rfl, hbl, hcell⟩ := hc (by omega)
      have hck := hcell k hlt
      clear hcell hc
      by_cases q : isH zs[k] = true
      · go_wp2_with (go_at_call 106; refine (isHeat_any _ _).mono ?_; rintro e w' ⟨rfl, rfl⟩)
        go_round
        case rel =>
          refine ⟨k + 1, by omega, by go_num, fun j h a => ?_⟩
          by_cases e : j = k
          · subst e; exact q
          · exact H.out j h (by omega)
        case measure => simp [intOf]; omega
      · have q' : isH zs[k] = false := by simpa using q
        have E := hideIt (heatsB_not hlt q')
        go_wp2_with (go_at_call 106; refine (isHeat_any _ _).mono ?_; rintro e w' ⟨rfl, rfl⟩)
        go_ret
        exact ⟨ret_bool E.out.symm, rfl⟩
    · have E := hideIt (heatsB_mk (fun j h => H.out j h (by omega)))
      clear H
      go_wp2
      go_ret
      exact ⟨ret_bool E.out.symm, rfl⟩

set_option maxRecDepth 100000 in
set_option maxHeartbeats 4000000 in
theorem implHeatOK_any (v : Value) (hs : List Int) (w : World) (h : RdI w v hs) (hn : hs.length ≤ 1048576) : Calls Tryz.prog 51 #[v] w fun e w' => e = .returned (.bool (heatB hs)) ∧ w' = w := by
  have LE := hideIt (everyHeat_any v hs w h (by omega))
  obtain ⟨ao, cap, rfl, -, -⟩ := h.shape
  rw [heat_every]
  clear h
  generalize heatsB hs = b at *
  by_cases c : hs.length = 128
  · rw [decide_eq_true c, Bool.true_and]
    have q : ((hs.length : Int) == 128) = true := by rw [beq_iff_eq]; omega
    clear c
    go_enter Tryz.func51, Tryz.ntmps51
    go_wp2_with fail
    refine LE.out.mono ?_
    rintro e w' ⟨rfl, hw'⟩
    subst w'
    go_wp2
    go_ret
    exact ⟨rfl, rfl⟩
  · rw [decide_eq_false c, Bool.false_and]
    have q : ((hs.length : Int) == 128) = false := by rw [beq_eq_false_iff_ne]; omega
    clear c LE
    go_enter Tryz.func51, Tryz.ntmps51
    go_wp2
    go_ret
    exact ⟨rfl, rfl⟩

/-- What is wrong about heat. -/
def hfI (hs : List Int) : Int := if 4096 < hs.length then 2 else if heatB hs = true then 0 else 1
set_option maxRecDepth 100000 in
set_option maxHeartbeats 4000000 in
theorem heatFault_any (v : Value) (hs : List Int) (w : World) (h : RdI w v hs) (hn : hs.length ≤ 1048576) : Calls Tryz.prog 143 #[v] w fun e w' => e = .returned (.int .i64 (hfI hs)) ∧ w' = w := by
  have LE := hideIt (implHeatOK_any v hs w h hn)
  have EO := hideIt (show hfI hs = if 4096 < hs.length then 2 else if heatB hs = true then 0 else 1 from rfl)
  obtain ⟨ao, cap, rfl, -, -⟩ := h.shape
  generalize hfI hs = r at *
  generalize heatB hs = b at *
  clear h
  by_cases c1 : 4096 < hs.length
  · rw [if_pos c1] at EO
    obtain rfl := EO.out
    have c2 : (hs.length : Int) > 4096 := by omega
    clear EO c1 LE
    go_enter Tryz.func143, Tryz.ntmps143
    go_wp2
    go_ret
    exact ⟨rfl, rfl⟩
  rw [if_neg c1] at EO
  have c2 : ¬ (hs.length : Int) > 4096 := by omega
  clear c1
  cases b
  all_goals
    simp only [if_true, Bool.false_eq_true, if_false] at EO
    obtain rfl := EO.out
    clear EO
    go_enter Tryz.func143, Tryz.ntmps143
    go_wp2_with fail
    refine LE.out.mono ?_
    rintro e w' ⟨rfl, hw'⟩
    subst w'
    go_wp2
    go_ret
    exact ⟨rfl, rfl⟩

@[go_sem] theorem eqlNilInt (a : Option Addr) (l c : Nat) (w : World) : (binOp .eql 22 (.slice a l c) (.slice none 0 0)).run Tryz.prog w = .ok (.bool a.isNone) w := by
  simp only [binOp]
  simp [run_equal_slice_nil w 22 3 a l c Tryz.underlying22]

set_option maxRecDepth 100000 in
set_option maxHeartbeats 4000000 in
theorem cloneInt_any (v : Value) (hs : List Int) (w : World) (h : RdI w v hs) (hn : hs.length = 128) :
    Calls Tryz.prog 144 #[v] w fun e w' => ∃ b c, e = .returned (.slice (some ⟨b, 0, none⟩) 128 c) ∧ Row w' 3 1 w.heap.size w'.heap.size (.slice (some ⟨b, 0, none⟩) 128 c) 128 (ints hs) ∧ Below w.heap.size w w' := by
  have HR : Hid (Rd w 1 v 128 (ints hs)) := by unfold Hid; rw [← hn]; exact h
  obtain ⟨ao, cap, rfl, _, hc⟩ := h.shape
  obtain ⟨b, o, rfl, -, -⟩ := hc (by omega)
  rw [hn] at HR ⊢
  have BB := hideIt ((Below.refl w.heap.size w).alloc (Nat.le_refl _) (.cells #[] 3))
  have OB := hideIt (World.ownsRow_lit (e := 3) (size := 1) w #[] 0 (Nat.le_refl _) (by simp [maxLen]) (by simp))
  have RB : Hid (Rd (w.alloc (.cells #[] 3)) 1 (.slice (some ⟨b, o, none⟩) 128 cap) 128 (ints hs)) := Rd.below HR.out BB.out
  have hz : w.heap.size ≤ (w.alloc (.cells #[] 3)).heap.size := BB.out.size
  clear hc h hn
  go_enter Tryz.func144, Tryz.ntmps144
  go_wp2_with (at_builtin; refine wpList_append_rd _ rfl (.tmp 5) (.tmp 6) 22 rfl w.heap.size 3 (.int .i64 0) 1 8 Tryz.underlying22 info3 rfl (by decide) _ 0 [] rfl OB.out _ 128 (ints hs) rfl RB.out (ints_one _) (by simp [maxLen]) (by omega) hz ?_)
  intro vN wN hownN hgrN
  have ON : Hid (Row wN 3 1 w.heap.size wN.heap.size vN 128 (ints hs)) := own_block hownN
  have BN := hideIt (BB.out.grown hgrN hz (fun q hq => (OB.out.lt q hq).1))
  clear hownN hgrN
  obtain ⟨b, c, rfl, hcb⟩ := own_blk ON.out.1 (by omega)
  go_wp2
  go_ret
  exact ⟨_, _, rfl, ON.out, BN.out⟩
end Go.Proofs.YtipklbnfobckaaaGreatDoor

namespace Go.Proofs.YtipklbnfobckaaaGreatDoor
open Go.RowKit

theorem World.ownsRow.below {w w' : World} {base : Nat} {e : TypeId} {size : Nat} {v : Value} {n : Nat} {xs : List Value} (h : w.ownsRow base e size v n xs) (hb : Below w.heap.size w w') : w'.ownsRow base e size v n xs := by
  obtain ⟨hl, h⟩ := h
  refine ⟨hl, ?_⟩
  rcases h with h | ⟨g, cap, cur, h1, h2, h3, h4⟩
  · exact .inl h
  · exact .inr ⟨g, cap, cur, h1, h2, (hb.block g (Array.getElem?_eq_some_iff.1 h3).1).trans h3, h4⟩

end Go.Proofs.YtipklbnfobckaaaGreatDoor

namespace Go.Proofs.YtipklbnfobckaaaGreatDoor
open Go.RowKit

structure ReI (W w : World) (vL : Value) (ls : List Se) : Prop where
  l : w.ownsRow W.heap.size 244 2 vL ls.length (ses ls)
  b : Below W.heap.size W w
theorem ReI.z {W w : World} {vL : Value} {ls : List Se} (h : ReI W w vL ls) : W.heap.size ≤ w.heap.size := h.b.size
theorem ReI.below {W w w' : World} {vL : Value} {ls : List Se} (h : ReI W w vL ls) (hb : Below w.heap.size w w') : ReI W w' vL ls :=
  ⟨((own_block h.l).below hb (Nat.le_refl _)).1, below_trans h.b hb h.z⟩
end Go.Proofs.YtipklbnfobckaaaGreatDoor
