/- Whether addresses add up, and whether some are free: by the model. -/
import Derived.Test.YtbjjdkemappelaaGreatDoorAdG
namespace Go.Proofs.YtbjjdkemappelaaGreatDoor
open Go.RowKit
theorem ctU_succ (U : List Int) (k : Nat) : ((List.range (k + 1)).countP fun i : Nat => !hasB U (i : Int)) = ((List.range k).countP fun i : Nat => !hasB U (i : Int)) + if hasB U (k : Int) = true then 0 else 1 := by
  rw [List.range_succ, List.countP_append, List.countP_singleton]
  cases hasB U (k : Int) <;> simp
theorem ctU_le (U : List Int) (k : Nat) : ((List.range k).countP fun i : Nat => !hasB U (i : Int)) ≤ k := by
  have := List.countP_le_length (p := fun i : Nat => !hasB U (i : Int)) (l := List.range k)
  rw [List.length_range] at this
  exact this
set_option maxRecDepth 100000 in
set_option maxHeartbeats 4000000 in
theorem specFairWrite_any (v : Value) (ws : List Int) (ps : List St) (es : List Int) (qs : List Se) (w : World) (h : RdDev w v ws ps es qs) (hw : ws.length ≤ 1048576) (hp : ps.length ≤ 1048576) (he : es.length ≤ 1048576) (hq : qs.length ≤ 1048576) :
    Calls Tryz.prog 25 #[v] w fun e w' => e = .returned (.tuple #[.bool (fwR ws ps es qs), .int .i64 (adC (dvB ws ps es qs))]) ∧ Below w.heap.size w w' := by
  have LA := hideIt (fun w1 (hb : Below w.heap.size w w1) => l08Image_any v ws ps es qs w1 (h.below hb) hw hp he hq)
  obtain ⟨aW, cW, aP, cP, aS, cS, aQ, cQ, rfl, -, -⟩ := h.form
  have BW : Hid (Below w.heap.size w (w.alloc (.cells #[.slice aW ws.length cW, .slice aP ps.length cP, .slice aS es.length cS, .slice aQ qs.length cQ] 41))) := (Below.refl _ _).alloc (Nat.le_refl _) _
  obtain ⟨x0, x1, x2, x3, -, -, -, -⟩ := fourU (at_new (w := w) (o := .cells #[.slice aW ws.length cW, .slice aP ps.length cP, .slice aS es.length cS, .slice aQ qs.length cQ] 41) rfl)
  clear h
  cases ok : dvB ws ps es qs with
  | false =>
    rw [show adC false = 1 from rfl, show fwR ws ps es qs = false by unfold fwR; rw [ok]; rfl]
    rw [ok] at LA
    clear ok
    generalize dvN ws ps es qs = dn at *
    generalize dvD ws ps es qs = dd at *
    go_enter Tryz.func25, Tryz.ntmps25
    go_wp2_with fail
    refine (LA.out _ BW.out).mono ?_
    rintro e w1 ⟨v1, rfl, ⟨vI, vD, rfl, hI, hD⟩, hb1⟩
    obtain ⟨-, a1, c1, hv1, -⟩ := hI.rd
    obtain ⟨-, a2, c2, hv2, -⟩ := hD.rd
    subst hv1
    subst hv2
    have B1 := hideIt ((below_trans BW.out hb1 BW.out.size).alloc (Nat.le_trans BW.out.size hb1.size) (.cells #[.slice a1 dn.length c1, .slice a2 dd.length c2] 76))
    clear hI hD hb1 x0 x1 x2 x3
    go_wp2
    go_ret2
    exact ⟨rfl, B1.out⟩
  | true =>
    rw [show adC true = 0 from rfl, show fwR ws ps es qs = (decide ((usedOf (mapped (dvN ws ps es qs)) 1).length < 24) || decide ((usedOf (mapped (dvN ws ps es qs)) 2).length < 32)) by unfold fwR; rw [ok]; rfl]
    have i : imgB (dvN ws ps es qs) (dvD ws ps es qs) = true := by rw [dv_img]; exact ok
    have nl := (img_parts i).1
    have LU := hideIt (fun t v1 w1 h => l05Used_any v1 (dvN ws ps es qs) (dvD ws ps es qs) t w1 h (by omega) (img_small i))
    have ML : (mapped (dvN ws ps es qs)).length ≤ 128 := by have := mapped_len (dvN ws ps es qs); omega
    have UL := hideIt (fun t => Nat.le_trans (usedOf_len (mapped (dvN ws ps es qs)) t) ML)
    have hl1 := UL.out 1
    have hl2 := UL.out 2
    rw [ok] at LA
    have L1 := hideIt (LU.out 1)
    have L2 := hideIt (LU.out 2)
    clear ok i nl ML UL LU
    generalize (usedOf (mapped (dvN ws ps es qs)) 1) = V1 at *
    generalize (usedOf (mapped (dvN ws ps es qs)) 2) = V2 at *
    generalize dvN ws ps es qs = dn at *
    generalize dvD ws ps es qs = dd at *
    go_enter Tryz.func25, Tryz.ntmps25
    go_wp2_with fail
    refine (LA.out _ BW.out).mono ?_
    rintro e w1 ⟨v1, rfl, ⟨vI, vD, rfl, hI, hD⟩, hb1⟩
    have R1 : Hid (RowIm w1 (w.alloc (.cells #[.slice aW ws.length cW, .slice aP ps.length cP, .slice aS es.length cS, .slice aQ qs.length cQ] 41)).heap.size w1.heap.size (.agg #[vI, vD]) dn dd) := ⟨_, _, rfl, hI, hD⟩
    obtain ⟨-, a1, c1, hv1, -⟩ := hI.rd
    obtain ⟨-, a2, c2, hv2, -⟩ := hD.rd
    subst hv1
    subst hv2
    obtain ⟨w2, hw2⟩ : ∃ w2, w2 = w1.alloc (.cells #[.slice a1 dn.length c1, .slice a2 dd.length c2] 76) := ⟨_, rfl⟩
    have B2 : Hid (Below w.heap.size w w2) := by rw [hw2]; exact (below_trans BW.out hb1 BW.out.size).alloc (Nat.le_trans BW.out.size hb1.size) _
    have R2 : Hid (RdIm w2 (.agg #[.slice a1 dn.length c1, .slice a2 dd.length c2]) dn dd) := by rw [hw2]; exact R1.out.rd.below ((Below.refl _ _).alloc (Nat.le_refl _) _)
    have I2 : Hid (w2.heap[w1.heap.size]? = some (.cells #[.slice a1 dn.length c1, .slice a2 dd.length c2] 76 (0, 0))) := by rw [hw2]; exact at_new rfl
    have hz2 : w1.heap.size < w2.heap.size := by rw [hw2]; simp
    have IK : Hid (∀ w', Below w2.heap.size w2 w' → w'.cell? ⟨w1.heap.size, 0, none⟩ = some (.slice a1 dn.length c1) ∧ w'.cell? ⟨w1.heap.size, 1, none⟩ = some (.slice a2 dd.length c2)) := fun w' hb => two_keep ((hb.block _ hz2).trans I2.out)
    clear hI hD hb1 R1 x0 x1 x2 x3
    obtain ⟨y0, y1⟩ := IK.out _ (Below.refl _ _)
    go_upto_region 4 with fail
    rw [← hw2]
    clear hw2
    go_wp2_with fail
    refine (L1.out _ _ R2.out).mono ?_
    rintro e w3 ⟨v3, rfl, hr3, hb3⟩
    obtain ⟨-, aL, cL, hvL, -⟩ := hr3.rd
    subst hvL
    have B3 := hideIt (below_trans B2.out hb3 B2.out.size)
    have R3 := hideIt (R2.out.below hb3)
    clear y0 y1 hr3
    obtain ⟨y0, y1⟩ := IK.out _ hb3
    clear hb3
    by_cases c1 : V1.length < 24
    · have c1' : (V1.length : Int) < 24 := by omega
      go_wp2
      go_ret2
      refine ⟨?_, B3.out⟩
      rw [decide_eq_true c1]
      rfl
    · have c1' : ¬ (V1.length : Int) < 24 := by omega
      go_wp2_with fail
      refine (L2.out _ _ R3.out).mono ?_
      rintro e w4 ⟨v4, rfl, hr4, hb4⟩
      obtain ⟨-, aM, cM, hvM, -⟩ := hr4.rd
      subst hvM
      have B4 := hideIt (below_trans B3.out hb4 B3.out.size)
      clear hb4 hr4 y0 y1
      go_wp2
      go_ret2
      refine ⟨?_, B4.out⟩
      rw [show decide (V1.length < 24) = decide ((V1.length : Int) < 24) from decide_eq_decide.2 (by omega), show decide (V2.length < 32) = decide ((V2.length : Int) < 32) from decide_eq_decide.2 (by omega)]
      rfl
set_option maxRecDepth 100000 in
set_option maxHeartbeats 8000000 in
theorem specAccounted_any (v : Value) (ws : List Int) (ps : List St) (es : List Int) (qs : List Se) (w : World) (h : RdDev w v ws ps es qs) (hw : ws.length ≤ 1048576) (hp : ps.length ≤ 1048576) (he : es.length ≤ 1048576) (hq : qs.length ≤ 1048576) :
    Calls Tryz.prog 9 #[v] w fun e w' => e = .returned (.tuple #[.bool (dvB ws ps es qs), .int .i64 (adC (dvB ws ps es qs))]) ∧ Below w.heap.size w w' := by
  have LA := hideIt (fun w1 (hb : Below w.heap.size w w1) => l08Image_any v ws ps es qs w1 (h.below hb) hw hp he hq)
  obtain ⟨aW, cW, aP, cP, aS, cS, aQ, cQ, rfl, -, -⟩ := h.form
  have BW : Hid (Below w.heap.size w (w.alloc (.cells #[.slice aW ws.length cW, .slice aP ps.length cP, .slice aS es.length cS, .slice aQ qs.length cQ] 41))) := (Below.refl _ _).alloc (Nat.le_refl _) _
  obtain ⟨x0, x1, x2, x3, -, -, -, -⟩ := fourU (at_new (w := w) (o := .cells #[.slice aW ws.length cW, .slice aP ps.length cP, .slice aS es.length cS, .slice aQ qs.length cQ] 41) rfl)
  clear h
  cases ok : dvB ws ps es qs with
  | false =>
    rw [show adC false = 1 from rfl]
    rw [ok] at LA
    clear ok
    generalize dvN ws ps es qs = dn at *
    generalize dvD ws ps es qs = dd at *
    go_enter Tryz.func9, Tryz.ntmps9
    go_wp2_with fail
    refine (LA.out _ BW.out).mono ?_
    rintro e w1 ⟨v1, rfl, ⟨vI, vD, rfl, hI, hD⟩, hb1⟩
    obtain ⟨-, a1, c1, hv1, -⟩ := hI.rd
    obtain ⟨-, a2, c2, hv2, -⟩ := hD.rd
    subst hv1
    subst hv2
    have B1 := hideIt ((below_trans BW.out hb1 BW.out.size).alloc (Nat.le_trans BW.out.size hb1.size) (.cells #[.slice a1 dn.length c1, .slice a2 dd.length c2] 76))
    clear hI hD hb1 x0 x1 x2 x3
    go_wp2
    go_ret2
    exact ⟨rfl, B1.out⟩
  | true =>
    rw [show adC true = 0 from rfl]
    have i : imgB (dvN ws ps es qs) (dvD ws ps es qs) = true := by rw [dv_img]; exact ok
    have nl := (img_parts i).1
    have LU := hideIt (fun t v1 w1 h => l05Used_any v1 (dvN ws ps es qs) (dvD ws ps es qs) t w1 h (by omega) (img_small i))
    have ML : (mapped (dvN ws ps es qs)).length ≤ 128 := by have := mapped_len (dvN ws ps es qs); omega
    have UL := hideIt (fun t => Nat.le_trans (usedOf_len (mapped (dvN ws ps es qs)) t) ML)
    have S1 := hideIt (ctU_not (used_ok i 1 24 (by decide)).1 (used_ok i 1 24 (by decide)).2)
    have S2 := hideIt (ctU_not (used_ok i 2 32 (by decide)).1 (used_ok i 2 32 (by decide)).2)
    have HL1 := hideIt (UL.out 1)
    have HL2 := hideIt (UL.out 2)
    rw [ok] at LA
    have L1 := hideIt (LU.out 1)
    have L2 := hideIt (LU.out 2)
    clear ok i nl ML UL LU
    generalize (usedOf (mapped (dvN ws ps es qs)) 1) = V1 at *
    generalize (usedOf (mapped (dvN ws ps es qs)) 2) = V2 at *
    generalize dvN ws ps es qs = dn at *
    generalize dvD ws ps es qs = dd at *
    go_enter Tryz.func9, Tryz.ntmps9
    go_wp2_with fail
    refine (LA.out _ BW.out).mono ?_
    rintro e w1 ⟨v1, rfl, ⟨vI, vD, rfl, hI, hD⟩, hb1⟩
    have R1 : Hid (RowIm w1 (w.alloc (.cells #[.slice aW ws.length cW, .slice aP ps.length cP, .slice aS es.length cS, .slice aQ qs.length cQ] 41)).heap.size w1.heap.size (.agg #[vI, vD]) dn dd) := ⟨_, _, rfl, hI, hD⟩
    obtain ⟨-, a1, c1, hv1, -⟩ := hI.rd
    obtain ⟨-, a2, c2, hv2, -⟩ := hD.rd
    subst hv1
    subst hv2
    obtain ⟨w2, hw2⟩ : ∃ w2, w2 = w1.alloc (.cells #[.slice a1 dn.length c1, .slice a2 dd.length c2] 76) := ⟨_, rfl⟩
    have B2 : Hid (Below w.heap.size w w2) := by rw [hw2]; exact (below_trans BW.out hb1 BW.out.size).alloc (Nat.le_trans BW.out.size hb1.size) _
    have R2 : Hid (RdIm w2 (.agg #[.slice a1 dn.length c1, .slice a2 dd.length c2]) dn dd) := by rw [hw2]; exact R1.out.rd.below ((Below.refl _ _).alloc (Nat.le_refl _) _)
    have I2 : Hid (w2.heap[w1.heap.size]? = some (.cells #[.slice a1 dn.length c1, .slice a2 dd.length c2] 76 (0, 0))) := by rw [hw2]; exact at_new rfl
    have hz2 : w1.heap.size < w2.heap.size := by rw [hw2]; simp
    have IK : Hid (∀ w', Below w2.heap.size w2 w' → w'.cell? ⟨w1.heap.size, 0, none⟩ = some (.slice a1 dn.length c1) ∧ w'.cell? ⟨w1.heap.size, 1, none⟩ = some (.slice a2 dd.length c2)) := fun w' hb => two_keep ((hb.block _ hz2).trans I2.out)
    clear hI hD hb1 R1 x0 x1 x2 x3
    go_upto_region 4 with fail
    rw [← hw2]
    clear hw2
    go_wp2
    go_loopg [6, 7, 8, 9, 10] 2 (fun g tv _ _ _ _ wr => ∃ t : Nat, t + g = 3 ∧ 1 ≤ t ∧ tv = .int .i64 t ∧ Hid (Below w2.heap.size w2 wr))
    case atStart => exact ⟨1, by omega, by omega, rfl, Below.refl _ _⟩
    case round =>
      obtain ⟨t, ht, ht1, rfl, B⟩ := hrel
      obtain ⟨y0, y1⟩ := IK.out _ B.out
      have RR := hideIt (R2.out.below B.out)
      have hzr : w2.heap.size ≤ wr.heap.size := B.out.size
      rcases (show t = 1 ∨ t = 2 ∨ t = 3 by omega) with rfl | rfl | rfl
      · go_wp2_with fail
        refine (L1.out _ _ RR.out).mono ?_
        rintro e w3 ⟨v3, rfl, hr3, hb3⟩
        obtain ⟨-, aL, cL, hvL, -⟩ := hr3.rd
        subst hvL
        have B3 := hideIt (below_trans B.out hb3 hzr)
        have R3 : Hid (RdI w3 (.slice aL V1.length cL) V1) := hr3.rd
        have hl : V1.length ≤ 128 := HL1.out
        clear hr3 hb3 y0 y1 B RR
        go_wp2
        go_loopg [9, 10] 24 (fun gi fv iv wq => ∃ k : Nat, k + gi = 24 ∧ iv = .int .i64 k ∧ fv = .int .i64 ((List.range k).countP fun i : Nat => !hasB V1 (i : Int)) ∧ wq = w3)
        case atStart => exact ⟨0, by omega, rfl, rfl, rfl⟩
        case round =>
          rename_i gi_
          obtain ⟨k, hk, rfl, rfl, rfl⟩ := hrel
          have CS := hideIt (ctU_succ V1 k)
          have CL := ctU_le V1 k
          by_cases hlt : k < 24
          · have k1 : (k : Int) < 24 := by omega
            have LH := hideIt (l05Has_any (.slice aL V1.length cL) V1 (k : Int) _ R3.out (by omega))
            have EC : Hid (∃ m, m = (List.range (k + 1)).countP fun i : Nat => !hasB V1 (i : Int)) := ⟨_, rfl⟩
            obtain ⟨m, hm⟩ := EC.out
            rw [← hm] at CS
            have hm := hideIt hm
            generalize ((List.range k).countP fun i : Nat => !hasB V1 (i : Int)) = cc at *
            cases q : hasB V1 (k : Int) with
            | true =>
              rw [q] at LH CS
              clear q
              have CS2 := hideIt (show m = cc by have := CS.out; simpa using this)
              go_wp2_with (first | (go_at_call 37; refine LH.out.mono ?_; rintro e w' ⟨rfl, rfl⟩) | (go_at_call 36; refine (l01Bit_f _).mono ?_; rintro e w' ⟨rfl, rfl⟩))
              go_roundg (gk - 1)
              case measure => omega
              case rel => exact ⟨k + 1, by omega, by go_num, by rw [← hm.out, CS2.out], rfl⟩
            | false =>
              rw [q] at LH CS
              clear q
              have CS2 := hideIt (show m = cc + 1 by have := CS.out; simpa using this)
              go_wp2_with (first | (go_at_call 37; refine LH.out.mono ?_; rintro e w' ⟨rfl, rfl⟩) | (go_at_call 36; refine (l01Bit_t _).mono ?_; rintro e w' ⟨rfl, rfl⟩))
              go_roundg (gk - 1)
              case measure => omega
              case rel => exact ⟨k + 1, by omega, by go_num, by rw [← hm.out, CS2.out]; push_cast; rfl, rfl⟩
          · obtain rfl : k = 24 := by omega
            have SS := S1.out
            generalize ((List.range 24).countP fun i : Nat => !hasB V1 (i : Int)) = cc at *
            have SE : (V1.length : Int) + (cc : Int) = 24 := by omega
            clear CS CL SS
            go_wp2
            go_roundg 1
            case measure => omega
            case rel => exact ⟨1 + 1, by omega, by omega, rfl, B3.out⟩
      · go_wp2_with fail
        refine (L2.out _ _ RR.out).mono ?_
        rintro e w3 ⟨v3, rfl, hr3, hb3⟩
        obtain ⟨-, aL, cL, hvL, -⟩ := hr3.rd
        subst hvL
        have B3 := hideIt (below_trans B.out hb3 hzr)
        have R3 : Hid (RdI w3 (.slice aL V2.length cL) V2) := hr3.rd
        have hl : V2.length ≤ 128 := HL2.out
        clear hr3 hb3 y0 y1 B RR
        go_wp2
        go_loopg [9, 10] 32 (fun gi fv iv wq => ∃ k : Nat, k + gi = 32 ∧ iv = .int .i64 k ∧ fv = .int .i64 ((List.range k).countP fun i : Nat => !hasB V2 (i : Int)) ∧ wq = w3)
        case atStart => exact ⟨0, by omega, rfl, rfl, rfl⟩
        case round =>
          rename_i gi_
          obtain ⟨k, hk, rfl, rfl, rfl⟩ := hrel
          have CS := hideIt (ctU_succ V2 k)
          have CL := ctU_le V2 k
          by_cases hlt : k < 32
          · have k1 : (k : Int) < 32 := by omega
            have LH := hideIt (l05Has_any (.slice aL V2.length cL) V2 (k : Int) _ R3.out (by omega))
            have EC : Hid (∃ m, m = (List.range (k + 1)).countP fun i : Nat => !hasB V2 (i : Int)) := ⟨_, rfl⟩
            obtain ⟨m, hm⟩ := EC.out
            rw [← hm] at CS
            have hm := hideIt hm
            generalize ((List.range k).countP fun i : Nat => !hasB V2 (i : Int)) = cc at *
            cases q : hasB V2 (k : Int) with
            | true =>
              rw [q] at LH CS
              clear q
              have CS2 := hideIt (show m = cc by have := CS.out; simpa using this)
              go_wp2_with (first | (go_at_call 37; refine LH.out.mono ?_; rintro e w' ⟨rfl, rfl⟩) | (go_at_call 36; refine (l01Bit_f _).mono ?_; rintro e w' ⟨rfl, rfl⟩))
              go_roundg (gk - 1)
              case measure => omega
              case rel => exact ⟨k + 1, by omega, by go_num, by rw [← hm.out, CS2.out], rfl⟩
            | false =>
              rw [q] at LH CS
              clear q
              have CS2 := hideIt (show m = cc + 1 by have := CS.out; simpa using this)
              go_wp2_with (first | (go_at_call 37; refine LH.out.mono ?_; rintro e w' ⟨rfl, rfl⟩) | (go_at_call 36; refine (l01Bit_t _).mono ?_; rintro e w' ⟨rfl, rfl⟩))
              go_roundg (gk - 1)
              case measure => omega
              case rel => exact ⟨k + 1, by omega, by go_num, by rw [← hm.out, CS2.out]; push_cast; rfl, rfl⟩
          · obtain rfl : k = 32 := by omega
            have SS := S2.out
            generalize ((List.range 32).countP fun i : Nat => !hasB V2 (i : Int)) = cc at *
            have SE : (V2.length : Int) + (cc : Int) = 32 := by omega
            clear CS CL SS
            go_wp2
            go_roundg 0
            case measure => omega
            case rel => exact ⟨2 + 1, by omega, by omega, rfl, B3.out⟩
      · go_wp2
        go_ret2
        exact ⟨rfl, below_trans B2.out B.out B2.out.size⟩
end Go.Proofs.YtbjjdkemappelaaGreatDoor
