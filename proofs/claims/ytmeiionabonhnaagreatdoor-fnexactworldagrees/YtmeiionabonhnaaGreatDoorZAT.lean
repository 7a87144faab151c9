/- Several texts laid together: ImM, ImN. -/
import Derived.Test.YtmeiionabonhnaaGreatDoorImX
namespace Go.Proofs.YtmeiionabonhnaaGreatDoor
open Go.RowKit
theorem entsB_mk {ws : List Ino} {ps : List Den} (h : ∀ i (h : i < ps.length), entOne ws ps i ps[i] = true) : entsB ws ps = true := decide_eq_true h
theorem entsB_not {ws : List Ino} {ps : List Den} {i : Nat} (hi : i < ps.length) (h : entOne ws ps i ps[i] = false) : entsB ws ps = false := decide_eq_false (fun x => by have := x i hi; rw [h] at this; cases this)
theorem ent_free {ws : List Ino} {ps : List Den} {i : Nat} {x : Den} (h : x.child = -1) : entOne ws ps i x = x.freeB := by unfold entOne; rw [if_pos h]
theorem ent_taken {ws : List Ino} {ps : List Den} {i : Nat} {x : Den} (h : ¬ x.child = -1) : entOne ws ps i x = (decide (1 ≤ x.child ∧ x.child ≤ 15) && (decide (0 ≤ x.dir ∧ x.dir ≤ 15) && (nmB x.name && (!(kindAt ws x.child == 0) && (kindAt ws x.dir == 2 && (ps.take i).all fun y => !clashB y x))))) := by unfold entOne; rw [if_neg h]
theorem all_not {ps : List Den} {i k : Nat} {x : Den} (hk : k < ps.length) (hi : k < i) (h : clashB ps[k] x = true) : ((ps.take i).all fun y => !clashB y x) = false := by
  rw [List.all_eq_false]
  exact ⟨ps[k], List.mem_take_iff_getElem.2 ⟨k, Nat.lt_min.2 ⟨hi, hk⟩, rfl⟩, by rw [h]; decide⟩
theorem all_mk {ps : List Den} {i : Nat} {x : Den} (h : ∀ k (h : k < ps.length), k < i → clashB ps[k] x = false) : ((ps.take i).all fun y => !clashB y x) = true := by
  rw [List.all_eq_true]
  intro y hy
  obtain ⟨k, hk, rfl⟩ := List.mem_take_iff_getElem.1 hy
  have hk := Nat.lt_min.1 hk
  rw [h k hk.2 hk.1]
  rfl
set_option maxRecDepth 100000 in
set_option maxHeartbeats 8000000 in
theorem l05Entries_any (v : Value) (ws : List Ino) (ps : List Den) (w : World) (h : RdIm w v ws ps) (hl : ws.length = 16) (hn : ps.length ≤ 1048576) (hs : ∀ k (h : k < ps.length), ps[k].name.size ≤ maxLen) :
    Calls Tryz.prog 127 #[v] w fun e w' => e = .returned (.bool (entsB ws ps)) ∧ Below w.heap.size w w' := by
  obtain ⟨vW, vP, rfl, h1, h2⟩ := h
  obtain ⟨aW, cW, rfl, _, hcW⟩ := h1.shape
  obtain ⟨aP, cP, rfl, _, hcP⟩ := h2.shape
  obtain ⟨bW, oW, rfl, hblW, hcellW⟩ := hcW (by omega)
  have HW := hideIt hcellW
  have HZ := hideIt hcP
  have HS := hideIt hs
  have HL := hideIt hl
  have w16 : (15 : Int) < (ws.length : Int) := by omega
  clear h1 h2 hcP hcW hcellW hs hl
  obtain ⟨W, hW⟩ : ∃ W, W = w.alloc (.cells #[.slice (some ⟨bW, oW, none⟩) ws.length cW, .slice aP ps.length cP] 98) := ⟨_, rfl⟩
  have CA : Hid (∀ w', Below W.heap.size W w' → w'.cell? ⟨w.heap.size, 0, none⟩ = some (.slice (some ⟨bW, oW, none⟩) ws.length cW) ∧ w'.cell? ⟨w.heap.size, 1, none⟩ = some (.slice aP ps.length cP)) := fun w' hb => by
    have : w'.heap[w.heap.size]? = some (.cells #[.slice (some ⟨bW, oW, none⟩) ws.length cW, .slice aP ps.length cP] 98 (0, 0)) := (hb.block _ (by rw [hW]; simp)).trans (by rw [hW]; exact at_new rfl)
    exact ⟨(two_cells this).1, (two_cells this).2.1⟩
  have BW : Hid (Below w.heap.size w W) := by rw [hW]; exact (Below.refl _ _).alloc (Nat.le_refl _) _
  have hz : w.heap.size ≤ W.heap.size := BW.out.size
  go_enter Tryz.func127, Tryz.ntmps127
  go_wp2
  rw [← hW]
  clear hW
  go_loopw [3] (fun i wr => ∃ k : Nat, k ≤ ps.length ∧ i = .int .i64 k ∧ Hid (Below W.heap.size W wr ∧ ∀ j (h : j < ps.length), j < k → entOne ws ps j ps[j] = true)) (fun i _ => ps.length - (intOf i).toNat)
  case atStart => exact ⟨0, by omega, rfl, Below.refl _ _, fun j h a => absurd a (by omega)⟩
  case round =>
    obtain ⟨i, hi, rfl, J⟩ := hrel
    obtain ⟨x0, x1⟩ := CA.out wr J.out.1
    have J1 := hideIt J.out.1
    have JW := hideIt (below_trans BW.out J.out.1 hz)
    have hzr : W.heap.size ≤ wr.heap.size := J.out.1.size
    by_cases hlt : i < ps.length
    · obtain ⟨b, o, rfl, hbl, hcell⟩ := HZ.out (by omega)
      obtain ⟨a0, a1, a2⟩ := hcell i hlt
      have d0 := (JW.out.cell (p := ⟨b, o + i * 3, none⟩) hbl).trans a0
      have d1 := (JW.out.cell (p := ⟨b, o + i * 3 + 1, none⟩) hbl).trans a1
      have d2 := (JW.out.cell (p := ⟨b, o + i * 3 + 2, none⟩) hbl).trans a2
      have i0 : (0 : Int) ≤ (i : Int) := by omega
      have i1 : (i : Int) < (ps.length : Int) := by omega
      have YES : Hid (entOne ws ps i ps[i] = true → ∀ j (h : j < ps.length), j < i + 1 → entOne ws ps j ps[j] = true) := fun q j h a => by
        by_cases e : j = i
        · subst e; exact q
        · exact J.out.2 j h (by omega)
      have NO := hideIt (fun q => entsB_not (ws := ws) hlt q)
      have EF := hideIt (@ent_free ws ps i ps[i])
      have ET := hideIt (@ent_taken ws ps i ps[i])
      have DF := den_free ps[i]
      have SZ := hideIt (HS.out i hlt)
      clear a0 a1 a2 J
      generalize ps[i] = x at *
      generalize entOne ws ps i x = eo at YES NO EF ET
      have B2 := hideIt (J1.out.alloc hzr (.cells #[.int .i64 x.dir, .string x.name, .int .i64 x.child] 140))
      have BF := hideIt (below_trans BW.out B2.out hz)
      by_cases c1 : x.child = -1
      · have q1 : (x.child == -1) = true := by rw [c1]; rfl
        have EO := hideIt (EF.out c1)
        cases c2 : x.freeB with
        | true =>
          rw [c2] at DF EO
          have E := hideIt (YES.out EO.out)
          clear c1 c2 EF ET YES NO EO
          go_wp2
          go_roundw
          case rel => exact ⟨i + 1, by omega, by go_num, B2.out, E.out⟩
          case measure => simp [intOf]; omega
        | false =>
          rw [c2] at DF EO
          have E := hideIt (NO.out EO.out)
          clear c1 c2 EF ET YES NO EO
          go_wp2
          go_ret
          exact ⟨ret_bool E.out.symm, BF.out⟩
      have q1 : (x.child == -1) = false := by rw [beq_eq_false_iff_ne]; exact c1
      have EO := hideIt (ET.out c1)
      clear c1 EF ET DF
      by_cases c2 : 1 ≤ x.child ∧ x.child ≤ 15
      case neg =>
        have E := hideIt (NO.out (by rw [EO.out, decide_eq_false c2]; rfl))
        have C2 := hideIt c2
        clear c2 YES NO EO
        go_wp2_with fail
        refine (l01In_no _ _ _ _ C2.out).mono ?_
        rintro e w' ⟨rfl, hw'⟩
        subst w'
        go_wp2
        go_ret
        exact ⟨ret_bool E.out.symm, BF.out⟩
      by_cases c3 : 0 ≤ x.dir ∧ x.dir ≤ 15
      case neg =>
        have E := hideIt (NO.out (by rw [EO.out, decide_eq_false c3, Bool.false_and, Bool.and_false]))
        have C2 := hideIt c2
        have C3 := hideIt c3
        clear c2 c3 YES NO EO
        go_wp2_with fail
        refine (l01In_yes _ _ _ _ C2.out).mono ?_
        rintro e w' ⟨rfl, hw'⟩
        subst w'
        go_wp2_with fail
        refine (l01In_no _ _ _ _ C3.out).mono ?_
        rintro e w' ⟨rfl, hw'⟩
        subst w'
        go_wp2
        go_ret
        exact ⟨ret_bool E.out.symm, BF.out⟩
      cases c4 : nmB x.name with
      | false =>
        have E := hideIt (NO.out (by rw [EO.out, c4, Bool.false_and, Bool.and_false, Bool.and_false]))
        have C2 := hideIt c2
        have C3 := hideIt c3
        have C4 := hideIt c4
        clear c2 c3 c4 YES NO EO
        go_wp2_with fail
        refine (l01In_yes _ _ _ _ C2.out).mono ?_
        rintro e w' ⟨rfl, hw'⟩
        subst w'
        go_wp2_with fail
        refine (l01In_yes _ _ _ _ C3.out).mono ?_
        rintro e w' ⟨rfl, hw'⟩
        subst w'
        go_wp2_with fail
        refine (l03Name_any _ _ SZ.out).mono ?_
        rw [C4.out]
        rintro e w' ⟨rfl, hw'⟩
        subst w'
        go_wp2
        go_ret
        exact ⟨ret_bool E.out.symm, BF.out⟩
      | true =>
      have EO2 := hideIt (show eo = (!(kindAt ws x.child == 0) && (kindAt ws x.dir == 2 && (ps.take i).all fun y => !clashB y x)) by rw [EO.out, decide_eq_true c2, decide_eq_true c3, c4]; rfl)
      have C4 := hideIt c4
      clear c4 EO
      obtain ⟨xd, xs, xc⟩ := x
      simp only at d0 d1 d2 c2 c3 SZ B2 BF EO2 q1 C4
      obtain ⟨d, rfl⟩ : ∃ d : Nat, xd = (d : Int) := ⟨xd.toNat, by omega⟩
      obtain ⟨c, rfl⟩ : ∃ c : Nat, xc = (c : Int) := ⟨xc.toNat, by omega⟩
      have C2 := hideIt c2
      have C3 := hideIt c3
      have hd : d < ws.length := by omega
      have hc : c < ws.length := by omega
      have d5 : (d : Int) < (ws.length : Int) := by omega
      have c5 : (c : Int) < (ws.length : Int) := by omega
      have g0 := (BF.out.cell (p := ⟨bW, oW + d * 11, none⟩) hblW).trans (HW.out d hd).1
      have g1 := (BF.out.cell (p := ⟨bW, oW + c * 11, none⟩) hblW).trans (HW.out c hc).1
      rw [kindAt_of hd, kindAt_of hc] at EO2
      obtain ⟨y0, y1⟩ := CA.out _ B2.out
      clear c2 c3
      generalize ws[d].kind = kd at g0 EO2
      generalize ws[c].kind = kc at g1 EO2
      by_cases c6 : kc = 0
      · have q6 : (kc == 0) = true := by rw [c6]; rfl
        have E := hideIt (NO.out (by rw [EO2.out, q6]; rfl))
        clear c6 YES NO EO2
        go_wp2_with fail
        refine (l01In_yes _ _ _ _ C2.out).mono ?_
        rintro e w' ⟨rfl, hw'⟩
        subst w'
        go_wp2_with fail
        refine (l01In_yes _ _ _ _ C3.out).mono ?_
        rintro e w' ⟨rfl, hw'⟩
        subst w'
        go_wp2_with fail
        refine (l03Name_any _ _ SZ.out).mono ?_
        rw [C4.out]
        rintro e w' ⟨rfl, hw'⟩
        subst w'
        go_wp2
        go_ret
        exact ⟨ret_bool E.out.symm, BF.out⟩
      have q6 : (kc == 0) = false := by rw [beq_eq_false_iff_ne]; exact c6
      by_cases c7 : kd = 2
      case neg =>
        have q7 : (kd != 2) = true := by rw [bne_iff_ne]; exact c7
        have E := hideIt (NO.out (by rw [EO2.out, show (kd == 2) = false by rw [beq_eq_false_iff_ne]; exact c7, Bool.false_and, Bool.and_false]))
        clear c6 c7 YES NO EO2
        go_wp2_with fail
        refine (l01In_yes _ _ _ _ C2.out).mono ?_
        rintro e w' ⟨rfl, hw'⟩
        subst w'
        go_wp2_with fail
        refine (l01In_yes _ _ _ _ C3.out).mono ?_
        rintro e w' ⟨rfl, hw'⟩
        subst w'
        go_wp2_with fail
        refine (l03Name_any _ _ SZ.out).mono ?_
        rw [C4.out]
        rintro e w' ⟨rfl, hw'⟩
        subst w'
        go_wp2
        go_ret
        exact ⟨ret_bool E.out.symm, BF.out⟩
      have q7 : (kd != 2) = false := by rw [c7]; rfl
      have EO3 := hideIt (show eo = (ps.take i).all fun y => !clashB y ⟨(d : Int), xs, (c : Int)⟩ by rw [EO2.out, q6, c7]; rfl)
      have BX : Hid ((wr.alloc (.cells #[.int .i64 (d : Int), .string xs, .int .i64 (c : Int)] 140)).heap[wr.heap.size]? = some (.cells #[.int .i64 (d : Int), .string xs, .int .i64 (c : Int)] 140 (0, 0))) := at_new rfl
      clear c6 c7 EO2
      go_wp2_with fail
      refine (l01In_yes _ _ _ _ C2.out).mono ?_
      rintro e w' ⟨rfl, hw'⟩
      subst w'
      go_wp2_with fail
      refine (l01In_yes _ _ _ _ C3.out).mono ?_
      rintro e w' ⟨rfl, hw'⟩
      subst w'
      go_wp2_with fail
      refine (l03Name_any _ _ SZ.out).mono ?_
      rw [C4.out]
      rintro e w' ⟨rfl, hw'⟩
      subst w'
      go_wp2
      generalize wr.alloc (.cells #[.int .i64 (d : Int), .string xs, .int .i64 (c : Int)] 140) = V at *
      have hzv : wr.heap.size < V.heap.size := (Array.getElem?_eq_some_iff.1 BX.out).1
      clear g0 g1 d0 d1 d2 x0 x1 y0 y1 q6 q7
      go_loopw [5] (fun k wq => ∃ m : Nat, m ≤ i ∧ k = .int .i64 m ∧ Hid (Below V.heap.size V wq ∧ ∀ j (h : j < ps.length), j < m → clashB ps[j] ⟨(d : Int), xs, (c : Int)⟩ = false)) (fun k _ => i - (intOf k).toNat)
      case atStart => exact ⟨0, by omega, rfl, Below.refl _ _, fun j h a => absurd a (by omega)⟩
      case round =>
        obtain ⟨m, hm, rfl, K⟩ := hrel
        have KB := hideIt (below_trans B2.out K.out.1 B2.out.size)
        have KW := hideIt (below_trans BW.out KB.out hz)
        obtain ⟨x0, x1⟩ := CA.out wr KB.out
        have K1 := hideIt K.out.1
        have hzk : V.heap.size ≤ wr.heap.size := K.out.1.size
        by_cases hlk : m < i
        · have hmp : m < ps.length := by omega
          obtain ⟨a0, a1, a2⟩ := hcell m hmp
          have d0 := (KW.out.cell (p := ⟨b, o + m * 3, none⟩) hbl).trans a0
          have d1 := (KW.out.cell (p := ⟨b, o + m * 3 + 1, none⟩) hbl).trans a1
          have d2 := (KW.out.cell (p := ⟨b, o + m * 3 + 2, none⟩) hbl).trans a2
          have m0 : (0 : Int) ≤ (m : Int) := by omega
          have m1 : (m : Int) < (i : Int) := by omega
          have m2 : (m : Int) < (ps.length : Int) := by omega
          have K2 : Hid (clashB ps[m] ⟨(d : Int), xs, (c : Int)⟩ = false → ∀ j (h : j < ps.length), j < m + 1 → clashB ps[j] ⟨(d : Int), xs, (c : Int)⟩ = false) := fun q j h a => by
            by_cases e : j = m
            · subst e; exact q
            · exact K.out.2 j h (by omega)
          have K3 : Hid (clashB ps[m] ⟨(d : Int), xs, (c : Int)⟩ = true → entsB ws ps = false) := fun q => NO.out (by rw [EO3.out, all_not hmp hlk q])
          have KC := hideIt (show clashB ps[m] ⟨(d : Int), xs, (c : Int)⟩ = (decide (0 ≤ ps[m].child) && (ps[m].dir == (d : Int) && ps[m].name.toList == xs.toList)) from rfl)
          clear a0 a1 a2 K
          generalize clashB ps[m] ⟨(d : Int), xs, (c : Int)⟩ = cb at K2 K3 KC
          generalize ps[m] = y at d0 d1 d2 KC
          have B3 := hideIt (K1.out.alloc hzk (.cells #[.int .i64 y.dir, .string y.name, .int .i64 y.child] 140))
          have B4 := hideIt (below_trans B2.out B3.out B2.out.size)
          have B5 := hideIt (below_trans BW.out B4.out hz)
          obtain ⟨z0, z1, z2⟩ := three_cells ((B3.out.block _ hzv).trans BX.out)
          by_cases e1 : 0 ≤ y.child
          case neg =>
            have E := hideIt (K2.out (by rw [KC.out, decide_eq_false e1]; rfl))
            clear K2 K3 KC
            go_wp2
            go_roundw
            case rel => exact ⟨m + 1, by omega, by go_num, B3.out, E.out⟩
            case measure => simp [intOf]; omega
          cases e2 : (y.dir == (d : Int)) with
          | false =>
            have E := hideIt (K2.out (by rw [KC.out, e2, Bool.false_and, Bool.and_false]))
            clear K2 K3 KC
            go_wp2
            go_roundw
            case rel => exact ⟨m + 1, by omega, by go_num, B3.out, E.out⟩
            case measure => simp [intOf]; omega
          | true =>
            cases e3 : (y.name.toList == xs.toList) with
            | false =>
              have E := hideIt (K2.out (by rw [KC.out, e3, Bool.and_false, Bool.and_false]))
              clear K2 K3 KC
              go_wp2
              go_roundw
              case rel => exact ⟨m + 1, by omega, by go_num, B3.out, E.out⟩
              case measure => simp [intOf]; omega
            | true =>
              have E := hideIt (K3.out (by rw [KC.out, e2, e3, decide_eq_true e1]; rfl))
              clear K2 K3 KC
              go_wp2
              go_ret
              exact ⟨ret_bool E.out.symm, B5.out⟩
        · obtain rfl : m = i := by omega
          have E := hideIt (YES.out (by rw [EO3.out]; exact all_mk (fun k hk hki => K.out.2 k hk hki)))
          clear K
          go_wp2
          go_roundw
          case rel => exact ⟨m + 1, by omega, by go_num, KB.out, E.out⟩
          case measure => simp [intOf]; omega
    · have E := hideIt (entsB_mk (ws := ws) (fun j h => J.out.2 j h (by omega)))
      clear J
      go_wp2
      go_ret
      exact ⟨ret_bool E.out.symm, JW.out⟩
end Go.Proofs.YtmeiionabonhnaaGreatDoor

namespace Go.Proofs.YtmeiionabonhnaaGreatDoor
open Go.RowKit
def usedTo (ws : List Ino) (t : Int) (k j : Nat) : List Int := usedOf (mapd ws k j) t
theorem usedTo_zero (ws : List Ino) (t : Int) (k : Nat) : usedTo ws t k 0 = usedOf (mapped (ws.take k)) t := by unfold usedTo; rw [mapd_zero]
theorem usedTo_full {ws : List Ino} {k : Nat} (t : Int) (hk : k < ws.length) : usedTo ws t k 8 = usedOf (mapped (ws.take (k + 1))) t := by unfold usedTo; rw [mapd_full hk]
theorem usedTo_succ {ws : List Ino} {k : Nat} (t : Int) (hk : k < ws.length) {j : Nat} (hj : j < 8) : usedTo ws t k (j + 1) = if ¬ ws[k].map.getD j 0 = 0 ∧ ws[k].map.getD j 0 % 4 = t then usedTo ws t k j ++ [ws[k].map.getD j 0 / 4] else usedTo ws t k j := by
  unfold usedTo
  rw [mapd_succ hk hj]
  generalize ws[k].map.getD j 0 = z
  by_cases h0 : z = 0
  · rw [if_pos h0, if_neg (fun h => h.1 h0)]
  · rw [if_neg h0]
    unfold usedOf
    rw [List.filter_append, List.map_append]
    by_cases h1 : z % 4 = t
    · rw [if_pos ⟨h0, h1⟩]; simp [h1]
    · rw [if_neg (fun h => h1 h.2)]; simp [h1]
theorem usedOf_len (l : List Int) (t : Int) : (usedOf l t).length ≤ l.length := by
  unfold usedOf
  rw [List.length_map]
  exact List.length_filter_le _ _
set_option maxRecDepth 100000 in
set_option maxHeartbeats 4000000 in
theorem l05Used_any (v : Value) (ws : List Ino) (ps : List Den) (t : Int) (w : World) (h : RdIm w v ws ps) (hn : ws.length ≤ 4096) (hr : ∀ k (h : k < ws.length), ∀ z ∈ ws[k].map, 0 ≤ z ∧ z ≤ 1048576) :
    Calls Tryz.prog 187 #[v, .int .i64 t] w fun e w' => ∃ v', e = .returned v' ∧ Row w' 3 1 w.heap.size w'.heap.size v' (usedOf (mapped ws) t).length (ints (usedOf (mapped ws) t)) ∧ Below w.heap.size w w' := by
  obtain ⟨vW, vP, rfl, h1, h2⟩ := h
  obtain ⟨aW, cW, rfl, _, hcW⟩ := h1.shape
  have HW := hideIt hcW
  have HR := hideIt hr
  obtain ⟨aP, cP, rfl, _, _⟩ := h2.shape
  clear h1 h2 hcW hr
  obtain ⟨W, hW⟩ : ∃ W, W = w.alloc (.cells #[.slice aW ws.length cW, .slice aP ps.length cP] 98) := ⟨_, rfl⟩
  have CA : Hid (∀ w', Below W.heap.size W w' → w'.cell? ⟨w.heap.size, 0, none⟩ = some (.slice aW ws.length cW)) := fun w' hb => by
    have : w'.heap[w.heap.size]? = some (.cells #[.slice aW ws.length cW, .slice aP ps.length cP] 98 (0, 0)) := (hb.block _ (by rw [hW]; simp)).trans (by rw [hW]; exact at_new rfl)
    exact (two_cells this).1
  have BW : Hid (Below w.heap.size w W) := by rw [hW]; exact (Below.refl _ _).alloc (Nat.le_refl _) _
  have hz : w.heap.size ≤ W.heap.size := BW.out.size
  have START : Hid (InI W (W.alloc (.cells #[] 3)) (.slice (some ⟨W.heap.size, 0, none⟩) 0 0) (usedOf (mapped (ws.take 0)) t)) := ⟨World.ownsRow_lit W #[] 0 (Nat.le_refl _) (by simp [maxLen]) (by simp), (Below.refl _ _).alloc (Nat.le_refl _) _⟩
  go_enter Tryz.func187, Tryz.ntmps187
  go_wp2
  rw [hW] at START
  simp only [World.size_alloc] at START
  go_loopw [5, 6] (fun vL i wr => ∃ k : Nat, k ≤ ws.length ∧ i = .int .i64 k ∧ Hid (InI W wr vL (usedOf (mapped (ws.take k)) t))) (fun _ i _ => ws.length - (intOf i).toNat)
  case atStart => exact ⟨0, by omega, rfl, by rw [hW]; exact START.out⟩
  case round =>
    obtain ⟨k, hk, rfl, I⟩ := hrel
    clear START hW
    have x0 := CA.out wr I.out.b
    have hzr : W.heap.size ≤ wr.heap.size := I.out.z
    have k0 : (0 : Int) ≤ (k : Int) := by omega
    by_cases hlt : k < ws.length
    · obtain ⟨b, o, rfl, hbl, hcell⟩ := HW.out (by omega)
      have k1 : (k : Int) < (ws.length : Int) := by omega
      have MZ := hideIt (usedTo_zero ws t k)
      have MF := hideIt (usedTo_full t hlt)
      have MS := hideIt (fun j (hj : j < 8) => usedTo_succ t hlt hj)
      have ML := hideIt (fun j (hj : j ≤ 8) => Nat.le_trans (usedOf_len (mapd ws k j) t) (mapd_len ws k j hlt hj))
      have ST : Hid (InI W wr u5 (usedTo ws t k 0)) := by unfold Hid; rw [MZ.out]; exact I.out
      have HM : Hid (∀ w', Below w.heap.size w w' → ∀ j, j < 8 → w'.cell? ⟨b, o + k * 11 + 3 + j, none⟩ = some (.int .i64 (ws[k].map.getD j 0))) := fun w' hb j hj => by
        obtain ⟨a0, a1, a2, a3, a4, a5, a6, a7, a8, a9, a10⟩ := hcell k hlt
        rcases (show j = 0 ∨ j = 1 ∨ j = 2 ∨ j = 3 ∨ j = 4 ∨ j = 5 ∨ j = 6 ∨ j = 7 by omega) with rfl | rfl | rfl | rfl | rfl | rfl | rfl | rfl
        · exact (hb.cell (p := ⟨b, o + k * 11 + 3, none⟩) hbl).trans a3
        · exact (hb.cell (p := ⟨b, o + k * 11 + 4, none⟩) hbl).trans a4
        · exact (hb.cell (p := ⟨b, o + k * 11 + 5, none⟩) hbl).trans a5
        · exact (hb.cell (p := ⟨b, o + k * 11 + 6, none⟩) hbl).trans a6
        · exact (hb.cell (p := ⟨b, o + k * 11 + 7, none⟩) hbl).trans a7
        · exact (hb.cell (p := ⟨b, o + k * 11 + 8, none⟩) hbl).trans a8
        · exact (hb.cell (p := ⟨b, o + k * 11 + 9, none⟩) hbl).trans a9
        · exact (hb.cell (p := ⟨b, o + k * 11 + 10, none⟩) hbl).trans a10
      have HZ : Hid (∀ j, j < 8 → 0 ≤ ws[k].map.getD j 0 ∧ ws[k].map.getD j 0 ≤ 1048576) := fun j hj => by
        have e : ws[k].map.getD j 0 = ws[k].map[j]'hj := by rw [List.getD_eq_getElem?_getD, List.getElem?_eq_getElem (show j < ws[k].map.length from hj)]; rfl
        rw [e]
        exact HR.out k hlt _ (List.getElem_mem _)
      clear I hcell
      generalize ws[k] = x at *
      go_wp2
      clear x0
      go_loopw [5, 7] (fun vL i wq => ∃ j : Nat, j ≤ 8 ∧ i = .int .i64 j ∧ Hid (InI W wq vL (usedTo ws t k j))) (fun _ i _ => 8 - (intOf i).toNat)
      case atStart => exact ⟨0, by omega, rfl, ST⟩
      case round =>
        obtain ⟨j, hj, rfl, J⟩ := hrel
        clear ST
        have y0 := CA.out wr J.out.b
        have JW := hideIt (below_trans BW.out J.out.b hz)
        have hzj : W.heap.size ≤ wr.heap.size := J.out.z
        have j0 : (0 : Int) ≤ (j : Int) := by omega
        by_cases hlj : j < 8
        · have j1 : (j : Int) < 8 := by omega
          have e0 := HM.out wr JW.out j hlj
          obtain ⟨b0, b1⟩ := HZ.out j hlj
          have MJ := hideIt (MS.out j hlj)
          have hlen : (usedTo ws t k j).length ≤ 8 * ws.length := ML.out j (by omega)
          generalize x.map.getD j 0 = z at e0 b0 b1 MJ
          by_cases q : z = 0
          · have q' : (z != 0) = false := by rw [q]; rfl
            have G : Hid (InI W wr u5 (usedTo ws t k (j + 1))) := by unfold Hid; rw [MJ.out, if_neg (fun h => h.1 q)]; exact J.out
            clear q J MJ
            go_wp2
            go_roundw
            case rel => exact ⟨j + 1, by omega, by go_num, G⟩
            case measure => simp [intOf]; omega
          · have q' : (z != 0) = true := by rw [bne_iff_ne]; exact q
            by_cases r : z % 4 = t
            · have r' : (z % 4 == t) = true := by rw [beq_iff_eq]; exact r
              have JB : Hid (InI W (wr.alloc (.cells #[.int .i64 (z / 4)] 3)) u5 (usedTo ws t k j)) := J.out.below ((Below.refl _ _).alloc (Nat.le_refl _) _)
              have RB := hideIt (rd_int wr (z / 4))
              have hzb := JB.out.z
              have MN : Hid (usedTo ws t k (j + 1) = usedTo ws t k j ++ [z / 4]) := by unfold Hid; rw [MJ.out, if_pos ⟨q, r⟩]
              clear q r J MJ
              go_wp2_with (at_builtin; refine wpList_append_rd _ rfl (.tmp 37) (.tmp 40) 43 rfl W.heap.size 3 (.int .i64 0) 1 8 Tryz.underlying43 info3 rfl (by decide) _ _ _ rfl JB.out.l _ 1 _ rfl RB.out (one_int _) (by simp [maxLen]; omega) (by omega) (by omega) ?_)
              intro vN wN hownN hgrN
              have G := hideIt (JB.out.grow (z / 4) hownN hgrN)
              rw [← MN.out] at G
              clear hownN hgrN JB RB
              go_wp2
              go_roundw
              case rel => exact ⟨j + 1, by omega, by go_num, G⟩
              case measure => simp [intOf]; omega
            · have r' : (z % 4 == t) = false := by rw [beq_eq_false_iff_ne]; exact r
              have G : Hid (InI W wr u5 (usedTo ws t k (j + 1))) := by unfold Hid; rw [MJ.out, if_neg (fun h => r h.2)]; exact J.out
              clear q r J MJ
              go_wp2
              go_roundw
              case rel => exact ⟨j + 1, by omega, by go_num, G⟩
              case measure => simp [intOf]; omega
        · obtain rfl : j = 8 := by omega
          have G : Hid (InI W wr u5 (usedOf (mapped (ws.take (k + 1))) t)) := by unfold Hid; rw [← MF.out]; exact J.out
          clear J
          go_wp2
          go_roundw
          case rel => exact ⟨k + 1, by omega, by go_num, G⟩
          case measure => simp [intOf]; omega
    · obtain rfl : k = ws.length := by omega
      have E := hideIt (show usedOf (mapped (ws.take ws.length)) t = usedOf (mapped ws) t by rw [List.take_length])
      rw [E.out] at I
      obtain ⟨-, aL, cL, hvL, -⟩ := (own_block I.out.l).rd
      subst hvL
      go_wp2
      go_ret
      exact ⟨_, rfl, (own_block I.out.l).wide hz (Nat.le_refl _), below_trans BW.out I.out.b hz⟩
end Go.Proofs.YtmeiionabonhnaaGreatDoor
