/- An operation is heard: by the program, whole. -/
import Derived.Test.YtjkdmhdehihcbaaGreatDoorZBE
import Derived.Lib.SlBy
namespace Go.Proofs.YtjkdmhdehihcbaaGreatDoor
open Go.RowKit
theorem idx_told {α : Type} (f : α → Bool) (d : α) : ∀ (l : List α) (i : Nat), (Lib.idxByFrom (fun _ y => f y) d l i = -1 ∧ ∀ y ∈ l, f y = false) ∨ (∃ (k : Nat) (h : k < l.length), Lib.idxByFrom (fun _ y => f y) d l i = ((i + k : Nat) : Int) ∧ f l[k] = true)
  | [], i => .inl ⟨rfl, fun y hy => by cases hy⟩
  | y :: r, i => by
    unfold Lib.idxByFrom
    cases c : f y with
    | true => exact .inr ⟨0, by simp, by simp, by simpa using c⟩
    | false =>
      rcases idx_told f d r (i + 1) with ⟨a, b⟩ | ⟨k, hk, a, b⟩
      · exact .inl ⟨by simpa using a, fun z hz => (List.mem_cons.1 hz).elim (fun e => e ▸ c) (b z)⟩
      · refine .inr ⟨k + 1, by simpa using hk, ?_, by simpa using b⟩
        rw [if_neg (by simp), a]
        congr 1
        omega
theorem kd_of : ∀ n, n < 11 → kdOf (kwT n) = n := by
  intro n hn
  rcases (show n = 0 ∨ n = 1 ∨ n = 2 ∨ n = 3 ∨ n = 4 ∨ n = 5 ∨ n = 6 ∨ n = 7 ∨ n = 8 ∨ n = 9 ∨ n = 10 by omega) with rfl | rfl | rfl | rfl | rfl | rfl | rfl | rfl | rfl | rfl | rfl <;> decide +kernel
theorem kdTo_none (s : ByteArray) : ∀ i, (∀ j, j < i → kwT j ≠ s) → kdTo s i = 0
  | 0, _ => rfl
  | i + 1, h => by
    unfold kdTo
    rw [if_neg (fun c => h i (by omega) c.2)]
    exact kdTo_none s i (fun j hj => h j (by omega))
def fmsOf (w : World) (b0 : Nat) : List FmV := (List.range 11).map fun j => (kwT j, (w.cell? ⟨b0, j * 2 + 1, none⟩).getD undef)
theorem fms_len (w : World) (b0 : Nat) : (fmsOf w b0).length = 11 := by simp [fmsOf]
theorem fms_at (w : World) (b0 j : Nat) (hj : j < 11) : (fmsOf w b0)[j]! = (kwT j, (w.cell? ⟨b0, j * 2 + 1, none⟩).getD undef) := by
  have h : j < (fmsOf w b0).length := by rw [fms_len]; exact hj
  rw [getElem!_pos (fmsOf w b0) j h]
  simp [fmsOf]
theorem fms_cells {lo : Nat} {w : World} {b0 : Nat} (hF : FoI lo w b0) : ∀ j, j < (fmsOf w b0).length → ∀ i v, (fmE (fmsOf w b0)[j]!)[i]? = some v → w.cell? ⟨b0, 0 + j * 2 + i, none⟩ = some v := by
  intro j hj i v hv
  rw [fms_len] at hj
  rw [fms_at w b0 j hj] at hv
  obtain ⟨a, b, c⟩ := hF.2 j hj
  have e1 : ∃ u, w.cell? ⟨b0, j * 2 + 1, none⟩ = some u := by
    rcases Nat.eq_zero_or_pos j with z | z
    · exact ⟨_, b z⟩
    · obtain ⟨_, _, _, _, q, _⟩ := c z
      exact ⟨_, q⟩
  obtain ⟨u, e1⟩ := e1
  rw [e1] at hv
  match i, hv with
  | 0, hv => rw [show 0 + j * 2 + 0 = j * 2 by omega, a]; simpa [fmE] using hv
  | 1, hv => rw [show 0 + j * 2 + 1 = j * 2 + 1 by omega, e1]; simpa [fmE] using hv
  | i + 2, hv => simp [fmE] at hv
theorem kd_told (w : World) (b0 : Nat) (s : ByteArray) : (Lib.idxBy (fun _ (y : FmV) => y.1.toList == s.toList) ((fmsOf w b0).take 11) default = -1 ∧ kdOf s = 0) ∨ ∃ n : Nat, n < 11 ∧ Lib.idxBy (fun _ (y : FmV) => y.1.toList == s.toList) ((fmsOf w b0).take 11) default = (n : Int) ∧ kdOf s = n := by
  have et : (fmsOf w b0).take 11 = fmsOf w b0 := List.take_of_length_le (by rw [fms_len]; omega)
  rw [et]
  rcases idx_told (fun y : FmV => y.1.toList == s.toList) default (fmsOf w b0) 0 with ⟨a, b⟩ | ⟨k, hk, a, b⟩
  · refine .inl ⟨a, kdTo_none s 11 fun j hj e => ?_⟩
    have hj' : j < (fmsOf w b0).length := by rw [fms_len]; exact hj
    have := b _ (List.getElem_mem hj')
    have e2 := fms_at w b0 j hj
    rw [getElem!_pos (fmsOf w b0) j hj'] at e2
    rw [e2] at this
    simp only [e, BEq.rfl] at this
    cases this
  · have hk' : k < 11 := by rw [fms_len] at hk; exact hk
    have e2 := fms_at w b0 k hk'
    rw [getElem!_pos (fmsOf w b0) k hk] at e2
    rw [e2] at b
    have es : kwT k = s := by
      by_cases c : kwT k = s
      · exact c
      · have := toL_ne c
        simp only at b
        rw [this] at b
        cases b
    exact .inr ⟨k, hk', by rw [Nat.zero_add] at a; exact a, by rw [← es]; exact kd_of k hk'⟩
theorem ot_zero (p t : ByteArray) (g x : Int) : otB 0 p t g x = false := by
  have : opB 0 p t g x = false := by
    cases c : opB 0 p t g x with
    | false => rfl
    | true => have := opB_iff.1 c; omega
  unfold otB
  rw [this]
  rfl
theorem kp_cell {w w' : World} {b o : Nat} (h : w'.heap[b]? = w.heap[b]?) : w'.cell? ⟨b, o, none⟩ = w.cell? ⟨b, o, none⟩ := by
  simp [World.cell?, h]
theorem hear_any (f : Nat) (hf : f ≤ 3) (bo : Nat) (u : ByteArray) (k : Int) (p t : ByteArray) (g x : Int) (w : World) (h : HbO w bo k p t g x) (hu : u.size ≤ 65536) (hP : PT w) (hS : SY w) (hR : RY w) :
    Calls Tryz.prog (hearF f) #[.pointer (some ⟨bo, 0, none⟩), .string u] w fun e w' => ∃ p' t' g' x' ok, e = .returned (.bool ok) ∧ HrS f u p t g x p' t' g' x' ok ∧ HbO w' bo k p' t' g' x' ∧ Below bo w w' ∧ Kpb bo w w' := by
  rcases (show f = 0 ∨ f = 1 ∨ f = 2 ∨ f = 3 by omega) with rfl | rfl | rfl | rfl
  · exact hearPath_any bo u k p t g x w h
  · exact hearPage_any bo u k p t g x w h hu hP hS hR
  · exact hearValue_any bo u k p t g x w h hu hP hS hR
  · exact hearTo_any bo u k p t g x w h
def hdP (ws : List ByteArray) (e : Ending) : Prop := ∃ (k : Int) (p t : ByteArray) (g x : Int) (ok : Bool), e = .returned (.tuple #[.agg #[.int .i64 k, .string p, .string t, .int .i64 g, .int .i64 x], .bool ok]) ∧ hdQ ws k p t g x ok ∧ inR g ∧ inR x
theorem hdP.no {ws : List ByteArray} (h : rdW ws = none) : hdP ws (.returned (.tuple #[.agg #[.int .i64 0, .string ⟨#[]⟩, .string ⟨#[]⟩, .int .i64 0, .int .i64 0], .bool false])) :=
  ⟨0, ⟨#[]⟩, ⟨#[]⟩, 0, 0, false, rfl, hdQ.no h _ _ _ _ _, ⟨by decide, by decide⟩, ⟨by decide, by decide⟩⟩
set_option maxRecDepth 100000 in
set_option maxHeartbeats 16000000 in
theorem implHeard_any (v : Value) (ws : List ByteArray) (w : World) (hw : RdT w v ws) (hwl : ws.length ≤ 65536) (hsz : ∀ i, (wa ws i).size ≤ 65536) (hP : PT w) (hS : SY w) (hR : RY w) :
    Calls Tryz.prog 30 #[v] w fun e w' => hdP ws e ∧ Below w.heap.size w w' := by
  have NOP := hideIt (fun h => hdP.no (ws := ws) h)
  obtain ⟨V, hV⟩ : ∃ V, V = (w.alloc (.cells #[v] 35)).alloc (.cells #[.int .i64 0, .string ⟨#[]⟩, .string ⟨#[]⟩, .int .i64 0, .int .i64 0] 24) := ⟨_, rfl⟩
  have BV : Hid (Below w.heap.size w V) := by rw [hV]; exact ((Below.refl _ _).alloc (Nat.le_refl _) _).alloc (by simp) _
  have XV : Hid (V.heap[w.heap.size + 1]? = some (.cells #[.int .i64 0, .string ⟨#[]⟩, .string ⟨#[]⟩, .int .i64 0, .int .i64 0] 24 (0, 0))) := by rw [hV]; exact at_new (by simp)
  have WV : Hid (V.heap[w.heap.size]? = some (.cells #[v] 35 (0, 0))) := by rw [hV]; exact at_old (at_new rfl)
  have zV := (Array.getElem?_eq_some_iff.1 XV.out).1
  have cV : V.cell? ⟨w.heap.size, 0, none⟩ = some v := by have := WV.out; simp [World.cell?, this]
  obtain ⟨ao, cs, rfl, hcs, hcell⟩ := hw.shape
  have HC := hideIt hcell
  clear hcell hw
  go_enter Tryz.func30, Tryz.ntmps30
  go_upto_region 1 with fail
  rw [← hV]
  clear hV
  by_cases c0 : ws.length = 0
  · have E0 : Hid (rdW ws = none) := by
      obtain rfl := List.length_eq_zero_iff.1 c0
      exact rd_zero (kd_of 0 (by decide))
    have k0 : ((ws.length : Int) == 0) = true := by rw [beq_iff_eq]; omega
    obtain ⟨⟨x0, x1, x2, x3, x4⟩, f0, f1, f2, f3, f4⟩ := five_box XV.out
    have D := hideIt (put5o_box XV.out (.int .i64 0) (.string ⟨#[]⟩) (.string ⟨#[]⟩) (.int .i64 0) (.int .i64 0))
    have BF := hideIt (put5o_below BV.out (Nat.le_succ _) (.int .i64 0) (.string ⟨#[]⟩) (.string ⟨#[]⟩) (.int .i64 0) (.int .i64 0))
    obtain ⟨W', hW'⟩ : ∃ W', W' = put5o V (w.heap.size + 1) (.int .i64 0) (.string ⟨#[]⟩) (.string ⟨#[]⟩) (.int .i64 0) (.int .i64 0) := ⟨_, rfl⟩
    rw [← hW'] at D BF
    unfold put5o at hW'
    clear XV BV
    go_wp2_with fail
    rw [← hW']
    clear hW' x0 x1 x2 x3 x4 f0 f1 f2 f3 f4
    obtain ⟨⟨y0, y1, y2, y3, y4⟩, -⟩ := five_box D.out
    refine bodyPost_ret (v := .tuple #[.agg #[.int .i64 0, .string ⟨#[]⟩, .string ⟨#[]⟩, .int .i64 0, .int .i64 0], .bool false]) (by simp [results, Tryz.results30, go_sem, y0, y1, y2, y3, y4]) rfl ?_
    exact ⟨NOP.out E0.out, BF.out⟩
  · have hl0 : 0 < ws.length := by omega
    have k0 : ((ws.length : Int) == 0) = false := by rw [beq_eq_false_iff_ne]; omega
    obtain ⟨bs, os, rfl, hbs, hcl⟩ := HC.out hl0
    have DV : Hid (WdB V w.heap.size bs os cs ws) := ⟨WV.out, by omega, hcs, fun k hk => (BV.out.cell (p := ⟨bs, os + k, none⟩) hbs).trans (hcl k hk)⟩
    have LFm := hideIt (opForms_any V)
    clear HC WV hcl
    go_wp2_with fail
    refine LFm.out.mono ?_
    rintro e w1 ⟨b0, rfl, hz0, hfo, hb1⟩
    have F1 := hideIt hfo
    have C1 := hideIt (fms_cells hfo)
    have D1 := hideIt (DV.out.below hb1 (by omega) (by omega))
    have X1 := hideIt ((hb1.block _ zV).trans XV.out)
    have B1 := hideIt (below_trans BV.out hb1 BV.out.size)
    have z1 := hb1.size
    clear hfo hb1 DV XV BV LFm cV
    have IX := hideIt (AnyQ.slices_IndexFunc lays6H 2 Tryz.isAgg67 Tryz.sizeOf67 fmE (fun _ => rfl) (fun y : FmV => y.1.toList == (wa ws 0).toList) 69 #[.pointer (some ⟨w.heap.size, 0, none⟩)] (enters_of Tryz.func69 (by kernel_rfl) rfl) b0 0 11 11 (fmsOf w1 b0) w1 (fun W x hb => (isForm_any w.heap.size bs os cs ws hl0 x W (D1.out.below hb (by omega) (by omega))).mono fun e w' h => ⟨h.1, hb.trans (h.2.mono hb.size)⟩) (by rw [fms_len]; omega) (by omega) hz0 C1.out)
    have KT := hideIt (kd_told w1 b0 (wa ws 0))
    generalize Lib.idxBy (fun _ (y : FmV) => y.1.toList == (wa ws 0).toList) ((fmsOf w1 b0).take 11) default = kd at *
    clear C1
    go_wp2_with fail
    refine IX.out.mono ?_
    rintro e w2 ⟨rfl, hb2⟩
    have F2 := hideIt (F1.out.below hz0 hb2)
    have D2 := hideIt (D1.out.below hb2 (by omega) (by omega))
    have X2 := hideIt ((hb2.block _ (by omega)).trans X1.out)
    have B2 := hideIt (below_trans B1.out hb2 B1.out.size)
    have z2 := hb2.size
    clear hb2 F1 D1 X1 B1 IX
    rcases KT.out with ⟨rfl, hk0⟩ | ⟨n, hn, rfl, hkn⟩
    · have E0 := hideIt (rd_zero hk0)
      clear KT F2 D2 hk0
      go_upto_region 5 with fail
      go_quiet (fail)
      obtain ⟨w3, hw3⟩ : ∃ w3, w3 = w2.drewN nq := ⟨_, rfl⟩
      have X3 : Hid (w3.heap[w.heap.size + 1]? = some (.cells #[.int .i64 0, .string ⟨#[]⟩, .string ⟨#[]⟩, .int .i64 0, .int .i64 0] 24 (0, 0))) := by rw [hw3]; exact X2.out
      have B3 : Hid (Below w.heap.size w w3) := by rw [hw3]; exact below_drewN' B2.out nq
      rw [← hw3]
      clear hw3 X2 B2
      obtain ⟨⟨x0, x1, x2, x3, x4⟩, f0, f1, f2, f3, f4⟩ := five_box X3.out
      have D := hideIt (put5o_box X3.out (.int .i64 0) (.string ⟨#[]⟩) (.string ⟨#[]⟩) (.int .i64 0) (.int .i64 0))
      have BF := hideIt (put5o_below B3.out (Nat.le_succ _) (.int .i64 0) (.string ⟨#[]⟩) (.string ⟨#[]⟩) (.int .i64 0) (.int .i64 0))
      obtain ⟨W', hW'⟩ : ∃ W', W' = put5o w3 (w.heap.size + 1) (.int .i64 0) (.string ⟨#[]⟩) (.string ⟨#[]⟩) (.int .i64 0) (.int .i64 0) := ⟨_, rfl⟩
      rw [← hW'] at D BF
      unfold put5o at hW'
      clear X3 B3
      go_wp2_with fail
      rw [← hW']
      clear hW' x0 x1 x2 x3 x4 f0 f1 f2 f3 f4
      obtain ⟨⟨y0, y1, y2, y3, y4⟩, -⟩ := five_box D.out
      refine bodyPost_ret (v := .tuple #[.agg #[.int .i64 0, .string ⟨#[]⟩, .string ⟨#[]⟩, .int .i64 0, .int .i64 0], .bool false]) (by simp [results, Tryz.results30, go_sem, y0, y1, y2, y3, y4]) rfl ?_
      exact ⟨NOP.out E0.out, BF.out⟩
    · have n0 : ¬ ((n : Int) < 0) := by omega
      have n1 : (0 : Int) ≤ (n : Int) := by omega
      have n2 : (n : Int) < 11 := by omega
      have wr1 : IntKind.i64.wrap ((ws.length : Int) - 1) = (ws.length : Int) - 1 := by rw [IntKind.wrap_i64]; omega
      have cw : w2.cell? ⟨w.heap.size, 0, none⟩ = some (.slice (some ⟨bs, os, none⟩) ws.length cs) := by have := D2.out.1; simp [World.cell?, this]
      by_cases nz : n = 0
      · subst nz
        have ef := (F2.out.2 0 (by omega)).2.1 rfl
        have E0 := hideIt (rd_zero hkn)
        by_cases cl : ws.length = 1
        · have kl : ((0 : Int) != (ws.length : Int) - 1) = false := by rw [cl]; rfl
          have Q0 := hideIt (hdQ.none_ E0.out (ot_zero ⟨#[]⟩ ⟨#[]⟩ 0 0))
          clear KT F2 D2 hkn NOP
          go_upto_region 5 with fail
          go_quiet (fail)
          obtain ⟨w3, hw3⟩ : ∃ w3, w3 = w2.drewN nq := ⟨_, rfl⟩
          have X3 := hideIt (show w3.heap[w.heap.size + 1]? = some (.cells #[.int .i64 0, .string ⟨#[]⟩, .string ⟨#[]⟩, .int .i64 0, .int .i64 0] 24 (0, 0)) by rw [hw3]; exact X2.out)
          have B3 : Hid (Below w.heap.size w w3) := by rw [hw3]; exact below_drewN' B2.out nq
          have ef3 : w3.cell? ⟨b0, 0 * 2 + 1, none⟩ = some (.slice none 0 0) := by rw [hw3]; exact ef
          have z3 : w2.heap.size = w3.heap.size := by rw [hw3]; rfl
          rw [← hw3]
          clear hw3 X2 B2 ef cw
          obtain ⟨W4, hW4⟩ : ∃ W4, W4 = w3.alloc (.cells #[.int .i64 0, .string ⟨#[]⟩, .string ⟨#[]⟩, .int .i64 0, .int .i64 0] 76) := ⟨_, rfl⟩
          have b4 : Hid (Below w3.heap.size w3 W4) := by rw [hW4]; exact (Below.refl _ _).alloc (Nat.le_refl _) _
          have H4 : Hid (HbO W4 w3.heap.size 0 ⟨#[]⟩ ⟨#[]⟩ 0 0) := by rw [hW4]; exact at_new rfl
          have X4 := hideIt ((b4.out.block _ (by omega)).trans X3.out)
          have B4 := hideIt (below_trans B3.out b4.out B3.out.size)
          have ef4 := (b4.out.cell (p := ⟨b0, 0 * 2 + 1, none⟩) (by simp only; omega)).trans ef3
          go_upto_region 8 with fail
          rw [← hW4]
          clear hW4 b4 X3 B3 ef3
          go_wp2_with fail
          go_loopg [41] 0 (fun gk i wr => i = .int .i64 0 ∧ wr = W4)
          case atStart => exact ⟨rfl, rfl⟩
          case round =>
            obtain ⟨rfl, rfl⟩ := hrel
            obtain ⟨⟨o0, o1, o2, o3, o4⟩, -⟩ := H4.out.cells
            obtain ⟨⟨x0, x1, x2, x3, x4⟩, f0, f1, f2, f3, f4⟩ := five_box X4.out
            have D := hideIt (put5o_box X4.out (.int .i64 0) (.string ⟨#[]⟩) (.string ⟨#[]⟩) (.int .i64 0) (.int .i64 0))
            have BF := hideIt (put5o_below B4.out (Nat.le_succ _) (.int .i64 0) (.string ⟨#[]⟩) (.string ⟨#[]⟩) (.int .i64 0) (.int .i64 0))
            obtain ⟨W', hW'⟩ : ∃ W', W' = put5o wr (w.heap.size + 1) (.int .i64 0) (.string ⟨#[]⟩) (.string ⟨#[]⟩) (.int .i64 0) (.int .i64 0) := ⟨_, rfl⟩
            rw [← hW'] at D BF
            unfold put5o at hW'
            clear X4 B4
            go_wp2_with fail
            rw [← hW']
            clear hW' x0 x1 x2 x3 x4 f0 f1 f2 f3 f4
            obtain ⟨⟨y0, y1, y2, y3, y4⟩, -⟩ := five_box D.out
            refine bodyPost_ret (v := .tuple #[.agg #[.int .i64 0, .string ⟨#[]⟩, .string ⟨#[]⟩, .int .i64 0, .int .i64 0], .bool true]) (by simp [results, Tryz.results30, go_sem, y0, y1, y2, y3, y4]) rfl ?_
            exact ⟨⟨_, _, _, _, _, _, rfl, Q0.out, ⟨by decide, by decide⟩, ⟨by decide, by decide⟩⟩, BF.out⟩
        · have kl : ((0 : Int) != (ws.length : Int) - 1) = true := by rw [bne_iff_ne]; omega
          clear KT F2 D2 hkn
          go_upto_region 5 with fail
          go_quiet (fail)
          obtain ⟨w3, hw3⟩ : ∃ w3, w3 = w2.drewN nq := ⟨_, rfl⟩
          have X3 : Hid (w3.heap[w.heap.size + 1]? = some (.cells #[.int .i64 0, .string ⟨#[]⟩, .string ⟨#[]⟩, .int .i64 0, .int .i64 0] 24 (0, 0))) := by rw [hw3]; exact X2.out
          have B3 : Hid (Below w.heap.size w w3) := by rw [hw3]; exact below_drewN' B2.out nq
          rw [← hw3]
          clear hw3 X2 B2
          obtain ⟨⟨x0, x1, x2, x3, x4⟩, f0, f1, f2, f3, f4⟩ := five_box X3.out
          have D := hideIt (put5o_box X3.out (.int .i64 0) (.string ⟨#[]⟩) (.string ⟨#[]⟩) (.int .i64 0) (.int .i64 0))
          have BF := hideIt (put5o_below B3.out (Nat.le_succ _) (.int .i64 0) (.string ⟨#[]⟩) (.string ⟨#[]⟩) (.int .i64 0) (.int .i64 0))
          obtain ⟨W', hW'⟩ : ∃ W', W' = put5o w3 (w.heap.size + 1) (.int .i64 0) (.string ⟨#[]⟩) (.string ⟨#[]⟩) (.int .i64 0) (.int .i64 0) := ⟨_, rfl⟩
          rw [← hW'] at D BF
          unfold put5o at hW'
          clear X3 B3
          go_wp2_with fail
          rw [← hW']
          clear hW' x0 x1 x2 x3 x4 f0 f1 f2 f3 f4
          obtain ⟨⟨y0, y1, y2, y3, y4⟩, -⟩ := five_box D.out
          refine bodyPost_ret (v := .tuple #[.agg #[.int .i64 0, .string ⟨#[]⟩, .string ⟨#[]⟩, .int .i64 0, .int .i64 0], .bool false]) (by simp [results, Tryz.results30, go_sem, y0, y1, y2, y3, y4]) rfl ?_
          exact ⟨NOP.out E0.out, BF.out⟩
      · have hn1 : 1 ≤ n := by omega
        obtain ⟨bk, ck, hbk, -, -, ef, hfi⟩ := F2.out.at_ hn1 (by omega)
        have HF := hideIt hfi
        clear hfi F2 KT
        by_cases cl : ws.length = (fdsOf n).length + 1
        · have kl : (((fdsOf n).length : Int) != (ws.length : Int) - 1) = false := by
            rw [cl, bne_eq_false_iff_eq]
            omega
          have QA := hideIt (fun p t g x h => he_all (p := p) (t := t) (g := g) (x := x) hn1 hkn cl h)
          have QB := hideIt (fun q hq p t g x p' t' g' x' h => he_bad (q := q) (p := p) (t := t) (g := g) (x := x) (p' := p') (t' := t') (g' := g') (x' := x') hkn cl hq h)
          have FL : Hid ((fdsOf n).length ≤ 3) := by
            unfold fdsOf Hid
            split
            · decide
            · split
              · decide
              · split <;> decide
          have CL := hideIt cl
          clear hkn cl
          go_upto_region 5 with fail
          go_quiet (fail)
          obtain ⟨w3, hw3⟩ : ∃ w3, w3 = w2.drewN nq := ⟨_, rfl⟩
          have X3 := hideIt (show w3.heap[w.heap.size + 1]? = some (.cells #[.int .i64 0, .string ⟨#[]⟩, .string ⟨#[]⟩, .int .i64 0, .int .i64 0] 24 (0, 0)) by rw [hw3]; exact X2.out)
          have B3 : Hid (Below w.heap.size w w3) := by rw [hw3]; exact below_drewN' B2.out nq
          have b3 : Below w2.heap.size w2 w3 := by rw [hw3]; exact below_drewN' (Below.refl _ _) nq
          have ef3 := (b3.cell (p := ⟨b0, n * 2 + 1, none⟩) (by simp only; omega)).trans ef
          have D3 := hideIt (D2.out.below b3 (by omega) (by have := D2.out.2.1; omega))
          have HF3 := hideIt (fun i (h : i < (fdsOf n).length) => And.intro ((b3.cell (p := ⟨bk, i * 2, none⟩) hbk).trans (HF.out i h).1) ((b3.cell (p := ⟨bk, i * 2 + 1, none⟩) hbk).trans (HF.out i h).2))
          have hbk3 : bk < w3.heap.size := by have := b3.size; omega
          have z3 := b3.size
          rw [← hw3]
          clear hw3 X2 B2 ef cw b3 D2 HF hbk
          obtain ⟨W4, hW4⟩ : ∃ W4, W4 = w3.alloc (.cells #[.int .i64 n, .string ⟨#[]⟩, .string ⟨#[]⟩, .int .i64 0, .int .i64 0] 76) := ⟨_, rfl⟩
          have b4 : Below w3.heap.size w3 W4 := by rw [hW4]; exact (Below.refl _ _).alloc (Nat.le_refl _) _
          have H4 : Hid (HbO W4 w3.heap.size n ⟨#[]⟩ ⟨#[]⟩ 0 0) := by rw [hW4]; exact at_new rfl
          have X4 := hideIt ((b4.block _ (by omega)).trans X3.out)
          have B4 := hideIt (below_trans B3.out b4 B3.out.size)
          have D4 := hideIt (D3.out.below b4 (by omega) D3.out.2.1)
          have HF4 := hideIt (fun i (h : i < (fdsOf n).length) => And.intro ((b4.cell (p := ⟨bk, i * 2, none⟩) hbk3).trans (HF3.out i h).1) ((b4.cell (p := ⟨bk, i * 2 + 1, none⟩) hbk3).trans (HF3.out i h).2))
          have ef4 := (b4.cell (p := ⟨b0, n * 2 + 1, none⟩) (by simp only; omega)).trans ef3
          have z4 : w3.heap.size < W4.heap.size := H4.out.lt
          have hbs3 : bs < w3.heap.size := D3.out.2.1
          go_upto_region 8 with fail
          rw [← hW4]
          clear hW4 b4 X3 B3 ef3 D3 HF3 kl wr1
          go_wp2_with fail
          go_loopg [41] (fdsOf n).length (fun gk i wr => ∃ (q : Nat) (p t : ByteArray) (g x : Int), q + gk = (fdsOf n).length ∧ i = .int .i64 q ∧ Hid (HbO wr w3.heap.size n p t g x) ∧ Hid (Below w3.heap.size W4 wr) ∧ Hid (HeS (fdsOf n) ws q p t g x))
          case atStart => exact ⟨0, ⟨#[]⟩, ⟨#[]⟩, 0, 0, by omega, rfl, H4.out, Below.refl _ _, HeS.zero _ _⟩
          case round =>
            obtain ⟨q, p, t, g, x, hq, rfl, HO, BO, HE⟩ := hrel
            clear ef4
            have q0 : (0 : Int) ≤ (q : Int) := by omega
            have zr := BO.out.size
            have Xr := hideIt ((BO.out.block _ (by omega)).trans X4.out)
            have Br := hideIt (B4.out.trans (BO.out.mono (by omega)))
            by_cases hlt : q < (fdsOf n).length
            · have q1 : (q : Int) < ((fdsOf n).length : Int) := by omega
              have e0 := (BO.out.cell (p := ⟨bk, q * 2, none⟩) hbk3).trans (HF4.out q hlt).1
              have e1 := (BO.out.cell (p := ⟨bk, q * 2 + 1, none⟩) hbk3).trans (HF4.out q hlt).2
              have clo := CL.out
              obtain ⟨m, hm⟩ : ∃ m, m = q + 1 := ⟨_, rfl⟩
              have hml : m < ws.length := by omega
              have q3 : q ≤ 3 := by have := FL.out; omega
              have m0 : (0 : Int) ≤ (m : Int) := by omega
              have m1 : (m : Int) < (ws.length : Int) := by omega
              have wr2 : IntKind.i64.wrap (1 + (q : Int)) = (m : Int) := by rw [IntKind.wrap_i64]; omega
              have ew : ws[m] = wa ws (q + 1) := by rw [← hm]; simp [wa, List.getD, hml]
              have cs0 : wr.cell? ⟨w.heap.size, 0, none⟩ = some (.slice (some ⟨bs, os, none⟩) ws.length cs) := by have := (BO.out.block _ (by omega)).trans D4.out.1; simp [World.cell?, this]
              have cs1 : wr.cell? ⟨bs, os + m, none⟩ = some (.string (wa ws (q + 1))) := by rw [← ew]; exact (BO.out.cell (p := ⟨bs, os + m, none⟩) hbs3).trans (D4.out.2.2.2 m hml)
              have LH := hideIt (fun wx (hb : Below w.heap.size w wx) h => hear_any (fdsOf n)[q] (fds_le n _ (List.getElem_mem hlt)) w3.heap.size (wa ws (q + 1)) n p t g x wx h (hsz _) (hP.below hb) (hS.below hb) (hR.below hb))
              have SS := hideIt (fun p' t' g' x' h => HeS.step (p' := p') (t' := t') (g' := g') (x' := x') (fds_nodup n) hlt HE.out h)
              have NB := hideIt (fun p' t' g' x' h => QB.out q hlt p t g x p' t' g' x' h)
              have hms : (fdsOf n).length - (q + 1) < gk := by omega
              have hmq : q + 1 + ((fdsOf n).length - (q + 1)) = (fdsOf n).length := by omega
              have f3 := fds_le n _ (List.getElem_mem hlt)
              have XZ := hideIt X4.out
              clear QA QB HE HF4 H4 D4 CL clo hml ew X4 hq hm
              generalize (fdsOf n)[q] = f at *
              generalize wa ws (q + 1) = u at *
              clear hlt
              have HFc : hearF f = 57 ∨ hearF f = 59 ∨ hearF f = 61 ∨ hearF f = 63 := by
                rcases (show f = 0 ∨ f = 1 ∨ f = 2 ∨ f = 3 by omega) with rfl | rfl | rfl | rfl
                · exact .inl rfl
                · exact .inr (.inl rfl)
                · exact .inr (.inr (.inl rfl))
                · exact .inr (.inr (.inr rfl))
              clear f3
              generalize sayF f = sf at *
              generalize hearF f = hf at *
              rcases HFc with hsf | hsf | hsf | hsf
              · have HSf := hideIt hsf
                clear hsf
                obtain ⟨wq, hwq⟩ : ∃ wq, wq = wr.alloc (.cells #[.func (.func (sf)) #[] #[], .func (.func (hf)) #[] #[]] 73) := ⟨_, rfl⟩
                have bq : Below wr.heap.size wr wq := by rw [hwq]; exact (Below.refl _ _).alloc (Nat.le_refl _) _
                have Xq : Hid (wq.heap[wr.heap.size]? = some (.cells #[.func (.func (sf)) #[] #[], .func (.func (hf)) #[] #[]] 73 (0, 0))) := by rw [hwq]; exact at_new rfl
                have zq := (Array.getElem?_eq_some_iff.1 Xq.out).1
                have HOq : Hid (HbO wq.drew w3.heap.size n p t g x) := HO.out.below bq.drew
                have Bq : Hid (Below w.heap.size w wq.drew) := (Br.out.trans (bq.mono (by omega))).drew
                have BOq : Hid (Below w3.heap.size W4 wq.drew) := (BO.out.trans (bq.mono (by omega))).drew
                have y1 : wq.cell? ⟨wr.heap.size, 1, none⟩ = some (.func (.func hf) #[] #[]) := (two_cells Xq.out).2.1
                have y2 : wq.cell? ⟨w.heap.size, 0, none⟩ = some (.slice (some ⟨bs, os, none⟩) ws.length cs) := (bq.cell (p := ⟨w.heap.size, 0, none⟩) (by simp only; omega)).trans cs0
                have y3 : wq.cell? ⟨bs, os + m, none⟩ = some (.string u) := (bq.cell (p := ⟨bs, os + m, none⟩) (by simp only; omega)).trans cs1
                have hcx := LH.out _ Bq.out HOq.out
                go_upto_region 11 with fail
                rw [← hwq]
                clear hwq bq e0 e1 HO Br BO Xr cs0 cs1 LH Xq
                have hsf := HSf.out
                subst hsf
                refine wp_region_T 8 (fun w' => w'.cell? ⟨wr.heap.size, 1, none⟩ = some (.func (.func 57) #[] #[]) ∧ w'.cell? ⟨w.heap.size, 0, none⟩ = some (.slice (some ⟨bs, os, none⟩) ws.length cs) ∧ w'.cell? ⟨bs, os + m, none⟩ = some (.string u)) (by kernel_rfl) ⟨y1, y2, y3⟩ (fun hS => ?_)
                refine wpAnyT_take (i := 0) (v := .pointer (some ⟨wr.heap.size, 1, none⟩)) [7, 1, 0] rfl (by kernel_rfl) (fun _ _ _ h => h) hS rfl (fun w' hSw => by go_simp) ?_
                try simp only [Act.put]
                refine wpAnyT_take (i := 1) (v := .func (.func 57) #[] #[]) [7, 1] rfl (by kernel_rfl) (fun _ _ _ h => h) hS rfl (fun w' hSw => by have h1 := hSw.1; go_simp) ?_
                try simp only [Act.put]
                refine wpAnyT_take (i := 2) (v := .slice (some ⟨bs, os, none⟩) ws.length cs) [7, 6, 5, 2] rfl (by kernel_rfl) (fun _ _ _ h => h) hS rfl (fun w' hSw => by have h1 := hSw.2.1; go_simp) ?_
                try simp only [Act.put]
                refine wpAnyT_take (i := 3) (v := .int .i64 q) [7, 6, 5, 4, 3] rfl (by kernel_rfl) (fun _ _ _ h => h) hS rfl (fun w' hSw => by go_simp) ?_
                try simp only [Act.put]
                refine wpAnyT_take (i := 4) (v := .int .i64 m) [7, 6, 5, 4] rfl (by kernel_rfl) (fun _ _ _ h => h) hS rfl (fun w' hSw => by go_simp) ?_
                try simp only [Act.put]
                refine wpAnyT_take (i := 5) (v := .pointer (some ⟨bs, os + m, none⟩)) [7, 6, 5] rfl (by kernel_rfl) (fun _ _ _ h => h) hS rfl (fun w' hSw => by go_simp) ?_
                try simp only [Act.put]
                refine wpAnyT_take (i := 6) (v := .string u) [7, 6] rfl (by kernel_rfl) (fun _ _ _ h => h) hS rfl (fun w' hSw => by have h1 := hSw.2.2; go_simp) ?_
                try simp only [Act.put]
                refine wpAnyT_one (i := 7) rfl (by kernel_rfl) (fun K hK => ?_)
                go_simp
                go_at_call 57
                refine hcx.mono ?_
                rintro e w5 ⟨p', t', g', x', ok, rfl, hr, ho, hb, hkp⟩
                have hlt5 : wr.heap.size < wq.drew.heap.size := zq
                have S5 : w5.cell? ⟨wr.heap.size, 1, none⟩ = some (.func (.func 57) #[] #[]) ∧ w5.cell? ⟨w.heap.size, 0, none⟩ = some (.slice (some ⟨bs, os, none⟩) ws.length cs) ∧ w5.cell? ⟨bs, os + m, none⟩ = some (.string u) := by
                  refine ⟨?_, ?_, ?_⟩
                  · rw [kp_cell (hkp _ hlt5 (by omega))]; exact y1
                  · rw [kp_cell (hkp _ (show w.heap.size < wq.drew.heap.size by omega) (by omega))]; exact y2
                  · rw [kp_cell (hkp _ (show bs < wq.drew.heap.size by omega) (by omega))]; exact y3
                refine hK.out _ _ (fun _ => S5) ?_
                clear hK K S5 y1 y2 y3 hS hcx
                try simp only [Act.put]
                refine wpAnyT_one (i := 8) rfl (by kernel_rfl) (fun K hK => ?_)
                go_simp
                refine hK.out _ _ (fun h => absurd rfl h) ?_
                clear hK K
                try simp only [Act.put]
                refine wpAnyT_done (by kernel_rfl) ?_ _
                have B5 := hideIt (Bq.out.trans (hb.mono (by omega)))
                have BO5 := hideIt (BOq.out.trans hb)
                have X5 := hideIt ((BO5.out.block _ (by omega)).trans XZ.out)
                have HO5 := hideIt ho
                clear hb hkp ho Bq BOq HOq
                cases ok with
                | true =>
                  have HE5 := hideIt (SS.out _ _ _ _ hr)
                  clear hr SS NB X5 B5
                  go_wp2
                  go_roundg ((fdsOf n).length - (q + 1))
                  case measure => exact hms
                  case rel => exact ⟨q + 1, p', t', g', x', hmq, by go_num, HO5.out, BO5.out, HE5.out⟩
                | false =>
                  have E0 := hideIt (NB.out _ _ _ _ hr)
                  clear hr SS NB BO5 HO5
                  obtain ⟨⟨x0, x1, x2, x3, x4⟩, f0, f1, f2, f3, f4⟩ := five_box X5.out
                  have D := hideIt (put5o_box X5.out (.int .i64 0) (.string ⟨#[]⟩) (.string ⟨#[]⟩) (.int .i64 0) (.int .i64 0))
                  have BF := hideIt (put5o_below B5.out (Nat.le_succ _) (.int .i64 0) (.string ⟨#[]⟩) (.string ⟨#[]⟩) (.int .i64 0) (.int .i64 0))
                  obtain ⟨W', hW'⟩ : ∃ W', W' = put5o w5 (w.heap.size + 1) (.int .i64 0) (.string ⟨#[]⟩) (.string ⟨#[]⟩) (.int .i64 0) (.int .i64 0) := ⟨_, rfl⟩
                  rw [← hW'] at D BF
                  unfold put5o at hW'
                  clear X5 B5
                  go_wp2_with fail
                  rw [← hW']
                  clear hW' x0 x1 x2 x3 x4 f0 f1 f2 f3 f4
                  obtain ⟨⟨y0, y1, y2, y3, y4⟩, -⟩ := five_box D.out
                  refine bodyPost_ret (v := .tuple #[.agg #[.int .i64 0, .string ⟨#[]⟩, .string ⟨#[]⟩, .int .i64 0, .int .i64 0], .bool false]) (by simp [results, Tryz.results30, go_sem, y0, y1, y2, y3, y4]) rfl ?_
                  exact ⟨NOP.out E0.out, BF.out⟩
              · have HSf := hideIt hsf
                clear hsf
                obtain ⟨wq, hwq⟩ : ∃ wq, wq = wr.alloc (.cells #[.func (.func (sf)) #[] #[], .func (.func (hf)) #[] #[]] 73) := ⟨_, rfl⟩
                have bq : Below wr.heap.size wr wq := by rw [hwq]; exact (Below.refl _ _).alloc (Nat.le_refl _) _
                have Xq : Hid (wq.heap[wr.heap.size]? = some (.cells #[.func (.func (sf)) #[] #[], .func (.func (hf)) #[] #[]] 73 (0, 0))) := by rw [hwq]; exact at_new rfl
                have zq := (Array.getElem?_eq_some_iff.1 Xq.out).1
                have HOq : Hid (HbO wq.drew w3.heap.size n p t g x) := HO.out.below bq.drew
                have Bq : Hid (Below w.heap.size w wq.drew) := (Br.out.trans (bq.mono (by omega))).drew
                have BOq : Hid (Below w3.heap.size W4 wq.drew) := (BO.out.trans (bq.mono (by omega))).drew
                have y1 : wq.cell? ⟨wr.heap.size, 1, none⟩ = some (.func (.func hf) #[] #[]) := (two_cells Xq.out).2.1
                have y2 : wq.cell? ⟨w.heap.size, 0, none⟩ = some (.slice (some ⟨bs, os, none⟩) ws.length cs) := (bq.cell (p := ⟨w.heap.size, 0, none⟩) (by simp only; omega)).trans cs0
                have y3 : wq.cell? ⟨bs, os + m, none⟩ = some (.string u) := (bq.cell (p := ⟨bs, os + m, none⟩) (by simp only; omega)).trans cs1
                have hcx := LH.out _ Bq.out HOq.out
                go_upto_region 11 with fail
                rw [← hwq]
                clear hwq bq e0 e1 HO Br BO Xr cs0 cs1 LH Xq
                have hsf := HSf.out
                subst hsf
                refine wp_region_T 8 (fun w' => w'.cell? ⟨wr.heap.size, 1, none⟩ = some (.func (.func 59) #[] #[]) ∧ w'.cell? ⟨w.heap.size, 0, none⟩ = some (.slice (some ⟨bs, os, none⟩) ws.length cs) ∧ w'.cell? ⟨bs, os + m, none⟩ = some (.string u)) (by kernel_rfl) ⟨y1, y2, y3⟩ (fun hS => ?_)
                refine wpAnyT_take (i := 0) (v := .pointer (some ⟨wr.heap.size, 1, none⟩)) [7, 1, 0] rfl (by kernel_rfl) (fun _ _ _ h => h) hS rfl (fun w' hSw => by go_simp) ?_
                try simp only [Act.put]
                refine wpAnyT_take (i := 1) (v := .func (.func 59) #[] #[]) [7, 1] rfl (by kernel_rfl) (fun _ _ _ h => h) hS rfl (fun w' hSw => by have h1 := hSw.1; go_simp) ?_
                try simp only [Act.put]
                refine wpAnyT_take (i := 2) (v := .slice (some ⟨bs, os, none⟩) ws.length cs) [7, 6, 5, 2] rfl (by kernel_rfl) (fun _ _ _ h => h) hS rfl (fun w' hSw => by have h1 := hSw.2.1; go_simp) ?_
                try simp only [Act.put]
                refine wpAnyT_take (i := 3) (v := .int .i64 q) [7, 6, 5, 4, 3] rfl (by kernel_rfl) (fun _ _ _ h => h) hS rfl (fun w' hSw => by go_simp) ?_
                try simp only [Act.put]
                refine wpAnyT_take (i := 4) (v := .int .i64 m) [7, 6, 5, 4] rfl (by kernel_rfl) (fun _ _ _ h => h) hS rfl (fun w' hSw => by go_simp) ?_
                try simp only [Act.put]
                refine wpAnyT_take (i := 5) (v := .pointer (some ⟨bs, os + m, none⟩)) [7, 6, 5] rfl (by kernel_rfl) (fun _ _ _ h => h) hS rfl (fun w' hSw => by go_simp) ?_
                try simp only [Act.put]
                refine wpAnyT_take (i := 6) (v := .string u) [7, 6] rfl (by kernel_rfl) (fun _ _ _ h => h) hS rfl (fun w' hSw => by have h1 := hSw.2.2; go_simp) ?_
                try simp only [Act.put]
                refine wpAnyT_one (i := 7) rfl (by kernel_rfl) (fun K hK => ?_)
                go_simp
                go_at_call 59
                refine hcx.mono ?_
                rintro e w5 ⟨p', t', g', x', ok, rfl, hr, ho, hb, hkp⟩
                have hlt5 : wr.heap.size < wq.drew.heap.size := zq
                have S5 : w5.cell? ⟨wr.heap.size, 1, none⟩ = some (.func (.func 59) #[] #[]) ∧ w5.cell? ⟨w.heap.size, 0, none⟩ = some (.slice (some ⟨bs, os, none⟩) ws.length cs) ∧ w5.cell? ⟨bs, os + m, none⟩ = some (.string u) := by
                  refine ⟨?_, ?_, ?_⟩
                  · rw [kp_cell (hkp _ hlt5 (by omega))]; exact y1
                  · rw [kp_cell (hkp _ (show w.heap.size < wq.drew.heap.size by omega) (by omega))]; exact y2
                  · rw [kp_cell (hkp _ (show bs < wq.drew.heap.size by omega) (by omega))]; exact y3
                refine hK.out _ _ (fun _ => S5) ?_
                clear hK K S5 y1 y2 y3 hS hcx
                try simp only [Act.put]
                refine wpAnyT_one (i := 8) rfl (by kernel_rfl) (fun K hK => ?_)
                go_simp
                refine hK.out _ _ (fun h => absurd rfl h) ?_
                clear hK K
                try simp only [Act.put]
                refine wpAnyT_done (by kernel_rfl) ?_ _
                have B5 := hideIt (Bq.out.trans (hb.mono (by omega)))
                have BO5 := hideIt (BOq.out.trans hb)
                have X5 := hideIt ((BO5.out.block _ (by omega)).trans XZ.out)
                have HO5 := hideIt ho
                clear hb hkp ho Bq BOq HOq
                cases ok with
                | true =>
                  have HE5 := hideIt (SS.out _ _ _ _ hr)
                  clear hr SS NB X5 B5
                  go_wp2
                  go_roundg ((fdsOf n).length - (q + 1))
                  case measure => exact hms
                  case rel => exact ⟨q + 1, p', t', g', x', hmq, by go_num, HO5.out, BO5.out, HE5.out⟩
                | false =>
                  have E0 := hideIt (NB.out _ _ _ _ hr)
                  clear hr SS NB BO5 HO5
                  obtain ⟨⟨x0, x1, x2, x3, x4⟩, f0, f1, f2, f3, f4⟩ := five_box X5.out
                  have D := hideIt (put5o_box X5.out (.int .i64 0) (.string ⟨#[]⟩) (.string ⟨#[]⟩) (.int .i64 0) (.int .i64 0))
                  have BF := hideIt (put5o_below B5.out (Nat.le_succ _) (.int .i64 0) (.string ⟨#[]⟩) (.string ⟨#[]⟩) (.int .i64 0) (.int .i64 0))
                  obtain ⟨W', hW'⟩ : ∃ W', W' = put5o w5 (w.heap.size + 1) (.int .i64 0) (.string ⟨#[]⟩) (.string ⟨#[]⟩) (.int .i64 0) (.int .i64 0) := ⟨_, rfl⟩
                  rw [← hW'] at D BF
                  unfold put5o at hW'
                  clear X5 B5
                  go_wp2_with fail
                  rw [← hW']
                  clear hW' x0 x1 x2 x3 x4 f0 f1 f2 f3 f4
                  obtain ⟨⟨y0, y1, y2, y3, y4⟩, -⟩ := five_box D.out
                  refine bodyPost_ret (v := .tuple #[.agg #[.int .i64 0, .string ⟨#[]⟩, .string ⟨#[]⟩, .int .i64 0, .int .i64 0], .bool false]) (by simp [results, Tryz.results30, go_sem, y0, y1, y2, y3, y4]) rfl ?_
                  exact ⟨NOP.out E0.out, BF.out⟩
              · have HSf := hideIt hsf
                clear hsf
                obtain ⟨wq, hwq⟩ : ∃ wq, wq = wr.alloc (.cells #[.func (.func (sf)) #[] #[], .func (.func (hf)) #[] #[]] 73) := ⟨_, rfl⟩
                have bq : Below wr.heap.size wr wq := by rw [hwq]; exact (Below.refl _ _).alloc (Nat.le_refl _) _
                have Xq : Hid (wq.heap[wr.heap.size]? = some (.cells #[.func (.func (sf)) #[] #[], .func (.func (hf)) #[] #[]] 73 (0, 0))) := by rw [hwq]; exact at_new rfl
                have zq := (Array.getElem?_eq_some_iff.1 Xq.out).1
                have HOq : Hid (HbO wq.drew w3.heap.size n p t g x) := HO.out.below bq.drew
                have Bq : Hid (Below w.heap.size w wq.drew) := (Br.out.trans (bq.mono (by omega))).drew
                have BOq : Hid (Below w3.heap.size W4 wq.drew) := (BO.out.trans (bq.mono (by omega))).drew
                have y1 : wq.cell? ⟨wr.heap.size, 1, none⟩ = some (.func (.func hf) #[] #[]) := (two_cells Xq.out).2.1
                have y2 : wq.cell? ⟨w.heap.size, 0, none⟩ = some (.slice (some ⟨bs, os, none⟩) ws.length cs) := (bq.cell (p := ⟨w.heap.size, 0, none⟩) (by simp only; omega)).trans cs0
                have y3 : wq.cell? ⟨bs, os + m, none⟩ = some (.string u) := (bq.cell (p := ⟨bs, os + m, none⟩) (by simp only; omega)).trans cs1
                have hcx := LH.out _ Bq.out HOq.out
                go_upto_region 11 with fail
                rw [← hwq]
                clear hwq bq e0 e1 HO Br BO Xr cs0 cs1 LH Xq
                have hsf := HSf.out
                subst hsf
                refine wp_region_T 8 (fun w' => w'.cell? ⟨wr.heap.size, 1, none⟩ = some (.func (.func 61) #[] #[]) ∧ w'.cell? ⟨w.heap.size, 0, none⟩ = some (.slice (some ⟨bs, os, none⟩) ws.length cs) ∧ w'.cell? ⟨bs, os + m, none⟩ = some (.string u)) (by kernel_rfl) ⟨y1, y2, y3⟩ (fun hS => ?_)
                refine wpAnyT_take (i := 0) (v := .pointer (some ⟨wr.heap.size, 1, none⟩)) [7, 1, 0] rfl (by kernel_rfl) (fun _ _ _ h => h) hS rfl (fun w' hSw => by go_simp) ?_
                try simp only [Act.put]
                refine wpAnyT_take (i := 1) (v := .func (.func 61) #[] #[]) [7, 1] rfl (by kernel_rfl) (fun _ _ _ h => h) hS rfl (fun w' hSw => by have h1 := hSw.1; go_simp) ?_
                try simp only [Act.put]
                refine wpAnyT_take (i := 2) (v := .slice (some ⟨bs, os, none⟩) ws.length cs) [7, 6, 5, 2] rfl (by kernel_rfl) (fun _ _ _ h => h) hS rfl (fun w' hSw => by have h1 := hSw.2.1; go_simp) ?_
                try simp only [Act.put]
                refine wpAnyT_take (i := 3) (v := .int .i64 q) [7, 6, 5, 4, 3] rfl (by kernel_rfl) (fun _ _ _ h => h) hS rfl (fun w' hSw => by go_simp) ?_
                try simp only [Act.put]
                refine wpAnyT_take (i := 4) (v := .int .i64 m) [7, 6, 5, 4] rfl (by kernel_rfl) (fun _ _ _ h => h) hS rfl (fun w' hSw => by go_simp) ?_
                try simp only [Act.put]
                refine wpAnyT_take (i := 5) (v := .pointer (some ⟨bs, os + m, none⟩)) [7, 6, 5] rfl (by kernel_rfl) (fun _ _ _ h => h) hS rfl (fun w' hSw => by go_simp) ?_
                try simp only [Act.put]
                refine wpAnyT_take (i := 6) (v := .string u) [7, 6] rfl (by kernel_rfl) (fun _ _ _ h => h) hS rfl (fun w' hSw => by have h1 := hSw.2.2; go_simp) ?_
                try simp only [Act.put]
                refine wpAnyT_one (i := 7) rfl (by kernel_rfl) (fun K hK => ?_)
                go_simp
                go_at_call 61
                refine hcx.mono ?_
                rintro e w5 ⟨p', t', g', x', ok, rfl, hr, ho, hb, hkp⟩
                have hlt5 : wr.heap.size < wq.drew.heap.size := zq
                have S5 : w5.cell? ⟨wr.heap.size, 1, none⟩ = some (.func (.func 61) #[] #[]) ∧ w5.cell? ⟨w.heap.size, 0, none⟩ = some (.slice (some ⟨bs, os, none⟩) ws.length cs) ∧ w5.cell? ⟨bs, os + m, none⟩ = some (.string u) := by
                  refine ⟨?_, ?_, ?_⟩
                  · rw [kp_cell (hkp _ hlt5 (by omega))]; exact y1
                  · rw [kp_cell (hkp _ (show w.heap.size < wq.drew.heap.size by omega) (by omega))]; exact y2
                  · rw [kp_cell (hkp _ (show bs < wq.drew.heap.size by omega) (by omega))]; exact y3
                refine hK.out _ _ (fun _ => S5) ?_
                clear hK K S5 y1 y2 y3 hS hcx
                try simp only [Act.put]
                refine wpAnyT_one (i := 8) rfl (by kernel_rfl) (fun K hK => ?_)
                go_simp
                refine hK.out _ _ (fun h => absurd rfl h) ?_
                clear hK K
                try simp only [Act.put]
                refine wpAnyT_done (by kernel_rfl) ?_ _
                have B5 := hideIt (Bq.out.trans (hb.mono (by omega)))
                have BO5 := hideIt (BOq.out.trans hb)
                have X5 := hideIt ((BO5.out.block _ (by omega)).trans XZ.out)
                have HO5 := hideIt ho
                clear hb hkp ho Bq BOq HOq
                cases ok with
                | true =>
                  have HE5 := hideIt (SS.out _ _ _ _ hr)
                  clear hr SS NB X5 B5
                  go_wp2
                  go_roundg ((fdsOf n).length - (q + 1))
                  case measure => exact hms
                  case rel => exact ⟨q + 1, p', t', g', x', hmq, by go_num, HO5.out, BO5.out, HE5.out⟩
                | false =>
                  have E0 := hideIt (NB.out _ _ _ _ hr)
                  clear hr SS NB BO5 HO5
                  obtain ⟨⟨x0, x1, x2, x3, x4⟩, f0, f1, f2, f3, f4⟩ := five_box X5.out
                  have D := hideIt (put5o_box X5.out (.int .i64 0) (.string ⟨#[]⟩) (.string ⟨#[]⟩) (.int .i64 0) (.int .i64 0))
                  have BF := hideIt (put5o_below B5.out (Nat.le_succ _) (.int .i64 0) (.string ⟨#[]⟩) (.string ⟨#[]⟩) (.int .i64 0) (.int .i64 0))
                  obtain ⟨W', hW'⟩ : ∃ W', W' = put5o w5 (w.heap.size + 1) (.int .i64 0) (.string ⟨#[]⟩) (.string ⟨#[]⟩) (.int .i64 0) (.int .i64 0) := ⟨_, rfl⟩
                  rw [← hW'] at D BF
                  unfold put5o at hW'
                  clear X5 B5
                  go_wp2_with fail
                  rw [← hW']
                  clear hW' x0 x1 x2 x3 x4 f0 f1 f2 f3 f4
                  obtain ⟨⟨y0, y1, y2, y3, y4⟩, -⟩ := five_box D.out
                  refine bodyPost_ret (v := .tuple #[.agg #[.int .i64 0, .string ⟨#[]⟩, .string ⟨#[]⟩, .int .i64 0, .int .i64 0], .bool false]) (by simp [results, Tryz.results30, go_sem, y0, y1, y2, y3, y4]) rfl ?_
                  exact ⟨NOP.out E0.out, BF.out⟩
              · have HSf := hideIt hsf
                clear hsf
                obtain ⟨wq, hwq⟩ : ∃ wq, wq = wr.alloc (.cells #[.func (.func (sf)) #[] #[], .func (.func (hf)) #[] #[]] 73) := ⟨_, rfl⟩
                have bq : Below wr.heap.size wr wq := by rw [hwq]; exact (Below.refl _ _).alloc (Nat.le_refl _) _
                have Xq : Hid (wq.heap[wr.heap.size]? = some (.cells #[.func (.func (sf)) #[] #[], .func (.func (hf)) #[] #[]] 73 (0, 0))) := by rw [hwq]; exact at_new rfl
                have zq := (Array.getElem?_eq_some_iff.1 Xq.out).1
                have HOq : Hid (HbO wq.drew w3.heap.size n p t g x) := HO.out.below bq.drew
                have Bq : Hid (Below w.heap.size w wq.drew) := (Br.out.trans (bq.mono (by omega))).drew
                have BOq : Hid (Below w3.heap.size W4 wq.drew) := (BO.out.trans (bq.mono (by omega))).drew
                have y1 : wq.cell? ⟨wr.heap.size, 1, none⟩ = some (.func (.func hf) #[] #[]) := (two_cells Xq.out).2.1
                have y2 : wq.cell? ⟨w.heap.size, 0, none⟩ = some (.slice (some ⟨bs, os, none⟩) ws.length cs) := (bq.cell (p := ⟨w.heap.size, 0, none⟩) (by simp only; omega)).trans cs0
                have y3 : wq.cell? ⟨bs, os + m, none⟩ = some (.string u) := (bq.cell (p := ⟨bs, os + m, none⟩) (by simp only; omega)).trans cs1
                have hcx := LH.out _ Bq.out HOq.out
                go_upto_region 11 with fail
                rw [← hwq]
                clear hwq bq e0 e1 HO Br BO Xr cs0 cs1 LH Xq
                have hsf := HSf.out
                subst hsf
                refine wp_region_T 8 (fun w' => w'.cell? ⟨wr.heap.size, 1, none⟩ = some (.func (.func 63) #[] #[]) ∧ w'.cell? ⟨w.heap.size, 0, none⟩ = some (.slice (some ⟨bs, os, none⟩) ws.length cs) ∧ w'.cell? ⟨bs, os + m, none⟩ = some (.string u)) (by kernel_rfl) ⟨y1, y2, y3⟩ (fun hS => ?_)
                refine wpAnyT_take (i := 0) (v := .pointer (some ⟨wr.heap.size, 1, none⟩)) [7, 1, 0] rfl (by kernel_rfl) (fun _ _ _ h => h) hS rfl (fun w' hSw => by go_simp) ?_
                try simp only [Act.put]
                refine wpAnyT_take (i := 1) (v := .func (.func 63) #[] #[]) [7, 1] rfl (by kernel_rfl) (fun _ _ _ h => h) hS rfl (fun w' hSw => by have h1 := hSw.1; go_simp) ?_
                try simp only [Act.put]
                refine wpAnyT_take (i := 2) (v := .slice (some ⟨bs, os, none⟩) ws.length cs) [7, 6, 5, 2] rfl (by kernel_rfl) (fun _ _ _ h => h) hS rfl (fun w' hSw => by have h1 := hSw.2.1; go_simp) ?_
                try simp only [Act.put]
                refine wpAnyT_take (i := 3) (v := .int .i64 q) [7, 6, 5, 4, 3] rfl (by kernel_rfl) (fun _ _ _ h => h) hS rfl (fun w' hSw => by go_simp) ?_
                try simp only [Act.put]
                refine wpAnyT_take (i := 4) (v := .int .i64 m) [7, 6, 5, 4] rfl (by kernel_rfl) (fun _ _ _ h => h) hS rfl (fun w' hSw => by go_simp) ?_
                try simp only [Act.put]
                refine wpAnyT_take (i := 5) (v := .pointer (some ⟨bs, os + m, none⟩)) [7, 6, 5] rfl (by kernel_rfl) (fun _ _ _ h => h) hS rfl (fun w' hSw => by go_simp) ?_
                try simp only [Act.put]
                refine wpAnyT_take (i := 6) (v := .string u) [7, 6] rfl (by kernel_rfl) (fun _ _ _ h => h) hS rfl (fun w' hSw => by have h1 := hSw.2.2; go_simp) ?_
                try simp only [Act.put]
                refine wpAnyT_one (i := 7) rfl (by kernel_rfl) (fun K hK => ?_)
                go_simp
                go_at_call 63
                refine hcx.mono ?_
                rintro e w5 ⟨p', t', g', x', ok, rfl, hr, ho, hb, hkp⟩
                have hlt5 : wr.heap.size < wq.drew.heap.size := zq
                have S5 : w5.cell? ⟨wr.heap.size, 1, none⟩ = some (.func (.func 63) #[] #[]) ∧ w5.cell? ⟨w.heap.size, 0, none⟩ = some (.slice (some ⟨bs, os, none⟩) ws.length cs) ∧ w5.cell? ⟨bs, os + m, none⟩ = some (.string u) := by
                  refine ⟨?_, ?_, ?_⟩
                  · rw [kp_cell (hkp _ hlt5 (by omega))]; exact y1
                  · rw [kp_cell (hkp _ (show w.heap.size < wq.drew.heap.size by omega) (by omega))]; exact y2
                  · rw [kp_cell (hkp _ (show bs < wq.drew.heap.size by omega) (by omega))]; exact y3
                refine hK.out _ _ (fun _ => S5) ?_
                clear hK K S5 y1 y2 y3 hS hcx
                try simp only [Act.put]
                refine wpAnyT_one (i := 8) rfl (by kernel_rfl) (fun K hK => ?_)
                go_simp
                refine hK.out _ _ (fun h => absurd rfl h) ?_
                clear hK K
                try simp only [Act.put]
                refine wpAnyT_done (by kernel_rfl) ?_ _
                have B5 := hideIt (Bq.out.trans (hb.mono (by omega)))
                have BO5 := hideIt (BOq.out.trans hb)
                have X5 := hideIt ((BO5.out.block _ (by omega)).trans XZ.out)
                have HO5 := hideIt ho
                clear hb hkp ho Bq BOq HOq
                cases ok with
                | true =>
                  have HE5 := hideIt (SS.out _ _ _ _ hr)
                  clear hr SS NB X5 B5
                  go_wp2
                  go_roundg ((fdsOf n).length - (q + 1))
                  case measure => exact hms
                  case rel => exact ⟨q + 1, p', t', g', x', hmq, by go_num, HO5.out, BO5.out, HE5.out⟩
                | false =>
                  have E0 := hideIt (NB.out _ _ _ _ hr)
                  clear hr SS NB BO5 HO5
                  obtain ⟨⟨x0, x1, x2, x3, x4⟩, f0, f1, f2, f3, f4⟩ := five_box X5.out
                  have D := hideIt (put5o_box X5.out (.int .i64 0) (.string ⟨#[]⟩) (.string ⟨#[]⟩) (.int .i64 0) (.int .i64 0))
                  have BF := hideIt (put5o_below B5.out (Nat.le_succ _) (.int .i64 0) (.string ⟨#[]⟩) (.string ⟨#[]⟩) (.int .i64 0) (.int .i64 0))
                  obtain ⟨W', hW'⟩ : ∃ W', W' = put5o w5 (w.heap.size + 1) (.int .i64 0) (.string ⟨#[]⟩) (.string ⟨#[]⟩) (.int .i64 0) (.int .i64 0) := ⟨_, rfl⟩
                  rw [← hW'] at D BF
                  unfold put5o at hW'
                  clear X5 B5
                  go_wp2_with fail
                  rw [← hW']
                  clear hW' x0 x1 x2 x3 x4 f0 f1 f2 f3 f4
                  obtain ⟨⟨y0, y1, y2, y3, y4⟩, -⟩ := five_box D.out
                  refine bodyPost_ret (v := .tuple #[.agg #[.int .i64 0, .string ⟨#[]⟩, .string ⟨#[]⟩, .int .i64 0, .int .i64 0], .bool false]) (by simp [results, Tryz.results30, go_sem, y0, y1, y2, y3, y4]) rfl ?_
                  exact ⟨NOP.out E0.out, BF.out⟩
            · have eq : q = (fdsOf n).length := by omega
              subst eq
              have QR := hideIt (QA.out p t g x HE.out)
              have IR := hideIt HE.out.2.2.2.2
              obtain ⟨⟨o0, o1, o2, o3, o4⟩, -⟩ := HO.out.cells
              clear QA QB HE BO HF4 D4 B4 X4 H4
              obtain ⟨⟨x0, x1, x2, x3, x4⟩, f0, f1, f2, f3, f4⟩ := five_box Xr.out
              have D := hideIt (put5o_box Xr.out (.int .i64 n) (.string p) (.string t) (.int .i64 g) (.int .i64 x))
              have BF := hideIt (put5o_below Br.out (Nat.le_succ _) (.int .i64 n) (.string p) (.string t) (.int .i64 g) (.int .i64 x))
              obtain ⟨W', hW'⟩ : ∃ W', W' = put5o wr (w.heap.size + 1) (.int .i64 n) (.string p) (.string t) (.int .i64 g) (.int .i64 x) := ⟨_, rfl⟩
              rw [← hW'] at D BF
              unfold put5o at hW'
              clear Xr Br
              go_wp2_with fail
              rw [← hW']
              clear hW' x0 x1 x2 x3 x4 f0 f1 f2 f3 f4
              obtain ⟨⟨y0, y1, y2, y3, y4⟩, -⟩ := five_box D.out
              refine bodyPost_ret (v := .tuple #[.agg #[.int .i64 n, .string p, .string t, .int .i64 g, .int .i64 x], .bool true]) (by simp [results, Tryz.results30, go_sem, y0, y1, y2, y3, y4]) rfl ?_
              exact ⟨⟨_, _, _, _, _, _, rfl, QR.out, IR.out.1, IR.out.2⟩, BF.out⟩
        · have kl : (((fdsOf n).length : Int) != (ws.length : Int) - 1) = true := by rw [bne_iff_ne]; omega
          have E0 := hideIt (he_len hn1 hkn cl)
          clear hkn HF
          go_upto_region 5 with fail
          go_quiet (fail)
          obtain ⟨w3, hw3⟩ : ∃ w3, w3 = w2.drewN nq := ⟨_, rfl⟩
          have X3 := hideIt (show w3.heap[w.heap.size + 1]? = some (.cells #[.int .i64 0, .string ⟨#[]⟩, .string ⟨#[]⟩, .int .i64 0, .int .i64 0] 24 (0, 0)) by rw [hw3]; exact X2.out)
          have B3 : Hid (Below w.heap.size w w3) := by rw [hw3]; exact below_drewN' B2.out nq
          rw [← hw3]
          clear hw3 X2 B2
          obtain ⟨⟨x0, x1, x2, x3, x4⟩, f0, f1, f2, f3, f4⟩ := five_box X3.out
          have D := hideIt (put5o_box X3.out (.int .i64 0) (.string ⟨#[]⟩) (.string ⟨#[]⟩) (.int .i64 0) (.int .i64 0))
          have BF := hideIt (put5o_below B3.out (Nat.le_succ _) (.int .i64 0) (.string ⟨#[]⟩) (.string ⟨#[]⟩) (.int .i64 0) (.int .i64 0))
          obtain ⟨W', hW'⟩ : ∃ W', W' = put5o w3 (w.heap.size + 1) (.int .i64 0) (.string ⟨#[]⟩) (.string ⟨#[]⟩) (.int .i64 0) (.int .i64 0) := ⟨_, rfl⟩
          rw [← hW'] at D BF
          unfold put5o at hW'
          clear X3 B3
          go_wp2_with fail
          rw [← hW']
          clear hW' x0 x1 x2 x3 x4 f0 f1 f2 f3 f4
          obtain ⟨⟨y0, y1, y2, y3, y4⟩, -⟩ := five_box D.out
          refine bodyPost_ret (v := .tuple #[.agg #[.int .i64 0, .string ⟨#[]⟩, .string ⟨#[]⟩, .int .i64 0, .int .i64 0], .bool false]) (by simp [results, Tryz.results30, go_sem, y0, y1, y2, y3, y4]) rfl ?_
          exact ⟨NOP.out E0.out, BF.out⟩
end Go.Proofs.YtjkdmhdehihcbaaGreatDoor
