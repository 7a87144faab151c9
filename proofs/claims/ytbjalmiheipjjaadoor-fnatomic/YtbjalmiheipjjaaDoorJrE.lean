/- What waits in the journal: by the model. -/
import Derived.Test.YtbjalmiheipjjaaDoorZBI
import Derived.Test.YtbjalmiheipjjaaDoorZBM
namespace Go.Proofs.YtbjalmiheipjjaaDoor
open Go.RowKit
def rdL (ws : List Int) (ps : List St) (m : Nat) : List Se := (List.range m).map (fun i => ⟨ldW ws ps (9 + 2 * i), ldW ws ps (9 + 2 * i + 1)⟩)
theorem rdL_len (ws : List Int) (ps : List St) (m : Nat) : (rdL ws ps m).length = m := by simp [rdL]
theorem rdL_succ (ws : List Int) (ps : List St) (m : Nat) : rdL ws ps (m + 1) = rdL ws ps m ++ [⟨ldW ws ps (9 + 2 * m), ldW ws ps (9 + 2 * m + 1)⟩] := by
  unfold rdL; rw [List.range_succ, List.map_append]; rfl
theorem rd_up (w1 : World) (x y : Int) : Rd (w1.alloc (.cells #[.int .i64 x, .int .i64 y] 50)) 2 (.slice (some ⟨w1.heap.size, 0, none⟩) 1 1) 1 (ses [⟨x, y⟩]) := by
  refine ⟨rfl, _, _, rfl, ⟨Nat.le_refl _, fun e => by cases e⟩, fun _ => ⟨w1.heap.size, 0, rfl, by simp, fun j hj => ?_⟩⟩
  obtain ⟨e0, e1, _, _⟩ := two_cells (at_new (w := w1) (o := .cells #[.int .i64 x, .int .i64 y] 50) rfl)
  rcases (show j = 0 ∨ j = 1 by omega) with rfl | rfl
  · exact e0
  · exact e1
theorem ses_one_ (l : List Se) : ∀ u ∈ ses l, u.oneCell' = true := by
  intro u hu
  simp only [ses, List.mem_flatMap] at hu
  obtain ⟨m, _, hm⟩ := hu
  simp [Se.cells] at hm
  rcases hm with rfl | rfl <;> rfl
theorem ses_append_ (l l' : List Se) : ses (l ++ l') = ses l ++ ses l' := by simp [ses]
structure ReI (W w : World) (vL : Value) (ls : List Se) : Prop where
  l : w.ownsRow W.heap.size 50 2 vL ls.length (ses ls)
  b : Below W.heap.size W w
theorem ReI.z {W w : World} {vL : Value} {ls : List Se} (h : ReI W w vL ls) : W.heap.size ≤ w.heap.size := h.b.size
theorem ReI.below {W w w' : World} {vL : Value} {ls : List Se} (h : ReI W w vL ls) (hb : Below w.heap.size w w') : ReI W w' vL ls :=
  ⟨((own_block h.l).below hb (Nat.le_refl _)).1, below_trans h.b hb h.z⟩
theorem ReI.grow {W w w' : World} {vL v' : Value} {ls : List Se} (h : ReI W w vL ls) (ms : List Se) (ho : w'.ownsRow W.heap.size 50 2 v' (ls.length + ms.length) (ses ls ++ ses ms)) (hg : w.grownBy w' vL.ownBlock) : ReI W w' v' (ls ++ ms) :=
  ⟨by rw [ses_append_, List.length_append]; exact ho, h.b.grown hg h.z (fun q hq => (h.l.lt q hq).1)⟩
set_option maxRecDepth 100000 in
set_option maxHeartbeats 4000000 in
theorem l04Read_any (v : Value) (ws : List Int) (ps : List St) (N : Nat) (w : World) (h : RdPm w v ws ps) (hw : ws.length ≤ 1048576) (hp : ps.length ≤ 1048576) (h64 : 64 < ws.length) (hN : ldW ws ps 8 = (N : Int)) (hN2 : N ≤ 16) :
    Calls Tryd.prog 33 #[v] w fun e w' => ∃ v', e = .returned v' ∧ Row w' 50 2 w.heap.size w'.heap.size v' (rdL ws ps N).length (ses (rdL ws ps N)) ∧ Below w.heap.size w w' := by
  have HR := hideIt h
  obtain ⟨vW, vP, rfl, h1, h2⟩ := h
  obtain ⟨aW, cW, rfl, _⟩ := h1.shape
  obtain ⟨aP, cP, rfl, _⟩ := h2.shape
  clear h1 h2
  have hb0 := hideIt (show Below w.heap.size w (w.alloc (.cells #[.slice aW ws.length cW, .slice aP ps.length cP] 31)) from (Below.refl _ _).alloc (Nat.le_refl _) _)
  have LC := hideIt (fun (v : Value) (w : World) (h : RdPm w v ws ps) => l04Count_any v ws ps w h hw hp (by omega))
  rw [hN] at LC
  have LD : Hid (∀ (k : Nat) (x : Int), x = (k : Int) → k < 64 → ∀ (v : Value) (w : World), RdPm w v ws ps → Calls Tryd.prog 61 #[v, .int .i64 x] w fun e w' => e = .returned (.int .i64 (ldW ws ps k)) ∧ Below w.heap.size w w') := fun k x hx hk v w h => by
    subst hx
    rw [ldW_at (show k < ws.length by omega)]
    exact l01Load_any v ws ps k w h hw hp (by omega)
  obtain ⟨W, hW⟩ : ∃ W, W = w.alloc (.cells #[.slice aW ws.length cW, .slice aP ps.length cP] 31) := ⟨_, rfl⟩
  have START : Hid (ReI W (W.alloc (.cells #[] 50)) (.slice (some ⟨W.heap.size, 0, none⟩) 0 0) []) :=
    ⟨(row_empty W 50 2).1, (Below.refl _ _).alloc (Nat.le_refl _) _⟩
  have CW : Hid (W.heap[w.heap.size]? = some (.cells #[.slice aW ws.length cW, .slice aP ps.length cP] 31 (0, 0))) := by rw [hW]; exact at_new rfl
  have RW : Hid (RdPm W (.agg #[.slice aW ws.length cW, .slice aP ps.length cP]) ws ps) := by rw [hW]; exact HR.out.below hb0.out
  have hWz : W.heap.size = w.heap.size + 1 := by rw [hW]; simp
  have hWz' : w.heap.size < W.heap.size := by omega
  have BW : Hid (Below w.heap.size w W) := by rw [hW]; exact hb0.out
  clear hb0 HR
  go_enter Tryd.func33, Tryd.ntmps33
  go_wp2
  go_loopw [3, 4, 5] (fun vL i _ wr => ∃ m : Nat, m ≤ N ∧ i = .int .i64 m ∧ Hid (ReI W wr vL (rdL ws ps m))) (fun _ i _ _ => N - (intOf i).toNat)
  case atStart =>
    refine ⟨0, by omega, rfl, ?_⟩
    have := START
    rw [hW] at this ⊢
    simpa [rdL] using this
  case round =>
    obtain ⟨m, hm, rfl, J⟩ := hrel
    obtain ⟨x1, x2, _, _⟩ := two_cells ((J.out.b.block w.heap.size hWz').trans CW.out)
    have R0 := hideIt (RW.out.below J.out.b)
    have m0 : (0 : Int) ≤ (m : Int) := by omega
    clear START
    go_wp2_with fail
    refine (LC.out _ _ R0.out).mono ?_
    rintro e w1 ⟨rfl, hb1⟩
    have J1 := hideIt (J.out.below hb1)
    have R1 := hideIt (R0.out.below hb1)
    clear hb1 J R0 x1 x2
    by_cases hlt : m < N
    · obtain ⟨x1, x2, _, _⟩ := two_cells ((J1.out.b.block w.heap.size hWz').trans CW.out)
      have m1 : (m : Int) < (N : Int) := by omega
      have wp1 : IntKind.i64.wrap (9 + 2 * (m : Int) + 1) = 9 + 2 * (m : Int) + 1 := by rw [IntKind.wrap_i64]; omega
      have LA := hideIt (LD.out (9 + 2 * m) (9 + 2 * (m : Int)) (by omega) (by omega))
      have LB := hideIt (LD.out (9 + 2 * m + 1) (9 + 2 * (m : Int) + 1) (by omega) (by omega))
      have EM := hideIt (rdL_succ ws ps m)
      have l1 := rdL_len ws ps m
      have l2 : (rdL ws ps m).length ≤ 16 := by omega
      clear l1
      generalize ldW ws ps (9 + 2 * m) = x at *
      generalize ldW ws ps (9 + 2 * m + 1) = y at *
      go_wp2_with fail
      go_region_held3 (fun w' => w'.cell? ⟨w.heap.size, 0, none⟩ = some (.slice aW ws.length cW) ∧ w'.cell? ⟨w.heap.size, 1, none⟩ = some (.slice aP ps.length cP)) (first | exact ⟨x1, x2⟩ | exact ⟨s0, s1⟩ | exact ⟨r0, r1⟩ | exact ⟨t0, t1⟩ | exact ⟨q0, q1⟩)
        (first
          | (go_at_call 61; first
              | (have J2' := J2.out; refine (LB.out _ _ R2.out).mono ?_; rintro e w3 ⟨rfl, hb3⟩; have J3 := hideIt (J2'.below hb3); clear J2' hb3; obtain ⟨t0, t1, _, _⟩ := two_cells ((J3.out.b.block w.heap.size hWz').trans CW.out); have J4 := hideIt (J3.out.below ((Below.refl _ _).alloc (Nat.le_refl _) (.cells #[.int .i64 x, .int .i64 y] 50))); obtain ⟨r0, r1, _, _⟩ := two_cells ((J4.out.b.block w.heap.size hWz').trans CW.out); have HRD := hideIt (rd_up w3 x y); have hz4 := J4.out.z)
              | (refine (LA.out _ _ (R1.out.below ((Below.refl _ _).drew))).mono ?_; rintro e w2 ⟨rfl, hb2⟩; have hb2' := below_of_drew hb2; have J2 := hideIt (J1.out.below hb2'); have R2 := hideIt (R1.out.below hb2'); clear hb2 hb2'; obtain ⟨q0, q1, _, _⟩ := two_cells ((J2.out.b.block w.heap.size hWz').trans CW.out)))
          | (refine step_append_rd rfl (.tmp 16) (.tmp 25) 23 rfl W.heap.size 50 (.agg #[.int .i64 0, .int .i64 0]) 2 16 Tryd.underlying23 infoUp rfl (by decide) _ _ _ rfl J4.out.l _ 1 _ rfl HRD.out (ses_one_ _) (by simp [maxLen]; omega) (by omega) hz4 ?_; intro vN wN hownN hgrN; have G := hideIt (J4.out.grow [⟨x, y⟩] hownN hgrN); obtain ⟨s0, s1, _, _⟩ := two_cells ((G.out.b.block w.heap.size hWz').trans CW.out); clear hownN hgrN))
      all_goals
        rw [← EM.out] at G
        clear J1 J2 J3 J4 R1 R2 q0 q1 r0 r1 t0 t1 x1 x2 HRD
        go_wp2
        go_roundw
        case rel => exact ⟨m + 1, by omega, by go_num, G⟩
        case measure => simp [intOf]; omega
    · obtain rfl : m = N := by omega
      obtain ⟨aL, cL, hvL⟩ := RdE.shapeN (own_block J1.out.l).rd rfl
      subst hvL
      go_wp2
      go_ret
      exact ⟨_, rfl, (own_block J1.out.l).wide (by omega) (Nat.le_refl _), below_trans BW.out (J1.out.b) (by omega)⟩
end Go.Proofs.YtbjalmiheipjjaaDoor
