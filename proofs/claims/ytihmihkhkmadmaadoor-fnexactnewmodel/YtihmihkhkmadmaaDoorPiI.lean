/- The entries that are taken: by the program. -/
import Derived.Test.YtihmihkhkmadmaaDoorPiF
namespace Go.Proofs.YtihmihkhkmadmaaDoor
open Go.RowKit
theorem rd_den (w1 : World) (x : Den) : Rd (w1.alloc (.cells #[.int .i64 x.dir, .string x.name, .int .i64 x.child] 69)) 3 (.slice (some ⟨w1.heap.size, 0, none⟩) 1 1) 1 (dens [x]) := by
  refine ⟨rfl, _, _, rfl, ⟨Nat.le_refl _, fun e => by cases e⟩, fun _ => ⟨w1.heap.size, 0, rfl, by simp, fun j hj => ?_⟩⟩
  obtain ⟨e0, e1, e2⟩ := three_cells (at_new (w := w1) (o := .cells #[.int .i64 x.dir, .string x.name, .int .i64 x.child] 69) rfl)
  rcases (show j = 0 ∨ j = 1 ∨ j = 2 by omega) with rfl | rfl | rfl
  · exact e0
  · exact e1
  · exact e2
theorem dens_ones (l : List Den) : ∀ u ∈ dens l, u.oneCell' = true := by
  intro u hu
  simp only [dens, List.mem_flatMap] at hu
  obtain ⟨m, _, hm⟩ := hu
  simp [Den.cells] at hm
  rcases hm with rfl | rfl | rfl <;> rfl
theorem dens_app (l l' : List Den) : dens (l ++ l') = dens l ++ dens l' := by simp [dens]
structure DnI (W w : World) (vL : Value) (ds : List Den) : Prop where
  l : w.ownsRow W.heap.size 69 3 vL ds.length (dens ds)
  b : Below W.heap.size W w
theorem DnI.z {W w : World} {vL : Value} {ds : List Den} (h : DnI W w vL ds) : W.heap.size ≤ w.heap.size := h.b.size
theorem DnI.below {W w w' : World} {vL : Value} {ds : List Den} (h : DnI W w vL ds) (hb : Below w.heap.size w w') : DnI W w' vL ds :=
  ⟨((own_block h.l).below hb (Nat.le_refl _)).1, below_trans h.b hb h.z⟩
theorem DnI.grow {W w w' : World} {vL v' : Value} {ds : List Den} (h : DnI W w vL ds) (ms : List Den) (ho : w'.ownsRow W.heap.size 69 3 v' (ds.length + ms.length) (dens ds ++ dens ms)) (hg : w.grownBy w' vL.ownBlock) : DnI W w' v' (ds ++ ms) :=
  ⟨by rw [dens_app, List.length_append]; exact ho, h.b.grown hg h.z (fun q hq => (h.l.lt q hq).1)⟩
def takenD (ps : List Den) : List Den := ps.filter fun x => !x.freeB
theorem taken_succ {ps : List Den} {k : Nat} (h : k < ps.length) : takenD (ps.take (k + 1)) = if ps[k].freeB = true then takenD (ps.take k) else takenD (ps.take k) ++ [ps[k]] := by
  unfold takenD
  rw [List.take_succ_eq_append_getElem h, List.filter_append]
  cases hf : ps[k].freeB <;> simp [hf]
theorem taken_len (ps : List Den) : (takenD ps).length ≤ ps.length := List.length_filter_le _ _
set_option maxRecDepth 100000 in
set_option maxHeartbeats 4000000 in
theorem takenDirents_any (v : Value) (ps : List Den) (w : World) (h : RdD w v ps) (hn : ps.length ≤ 4096) (hF : FD w) :
    Calls Tryd.prog 54 #[v] w fun e w' => ∃ v', e = .returned v' ∧ Row w' 69 3 w.heap.size w'.heap.size v' (takenD ps).length (dens (takenD ps)) ∧ Below w.heap.size w w' := by
  obtain ⟨aP, cP, rfl, _, hcP⟩ := h.shape
  have HP := hideIt hcP
  have F := hideIt hF
  clear h hcP hF
  go_enter Tryd.func54, Tryd.ntmps54
  go_wp2
  go_loopw [3, 5, 8] (fun vL _ i wr => ∃ k : Nat, k ≤ ps.length ∧ i = .int .i64 k ∧ Hid (DnI w wr vL (takenD (ps.take k))) ∧ w.heap.size ≤ wr.heap.size) (fun _ _ i _ => ps.length - (intOf i).toNat)
  case atStart => exact ⟨0, by omega, rfl, ⟨World.ownsRow_nil _ _ _ _, Below.refl _ _⟩, Nat.le_refl _⟩
  case round =>
    obtain ⟨k, hk, rfl, I, hz⟩ := hrel
    by_cases hlt : k < ps.length
    · obtain ⟨b, o, rfl, hbl, hcell⟩ := HP.out (by omega)
      obtain ⟨a0, a1, a2⟩ := hcell k hlt
      have d0 := (I.out.b.cell (p := ⟨b, o + k * 3, none⟩) hbl).trans a0
      have d1 := (I.out.b.cell (p := ⟨b, o + k * 3 + 1, none⟩) hbl).trans a1
      have d2 := (I.out.b.cell (p := ⟨b, o + k * 3 + 2, none⟩) hbl).trans a2
      have k0 : (0 : Int) ≤ (k : Int) := by omega
      have k1 : (k : Int) < (ps.length : Int) := by omega
      have TS := hideIt (taken_succ hlt)
      have TL := taken_len (ps.take k)
      rw [List.length_take] at TL
      have DF := den_free ps[k]
      clear a0 a1 a2 hcell
      generalize ps[k] = x at *
      have IB : Hid (DnI w (wr.alloc (.cells #[.int .i64 x.dir, .string x.name, .int .i64 x.child] 69)) u3 (takenD (ps.take k))) := I.out.below ((Below.refl _ _).alloc (Nat.le_refl _) _)
      obtain ⟨f0, f1, f2⟩ := FD.cells (F.out.below IB.out.b)
      have hzb := IB.out.z
      cases hf : x.freeB with
      | true =>
        have G : Hid (DnI w (wr.alloc (.cells #[.int .i64 x.dir, .string x.name, .int .i64 x.child] 69)) u3 (takenD (ps.take (k + 1)))) := by unfold Hid; rw [TS.out, if_pos hf]; exact IB.out
        rw [hf] at DF
        clear IB I TS hf TL
        go_wp2
        go_roundw
        case rel => exact ⟨k + 1, by omega, by go_num, G, hzb⟩
        case measure => simp [intOf]; omega
      | false =>
        have IC : Hid (DnI w ((wr.alloc (.cells #[.int .i64 x.dir, .string x.name, .int .i64 x.child] 69)).alloc (.cells #[.int .i64 x.dir, .string x.name, .int .i64 x.child] 69)) u3 (takenD (ps.take k))) := IB.out.below ((Below.refl _ _).alloc (Nat.le_refl _) _)
        have RC := hideIt (rd_den (wr.alloc (.cells #[.int .i64 x.dir, .string x.name, .int .i64 x.child] 69)) x)
        have hzc := IC.out.z
        have TN : Hid (takenD (ps.take (k + 1)) = takenD (ps.take k) ++ [x]) := by unfold Hid; rw [TS.out, if_neg (by rw [hf]; decide)]
        rw [hf] at DF
        rw [World.size_alloc] at RC
        clear IB I TS hf
        go_wp2_with (at_builtin; refine wpList_append_rd _ rfl (.tmp 15) (.tmp 17) 23 rfl w.heap.size 69 (.agg #[.int .i64 0, .string ⟨#[]⟩, .int .i64 0]) 3 32 Tryd.underlying23 infoDen rfl (by decide) _ _ _ rfl IC.out.l _ 1 _ rfl RC.out (dens_ones _) (by simp [maxLen]; omega) (by omega) (by omega) ?_)
        intro vN wN hownN hgrN
        have G := hideIt (IC.out.grow [x] hownN hgrN)
        rw [← TN.out] at G
        have hzN := G.out.z
        clear hownN hgrN IC RC
        go_wp2
        go_roundw
        case rel => exact ⟨k + 1, by omega, by go_num, G, hzN⟩
        case measure => simp [intOf]; omega
    · obtain rfl : k = ps.length := by omega
      have E := hideIt (show takenD (ps.take ps.length) = takenD ps by rw [List.take_length])
      rw [E.out] at I
      obtain ⟨-, aL, cL, hvL, -⟩ := (own_block I.out.l).rd
      subst hvL
      go_wp2
      go_ret
      exact ⟨_, rfl, own_block I.out.l, I.out.b⟩
end Go.Proofs.YtihmihkhkmadmaaDoor
