/- Several texts laid together: PeK, ImR. -/
import Derived.Test.YtpgdpachomdfhaaDoorZBT
import Derived.Laws.EntriesVeiled
import Derived.Test.YtpgdpachomdfhaaDoorZAN
namespace Go.Proofs.YtpgdpachomdfhaaDoor
open Go.RowKit

/-- The sort of entries by name sorts: a permutation, rising; nothing else is changed. -/
def SortDen : Prop := ∀ (v : Value) (ts : List Den) (lo hi : Nat) (w : World), Row w 49 3 lo hi v ts.length (dens ts) → hi ≤ w.heap.size → ts.length ≤ 24 →
  Calls Tryd.prog 21 #[v, .func (.func 22) #[] #[]] w fun e w' => e = .returned (.tuple #[]) ∧ ∃ rs : List Den, rs.Perm ts ∧ (rs.Pairwise fun a b => a.name.toList ≤ b.name.toList) ∧ Row w' 49 3 lo hi v rs.length (dens rs) ∧ Outside lo hi w w'

set_option maxRecDepth 100000 in
set_option maxHeartbeats 8000000 in
theorem implPathsOf_of (SORT : SortDen) (v : Value) (ws : List Ino) (ps : List Den) (w : World) (h : RdIm w v ws ps) (hw : ws.length ≤ 1048576) (hp : ps.length ≤ 1048576) (hT : TS w) (hE : ED w) (hF : FD w) (hr : ∀ k (h : k < ws.length), ws[k].R) (hs : ∀ k (h : k < ps.length), ps[k].name.size ≤ maxLen) :
    Calls Tryd.prog 7 #[v] w fun e w' => ∃ v', e = .returned (.tuple #[v', .int .i64 (poC ws ps)]) ∧ Row w' 9 1 w.heap.size w'.heap.size v' (poL ws ps).length (strs (poL ws ps)) ∧ Below w.heap.size w w' := by
  have HRD := hideIt h
  have LI := hideIt (fun w1 (hb : Below w.heap.size w w1) h => implImageOK_any v ws ps w1 h hw hp (hT.below hb) (hE.below hb) (hF.below hb) hr hs)
  have FF := hideIt hF
  obtain ⟨vW, vP, rfl, h1, h2⟩ := h
  obtain ⟨aW, cW, rfl, _, _⟩ := h1.shape
  have HD := hideIt h2
  obtain ⟨aP, cP, rfl, _, _⟩ := h2.shape
  clear h1 h2 hr hs hT hE hF
  obtain ⟨W0, hW0⟩ : ∃ W0, W0 = w.alloc (.cells #[.slice aW ws.length cW, .slice aP ps.length cP] 33) := ⟨_, rfl⟩
  have CA : Hid (∀ w', Below W0.heap.size W0 w' → w'.cell? ⟨w.heap.size, 0, none⟩ = some (.slice aW ws.length cW) ∧ w'.cell? ⟨w.heap.size, 1, none⟩ = some (.slice aP ps.length cP)) := fun w' hb => by
    have : w'.heap[w.heap.size]? = some (.cells #[.slice aW ws.length cW, .slice aP ps.length cP] 33 (0, 0)) := (hb.block _ (by rw [hW0]; simp)).trans (by rw [hW0]; exact at_new rfl)
    exact ⟨(two_cells this).1, (two_cells this).2.1⟩
  have BW : Hid (Below w.heap.size w W0) := by rw [hW0]; exact (Below.refl _ _).alloc (Nat.le_refl _) _
  have hz0 : w.heap.size ≤ W0.heap.size := BW.out.size
  obtain ⟨x0, x1⟩ := CA.out _ (Below.refl _ _)
  cases c1 : imgB ws ps with
  | false =>
    rw [c1] at LI
    rw [show poL ws ps = [] by unfold poL; rw [c1]; rfl, show poC ws ps = 1 by unfold poC; rw [c1]; rfl]
    clear c1
    go_enter Tryd.func7, Tryd.ntmps7
    go_wp2_with fail
    rw [← hW0]
    refine (LI.out _ BW.out (HRD.out.below BW.out)).mono ?_
    rintro e w1 ⟨rfl, hb1⟩
    have B1 := hideIt (below_trans BW.out hb1 BW.out.size)
    clear hb1 x0 x1
    go_wp2
    go_ret2
    exact ⟨_, rfl, Row.nil _ _ _ _ _, B1.out⟩
  | true =>
    have OK := hideIt c1
    have L24 := hideIt (pimg_all c1).2.1
    rw [c1] at LI
    rw [show poL ws ps = pthN ws ps 16 0 ⟨#[]⟩ by unfold poL; rw [c1]; rfl, show poC ws ps = 0 by unfold poC; rw [c1]; rfl]
    clear c1
    go_enter Tryd.func7, Tryd.ntmps7
    go_wp2_with fail
    rw [← hW0]
    clear hW0
    refine (LI.out _ BW.out (HRD.out.below BW.out)).mono ?_
    rintro e w1 ⟨rfl, hb1⟩
    have B1 := hideIt (below_trans BW.out hb1 BW.out.size)
    have B01 := hideIt hb1
    clear x0 x1
    obtain ⟨x0, x1⟩ := CA.out _ hb1
    clear hb1
    go_wp2_with fail
    refine (takenDirents_any _ ps w1 (Rd.below HD.out B1.out) (by have := L24.out; omega) (FF.out.below B1.out)).mono ?_
    rintro e w2 ⟨v2, rfl, hr2, hb2⟩
    have B2 := hideIt (below_trans B1.out hb2 B1.out.size)
    have hz1 : w.heap.size ≤ w1.heap.size := B1.out.size
    have hz2 : w1.heap.size ≤ w2.heap.size := hb2.size
    have tl : (takenD ps).length ≤ 24 := by rw [← L24.out]; exact List.length_filter_le _ _
    have R2 := hideIt hr2
    obtain ⟨_, a2, c2, rfl, _⟩ := hr2.rd
    obtain ⟨W3, hW3⟩ : ∃ W3, W3 = w2.alloc (.cells #[.slice a2 (takenD ps).length c2] 31) := ⟨_, rfl⟩
    have X3 : Hid (W3.heap[w2.heap.size]? = some (.cells #[.slice a2 (takenD ps).length c2] 31 (0, 0))) := by rw [hW3]; exact at_new rfl
    have BX : Hid (Below w2.heap.size w2 W3) := by rw [hW3]; exact (Below.refl _ _).alloc (Nat.le_refl _) _
    have R3 := hideIt (R2.out.below BX.out (Nat.le_refl _))
    have B3 := hideIt (below_trans B2.out BX.out B2.out.size)
    have hz3 : w2.heap.size < W3.heap.size := (Array.getElem?_eq_some_iff.1 X3.out).1
    have s0 := (one_cells X3.out).1
    rw [hW3] at s0
    clear x0 x1 hr2 hb2 R2
    go_wp2_with fail
    rw [← hW3]
    clear hW3 s0
    refine (SORT _ (takenD ps) _ _ W3 R3.out (by omega) tl).mono ?_
    rintro e w4 ⟨rfl, rs, hpm, hsr, hr4, ho4⟩
    have hz4 : W3.heap.size ≤ w4.heap.size := ho4.size
    have B4 := hideIt (B3.out.trans (ho4.below (B := w.heap.size) (by omega) (by omega)))
    have X4 := hideIt ((ho4.block _ (by omega) (by omega)).trans X3.out)
    have rl := hpm.length_eq
    rw [← rl] at X4
    have D4 : Hid (RdD w4 (.slice a2 rs.length c2) rs) := by
      have := hr4.rd
      rw [← rl] at this
      exact this
    have PS := hideIt (paths_same OK.out hpm hsr 16 0 ⟨#[]⟩)
    obtain ⟨W5, hW5⟩ : ∃ W5, W5 = (w4.alloc (.cells #[.slice none 0 0] 27)).alloc (.cells #[wkF w2.heap.size w4.heap.size (w4.heap.size + 1)] 52) := ⟨_, rfl⟩
    have I0 : Hid (WkI 52 w4 W5 w2.heap.size w4.heap.size (w4.heap.size + 1) (.slice none 0 0) []) := by
      rw [hW5]
      refine ⟨at_old (at_new rfl), ?_, ⟨World.ownsRow_nil _ _ _ _, below_allocS (below_allocS (Below.refl _ _) _) _⟩, Nat.le_refl _, by omega⟩
      have := at_new (w := w4.alloc (.cells #[.slice none 0 0] 27)) (o := .cells #[wkF w2.heap.size w4.heap.size (w4.heap.size + 1)] 52) rfl
      rw [World.size_alloc] at this
      exact this
    have LW := hideIt (walk_any OK.out hpm 52 (by decide) w4 a2 c2 w2.heap.size w4.heap.size (w4.heap.size + 1) (fun w' hb => (one_cells ((hb.block _ (by omega)).trans X4.out)).1) D4.out 16 0 ⟨#[]⟩ W5 _ [] (Or.inl ⟨0, rfl, rfl, by omega, (pimg_all OK.out).2.2.1, by decide, Nat.zero_le _⟩) I0.out)
    have f0 := (one_cells I0.out.f).1
    rw [hW5] at f0
    unfold wkF at hW5 f0
    clear hr4 ho4 hpm hsr D4 X3 R3 rl
    go_wp2_with fail
    rw [← hW5]
    clear hW5 f0
    refine LW.out.mono ?_
    rintro e w6 ⟨rfl, v6, h6⟩
    rw [List.nil_append, PS.out] at h6
    have I6 := hideIt h6
    obtain ⟨_, a6, c6, rfl, _⟩ := (own_block h6.i.l).rd
    clear h6 LW I0
    have t0 := (one_cells I6.out.s).1
    have B6 := hideIt (below_trans B4.out I6.out.i.b B4.out.size)
    have hz6 : w.heap.size ≤ w4.heap.size := B4.out.size
    go_wp2
    go_ret2
    exact ⟨_, rfl, (own_block I6.out.i.l).wide hz6 (Nat.le_refl _), B6.out⟩
end Go.Proofs.YtpgdpachomdfhaaDoor

namespace Go.Proofs.YtpgdpachomdfhaaDoor
open Go.RowKit

theorem room_small {n : Nat} {ps : List Den} (h : ¬ roomI n ps < 0) : n ≤ 1048576 ∧ ps.length ≤ 1048576 := by
  unfold roomI at h
  split at h
  · omega
  · rename_i c
    refine ⟨by omega, ?_⟩
    rcases Nat.lt_or_ge 1048576 ps.length with q | q
    · exfalso
      have := roomD_neg ps (1048576 - (n : Int)) (by omega) 0 (by unfold roomD; rw [if_pos (by omega)]; omega) ps.length
      rw [Nat.zero_add] at this
      omega
    · exact q

end Go.Proofs.YtpgdpachomdfhaaDoor
