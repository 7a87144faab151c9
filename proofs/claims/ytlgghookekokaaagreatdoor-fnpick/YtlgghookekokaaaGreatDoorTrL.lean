/- The coldest page of the faster tier, the hottest of the slower one: by the program. -/
import Derived.Test.YtlgghookekokaaaGreatDoorTrK
namespace Go.Proofs.YtlgghookekokaaaGreatDoor
open Go.RowKit

theorem pc_ways (ns : List Ino) (ds : List Den) (hs : List Int) (t : Int) (hot : Bool) : (¬ hfI hs = 0 ∧ pcR ns ds hs t hot = (0, 0, hfI hs)) ∨ (hfI hs = 0 ∧ imgB ns ds = false ∧ pcR ns ds hs t hot = (0, 0, 1)) ∨ (hfI hs = 0 ∧ imgB ns ds = true ∧ heatB hs = true) := by
  rcases hf_ways hs with ⟨c1, e1⟩ | ⟨c1, c2, e1⟩ | ⟨c1, c2, e1⟩
  · refine .inl ⟨by omega, ?_⟩
    unfold pcR
    rw [if_pos c1, e1]
  · refine .inl ⟨by omega, ?_⟩
    unfold pcR pcI
    rw [if_neg c1, if_neg (fun q => by rw [c2] at q; cases q.2), e1]
  · cases hi : imgB ns ds with
    | false =>
      refine .inr (.inl ⟨e1, rfl, ?_⟩)
      unfold pcR pcI
      rw [if_neg c1, hi, if_neg (fun q => by cases q.1)]
    | true => exact .inr (.inr ⟨e1, rfl, c2⟩)

set_option maxRecDepth 100000 in
set_option maxHeartbeats 8000000 in
theorem pickCold_any (v vh : Value) (ns : List Ino) (ds : List Den) (hs : List Int) (w : World) (h : RdIm w v ns ds) (hw : ns.length ≤ 1048576) (hp : ds.length ≤ 1048576) (hr : ∀ k (h : k < ns.length), ns[k].R) (hsz : ∀ k (h : k < ds.length), ds[k].name.size ≤ maxLen) (hh : RdI w vh hs) (hn : hs.length ≤ 1048576) (hT : TS w) (hE : ED w) (hF : FD w) :
    Calls Tryz.prog 91 #[v, vh, .int .i64 1, .func (.func 92) #[] #[]] w fun e w' => e = .returned (.tuple #[.int .i64 (pcR ns ds hs 1 false).1, .int .i64 (pcR ns ds hs 1 false).2.1, .int .i64 (pcR ns ds hs 1 false).2.2]) ∧ Below w.heap.size w w' := by
  have LI := hideIt (fun w1 (hb : Below w.heap.size w w1) => implImageOK_any v ns ds w1 (h.below hb) hw hp (hT.below hb) (hE.below hb) (hF.below hb) hr hsz)
  have LH := hideIt (fun w1 (hb : Below w.heap.size w w1) => heatFault_any vh hs w1 (Rd.below hh hb) hn)
  have LP := hideIt (fun w1 (hb : Below w.heap.size w w1) (c1 : imgB ns ds = true) (c2 : heatB hs = true) => pagesOfTier_any v vh ns ds hs 1 w1 (h.below hb) c1 (Rd.below hh hb) c2 (.inl rfl) (hT.below hb))
  have LC := hideIt (fun w1 v1 (hr : RdM w1 v1 (wpL ns hs 1 128)) => chooseCold_any v1 (wpL ns hs 1 128) w1 hr (wpL_len ns hs 1 128))
  have WAYS := hideIt (pc_ways ns ds hs 1 false)
  have TOLD := hideIt (fun c1 c2 => pick_told ns ds hs 1 false c1 c2)
  obtain ⟨vW, vP, rfl, h1, h2⟩ := h
  obtain ⟨aW, cW, rfl, _, _⟩ := h1.shape
  obtain ⟨aP, cP, rfl, _, _⟩ := h2.shape
  obtain ⟨aH, cH, rfl, _, _⟩ := hh.shape
  clear h1 h2 hh hr hsz hT hE hF
  obtain ⟨W, hW⟩ : ∃ W, W = w.alloc (.cells #[.slice aW ns.length cW, .slice aP ds.length cP] 26) := ⟨_, rfl⟩
  have CA : Hid (∀ w', Below W.heap.size W w' → w'.cell? ⟨w.heap.size, 0, none⟩ = some (.slice aW ns.length cW) ∧ w'.cell? ⟨w.heap.size, 1, none⟩ = some (.slice aP ds.length cP)) := fun w' hb => by
    have : w'.heap[w.heap.size]? = some (.cells #[.slice aW ns.length cW, .slice aP ds.length cP] 26 (0, 0)) := (hb.block _ (by rw [hW]; simp)).trans (by rw [hW]; exact at_new rfl)
    exact ⟨(two_cells this).1, (two_cells this).2.1⟩
  have BW : Hid (Below w.heap.size w W) := by rw [hW]; exact (Below.refl _ _).alloc (Nat.le_refl _) _
  generalize pcR ns ds hs 1 false = res at *
  generalize wpL ns hs 1 128 = L at *
  generalize hfI hs = hf at *
  go_enter Tryz.func91, Tryz.ntmps91
  go_wp2_with fail
  rw [← hW]
  clear hW
  refine (LH.out _ BW.out).mono ?_
  rintro e w' ⟨rfl, hw'⟩
  subst w'
  clear LH
  rcases WAYS.out with ⟨c, e⟩ | ⟨c, c2, e⟩ | ⟨c, c2, c3⟩
  · obtain rfl := e
    have q : (hf != 0) = true := by rw [bne_iff_ne]; exact c
    clear WAYS LI LP LC TOLD
    go_wp2
    go_ret3
    exact ⟨rfl, BW.out⟩
  · obtain rfl := e
    subst c
    obtain ⟨x0, x1⟩ := CA.out _ (Below.refl _ _)
    rw [c2] at LI
    clear WAYS LP LC TOLD
    go_wp2_with fail
    refine (LI.out _ BW.out).mono ?_
    rintro e w1 ⟨rfl, hb1⟩
    have B1 := hideIt (below_trans BW.out hb1 BW.out.size)
    clear hb1 x0 x1
    go_wp2
    go_ret3
    exact ⟨rfl, B1.out⟩
  subst c
  have E := hideIt (TOLD.out c2 c3)
  have LP1 := hideIt (fun w1 hb => LP.out w1 hb c2 c3)
  rw [c2] at LI
  obtain ⟨x0, x1⟩ := CA.out _ (Below.refl _ _)
  clear WAYS TOLD LP c2 c3
  go_wp2_with fail
  refine (LI.out _ BW.out).mono ?_
  rintro e w1 ⟨rfl, hb1⟩
  have A1 := hideIt hb1
  have B1 := hideIt (below_trans BW.out hb1 BW.out.size)
  clear hb1 x0 x1
  obtain ⟨x0, x1⟩ := CA.out _ A1.out
  go_wp2_with fail
  refine (LP1.out _ B1.out).mono ?_
  rintro e w2 ⟨v2, rfl, hr2, hb2⟩
  have B2 := hideIt (below_trans B1.out hb2 B1.out.size)
  have R2 : Hid (RdM w2 v2 L) := hr2.rd
  obtain ⟨-, a2, k2, hv2, -⟩ := hr2.rd
  subst hv2
  clear hr2 hb2 LP1 x0 x1
  go_wp2_with fail
  refine (LC.out _ _ R2.out).mono ?_
  rintro e w3 ⟨rfl, hb3⟩
  have B3 := hideIt (below_trans B2.out hb3 B2.out.size)
  clear hb3 LC R2
  by_cases cl : L = []
  · rw [if_pos cl] at E
    obtain rfl := E.out
    subst cl
    have BX : Hid (Below w.heap.size w (w3.alloc (.cells #[.int .i64 (chO false ([] : List Mi)).kind, .int .i64 (chO false ([] : List Mi)).at_, .int .i64 (chO false ([] : List Mi)).val] 167))) := B3.out.alloc B3.out.size _
    clear E
    go_wp2
    go_ret3
    exact ⟨rfl, BX.out⟩
  · rw [if_neg cl] at E
    obtain rfl := E.out
    have q : decide (0 < L.length) = true := decide_eq_true (List.length_pos_iff.2 cl)
    rw [q]
    generalize hc : chO false L = c at *
    clear E q cl
    obtain ⟨W4, hW4⟩ : ∃ W4, W4 = w3.alloc (.cells #[.int .i64 c.kind, .int .i64 c.at_, .int .i64 c.val] 167) := ⟨_, rfl⟩
    have BX : Hid (Below w.heap.size w W4) := by rw [hW4]; exact B3.out.alloc B3.out.size _
    obtain ⟨x0, x1, x2⟩ := wp_cell (show W4.heap[w3.heap.size]? = some (.cells #[.int .i64 c.kind, .int .i64 c.at_, .int .i64 c.val] 167 (0, 0)) by rw [hW4]; exact at_new rfl)
    go_upto_region 7 with fail
    rw [← hW4]
    clear hW4
    go_wp2_with fail
    go_quiet (fail)
    go_wp2
    go_ret3
    exact ⟨by first | rfl | rw [hc], below_drewP BX.out _⟩

set_option maxRecDepth 100000 in
set_option maxHeartbeats 8000000 in
theorem implPickCold_any (v vh : Value) (ns : List Ino) (ds : List Den) (hs : List Int) (w : World) (h : RdIm w v ns ds) (hw : ns.length ≤ 1048576) (hp : ds.length ≤ 1048576) (hr : ∀ k (h : k < ns.length), ns[k].R) (hsz : ∀ k (h : k < ds.length), ds[k].name.size ≤ maxLen) (hh : RdI w vh hs) (hn : hs.length ≤ 1048576) (hT : TS w) (hE : ED w) (hF : FD w) :
    Calls Tryz.prog 38 #[v, vh] w fun e w' => e = .returned (.tuple #[.int .i64 (pcR ns ds hs 1 false).1, .int .i64 (pcR ns ds hs 1 false).2.1, .int .i64 (pcR ns ds hs 1 false).2.2]) ∧ Below w.heap.size w w' := by
  have LT := hideIt (fun w1 (hb : Below w.heap.size w w1) => pickCold_any v vh ns ds hs w1 (h.below hb) hw hp hr hsz (Rd.below hh hb) hn (hT.below hb) (hE.below hb) (hF.below hb))
  obtain ⟨vW, vP, rfl, h1, h2⟩ := h
  obtain ⟨aW, cW, rfl, _, _⟩ := h1.shape
  obtain ⟨aP, cP, rfl, _, _⟩ := h2.shape
  obtain ⟨aH, cH, rfl, _, _⟩ := hh.shape
  clear h1 h2 hh hr hsz hT hE hF
  obtain ⟨W, hW⟩ : ∃ W, W = w.alloc (.cells #[.slice aW ns.length cW, .slice aP ds.length cP] 26) := ⟨_, rfl⟩
  have BW : Hid (Below w.heap.size w W) := by rw [hW]; exact (Below.refl _ _).alloc (Nat.le_refl _) _
  obtain ⟨x0, x1, -, -⟩ := two_cells (at_new (w := w) (o := .cells #[.slice aW ns.length cW, .slice aP ds.length cP] 26) rfl)
  generalize pcR ns ds hs 1 false = res at *
  go_enter Tryz.func38, Tryz.ntmps38
  go_wp2_with fail
  rw [← hW]
  clear hW x0 x1
  refine (LT.out _ BW.out).mono ?_
  rintro e w1 ⟨rfl, hb1⟩
  have B1 := hideIt (below_trans BW.out hb1 BW.out.size)
  clear hb1
  go_wp2
  go_ret3
  exact ⟨rfl, B1.out⟩

set_option maxRecDepth 100000 in
set_option maxHeartbeats 8000000 in
theorem pickHot_any (v vh : Value) (ns : List Ino) (ds : List Den) (hs : List Int) (w : World) (h : RdIm w v ns ds) (hw : ns.length ≤ 1048576) (hp : ds.length ≤ 1048576) (hr : ∀ k (h : k < ns.length), ns[k].R) (hsz : ∀ k (h : k < ds.length), ds[k].name.size ≤ maxLen) (hh : RdI w vh hs) (hn : hs.length ≤ 1048576) (hT : TS w) (hE : ED w) (hF : FD w) :
    Calls Tryz.prog 91 #[v, vh, .int .i64 2, .func (.func 93) #[] #[]] w fun e w' => e = .returned (.tuple #[.int .i64 (pcR ns ds hs 2 true).1, .int .i64 (pcR ns ds hs 2 true).2.1, .int .i64 (pcR ns ds hs 2 true).2.2]) ∧ Below w.heap.size w w' := by
  have LI := hideIt (fun w1 (hb : Below w.heap.size w w1) => implImageOK_any v ns ds w1 (h.below hb) hw hp (hT.below hb) (hE.below hb) (hF.below hb) hr hsz)
  have LH := hideIt (fun w1 (hb : Below w.heap.size w w1) => heatFault_any vh hs w1 (Rd.below hh hb) hn)
  have LP := hideIt (fun w1 (hb : Below w.heap.size w w1) (c1 : imgB ns ds = true) (c2 : heatB hs = true) => pagesOfTier_any v vh ns ds hs 2 w1 (h.below hb) c1 (Rd.below hh hb) c2 (.inr rfl) (hT.below hb))
  have LC := hideIt (fun w1 v1 (hr : RdM w1 v1 (wpL ns hs 2 128)) => chooseHot_any v1 (wpL ns hs 2 128) w1 hr (wpL_len ns hs 2 128))
  have WAYS := hideIt (pc_ways ns ds hs 2 true)
  have TOLD := hideIt (fun c1 c2 => pick_told ns ds hs 2 true c1 c2)
  obtain ⟨vW, vP, rfl, h1, h2⟩ := h
  obtain ⟨aW, cW, rfl, _, _⟩ := h1.shape
  obtain ⟨aP, cP, rfl, _, _⟩ := h2.shape
  obtain ⟨aH, cH, rfl, _, _⟩ := hh.shape
  clear h1 h2 hh hr hsz hT hE hF
  obtain ⟨W, hW⟩ : ∃ W, W = w.alloc (.cells #[.slice aW ns.length cW, .slice aP ds.length cP] 26) := ⟨_, rfl⟩
  have CA : Hid (∀ w', Below W.heap.size W w' → w'.cell? ⟨w.heap.size, 0, none⟩ = some (.slice aW ns.length cW) ∧ w'.cell? ⟨w.heap.size, 1, none⟩ = some (.slice aP ds.length cP)) := fun w' hb => by
    have : w'.heap[w.heap.size]? = some (.cells #[.slice aW ns.length cW, .slice aP ds.length cP] 26 (0, 0)) := (hb.block _ (by rw [hW]; simp)).trans (by rw [hW]; exact at_new rfl)
    exact ⟨(two_cells this).1, (two_cells this).2.1⟩
  have BW : Hid (Below w.heap.size w W) := by rw [hW]; exact (Below.refl _ _).alloc (Nat.le_refl _) _
  generalize pcR ns ds hs 2 true = res at *
  generalize wpL ns hs 2 128 = L at *
  generalize hfI hs = hf at *
  go_enter Tryz.func91, Tryz.ntmps91
  go_wp2_with fail
  rw [← hW]
  clear hW
  refine (LH.out _ BW.out).mono ?_
  rintro e w' ⟨rfl, hw'⟩
  subst w'
  clear LH
  rcases WAYS.out with ⟨c, e⟩ | ⟨c, c2, e⟩ | ⟨c, c2, c3⟩
  · obtain rfl := e
    have q : (hf != 0) = true := by rw [bne_iff_ne]; exact c
    clear WAYS LI LP LC TOLD
    go_wp2
    go_ret3
    exact ⟨rfl, BW.out⟩
  · obtain rfl := e
    subst c
    obtain ⟨x0, x1⟩ := CA.out _ (Below.refl _ _)
    rw [c2] at LI
    clear WAYS LP LC TOLD
    go_wp2_with fail
    refine (LI.out _ BW.out).mono ?_
    rintro e w1 ⟨rfl, hb1⟩
    have B1 := hideIt (below_trans BW.out hb1 BW.out.size)
    clear hb1 x0 x1
    go_wp2
    go_ret3
    exact ⟨rfl, B1.out⟩
  subst c
  have E := hideIt (TOLD.out c2 c3)
  have LP1 := hideIt (fun w1 hb => LP.out w1 hb c2 c3)
  rw [c2] at LI
  obtain ⟨x0, x1⟩ := CA.out _ (Below.refl _ _)
  clear WAYS TOLD LP c2 c3
  go_wp2_with fail
  refine (LI.out _ BW.out).mono ?_
  rintro e w1 ⟨rfl, hb1⟩
  have A1 := hideIt hb1
  have B1 := hideIt (below_trans BW.out hb1 BW.out.size)
  clear hb1 x0 x1
  obtain ⟨x0, x1⟩ := CA.out _ A1.out
  go_wp2_with fail
  refine (LP1.out _ B1.out).mono ?_
  rintro e w2 ⟨v2, rfl, hr2, hb2⟩
  have B2 := hideIt (below_trans B1.out hb2 B1.out.size)
  have R2 : Hid (RdM w2 v2 L) := hr2.rd
  obtain ⟨-, a2, k2, hv2, -⟩ := hr2.rd
  subst hv2
  clear hr2 hb2 LP1 x0 x1
  go_wp2_with fail
  refine (LC.out _ _ R2.out).mono ?_
  rintro e w3 ⟨rfl, hb3⟩
  have B3 := hideIt (below_trans B2.out hb3 B2.out.size)
  clear hb3 LC R2
  by_cases cl : L = []
  · rw [if_pos cl] at E
    obtain rfl := E.out
    subst cl
    have BX : Hid (Below w.heap.size w (w3.alloc (.cells #[.int .i64 (chO true ([] : List Mi)).kind, .int .i64 (chO true ([] : List Mi)).at_, .int .i64 (chO true ([] : List Mi)).val] 167))) := B3.out.alloc B3.out.size _
    clear E
    go_wp2
    go_ret3
    exact ⟨rfl, BX.out⟩
  · rw [if_neg cl] at E
    obtain rfl := E.out
    have q : decide (0 < L.length) = true := decide_eq_true (List.length_pos_iff.2 cl)
    rw [q]
    generalize hc : chO true L = c at *
    clear E q cl
    obtain ⟨W4, hW4⟩ : ∃ W4, W4 = w3.alloc (.cells #[.int .i64 c.kind, .int .i64 c.at_, .int .i64 c.val] 167) := ⟨_, rfl⟩
    have BX : Hid (Below w.heap.size w W4) := by rw [hW4]; exact B3.out.alloc B3.out.size _
    obtain ⟨x0, x1, x2⟩ := wp_cell (show W4.heap[w3.heap.size]? = some (.cells #[.int .i64 c.kind, .int .i64 c.at_, .int .i64 c.val] 167 (0, 0)) by rw [hW4]; exact at_new rfl)
    go_upto_region 7 with fail
    rw [← hW4]
    clear hW4
    go_wp2_with fail
    go_quiet (fail)
    go_wp2
    go_ret3
    exact ⟨by first | rfl | rw [hc], below_drewP BX.out _⟩

set_option maxRecDepth 100000 in
set_option maxHeartbeats 8000000 in
theorem implPickHot_any (v vh : Value) (ns : List Ino) (ds : List Den) (hs : List Int) (w : World) (h : RdIm w v ns ds) (hw : ns.length ≤ 1048576) (hp : ds.length ≤ 1048576) (hr : ∀ k (h : k < ns.length), ns[k].R) (hsz : ∀ k (h : k < ds.length), ds[k].name.size ≤ maxLen) (hh : RdI w vh hs) (hn : hs.length ≤ 1048576) (hT : TS w) (hE : ED w) (hF : FD w) :
    Calls Tryz.prog 39 #[v, vh] w fun e w' => e = .returned (.tuple #[.int .i64 (pcR ns ds hs 2 true).1, .int .i64 (pcR ns ds hs 2 true).2.1, .int .i64 (pcR ns ds hs 2 true).2.2]) ∧ Below w.heap.size w w' := by
  have LT := hideIt (fun w1 (hb : Below w.heap.size w w1) => pickHot_any v vh ns ds hs w1 (h.below hb) hw hp hr hsz (Rd.below hh hb) hn (hT.below hb) (hE.below hb) (hF.below hb))
  obtain ⟨vW, vP, rfl, h1, h2⟩ := h
  obtain ⟨aW, cW, rfl, _, _⟩ := h1.shape
  obtain ⟨aP, cP, rfl, _, _⟩ := h2.shape
  obtain ⟨aH, cH, rfl, _, _⟩ := hh.shape
  clear h1 h2 hh hr hsz hT hE hF
  obtain ⟨W, hW⟩ : ∃ W, W = w.alloc (.cells #[.slice aW ns.length cW, .slice aP ds.length cP] 26) := ⟨_, rfl⟩
  have BW : Hid (Below w.heap.size w W) := by rw [hW]; exact (Below.refl _ _).alloc (Nat.le_refl _) _
  obtain ⟨x0, x1, -, -⟩ := two_cells (at_new (w := w) (o := .cells #[.slice aW ns.length cW, .slice aP ds.length cP] 26) rfl)
  generalize pcR ns ds hs 2 true = res at *
  go_enter Tryz.func39, Tryz.ntmps39
  go_wp2_with fail
  rw [← hW]
  clear hW x0 x1
  refine (LT.out _ BW.out).mono ?_
  rintro e w1 ⟨rfl, hb1⟩
  have B1 := hideIt (below_trans BW.out hb1 BW.out.size)
  clear hb1
  go_wp2
  go_ret3
  exact ⟨rfl, B1.out⟩
end Go.Proofs.YtlgghookekokaaaGreatDoor
