/- A page is written: by the model. -/
import Derived.Test.YtgnfbiohjdepcaaGreatDoorDtG
import Derived.Test.YtgnfbiohjdepcaaGreatDoorJrJ
import Derived.Test.YtgnfbiohjdepcaaGreatDoorIgJ
namespace Go.Proofs.YtgnfbiohjdepcaaGreatDoor
open Go.RowKit
def MiOut (w w' : World) (e : Ending) (r : List Mi × Int) : Prop := ∃ v', e = .returned (.tuple #[v', .int .i64 r.2]) ∧ Row w' 91 3 w.heap.size w'.heap.size v' r.1.length (mis r.1) ∧ Below w.heap.size w w'
theorem mi_none {w w1 : World} {n : Nat} {c : Int} (B : Below w.heap.size w w1) (e : n = w1.heap.size) : MiOut w (w1.alloc (.cells #[] 91)) (.returned (.tuple #[.slice (some ⟨n, 0, none⟩) 0 0, .int .i64 c])) ([], c) := by
  subst e
  exact ⟨_, rfl, (row_none w1 _ _).wide B.size (Nat.le_refl _), B.alloc B.size _⟩
structure MiI (W w : World) (vL : Value) (ls : List Mi) : Prop where
  l : w.ownsRow W.heap.size 91 3 vL ls.length (mis ls)
  b : Below W.heap.size W w
theorem MiI.z {W w : World} {vL : Value} {ls : List Mi} (h : MiI W w vL ls) : W.heap.size ≤ w.heap.size := h.b.size
theorem MiI.below {W w w' : World} {vL : Value} {ls : List Mi} (h : MiI W w vL ls) (hb : Below w.heap.size w w') : MiI W w' vL ls :=
  ⟨((own_block h.l).below hb (Nat.le_refl _)).1, below_trans h.b hb h.z⟩
theorem MiI.grow {W w w' : World} {vL v' : Value} {ls : List Mi} (h : MiI W w vL ls) (ms : List Mi) (ho : w'.ownsRow W.heap.size 91 3 v' (ls.length + ms.length) (mis ls ++ mis ms)) (hg : w.grownBy w' vL.ownBlock) : MiI W w' v' (ls ++ ms) :=
  ⟨by rw [mis_append, List.length_append]; exact ho, h.b.grown hg h.z (fun q hq => (h.l.lt q hq).1)⟩
theorem up_mi : (119 : Nat) ≠ 91 := by decide
structure WrI (W w : World) (vL vU : Value) (ls : List Mi) (us : List Se) : Prop where
  l : w.ownsRow W.heap.size 91 3 vL ls.length (mis ls)
  u : w.ownsRow W.heap.size 119 2 vU us.length (ses us)
  b : Below W.heap.size W w
theorem WrI.z {W w : World} {vL vU : Value} {ls : List Mi} {us : List Se} (h : WrI W w vL vU ls us) : W.heap.size ≤ w.heap.size := h.b.size
theorem WrI.mi {W w : World} {vL vU : Value} {ls : List Mi} {us : List Se} (h : WrI W w vL vU ls us) : MiI W w vL ls := ⟨h.l, h.b⟩
theorem WrI.below {W w w' : World} {vL vU : Value} {ls : List Mi} {us : List Se} (h : WrI W w vL vU ls us) (hb : Below w.heap.size w w') : WrI W w' vL vU ls us :=
  ⟨((own_block h.l).below hb (Nat.le_refl _)).1, ((own_block h.u).below hb (Nat.le_refl _)).1, below_trans h.b hb h.z⟩
theorem WrI.growU {W w w' : World} {vL vU v' : Value} {ls : List Mi} {us : List Se} (h : WrI W w vL vU ls us) (ms : List Se) (ho : w'.ownsRow W.heap.size 119 2 v' (us.length + ms.length) (ses us ++ ses ms)) (hg : w.grownBy w' vU.ownBlock) : WrI W w' vL v' ls (us ++ ms) :=
  ⟨(Row.apart (own_block h.l) (own_block h.u) (Ne.symm up_mi) hg).1, by rw [ses_app, List.length_append]; exact ho, h.b.grown hg h.z (fun q hq => (h.u.lt q hq).1)⟩
theorem wrU_len (i page size e : Int) : (wrU i page size e).length ≤ 2 := by
  unfold wrU
  split <;> simp
theorem wrU_at {i : Nat} {p : Nat} (hi : i < 16) (hp : p < 8) (size e : Int) : ∀ k (h : k < (wrU (i : Int) (p : Int) size e).length), 0 ≤ (wrU (i : Int) (p : Int) size e)[k].at_ ∧ (wrU (i : Int) (p : Int) size e)[k].at_ < 336 := by
  intro k h
  have m := List.getElem_mem h
  revert m
  generalize (wrU (i : Int) (p : Int) size e)[k] = u
  unfold wrU
  intro m
  rcases List.mem_cons.1 m with rfl | m
  · exact ⟨by show 0 ≤ 48 + 12 * (i : Int) + (3 + (p : Int)); omega, by show 48 + 12 * (i : Int) + (3 + (p : Int)) < 336; omega⟩
  · split at m
    · rw [List.mem_singleton.1 m]
      exact ⟨by show 0 ≤ 48 + 12 * (i : Int) + 1; omega, by show 48 + 12 * (i : Int) + 1 < 336; omega⟩
    · cases m
set_option maxRecDepth 100000 in
set_option maxHeartbeats 16000000 in
theorem l08Write_any (v : Value) (ns : List Ino) (ds : List Den) (s : ByteArray) (page x : Int) (w : World) (h : RdIm w v ns ds) (hi : imgB ns ds = true) (hs : s.size ≤ 65536) :
    Calls Tryz.prog 33 #[v, .string s, .int .i64 page, .int .i64 x] w fun e w' => MiOut w w' e (wrI ns ds s page x) := by
  have LL := hideIt (fun w1 (hb : Below w.heap.size w w1) => l08File_any v ns ds s w1 (h.below hb) hi hs)
  have EL := hideIt (show wrI ns ds s page x = if (flI ns ds s).2 = 0 then wrF ns (flI ns ds s).1 page x else ([], (flI ns ds s).2) from rfl)
  have LO := hideIt (fun c => fl_file (s := s) (img_iff.1 hi) c)
  obtain ⟨l16, l24, _⟩ := pimg_all hi
  have TR : ∀ k (h : k < ns.length), ∀ z ∈ ns[k].map, 0 ≤ z ∧ z ≤ 1048576 := fun k hk z hz => by
    have t := (ino_ties ((img_iff.1 hi).ok k (by omega))).1 z (by rw [inoAt_of hk]; exact hz)
    unfold tieB addrB at t
    rw [Bool.and_eq_true, decide_eq_true_eq, decide_eq_true_eq] at t
    omega
  have LF1 : Hid (∀ w1, Below w.heap.size w w1 → Calls Tryz.prog 66 #[v, .int .i64 1, .int .i64 24] w1 fun e w' => e = .returned (.int .i64 (fpI ns)) ∧ Below w1.heap.size w1 w') := fun w1 hb => l05Free_any v ns ds 1 24 w1 (h.below hb) (by omega) TR (by omega)
  have LF2 : Hid (∀ w1, Below w.heap.size w w1 → Calls Tryz.prog 66 #[v, .int .i64 2, .int .i64 32] w1 fun e w' => e = .returned (.int .i64 (fsI ns)) ∧ Below w1.heap.size w1 w') := fun w1 hb => l05Free_any v ns ds 2 32 w1 (h.below hb) (by omega) TR (by omega)
  have L16 := hideIt l16
  have F1 : Hid (0 ≤ fpI ns → ∃ k : Nat, k < 24 ∧ fpI ns = (k : Int)) := fun c => by
    obtain ⟨k, a, b, -⟩ := first_some c
    exact ⟨k, a, b⟩
  have F2 : Hid (0 ≤ fsI ns → ∃ k : Nat, k < 32 ∧ fsI ns = (k : Int)) := fun c => by
    obtain ⟨k, a, b, -⟩ := first_some c
    exact ⟨k, a, b⟩
  have EF := hideIt (fun i => show wrF ns i page x = if (0 ≤ page ∧ page < 8) ∧ wordB x = true then (if fpI ns < 0 ∧ fsI ns < 0 then ([], 7) else ((if 0 ≤ fpI ns then ⟨1, 312 + fpI ns, x⟩ :: flushL [312 + fpI ns] else [⟨4, fsI ns, x⟩, ⟨5, 0, 0⟩]) ++ planL (upsL (wrU i page (sizeAt ns i) (if 0 ≤ fpI ns then 4 * fpI ns + 1 else 4 * fsI ns + 2))), 0)) else ([], 4) from rfl)
  obtain ⟨vW, vP, rfl, h1, h2⟩ := h
  obtain ⟨aW, cW, rfl, _, hcW⟩ := h1.shape
  obtain ⟨aP, cP, rfl, _, hcP⟩ := h2.shape
  obtain ⟨bW, oW, rfl, hblW, hcellW⟩ := hcW (by omega)
  have HM : Hid (∀ k, k < 16 → ∀ w', Below w.heap.size w w' → w'.cell? ⟨bW, oW + k * 11 + 1, none⟩ = some (.int .i64 (sizeAt ns (k : Int)))) := fun k hk w' hb => by
    unfold sizeAt
    rw [Int.toNat_natCast, inoAt_of (by omega : k < ns.length)]
    exact (hb.cell (p := ⟨bW, oW + k * 11 + 1, none⟩) hblW).trans (hcellW k (by omega)).2.1
  clear h1 h2 hi hs hcW hcP hcellW l16 l24 TR
  obtain ⟨W, hW⟩ : ∃ W, W = w.alloc (.cells #[.slice (some ⟨bW, oW, none⟩) ns.length cW, .slice aP ds.length cP] 62) := ⟨_, rfl⟩
  have CA : Hid (∀ w', Below W.heap.size W w' → w'.cell? ⟨w.heap.size, 0, none⟩ = some (.slice (some ⟨bW, oW, none⟩) ns.length cW) ∧ w'.cell? ⟨w.heap.size, 1, none⟩ = some (.slice aP ds.length cP)) := fun w' hb => by
    have : w'.heap[w.heap.size]? = some (.cells #[.slice (some ⟨bW, oW, none⟩) ns.length cW, .slice aP ds.length cP] 62 (0, 0)) := (hb.block _ (by rw [hW]; simp)).trans (by rw [hW]; exact at_new rfl)
    exact ⟨(two_cells this).1, (two_cells this).2.1⟩
  have BW : Hid (Below w.heap.size w W) := by rw [hW]; exact (Below.refl _ _).alloc (Nat.le_refl _) _
  obtain ⟨x0, x1⟩ := CA.out _ (Below.refl _ _)
  have hz : w.heap.size < W.heap.size := by rw [hW]; simp
  generalize wrI ns ds s page x = res at *
  generalize flI ns ds s = lr at *
  obtain ⟨li, lc⟩ := lr
  simp only at EL LO LL
  go_enter Tryz.func33, Tryz.ntmps33
  go_wp2_with fail
  rw [← hW]
  clear hW x0 x1
  refine (LL.out _ BW.out).mono ?_
  rintro e w1 ⟨rfl, hb1⟩
  have A1 := hideIt hb1
  have B1 := hideIt (below_trans BW.out A1.out BW.out.size)
  clear hb1 LL
  by_cases c : lc = 0
  case neg =>
    rw [if_neg c] at EL
    obtain rfl := EL.out
    have q : (lc != 0) = true := by rw [bne_iff_ne]; exact c
    clear EL LO c
    go_wp2
    go_ret2
    exact mi_none B1.out rfl
  subst c
  rw [if_pos rfl] at EL
  obtain ⟨i, i16, ei, -⟩ := LO.out rfl
  subst ei
  rw [EF.out] at EL
  have HS := hideIt (HM.out i i16)
  have i1 : i < ns.length := by have := L16.out; omega
  have i0 : (0 : Int) ≤ (i : Int) := by omega
  have il : (i : Int) < (ns.length : Int) := by omega
  have ir : 0 ≤ (i : Int) ∧ (i : Int) < 16 := by omega
  clear HM EF LO L16
  generalize sizeAt ns (i : Int) = sz at *
  by_cases c : 0 ≤ page ∧ page < 8
  case neg =>
    rw [if_neg (fun q => c q.1)] at EL
    obtain rfl := EL.out
    clear EL
    go_wp2_with fail
    refine (l01In_no _ _ _ _ (by omega)).mono ?_
    rintro e w' ⟨rfl, hw'⟩
    subst w'
    go_wp2
    go_ret2
    exact mi_none B1.out rfl
  obtain ⟨p, rfl⟩ : ∃ p : Nat, page = (p : Int) := ⟨page.toNat, by omega⟩
  have p8 : p < 8 := by omega
  go_wp2_with fail
  refine (l01In_yes _ _ _ _ (by omega)).mono ?_
  rintro e w' ⟨rfl, hw'⟩
  subst w'
  go_wp2_with fail
  refine (l01Word_any _ _).mono ?_
  rintro e w' ⟨rfl, hw'⟩
  subst w'
  cases cx : wordB x with
  | false =>
    rw [if_neg (fun q => by rw [cx] at q; cases q.2)] at EL
    obtain rfl := EL.out
    clear EL
    go_wp2
    go_ret2
    exact mi_none B1.out rfl
  | true =>
  rw [if_pos ⟨c, cx⟩] at EL
  clear c cx
  have EW : Hid ((sz ≤ (p : Int) → ∀ E, wrU (i : Int) (p : Int) sz E = [⟨48 + 12 * (i : Int) + (3 + (p : Int)), E⟩] ++ [⟨48 + 12 * (i : Int) + 1, (p : Int) + 1⟩]) ∧ (¬ sz ≤ (p : Int) → ∀ E, wrU (i : Int) (p : Int) sz E = [⟨48 + 12 * (i : Int) + (3 + (p : Int)), E⟩])) :=
    ⟨fun q E => by unfold wrU; rw [if_pos q]; rfl, fun q E => by unfold wrU; rw [if_neg q]⟩
  have LPl0 := hideIt (fun E v w1 (h : RdE w1 v (wrU (i : Int) (p : Int) sz E)) => l04Plan_any v (wrU (i : Int) (p : Int) sz E) w1 h (by have := wrU_len (i : Int) (p : Int) sz E; omega) (wrU_at i16 p8 sz E))
  have PN0 := hideIt (fun E => Nat.le_trans (planL_len (wrU (i : Int) (p : Int) sz E)) (show 6 * (wrU (i : Int) (p : Int) sz E).length + 8 ≤ 20 by have := wrU_len (i : Int) (p : Int) sz E; omega))
  have M0 : Hid (MiI W (w1.alloc (.cells #[] 91)) (.slice (some ⟨w1.heap.size, 0, none⟩) 0 0) []) := ⟨((row_none w1 91 3).wide A1.out.size (Nat.le_refl _)).1, A1.out.alloc A1.out.size _⟩
  obtain ⟨x0, x1⟩ := CA.out _ M0.out.b
  have B2 := hideIt (below_trans BW.out M0.out.b BW.out.size)
  go_wp2_with fail
  obtain ⟨w2, hw2⟩ : ∃ w2, w2 = w1.alloc (.cells #[] 91) := ⟨_, rfl⟩
  rw [← hw2] at M0 B2 x0 x1 ⊢
  clear hw2
  refine (LF1.out _ B2.out).mono ?_
  rintro e w3 ⟨rfl, hb3⟩
  have M3 := hideIt (M0.out.below hb3)
  have B3 := hideIt (below_trans BW.out M3.out.b BW.out.size)
  clear hb3 M0 x0 x1 B2 A1 B1 LF1
  generalize fpI ns = fp at *
  generalize fsI ns = fs at *
  by_cases c : 0 ≤ fp
  · rw [if_neg (fun q => by omega), if_pos c, if_pos c] at EL
    obtain ⟨k, k24, ek⟩ := F1.out c
    subst ek
    have c' : (k : Int) ≥ 0 := c
    clear F1 F2 LF2
    have kr : 0 ≤ (k : Int) ∧ (k : Int) < 32 := by omega
    go_wp2_with fail
    refine (l04Store_any _ _ _).mono ?_
    rintro e w4 ⟨rfl, hb4⟩
    have M4 := hideIt ((M3.out.below hb4).below ((Below.refl _ _).alloc (Nat.le_refl _) (.cells #[.int .i64 1, .int .i64 (312 + (k : Int)), .int .i64 x] 91)))
    have R4 := hideIt (rd_mic w4 1 (312 + (k : Int)) x)
    have hz4 := M4.out.z
    clear hb4 M3
    go_wp2_with (at_builtin; refine wpList_append_rd _ rfl (.tmp 41) (.tmp 46) 45 rfl W.heap.size 91 (.agg #[.int .i64 0, .int .i64 0, .int .i64 0]) 3 24 Tryz.underlying45 infoMic rfl (by decide) _ _ _ rfl M4.out.l _ 1 _ rfl R4.out (mic_one _) (by first | omega | (simp [maxLen]; done) | (simp [maxLen]; omega)) (by first | omega | (simp; done) | (simp; omega)) hz4 ?_)
    intro v5 w5 hown5 hgr5
    have M5 := hideIt (M4.out.grow [⟨1, 312 + (k : Int), x⟩] (by rw [mis_one_]; exact hown5) hgr5)
    have M6 := hideIt (M5.out.below ((Below.refl _ _).alloc (Nat.le_refl _) (.cells #[.int .i64 (312 + (k : Int))] 3)))
    have R6 := hideIt (rd_oneJ w5 (312 + (k : Int)))
    clear hown5 hgr5 M4 R4 M5
    go_wp2_with fail
    refine (l04Flush_any _ [312 + (k : Int)] _ R6.out (by simp) (by intro j h; simp at h; subst h; simp; omega)).mono ?_
    rintro e w7 ⟨v7, rfl, hr7, hb7⟩
    have M7 := hideIt (M6.out.below hb7)
    have R7 := hideIt hr7.rd
    have hz7 := M7.out.z
    have l7 : (flushL [312 + (k : Int)]).length ≤ 2 := flushL_len [312 + (k : Int)]
    have EX : Hid ((⟨1, 312 + (k : Int), x⟩ : Mi) :: flushL [312 + (k : Int)] = ([] ++ [⟨1, 312 + (k : Int), x⟩]) ++ flushL [312 + (k : Int)]) := rfl
    rw [EX.out] at EL
    clear hr7 hb7 M6 R6 EX
    generalize flushL [312 + (k : Int)] = FL at *
    go_wp2_with (at_builtin; refine wpList_append_rd _ rfl (.tmp 48) (.tmp 52) 45 rfl W.heap.size 91 (.agg #[.int .i64 0, .int .i64 0, .int .i64 0]) 3 24 Tryz.underlying45 infoMic rfl (by decide) _ _ _ rfl M7.out.l _ _ _ rfl R7.out (mis_one _) (by first | omega | (simp [maxLen]; done) | (simp [maxLen]; omega)) (by first | omega | (simp; done) | (simp; omega)) hz7 ?_)
    intro vT wT hownT hgrT
    have M := hideIt (M7.out.grow FL hownT hgrT)
    have lT : (([] ++ [(⟨1, 312 + (k : Int), x⟩ : Mi)]) ++ FL).length ≤ 3 := by simp; omega
    generalize ([] ++ [(⟨1, 312 + (k : Int), x⟩ : Mi)]) ++ FL = L at *
    clear hownT hgrT M7 R7
    go_wp2_with fail
    refine (l03Entry_any _ _ _ (by omega) kr).mono ?_
    rintro e w' ⟨rfl, hw'⟩
    subst w'
    have LPl := hideIt (LPl0.out (4 * (k : Int) + 1))
    have PN := PN0.out (4 * (k : Int) + 1)
    have EW := hideIt (And.intro (fun q => EW.out.1 q (4 * (k : Int) + 1)) (fun q => EW.out.2 q (4 * (k : Int) + 1)))
    generalize 4 * (k : Int) + 1 = E at *
    generalize planL (upsL (wrU (i : Int) (p : Int) sz E)) = PL at *
    clear LPl0 PN0
    have SU : Hid (WrI W (wT.alloc (.cells #[.int .i64 (48 + 12 * (i : Int) + (3 + (p : Int))), .int .i64 E] 119)) vT (.slice (some ⟨wT.heap.size, 0, none⟩) 1 1) L [⟨48 + 12 * (i : Int) + (3 + (p : Int)), E⟩]) :=
      ⟨((own_block M.out.l).below ((Below.refl _ _).alloc (Nat.le_refl _) _) (Nat.le_refl _)).1, World.ownsRow_lit wT _ 1 M.out.b.size (by simp [maxLen]) rfl, M.out.b.alloc M.out.b.size _⟩
    have pr : 0 ≤ 3 + (p : Int) ∧ 3 + (p : Int) < 11 := by omega
    go_wp2_with fail
    refine (l03Inode_any _ _ _ ir pr).mono ?_
    rintro e w' ⟨rfl, hw'⟩
    subst w'
    obtain ⟨x0, x1⟩ := CA.out _ SU.out.b
    have y0 := HS.out _ (below_trans BW.out SU.out.b BW.out.size)
    clear M
    by_cases cs : sz ≤ (p : Int)
    · have cs' : (p : Int) ≥ sz := cs
      have SV := hideIt (SU.out.below ((Below.refl _ _).alloc (Nat.le_refl _) (.cells #[.int .i64 (48 + 12 * (i : Int) + 1), .int .i64 ((p : Int) + 1)] 119)))
      have RV := hideIt (rd_upd (wT.alloc (.cells #[.int .i64 (48 + 12 * (i : Int) + (3 + (p : Int))), .int .i64 E] 119)) (48 + 12 * (i : Int) + 1) ((p : Int) + 1))
      have hzv := SV.out.z
      simp only [World.size_alloc] at RV
      go_wp2_with fail
      refine (l03Inode_any _ _ _ ir (by omega)).mono ?_
      rintro e w' ⟨rfl, hw'⟩
      subst w'
      clear SU
      go_wp2_with (at_builtin; refine wpList_append_rd _ rfl (.tmp 85) (.tmp 91) 86 rfl W.heap.size 119 (.agg #[.int .i64 0, .int .i64 0]) 2 16 Tryz.underlying86 infoUp rfl (by decide) _ _ _ rfl SV.out.u _ 1 _ rfl RV.out (ses_ones _) (by first | omega | (simp [maxLen])) (by first | omega | simp) hzv ?_)
      intro vU wU hownU hgrU
      have SW := hideIt (SV.out.growU [⟨48 + 12 * (i : Int) + 1, (p : Int) + 1⟩] hownU hgrU)
      obtain ⟨-, aU, kU, hvU, -⟩ := (own_block hownU).rd
      subst hvU
      clear hownU hgrU SV RV x0 x1 y0
      have EU := hideIt (EW.out.1 cs)
      have UL : Hid (([⟨48 + 12 * (i : Int) + (3 + (p : Int)), E⟩] ++ [⟨48 + 12 * (i : Int) + 1, (p : Int) + 1⟩] : List Se) = wrU (i : Int) (p : Int) sz E) := EU.out.symm
      rw [UL.out] at SW
      go_wp2_with fail
      refine (LPl.out _ _ (own_block SW.out.u).rd).mono ?_
      rintro e wP ⟨vP, rfl, hrP, hbP⟩
      have MP := hideIt ((SW.out.mi).below hbP)
      have RP := hideIt hrP.rd
      have hzp := MP.out.z
      clear hrP hbP SW
      go_wp2_with (at_builtin; refine wpList_append_rd _ rfl (.tmp 93) (.tmp 95) 45 rfl W.heap.size 91 (.agg #[.int .i64 0, .int .i64 0, .int .i64 0]) 3 24 Tryz.underlying45 infoMic rfl (by decide) _ _ _ rfl MP.out.l _ _ _ rfl RP.out (mis_one _) (by first | omega | (simp [maxLen]; done) | (simp [maxLen]; omega)) (by first | omega | (simp; done) | (simp; omega)) hzp ?_)
      intro vN wN hownN hgrN
      have G := hideIt (MP.out.grow _ hownN hgrN)
      obtain ⟨-, aN, kN, hvN, -⟩ := (own_block hownN).rd
      subst hvN
      obtain rfl := EL.out
      clear hownN hgrN MP RP
      go_wp2
      go_ret2
      exact ⟨_, rfl, (own_block G.out.l).wide (by have := BW.out.size; omega) (Nat.le_refl _), below_trans BW.out G.out.b BW.out.size⟩
    · have cs' : ¬ (p : Int) ≥ sz := cs
      have SW := SU
      have EU := hideIt (EW.out.2 (by omega))
      have UL : Hid (([⟨48 + 12 * (i : Int) + (3 + (p : Int)), E⟩] : List Se) = wrU (i : Int) (p : Int) sz E) := EU.out.symm
      rw [UL.out] at SW
      clear SU
      go_wp2_with fail
      refine (LPl.out _ _ (own_block SW.out.u).rd).mono ?_
      rintro e wP ⟨vP, rfl, hrP, hbP⟩
      have MP := hideIt ((SW.out.mi).below hbP)
      have RP := hideIt hrP.rd
      have hzp := MP.out.z
      clear hrP hbP SW
      go_wp2_with (at_builtin; refine wpList_append_rd _ rfl (.tmp 93) (.tmp 95) 45 rfl W.heap.size 91 (.agg #[.int .i64 0, .int .i64 0, .int .i64 0]) 3 24 Tryz.underlying45 infoMic rfl (by decide) _ _ _ rfl MP.out.l _ _ _ rfl RP.out (mis_one _) (by first | omega | (simp [maxLen]; done) | (simp [maxLen]; omega)) (by first | omega | (simp; done) | (simp; omega)) hzp ?_)
      intro vN wN hownN hgrN
      have G := hideIt (MP.out.grow _ hownN hgrN)
      obtain ⟨-, aN, kN, hvN, -⟩ := (own_block hownN).rd
      subst hvN
      obtain rfl := EL.out
      clear hownN hgrN MP RP
      go_wp2
      go_ret2
      exact ⟨_, rfl, (own_block G.out.l).wide (by have := BW.out.size; omega) (Nat.le_refl _), below_trans BW.out G.out.b BW.out.size⟩
  · have c' : ¬ fp ≥ 0 := c
    obtain ⟨x0, x1⟩ := CA.out _ M3.out.b
    go_wp2_with fail
    refine (LF2.out _ B3.out).mono ?_
    rintro e w4 ⟨rfl, hb4⟩
    have M4 := hideIt (M3.out.below hb4)
    have B4 := hideIt (below_trans BW.out M4.out.b BW.out.size)
    clear hb4 M3 x0 x1 B3 LF2
    by_cases d : 0 ≤ fs
    case neg =>
      have d' : ¬ fs ≥ 0 := d
      rw [if_pos ⟨by omega, by omega⟩] at EL
      obtain rfl := EL.out
      clear EL
      go_wp2
      go_ret2
      exact mi_none B4.out rfl
    rw [if_neg (fun q => by omega), if_neg (by omega : ¬ 0 ≤ fp), if_neg (by omega : ¬ 0 ≤ fp)] at EL
    obtain ⟨k, k32, ek⟩ := F2.out d
    subst ek
    have d' : (k : Int) ≥ 0 := d
    clear F1 F2
    have kr : 0 ≤ (k : Int) ∧ (k : Int) < 32 := by omega
    have M5 := hideIt (M4.out.below ((Below.refl _ _).alloc (Nat.le_refl _) (.cells #[.int .i64 4, .int .i64 (k : Int), .int .i64 x, .int .i64 5, .int .i64 0, .int .i64 0] 91)))
    have R5 := hideIt (rd_mic2 w4 4 (k : Int) x 5 0 0)
    have hz5 := M5.out.z
    clear M4
    go_wp2_with (at_builtin; refine wpList_append_rd _ rfl (.tmp 60) (.tmp 65) 45 rfl W.heap.size 91 (.agg #[.int .i64 0, .int .i64 0, .int .i64 0]) 3 24 Tryz.underlying45 infoMic rfl (by decide) _ _ _ rfl M5.out.l _ 2 _ rfl R5.out (mis_one _) (by first | omega | (simp [maxLen]; done) | (simp [maxLen]; omega)) (by first | omega | (simp; done) | (simp; omega)) hz5 ?_)
    intro vT wT hownT hgrT
    have M := hideIt (M5.out.grow [⟨4, (k : Int), x⟩, ⟨5, 0, 0⟩] hownT hgrT)
    have EX : Hid ([(⟨4, (k : Int), x⟩ : Mi), ⟨5, 0, 0⟩] = [] ++ [⟨4, (k : Int), x⟩, ⟨5, 0, 0⟩]) := rfl
    rw [EX.out] at EL
    have lT : ([] ++ [(⟨4, (k : Int), x⟩ : Mi), ⟨5, 0, 0⟩]).length ≤ 3 := by simp
    generalize [] ++ [(⟨4, (k : Int), x⟩ : Mi), ⟨5, 0, 0⟩] = L at *
    clear hownT hgrT M5 R5 EX
    go_wp2_with fail
    refine (l03Entry_any _ _ _ (by omega) kr).mono ?_
    rintro e w' ⟨rfl, hw'⟩
    subst w'
    have LPl := hideIt (LPl0.out (4 * (k : Int) + 2))
    have PN := PN0.out (4 * (k : Int) + 2)
    have EW := hideIt (And.intro (fun q => EW.out.1 q (4 * (k : Int) + 2)) (fun q => EW.out.2 q (4 * (k : Int) + 2)))
    generalize 4 * (k : Int) + 2 = E at *
    generalize planL (upsL (wrU (i : Int) (p : Int) sz E)) = PL at *
    clear LPl0 PN0
    have SU : Hid (WrI W (wT.alloc (.cells #[.int .i64 (48 + 12 * (i : Int) + (3 + (p : Int))), .int .i64 E] 119)) vT (.slice (some ⟨wT.heap.size, 0, none⟩) 1 1) L [⟨48 + 12 * (i : Int) + (3 + (p : Int)), E⟩]) :=
      ⟨((own_block M.out.l).below ((Below.refl _ _).alloc (Nat.le_refl _) _) (Nat.le_refl _)).1, World.ownsRow_lit wT _ 1 M.out.b.size (by simp [maxLen]) rfl, M.out.b.alloc M.out.b.size _⟩
    have pr : 0 ≤ 3 + (p : Int) ∧ 3 + (p : Int) < 11 := by omega
    go_wp2_with fail
    refine (l03Inode_any _ _ _ ir pr).mono ?_
    rintro e w' ⟨rfl, hw'⟩
    subst w'
    obtain ⟨x0, x1⟩ := CA.out _ SU.out.b
    have y0 := HS.out _ (below_trans BW.out SU.out.b BW.out.size)
    clear M
    by_cases cs : sz ≤ (p : Int)
    · have cs' : (p : Int) ≥ sz := cs
      have SV := hideIt (SU.out.below ((Below.refl _ _).alloc (Nat.le_refl _) (.cells #[.int .i64 (48 + 12 * (i : Int) + 1), .int .i64 ((p : Int) + 1)] 119)))
      have RV := hideIt (rd_upd (wT.alloc (.cells #[.int .i64 (48 + 12 * (i : Int) + (3 + (p : Int))), .int .i64 E] 119)) (48 + 12 * (i : Int) + 1) ((p : Int) + 1))
      have hzv := SV.out.z
      simp only [World.size_alloc] at RV
      go_wp2_with fail
      refine (l03Inode_any _ _ _ ir (by omega)).mono ?_
      rintro e w' ⟨rfl, hw'⟩
      subst w'
      clear SU
      go_wp2_with (at_builtin; refine wpList_append_rd _ rfl (.tmp 85) (.tmp 91) 86 rfl W.heap.size 119 (.agg #[.int .i64 0, .int .i64 0]) 2 16 Tryz.underlying86 infoUp rfl (by decide) _ _ _ rfl SV.out.u _ 1 _ rfl RV.out (ses_ones _) (by first | omega | (simp [maxLen])) (by first | omega | simp) hzv ?_)
      intro vU wU hownU hgrU
      have SW := hideIt (SV.out.growU [⟨48 + 12 * (i : Int) + 1, (p : Int) + 1⟩] hownU hgrU)
      obtain ⟨-, aU, kU, hvU, -⟩ := (own_block hownU).rd
      subst hvU
      clear hownU hgrU SV RV x0 x1 y0
      have EU := hideIt (EW.out.1 cs)
      have UL : Hid (([⟨48 + 12 * (i : Int) + (3 + (p : Int)), E⟩] ++ [⟨48 + 12 * (i : Int) + 1, (p : Int) + 1⟩] : List Se) = wrU (i : Int) (p : Int) sz E) := EU.out.symm
      rw [UL.out] at SW
      go_wp2_with fail
      refine (LPl.out _ _ (own_block SW.out.u).rd).mono ?_
      rintro e wP ⟨vP, rfl, hrP, hbP⟩
      have MP := hideIt ((SW.out.mi).below hbP)
      have RP := hideIt hrP.rd
      have hzp := MP.out.z
      clear hrP hbP SW
      go_wp2_with (at_builtin; refine wpList_append_rd _ rfl (.tmp 93) (.tmp 95) 45 rfl W.heap.size 91 (.agg #[.int .i64 0, .int .i64 0, .int .i64 0]) 3 24 Tryz.underlying45 infoMic rfl (by decide) _ _ _ rfl MP.out.l _ _ _ rfl RP.out (mis_one _) (by first | omega | (simp [maxLen]; done) | (simp [maxLen]; omega)) (by first | omega | (simp; done) | (simp; omega)) hzp ?_)
      intro vN wN hownN hgrN
      have G := hideIt (MP.out.grow _ hownN hgrN)
      obtain ⟨-, aN, kN, hvN, -⟩ := (own_block hownN).rd
      subst hvN
      obtain rfl := EL.out
      clear hownN hgrN MP RP
      go_wp2
      go_ret2
      exact ⟨_, rfl, (own_block G.out.l).wide (by have := BW.out.size; omega) (Nat.le_refl _), below_trans BW.out G.out.b BW.out.size⟩
    · have cs' : ¬ (p : Int) ≥ sz := cs
      have SW := SU
      have EU := hideIt (EW.out.2 (by omega))
      have UL : Hid (([⟨48 + 12 * (i : Int) + (3 + (p : Int)), E⟩] : List Se) = wrU (i : Int) (p : Int) sz E) := EU.out.symm
      rw [UL.out] at SW
      clear SU
      go_wp2_with fail
      refine (LPl.out _ _ (own_block SW.out.u).rd).mono ?_
      rintro e wP ⟨vP, rfl, hrP, hbP⟩
      have MP := hideIt ((SW.out.mi).below hbP)
      have RP := hideIt hrP.rd
      have hzp := MP.out.z
      clear hrP hbP SW
      go_wp2_with (at_builtin; refine wpList_append_rd _ rfl (.tmp 93) (.tmp 95) 45 rfl W.heap.size 91 (.agg #[.int .i64 0, .int .i64 0, .int .i64 0]) 3 24 Tryz.underlying45 infoMic rfl (by decide) _ _ _ rfl MP.out.l _ _ _ rfl RP.out (mis_one _) (by first | omega | (simp [maxLen]; done) | (simp [maxLen]; omega)) (by first | omega | (simp; done) | (simp; omega)) hzp ?_)
      intro vN wN hownN hgrN
      have G := hideIt (MP.out.grow _ hownN hgrN)
      obtain ⟨-, aN, kN, hvN, -⟩ := (own_block hownN).rd
      subst hvN
      obtain rfl := EL.out
      clear hownN hgrN MP RP
      go_wp2
      go_ret2
      exact ⟨_, rfl, (own_block G.out.l).wide (by have := BW.out.size; omega) (Nat.le_refl _), below_trans BW.out G.out.b BW.out.size⟩
set_option maxRecDepth 100000 in
set_option maxHeartbeats 8000000 in
theorem specPlanWrite_any (v : Value) (ws : List Int) (ps : List St) (es : List Int) (qs : List Se) (s : ByteArray) (page x : Int) (w : World) (h : RdDev w v ws ps es qs) (hw : ws.length ≤ 1048576) (hp : ps.length ≤ 1048576) (he : es.length ≤ 1048576) (hq : qs.length ≤ 1048576) :
    Calls Tryz.prog 11 #[v, .string s, .int .i64 page, .int .i64 x] w fun e w' => MiOut w w' e (wrR ws ps es qs s page x) := by
  have LI := hideIt (fun w1 (hb : Below w.heap.size w w1) => l08Image_any v ws ps es qs w1 (h.below hb) hw hp he hq)
  have LR := hideIt (fun (d : dvB ws ps es qs = true) (hs : s.size ≤ 65536) v2 w1 (h2 : RdIm w1 v2 (dvN ws ps es qs) (dvD ws ps es qs)) => l08Write_any v2 (dvN ws ps es qs) (dvD ws ps es qs) s page x w1 h2 (by rw [(dv_yes d).2.2.1, (dv_yes d).2.2.2.1]; exact (dv_yes d).2.2.2.2) hs)
  have EL : Hid (wrR ws ps es qs s page x = if 65536 < s.size then ([], 2) else if dvB ws ps es qs = true then wrI (dvN ws ps es qs) (dvD ws ps es qs) s page x else ([], 1)) := by
    unfold Hid wrR
    by_cases c : 65536 < s.size
    · rw [if_pos c, if_pos c]
    · rw [if_neg c, if_neg c]
      by_cases d : dvB ws ps es qs = true
      · rw [if_pos d, if_pos d, (dv_yes d).2.2.1, (dv_yes d).2.2.2.1]
      · rw [if_neg d, if_neg d]
  obtain ⟨dW, eW, dP, eP, dS, eS, dQ, eQ, rfl, -, -⟩ := h.form
  clear h
  obtain ⟨W, hW⟩ : ∃ W, W = w.alloc (.cells #[.slice dW ws.length eW, .slice dP ps.length eP, .slice dS es.length eS, .slice dQ qs.length eQ] 41) := ⟨_, rfl⟩
  have CD : Hid (∀ w', Below W.heap.size W w' → w'.cell? ⟨w.heap.size, 0, none⟩ = some (.slice dW ws.length eW) ∧ w'.cell? ⟨w.heap.size, 1, none⟩ = some (.slice dP ps.length eP) ∧ w'.cell? ⟨w.heap.size, 2, none⟩ = some (.slice dS es.length eS) ∧ w'.cell? ⟨w.heap.size, 3, none⟩ = some (.slice dQ qs.length eQ)) := fun w' hb => by
    have : w'.heap[w.heap.size]? = some (.cells #[.slice dW ws.length eW, .slice dP ps.length eP, .slice dS es.length eS, .slice dQ qs.length eQ] 41 (0, 0)) := (hb.block _ (by rw [hW]; simp)).trans (by rw [hW]; exact at_new rfl)
    obtain ⟨x0, x1, x2, x3, -, -, -, -⟩ := four_cells this
    exact ⟨x0, x1, x2, x3⟩
  have BW : Hid (Below w.heap.size w W) := by rw [hW]; exact (Below.refl _ _).alloc (Nat.le_refl _) _
  obtain ⟨x0, x1, x2, x3⟩ := CD.out _ (Below.refl _ _)
  generalize dvB ws ps es qs = db at *
  generalize dvN ws ps es qs = dn at *
  generalize dvD ws ps es qs = dd at *
  generalize wrR ws ps es qs s page x = res at *
  generalize wrI dn dd s page x = ri at *
  by_cases c1 : 65536 < s.size
  · rw [if_pos c1] at EL
    have c2 : (s.size : Int) > 65536 := by omega
    obtain rfl := EL.out
    clear EL c1 LI LR
    subst hW
    go_enter Tryz.func11, Tryz.ntmps11
    go_wp2
    go_ret2
    exact mi_none BW.out (World.size_alloc _ _).symm
  rw [if_neg c1] at EL
  have c2 : ¬ (s.size : Int) > 65536 := by omega
  have LR2 := hideIt (fun d v2 w1 h2 => LR.out d (by omega) v2 w1 h2)
  clear LR c1
  go_enter Tryz.func11, Tryz.ntmps11
  go_wp2_with fail
  rw [← hW]
  clear hW
  refine (LI.out _ BW.out).mono ?_
  rintro e w1 ⟨v1, rfl, hR, hb1⟩
  have HR := hideIt hR
  obtain ⟨vI, vD, rfl, hI, hD⟩ := hR
  obtain ⟨-, a1, k1, hv1, -⟩ := hI.rd
  obtain ⟨-, a2, k2, hv2, -⟩ := hD.rd
  subst hv1
  subst hv2
  have A1 := hideIt hb1
  have B1 := hideIt (below_trans BW.out hb1 BW.out.size)
  have BC : Hid (Below w1.heap.size w1 (w1.alloc (.cells #[.slice a1 dn.length k1, .slice a2 dd.length k2] 62))) := (Below.refl _ _).alloc (Nat.le_refl _) _
  have B2 := hideIt (below_trans B1.out BC.out B1.out.size)
  have R2 := hideIt (HR.out.below BC.out (Nat.le_refl _)).rd
  obtain ⟨y0, y1, _, _⟩ := two_cells (at_new (w := w1) (o := .cells #[.slice a1 dn.length k1, .slice a2 dd.length k2] 62) rfl)
  clear hI hD hb1 HR x0 x1 x2 x3 BC
  cases db with
  | false =>
    obtain rfl := EL.out
    clear EL LR2
    go_wp2
    go_ret2
    exact mi_none B2.out (by simp)
  | true =>
    rw [if_pos rfl] at EL
    obtain rfl := EL.out
    have LR3 := hideIt (LR2.out rfl _ _ R2.out)
    clear EL LR2
    go_wp2_with fail
    refine LR3.out.mono ?_
    rintro e w3 ⟨v3, rfl, hr3, hb3⟩
    have B3 := hideIt (below_trans B2.out hb3 B2.out.size)
    have R3 := hideIt (hr3.wide B2.out.size (Nat.le_refl _))
    obtain ⟨-, a3, k3, hv3, -⟩ := hr3.rd
    subst hv3
    clear hr3 hb3
    go_wp2
    go_ret2
    exact ⟨_, rfl, R3.out, B3.out⟩
end Go.Proofs.YtgnfbiohjdepcaaGreatDoor
