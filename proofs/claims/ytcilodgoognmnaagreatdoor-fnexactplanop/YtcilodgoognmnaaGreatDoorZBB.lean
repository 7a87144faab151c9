/- Several texts laid together: DtH, JiF, JiG. -/
import Derived.Test.YtcilodgoognmnaaGreatDoorZAU
import Derived.Test.YtcilodgoognmnaaGreatDoorZBA
import Derived.Test.YtcilodgoognmnaaGreatDoorZAO
import Derived.Test.YtcilodgoognmnaaGreatDoorZAN
namespace Go.Proofs.YtcilodgoognmnaaGreatDoor
open Go.RowKit
def MiOut (w w' : World) (e : Ending) (r : List Mi × Int) : Prop := ∃ v', e = .returned (.tuple #[v', .int .i64 r.2]) ∧ Row w' 118 3 w.heap.size w'.heap.size v' r.1.length (mis r.1) ∧ Below w.heap.size w w'
theorem zth {w w1 : World} {n : Nat} {c : Int} (B : Below w.heap.size w w1) (e : n = w1.heap.size) : MiOut w (w1.alloc (.cells #[] 118)) (.returned (.tuple #[.slice (some ⟨n, 0, none⟩) 0 0, .int .i64 c])) ([], c) := by
 subst e
 exact ⟨_, rfl, (zkc w1 _ _).wide B.size (Nat.le_refl _), B.alloc B.size _⟩
structure MiI (W w : World) (vL : Value) (ls : List Mi) : Prop where
 l : w.ownsRow W.heap.size 118 3 vL ls.length (mis ls)
 b : Below W.heap.size W w
theorem MiI.z {W w : World} {vL : Value} {ls : List Mi} (h : MiI W w vL ls) : W.heap.size ≤ w.heap.size := h.b.size
theorem MiI.below {W w w' : World} {vL : Value} {ls : List Mi} (h : MiI W w vL ls) (hb : Below w.heap.size w w') : MiI W w' vL ls :=
 ⟨((zad h.l).below hb (Nat.le_refl _)).1, zab h.b hb h.z⟩
theorem MiI.grow {W w w' : World} {vL v' : Value} {ls : List Mi} (h : MiI W w vL ls) (ms : List Mi) (ho : w'.ownsRow W.heap.size 118 3 v' (ls.length + ms.length) (mis ls ++ mis ms)) (hg : w.grownBy w' vL.ownBlock) : MiI W w' v' (ls ++ ms) :=
 ⟨by rw [zfn, List.length_append]; exact ho, h.b.grown hg h.z (fun q hq => (h.l.lt q hq).1)⟩
theorem up_mi : (130 : Nat) ≠ 118 := by decide
structure WrI (W w : World) (vL vU : Value) (ls : List Mi) (us : List Se) : Prop where
 l : w.ownsRow W.heap.size 118 3 vL ls.length (mis ls)
 u : w.ownsRow W.heap.size 130 2 vU us.length (ses us)
 b : Below W.heap.size W w
theorem WrI.z {W w : World} {vL vU : Value} {ls : List Mi} {us : List Se} (h : WrI W w vL vU ls us) : W.heap.size ≤ w.heap.size := h.b.size
theorem WrI.mi {W w : World} {vL vU : Value} {ls : List Mi} {us : List Se} (h : WrI W w vL vU ls us) : MiI W w vL ls := ⟨h.l, h.b⟩
theorem WrI.below {W w w' : World} {vL vU : Value} {ls : List Mi} {us : List Se} (h : WrI W w vL vU ls us) (hb : Below w.heap.size w w') : WrI W w' vL vU ls us :=
 ⟨((zad h.l).below hb (Nat.le_refl _)).1, ((zad h.u).below hb (Nat.le_refl _)).1, zab h.b hb h.z⟩
theorem WrI.growU {W w w' : World} {vL vU v' : Value} {ls : List Mi} {us : List Se} (h : WrI W w vL vU ls us) (ms : List Se) (ho : w'.ownsRow W.heap.size 130 2 v' (us.length + ms.length) (ses us ++ ses ms)) (hg : w.grownBy w' vU.ownBlock) : WrI W w' vL v' ls (us ++ ms) :=
 ⟨(Row.apart (zad h.l) (zad h.u) (Ne.symm up_mi) hg).1, by rw [ses_app, List.length_append]; exact ho, h.b.grown hg h.z (fun q hq => (h.u.lt q hq).1)⟩
theorem zop (i page size e : Int) : (wrU i page size e).length ≤ 2 := by
 unfold wrU
 split <;> simp
theorem wrU_at {i : Nat} {p : Nat} (hi : i < 16) (hp : p < 8) (size e : Int) : ∀ k (h : k < (wrU (i : Int) (p : Int) size e).length), 0 ≤ (wrU (i : Int) (p : Int) size e)[k].at_ ∧ (wrU (i : Int) (p : Int) size e)[k].at_ < 336 := by
 intro k h
 have m := List.getElem_mem h
 revert m
 generalize (wrU (i : Int) (p : Int) size e)[k] = u
 unfold wrU
 intro m
 rcases List.mem_cons.1 m with rfl | m
 ·exact ⟨by show 0 ≤ 48 + 12 * (i : Int) + (3 + (p : Int)); omega, by show 48 + 12 * (i : Int) + (3 + (p : Int)) < 336; omega⟩
 ·split at m
  ·rw [List.mem_singleton.1 m]
   exact ⟨by show 0 ≤ 48 + 12 * (i : Int) + 1; omega, by show 48 + 12 * (i : Int) + 1 < 336; omega⟩
  ·cases m
set_option maxRecDepth 100000 in
set_option maxHeartbeats 16000000 in
theorem zvs (v : Value) (ns : List Ino) (ds : List Den) (s : ByteArray) (page x : Int) (w : World) (h : RdIm w v ns ds) (hi : zax ns ds = true) (hs : s.size ≤ 65536) :
  Calls Tryz.prog 52 #[v, .string s, .int .i64 page, .int .i64 x] w fun e w' => MiOut w w' e (wrI ns ds s page x) := by
 have LL := zaa (fun w1 (hb : Below w.heap.size w w1) => zjh v ns ds s w1 (h.below hb) hi hs)
 have EL := zaa (show wrI ns ds s page x = if (flI ns ds s).2 = 0 then wrF ns (flI ns ds s).1 page x else ([], (flI ns ds s).2) from rfl)
 have LO := zaa (fun c => zlg (s := s) (zca.1 hi) c)
 obtain ⟨l16, l24, _⟩ := zao hi
 have TR : ∀ k (h : k < ns.length), ∀ z ∈ ns[k].map, 0 ≤ z ∧ z ≤ 1048576 := fun k hk z hz => by
  have t := (zie ((zca.1 hi).ok k (by omega))).1 z (by rw [zcn hk]; exact hz)
  unfold zgf zez at t
  rw [Bool.and_eq_true, decide_eq_true_eq, decide_eq_true_eq] at t
  omega
 have LF1 : Hid (∀ w1, Below w.heap.size w w1 → Calls Tryz.prog 106 #[v, .int .i64 1, .int .i64 24] w1 fun e w' => e = .returned (.int .i64 (fpI ns)) ∧ Below w1.heap.size w1 w') := fun w1 hb => zpe v ns ds 1 24 w1 (h.below hb) (by omega) TR (by omega)
 have LF2 : Hid (∀ w1, Below w.heap.size w w1 → Calls Tryz.prog 106 #[v, .int .i64 2, .int .i64 32] w1 fun e w' => e = .returned (.int .i64 (fsI ns)) ∧ Below w1.heap.size w1 w') := fun w1 hb => zpe v ns ds 2 32 w1 (h.below hb) (by omega) TR (by omega)
 have L16 := zaa l16
 have F1 : Hid (0 ≤ fpI ns → ∃ k : Nat, k < 24 ∧ fpI ns = (k : Int)) := fun c => by
  obtain ⟨k, a, b, -⟩ := zra c
  exact ⟨k, a, b⟩
 have F2 : Hid (0 ≤ fsI ns → ∃ k : Nat, k < 32 ∧ fsI ns = (k : Int)) := fun c => by
  obtain ⟨k, a, b, -⟩ := zra c
  exact ⟨k, a, b⟩
 have EF := zaa (fun i => show wrF ns i page x = if (0 ≤ page ∧ page < 8) ∧ zbc x = true then (if fpI ns < 0 ∧ fsI ns < 0 then ([], 7) else ((if 0 ≤ fpI ns then ⟨1, 312 + fpI ns, x⟩ :: zbe [312 + fpI ns] else [⟨4, fsI ns, x⟩, ⟨5, 0, 0⟩]) ++ zdd (zdx (wrU i page (zfd ns i) (if 0 ≤ fpI ns then 4 * fpI ns + 1 else 4 * fsI ns + 2))), 0)) else ([], 4) from rfl)
 obtain ⟨vW, vP, rfl, h1, h2⟩ := h
 obtain ⟨aW, cW, rfl, _, hcW⟩ := h1.shape
 obtain ⟨aP, cP, rfl, _, hcP⟩ := h2.shape
 obtain ⟨bW, oW, rfl, hblW, hcellW⟩ := hcW (by omega)
 have HM : Hid (∀ k, k < 16 → ∀ w', Below w.heap.size w w' → w'.cell? ⟨bW, oW + k * 11 + 1, none⟩ = some (.int .i64 (zfd ns (k : Int)))) := fun k hk w' hb => by
  unfold zfd
  rw [Int.toNat_natCast, zcn (by omega : k < ns.length)]
  exact (hb.cell (p := ⟨bW, oW + k * 11 + 1, none⟩) hblW).trans (hcellW k (by omega)).2.1
 clear h1 h2 hi hs hcW hcP hcellW l16 l24 TR
 obtain ⟨W, hW⟩ : ∃ W, W = w.alloc (.cells #[.slice (some ⟨bW, oW, none⟩) ns.length cW, .slice aP ds.length cP] 63) := ⟨_, rfl⟩
 have CA : Hid (∀ w', Below W.heap.size W w' → w'.cell? ⟨w.heap.size, 0, none⟩ = some (.slice (some ⟨bW, oW, none⟩) ns.length cW) ∧ w'.cell? ⟨w.heap.size, 1, none⟩ = some (.slice aP ds.length cP)) := fun w' hb => by
  have : w'.heap[w.heap.size]? = some (.cells #[.slice (some ⟨bW, oW, none⟩) ns.length cW, .slice aP ds.length cP] 63 (0, 0)) := (hb.block _ (by rw [hW]; simp)).trans (by rw [hW]; exact zah rfl)
  exact ⟨(zac this).1, (zac this).2.1⟩
 have BW : Hid (Below w.heap.size w W) := by rw [hW]; exact (Below.refl _ _).alloc (Nat.le_refl _) _
 obtain ⟨x0, x1⟩ := CA.out _ (Below.refl _ _)
 have hz : w.heap.size < W.heap.size := by rw [hW]; simp
 generalize wrI ns ds s page x = res at *
 generalize flI ns ds s = lr at *
 obtain ⟨li, lc⟩ := lr
 simp only at EL LO LL
 go_enter Tryz.func52, Tryz.ntmps52
 go_wp2_with fail
 rw [← hW]
 clear hW x0 x1
 refine (LL.out _ BW.out).mono ?_
 rintro e w1 ⟨rfl, hb1⟩
 have A1 := zaa hb1
 have B1 := zaa (zab BW.out A1.out BW.out.size)
 clear hb1 LL
 by_cases c : lc = 0
 case neg =>
  rw [if_neg c] at EL
  obtain rfl := EL.out
  have q : (lc != 0) = true := by rw [bne_iff_ne]; exact c
  clear EL LO c
  go_wp2
  go_ret2
  exact zth B1.out rfl
 subst c
 rw [if_pos rfl] at EL
 obtain ⟨i, i16, ei, -⟩ := LO.out rfl
 subst ei
 rw [EF.out] at EL
 have HS := zaa (HM.out i i16)
 have i1 : i < ns.length := by have := L16.out; omega
 have i0 : (0 : Int) ≤ (i : Int) := by omega
 have il : (i : Int) < (ns.length : Int) := by omega
 have ir : 0 ≤ (i : Int) ∧ (i : Int) < 16 := by omega
 clear HM EF LO L16
 generalize zfd ns (i : Int) = sz at *
 by_cases c : 0 ≤ page ∧ page < 8
 case neg =>
  rw [if_neg (fun q => c q.1)] at EL
  obtain rfl := EL.out
  clear EL
  go_wp2_with fail
  refine (zce _ _ _ _ (by omega)).mono ?_
  rintro e w' ⟨rfl, hw'⟩
  subst w'
  go_wp2
  go_ret2
  exact zth B1.out rfl
 obtain ⟨p, rfl⟩ : ∃ p : Nat, page = (p : Int) := ⟨page.toNat, by omega⟩
 have p8 : p < 8 := by omega
 go_wp2_with fail
 refine (zar _ _ _ _ (by omega)).mono ?_
 rintro e w' ⟨rfl, hw'⟩
 subst w'
 go_wp2_with fail
 refine (zbu _ _).mono ?_
 rintro e w' ⟨rfl, hw'⟩
 subst w'
 cases cx : zbc x with
 | false =>
  rw [if_neg (fun q => by rw [cx] at q; cases q.2)] at EL
  obtain rfl := EL.out
  clear EL
  go_wp2
  go_ret2
  exact zth B1.out rfl
 | true =>
 rw [if_pos ⟨c, cx⟩] at EL
 clear c cx
 have EW : Hid ((sz ≤ (p : Int) → ∀ E, wrU (i : Int) (p : Int) sz E = [⟨48 + 12 * (i : Int) + (3 + (p : Int)), E⟩] ++ [⟨48 + 12 * (i : Int) + 1, (p : Int) + 1⟩]) ∧ (¬ sz ≤ (p : Int) → ∀ E, wrU (i : Int) (p : Int) sz E = [⟨48 + 12 * (i : Int) + (3 + (p : Int)), E⟩])) :=
  ⟨fun q E => by unfold wrU; rw [if_pos q]; rfl, fun q E => by unfold wrU; rw [if_neg q]⟩
 have LPl0 := zaa (fun E v w1 (h : RdE w1 v (wrU (i : Int) (p : Int) sz E)) => zps v (wrU (i : Int) (p : Int) sz E) w1 h (by have := zop (i : Int) (p : Int) sz E; omega) (wrU_at i16 p8 sz E))
 have PN0 := zaa (fun E => Nat.le_trans (zkj (wrU (i : Int) (p : Int) sz E)) (show 6 * (wrU (i : Int) (p : Int) sz E).length + 8 ≤ 20 by have := zop (i : Int) (p : Int) sz E; omega))
 have M0 : Hid (MiI W (w1.alloc (.cells #[] 118)) (.slice (some ⟨w1.heap.size, 0, none⟩) 0 0) []) := ⟨((zkc w1 118 3).wide A1.out.size (Nat.le_refl _)).1, A1.out.alloc A1.out.size _⟩
 obtain ⟨x0, x1⟩ := CA.out _ M0.out.b
 have B2 := zaa (zab BW.out M0.out.b BW.out.size)
 go_wp2_with fail
 obtain ⟨w2, hw2⟩ : ∃ w2, w2 = w1.alloc (.cells #[] 118) := ⟨_, rfl⟩
 rw [← hw2] at M0 B2 x0 x1 ⊢
 clear hw2
 refine (LF1.out _ B2.out).mono ?_
 rintro e w3 ⟨rfl, hb3⟩
 have M3 := zaa (M0.out.below hb3)
 have B3 := zaa (zab BW.out M3.out.b BW.out.size)
 clear hb3 M0 x0 x1 B2 A1 B1 LF1
 generalize fpI ns = fp at *
 generalize fsI ns = fs at *
 by_cases c : 0 ≤ fp
 ·rw [if_neg (fun q => by omega), if_pos c, if_pos c] at EL
  obtain ⟨k, k24, ek⟩ := F1.out c
  subst ek
  have c' : (k : Int) ≥ 0 := c
  clear F1 F2 LF2
  have kr : 0 ≤ (k : Int) ∧ (k : Int) < 32 := by omega
  go_wp2_with fail
  refine (zdz _ _ _).mono ?_
  rintro e w4 ⟨rfl, hb4⟩
  have M4 := zaa ((M3.out.below hb4).below ((Below.refl _ _).alloc (Nat.le_refl _) (.cells #[.int .i64 1, .int .i64 (312 + (k : Int)), .int .i64 x] 118)))
  have R4 := zaa (zhf w4 1 (312 + (k : Int)) x)
  have hz4 := M4.out.z
  clear hb4 M3
  go_wp2_with (at_builtin; refine zag _ rfl (.tmp 41) (.tmp 46) 45 rfl W.heap.size 118 (.agg #[.int .i64 0, .int .i64 0, .int .i64 0]) 3 24 Tryz.underlying45 zbn rfl (by decide) _ _ _ rfl M4.out.l _ 1 _ rfl R4.out (zgm _) (by first | omega | (simp [maxLen]; done) | (simp [maxLen]; omega)) (by first | omega | (simp; done) | (simp; omega)) hz4 ?_)
  intro v5 w5 hown5 hgr5
  have M5 := zaa (M4.out.grow [⟨1, 312 + (k : Int), x⟩] (by rw [zil]; exact hown5) hgr5)
  have M6 := zaa (M5.out.below ((Below.refl _ _).alloc (Nat.le_refl _) (.cells #[.int .i64 (312 + (k : Int))] 3)))
  have R6 := zaa (zof w5 (312 + (k : Int)))
  clear hown5 hgr5 M4 R4 M5
  go_wp2_with fail
  refine (zdv _ [312 + (k : Int)] _ R6.out (by simp) (by intro j h; simp at h; subst h; simp; omega)).mono ?_
  rintro e w7 ⟨v7, rfl, hr7, hb7⟩
  have M7 := zaa (M6.out.below hb7)
  have R7 := zaa hr7.rd
  have hz7 := M7.out.z
  have l7 : (zbe [312 + (k : Int)]).length ≤ 2 := zbl [312 + (k : Int)]
  have EX : Hid ((⟨1, 312 + (k : Int), x⟩ : Mi) :: zbe [312 + (k : Int)] = ([] ++ [⟨1, 312 + (k : Int), x⟩]) ++ zbe [312 + (k : Int)]) := rfl
  rw [EX.out] at EL
  clear hr7 hb7 M6 R6 EX
  generalize zbe [312 + (k : Int)] = FL at *
  go_wp2_with (at_builtin; refine zag _ rfl (.tmp 48) (.tmp 52) 45 rfl W.heap.size 118 (.agg #[.int .i64 0, .int .i64 0, .int .i64 0]) 3 24 Tryz.underlying45 zbn rfl (by decide) _ _ _ rfl M7.out.l _ _ _ rfl R7.out (zck _) (by first | omega | (simp [maxLen]; done) | (simp [maxLen]; omega)) (by first | omega | (simp; done) | (simp; omega)) hz7 ?_)
  intro vT wT hownT hgrT
  have M := zaa (M7.out.grow FL hownT hgrT)
  have lT : (([] ++ [(⟨1, 312 + (k : Int), x⟩ : Mi)]) ++ FL).length ≤ 3 := by simp; omega
  generalize ([] ++ [(⟨1, 312 + (k : Int), x⟩ : Mi)]) ++ FL = L at *
  clear hownT hgrT M7 R7
  go_wp2_with fail
  refine (zmm _ _ _ (by omega) kr).mono ?_
  rintro e w' ⟨rfl, hw'⟩
  subst w'
  have LPl := zaa (LPl0.out (4 * (k : Int) + 1))
  have PN := PN0.out (4 * (k : Int) + 1)
  have EW := zaa (And.intro (fun q => EW.out.1 q (4 * (k : Int) + 1)) (fun q => EW.out.2 q (4 * (k : Int) + 1)))
  generalize 4 * (k : Int) + 1 = E at *
  generalize zdd (zdx (wrU (i : Int) (p : Int) sz E)) = PL at *
  clear LPl0 PN0
  have SU : Hid (WrI W (wT.alloc (.cells #[.int .i64 (48 + 12 * (i : Int) + (3 + (p : Int))), .int .i64 E] 130)) vT (.slice (some ⟨wT.heap.size, 0, none⟩) 1 1) L [⟨48 + 12 * (i : Int) + (3 + (p : Int)), E⟩]) :=
   ⟨((zad M.out.l).below ((Below.refl _ _).alloc (Nat.le_refl _) _) (Nat.le_refl _)).1, World.ownsRow_lit wT _ 1 M.out.b.size (by simp [maxLen]) rfl, M.out.b.alloc M.out.b.size _⟩
  have pr : 0 ≤ 3 + (p : Int) ∧ 3 + (p : Int) < 11 := by omega
  go_wp2_with fail
  refine (zbd _ _ _ ir pr).mono ?_
  rintro e w' ⟨rfl, hw'⟩
  subst w'
  obtain ⟨x0, x1⟩ := CA.out _ SU.out.b
  have y0 := HS.out _ (zab BW.out SU.out.b BW.out.size)
  clear M
  by_cases cs : sz ≤ (p : Int)
  ·have cs' : (p : Int) ≥ sz := cs
   have SV := zaa (SU.out.below ((Below.refl _ _).alloc (Nat.le_refl _) (.cells #[.int .i64 (48 + 12 * (i : Int) + 1), .int .i64 ((p : Int) + 1)] 130)))
   have RV := zaa (zfv (wT.alloc (.cells #[.int .i64 (48 + 12 * (i : Int) + (3 + (p : Int))), .int .i64 E] 130)) (48 + 12 * (i : Int) + 1) ((p : Int) + 1))
   have hzv := SV.out.z
   simp only [World.size_alloc] at RV
   go_wp2_with fail
   refine (zbd _ _ _ ir (by omega)).mono ?_
   rintro e w' ⟨rfl, hw'⟩
   subst w'
   clear SU
   go_wp2_with (at_builtin; refine zag _ rfl (.tmp 85) (.tmp 91) 57 rfl W.heap.size 130 (.agg #[.int .i64 0, .int .i64 0]) 2 16 Tryz.underlying57 zff rfl (by decide) _ _ _ rfl SV.out.u _ 1 _ rfl RV.out (zco _) (by first | omega | (simp [maxLen])) (by first | omega | simp) hzv ?_)
   intro vU wU hownU hgrU
   have SW := zaa (SV.out.growU [⟨48 + 12 * (i : Int) + 1, (p : Int) + 1⟩] hownU hgrU)
   obtain ⟨-, aU, kU, hvU, -⟩ := (zad hownU).rd
   subst hvU
   clear hownU hgrU SV RV x0 x1 y0
   have EU := zaa (EW.out.1 cs)
   have UL : Hid (([⟨48 + 12 * (i : Int) + (3 + (p : Int)), E⟩] ++ [⟨48 + 12 * (i : Int) + 1, (p : Int) + 1⟩] : List Se) = wrU (i : Int) (p : Int) sz E) := EU.out.symm
   rw [UL.out] at SW
   go_wp2_with fail
   refine (LPl.out _ _ (zad SW.out.u).rd).mono ?_
   rintro e wP ⟨vP, rfl, hrP, hbP⟩
   have MP := zaa ((SW.out.mi).below hbP)
   have RP := zaa hrP.rd
   have hzp := MP.out.z
   clear hrP hbP SW
   go_wp2_with (at_builtin; refine zag _ rfl (.tmp 93) (.tmp 95) 45 rfl W.heap.size 118 (.agg #[.int .i64 0, .int .i64 0, .int .i64 0]) 3 24 Tryz.underlying45 zbn rfl (by decide) _ _ _ rfl MP.out.l _ _ _ rfl RP.out (zck _) (by first | omega | (simp [maxLen]; done) | (simp [maxLen]; omega)) (by first | omega | (simp; done) | (simp; omega)) hzp ?_)
   intro vN wN hownN hgrN
   have G := zaa (MP.out.grow _ hownN hgrN)
   obtain ⟨-, aN, kN, hvN, -⟩ := (zad hownN).rd
   subst hvN
   obtain rfl := EL.out
   clear hownN hgrN MP RP
   go_wp2
   go_ret2
   exact ⟨_, rfl, (zad G.out.l).wide (by have := BW.out.size; omega) (Nat.le_refl _), zab BW.out G.out.b BW.out.size⟩
  ·have cs' : ¬ (p : Int) ≥ sz := cs
   have SW := SU
   have EU := zaa (EW.out.2 (by omega))
   have UL : Hid (([⟨48 + 12 * (i : Int) + (3 + (p : Int)), E⟩] : List Se) = wrU (i : Int) (p : Int) sz E) := EU.out.symm
   rw [UL.out] at SW
   clear SU
   go_wp2_with fail
   refine (LPl.out _ _ (zad SW.out.u).rd).mono ?_
   rintro e wP ⟨vP, rfl, hrP, hbP⟩
   have MP := zaa ((SW.out.mi).below hbP)
   have RP := zaa hrP.rd
   have hzp := MP.out.z
   clear hrP hbP SW
   go_wp2_with (at_builtin; refine zag _ rfl (.tmp 93) (.tmp 95) 45 rfl W.heap.size 118 (.agg #[.int .i64 0, .int .i64 0, .int .i64 0]) 3 24 Tryz.underlying45 zbn rfl (by decide) _ _ _ rfl MP.out.l _ _ _ rfl RP.out (zck _) (by first | omega | (simp [maxLen]; done) | (simp [maxLen]; omega)) (by first | omega | (simp; done) | (simp; omega)) hzp ?_)
   intro vN wN hownN hgrN
   have G := zaa (MP.out.grow _ hownN hgrN)
   obtain ⟨-, aN, kN, hvN, -⟩ := (zad hownN).rd
   subst hvN
   obtain rfl := EL.out
   clear hownN hgrN MP RP
   go_wp2
   go_ret2
   exact ⟨_, rfl, (zad G.out.l).wide (by have := BW.out.size; omega) (Nat.le_refl _), zab BW.out G.out.b BW.out.size⟩
 ·have c' : ¬ fp ≥ 0 := c
  obtain ⟨x0, x1⟩ := CA.out _ M3.out.b
  go_wp2_with fail
  refine (LF2.out _ B3.out).mono ?_
  rintro e w4 ⟨rfl, hb4⟩
  have M4 := zaa (M3.out.below hb4)
  have B4 := zaa (zab BW.out M4.out.b BW.out.size)
  clear hb4 M3 x0 x1 B3 LF2
  by_cases d : 0 ≤ fs
  case neg =>
   have d' : ¬ fs ≥ 0 := d
   rw [if_pos ⟨by omega, by omega⟩] at EL
   obtain rfl := EL.out
   clear EL
   go_wp2
   go_ret2
   exact zth B4.out rfl
  rw [if_neg (fun q => by omega), if_neg (by omega : ¬ 0 ≤ fp), if_neg (by omega : ¬ 0 ≤ fp)] at EL
  obtain ⟨k, k32, ek⟩ := F2.out d
  subst ek
  have d' : (k : Int) ≥ 0 := d
  clear F1 F2
  have kr : 0 ≤ (k : Int) ∧ (k : Int) < 32 := by omega
  have M5 := zaa (M4.out.below ((Below.refl _ _).alloc (Nat.le_refl _) (.cells #[.int .i64 4, .int .i64 (k : Int), .int .i64 x, .int .i64 5, .int .i64 0, .int .i64 0] 118)))
  have R5 := zaa (rd_mic2 w4 4 (k : Int) x 5 0 0)
  have hz5 := M5.out.z
  clear M4
  go_wp2_with (at_builtin; refine zag _ rfl (.tmp 60) (.tmp 65) 45 rfl W.heap.size 118 (.agg #[.int .i64 0, .int .i64 0, .int .i64 0]) 3 24 Tryz.underlying45 zbn rfl (by decide) _ _ _ rfl M5.out.l _ 2 _ rfl R5.out (zck _) (by first | omega | (simp [maxLen]; done) | (simp [maxLen]; omega)) (by first | omega | (simp; done) | (simp; omega)) hz5 ?_)
  intro vT wT hownT hgrT
  have M := zaa (M5.out.grow [⟨4, (k : Int), x⟩, ⟨5, 0, 0⟩] hownT hgrT)
  have EX : Hid ([(⟨4, (k : Int), x⟩ : Mi), ⟨5, 0, 0⟩] = [] ++ [⟨4, (k : Int), x⟩, ⟨5, 0, 0⟩]) := rfl
  rw [EX.out] at EL
  have lT : ([] ++ [(⟨4, (k : Int), x⟩ : Mi), ⟨5, 0, 0⟩]).length ≤ 3 := by simp
  generalize [] ++ [(⟨4, (k : Int), x⟩ : Mi), ⟨5, 0, 0⟩] = L at *
  clear hownT hgrT M5 R5 EX
  go_wp2_with fail
  refine (zmm _ _ _ (by omega) kr).mono ?_
  rintro e w' ⟨rfl, hw'⟩
  subst w'
  have LPl := zaa (LPl0.out (4 * (k : Int) + 2))
  have PN := PN0.out (4 * (k : Int) + 2)
  have EW := zaa (And.intro (fun q => EW.out.1 q (4 * (k : Int) + 2)) (fun q => EW.out.2 q (4 * (k : Int) + 2)))
  generalize 4 * (k : Int) + 2 = E at *
  generalize zdd (zdx (wrU (i : Int) (p : Int) sz E)) = PL at *
  clear LPl0 PN0
  have SU : Hid (WrI W (wT.alloc (.cells #[.int .i64 (48 + 12 * (i : Int) + (3 + (p : Int))), .int .i64 E] 130)) vT (.slice (some ⟨wT.heap.size, 0, none⟩) 1 1) L [⟨48 + 12 * (i : Int) + (3 + (p : Int)), E⟩]) :=
   ⟨((zad M.out.l).below ((Below.refl _ _).alloc (Nat.le_refl _) _) (Nat.le_refl _)).1, World.ownsRow_lit wT _ 1 M.out.b.size (by simp [maxLen]) rfl, M.out.b.alloc M.out.b.size _⟩
  have pr : 0 ≤ 3 + (p : Int) ∧ 3 + (p : Int) < 11 := by omega
  go_wp2_with fail
  refine (zbd _ _ _ ir pr).mono ?_
  rintro e w' ⟨rfl, hw'⟩
  subst w'
  obtain ⟨x0, x1⟩ := CA.out _ SU.out.b
  have y0 := HS.out _ (zab BW.out SU.out.b BW.out.size)
  clear M
  by_cases cs : sz ≤ (p : Int)
  ·have cs' : (p : Int) ≥ sz := cs
   have SV := zaa (SU.out.below ((Below.refl _ _).alloc (Nat.le_refl _) (.cells #[.int .i64 (48 + 12 * (i : Int) + 1), .int .i64 ((p : Int) + 1)] 130)))
   have RV := zaa (zfv (wT.alloc (.cells #[.int .i64 (48 + 12 * (i : Int) + (3 + (p : Int))), .int .i64 E] 130)) (48 + 12 * (i : Int) + 1) ((p : Int) + 1))
   have hzv := SV.out.z
   simp only [World.size_alloc] at RV
   go_wp2_with fail
   refine (zbd _ _ _ ir (by omega)).mono ?_
   rintro e w' ⟨rfl, hw'⟩
   subst w'
   clear SU
   go_wp2_with (at_builtin; refine zag _ rfl (.tmp 85) (.tmp 91) 57 rfl W.heap.size 130 (.agg #[.int .i64 0, .int .i64 0]) 2 16 Tryz.underlying57 zff rfl (by decide) _ _ _ rfl SV.out.u _ 1 _ rfl RV.out (zco _) (by first | omega | (simp [maxLen])) (by first | omega | simp) hzv ?_)
   intro vU wU hownU hgrU
   have SW := zaa (SV.out.growU [⟨48 + 12 * (i : Int) + 1, (p : Int) + 1⟩] hownU hgrU)
   obtain ⟨-, aU, kU, hvU, -⟩ := (zad hownU).rd
   subst hvU
   clear hownU hgrU SV RV x0 x1 y0
   have EU := zaa (EW.out.1 cs)
   have UL : Hid (([⟨48 + 12 * (i : Int) + (3 + (p : Int)), E⟩] ++ [⟨48 + 12 * (i : Int) + 1, (p : Int) + 1⟩] : List Se) = wrU (i : Int) (p : Int) sz E) := EU.out.symm
   rw [UL.out] at SW
   go_wp2_with fail
   refine (LPl.out _ _ (zad SW.out.u).rd).mono ?_
   rintro e wP ⟨vP, rfl, hrP, hbP⟩
   have MP := zaa ((SW.out.mi).below hbP)
   have RP := zaa hrP.rd
   have hzp := MP.out.z
   clear hrP hbP SW
   go_wp2_with (at_builtin; refine zag _ rfl (.tmp 93) (.tmp 95) 45 rfl W.heap.size 118 (.agg #[.int .i64 0, .int .i64 0, .int .i64 0]) 3 24 Tryz.underlying45 zbn rfl (by decide) _ _ _ rfl MP.out.l _ _ _ rfl RP.out (zck _) (by first | omega | (simp [maxLen]; done) | (simp [maxLen]; omega)) (by first | omega | (simp; done) | (simp; omega)) hzp ?_)
   intro vN wN hownN hgrN
   have G := zaa (MP.out.grow _ hownN hgrN)
   obtain ⟨-, aN, kN, hvN, -⟩ := (zad hownN).rd
   subst hvN
   obtain rfl := EL.out
   clear hownN hgrN MP RP
   go_wp2
   go_ret2
   exact ⟨_, rfl, (zad G.out.l).wide (by have := BW.out.size; omega) (Nat.le_refl _), zab BW.out G.out.b BW.out.size⟩
  ·have cs' : ¬ (p : Int) ≥ sz := cs
   have SW := SU
   have EU := zaa (EW.out.2 (by omega))
   have UL : Hid (([⟨48 + 12 * (i : Int) + (3 + (p : Int)), E⟩] : List Se) = wrU (i : Int) (p : Int) sz E) := EU.out.symm
   rw [UL.out] at SW
   clear SU
   go_wp2_with fail
   refine (LPl.out _ _ (zad SW.out.u).rd).mono ?_
   rintro e wP ⟨vP, rfl, hrP, hbP⟩
   have MP := zaa ((SW.out.mi).below hbP)
   have RP := zaa hrP.rd
   have hzp := MP.out.z
   clear hrP hbP SW
   go_wp2_with (at_builtin; refine zag _ rfl (.tmp 93) (.tmp 95) 45 rfl W.heap.size 118 (.agg #[.int .i64 0, .int .i64 0, .int .i64 0]) 3 24 Tryz.underlying45 zbn rfl (by decide) _ _ _ rfl MP.out.l _ _ _ rfl RP.out (zck _) (by first | omega | (simp [maxLen]; done) | (simp [maxLen]; omega)) (by first | omega | (simp; done) | (simp; omega)) hzp ?_)
   intro vN wN hownN hgrN
   have G := zaa (MP.out.grow _ hownN hgrN)
   obtain ⟨-, aN, kN, hvN, -⟩ := (zad hownN).rd
   subst hvN
   obtain rfl := EL.out
   clear hownN hgrN MP RP
   go_wp2
   go_ret2
   exact ⟨_, rfl, (zad G.out.l).wide (by have := BW.out.size; omega) (Nat.le_refl _), zab BW.out G.out.b BW.out.size⟩
end Go.Proofs.YtcilodgoognmnaaGreatDoor

namespace Go.Proofs.YtcilodgoognmnaaGreatDoor
open Go.RowKit
theorem zma (zs : List Int) : zoh zs = allP zs := by
 unfold zoh allP
 rw [decide_eq_decide]
 exact ⟨fun h k hk => zgo (h k hk), fun h k hk => decide_eq_true (h k hk)⟩
def zml : Array Value := (List.replicate 42 (Value.bool false)).toArray
theorem run_fals42 (w : World) : (zeroValue 246).run Tryz.prog w = .ok (.agg zml) w := by kernel_rfl
theorem zpf : zml.size = 42 := by unfold zml; rw [List.size_toArray, List.length_replicate]
theorem fals42_at (k : Nat) (hk : k < 42) : zml[k]? = some (.bool false) := by unfold zml; rw [List.getElem?_toArray, List.getElem?_replicate, if_pos hk]
def zhg (zs : List Int) (m j : Nat) : Bool := (List.range m).any (fun i => zs[i]?.getD 0 / 8 == (j : Int))
theorem lineB_succ (zs : List Int) (m j : Nat) : zhg zs (m + 1) j = (zhg zs m j || (zs[m]?.getD 0 / 8 == (j : Int))) := by
 unfold zhg
 rw [List.range_succ, List.any_append]
 simp
theorem lineB_known (zs : List Int) (m : Nat) (hm : m < zs.length) (h0 : 0 ≤ zs[m]) : zhg zs m (zs[m] / 8).toNat = zqz zs m := by
 have e : (((zs[m] / 8).toNat : Nat) : Int) = zs[m] / 8 := by omega
 unfold zhg zqz
 rw [e, List.getElem?_eq_getElem hm]
 rfl
set_option maxRecDepth 100000 in
set_option maxHeartbeats 4000000 in
theorem zlw (v : Value) (zs : List Int) (w : World) (h : RdI w v zs) (hn : zs.length ≤ 1048576) :
  Calls Tryz.prog 179 #[v] w fun e w' => ∃ v', e = .returned (.tuple #[v', .int .i64 (flC zs)]) ∧ Row w' 118 3 w.heap.size w'.heap.size v' (fpL zs).length (mis (fpL zs)) ∧ Below w.heap.size w w' := by
 have HR := zaa h
 obtain ⟨aZ, cZ, rfl, _, hcZ⟩ := h.shape
 have HZ := zaa hcZ
 clear h hcZ
 rcases fp_cases zs with ⟨c1, e1, e2⟩ | ⟨c1, c2, e1, e2⟩ | ⟨c1, c2, c3, e1, e2⟩ | ⟨c1, c2, c3, e1, e2⟩
 ·rw [e1, e2]
  clear e1 e2
  go_enter Tryz.func179, Tryz.ntmps179
  go_wp2
  go_ret2
  exact ⟨_, rfl, Row.nil _ _ _ _ _, Below.refl _ _⟩
 ·rw [e1, e2]
  clear e1 e2
  go_enter Tryz.func179, Tryz.ntmps179
  go_wp2
  go_ret2
  exact ⟨_, rfl, Row.nil _ _ _ _ _, Below.refl _ _⟩
 ·rw [e1, e2]
  have C3 := zaa ((zma zs).trans c3)
  clear c3 e1 e2
  go_enter Tryz.func179, Tryz.ntmps179
  go_wp2_with (go_at_call 158; refine (zis _ zs _ HR.out (by omega)).mono ?_; rw [C3.out]; rintro e w' ⟨rfl, hw'⟩; subst w')
  go_ret2
  exact ⟨_, rfl, Row.nil _ _ _ _ _, Below.refl _ _⟩
 ·rw [e1, e2]
  have C3 := zaa ((zma zs).trans c3)
  have Z0 := zaa (of_decide_eq_true c3 : ∀ k (h : k < zs.length), 0 ≤ zs[k] ∧ zs[k] < 336)
  clear c3 e1 e2
  have hal := run_fals42
  have START : Hid ((w.alloc (.cells zml 246)).rowIs w.heap.size 246 42 (fun k => .bool (zhg zs 0 k))) := by
   have := World.rowIs_alloc w zml 246 (fun k => .bool (zhg zs 0 k)) (fun k hk => by rw [zpf] at hk; rw [fals42_at k hk]; rfl)
   rw [zpf] at this
   exact this
  have BS := zaa ((Below.refl w.heap.size w).alloc (Nat.le_refl _) (.cells zml 246))
  go_enter Tryz.func179, Tryz.ntmps179
  go_wp2_with (go_at_call 158; refine (zis _ zs _ HR.out (by omega)).mono ?_; rw [C3.out]; rintro e w' ⟨rfl, hw'⟩; subst w')
  clear hal
  go_loopw [5, 7, 8, 20] (fun vL _ _ i wr => ∃ m : Nat, m ≤ zs.length ∧ i = .int .i64 m ∧ Hid (wr.ownsRow (w.heap.size + 1) 118 3 vL (nl zs m).length (mis (nl zs m)) ∧ Below w.heap.size w wr ∧ wr.rowIs w.heap.size 246 42 (fun k => .bool (zhg zs m k))) ∧ w.heap.size + 1 ≤ wr.heap.size) (fun _ _ _ i _ => zs.length - (intOf i).toNat)
  case atStart => exact ⟨0, by omega, rfl, ⟨World.ownsRow_nil _ _ _ _, BS.out, START.out⟩, by simp⟩
  case round =>
   obtain ⟨m, hm, rfl, I, hz⟩ := hrel
   by_cases hlt : m < zs.length
   ·obtain ⟨b, o, rfl, hbl, hcell⟩ := HZ.out (by omega)
    have d0 := (I.out.2.1.cell (p := ⟨b, o + m, none⟩) hbl).trans (hcell m hlt)
    have p0 := Z0.out m hlt
    have KN := zaa (lineB_known zs m hlt p0.1)
    have SU := zaa (fun j => (lineB_succ zs m j).trans (by rw [List.getElem?_eq_getElem hlt]; rfl) : ∀ j, zhg zs (m + 1) j = (zhg zs m j || (zs[m] / 8 == (j : Int))))
    have NX := zaa (show nl zs (m + 1) = if zqz zs m = true then nl zs m else nl zs m ++ [⟨2, zs[m], 0⟩] by rw [nl, List.getElem?_eq_getElem hlt]; rfl)
    have g0 := I.out.2.2.frozen (zs[m] / 8).toNat
    have g1 := I.out.2.2.cell (i := (zs[m] / 8).toNat) (by omega)
    have m0 : (0 : Int) ≤ (m : Int) := by omega
    have m1 : (m : Int) < (zs.length : Int) := by omega
    clear hcell
    generalize zs[m] = y at *
    obtain ⟨y0, y1⟩ := p0
    have t0 : 0 ≤ y / 8 := by omega
    have t1 : y / 8 < 42 := by omega
    have yt : Hid (((y / 8).toNat : Int) = y / 8) := by show (((y / 8).toNat : Nat) : Int) = y / 8; omega
    cases hk : zqz zs m
    ·rw [KN.out, hk] at g1
     have E := zaa (NX.out.trans (by rw [hk]; rfl) : nl zs (m + 1) = nl zs m ++ [⟨2, y, 0⟩])
     have F := zaa (I.out.2.2.set (y / 8).toNat (.bool true))
     have B2 := zaa (I.out.2.1.setCell (p := ⟨w.heap.size, (y / 8).toNat, none⟩) (Nat.le_refl _) (.bool true))
     have O1 : (wr.setCell ⟨w.heap.size, (y / 8).toNat, none⟩ (.bool true)).ownsRow (w.heap.size + 1) 118 3 u5 (nl zs m).length (mis (nl zs m)) := ownsRow_setCell_below I.out.1 (by simp only; omega) _
     have hle := nl_le zs m
     have FR := zaa (fun k (_ : k < 42) => show (if k = (y / 8).toNat then Value.bool true else Value.bool (zhg zs m k)) = Value.bool (zhg zs (m + 1) k) by
      rw [SU.out]
      by_cases e : k = (y / 8).toNat
      ·rw [if_pos e, e, yt.out]; simp
      ·rw [if_neg e]
       have : (y / 8 == (k : Int)) = false := by rw [beq_eq_false_iff_ne]; omega
       rw [this, Bool.or_false])
     obtain ⟨wb, hwb⟩ : ∃ wb : World, wb = wr.setCell ⟨w.heap.size, (y / 8).toNat, none⟩ (.bool true) := ⟨_, rfl⟩
     have hzb : wb.heap.size = wr.heap.size := by rw [hwb]; simp [World.setCell]
     have O2 : Hid ((wb.alloc (.cells #[.int .i64 2, .int .i64 y, .int .i64 0] 118)).ownsRow (w.heap.size + 1) 118 3 u5 (nl zs m).length (mis (nl zs m))) := by rw [hwb]; exact O1.alloc _
     have HRD : Hid (Rd (wb.alloc (.cells #[.int .i64 2, .int .i64 y, .int .i64 0] 118)) 3 (.slice (some ⟨wr.heap.size, 0, none⟩) 1 1) 1 (Mi.cells ⟨2, y, 0⟩)) := by rw [← hzb]; exact zhf wb 2 y 0
     have BB : Hid (Below w.heap.size w wb) := by rw [hwb]; exact B2.out
     have FF : Hid (wb.rowIs w.heap.size 246 42 (fun k => .bool (zhg zs (m + 1) k))) := by rw [hwb]; exact F.out.congr FR.out
     clear hk O1 B2 F FR
     go_wp2_with (at_builtin; rw [← hwb]; refine zag _ rfl (.tmp 32) (.tmp 35) 45 rfl (w.heap.size + 1) 118 (.agg #[.int .i64 0, .int .i64 0, .int .i64 0]) 3 24 Tryz.underlying45 zbn rfl (by decide) _ _ _ rfl O2.out _ 1 _ rfl HRD.out (zgm _) (by simp [maxLen]; omega) (by omega) (by simp; omega) ?_)
     intro vN wN hownN hgrN
     rw [← hwb] at hgrN
     have hl := fun q hq => (O2.out.lt q hq).1
     have hzN := hgrN.size
     simp only [World.size_alloc] at hzN
     have G : Hid (wN.ownsRow (w.heap.size + 1) 118 3 vN (nl zs (m + 1)).length (mis (nl zs (m + 1))) ∧ Below w.heap.size w wN ∧ wN.rowIs w.heap.size 246 42 (fun k => .bool (zhg zs (m + 1) k))) := by
      refine ⟨?_, (BB.out.alloc (by omega) (.cells #[.int .i64 2, .int .i64 y, .int .i64 0] 118)).grown hgrN (by simp; omega) (fun q hq => by have := hl q hq; omega), ?_⟩
      ·rw [E.out, znk, List.length_append]
       exact hownN
      ·obtain ⟨cs, hh, h1, h2⟩ := FF.out.alloc (.cells #[.int .i64 2, .int .i64 y, .int .i64 0] 118)
       exact ⟨cs, (hgrN.block w.heap.size (by simp; omega) (fun e => by have := hl _ e.symm; omega)).trans hh, h1, h2⟩
     clear hownN hgrN hl
     go_wp2
     go_roundw
     case rel => exact ⟨m + 1, by omega, by go_num, G, by omega⟩
     case measure => simp [intOf]; omega
    ·rw [KN.out, hk] at g1
     have E := zaa (NX.out.trans (by rw [hk]; rfl) : nl zs (m + 1) = nl zs m)
     have HK := zaa hk
     clear hk
     go_wp2
     go_roundw
     case rel =>
      refine ⟨m + 1, by omega, by go_num, ⟨by rw [E.out]; exact I.out.1, I.out.2.1, I.out.2.2.congr (fun k hk => ?_)⟩, hz⟩
      show Value.bool (zhg zs m k) = Value.bool (zhg zs (m + 1) k)
      rw [SU.out]
      by_cases e : y / 8 = (k : Int)
      ·have : zhg zs m k = true := by rw [show k = (y / 8).toNat by omega, KN.out]; exact HK.out
       rw [this]; rfl
      ·rw [show (y / 8 == (k : Int)) = false by rw [beq_eq_false_iff_ne]; exact e, Bool.or_false]
     case measure => simp [intOf]; omega
   ·obtain rfl : m = zs.length := by omega
    have E := zaa (show zbe zs = nl zs zs.length ++ [⟨3, 0, 0⟩] from rfl)
    have O2 := zaa (I.out.1.alloc (.cells #[.int .i64 3, .int .i64 0, .int .i64 0] 118))
    have HRD := zaa (zhf wr 3 0 0)
    have hle := nl_le zs zs.length
    go_wp2_with (at_builtin; refine zag _ rfl (.tmp 38) (.tmp 40) 45 rfl (w.heap.size + 1) 118 (.agg #[.int .i64 0, .int .i64 0, .int .i64 0]) 3 24 Tryz.underlying45 zbn rfl (by decide) _ _ _ rfl O2.out _ 1 _ rfl HRD.out (zgm _) (by simp [maxLen]; omega) (by omega) (by simp; omega) ?_)
    intro vN wN hownN hgrN
    have hl := fun q hq => (O2.out.lt q hq).1
    have G : Hid (wN.ownsRow (w.heap.size + 1) 118 3 vN (zbe zs).length (mis (zbe zs)) ∧ Below w.heap.size w wN) := by
     refine ⟨?_, (I.out.2.1.alloc (by omega) (.cells #[.int .i64 3, .int .i64 0, .int .i64 0] 118)).grown hgrN (by simp; omega) (fun q hq => by have := hl q hq; omega)⟩
     rw [E.out, znk, List.length_append]
     exact hownN
    clear hownN hgrN hl
    obtain ⟨aL, cL, hvL⟩ := RdM.form (zad G.out.1).rd rfl
    subst hvL
    go_wp2
    go_ret2
    exact ⟨_, rfl, (zad G.out.1).wide (by omega) (Nat.le_refl _), G.out.2⟩
end Go.Proofs.YtcilodgoognmnaaGreatDoor

namespace Go.Proofs.YtcilodgoognmnaaGreatDoor
open Go.RowKit
def upB (s : Se) : Bool := decide ((48 ≤ s.at_ ∧ s.at_ < 336) ∧ 0 ≤ s.val ∧ s.val < 1099511627776)
def upsBB (ps : List Se) : Bool := decide (∀ k (h : k < ps.length), upB ps[k] = true)
theorem upsBB_mk {ps : List Se} (h : ∀ k (h : k < ps.length), upB ps[k] = true) : upsBB ps = true := decide_eq_true h
theorem upsBB_not {ps : List Se} {k : Nat} (hk : k < ps.length) (h : upB ps[k] = false) : upsBB ps = false := decide_eq_false (fun x => by have := x k hk; rw [h] at this; cases this)
theorem upsBB_eq (us : List Se) : upsBB us = upsB us := by
 unfold upsBB upsB
 rw [decide_eq_decide]
 exact ⟨fun h k hk => of_decide_eq_true (h k hk), fun h k hk => decide_eq_true (h k hk)⟩
set_option maxHeartbeats 2000000 in
theorem zmb (s : Se) (w : World) : Calls Tryz.prog 116 #[.agg #[.int .i64 s.at_, .int .i64 s.val]] w fun e w' => e = .returned (.bool (upB s)) ∧ Below w.heap.size w w' := by
 obtain ⟨a, x⟩ := s
 simp only
 have hb0 : Below w.heap.size w (w.alloc (.cells #[.int .i64 a, .int .i64 x] 130)) := (Below.refl _ _).alloc (Nat.le_refl _) _
 by_cases c1 : 48 ≤ a
 case neg =>
  have E := zaa (show upB ⟨a, x⟩ = false from decide_eq_false (fun h => c1 h.1.1))
  go_enter Tryz.func116, Tryz.ntmps116
  go_wp2
  go_ret
  exact ⟨zaf E.out.symm, hb0⟩
 by_cases c2 : zbp a = true
 case neg =>
  have c2' : zbp a = false := by simpa using c2
  have E := zaa (show upB ⟨a, x⟩ = false from decide_eq_false (fun h => c2 (decide_eq_true ⟨by omega, h.1.2⟩)))
  have C2 := zaa c2'
  clear c2 c2'
  go_enter Tryz.func116, Tryz.ntmps116
  go_wp2_with (go_at_call 173; refine (zcg _ _).mono ?_; rw [C2.out]; rintro e w' ⟨rfl, rfl⟩)
  go_ret
  exact ⟨zaf E.out.symm, hb0⟩
 have E := zaa (show upB ⟨a, x⟩ = zbc x by
  unfold upB zbc
  rw [decide_eq_decide]
  have := zgo c2
  simp only
  omega)
 have C2 := zaa c2
 clear c2
 go_enter Tryz.func116, Tryz.ntmps116
 go_wp2_with (first | (go_at_call 173; refine (zcg _ _).mono ?_; rw [C2.out]; rintro e w' ⟨rfl, rfl⟩) | (go_at_call 53; refine (zdp _ _).mono ?_; rintro e w' ⟨rfl, rfl⟩))
 go_ret
 exact ⟨zaf E.out.symm, hb0⟩
set_option maxHeartbeats 4000000 in
theorem zia (v : Value) (ps : List Se) (w : World) (h : RdE w v ps) (hn : ps.length ≤ 1048576) :
  Calls Tryz.prog 115 #[v, .func (.func 116) #[] #[]] w fun e w' => e = .returned (.bool (upsBB ps)) ∧ Below w.heap.size w w' := by
 obtain ⟨aP, cP, rfl, _, hcP⟩ := h.shape
 clear h
 go_enter Tryz.func115, Tryz.ntmps115
 go_wp2
 go_loopw [6, 9] (fun _ i wr => ∃ k : Nat, k ≤ ps.length ∧ i = .int .i64 k ∧ Hid (∀ j (h : j < ps.length), j < k → upB ps[j] = true) ∧ Below w.heap.size w wr) (fun _ i _ => ps.length - (intOf i).toNat)
 case atStart => exact ⟨0, by omega, rfl, fun j h a => absurd a (by omega), Below.refl _ _⟩
 case round =>
  obtain ⟨m, hm, rfl, H, hbw⟩ := hrel
  have hz := hbw.size
  by_cases hlt2 : m < ps.length
  ·obtain ⟨b2, o2, rfl, hbl2, hcell2⟩ := hcP (by omega)
   obtain ⟨d0, d1⟩ := hcell2 m hlt2
   have e0 := (hbw.cell (p := ⟨b2, o2 + m * 2, none⟩) hbl2).trans d0
   have e1 := (hbw.cell (p := ⟨b2, o2 + m * 2 + 1, none⟩) hbl2).trans d1
   have hb1 := zaa (hbw.alloc hz (.cells #[.int .i64 ps[m].at_, .int .i64 ps[m].val] 130))
   clear d0 d1 hcell2 hcP
   by_cases q : upB ps[m] = true
   ·have Q := zaa q
    clear q
    go_wp2_with (go_at_call 116; refine (zmb ps[m] _).mono ?_; rw [Q.out]; rintro e w' ⟨rfl, hw'⟩)
    have hw2 := hb1.out.trans (hw'.mono (by simp; omega))
    clear hb1 hw'
    go_roundw
    case rel =>
     refine ⟨m + 1, by omega, by go_num, fun j h a => ?_, hw2⟩
     by_cases e : j = m
     ·subst e; exact Q.out
     ·exact H.out j h (by omega)
    case measure => simp [intOf]; omega
   ·have Q := zaa (show upB ps[m] = false by simpa using q)
    have E := zaa (upsBB_not hlt2 Q.out)
    clear q
    go_wp2_with (go_at_call 116; refine (zmb ps[m] _).mono ?_; rw [Q.out]; rintro e w' ⟨rfl, hw'⟩)
    have hw2 := hb1.out.trans (hw'.mono (by simp; omega))
    go_ret
    exact ⟨zaf E.out.symm, hw2⟩
  ·have E := zaa (upsBB_mk (fun j h => H.out j h (by omega)))
   go_wp2
   go_ret
   exact ⟨zaf E.out.symm, hbw⟩
theorem zmx (i : Nat) (w : World) (hi : i ≤ 1048576) : Calls Tryz.prog 212 #[.int .i64 (i : Int)] w fun e w' => e = .returned (.int .i64 (9 + 2 * (i : Int))) ∧ w' = w := by
 go_enter Tryz.func212, Tryz.ntmps212
 go_wp2
 go_ret
 exact ⟨rfl, rfl⟩
theorem ztl (i : Nat) (a x : Int) (w : World) (hi : i ≤ 1048576) : Calls Tryz.prog 175 #[.int .i64 (i : Int), .agg #[.int .i64 a, .int .i64 x]] w fun e w' => ∃ v', e = .returned v' ∧ RdM w' v' [⟨1, 9 + 2 * (i : Int), a⟩, ⟨1, 9 + 2 * (i : Int) + 1, x⟩] ∧ Below w.heap.size w w' := by
 have R := zaa (rd_mic2 (w.alloc (.cells #[.int .i64 a, .int .i64 x] 130)) 1 (9 + 2 * (i : Int)) a 1 (9 + 2 * (i : Int) + 1) x)
 have B : Hid (Below w.heap.size w ((w.alloc (.cells #[.int .i64 a, .int .i64 x] 130)).alloc (.cells #[.int .i64 1, .int .i64 (9 + 2 * (i : Int)), .int .i64 a, .int .i64 1, .int .i64 (9 + 2 * (i : Int) + 1), .int .i64 x] 118))) := ((Below.refl _ _).alloc (Nat.le_refl _) _).alloc (by simp) _
 go_enter Tryz.func175, Tryz.ntmps175
 go_wp2_with (go_at_call 212; refine (zmx _ _ hi).mono ?_; rintro e w' ⟨rfl, rfl⟩)
 go_ret
 exact ⟨_, rfl, by unfold RdM; simpa using R.out, B.out⟩
theorem inPlace_any (i : Nat) (a x : Int) (w : World) : Calls Tryz.prog 177 #[.int .i64 (i : Int), .agg #[.int .i64 a, .int .i64 x]] w fun e w' => ∃ v', e = .returned v' ∧ RdM w' v' [⟨1, a, x⟩] ∧ Below w.heap.size w w' := by
 have R := zaa (zhf (w.alloc (.cells #[.int .i64 a, .int .i64 x] 130)) 1 a x)
 have B : Hid (Below w.heap.size w ((w.alloc (.cells #[.int .i64 a, .int .i64 x] 130)).alloc (.cells #[.int .i64 1, .int .i64 a, .int .i64 x] 118))) := ((Below.refl _ _).alloc (Nat.le_refl _) _).alloc (by simp) _
 go_enter Tryz.func177, Tryz.ntmps177
 go_wp2
 go_ret
 exact ⟨_, rfl, by unfold RdM; rw [zil]; simpa using R.out, B.out⟩
theorem zix (n : Int) (w : World) : Calls Tryz.prog 176 #[.int .i64 n] w fun e w' => ∃ v', e = .returned v' ∧ RdM w' v' [⟨1, 8, n⟩] ∧ Below w.heap.size w w' := by
 have R := zaa (zhf w 1 8 n)
 have B : Hid (Below w.heap.size w (w.alloc (.cells #[.int .i64 1, .int .i64 8, .int .i64 n] 118))) := (Below.refl _ _).alloc (Nat.le_refl _) _
 go_enter Tryz.func176, Tryz.ntmps176
 go_wp2
 go_ret
 exact ⟨_, rfl, by unfold RdM; rw [zil]; simpa using R.out, B.out⟩
theorem World.ownsRow.below {w w' : World} {base : Nat} {e : TypeId} {size : Nat} {v : Value} {n : Nat} {xs : List Value} (h : w.ownsRow base e size v n xs) (hb : Below w.heap.size w w') : w'.ownsRow base e size v n xs := by
 obtain ⟨hl, h⟩ := h
 refine ⟨hl, ?_⟩
 rcases h with h | ⟨g, cap, cur, h1, h2, h3, h4⟩
 ·exact .inl h
 ·exact .inr ⟨g, cap, cur, h1, h2, (hb.block g (Array.getElem?_eq_some_iff.1 h3).1).trans h3, h4⟩
set_option maxRecDepth 100000 in
set_option maxHeartbeats 4000000 in
theorem storesOf_J (v : Value) (us : List Se) (w : World) (h : RdE w v us) (hn : us.length ≤ 64) :
  Calls Tryz.prog 174 #[v, .func (.func 175) #[] #[]] w fun e w' => ∃ v', e = .returned v' ∧ Row w' 118 3 w.heap.size w'.heap.size v' (jlM us us.length).length (mis (jlM us us.length)) ∧ Below w.heap.size w w' := by
 obtain ⟨aU, cU, rfl, _, hcU⟩ := h.shape
 have HU := zaa hcU
 clear h hcU
 go_enter Tryz.func174, Tryz.ntmps174
 go_wp2
 go_loopw [5, 6, 7, 10] (fun vL _ _ i wr => ∃ m : Nat, m ≤ us.length ∧ i = .int .i64 m ∧ Hid (wr.ownsRow w.heap.size 118 3 vL (jlM us m).length (mis (jlM us m)) ∧ Below w.heap.size w wr) ∧ w.heap.size ≤ wr.heap.size) (fun _ _ _ i _ => us.length - (intOf i).toNat)
 case atStart => exact ⟨0, by omega, rfl, ⟨World.ownsRow_nil _ _ _ _, Below.refl _ _⟩, Nat.le_refl _⟩
 case round =>
  obtain ⟨m, hm, rfl, I, hz⟩ := hrel
  by_cases hlt : m < us.length
  ·obtain ⟨b, o, rfl, hbl, hcell⟩ := HU.out (by omega)
   obtain ⟨d0, d1⟩ := hcell m hlt
   have e0 := (I.out.2.cell (p := ⟨b, o + m * 2, none⟩) hbl).trans d0
   have e1 := (I.out.2.cell (p := ⟨b, o + m * 2 + 1, none⟩) hbl).trans d1
   have m0 : (0 : Int) ≤ (m : Int) := by omega
   have m1 : (m : Int) < (us.length : Int) := by omega
   have NX := zaa (jlM_succ us m hlt)
   have hle := jlM_len us m
   clear d0 d1 hcell
   generalize us[m].at_ = a at *
   generalize us[m].val = x at *
   obtain ⟨wb, hwb⟩ : ∃ wb : World, wb = wr.alloc (.cells #[.int .i64 a, .int .i64 x] 130) := ⟨_, rfl⟩
   have BB : Hid (Below wr.heap.size wr wb) := by rw [hwb]; exact (Below.refl _ _).alloc (Nat.le_refl _) _
   have hzb : wr.heap.size ≤ wb.heap.size := BB.out.size
   have OB : Hid (wb.ownsRow w.heap.size 118 3 u5 (jlM us m).length (mis (jlM us m))) := by rw [hwb]; exact I.out.1.alloc _
   go_wp2_with (first
    | (go_at_call 175; rw [← hwb]; refine (ztl m a x wb (by omega)).mono ?_; rintro e w1 ⟨v1, rfl, hr1, hb1⟩; have O1 := zaa (World.ownsRow.below OB.out hb1); have R1 := zaa hr1; have B1 := zaa hb1; have hz1 : wb.heap.size ≤ w1.heap.size := hb1.size; obtain ⟨a1, c1, rfl, -, -⟩ := hr1.shape; clear hr1 hb1)
    | (at_builtin; refine zag _ rfl (.tmp 15) (.tmp 19) 45 rfl w.heap.size 118 (.agg #[.int .i64 0, .int .i64 0, .int .i64 0]) 3 24 Tryz.underlying45 zbn rfl (by decide) _ _ _ rfl O1.out _ 2 _ rfl R1.out (zck _) (by simp [maxLen]; omega) (by omega) (by omega) ?_))
   intro vN wN hownN hgrN
   have hl := fun q hq => (O1.out.lt q hq).1
   have hzN := hgrN.size
   have G : Hid (wN.ownsRow w.heap.size 118 3 vN (jlM us (m + 1)).length (mis (jlM us (m + 1))) ∧ Below w.heap.size w wN) := by
    refine ⟨?_, ((I.out.2.trans (BB.out.mono hz)).trans (B1.out.mono (by omega))).grown hgrN (by omega) (fun q hq => hl q hq)⟩
    rw [NX.out, zfn, List.length_append]
    exact hownN
   clear hownN hgrN hl
   go_wp2
   go_roundw
   case rel => exact ⟨m + 1, by omega, by go_num, G, by omega⟩
   case measure => simp [intOf]; omega
  ·obtain rfl : m = us.length := by omega
   obtain ⟨aL, cL, hvL⟩ := RdM.form (zad I.out.1).rd rfl
   subst hvL
   go_wp2
   go_ret
   exact ⟨_, rfl, zad I.out.1, I.out.2⟩
set_option maxRecDepth 100000 in
set_option maxHeartbeats 4000000 in
theorem storesOf_P (v : Value) (us : List Se) (w : World) (h : RdE w v us) (hn : us.length ≤ 64) :
  Calls Tryz.prog 174 #[v, .func (.func 177) #[] #[]] w fun e w' => ∃ v', e = .returned v' ∧ Row w' 118 3 w.heap.size w'.heap.size v' (apM us us.length).length (mis (apM us us.length)) ∧ Below w.heap.size w w' := by
 obtain ⟨aU, cU, rfl, _, hcU⟩ := h.shape
 have HU := zaa hcU
 clear h hcU
 go_enter Tryz.func174, Tryz.ntmps174
 go_wp2
 go_loopw [5, 6, 7, 10] (fun vL _ _ i wr => ∃ m : Nat, m ≤ us.length ∧ i = .int .i64 m ∧ Hid (wr.ownsRow w.heap.size 118 3 vL (apM us m).length (mis (apM us m)) ∧ Below w.heap.size w wr) ∧ w.heap.size ≤ wr.heap.size) (fun _ _ _ i _ => us.length - (intOf i).toNat)
 case atStart => exact ⟨0, by omega, rfl, ⟨World.ownsRow_nil _ _ _ _, Below.refl _ _⟩, Nat.le_refl _⟩
 case round =>
  obtain ⟨m, hm, rfl, I, hz⟩ := hrel
  by_cases hlt : m < us.length
  ·obtain ⟨b, o, rfl, hbl, hcell⟩ := HU.out (by omega)
   obtain ⟨d0, d1⟩ := hcell m hlt
   have e0 := (I.out.2.cell (p := ⟨b, o + m * 2, none⟩) hbl).trans d0
   have e1 := (I.out.2.cell (p := ⟨b, o + m * 2 + 1, none⟩) hbl).trans d1
   have m0 : (0 : Int) ≤ (m : Int) := by omega
   have m1 : (m : Int) < (us.length : Int) := by omega
   have NX := zaa (apM_succ us m hlt)
   have hle := apM_len us m
   clear d0 d1 hcell
   generalize us[m].at_ = a at *
   generalize us[m].val = x at *
   obtain ⟨wb, hwb⟩ : ∃ wb : World, wb = wr.alloc (.cells #[.int .i64 a, .int .i64 x] 130) := ⟨_, rfl⟩
   have BB : Hid (Below wr.heap.size wr wb) := by rw [hwb]; exact (Below.refl _ _).alloc (Nat.le_refl _) _
   have hzb : wr.heap.size ≤ wb.heap.size := BB.out.size
   have OB : Hid (wb.ownsRow w.heap.size 118 3 u5 (apM us m).length (mis (apM us m))) := by rw [hwb]; exact I.out.1.alloc _
   go_wp2_with (first
    | (go_at_call 177; rw [← hwb]; refine (inPlace_any m a x wb).mono ?_; rintro e w1 ⟨v1, rfl, hr1, hb1⟩; have O1 := zaa (World.ownsRow.below OB.out hb1); have R1 := zaa hr1; have B1 := zaa hb1; have hz1 : wb.heap.size ≤ w1.heap.size := hb1.size; obtain ⟨a1, c1, rfl, -, -⟩ := hr1.shape; clear hr1 hb1)
    | (at_builtin; refine zag _ rfl (.tmp 15) (.tmp 19) 45 rfl w.heap.size 118 (.agg #[.int .i64 0, .int .i64 0, .int .i64 0]) 3 24 Tryz.underlying45 zbn rfl (by decide) _ _ _ rfl O1.out _ 1 _ rfl R1.out (zck _) (by simp [maxLen]; omega) (by omega) (by omega) ?_))
   intro vN wN hownN hgrN
   have hl := fun q hq => (O1.out.lt q hq).1
   have hzN := hgrN.size
   have G : Hid (wN.ownsRow w.heap.size 118 3 vN (apM us (m + 1)).length (mis (apM us (m + 1))) ∧ Below w.heap.size w wN) := by
    refine ⟨?_, ((I.out.2.trans (BB.out.mono hz)).trans (B1.out.mono (by omega))).grown hgrN (by omega) (fun q hq => hl q hq)⟩
    rw [NX.out, zfn, List.length_append]
    exact hownN
   clear hownN hgrN hl
   go_wp2
   go_roundw
   case rel => exact ⟨m + 1, by omega, by go_num, G, by omega⟩
   case measure => simp [intOf]; omega
  ·obtain rfl : m = us.length := by omega
   obtain ⟨aL, cL, hvL⟩ := RdM.form (zad I.out.1).rd rfl
   subst hvL
   go_wp2
   go_ret
   exact ⟨_, rfl, zad I.out.1, I.out.2⟩
end Go.Proofs.YtcilodgoognmnaaGreatDoor
