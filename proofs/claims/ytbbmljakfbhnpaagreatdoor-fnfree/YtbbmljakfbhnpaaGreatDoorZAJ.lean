/- Several texts laid together: PiE, PiF, PiI, StA. -/
import Derived.Test.YtbbmljakfbhnpaaGreatDoorZAI
import Derived.Deep.RegionLaw
import Derived.Test.YtbbmljakfbhnpaaGreatDoorZAH
import Derived.Test.YtbbmljakfbhnpaaGreatDoorZAG
import Derived.Deep.DeepCutAuto
import Derived.Deep.RegionWith
import Derived.Deep.RegionHeld3
import Derived.Lib.Strings
namespace Go.Proofs.YtbbmljakfbhnpaaGreatDoor
open Go.RowKit

theorem arr11_from (b : Nat) (w : World) : (Instr.sliceAt 84 (.pointer (some ⟨b, 0, none⟩)) (some (.int .i64 3)) none none).run Tryz.prog w = .ok (.slice (some ⟨b, 3, none⟩) 8 8) w := by
 have al : Tryz.prog.arrayLen 84 = 11 := by kernel_rfl
 rw [run_sliceAt_array_l w 84 ⟨b, 0, none⟩ (by kernel_rfl) .i64 3 (by omega) (by rw [al]; omega), al]
 have sz : (sizeOf (Tryz.prog.elem 84)).run Tryz.prog w = .ok 1 w := by kernel_rfl
 rw [sz]
 simp [Result.andThen, slicedAt, Addr.add]
theorem arr11_all (b : Nat) (w : World) : (Instr.sliceAt 84 (.pointer (some ⟨b, 0, none⟩)) none none none).run Tryz.prog w = .ok (.slice (some ⟨b, 0, none⟩) 11 11) w := by
 have al : Tryz.prog.arrayLen 84 = 11 := by kernel_rfl
 rw [run_sliceAt_array_all w 84 ⟨b, 0, none⟩ (by kernel_rfl), al]
 have sz : (sizeOf (Tryz.prog.elem 84)).run Tryz.prog w = .ok 1 w := by kernel_rfl
 rw [sz]
 simp [Result.andThen, slicedAt, Addr.add]
theorem map_all (b : Nat) (w : World) : (Instr.sliceAt 42 (.pointer (some ⟨b, 3, none⟩)) none none none).run Tryz.prog w = .ok (.slice (some ⟨b, 3, none⟩) 8 8) w := by
 have al : Tryz.prog.arrayLen 42 = 8 := by kernel_rfl
 rw [run_sliceAt_array_all w 42 ⟨b, 3, none⟩ (by kernel_rfl), al]
 have sz : (sizeOf (Tryz.prog.elem 42)).run Tryz.prog w = .ok 1 w := by kernel_rfl
 rw [sz]
 simp [Result.andThen, slicedAt, Addr.add]
/-- An inode's words, ahead of its map's. -/
def preC (x : Ino) : List Value := [.int .i64 x.kind, .int .i64 x.size, .int .i64 x.links, .int .i64 0, .int .i64 0, .int .i64 0, .int .i64 0, .int .i64 0, .int .i64 0, .int .i64 0, .int .i64 0]
def mapC (x : Ino) : List Value := [.int .i64 x.m0, .int .i64 x.m1, .int .i64 x.m2, .int .i64 x.m3, .int .i64 x.m4, .int .i64 x.m5, .int .i64 x.m6, .int .i64 x.m7]
theorem splice_ino (x : Ino) : splice (preC x) 3 (mapC x) = x.cs := rfl
theorem mapC_one (x : Ino) : ∀ v ∈ mapC x, v.oneCell' = true := by
 intro v hv
 simp [mapC] at hv
 rcases hv with rfl | rfl | rfl | rfl | rfl | rfl | rfl | rfl <;> rfl
theorem mapC_at (x : Ino) (j : Nat) (v : Value) (h : (mapC x)[j]? = some v) : x.cs[3 + j]? = some v := by
 have hj : j < 8 := by
  have := (List.getElem?_eq_some_iff.1 h).1
  exact this
 rcases (show j = 0 ∨ j = 1 ∨ j = 2 ∨ j = 3 ∨ j = 4 ∨ j = 5 ∨ j = 6 ∨ j = 7 by omega) with rfl | rfl | rfl | rfl | rfl | rfl | rfl | rfl <;> exact h
theorem ns_cs (x : Ino) : zcv x.ns = x.cs := rfl
theorem rd_ns {x : Ino} {w : World} {b : Nat} {t : TypeId} (h : w.heap[b]? = some (.cells x.cs.toArray t (0, 0))) : RdI w (.slice (some ⟨b, 0, none⟩) 11 11) x.ns := by
 refine ⟨by rw [zep, Nat.mul_one], some ⟨b, 0, none⟩, 11, rfl, ⟨Nat.le_refl _, fun e => by cases e⟩, fun _ => ⟨b, 0, rfl, (Array.getElem?_eq_some_iff.1 h).1, fun j hj => ?_⟩⟩
 rw [Nat.zero_add, ns_cs]
 exact (zas (xs := x.cs) h j).1
theorem uf_wr (i : Int) (x : Ino) : ufL (48 + 12 * i) x.ns x.ns.length = wrL i x 8 := by
 have e1 : x.ns.length = 11 := rfl
 rw [e1]
 simp [ufL, wrL, List.range_succ, Ino.ns, Ino.map]

theorem sz3 : (Tryz.prog.info? 3).map (·.size) = some 1 := by kernel_rfl

set_option maxRecDepth 100000 in
set_option maxHeartbeats 4000000 in
theorem zhs (i : Int) (x : Ino) (w : World) (hT : TS w) (hE : ED w) (hr : x.R) :
  Calls Tryz.prog 9 #[.int .i64 i, x.v] w fun e w' => ∃ v', e = .returned (.tuple #[v', .int .i64 (iuC i x)]) ∧ Row w' 47 2 w.heap.size w'.heap.size v' (iuL i x).length (ses (iuL i x)) ∧ Below w.heap.size w w' := by
 have hv : x.v = .agg x.cs.toArray := rfl
 have BW : Hid (Below w.heap.size w (w.alloc (.cells x.cs.toArray 44))) := (Below.refl _ _).alloc (Nat.le_refl _) _
 have CA : Hid (∀ w', Below (w.alloc (.cells x.cs.toArray 44)).heap.size (w.alloc (.cells x.cs.toArray 44)) w' → ∀ j, w'.cell? ⟨w.heap.size, j, none⟩ = x.cs[j]?) := fun w' hb j => by
  have : w'.heap[w.heap.size]? = some (.cells x.cs.toArray 44 (0, 0)) := (hb.block _ (by simp)).trans (zah rfl)
  exact (zas (xs := x.cs) this j).1
 have T : Hid (TS (w.alloc (.cells x.cs.toArray 44))) := hT.below BW.out
 have TE : Hid (ED (w.alloc (.cells x.cs.toArray 44))) := hE.below BW.out
 have LF := zaa (fun w1 (h : TS w1) (g : ED w1) => znq x w1 h g hr)
 have hz : w.heap.size < (w.alloc (.cells x.cs.toArray 44)).heap.size := by simp
 obtain ⟨W, hW⟩ : ∃ W, W = w.alloc (.cells x.cs.toArray 44) := ⟨_, rfl⟩
 rw [← hW] at BW CA T TE hz
 rw [hv]
 clear hT hE hr
 rcases iu_cases i x with ⟨c1, e1, e2⟩ | ⟨c1, c2, e1, e2⟩ | ⟨c1, c2, e1, e2⟩
 ·rw [e1, e2]
  obtain ⟨k1, k2⟩ := ino_out (i := i) (f := 0) (by omega)
  have K1 := zaa k1
  have K2 := zaa k2
  clear e1 e2 c1 k1 k2
  go_enter Tryz.func9, Tryz.ntmps9
  go_wp2_with fail
  rw [← hW]
  clear hW
  refine (zgl _ _ _).mono ?_
  rw [K2.out]
  rintro e w' ⟨rfl, hw'⟩
  subst w'
  go_wp2
  go_ret2
  exact ⟨_, rfl, Row.nil _ _ _ _ _, BW.out⟩
 ·rw [e1, e2]
  obtain ⟨k1, k2⟩ := ino_in (i := i) (f := 0) (by omega) (by omega)
  have K1 := zaa k1
  have K2 := zaa k2
  have C2 := zaa c2
  clear e1 e2 c1 c2 k1 k2
  go_enter Tryz.func9, Tryz.ntmps9
  go_wp2_with fail
  rw [← hW]
  clear hW
  refine (zgl _ _ _).mono ?_
  rw [K1.out, K2.out]
  rintro e w' ⟨rfl, hw'⟩
  subst w'
  obtain ⟨p0, p1, p2, p3, p4, p5, p6, p7, p8, p9, p10⟩ := Ino.all (CA.out W (Below.refl _ _))
  go_wp2_with fail
  refine (LF.out _ T.out TE.out).mono ?_
  rw [C2.out]
  rintro e w1 ⟨rfl, hb⟩
  have B1 := zaa (zab BW.out hb (by omega))
  clear hb p0 p1 p2 p3 p4 p5 p6 p7 p8 p9 p10
  go_wp2
  go_ret2
  exact ⟨_, rfl, Row.nil _ _ _ _ _, B1.out⟩
 ·rw [e1, e2]
  obtain ⟨k1, k2⟩ := ino_in (i := i) (f := 0) (by omega) (by omega)
  have K1 := zaa k1
  have K2 := zaa k2
  have C2 := zaa c2
  have UF := zaa (uf_wr i x)
  have RA := zaa (show 0 ≤ 48 + 12 * i ∧ 48 + 12 * i ≤ 1000 by omega)
  clear e1 e2 c1 c2 k1 k2
  go_enter Tryz.func9, Tryz.ntmps9
  go_wp2_with fail
  rw [← hW]
  clear hW
  refine (zgl _ _ _).mono ?_
  rw [K1.out, K2.out]
  rintro e w' ⟨rfl, hw'⟩
  subst w'
  obtain ⟨p0, p1, p2, p3, p4, p5, p6, p7, p8, p9, p10⟩ := Ino.all (CA.out W (Below.refl _ _))
  go_wp2_with fail
  refine (LF.out _ T.out TE.out).mono ?_
  rw [C2.out]
  rintro e w1 ⟨rfl, hb⟩
  have B1 := zaa (zab BW.out hb (by omega))
  have hz1 : W.heap.size ≤ w1.heap.size := hb.size
  have HB := zaa hb
  obtain ⟨d0, d1, d2, d3, d4, d5, d6, d7, d8, d9, d10⟩ := Ino.all (CA.out w1 hb)
  clear hb p0 p1 p2 p3 p4 p5 p6 p7 p8 p9 p10
  go_wp2_with fail
  clear d0 d1 d2 d3 d4 d5 d6 d7 d8 d9 d10
  obtain ⟨wb, hwb⟩ : ∃ wb, wb = w1.alloc (.cells (preC x).toArray 84) := ⟨_, rfl⟩
  have HC : Hid (Below w1.heap.size w1 wb) := by rw [hwb]; exact (Below.refl _ _).alloc (Nat.le_refl _) _
  have HZ : w1.heap.size < wb.heap.size := by rw [hwb]; simp
  have HG : Hid (∀ w', Below wb.heap.size wb w' → w'.heap[w1.heap.size]? = some (.cells (preC x).toArray 84 (0, 0))) := fun w' hb => (hb.block _ HZ).trans (by rw [hwb]; exact zah rfl)
  have HS : Hid (∀ w', Below wb.heap.size wb w' → ∀ j v, (mapC x)[j]? = some v → w'.cell? ((⟨w.heap.size, 3, none⟩ : Addr).add j) = some v) := fun w' hb j v hv => by rw [Addr.add_lit]; exact (CA.out w' (zab (zab HB.out HC.out hz1) hb (by omega)) (3 + j)).trans (mapC_at x j v hv)
  have HD : Hid (∀ w', Below wb.heap.size wb w' → Below w1.heap.size w1 w') := fun w' hb => zab HC.out hb (by omega)
  unfold preC at hwb
  rw [← hwb]
  clear hwb
  have s1 := arr11_from w1.heap.size
  have s2 := map_all w.heap.size
  have s3 := arr11_all w1.heap.size
  go_region_held3 (fun _ => True) (trivial)
   (first
    | (refine step_copy_splice rfl (.tmp 27) (.tmp 29) 28 28 rfl 3 Tryz.underlying28 sz3 _ _ _ _ _ _ rfl rfl w1.heap.size 3 (preC x) 84 (HG.out _ (by repeat (first | exact Below.refl _ _ | refine Below.drew ?_))) (mapC x) rfl (fun _ => ⟨rfl, _, rfl, HS.out _ (by repeat (first | exact Below.refl _ _ | refine Below.drew ?_))⟩) (Nat.le_refl 11) (mapC_one x) w1.heap.size w1 (HD.out _ (by repeat (first | exact Below.refl _ _ | refine Below.drew ?_))) (Nat.le_refl _) ?_; intro w4 hg4 hb4))
  all_goals
   rw [splice_ino] at hg4
   have R4 := zaa (rd_ns hg4.out)
   have B4 := zaa (zab B1.out hb4 (by omega))
   have hz4 : w1.heap.size ≤ w4.heap.size := hb4.size
   clear hg4 hb4 HG HS HD HC s1 s2
   go_wp2_with fail
   refine (zoa _ _ x.ns _ R4.out (show (11 : Nat) ≤ 64 by omega) RA.out).mono ?_
   rw [UF.out]
   rintro e w5 ⟨v5, rfl, hr5, hb5⟩
   obtain ⟨-, aL, cL, hvL, -⟩ := hr5.rd
   subst hvL
   have R5 := zaa (hr5.wide (by omega : w.heap.size ≤ w4.heap.size) (Nat.le_refl _))
   have B5 := zaa (zab B4.out hb5 (by omega))
   clear hr5 hb5
   go_wp2
   go_ret2
   exact ⟨_, rfl, R5.out, B5.out⟩
end Go.Proofs.YtbbmljakfbhnpaaGreatDoor

namespace Go.Proofs.YtbbmljakfbhnpaaGreatDoor
open Go.RowKit

/-- The variable of a free entry lies as the program's start has laid it. -/
def FD (w : World) : Prop := ∃ t fr, w.heap[1]? = some (.cells #[.int .i64 0, .string ⟨#[]⟩, .int .i64 (-1)] t fr)
theorem FD.lt {w : World} (h : FD w) : 1 < w.heap.size := by
 obtain ⟨t, fr, h⟩ := h
 exact (Array.getElem?_eq_some_iff.1 h).1
theorem FD.below {w w' : World} (h : FD w) (hb : Below w.heap.size w w') : FD w' := by
 have hl := h.lt
 obtain ⟨t, fr, h⟩ := h
 exact ⟨t, fr, (hb.block _ hl).trans h⟩
theorem FD.cells {w : World} (h : FD w) : w.cell? ⟨1, 0, none⟩ = some (.int .i64 0) ∧ w.cell? ⟨1, 1, none⟩ = some (.string ⟨#[]⟩) ∧ w.cell? ⟨1, 2, none⟩ = some (.int .i64 (-1)) := by
 obtain ⟨t, fr, h⟩ := h
 simp [World.cell?, h]
/-- Two entries are alike. -/
def zlb (a : Int) (s : ByteArray) (c a' : Int) (s' : ByteArray) (c' : Int) : Bool := (a == a') && ((s.toList == s'.toList) && (c == c'))

set_option maxRecDepth 100000 in
set_option maxHeartbeats 4000000 in
@[go_sem ↓] theorem eqDen (a : Int) (s : ByteArray) (c a' : Int) (s' : ByteArray) (c' : Int) (w : World) : (Op.equalIn 10000 50 (.agg #[.int .i64 a, .string s, .int .i64 c]) (.agg #[.int .i64 a', .string s', .int .i64 c'])).run Tryz.prog w = .ok (zlb a s c a' s' c') w := by
 unfold zlb
 cases g0 : (a == a')
 ·go_simp
 cases g1 : (s.toList == s'.toList)
 ·go_simp
 cases g2 : (c == c')
 ·go_simp
 ·go_simp
theorem zvz : (⟨#[]⟩ : ByteArray).toList = [] := (noBytes _).2 rfl
theorem zrw (x : Den) : zlb x.dir x.name x.child 0 ⟨#[]⟩ (-1) = x.freeB := by
 unfold zlb Den.freeB
 congr 2
 rw [zvz, Bool.eq_iff_iff, beq_iff_eq, beq_iff_eq]
 exact noBytes x.name
theorem Den.okB_free {x : Den} (h : x.freeB = true) : x.okB = true := by unfold Den.okB; rw [h]; rfl
theorem Den.okB_not {x : Den} (h : x.freeB = false) : x.okB = (decide (1 ≤ x.child ∧ x.child ≤ 15) && (decide (0 ≤ x.dir ∧ x.dir ≤ 15) && nmB x.name)) := by unfold Den.okB; rw [h, Bool.false_or]
theorem packC_name (s : ByteArray) : (zov s == 0) = nmB s := by
 unfold zov
 cases h : nmB s with
 | true =>
  have := (of_decide_eq_true h : 1 ≤ s.size ∧ s.size ≤ 6 ∧ _)
  rw [if_neg (by omega), if_pos rfl]; rfl
 | false =>
  split
  ·rfl
  ·rw [if_neg (by decide)]; rfl

theorem zof (s : ByteArray) (w : World) (hs : s.size ≤ maxLen) : Calls Tryz.prog 75 #[.string s] w fun e w' => e = .returned (.bool (nmB s)) ∧ Below w.heap.size w w' := by
 have P := zaa (packC_name s)
 have LP := zaa (fun w1 => zlg s w1 hs)
 generalize zjz s = pv at *
 generalize zov s = pc at *
 clear hs
 go_enter Tryz.func75, Tryz.ntmps75
 go_wp2_with fail
 refine (LP.out _).mono ?_
 rintro e w1 ⟨rfl, hb1⟩
 go_wp2
 go_ret
 exact ⟨zag P.out, hb1⟩

set_option maxRecDepth 100000 in
set_option maxHeartbeats 4000000 in
theorem zuq (x : Den) (w : World) (hF : FD w) (hs : x.name.size ≤ maxLen) : Calls Tryz.prog 49 #[x.v] w fun e w' => e = .returned (.bool x.okB) ∧ Below w.heap.size w w' := by
 have LN := zaa (fun w1 => zof x.name w1 hs)
 have DF := zrw x
 have OF := @Den.okB_free x
 have ON := @Den.okB_not x
 obtain ⟨d, s, c⟩ := x
 simp only at LN DF ON hs
 unfold Den.v
 simp only
 have BW := zaa ((Below.refl w.heap.size w).alloc (Nat.le_refl _) (.cells #[.int .i64 d, .string s, .int .i64 c] 50))
 have CB : Hid (∀ w', Below (w.alloc (.cells #[.int .i64 d, .string s, .int .i64 c] 50)).heap.size (w.alloc (.cells #[.int .i64 d, .string s, .int .i64 c] 50)) w' → w'.cell? ⟨w.heap.size, 0, none⟩ = some (.int .i64 d) ∧ w'.cell? ⟨w.heap.size, 1, none⟩ = some (.string s) ∧ w'.cell? ⟨w.heap.size, 2, none⟩ = some (.int .i64 c)) := fun w' hb => zbb ((hb.block _ (by simp)).trans (zah rfl))
 obtain ⟨x0, x1, x2⟩ := CB.out _ (Below.refl _ _)
 obtain ⟨f0, f1, f2⟩ := FD.cells (hF.below BW.out)
 clear hF hs
 cases h0 : (Den.mk d s c).freeB with
 | true =>
  rw [h0] at DF
  have E := zaa (OF h0)
  clear OF ON LN CB h0
  go_enter Tryz.func49, Tryz.ntmps49
  go_wp2
  go_ret
  exact ⟨zag E.out.symm, BW.out⟩
 | false =>
  rw [h0] at DF
  have E := zaa (ON h0)
  clear OF ON h0
  cases h1 : nmB s with
  | false =>
   rw [h1] at E
   have N1 := zaa h1
   clear h1 CB
   go_enter Tryz.func49, Tryz.ntmps49
   go_wp2_with fail
   refine (LN.out _).mono ?_
   rw [N1.out]
   rintro e w1 ⟨rfl, hb1⟩
   have B1 := zaa (zab BW.out hb1 BW.out.size)
   clear hb1 x0 x1 x2 f0 f1 f2
   go_wp2
   go_ret
   exact ⟨zag (by rw [E.out, Bool.and_false, Bool.and_false]), B1.out⟩
  | true =>
   rw [h1] at E
   have N1 := zaa h1
   clear h1
   by_cases h2 : 0 ≤ d ∧ d < 16
   case neg =>
    have E2 := zaa (show (Den.mk d s c).okB = false by rw [E.out, decide_eq_false (show ¬ (0 ≤ d ∧ d ≤ 15) by omega), Bool.false_and, Bool.and_false])
    have H2 := zaa h2
    clear h2 E
    go_enter Tryz.func49, Tryz.ntmps49
    go_wp2_with fail
    refine (LN.out _).mono ?_
    rw [N1.out]
    rintro e w1 ⟨rfl, hb1⟩
    have B1 := zaa (zab BW.out hb1 BW.out.size)
    clear x0 x1 x2 f0 f1 f2
    obtain ⟨x0, x1, x2⟩ := CB.out _ hb1
    clear hb1 CB
    go_wp2_with fail
    refine (zdl _ _ _ H2.out).mono ?_
    rintro e w' ⟨rfl, hw'⟩
    subst w'
    go_wp2
    go_ret
    exact ⟨zag E2.out.symm, B1.out⟩
   by_cases h3 : 0 ≤ c ∧ c < 16
   case neg =>
    have E2 := zaa (show (Den.mk d s c).okB = false by rw [E.out, decide_eq_false (show ¬ (1 ≤ c ∧ c ≤ 15) by omega), Bool.false_and])
    have H2 := zaa h2
    have H3 := zaa h3
    clear h2 h3 E
    go_enter Tryz.func49, Tryz.ntmps49
    go_wp2_with fail
    refine (LN.out _).mono ?_
    rw [N1.out]
    rintro e w1 ⟨rfl, hb1⟩
    have B1 := zaa (zab BW.out hb1 BW.out.size)
    clear x0 x1 x2 f0 f1 f2
    obtain ⟨x0, x1, x2⟩ := CB.out _ hb1
    clear hb1 CB
    go_wp2_with fail
    refine (zbq _ _ _ H2.out).mono ?_
    rintro e w' ⟨rfl, hw'⟩
    subst w'
    go_wp2_with fail
    refine (zdl _ _ _ H3.out).mono ?_
    rintro e w' ⟨rfl, hw'⟩
    subst w'
    go_wp2
    go_ret
    exact ⟨zag E2.out.symm, B1.out⟩
   have E2 := zaa (show (Den.mk d s c).okB = (c != 0) by
    rw [E.out, decide_eq_true (show 0 ≤ d ∧ d ≤ 15 by omega)]
    by_cases h : c = 0
    ·rw [h]; rfl
    ·rw [decide_eq_true (show 1 ≤ c ∧ c ≤ 15 by omega), eq_comm]; simpa using h)
   have H2 := zaa h2
   have H3 := zaa h3
   clear h2 h3 E
   go_enter Tryz.func49, Tryz.ntmps49
   go_wp2_with fail
   refine (LN.out _).mono ?_
   rw [N1.out]
   rintro e w1 ⟨rfl, hb1⟩
   have B1 := zaa (zab BW.out hb1 BW.out.size)
   clear x0 x1 x2 f0 f1 f2
   obtain ⟨x0, x1, x2⟩ := CB.out _ hb1
   clear hb1 CB
   go_wp2_with fail
   refine (zbq _ _ _ H2.out).mono ?_
   rintro e w' ⟨rfl, hw'⟩
   subst w'
   go_wp2_with fail
   refine (zbq _ _ _ H3.out).mono ?_
   rintro e w' ⟨rfl, hw'⟩
   subst w'
   go_wp2
   go_ret
   exact ⟨zag E2.out.symm, B1.out⟩

theorem pk_none {s : ByteArray} (h : s.size = 0) : pk s s.size = 0 := by
 rw [h]; rfl
end Go.Proofs.YtbbmljakfbhnpaaGreatDoor

namespace Go.Proofs.YtbbmljakfbhnpaaGreatDoor
open Go.RowKit

theorem rd_den (w1 : World) (x : Den) : Rd (w1.alloc (.cells #[.int .i64 x.dir, .string x.name, .int .i64 x.child] 50)) 3 (.slice (some ⟨w1.heap.size, 0, none⟩) 1 1) 1 (dens [x]) := by
 refine ⟨rfl, _, _, rfl, ⟨Nat.le_refl _, fun e => by cases e⟩, fun _ => ⟨w1.heap.size, 0, rfl, by simp, fun j hj => ?_⟩⟩
 obtain ⟨e0, e1, e2⟩ := zbb (zah (w := w1) (o := .cells #[.int .i64 x.dir, .string x.name, .int .i64 x.child] 50) rfl)
 rcases (show j = 0 ∨ j = 1 ∨ j = 2 by omega) with rfl | rfl | rfl
 ·exact e0
 ·exact e1
 ·exact e2
theorem zha (l : List Den) : ∀ u ∈ dens l, u.oneCell' = true := by
 intro u hu
 simp only [dens, List.mem_flatMap] at hu
 obtain ⟨m, _, hm⟩ := hu
 simp [Den.cells] at hm
 rcases hm with rfl | rfl | rfl <;> rfl
theorem zix (l l' : List Den) : dens (l ++ l') = dens l ++ dens l' := by simp [dens]
/-- A row of entries that grows. -/
structure DnI (W w : World) (vL : Value) (ds : List Den) : Prop where
 l : w.ownsRow W.heap.size 50 3 vL ds.length (dens ds)
 b : Below W.heap.size W w
theorem DnI.z {W w : World} {vL : Value} {ds : List Den} (h : DnI W w vL ds) : W.heap.size ≤ w.heap.size := h.b.size
theorem DnI.below {W w w' : World} {vL : Value} {ds : List Den} (h : DnI W w vL ds) (hb : Below w.heap.size w w') : DnI W w' vL ds :=
 ⟨((zad h.l).below hb (Nat.le_refl _)).1, zab h.b hb h.z⟩
theorem DnI.grow {W w w' : World} {vL v' : Value} {ds : List Den} (h : DnI W w vL ds) (ms : List Den) (ho : w'.ownsRow W.heap.size 50 3 v' (ds.length + ms.length) (dens ds ++ dens ms)) (hg : w.grownBy w' vL.ownBlock) : DnI W w' v' (ds ++ ms) :=
 ⟨by rw [zix, List.length_append]; exact ho, h.b.grown hg h.z (fun q hq => (h.l.lt q hq).1)⟩
/-- The entries that are taken. -/
def zar (ps : List Den) : List Den := ps.filter fun x => !x.freeB
theorem taken_succ {ps : List Den} {k : Nat} (h : k < ps.length) : zar (ps.take (k + 1)) = if ps[k].freeB = true then zar (ps.take k) else zar (ps.take k) ++ [ps[k]] := by
 unfold zar
 rw [List.take_succ_eq_append_getElem h, List.filter_append]
 cases hf : ps[k].freeB <;> simp [hf]
theorem zmg (ps : List Den) : (zar ps).length ≤ ps.length := List.length_filter_le _ _

set_option maxRecDepth 100000 in
set_option maxHeartbeats 4000000 in
theorem zgt (v : Value) (ps : List Den) (w : World) (h : RdD w v ps) (hn : ps.length ≤ 4096) (hF : FD w) :
  Calls Tryz.prog 35 #[v] w fun e w' => ∃ v', e = .returned v' ∧ Row w' 50 3 w.heap.size w'.heap.size v' (zar ps).length (dens (zar ps)) ∧ Below w.heap.size w w' := by
 obtain ⟨aP, cP, rfl, _, hcP⟩ := h.shape
 have HP := zaa hcP
 have F := zaa hF
 clear h hcP hF
 go_enter Tryz.func35, Tryz.ntmps35
 go_wp2
 go_loopw [3, 5, 8] (fun vL _ i wr => ∃ k : Nat, k ≤ ps.length ∧ i = .int .i64 k ∧ Hid (DnI w wr vL (zar (ps.take k))) ∧ w.heap.size ≤ wr.heap.size) (fun _ _ i _ => ps.length - (intOf i).toNat)
 case atStart => exact ⟨0, by omega, rfl, ⟨World.ownsRow_nil _ _ _ _, Below.refl _ _⟩, Nat.le_refl _⟩
 case round =>
  obtain ⟨k, hk, rfl, I, hz⟩ := hrel
  by_cases hlt : k < ps.length
  ·obtain ⟨b, o, rfl, hbl, hcell⟩ := HP.out (by omega)
   obtain ⟨a0, a1, a2⟩ := hcell k hlt
   have d0 := (I.out.b.cell (p := ⟨b, o + k * 3, none⟩) hbl).trans a0
   have d1 := (I.out.b.cell (p := ⟨b, o + k * 3 + 1, none⟩) hbl).trans a1
   have d2 := (I.out.b.cell (p := ⟨b, o + k * 3 + 2, none⟩) hbl).trans a2
   have k0 : (0 : Int) ≤ (k : Int) := by omega
   have k1 : (k : Int) < (ps.length : Int) := by omega
   have TS := zaa (taken_succ hlt)
   have TL := zmg (ps.take k)
   rw [List.length_take] at TL
   have DF := zrw ps[k]
   clear a0 a1 a2 hcell
   generalize ps[k] = x at *
   have IB : Hid (DnI w (wr.alloc (.cells #[.int .i64 x.dir, .string x.name, .int .i64 x.child] 50)) u3 (zar (ps.take k))) := I.out.below ((Below.refl _ _).alloc (Nat.le_refl _) _)
   obtain ⟨f0, f1, f2⟩ := FD.cells (F.out.below IB.out.b)
   have hzb := IB.out.z
   cases hf : x.freeB with
   | true =>
    have G : Hid (DnI w (wr.alloc (.cells #[.int .i64 x.dir, .string x.name, .int .i64 x.child] 50)) u3 (zar (ps.take (k + 1)))) := by unfold Hid; rw [TS.out, if_pos hf]; exact IB.out
    rw [hf] at DF
    clear IB I TS hf TL
    go_wp2
    go_roundw
    case rel => exact ⟨k + 1, by omega, by go_num, G, hzb⟩
    case measure => simp [intOf]; omega
   | false =>
    have IC : Hid (DnI w ((wr.alloc (.cells #[.int .i64 x.dir, .string x.name, .int .i64 x.child] 50)).alloc (.cells #[.int .i64 x.dir, .string x.name, .int .i64 x.child] 50)) u3 (zar (ps.take k))) := IB.out.below ((Below.refl _ _).alloc (Nat.le_refl _) _)
    have RC := zaa (rd_den (wr.alloc (.cells #[.int .i64 x.dir, .string x.name, .int .i64 x.child] 50)) x)
    have hzc := IC.out.z
    have TN : Hid (zar (ps.take (k + 1)) = zar (ps.take k) ++ [x]) := by unfold Hid; rw [TS.out, if_neg (by rw [hf]; decide)]
    rw [hf] at DF
    rw [World.size_alloc] at RC
    clear IB I TS hf
    go_wp2_with (at_builtin; refine zae _ rfl (.tmp 15) (.tmp 17) 24 rfl w.heap.size 50 (.agg #[.int .i64 0, .string ⟨#[]⟩, .int .i64 0]) 3 32 Tryz.underlying24 zmj rfl (by decide) _ _ _ rfl IC.out.l _ 1 _ rfl RC.out (zha _) (by simp [maxLen]; omega) (by omega) (by omega) ?_)
    intro vN wN hownN hgrN
    have G := zaa (IC.out.grow [x] hownN hgrN)
    rw [← TN.out] at G
    have hzN := G.out.z
    clear hownN hgrN IC RC
    go_wp2
    go_roundw
    case rel => exact ⟨k + 1, by omega, by go_num, G, hzN⟩
    case measure => simp [intOf]; omega
  ·obtain rfl : k = ps.length := by omega
   have E := zaa (show zar (ps.take ps.length) = zar ps by rw [List.take_length])
   rw [E.out] at I
   obtain ⟨-, aL, cL, hvL, -⟩ := (zad I.out.l).rd
   subst hvL
   go_wp2
   go_ret
   exact ⟨_, rfl, zad I.out.l, I.out.b⟩
end Go.Proofs.YtbbmljakfbhnpaaGreatDoor

namespace Go.Proofs.YtbbmljakfbhnpaaGreatDoor
open Go.RowKit

def zei (ss : List ByteArray) : List Value := ss.map Value.string
theorem zhl (ss : List ByteArray) : (zei ss).length = ss.length := by simp [zei]
theorem zmy (ss : List ByteArray) (k : Nat) (h : k < ss.length) : (zei ss)[k]? = some (.string ss[k]) := by simp [zei, h]
theorem zbf (ss : List ByteArray) : ∀ u ∈ zei ss, u.oneCell' = true := by
 intro u hu
 simp only [zei, List.mem_map] at hu
 obtain ⟨s, _, rfl⟩ := hu
 rfl
def RdT (w : World) (v : Value) (ss : List ByteArray) : Prop := Rd w 1 v ss.length (zei ss)
theorem RdT.shape {w : World} {v : Value} {ss : List ByteArray} (h : RdT w v ss) : ∃ ao cap, v = .slice ao ss.length cap ∧ ss.length ≤ cap ∧ (0 < ss.length → ∃ b o, ao = some ⟨b, o, none⟩ ∧ b < w.heap.size ∧ ∀ k (h : k < ss.length), w.cell? ⟨b, o + k, none⟩ = some (.string ss[k])) := by
 obtain ⟨_, ao, cap, rfl, h2, h3⟩ := h
 refine ⟨ao, cap, rfl, h2.1, fun hn => ?_⟩
 obtain ⟨b, o, e, hb, hc⟩ := h3 hn
 exact ⟨b, o, e, hb, fun k hk => (hc k (by omega)).trans (zmy ss k hk)⟩
theorem zes : (Tryz.prog.info? 9).map (fun i => (i.zero, i.size, i.bytes)) = some (some (.string ⟨#[]⟩), 1, 16) := by kernel_rfl
theorem zhe (w1 : World) (x : ByteArray) : Rd (w1.alloc (.cells #[.string x] 9)) 1 (.slice (some ⟨w1.heap.size, 0, none⟩) 1 1) 1 (zei [x]) := by
 refine ⟨rfl, _, _, rfl, ⟨Nat.le_refl _, fun e => by cases e⟩, fun _ => ⟨w1.heap.size, 0, rfl, by simp, fun j hj => ?_⟩⟩
 obtain rfl : j = 0 := by omega
 exact (zas (xs := [.string x]) (zah rfl) 0).1

theorem zii {B : Nat} {a w : World} (h : Below B a w) (n : Nat) : Below B a (w.drewN n) := by
 induction n with
 | zero => exact h
 | succ n ih => exact ⟨ih.os, ih.tape, ih.output, ih.size, ih.block⟩

end Go.Proofs.YtbbmljakfbhnpaaGreatDoor

namespace Go.Proofs.YtbbmljakfbhnpaaGreatDoor
open Go.RowKit

/-- A row of texts that grows. -/
structure SnI (W w : World) (vL : Value) (ss : List ByteArray) : Prop where
 l : w.ownsRow W.heap.size 9 1 vL ss.length (zei ss)
 b : Below W.heap.size W w
theorem SnI.z {W w : World} {vL : Value} {ss : List ByteArray} (h : SnI W w vL ss) : W.heap.size ≤ w.heap.size := h.b.size
theorem SnI.below {W w w' : World} {vL : Value} {ss : List ByteArray} (h : SnI W w vL ss) (hb : Below w.heap.size w w') : SnI W w' vL ss :=
 ⟨((zad h.l).below hb (Nat.le_refl _)).1, zab h.b hb h.z⟩
theorem strs_app (l l' : List ByteArray) : zei (l ++ l') = zei l ++ zei l' := by simp [zei]
theorem SnI.grow {W w w' : World} {vL v' : Value} {ss : List ByteArray} (h : SnI W w vL ss) (l : List ByteArray) {m : Nat} (hm : m = l.length) (ho : w'.ownsRow W.heap.size 9 1 v' (ss.length + m) (zei ss ++ zei l)) (hg : w.grownBy w' vL.ownBlock) : SnI W w' v' (ss ++ l) :=
 ⟨by rw [strs_app, List.length_append, ← hm]; exact ho, h.b.grown hg h.z (fun q hq => (h.l.lt q hq).1)⟩
theorem SnI.rd {W w : World} {vL : Value} {ss : List ByteArray} (h : SnI W w vL ss) : RdT w vL ss := (zad h.l).rd
theorem SnI.form {W w : World} {vL : Value} {ss : List ByteArray} (h : SnI W w vL ss) (hn : vL ≠ .slice none 0 0) : ∃ b c, vL = .slice (some ⟨b, 0, none⟩) ss.length c ∧ ss.length ≤ c ∧ W.heap.size ≤ b ∧ b < w.heap.size := by
 rcases (zad h.l).shape with ⟨e, _⟩ | ⟨b, c, rfl, hc, _⟩
 ·exact absurd e hn
 ·obtain ⟨_, h1, _, h2, _⟩ := (zad h.l).at
  exact ⟨b, c, rfl, hc, h1, h2⟩
theorem SnI.some_ {W w : World} {vL : Value} {ss : List ByteArray} (h : SnI W w vL ss) (hn : 0 < ss.length) : vL ≠ .slice none 0 0 := by
 rcases (zad h.l).shape with ⟨_, e, _⟩ | ⟨b, c, rfl, _⟩
 ·omega
 ·intro e; cases e
theorem zqy {w : World} {ao : Option Addr} {n c : Nat} {l : List ByteArray} {m : Nat} (h : RdT w (.slice ao n c) l) (hm : m ≤ l.length) : Rd w 1 (.slice ao m c) m (zei (l.take m)) := by
 obtain ⟨_, ao', cap, e, h2, h3⟩ := h
 injection e with e1 e2 e3
 subst e1 e2 e3
 have hl : (l.take m).length = m := by rw [List.length_take]; omega
 refine ⟨by rw [zhl, hl, Nat.mul_one], ao, c, rfl, ⟨by omega, h2.2⟩, fun hp => ?_⟩
 obtain ⟨b, o, rfl, hb, hcl⟩ := h3 (by omega)
 refine ⟨b, o, rfl, hb, fun j hj => ?_⟩
 rw [hcl j (by omega), zmy _ _ (by omega), zmy _ _ (by omega), List.getElem_take]
theorem zrn {w : World} {b o n c : Nat} {l : List ByteArray} {m : Nat} (h : RdT w (.slice (some ⟨b, o, none⟩) n c) l) (hm : m ≤ l.length) : Rd w 1 (.slice (some ⟨b, o + m, none⟩) (n - m) (c - m)) (n - m) (zei (l.drop m)) := by
 obtain ⟨ao, cap, e, hc, hcell⟩ := h.shape
 injection e with e1 e2 e3
 subst e1 e2 e3
 refine ⟨by rw [zhl, Nat.mul_one, List.length_drop], some ⟨b, o + m, none⟩, c - m, rfl, ⟨by omega, fun e => by cases e⟩, fun hp => ?_⟩
 obtain ⟨b', o', e', hb, hcl⟩ := hcell (by omega)
 cases e'
 refine ⟨b, o + m, rfl, hb, fun j hj => ?_⟩
 rw [zmy _ j (by rw [List.length_drop]; omega), List.getElem_drop]
 have := hcl (m + j) (by omega)
 rw [← Nat.add_assoc] at this
 exact this
theorem rdt_none {w : World} {a : Addr} {c : Nat} {l : List ByteArray} {m : Nat} (hm : m = l.length) : Rd w 1 (.slice (some a) 0 c) 0 (zei (l.drop m)) :=
 ⟨by rw [zhl, List.length_drop]; omega, some a, c, rfl, ⟨Nat.zero_le _, fun e => by cases e⟩, fun h => absurd h (by omega)⟩
/-- Texts in order. -/
def Ord (ss : List ByteArray) : Prop := ss.Pairwise fun a b => a.toList ≤ b.toList
theorem ord_ins {ss : List ByteArray} {x : ByteArray} {k : Nat} (hk : k ≤ ss.length) (h : Ord ss) (h1 : ∀ i (h : i < ss.length), k ≤ i → x.toList < ss[i].toList) (h2 : ∀ i (h : i < ss.length), i + 1 = k → ss[i].toList ≤ x.toList) : Ord (ss.take k ++ [x] ++ ss.drop k) := by
 have ht : ∀ a ∈ ss.take k, a.toList ≤ x.toList := by
  intro a ha
  obtain ⟨i, hi, rfl⟩ := List.mem_take_iff_getElem.1 ha
  have hi := Nat.lt_min.1 hi
  by_cases e : i + 1 = k
  ·exact h2 i hi.2 e
  ·have h3 := h2 (k - 1) (by omega) (by omega)
   exact List.le_trans (List.pairwise_iff_getElem.1 h i (k - 1) hi.2 (by omega) (by omega)) h3
 have hd : ∀ a ∈ ss.drop k, x.toList ≤ a.toList := by
  intro a ha
  obtain ⟨i, hi, rfl⟩ := List.getElem_of_mem ha
  rw [List.length_drop] at hi
  rw [List.getElem_drop]
  exact List.le_of_lt (h1 (k + i) (by omega) (by omega))
 unfold Ord at h ⊢
 rw [List.append_assoc, List.pairwise_append]
 have h' := h
 rw [← List.take_append_drop k ss, List.pairwise_append] at h'
 refine ⟨h'.1, List.pairwise_append.2 ⟨List.pairwise_singleton _ _, h'.2.1, fun a ha b hb => ?_⟩, fun a ha b hb => ?_⟩
 ·rw [List.mem_singleton.1 ha]; exact hd b hb
 ·rcases List.mem_append.1 hb with hb | hb
  ·rw [List.mem_singleton.1 hb]; exact ht a ha
  ·exact h'.2.2 a ha b hb
theorem perm_ins (ss : List ByteArray) (x : ByteArray) (k : Nat) : (ss.take k ++ [x] ++ ss.drop k).Perm (ss ++ [x]) := by
 rw [List.append_assoc]
 refine List.Perm.trans (List.Perm.append_left _ List.perm_append_comm) ?_
 rw [← List.append_assoc, List.take_append_drop]
/-- The names of the entries in a directory, as they lie. -/
def zbn (ps : List Den) (d : Int) : List ByteArray := (ps.filter fun x => decide (¬ x.child < 0 ∧ x.dir = d)).map Den.name
theorem names_succ {ps : List Den} {d : Int} {k : Nat} (h : k < ps.length) : zbn (ps.take (k + 1)) d = if ¬ ps[k].child < 0 ∧ ps[k].dir = d then zbn (ps.take k) d ++ [ps[k].name] else zbn (ps.take k) d := by
 unfold zbn
 rw [List.take_succ_eq_append_getElem h, List.filter_append, List.map_append]
 by_cases c : ¬ ps[k].child < 0 ∧ ps[k].dir = d
 ·rw [if_pos c]
  simp only [List.filter_cons, decide_eq_true c, if_true, List.filter_nil, List.map_cons, List.map_nil]
 ·rw [if_neg c]
  simp only [List.filter_cons, decide_eq_false c, List.filter_nil]
  simp
/-- The texts, sorted. -/
def sorted (ss : List ByteArray) : List ByteArray := ((ss.map fun s => s.data.toList).mergeSort fun x y => decide (x ≤ y)).map fun l => ⟨l.toArray⟩
theorem zhn (ss : List ByteArray) : (sorted ss).length = ss.length := by unfold sorted; rw [List.length_map, List.length_mergeSort, List.length_map]
theorem ord_sorted {ss l : List ByteArray} (h : Ord ss) (hp : ss.Perm l) : ss = sorted l := by
 have tr : ∀ a b c : List UInt8, decide (a ≤ b) = true → decide (b ≤ c) = true → decide (a ≤ c) = true := fun a b c h1 h2 => by simp only [decide_eq_true_eq] at *; exact List.le_trans h1 h2
 have tot : ∀ a b : List UInt8, (decide (a ≤ b) || decide (b ≤ a)) = true := fun a b => by simp only [Bool.or_eq_true, decide_eq_true_eq]; exact List.le_total a b
 have e : ss.map (fun s => s.data.toList) = (l.map fun s => s.data.toList).mergeSort fun x y => decide (x ≤ y) := by
  refine List.Perm.eq_of_pairwise (le := fun a b => decide (a ≤ b) = true) (fun a b _ _ h1 h2 => ?_) ?_ (List.pairwise_mergeSort tr tot _) ((hp.map _).trans (List.mergeSort_perm _ _).symm)
  ·simp only [decide_eq_true_eq] at h1 h2
   exact List.le_antisymm h1 h2
  ·rw [List.pairwise_map]
   refine List.Pairwise.imp (fun {a b} h => ?_) h
   rw [Lib.toList_data, Lib.toList_data] at h
   exact decide_eq_true h
 unfold sorted
 rw [← e, List.map_map]
 rw [show ((fun l : List UInt8 => (⟨l.toArray⟩ : ByteArray)) ∘ fun s : ByteArray => s.data.toList) = id from funext fun s => by simp]
 simp
end Go.Proofs.YtbbmljakfbhnpaaGreatDoor
