/- What an inode's or an entry's updates are, by the model. -/
import Derived.Test.YtjfjfokinchhoaaDoorImC
import Derived.Test.YtjfjfokinchhoaaDoorNm
namespace Go.Proofs.YtjfjfokinchhoaaDoor
open Go.RowKit

/-- The updates of an inode: the code, and the list. -/
def iuC (i : Int) (x : Ino) : Int := if 0 ≤ i ∧ i ≤ 15 then (if inoB x = true then 0 else 1) else 4
def iuL (i : Int) (x : Ino) : List Se := if 0 ≤ i ∧ i ≤ 15 then (if inoB x = true then wrL i x 8 else []) else []
theorem iu_cases (i : Int) (x : Ino) : (¬ (0 ≤ i ∧ i ≤ 15) ∧ iuC i x = 4 ∧ iuL i x = []) ∨ ((0 ≤ i ∧ i ≤ 15) ∧ inoB x = false ∧ iuC i x = 1 ∧ iuL i x = []) ∨ ((0 ≤ i ∧ i ≤ 15) ∧ inoB x = true ∧ iuC i x = 0 ∧ iuL i x = wrL i x 8) := by
  unfold iuC iuL
  by_cases h : 0 ≤ i ∧ i ≤ 15
  · cases q : inoB x
    · exact .inr (.inl ⟨h, rfl, by rw [if_pos h, if_neg (by decide)], by rw [if_pos h, if_neg (by decide)]⟩)
    · exact .inr (.inr ⟨h, rfl, by rw [if_pos h, if_pos rfl], by rw [if_pos h, if_pos rfl]⟩)
  · exact .inl ⟨h, by rw [if_neg h], by rw [if_neg h]⟩
theorem iuL_len (i : Int) (x : Ino) : (iuL i x).length ≤ 11 := by
  rcases iu_cases i x with ⟨_, _, e⟩ | ⟨_, _, _, e⟩ | ⟨_, _, _, e⟩ <;> rw [e]
  · simp
  · simp
  · rw [wrL_len]; omega
theorem row_none (w : World) (t : TypeId) (size : Nat) : Row (w.alloc (.cells #[] t)) t size w.heap.size (w.alloc (.cells #[] t)).heap.size (.slice (some ⟨w.heap.size, 0, none⟩) 0 0) 0 [] :=
  own_block (World.ownsRow_lit w #[] 0 (Nat.le_refl _) (by simp [maxLen]) (by simp))
theorem Ino.all {x : Ino} {w' : World} {b : Nat} (h : ∀ j, w'.cell? ⟨b, j, none⟩ = x.cs[j]?) : w'.cell? ⟨b, 0, none⟩ = some (.int .i64 x.kind) ∧ w'.cell? ⟨b, 1, none⟩ = some (.int .i64 x.size) ∧ w'.cell? ⟨b, 2, none⟩ = some (.int .i64 x.links) ∧ w'.cell? ⟨b, 3, none⟩ = some (.int .i64 x.m0) ∧ w'.cell? ⟨b, 4, none⟩ = some (.int .i64 x.m1) ∧ w'.cell? ⟨b, 5, none⟩ = some (.int .i64 x.m2) ∧ w'.cell? ⟨b, 6, none⟩ = some (.int .i64 x.m3) ∧ w'.cell? ⟨b, 7, none⟩ = some (.int .i64 x.m4) ∧ w'.cell? ⟨b, 8, none⟩ = some (.int .i64 x.m5) ∧ w'.cell? ⟨b, 9, none⟩ = some (.int .i64 x.m6) ∧ w'.cell? ⟨b, 10, none⟩ = some (.int .i64 x.m7) := ⟨h 0, h 1, h 2, h 3, h 4, h 5, h 6, h 7, h 8, h 9, h 10⟩

set_option maxRecDepth 100000 in
set_option maxHeartbeats 2000000 in
theorem specInodeUpdates_any (i : Int) (x : Ino) (w : World) (hr : x.R) :
    Calls Tryd.prog 47 #[.int .i64 i, x.v] w fun e w' => ∃ v', e = .returned (.tuple #[v', .int .i64 (iuC i x)]) ∧ Row w' 117 2 w.heap.size w'.heap.size v' (iuL i x).length (ses (iuL i x)) ∧ Below w.heap.size w w' := by
  have RE := hideIt (fun w1 : World => And.intro (row_none w1 117 2) ((Below.refl w1.heap.size w1).alloc (Nat.le_refl _) (.cells #[] 117)))
  have LI := hideIt (fun w1 => l05Inode_any x w1 hr)
  have LW := hideIt (fun w1 => l05Write_any i x w1)
  have LL := wrL_len i x 8
  have hv : x.v = .agg x.cs.toArray := rfl
  obtain ⟨W, hW⟩ : ∃ W, W = w.alloc (.cells x.cs.toArray 77) := ⟨_, rfl⟩
  have CA : Hid (∀ w', Below W.heap.size W w' → ∀ j, w'.cell? ⟨w.heap.size, j, none⟩ = x.cs[j]?) := fun w' hb j => by
    have : w'.heap[w.heap.size]? = some (.cells x.cs.toArray 77 (0, 0)) := (hb.block _ (by rw [hW]; simp)).trans (by rw [hW]; exact at_new rfl)
    exact (eight_at (xs := x.cs) this j).1
  have BW : Hid (Below w.heap.size w W) := by rw [hW]; exact (Below.refl _ _).alloc (Nat.le_refl _) _
  have hz : w.heap.size ≤ W.heap.size := BW.out.size
  rw [hv]
  rcases iu_cases i x with ⟨c1, e1, e2⟩ | ⟨c1, c2, e1, e2⟩ | ⟨c1, c2, e1, e2⟩
  · rw [e1, e2]
    clear e1 e2
    go_enter Tryd.func47, Tryd.ntmps47
    go_wp2_with fail
    rw [← hW]
    clear hW
    refine (l01In_no _ _ _ _ c1).mono ?_
    rintro e w' ⟨rfl, hw'⟩
    subst w'
    go_wp2
    go_ret2
    exact ⟨_, rfl, (RE.out _).1.wide hz (Nat.le_refl _), below_trans BW.out (RE.out _).2 hz⟩
  · rw [e1, e2]
    have C1 := hideIt c1
    have C2 := hideIt c2
    clear e1 e2 c1 c2
    go_enter Tryd.func47, Tryd.ntmps47
    go_wp2_with fail
    rw [← hW]
    clear hW
    refine (l01In_yes _ _ _ _ C1.out).mono ?_
    rintro e w' ⟨rfl, hw'⟩
    subst w'
    obtain ⟨p0, p1, p2, p3, p4, p5, p6, p7, p8, p9, p10⟩ := Ino.all (CA.out W (Below.refl _ _))
    go_wp2_with fail
    refine (LI.out _).mono ?_
    rw [C2.out]
    rintro e w1 ⟨rfl, hb⟩
    have B1 := hideIt (below_trans BW.out hb hz)
    clear hb p0 p1 p2 p3 p4 p5 p6 p7 p8 p9 p10
    go_wp2
    go_ret2
    exact ⟨_, rfl, (RE.out _).1.wide B1.out.size (Nat.le_refl _), below_trans B1.out (RE.out _).2 B1.out.size⟩
  · rw [e1, e2]
    have C1 := hideIt c1
    have C2 := hideIt c2
    clear e1 e2 c1 c2
    go_enter Tryd.func47, Tryd.ntmps47
    go_wp2_with fail
    rw [← hW]
    clear hW
    refine (l01In_yes _ _ _ _ C1.out).mono ?_
    rintro e w' ⟨rfl, hw'⟩
    subst w'
    obtain ⟨p0, p1, p2, p3, p4, p5, p6, p7, p8, p9, p10⟩ := Ino.all (CA.out W (Below.refl _ _))
    go_wp2_with fail
    refine (LI.out _).mono ?_
    rw [C2.out]
    rintro e w1 ⟨rfl, hb⟩
    have B1 := hideIt (below_trans BW.out hb hz)
    obtain ⟨d0, d1, d2, d3, d4, d5, d6, d7, d8, d9, d10⟩ := Ino.all (CA.out w1 hb)
    clear hb p0 p1 p2 p3 p4 p5 p6 p7 p8 p9 p10
    go_wp2_with fail
    refine (LW.out _ (by have := C1.out; omega)).mono ?_
    rintro e w2 ⟨v2, rfl, hr2, hb2⟩
    have R2 := hideIt (hr2.wide B1.out.size (Nat.le_refl _))
    have B2 := hideIt (below_trans B1.out hb2 B1.out.size)
    obtain ⟨-, aL, cL, hvL, -⟩ := hr2.rd
    subst hvL
    clear hr2 hb2
    go_wp2
    go_ret2
    exact ⟨_, rfl, R2.out, B2.out⟩
end Go.Proofs.YtjfjfokinchhoaaDoor
