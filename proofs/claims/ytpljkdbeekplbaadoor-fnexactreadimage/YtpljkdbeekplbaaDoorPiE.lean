/- The updates of an inode: by the program. -/
import Derived.Test.YtpljkdbeekplbaaDoorPiD
import Derived.Deep.RegionLaw
namespace Go.Proofs.YtpljkdbeekplbaaDoor
open Go.RowKit

theorem map_all (b : Nat) (w : World) : (Instr.sliceAt 74 (.pointer (some ⟨b, 3, none⟩)) none none none).run Tryd.prog w = .ok (.slice (some ⟨b, 3, none⟩) 8 8) w := by
  have al : Tryd.prog.arrayLen 74 = 8 := by kernel_rfl
  rw [run_sliceAt_array_all w 74 ⟨b, 3, none⟩ (by kernel_rfl), al]
  have sz : (sizeOf (Tryd.prog.elem 74)).run Tryd.prog w = .ok 1 w := by kernel_rfl
  rw [sz]
  simp [Result.andThen, slicedAt, Addr.add]
/-- An inode's words, ahead of its map's. -/
def preC (x : Ino) : List Value := [.int .i64 x.kind, .int .i64 x.size, .int .i64 x.links, .int .i64 0, .int .i64 0, .int .i64 0, .int .i64 0, .int .i64 0, .int .i64 0, .int .i64 0, .int .i64 0]
def mapC (x : Ino) : List Value := [.int .i64 x.m0, .int .i64 x.m1, .int .i64 x.m2, .int .i64 x.m3, .int .i64 x.m4, .int .i64 x.m5, .int .i64 x.m6, .int .i64 x.m7]
theorem splice_ino (x : Ino) : splice (preC x) 3 (mapC x) = x.cs := rfl
theorem mapC_one (x : Ino) : ∀ v ∈ mapC x, v.oneCell' = true := by
  intro v hv
  simp [mapC] at hv
  rcases hv with rfl | rfl | rfl | rfl | rfl | rfl | rfl | rfl <;> rfl
theorem mapC_at (x : Ino) (j : Nat) (v : Value) (h : (mapC x)[j]? = some v) : x.cs[3 + j]? = some v := by
  have hj : j < 8 := by
    have := (List.getElem?_eq_some_iff.1 h).1
    exact this
  rcases (show j = 0 ∨ j = 1 ∨ j = 2 ∨ j = 3 ∨ j = 4 ∨ j = 5 ∨ j = 6 ∨ j = 7 by omega) with rfl | rfl | rfl | rfl | rfl | rfl | rfl | rfl <;> exact h
theorem ns_cs (x : Ino) : ints x.ns = x.cs := rfl
theorem rd_ns {x : Ino} {w : World} {b : Nat} {t : TypeId} (h : w.heap[b]? = some (.cells x.cs.toArray t (0, 0))) : RdI w (.slice (some ⟨b, 0, none⟩) 11 11) x.ns := by
  refine ⟨by rw [ints_len, Nat.mul_one], some ⟨b, 0, none⟩, 11, rfl, ⟨Nat.le_refl _, fun e => by cases e⟩, fun _ => ⟨b, 0, rfl, (Array.getElem?_eq_some_iff.1 h).1, fun j hj => ?_⟩⟩
  rw [Nat.zero_add, ns_cs]
  exact (eight_at (xs := x.cs) h j).1
theorem uf_wr (i : Int) (x : Ino) : ufL (48 + 12 * i) x.ns x.ns.length = wrL i x 8 := by
  have e1 : x.ns.length = 11 := rfl
  rw [e1]
  simp [ufL, wrL, List.range_succ, Ino.ns, Ino.map]

theorem sz3 : (Tryd.prog.info? 3).map (·.size) = some 1 := by kernel_rfl

end Go.Proofs.YtpljkdbeekplbaaDoor
