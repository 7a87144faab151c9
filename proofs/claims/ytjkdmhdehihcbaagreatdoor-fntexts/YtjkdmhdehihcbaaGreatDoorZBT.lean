/- Several texts laid together: DrawK, OpenA, AtE, JrM, JlP, JrE. -/
import Derived.Test.YtjkdmhdehihcbaaGreatDoorDraw
import Derived.Test.YtjkdmhdehihcbaaGreatDoorZAC
import Derived.ProofKit
import Derived.OpenShut
import Derived.ShutString
import Derived.ChangeOld
import Derived.Lib.SmallJoins
import Derived.Deep.Slices
import Derived.Deep.Strs
import Derived.Test.YtjkdmhdehihcbaaGreatDoorZBR
import Derived.Test.YtjkdmhdehihcbaaGreatDoorZAS
import Derived.Test.YtjkdmhdehihcbaaGreatDoorZAD
import Derived.Test.YtjkdmhdehihcbaaGreatDoorZBK
import Derived.Deep.RegionWith
import Derived.BigRegion
import Derived.Deep.DeepCutAuto
import Derived.Deep.RegionLaw
import Derived.Test.YtjkdmhdehihcbaaGreatDoorJrJ
namespace Go.Proofs.YtjkdmhdehihcbaaGreatDoor
open Go.RowKit
set_option maxRecDepth 100000 in
theorem l00Source_any (v : Value) (bs : List Int) (w : World) (h : RdB w v bs) (hl : bs.length ≤ 1048576) :
    Calls Tryz.prog 20 #[v] w fun e w' => e = .returned (.pointer (some ⟨w.heap.size, 0, none⟩)) ∧ SrcE w w' w.heap.size v bs 0 ((bs.length : Int) % 1000) ∧ Below w.heap.size w w' := by
  have H := hideIt h
  obtain ⟨aC, cC, rfl, _⟩ := h.shape
  clear h
  have hm : (0 : Int) ≤ (bs.length : Int) := by omega
  go_enter Tryz.func20, Tryz.ntmps20
  go_wp2
  go_ret
  refine ⟨rfl, ⟨⟨H.out, hl, Nat.le_refl _, (Below.refl _ _).alloc (Nat.le_refl _) _, by simp, 0, (bs.length : Int) % 1000, by omega, by omega, by omega, by omega, at_new rfl⟩, by omega, by omega, at_new rfl⟩, (Below.refl _ _).alloc (Nat.le_refl _) _⟩
end Go.Proofs.YtjkdmhdehihcbaaGreatDoor

namespace Go.Proofs.YtjkdmhdehihcbaaGreatDoor
open Go.ChangeShapes Go.WideShapes Go.ChangeAt Go.RowKit Go.Joins
theorem own : ownKnob Tryz.prog.godebug = none := by kernel_rfl
theorem laidOut : laidOutB Tryz.prog = true := by kernel_rfl
section
variable {H : Type} {enc : TypeId × Value → H} {W : World} {sp : Nat → Bool} {held : Bool} {fuel : Nat} {v : Value} {y : DataW H × List MemPlace}
end
end Go.Proofs.YtjkdmhdehihcbaaGreatDoor

namespace Go.Proofs.YtjkdmhdehihcbaaGreatDoor
open Go.ChangeShapes Go.WideShapes Go.ChangeAt Go.RowKit Go.Joins
theorem cells5 : Tryz.prog.cellsOf 5 = 1 := by kernel_rfl
section
variable {H : Type} {enc : TypeId × Value → H} {W : World} {sp : Nat → Bool} {held : Bool} {fuel : Nat} {v : Value} {y : DataW H × List MemPlace}
theorem wf_u8 {z : Int} (h : (Lit.int .u8 z).wf = true) : 0 ≤ z ∧ z < 256 := by
  have h1 : IntKind.u8.min ≤ z ∧ z ≤ IntKind.u8.max := by simpa [Lit.wf] using h
  have a : IntKind.u8.min = 0 := by rfl
  have b : IntKind.u8.max = 255 := by rfl
  omega
theorem open_RdB (h : DataW.trod enc Tryz.prog W 0 sp held fuel 22 [v] = some y) : ∃ zs : List Int, RdB W v zs ∧ zs.length ≤ maxLen := by
  rcases open_ints Tryz.underlying22 Tryz.underlying5 cells5 h with ⟨hcs, _⟩ | ⟨a, len, cap, zs, hcs, _, hl, hm, hz, _, hcell, hwz⟩
  · simp only [List.cons.injEq, and_true] at hcs
    subst hcs
    exact ⟨[], ⟨⟨rfl, none, 0, rfl, ⟨Nat.le_refl _, fun _ => rfl⟩, fun h => absurd h (by simp)⟩, fun k hk => by simp at hk⟩, by simp⟩
  · simp only [List.cons.injEq, and_true] at hcs
    subst hcs
    have hzl : len ≤ zs.length := by rw [hz]; split <;> omega
    have e : (zs.take len).length = len := by simp; omega
    refine ⟨zs.take len, ⟨⟨by simp [bys], some a, cap, by rw [e], ⟨by rw [e]; exact hl, fun e => by cases e⟩, fun hn => ?_⟩, fun k hk => wf_u8 (hwz _ (List.mem_of_mem_take (List.getElem_mem hk)))⟩, by rw [e]; omega⟩
    rw [e] at hn
    obtain ⟨b, off, spot⟩ := a
    have hc := hcell 0 (by omega)
    have hspot : spot = none := by simpa [Addr.add] using World.cell?_spot hc
    subst hspot
    refine ⟨b, off, rfl, World.block_lt_of_cell? W _ (by simpa [Addr.add] using hc), fun j hj => ?_⟩
    rw [e] at hj
    have hc := hcell j (by omega)
    rw [Addr.add_lit] at hc
    rw [hc, bys_at _ j (by rw [e]; omega)]
    simp [List.getD, show j < zs.length by omega]
end
end Go.Proofs.YtjkdmhdehihcbaaGreatDoor

namespace Go.Proofs.YtjkdmhdehihcbaaGreatDoor
theorem nl_kind (ks : List Int) : ∀ i, ∀ m ∈ nl ks i, m = ⟨2, m.at_, 0⟩
  | 0, m, h => by cases h
  | i + 1, m, h => by
    rw [nl] at h
    split at h
    · exact nl_kind ks i m h
    · rcases List.mem_append.1 h with h | h
      · exact nl_kind ks i m h
      · rw [List.mem_singleton.1 h]
theorem jrn_at : ∀ (us : List St) (i : Nat), ∀ p ∈ jrn i us, 9 + 2 * (i : Int) ≤ p.at_ ∧ p.at_ < 9 + 2 * ((i + us.length : Nat) : Int)
  | [], _, p, h => by cases h
  | u :: us, i, p, h => by
    rw [jrn] at h
    simp only [List.length_cons]
    rcases List.mem_cons.1 h with rfl | h
    · exact ⟨Int.le_refl _, by show 9 + 2 * (i : Int) < _; omega⟩
    · rcases List.mem_cons.1 h with rfl | h
      · exact ⟨by show _ ≤ 9 + 2 * (i : Int) + 1; omega, by show 9 + 2 * (i : Int) + 1 < _; omega⟩
      · have := jrn_at us (i + 1) p h
        omega
end Go.Proofs.YtjkdmhdehihcbaaGreatDoor

namespace Go.Proofs.YtjkdmhdehihcbaaGreatDoor
open Go.RowKit
def StOK (m : Mi) : Prop := miB m = true ∧ (m.kind = 1 ∨ m.kind = 2 ∨ m.kind = 3)
theorem nl_mem (ks : List Int) : ∀ i, i ≤ ks.length → ∀ m ∈ nl ks i, ∃ k, k < ks.length ∧ m.at_ = ks[k]?.getD 0
  | 0, _, m, h => by cases h
  | i + 1, hi, m, h => by
    rw [nl] at h
    split at h
    · exact nl_mem ks i (by omega) m h
    · rcases List.mem_append.1 h with h | h
      · exact nl_mem ks i (by omega) m h
      · rw [List.mem_singleton.1 h]; exact ⟨i, by omega, rfl⟩
theorem ok_seg {S : List St} (h : ∀ p ∈ S, (0 ≤ p.at_ ∧ p.at_ < 336) ∧ 0 ≤ p.val ∧ p.val < 1099511627776) : ∀ m ∈ seg S, StOK m := by
  intro m hm
  unfold seg flushL at hm
  rcases List.mem_append.1 hm with hm | hm
  · obtain ⟨p, hp, rfl⟩ := List.mem_map.1 hm
    have := h p hp
    exact ⟨(miB_of 1 p.at_ p.val).2 (.inl ⟨rfl, this⟩), .inl rfl⟩
  · rcases List.mem_append.1 hm with hm | hm
    · have e := nl_kind _ _ m hm
      obtain ⟨k, hk, ek⟩ := nl_mem _ _ (Nat.le_refl _) m hm
      have : ∃ p ∈ S, m.at_ = p.at_ := by
        rw [List.length_map] at hk
        exact ⟨S[k], List.getElem_mem hk, by rw [ek, List.getElem?_map, List.getElem?_eq_getElem hk]; rfl⟩
      obtain ⟨p, hp, ep⟩ := this
      rw [e]
      have := h p hp
      exact ⟨(miB_of 2 m.at_ 0).2 (.inr (.inl ⟨rfl, by rw [ep]; exact this.1, rfl⟩)), .inr (.inl rfl)⟩
    · rw [List.mem_singleton.1 hm]
      exact ⟨(miB_of 3 0 0).2 (.inr (.inr (.inr ⟨.inl rfl, rfl, rfl⟩))), .inr (.inr rfl)⟩
theorem jrn_val : ∀ (us : List St) (i : Nat), (∀ p ∈ us, (48 ≤ p.at_ ∧ p.at_ < 336) ∧ 0 ≤ p.val ∧ p.val < 1099511627776) → ∀ p ∈ jrn i us, 0 ≤ p.val ∧ p.val < 1099511627776
  | [], _, _, p, h => by cases h
  | u :: us, i, hu, p, h => by
    rw [jrn] at h
    have h0 := hu u List.mem_cons_self
    rcases List.mem_cons.1 h with rfl | h
    · exact ⟨by show 0 ≤ u.at_; omega, by show u.at_ < _; omega⟩
    · rcases List.mem_cons.1 h with rfl | h
      · exact ⟨by show 0 ≤ u.val; omega, by show u.val < _; omega⟩
      · exact jrn_val us (i + 1) (fun q hq => hu q (List.mem_cons_of_mem _ hq)) p h
theorem cnt_ok (n : Int) (h : 0 ≤ n ∧ n < 1099511627776) : ∀ p ∈ cnt n, (0 ≤ p.at_ ∧ p.at_ < 336) ∧ 0 ≤ p.val ∧ p.val < 1099511627776 := by
  intro p hp
  rw [List.mem_singleton.1 hp]
  exact ⟨⟨by show (0 : Int) ≤ 8; omega, by show (8 : Int) < 336; omega⟩, h⟩
end Go.Proofs.YtjkdmhdehihcbaaGreatDoor

namespace Go.Proofs.YtjkdmhdehihcbaaGreatDoor
open Go.RowKit
theorem rd_up (w1 : World) (x y : Int) : Rd (w1.alloc (.cells #[.int .i64 x, .int .i64 y] 87)) 2 (.slice (some ⟨w1.heap.size, 0, none⟩) 1 1) 1 (ses [⟨x, y⟩]) := by
  refine ⟨rfl, _, _, rfl, ⟨Nat.le_refl _, fun e => by cases e⟩, fun _ => ⟨w1.heap.size, 0, rfl, by simp, fun j hj => ?_⟩⟩
  obtain ⟨e0, e1, _, _⟩ := two_cells (at_new (w := w1) (o := .cells #[.int .i64 x, .int .i64 y] 87) rfl)
  rcases (show j = 0 ∨ j = 1 by omega) with rfl | rfl
  · exact e0
  · exact e1
theorem ses_one_ (l : List Se) : ∀ u ∈ ses l, u.oneCell' = true := by
  intro u hu
  simp only [ses, List.mem_flatMap] at hu
  obtain ⟨m, _, hm⟩ := hu
  simp [Se.cells] at hm
  rcases hm with rfl | rfl <;> rfl
theorem ses_append_ (l l' : List Se) : ses (l ++ l') = ses l ++ ses l' := by simp [ses]
end Go.Proofs.YtjkdmhdehihcbaaGreatDoor
