/- Updates from a place on, and the updates of an inode: by the program. -/
import Derived.Test.YtipklbnfobckaaaDoorPiB
import Derived.Test.YtipklbnfobckaaaDoorZAO
import Derived.Laws.CopyRow
import Derived.Laws.CopyOwn
namespace Go.Proofs.YtipklbnfobckaaaDoor
open Go.RowKit

/-- The first words from a place on. -/
def ufL (at_ : Int) (zs : List Int) (k : Nat) : List Se := (List.range k).map (fun j : Nat => ⟨at_ + (j : Int), zs.getD j 0⟩)
theorem ufL_len (a : Int) (zs : List Int) (k : Nat) : (ufL a zs k).length = k := by simp [ufL]
theorem ufL_succ (a : Int) (zs : List Int) (k : Nat) (h : k < zs.length) : ufL a zs (k + 1) = ufL a zs k ++ [⟨a + (k : Int), zs[k]⟩] := by
  unfold ufL; rw [List.range_succ, List.map_append]
  simp [List.getD_eq_getElem?_getD, List.getElem?_eq_getElem h]

set_option maxRecDepth 100000 in
set_option maxHeartbeats 4000000 in
theorem updatesFrom_any (a : Int) (v : Value) (zs : List Int) (w : World) (h : RdI w v zs) (hn : zs.length ≤ 64) (ha : 0 ≤ a ∧ a ≤ 1000) :
    Calls Tryd.prog 40 #[.int .i64 a, v] w fun e w' => ∃ v', e = .returned v' ∧ Row w' 59 2 w.heap.size w'.heap.size v' (ufL a zs zs.length).length (ses (ufL a zs zs.length)) ∧ Below w.heap.size w w' := by
  obtain ⟨aU, cU, rfl, _, hcU⟩ := h.shape
  have HU := hideIt hcU
  obtain ⟨ha0, ha1⟩ := ha
  clear h hcU
  go_enter Tryd.func40, Tryd.ntmps40
  go_wp2
  go_loopw [5, 6, 7, 10] (fun vL _ _ i wr => ∃ m : Nat, m ≤ zs.length ∧ i = .int .i64 m ∧ Hid (UpI w wr vL (ufL a zs m)) ∧ w.heap.size ≤ wr.heap.size) (fun _ _ _ i _ => zs.length - (intOf i).toNat)
  case atStart => exact ⟨0, by omega, rfl, ⟨World.ownsRow_nil _ _ _ _, Below.refl _ _⟩, Nat.le_refl _⟩
  case round =>
    obtain ⟨m, hm, rfl, I, hz⟩ := hrel
    by_cases hlt : m < zs.length
    · obtain ⟨b, o, rfl, hbl, hcell⟩ := HU.out (by omega)
      have e0 := (I.out.b.cell (p := ⟨b, o + m, none⟩) hbl).trans (hcell m hlt)
      have m0 : (0 : Int) ≤ (m : Int) := by omega
      have m1 : (m : Int) < (zs.length : Int) := by omega
      have NX := hideIt (ufL_succ a zs m hlt)
      have hle : (ufL a zs m).length ≤ 64 := by rw [ufL_len]; omega
      clear hcell
      generalize zs[m] = x at *
      obtain ⟨wb, hwb⟩ : ∃ wb : World, wb = wr.alloc (.cells #[.int .i64 (a + (m : Int)), .int .i64 x] 59) := ⟨_, rfl⟩
      have IB : Hid (UpI w wb u5 (ufL a zs m)) := by rw [hwb]; exact I.out.below ((Below.refl _ _).alloc (Nat.le_refl _) _)
      have RB : Hid (Rd wb 2 (.slice (some ⟨wr.heap.size, 0, none⟩) 1 1) 1 (ses [⟨a + (m : Int), x⟩])) := by rw [hwb]; exact rd_upd wr _ _
      have hzb := IB.out.z
      subst hwb
      go_wp2_with (first
        | (at_builtin; refine wpList_append_rd _ rfl (.tmp 15) (.tmp 21) 52 rfl w.heap.size 59 (.agg #[.int .i64 0, .int .i64 0]) 2 16 Tryd.underlying52 infoUp rfl (by decide) _ _ _ rfl IB.out.l _ 1 _ rfl RB.out (ses_ones _) (by simp [maxLen]; omega) (by omega) (by omega) ?_))
      intro vN wN hownN hgrN
      have G := hideIt (IB.out.grow [⟨a + (m : Int), x⟩] hownN hgrN)
      rw [← NX.out] at G
      have hzN := G.out.z
      clear hownN hgrN IB RB I
      go_wp2
      go_roundw
      case rel => exact ⟨m + 1, by omega, by go_num, G, by omega⟩
      case measure => simp [intOf]; omega
    · obtain rfl : m = zs.length := by omega
      obtain ⟨-, aL, cL, hvL, -⟩ := (own_block I.out.l).rd
      subst hvL
      go_wp2
      go_ret
      exact ⟨_, rfl, own_block I.out.l, I.out.b⟩
end Go.Proofs.YtipklbnfobckaaaDoor
