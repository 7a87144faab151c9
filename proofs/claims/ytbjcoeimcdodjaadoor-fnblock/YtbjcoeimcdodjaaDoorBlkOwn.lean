/- A device copied: by the model. -/
import Derived.Test.YtbjcoeimcdodjaaDoorZAK
import Derived.Deep.RegionLaw
namespace Go.Proofs.YtbjcoeimcdodjaaDoor
open Go.RowKit
def RowBlk3 (w : World) (lo hi : Nat) (v : Value) (ws : List Int) (ps : List Se) : Prop := ∃ vW vP, v = .agg #[vW, vP] ∧ Row w 3 1 lo hi vW ws.length (ints ws) ∧ Row w 59 2 lo hi vP ps.length (ses ps)
set_option maxHeartbeats 2000000 in
theorem l02Own_row (v : Value) (ws : List Int) (ps : List Se) (w : World) (h : RdBlk w v ws ps) (hw : ws.length ≤ 2147483648) (hp : ps.length ≤ 2147483648) :
    Calls Tryd.prog 54 #[v] w fun e w' => ∃ v', e = .returned v' ∧ RowBlk3 w' w.heap.size w'.heap.size v' ws ps ∧ Below w.heap.size w w' := by
  obtain ⟨vW, vP, rfl, h1, h2⟩ := h
  have H1 := hideIt h1
  have H2 := hideIt h2
  obtain ⟨aW, cW, rfl, _⟩ := h1.shape
  obtain ⟨aP, cP, rfl, _⟩ := h2.shape
  clear h1 h2
  have hb0 : Below w.heap.size w (((w.alloc (.cells #[.slice aW ws.length cW, .slice aP ps.length cP] 26)).alloc (.cells #[.slice none 0 0, .slice none 0 0] 26)).alloc (.cells #[] 3)) := by
    repeat (refine Below.alloc ?_ (by simp <;> omega) _)
    exact Below.refl _ _
  have ho0 : (((w.alloc (.cells #[.slice aW ws.length cW, .slice aP ps.length cP] 26)).alloc (.cells #[.slice none 0 0, .slice none 0 0] 26)).alloc (.cells #[] 3)).ownsRow (w.heap.size + 2) 3 1 (.slice (some ⟨w.heap.size + 1 + 1, 0, none⟩) 0 0) 0 [] := by
    simpa using World.ownsRow_lit (base := w.heap.size + 2) (e := 3) (size := 1) ((w.alloc (.cells #[.slice aW ws.length cW, .slice aP ps.length cP] 26)).alloc (.cells #[.slice none 0 0, .slice none 0 0] 26)) #[] 0 (by simp) (by simp) rfl
  have HO := hideIt ho0
  have HB := hideIt hb0
  clear ho0 hb0
  go_enter Tryd.func54, Tryd.ntmps54
  go_wp2_with (at_builtin; refine wpList_append_rd _ rfl (.tmp 3) (.tmp 5) 23 rfl (w.heap.size + 2) 3 (.int .i64 0) 1 8 Tryd.underlying23 info3 rfl (by decide) _ 0 [] rfl HO.out _ ws.length (ints ws) rfl (Rd.below H1.out HB.out) (ints_one ws) (by simp [maxLen]; omega) (by omega) (by simp) ?_)
  intro v1 w1 hown1 hgr1
  have hown1 : w1.ownsRow (w.heap.size + 2) 3 1 v1 ws.length (ints ws) := by simpa using hown1
  have R1 := hideIt (own_block hown1)
  obtain ⟨_, a1, c1, rfl, _⟩ := (own_block hown1).rd
  have hz1 : w.heap.size + 3 ≤ w1.heap.size := by have := hgr1.size; simp at this; omega
  have V0 := (hgr1.block w.heap.size (by simp <;> omega) (by simp [Value.ownBlock] <;> omega)).trans (at_old (at_old (at_new rfl)))
  have V1 := (hgr1.block (w.heap.size + 1) (by simp <;> omega) (by simp [Value.ownBlock] <;> omega)).trans (at_old (at_new (by simp)))
  have B1 := HB.out.grown hgr1 (by simp <;> omega) (fun k hk => by simp [Value.ownBlock] at hk; omega)
  have V0' := at_old (o := .cells #[] 59) (two_set0 V0 (.slice a1 ws.length c1))
  have V1' := at_old (o := .cells #[] 59) ((Below.heap_setCell w1 ⟨w.heap.size, 0, none⟩ (.slice a1 ws.length c1) (w.heap.size + 1) (by simp)).trans V1)
  obtain ⟨x1, x2, x3, x4⟩ := two_cells V0
  obtain ⟨x5, x6, x7, x8⟩ := two_cells V0'
  have HV := hideIt (And.intro V0' V1')
  have hB2 := (B1.setCell (p := ⟨w.heap.size, 0, none⟩) (Nat.le_refl _) (.slice a1 ws.length c1)).alloc (by simp; omega) (.cells #[] 59)
  have ho2 : ((w1.setCell ⟨w.heap.size, 0, none⟩ (.slice a1 ws.length c1)).alloc (.cells #[] 59)).ownsRow w1.heap.size 59 2 (.slice (some ⟨w1.heap.size, 0, none⟩) 0 0) 0 [] := by
    simpa using World.ownsRow_lit (base := w1.heap.size) (e := 59) (size := 2) (w1.setCell ⟨w.heap.size, 0, none⟩ (.slice a1 ws.length c1)) #[] 0 (by simp) (by simp) rfl
  have HB2 := hideIt hB2
  have HO2 := hideIt ho2
  clear hown1 hgr1 V0 V1 B1 V0' V1' hB2 ho2
  go_wp2_with (at_builtin; refine wpList_append_rd _ rfl (.tmp 8) (.tmp 10) 24 rfl w1.heap.size 59 (.agg #[.int .i64 0, .int .i64 0]) 2 16 Tryd.underlying24 infoSec rfl (by decide) _ 0 [] rfl HO2.out _ ps.length (ses ps) rfl (Rd.below H2.out HB2.out) (ses_one ps) (by simp [maxLen]; omega) (by omega) (by simp) ?_)
  intro v2 w2 hown2 hgr2
  have hown2 : w2.ownsRow w1.heap.size 59 2 v2 ps.length (ses ps) := by simpa using hown2
  have R2 := hideIt (own_block hown2)
  obtain ⟨_, a2, c2, rfl, _⟩ := (own_block hown2).rd
  have hz2 : w1.heap.size + 1 ≤ w2.heap.size := by have := hgr2.size; simp at this; omega
  have V0 := (hgr2.block w.heap.size (by simp <;> omega) (by simp [Value.ownBlock]; omega)).trans HV.out.1
  have V1 := (hgr2.block (w.heap.size + 1) (by simp <;> omega) (by simp [Value.ownBlock]; omega)).trans HV.out.2
  have B2 := hideIt (HB2.out.grown hgr2 (by simp <;> omega) (fun k hk => by simp [Value.ownBlock] at hk; omega))
  have K2 : Hid (∀ b, w.heap.size + 2 ≤ b → b < w1.heap.size → w2.heap[b]? = w1.heap[b]?) := by
    intro b h1 h2
    rw [hgr2.block b (by simp <;> omega) (by simp [Value.ownBlock]; omega), heap_alloc_if, if_neg (by simp; omega), Below.heap_setCell _ _ _ _ (by simp only; omega)]
  obtain ⟨z1, z2, z3, z4⟩ := two_cells V0
  obtain ⟨t1, t2, t3, t4⟩ := two_cells V1
  clear hown2 hgr2 V0 V1
  go_wp2
  refine bodyPost_ret (v := .agg #[.slice a1 ws.length c1, .slice a2 ps.length c2]) (by simp [results, Tryd.results54, go_sem, t1, t2]) rfl ?_
  refine ⟨_, rfl, ⟨_, _, rfl, (R1.out.same fun b h1 h2 => ?_).wide (by omega) (by simp; omega), (R2.out.same fun b h1 h2 => ?_).wide (by omega) (by simp)⟩, ?_⟩
  · rw [Below.heap_setCell _ _ _ _ (by simp only; omega), Below.heap_setCell _ _ _ _ (by simp only; omega), Below.heap_setCell _ _ _ _ (by simp only; omega), K2.out b h1 h2]
  · rw [Below.heap_setCell _ _ _ _ (by simp only; omega), Below.heap_setCell _ _ _ _ (by simp only; omega), Below.heap_setCell _ _ _ _ (by simp only; omega)]
  · exact ((B2.out.setCell (by simp only; omega) _).setCell (by simp only; omega) _).setCell (by simp only; omega) _
theorem l02Own_any (v : Value) (ws : List Int) (ps : List Se) (w : World) (h : RdBlk w v ws ps) (hw : ws.length ≤ 2147483648) (hp : ps.length ≤ 2147483648) :
    Calls Tryd.prog 54 #[v] w fun e w' => ∃ v', e = .returned v' ∧ RowBlk w' w.heap.size w'.heap.size v' ws ps ∧ Below w.heap.size w w' :=
  (l02Own_row v ws ps w h hw hp).mono fun _ _ ⟨v', he, ⟨vW, vP, hv, h1, h2⟩, hb⟩ => ⟨v', he, ⟨vW, vP, hv, h1.z, h2⟩, hb⟩
end Go.Proofs.YtbjcoeimcdodjaaDoor
