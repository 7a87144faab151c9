/- Several texts laid together: BlkOwn, BlkWrite, BlkBar. -/
import Derived.Test.YtipklbnfobckaaaGreatDoorZAJ
import Derived.Deep.RegionLaw
namespace Go.Proofs.YtipklbnfobckaaaGreatDoor
open Go.RowKit


/-- A device of a call's own, its sectors in a block of numbers. -/
def RowBlk3 (w : World) (lo hi : Nat) (v : Value) (ws : List Int) (ps : List Se) : Prop := ∃ vW vP, v = .agg #[vW, vP] ∧ Row w 3 1 lo hi vW ws.length (ints ws) ∧ Row w 167 2 lo hi vP ps.length (ses ps)

set_option maxHeartbeats 2000000 in
theorem l02Own_row (v : Value) (ws : List Int) (ps : List Se) (w : World) (h : RdBlk w v ws ps) (hw : ws.length ≤ 2147483648) (hp : ps.length ≤ 2147483648) :
    Calls Tryz.prog 181 #[v] w fun e w' => ∃ v', e = .returned v' ∧ RowBlk3 w' w.heap.size w'.heap.size v' ws ps ∧ Below w.heap.size w w' := by
  obtain ⟨vW, vP, rfl, h1, h2⟩ := h
  have H1 := hideIt h1
  have H2 := hideIt h2
  obtain ⟨aW, cW, rfl, _⟩ := h1.shape
  obtain ⟨aP, cP, rfl, _⟩ := h2.shape
  clear h1 h2
  have hb0 : Below w.heap.size w (((w.alloc (.cells #[.slice aW ws.length cW, .slice aP ps.length cP] 44)).alloc (.cells #[.slice none 0 0, .slice none 0 0] 44)).alloc (.cells #[] 3)) := by
    repeat (refine Below.alloc ?_ (by simp <;> omega) _)
    exact Below.refl _ _
  have ho0 : (((w.alloc (.cells #[.slice aW ws.length cW, .slice aP ps.length cP] 44)).alloc (.cells #[.slice none 0 0, .slice none 0 0] 44)).alloc (.cells #[] 3)).ownsRow (w.heap.size + 2) 3 1 (.slice (some ⟨w.heap.size + 1 + 1, 0, none⟩) 0 0) 0 [] := by
    simpa using World.ownsRow_lit (base := w.heap.size + 2) (e := 3) (size := 1) ((w.alloc (.cells #[.slice aW ws.length cW, .slice aP ps.length cP] 44)).alloc (.cells #[.slice none 0 0, .slice none 0 0] 44)) #[] 0 (by simp) (by simp) rfl
  have HO := hideIt ho0
  have HB := hideIt hb0
  clear ho0 hb0
  go_enter Tryz.func181, Tryz.ntmps181
  go_wp2_with (at_builtin; refine wpList_append_rd _ rfl (.tmp 3) (.tmp 5) 22 rfl (w.heap.size + 2) 3 (.int .i64 0) 1 8 Tryz.underlying22 info3 rfl (by decide) _ 0 [] rfl HO.out _ ws.length (ints ws) rfl (Rd.below H1.out HB.out) (ints_one ws) (by simp [maxLen]; omega) (by omega) (by simp) ?_)
  intro v1 w1 hown1 hgr1
  have hown1 : w1.ownsRow (w.heap.size + 2) 3 1 v1 ws.length (ints ws) := by simpa using hown1
  have R1 := hideIt (own_block hown1)
  obtain ⟨_, a1, c1, rfl, _⟩ := (own_block hown1).rd
  have hz1 : w.heap.size + 3 ≤ w1.heap.size := by have := hgr1.size; simp at this; omega
  have V0 := (hgr1.block w.heap.size (by simp <;> omega) (by simp [Value.ownBlock] <;> omega)).trans (at_old (at_old (at_new rfl)))
  have V1 := (hgr1.block (w.heap.size + 1) (by simp <;> omega) (by simp [Value.ownBlock] <;> omega)).trans (at_old (at_new (by simp)))
  have B1 := HB.out.grown hgr1 (by simp <;> omega) (fun k hk => by simp [Value.ownBlock] at hk; omega)
  have V0' := at_old (o := .cells #[] 167) (two_set0 V0 (.slice a1 ws.length c1))
  have V1' := at_old (o := .cells #[] 167) ((Below.heap_setCell w1 ⟨w.heap.size, 0, none⟩ (.slice a1 ws.length c1) (w.heap.size + 1) (by simp)).trans V1)
  obtain ⟨x1, x2, x3, x4⟩ := two_cells V0
  obtain ⟨x5, x6, x7, x8⟩ := two_cells V0'
  have HV := hideIt (And.intro V0' V1')
  have hB2 := (B1.setCell (p := ⟨w.heap.size, 0, none⟩) (Nat.le_refl _) (.slice a1 ws.length c1)).alloc (by simp; omega) (.cells #[] 167)
  have ho2 : ((w1.setCell ⟨w.heap.size, 0, none⟩ (.slice a1 ws.length c1)).alloc (.cells #[] 167)).ownsRow w1.heap.size 167 2 (.slice (some ⟨w1.heap.size, 0, none⟩) 0 0) 0 [] := by
    simpa using World.ownsRow_lit (base := w1.heap.size) (e := 167) (size := 2) (w1.setCell ⟨w.heap.size, 0, none⟩ (.slice a1 ws.length c1)) #[] 0 (by simp) (by simp) rfl
  have HB2 := hideIt hB2
  have HO2 := hideIt ho2
  clear hown1 hgr1 V0 V1 B1 V0' V1' hB2 ho2
  go_wp2_with (at_builtin; refine wpList_append_rd _ rfl (.tmp 8) (.tmp 10) 42 rfl w1.heap.size 167 (.agg #[.int .i64 0, .int .i64 0]) 2 16 Tryz.underlying42 infoSec rfl (by decide) _ 0 [] rfl HO2.out _ ps.length (ses ps) rfl (Rd.below H2.out HB2.out) (ses_one ps) (by simp [maxLen]; omega) (by omega) (by simp) ?_)
  intro v2 w2 hown2 hgr2
  have hown2 : w2.ownsRow w1.heap.size 167 2 v2 ps.length (ses ps) := by simpa using hown2
  have R2 := hideIt (own_block hown2)
  obtain ⟨_, a2, c2, rfl, _⟩ := (own_block hown2).rd
  have hz2 : w1.heap.size + 1 ≤ w2.heap.size := by have := hgr2.size; simp at this; omega
  have V0 := (hgr2.block w.heap.size (by simp <;> omega) (by simp [Value.ownBlock]; omega)).trans HV.out.1
  have V1 := (hgr2.block (w.heap.size + 1) (by simp <;> omega) (by simp [Value.ownBlock]; omega)).trans HV.out.2
  have B2 := hideIt (HB2.out.grown hgr2 (by simp <;> omega) (fun k hk => by simp [Value.ownBlock] at hk; omega))
  have K2 : Hid (∀ b, w.heap.size + 2 ≤ b → b < w1.heap.size → w2.heap[b]? = w1.heap[b]?) := by
    intro b h1 h2
    rw [hgr2.block b (by simp <;> omega) (by simp [Value.ownBlock]; omega), heap_alloc_if, if_neg (by simp; omega), Below.heap_setCell _ _ _ _ (by simp only; omega)]
  obtain ⟨z1, z2, z3, z4⟩ := two_cells V0
  obtain ⟨t1, t2, t3, t4⟩ := two_cells V1
  clear hown2 hgr2 V0 V1
  go_wp2
  refine bodyPost_ret (v := .agg #[.slice a1 ws.length c1, .slice a2 ps.length c2]) (by simp [results, Tryz.results181, go_sem, t1, t2]) rfl ?_
  refine ⟨_, rfl, ⟨_, _, rfl, (R1.out.same fun b h1 h2 => ?_).wide (by omega) (by simp; omega), (R2.out.same fun b h1 h2 => ?_).wide (by omega) (by simp)⟩, ?_⟩
  · rw [Below.heap_setCell _ _ _ _ (by simp only; omega), Below.heap_setCell _ _ _ _ (by simp only; omega), Below.heap_setCell _ _ _ _ (by simp only; omega), K2.out b h1 h2]
  · rw [Below.heap_setCell _ _ _ _ (by simp only; omega), Below.heap_setCell _ _ _ _ (by simp only; omega), Below.heap_setCell _ _ _ _ (by simp only; omega)]
  · exact ((B2.out.setCell (by simp only; omega) _).setCell (by simp only; omega) _).setCell (by simp only; omega) _
theorem l02Own_any (v : Value) (ws : List Int) (ps : List Se) (w : World) (h : RdBlk w v ws ps) (hw : ws.length ≤ 2147483648) (hp : ps.length ≤ 2147483648) :
    Calls Tryz.prog 181 #[v] w fun e w' => ∃ v', e = .returned v' ∧ RowBlk w' w.heap.size w'.heap.size v' ws ps ∧ Below w.heap.size w w' :=
  (l02Own_row v ws ps w h hw hp).mono fun _ _ ⟨v', he, ⟨vW, vP, hv, h1, h2⟩, hb⟩ => ⟨v', he, ⟨vW, vP, hv, h1.z, h2⟩, hb⟩
end Go.Proofs.YtipklbnfobckaaaGreatDoor

namespace Go.Proofs.YtipklbnfobckaaaGreatDoor
open Go.RowKit



def writeC (ws : List Int) (ps : List Se) (at_ v : Int) : Int := if askE ws ps at_ = 0 then if wordB v = false then 4 else if ps.length = 400 then 7 else 0 else askE ws ps at_
def writeWs (ws : List Int) (ps : List Se) (at_ v : Int) : List Int := if writeC ws ps at_ v = 0 ∨ writeC ws ps at_ v = 7 then ws else []
def writePs (ws : List Int) (ps : List Se) (at_ v : Int) : List Se := if writeC ws ps at_ v = 0 then ps ++ [⟨at_, v⟩] else if writeC ws ps at_ v = 7 then ps else []
theorem write_cases (ws : List Int) (ps : List Se) (at_ v : Int) :
    ((askE ws ps at_ = 1 ∨ askE ws ps at_ = 14) ∧ writeC ws ps at_ v = askE ws ps at_ ∧ writeWs ws ps at_ v = [] ∧ writePs ws ps at_ v = []) ∨
    (askE ws ps at_ = 0 ∧ wordB v = false ∧ writeC ws ps at_ v = 4 ∧ writeWs ws ps at_ v = [] ∧ writePs ws ps at_ v = []) ∨
    (askE ws ps at_ = 0 ∧ wordB v = true ∧ ps.length = 400 ∧ writeC ws ps at_ v = 7 ∧ writeWs ws ps at_ v = ws ∧ writePs ws ps at_ v = ps) ∨
    (askE ws ps at_ = 0 ∧ wordB v = true ∧ ¬ ps.length = 400 ∧ writeC ws ps at_ v = 0 ∧ writeWs ws ps at_ v = ws ∧ writePs ws ps at_ v = ps ++ [⟨at_, v⟩]) := by
  rcases askE_cases ws ps at_ with hc | ⟨hc, _⟩
  · left
    have e : writeC ws ps at_ v = askE ws ps at_ := by unfold writeC; rw [if_neg (by omega)]
    refine ⟨hc, e, ?_, ?_⟩
    · unfold writeWs; rw [e, if_neg (by omega)]
    · unfold writePs; rw [e, if_neg (by omega), if_neg (by omega)]
  · right
    by_cases c1 : wordB v = true
    · right
      by_cases c2 : ps.length = 400
      · have e : writeC ws ps at_ v = 7 := by unfold writeC; rw [if_pos hc, if_neg (by rw [c1]; simp), if_pos c2]
        refine .inl ⟨hc, c1, c2, e, ?_, ?_⟩
        · unfold writeWs; rw [e, if_pos (.inr rfl)]
        · unfold writePs; rw [e, if_neg (by decide), if_pos rfl]
      · have e : writeC ws ps at_ v = 0 := by unfold writeC; rw [if_pos hc, if_neg (by rw [c1]; simp), if_neg c2]
        refine .inr ⟨hc, c1, c2, e, ?_, ?_⟩
        · unfold writeWs; rw [e, if_pos (.inl rfl)]
        · unfold writePs; rw [e, if_pos rfl]
    · have c1' : wordB v = false := by simpa using c1
      have e : writeC ws ps at_ v = 4 := by unfold writeC; rw [if_pos hc, if_pos c1']
      refine .inl ⟨hc, c1', e, ?_, ?_⟩
      · unfold writeWs; rw [e, if_neg (by decide)]
      · unfold writePs; rw [e, if_neg (by decide), if_neg (by decide)]


set_option maxHeartbeats 4000000 in
theorem l02Write_own (vW vP : Value) (ws : List Int) (ps : List Se) (at_ x : Int) (w : World) (h : RdBlk w (.agg #[vW, vP]) ws ps) (hp : ps.length ≤ 1048576) :
    Calls Tryz.prog 211 #[.agg #[vW, vP], .int .i64 at_, .int .i64 x] w fun e w' => ∃ vP', e = .returned (.agg #[vW, vP']) ∧ RdBlk w' (.agg #[vW, vP']) ws (ps ++ [⟨at_, x⟩]) ∧ (∀ k, vP'.ownBlock = some k → w.heap.size ≤ k) ∧ Below w.heap.size w w' := by
  obtain ⟨_, _, e0, h1, h2⟩ := h
  cases e0
  have H1 := hideIt h1
  have H2 := hideIt h2
  obtain ⟨aW, cW, rfl, _⟩ := h1.shape
  obtain ⟨aP, cP, rfl, _⟩ := h2.shape
  clear h1 h2
  have hb0 : Below w.heap.size w (((w.alloc (.cells #[.slice aW ws.length cW, .slice aP ps.length cP] 44)).alloc (.cells #[.slice none 0 0, .slice none 0 0] 44)).alloc (.cells #[] 167)) := by
    repeat (refine Below.alloc ?_ (by simp <;> omega) _)
    exact Below.refl _ _
  have ho0 : (((w.alloc (.cells #[.slice aW ws.length cW, .slice aP ps.length cP] 44)).alloc (.cells #[.slice none 0 0, .slice none 0 0] 44)).alloc (.cells #[] 167)).ownsRow (w.heap.size + 2) 167 2 (.slice (some ⟨w.heap.size + 1 + 1, 0, none⟩) 0 0) 0 [] := by
    simpa using World.ownsRow_lit (base := w.heap.size + 2) (e := 167) (size := 2) ((w.alloc (.cells #[.slice aW ws.length cW, .slice aP ps.length cP] 44)).alloc (.cells #[.slice none 0 0, .slice none 0 0] 44)) #[] 0 (by simp) (by simp) rfl
  have HO := hideIt ho0
  have HB := hideIt hb0
  clear ho0 hb0
  go_enter Tryz.func211, Tryz.ntmps211
  go_wp2_with (at_builtin; refine wpList_append_rd _ rfl (.tmp 7) (.tmp 9) 42 rfl (w.heap.size + 2) 167 (.agg #[.int .i64 0, .int .i64 0]) 2 16 Tryz.underlying42 infoSec rfl (by decide) _ 0 [] rfl HO.out _ ps.length (ses ps) rfl (Rd.below H2.out HB.out) (ses_one ps) (by simp [maxLen]; omega) (by omega) (by simp) ?_)
  intro v1 w1 hown1 hgr1
  have hown1 : w1.ownsRow (w.heap.size + 2) 167 2 v1 ps.length (ses ps) := by simpa using hown1
  have hz1 : w.heap.size + 3 ≤ w1.heap.size := by have := hgr1.size; simp at this; omega
  have V0 := (hgr1.block w.heap.size (by simp <;> omega) (by simp [Value.ownBlock] <;> omega)).trans (at_old (at_old (at_new rfl)))
  have V1 := (hgr1.block (w.heap.size + 1) (by simp <;> omega) (by simp [Value.ownBlock] <;> omega)).trans (at_old (at_new (by simp)))
  have B1 := HB.out.grown hgr1 (by simp <;> omega) (fun k hk => by simp [Value.ownBlock] at hk; omega)
  have hB2 := B1.alloc (by omega) (.cells #[.int .i64 at_, .int .i64 x] 167)
  have V0' := at_old (o := .cells #[.int .i64 at_, .int .i64 x] 167) V0
  have V1' := at_old (o := .cells #[.int .i64 at_, .int .i64 x] 167) V1
  have ho2 := hown1.alloc (.cells #[.int .i64 at_, .int .i64 x] 167)
  have hr2 := rd_sec w1 at_ x
  have HV := hideIt (And.intro V0' V1')
  have HB2 := hideIt hB2
  have HO2 := hideIt ho2
  have HR2 := hideIt hr2
  clear hown1 hgr1 V0 V1 B1 V0' V1' hB2 ho2 hr2
  go_wp2_with (at_builtin; refine wpList_append_rd _ rfl (.tmp 10) (.tmp 14) 42 rfl (w.heap.size + 2) 167 (.agg #[.int .i64 0, .int .i64 0]) 2 16 Tryz.underlying42 infoSec rfl (by decide) _ ps.length (ses ps) rfl HO2.out _ 1 (Se.cells ⟨at_, x⟩) rfl HR2.out (fun u hu => by simp [Se.cells] at hu; rcases hu with rfl | rfl <;> rfl) (by simp [maxLen]; omega) (by omega) (by simp; omega) ?_)
  intro v2 w2 hown2 hgr2
  have hr3 : RdE w2 v2 (ps ++ [⟨at_, x⟩]) := by
    have := (own_block hown2).rd
    unfold RdE
    rw [ses_snoc, List.length_append]
    exact this
  have L3 := hideIt (fun k hk => (hown2.lt k hk).1)
  have R3 : Hid (RdE w2 v2 (ps ++ [⟨at_, x⟩])) := hr3
  obtain ⟨_, a2, c2, e2, _⟩ := hr3
  simp only [List.length_append, List.length_singleton] at e2
  subst e2
  have hz2 : w1.heap.size + 1 ≤ w2.heap.size := by have := hgr2.size; simp at this; omega
  have hne : ∀ b, b < w.heap.size + 2 → ¬ some b = Value.ownBlock v1 := by
    intro b hb e
    have := (HO2.out.lt b e.symm).1
    omega
  have V0 := (hgr2.block w.heap.size (by simp <;> omega) (hne _ (by omega))).trans HV.out.1
  have V1 := (hgr2.block (w.heap.size + 1) (by simp <;> omega) (hne _ (by omega))).trans HV.out.2
  have B2 := hideIt (HB2.out.grown hgr2 (by simp <;> omega) (fun k hk => by have := (HO2.out.lt k hk).1; omega))
  obtain ⟨z1, z2, z3, z4⟩ := two_cells V0
  obtain ⟨t1, t2, t3, t4⟩ := two_cells V1
  clear hown2 hgr2 V0 V1
  go_wp2
  refine bodyPost_ret (v := .agg #[.slice aW ws.length cW, .slice a2 (ps.length + 1) c2]) (by simp [results, Tryz.results211, go_sem, t1, t2]) rfl ?_
  have B3 := ((B2.out.setCell (p := ⟨w.heap.size, 1, none⟩) (Nat.le_refl _) (.slice a2 (ps.length + 1) c2)).setCell (p := ⟨w.heap.size + 1, 0, none⟩) (by simp only; omega) (.slice aW ws.length cW)).setCell (p := ⟨w.heap.size + 1, 1, none⟩) (by simp only; omega) (.slice a2 (ps.length + 1) c2)
  refine ⟨_, rfl, ⟨_, _, rfl, Rd.below H1.out B3, Rd.same R3.out (by simp) (fun b _ hb => ?_)⟩, fun b hb => by have := L3.out b hb; omega, B3⟩
  have := L3.out b hb
  rw [Below.heap_setCell _ _ _ _ (by simp only; omega), Below.heap_setCell _ _ _ _ (by simp only; omega), Below.heap_setCell _ _ _ _ (by simp only; omega)]

end Go.Proofs.YtipklbnfobckaaaGreatDoor

namespace Go.Proofs.YtipklbnfobckaaaGreatDoor
open Go.RowKit

/-- The sectors with the writes laid one after the other. -/
def layE (ws : List Int) (ps : List Se) : List Int := ps.foldl (fun acc p => acc.set p.at_.toNat p.val) ws
theorem layE_snoc (ws : List Int) (ps : List Se) (p : Se) : layE ws (ps ++ [p]) = (layE ws ps).set p.at_.toNat p.val := by simp [layE]
theorem layE_len (ws : List Int) : ∀ ps : List Se, (layE ws ps).length = ws.length := by
  intro ps
  unfold layE
  induction ps generalizing ws with
  | nil => rfl
  | cons p ps ih => rw [List.foldl_cons, ih]; simp
def barC (ws : List Int) (ps : List Se) : Int := if blkB ws ps = true then 0 else 1
def barWs (ws : List Int) (ps : List Se) : List Int := if blkB ws ps = true then layE ws ps else []
theorem bar_not {ws : List Int} {ps : List Se} (h : blkB ws ps = false) : barC ws ps = 1 ∧ barWs ws ps = [] := by
  unfold barC barWs
  rw [h]
  exact ⟨rfl, rfl⟩
theorem bar_ok {ws : List Int} {ps : List Se} (h : blkB ws ps = true) : barC ws ps = 0 ∧ barWs ws ps = layE ws ps := by
  unfold barC barWs
  rw [h]
  exact ⟨rfl, rfl⟩

/-- In the midst of a barrier: the sectors so far, and the writes. -/
structure BarInv (w wr : World) (eZ : TypeId) (ws : List Int) (ps : List Se) (lo hi : Nat) (vW vP : Value) (m : Nat) : Prop where
  words : Row wr eZ 1 lo hi vW ws.length (ints (layE ws (ps.take m)))
  pend : Row wr 167 2 lo hi vP ps.length (ses ps)
  box : wr.heap[w.heap.size]? = some (.cells #[vW, vP] 44 (0, 0))
  res : wr.heap[w.heap.size + 1]? = some (.cells #[.slice none 0 0, .slice none 0 0] 44 (0, 0))
  below : Below w.heap.size w wr
  size : hi ≤ wr.heap.size
theorem BarInv.hit {w wr : World} {eZ : TypeId} {ws : List Int} {ps : List Se} {lo hi : Nat} {b n cap : Nat} {vP : Value} {m : Nat} (h : BarInv w wr eZ ws ps lo hi (.slice (some ⟨b, 0, none⟩) n cap) vP m) (he : eZ ≠ 167) (hm : m < ps.length) (hlo : w.heap.size + 2 ≤ lo) (hn : n = ws.length) :
    BarInv w (wr.setCell ⟨b, ps[m].at_.toNat, none⟩ (.int .i64 ps[m].val)) eZ ws ps lo hi (.slice (some ⟨b, 0, none⟩) n cap) vP (m + 1) := by
  subst hn
  obtain ⟨h1, h3, h4, h5, h6, h7⟩ := h
  obtain ⟨_, hb1, hb2, _⟩ := h1.at
  have e1 : layE ws (ps.take (m + 1)) = (layE ws (ps.take m)).set ps[m].at_.toNat ps[m].val := by rw [take_snoc ps m hm, layE_snoc]
  refine ⟨?_, ?_, ?_, ?_, ?_, ?_⟩
  · rw [e1, ← ints_set]
    exact h1.stored _ _
  · exact h3.apart h1 (Ne.symm he) (World.ownsRow.stored h1.1 _ _).2
  · rw [Below.heap_setCell _ _ _ _ (by simp only; omega)]; exact h4
  · rw [Below.heap_setCell _ _ _ _ (by simp only; omega)]; exact h5
  · exact h6.setCell (by simp only; omega) _
  · simpa using h7

theorem BarInv.drew {w wr : World} {eZ : TypeId} {ws : List Int} {ps : List Se} {lo hi : Nat} {vW vP : Value} {m : Nat} (h : BarInv w wr eZ ws ps lo hi vW vP m) : BarInv w wr.drew eZ ws ps lo hi vW vP m := by
  obtain ⟨h1, h2, h4, h5, h6, h7⟩ := h
  exact ⟨h1.same (fun _ _ _ => rfl), h2.same (fun _ _ _ => rfl), h4, h5, h6.drew, h7⟩

set_option maxRecDepth 100000 in
set_option maxHeartbeats 4000000 in
theorem l02Barrier_any (v : Value) (ws : List Int) (ps : List Se) (w : World) (h : RdBlk w v ws ps) (hw : ws.length ≤ 1048576) (hp : ps.length ≤ 1048576) (hok : ∀ j (h : j < ps.length), 0 ≤ ps[j].at_ ∧ ps[j].at_ < ws.length) :
    Calls Tryz.prog 212 #[v] w fun e w' => ∃ v', e = .returned v' ∧ RowBlk w' w.heap.size w'.heap.size v' (layE ws ps) [] ∧ Below w.heap.size w w' := by
  have HR := hideIt h
  obtain ⟨vW, vP, rfl, h1, h2⟩ := h
  obtain ⟨aW, cW, rfl, _⟩ := h1.shape
  obtain ⟨aP, cP, rfl, _⟩ := h2.shape
  have HOK := hideIt hok
  clear h1 h2 hok
  have hb0 : Below w.heap.size w ((w.alloc (.cells #[.slice aW ws.length cW, .slice aP ps.length cP] 44)).alloc (.cells #[.slice none 0 0, .slice none 0 0] 44)) := by
    repeat (refine Below.alloc ?_ (by simp <;> omega) _)
    exact Below.refl _ _
  go_enter Tryz.func212, Tryz.ntmps212
  go_wp2_with fail
  refine (l02Own_any _ ws ps _ (HR.out.below hb0) (by omega) (by omega)).mono ?_
  rintro e w2 ⟨v2, rfl, hr2, hb2⟩
  obtain ⟨vW2, vP2, rfl, hI2, hS2⟩ := hr2
  obtain ⟨aW2, cW2, rfl⟩ := RdI.form hI2.rd rfl
  obtain ⟨aP2, cP2, rfl⟩ := RdE.form hS2.rd rfl
  obtain ⟨eZ, heZ, hI2⟩ := hI2
  simp only [World.size_alloc] at hI2 hS2
  have HE := hideIt heZ
  have hz2 : w.heap.size + 2 ≤ w2.heap.size := by have := hb2.size; simp at this; omega
  have V0 := (hb2.block w.heap.size (by simp <;> omega)).trans (at_old (at_new rfl))
  have V1 := (hb2.block (w.heap.size + 1) (by simp)).trans (at_new (by simp))
  have B2 := below_trans hb0 hb2 (by simp <;> omega)
  obtain ⟨x1, x2, x3, x4⟩ := two_cells V0
  have INV : Hid (BarInv w ((w2.setCell ⟨w.heap.size, 0, none⟩ (.slice aW2 ws.length cW2)).setCell ⟨w.heap.size, 1, none⟩ (.slice aP2 ps.length cP2)) eZ ws ps (w.heap.size + 1 + 1) w2.heap.size (.slice aW2 ws.length cW2) (.slice aP2 ps.length cP2) 0) := by
    refine ⟨?_, ?_, ?_, ?_, ?_, ?_⟩
    · refine hI2.same fun b hb1 _ => ?_
      rw [Below.heap_setCell _ _ _ _ (by simp only; omega), Below.heap_setCell _ _ _ _ (by simp only; omega)]
    · refine hS2.same fun b hb1 _ => ?_
      rw [Below.heap_setCell _ _ _ _ (by simp only; omega), Below.heap_setCell _ _ _ _ (by simp only; omega)]
    · exact two_set1 (two_set0 V0 _) _
    · rw [Below.heap_setCell _ _ _ _ (by simp only; omega), Below.heap_setCell _ _ _ _ (by simp only; omega)]
      exact V1
    · exact (B2.setCell (by simp only; omega) _).setCell (by simp only; omega) _
    · simp
  clear hb0 hb2 hI2 hS2 V0 V1 B2 heZ
  go_wp2
  go_loopw [3] (fun i wr => ∃ m : Nat, m ≤ ps.length ∧ i = .int .i64 m ∧ Hid (BarInv w wr eZ ws ps (w.heap.size + 1 + 1) w2.heap.size (.slice aW2 ws.length cW2) (.slice aP2 ps.length cP2) m)) (fun i _ => ps.length - (intOf i).toNat)
  case atStart => exact ⟨0, by omega, rfl, INV⟩
  case round =>
    obtain ⟨m, hm, rfl, I⟩ := hrel
    obtain ⟨y1, y2, y3, y4⟩ := two_cells I.out.box
    by_cases hlt : m < ps.length
    · obtain ⟨_, ao', cap', e', _, hc⟩ := I.out.pend.rd
      cases e'
      obtain ⟨b, o, rfl, hbl, _⟩ := hc (by omega)
      obtain ⟨rfl, _, _, _, hfr, hcl⟩ := I.out.pend.at
      have e0 := (hcl (m * 2) (by omega)).trans (ses_at0 _ m hlt)
      have e1 := (hcl (m * 2 + 1) (by omega)).trans (ses_at1 _ m hlt)
      obtain ⟨q0, q1⟩ := HOK.out m hlt
      obtain ⟨_, aw', cw', ew', _, hcw⟩ := I.out.words.rd
      cases ew'
      obtain ⟨bw, ow, rfl, hblw, _⟩ := hcw (by omega)
      obtain ⟨rfl, _, _, _, hfrw, hclw⟩ := I.out.words.at
      have hj : ps[m].at_.toNat < (layE ws (ps.take m)).length := by rw [layE_len]; omega
      have g0 := hfrw ps[m].at_.toNat
      have g1 := (hclw ps[m].at_.toNat (by omega)).trans (ints_at _ _ hj)
      have q1' : ps[m].at_ < (ws.length : Int) := q1
      have hlt' : (m : Int) < (ps.length : Int) := by omega
      have hge : (0 : Int) ≤ (m : Int) := by omega
      clear hc hfr hcl hcw hfrw hclw
      go_wp2
      go_region
      all_goals
        go_wp2
        go_roundw
        case rel =>
          refine ⟨m + 1, by omega, by go_num, ?_⟩
          first | exact (I.out.hit HE.out hlt (Nat.le_refl _) rfl).drew | exact I.out.drew.hit HE.out hlt (Nat.le_refl _) rfl
        case measure => simp [intOf]; omega
    · have e : m = ps.length := by omega
      subst e
      have hsz := I.out.size
      obtain ⟨z1, z2, z3, z4⟩ := two_cells (at_old (o := .cells #[] 167) I.out.box)
      obtain ⟨t1, t2, t3, t4⟩ := two_cells (at_old (o := .cells #[] 167) I.out.res)
      have ho : (wr.alloc (.cells #[] 167)).ownsRow wr.heap.size 167 2 (.slice (some ⟨wr.heap.size, 0, none⟩) 0 0) 0 [] := by
        simpa using World.ownsRow_lit (base := wr.heap.size) (e := 167) (size := 2) wr #[] 0 (by simp) (by simp) rfl
      have HO := hideIt ho
      clear ho
      go_wp2
      have I2 := I.out
      refine bodyPost_ret (v := .agg #[.slice aW2 ws.length cW2, .slice (some ⟨wr.heap.size, 0, none⟩) 0 0]) (by simp [results, Tryz.results212, go_sem, t1, t2]) rfl ?_
      refine ⟨_, rfl, ⟨_, _, rfl, ⟨eZ, HE.out, ?_⟩, ?_⟩, (((I2.below.alloc (by omega) _).setCell (by simp only; omega) _).setCell (by simp only; omega) _).setCell (by simp only; omega) _⟩
      · rw [layE_len]
        have := I2.words
        rw [List.take_length] at this
        refine ((this.alloc hsz (.cells #[] 167)).same fun b h1 h2 => ?_).wide (by omega) (by simp; omega)
        rw [Below.heap_setCell _ _ _ _ (by simp only; omega), Below.heap_setCell _ _ _ _ (by simp only; omega), Below.heap_setCell _ _ _ _ (by simp only; omega)]
      · refine ((own_block HO.out).same fun b h1 h2 => ?_).wide (by omega) (by simp)
        rw [Below.heap_setCell _ _ _ _ (by simp only; omega), Below.heap_setCell _ _ _ _ (by simp only; omega), Below.heap_setCell _ _ _ _ (by simp only; omega)]

end Go.Proofs.YtipklbnfobckaaaGreatDoor
