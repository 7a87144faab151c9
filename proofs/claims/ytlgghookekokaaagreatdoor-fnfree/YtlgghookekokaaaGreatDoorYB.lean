/- Several texts laid together: PiP, PiQ, StN, NmU, RdA, RdD, NdA, RdE. -/
import Derived.Test.YtlgghookekokaaaGreatDoorYA
namespace Go.Proofs.YtlgghookekokaaaGreatDoor
open Go.RowKit

theorem first_congr {p q : Nat → Bool} {n : Nat} (h : ∀ j, j < n → p j = q j) : firstIx p n = firstIx q n := by
  rcases Classical.em (∃ k, k < n ∧ p k = true ∧ ∀ j, j < k → p j = false) with ⟨k, hk, e, f⟩ | hn
  · rw [first_at hk f e, first_at hk (fun j hj => by rw [← h j (by omega)]; exact f j hj) (by rw [← h k hk]; exact e)]
  · have a : ∀ m, m ≤ n → ∀ j, j < m → p j = false := by
      intro m
      induction m with
      | zero => intro _ j hj; omega
      | succ m ih =>
        intro hm j hj
        by_cases e : j = m
        · subst e
          cases hp : p j with
          | false => rfl
          | true => exact absurd ⟨j, by omega, hp, ih (by omega)⟩ hn
        · exact ih (by omega) j (by omega)
    rw [first_none (a n (Nat.le_refl _)), first_none (fun j hj => by rw [← h j hj]; exact a n (Nat.le_refl _) j hj)]
/-- What is told of a number that was looked for. -/
def tellV (r : Int) : Int := if r < 0 then 0 else r
def tellC (r : Int) : Int := if r < 0 then 7 else 0
/-- What is used, of a tier. -/
def ubC (b : Bool) (t : Int) : Int := if b = true then (if t = 1 ∨ t = 2 then 0 else 4) else 1
def ubL (b : Bool) (ms : List Int) (t : Int) : List Int := if b = true ∧ (t = 1 ∨ t = 2) then usedOf ms t else []
theorem img_parts {ws : List Ino} {ps : List Den} (h : imgB ws ps = true) : ws.length = 16 ∧ ps.length = 24 ∧ kindAt ws 0 = 2 ∧ okNs ws = true := by
  unfold imgB at h
  simp only [Bool.and_eq_true, decide_eq_true_eq, beq_iff_eq] at h
  exact ⟨h.1, h.2.1, h.2.2.1, h.2.2.2.1⟩
theorem img_small {ws : List Ino} {ps : List Den} (h : imgB ws ps = true) : ∀ k (h : k < ws.length), ∀ z ∈ ws[k].map, 0 ≤ z ∧ z ≤ 1048576 := fun k hk z hz => tie_small (okNs_ties (img_parts h).2.2.2 k hk z hz)
theorem row_none3 (w : World) : Row (w.alloc (.cells #[] 3)) 3 1 w.heap.size (w.alloc (.cells #[] 3)).heap.size (.slice (some ⟨w.heap.size, 0, none⟩) 0 0) 0 [] :=
  own_block (World.ownsRow_lit w #[] 0 (Nat.le_refl _) (by simp [maxLen]) (by simp))

set_option maxRecDepth 100000 in
set_option maxHeartbeats 4000000 in
theorem specUsedBy_any (v : Value) (ws : List Ino) (ps : List Den) (t : Int) (w : World) (h : RdIm w v ws ps) (hw : ws.length ≤ 1048576) (hp : ps.length ≤ 1048576) (hr : ∀ k (h : k < ws.length), ws[k].R) (hs : ∀ k (h : k < ps.length), ps[k].name.size ≤ maxLen) :
    Calls Tryz.prog 19 #[v, .int .i64 t] w fun e w' => ∃ v', e = .returned (.tuple #[v', .int .i64 (ubC (imgB ws ps) t)]) ∧ Row w' 3 1 w.heap.size w'.heap.size v' (ubL (imgB ws ps) (mapped ws) t).length (ints (ubL (imgB ws ps) (mapped ws) t)) ∧ Below w.heap.size w w' := by
  have HRD := hideIt h
  have LI := hideIt (fun w1 h => specImageOK_any v ws ps w1 h hw hp hr hs)
  have LU := hideIt (fun w1 h (o : imgB ws ps = true) => l05Used_any v ws ps t w1 h (by have := (img_parts o).1; omega) (img_small o))
  have RE := hideIt (fun w1 : World => And.intro (row_none3 w1) ((Below.refl w1.heap.size w1).alloc (Nat.le_refl _) (.cells #[] 3)))
  obtain ⟨vW, vP, rfl, h1, h2⟩ := h
  obtain ⟨aW, cW, rfl, _, _⟩ := h1.shape
  obtain ⟨aP, cP, rfl, _, _⟩ := h2.shape
  clear h1 h2 hr hs
  have CA : Hid (∀ w', Below (w.alloc (.cells #[.slice aW ws.length cW, .slice aP ps.length cP] 26)).heap.size (w.alloc (.cells #[.slice aW ws.length cW, .slice aP ps.length cP] 26)) w' → w'.cell? ⟨w.heap.size, 0, none⟩ = some (.slice aW ws.length cW) ∧ w'.cell? ⟨w.heap.size, 1, none⟩ = some (.slice aP ps.length cP)) := fun w' hb => by
    have : w'.heap[w.heap.size]? = some (.cells #[.slice aW ws.length cW, .slice aP ps.length cP] 26 (0, 0)) := (hb.block _ (by simp)).trans (at_new rfl)
    exact ⟨(two_cells this).1, (two_cells this).2.1⟩
  have BW : Hid (Below w.heap.size w (w.alloc (.cells #[.slice aW ws.length cW, .slice aP ps.length cP] 26))) := (Below.refl _ _).alloc (Nat.le_refl _) _
  obtain ⟨x0, x1⟩ := CA.out _ (Below.refl _ _)
  cases c1 : imgB ws ps with
  | false =>
    rw [c1] at LI
    rw [show ubC false t = 1 from rfl, show ubL false (mapped ws) t = [] from if_neg (fun h => by cases h.1)]
    clear c1
    go_enter Tryz.func19, Tryz.ntmps19
    go_wp2_with fail
    refine (LI.out _ (HRD.out.below BW.out)).mono ?_
    rintro e w1 ⟨rfl, hb1⟩
    have B1 := hideIt (below_trans BW.out hb1 BW.out.size)
    clear hb1 x0 x1
    go_wp2
    go_ret2
    exact ⟨_, rfl, (RE.out _).1.wide B1.out.size (Nat.le_refl _), below_trans B1.out (RE.out _).2 B1.out.size⟩
  | true =>
  rw [c1] at LI
  have O := hideIt c1
  by_cases c2 : t = 1 ∨ t = 2
  case neg =>
    rw [show ubC true t = 4 by unfold ubC; rw [if_pos rfl, if_neg c2], show ubL true (mapped ws) t = [] from if_neg (fun h => c2 h.2)]
    have q1 : (t != 1) = true := by rw [bne_iff_ne]; exact fun e => c2 (.inl e)
    have q2 : (t != 2) = true := by rw [bne_iff_ne]; exact fun e => c2 (.inr e)
    clear c1 c2
    go_enter Tryz.func19, Tryz.ntmps19
    go_wp2_with fail
    refine (LI.out _ (HRD.out.below BW.out)).mono ?_
    rintro e w1 ⟨rfl, hb1⟩
    have B1 := hideIt (below_trans BW.out hb1 BW.out.size)
    clear hb1 x0 x1
    go_wp2
    go_ret2
    exact ⟨_, rfl, (RE.out _).1.wide B1.out.size (Nat.le_refl _), below_trans B1.out (RE.out _).2 B1.out.size⟩
  rw [show ubC true t = 0 by unfold ubC; rw [if_pos rfl, if_pos c2], show ubL true (mapped ws) t = usedOf (mapped ws) t from if_pos ⟨rfl, c2⟩]
  rcases c2 with rfl | rfl
  all_goals
    go_enter Tryz.func19, Tryz.ntmps19
    go_wp2_with fail
    refine (LI.out _ (HRD.out.below BW.out)).mono ?_
    rintro e w1 ⟨rfl, hb1⟩
    have B1 := hideIt (below_trans BW.out hb1 BW.out.size)
    clear x0 x1
    obtain ⟨x0, x1⟩ := CA.out _ hb1
    clear hb1
    go_wp2_with fail
    refine (LU.out _ (HRD.out.below B1.out) O.out).mono ?_
    rintro e w2 ⟨v2, rfl, hr2, hb2⟩
    obtain ⟨-, aL, cL, hvL, -⟩ := hr2.rd
    subst hvL
    have R2 := hideIt (hr2.wide B1.out.size (Nat.le_refl _))
    have B2 := hideIt (below_trans B1.out hb2 B1.out.size)
    clear hr2 hb2 x0 x1
    go_wp2
    go_ret2
    exact ⟨_, rfl, R2.out, B2.out⟩

theorem used_succ {l : List Int} {t : Int} {k : Nat} (hk : k < l.length) : usedOf (l.take (k + 1)) t = if l[k] % 4 = t then usedOf (l.take k) t ++ [l[k] / 4] else usedOf (l.take k) t := by
  unfold usedOf
  rw [List.take_succ_eq_append_getElem hk, List.filter_append, List.map_append]
  by_cases h : l[k] % 4 = t
  · rw [if_pos h]; simp [h]
  · rw [if_neg h]; simp [h]

set_option maxRecDepth 100000 in
set_option maxHeartbeats 4000000 in
theorem implUsedBy_any (v : Value) (ws : List Ino) (ps : List Den) (t : Int) (w : World) (h : RdIm w v ws ps) (hw : ws.length ≤ 1048576) (hp : ps.length ≤ 1048576) (hT : TS w) (hE : ED w) (hF : FD w) (hr : ∀ k (h : k < ws.length), ws[k].R) (hs : ∀ k (h : k < ps.length), ps[k].name.size ≤ maxLen) :
    Calls Tryz.prog 18 #[v, .int .i64 t] w fun e w' => ∃ v', e = .returned (.tuple #[v', .int .i64 (ubC (imgB ws ps) t)]) ∧ Row w' 3 1 w.heap.size w'.heap.size v' (ubL (imgB ws ps) (mapped ws) t).length (ints (ubL (imgB ws ps) (mapped ws) t)) ∧ Below w.heap.size w w' := by
  have LI := hideIt (fun w1 (hb : Below w.heap.size w w1) => implImageOK_any v ws ps w1 (h.below hb) hw hp (hT.below hb) (hE.below hb) (hF.below hb) hr hs)
  have T := hideIt hT
  obtain ⟨vW, vP, rfl, h1, h2⟩ := h
  have RW := hideIt h1
  obtain ⟨aW, cW, rfl, _, _⟩ := h1.shape
  obtain ⟨aP, cP, rfl, _, _⟩ := h2.shape
  have LM := hideIt (fun w1 (hb : Below w.heap.size w w1) (hl : ws.length ≤ 4096) => mappedEntries_any (.slice aW ws.length cW) ws w1 (Rd.below RW.out hb) hl)
  clear h1 h2 hr hs hT hE hF
  have CA : Hid (∀ w', Below (w.alloc (.cells #[.slice aW ws.length cW, .slice aP ps.length cP] 26)).heap.size (w.alloc (.cells #[.slice aW ws.length cW, .slice aP ps.length cP] 26)) w' → w'.cell? ⟨w.heap.size, 0, none⟩ = some (.slice aW ws.length cW) ∧ w'.cell? ⟨w.heap.size, 1, none⟩ = some (.slice aP ps.length cP)) := fun w' hb => by
    have : w'.heap[w.heap.size]? = some (.cells #[.slice aW ws.length cW, .slice aP ps.length cP] 26 (0, 0)) := (hb.block _ (by simp)).trans (at_new rfl)
    exact ⟨(two_cells this).1, (two_cells this).2.1⟩
  have BW : Hid (Below w.heap.size w (w.alloc (.cells #[.slice aW ws.length cW, .slice aP ps.length cP] 26))) := (Below.refl _ _).alloc (Nat.le_refl _) _
  obtain ⟨x0, x1⟩ := CA.out _ (Below.refl _ _)
  cases c1 : imgB ws ps with
  | false =>
    rw [c1] at LI
    rw [show ubC false t = 1 from rfl, show ubL false (mapped ws) t = [] from if_neg (fun h => by cases h.1)]
    clear c1
    go_enter Tryz.func18, Tryz.ntmps18
    go_wp2_with fail
    refine (LI.out _ BW.out).mono ?_
    rintro e w1 ⟨rfl, hb1⟩
    have B1 := hideIt (below_trans BW.out hb1 BW.out.size)
    clear hb1 x0 x1
    go_wp2
    go_ret2
    exact ⟨_, rfl, Row.nil _ _ _ _ _, B1.out⟩
  | true =>
  rw [c1] at LI
  by_cases c2 : t = 1 ∨ t = 2
  case neg =>
    rw [show ubC true t = 4 by unfold ubC; rw [if_pos rfl, if_neg c2], show ubL true (mapped ws) t = [] from if_neg (fun h => c2 h.2)]
    have q1 : (t != 1) = true := by rw [bne_iff_ne]; exact fun e => c2 (.inl e)
    have q2 : (t != 2) = true := by rw [bne_iff_ne]; exact fun e => c2 (.inr e)
    clear c1 c2
    go_enter Tryz.func18, Tryz.ntmps18
    go_wp2_with fail
    refine (LI.out _ BW.out).mono ?_
    rintro e w1 ⟨rfl, hb1⟩
    have B1 := hideIt (below_trans BW.out hb1 BW.out.size)
    clear hb1 x0 x1
    go_wp2
    go_ret2
    exact ⟨_, rfl, Row.nil _ _ _ _ _, B1.out⟩
  rw [show ubC true t = 0 by unfold ubC; rw [if_pos rfl, if_pos c2], show ubL true (mapped ws) t = usedOf (mapped ws) t from if_pos ⟨rfl, c2⟩]
  have HL := hideIt (show ws.length ≤ 4096 by have := (img_parts c1).1; omega)
  have ml : (mapped ws).length ≤ 128 := by have := mapped_len ws; have := (img_parts c1).1; omega
  have TI : Hid (∀ k (h : k < (mapped ws).length), tieB (mapped ws)[k] = true) := fun k hk => by
    have hm := List.getElem_mem hk
    generalize (mapped ws)[k] = e at hm ⊢
    unfold mapped at hm
    obtain ⟨x, hx, he⟩ := List.mem_flatMap.1 hm
    obtain ⟨i, hi, rfl⟩ := List.getElem_of_mem hx
    unfold somes at he
    exact okNs_ties (img_parts c1).2.2.2 i hi e (List.mem_filter.1 he).1
  have qq : ((t != 1) = false ∨ ((t != 1) = true ∧ (t != 2) = false)) := by rcases c2 with rfl | rfl <;> simp
  have TB : -10 ≤ t ∧ t ≤ 10 := by omega
  clear c1 c2
  generalize mapped ws = ms at *
  rcases qq with q1 | ⟨q1, q2⟩
  all_goals
    go_enter Tryz.func18, Tryz.ntmps18
    go_wp2_with fail
    refine (LI.out _ BW.out).mono ?_
    rintro e w1 ⟨rfl, hb1⟩
    have B1 := hideIt (below_trans BW.out hb1 BW.out.size)
    clear x0 x1
    obtain ⟨x0, x1⟩ := CA.out _ hb1
    clear hb1
    go_wp2_with fail
    refine (LM.out _ B1.out HL.out).mono ?_
    rintro e w2 ⟨v2, rfl, hr2, hb2⟩
    obtain ⟨-, aM, cM, hvM, -⟩ := hr2.rd
    subst hvM
    have R2 : Hid (RdI w2 (.slice aM ms.length cM) ms) := hr2.rd
    have B2 := hideIt (below_trans B1.out hb2 B1.out.size)
    have hz2 : w.heap.size ≤ w2.heap.size := B2.out.size
    obtain ⟨aZ, cZ, eZ, _, hcZ⟩ := R2.out.shape
    have HZ := hideIt hcZ
    obtain ⟨rfl, rfl⟩ : aZ = aM ∧ cZ = cM := by cases eZ; exact ⟨rfl, rfl⟩
    clear eZ hcZ hr2 hb2 x0 x1
    go_wp2
    go_loopw [6, 8, 9, 10, 11, 25] (fun vL _ _ _ _ i wr => ∃ k : Nat, k ≤ ms.length ∧ i = .int .i64 k ∧ Hid (InI w2 wr vL (usedOf (ms.take k) t)) ∧ w2.heap.size ≤ wr.heap.size) (fun _ _ _ _ _ i _ => ms.length - (intOf i).toNat)
    case atStart => exact ⟨0, by omega, rfl, ⟨World.ownsRow_nil _ _ _ _, Below.refl _ _⟩, Nat.le_refl _⟩
    case round =>
      obtain ⟨k, hk, rfl, I, hz⟩ := hrel
      by_cases hlt : k < ms.length
      · obtain ⟨b, o, rfl, hbl, hcell⟩ := HZ.out (by omega)
        have hck := (I.out.b.cell (p := ⟨b, o + k, none⟩) hbl).trans (hcell k hlt)
        have k0 : (0 : Int) ≤ (k : Int) := by omega
        have k1 : (k : Int) < (ms.length : Int) := by omega
        have US := hideIt (used_succ (t := t) hlt)
        have UL := usedOf_len (ms.take k) t
        rw [List.length_take] at UL
        obtain ⟨t1, t2, t3⟩ := tie_in (TI.out k hlt)
        have t4 := tie_small (TI.out k hlt)
        have LT := hideIt (fun w3 (hT : TS w3) => implTierOf_any ms[k] w3 hT (by omega) (by omega))
        rw [t1, t2, t3] at LT
        have TW := hideIt (T.out.below (below_trans B2.out I.out.b hz2))
        clear hcell t1 t2 t3
        generalize ms[k] = z at hck US LT t4
        by_cases r : z % 4 = t
        · have r' : (z % 4 == t) = true := by rw [beq_iff_eq]; exact r
          have JB : Hid (InI w2 (wr.alloc (.cells #[.int .i64 (z / 4)] 3)) u6 (usedOf (ms.take k) t)) := I.out.below ((Below.refl _ _).alloc (Nat.le_refl _) _)
          have RB := hideIt (rd_int wr (z / 4))
          have hzb := JB.out.z
          have MN : Hid (usedOf (ms.take (k + 1)) t = usedOf (ms.take k) t ++ [z / 4]) := by unfold Hid; rw [US.out, if_pos r]
          clear r I US
          go_wp2_with (first
            | (go_at_call 66; refine (LT.out _ TW.out).mono ?_; rintro e w' ⟨rfl, rfl⟩)
            | (at_builtin; refine wpList_append_rd _ rfl (.tmp 38) (.tmp 40) 28 rfl w2.heap.size 3 (.int .i64 0) 1 8 Tryz.underlying28 info3 rfl (by decide) _ _ _ rfl JB.out.l _ 1 _ rfl RB.out (one_int _) (by simp [maxLen]; omega) (by omega) (by omega) ?_))
          intro vN wN hownN hgrN
          have G := hideIt (JB.out.grow (z / 4) hownN hgrN)
          rw [← MN.out] at G
          have hzN := G.out.z
          clear hownN hgrN JB RB
          go_wp2
          go_roundw
          case rel => exact ⟨k + 1, by omega, by go_num, G, hzN⟩
          case measure => simp [intOf]; omega
        · have r' : (z % 4 == t) = false := by rw [beq_eq_false_iff_ne]; exact r
          have G : Hid (InI w2 wr u6 (usedOf (ms.take (k + 1)) t)) := by unfold Hid; rw [US.out, if_neg r]; exact I.out
          clear r I US
          go_wp2_with (go_at_call 66; refine (LT.out _ TW.out).mono ?_; rintro e w' ⟨rfl, rfl⟩)
          go_roundw
          case rel => exact ⟨k + 1, by omega, by go_num, G, hz⟩
          case measure => simp [intOf]; omega
      · obtain rfl : k = ms.length := by omega
        have E := hideIt (show usedOf (ms.take ms.length) t = usedOf ms t by rw [List.take_length])
        rw [E.out] at I
        obtain ⟨-, aL, cL, hvL, -⟩ := (own_block I.out.l).rd
        subst hvL
        go_wp2
        go_ret2
        exact ⟨_, rfl, (own_block I.out.l).wide hz2 (Nat.le_refl _), below_trans B2.out I.out.b hz2⟩
end Go.Proofs.YtlgghookekokaaaGreatDoor

namespace Go.Proofs.YtlgghookekokaaaGreatDoor
open Go.RowKit

def fpV (b : Bool) (r : Int) : Int := if b = true then tellV r else 0
def fpC (b : Bool) (r : Int) : Int := if b = true then tellC r else 1

set_option maxRecDepth 100000 in
set_option maxHeartbeats 4000000 in
theorem freeAddress_any (v : Value) (ws : List Ino) (ps : List Den) (t : Nat) (n : Nat) (w : World) (h : RdIm w v ws ps) (hw : ws.length ≤ 1048576) (hp : ps.length ≤ 1048576) (hT : TS w) (hE : ED w) (hF : FD w) (hr : ∀ k (h : k < ws.length), ws[k].R) (hs : ∀ k (h : k < ps.length), ps[k].name.size ≤ maxLen) (ht : (t = 1 ∧ n = 24) ∨ (t = 2 ∧ n = 32)) :
    Calls Tryz.prog 69 #[v, .int .i64 (t : Int)] w fun e w' => e = .returned (.tuple #[.int .i64 (fpV (imgB ws ps) (firstIx (fun i => !hasB (usedOf (mapped ws) (t : Int)) (i : Int)) n)), .int .i64 (fpC (imgB ws ps) (firstIx (fun i => !hasB (usedOf (mapped ws) (t : Int)) (i : Int)) n))]) ∧ Below w.heap.size w w' := by
  have LU := hideIt (fun w1 (hb : Below w.heap.size w w1) => implUsedBy_any v ws ps (t : Int) w1 (h.below hb) hw hp (hT.below hb) (hE.below hb) (hF.below hb) hr hs)
  have T := hideIt hT
  obtain ⟨vW, vP, rfl, h1, h2⟩ := h
  obtain ⟨aW, cW, rfl, _, hcW⟩ := h1.shape
  obtain ⟨aP, cP, rfl, _, _⟩ := h2.shape
  clear h1 h2 hr hs hT hE hF hcW
  have CA : Hid (∀ w', Below (w.alloc (.cells #[.slice aW ws.length cW, .slice aP ps.length cP] 26)).heap.size (w.alloc (.cells #[.slice aW ws.length cW, .slice aP ps.length cP] 26)) w' → w'.cell? ⟨w.heap.size, 0, none⟩ = some (.slice aW ws.length cW) ∧ w'.cell? ⟨w.heap.size, 1, none⟩ = some (.slice aP ps.length cP)) := fun w' hb => by
    have : w'.heap[w.heap.size]? = some (.cells #[.slice aW ws.length cW, .slice aP ps.length cP] 26 (0, 0)) := (hb.block _ (by simp)).trans (at_new rfl)
    exact ⟨(two_cells this).1, (two_cells this).2.1⟩
  have BW : Hid (Below w.heap.size w (w.alloc (.cells #[.slice aW ws.length cW, .slice aP ps.length cP] 26))) := (Below.refl _ _).alloc (Nat.le_refl _) _
  obtain ⟨x0, x1⟩ := CA.out _ (Below.refl _ _)
  have c2 : (t : Int) = 1 ∨ (t : Int) = 2 := by rcases ht with ⟨e, _⟩ | ⟨e, _⟩ <;> rw [e] <;> decide
  cases c1 : imgB ws ps with
  | false =>
    rw [c1] at LU
    have e1 := show ubC false (t : Int) = 1 from rfl
    have e2 : ubL false (mapped ws) (t : Int) = [] := if_neg (fun h => by cases h.1)
    rw [e1, e2] at LU
    generalize firstIx (fun i => !hasB (usedOf (mapped ws) (t : Int)) (i : Int)) n = r
    rw [show fpV false r = 0 from rfl, show fpC false r = 1 from rfl]
    clear c1 e1 e2
    go_enter Tryz.func69, Tryz.ntmps69
    go_wp2_with fail
    refine (LU.out _ BW.out).mono ?_
    rintro e w1 ⟨v1, rfl, hr1, hb1⟩
    obtain ⟨-, aL, cL, hvL, -⟩ := hr1.rd
    subst hvL
    have B1 := hideIt (below_trans BW.out hb1 BW.out.size)
    clear hr1 hb1 x0 x1
    go_wp2
    go_ret2
    exact ⟨rfl, B1.out⟩
  | true =>
  rw [c1] at LU
  have e1 : ubC true (t : Int) = 0 := by unfold ubC; rw [if_pos rfl, if_pos c2]
  have e2 : ubL true (mapped ws) (t : Int) = usedOf (mapped ws) (t : Int) := if_pos ⟨rfl, c2⟩
  have UL : (usedOf (mapped ws) (t : Int)).length ≤ 1048576 := by have := usedOf_len (mapped ws) (t : Int); have := mapped_len ws; have := (img_parts c1).1; omega
  rw [e1, e2] at LU
  generalize usedOf (mapped ws) (t : Int) = zs at *
  have TC : Hid (∀ w', Below w.heap.size w w' → w'.cell? ⟨2, t, none⟩ = some (.int .i64 (n : Int))) := fun w' hb => by
    obtain ⟨a0, a1, a2⟩ := TS.cells (T.out.below hb)
    rcases ht with ⟨rfl, rfl⟩ | ⟨rfl, rfl⟩
    · exact a1
    · exact a2
  have t0 : (0 : Int) ≤ (t : Int) := by rcases ht with ⟨e, _⟩ | ⟨e, _⟩ <;> rw [e] <;> decide
  have t3 : (t : Int) < 3 := by rcases ht with ⟨e, _⟩ | ⟨e, _⟩ <;> rw [e] <;> decide
  have n1 : n ≤ 32 := by rcases ht with ⟨_, e⟩ | ⟨_, e⟩ <;> rw [e] <;> decide
  clear c1 c2 e1 e2 ht T
  go_enter Tryz.func69, Tryz.ntmps69
  go_wp2_with fail
  refine (LU.out _ BW.out).mono ?_
  rintro e w1 ⟨v1, rfl, hr1, hb1⟩
  obtain ⟨-, aL, cL, hvL, -⟩ := hr1.rd
  subst hvL
  have R1 : Hid (RdI w1 (.slice aL zs.length cL) zs) := hr1.rd
  have B1 := hideIt (below_trans BW.out hb1 BW.out.size)
  have tc := TC.out _ B1.out
  clear hr1 hb1 x0 x1 CA
  go_wp2
  go_loopw [8, 21] (fun _ i wr => ∃ k : Nat, k ≤ n ∧ i = .int .i64 k ∧ wr = w1 ∧ Hid (∀ j, j < k → (!hasB zs (j : Int)) = false)) (fun _ i _ => n - (intOf i).toNat)
  case atStart => exact ⟨0, by omega, rfl, rfl, fun j a => absurd a (by omega)⟩
  case round =>
    obtain ⟨k, hk, rfl, rfl, H⟩ := hrel
    have k0 : (0 : Int) ≤ (k : Int) := by omega
    by_cases hlt : k < n
    · have k1 : (k : Int) < (n : Int) := by omega
      have LH := hideIt (containsInt_any (.slice aL zs.length cL) zs (k : Int) _ R1.out UL)
      cases q : hasB zs (k : Int) with
      | true =>
        have H' : Hid (∀ j, j < k + 1 → (!hasB zs (j : Int)) = false) := fun j a => by
          by_cases e : j = k
          · subst e; rw [q]; rfl
          · exact H.out j (by omega)
        rw [q] at LH
        clear q H
        go_wp2_with (go_at_call 102; refine LH.out.mono ?_; rintro e w' ⟨rfl, rfl⟩)
        go_roundw
        case rel => exact ⟨k + 1, by omega, by go_num, trivial, H'⟩
        case measure => simp [intOf]; omega
      | false =>
        have E := hideIt (first_at (p := fun i => !hasB zs (i : Int)) hlt H.out (by rw [q]; rfl))
        have E1 := hideIt (show fpV true (k : Int) = (k : Int) by unfold fpV tellV; rw [if_pos rfl, if_neg (by omega)])
        have E2 := hideIt (show fpC true (k : Int) = 0 by unfold fpC tellC; rw [if_pos rfl, if_neg (by omega)])
        rw [q] at LH
        clear q H
        go_wp2_with (go_at_call 102; refine LH.out.mono ?_; rintro e w' ⟨rfl, rfl⟩)
        go_ret2
        exact ⟨ret_two (by rw [E.out, E1.out]) (by rw [E.out, E2.out]), B1.out⟩
    · have E := hideIt (first_none (p := fun i => !hasB zs (i : Int)) (n := n) (fun j hj => H.out j (by omega)))
      clear H
      go_wp2
      go_ret2
      exact ⟨ret_two (by rw [E.out]; rfl) (by rw [E.out]; rfl), B1.out⟩

set_option maxRecDepth 100000 in
set_option maxHeartbeats 4000000 in
theorem implFreePage_any (v : Value) (ws : List Ino) (ps : List Den) (w : World) (h : RdIm w v ws ps) (hw : ws.length ≤ 1048576) (hp : ps.length ≤ 1048576) (hT : TS w) (hE : ED w) (hF : FD w) (hr : ∀ k (h : k < ws.length), ws[k].R) (hs : ∀ k (h : k < ps.length), ps[k].name.size ≤ maxLen) :
    Calls Tryz.prog 20 #[v] w fun e w' => e = .returned (.tuple #[.int .i64 (fpV (imgB ws ps) (firstIx (fun i => !hasB (usedOf (mapped ws) 1) (i : Int)) 24)), .int .i64 (fpC (imgB ws ps) (firstIx (fun i => !hasB (usedOf (mapped ws) 1) (i : Int)) 24))]) ∧ Below w.heap.size w w' := by
  have LF := hideIt (fun w1 (hb : Below w.heap.size w w1) => freeAddress_any v ws ps 1 24 w1 (h.below hb) hw hp (hT.below hb) (hE.below hb) (hF.below hb) hr hs (by omega))
  rw [show ((1 : Nat) : Int) = 1 from rfl] at LF
  obtain ⟨vW, vP, rfl, h1, h2⟩ := h
  obtain ⟨aW, cW, rfl, _, hcW⟩ := h1.shape
  obtain ⟨aP, cP, rfl, _, _⟩ := h2.shape
  clear h1 h2 hr hs hcW hT hE hF
  have CA : Hid (∀ w', Below (w.alloc (.cells #[.slice aW ws.length cW, .slice aP ps.length cP] 26)).heap.size (w.alloc (.cells #[.slice aW ws.length cW, .slice aP ps.length cP] 26)) w' → w'.cell? ⟨w.heap.size, 0, none⟩ = some (.slice aW ws.length cW) ∧ w'.cell? ⟨w.heap.size, 1, none⟩ = some (.slice aP ps.length cP)) := fun w' hb => by
    have : w'.heap[w.heap.size]? = some (.cells #[.slice aW ws.length cW, .slice aP ps.length cP] 26 (0, 0)) := (hb.block _ (by simp)).trans (at_new rfl)
    exact ⟨(two_cells this).1, (two_cells this).2.1⟩
  have BW : Hid (Below w.heap.size w (w.alloc (.cells #[.slice aW ws.length cW, .slice aP ps.length cP] 26))) := (Below.refl _ _).alloc (Nat.le_refl _) _
  obtain ⟨x0, x1⟩ := CA.out _ (Below.refl _ _)
  generalize fpV (imgB ws ps) (firstIx (fun i => !hasB (usedOf (mapped ws) 1) (i : Int)) 24) = r1 at *
  generalize fpC (imgB ws ps) (firstIx (fun i => !hasB (usedOf (mapped ws) 1) (i : Int)) 24) = r2 at *
  go_enter Tryz.func20, Tryz.ntmps20
  go_wp2_with fail
  refine (LF.out _ BW.out).mono ?_
  rintro e w1 ⟨rfl, hb1⟩
  have B1 := hideIt (below_trans BW.out hb1 BW.out.size)
  clear hb1 x0 x1
  go_wp2
  go_ret2
  exact ⟨rfl, B1.out⟩

set_option maxRecDepth 100000 in
set_option maxHeartbeats 4000000 in
theorem implFreeSector_any (v : Value) (ws : List Ino) (ps : List Den) (w : World) (h : RdIm w v ws ps) (hw : ws.length ≤ 1048576) (hp : ps.length ≤ 1048576) (hT : TS w) (hE : ED w) (hF : FD w) (hr : ∀ k (h : k < ws.length), ws[k].R) (hs : ∀ k (h : k < ps.length), ps[k].name.size ≤ maxLen) :
    Calls Tryz.prog 21 #[v] w fun e w' => e = .returned (.tuple #[.int .i64 (fpV (imgB ws ps) (firstIx (fun i => !hasB (usedOf (mapped ws) 2) (i : Int)) 32)), .int .i64 (fpC (imgB ws ps) (firstIx (fun i => !hasB (usedOf (mapped ws) 2) (i : Int)) 32))]) ∧ Below w.heap.size w w' := by
  have LF := hideIt (fun w1 (hb : Below w.heap.size w w1) => freeAddress_any v ws ps 2 32 w1 (h.below hb) hw hp (hT.below hb) (hE.below hb) (hF.below hb) hr hs (by omega))
  rw [show ((2 : Nat) : Int) = 2 from rfl] at LF
  obtain ⟨vW, vP, rfl, h1, h2⟩ := h
  obtain ⟨aW, cW, rfl, _, hcW⟩ := h1.shape
  obtain ⟨aP, cP, rfl, _, _⟩ := h2.shape
  clear h1 h2 hr hs hcW hT hE hF
  have CA : Hid (∀ w', Below (w.alloc (.cells #[.slice aW ws.length cW, .slice aP ps.length cP] 26)).heap.size (w.alloc (.cells #[.slice aW ws.length cW, .slice aP ps.length cP] 26)) w' → w'.cell? ⟨w.heap.size, 0, none⟩ = some (.slice aW ws.length cW) ∧ w'.cell? ⟨w.heap.size, 1, none⟩ = some (.slice aP ps.length cP)) := fun w' hb => by
    have : w'.heap[w.heap.size]? = some (.cells #[.slice aW ws.length cW, .slice aP ps.length cP] 26 (0, 0)) := (hb.block _ (by simp)).trans (at_new rfl)
    exact ⟨(two_cells this).1, (two_cells this).2.1⟩
  have BW : Hid (Below w.heap.size w (w.alloc (.cells #[.slice aW ws.length cW, .slice aP ps.length cP] 26))) := (Below.refl _ _).alloc (Nat.le_refl _) _
  obtain ⟨x0, x1⟩ := CA.out _ (Below.refl _ _)
  generalize fpV (imgB ws ps) (firstIx (fun i => !hasB (usedOf (mapped ws) 2) (i : Int)) 32) = r1 at *
  generalize fpC (imgB ws ps) (firstIx (fun i => !hasB (usedOf (mapped ws) 2) (i : Int)) 32) = r2 at *
  go_enter Tryz.func21, Tryz.ntmps21
  go_wp2_with fail
  refine (LF.out _ BW.out).mono ?_
  rintro e w1 ⟨rfl, hb1⟩
  have B1 := hideIt (below_trans BW.out hb1 BW.out.size)
  clear hb1 x0 x1
  go_wp2
  go_ret2
  exact ⟨rfl, B1.out⟩

set_option maxRecDepth 100000 in
set_option maxHeartbeats 4000000 in
theorem indexInode_any (v : Value) (ws : List Ino) (w : World) (h : RdN w v ws) (hn : ws.length ≤ 1048576) :
    Calls Tryz.prog 70 #[v, zeroN.v] w fun e w' => e = .returned (.int .i64 (firstIx (fun i => inoEq zeroN.ns (ws.getD i zeroN).ns) ws.length)) ∧ Below w.heap.size w w' := by
  obtain ⟨aZ, cZ, rfl, _, hcZ⟩ := h.shape
  have HZ := hideIt hcZ
  have BW := hideIt ((Below.refl w.heap.size w).alloc (Nat.le_refl _) (.cells zeroN.cs.toArray 44))
  have CA : Hid (∀ w', Below (w.alloc (.cells zeroN.cs.toArray 44)).heap.size (w.alloc (.cells zeroN.cs.toArray 44)) w' → ∀ j, w'.cell? ⟨w.heap.size, j, none⟩ = zeroN.cs[j]?) := fun w' hb j => by
    have : w'.heap[w.heap.size]? = some (.cells zeroN.cs.toArray 44 (0, 0)) := (hb.block _ (by simp)).trans (at_new rfl)
    exact (eight_at (xs := zeroN.cs) this j).1
  have hz : w.heap.size ≤ (w.alloc (.cells zeroN.cs.toArray 44)).heap.size := BW.out.size
  obtain ⟨W, hW⟩ : ∃ W, W = w.alloc (.cells zeroN.cs.toArray 44) := ⟨_, rfl⟩
  rw [← hW] at BW CA hz
  rw [show zeroN.v = .agg zeroN.cs.toArray from rfl]
  clear h hcZ
  go_enter Tryz.func70, Tryz.ntmps70
  go_wp2
  rw [← hW]
  clear hW
  go_loopw [5, 8] (fun _ i wr => ∃ k : Nat, k ≤ ws.length ∧ i = .int .i64 k ∧ Hid (Below W.heap.size W wr ∧ ∀ j, j < k → inoEq zeroN.ns (ws.getD j zeroN).ns = false)) (fun _ i _ => ws.length - (intOf i).toNat)
  case atStart => exact ⟨0, by omega, rfl, Below.refl _ _, fun j a => absurd a (by omega)⟩
  case round =>
    obtain ⟨k, hk, rfl, H⟩ := hrel
    have B0 := hideIt (below_trans BW.out H.out.1 hz)
    by_cases hlt : k < ws.length
    · obtain ⟨b, o, rfl, hbl, hcell⟩ := HZ.out (by omega)
      have GD := hideIt (show ws.getD k zeroN = ws[k] by rw [List.getD_eq_getElem?_getD, List.getElem?_eq_getElem hlt]; rfl)
      obtain ⟨p0, p1, p2, p3, p4, p5, p6, p7, p8, p9, p10⟩ := Ino.all (CA.out wr H.out.1)
      obtain ⟨a0, a1, a2, a3, a4, a5, a6, a7, a8, a9, a10⟩ := hcell k hlt
      have d0 := (B0.out.cell (p := ⟨b, o + k * 11, none⟩) hbl).trans a0
      have d1 := (B0.out.cell (p := ⟨b, o + k * 11 + 1, none⟩) hbl).trans a1
      have d2 := (B0.out.cell (p := ⟨b, o + k * 11 + 2, none⟩) hbl).trans a2
      have d3 := (B0.out.cell (p := ⟨b, o + k * 11 + 3, none⟩) hbl).trans a3
      have d4 := (B0.out.cell (p := ⟨b, o + k * 11 + 4, none⟩) hbl).trans a4
      have d5 := (B0.out.cell (p := ⟨b, o + k * 11 + 5, none⟩) hbl).trans a5
      have d6 := (B0.out.cell (p := ⟨b, o + k * 11 + 6, none⟩) hbl).trans a6
      have d7 := (B0.out.cell (p := ⟨b, o + k * 11 + 7, none⟩) hbl).trans a7
      have d8 := (B0.out.cell (p := ⟨b, o + k * 11 + 8, none⟩) hbl).trans a8
      have d9 := (B0.out.cell (p := ⟨b, o + k * 11 + 9, none⟩) hbl).trans a9
      have d10 := (B0.out.cell (p := ⟨b, o + k * 11 + 10, none⟩) hbl).trans a10
      have k0 : (0 : Int) ≤ (k : Int) := by omega
      have k1 : (k : Int) < (ws.length : Int) := by omega
      have H1 := hideIt H.out.1
      have HN : Hid (inoEq zeroN.ns ws[k].ns = false → ∀ j, j < k + 1 → inoEq zeroN.ns (ws.getD j zeroN).ns = false) := fun q j a => by
        by_cases e : j = k
        · subst e; rw [GD.out]; exact q
        · exact H.out.2 j (by omega)
      have HY : Hid (inoEq zeroN.ns ws[k].ns = true → firstIx (fun i => inoEq zeroN.ns (ws.getD i zeroN).ns) ws.length = (k : Int)) := fun q => first_at hlt (fun j hj => H.out.2 j hj) (by show inoEq zeroN.ns (ws.getD k zeroN).ns = true; rw [GD.out]; exact q)
      clear a0 a1 a2 a3 a4 a5 a6 a7 a8 a9 a10 hcell H GD
      generalize ws[k] = x at *
      unfold zeroN at p0 p1 p2 p3 p4 p5 p6 p7 p8 p9 p10
      simp only at p0 p1 p2 p3 p4 p5 p6 p7 p8 p9 p10
      cases q : inoEq zeroN.ns x.ns with
      | true =>
        have q' : inoEq [0, 0, 0, 0, 0, 0, 0, 0, 0, 0, 0] [x.kind, x.size, x.links, x.m0, x.m1, x.m2, x.m3, x.m4, x.m5, x.m6, x.m7] = true := q
        have E := hideIt (HY.out q)
        clear q HN HY
        go_wp2
        go_quiet (fail)
        go_wp2
        go_ret
        exact ⟨ret_int E.out.symm, below_drewN B0.out _⟩
      | false =>
        have q' : inoEq [0, 0, 0, 0, 0, 0, 0, 0, 0, 0, 0] [x.kind, x.size, x.links, x.m0, x.m1, x.m2, x.m3, x.m4, x.m5, x.m6, x.m7] = false := q
        have E := hideIt (HN.out q)
        clear q HN HY
        go_wp2
        go_quiet (fail)
        go_wp2
        go_roundw
        case rel => exact ⟨k + 1, by omega, by go_num, below_drewN H1.out _, E.out⟩
        case measure => simp [intOf]; omega
    · have E := hideIt (first_none (p := fun i => inoEq zeroN.ns (ws.getD i zeroN).ns) (n := ws.length) (fun j hj => H.out.2 j (by omega)))
      clear H
      go_wp2
      go_ret
      exact ⟨ret_int E.out.symm, B0.out⟩

theorem free_same {ws : List Ino} {ps : List Den} (h : imgB ws ps = true) : firstIx (fun i => inoEq zeroN.ns (ws.getD i zeroN).ns) ws.length = firstIx (fun i => decide (1 ≤ i) && kindAt ws (i : Int) == 0) ws.length := by
  obtain ⟨l1, _, k2, o⟩ := img_parts h
  have o := of_decide_eq_true o
  apply first_congr
  intro j hj
  have GD : ws.getD j zeroN = ws[j] := by rw [List.getD_eq_getElem?_getD, List.getElem?_eq_getElem hj]; rfl
  show inoEq zeroN.ns (ws.getD j zeroN).ns = (decide (1 ≤ j) && kindAt ws (j : Int) == 0)
  rw [GD, kindAt_of hj]
  have ib := o j hj
  by_cases q : ws[j].kind = 0
  · have hz : ws[j].ns = zeroN.ns := by
      unfold inoB at ib
      simp only [Bool.and_eq_true, decide_eq_true_eq] at ib
      have kb := ib.2.2.2.2
      unfold kindB at kb
      rw [if_pos q] at kb
      obtain ⟨f1, f2, f3⟩ := of_decide_eq_true kb
      simp only [Ino.map, List.cons.injEq, and_true] at f3
      simp [Ino.ns, zeroN, q, f1, f2, f3]
    rw [inoEq_t hz.symm, q]
    have : 1 ≤ j := by
      rcases Nat.eq_zero_or_pos j with e | e
      · exfalso
        subst e
        have := kindAt_of hj
        rw [show ((0 : Nat) : Int) = 0 from rfl, k2] at this
        omega
      · exact e
    rw [decide_eq_true this]; rfl
  · rw [show (ws[j].kind == 0) = false by rw [beq_eq_false_iff_ne]; exact q, Bool.and_false]
    exact inoEq_f (fun e => q (by have := congrArg List.head? e; simp [Ino.ns, zeroN] at this; exact this.symm))

set_option maxRecDepth 100000 in
set_option maxHeartbeats 4000000 in
theorem implFreeInode_any (v : Value) (ws : List Ino) (ps : List Den) (w : World) (h : RdIm w v ws ps) (hw : ws.length ≤ 1048576) (hp : ps.length ≤ 1048576) (hT : TS w) (hE : ED w) (hF : FD w) (hr : ∀ k (h : k < ws.length), ws[k].R) (hs : ∀ k (h : k < ps.length), ps[k].name.size ≤ maxLen) :
    Calls Tryz.prog 23 #[v] w fun e w' => e = .returned (.tuple #[.int .i64 (fpV (imgB ws ps) (firstIx (fun i => decide (1 ≤ i) && kindAt ws (i : Int) == 0) ws.length)), .int .i64 (fpC (imgB ws ps) (firstIx (fun i => decide (1 ≤ i) && kindAt ws (i : Int) == 0) ws.length))]) ∧ Below w.heap.size w w' := by
  have LI := hideIt (fun w1 (hb : Below w.heap.size w w1) => implImageOK_any v ws ps w1 (h.below hb) hw hp (hT.below hb) (hE.below hb) (hF.below hb) hr hs)
  have FS := hideIt (@free_same ws ps)
  obtain ⟨vW, vP, rfl, h1, h2⟩ := h
  have RW := hideIt h1
  obtain ⟨aW, cW, rfl, _, _⟩ := h1.shape
  obtain ⟨aP, cP, rfl, _, _⟩ := h2.shape
  have LX := hideIt (fun w1 (hb : Below w.heap.size w w1) => indexInode_any (.slice aW ws.length cW) ws w1 (Rd.below RW.out hb) hw)
  have fb := first_bound (fun i => decide (1 ≤ i) && kindAt ws (i : Int) == 0) ws.length
  clear h1 h2 hr hs hT hE hF
  have CA : Hid (∀ w', Below (w.alloc (.cells #[.slice aW ws.length cW, .slice aP ps.length cP] 26)).heap.size (w.alloc (.cells #[.slice aW ws.length cW, .slice aP ps.length cP] 26)) w' → w'.cell? ⟨w.heap.size, 0, none⟩ = some (.slice aW ws.length cW) ∧ w'.cell? ⟨w.heap.size, 1, none⟩ = some (.slice aP ps.length cP)) := fun w' hb => by
    have : w'.heap[w.heap.size]? = some (.cells #[.slice aW ws.length cW, .slice aP ps.length cP] 26 (0, 0)) := (hb.block _ (by simp)).trans (at_new rfl)
    exact ⟨(two_cells this).1, (two_cells this).2.1⟩
  have BW : Hid (Below w.heap.size w (w.alloc (.cells #[.slice aW ws.length cW, .slice aP ps.length cP] 26))) := (Below.refl _ _).alloc (Nat.le_refl _) _
  obtain ⟨x0, x1⟩ := CA.out _ (Below.refl _ _)
  cases c1 : imgB ws ps with
  | false =>
    rw [c1] at LI
    generalize firstIx (fun i => decide (1 ≤ i) && kindAt ws (i : Int) == 0) ws.length = r
    rw [show fpV false r = 0 from rfl, show fpC false r = 1 from rfl]
    clear c1
    go_enter Tryz.func23, Tryz.ntmps23
    go_wp2_with fail
    refine (LI.out _ BW.out).mono ?_
    rintro e w1 ⟨rfl, hb1⟩
    have B1 := hideIt (below_trans BW.out hb1 BW.out.size)
    clear hb1 x0 x1
    go_wp2
    go_ret2
    exact ⟨rfl, B1.out⟩
  | true =>
    rw [c1] at LI
    rw [FS.out c1] at LX
    clear c1 FS
    generalize firstIx (fun i => decide (1 ≤ i) && kindAt ws (i : Int) == 0) ws.length = r at *
    by_cases q : r < 0
    · rw [show fpV true r = 0 from if_pos q, show fpC true r = 7 from if_pos q]
      go_enter Tryz.func23, Tryz.ntmps23
      go_wp2_with fail
      refine (LI.out _ BW.out).mono ?_
      rintro e w1 ⟨rfl, hb1⟩
      have B1 := hideIt (below_trans BW.out hb1 BW.out.size)
      clear x0 x1
      obtain ⟨x0, x1⟩ := CA.out _ hb1
      clear hb1
      go_wp2_with fail
      refine (LX.out _ B1.out).mono ?_
      rintro e w2 ⟨rfl, hb2⟩
      have B2 := hideIt (below_trans B1.out hb2 B1.out.size)
      clear hb2 x0 x1
      go_wp2
      go_ret2
      exact ⟨rfl, B2.out⟩
    · rw [show fpV true r = r from if_neg q, show fpC true r = 0 from if_neg q]
      go_enter Tryz.func23, Tryz.ntmps23
      go_wp2_with fail
      refine (LI.out _ BW.out).mono ?_
      rintro e w1 ⟨rfl, hb1⟩
      have B1 := hideIt (below_trans BW.out hb1 BW.out.size)
      clear x0 x1
      obtain ⟨x0, x1⟩ := CA.out _ hb1
      clear hb1
      go_wp2_with fail
      refine (LX.out _ B1.out).mono ?_
      rintro e w2 ⟨rfl, hb2⟩
      have B2 := hideIt (below_trans B1.out hb2 B1.out.size)
      clear hb2 x0 x1
      go_wp2
      go_ret2
      exact ⟨rfl, B2.out⟩
end Go.Proofs.YtlgghookekokaaaGreatDoor

namespace Go.Proofs.YtlgghookekokaaaGreatDoor
open Go.RowKit

end Go.Proofs.YtlgghookekokaaaGreatDoor

namespace Go.Proofs.YtlgghookekokaaaGreatDoor
open Go.RowKit

def eoC (ws : List Ino) (ps : List Den) (d : Int) : Int := if imgB ws ps = true then (if 0 ≤ d ∧ d ≤ 15 then (if kindAt ws d = 2 then 0 else 10) else 4) else 1
def eoL (ws : List Ino) (ps : List Den) (d : Int) : List ByteArray := if eoC ws ps d = 0 then sorted (namesD ps d) else []
theorem img_ents {ws : List Ino} {ps : List Den} (h : imgB ws ps = true) : okDs ps = true := by
  unfold imgB at h
  simp only [Bool.and_eq_true] at h
  exact ents_ok h.2.2.2.2.1
/-- The names of entries that are taken. -/
def dirN (ts : List Den) (d : Int) : List ByteArray := (ts.filter fun x => x.dir == d).map Den.name
theorem dirN_succ {ts : List Den} {d : Int} {k : Nat} (h : k < ts.length) : dirN (ts.take (k + 1)) d = if ts[k].dir = d then dirN (ts.take k) d ++ [ts[k].name] else dirN (ts.take k) d := by
  unfold dirN
  rw [List.take_succ_eq_append_getElem h, List.filter_append, List.map_append]
  by_cases c : ts[k].dir = d
  · rw [if_pos c]; simp [c]
  · rw [if_neg c]; simp [c]
theorem dirN_len (ts : List Den) (d : Int) : (dirN ts d).length ≤ ts.length := by unfold dirN; rw [List.length_map]; exact List.length_filter_le _ _
theorem dirN_names {ps : List Den} (h : okDs ps = true) (d : Int) : dirN (takenD ps) d = namesD ps d := by
  unfold dirN takenD namesD
  rw [List.filter_filter]
  congr 1
  apply List.filter_congr
  intro x hx
  obtain ⟨i, hi, rfl⟩ := List.getElem_of_mem hx
  unfold okDs at h
  have ho := of_decide_eq_true h i hi
  have hf := ok_free ho
  have hc : ps[i].child < 0 ↔ ps[i].child = -1 := by
    unfold Den.okB at ho
    rw [Bool.or_eq_true] at ho
    rcases ho with ho | ho
    · have := hf.1 ho; omega
    · simp only [Bool.and_eq_true, decide_eq_true_eq] at ho; omega
  by_cases a : ps[i].freeB = true
  · rw [a]
    have := hf.1 a
    rw [decide_eq_false (fun q => q.1 (by omega))]
    simp
  · have b : ¬ ps[i].child = -1 := fun q => a (hf.2 q)
    rw [Bool.not_eq_true] at a
    rw [a]
    by_cases c : ps[i].dir = d
    · rw [decide_eq_true ⟨fun q => b (hc.1 q), c⟩, c]; simp
    · rw [decide_eq_false (fun q => c q.2)]; simp [c]
end Go.Proofs.YtlgghookekokaaaGreatDoor

namespace Go.Proofs.YtlgghookekokaaaGreatDoor
open Go.RowKit

/-- What the array holds when ds are read. -/
def arrD (ds : List Nat) (j : Nat) : Value := if j < 6 - ds.length then .int .u8 0 else .int .u8 (96 + ((ds[j - (6 - ds.length)]?.getD 0 : Nat) : Int))
theorem arrD_nil (j : Nat) (h : j < 6) : arrD [] j = .int .u8 0 := by unfold arrD; rw [if_pos (by simpa using h)]
theorem arrD_cons (d : Nat) (ds : List Nat) (h : ds.length < 6) (j : Nat) : (if j = 6 - ds.length - 1 then Value.int .u8 (96 + (d : Int)) else arrD ds j) = arrD (d :: ds) j := by
  unfold arrD
  by_cases e : j = 6 - ds.length - 1
  · subst e
    rw [if_pos rfl, if_neg (by simp only [List.length_cons]; omega)]
    simp only [List.length_cons]
    rw [show 6 - ds.length - 1 - (6 - (ds.length + 1)) = 0 by omega]
    rfl
  · rw [if_neg e]
    simp only [List.length_cons]
    by_cases e2 : j < 6 - ds.length
    · rw [if_pos e2, if_pos (by omega)]
    · rw [if_neg e2, if_neg (by omega), show j - (6 - (ds.length + 1)) = (j - (6 - ds.length)) + 1 by omega]
      rfl
theorem strOf_digs (ds : List Nat) : strOfNums (ds.map fun d => (96 : Int) + (d : Nat)) = bytesOf ds := by
  unfold strOfNums bytesOf
  rw [List.map_map]
  congr 2

theorem slice6 (w : World) (b l : Nat) (h1 : 1 ≤ l) (h6 : l ≤ 6) : (Instr.sliceAt 187 (.pointer (some ⟨b, 0, none⟩)) (some (.int .i64 (6 - (l : Int)))) none none).run Tryz.prog w = .ok (.slice (some ⟨b, 6 - l, none⟩) l l) w := by
  have al : Tryz.prog.arrayLen 187 = 6 := by kernel_rfl
  rw [run_sliceAt_array_l w 187 ⟨b, 0, none⟩ (by kernel_rfl) .i64 (6 - (l : Int)) (by omega) (by rw [al]; omega), al]
  have sz : (sizeOf (Tryz.prog.elem 187)).run Tryz.prog w = .ok 1 w := by kernel_rfl
  rw [sz]
  simp only [Result.andThen, slicedAt]
  rw [if_neg (by omega), show (6 - (l : Int)).toNat = 6 - l by omega, show 6 - (6 - l) = l by omega, Nat.mul_one]
  simp [Addr.add]
  omega

set_option maxRecDepth 100000 in
set_option maxHeartbeats 4000000 in
theorem implUnpackName_any (n : Int) (w : World) (hn : n ≤ 9223372036854775807) : Calls Tryz.prog 108 #[.int .i64 n] w fun e w' => e = .returned (.tuple #[.string (unpS n), .int .i64 (unpC n)]) ∧ Below w.heap.size w w' := by
  by_cases c0 : n < 1
  · have E := hideIt (unp_bad (unp_low (n := n) (by omega)))
    go_enter Tryz.func108, Tryz.ntmps108
    go_wp2
    go_ret2
    exact ⟨ret_si E.out.1.symm E.out.2.symm, Below.refl _ _⟩
  obtain ⟨N, rfl⟩ := Int.eq_ofNat_of_zero_le (show 0 ≤ n by omega)
  have START : Hid ((w.alloc (.cells #[.int .u8 0, .int .u8 0, .int .u8 0, .int .u8 0, .int .u8 0, .int .u8 0] 187)).rowIs w.heap.size 187 6 (arrD [])) := by
    refine World.rowIs_alloc w #[.int .u8 0, .int .u8 0, .int .u8 0, .int .u8 0, .int .u8 0, .int .u8 0] 187 (arrD []) (fun i hi => ?_)
    have hi' : i < 6 := hi
    rw [arrD_nil i hi']
    rcases (show i = 0 ∨ i = 1 ∨ i = 2 ∨ i = 3 ∨ i = 4 ∨ i = 5 by omega) with rfl | rfl | rfl | rfl | rfl | rfl <;> rfl
  have BH : Hid (Below w.heap.size w (w.alloc (.cells #[.int .u8 0, .int .u8 0, .int .u8 0, .int .u8 0, .int .u8 0, .int .u8 0] 187))) := (Below.refl _ _).alloc (Nat.le_refl _) _
  go_enter Tryz.func108, Tryz.ntmps108
  go_wp2
  go_loopw [0, 5, 6] (fun x f _ wr => ∃ (m : Nat) (ds : List Nat), x = .int .i64 (m : Int) ∧ f = .int .i64 (6 - (ds.length : Int)) ∧ m ≤ N ∧ ds.length ≤ 6 ∧ Hid (Dg N m ds) ∧ Hid (wr.rowIs w.heap.size 187 6 (arrD ds)) ∧ Hid (Below w.heap.size w wr)) (fun x _ _ _ => (intOf x).toNat)
  case atStart => exact ⟨N, [], rfl, rfl, Nat.le_refl _, by simp, Dg.start N, START.out, BH.out⟩
  case round =>
    obtain ⟨m, ds, rfl, rfl, hm, hl, D, R, B⟩ := hrel
    by_cases c1 : 0 < m
    · have m0 : (0 : Int) < (m : Int) := by omega
      by_cases c2 : m % 27 = 0
      · have E := hideIt (unp_bad (unp_zero D.out c1 c2))
        have c2' : ((m : Int) % 27 == 0) = true := by rw [beq_iff_eq]; omega
        go_wp2
        go_ret2
        exact ⟨ret_si E.out.1.symm E.out.2.symm, B.out⟩
      · have c2' : ((m : Int) % 27 == 0) = false := by rw [beq_eq_false_iff_ne]; omega
        by_cases c3 : 6 ≤ ds.length
        · have E := hideIt (unp_bad (unp_many D.out c1 c3))
          have c3' : ((6 : Int) - (ds.length : Int) == 0) = true := by rw [beq_iff_eq]; omega
          go_wp2
          go_ret2
          exact ⟨ret_si E.out.1.symm E.out.2.symm, B.out⟩
        · have c3' : ((6 : Int) - (ds.length : Int) == 0) = false := by rw [beq_eq_false_iff_ne]; omega
          have D2 := hideIt (D.out.step c1 c2)
          have g0 := R.out.frozen (6 - ds.length - 1)
          have g1 := R.out.cell (show 6 - ds.length - 1 < 6 by omega)
          generalize hv : arrD ds (6 - ds.length - 1) = v0 at g1
          have ev : (97 + (m : Int) % 27 - 1) = 96 + ((m % 27 : Nat) : Int) := by omega
          have R2 : Hid ((wr.setCell ⟨w.heap.size, 6 - ds.length - 1, none⟩ (.int .u8 (97 + (m : Int) % 27 - 1))).rowIs w.heap.size 187 6 (arrD (m % 27 :: ds))) := by
            rw [ev]
            exact (R.out.set (6 - ds.length - 1) (.int .u8 (96 + ((m % 27 : Nat) : Int)))).congr (fun j _ => arrD_cons (m % 27) ds (by omega) j)
          have B2 : Hid (Below w.heap.size w (wr.setCell ⟨w.heap.size, 6 - ds.length - 1, none⟩ (.int .u8 (97 + (m : Int) % 27 - 1)))) := B.out.setCell (by simp only; omega) _
          clear ev
          clear hv
          go_wp2
          go_roundw
          case rel => exact ⟨m / 27, m % 27 :: ds, by go_num, by go_num, by omega, by simp; omega, D2.out, R2.out, B2.out⟩
          case measure => simp [intOf]; omega
    · obtain rfl : m = 0 := by omega
      have E := hideIt (unp_done D.out (by omega) hl)
      have hconv := fun cap => run_convert_bytes_arg (P := Tryz.prog) wr 22 5 Tryz.underlying22 Tryz.underlying5 w.heap.size (6 - ds.length) ds.length cap (ds.map fun d => (96 : Int) + (d : Nat)) (by simp) (fun i hi => by
        rw [R.out.cell (show 6 - ds.length + i < 6 by omega)]
        unfold arrD
        rw [if_neg (by omega), show 6 - ds.length + i - (6 - ds.length) = i by omega]
        simp [List.getD, hi]) 9 Tryz.underlying9
      rw [strOf_digs] at hconv
      have l1 : 1 ≤ ds.length := by
        have := digs_ne (n := N) (by omega)
        rw [D.out.done] at this
        exact this
      have hsl := slice6 wr w.heap.size ds.length l1 hl
      have hcv := hconv ds.length
      clear hconv
      go_wp2
      go_ret2
      exact ⟨ret_si E.out.1.symm E.out.2.symm, B.out⟩

end Go.Proofs.YtlgghookekokaaaGreatDoor

namespace Go.Proofs.YtlgghookekokaaaGreatDoor
open Go.RowKit

/-- The words say a right image. -/
def riB (ls : List Int) : Bool := wdI ls 0 == 7 && (allGood ls 24 && imgB (inosOf ls 16) (densOf ls 24))
def riC (ws : List Int) (ps : List St) : Int := if pmB ws ps = true then (if riB (layW ws ps) = true then 0 else 3) else 1
def riN (ws : List Int) (ps : List St) : List Ino := if riC ws ps = 0 then inosOf (layW ws ps) 16 else []
def riD (ws : List Int) (ps : List St) : List Den := if riC ws ps = 0 then densOf (layW ws ps) 24 else []
end Go.Proofs.YtlgghookekokaaaGreatDoor

namespace Go.Proofs.YtlgghookekokaaaGreatDoor
open Go.RowKit

theorem ri_not {ws : List Int} {ps : List St} (h : pmB ws ps = false) : riC ws ps = 1 ∧ riN ws ps = [] ∧ riD ws ps = [] := by
  have e : riC ws ps = 1 := by unfold riC; rw [h]; rfl
  exact ⟨e, by unfold riN; rw [e]; rfl, by unfold riD; rw [e]; rfl⟩
theorem ri_form {ws : List Int} {ps : List St} (h : pmB ws ps = true) (q : riB (layW ws ps) = false) : riC ws ps = 3 ∧ riN ws ps = [] ∧ riD ws ps = [] := by
  have e : riC ws ps = 3 := by unfold riC; rw [h, q]; rfl
  exact ⟨e, by unfold riN; rw [e]; rfl, by unfold riD; rw [e]; rfl⟩
theorem ri_ok {ws : List Int} {ps : List St} (h : pmB ws ps = true) (q : riB (layW ws ps) = true) : riC ws ps = 0 ∧ riN ws ps = inosOf (layW ws ps) 16 ∧ riD ws ps = densOf (layW ws ps) 24 := by
  have e : riC ws ps = 0 := by unfold riC; rw [h, q]; rfl
  exact ⟨e, by unfold riN; rw [if_pos e], by unfold riD; rw [if_pos e]⟩
theorem rowim_nil (w : World) (lo hi : Nat) : RowIm w lo hi (.agg #[.slice none 0 0, .slice none 0 0]) [] [] := ⟨_, _, rfl, Row.nil _ _ _ _ _, Row.nil _ _ _ _ _⟩
theorem rowim_wide {w : World} {lo hi lo' hi' : Nat} {v : Value} {xs : List Ino} {ds : List Den} (h : RowIm w lo hi v xs ds) (h1 : lo' ≤ lo) (h2 : hi ≤ hi') : RowIm w lo' hi' v xs ds := by
  obtain ⟨vI, vD, e, a, b⟩ := h
  exact ⟨vI, vD, e, a.wide h1 h2, b.wide h1 h2⟩
theorem ino_image {w : World} {lo hi : Nat} {b1 b2 c1 c2 n1 n2 : Nat} {xs : List Ino} {ds : List Den} {b : Nat} {cs : Array Value} {fr : Nat × Nat} (h : RowIm w lo hi (.agg #[.slice (some ⟨b1, 0, none⟩) n1 c1, .slice (some ⟨b2, 0, none⟩) n2 c2]) xs ds) (hb : w.heap[b]? = some (.cells cs 26 fr)) (v0 v1 : Value) : RowIm ((w.setCell ⟨b, 0, none⟩ v0).setCell ⟨b, 1, none⟩ v1) lo hi (.agg #[.slice (some ⟨b1, 0, none⟩) n1 c1, .slice (some ⟨b2, 0, none⟩) n2 c2]) xs ds := by
  obtain ⟨vI, vD, e, h1, h2⟩ := h
  injection e with e
  obtain ⟨rfl, rfl⟩ : vI = .slice (some ⟨b1, 0, none⟩) n1 c1 ∧ vD = .slice (some ⟨b2, 0, none⟩) n2 c2 := by
    have := congrArg Array.toList e
    simp at this
    exact ⟨this.1.symm, this.2.symm⟩
  have T1 := own_type h1.1 hb img_ino
  have T2 := own_type h2.1 hb img_den
  exact ⟨_, _, rfl, ⟨ownsRow_setCell_other (ownsRow_setCell_other h1.1 T1 _) T1 _, h1.2⟩, ⟨ownsRow_setCell_other (ownsRow_setCell_other h2.1 T2 _) T2 _, h2.2⟩⟩

end Go.Proofs.YtlgghookekokaaaGreatDoor

namespace Go.Proofs.YtlgghookekokaaaGreatDoor
open Go.RowKit

theorem row_cells {w : World} {b n : Nat} {zs : List Int} (h : w.heap[b]? = some (.cells (ints zs).toArray 3 (0, 0))) (hn : zs.length = n) (hm : n ≤ maxLen) : Row w 3 1 b (b + 1) (.slice (some ⟨b, 0, none⟩) n n) n (ints zs) := by
  subst hn
  refine ⟨⟨by rw [ints_len, Nat.mul_one], .inr ⟨b, zs.length, (ints zs).toArray, rfl, Nat.le_refl _, h, Nat.le_refl _, hm, ?_, ?_⟩⟩, fun k hk => by cases hk; exact Nat.lt_succ_self _⟩
  · rw [List.size_toArray, ints_len, Nat.mul_one]
  · rw [Nat.mul_one, List.take_of_length_le (by rw [ints_len]; exact Nat.le_refl _)]
theorem NDc.rowDev {w0 wx : World} {bw bs bx : Nat} (h : NDc w0 wx bw bs bx (.slice none 0 0) (.slice none 0 0) ndW) {lo : Nat} (hlo : lo ≤ w0.heap.size) : RowDev wx lo wx.heap.size (.agg #[.slice (some ⟨bw, 0, none⟩) 336 336, .slice none 0 0, .slice (some ⟨bs, 0, none⟩) 32 32, .slice none 0 0]) ndW [] zs32 [] := by
  have l1 := h.l1
  have l2 := h.l2
  have d1 := h.d1
  have u1 := (Array.getElem?_eq_some_iff.1 h.hw).1
  have u2 := (Array.getElem?_eq_some_iff.1 h.hs).1
  have r1 := row_cells h.hw ndW_len (by simp [maxLen])
  have r2 := row_cells h.hs zs32_len (by simp [maxLen])
  exact ⟨_, _, _, _, bw, bw + 1, bs, bs + 1, rfl, ⟨_, _, rfl, by rw [ndW_len]; exact r1, Row.nil _ _ _ _ _⟩, ⟨_, _, rfl, by rw [zs32_len]; exact r2.z, Row.nil _ _ _ _ _⟩, by omega, by omega, by omega, by omega, by omega⟩
end Go.Proofs.YtlgghookekokaaaGreatDoor

namespace Go.Proofs.YtlgghookekokaaaGreatDoor
open Go.RowKit

theorem run_arrayAt8 (a : Option Addr) (n cap : Nat) (hn : 8 ≤ n) (w : World) : (Instr.arrayAt 42 (.slice a n cap)).run Tryz.prog w = .ok (.pointer a) w := by
  have h : ¬ n < 8 := by omega
  simp [Instr.arrayAt, run_underlying Tryz.underlying42, h, go_sem]

set_option maxRecDepth 100000 in
set_option maxHeartbeats 2000000 in
theorem readInode_any (b o n c : Nat) (x : Ino) (w : World) (hn : 11 ≤ n) (hc : n ≤ c) (hb : b < w.heap.size) (h : ∀ j, j < 11 → w.cell? ⟨b, o + j, none⟩ = x.cs[j]?) :
    Calls Tryz.prog 64 #[.slice (some ⟨b, o, none⟩) n c] w fun e w' => e = .returned x.v ∧ Below w.heap.size w w' := by
  have BW := hideIt ((Below.refl w.heap.size w).alloc (Nat.le_refl _) (.cells #[.int .i64 0, .int .i64 0, .int .i64 0, .int .i64 0, .int .i64 0, .int .i64 0, .int .i64 0, .int .i64 0, .int .i64 0, .int .i64 0, .int .i64 0] 44))
  have S : Hid (∀ w', Below w.heap.size w w' → w'.cell? ⟨b, o, none⟩ = some (.int .i64 x.kind) ∧ w'.cell? ⟨b, o + 1, none⟩ = some (.int .i64 x.size) ∧ w'.cell? ⟨b, o + 2, none⟩ = some (.int .i64 x.links) ∧ w'.cell? ⟨b, o + 3, none⟩ = some (.int .i64 x.m0) ∧ w'.cell? ⟨b, o + 3 + 1, none⟩ = some (.int .i64 x.m1) ∧ w'.cell? ⟨b, o + 3 + 2, none⟩ = some (.int .i64 x.m2) ∧ w'.cell? ⟨b, o + 3 + 3, none⟩ = some (.int .i64 x.m3) ∧ w'.cell? ⟨b, o + 3 + 4, none⟩ = some (.int .i64 x.m4) ∧ w'.cell? ⟨b, o + 3 + 5, none⟩ = some (.int .i64 x.m5) ∧ w'.cell? ⟨b, o + 3 + 6, none⟩ = some (.int .i64 x.m6) ∧ w'.cell? ⟨b, o + 3 + 7, none⟩ = some (.int .i64 x.m7)) := fun w' hw' =>
    have g := fun j (hj : j < 11) => (hw'.cell (p := ⟨b, o + j, none⟩) hb).trans (h j hj)
    ⟨g 0 (by omega), g 1 (by omega), g 2 (by omega), g 3 (by omega), g 4 (by omega), g 5 (by omega), g 6 (by omega), g 7 (by omega), g 8 (by omega), g 9 (by omega), g 10 (by omega)⟩
  obtain ⟨s0, s1, s2, s3, s4, s5, s6, s7, s8, s9, s10⟩ := S.out _ BW.out
  have i0 : (0 : Int) < (n : Int) := by omega
  have i00 : 0 < n := by omega
  have i1 : (1 : Int) < (n : Int) := by omega
  have i2 : (2 : Int) < (n : Int) := by omega
  have i3 : (11 : Int) ≤ (c : Int) := by omega
  have i4 : ¬ c = 3 := by omega
  have i5 : (3 : Int) ≤ 11 := by omega
  have har := run_arrayAt8 (some ⟨b, o + 3, none⟩) 8 (c - 3) (Nat.le_refl _)
  unfold Ino.v
  clear h hn hc
  go_enter Tryz.func64, Tryz.ntmps64
  go_wp2_with fail
  go_region_held3 (fun w' => w'.cell? ⟨b, o, none⟩ = some (.int .i64 x.kind) ∧ w'.cell? ⟨b, o + 1, none⟩ = some (.int .i64 x.size) ∧ w'.cell? ⟨b, o + 2, none⟩ = some (.int .i64 x.links) ∧ w'.cell? ⟨b, o + 3, none⟩ = some (.int .i64 x.m0) ∧ w'.cell? ⟨b, o + 3 + 1, none⟩ = some (.int .i64 x.m1) ∧ w'.cell? ⟨b, o + 3 + 2, none⟩ = some (.int .i64 x.m2) ∧ w'.cell? ⟨b, o + 3 + 3, none⟩ = some (.int .i64 x.m3) ∧ w'.cell? ⟨b, o + 3 + 4, none⟩ = some (.int .i64 x.m4) ∧ w'.cell? ⟨b, o + 3 + 5, none⟩ = some (.int .i64 x.m5) ∧ w'.cell? ⟨b, o + 3 + 6, none⟩ = some (.int .i64 x.m6) ∧ w'.cell? ⟨b, o + 3 + 7, none⟩ = some (.int .i64 x.m7))
    (exact S.out _ (by repeat (first | with_reducible exact BW.out | with_reducible refine below_allocB ?_ _ | with_reducible exact Below.refl _ _ | with_reducible refine Below.drew ?_)))
    (fail)
  all_goals
    go_wp2
    refine bodyPost_ret (v := .agg #[.int .i64 x.kind, .int .i64 x.size, .int .i64 x.links, .int .i64 x.m0, .int .i64 x.m1, .int .i64 x.m2, .int .i64 x.m3, .int .i64 x.m4, .int .i64 x.m5, .int .i64 x.m6, .int .i64 x.m7]) (by simp [results, Tryz.results64, go_sem]) rfl ⟨rfl, ?_⟩
    repeat (first | with_reducible exact Below.refl _ _ | with_reducible refine below_allocB ?_ _ | with_reducible refine Below.drew ?_)

/-- An entry off three words. -/
def denZ (z0 z1 z2 : Int) : Den := if z2 = 0 then ⟨0, ⟨#[]⟩, -1⟩ else ⟨z0, unpS z1, z2 - 1⟩
def denZok (z0 z1 z2 : Int) : Bool := if z2 = 0 then z0 == 0 && z1 == 0 else goodN z1

set_option maxRecDepth 100000 in
set_option maxHeartbeats 2000000 in
theorem readDirent_any (b o n c : Nat) (z0 z1 z2 : Int) (w : World) (hn : 3 ≤ n) (_hc : n ≤ c) (hb : b < w.heap.size) (h0 : w.cell? ⟨b, o, none⟩ = some (.int .i64 z0)) (h1 : w.cell? ⟨b, o + 1, none⟩ = some (.int .i64 z1)) (h2 : w.cell? ⟨b, o + 2, none⟩ = some (.int .i64 z2)) (hF : FD w) (r1 : z1 ≤ 9223372036854775807) (r2 : 0 ≤ z2 ∧ z2 ≤ 9223372036854775807) :
    Calls Tryz.prog 65 #[.slice (some ⟨b, o, none⟩) n c] w fun e w' => (∃ s, e = .returned (.tuple #[.agg #[.int .i64 (denZ z0 z1 z2).dir, .string s, .int .i64 (denZ z0 z1 z2).child], .bool (denZok z0 z1 z2)]) ∧ (denZok z0 z1 z2 = true → s = (denZ z0 z1 z2).name)) ∧ Below w.heap.size w w' := by
  have BW := hideIt ((Below.refl w.heap.size w).alloc (Nat.le_refl _) (.cells #[.int .i64 0, .string ⟨#[]⟩, .int .i64 0] 50))
  have S : Hid (∀ w', Below w.heap.size w w' → w'.cell? ⟨b, o, none⟩ = some (.int .i64 z0) ∧ w'.cell? ⟨b, o + 1, none⟩ = some (.int .i64 z1) ∧ w'.cell? ⟨b, o + 2, none⟩ = some (.int .i64 z2)) := fun w' hw' => ⟨(hw'.cell (p := ⟨b, o, none⟩) hb).trans h0, (hw'.cell (p := ⟨b, o + 1, none⟩) hb).trans h1, (hw'.cell (p := ⟨b, o + 2, none⟩) hb).trans h2⟩
  obtain ⟨s0, s1, s2⟩ := S.out _ BW.out
  have F := hideIt hF
  have i0 : (0 : Int) < (n : Int) := by omega
  have i00 : 0 < n := by omega
  have i1 : (1 : Int) < (n : Int) := by omega
  have i2 : (2 : Int) < (n : Int) := by omega
  clear h0 h1 h2 hF
  by_cases c2 : z2 = 0
  · subst c2
    have E1 : denZ z0 z1 0 = ⟨0, ⟨#[]⟩, -1⟩ := by unfold denZ; rw [if_pos rfl]
    have E2 : denZok z0 z1 0 = (z0 == 0 && z1 == 0) := by unfold denZok; rw [if_pos rfl]
    rw [E1, E2]
    clear E1 E2
    obtain ⟨f0, f1, f2⟩ := FD.cells (F.out.below BW.out)
    by_cases c0 : z0 = 0
    · have q0 : (z0 == 0) = true := by rw [c0]; rfl
      have EQ : Hid ((z0 == 0 && z1 == 0) = (z1 == 0)) := by unfold Hid; rw [q0]; rfl
      rw [EQ.out]
      clear c0 EQ
      go_enter Tryz.func65, Tryz.ntmps65
      go_wp2_with fail
      go_region_held3 (fun w' => (w'.cell? ⟨b, o, none⟩ = some (.int .i64 z0) ∧ w'.cell? ⟨b, o + 1, none⟩ = some (.int .i64 z1) ∧ w'.cell? ⟨b, o + 2, none⟩ = some (.int .i64 0)) ∧ w'.cell? ⟨1, 0, none⟩ = some (.int .i64 0) ∧ w'.cell? ⟨1, 1, none⟩ = some (.string ⟨#[]⟩) ∧ w'.cell? ⟨1, 2, none⟩ = some (.int .i64 (-1)))
        (exact ⟨S.out _ (by repeat (first | with_reducible exact BW.out | with_reducible refine below_allocB ?_ _ | with_reducible exact Below.refl _ _ | with_reducible refine Below.drew ?_)), FD.cells (F.out.below (by repeat (first | with_reducible exact BW.out | with_reducible refine below_allocB ?_ _ | with_reducible exact Below.refl _ _ | with_reducible refine Below.drew ?_)))⟩)
        (fail)
      all_goals
        go_wp2
        refine bodyPost_ret (v := .tuple #[.agg #[.int .i64 0, .string ⟨#[]⟩, .int .i64 (-1)], .bool (z1 == 0)]) (by simp [results, Tryz.results65, go_sem]) rfl ?_
        exact ⟨⟨_, rfl, fun _ => rfl⟩, (by repeat (first | with_reducible exact BW.out | with_reducible exact Below.refl _ _ | with_reducible refine below_allocB ?_ _ | with_reducible refine Below.drew ?_ | refine Below.setCell ?_ (by exact Nat.le_refl _) _))⟩
    · have q0 : (z0 == 0) = false := by rw [beq_eq_false_iff_ne]; exact c0
      have EQ : Hid ((z0 == 0 && z1 == 0) = false) := by unfold Hid; rw [q0]; rfl
      rw [EQ.out]
      clear c0 EQ
      go_enter Tryz.func65, Tryz.ntmps65
      go_wp2_with fail
      go_region
      all_goals
        go_wp2
        refine bodyPost_ret (v := .tuple #[.agg #[.int .i64 0, .string ⟨#[]⟩, .int .i64 (-1)], .bool false]) (by simp [results, Tryz.results65, go_sem]) rfl ?_
        exact ⟨⟨_, rfl, fun _ => rfl⟩, (by repeat (first | with_reducible exact BW.out | with_reducible exact Below.refl _ _ | with_reducible refine below_allocB ?_ _ | with_reducible refine Below.drew ?_ | refine Below.setCell ?_ (by exact Nat.le_refl _) _))⟩
  · have q : (z2 == 0) = false := by rw [beq_eq_false_iff_ne]; exact c2
    have E1 : denZ z0 z1 z2 = ⟨z0, unpS z1, z2 - 1⟩ := by unfold denZ; rw [if_neg c2]
    have E2 : denZok z0 z1 z2 = goodN z1 := by unfold denZok; rw [if_neg c2]
    rw [E1, E2]
    have LU := hideIt (fun w1 => implUnpackName_any z1 w1 r1)
    have EU : Hid ((unpC z1 == 0) = goodN z1) := by
      unfold Hid unpC
      cases goodN z1 <;> rfl
    have wp1 : IntKind.i64.wrap (z2 - 1) = z2 - 1 := by rw [IntKind.wrap_i64]; omega
    rw [← EU.out]
    clear E1 E2 c2 EU
    generalize unpC z1 = uc at *
    generalize unpS z1 = us at *
    go_enter Tryz.func65, Tryz.ntmps65
    go_wp2_with fail
    refine (LU.out _).mono ?_
    rintro e w1 ⟨rfl, hb1⟩
    have B1 := hideIt (below_trans BW.out hb1 BW.out.size)
    have VB : Hid (w1.heap[w.heap.size]? = some (.cells #[.int .i64 0, .string ⟨#[]⟩, .int .i64 0] 50 (0, 0))) := (hb1.block _ (by simp)).trans (at_new rfl)
    clear hb1 s0 s1 s2
    obtain ⟨s0, s1, s2⟩ := S.out _ B1.out
    obtain ⟨t0, t1, t2⟩ := three_cells VB.out
    have u0 := (eight_at (xs := [.int .i64 0, .string ⟨#[]⟩, .int .i64 0]) VB.out 0).2
    have u1 := (eight_at (xs := [.int .i64 0, .string ⟨#[]⟩, .int .i64 0]) VB.out 1).2
    have u2 := (eight_at (xs := [.int .i64 0, .string ⟨#[]⟩, .int .i64 0]) VB.out 2).2
    go_wp2_with fail
    go_region_held3 (fun w' => w'.cell? ⟨b, o, none⟩ = some (.int .i64 z0) ∧ w'.cell? ⟨b, o + 1, none⟩ = some (.int .i64 z1) ∧ w'.cell? ⟨b, o + 2, none⟩ = some (.int .i64 z2))
      (exact S.out _ (by repeat (first | with_reducible exact B1.out | with_reducible refine Below.drew ?_ | refine Below.setCell ?_ (by exact Nat.le_refl _) _)))
      (fail)
    all_goals
      go_wp2
      refine bodyPost_ret (v := .tuple #[.agg #[.int .i64 z0, .string us, .int .i64 (z2 - 1)], .bool (uc == 0)]) (by simp [results, Tryz.results65, go_sem, t0, t1, t2]) rfl ?_
      exact ⟨⟨_, rfl, fun _ => rfl⟩, (by repeat (first | with_reducible exact B1.out | with_reducible refine Below.drew ?_ | refine Below.setCell ?_ (by exact Nat.le_refl _) _))⟩
end Go.Proofs.YtlgghookekokaaaGreatDoor

