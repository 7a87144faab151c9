/- What is used, and what is free: by the model and by the program. -/
import Derived.Test.YtbjjdkemappelaaGreatDoorImP
namespace Go.Proofs.YtbjjdkemappelaaGreatDoor
open Go.RowKit
def ubC (b : Bool) (t : Int) : Int := if b = true then (if t = 1 ∨ t = 2 then 0 else 4) else 1
def ubL (b : Bool) (ms : List Int) (t : Int) : List Int := if b = true ∧ (t = 1 ∨ t = 2) then usedOf ms t else []
theorem img_parts {ws : List Ino} {ps : List Den} (h : imgB ws ps = true) : ws.length = 16 ∧ ps.length = 24 ∧ kindAt ws 0 = 2 ∧ okNs ws = true := by
  unfold imgB at h
  simp only [Bool.and_eq_true, decide_eq_true_eq, beq_iff_eq] at h
  exact ⟨h.1, h.2.1, h.2.2.1, h.2.2.2.1⟩
theorem img_small {ws : List Ino} {ps : List Den} (h : imgB ws ps = true) : ∀ k (h : k < ws.length), ∀ z ∈ ws[k].map, 0 ≤ z ∧ z ≤ 1048576 := fun k hk z hz => tie_small (okNs_ties (img_parts h).2.2.2 k hk z hz)
theorem used_succ {l : List Int} {t : Int} {k : Nat} (hk : k < l.length) : usedOf (l.take (k + 1)) t = if l[k] % 4 = t then usedOf (l.take k) t ++ [l[k] / 4] else usedOf (l.take k) t := by
  unfold usedOf
  rw [List.take_succ_eq_append_getElem hk, List.filter_append, List.map_append]
  by_cases h : l[k] % 4 = t
  · rw [if_pos h]; simp [h]
  · rw [if_neg h]; simp [h]
set_option maxRecDepth 100000 in
set_option maxHeartbeats 4000000 in
theorem implUsedBy_any (v : Value) (ws : List Ino) (ps : List Den) (t : Int) (w : World) (h : RdIm w v ws ps) (hw : ws.length ≤ 1048576) (hp : ps.length ≤ 1048576) (hT : TS w) (hE : ED w) (hF : FD w) (hr : ∀ k (h : k < ws.length), ws[k].R) (hs : ∀ k (h : k < ps.length), ps[k].name.size ≤ maxLen) :
    Calls Tryz.prog 114 #[v, .int .i64 t] w fun e w' => ∃ v', e = .returned (.tuple #[v', .int .i64 (ubC (imgB ws ps) t)]) ∧ Row w' 3 1 w.heap.size w'.heap.size v' (ubL (imgB ws ps) (mapped ws) t).length (ints (ubL (imgB ws ps) (mapped ws) t)) ∧ Below w.heap.size w w' := by
  have LI := hideIt (fun w1 (hb : Below w.heap.size w w1) => implImageOK_any v ws ps w1 (h.below hb) hw hp (hT.below hb) (hE.below hb) (hF.below hb) hr hs)
  have T := hideIt hT
  obtain ⟨vW, vP, rfl, h1, h2⟩ := h
  have RW := hideIt h1
  obtain ⟨aW, cW, rfl, _, _⟩ := h1.shape
  obtain ⟨aP, cP, rfl, _, _⟩ := h2.shape
  have LM := hideIt (fun w1 (hb : Below w.heap.size w w1) (hl : ws.length ≤ 4096) => mappedEntries_any (.slice aW ws.length cW) ws w1 (Rd.below RW.out hb) hl)
  clear h1 h2 hr hs hT hE hF
  have CA : Hid (∀ w', Below (w.alloc (.cells #[.slice aW ws.length cW, .slice aP ps.length cP] 76)).heap.size (w.alloc (.cells #[.slice aW ws.length cW, .slice aP ps.length cP] 76)) w' → w'.cell? ⟨w.heap.size, 0, none⟩ = some (.slice aW ws.length cW) ∧ w'.cell? ⟨w.heap.size, 1, none⟩ = some (.slice aP ps.length cP)) := fun w' hb => by
    have : w'.heap[w.heap.size]? = some (.cells #[.slice aW ws.length cW, .slice aP ps.length cP] 76 (0, 0)) := (hb.block _ (by simp)).trans (at_new rfl)
    exact ⟨(two_cells this).1, (two_cells this).2.1⟩
  have BW : Hid (Below w.heap.size w (w.alloc (.cells #[.slice aW ws.length cW, .slice aP ps.length cP] 76))) := (Below.refl _ _).alloc (Nat.le_refl _) _
  obtain ⟨x0, x1⟩ := CA.out _ (Below.refl _ _)
  cases c1 : imgB ws ps with
  | false =>
    rw [c1] at LI
    rw [show ubC false t = 1 from rfl, show ubL false (mapped ws) t = [] from if_neg (fun h => by cases h.1)]
    clear c1
    go_enter Tryz.func114, Tryz.ntmps114
    go_wp2_with fail
    refine (LI.out _ BW.out).mono ?_
    rintro e w1 ⟨rfl, hb1⟩
    have B1 := hideIt (below_trans BW.out hb1 BW.out.size)
    clear hb1 x0 x1
    go_wp2
    go_ret2
    exact ⟨_, rfl, Row.nil _ _ _ _ _, B1.out⟩
  | true =>
  rw [c1] at LI
  by_cases c2 : t = 1 ∨ t = 2
  case neg =>
    rw [show ubC true t = 4 by unfold ubC; rw [if_pos rfl, if_neg c2], show ubL true (mapped ws) t = [] from if_neg (fun h => c2 h.2)]
    have q1 : (t != 1) = true := by rw [bne_iff_ne]; exact fun e => c2 (.inl e)
    have q2 : (t != 2) = true := by rw [bne_iff_ne]; exact fun e => c2 (.inr e)
    clear c1 c2
    go_enter Tryz.func114, Tryz.ntmps114
    go_wp2_with fail
    refine (LI.out _ BW.out).mono ?_
    rintro e w1 ⟨rfl, hb1⟩
    have B1 := hideIt (below_trans BW.out hb1 BW.out.size)
    clear hb1 x0 x1
    go_wp2
    go_ret2
    exact ⟨_, rfl, Row.nil _ _ _ _ _, B1.out⟩
  rw [show ubC true t = 0 by unfold ubC; rw [if_pos rfl, if_pos c2], show ubL true (mapped ws) t = usedOf (mapped ws) t from if_pos ⟨rfl, c2⟩]
  have HL := hideIt (show ws.length ≤ 4096 by have := (img_parts c1).1; omega)
  have ml : (mapped ws).length ≤ 128 := by have := mapped_len ws; have := (img_parts c1).1; omega
  have TI : Hid (∀ k (h : k < (mapped ws).length), tieB (mapped ws)[k] = true) := fun k hk => by
    have hm := List.getElem_mem hk
    generalize (mapped ws)[k] = e at hm ⊢
    unfold mapped at hm
    obtain ⟨x, hx, he⟩ := List.mem_flatMap.1 hm
    obtain ⟨i, hi, rfl⟩ := List.getElem_of_mem hx
    unfold somes at he
    exact okNs_ties (img_parts c1).2.2.2 i hi e (List.mem_filter.1 he).1
  have qq : ((t != 1) = false ∨ ((t != 1) = true ∧ (t != 2) = false)) := by rcases c2 with rfl | rfl <;> simp
  have TB : -10 ≤ t ∧ t ≤ 10 := by omega
  clear c1 c2
  generalize mapped ws = ms at *
  rcases qq with q1 | ⟨q1, q2⟩
  all_goals
    go_enter Tryz.func114, Tryz.ntmps114
    go_wp2_with fail
    refine (LI.out _ BW.out).mono ?_
    rintro e w1 ⟨rfl, hb1⟩
    have B1 := hideIt (below_trans BW.out hb1 BW.out.size)
    clear x0 x1
    obtain ⟨x0, x1⟩ := CA.out _ hb1
    clear hb1
    go_wp2_with fail
    refine (LM.out _ B1.out HL.out).mono ?_
    rintro e w2 ⟨v2, rfl, hr2, hb2⟩
    obtain ⟨-, aM, cM, hvM, -⟩ := hr2.rd
    subst hvM
    have R2 : Hid (RdI w2 (.slice aM ms.length cM) ms) := hr2.rd
    have B2 := hideIt (below_trans B1.out hb2 B1.out.size)
    have hz2 : w.heap.size ≤ w2.heap.size := B2.out.size
    obtain ⟨aZ, cZ, eZ, _, hcZ⟩ := R2.out.shape
    have HZ := hideIt hcZ
    obtain ⟨rfl, rfl⟩ : aZ = aM ∧ cZ = cM := by cases eZ; exact ⟨rfl, rfl⟩
    clear eZ hcZ hr2 hb2 x0 x1
    go_wp2
    go_loopw [6, 8, 9, 10, 11, 25] (fun vL _ _ _ _ i wr => ∃ k : Nat, k ≤ ms.length ∧ i = .int .i64 k ∧ Hid (InI w2 wr vL (usedOf (ms.take k) t)) ∧ w2.heap.size ≤ wr.heap.size) (fun _ _ _ _ _ i _ => ms.length - (intOf i).toNat)
    case atStart => exact ⟨0, by omega, rfl, ⟨World.ownsRow_nil _ _ _ _, Below.refl _ _⟩, Nat.le_refl _⟩
    case round =>
      obtain ⟨k, hk, rfl, I, hz⟩ := hrel
      by_cases hlt : k < ms.length
      · obtain ⟨b, o, rfl, hbl, hcell⟩ := HZ.out (by omega)
        have hck := (I.out.b.cell (p := ⟨b, o + k, none⟩) hbl).trans (hcell k hlt)
        have k0 : (0 : Int) ≤ (k : Int) := by omega
        have k1 : (k : Int) < (ms.length : Int) := by omega
        have US := hideIt (used_succ (t := t) hlt)
        have UL := usedOf_len (ms.take k) t
        rw [List.length_take] at UL
        obtain ⟨t1, t2, t3⟩ := tie_in (TI.out k hlt)
        have t4 := tie_small (TI.out k hlt)
        have LT := hideIt (fun w3 (hT : TS w3) => implTierOf_any ms[k] w3 hT (by omega) (by omega))
        rw [t1, t2, t3] at LT
        have TW := hideIt (T.out.below (below_trans B2.out I.out.b hz2))
        clear hcell t1 t2 t3
        generalize ms[k] = z at hck US LT t4
        by_cases r : z % 4 = t
        · have r' : (z % 4 == t) = true := by rw [beq_iff_eq]; exact r
          have JB : Hid (InI w2 (wr.alloc (.cells #[.int .i64 (z / 4)] 3)) u6 (usedOf (ms.take k) t)) := I.out.below ((Below.refl _ _).alloc (Nat.le_refl _) _)
          have RB := hideIt (rd_int wr (z / 4))
          have hzb := JB.out.z
          have MN : Hid (usedOf (ms.take (k + 1)) t = usedOf (ms.take k) t ++ [z / 4]) := by unfold Hid; rw [US.out, if_pos r]
          clear r I US
          go_wp2_with (first
            | (go_at_call 45; refine (LT.out _ TW.out).mono ?_; rintro e w' ⟨rfl, rfl⟩)
            | (at_builtin; refine wpList_append_rd _ rfl (.tmp 38) (.tmp 40) 22 rfl w2.heap.size 3 (.int .i64 0) 1 8 Tryz.underlying22 info3 rfl (by decide) _ _ _ rfl JB.out.l _ 1 _ rfl RB.out (one_int _) (by simp [maxLen]; omega) (by omega) (by omega) ?_))
          intro vN wN hownN hgrN
          have G := hideIt (JB.out.grow (z / 4) hownN hgrN)
          rw [← MN.out] at G
          have hzN := G.out.z
          clear hownN hgrN JB RB
          go_wp2
          go_roundw
          case rel => exact ⟨k + 1, by omega, by go_num, G, hzN⟩
          case measure => simp [intOf]; omega
        · have r' : (z % 4 == t) = false := by rw [beq_eq_false_iff_ne]; exact r
          have G : Hid (InI w2 wr u6 (usedOf (ms.take (k + 1)) t)) := by unfold Hid; rw [US.out, if_neg r]; exact I.out
          clear r I US
          go_wp2_with (go_at_call 45; refine (LT.out _ TW.out).mono ?_; rintro e w' ⟨rfl, rfl⟩)
          go_roundw
          case rel => exact ⟨k + 1, by omega, by go_num, G, hz⟩
          case measure => simp [intOf]; omega
      · obtain rfl : k = ms.length := by omega
        have E := hideIt (show usedOf (ms.take ms.length) t = usedOf ms t by rw [List.take_length])
        rw [E.out] at I
        obtain ⟨-, aL, cL, hvL, -⟩ := (own_block I.out.l).rd
        subst hvL
        go_wp2
        go_ret2
        exact ⟨_, rfl, (own_block I.out.l).wide hz2 (Nat.le_refl _), below_trans B2.out I.out.b hz2⟩
end Go.Proofs.YtbjjdkemappelaaGreatDoor
