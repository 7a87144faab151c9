/- What is used, and what is free: by the model and by the program. -/
import Derived.Test.YtbbmljakfbhnpaaGreatDoorZAT
namespace Go.Proofs.YtbbmljakfbhnpaaGreatDoor
open Go.RowKit

/-- The first number below a bound that is asked for, -1 without one. -/
def zaq (p : Nat → Bool) (n : Nat) : Int := match (List.range n).find? p with | some i => (i : Int) | none => -1
theorem zgi {p : Nat → Bool} {n k : Nat} (hk : k < n) (h : ∀ j, j < k → p j = false) (e : p k = true) : zaq p n = (k : Int) := by
 have : (List.range n).find? p = some k := List.find?_range_eq_some.2 ⟨e, List.mem_range.2 hk, fun j hj => by rw [h j hj]; rfl⟩
 unfold zaq
 rw [this]
theorem zec {p : Nat → Bool} {n : Nat} (h : ∀ j, j < n → p j = false) : zaq p n = -1 := by
 have : (List.range n).find? p = none := List.find?_eq_none.2 (fun j hj => by rw [h j (List.mem_range.1 hj)]; decide)
 unfold zaq
 rw [this]
theorem zdh (p : Nat → Bool) (n : Nat) : -1 ≤ zaq p n ∧ zaq p n < n := by
 unfold zaq
 split
 ·rename_i i h
  have := List.mem_range.1 (List.mem_of_find?_eq_some h)
  omega
 ·omega
theorem zvp {p q : Nat → Bool} {n : Nat} (h : ∀ j, j < n → p j = q j) : zaq p n = zaq q n := by
 rcases Classical.em (∃ k, k < n ∧ p k = true ∧ ∀ j, j < k → p j = false) with ⟨k, hk, e, f⟩ | hn
 ·rw [zgi hk f e, zgi hk (fun j hj => by rw [← h j (by omega)]; exact f j hj) (by rw [← h k hk]; exact e)]
 ·have a : ∀ m, m ≤ n → ∀ j, j < m → p j = false := by
   intro m
   induction m with
   | zero => intro _ j hj; omega
   | succ m ih =>
    intro hm j hj
    by_cases e : j = m
    ·subst e
     cases hp : p j with
     | false => rfl
     | true => exact absurd ⟨j, by omega, hp, ih (by omega)⟩ hn
    ·exact ih (by omega) j (by omega)
  rw [zec (a n (Nat.le_refl _)), zec (fun j hj => by rw [← h j hj]; exact a n (Nat.le_refl _) j hj)]
/-- What is told of a number that was looked for. -/
def tellV (r : Int) : Int := if r < 0 then 0 else r
def tellC (r : Int) : Int := if r < 0 then 7 else 0
/-- What is used, of a tier. -/
def ubC (b : Bool) (t : Int) : Int := if b = true then (if t = 1 ∨ t = 2 then 0 else 4) else 1
def ubL (b : Bool) (ms : List Int) (t : Int) : List Int := if b = true ∧ (t = 1 ∨ t = 2) then zao ms t else []
theorem zde {ws : List Ino} {ps : List Den} (h : zcm ws ps = true) : ws.length = 16 ∧ ps.length = 24 ∧ zaj ws 0 = 2 ∧ zsy ws = true := by
 unfold zcm at h
 simp only [Bool.and_eq_true, decide_eq_true_eq, beq_iff_eq] at h
 exact ⟨h.1, h.2.1, h.2.2.1, h.2.2.2.1⟩
theorem img_small {ws : List Ino} {ps : List Den} (h : zcm ws ps = true) : ∀ k (h : k < ws.length), ∀ z ∈ ws[k].map, 0 ≤ z ∧ z ≤ 1048576 := fun k hk z hz => zdf (zjn (zde h).2.2.2 k hk z hz)
theorem row_none3 (w : World) : Row (w.alloc (.cells #[] 3)) 3 1 w.heap.size (w.alloc (.cells #[] 3)).heap.size (.slice (some ⟨w.heap.size, 0, none⟩) 0 0) 0 [] :=
 zad (World.ownsRow_lit w #[] 0 (Nat.le_refl _) (by simp [maxLen]) (by simp))

set_option maxRecDepth 100000 in
set_option maxHeartbeats 4000000 in
theorem zhy (v : Value) (ws : List Ino) (ps : List Den) (t : Int) (w : World) (h : RdIm w v ws ps) (hw : ws.length ≤ 1048576) (hp : ps.length ≤ 1048576) (hr : ∀ k (h : k < ws.length), ws[k].R) (hs : ∀ k (h : k < ps.length), ps[k].name.size ≤ maxLen) :
  Calls Tryz.prog 17 #[v, .int .i64 t] w fun e w' => ∃ v', e = .returned (.tuple #[v', .int .i64 (ubC (zcm ws ps) t)]) ∧ Row w' 3 1 w.heap.size w'.heap.size v' (ubL (zcm ws ps) (zai ws) t).length (zcv (ubL (zcm ws ps) (zai ws) t)) ∧ Below w.heap.size w w' := by
 have HRD := zaa h
 have LI := zaa (fun w1 h => zoh v ws ps w1 h hw hp hr hs)
 have LU := zaa (fun w1 h (o : zcm ws ps = true) => zil v ws ps t w1 h (by have := (zde o).1; omega) (img_small o))
 have RE := zaa (fun w1 : World => And.intro (row_none3 w1) ((Below.refl w1.heap.size w1).alloc (Nat.le_refl _) (.cells #[] 3)))
 obtain ⟨vW, vP, rfl, h1, h2⟩ := h
 obtain ⟨aW, cW, rfl, _, _⟩ := h1.shape
 obtain ⟨aP, cP, rfl, _, _⟩ := h2.shape
 clear h1 h2 hr hs
 have CA : Hid (∀ w', Below (w.alloc (.cells #[.slice aW ws.length cW, .slice aP ps.length cP] 26)).heap.size (w.alloc (.cells #[.slice aW ws.length cW, .slice aP ps.length cP] 26)) w' → w'.cell? ⟨w.heap.size, 0, none⟩ = some (.slice aW ws.length cW) ∧ w'.cell? ⟨w.heap.size, 1, none⟩ = some (.slice aP ps.length cP)) := fun w' hb => by
  have : w'.heap[w.heap.size]? = some (.cells #[.slice aW ws.length cW, .slice aP ps.length cP] 26 (0, 0)) := (hb.block _ (by simp)).trans (zah rfl)
  exact ⟨(zac this).1, (zac this).2.1⟩
 have BW : Hid (Below w.heap.size w (w.alloc (.cells #[.slice aW ws.length cW, .slice aP ps.length cP] 26))) := (Below.refl _ _).alloc (Nat.le_refl _) _
 obtain ⟨x0, x1⟩ := CA.out _ (Below.refl _ _)
 cases c1 : zcm ws ps with
 | false =>
  rw [c1] at LI
  rw [show ubC false t = 1 from rfl, show ubL false (zai ws) t = [] from if_neg (fun h => by cases h.1)]
  clear c1
  go_enter Tryz.func17, Tryz.ntmps17
  go_wp2_with fail
  refine (LI.out _ (HRD.out.below BW.out)).mono ?_
  rintro e w1 ⟨rfl, hb1⟩
  have B1 := zaa (zab BW.out hb1 BW.out.size)
  clear hb1 x0 x1
  go_wp2
  go_ret2
  exact ⟨_, rfl, (RE.out _).1.wide B1.out.size (Nat.le_refl _), zab B1.out (RE.out _).2 B1.out.size⟩
 | true =>
 rw [c1] at LI
 have O := zaa c1
 by_cases c2 : t = 1 ∨ t = 2
 case neg =>
  rw [show ubC true t = 4 by unfold ubC; rw [if_pos rfl, if_neg c2], show ubL true (zai ws) t = [] from if_neg (fun h => c2 h.2)]
  have q1 : (t != 1) = true := by rw [bne_iff_ne]; exact fun e => c2 (.inl e)
  have q2 : (t != 2) = true := by rw [bne_iff_ne]; exact fun e => c2 (.inr e)
  clear c1 c2
  go_enter Tryz.func17, Tryz.ntmps17
  go_wp2_with fail
  refine (LI.out _ (HRD.out.below BW.out)).mono ?_
  rintro e w1 ⟨rfl, hb1⟩
  have B1 := zaa (zab BW.out hb1 BW.out.size)
  clear hb1 x0 x1
  go_wp2
  go_ret2
  exact ⟨_, rfl, (RE.out _).1.wide B1.out.size (Nat.le_refl _), zab B1.out (RE.out _).2 B1.out.size⟩
 rw [show ubC true t = 0 by unfold ubC; rw [if_pos rfl, if_pos c2], show ubL true (zai ws) t = zao (zai ws) t from if_pos ⟨rfl, c2⟩]
 rcases c2 with rfl | rfl
 all_goals
  go_enter Tryz.func17, Tryz.ntmps17
  go_wp2_with fail
  refine (LI.out _ (HRD.out.below BW.out)).mono ?_
  rintro e w1 ⟨rfl, hb1⟩
  have B1 := zaa (zab BW.out hb1 BW.out.size)
  clear x0 x1
  obtain ⟨x0, x1⟩ := CA.out _ hb1
  clear hb1
  go_wp2_with fail
  refine (LU.out _ (HRD.out.below B1.out) O.out).mono ?_
  rintro e w2 ⟨v2, rfl, hr2, hb2⟩
  obtain ⟨-, aL, cL, hvL, -⟩ := hr2.rd
  subst hvL
  have R2 := zaa (hr2.wide B1.out.size (Nat.le_refl _))
  have B2 := zaa (zab B1.out hb2 B1.out.size)
  clear hr2 hb2 x0 x1
  go_wp2
  go_ret2
  exact ⟨_, rfl, R2.out, B2.out⟩

theorem used_succ {l : List Int} {t : Int} {k : Nat} (hk : k < l.length) : zao (l.take (k + 1)) t = if l[k] % 4 = t then zao (l.take k) t ++ [l[k] / 4] else zao (l.take k) t := by
 unfold zao
 rw [List.take_succ_eq_append_getElem hk, List.filter_append, List.map_append]
 by_cases h : l[k] % 4 = t
 ·rw [if_pos h]; simp [h]
 ·rw [if_neg h]; simp [h]

set_option maxRecDepth 100000 in
set_option maxHeartbeats 4000000 in
theorem zfo (v : Value) (ws : List Ino) (ps : List Den) (t : Int) (w : World) (h : RdIm w v ws ps) (hw : ws.length ≤ 1048576) (hp : ps.length ≤ 1048576) (hT : TS w) (hE : ED w) (hF : FD w) (hr : ∀ k (h : k < ws.length), ws[k].R) (hs : ∀ k (h : k < ps.length), ps[k].name.size ≤ maxLen) :
  Calls Tryz.prog 16 #[v, .int .i64 t] w fun e w' => ∃ v', e = .returned (.tuple #[v', .int .i64 (ubC (zcm ws ps) t)]) ∧ Row w' 3 1 w.heap.size w'.heap.size v' (ubL (zcm ws ps) (zai ws) t).length (zcv (ubL (zcm ws ps) (zai ws) t)) ∧ Below w.heap.size w w' := by
 have LI := zaa (fun w1 (hb : Below w.heap.size w w1) => zdn v ws ps w1 (h.below hb) hw hp (hT.below hb) (hE.below hb) (hF.below hb) hr hs)
 have T := zaa hT
 obtain ⟨vW, vP, rfl, h1, h2⟩ := h
 have RW := zaa h1
 obtain ⟨aW, cW, rfl, _, _⟩ := h1.shape
 obtain ⟨aP, cP, rfl, _, _⟩ := h2.shape
 have LM := zaa (fun w1 (hb : Below w.heap.size w w1) (hl : ws.length ≤ 4096) => zfs (.slice aW ws.length cW) ws w1 (Rd.below RW.out hb) hl)
 clear h1 h2 hr hs hT hE hF
 have CA : Hid (∀ w', Below (w.alloc (.cells #[.slice aW ws.length cW, .slice aP ps.length cP] 26)).heap.size (w.alloc (.cells #[.slice aW ws.length cW, .slice aP ps.length cP] 26)) w' → w'.cell? ⟨w.heap.size, 0, none⟩ = some (.slice aW ws.length cW) ∧ w'.cell? ⟨w.heap.size, 1, none⟩ = some (.slice aP ps.length cP)) := fun w' hb => by
  have : w'.heap[w.heap.size]? = some (.cells #[.slice aW ws.length cW, .slice aP ps.length cP] 26 (0, 0)) := (hb.block _ (by simp)).trans (zah rfl)
  exact ⟨(zac this).1, (zac this).2.1⟩
 have BW : Hid (Below w.heap.size w (w.alloc (.cells #[.slice aW ws.length cW, .slice aP ps.length cP] 26))) := (Below.refl _ _).alloc (Nat.le_refl _) _
 obtain ⟨x0, x1⟩ := CA.out _ (Below.refl _ _)
 cases c1 : zcm ws ps with
 | false =>
  rw [c1] at LI
  rw [show ubC false t = 1 from rfl, show ubL false (zai ws) t = [] from if_neg (fun h => by cases h.1)]
  clear c1
  go_enter Tryz.func16, Tryz.ntmps16
  go_wp2_with fail
  refine (LI.out _ BW.out).mono ?_
  rintro e w1 ⟨rfl, hb1⟩
  have B1 := zaa (zab BW.out hb1 BW.out.size)
  clear hb1 x0 x1
  go_wp2
  go_ret2
  exact ⟨_, rfl, Row.nil _ _ _ _ _, B1.out⟩
 | true =>
 rw [c1] at LI
 by_cases c2 : t = 1 ∨ t = 2
 case neg =>
  rw [show ubC true t = 4 by unfold ubC; rw [if_pos rfl, if_neg c2], show ubL true (zai ws) t = [] from if_neg (fun h => c2 h.2)]
  have q1 : (t != 1) = true := by rw [bne_iff_ne]; exact fun e => c2 (.inl e)
  have q2 : (t != 2) = true := by rw [bne_iff_ne]; exact fun e => c2 (.inr e)
  clear c1 c2
  go_enter Tryz.func16, Tryz.ntmps16
  go_wp2_with fail
  refine (LI.out _ BW.out).mono ?_
  rintro e w1 ⟨rfl, hb1⟩
  have B1 := zaa (zab BW.out hb1 BW.out.size)
  clear hb1 x0 x1
  go_wp2
  go_ret2
  exact ⟨_, rfl, Row.nil _ _ _ _ _, B1.out⟩
 rw [show ubC true t = 0 by unfold ubC; rw [if_pos rfl, if_pos c2], show ubL true (zai ws) t = zao (zai ws) t from if_pos ⟨rfl, c2⟩]
 have HL := zaa (show ws.length ≤ 4096 by have := (zde c1).1; omega)
 have ml : (zai ws).length ≤ 128 := by have := zdx ws; have := (zde c1).1; omega
 have TI : Hid (∀ k (h : k < (zai ws).length), zej (zai ws)[k] = true) := fun k hk => by
  have hm := List.getElem_mem hk
  generalize (zai ws)[k] = e at hm ⊢
  unfold zai at hm
  obtain ⟨x, hx, he⟩ := List.mem_flatMap.1 hm
  obtain ⟨i, hi, rfl⟩ := List.getElem_of_mem hx
  unfold zda at he
  exact zjn (zde c1).2.2.2 i hi e (List.mem_filter.1 he).1
 have qq : ((t != 1) = false ∨ ((t != 1) = true ∧ (t != 2) = false)) := by rcases c2 with rfl | rfl <;> simp
 have TB : -10 ≤ t ∧ t ≤ 10 := by omega
 clear c1 c2
 generalize zai ws = ms at *
 rcases qq with q1 | ⟨q1, q2⟩
 all_goals
  go_enter Tryz.func16, Tryz.ntmps16
  go_wp2_with fail
  refine (LI.out _ BW.out).mono ?_
  rintro e w1 ⟨rfl, hb1⟩
  have B1 := zaa (zab BW.out hb1 BW.out.size)
  clear x0 x1
  obtain ⟨x0, x1⟩ := CA.out _ hb1
  clear hb1
  go_wp2_with fail
  refine (LM.out _ B1.out HL.out).mono ?_
  rintro e w2 ⟨v2, rfl, hr2, hb2⟩
  obtain ⟨-, aM, cM, hvM, -⟩ := hr2.rd
  subst hvM
  have R2 : Hid (RdI w2 (.slice aM ms.length cM) ms) := hr2.rd
  have B2 := zaa (zab B1.out hb2 B1.out.size)
  have hz2 : w.heap.size ≤ w2.heap.size := B2.out.size
  obtain ⟨aZ, cZ, eZ, _, hcZ⟩ := R2.out.shape
  have HZ := zaa hcZ
  obtain ⟨rfl, rfl⟩ : aZ = aM ∧ cZ = cM := by cases eZ; exact ⟨rfl, rfl⟩
  clear eZ hcZ hr2 hb2 x0 x1
  go_wp2
  go_loopw [6, 8, 9, 10, 11, 25] (fun vL _ _ _ _ i wr => ∃ k : Nat, k ≤ ms.length ∧ i = .int .i64 k ∧ Hid (InI w2 wr vL (zao (ms.take k) t)) ∧ w2.heap.size ≤ wr.heap.size) (fun _ _ _ _ _ i _ => ms.length - (intOf i).toNat)
  case atStart => exact ⟨0, by omega, rfl, ⟨World.ownsRow_nil _ _ _ _, Below.refl _ _⟩, Nat.le_refl _⟩
  case round =>
   obtain ⟨k, hk, rfl, I, hz⟩ := hrel
   by_cases hlt : k < ms.length
   ·obtain ⟨b, o, rfl, hbl, hcell⟩ := HZ.out (by omega)
    have hck := (I.out.b.cell (p := ⟨b, o + k, none⟩) hbl).trans (hcell k hlt)
    have k0 : (0 : Int) ≤ (k : Int) := by omega
    have k1 : (k : Int) < (ms.length : Int) := by omega
    have US := zaa (used_succ (t := t) hlt)
    have UL := zev (ms.take k) t
    rw [List.length_take] at UL
    obtain ⟨t1, t2, t3⟩ := tie_in (TI.out k hlt)
    have t4 := zdf (TI.out k hlt)
    have LT := zaa (fun w3 (hT : TS w3) => zfr ms[k] w3 hT (by omega) (by omega))
    rw [t1, t2, t3] at LT
    have TW := zaa (T.out.below (zab B2.out I.out.b hz2))
    clear hcell t1 t2 t3
    generalize ms[k] = z at hck US LT t4
    by_cases r : z % 4 = t
    ·have r' : (z % 4 == t) = true := by rw [beq_iff_eq]; exact r
     have JB : Hid (InI w2 (wr.alloc (.cells #[.int .i64 (z / 4)] 3)) u6 (zao (ms.take k) t)) := I.out.below ((Below.refl _ _).alloc (Nat.le_refl _) _)
     have RB := zaa (rd_int wr (z / 4))
     have hzb := JB.out.z
     have MN : Hid (zao (ms.take (k + 1)) t = zao (ms.take k) t ++ [z / 4]) := by unfold Hid; rw [US.out, if_pos r]
     clear r I US
     go_wp2_with (first
      | (go_at_call 56; refine (LT.out _ TW.out).mono ?_; rintro e w' ⟨rfl, rfl⟩)
      | (at_builtin; refine zae _ rfl (.tmp 38) (.tmp 40) 28 rfl w2.heap.size 3 (.int .i64 0) 1 8 Tryz.underlying28 zjv rfl (by decide) _ _ _ rfl JB.out.l _ 1 _ rfl RB.out (zry _) (by simp [maxLen]; omega) (by omega) (by omega) ?_))
     intro vN wN hownN hgrN
     have G := zaa (JB.out.grow (z / 4) hownN hgrN)
     rw [← MN.out] at G
     have hzN := G.out.z
     clear hownN hgrN JB RB
     go_wp2
     go_roundw
     case rel => exact ⟨k + 1, by omega, by go_num, G, hzN⟩
     case measure => simp [intOf]; omega
    ·have r' : (z % 4 == t) = false := by rw [beq_eq_false_iff_ne]; exact r
     have G : Hid (InI w2 wr u6 (zao (ms.take (k + 1)) t)) := by unfold Hid; rw [US.out, if_neg r]; exact I.out
     clear r I US
     go_wp2_with (go_at_call 56; refine (LT.out _ TW.out).mono ?_; rintro e w' ⟨rfl, rfl⟩)
     go_roundw
     case rel => exact ⟨k + 1, by omega, by go_num, G, hz⟩
     case measure => simp [intOf]; omega
   ·obtain rfl : k = ms.length := by omega
    have E := zaa (show zao (ms.take ms.length) t = zao ms t by rw [List.take_length])
    rw [E.out] at I
    obtain ⟨-, aL, cL, hvL, -⟩ := (zad I.out.l).rd
    subst hvL
    go_wp2
    go_ret2
    exact ⟨_, rfl, (zad I.out.l).wide hz2 (Nat.le_refl _), zab B2.out I.out.b hz2⟩
end Go.Proofs.YtbbmljakfbhnpaaGreatDoor
