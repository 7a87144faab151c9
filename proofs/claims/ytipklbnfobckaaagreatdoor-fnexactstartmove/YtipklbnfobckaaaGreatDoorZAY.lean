/- Several texts laid together: PiP, PiQ, PlA, IgA, IgC, IgD. -/
import Derived.Test.YtipklbnfobckaaaGreatDoorZAX
import Derived.Test.YtipklbnfobckaaaGreatDoorZAL
import Derived.Test.YtipklbnfobckaaaGreatDoorImX
import Derived.Maps.Views
import Derived.BigQuiet
import Derived.Sort.Walk0
import Derived.Laws.Cover1
namespace Go.Proofs.YtipklbnfobckaaaGreatDoor
open Go.RowKit

/-- The first number below a bound that is asked for, -1 without one. -/
def zcg (p : Nat → Bool) (n : Nat) : Int := match (List.range n).find? p with | some i => (i : Int) | none => -1
theorem zxb {p : Nat → Bool} {n k : Nat} (hk : k < n) (h : ∀ j, j < k → p j = false) (e : p k = true) : zcg p n = (k : Int) := by
 have : (List.range n).find? p = some k := List.find?_range_eq_some.2 ⟨e, List.mem_range.2 hk, fun j hj => by rw [h j hj]; rfl⟩
 unfold zcg
 rw [this]
theorem znu {p : Nat → Bool} {n : Nat} (h : ∀ j, j < n → p j = false) : zcg p n = -1 := by
 have : (List.range n).find? p = none := List.find?_eq_none.2 (fun j hj => by rw [h j (List.mem_range.1 hj)]; decide)
 unfold zcg
 rw [this]
theorem zmh (p : Nat → Bool) (n : Nat) : -1 ≤ zcg p n ∧ zcg p n < n := by
 unfold zcg
 split
 ·rename_i i h
  have := List.mem_range.1 (List.mem_of_find?_eq_some h)
  omega
 ·omega
/-- What is told of a number that was looked for. -/
def zri (r : Int) : Int := if r < 0 then 0 else r
def zsv (r : Int) : Int := if r < 0 then 7 else 0
/-- What is used, of a tier. -/
def ubC (b : Bool) (t : Int) : Int := if b = true then (if t = 1 ∨ t = 2 then 0 else 4) else 1
def ubL (b : Bool) (ms : List Int) (t : Int) : List Int := if b = true ∧ (t = 1 ∨ t = 2) then zas ms t else []
theorem zii {ws : List Ino} {ps : List Den} (h : zdm ws ps = true) : ws.length = 16 ∧ ps.length = 24 ∧ zax ws 0 = 2 ∧ ztw ws = true := by
 unfold zdm at h
 simp only [Bool.and_eq_true, decide_eq_true_eq, beq_iff_eq] at h
 exact ⟨h.1, h.2.1, h.2.2.1, h.2.2.2.1⟩
theorem used_succ {l : List Int} {t : Int} {k : Nat} (hk : k < l.length) : zas (l.take (k + 1)) t = if l[k] % 4 = t then zas (l.take k) t ++ [l[k] / 4] else zas (l.take k) t := by
 unfold zas
 rw [List.take_succ_eq_append_getElem hk, List.filter_append, List.map_append]
 by_cases h : l[k] % 4 = t
 ·rw [if_pos h]; simp [h]
 ·rw [if_neg h]; simp [h]

set_option maxRecDepth 100000 in
set_option maxHeartbeats 4000000 in
theorem zne (v : Value) (ws : List Ino) (ps : List Den) (t : Int) (w : World) (h : RdIm w v ws ps) (hw : ws.length ≤ 1048576) (hp : ps.length ≤ 1048576) (hT : TS w) (hE : ED w) (hF : FD w) (hr : ∀ k (h : k < ws.length), ws[k].R) (hs : ∀ k (h : k < ps.length), ps[k].name.size ≤ maxLen) :
  Calls Tryz.prog 317 #[v, .int .i64 t] w fun e w' => ∃ v', e = .returned (.tuple #[v', .int .i64 (ubC (zdm ws ps) t)]) ∧ Row w' 3 1 w.heap.size w'.heap.size v' (ubL (zdm ws ps) (zak ws) t).length (zca (ubL (zdm ws ps) (zak ws) t)) ∧ Below w.heap.size w w' := by
 have LI := zaa (fun w1 (hb : Below w.heap.size w w1) => zbi v ws ps w1 (h.below hb) hw hp (hT.below hb) (hE.below hb) (hF.below hb) hr hs)
 have T := zaa hT
 obtain ⟨vW, vP, rfl, h1, h2⟩ := h
 have RW := zaa h1
 obtain ⟨aW, cW, rfl, _, _⟩ := h1.shape
 obtain ⟨aP, cP, rfl, _, _⟩ := h2.shape
 have LM := zaa (fun w1 (hb : Below w.heap.size w w1) (hl : ws.length ≤ 4096) => zex (.slice aW ws.length cW) ws w1 (Rd.below RW.out hb) hl)
 clear h1 h2 hr hs hT hE hF
 have CA : Hid (∀ w', Below (w.alloc (.cells #[.slice aW ws.length cW, .slice aP ps.length cP] 83)).heap.size (w.alloc (.cells #[.slice aW ws.length cW, .slice aP ps.length cP] 83)) w' → w'.cell? ⟨w.heap.size, 0, none⟩ = some (.slice aW ws.length cW) ∧ w'.cell? ⟨w.heap.size, 1, none⟩ = some (.slice aP ps.length cP)) := fun w' hb => by
  have : w'.heap[w.heap.size]? = some (.cells #[.slice aW ws.length cW, .slice aP ps.length cP] 83 (0, 0)) := (hb.block _ (by simp)).trans (zah rfl)
  exact ⟨(zad this).1, (zad this).2.1⟩
 have BW : Hid (Below w.heap.size w (w.alloc (.cells #[.slice aW ws.length cW, .slice aP ps.length cP] 83))) := (Below.refl _ _).alloc (Nat.le_refl _) _
 obtain ⟨x0, x1⟩ := CA.out _ (Below.refl _ _)
 cases c1 : zdm ws ps with
 | false =>
  rw [c1] at LI
  rw [show ubC false t = 1 from rfl, show ubL false (zak ws) t = [] from if_neg (fun h => by cases h.1)]
  clear c1
  go_enter Tryz.func317, Tryz.ntmps317
  go_wp2_with fail
  refine (LI.out _ BW.out).mono ?_
  rintro e w1 ⟨rfl, hb1⟩
  have B1 := zaa (zab BW.out hb1 BW.out.size)
  clear hb1 x0 x1
  go_wp2
  go_ret2
  exact ⟨_, rfl, Row.nil _ _ _ _ _, B1.out⟩
 | true =>
 rw [c1] at LI
 by_cases c2 : t = 1 ∨ t = 2
 case neg =>
  rw [show ubC true t = 4 by unfold ubC; rw [if_pos rfl, if_neg c2], show ubL true (zak ws) t = [] from if_neg (fun h => c2 h.2)]
  have q1 : (t != 1) = true := by rw [bne_iff_ne]; exact fun e => c2 (.inl e)
  have q2 : (t != 2) = true := by rw [bne_iff_ne]; exact fun e => c2 (.inr e)
  clear c1 c2
  go_enter Tryz.func317, Tryz.ntmps317
  go_wp2_with fail
  refine (LI.out _ BW.out).mono ?_
  rintro e w1 ⟨rfl, hb1⟩
  have B1 := zaa (zab BW.out hb1 BW.out.size)
  clear hb1 x0 x1
  go_wp2
  go_ret2
  exact ⟨_, rfl, Row.nil _ _ _ _ _, B1.out⟩
 rw [show ubC true t = 0 by unfold ubC; rw [if_pos rfl, if_pos c2], show ubL true (zak ws) t = zas (zak ws) t from if_pos ⟨rfl, c2⟩]
 have HL := zaa (show ws.length ≤ 4096 by have := (zii c1).1; omega)
 have ml : (zak ws).length ≤ 128 := by have := zeb ws; have := (zii c1).1; omega
 have TI : Hid (∀ k (h : k < (zak ws).length), zdl (zak ws)[k] = true) := fun k hk => by
  have hm := List.getElem_mem hk
  generalize (zak ws)[k] = e at hm ⊢
  unfold zak at hm
  obtain ⟨x, hx, he⟩ := List.mem_flatMap.1 hm
  obtain ⟨i, hi, rfl⟩ := List.getElem_of_mem hx
  unfold zdw at he
  exact zln (zii c1).2.2.2 i hi e (List.mem_filter.1 he).1
 have qq : ((t != 1) = false ∨ ((t != 1) = true ∧ (t != 2) = false)) := by rcases c2 with rfl | rfl <;> simp
 have TB : -10 ≤ t ∧ t ≤ 10 := by omega
 clear c1 c2
 generalize zak ws = ms at *
 rcases qq with q1 | ⟨q1, q2⟩
 all_goals
  go_enter Tryz.func317, Tryz.ntmps317
  go_wp2_with fail
  refine (LI.out _ BW.out).mono ?_
  rintro e w1 ⟨rfl, hb1⟩
  have B1 := zaa (zab BW.out hb1 BW.out.size)
  clear x0 x1
  obtain ⟨x0, x1⟩ := CA.out _ hb1
  clear hb1
  go_wp2_with fail
  refine (LM.out _ B1.out HL.out).mono ?_
  rintro e w2 ⟨v2, rfl, hr2, hb2⟩
  obtain ⟨-, aM, cM, hvM, -⟩ := hr2.rd
  subst hvM
  have R2 : Hid (RdI w2 (.slice aM ms.length cM) ms) := hr2.rd
  have B2 := zaa (zab B1.out hb2 B1.out.size)
  have hz2 : w.heap.size ≤ w2.heap.size := B2.out.size
  obtain ⟨aZ, cZ, eZ, _, hcZ⟩ := R2.out.shape
  have HZ := zaa hcZ
  obtain ⟨rfl, rfl⟩ : aZ = aM ∧ cZ = cM := by cases eZ; exact ⟨rfl, rfl⟩
  clear eZ hcZ hr2 hb2 x0 x1
  go_wp2
  go_loopw [6, 8, 9, 10, 11, 25] (fun vL _ _ _ _ i wr => ∃ k : Nat, k ≤ ms.length ∧ i = .int .i64 k ∧ Hid (InI w2 wr vL (zas (ms.take k) t)) ∧ w2.heap.size ≤ wr.heap.size) (fun _ _ _ _ _ i _ => ms.length - (intOf i).toNat)
  case atStart => exact ⟨0, by omega, rfl, ⟨World.ownsRow_nil _ _ _ _, Below.refl _ _⟩, Nat.le_refl _⟩
  case round =>
   obtain ⟨k, hk, rfl, I, hz⟩ := hrel
   by_cases hlt : k < ms.length
   ·obtain ⟨b, o, rfl, hbl, hcell⟩ := HZ.out (by omega)
    have hck := (I.out.b.cell (p := ⟨b, o + k, none⟩) hbl).trans (hcell k hlt)
    have k0 : (0 : Int) ≤ (k : Int) := by omega
    have k1 : (k : Int) < (ms.length : Int) := by omega
    have US := zaa (used_succ (t := t) hlt)
    have UL := zey (ms.take k) t
    rw [List.length_take] at UL
    obtain ⟨t1, t2, t3⟩ := zoc (TI.out k hlt)
    have t4 := zcd (TI.out k hlt)
    have LT := zaa (fun w3 (hT : TS w3) => zbm ms[k] w3 hT (by omega) (by omega))
    rw [t1, t2, t3] at LT
    have TW := zaa (T.out.below (zab B2.out I.out.b hz2))
    clear hcell t1 t2 t3
    generalize ms[k] = z at hck US LT t4
    by_cases r : z % 4 = t
    ·have r' : (z % 4 == t) = true := by rw [beq_iff_eq]; exact r
     have JB : Hid (InI w2 (wr.alloc (.cells #[.int .i64 (z / 4)] 3)) u6 (zas (ms.take k) t)) := I.out.below ((Below.refl _ _).alloc (Nat.le_refl _) _)
     have RB := zaa (rd_int wr (z / 4))
     have hzb := JB.out.z
     have MN : Hid (zas (ms.take (k + 1)) t = zas (ms.take k) t ++ [z / 4]) := by unfold Hid; rw [US.out, if_pos r]
     clear r I US
     go_wp2_with (first
      | (go_at_call 247; refine (LT.out _ TW.out).mono ?_; rintro e w' ⟨rfl, rfl⟩)
      | (at_builtin; refine zai _ rfl (.tmp 38) (.tmp 40) 22 rfl w2.heap.size 3 (.int .i64 0) 1 8 Tryz.underlying22 zkh rfl (by decide) _ _ _ rfl JB.out.l _ 1 _ rfl RB.out (zva _) (by simp [maxLen]; omega) (by omega) (by omega) ?_))
     intro vN wN hownN hgrN
     have G := zaa (JB.out.grow (z / 4) hownN hgrN)
     rw [← MN.out] at G
     have hzN := G.out.z
     clear hownN hgrN JB RB
     go_wp2
     go_roundw
     case rel => exact ⟨k + 1, by omega, by go_num, G, hzN⟩
     case measure => simp [intOf]; omega
    ·have r' : (z % 4 == t) = false := by rw [beq_eq_false_iff_ne]; exact r
     have G : Hid (InI w2 wr u6 (zas (ms.take (k + 1)) t)) := by unfold Hid; rw [US.out, if_neg r]; exact I.out
     clear r I US
     go_wp2_with (go_at_call 247; refine (LT.out _ TW.out).mono ?_; rintro e w' ⟨rfl, rfl⟩)
     go_roundw
     case rel => exact ⟨k + 1, by omega, by go_num, G, hz⟩
     case measure => simp [intOf]; omega
   ·obtain rfl : k = ms.length := by omega
    have E := zaa (show zas (ms.take ms.length) t = zas ms t by rw [List.take_length])
    rw [E.out] at I
    obtain ⟨-, aL, cL, hvL, -⟩ := (zaf I.out.l).rd
    subst hvL
    go_wp2
    go_ret2
    exact ⟨_, rfl, (zaf I.out.l).wide hz2 (Nat.le_refl _), zab B2.out I.out.b hz2⟩
end Go.Proofs.YtipklbnfobckaaaGreatDoor

namespace Go.Proofs.YtipklbnfobckaaaGreatDoor
open Go.RowKit

def fpV (b : Bool) (r : Int) : Int := if b = true then zri r else 0
def fpC (b : Bool) (r : Int) : Int := if b = true then zsv r else 1

set_option maxRecDepth 100000 in
set_option maxHeartbeats 4000000 in
theorem zla (v : Value) (ws : List Ino) (ps : List Den) (t : Int) (n : Nat) (w : World) (h : RdIm w v ws ps) (hl : ws.length ≤ 4096) (hr : ∀ k (h : k < ws.length), ∀ z ∈ ws[k].map, 0 ≤ z ∧ z ≤ 1048576) (hn : n ≤ 1000) :
  Calls Tryz.prog 198 #[v, .int .i64 t, .int .i64 (n : Int)] w fun e w' => e = .returned (.int .i64 (zcg (fun i => !zep (zas (zak ws) t) (i : Int)) n)) ∧ Below w.heap.size w w' := by
 have HRD := zaa h
 have LU := zaa (fun w1 h => zlx v ws ps t w1 h hl hr)
 have UL : (zas (zak ws) t).length ≤ 1048576 := by have := zey (zak ws) t; have := zeb ws; omega
 obtain ⟨vW, vP, rfl, h1, h2⟩ := h
 obtain ⟨aW, cW, rfl, _, hcW⟩ := h1.shape
 obtain ⟨aP, cP, rfl, _, _⟩ := h2.shape
 clear h1 h2 hcW hr
 have CA : Hid (∀ w', Below (w.alloc (.cells #[.slice aW ws.length cW, .slice aP ps.length cP] 83)).heap.size (w.alloc (.cells #[.slice aW ws.length cW, .slice aP ps.length cP] 83)) w' → w'.cell? ⟨w.heap.size, 0, none⟩ = some (.slice aW ws.length cW) ∧ w'.cell? ⟨w.heap.size, 1, none⟩ = some (.slice aP ps.length cP)) := fun w' hb => by
  have : w'.heap[w.heap.size]? = some (.cells #[.slice aW ws.length cW, .slice aP ps.length cP] 83 (0, 0)) := (hb.block _ (by simp)).trans (zah rfl)
  exact ⟨(zad this).1, (zad this).2.1⟩
 have BW : Hid (Below w.heap.size w (w.alloc (.cells #[.slice aW ws.length cW, .slice aP ps.length cP] 83))) := (Below.refl _ _).alloc (Nat.le_refl _) _
 obtain ⟨x0, x1⟩ := CA.out _ (Below.refl _ _)
 generalize zas (zak ws) t = zs at *
 go_enter Tryz.func198, Tryz.ntmps198
 go_wp2_with fail
 refine (LU.out _ (HRD.out.below BW.out)).mono ?_
 rintro e w1 ⟨v1, rfl, hr1, hb1⟩
 obtain ⟨-, aL, cL, hvL, -⟩ := hr1.rd
 subst hvL
 have R1 : Hid (RdI w1 (.slice aL zs.length cL) zs) := hr1.rd
 have B1 := zaa (zab BW.out hb1 BW.out.size)
 clear hr1 hb1 x0 x1 CA
 go_wp2
 go_loopw [8] (fun i wr => ∃ k : Nat, k ≤ n ∧ i = .int .i64 k ∧ wr = w1 ∧ Hid (∀ j, j < k → (!zep zs (j : Int)) = false)) (fun i _ => n - (intOf i).toNat)
 case atStart => exact ⟨0, by omega, rfl, rfl, fun j a => absurd a (by omega)⟩
 case round =>
  obtain ⟨k, hk, rfl, rfl, H⟩ := hrel
  have k0 : (0 : Int) ≤ (k : Int) := by omega
  by_cases hlt : k < n
  ·have k1 : (k : Int) < (n : Int) := by omega
   have LH := zaa (zir (.slice aL zs.length cL) zs (k : Int) _ R1.out UL)
   cases q : zep zs (k : Int) with
   | true =>
    have H' : Hid (∀ j, j < k + 1 → (!zep zs (j : Int)) = false) := fun j a => by
     by_cases e : j = k
     ·subst e; rw [q]; rfl
     ·exact H.out j (by omega)
    rw [q] at LH
    clear q H
    go_wp2_with (go_at_call 219; refine LH.out.mono ?_; rintro e w' ⟨rfl, rfl⟩)
    go_roundw
    case rel => exact ⟨k + 1, by omega, by go_num, trivial, H'⟩
    case measure => simp [intOf]; omega
   | false =>
    have E := zaa (zxb (p := fun i => !zep zs (i : Int)) hlt H.out (by rw [q]; rfl))
    rw [q] at LH
    clear q H
    go_wp2_with (go_at_call 219; refine LH.out.mono ?_; rintro e w' ⟨rfl, rfl⟩)
    go_ret
    exact ⟨zeo E.out.symm, B1.out⟩
  ·have E := zaa (znu (p := fun i => !zep zs (i : Int)) (n := n) (fun j hj => H.out j (by omega)))
   clear H
   go_wp2
   go_ret
   exact ⟨zeo E.out.symm, B1.out⟩

set_option maxRecDepth 100000 in
set_option maxHeartbeats 4000000 in
theorem zfr (v : Value) (ws : List Ino) (ps : List Den) (t : Nat) (n : Nat) (w : World) (h : RdIm w v ws ps) (hw : ws.length ≤ 1048576) (hp : ps.length ≤ 1048576) (hT : TS w) (hE : ED w) (hF : FD w) (hr : ∀ k (h : k < ws.length), ws[k].R) (hs : ∀ k (h : k < ps.length), ps[k].name.size ≤ maxLen) (ht : (t = 1 ∧ n = 24) ∨ (t = 2 ∧ n = 32)) :
  Calls Tryz.prog 270 #[v, .int .i64 (t : Int)] w fun e w' => e = .returned (.tuple #[.int .i64 (fpV (zdm ws ps) (zcg (fun i => !zep (zas (zak ws) (t : Int)) (i : Int)) n)), .int .i64 (fpC (zdm ws ps) (zcg (fun i => !zep (zas (zak ws) (t : Int)) (i : Int)) n))]) ∧ Below w.heap.size w w' := by
 have LU := zaa (fun w1 (hb : Below w.heap.size w w1) => zne v ws ps (t : Int) w1 (h.below hb) hw hp (hT.below hb) (hE.below hb) (hF.below hb) hr hs)
 have T := zaa hT
 obtain ⟨vW, vP, rfl, h1, h2⟩ := h
 obtain ⟨aW, cW, rfl, _, hcW⟩ := h1.shape
 obtain ⟨aP, cP, rfl, _, _⟩ := h2.shape
 clear h1 h2 hr hs hT hE hF hcW
 have CA : Hid (∀ w', Below (w.alloc (.cells #[.slice aW ws.length cW, .slice aP ps.length cP] 83)).heap.size (w.alloc (.cells #[.slice aW ws.length cW, .slice aP ps.length cP] 83)) w' → w'.cell? ⟨w.heap.size, 0, none⟩ = some (.slice aW ws.length cW) ∧ w'.cell? ⟨w.heap.size, 1, none⟩ = some (.slice aP ps.length cP)) := fun w' hb => by
  have : w'.heap[w.heap.size]? = some (.cells #[.slice aW ws.length cW, .slice aP ps.length cP] 83 (0, 0)) := (hb.block _ (by simp)).trans (zah rfl)
  exact ⟨(zad this).1, (zad this).2.1⟩
 have BW : Hid (Below w.heap.size w (w.alloc (.cells #[.slice aW ws.length cW, .slice aP ps.length cP] 83))) := (Below.refl _ _).alloc (Nat.le_refl _) _
 obtain ⟨x0, x1⟩ := CA.out _ (Below.refl _ _)
 have c2 : (t : Int) = 1 ∨ (t : Int) = 2 := by rcases ht with ⟨e, _⟩ | ⟨e, _⟩ <;> rw [e] <;> decide
 cases c1 : zdm ws ps with
 | false =>
  rw [c1] at LU
  have e1 := show ubC false (t : Int) = 1 from rfl
  have e2 : ubL false (zak ws) (t : Int) = [] := if_neg (fun h => by cases h.1)
  rw [e1, e2] at LU
  generalize zcg (fun i => !zep (zas (zak ws) (t : Int)) (i : Int)) n = r
  rw [show fpV false r = 0 from rfl, show fpC false r = 1 from rfl]
  clear c1 e1 e2
  go_enter Tryz.func270, Tryz.ntmps270
  go_wp2_with fail
  refine (LU.out _ BW.out).mono ?_
  rintro e w1 ⟨v1, rfl, hr1, hb1⟩
  obtain ⟨-, aL, cL, hvL, -⟩ := hr1.rd
  subst hvL
  have B1 := zaa (zab BW.out hb1 BW.out.size)
  clear hr1 hb1 x0 x1
  go_wp2
  go_ret2
  exact ⟨rfl, B1.out⟩
 | true =>
 rw [c1] at LU
 have e1 : ubC true (t : Int) = 0 := by unfold ubC; rw [if_pos rfl, if_pos c2]
 have e2 : ubL true (zak ws) (t : Int) = zas (zak ws) (t : Int) := if_pos ⟨rfl, c2⟩
 have UL : (zas (zak ws) (t : Int)).length ≤ 1048576 := by have := zey (zak ws) (t : Int); have := zeb ws; have := (zii c1).1; omega
 rw [e1, e2] at LU
 generalize zas (zak ws) (t : Int) = zs at *
 have TC : Hid (∀ w', Below w.heap.size w w' → w'.cell? ⟨4, t, none⟩ = some (.int .i64 (n : Int))) := fun w' hb => by
  obtain ⟨a0, a1, a2⟩ := TS.cells (T.out.below hb)
  rcases ht with ⟨rfl, rfl⟩ | ⟨rfl, rfl⟩
  ·exact a1
  ·exact a2
 have t0 : (0 : Int) ≤ (t : Int) := by rcases ht with ⟨e, _⟩ | ⟨e, _⟩ <;> rw [e] <;> decide
 have t3 : (t : Int) < 3 := by rcases ht with ⟨e, _⟩ | ⟨e, _⟩ <;> rw [e] <;> decide
 have n1 : n ≤ 32 := by rcases ht with ⟨_, e⟩ | ⟨_, e⟩ <;> rw [e] <;> decide
 clear c1 c2 e1 e2 ht T
 go_enter Tryz.func270, Tryz.ntmps270
 go_wp2_with fail
 refine (LU.out _ BW.out).mono ?_
 rintro e w1 ⟨v1, rfl, hr1, hb1⟩
 obtain ⟨-, aL, cL, hvL, -⟩ := hr1.rd
 subst hvL
 have R1 : Hid (RdI w1 (.slice aL zs.length cL) zs) := hr1.rd
 have B1 := zaa (zab BW.out hb1 BW.out.size)
 have tc := TC.out _ B1.out
 clear hr1 hb1 x0 x1 CA
 go_wp2
 go_loopw [8, 21] (fun _ i wr => ∃ k : Nat, k ≤ n ∧ i = .int .i64 k ∧ wr = w1 ∧ Hid (∀ j, j < k → (!zep zs (j : Int)) = false)) (fun _ i _ => n - (intOf i).toNat)
 case atStart => exact ⟨0, by omega, rfl, rfl, fun j a => absurd a (by omega)⟩
 case round =>
  obtain ⟨k, hk, rfl, rfl, H⟩ := hrel
  have k0 : (0 : Int) ≤ (k : Int) := by omega
  by_cases hlt : k < n
  ·have k1 : (k : Int) < (n : Int) := by omega
   have LH := zaa (zef (.slice aL zs.length cL) zs (k : Int) _ R1.out UL)
   cases q : zep zs (k : Int) with
   | true =>
    have H' : Hid (∀ j, j < k + 1 → (!zep zs (j : Int)) = false) := fun j a => by
     by_cases e : j = k
     ·subst e; rw [q]; rfl
     ·exact H.out j (by omega)
    rw [q] at LH
    clear q H
    go_wp2_with (go_at_call 231; refine LH.out.mono ?_; rintro e w' ⟨rfl, rfl⟩)
    go_roundw
    case rel => exact ⟨k + 1, by omega, by go_num, trivial, H'⟩
    case measure => simp [intOf]; omega
   | false =>
    have E := zaa (zxb (p := fun i => !zep zs (i : Int)) hlt H.out (by rw [q]; rfl))
    have E1 := zaa (show fpV true (k : Int) = (k : Int) by unfold fpV zri; rw [if_pos rfl, if_neg (by omega)])
    have E2 := zaa (show fpC true (k : Int) = 0 by unfold fpC zsv; rw [if_pos rfl, if_neg (by omega)])
    rw [q] at LH
    clear q H
    go_wp2_with (go_at_call 231; refine LH.out.mono ?_; rintro e w' ⟨rfl, rfl⟩)
    go_ret2
    exact ⟨zbq (by rw [E.out, E1.out]) (by rw [E.out, E2.out]), B1.out⟩
  ·have E := zaa (znu (p := fun i => !zep zs (i : Int)) (n := n) (fun j hj => H.out j (by omega)))
   clear H
   go_wp2
   go_ret2
   exact ⟨zbq (by rw [E.out]; rfl) (by rw [E.out]; rfl), B1.out⟩

/-- The inode that has none. -/
def zeroN : Ino := ⟨0, 0, 0, 0, 0, 0, 0, 0, 0, 0, 0⟩

end Go.Proofs.YtipklbnfobckaaaGreatDoor

namespace Go.Proofs.YtipklbnfobckaaaGreatDoor
open Go.RowKit

/-- The entry of no name. -/
def freeD : Den := ⟨0, ⟨#[]⟩, -1⟩
theorem zmg {s t : ByteArray} : (s.toList == t.toList) = true ↔ s = t := by
 rw [beq_iff_eq, ByteArray.toList_eq, ByteArray.toList_eq]
 exact ⟨zts, fun h => by rw [h]⟩
theorem zpl {d : Int} {nm : ByteArray} {x : Den} : zoh d nm x = true ↔ 0 ≤ x.child ∧ x.dir = d ∧ x.name = nm := by
 unfold zoh
 rw [Bool.and_eq_true, Bool.and_eq_true, decide_eq_true_eq, beq_iff_eq, zmg]
/-- No two entries have one name in one directory. -/
theorem ent_once {ws : List Ino} {ps : List Den} (h : zdm ws ps = true) {d : Int} {nm : ByteArray} {i j : Nat} (hi : i < ps.length) (hj : j < ps.length) (ei : zoh d nm ps[i] = true) (ej : zoh d nm ps[j] = true) : i = j := by
 obtain ⟨_, _, _, _, he, _, _⟩ := zdr h
 have he := (of_decide_eq_true he : ∀ i (h : i < ps.length), zcf ws ps i ps[i] = true)
 have one : ∀ {i j : Nat} (hi : i < ps.length) (hj : j < ps.length), zoh d nm ps[i] = true → zoh d nm ps[j] = true → ¬ i < j := by
  intro i j hi hj ei ej lt
  obtain ⟨a1, a2, a3⟩ := zpl.1 ei
  obtain ⟨b1, b2, b3⟩ := zpl.1 ej
  have e := he j hj
  unfold zcf at e
  rw [if_neg (by omega)] at e
  simp only [Bool.and_eq_true, List.all_eq_true] at e
  have q := e.2.2.2.2.2 ps[i] (by
   rw [List.mem_take_iff_getElem]
   exact ⟨i, by omega, rfl⟩)
  unfold zcq at q
  rw [a2, a3, b2, b3, decide_eq_true a1] at q
  simp at q
 have q1 := one hi hj ei ej
 have q2 := one hj hi ej ei
 omega
end Go.Proofs.YtipklbnfobckaaaGreatDoor

namespace Go.Proofs.YtipklbnfobckaaaGreatDoor
open Go.RowKit

def zar (ws : List Ino) (i : Nat) : Ino := ws.getD i zeroN
def ziq (ps : List Den) (k : Nat) : Den := ps.getD k freeD
theorem zbr {ws : List Ino} {i : Nat} (h : i < ws.length) : zar ws i = ws[i] := by
 unfold zar
 rw [List.getD_eq_getElem?_getD, List.getElem?_eq_getElem h]; rfl
theorem zie {ps : List Den} {i : Nat} (h : i < ps.length) : ziq ps i = ps[i] := by
 unfold ziq
 rw [List.getD_eq_getElem?_getD, List.getElem?_eq_getElem h]; rfl
theorem ziv (ws : List Ino) (i : Nat) : zax ws (i : Int) = (zar ws i).kind := by unfold zax zar; rfl
theorem zhv {ws : List Ino} {i : Nat} (h : i < ws.length) (x : Ino) (j : Nat) : zar (ws.set i x) j = if j = i then x else zar ws j := by
 unfold zar
 rw [List.getD_eq_getElem?_getD, List.getD_eq_getElem?_getD, List.getElem?_set]
 by_cases e : i = j
 ·subst e; simp [h]
 ·have : ¬ j = i := fun q => e q.symm
  simp [e, this]
theorem freeB_iff {x : Den} : x.freeB = true ↔ x = freeD := by
 unfold Den.freeB freeD
 simp only [Bool.and_eq_true, beq_iff_eq]
 constructor
 ·rintro ⟨h1, h2, h3⟩
  obtain ⟨d, n, c⟩ := x
  simp only at h1 h2 h3
  subst h1 h3
  have : n = ⟨#[]⟩ := by
   apply zts
   have : n.data.toList.length = 0 := by simpa using h2
   rw [List.eq_nil_of_length_eq_zero this]
  rw [this]
 ·intro h
  rw [h]
  exact ⟨rfl, rfl, rfl⟩
/-- An entry that is taken is right. -/
def EntOK (ws : List Ino) (x : Den) : Prop := (1 ≤ x.child ∧ x.child ≤ 15) ∧ (0 ≤ x.dir ∧ x.dir ≤ 15) ∧ nmB x.name = true ∧ ¬ zax ws x.child = 0 ∧ zax ws x.dir = 2
def cntA (ps : List Den) (c : Int) : Nat := (ps.filter fun x => x.child == c).length
/-- A right image. -/
structure Img (ws : List Ino) (ps : List Den) : Prop where
 l16 : ws.length = 16
 l24 : ps.length = 24
 root : zax ws 0 = 2
 ok : ∀ i, i < 16 → zei (zar ws i) = true
 ent : ∀ k, k < 24 → ziq ps k = freeD ∨ EntOK ws (ziq ps k)
 once : ∀ j k, j < 24 → k < 24 → 0 ≤ (ziq ps j).child → 0 ≤ (ziq ps k).child → (ziq ps j).dir = (ziq ps k).dir → (ziq ps j).name = (ziq ps k).name → j = k
 links : ∀ i : Nat, i < 16 → (if i = 0 then 1 else 0) + (cntA ps (i : Int) : Int) = (zar ws i).links
 hang : ∀ i : Nat, i < 16 → (zar ws i).kind = 2 → hangs ps 16 (i : Int) = true
 sing : (zak ws).Pairwise fun x y => x ≠ y
theorem zot {ws : List Ino} (l16 : ws.length = 16) (ok : ∀ i, i < 16 → zei (zar ws i) = true) : ∀ e ∈ zak ws, 0 ≤ e ∧ (e % 4 = 1 ∨ e % 4 = 2) := by
 apply zks
 intro i hi
 have := ok i (by omega)
 rw [zbr hi] at this
 exact (zgl this).1
theorem zmq {ws : List Ino} {ps : List Den} : zdm ws ps = true ↔ Img ws ps := by
 constructor
 ·intro h
  obtain ⟨l1, l2, r, o, e, l, s⟩ := zdr h
  have o' := (of_decide_eq_true o : ∀ k (h : k < ws.length), zei ws[k] = true)
  have e' := (of_decide_eq_true e : ∀ i (h : i < ps.length), zcf ws ps i ps[i] = true)
  have l' := (of_decide_eq_true l : ∀ i (h : i < ws.length), zfn ps i ws[i] = true)
  have ok : ∀ i, i < 16 → zei (zar ws i) = true := fun i hi => by rw [zbr (by omega)]; exact o' i (by omega)
  refine ⟨l1, l2, r, ok, ?_, ?_, ?_, ?_, ?_⟩
  ·intro k hk
   rw [zie (by omega)]
   have q := e' k (by omega)
   unfold zcf at q
   split at q
   ·exact .inl (freeB_iff.1 q)
   ·right
    rcases pimg_ent h k (by omega) with a | a
    ·rename_i c; exact absurd a.1 c
    ·exact a
  ·intro j k hj hk cj ck hd hn
   refine ent_once h (d := (ziq ps j).dir) (nm := (ziq ps j).name) (i := j) (j := k) (by omega) (by omega) ?_ ?_
   ·rw [zie (by omega)] at cj ⊢
    exact zpl.2 ⟨cj, rfl, rfl⟩
   ·rw [zie (i := k) (by omega)] at ck hd hn
    exact zpl.2 ⟨ck, hd.symm, hn.symm⟩
  ·intro i hi
   have q := l' i (by omega)
   unfold zfn zjw at q
   simp only [Bool.and_eq_true, decide_eq_true_eq] at q
   rw [zbr (by omega), ← q.1, List.take_length]
   rfl
  ·intro i hi hk
   rw [zbr (by omega)] at hk
   have q := l' i (by omega)
   unfold zfn at q
   simp only [Bool.and_eq_true, Bool.or_eq_true, decide_eq_true_eq] at q
   rcases q.2 with q | q
   ·exact absurd hk q
   ·exact q
  ·unfold zgx at s
   rw [zly (fun e he => (zot l1 ok e he).2), zes] at s
   exact s
 ·rintro ⟨l1, l2, r, o, e, c, l, g, s⟩
  unfold zdm
  have hs : zgx ws = true := by
   unfold zgx
   rw [zly (fun e he => (zot l1 o e he).2), zes]
   exact s
  have ho : ztw ws = true := decide_eq_true fun k hk => by rw [← zbr hk]; exact o k (by omega)
  have hl : zfb ws ps = true := decide_eq_true fun i hi => by
   unfold zfn zjw
   rw [List.take_length, ← zbr hi]
   simp only [Bool.and_eq_true, Bool.or_eq_true, decide_eq_true_eq]
   refine ⟨l i (by omega), ?_⟩
   by_cases q : (zar ws i).kind = 2
   ·exact .inr (g i (by omega) q)
   ·exact .inl q
  have he : zgo ws ps = true := decide_eq_true fun i hi => by
   unfold zcf
   rw [← zie hi]
   rcases e i (by omega) with q | q
   ·rw [q]
    rfl
   ·obtain ⟨q1, q2, q3, q4, q5⟩ := q
    rw [if_neg (by omega), decide_eq_true q1, decide_eq_true q2, q3, q5]
    simp only [Bool.true_and, Bool.and_eq_true, Bool.not_eq_true', beq_eq_false_iff_ne, List.all_eq_true]
    refine ⟨q4, by decide, ?_⟩
    intro y hy
    obtain ⟨j, hj, rfl⟩ := List.mem_take_iff_getElem.1 hy
    have hj := Nat.lt_min.1 hj
    have hc : zcq ps[j] (ziq ps i) = false := by
     rw [Bool.eq_false_iff]
     intro hc
     unfold zcq at hc
     rw [Bool.and_eq_true, Bool.and_eq_true, decide_eq_true_eq, beq_iff_eq, zmg] at hc
     rw [← zie hj.2] at hc
     have := c j i (by omega) (by omega) hc.1 (by omega) hc.2.1 hc.2.2
     omega
    rw [hc]
  rw [decide_eq_true l1, decide_eq_true l2, r, ho, he, hl, hs]
  rfl
end Go.Proofs.YtipklbnfobckaaaGreatDoor

namespace Go.Proofs.YtipklbnfobckaaaGreatDoor
open Go.RowKit

theorem zor {ws : List Ino} : ∀ {i : Nat} {x : Ino}, i < ws.length → zak (ws.set i x) = zak (ws.take i) ++ zdw x.map ++ zak (ws.drop (i + 1)) := by
 intro i x h
 unfold zak
 rw [List.set_eq_take_append_cons_drop, if_pos h, List.flatMap_append, List.flatMap_cons, List.append_assoc]
theorem zsi {ws : List Ino} {i : Nat} (h : i < ws.length) : zak ws = zak (ws.take i) ++ zdw (zar ws i).map ++ zak (ws.drop (i + 1)) := by
 have : ws = ws.set i (zar ws i) := by
  apply List.ext_getElem?
  intro j
  rw [List.getElem?_set]
  by_cases e : i = j
  ·subst e; rw [if_pos rfl, if_pos h, zbr h, List.getElem?_eq_getElem h]
  ·rw [if_neg e]
 have q := zor (x := zar ws i) h
 rw [← this] at q
 exact q
theorem kind_set {ws : List Ino} {i : Nat} (h : i < ws.length) (x : Ino) (c : Int) (hc : 0 ≤ c) : zax (ws.set i x) c = if c = (i : Int) then x.kind else zax ws c := by
 obtain ⟨n, rfl⟩ : ∃ n : Nat, c = (n : Int) := ⟨c.toNat, by omega⟩
 rw [ziv, ziv, zhv h]
 by_cases e : n = i
 ·rw [if_pos e, if_pos (by omega)]
 ·rw [if_neg e, if_neg (by omega)]
end Go.Proofs.YtipklbnfobckaaaGreatDoor

namespace Go.Proofs.YtipklbnfobckaaaGreatDoor
open Go.RowKit

theorem zll {x : Ino} (h : zei x = true) : (0 ≤ x.kind ∧ x.kind ≤ 2) ∧ (0 ≤ x.size ∧ x.size ≤ 8) ∧ (0 ≤ x.links ∧ x.links ≤ 24) ∧ mapB x.map x.size = true ∧ zga x = true := by
 unfold zei at h
 simp only [Bool.and_eq_true, decide_eq_true_eq] at h
 exact h
theorem ino_mk {x : Ino} (h1 : 0 ≤ x.kind ∧ x.kind ≤ 2) (h2 : 0 ≤ x.size ∧ x.size ≤ 8) (h3 : 0 ≤ x.links ∧ x.links ≤ 24) (h4 : mapB x.map x.size = true) (h5 : zga x = true) : zei x = true := by
 unfold zei
 rw [decide_eq_true h1, decide_eq_true h2, decide_eq_true h3, h4, h5]
 rfl
end Go.Proofs.YtipklbnfobckaaaGreatDoor
