/- Several texts laid together: PmFence, BlkRead, BlkSm, BlkOwn, BlkWrite. -/
import Derived.Test.YtbbmljakfbhnpaaGreatDoorZAT
import Derived.Test.YtbbmljakfbhnpaaGreatDoorZAS
import Derived.Test.YtbbmljakfbhnpaaGreatDoorZAQ
import Derived.Deep.RegionLaw
namespace Go.Proofs.YtbbmljakfbhnpaaGreatDoor
open Go.RowKit

/-- The words behind a fence, a store after the other; and what is left. -/
def zmr (ws : List Int) (ps : List St) : List Int := ps.foldl (fun acc p => if p.fl then acc.set p.at_.toNat p.val else acc) ws
def zkn (ps : List St) : List St := ps.filter (fun p => !p.fl)
theorem zsg (ws : List Int) (ps : List St) (p : St) : zmr ws (ps ++ [p]) = if p.fl then (zmr ws ps).set p.at_.toNat p.val else zmr ws ps := by simp [zmr]
theorem zls (ws : List Int) : ∀ ps : List St, (zmr ws ps).length = ws.length := by
 intro ps
 unfold zmr
 induction ps generalizing ws with
 | nil => rfl
 | cons p ps ih =>
  rw [List.foldl_cons, ih]
  split <;> simp
theorem ztj (ps : List St) (p : St) : zkn (ps ++ [p]) = if p.fl then zkn ps else zkn ps ++ [p] := by
 unfold zkn
 rw [List.filter_append]
 cases h : p.fl <;> simp [h]
theorem fenP_le (ps : List St) : (zkn ps).length ≤ ps.length := List.length_filter_le _ _


/-- In the midst of a fence: the words so far, the stores, what is left so far. -/
structure FenInv (w wr : World) (ws : List Int) (ps : List St) (lo hi : Nat) (vW vP vL : Value) (m : Nat) : Prop where
 words : Row wr 3 1 lo hi vW ws.length (zco (zmr ws (ps.take m)))
 left : wr.ownsRow hi 136 3 vL (zkn (ps.take m)).length (sts (zkn (ps.take m)))
 pend : Row wr 136 3 lo hi vP ps.length (sts ps)
 box : wr.heap[w.heap.size]? = some (.cells #[vW, vP] 31 (0, 0))
 res : wr.heap[w.heap.size + 1]? = some (.cells #[.slice none 0 0, .slice none 0 0] 31 (0, 0))
 below : Below w.heap.size w wr
 size : hi ≤ wr.heap.size

theorem FenInv.hit {w wr : World} {ws : List Int} {ps : List St} {lo hi : Nat} {b n cap : Nat} {vP vL : Value} {m : Nat} (h : FenInv w wr ws ps lo hi (.slice (some ⟨b, 0, none⟩) n cap) vP vL m) (hm : m < ps.length) (hf : ps[m].fl = true) (hlo : w.heap.size + 2 ≤ lo) (o : Obj) (hn : n = ws.length) :
  FenInv w ((wr.setCell ⟨b, ps[m].at_.toNat, none⟩ (.int .i64 ps[m].val)).alloc o) ws ps lo hi (.slice (some ⟨b, 0, none⟩) n cap) vP vL (m + 1) := by
 subst hn
 obtain ⟨h1, h2, h3, h4, h5, h6, h7⟩ := h
 obtain ⟨_, hb1, hb2, _⟩ := h1.at
 have e1 : zmr ws (ps.take (m + 1)) = (zmr ws (ps.take m)).set ps[m].at_.toNat ps[m].val := by rw [zfk ps m hm, zsg, if_pos hf]
 have e2 : zkn (ps.take (m + 1)) = zkn (ps.take m) := by rw [zfk ps m hm, ztj, if_pos hf]
 refine ⟨?_, ?_, ?_, ?_, ?_, ?_, ?_⟩
 ·rw [e1, ← zft]
  exact (h1.stored _ _).alloc (by simp; omega) o
 ·rw [e2]
  exact ((zac h2).same (w' := wr.setCell ⟨b, ps[m].at_.toNat, none⟩ (.int .i64 ps[m].val)) (fun k hk _ => Below.heap_setCell _ _ _ _ (by simp only; omega))).1.alloc o
 ·exact (h3.apart h1 (by decide) (World.ownsRow.stored h1.1 _ _).2).alloc (by simp; omega) o
 ·refine zaj ?_
  rw [Below.heap_setCell _ _ _ _ (by simp only; omega)]; exact h4
 ·refine zaj ?_
  rw [Below.heap_setCell _ _ _ _ (by simp only; omega)]; exact h5
 ·exact (h6.setCell (by simp only; omega) _).alloc (by simp; exact h6.size) o
 ·simp; omega

theorem FenInv.miss {w wr w' : World} {ws : List Int} {ps : List St} {lo hi : Nat} {vW vP vL vL' : Value} {m : Nat} (h : FenInv w wr ws ps lo hi vW vP vL m) (hm : m < ps.length) (hf : ps[m].fl = false) (hlo : w.heap.size + 2 ≤ lo) (hhi : lo ≤ hi) (o o' : Obj)
  (ho : w'.ownsRow hi 136 3 vL' ((zkn (ps.take m)).length + 1) (sts (zkn (ps.take m)) ++ St.cells ps[m])) (hg : ((wr.alloc o).alloc o').grownBy w' vL.ownBlock) : FenInv w w' ws ps lo hi vW vP vL' (m + 1) := by
 obtain ⟨h1, h2, h3, h4, h5, h6, h7⟩ := h
 have hl := fun k hk => (((h2.alloc o).alloc o').lt k hk).1
 have e1 : zmr ws (ps.take (m + 1)) = zmr ws (ps.take m) := by rw [zfk ps m hm, zsg, hf]; rfl
 have e2 : zkn (ps.take (m + 1)) = zkn (ps.take m) ++ [ps[m]] := by rw [zfk ps m hm, ztj, hf]; rfl
 have keep : ∀ k, k < hi → w'.heap[k]? = ((wr.alloc o).alloc o').heap[k]? := fun k hk => hg.block k (by simp; omega) (fun e => by have := hl k e.symm; omega)
 have l4 := (Array.getElem?_eq_some_iff.1 h4).1
 refine ⟨?_, ?_, ?_, ?_, ?_, ?_, ?_⟩
 ·rw [e1]
  exact ((h1.alloc h7 o).alloc (by simp; omega) o').same (fun k _ hk => keep k hk)
 ·rw [e2, List.length_append, sts_snoc]; exact ho
 ·exact ((h3.alloc h7 o).alloc (by simp; omega) o').same (fun k _ hk => keep k hk)
 ·rw [keep _ (by omega)]; exact zaj (zaj h4)
 ·rw [keep _ (by omega)]; exact zaj (zaj h5)
 ·exact ((h6.alloc h6.size o).alloc (by simp; have := h6.size; omega) o').grown hg (by simp; have := h6.size; omega) (fun k hk => by have := hl k hk; omega)
 ·have := hg.size; simp at this; omega

set_option maxHeartbeats 4000000 in
theorem zun (v : Value) (ws : List Int) (ps : List St) (w : World) (h : RdPm w v ws ps) (hw : ws.length ≤ 1048576) (hp : ps.length ≤ 1048576) (hok : ∀ j (h : j < ps.length), 0 ≤ ps[j].at_ ∧ ps[j].at_ < ws.length) :
  Calls Tryz.prog 211 #[v] w fun e w' => ∃ v', e = .returned v' ∧ RowPm w' w.heap.size w'.heap.size v' (zmr ws ps) (zkn ps) ∧ Below w.heap.size w w' := by
 have HR := zaa h
 obtain ⟨vW, vP, rfl, h1, h2⟩ := h
 obtain ⟨aW, cW, rfl, _⟩ := h1.shape
 obtain ⟨aP, cP, rfl, _⟩ := h2.shape
 have HOK := zaa hok
 clear h1 h2 hok
 have hb0 : Below w.heap.size w ((w.alloc (.cells #[.slice aW ws.length cW, .slice aP ps.length cP] 31)).alloc (.cells #[.slice none 0 0, .slice none 0 0] 31)) := by
  repeat (refine Below.alloc ?_ (by simp <;> omega) _)
  exact Below.refl _ _
 go_enter Tryz.func211, Tryz.ntmps211
 go_wp2_with fail
 refine (zpe _ ws ps _ (HR.out.below hb0) (by omega) (by omega)).mono ?_
 rintro e w2 ⟨v2, rfl, hr2, hb2⟩
 obtain ⟨vW2, vP2, rfl, hI2, hS2⟩ := hr2
 obtain ⟨aW2, cW2, rfl⟩ := RdI.form hI2.rd rfl
 obtain ⟨aP2, cP2, rfl⟩ := RdS.form hS2.rd rfl
 simp only [World.size_alloc] at hI2 hS2
 have hz2 : w.heap.size + 2 ≤ w2.heap.size := by have := hb2.size; simp at this; omega
 have V0 := (hb2.block w.heap.size (by simp <;> omega)).trans (zaj (zag rfl))
 have V1 := (hb2.block (w.heap.size + 1) (by simp)).trans (zag (by simp))
 have B2 := zab hb0 hb2 (by simp <;> omega)
 obtain ⟨x1, x2, x3, x4⟩ := zad V0
 have INV : Hid (FenInv w (((w2.setCell ⟨w.heap.size, 0, none⟩ (.slice aW2 ws.length cW2)).setCell ⟨w.heap.size, 1, none⟩ (.slice aP2 ps.length cP2)).alloc (.cells #[] 136)) ws ps (w.heap.size + 1 + 1) w2.heap.size (.slice aW2 ws.length cW2) (.slice aP2 ps.length cP2) (.slice (some ⟨w2.heap.size, 0, none⟩) 0 0) 0) := by
  refine ⟨?_, ?_, ?_, ?_, ?_, ?_, ?_⟩
  ·refine ((hI2.same fun b hb1 _ => ?_).alloc (by simp) _)
   rw [Below.heap_setCell _ _ _ _ (by simp only; omega), Below.heap_setCell _ _ _ _ (by simp only; omega)]
  ·have := World.ownsRow_lit (base := w2.heap.size) (e := 136) (size := 3) ((w2.setCell ⟨w.heap.size, 0, none⟩ (.slice aW2 ws.length cW2)).setCell ⟨w.heap.size, 1, none⟩ (.slice aP2 ps.length cP2)) #[] 0 (by simp) (by simp) rfl
   simpa [zkn, sts] using this
  ·refine ((hS2.same fun b hb1 _ => ?_).alloc (by simp) _)
   rw [Below.heap_setCell _ _ _ _ (by simp only; omega), Below.heap_setCell _ _ _ _ (by simp only; omega)]
  ·exact zaj (zra (zlm V0 _) _)
  ·refine zaj ?_
   rw [Below.heap_setCell _ _ _ _ (by simp only; omega), Below.heap_setCell _ _ _ _ (by simp only; omega)]
   exact V1
  ·exact ((B2.setCell (by simp only; omega) _).setCell (by simp only; omega) _).alloc (by simp; omega) _
  ·simp
 clear hb0 hb2 hI2 hS2 V0 V1 B2
 go_wp2
 go_loopw [3, 4, 5] (fun vL i _ wr => ∃ m : Nat, m ≤ ps.length ∧ i = .int .i64 m ∧ Hid (FenInv w wr ws ps (w.heap.size + 1 + 1) w2.heap.size (.slice aW2 ws.length cW2) (.slice aP2 ps.length cP2) vL m)) (fun _ i _ _ => ps.length - (intOf i).toNat)
 case atStart => exact ⟨0, by omega, rfl, INV⟩
 case round =>
  obtain ⟨m, hm, rfl, I⟩ := hrel
  obtain ⟨y1, y2, y3, y4⟩ := zad I.out.box
  by_cases hlt : m < ps.length
  ·obtain ⟨_, ao', cap', e', _, hc⟩ := I.out.pend.rd
   cases e'
   obtain ⟨b, o, rfl, hbl, _⟩ := hc (by omega)
   obtain ⟨rfl, _, _, _, hfr, hcl⟩ := I.out.pend.at
   have e0 := (hcl (m * 3) (by omega)).trans (znl _ m hlt)
   have e1 := (hcl (m * 3 + 1) (by omega)).trans (sts_at1 _ m hlt)
   have e2 := (hcl (m * 3 + 2) (by omega)).trans (zrh _ m hlt)
   obtain ⟨q0, q1⟩ := HOK.out m hlt
   have hsz := I.out.size
   clear hc hfr hcl
   cases hf : ps[m].fl
   ·rw [hf] at e2
    have ec : St.cells ⟨ps[m].at_, ps[m].val, false⟩ = St.cells ps[m] := by simp [St.cells, hf]
    have hr := rd_one (wr.alloc (.cells #[.int .i64 ps[m].at_, .int .i64 ps[m].val, .bool false] 136)) ps[m].at_ ps[m].val false
    simp only [World.size_alloc] at hr
    have HRD := zaa hr
    have HOW := zaa ((I.out.left.alloc (.cells #[.int .i64 ps[m].at_, .int .i64 ps[m].val, .bool false] 136)).alloc (.cells #[.int .i64 ps[m].at_, .int .i64 ps[m].val, .bool false] 136))
    have hfl := fenP_le (ps.take m)
    rw [List.length_take] at hfl
    have EC := zaa ec
    have HF := zaa hf
    have HS := zaa hsz
    clear hr ec hf hsz
    go_wp2_with (at_builtin; refine zae _ rfl (.tmp 30) (.tmp 32) 29 rfl w2.heap.size 136 (.agg #[.int .i64 0, .int .i64 0, .bool false]) 3 24 Tryz.underlying29 zsr rfl (by decide) _ _ _ rfl HOW.out _ 1 (St.cells ⟨ps[m].at_, ps[m].val, false⟩) rfl HRD.out (cells_one _) (by simp [maxLen]; omega) (by omega) (by have := HS.out; simp; omega) ?_)
    intro vN wN hownN hgrN
    have I1 := zaa (I.out.miss hlt HF.out (Nat.le_refl _) hz2 _ _ (by rw [← EC.out]; exact hownN) hgrN)
    clear hownN hgrN
    go_wp2
    go_roundw
    case rel => exact ⟨m + 1, by omega, by go_num, I1⟩
    case measure => simp [intOf]; omega
   ·rw [hf] at e2
    obtain ⟨_, aw', cw', ew', _, hcw⟩ := I.out.words.rd
    cases ew'
    obtain ⟨bw, ow, rfl, hblw, _⟩ := hcw (by omega)
    obtain ⟨rfl, _, _, _, hfrw, hclw⟩ := (I.out.words.alloc hsz (.cells #[.int .i64 ps[m].at_, .int .i64 ps[m].val, .bool true] 136)).at
    have hj : ps[m].at_.toNat < (zmr ws (ps.take m)).length := by rw [zls]; omega
    have g0 := hfrw ps[m].at_.toNat
    have g1 := (hclw ps[m].at_.toNat (by omega)).trans (zcq _ _ hj)
    have I1 := zaa (I.out.hit hlt hf (Nat.le_refl _) (.cells #[.int .i64 ps[m].at_, .int .i64 ps[m].val, .bool true] 136) rfl)
    obtain ⟨z1, z2, _, _⟩ := zad (zaj (o := .cells #[.int .i64 ps[m].at_, .int .i64 ps[m].val, .bool true] 136) I.out.box)
    clear hcw hfrw hclw
    go_wp2
    go_roundw
    case rel => exact ⟨m + 1, by omega, by go_num, I1⟩
    case measure => simp [intOf]; omega
  ·have e : m = ps.length := by omega
   subst e
   obtain ⟨aL, cL, hvL⟩ := RdS.form (zac I.out.left).rd (n := (zkn ps).length) (by rw [List.take_length])
   subst hvL
   obtain ⟨t1, t2, t3, t4⟩ := zad I.out.res
   have hsz := I.out.size
   go_wp2
   have I2 := I.out
   refine bodyPost_ret (v := .agg #[.slice aW2 ws.length cW2, .slice aL (zkn ps).length cL]) (by simp [results, Tryz.results211, go_sem, t1, t2]) rfl ?_
   refine ⟨_, rfl, ⟨_, _, rfl, ?_, ?_⟩, ((I2.below.setCell (by simp only; omega) _).setCell (by simp only; omega) _).setCell (by simp only; omega) _⟩
   ·rw [zls]
    have := I2.words
    rw [List.take_length] at this
    refine (this.same fun b h1 h2 => ?_).wide (by omega) (by simp; omega)
    rw [Below.heap_setCell _ _ _ _ (by simp only; omega), Below.heap_setCell _ _ _ _ (by simp only; omega), Below.heap_setCell _ _ _ _ (by simp only; omega)]
   ·have := zac I2.left
    rw [List.take_length] at this
    refine (this.same fun b h1 h2 => ?_).wide (by omega) (by simp)
    rw [Below.heap_setCell _ _ _ _ (by simp only; omega), Below.heap_setCell _ _ _ _ (by simp only; omega), Below.heap_setCell _ _ _ _ (by simp only; omega)]
end Go.Proofs.YtbbmljakfbhnpaaGreatDoor

namespace Go.Proofs.YtbbmljakfbhnpaaGreatDoor
open Go.RowKit

/-- The last of some writes at a place, or what was there. -/
def zku (at_ d : Int) (ps : List Se) : Int := ps.foldl (fun acc p => if p.at_ = at_ then p.val else acc) d
theorem zjp {at_ d : Int} : ∀ {ps : List Se}, (∀ p ∈ ps, ¬ p.at_ = at_) → zku at_ d ps = d
 | [], _ => rfl
 | p :: ps, h => by
  show zku at_ (if p.at_ = at_ then p.val else d) ps = d
  rw [if_neg (h p (by simp))]
  exact zjp (fun q hq => h q (by simp [hq]))
theorem ztr (at_ d : Int) (ps qs : List Se) : zku at_ d (ps ++ qs) = zku at_ (zku at_ d ps) qs := by simp [zku]
theorem lastE_hit {at_ d : Int} {ps : List Se} {k : Nat} (hk : k < ps.length) (h : ps[k].at_ = at_) (ha : ∀ j (hj : j < ps.length), k < j → ¬ ps[j].at_ = at_) : zku at_ d ps = ps[k].val := by
 have e : ps = ps.take k ++ (ps[k] :: ps.drop (k + 1)) := by rw [← List.drop_eq_getElem_cons hk, List.take_append_drop]
 conv => lhs; rw [e]
 rw [ztr]
 show zku at_ (if ps[k].at_ = at_ then ps[k].val else _) (ps.drop (k + 1)) = _
 rw [if_pos h]
 apply zjp
 intro p hp
 obtain ⟨i, hi, rfl⟩ := List.getElem_of_mem hp
 rw [List.getElem_drop]
 exact ha _ _ (by omega)

set_option maxHeartbeats 2000000 in
theorem zwp (v : Value) (ws : List Int) (ps : List Se) (at_ : Nat) (w : World) (h : RdBlk w v ws ps) (hw : ws.length ≤ 1048576) (hp : ps.length ≤ 1048576) (ha : at_ < ws.length) :
  Calls Tryz.prog 208 #[v, .int .i64 (at_ : Int)] w fun e w' => e = .returned (.int .i64 (zku (at_ : Int) ws[at_] ps)) ∧ Below w.heap.size w w' := by
 obtain ⟨vW, vP, rfl, h1, h2⟩ := h
 obtain ⟨aW, cW, rfl, _, hcW⟩ := h1.shape
 obtain ⟨aP, cP, rfl, _, hcP⟩ := h2.shape
 clear h1 h2
 obtain ⟨bW, oW, rfl, hbW, hcellW⟩ := hcW (by omega)
 have hb0 : Below w.heap.size w (w.alloc (.cells #[.slice (some ⟨bW, oW, none⟩) ws.length cW, .slice aP ps.length cP] 34)) := (Below.refl _ _).alloc (Nat.le_refl _) _
 have hcw := (hb0.cell (p := ⟨bW, oW + at_, none⟩) hbW).trans (hcellW at_ ha)
 clear hcW hcellW
 go_enter Tryz.func208, Tryz.ntmps208
 go_wp2
 go_loop [5] (fun i => ∃ k : Nat, k ≤ ps.length ∧ i = .int .i64 ((k : Int) - 1) ∧ Hid (∀ j (h : j < ps.length), k ≤ j → ¬ ps[j].at_ = (at_ : Int))) (fun i => (intOf i + 1).toNat)
 case atStart => exact ⟨ps.length, Nat.le_refl _, rfl, fun j h a => absurd h (by omega)⟩
 case round =>
  obtain ⟨k, hk, rfl, H⟩ := hrel
  cases k with
  | zero =>
   have E := zaa (zjp (d := ws[at_]) (fun p hp => by obtain ⟨i, hi, rfl⟩ := List.getElem_of_mem hp; exact H.out i hi (by omega)))
   clear H hcP
   go_wp2
   go_ret
   exact ⟨zcw E.out.symm, hb0⟩
  | succ m =>
   have em : (((m + 1 : Nat) : Int) - 1) = (m : Int) := by omega
   rw [em]
   clear em
   obtain ⟨b, o, rfl, hbl, hcell⟩ := hcP (by omega)
   obtain ⟨d0, d1⟩ := hcell m (by omega)
   have e0 := (hb0.cell (p := ⟨b, o + m * 2, none⟩) hbl).trans d0
   have e1 := (hb0.cell (p := ⟨b, o + m * 2 + 1, none⟩) hbl).trans d1
   clear d0 d1 hcell hcP
   have hm : m < ps.length := by omega
   by_cases c : ps[m].at_ = (at_ : Int)
   ·have c' : (ps[m].at_ == (at_ : Int)) = true := by simpa using c
    have E := zaa (lastE_hit (d := ws[at_]) hm c (fun j hj hlt => H.out j hj (by omega)))
    clear H c
    go_wp2
    go_ret
    exact ⟨zcw E.out.symm, hb0⟩
   ·have c' : (ps[m].at_ == (at_ : Int)) = false := by simpa using c
    have C := zaa c
    clear c
    go_wp2
    go_round
    case rel =>
     refine ⟨m, by omega, by go_num, fun j hj hle => ?_⟩
     by_cases e : j = m
     ·subst e; exact C.out
     ·exact H.out j hj (by omega)
    case measure => simp [intOf] <;> omega

end Go.Proofs.YtbbmljakfbhnpaaGreatDoor

namespace Go.Proofs.YtbbmljakfbhnpaaGreatDoor
open Go.RowKit

theorem ses_one (ps : List Se) : ∀ u ∈ ses ps, u.oneCell' = true := by
 intro u hu
 simp only [ses, List.mem_flatMap, Se.cells] at hu
 obtain ⟨s, _, hs⟩ := hu
 simp at hs
 rcases hs with rfl | rfl <;> rfl
theorem RowBlk.setCell {w : World} {lo hi : Nat} {v : Value} {ws : List Int} {ps : List Se} (h : RowBlk w lo hi v ws ps) {a : Addr} (ha : a.block < lo) (u : Value) : RowBlk (w.setCell a u) lo hi v ws ps := by
 obtain ⟨vW, vP, rfl, h1, h2⟩ := h
 exact ⟨vW, vP, rfl, h1.same (fun b hb _ => Below.heap_setCell _ _ _ _ (by omega)), h2.same (fun b hb _ => Below.heap_setCell _ _ _ _ (by omega))⟩
theorem RowBlk.alloc {w : World} {lo hi : Nat} {v : Value} {ws : List Int} {ps : List Se} (h : RowBlk w lo hi v ws ps) (hi1 : hi ≤ w.heap.size) (o : Obj) : RowBlk (w.alloc o) lo hi v ws ps :=
 h.below ((Below.refl _ _).alloc (Nat.le_refl _) o) hi1
theorem ses_snoc (ps : List Se) (s : Se) : ses (ps ++ [s]) = ses ps ++ s.cells := by simp [ses]
/-- The shape of a slice, its length as it is wanted. -/
theorem RdE.form {w : World} {v : Value} {ps : List Se} (h : RdE w v ps) {n : Nat} (hn : ps.length = n) : ∃ ao cap, v = .slice ao n cap := by
 obtain ⟨ao, cap, e, _⟩ := h.shape
 exact ⟨ao, cap, by rw [← hn]; exact e⟩
/-- One write, laid in a block of its own, as a slice of one. -/
theorem rd_sec (w1 : World) (a x : Int) : Rd (w1.alloc (.cells #[.int .i64 a, .int .i64 x] 146)) 2 (.slice (some ⟨w1.heap.size, 0, none⟩) 1 1) 1 (Se.cells ⟨a, x⟩) := by
 refine ⟨rfl, _, _, rfl, ⟨Nat.le_refl _, fun e => by cases e⟩, fun _ => ⟨w1.heap.size, 0, rfl, by simp, fun j hj => ?_⟩⟩
 obtain ⟨e0, e1, _, _⟩ := zad (zag (w := w1) (o := .cells #[.int .i64 a, .int .i64 x] 146) rfl)
 rw [Nat.zero_add]
 rcases (show j = 0 ∨ j = 1 from by omega) with rfl | rfl
 ·exact e0
 ·exact e1
end Go.Proofs.YtbbmljakfbhnpaaGreatDoor

namespace Go.Proofs.YtbbmljakfbhnpaaGreatDoor
open Go.RowKit


/-- A device of a call's own, its sectors in a block of numbers. -/
def RowBlk3 (w : World) (lo hi : Nat) (v : Value) (ws : List Int) (ps : List Se) : Prop := ∃ vW vP, v = .agg #[vW, vP] ∧ Row w 3 1 lo hi vW ws.length (zco ws) ∧ Row w 146 2 lo hi vP ps.length (ses ps)

set_option maxHeartbeats 2000000 in
theorem l02Own_row (v : Value) (ws : List Int) (ps : List Se) (w : World) (h : RdBlk w v ws ps) (hw : ws.length ≤ 2147483648) (hp : ps.length ≤ 2147483648) :
  Calls Tryz.prog 194 #[v] w fun e w' => ∃ v', e = .returned v' ∧ RowBlk3 w' w.heap.size w'.heap.size v' ws ps ∧ Below w.heap.size w w' := by
 obtain ⟨vW, vP, rfl, h1, h2⟩ := h
 have H1 := zaa h1
 have H2 := zaa h2
 obtain ⟨aW, cW, rfl, _⟩ := h1.shape
 obtain ⟨aP, cP, rfl, _⟩ := h2.shape
 clear h1 h2
 have hb0 : Below w.heap.size w (((w.alloc (.cells #[.slice aW ws.length cW, .slice aP ps.length cP] 34)).alloc (.cells #[.slice none 0 0, .slice none 0 0] 34)).alloc (.cells #[] 3)) := by
  repeat (refine Below.alloc ?_ (by simp <;> omega) _)
  exact Below.refl _ _
 have ho0 : (((w.alloc (.cells #[.slice aW ws.length cW, .slice aP ps.length cP] 34)).alloc (.cells #[.slice none 0 0, .slice none 0 0] 34)).alloc (.cells #[] 3)).ownsRow (w.heap.size + 2) 3 1 (.slice (some ⟨w.heap.size + 1 + 1, 0, none⟩) 0 0) 0 [] := by
  simpa using World.ownsRow_lit (base := w.heap.size + 2) (e := 3) (size := 1) ((w.alloc (.cells #[.slice aW ws.length cW, .slice aP ps.length cP] 34)).alloc (.cells #[.slice none 0 0, .slice none 0 0] 34)) #[] 0 (by simp) (by simp) rfl
 have HO := zaa ho0
 have HB := zaa hb0
 clear ho0 hb0
 go_enter Tryz.func194, Tryz.ntmps194
 go_wp2_with (at_builtin; refine zae _ rfl (.tmp 3) (.tmp 5) 28 rfl (w.heap.size + 2) 3 (.int .i64 0) 1 8 Tryz.underlying28 zjk rfl (by decide) _ 0 [] rfl HO.out _ ws.length (zco ws) rfl (Rd.below H1.out HB.out) (zev ws) (by simp [maxLen]; omega) (by omega) (by simp) ?_)
 intro v1 w1 hown1 hgr1
 have hown1 : w1.ownsRow (w.heap.size + 2) 3 1 v1 ws.length (zco ws) := by simpa using hown1
 have R1 := zaa (zac hown1)
 obtain ⟨_, a1, c1, rfl, _⟩ := (zac hown1).rd
 have hz1 : w.heap.size + 3 ≤ w1.heap.size := by have := hgr1.size; simp at this; omega
 have V0 := (hgr1.block w.heap.size (by simp <;> omega) (by simp [Value.ownBlock] <;> omega)).trans (zaj (zaj (zag rfl)))
 have V1 := (hgr1.block (w.heap.size + 1) (by simp <;> omega) (by simp [Value.ownBlock] <;> omega)).trans (zaj (zag (by simp)))
 have B1 := HB.out.grown hgr1 (by simp <;> omega) (fun k hk => by simp [Value.ownBlock] at hk; omega)
 have V0' := zaj (o := .cells #[] 146) (zlm V0 (.slice a1 ws.length c1))
 have V1' := zaj (o := .cells #[] 146) ((Below.heap_setCell w1 ⟨w.heap.size, 0, none⟩ (.slice a1 ws.length c1) (w.heap.size + 1) (by simp)).trans V1)
 obtain ⟨x1, x2, x3, x4⟩ := zad V0
 obtain ⟨x5, x6, x7, x8⟩ := zad V0'
 have HV := zaa (And.intro V0' V1')
 have hB2 := (B1.setCell (p := ⟨w.heap.size, 0, none⟩) (Nat.le_refl _) (.slice a1 ws.length c1)).alloc (by simp; omega) (.cells #[] 146)
 have ho2 : ((w1.setCell ⟨w.heap.size, 0, none⟩ (.slice a1 ws.length c1)).alloc (.cells #[] 146)).ownsRow w1.heap.size 146 2 (.slice (some ⟨w1.heap.size, 0, none⟩) 0 0) 0 [] := by
  simpa using World.ownsRow_lit (base := w1.heap.size) (e := 146) (size := 2) (w1.setCell ⟨w.heap.size, 0, none⟩ (.slice a1 ws.length c1)) #[] 0 (by simp) (by simp) rfl
 have HB2 := zaa hB2
 have HO2 := zaa ho2
 clear hown1 hgr1 V0 V1 B1 V0' V1' hB2 ho2
 go_wp2_with (at_builtin; refine zae _ rfl (.tmp 8) (.tmp 10) 32 rfl w1.heap.size 146 (.agg #[.int .i64 0, .int .i64 0]) 2 16 Tryz.underlying32 zvs rfl (by decide) _ 0 [] rfl HO2.out _ ps.length (ses ps) rfl (Rd.below H2.out HB2.out) (ses_one ps) (by simp [maxLen]; omega) (by omega) (by simp) ?_)
 intro v2 w2 hown2 hgr2
 have hown2 : w2.ownsRow w1.heap.size 146 2 v2 ps.length (ses ps) := by simpa using hown2
 have R2 := zaa (zac hown2)
 obtain ⟨_, a2, c2, rfl, _⟩ := (zac hown2).rd
 have hz2 : w1.heap.size + 1 ≤ w2.heap.size := by have := hgr2.size; simp at this; omega
 have V0 := (hgr2.block w.heap.size (by simp <;> omega) (by simp [Value.ownBlock]; omega)).trans HV.out.1
 have V1 := (hgr2.block (w.heap.size + 1) (by simp <;> omega) (by simp [Value.ownBlock]; omega)).trans HV.out.2
 have B2 := zaa (HB2.out.grown hgr2 (by simp <;> omega) (fun k hk => by simp [Value.ownBlock] at hk; omega))
 have K2 : Hid (∀ b, w.heap.size + 2 ≤ b → b < w1.heap.size → w2.heap[b]? = w1.heap[b]?) := by
  intro b h1 h2
  rw [hgr2.block b (by simp <;> omega) (by simp [Value.ownBlock]; omega), zee, if_neg (by simp; omega), Below.heap_setCell _ _ _ _ (by simp only; omega)]
 obtain ⟨z1, z2, z3, z4⟩ := zad V0
 obtain ⟨t1, t2, t3, t4⟩ := zad V1
 clear hown2 hgr2 V0 V1
 go_wp2
 refine bodyPost_ret (v := .agg #[.slice a1 ws.length c1, .slice a2 ps.length c2]) (by simp [results, Tryz.results194, go_sem, t1, t2]) rfl ?_
 refine ⟨_, rfl, ⟨_, _, rfl, (R1.out.same fun b h1 h2 => ?_).wide (by omega) (by simp; omega), (R2.out.same fun b h1 h2 => ?_).wide (by omega) (by simp)⟩, ?_⟩
 ·rw [Below.heap_setCell _ _ _ _ (by simp only; omega), Below.heap_setCell _ _ _ _ (by simp only; omega), Below.heap_setCell _ _ _ _ (by simp only; omega), K2.out b h1 h2]
 ·rw [Below.heap_setCell _ _ _ _ (by simp only; omega), Below.heap_setCell _ _ _ _ (by simp only; omega), Below.heap_setCell _ _ _ _ (by simp only; omega)]
 ·exact ((B2.out.setCell (by simp only; omega) _).setCell (by simp only; omega) _).setCell (by simp only; omega) _
theorem zpr (v : Value) (ws : List Int) (ps : List Se) (w : World) (h : RdBlk w v ws ps) (hw : ws.length ≤ 2147483648) (hp : ps.length ≤ 2147483648) :
  Calls Tryz.prog 194 #[v] w fun e w' => ∃ v', e = .returned v' ∧ RowBlk w' w.heap.size w'.heap.size v' ws ps ∧ Below w.heap.size w w' :=
 (l02Own_row v ws ps w h hw hp).mono fun _ _ ⟨v', he, ⟨vW, vP, hv, h1, h2⟩, hb⟩ => ⟨v', he, ⟨vW, vP, hv, h1.z, h2⟩, hb⟩
end Go.Proofs.YtbbmljakfbhnpaaGreatDoor

namespace Go.Proofs.YtbbmljakfbhnpaaGreatDoor
open Go.RowKit



set_option maxHeartbeats 4000000 in
theorem ztw (vW vP : Value) (ws : List Int) (ps : List Se) (at_ x : Int) (w : World) (h : RdBlk w (.agg #[vW, vP]) ws ps) (hp : ps.length ≤ 1048576) :
  Calls Tryz.prog 212 #[.agg #[vW, vP], .int .i64 at_, .int .i64 x] w fun e w' => ∃ vP', e = .returned (.agg #[vW, vP']) ∧ RdBlk w' (.agg #[vW, vP']) ws (ps ++ [⟨at_, x⟩]) ∧ (∀ k, vP'.ownBlock = some k → w.heap.size ≤ k) ∧ Below w.heap.size w w' := by
 obtain ⟨_, _, e0, h1, h2⟩ := h
 cases e0
 have H1 := zaa h1
 have H2 := zaa h2
 obtain ⟨aW, cW, rfl, _⟩ := h1.shape
 obtain ⟨aP, cP, rfl, _⟩ := h2.shape
 clear h1 h2
 have hb0 : Below w.heap.size w (((w.alloc (.cells #[.slice aW ws.length cW, .slice aP ps.length cP] 34)).alloc (.cells #[.slice none 0 0, .slice none 0 0] 34)).alloc (.cells #[] 146)) := by
  repeat (refine Below.alloc ?_ (by simp <;> omega) _)
  exact Below.refl _ _
 have ho0 : (((w.alloc (.cells #[.slice aW ws.length cW, .slice aP ps.length cP] 34)).alloc (.cells #[.slice none 0 0, .slice none 0 0] 34)).alloc (.cells #[] 146)).ownsRow (w.heap.size + 2) 146 2 (.slice (some ⟨w.heap.size + 1 + 1, 0, none⟩) 0 0) 0 [] := by
  simpa using World.ownsRow_lit (base := w.heap.size + 2) (e := 146) (size := 2) ((w.alloc (.cells #[.slice aW ws.length cW, .slice aP ps.length cP] 34)).alloc (.cells #[.slice none 0 0, .slice none 0 0] 34)) #[] 0 (by simp) (by simp) rfl
 have HO := zaa ho0
 have HB := zaa hb0
 clear ho0 hb0
 go_enter Tryz.func212, Tryz.ntmps212
 go_wp2_with (at_builtin; refine zae _ rfl (.tmp 7) (.tmp 9) 32 rfl (w.heap.size + 2) 146 (.agg #[.int .i64 0, .int .i64 0]) 2 16 Tryz.underlying32 zvs rfl (by decide) _ 0 [] rfl HO.out _ ps.length (ses ps) rfl (Rd.below H2.out HB.out) (ses_one ps) (by simp [maxLen]; omega) (by omega) (by simp) ?_)
 intro v1 w1 hown1 hgr1
 have hown1 : w1.ownsRow (w.heap.size + 2) 146 2 v1 ps.length (ses ps) := by simpa using hown1
 have hz1 : w.heap.size + 3 ≤ w1.heap.size := by have := hgr1.size; simp at this; omega
 have V0 := (hgr1.block w.heap.size (by simp <;> omega) (by simp [Value.ownBlock] <;> omega)).trans (zaj (zaj (zag rfl)))
 have V1 := (hgr1.block (w.heap.size + 1) (by simp <;> omega) (by simp [Value.ownBlock] <;> omega)).trans (zaj (zag (by simp)))
 have B1 := HB.out.grown hgr1 (by simp <;> omega) (fun k hk => by simp [Value.ownBlock] at hk; omega)
 have hB2 := B1.alloc (by omega) (.cells #[.int .i64 at_, .int .i64 x] 146)
 have V0' := zaj (o := .cells #[.int .i64 at_, .int .i64 x] 146) V0
 have V1' := zaj (o := .cells #[.int .i64 at_, .int .i64 x] 146) V1
 have ho2 := hown1.alloc (.cells #[.int .i64 at_, .int .i64 x] 146)
 have hr2 := rd_sec w1 at_ x
 have HV := zaa (And.intro V0' V1')
 have HB2 := zaa hB2
 have HO2 := zaa ho2
 have HR2 := zaa hr2
 clear hown1 hgr1 V0 V1 B1 V0' V1' hB2 ho2 hr2
 go_wp2_with (at_builtin; refine zae _ rfl (.tmp 10) (.tmp 14) 32 rfl (w.heap.size + 2) 146 (.agg #[.int .i64 0, .int .i64 0]) 2 16 Tryz.underlying32 zvs rfl (by decide) _ ps.length (ses ps) rfl HO2.out _ 1 (Se.cells ⟨at_, x⟩) rfl HR2.out (fun u hu => by simp [Se.cells] at hu; rcases hu with rfl | rfl <;> rfl) (by simp [maxLen]; omega) (by omega) (by simp; omega) ?_)
 intro v2 w2 hown2 hgr2
 have hr3 : RdE w2 v2 (ps ++ [⟨at_, x⟩]) := by
  have := (zac hown2).rd
  unfold RdE
  rw [ses_snoc, List.length_append]
  exact this
 have L3 := zaa (fun k hk => (hown2.lt k hk).1)
 have R3 : Hid (RdE w2 v2 (ps ++ [⟨at_, x⟩])) := hr3
 obtain ⟨_, a2, c2, e2, _⟩ := hr3
 simp only [List.length_append, List.length_singleton] at e2
 subst e2
 have hz2 : w1.heap.size + 1 ≤ w2.heap.size := by have := hgr2.size; simp at this; omega
 have hne : ∀ b, b < w.heap.size + 2 → ¬ some b = Value.ownBlock v1 := by
  intro b hb e
  have := (HO2.out.lt b e.symm).1
  omega
 have V0 := (hgr2.block w.heap.size (by simp <;> omega) (hne _ (by omega))).trans HV.out.1
 have V1 := (hgr2.block (w.heap.size + 1) (by simp <;> omega) (hne _ (by omega))).trans HV.out.2
 have B2 := zaa (HB2.out.grown hgr2 (by simp <;> omega) (fun k hk => by have := (HO2.out.lt k hk).1; omega))
 obtain ⟨z1, z2, z3, z4⟩ := zad V0
 obtain ⟨t1, t2, t3, t4⟩ := zad V1
 clear hown2 hgr2 V0 V1
 go_wp2
 refine bodyPost_ret (v := .agg #[.slice aW ws.length cW, .slice a2 (ps.length + 1) c2]) (by simp [results, Tryz.results212, go_sem, t1, t2]) rfl ?_
 have B3 := ((B2.out.setCell (p := ⟨w.heap.size, 1, none⟩) (Nat.le_refl _) (.slice a2 (ps.length + 1) c2)).setCell (p := ⟨w.heap.size + 1, 0, none⟩) (by simp only; omega) (.slice aW ws.length cW)).setCell (p := ⟨w.heap.size + 1, 1, none⟩) (by simp only; omega) (.slice a2 (ps.length + 1) c2)
 refine ⟨_, rfl, ⟨_, _, rfl, Rd.below H1.out B3, Rd.same R3.out (by simp) (fun b _ hb => ?_)⟩, fun b hb => by have := L3.out b hb; omega, B3⟩
 have := L3.out b hb
 rw [Below.heap_setCell _ _ _ _ (by simp only; omega), Below.heap_setCell _ _ _ _ (by simp only; omega), Below.heap_setCell _ _ _ _ (by simp only; omega)]

theorem zuk (v : Value) (ws : List Int) (ps : List Se) (at_ x : Int) (w : World) (h : RdBlk w v ws ps) (hp : ps.length ≤ 1048576) :
  Calls Tryz.prog 212 #[v, .int .i64 at_, .int .i64 x] w fun e w' => ∃ v', e = .returned v' ∧ RdBlk w' v' ws (ps ++ [⟨at_, x⟩]) ∧ Below w.heap.size w w' := by
 obtain ⟨vW, vP, rfl, h1, h2⟩ := h
 exact (ztw vW vP ws ps at_ x w ⟨_, _, rfl, h1, h2⟩ hp).mono fun _ _ ⟨vP', he, hr, _, hb⟩ => ⟨_, he, hr, hb⟩

end Go.Proofs.YtbbmljakfbhnpaaGreatDoor
