/- Several texts laid together: PeG, StoreT, Pm, PmT, PmOK, Keep, Ev, PmOKI. -/
import Derived.Test.YtpgdpachomdfhaaDoorPeF
import Derived.Test.YtpgdpachomdfhaaDoorZAJ
import Derived.Deep.RegionWith
import Derived.Test.YtpgdpachomdfhaaDoorZAN
namespace Go.Proofs.YtpgdpachomdfhaaDoor
open Go.RowKit

/-- What PathsOf answers. -/
def poC (ws : List Ino) (ps : List Den) : Int := if imgB ws ps = true then 0 else 1
def poL (ws : List Ino) (ps : List Den) : List ByteArray := if imgB ws ps = true then pthN ws ps 16 0 ⟨#[]⟩ else []
theorem poL_len (ws : List Ino) (ps : List Den) : (poL ws ps).length ≤ 24 := by
  unfold poL
  split
  · rename_i h; exact pthN_len h 16 0 0 _ rfl
  · exact Nat.zero_le _

set_option maxRecDepth 100000 in
set_option maxHeartbeats 4000000 in
theorem specPathsOf_any (v : Value) (ws : List Ino) (ps : List Den) (w : World) (h : RdIm w v ws ps) (hw : ws.length ≤ 1048576) (hp : ps.length ≤ 1048576) (hr : ∀ k (h : k < ws.length), ws[k].R) (hs : ∀ k (h : k < ps.length), ps[k].name.size ≤ maxLen) :
    Calls Tryd.prog 5 #[v] w fun e w' => ∃ v', e = .returned (.tuple #[v', .int .i64 (poC ws ps)]) ∧ Row w' 9 1 w.heap.size w'.heap.size v' (poL ws ps).length (strs (poL ws ps)) ∧ Below w.heap.size w w' := by
  have HRD := hideIt h
  have LI := hideIt (fun w1 h => specImageOK_any v ws ps w1 h hw hp hr hs)
  have LU := hideIt (fun w1 h (o : imgB ws ps = true) => l06Paths_any o 16 0 0 ⟨#[]⟩ v w1 (by omega) rfl (by omega) (pimg_all o).2.2.1 (by decide) h)
  have RE := hideIt (fun w1 : World => And.intro (row_none9 w1) ((Below.refl w1.heap.size w1).alloc (Nat.le_refl _) (.cells #[] 9)))
  obtain ⟨vW, vP, rfl, h1, h2⟩ := h
  obtain ⟨aW, cW, rfl, _, _⟩ := h1.shape
  obtain ⟨aP, cP, rfl, _, _⟩ := h2.shape
  clear h1 h2 hr hs
  have CA : Hid (∀ w', Below (w.alloc (.cells #[.slice aW ws.length cW, .slice aP ps.length cP] 33)).heap.size (w.alloc (.cells #[.slice aW ws.length cW, .slice aP ps.length cP] 33)) w' → w'.cell? ⟨w.heap.size, 0, none⟩ = some (.slice aW ws.length cW) ∧ w'.cell? ⟨w.heap.size, 1, none⟩ = some (.slice aP ps.length cP)) := fun w' hb => by
    have : w'.heap[w.heap.size]? = some (.cells #[.slice aW ws.length cW, .slice aP ps.length cP] 33 (0, 0)) := (hb.block _ (by simp)).trans (at_new rfl)
    exact ⟨(two_cells this).1, (two_cells this).2.1⟩
  have BW : Hid (Below w.heap.size w (w.alloc (.cells #[.slice aW ws.length cW, .slice aP ps.length cP] 33))) := (Below.refl _ _).alloc (Nat.le_refl _) _
  obtain ⟨x0, x1⟩ := CA.out _ (Below.refl _ _)
  cases c1 : imgB ws ps with
  | false =>
    rw [c1] at LI
    rw [show poL ws ps = [] by unfold poL; rw [c1]; rfl, show poC ws ps = 1 by unfold poC; rw [c1]; rfl]
    clear c1
    go_enter Tryd.func5, Tryd.ntmps5
    go_wp2_with fail
    refine (LI.out _ (HRD.out.below BW.out)).mono ?_
    rintro e w1 ⟨rfl, hb1⟩
    have B1 := hideIt (below_trans BW.out hb1 BW.out.size)
    clear hb1 x0 x1
    go_wp2
    go_ret2
    exact ⟨_, rfl, (RE.out _).1.wide B1.out.size (Nat.le_refl _), below_trans B1.out (RE.out _).2 B1.out.size⟩
  | true =>
    have LU2 := hideIt (fun w1 h => LU.out w1 h c1)
    rw [c1] at LI
    rw [show poL ws ps = pthN ws ps 16 0 ⟨#[]⟩ by unfold poL; rw [c1]; rfl, show poC ws ps = 0 by unfold poC; rw [c1]; rfl]
    clear c1 LU
    generalize pthN ws ps 16 0 ⟨#[]⟩ = L at *
    go_enter Tryd.func5, Tryd.ntmps5
    go_wp2_with fail
    refine (LI.out _ (HRD.out.below BW.out)).mono ?_
    rintro e w1 ⟨rfl, hb1⟩
    have B1 := hideIt (below_trans BW.out hb1 BW.out.size)
    clear x0 x1
    obtain ⟨x0, x1⟩ := CA.out _ hb1
    clear hb1
    go_wp2_with fail
    refine (LU2.out _ (HRD.out.below B1.out)).mono ?_
    rintro e w2 ⟨v2, rfl, hr2, hb2⟩
    have B2 := hideIt (below_trans B1.out hb2 B1.out.size)
    have R2 := hideIt (hr2.wide (lo' := w.heap.size) (hi' := w2.heap.size) B1.out.size (Nat.le_refl _))
    obtain ⟨_, a2, c2, rfl, _⟩ := R2.out.rd
    clear hr2 hb2 x0 x1
    go_wp2
    go_ret2
    exact ⟨_, rfl, R2.out, B2.out⟩
end Go.Proofs.YtpgdpachomdfhaaDoor

namespace Go.Proofs.YtpgdpachomdfhaaDoor
open Go.RowKit

/-- The i-th of the marks from k on. -/
def markS (k : Int) (i : Nat) : St := ⟨k + 3 * (i : Int), k + 3 * (i : Int) + 1, (k + 3 * (i : Int) + 1 + 1) % 3 == 0⟩
def marksS (k : Int) (n : Nat) : List St := (List.range n).map (markS k)
theorem marksS_len (k : Int) (n : Nat) : (marksS k n).length = n := by simp [marksS]
theorem marksS_at (k : Int) (n i : Nat) (h : i < (marksS k n).length) : (marksS k n)[i] = markS k i := by simp [marksS]

/-- Cells of stores: numbers and bools, in their turn. -/
def IsSts (xs : List Value) (n : Nat) : Prop := ∀ k, k < n → ∃ a b c, xs[k * 3]? = some (.int .i64 a) ∧ xs[k * 3 + 1]? = some (.int .i64 b) ∧ xs[k * 3 + 2]? = some (.bool c)
theorem isSts (ps : List St) : IsSts (sts ps) ps.length := fun k hk => ⟨_, _, _, sts_at0 ps k hk, sts_at1 ps k hk, sts_at2 ps k hk⟩
theorem IsSts.put3 {ys : List Value} {n : Nat} (h : IsSts ys n) (hl : ys.length = n * 3) (k : Nat) (a b : Int) (c : Bool) : IsSts (put3 ys k (.int .i64 a) (.int .i64 b) (.bool c)) n := by
  intro j hj
  rw [put3_at (by omega), put3_at (by omega), put3_at (by omega)]
  by_cases e : j = k
  · subst e
    exact ⟨a, b, c, by simp, by simp, by simp⟩
  · obtain ⟨x, y, z, h0, h1, h2⟩ := h j hj
    refine ⟨x, y, z, ?_, ?_, ?_⟩
    · rw [if_neg (by omega), if_neg (by omega), if_neg (by omega)]; exact h0
    · rw [if_neg (by omega), if_neg (by omega), if_neg (by omega)]; exact h1
    · rw [if_neg (by omega), if_neg (by omega), if_neg (by omega)]; exact h2

end Go.Proofs.YtpgdpachomdfhaaDoor

namespace Go.Proofs.YtpgdpachomdfhaaDoor
open Go.RowKit

/-- A memory that can be read: its words, and its stores. -/
def RdPm (w : World) (v : Value) (ws : List Int) (ps : List St) : Prop := ∃ vW vP, v = .agg #[vW, vP] ∧ RdI w vW ws ∧ RdS w vP ps
theorem RdPm.below {w w' : World} {v : Value} {ws : List Int} {ps : List St} (h : RdPm w v ws ps) (hb : Below w.heap.size w w') : RdPm w' v ws ps := by
  obtain ⟨vW, vP, rfl, h1, h2⟩ := h
  exact ⟨vW, vP, rfl, Rd.below h1 hb, Rd.below h2 hb⟩
end Go.Proofs.YtpgdpachomdfhaaDoor

namespace Go.Proofs.YtpgdpachomdfhaaDoor
open Go.RowKit

end Go.Proofs.YtpgdpachomdfhaaDoor

namespace Go.Proofs.YtpgdpachomdfhaaDoor
open Go.RowKit

/-- A right memory. -/
def pmB (ws : List Int) (ps : List St) : Bool := decide (ws.length = 336 ∧ ps.length ≤ 400 ∧ (∀ k (h : k < ws.length), wordB ws[k] = true) ∧ ∀ k (h : k < ps.length), placeB ps[k].at_ = true ∧ wordB ps[k].val = true)
theorem pmB_mk {ws : List Int} {ps : List St} (h1 : ws.length = 336) (h2 : ps.length ≤ 400) (h3 : ∀ k (h : k < ws.length), wordB ws[k] = true) (h4 : ∀ k (h : k < ps.length), placeB ps[k].at_ = true ∧ wordB ps[k].val = true) : pmB ws ps = true := decide_eq_true ⟨h1, h2, h3, h4⟩
theorem pmB_len {ws : List Int} {ps : List St} (h : pmB ws ps = true) : ws.length = 336 ∧ ps.length ≤ 400 := ⟨(of_decide_eq_true h).1, (of_decide_eq_true h).2.1⟩
theorem pmB_word {ws : List Int} {ps : List St} (h : pmB ws ps = true) (k : Nat) (hk : k < ws.length) : wordB ws[k] = true := (of_decide_eq_true h).2.2.1 k hk
theorem pmB_store {ws : List Int} {ps : List St} (h : pmB ws ps = true) (k : Nat) (hk : k < ps.length) : placeB ps[k].at_ = true ∧ wordB ps[k].val = true := (of_decide_eq_true h).2.2.2 k hk
theorem pmB_len1 {ws : List Int} {ps : List St} (h : ¬ ws.length = 336) : pmB ws ps = false := decide_eq_false (fun x => h x.1)
theorem pmB_len2 {ws : List Int} {ps : List St} (h : 400 < ps.length) : pmB ws ps = false := decide_eq_false (fun x => absurd x.2.1 (by omega))
theorem pmB_w {ws : List Int} {ps : List St} {k : Nat} (hk : k < ws.length) (h : wordB ws[k] = false) : pmB ws ps = false := decide_eq_false (fun x => by have := x.2.2.1 k hk; rw [h] at this; cases this)
theorem pmB_a {ws : List Int} {ps : List St} {k : Nat} (hk : k < ps.length) (h : placeB ps[k].at_ = false) : pmB ws ps = false := decide_eq_false (fun x => by have := (x.2.2.2 k hk).1; rw [h] at this; cases this)
theorem pmB_v {ws : List Int} {ps : List St} {k : Nat} (hk : k < ps.length) (h : wordB ps[k].val = false) : pmB ws ps = false := decide_eq_false (fun x => by have := (x.2.2.2 k hk).2; rw [h] at this; cases this)

end Go.Proofs.YtpgdpachomdfhaaDoor

namespace Go.Proofs.YtpgdpachomdfhaaDoor
open Go.RowKit

/-- As many as is told at i, round and round. -/
def keepI (zs : List Int) (i : Nat) : Int := if zs.length = 0 then 0 else zs[i % zs.length]?.getD 0
def keepsB (zs : List Int) : Bool := decide (∀ k (h : k < zs.length), 0 ≤ zs[k] ∧ zs[k] ≤ 400)
theorem keepsB_mk {zs : List Int} (h : ∀ k (h : k < zs.length), 0 ≤ zs[k] ∧ zs[k] ≤ 400) : keepsB zs = true := decide_eq_true h
theorem keepsB_true {zs : List Int} (h : keepsB zs = true) : ∀ k (h : k < zs.length), 0 ≤ zs[k] ∧ zs[k] ≤ 400 := of_decide_eq_true h
theorem keepsB_not {zs : List Int} {k : Nat} (hk : k < zs.length) (h : ¬ (0 ≤ zs[k] ∧ zs[k] ≤ 400)) : keepsB zs = false := decide_eq_false (fun x => h (x k hk))
theorem keepI_of {zs : List Int} (h : keepsB zs = true) (i : Nat) : 0 ≤ keepI zs i ∧ keepI zs i ≤ 400 := by
  unfold keepI
  by_cases h0 : zs.length = 0
  · rw [if_pos h0]; omega
  · rw [if_neg h0]
    have hl : i % zs.length < zs.length := Nat.mod_lt _ (by omega)
    rw [List.getElem?_eq_getElem hl, Option.getD_some]
    exact keepsB_true h _ hl

theorem l01In400_any (n : Int) (w : World) (h : 0 ≤ n ∧ n ≤ 400) : Calls Tryd.prog 51 #[.int .i64 n, .int .i64 0, .int .i64 400] w fun e w' => e = .returned (.bool true) ∧ w' = w := by
  have e : inB n 0 400 = true := decide_eq_true h
  rw [← e]
  exact l01In_any n 0 400 w
theorem l01In400_not (n : Int) (w : World) (h : ¬ (0 ≤ n ∧ n ≤ 400)) : Calls Tryd.prog 51 #[.int .i64 n, .int .i64 0, .int .i64 400] w fun e w' => e = .returned (.bool false) ∧ w' = w := by
  have e : inB n 0 400 = false := decide_eq_false h
  rw [← e]
  exact l01In_any n 0 400 w

end Go.Proofs.YtpgdpachomdfhaaDoor

namespace Go.Proofs.YtpgdpachomdfhaaDoor
open Go.RowKit

def keepB (n : Int) : Bool := decide (0 ≤ n ∧ n ≤ 400)
theorem keepsB_mk' {zs : List Int} (h : ∀ k (h : k < zs.length), keepB zs[k] = true) : keepsB zs = true := keepsB_mk (fun k hk => of_decide_eq_true (h k hk))
theorem keepsB_not' {zs : List Int} {k : Nat} (hk : k < zs.length) (h : keepB zs[k] = false) : keepsB zs = false := keepsB_not hk (of_decide_eq_false h)
/-- All are places. -/
def placesB (zs : List Int) : Bool := decide (∀ k (h : k < zs.length), placeB zs[k] = true)
theorem placesB_true {zs : List Int} (h : placesB zs = true) : ∀ k (h : k < zs.length), placeB zs[k] = true := of_decide_eq_true h
theorem placesB_mk {zs : List Int} (h : ∀ k (h : k < zs.length), placeB zs[k] = true) : placesB zs = true := decide_eq_true h
theorem placesB_not {zs : List Int} {k : Nat} (hk : k < zs.length) (h : placeB zs[k] = false) : placesB zs = false := decide_eq_false (fun x => by have := x k hk; rw [h] at this; cases this)

end Go.Proofs.YtpgdpachomdfhaaDoor

namespace Go.Proofs.YtpgdpachomdfhaaDoor
open Go.RowKit

/-- A store that is right. -/
def stB (s : St) : Bool := placeB s.at_ && wordB s.val
theorem stB_true {s : St} (h : stB s = true) : placeB s.at_ = true ∧ wordB s.val = true := by unfold stB at h; simpa using h
theorem stB_false {s : St} {p : Prop} (h : stB s = false) (h1 : placeB s.at_ = false → p) (h2 : wordB s.val = false → p) : p := by
  unfold stB at h
  rw [Bool.and_eq_false_iff] at h
  exact h.elim h1 h2
/-- All stores are right. -/
def stsB (ps : List St) : Bool := decide (∀ k (h : k < ps.length), stB ps[k] = true)
theorem stsB_true {ps : List St} (h : stsB ps = true) : ∀ k (h : k < ps.length), stB ps[k] = true := of_decide_eq_true h
theorem stsB_mk {ps : List St} (h : ∀ k (h : k < ps.length), stB ps[k] = true) : stsB ps = true := decide_eq_true h
theorem stsB_not {ps : List St} {k : Nat} (hk : k < ps.length) (h : stB ps[k] = false) : stsB ps = false := decide_eq_false (fun x => by have := x k hk; rw [h] at this; cases this)
theorem stsB_ex {ps : List St} (h : stsB ps = false) : ∃ k, ∃ h : k < ps.length, stB ps[k] = false := by
  apply Classical.byContradiction
  intro hn
  have : stsB ps = true := stsB_mk (fun k hk => by
    cases e : stB ps[k] with
    | true => rfl
    | false => exact absurd ⟨k, hk, e⟩ hn)
  rw [h] at this
  cases this

end Go.Proofs.YtpgdpachomdfhaaDoor
