/- Several texts laid together: PmLoad, Small, PmSeen, NmU, RdA. -/
import Derived.Test.YtpgdpachomdfhaaDoorZBQ
import Derived.Test.YtpgdpachomdfhaaDoorZAC
import Derived.Test.YtpgdpachomdfhaaDoorWt
import Derived.Test.YtpgdpachomdfhaaDoorImP
import Derived.Test.YtpgdpachomdfhaaDoorZAD
namespace Go.Proofs.YtpgdpachomdfhaaDoor
open Go.RowKit

/-- The code that the calls with a place ask first. -/
def askC (ws : List Int) (ps : List St) (at_ : Int) : Int := if pmB ws ps = false then 1 else if placeB at_ = false then 14 else 0
theorem askC_bad {ws : List Int} {ps : List St} {at_ : Int} (h : pmB ws ps = false) : askC ws ps at_ = 1 := by unfold askC; rw [if_pos h]
theorem askC_place {ws : List Int} {ps : List St} {at_ : Int} (h : pmB ws ps = true) (h2 : placeB at_ = false) : askC ws ps at_ = 14 := by unfold askC; rw [if_neg (by rw [h]; simp), if_pos h2]
theorem askC_ok {ws : List Int} {ps : List St} {at_ : Int} (h : pmB ws ps = true) (h2 : placeB at_ = true) : askC ws ps at_ = 0 := by unfold askC; rw [if_neg (by rw [h]; simp), if_neg (by rw [h2]; simp)]

/-- The last of some stores at a place, or what was there. -/
def lastW (at_ d : Int) (ps : List St) : Int := ps.foldl (fun acc p => if p.at_ = at_ then p.val else acc) d
theorem lastW_none {at_ d : Int} : ∀ {ps : List St}, (∀ p ∈ ps, ¬ p.at_ = at_) → lastW at_ d ps = d
  | [], _ => rfl
  | p :: ps, h => by
    show lastW at_ (if p.at_ = at_ then p.val else d) ps = d
    rw [if_neg (h p (by simp))]
    exact lastW_none (fun q hq => h q (by simp [hq]))
theorem lastW_append (at_ d : Int) (ps qs : List St) : lastW at_ d (ps ++ qs) = lastW at_ (lastW at_ d ps) qs := by simp [lastW]
theorem lastW_hit {at_ d : Int} {ps : List St} {k : Nat} (hk : k < ps.length) (h : ps[k].at_ = at_) (ha : ∀ j (hj : j < ps.length), k < j → ¬ ps[j].at_ = at_) : lastW at_ d ps = ps[k].val := by
  have e : ps = ps.take k ++ (ps[k] :: ps.drop (k + 1)) := by rw [← List.drop_eq_getElem_cons hk, List.take_append_drop]
  conv => lhs; rw [e]
  rw [lastW_append]
  show lastW at_ (if ps[k].at_ = at_ then ps[k].val else _) (ps.drop (k + 1)) = _
  rw [if_pos h]
  apply lastW_none
  intro p hp
  obtain ⟨i, hi, rfl⟩ := List.getElem_of_mem hp
  rw [List.getElem_drop]
  exact ha _ _ (by omega)

/-- What is loaded: 0 with a code. -/
def loadV (ws : List Int) (ps : List St) (at_ : Int) : Int := if askC ws ps at_ = 0 then lastW at_ (ws[at_.toNat]?.getD 0) ps else 0
theorem loadV_not {ws : List Int} {ps : List St} {at_ : Int} (h : ¬ askC ws ps at_ = 0) : loadV ws ps at_ = 0 := by unfold loadV; rw [if_neg h]
theorem loadV_ok {ws : List Int} {ps : List St} {k : Nat} (h : askC ws ps (k : Int) = 0) (hk : k < ws.length) : loadV ws ps (k : Int) = lastW (k : Int) ws[k] ps := by
  unfold loadV; rw [if_pos h]; simp [hk]
/-- Either a code, or a right memory and a place. -/
theorem askC_cases (ws : List Int) (ps : List St) (at_ : Int) : (askC ws ps at_ = 1 ∨ askC ws ps at_ = 14) ∨ (askC ws ps at_ = 0 ∧ pmB ws ps = true ∧ ∃ k : Nat, at_ = (k : Int) ∧ k < 336 ∧ k < ws.length) := by
  by_cases c1 : pmB ws ps = true
  · by_cases c2 : placeB at_ = true
    · have := placeB_true c2
      have hl := (pmB_len c1).1
      exact .inr ⟨askC_ok c1 c2, c1, at_.toNat, by omega, by omega, by omega⟩
    · exact .inl (.inr (askC_place c1 (by simpa using c2)))
  · exact .inl (.inl (askC_bad (by simpa using c1)))

end Go.Proofs.YtpgdpachomdfhaaDoor

namespace Go.Proofs.YtpgdpachomdfhaaDoor
open Go.RowKit

theorem sts_one (ps : List St) : ∀ u ∈ sts ps, u.oneCell' = true := by
  intro u hu
  simp only [sts, List.mem_flatMap, St.cells] at hu
  obtain ⟨s, _, hs⟩ := hu
  simp at hs
  rcases hs with rfl | rfl | rfl <;> rfl
theorem sts_snoc (ps : List St) (s : St) : sts (ps ++ [s]) = sts ps ++ s.cells := by simp [sts]
/-- The shape of a slice, its length as it is wanted. -/
theorem RdS.form {w : World} {v : Value} {ps : List St} (h : RdS w v ps) {n : Nat} (hn : ps.length = n) : ∃ ao cap, v = .slice ao n cap := by
  obtain ⟨ao, cap, e, _⟩ := h.shape
  exact ⟨ao, cap, by rw [← hn]; exact e⟩
theorem pmB_at {ws : List Int} {ps : List St} (h : pmB ws ps = true) : ∀ j (hj : j < ps.length), 0 ≤ ps[j].at_ ∧ ps[j].at_ < 336 := fun j hj => placeB_true (pmB_store h j hj).1
theorem pmB_in {ws : List Int} {ps : List St} (h : pmB ws ps = true) : ∀ j (hj : j < ps.length), 0 ≤ ps[j].at_ ∧ ps[j].at_ < ws.length := fun j hj => by
  have h1 := pmB_at h j hj
  have h2 := (pmB_len h).1
  omega
theorem cells_one (p : St) : ∀ u ∈ St.cells p, u.oneCell' = true := by
  intro u hu
  simp [St.cells] at hu
  rcases hu with rfl | rfl | rfl <;> rfl
end Go.Proofs.YtpgdpachomdfhaaDoor

namespace Go.Proofs.YtpgdpachomdfhaaDoor
open Go.RowKit


/-- The words with the stores laid one after the other. -/
def layW (ws : List Int) (ps : List St) : List Int := ps.foldl (fun acc p => acc.set p.at_.toNat p.val) ws
theorem layW_snoc (ws : List Int) (ps : List St) (p : St) : layW ws (ps ++ [p]) = (layW ws ps).set p.at_.toNat p.val := by simp [layW]
theorem layW_len (ws : List Int) : ∀ ps : List St, (layW ws ps).length = ws.length := by
  intro ps
  unfold layW
  induction ps generalizing ws with
  | nil => rfl
  | cons p ps ih => rw [List.foldl_cons, ih]; simp
theorem layW_at : ∀ (ps : List St) (ws : List Int) (k : Nat) (hk : k < ws.length) (_ : ∀ p ∈ ps, 0 ≤ p.at_) (hk' : k < (layW ws ps).length), (layW ws ps)[k] = lastW (k : Int) ws[k] ps
  | [], ws, k, hk, _, _ => rfl
  | p :: ps, ws, k, hk, h0, hk' => by
    have hk2 : k < (ws.set p.at_.toNat p.val).length := by simpa using hk
    have := layW_at ps (ws.set p.at_.toNat p.val) k hk2 (fun q hq => h0 q (by simp [hq])) hk'
    show (layW (ws.set p.at_.toNat p.val) ps)[k] = lastW (k : Int) (if p.at_ = (k : Int) then p.val else ws[k]) ps
    rw [this, List.getElem_set]
    have hp := h0 p (by simp)
    by_cases e : p.at_ = (k : Int)
    · rw [if_pos (by omega), if_pos e]
    · rw [if_neg (by omega), if_neg e]

def seenC (ws : List Int) (ps : List St) : Int := if pmB ws ps = true then 0 else 1
def seenZ (ws : List Int) (ps : List St) : List Int := if pmB ws ps = true then layW ws ps else []
theorem seenZ_len (ws : List Int) (ps : List St) : (seenZ ws ps).length ≤ ws.length := by
  unfold seenZ
  split
  · rw [layW_len]; exact Nat.le_refl _
  · simp
theorem seen_not {ws : List Int} {ps : List St} (h : pmB ws ps = false) : seenC ws ps = 1 ∧ seenZ ws ps = [] := by
  unfold seenC seenZ
  rw [h]
  exact ⟨rfl, rfl⟩
theorem seen_ok {ws : List Int} {ps : List St} (h : pmB ws ps = true) : seenC ws ps = 0 ∧ seenZ ws ps = layW ws ps := by
  unfold seenC seenZ
  rw [h]
  exact ⟨rfl, rfl⟩

end Go.Proofs.YtpgdpachomdfhaaDoor

namespace Go.Proofs.YtpgdpachomdfhaaDoor
open Go.RowKit

/-- What the array holds when ds are read. -/
def arrD (ds : List Nat) (j : Nat) : Value := if j < 6 - ds.length then .int .u8 0 else .int .u8 (96 + ((ds[j - (6 - ds.length)]?.getD 0 : Nat) : Int))
theorem arrD_nil (j : Nat) (h : j < 6) : arrD [] j = .int .u8 0 := by unfold arrD; rw [if_pos (by simpa using h)]
theorem arrD_cons (d : Nat) (ds : List Nat) (h : ds.length < 6) (j : Nat) : (if j = 6 - ds.length - 1 then Value.int .u8 (96 + (d : Int)) else arrD ds j) = arrD (d :: ds) j := by
  unfold arrD
  by_cases e : j = 6 - ds.length - 1
  · subst e
    rw [if_pos rfl, if_neg (by simp only [List.length_cons]; omega)]
    simp only [List.length_cons]
    rw [show 6 - ds.length - 1 - (6 - (ds.length + 1)) = 0 by omega]
    rfl
  · rw [if_neg e]
    simp only [List.length_cons]
    by_cases e2 : j < 6 - ds.length
    · rw [if_pos e2, if_pos (by omega)]
    · rw [if_neg e2, if_neg (by omega), show j - (6 - (ds.length + 1)) = (j - (6 - ds.length)) + 1 by omega]
      rfl
theorem strOf_digs (ds : List Nat) : strOfNums (ds.map fun d => (96 : Int) + (d : Nat)) = bytesOf ds := by
  unfold strOfNums bytesOf
  rw [List.map_map]
  congr 2

end Go.Proofs.YtpgdpachomdfhaaDoor

namespace Go.Proofs.YtpgdpachomdfhaaDoor
open Go.RowKit

/-- A word, by its place. -/
def wdI (ls : List Int) (z : Int) : Int := ls.getD z.toNat 0
theorem wdI_of {ls : List Int} {n : Nat} (h : n < ls.length) : wdI ls (n : Int) = ls[n] := by
  unfold wdI
  rw [Int.toNat_natCast, List.getD_eq_getElem?_getD, List.getElem?_eq_getElem h]; rfl
/-- An inode's words, an entry's. -/
def inoOf (ls : List Int) (i : Nat) : Ino := ⟨wdI ls (48 + 12 * (i : Int)), wdI ls (48 + 12 * (i : Int) + 1), wdI ls (48 + 12 * (i : Int) + 2), wdI ls (48 + 12 * (i : Int) + 3), wdI ls (48 + 12 * (i : Int) + 4), wdI ls (48 + 12 * (i : Int) + 5), wdI ls (48 + 12 * (i : Int) + 6), wdI ls (48 + 12 * (i : Int) + 7), wdI ls (48 + 12 * (i : Int) + 8), wdI ls (48 + 12 * (i : Int) + 9), wdI ls (48 + 12 * (i : Int) + 10)⟩
def denOf (ls : List Int) (k : Nat) : Den := if wdI ls (240 + 3 * (k : Int) + 2) = 0 then ⟨0, ⟨#[]⟩, -1⟩ else ⟨wdI ls (240 + 3 * (k : Int)), unpS (wdI ls (240 + 3 * (k : Int) + 1)), wdI ls (240 + 3 * (k : Int) + 2) - 1⟩
def denGood (ls : List Int) (k : Nat) : Bool := if wdI ls (240 + 3 * (k : Int) + 2) = 0 then wdI ls (240 + 3 * (k : Int)) == 0 && wdI ls (240 + 3 * (k : Int) + 1) == 0 else goodN (wdI ls (240 + 3 * (k : Int) + 1))
def inosOf (ls : List Int) (n : Nat) : List Ino := (List.range n).map (inoOf ls)
def densOf (ls : List Int) (n : Nat) : List Den := (List.range n).map (denOf ls)
def allGood (ls : List Int) (n : Nat) : Bool := (List.range n).all (denGood ls)
theorem inosOf_succ (ls : List Int) (n : Nat) : inosOf ls (n + 1) = inosOf ls n ++ [inoOf ls n] := by unfold inosOf; rw [List.range_succ, List.map_append]; rfl
theorem densOf_succ (ls : List Int) (n : Nat) : densOf ls (n + 1) = densOf ls n ++ [denOf ls n] := by unfold densOf; rw [List.range_succ, List.map_append]; rfl
theorem inosOf_len (ls : List Int) (n : Nat) : (inosOf ls n).length = n := by simp [inosOf]
theorem densOf_len (ls : List Int) (n : Nat) : (densOf ls n).length = n := by simp [densOf]
theorem allGood_no {ls : List Int} {n k : Nat} (hk : k < n) (h : denGood ls k = false) : allGood ls n = false := by
  unfold allGood
  rw [List.all_eq_false]
  exact ⟨k, List.mem_range.2 hk, by rw [h]; simp⟩
theorem allGood_yes {ls : List Int} {n : Nat} (h : ∀ k, k < n → denGood ls k = true) : allGood ls n = true := by
  unfold allGood
  rw [List.all_eq_true]
  intro k hk
  exact h k (List.mem_range.1 hk)
/-- The words say a right image. -/
def riB (ls : List Int) : Bool := wdI ls 0 == 7 && (allGood ls 24 && imgB (inosOf ls 16) (densOf ls 24))
def riC (ws : List Int) (ps : List St) : Int := if pmB ws ps = true then (if riB (layW ws ps) = true then 0 else 3) else 1
def riN (ws : List Int) (ps : List St) : List Ino := if riC ws ps = 0 then inosOf (layW ws ps) 16 else []
def riD (ws : List Int) (ps : List St) : List Den := if riC ws ps = 0 then densOf (layW ws ps) 24 else []
/-- The words of a right memory, as they are loaded. -/
theorem lay_word {ws : List Int} {ps : List St} (h : pmB ws ps = true) : ∀ k (h : k < (layW ws ps).length), wordB (layW ws ps)[k] = true := by
  have h1 := pmB_word h
  have h2 : ∀ p ∈ ps, wordB p.val = true := fun p hp => by
    obtain ⟨i, hi, rfl⟩ := List.getElem_of_mem hp
    exact (pmB_store h i hi).2
  clear h
  have gen : ∀ (ps : List St) (ws : List Int), (∀ x ∈ ws, wordB x = true) → (∀ p ∈ ps, wordB p.val = true) → ∀ x ∈ layW ws ps, wordB x = true := by
    intro ps
    induction ps with
    | nil => intro ws h _ x hx; exact h x hx
    | cons p ps ih =>
      intro ws h1 h2 x hx
      refine ih (ws.set p.at_.toNat p.val) (fun y hy => ?_) (fun q hq => h2 q (List.mem_cons_of_mem _ hq)) x hx
      rcases List.mem_or_eq_of_mem_set hy with hy | hy
      · exact h1 y hy
      · rw [hy]; exact h2 p (List.mem_cons_self ..)
  intro k hk
  exact gen ps ws (fun x hx => by obtain ⟨i, hi, rfl⟩ := List.getElem_of_mem hx; exact h1 i hi) h2 _ (List.getElem_mem hk)
theorem wdI_range {ws : List Int} {ps : List St} (h : pmB ws ps = true) (z : Int) : 0 ≤ wdI (layW ws ps) z ∧ wdI (layW ws ps) z < 1099511627776 := by
  unfold wdI
  rw [List.getD_eq_getElem?_getD]
  by_cases c : z.toNat < (layW ws ps).length
  · rw [List.getElem?_eq_getElem c]
    have := lay_word h _ c
    unfold wordB at this
    simp at this
    simpa using this
  · rw [List.getElem?_eq_none (by omega)]
    exact ⟨by simp, by simp⟩
theorem inoOf_R {ws : List Int} {ps : List St} (h : pmB ws ps = true) (i : Nat) : (inoOf (layW ws ps) i).R := by
  intro z hz
  have all : ∀ y, -9223372036854775808 ≤ wdI (layW ws ps) y ∧ wdI (layW ws ps) y ≤ 9223372036854775807 := fun y => by have := wdI_range h y; omega
  simp only [Ino.map, inoOf, List.mem_cons, List.not_mem_nil, or_false] at hz
  rcases hz with rfl | rfl | rfl | rfl | rfl | rfl | rfl | rfl <;> exact all _
theorem unpS_len (n : Int) : (unpS n).size ≤ 6 := by
  unfold unpS
  split
  · rename_i h
    have := (of_decide_eq_true h).2.2
    show ((digs n.toNat).map fun d => UInt8.ofNat (96 + d)).toArray.size ≤ 6
    simpa using this
  · exact Nat.zero_le _
theorem denOf_name (ls : List Int) (k : Nat) : (denOf ls k).name.size ≤ maxLen := by
  unfold denOf
  split
  · exact Nat.zero_le _
  · have := unpS_len (wdI ls (240 + 3 * (k : Int) + 1))
    show (unpS _).size ≤ maxLen
    unfold maxLen
    omega

end Go.Proofs.YtpgdpachomdfhaaDoor
