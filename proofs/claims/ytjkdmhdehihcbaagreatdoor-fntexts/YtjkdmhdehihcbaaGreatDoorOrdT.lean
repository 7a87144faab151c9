/- A region that draws its order and ends in a store into a cell that it reads: loads are taken first, what they read is kept up to that store. -/
import Derived.Test.YtjkdmhdehihcbaaGreatDoorMem
import Derived.OrdersHeld
namespace Go.Proofs.YtjkdmhdehihcbaaGreatDoor
open Go.RowKit
section
variable {P : Program} {ops : Array Oper} {Q : Exit → Act → World → Prop} {md : Region.Mode} {S : World → Prop} {z : Nat}
def wpAnyT (P : Program) (md : Region.Mode) (ops : Array Oper) (Q : Exit → Act → World → Prop) (S : World → Prop) (z : Nat) : Nat → Array Bool → Act → World → Prop
  | 0, l, a, w => Region.ready md ops l = [] ∧ Q .normal a w
  | fuel + 1, l, a, w => (Region.ready md ops l = [] → Q .normal a w) ∧
    ∀ i ∈ Region.ready md ops l, wpOp P ops Q i (fun a' w' => (i ≠ z → S w') ∧ wpAnyT P md ops Q S z fuel (l.setIfInBounds i true) a' w') a w
theorem wpAny_of_T : ∀ (fuel : Nat) (l : Array Bool) (a : Act) (w : World), wpAnyT P md ops Q S z fuel l a w → wpAny P md ops Q fuel l a w
  | 0, _, _, _, h => h
  | fuel + 1, _, _, _, h => ⟨h.1, fun i hi => wpOp_mono (fun a' w' h' => wpAny_of_T fuel _ a' w' h'.2) (h.2 i hi)⟩
def DCl (md : Region.Mode) (ops : Array Oper) (l : Array Bool) : Prop := ∀ j oj, ops[j]? = some oj → l.getD j false = true → ∀ e ∈ oj.after, Region.binds md e = true → l.getD e.on false = true
def dcB (md : Region.Mode) (ops : Array Oper) (l : Array Bool) : Bool := (List.range ops.size).all fun j => !(l.getD j false) || ((ops[j]?).map (fun o => o.after.toList.all fun e => !(Region.binds md e) || l.getD e.on false)).getD true
theorem DCl.of {l : Array Bool} (h : dcB md ops l = true) : DCl md ops l := fun j oj hj hl e he hb => by
  unfold dcB at h
  rw [List.all_eq_true] at h
  have hjs : j < ops.size := (Array.getElem?_eq_some_iff.1 hj).1
  have q := h j (List.mem_range.2 hjs)
  rw [hl, hj] at q
  simp only [Bool.not_true, Bool.false_or, Option.map_some, Option.getD_some] at q
  rw [List.all_eq_true] at q
  have r := q e (Array.mem_toList_iff.2 he)
  rw [hb] at r
  simpa using r
theorem getD_keep {l : Array Bool} {j k : Nat} (h : l.getD k false = true) : (l.setIfInBounds j true).getD k false = true := by
  have hk : k < l.size := by
    rcases Nat.lt_or_ge k l.size with q | q
    · exact q
    · rw [Array.getD_eq_getD_getElem?, Array.getElem?_eq_none q] at h; cases h
  rw [Array.getD_eq_getD_getElem?] at h ⊢
  rw [Array.getElem?_setIfInBounds]
  by_cases e : j = k
  · subst e; simp [hk]
  · simp only [e, if_false]; exact h
theorem DCl.set {l : Array Bool} (h : DCl md ops l) {j : Nat} (hj : j ∈ Region.ready md ops l) : DCl md ops (l.setIfInBounds j true) := fun k ok hk hl e he hb => by
  obtain ⟨-, oj, hoj, hall⟩ := mem_ready.1 hj
  by_cases ek : k = j
  · subst ek
    obtain rfl := Option.some.inj (hoj.symm.trans hk)
    exact getD_keep (by simpa using hall e he hb)
  · rw [getD_set_ne false (Ne.symm ek)] at hl
    exact getD_keep (h k ok hk hl e he hb)
def pathB (md : Region.Mode) (ops : Array Oper) : Nat → List Nat → Bool
  | _, [] => true
  | i, k :: ks => ((ops[i]?).map (fun o => o.after.toList.any fun e => Region.binds md e && decide (e.on = k))).getD false && pathB md ops k ks
theorem edge_of {i k : Nat} (h : ((ops[i]?).map (fun o => o.after.toList.any fun e => Region.binds md e && decide (e.on = k))).getD false = true) : ∃ o, ops[i]? = some o ∧ ∃ e ∈ o.after, Region.binds md e = true ∧ e.on = k := by
  cases ho : ops[i]? with
  | none => rw [ho] at h; cases h
  | some o =>
    rw [ho] at h
    simp only [Option.map_some, Option.getD_some, List.any_eq_true, Bool.and_eq_true, decide_eq_true_eq] at h
    obtain ⟨e, he, hb, hk⟩ := h
    exact ⟨o, rfl, e, Array.mem_toList_iff.1 he, hb, hk⟩
theorem path_listed {l : Array Bool} (h : DCl md ops l) : ∀ (i : Nat) (ks : List Nat), pathB md ops i ks = true → l.getD i false = true → ∀ k ∈ ks, l.getD k false = true
  | _, [], _, _ => fun k hk => by cases hk
  | i, k :: ks, hp, hl => fun j hj => by
    unfold pathB at hp
    rw [Bool.and_eq_true] at hp
    obtain ⟨o, ho, e, he, hb, ek⟩ := edge_of hp.1
    have q := h i o ho hl e he hb
    rw [ek] at q
    rcases List.mem_cons.1 hj with rfl | hj
    · exact q
    · exact path_listed h k ks hp.2 q j hj
theorem path_ready {l : Array Bool} (h : DCl md ops l) {i : Nat} {ks : List Nat} (hp : pathB md ops z ks = true) (hm : i ∈ ks) (hr : z ∈ Region.ready md ops l) : l.getD i false = true := by
  cases ks with
  | nil => cases hm
  | cons k ks =>
    unfold pathB at hp
    rw [Bool.and_eq_true] at hp
    obtain ⟨o, ho, e, he, hb, ek⟩ := edge_of hp.1
    obtain ⟨-, oz, hoz, hall⟩ := mem_ready.1 hr
    obtain rfl := Option.some.inj (hoz.symm.trans ho)
    have q : l.getD k false = true := by have := hall e he hb; rw [ek] at this; simpa using this
    rcases List.mem_cons.1 hm with rfl | hm
    · exact q
    · exact path_listed h k ks hp.2 q i hm
theorem wpAnyT_first {i : Nat} {oi : Oper} {v : Value} (hi : ops[i]? = some oi) (hsel : ∀ (j : Nat) (o : Oper) cs b, ops[j]? = some o → o.op ≠ .select cs b)
    (hQ : ∀ c a w, Q (.panic c) (a.put oi.dst v) w → Q (.panic c) a w) {ks : List Nat} (hp : pathB md ops z ks = true) (hm : i ∈ ks) :
    ∀ (fuel : Nat) (listed : Array Bool) (a : Act) (w : World), DCl md ops listed →
      (∀ j oj, ops[j]? = some oj → j ≠ i → listed.getD j true = false → (∀ e ∈ oj.after, Region.binds md e = true → e.on ≠ i) → oi.apart ops oj = true) →
      i ∈ Region.ready md ops listed → YieldsIf P ops S oi v a → S w →
      wpAnyT P md ops Q S z fuel (listed.setIfInBounds i true) (a.put oi.dst v) w → wpAnyT P md ops Q S z (fuel + 1) listed a w := by
  intro fuel
  induction fuel with
  | zero =>
    intro listed a w _ _ hr hy hS H
    refine ⟨fun h => (by rw [h] at hr; cases hr), fun j hj => ?_⟩
    by_cases hji : j = i
    · subst hji; exact hy.wpOp hi hS ⟨fun _ => hS, H⟩
    · have := ready_mono hj hji
      rw [H.1] at this
      cases this
  | succ fuel ih =>
    intro listed a w hdc hfree hr hy hS H
    refine ⟨fun h => (by rw [h] at hr; cases hr), fun j hj => ?_⟩
    by_cases hji : j = i
    · subst hji; exact hy.wpOp hi hS ⟨fun _ => hS, H⟩
    · have h1 := H.2 j (ready_mono hj hji)
      obtain ⟨hjun, oj, hoj, hall⟩ := mem_ready.1 hj
      have h0 := (mem_ready.1 hr).1
      have unl : listed.getD i false = true → False := fun h1 => by
        rcases Nat.lt_or_ge i listed.size with h' | h'
        · simp [h'] at h0 h1; rw [h0] at h1; cases h1
        · simp [Array.getElem?_eq_none h'] at h1
      have hnot : ∀ e ∈ oj.after, Region.binds md e = true → e.on ≠ i := fun e he hb heq => by
        have h1 := hall e he hb
        rw [heq] at h1
        exact unl (by simpa using h1)
      have hjz : j ≠ z := fun e => unl (path_ready hdc hp hm (e ▸ hj))
      have h2 := wpOp_putIf hoj (hfree j oj hoj hji hjun hnot) (fun cs b => hsel i oi cs b hi) (fun cs b => hsel j oj cs b hoj) hQ hy h1
      have hfree' : ∀ k ok, ops[k]? = some ok → k ≠ i → (listed.setIfInBounds j true).getD k true = false →
          (∀ e ∈ ok.after, Region.binds md e = true → e.on ≠ i) → oi.apart ops ok = true := fun k ok hk hki hun hno => by
        refine hfree k ok hk hki ?_ hno
        by_cases hjk : j = k
        · subst hjk; exact hjun
        · rw [getD_set_ne true hjk] at hun; exact hun
      refine wpOp_mono (fun a' w' h3 => ⟨h3.2.1, ih (listed.setIfInBounds j true) a' w' (hdc.set hj) hfree' (ready_mono hr (Ne.symm hji)) h3.1 (h3.2.1 hjz) ?_⟩) h2
      rw [Array.setIfInBounds_comm _ _ hji]
      exact h3.2.2
theorem wpAnyT_take {i : Nat} {oi : Oper} {v : Value} {fuel : Nat} {listed : Array Bool} {a : Act} {w : World} (ks : List Nat) (hi : ops[i]? = some oi)
    (hc : (Region.noSelect ops && (Region.free md ops listed i && ((Region.ready md ops listed).contains i && (dcB md ops listed && (pathB md ops z ks && ks.contains i))))) = true)
    (hQ : ∀ c a w, Q (.panic c) (a.put oi.dst v) w → Q (.panic c) a w) (hS : S w) (hw : oi.guard = none) (hy : ∀ w, S w → (execOp a.eval oi).run P w = .ok (.value v) w)
    (h : wpAnyT P md ops Q S z fuel (listed.setIfInBounds i true) (a.put oi.dst v) w) : wpAnyT P md ops Q S z (fuel + 1) listed a w := by
  simp only [Bool.and_eq_true] at hc
  obtain ⟨hs, hf, hr, hd, hp, hk⟩ := hc
  exact wpAnyT_first hi (Region.noSelect_spec hs) hQ hp (by simpa using hk) fuel listed a w (DCl.of hd) (Region.free_spec hi hf) (by simpa using hr) (.inl ⟨by unfold Region.wanted; rw [hw], hy⟩) hS h
theorem wpAnyT_one {i : Nat} {o : Oper} {fuel : Nat} {l : Array Bool} {a : Act} {w : World} (ho : ops[i]? = some o) (hr : Region.ready md ops l = [i]) 
    (h : ∀ K' : Act → World → Prop, Hid (∀ a w, (i ≠ z → S w) → wpAnyT P md ops Q S z fuel (l.setIfInBounds i true) a w → K' a w) → if Region.wanted o (yielded ops a.tmps) = true then Oper.wp P o a w K' Q else K' (a.put o.dst undef) w) :
    wpAnyT P md ops Q S z (fuel + 1) l a w := by
  refine ⟨fun h0 => (by rw [hr] at h0; cases h0), fun j hj => ?_⟩
  rw [hr] at hj
  obtain rfl := List.mem_singleton.1 hj
  exact wpOp_step ho (fun K' hK => h K' (fun a w hS hW => hK a w ⟨hS, hW⟩))
theorem wpAnyT_done {l : Array Bool} {a : Act} {w : World} (hr : Region.ready md ops l = []) (h : Q .normal a w) : ∀ fuel, wpAnyT P md ops Q S z fuel l a w
  | 0 => ⟨hr, h⟩
  | _ + 1 => ⟨fun _ => h, by rw [hr]; simp⟩
theorem wp_region_T (z : Nat) (S : World → Prop) {id : Nat} {a : Act} {w : World} (hm : P.follows .mixedOrders = true) (hS : S w.drew)
    (h : S w.drew → wpAnyT P .any ops Q S z ops.size (Array.replicate ops.size false) a w.drew) : (Code.region id ops true).wp P Q a w :=
  wp_region_any hm (wpAny_of_T _ _ _ _ (h hS))
end
end Go.Proofs.YtjkdmhdehihcbaaGreatDoor
