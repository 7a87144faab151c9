/- The journal: its plans, what they do to a memory, and what a crash leaves of them: mathematics. -/
import Derived.Test.YtbjalmiheipjjaaDoorZAZ
namespace Go.Proofs.YtbjalmiheipjjaaDoor
def step1 (s : List Int × List St) (m : Mi) : List Int × List St :=
  if m.kind = 1 then (s.1, s.2 ++ [⟨m.at_, m.val, false⟩]) else if m.kind = 2 then (s.1, s.2.map (fl1 m.at_)) else if m.kind = 3 then (fenW s.1 s.2, fenP s.2) else s
def runM (s : List Int × List St) (l : List Mi) : List Int × List St := l.foldl step1 s
theorem runM_nil (s : List Int × List St) : runM s [] = s := rfl
theorem runM_cons (s : List Int × List St) (m : Mi) (l : List Mi) : runM s (m :: l) = runM (step1 s m) l := rfl
theorem runM_append (s : List Int × List St) (l l' : List Mi) : runM s (l ++ l') = runM (runM s l) l' := by simp [runM]
theorem step1_store (s : List Int × List St) (p : St) : step1 s (stM p) = (s.1, s.2 ++ [⟨p.at_, p.val, false⟩]) := if_pos rfl
theorem step1_flush (s : List Int × List St) (a : Int) : step1 s ⟨2, a, 0⟩ = (s.1, s.2.map (fl1 a)) := by
  unfold step1
  rw [if_neg (show ¬ (2 : Int) = 1 by decide), if_pos rfl]
theorem step1_fence (s : List Int × List St) : step1 s ⟨3, 0, 0⟩ = (fenW s.1 s.2, fenP s.2) := by
  unfold step1
  rw [if_neg (by decide), if_neg (by decide), if_pos rfl]
theorem nl_kind (ks : List Int) : ∀ i, ∀ m ∈ nl ks i, m = ⟨2, m.at_, 0⟩
  | 0, m, h => by cases h
  | i + 1, m, h => by
    rw [nl] at h
    split at h
    · exact nl_kind ks i m h
    · rcases List.mem_append.1 h with h | h
      · exact nl_kind ks i m h
      · rw [List.mem_singleton.1 h]
theorem nl_has (ks : List Int) : ∀ i k, k < i → ∃ m ∈ nl ks i, m.at_ / 8 = ks[k]?.getD 0 / 8
  | 0, k, h => absurd h (by omega)
  | i + 1, k, h => by
    rw [nl]
    by_cases e : k < i
    · obtain ⟨m, hm, e⟩ := nl_has ks i k e
      split
      · exact ⟨m, hm, e⟩
      · exact ⟨m, List.mem_append_left _ hm, e⟩
    · obtain rfl : k = i := by omega
      split
      · rename_i hk
        simp only [knownL, List.any_eq_true, List.mem_range, beq_iff_eq] at hk
        obtain ⟨j, hj, e⟩ := hk
        obtain ⟨m, hm, e2⟩ := nl_has ks k j hj
        exact ⟨m, hm, e2.trans e⟩
      · exact ⟨_, List.mem_append_right _ (List.mem_singleton.2 rfl), rfl⟩
theorem run_flushes : ∀ (l : List Mi) (s : List Int × List St), (∀ m ∈ l, m = ⟨2, m.at_, 0⟩) → ∃ g : St → St, runM s l = (s.1, s.2.map g) ∧ (∀ p, (g p).at_ = p.at_ ∧ (g p).val = p.val ∧ (p.fl = true → (g p).fl = true)) ∧ ∀ p, (∃ m ∈ l, m.at_ / 8 = p.at_ / 8) → (g p).fl = true
  | [], s, _ => ⟨id, by simp [runM], fun p => ⟨rfl, rfl, id⟩, fun p h => by obtain ⟨m, hm, _⟩ := h; cases hm⟩
  | m :: l, s, h => by
    have hm := h m (by simp)
    obtain ⟨g, e, h1, h2⟩ := run_flushes l (s.1, s.2.map (fl1 m.at_)) (fun x hx => h x (by simp [hx]))
    have hf : ∀ p : St, (fl1 m.at_ p).at_ = p.at_ ∧ (fl1 m.at_ p).val = p.val ∧ (p.fl = true → (fl1 m.at_ p).fl = true) := fun p => by
      unfold fl1
      split
      · exact ⟨rfl, rfl, fun _ => rfl⟩
      · exact ⟨rfl, rfl, id⟩
    refine ⟨fun p => g (fl1 m.at_ p), ?_, fun p => ?_, fun p hp => ?_⟩
    · rw [runM_cons, hm, step1_flush]
      show runM (s.1, s.2.map (fl1 m.at_)) l = _
      rw [e, List.map_map]
      rfl
    · have a := h1 (fl1 m.at_ p)
      have b := hf p
      exact ⟨a.1.trans b.1, a.2.1.trans b.2.1, fun x => a.2.2 (b.2.2 x)⟩
    · obtain ⟨x, hx, e2⟩ := hp
      rcases List.mem_cons.1 hx with rfl | hx
      · apply (h1 _).2.2
        unfold fl1
        rw [if_pos e2.symm]
      · apply h2
        exact ⟨x, hx, by rw [(hf p).1]; exact e2⟩
theorem fen_all : ∀ (ps : List St) (ws : List Int), (∀ p ∈ ps, p.fl = true) → fenW ws ps = layW ws ps ∧ fenP ps = []
  | [], _, _ => ⟨rfl, rfl⟩
  | p :: ps, ws, h => by
    have hp := h p (by simp)
    have ih := fen_all ps (ws.set p.at_.toNat p.val) (fun q hq => h q (by simp [hq]))
    refine ⟨?_, ?_⟩
    · show fenW (if p.fl then ws.set p.at_.toNat p.val else ws) ps = layW (ws.set p.at_.toNat p.val) ps
      rw [hp]
      exact ih.1
    · unfold fenP at ih ⊢
      rw [List.filter_cons, hp]
      exact ih.2
theorem layW_map (g : St → St) (hg : ∀ p, (g p).at_ = p.at_ ∧ (g p).val = p.val) : ∀ (ps : List St) (ws : List Int), layW ws (ps.map g) = layW ws ps
  | [], _ => rfl
  | p :: ps, ws => by
    show layW (ws.set (g p).at_.toNat (g p).val) (ps.map g) = layW (ws.set p.at_.toNat p.val) ps
    rw [(hg p).1, (hg p).2]
    exact layW_map g hg ps _
theorem run_stores : ∀ (S : List St) (s : List Int × List St), runM s (S.map stM) = (s.1, s.2 ++ S.map (fun p => (⟨p.at_, p.val, false⟩ : St)))
  | [], s => by simp [runM]
  | p :: S, s => by
    rw [List.map_cons, runM_cons, step1_store, run_stores S]
    simp
theorem seg_run (S : List St) (ws : List Int) : runM (ws, []) (seg S) = (layW ws S, []) := by
  have e0 : runM (ws, []) (S.map stM) = (ws, S.map (fun p => (⟨p.at_, p.val, false⟩ : St))) := by rw [run_stores]; simp
  unfold seg flushL
  rw [runM_append, e0, runM_append]
  obtain ⟨g, e, h1, h2⟩ := run_flushes (nl (S.map (·.at_)) (S.map (·.at_)).length) (ws, S.map (fun p => (⟨p.at_, p.val, false⟩ : St))) (nl_kind _ _)
  rw [e, runM_cons, runM_nil, step1_fence]
  have hall : ∀ p ∈ (S.map (fun p => (⟨p.at_, p.val, false⟩ : St))).map g, p.fl = true := by
    intro p hp
    rw [List.map_map, List.mem_map] at hp
    obtain ⟨q, hq, rfl⟩ := hp
    apply h2
    obtain ⟨i, hi, rfl⟩ := List.getElem_of_mem hq
    obtain ⟨m, hm, e2⟩ := nl_has (S.map (·.at_)) (S.map (·.at_)).length i (by simpa using hi)
    refine ⟨m, hm, ?_⟩
    rw [e2]
    simp [hi]
  have f := fen_all _ ws hall
  show (fenW ws ((S.map (fun p => (⟨p.at_, p.val, false⟩ : St))).map g), fenP _) = _
  rw [f.1, f.2, List.map_map, layW_map (g ∘ fun p => (⟨p.at_, p.val, false⟩ : St)) (fun p => ⟨(h1 _).1, (h1 _).2.1⟩)]
def Mid (ws : List Int) (S : List St) (s : List Int × List St) : Prop := s.1 = ws ∧ ∀ p ∈ s.2, ∃ q ∈ S, p.at_ = q.at_ ∧ p.val = q.val
theorem Mid.start (ws : List Int) (S : List St) : Mid ws S (ws, []) := ⟨rfl, fun p hp => by cases hp⟩
theorem Mid.store {ws : List Int} {S : List St} {s : List Int × List St} (h : Mid ws S s) {q : St} (hq : q ∈ S) : Mid ws S (step1 s (stM q)) := by
  rw [step1_store]
  refine ⟨h.1, fun p hp => ?_⟩
  rcases List.mem_append.1 hp with hp | hp
  · exact h.2 p hp
  · rw [List.mem_singleton.1 hp]; exact ⟨q, hq, rfl, rfl⟩
theorem Mid.flush {ws : List Int} {S : List St} {s : List Int × List St} (h : Mid ws S s) (a : Int) : Mid ws S (step1 s ⟨2, a, 0⟩) := by
  rw [step1_flush]
  refine ⟨h.1, fun p hp => ?_⟩
  obtain ⟨q, hq, rfl⟩ := List.mem_map.1 hp
  obtain ⟨x, hx, e1, e2⟩ := h.2 q hq
  refine ⟨x, hx, ?_, ?_⟩
  · unfold fl1; split <;> exact e1
  · unfold fl1; split <;> exact e2
theorem mid_run {ws : List Int} {S : List St} : ∀ (l : List Mi) (s : List Int × List St), Mid ws S s → (∀ m ∈ l, (∃ q ∈ S, m = stM q) ∨ m = ⟨2, m.at_, 0⟩) → Mid ws S (runM s l)
  | [], _, h, _ => h
  | m :: l, s, h, hl => by
    rw [runM_cons]
    refine mid_run l _ ?_ (fun x hx => hl x (by simp [hx]))
    rcases hl m (by simp) with ⟨q, hq, rfl⟩ | e
    · exact h.store hq
    · rw [e]; exact h.flush _
theorem seg_prefix (S : List St) (ws : List Int) (m : Nat) : (m < (seg S).length → Mid ws S (runM (ws, []) ((seg S).take m))) ∧ ((seg S).length ≤ m → runM (ws, []) ((seg S).take m) = (layW ws S, [])) := by
  refine ⟨fun hm => ?_, fun hm => by rw [List.take_of_length_le hm, seg_run]⟩
  have hlen : (seg S).length = (S.map stM ++ nl (S.map (·.at_)) (S.map (·.at_)).length).length + 1 := by
    unfold seg flushL; simp; omega
  have e : (seg S).take m = (S.map stM ++ nl (S.map (·.at_)) (S.map (·.at_)).length).take m := by
    unfold seg flushL
    rw [← List.append_assoc, List.take_append_of_le_length (by omega)]
  rw [e]
  refine mid_run _ _ (Mid.start ws S) (fun x hx => ?_)
  rcases List.mem_append.1 (List.mem_of_mem_take hx) with h | h
  · obtain ⟨q, hq, rfl⟩ := List.mem_map.1 h
    exact .inl ⟨q, hq, rfl⟩
  · exact .inr (nl_kind _ _ x h)
def Left (s : List Int × List St) (X : List Int) : Prop := X.length = s.1.length ∧ ∀ a, a < s.1.length → X[a]?.getD 0 = s.1[a]?.getD 0 ∨ ∃ p ∈ s.2, p.at_ = (a : Int) ∧ X[a]?.getD 0 = p.val
theorem left_crW (ws : List Int) (ps : List St) (zs : List Int) : Left (ws, ps) (crW ws ps zs) :=
  ⟨crW_len, fun a ha => by
    obtain ⟨m, e⟩ := crW_at (ps := ps) (zs := zs) ha
    rw [e]
    rcases keptS_of ps (ws[a]?.getD 0, m) with h | ⟨p, hp, h1, h2⟩
    · exact .inl h
    · exact .inr ⟨p, hp, h1, h2⟩⟩
theorem left_mid {ws : List Int} {S : List St} {s : List Int × List St} {X : List Int} (h : Left s X) (hm : Mid ws S s) (a : Nat) (ha : a < ws.length) : X[a]?.getD 0 = ws[a]?.getD 0 ∨ ∃ q ∈ S, q.at_ = (a : Int) ∧ X[a]?.getD 0 = q.val := by
  have hl : s.1 = ws := hm.1
  rcases h.2 a (by rw [hl]; exact ha) with e | ⟨p, hp, e1, e2⟩
  · left; rw [e, hl]
  · obtain ⟨q, hq, f1, f2⟩ := hm.2 p hp
    right; exact ⟨q, hq, f1 ▸ e1, e2.trans f2⟩
theorem left_sure {ws X : List Int} (h : Left (ws, []) X) : X = ws :=
  same_of_getD h.1 (fun a ha => by
    rcases h.2 a (by have := h.1; omega) with e | ⟨p, hp, _⟩
    · exact e
    · cases hp)
theorem layW_getD (ws : List Int) (S : List St) (hS : ∀ p ∈ S, 0 ≤ p.at_) (a : Nat) (ha : a < ws.length) : (layW ws S)[a]?.getD 0 = lastW (a : Int) (ws[a]?.getD 0) S := by
  have hl : a < (layW ws S).length := by rw [layW_len]; exact ha
  rw [List.getElem?_eq_getElem hl, List.getElem?_eq_getElem ha]
  exact layW_at S ws a ha hS hl
theorem layW_away (ws : List Int) (S : List St) (hS : ∀ p ∈ S, 0 ≤ p.at_) (a : Nat) (ha : a < ws.length) (h : ∀ p ∈ S, ¬ p.at_ = (a : Int)) : (layW ws S)[a]?.getD 0 = ws[a]?.getD 0 := by
  rw [layW_getD ws S hS a ha, lastW_none h]
theorem lastW_any {a d d' : Int} : ∀ {S : List St}, (∃ p ∈ S, p.at_ = a) → lastW a d S = lastW a d' S
  | [], h => by obtain ⟨p, hp, _⟩ := h; cases hp
  | p :: S, h => by
    show lastW a (if p.at_ = a then p.val else d) S = lastW a (if p.at_ = a then p.val else d') S
    by_cases c : p.at_ = a
    · rw [if_pos c, if_pos c]
    · rw [if_neg c, if_neg c]
      obtain ⟨q, hq, e⟩ := h
      rcases List.mem_cons.1 hq with rfl | hq
      · exact absurd e c
      · exact lastW_any ⟨q, hq, e⟩
structure UpsOK (us : List St) : Prop where
  few : us.length ≤ 16
  at_ : ∀ p ∈ us, 48 ≤ p.at_ ∧ p.at_ < 336
  val : ∀ p ∈ us, 0 ≤ p.val ∧ p.val < 1099511627776
theorem jrn_at : ∀ (us : List St) (i : Nat), ∀ p ∈ jrn i us, 9 + 2 * (i : Int) ≤ p.at_ ∧ p.at_ < 9 + 2 * ((i + us.length : Nat) : Int)
  | [], _, p, h => by cases h
  | u :: us, i, p, h => by
    rw [jrn] at h
    simp only [List.length_cons]
    rcases List.mem_cons.1 h with rfl | h
    · exact ⟨Int.le_refl _, by show 9 + 2 * (i : Int) < _; omega⟩
    · rcases List.mem_cons.1 h with rfl | h
      · exact ⟨by show _ ≤ 9 + 2 * (i : Int) + 1; omega, by show 9 + 2 * (i : Int) + 1 < _; omega⟩
      · have := jrn_at us (i + 1) p h
        omega
def JrnIs (X : List Int) (us : List St) : Prop := ∀ i (h : i < us.length), X[9 + 2 * i]?.getD 0 = us[i].at_ ∧ X[9 + 2 * i + 1]?.getD 0 = us[i].val
theorem jrn_last : ∀ (us : List St) (i k : Nat) (d : Int) (hk : k < us.length), lastW (9 + 2 * ((i + k : Nat) : Int)) d (jrn i us) = us[k].at_ ∧ lastW (9 + 2 * ((i + k : Nat) : Int) + 1) d (jrn i us) = us[k].val
  | [], _, _, _, hk => absurd hk (by simp)
  | u :: us, i, 0, d, _ => by
    have hfar : ∀ p ∈ jrn (i + 1) us, ¬ p.at_ = 9 + 2 * ((i + 0 : Nat) : Int) ∧ ¬ p.at_ = 9 + 2 * ((i + 0 : Nat) : Int) + 1 := fun p hp => by
      have := jrn_at us (i + 1) p hp
      omega
    rw [jrn]
    refine ⟨?_, ?_⟩
    · show lastW _ (if (9 + 2 * (i : Int)) + 1 = _ then u.val else if 9 + 2 * (i : Int) = _ then u.at_ else d) (jrn (i + 1) us) = u.at_
      rw [lastW_none (fun p hp => (hfar p hp).1), if_neg (by omega), if_pos (by omega)]
    · show lastW _ (if (9 + 2 * (i : Int)) + 1 = _ then u.val else if 9 + 2 * (i : Int) = _ then u.at_ else d) (jrn (i + 1) us) = u.val
      rw [lastW_none (fun p hp => (hfar p hp).2), if_pos (by omega)]
  | u :: us, i, k + 1, d, hk => by
    have ih := jrn_last us (i + 1) k (if (9 + 2 * (i : Int)) + 1 = 9 + 2 * ((i + (k + 1) : Nat) : Int) then u.val else if 9 + 2 * (i : Int) = 9 + 2 * ((i + (k + 1) : Nat) : Int) then u.at_ else d) (by simpa using hk)
    have ih2 := jrn_last us (i + 1) k (if (9 + 2 * (i : Int)) + 1 = 9 + 2 * ((i + (k + 1) : Nat) : Int) + 1 then u.val else if 9 + 2 * (i : Int) = 9 + 2 * ((i + (k + 1) : Nat) : Int) + 1 then u.at_ else d) (by simpa using hk)
    have e : i + 1 + k = i + (k + 1) := by omega
    rw [e] at ih ih2
    exact ⟨ih.1, ih2.2⟩
def Zero (X : List Int) : Prop := X[8]?.getD 0 = 0 ∧ ∀ a, 48 ≤ a → a < 336 → X[a]?.getD 0 = 0
def due (us : List St) (a : Nat) : Int := lastW (a : Int) 0 us
def Done (us : List St) (X : List Int) : Prop := X[8]?.getD 0 = 0 ∧ ∀ a, 48 ≤ a → a < 336 → X[a]?.getD 0 = due us a
def Wait (us : List St) (X : List Int) : Prop := X[8]?.getD 0 = (us.length : Int) ∧ JrnIs X us ∧ ∀ a : Nat, 48 ≤ a → a < 336 → (∀ p ∈ us, ¬ p.at_ = (a : Int)) → X[a]?.getD 0 = 0
theorem up_pos {us : List St} (h : UpsOK us) : ∀ p ∈ us, 0 ≤ p.at_ := fun p hp => by have := h.at_ p hp; omega
theorem cnt_pos (n : Int) : ∀ p ∈ cnt n, 0 ≤ p.at_ := fun p hp => by rw [List.mem_singleton.1 hp]; show (0 : Int) ≤ 8; omega
theorem jrn_pos (us : List St) (i : Nat) : ∀ p ∈ jrn i us, 0 ≤ p.at_ := fun p hp => by have := jrn_at us i p hp; omega
theorem apply_run {us : List St} (h : UpsOK us) {X : List Int} (hl : X.length = 336) (hw : Wait us X) : ∃ F, runM (X, []) (applyL us) = (F, []) ∧ F.length = 336 ∧ Done us F := by
  have e : runM (X, []) (applyL us) = (layW (layW X us) (cnt 0), []) := by unfold applyL; rw [runM_append, seg_run, seg_run]
  have l1 : (layW X us).length = 336 := (layW_len X us).trans hl
  refine ⟨_, e, (layW_len _ _).trans l1, ?_, fun a h1 h2 => ?_⟩
  · rw [layW_getD _ _ (cnt_pos 0) 8 (by omega)]
    rfl
  · rw [layW_away _ _ (cnt_pos 0) a (by omega) (fun p hp => by rw [List.mem_singleton.1 hp]; show ¬ (8 : Int) = _; omega), layW_getD _ _ (up_pos h) a (by omega)]
    unfold due
    by_cases c : ∃ p ∈ us, p.at_ = (a : Int)
    · exact lastW_any c
    · have c' : ∀ p ∈ us, ¬ p.at_ = (a : Int) := fun p hp x => c ⟨p, hp, x⟩
      rw [lastW_none c', lastW_none c']
      exact hw.2.2 a h1 h2 c'
theorem apply_left {us : List St} (h : UpsOK us) {W : List Int} (hl : W.length = 336) (hw : Wait us W) (m : Nat) {X : List Int} (hX : Left (runM (W, []) ((applyL us).take m)) X) : X.length = 336 ∧ (Done us X ∨ Wait us X) := by
  unfold applyL at hX
  rw [List.take_append, runM_append] at hX
  by_cases c1 : m < (seg us).length
  · have hm := (seg_prefix us W m).1 c1
    rw [show m - (seg us).length = 0 by omega, List.take_zero, runM_nil] at hX
    have hlen : X.length = 336 := by rw [hX.1, hm.1]; exact hl
    refine ⟨hlen, .inr ⟨?_, fun i hi => ?_, fun a h1 h2 h3 => ?_⟩⟩
    · rcases left_mid hX hm 8 (by omega) with e | ⟨q, hq, e, _⟩
      · rw [e]; exact hw.1
      · have := h.at_ q hq; omega
    · have hf := h.few
      refine ⟨?_, ?_⟩
      · rcases left_mid hX hm (9 + 2 * i) (by omega) with e | ⟨q, hq, e, _⟩
        · rw [e]; exact (hw.2.1 i hi).1
        · have := h.at_ q hq; omega
      · rcases left_mid hX hm (9 + 2 * i + 1) (by omega) with e | ⟨q, hq, e, _⟩
        · rw [e]; exact (hw.2.1 i hi).2
        · have := h.at_ q hq; omega
    · rcases left_mid hX hm a (by omega) with e | ⟨q, hq, e, _⟩
      · rw [e]; exact hw.2.2 a h1 h2 h3
      · exact absurd e (h3 q hq)
  · have e1 := (seg_prefix us W m).2 (by omega)
    rw [e1] at hX
    have l1 : (layW W us).length = 336 := (layW_len W us).trans hl
    have hword : ∀ a, 48 ≤ a → a < 336 → (layW W us)[a]?.getD 0 = due us a := fun a h1 h2 => by
      rw [layW_getD _ _ (up_pos h) a (by omega)]
      unfold due
      by_cases c : ∃ p ∈ us, p.at_ = (a : Int)
      · exact lastW_any c
      · have c' : ∀ p ∈ us, ¬ p.at_ = (a : Int) := fun p hp x => c ⟨p, hp, x⟩
        rw [lastW_none c', lastW_none c']
        exact hw.2.2 a h1 h2 c'
    have hsame : ∀ a, a < 48 → (layW W us)[a]?.getD 0 = W[a]?.getD 0 := fun a ha => layW_away _ _ (up_pos h) a (by omega) (fun p hp x => by have := h.at_ p hp; omega)
    by_cases c2 : m - (seg us).length < (seg (cnt 0)).length
    · have hm := (seg_prefix (cnt 0) (layW W us) (m - (seg us).length)).1 c2
      have hlen : X.length = 336 := by rw [hX.1, hm.1]; exact l1
      have haway : ∀ a, a < 336 → a ≠ 8 → X[a]?.getD 0 = (layW W us)[a]?.getD 0 := fun a ha h8 => by
        rcases left_mid hX hm a (by omega) with e | ⟨q, hq, e, _⟩
        · exact e
        · rw [List.mem_singleton.1 hq] at e
          have : (8 : Int) = (a : Int) := e
          omega
      refine ⟨hlen, ?_⟩
      rcases left_mid hX hm 8 (by omega) with e | ⟨q, hq, _, e⟩
      · right
        refine ⟨by rw [e, hsame 8 (by omega)]; exact hw.1, fun i hi => ?_, fun a h1 h2 h3 => ?_⟩
        · have hf := h.few
          rw [haway _ (by omega) (by omega), haway _ (by omega) (by omega), hsame _ (by omega), hsame _ (by omega)]
          exact hw.2.1 i hi
        · rw [haway a h2 (by omega), hword a h1 h2]
          unfold due
          rw [lastW_none h3]
      · left
        refine ⟨by rw [e, List.mem_singleton.1 hq], fun a h1 h2 => ?_⟩
        rw [haway a h2 (by omega), hword a h1 h2]
    · rw [(seg_prefix (cnt 0) (layW W us) (m - (seg us).length)).2 (by omega)] at hX
      have e := left_sure hX
      subst e
      refine ⟨(layW_len _ _).trans l1, .inl ⟨?_, fun a h1 h2 => ?_⟩⟩
      · rw [layW_getD _ _ (cnt_pos 0) 8 (by omega)]
        rfl
      · rw [layW_away _ _ (cnt_pos 0) a (by omega) (fun p hp => by rw [List.mem_singleton.1 hp]; show ¬ (8 : Int) = _; omega), hword a h1 h2]
theorem plan_left {us : List St} (h : UpsOK us) {W : List Int} (hl : W.length = 336) (hW : ∀ a, a < 336 → W[a]?.getD 0 = 0) (m : Nat) {X : List Int} (hX : Left (runM (W, []) ((planL us).take m)) X) : X.length = 336 ∧ (Zero X ∨ Done us X ∨ (0 < us.length ∧ Wait us X)) := by
  unfold planL at hX
  by_cases c0 : us.length = 0
  · rw [if_pos c0, List.take_nil, runM_nil] at hX
    have e := left_sure hX
    subst e
    exact ⟨hl, .inl ⟨hW 8 (by omega), fun a _ h2 => hW a h2⟩⟩
  rw [if_neg c0, List.append_assoc, List.take_append, runM_append] at hX
  have hf := h.few
  have hj : ∀ p ∈ jrn 0 us, 9 ≤ p.at_ ∧ p.at_ < 48 := fun p hp => by have := jrn_at us 0 p hp; omega
  by_cases c1 : m < (seg (jrn 0 us)).length
  · have hm := (seg_prefix (jrn 0 us) W m).1 c1
    rw [show m - (seg (jrn 0 us)).length = 0 by omega, List.take_zero, runM_nil] at hX
    have hlen : X.length = 336 := by rw [hX.1, hm.1]; exact hl
    refine ⟨hlen, .inl ⟨?_, fun a h1 h2 => ?_⟩⟩
    · rcases left_mid hX hm 8 (by omega) with e | ⟨q, hq, e, _⟩
      · rw [e]; exact hW 8 (by omega)
      · have := hj q hq; omega
    · rcases left_mid hX hm a (by omega) with e | ⟨q, hq, e, _⟩
      · rw [e]; exact hW a h2
      · have := hj q hq; omega
  · rw [(seg_prefix (jrn 0 us) W m).2 (by omega), List.take_append, runM_append] at hX
    have l1 : (layW W (jrn 0 us)).length = 336 := (layW_len _ _).trans hl
    have z1 : ∀ a, a < 336 → a < 9 ∨ 48 ≤ a → (layW W (jrn 0 us))[a]?.getD 0 = 0 := fun a ha h2 => by
      rw [layW_away _ _ (jrn_pos us 0) a (by omega) (fun p hp x => by have := hj p hp; omega)]
      exact hW a ha
    have j1 : JrnIs (layW W (jrn 0 us)) us := fun i hi => by
      have e := jrn_last us 0 i 0 hi
      rw [Nat.zero_add] at e
      refine ⟨?_, ?_⟩
      · rw [layW_getD _ _ (jrn_pos us 0) _ (by omega), hW _ (by omega), ← e.1]
        congr 1
      · rw [layW_getD _ _ (jrn_pos us 0) _ (by omega), hW _ (by omega), ← e.2]
        congr 1
    by_cases c2 : m - (seg (jrn 0 us)).length < (seg (cnt (us.length : Int))).length
    · have hm := (seg_prefix (cnt (us.length : Int)) (layW W (jrn 0 us)) (m - (seg (jrn 0 us)).length)).1 c2
      rw [show m - (seg (jrn 0 us)).length - (seg (cnt (us.length : Int))).length = 0 by omega, List.take_zero, runM_nil] at hX
      have hlen : X.length = 336 := by rw [hX.1, hm.1]; exact l1
      have haway : ∀ a, a < 336 → a ≠ 8 → X[a]?.getD 0 = (layW W (jrn 0 us))[a]?.getD 0 := fun a ha h8 => by
        rcases left_mid hX hm a (by omega) with e | ⟨q, hq, e, _⟩
        · exact e
        · rw [List.mem_singleton.1 hq] at e
          have : (8 : Int) = (a : Int) := e
          omega
      refine ⟨hlen, ?_⟩
      rcases left_mid hX hm 8 (by omega) with e | ⟨q, hq, _, e⟩
      · left
        exact ⟨by rw [e]; exact z1 8 (by omega) (by omega), fun a h1 h2 => by rw [haway a h2 (by omega)]; exact z1 a h2 (by omega)⟩
      · right; right
        refine ⟨by omega, by rw [e, List.mem_singleton.1 hq], fun i hi => ?_, fun a h1 h2 _ => by rw [haway a h2 (by omega)]; exact z1 a h2 (by omega)⟩
        rw [haway _ (by omega) (by omega), haway _ (by omega) (by omega)]
        exact j1 i hi
    · rw [(seg_prefix (cnt (us.length : Int)) (layW W (jrn 0 us)) (m - (seg (jrn 0 us)).length)).2 (by omega)] at hX
      have l2 : (layW (layW W (jrn 0 us)) (cnt (us.length : Int))).length = 336 := (layW_len _ _).trans l1
      have haway : ∀ a, a < 336 → a ≠ 8 → (layW (layW W (jrn 0 us)) (cnt (us.length : Int)))[a]?.getD 0 = (layW W (jrn 0 us))[a]?.getD 0 := fun a ha h8 =>
        layW_away _ _ (cnt_pos _) a (by omega) (fun p hp => by rw [List.mem_singleton.1 hp]; show ¬ (8 : Int) = _; omega)
      have hw : Wait us (layW (layW W (jrn 0 us)) (cnt (us.length : Int))) := by
        refine ⟨?_, fun i hi => ?_, fun a h1 h2 _ => by rw [haway a h2 (by omega)]; exact z1 a h2 (by omega)⟩
        · rw [layW_getD _ _ (cnt_pos _) 8 (by omega)]
          rfl
        · rw [haway _ (by omega) (by omega), haway _ (by omega) (by omega)]
          exact j1 i hi
      have r := apply_left h l2 hw _ hX
      exact ⟨r.1, r.2.elim (fun d => .inr (.inl d)) (fun d => .inr (.inr ⟨by omega, d⟩))⟩
end Go.Proofs.YtbjalmiheipjjaaDoor
