/- A memory, drawn. -/
import Derived.Test.YtbjcoeimcdodjaaDrawK
import Derived.Test.YtbjcoeimcdodjaaCrashI
import Derived.Test.YtbjcoeimcdodjaaPmFlush
import Derived.Test.YtbjcoeimcdodjaaPmFence
import Derived.Test.YtbjcoeimcdodjaaPmStore
import Derived.Test.YtbjcoeimcdodjaaPmOwn
import Derived.Deep.RegionWith
namespace Go.Proofs.Ytbjcoeimcdodjaa
open Go.RowKit
structure PmP (ws : List Int) (ps : List St) (n : Nat) : Prop where
  len : ws.length = 336
  few : ps.length ≤ n
  word : ∀ z ∈ ws, 0 ≤ z ∧ z < 1099511627776
  store : ∀ p ∈ ps, (0 ≤ p.at_ ∧ p.at_ < 336) ∧ 0 ≤ p.val ∧ p.val < 1099511627776
  ord : ps.Pairwise (fun p q => p.at_ = q.at_ → q.fl = true → p.fl = true)
theorem PmP.ok {ws : List Int} {ps : List St} {n : Nat} (h : PmP ws ps n) (hn : n ≤ 400) : pmB ws ps = true :=
  pmB_mk h.len (Nat.le_trans h.few hn) (fun _ hk => decide_eq_true (h.word _ (List.getElem_mem hk))) (fun _ hk => ⟨decide_eq_true (h.store _ (List.getElem_mem hk)).1, decide_eq_true (h.store _ (List.getElem_mem hk)).2⟩)
theorem PmP.at {ws : List Int} {ps : List St} {n : Nat} (h : PmP ws ps n) : ∀ j (hj : j < ps.length), 0 ≤ ps[j].at_ ∧ ps[j].at_ < 336 := fun _ hj => (h.store _ (List.getElem_mem hj)).1
theorem PmP.more {ws : List Int} {ps : List St} {n m : Nat} (h : PmP ws ps n) (hm : n ≤ m) : PmP ws ps m := ⟨h.len, Nat.le_trans h.few hm, h.word, h.store, h.ord⟩
theorem PmP.add {ws : List Int} {ps : List St} {n : Nat} (h : PmP ws ps n) {a x : Int} (h1 : 0 ≤ a ∧ a < 336) (h2 : 0 ≤ x ∧ x < 1099511627776) : PmP ws (ps ++ [⟨a, x, false⟩]) (n + 1) :=
  ⟨h.len, by have := h.few; simp; omega, h.word, fun p hp => by
    rcases List.mem_append.1 hp with e | e
    · exact h.store p e
    · simp at e; subst e; exact ⟨h1, h2⟩, by
    refine List.pairwise_append.2 ⟨h.ord, List.pairwise_singleton _ _, fun p _ q hq => ?_⟩
    simp at hq
    subst hq
    intro _ hf
    cases hf⟩
theorem PmP.flush {ws : List Int} {ps : List St} {n : Nat} (h : PmP ws ps n) (k : Int) : PmP ws (ps.map (fl1 k)) n :=
  ⟨h.len, by have := h.few; simpa using this, h.word, fun p hp => by
    obtain ⟨q, hq, rfl⟩ := List.mem_map.1 hp
    have := h.store q hq
    unfold fl1
    split <;> exact this, by
    refine List.pairwise_map.2 (h.ord.imp fun {p q} hpq he hf => ?_)
    unfold fl1 at he hf ⊢
    by_cases c1 : p.at_ / 8 = k / 8 <;> by_cases c2 : q.at_ / 8 = k / 8 <;> simp_all⟩
theorem fenW_mem : ∀ (ps : List St) (ws : List Int) (z : Int), z ∈ fenW ws ps → z ∈ ws ∨ ∃ p ∈ ps, z = p.val
  | [], _, _, h => .inl h
  | p :: ps, ws, z, h => by
    rcases fenW_mem ps (if p.fl then ws.set p.at_.toNat p.val else ws) z h with e | ⟨q, hq, e⟩
    · split at e
      · rcases List.mem_or_eq_of_mem_set e with e | e
        · exact .inl e
        · exact .inr ⟨p, by simp, e⟩
      · exact .inl e
    · exact .inr ⟨q, by simp [hq], e⟩
theorem PmP.fence {ws : List Int} {ps : List St} {n : Nat} (h : PmP ws ps n) : PmP (fenW ws ps) (fenP ps) n :=
  ⟨(fenW_len ws ps).trans h.len, Nat.le_trans (fenP_le ps) h.few, fun z hz => by
    rcases fenW_mem ps ws z hz with e | ⟨p, hp, rfl⟩
    · exact h.word z e
    · exact (h.store p hp).2, fun p hp => h.store p (List.mem_filter.1 hp).1, h.ord.filter _⟩
theorem PmP.zero : PmP (List.replicate 336 0) [] 0 :=
  ⟨List.length_replicate .., Nat.le_refl _, fun z hz => by obtain ⟨_, rfl⟩ := List.mem_replicate.1 hz; omega, fun p hp => by simp at hp, List.Pairwise.nil⟩
theorem RdPm.away {w w' : World} {b : Nat} {v : Value} {ws : List Int} {ps : List St} {cs : Array Value} {t : TypeId} {fr : Nat × Nat} (h : RdPm w v ws ps) (hl : ws.length = 336) (hb : w.heap[b]? = some (.cells cs t fr)) (hcs : ∀ o f, cs[o + 3]? = none ∧ ¬ cs[o + 2]? = some (.bool f)) (hz : w.heap.size ≤ w'.heap.size) (ho : ∀ j, j < w.heap.size → ¬ j = b → w'.heap[j]? = w.heap[j]?) : RdPm w' v ws ps := by
  obtain ⟨vW, vP, rfl, h1, h2⟩ := h
  refine ⟨vW, vP, rfl, h1.same hz (fun j hj he => ho j hj (fun e => ?_)), ?_⟩
  · subst e
    obtain ⟨_, ao, cap, rfl, _, hc⟩ := h1
    obtain ⟨b', o, rfl, _, hc⟩ := hc (by omega)
    simp only [Value.ownBlock, Option.some.injEq] at he
    subst he
    have := hc 3 (by omega)
    rw [ints_at ws 3 (by omega)] at this
    simp only [World.cell?, hb] at this
    have e := (hcs o true).1
    simp_all
  · by_cases hp : 0 < ps.length
    · refine h2.same hz (fun j hj he => ho j hj (fun e => ?_))
      subst e
      obtain ⟨_, ao, cap, rfl, _, hc⟩ := h2
      obtain ⟨b', o, rfl, _, hc⟩ := hc hp
      simp only [Value.ownBlock, Option.some.injEq] at he
      subst he
      have := hc 2 (by omega)
      rw [show (2 : Nat) = 0 * 3 + 2 by omega, sts_at2 ps 0 hp] at this
      simp only [World.cell?, hb] at this
      have e := (hcs o ps[0].fl).2
      simp_all
    · obtain ⟨h3, ao, cap, rfl, h4, _⟩ := h2
      exact ⟨h3, ao, cap, rfl, h4, fun h => absurd h hp⟩
theorem RdPm.source {w0 w w' : World} {b k : Nat} {vC v : Value} {bs ws : List Int} {ps : List St} (h : RdPm w v ws ps) (hl : ws.length = 336) (hs : Src w0 w b vC bs k) (ho : Outside b (b + 1) w w') : RdPm w' v ws ps := by
  obtain ⟨_, _, _, _, _, _, hb⟩ := hs.cells
  refine h.away hl hb (fun o f => ⟨by simp, ?_⟩) ho.size (fun j hj hne => ho.block j hj (by omega))
  match o with
  | 0 => simp
  | o + 1 => simp
theorem RdPm.boxed {w w' : World} {b : Nat} {v x y : Value} {ws : List Int} {ps : List St} {t : TypeId} {fr : Nat × Nat} (h : RdPm w v ws ps) (hl : ws.length = 336) (hb : w.heap[b]? = some (.cells #[x, y] t fr)) (hz : w.heap.size ≤ w'.heap.size) (ho : ∀ j, j < w.heap.size → ¬ j = b → w'.heap[j]? = w.heap[j]?) : RdPm w' v ws ps :=
  h.away hl hb (fun o f => ⟨by simp, by simp⟩) hz ho
def nought336 : Array Value := (List.replicate 336 (Value.int .i64 0)).toArray
theorem made336 : madeCells #[Value.int .i64 0] (336 * 1) = nought336 := by kernel_rfl
theorem nought336_at (k : Nat) (hk : k < 336) : nought336[k]? = some (.int .i64 0) := by unfold nought336; rw [List.getElem?_toArray, List.getElem?_replicate, if_pos hk]
theorem run_make336 (w : World) : (Instr.makeSlice 23 (.int .i64 336) (.int .i64 336)).run Try.prog w = .ok (.slice (some ⟨w.heap.size, 0, none⟩) 336 336) (w.alloc (.cells nought336 3)) := by
  rw [← made336]
  exact run_make_rows (P := Try.prog) 23 3 (.int .i64 0) 1 8 Try.underlying23 info3 .i64 .i64 336 (by decide) (by decide) w
theorem len336 : (List.replicate 336 (0 : Int)).length = 336 := List.length_replicate ..
theorem rd_nought {w : World} {b : Nat} (h : w.heap[b]? = some (.cells nought336 3 (0, 0))) : RdI w (.slice (some ⟨b, 0, none⟩) 336 336) (List.replicate 336 0) := by
  refine ⟨by rw [ints_len, Nat.mul_one], some ⟨b, 0, none⟩, 336, by rw [len336], ⟨Nat.le_of_eq len336, fun e => by cases e⟩, fun _ => ⟨b, 0, rfl, (Array.getElem?_eq_some_iff.1 h).1, fun j hj => ?_⟩⟩
  rw [len336, Nat.mul_one] at hj
  rw [ints_at _ j (by rw [len336]; exact hj), List.getElem_replicate]
  have e := nought336_at j hj
  generalize nought336 = A at h e
  simp [World.cell?, h, e]
theorem rd_none (w : World) (b : Nat) : RdS w (.slice (some ⟨b, 0, none⟩) 0 0) [] :=
  ⟨rfl, some ⟨b, 0, none⟩, 0, rfl, ⟨Nat.le_refl _, fun e => by cases e⟩, fun h => absurd h (by simp)⟩
structure PmInv (w0 w wr : World) (b : Nat) (vC : Value) (bs : List Int) (q : Nat) (ws : List Int) (ps : List St) (n : Nat) (vW vP : Value) : Prop where
  pm : PmP ws ps n
  rd : RdPm wr (.agg #[vW, vP]) ws ps
  box : wr.heap[w.heap.size + 1 + 1 + 1]? = some (.cells #[vW, vP] 26 (0, 0))
  res : wr.heap[w.heap.size]? = some (.cells #[.slice none 0 0, .slice none 0 0] 26 (0, 0))
  src : Src w0 wr b vC bs q
  out : Outside b (b + 1) w wr
  size : w.heap.size + 4 ≤ wr.heap.size
  old : b < w.heap.size
theorem PmInv.next {w0 w wr w' : World} {b : Nat} {vC : Value} {bs : List Int} {q q' : Nat} {ws : List Int} {ps : List St} {n : Nat} {vW vP : Value} (h : PmInv w0 w wr b vC bs q ws ps n vW vP) (hs : Src w0 w' b vC bs q') (ho : Outside b (b + 1) wr w') : PmInv w0 w w' b vC bs q' ws ps n vW vP := by
  have hz := h.size
  have ho' := h.old
  exact ⟨h.pm, h.rd.source h.pm.len h.src ho, (ho.block _ (by omega) (.inr (by omega))).trans h.box, (ho.block _ (by omega) (.inr (by omega))).trans h.res, hs, h.out.trans ho, Nat.le_trans hz ho.size, ho'⟩
theorem PmInv.drew {w0 w wr : World} {b : Nat} {vC : Value} {bs : List Int} {q : Nat} {ws : List Int} {ps : List St} {n : Nat} {vW vP : Value} (h : PmInv w0 w wr b vC bs q ws ps n vW vP) : PmInv w0 w wr.drew b vC bs q ws ps n vW vP :=
  h.next (h.src.outside (lo := b + 1) (hi := b + 1) ((Outside.refl _ _ wr).drewN 1) (.inl (by omega)) (by have := h.src.old; omega)) ((Outside.refl _ _ wr).drewN 1)
theorem PmInv.op {w0 w wr w' : World} {b : Nat} {vC : Value} {bs : List Int} {q : Nat} {ws ws' : List Int} {ps ps' : List St} {n n' : Nat} {vW vP vW' vP' : Value} (h : PmInv w0 w wr b vC bs q ws ps n vW vP) (hb : Below wr.heap.size wr w') (hr : RdPm w' (.agg #[vW', vP']) ws' ps') (hp : PmP ws' ps' n') :
    PmInv w0 w ((w'.setCell ⟨w.heap.size + 1 + 1 + 1, 0, none⟩ vW').setCell ⟨w.heap.size + 1 + 1 + 1, 1, none⟩ vP') b vC bs q ws' ps' n' vW' vP' := by
  have hz := h.size
  have ho := h.old
  have hs := hb.size
  have hB := (hb.block _ (by omega)).trans h.box
  have O : Outside (w.heap.size + 1 + 1 + 1) (w.heap.size + 1 + 1 + 1 + 1) wr ((w'.setCell ⟨w.heap.size + 1 + 1 + 1, 0, none⟩ vW').setCell ⟨w.heap.size + 1 + 1 + 1, 1, none⟩ vP') :=
    ((Outside.of_below hb).setCell (a := ⟨w.heap.size + 1 + 1 + 1, 0, none⟩) (Nat.le_refl _) (by simp) vW').setCell (a := ⟨w.heap.size + 1 + 1 + 1, 1, none⟩) (Nat.le_refl _) (by simp) vP'
  refine ⟨hp, hr.boxed hp.len hB (by simp [World.setCell]) (fun j _ hne => ?_), ?_, ?_, ?_, ?_, ?_, ho⟩
  · rw [Below.heap_setCell _ _ _ _ (by simp only; omega), Below.heap_setCell _ _ _ _ (by simp only; omega)]
  · simp [World.setCell, Array.getElem?_modify, hB]
  · exact (O.block _ (by omega) (.inl (by omega))).trans h.res
  · exact h.src.outside O (.inl (by omega)) (by have := h.src.old; omega)
  · exact ⟨O.os.trans h.out.os, O.tape.trans h.out.tape, O.output.trans h.out.output, Nat.le_trans h.out.size O.size, fun j hj hjo => (O.block j (by omega) (.inl (by omega))).trans (h.out.block j hj hjo)⟩
  · have := O.size; omega
theorem PmInv.some {w0 w wr : World} {b : Nat} {vC : Value} {bs : List Int} {q q' : Nat} {ws : List Int} {ps : List St} {n : Nat} {vW vP : Value} (h : PmInv w0 w wr b vC bs q ws ps n vW vP) (hq : q ≤ q') : PmInv w0 w wr b vC bs q' ws ps n vW vP :=
  ⟨h.pm, h.rd, h.box, h.res, h.src.more hq, h.out, h.size, h.old⟩
set_option maxRecDepth 100000 in
set_option maxHeartbeats 8000000 in
theorem srcPm_any (w0 w : World) (b k : Nat) (vC : Value) (bs : List Int) (h : Src w0 w b vC bs k) (hk : k ≤ 1000) :
    Calls Try.prog 29 #[.pointer (some ⟨b, 0, none⟩)] w fun e w' => ∃ v' ws ps, e = .returned v' ∧ PmP ws ps 29 ∧ RowPm w' w.heap.size w'.heap.size v' ws ps ∧ Outside b (b + 1) w w' := by
  have hsz := h.size
  have hb0 : Below w.heap.size w ((((w.alloc (.cells #[.slice none 0 0, .slice none 0 0] 26)).alloc (.cells nought336 3)).alloc (.cells #[] 45)).alloc (.cells #[.slice (some ⟨w.heap.size + 1, 0, none⟩) 336 336, .slice (some ⟨w.heap.size + 1 + 1, 0, none⟩) 0 0] 26)) := by
    repeat (refine Below.alloc ?_ (by simp <;> omega) _)
    exact Below.refl _ _
  have INV0 : Hid (PmInv w0 w ((((w.alloc (.cells #[.slice none 0 0, .slice none 0 0] 26)).alloc (.cells nought336 3)).alloc (.cells #[] 45)).alloc (.cells #[.slice (some ⟨w.heap.size + 1, 0, none⟩) 336 336, .slice (some ⟨w.heap.size + 1 + 1, 0, none⟩) 0 0] 26)) b vC bs k (List.replicate 336 0) [] 0 (.slice (some ⟨w.heap.size + 1, 0, none⟩) 336 336) (.slice (some ⟨w.heap.size + 1 + 1, 0, none⟩) 0 0)) :=
    ⟨PmP.zero, ⟨_, _, rfl, rd_nought (at_old (at_old (at_new (by simp)))), rd_none _ _⟩, at_new (by simp), at_old (at_old (at_old (at_new rfl))), h.newer hb0, Outside.of_below hb0, by simp, hsz⟩
  clear h hb0
  have hmk := run_make336
  go_enter Try.func29, Try.ntmps29
  go_wp2_with fail
  clear hmk
  refine (srcNext_any 30 (by omega) w0 _ b k vC bs INV0.out.src (by omega)).mono ?_
  rintro e w1 ⟨r, rfl, r0, r1, hs, ho, hz⟩
  have INV1 := hideIt (INV0.out.next hs ho)
  obtain ⟨n0, rfl⟩ : ∃ n : Nat, r = n := ⟨r.toNat, by omega⟩
  clear hs ho hz
  go_wp2
  go_loopw [4, 5] (fun i _ wr => ∃ (m n : Nat) (ws : List Int) (ps : List St) (vW vP : Value), i = .int .i64 m ∧ m + n = n0 ∧ Hid (PmInv w0 w wr b vC bs (k + 3 + 30 * n) ws ps n vW vP)) (fun i _ _ => (intOf i).toNat)
  case atStart => exact ⟨n0, 0, _, _, _, _, rfl, by omega, INV1⟩
  case round =>
    obtain ⟨m, n, ws, ps, vW, vP, rfl, hmn, I⟩ := hrel
    by_cases c : 0 < m
    · go_wp2_with fail
      refine (srcNext_any 20 (by omega) w0 _ b _ vC bs I.out.src (by omega)).mono ?_
      rintro e w2 ⟨a, rfl, a0, a1, hs, ho, hz⟩
      have I2 := hideIt (I.out.next hs ho)
      obtain ⟨at_, rfl⟩ : ∃ n : Nat, a = n := ⟨a.toNat, by omega⟩
      clear hs ho hz
      go_wp2_with fail
      refine (srcNext_any 6 (by omega) w0 _ b _ vC bs I2.out.src (by omega)).mono ?_
      rintro e w3 ⟨s, rfl, s0, s1, hs, ho, hz⟩
      have I3 := hideIt (I2.out.next hs ho)
      clear hs ho hz
      obtain ⟨y1, y2, y3, y4⟩ := two_cells I3.out.box
      have hl := I3.out.pm.len
      have hf := I3.out.pm.few
      rcases (show s = 0 ∨ s = 1 ∨ s = 2 ∨ 3 ≤ s by omega) with rfl | rfl | rfl | hs3
      · go_wp2_with fail
        refine (l01Fence_any _ ws ps _ I3.out.rd (by omega) (by omega) (fun j hj => by have := I3.out.pm.at j hj; omega)).mono ?_
        rintro e w4 ⟨v', rfl, hr, hb⟩
        obtain ⟨vW', vP', rfl, hI, hS⟩ := hr.rd
        obtain ⟨aW', cW', rfl⟩ := RdI.form hI rfl
        obtain ⟨aP', cP', rfl⟩ := RdS.form hS rfl
        have I4 := hideIt ((I3.out.op hb hr.rd (I3.out.pm.fence.more (Nat.le_succ n))).some (q' := k + 3 + 30 * (n + 1)) (by omega))
        obtain ⟨z1, z2, z3, z4⟩ := two_cells ((hb.block _ (by have := I3.out.size; omega)).trans I3.out.box)
        clear hr hb y1 y2 y3 y4 hI hS
        go_wp2
        go_roundw
        case rel => exact ⟨m - 1, n + 1, _, _, _, _, by go_num, by omega, I4⟩
        case measure => simp [intOf]; omega
      · go_wp2_with fail
        refine (l01Flush_any _ ws ps at_ _ I3.out.rd (by omega) (by omega) I3.out.pm.at).mono ?_
        rintro e w4 ⟨v', rfl, hr, hb⟩
        have hr' := hr
        obtain ⟨vW', vP', rfl, hI, hS⟩ := hr
        obtain ⟨aW', cW', rfl⟩ := RdI.form hI hl
        obtain ⟨aP', cP', rfl⟩ := RdS.form hS (n := ps.length) (by simp)
        have I4 := hideIt ((I3.out.op hb hr' ((I3.out.pm.flush (at_ : Int)).more (Nat.le_succ n))).some (q' := k + 3 + 30 * (n + 1)) (by omega))
        obtain ⟨z1, z2, z3, z4⟩ := two_cells ((hb.block _ (by have := I3.out.size; omega)).trans I3.out.box)
        clear hr' hb y1 y2 y3 y4 hI hS
        go_wp2
        go_roundw
        case rel => exact ⟨m - 1, n + 1, _, _, _, _, by go_num, by omega, I4⟩
        case measure => simp [intOf]; omega
      · go_wp2_with fail
        refine (l01Flush_any _ ws ps at_ _ I3.out.rd (by omega) (by omega) I3.out.pm.at).mono ?_
        rintro e w4 ⟨v', rfl, hr, hb⟩
        have hr' := hr
        obtain ⟨vW', vP', rfl, hI, hS⟩ := hr
        obtain ⟨aW', cW', rfl⟩ := RdI.form hI hl
        obtain ⟨aP', cP', rfl⟩ := RdS.form hS (n := ps.length) (by simp)
        have I4 := hideIt ((I3.out.op hb hr' ((I3.out.pm.flush (at_ : Int)).more (Nat.le_succ n))).some (q' := k + 3 + 30 * (n + 1)) (by omega))
        obtain ⟨z1, z2, z3, z4⟩ := two_cells ((hb.block _ (by have := I3.out.size; omega)).trans I3.out.box)
        clear hr' hb y1 y2 y3 y4 hI hS
        go_wp2
        go_roundw
        case rel => exact ⟨m - 1, n + 1, _, _, _, _, by go_num, by omega, I4⟩
        case measure => simp [intOf]; omega
      · go_upto_region 7 with fail
        have J := hideIt I3.out.drew
        have n0' : ¬ s = 0 := by omega
        go_region_with (first
          | (go_at_call 30; refine (srcWord_any w0 _ b _ vC bs (by first | exact I3.out.src | exact J.out.src) (by omega)).mono ?_; rintro e w4 ⟨x, rfl, x0, x1, hs, ho⟩; have I4 : Hid (PmInv w0 w w4 b vC bs _ ws ps n vW vP) := (by first | exact I3.out.next hs ho | exact J.out.next hs ho); obtain ⟨z1, z2, z3, z4⟩ := two_cells I4.out.box; clear hs ho)
          | (go_at_call 52; refine (l01Store_any _ ws ps _ x _ I4.out.rd (by omega)).mono ?_; rintro e w5 ⟨v', rfl, hr, hb⟩; have hr' := hr; obtain ⟨vW', vP', rfl, hI, hS⟩ := hr; obtain ⟨aW', cW', rfl⟩ := RdI.form hI hl; obtain ⟨aP', cP', rfl⟩ := RdS.form hS (n := ps.length + 1) (by simp); have I5 := hideIt ((I4.out.op hb hr' (I4.out.pm.add (a := (at_ : Int)) (x := x) ⟨by omega, by omega⟩ ⟨x0, x1⟩)).some (q' := k + 3 + 30 * (n + 1)) (by omega)); obtain ⟨t1, t2, t3, t4⟩ := two_cells ((hb.block _ (by have := I4.out.size; omega)).trans I4.out.box); clear hr' hb hI hS))
        all_goals
          go_wp2
          go_roundw
          case rel => exact ⟨m - 1, n + 1, _, _, _, _, by go_num, by omega, I5⟩
          case measure => simp [intOf]; omega
    · have e : m = 0 := by omega
      subst e
      obtain ⟨y1, y2, y3, y4⟩ := two_cells I.out.box
      have hl := I.out.pm.len
      have hf := I.out.pm.few
      have hsz2 := I.out.size
      go_wp2_with fail
      refine (l01Own_any _ ws ps _ I.out.rd (by omega) (by omega)).mono ?_
      rintro e w2 ⟨v', rfl, hr, hb⟩
      have hr' := hr
      obtain ⟨vW', vP', rfl, hI, hS⟩ := hr.rd
      obtain ⟨aW', cW', rfl⟩ := RdI.form hI hl
      obtain ⟨aP', cP', rfl⟩ := RdS.form hS rfl
      obtain ⟨z1, z2, z3, z4⟩ := two_cells ((hb.block _ (by omega)).trans I.out.res)
      have O2 := hideIt (Outside.of_below (lo := w.heap.size) (hi := w.heap.size + 1) hb)
      have HR := hideIt hr'
      have hz2 := hb.size
      clear hr hr' hb hI hS y1 y2 y3 y4
      go_wp2
      refine bodyPost_ret (v := .agg #[.slice aW' 336 cW', .slice aP' ps.length cP']) (by simp [results, Try.results29, go_sem, z1, z2]) rfl ?_
      have O3 := (O2.out.setCell (a := ⟨w.heap.size, 0, none⟩) (Nat.le_refl _) (by simp) (.slice aW' 336 cW')).setCell (a := ⟨w.heap.size, 1, none⟩) (Nat.le_refl _) (by simp) (.slice aP' ps.length cP')
      refine ⟨_, ws, ps, rfl, I.out.pm.more (by omega), ?_, ⟨O3.os.trans I.out.out.os, O3.tape.trans I.out.out.tape, O3.output.trans I.out.out.output, Nat.le_trans I.out.out.size O3.size, fun j hj hjo => (O3.block j (by omega) (.inl hj)).trans (I.out.out.block j hj hjo)⟩⟩
      exact ((HR.out.setCell (a := ⟨w.heap.size, 0, none⟩) (by simp only; omega) _).setCell (a := ⟨w.heap.size, 1, none⟩) (by simp only; omega) _).wide (by omega) (by simp [World.setCell])
end Go.Proofs.Ytbjcoeimcdodjaa
