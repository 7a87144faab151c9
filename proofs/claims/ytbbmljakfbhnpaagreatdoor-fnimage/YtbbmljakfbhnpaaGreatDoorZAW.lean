/- Several texts laid together: MicO, MiL, JiM, Draw, DrawK. -/
import Derived.Test.YtbbmljakfbhnpaaGreatDoorZAV
import Derived.Test.YtbbmljakfbhnpaaGreatDoorZAD
import Derived.Test.YtbbmljakfbhnpaaGreatDoorZAS
import Derived.Test.YtbbmljakfbhnpaaGreatDoorZAA
import Derived.BigRegion
import Derived.BigQuiet
import Derived.Deep.QuietTactic
namespace Go.Proofs.YtbbmljakfbhnpaaGreatDoor
open Go.RowKit

/-- The answer's box, filled. -/
def putR (w : World) (bR : Nat) (a b c d : Value) : World := (((w.setCell ⟨bR, 0, none⟩ a).setCell ⟨bR, 1, none⟩ b).setCell ⟨bR, 2, none⟩ c).setCell ⟨bR, 3, none⟩ d
theorem zhb (w : World) (bR : Nat) (a b c d : Value) : Outside bR (bR + 1) w (putR w bR a b c d) := by
 unfold putR
 repeat (refine Outside.setCell ?_ (by simp only; omega) (by simp only; omega) _)
 exact Outside.refl _ _ _
theorem znp (w : World) (bR : Nat) (a b c d : Value) : (putR w bR a b c d).heap.size = w.heap.size := by simp [putR, World.setCell]

set_option maxRecDepth 100000 in
set_option maxHeartbeats 8000000 in
theorem l04Own_any (v : Value) (ws : List Int) (ps : List St) (es : List Int) (qs : List Se) (w : World) (h : RdDev w v ws ps es qs) (hw : ws.length ≤ 1048576) (hp : ps.length ≤ 1048576) (he : es.length ≤ 1048576) (hq : qs.length ≤ 1048576) :
  Calls Tryz.prog 166 #[v] w fun e w' => ∃ v', e = .returned v' ∧ RowDev w' w.heap.size w'.heap.size v' ws ps es qs ∧ Below w.heap.size w w' := by
 obtain ⟨aW, cW, aP, cP, aS, cS, aQ, cQ, rfl, r1, r2⟩ := h.form
 have R1 := zaa r1
 have R2 := zaa r2
 clear h r1 r2
 have hb0 : Below w.heap.size w ((w.alloc (.cells #[.slice aW ws.length cW, .slice aP ps.length cP, .slice aS es.length cS, .slice aQ qs.length cQ] 36)).alloc (.cells #[.slice none 0 0, .slice none 0 0, .slice none 0 0, .slice none 0 0] 36)) := by
  repeat (refine Below.alloc ?_ (by simp <;> omega) _)
  exact Below.refl _ _
 go_enter Tryz.func166, Tryz.ntmps166
 go_upto_region 1 with fail
 obtain ⟨w0, hw0⟩ : ∃ w0 : World, w0 = (w.alloc (.cells #[.slice aW ws.length cW, .slice aP ps.length cP, .slice aS es.length cS, .slice aQ qs.length cQ] 36)).alloc (.cells #[.slice none 0 0, .slice none 0 0, .slice none 0 0, .slice none 0 0] 36) := ⟨_, rfl⟩
 rw [← hw0]
 rw [← hw0] at hb0
 have hz0 : w.heap.size + 2 ≤ w0.heap.size := by rw [hw0]; simp
 have V0 : Hid (w0.heap[w.heap.size]? = some (.cells #[.slice aW ws.length cW, .slice aP ps.length cP, .slice aS es.length cS, .slice aQ qs.length cQ] 36 (0, 0))) := by rw [hw0]; exact zaj (zag rfl)
 have V1 : Hid (w0.heap[w.heap.size + 1]? = some (.cells #[.slice none 0 0, .slice none 0 0, .slice none 0 0, .slice none 0 0] 36 (0, 0))) := by rw [hw0]; exact zag (by simp)
 clear hw0
 have B0 := zaa hb0
 clear hb0
 obtain ⟨x0, x1, x2, x3, -, -, -, -⟩ := zan V0.out
 obtain ⟨y0, y1, y2, y3, y4, y5, y6, y7⟩ := zan V1.out
 go_region_with (first
  | (go_at_call 193; refine (zpe _ ws ps _ (R1.out.below (by first | exact B0.out | exact B0.out.drew)) (by omega) (by omega)).mono ?_; rintro e w1 ⟨v1, rfl, hr1, hb1⟩; obtain ⟨aW1, cW1, aP1, cP1, rfl⟩ := hr1.form; have hz1 : w0.heap.size ≤ w1.heap.size := hb1.size; have B1 : Hid (Below w0.heap.size w0 w1) := (by first | exact hb1 | exact zab ((Below.refl _ _).drew) hb1 (Nat.le_refl _)); have Q1 : Hid (RowPm w1 w0.heap.size w1.heap.size (.agg #[.slice aW1 ws.length cW1, .slice aP1 ps.length cP1]) ws ps) := hr1; obtain ⟨z0, z1, z2, z3, -, -, -, -⟩ := zan ((B1.out.block w.heap.size (by omega)).trans V0.out); clear hr1 hb1)
  | (go_at_call 194; refine (zpr _ es qs _ (R2.out.below (by first | exact zab B0.out B1.out (by omega) | exact (zab B0.out B1.out (by omega)).drew)) (by omega) (by omega)).mono ?_; rintro e w2 ⟨v2, rfl, hr2, hb2⟩; obtain ⟨aS2, cS2, aQ2, cQ2, rfl⟩ := hr2.form; have hz2 : w1.heap.size ≤ w2.heap.size := hb2.size; have B2 : Hid (Below w1.heap.size w1 w2) := (by first | exact hb2 | exact zab ((Below.refl _ _).drew) hb2 (Nat.le_refl _)); have Q2 : Hid (RowBlk w2 w1.heap.size w2.heap.size (.agg #[.slice aS2 es.length cS2, .slice aQ2 qs.length cQ2]) es qs) := hr2; have VR := zaa ((B2.out.block (w.heap.size + 1) (by omega)).trans ((B1.out.block (w.heap.size + 1) (by omega)).trans V1.out)); obtain ⟨t0, t1, t2, t3, t4, t5, t6, t7⟩ := zan VR.out; clear hr2 hb2))
 all_goals
  go_wp2
  refine bodyPost_ret (v := .agg #[.slice aW1 ws.length cW1, .slice aP1 ps.length cP1, .slice aS2 es.length cS2, .slice aQ2 qs.length cQ2]) (by simp [results, Tryz.results166, go_sem, t0, t1, t2, t3]) rfl ?_
  have O := zhb w2 (w.heap.size + 1) (.slice aW1 ws.length cW1) (.slice aP1 ps.length cP1) (.slice aS2 es.length cS2) (.slice aQ2 qs.length cQ2)
  have Z := znp w2 (w.heap.size + 1) (.slice aW1 ws.length cW1) (.slice aP1 ps.length cP1) (.slice aS2 es.length cS2) (.slice aQ2 qs.length cQ2)
  refine ⟨_, rfl, ⟨_, _, _, _, w0.heap.size, w1.heap.size, w1.heap.size, w2.heap.size, rfl, ?_, ?_, by omega, Nat.le_trans hz2 (Nat.le_of_eq Z.symm), by omega, Nat.le_of_eq Z.symm, .inl (Nat.le_refl _)⟩, ?_⟩
  ·exact (Q1.out.below B2.out (Nat.le_refl _)).outside O (by omega) (by omega)
  ·exact Q2.out.outside O (by omega) (Nat.le_refl _)
  ·exact (zab (zab B0.out B1.out (by omega)) B2.out (by omega)).trans (O.below (by omega) (by omega))

/-- The code of a step, and what it leaves. -/
def zop (m : Mi) (ps : List St) (qs : List Se) : Bool := decide ((m.kind = 1 ∧ ps.length = 400) ∨ (m.kind = 4 ∧ qs.length = 400))
end Go.Proofs.YtbbmljakfbhnpaaGreatDoor

namespace Go.Proofs.YtbbmljakfbhnpaaGreatDoor
open Go.RowKit

def Mi.cells (s : Mi) : List Value := [.int .i64 s.kind, .int .i64 s.at_, .int .i64 s.val]
def mis (ps : List Mi) : List Value := ps.flatMap Mi.cells

theorem Mi.cells_len (s : Mi) : s.cells.length = 3 := rfl
theorem mis_at0 (ps : List Mi) (k : Nat) (h : k < ps.length) : (mis ps)[k * 3]? = some (.int .i64 ps[k].kind) := zbk _ 3 Mi.cells_len ps k 0 h (by omega)
theorem mis_at1 (ps : List Mi) (k : Nat) (h : k < ps.length) : (mis ps)[k * 3 + 1]? = some (.int .i64 ps[k].at_) := zbk _ 3 Mi.cells_len ps k 1 h (by omega)
theorem mis_at2 (ps : List Mi) (k : Nat) (h : k < ps.length) : (mis ps)[k * 3 + 2]? = some (.int .i64 ps[k].val) := zbk _ 3 Mi.cells_len ps k 2 h (by omega)

/-- A slice of steps that can be read. -/
def RdM (w : World) (v : Value) (ps : List Mi) : Prop := Rd w 3 v ps.length (mis ps)
theorem RdM.shape {w : World} {v : Value} {ps : List Mi} (h : RdM w v ps) : ∃ ao cap, v = .slice ao ps.length cap ∧ ps.length ≤ cap ∧ (0 < ps.length → ∃ b o, ao = some ⟨b, o, none⟩ ∧ b < w.heap.size ∧
  ∀ k (h : k < ps.length), w.cell? ⟨b, o + k * 3, none⟩ = some (.int .i64 ps[k].kind) ∧ w.cell? ⟨b, o + k * 3 + 1, none⟩ = some (.int .i64 ps[k].at_) ∧ w.cell? ⟨b, o + k * 3 + 2, none⟩ = some (.int .i64 ps[k].val)) := by
 obtain ⟨_, ao, cap, rfl, h2, h3⟩ := h
 refine ⟨ao, cap, rfl, h2.1, fun hn => ?_⟩
 obtain ⟨b, o, rfl, hb, hc⟩ := h3 hn
 exact ⟨b, o, rfl, hb, fun k hk => ⟨(hc (k * 3) (by omega)).trans (mis_at0 ps k hk), (hc (k * 3 + 1) (by omega)).trans (mis_at1 ps k hk), (hc (k * 3 + 2) (by omega)).trans (mis_at2 ps k hk)⟩⟩

theorem zbs : (Tryz.prog.info? 215).map (fun i => (i.zero, i.size, i.bytes)) = some (some (.agg #[.int .i64 0, .int .i64 0, .int .i64 0]), 3, 24) := by kernel_rfl

end Go.Proofs.YtbbmljakfbhnpaaGreatDoor

namespace Go.Proofs.YtbbmljakfbhnpaaGreatDoor
open Go.RowKit

/-- A code, and the devices beside it. -/
structure MR where
 c : Int
 W : List Int
 P : List St
 E : List Int
 Q : List Se
/-- Steps one by one, up to the first one without room. -/
def mr : List Mi → List Int → List St → List Int → List Se → MR
 | [], ws, ps, es, qs => ⟨0, ws, ps, es, qs⟩
 | m :: l, ws, ps, es, qs => if zop m ps qs = true then ⟨7, ws, ps, es, qs⟩ else mr l (doW m ws ps) (doP m ps) (doE m es qs) (doQ m qs)
theorem znk : ∀ (l l' : List Mi) (ws : List Int) (ps : List St) (es : List Int) (qs : List Se), mr (l ++ l') ws ps es qs = if (mr l ws ps es qs).c = 0 then mr l' (mr l ws ps es qs).W (mr l ws ps es qs).P (mr l ws ps es qs).E (mr l ws ps es qs).Q else mr l ws ps es qs
 | [], l', ws, ps, es, qs => by simp [mr]
 | m :: l, l', ws, ps, es, qs => by
   by_cases c : zop m ps qs = true
   ·simp [mr, c]
   ·simp only [List.cons_append, mr, if_neg c]
    exact znk l l' _ _ _ _
theorem mr_one (m : Mi) (ws : List Int) (ps : List St) (es : List Int) (qs : List Se) : mr [m] ws ps es qs = if zop m ps qs = true then ⟨7, ws, ps, es, qs⟩ else ⟨0, doW m ws ps, doP m ps, doE m es qs, doQ m qs⟩ := rfl
theorem zgv {ws : List Int} {ps : List St} : pmB ws ps = true ↔ ws.length = 336 ∧ ps.length ≤ 400 ∧ (∀ x ∈ ws, zbb x = true) ∧ ∀ p ∈ ps, zer p.at_ = true ∧ zbb p.val = true := by
 constructor
 ·intro h
  refine ⟨(zgc h).1, (zgc h).2, fun x hx => ?_, fun p hp => ?_⟩
  ·obtain ⟨i, hi, rfl⟩ := List.getElem_of_mem hx; exact pmB_word h i hi
  ·obtain ⟨i, hi, rfl⟩ := List.getElem_of_mem hp; exact zit h i hi
 ·rintro ⟨h1, h2, h3, h4⟩
  exact pmB_mk h1 h2 (fun k hk => h3 _ (List.getElem_mem hk)) (fun k hk => h4 _ (List.getElem_mem hk))
theorem zln {ws : List Int} {ps : List Se} : zoi ws ps = true ↔ ws.length = 32 ∧ ps.length ≤ 400 ∧ (∀ x ∈ ws, zbb x = true) ∧ ∀ p ∈ ps, secB p.at_ = true ∧ zbb p.val = true := by
 constructor
 ·intro h
  refine ⟨(zeg h).1, (zeg h).2, fun x hx => ?_, fun p hp => ?_⟩
  ·obtain ⟨i, hi, rfl⟩ := List.getElem_of_mem hx; exact blkB_word h i hi
  ·obtain ⟨i, hi, rfl⟩ := List.getElem_of_mem hp; exact zpb h i hi
 ·rintro ⟨h1, h2, h3, h4⟩
  exact blkB_mk h1 h2 (fun k hk => h3 _ (List.getElem_mem hk)) (fun k hk => h4 _ (List.getElem_mem hk))
theorem zuh : ∀ (ps : List St) (ws : List Int), (∀ x ∈ ws, zbb x = true) → (∀ p ∈ ps, zbb p.val = true) → ∀ x ∈ zmr ws ps, zbb x = true
 | [], ws, h, _ => h
 | p :: ps, ws, h, k => by
   show ∀ x ∈ zmr (if p.fl then ws.set p.at_.toNat p.val else ws) ps, zbb x = true
   refine zuh ps _ ?_ (fun q hq => k q (List.mem_cons_of_mem _ hq))
   split
   ·intro x hx
    rcases List.mem_or_eq_of_mem_set hx with hx | rfl
    ·exact h x hx
    ·exact k p (List.mem_cons_self)
   ·exact h
theorem zuj : ∀ (ps : List Se) (ws : List Int), (∀ x ∈ ws, zbb x = true) → (∀ p ∈ ps, zbb p.val = true) → ∀ x ∈ zvh ws ps, zbb x = true
 | [], ws, h, _ => h
 | p :: ps, ws, h, k => by
   show ∀ x ∈ zvh (ws.set p.at_.toNat p.val) ps, zbb x = true
   refine zuj ps _ ?_ (fun q hq => k q (List.mem_cons_of_mem _ hq))
   intro x hx
   rcases List.mem_or_eq_of_mem_set hx with hx | rfl
   ·exact h x hx
   ·exact k p (List.mem_cons_self)
theorem do_ok {m : Mi} {ws : List Int} {ps : List St} {es : List Int} {qs : List Se} (h : pmB ws ps = true) (hb : zoi es qs = true) (hm : miB m = true) (hf : zop m ps qs = false) : pmB (doW m ws ps) (doP m ps) = true ∧ zoi (doE m es qs) (doQ m qs) = true := by
 obtain ⟨k, a, x⟩ := m
 obtain ⟨p1, p2, p3, p4⟩ := zgv.1 h
 obtain ⟨b1, b2, b3, b4⟩ := zln.1 hb
 have hk := (zkr k a x).1 hm
 have hf' : ¬ ((k = 1 ∧ ps.length = 400) ∨ (k = 4 ∧ qs.length = 400)) := of_decide_eq_false hf
 rcases (show (k = 1 ∧ (0 ≤ a ∧ a < 336) ∧ 0 ≤ x ∧ x < 1099511627776) ∨ k = 2 ∨ k = 3 ∨ (k = 4 ∧ (0 ≤ a ∧ a < 32) ∧ 0 ≤ x ∧ x < 1099511627776) ∨ k = 5 by omega) with ⟨rfl, ha, hx⟩ | rfl | rfl | ⟨rfl, ha, hx⟩ | rfl
 ·refine ⟨zgv.2 ⟨p1, ?_, p3, ?_⟩, hb⟩
  ·show (ps ++ [(⟨a, x, false⟩ : St)]).length ≤ 400
   simp
   omega
  ·intro p hp
   rcases List.mem_append.1 (show p ∈ ps ++ [⟨a, x, false⟩] from hp) with hp | hp
   ·exact p4 p hp
   ·rw [List.mem_singleton.1 hp]; exact ⟨decide_eq_true ha, decide_eq_true hx⟩
 ·refine ⟨zgv.2 ⟨p1, ?_, p3, ?_⟩, hb⟩
  ·show (ps.map (fl1 a)).length ≤ 400
   simpa using p2
  ·intro p hp
   obtain ⟨q, hq, rfl⟩ := List.mem_map.1 (show p ∈ ps.map (fl1 a) from hp)
   have := p4 q hq
   unfold fl1
   split <;> exact this
 ·refine ⟨zgv.2 ⟨?_, ?_, ?_, ?_⟩, hb⟩
  ·show (zmr ws ps).length = 336
   rw [zls]; exact p1
  ·exact Nat.le_trans (List.length_filter_le _ _) p2
  ·exact zuh ps ws p3 (fun p hp => (p4 p hp).2)
  ·intro p hp
   exact p4 p (List.mem_filter.1 (show p ∈ ps.filter (fun p => !p.fl) from hp)).1
 ·refine ⟨h, zln.2 ⟨b1, ?_, b3, ?_⟩⟩
  ·show (qs ++ [(⟨a, x⟩ : Se)]).length ≤ 400
   simp
   omega
  ·intro p hp
   rcases List.mem_append.1 (show p ∈ qs ++ [⟨a, x⟩] from hp) with hp | hp
   ·exact b4 p hp
   ·rw [List.mem_singleton.1 hp]; exact ⟨decide_eq_true ha, decide_eq_true hx⟩
 ·refine ⟨h, zln.2 ⟨?_, Nat.zero_le _, ?_, fun p hp => by cases hp⟩⟩
  ·show (zvh es qs).length = 32
   rw [zlj]; exact b1
  ·exact zuj qs es b3 (fun p hp => (b4 p hp).2)
theorem mr_ok : ∀ (l : List Mi) (ws : List Int) (ps : List St) (es : List Int) (qs : List Se), pmB ws ps = true → zoi es qs = true → (∀ m ∈ l, miB m = true) → pmB (mr l ws ps es qs).W (mr l ws ps es qs).P = true ∧ zoi (mr l ws ps es qs).E (mr l ws ps es qs).Q = true
 | [], ws, ps, es, qs, h, hb, _ => ⟨h, hb⟩
 | m :: l, ws, ps, es, qs, h, hb, hm => by
   by_cases c : zop m ps qs = true
   ·simp only [mr, if_pos c]; exact ⟨h, hb⟩
   ·simp only [mr, if_neg c]
    obtain ⟨h1, h2⟩ := do_ok h hb (hm m List.mem_cons_self) (by simpa using c)
    exact mr_ok l _ _ _ _ h1 h2 (fun q hq => hm q (List.mem_cons_of_mem _ hq))
/-- The step at i, behind the ones ahead of it. -/
theorem mr_next {l : List Mi} {i : Nat} (hi : i < l.length) {ws : List Int} {ps : List St} {es : List Int} {qs : List Se} {W : List Int} {P : List St} {E : List Int} {Q : List Se} (h : mr (l.take i) ws ps es qs = ⟨0, W, P, E, Q⟩) (hf : zop l[i] P Q = false) :
  mr (l.take (i + 1)) ws ps es qs = ⟨0, doW l[i] W P, doP l[i] P, doE l[i] E Q, doQ l[i] Q⟩ := by
 rw [List.take_succ_eq_append_getElem hi, znk, h]
 simp only [if_true, mr_one]
 rw [if_neg (by rw [hf]; simp)]
theorem mr_stop {l : List Mi} {i : Nat} (hi : i < l.length) {ws : List Int} {ps : List St} {es : List Int} {qs : List Se} {W : List Int} {P : List St} {E : List Int} {Q : List Se} (h : mr (l.take i) ws ps es qs = ⟨0, W, P, E, Q⟩) (hf : zop l[i] P Q = true) :
  mr l ws ps es qs = ⟨7, W, P, E, Q⟩ := by
 have e : l = l.take i ++ l[i] :: l.drop (i + 1) := by rw [List.getElem_cons_drop]; exact (List.take_append_drop i l).symm
 rw [e, znk, h]
 simp only [if_true, mr]
 rw [if_pos hf]
theorem mr_end {l : List Mi} {i : Nat} (hi : l.length ≤ i) {ws : List Int} {ps : List St} {es : List Int} {qs : List Se} {W : List Int} {P : List St} {E : List Int} {Q : List Se} (h : mr (l.take i) ws ps es qs = ⟨0, W, P, E, Q⟩) : mr l ws ps es qs = ⟨0, W, P, E, Q⟩ := by
 rw [List.take_of_length_le hi] at h
 exact h
/-- All steps are right. -/
def misB' (l : List Mi) : Bool := decide (∀ k (h : k < l.length), miB l[k] = true)
/-- Steps with their code. -/
def ms (l : List Mi) (ws : List Int) (ps : List St) (es : List Int) (qs : List Se) : MR := if 4096 < l.length then ⟨2, [], [], [], []⟩ else if (pmB ws ps && zoi es qs && misB' l) = true then mr l ws ps es qs else ⟨1, [], [], [], []⟩
end Go.Proofs.YtbbmljakfbhnpaaGreatDoor

namespace Go.Proofs.YtbbmljakfbhnpaaGreatDoor
open Go.RowKit

/-- The cells of a list of bytes. -/
def bys (zs : List Int) : List Value := zs.map (Value.int .u8)
theorem bys_at (zs : List Int) (k : Nat) (h : k < zs.length) : (bys zs)[k]? = some (.int .u8 zs[k]) := by simp [bys, h]

/-- A slice of bytes that can be read. -/
def RdB (w : World) (v : Value) (zs : List Int) : Prop := Rd w 1 v zs.length (bys zs) ∧ ∀ k (h : k < zs.length), 0 ≤ zs[k] ∧ zs[k] < 256
theorem RdB.shape {w : World} {v : Value} {zs : List Int} (h : RdB w v zs) : ∃ ao cap, v = .slice ao zs.length cap ∧ zs.length ≤ cap ∧ (0 < zs.length → ∃ b o, ao = some ⟨b, o, none⟩ ∧ b < w.heap.size ∧ ∀ k (h : k < zs.length), w.cell? ⟨b, o + k, none⟩ = some (.int .u8 zs[k])) := by
 obtain ⟨⟨_, ao, cap, rfl, h2, h3⟩, _⟩ := h
 refine ⟨ao, cap, rfl, h2.1, fun hn => ?_⟩
 obtain ⟨b, o, rfl, hb, hc⟩ := h3 hn
 exact ⟨b, o, rfl, hb, fun k hk => (hc k (by omega)).trans (bys_at zs k hk)⟩
theorem RdB.below {w w' : World} {v : Value} {zs : List Int} (h : RdB w v zs) (hb : Below w.heap.size w w') : RdB w' v zs := ⟨h.1.below hb, h.2⟩

theorem zfl {w : World} {b : Nat} {x y z : Value} {t : TypeId} (h : w.heap[b]? = some (.cells #[x, y, z] t (0, 0))) :
  w.cell? ⟨b, 0, none⟩ = some x ∧ w.cell? ⟨b, 1, none⟩ = some y ∧ w.cell? ⟨b, 2, none⟩ = some z ∧ ∀ j, w.frozen? ⟨b, j, none⟩ = false := by
 refine ⟨?_, ?_, ?_, fun j => ?_⟩ <;> simp [World.cell?, World.frozen?, h]

/-- A source that has been asked at most k times. -/
structure Src (w0 w : World) (b : Nat) (vC : Value) (bs : List Int) (k : Nat) : Prop where
 code : RdB w0 vC bs
 len : bs.length ≤ 1048576
 old : w0.heap.size ≤ b
 below : Below w0.heap.size w0 w
 size : b < w.heap.size
 cells : ∃ at_ seed : Int, 0 ≤ at_ ∧ at_ ≤ k ∧ 0 ≤ seed ∧ seed < 2147483648 ∧ w.heap[b]? = some (.cells #[vC, .int .i64 at_, .int .i64 seed] 118 (0, 0))
theorem Src.outside {w0 w w' : World} {b k : Nat} {vC : Value} {bs : List Int} (h : Src w0 w b vC bs k) {lo hi : Nat} (ho : Outside lo hi w w') (hl : b < lo ∨ hi ≤ b) (hl2 : w0.heap.size ≤ lo) : Src w0 w' b vC bs k :=
 ⟨h.code, h.len, h.old, h.below.trans (ho.below hl2 h.below.size), Nat.lt_of_lt_of_le h.size ho.size, by
  obtain ⟨a, s, h1, h2, h3, h4, h5⟩ := h.cells
  exact ⟨a, s, h1, h2, h3, h4, (ho.block b h.size hl).trans h5⟩⟩
theorem Src.newer {w0 w w' : World} {b k : Nat} {vC : Value} {bs : List Int} (h : Src w0 w b vC bs k) (hb : Below w.heap.size w w') : Src w0 w' b vC bs k :=
 h.outside (lo := w.heap.size) (hi := w'.heap.size) (Outside.of_below hb) (.inl h.size) h.below.size

theorem Outside.drewN {lo hi : Nat} {a w : World} (h : Outside lo hi a w) (n : Nat) : Outside lo hi a (w.drewN n) := by
 induction n with
 | zero => exact h
 | succ n ih => exact ⟨ih.os, ih.tape, ih.output, ih.size, ih.block⟩

theorem src_set1 {w : World} {b : Nat} {x y z : Value} {t : TypeId} (h : w.heap[b]? = some (.cells #[x, y, z] t (0, 0))) (u : Value) : (w.setCell ⟨b, 1, none⟩ u).heap[b]? = some (.cells #[x, u, z] t (0, 0)) := by
 simp [World.setCell, Array.getElem?_modify, h]
theorem src_set2 {w : World} {b : Nat} {x y z : Value} {t : TypeId} (h : w.heap[b]? = some (.cells #[x, y, z] t (0, 0))) (u : Value) : (w.setCell ⟨b, 2, none⟩ u).heap[b]? = some (.cells #[x, y, u] t (0, 0)) := by
 simp [World.setCell, Array.getElem?_modify, h]
theorem Src.set {w0 w w' : World} {b k k' : Nat} {vC : Value} {bs : List Int} (h : Src w0 w b vC bs k) (ho : Outside b (b + 1) w w') {at_ seed : Int} (h1 : 0 ≤ at_) (h2 : at_ ≤ k') (h3 : 0 ≤ seed) (h4 : seed < 2147483648) (h5 : w'.heap[b]? = some (.cells #[vC, .int .i64 at_, .int .i64 seed] 118 (0, 0))) : Src w0 w' b vC bs k' :=
 ⟨h.code, h.len, h.old, h.below.trans (ho.below h.old h.below.size), Nat.lt_of_lt_of_le h.size ho.size, ⟨at_, seed, h1, h2, h3, h4, h5⟩⟩
theorem Src.more {w0 w : World} {b k k' : Nat} {vC : Value} {bs : List Int} (h : Src w0 w b vC bs k) (hk : k ≤ k') : Src w0 w b vC bs k' :=
 ⟨h.code, h.len, h.old, h.below, h.size, by obtain ⟨a, s, h1, h2, h3⟩ := h.cells; exact ⟨a, s, h1, by omega, h3⟩⟩
theorem size_set (w : World) (a : Addr) (u : Value) : (w.setCell a u).heap.size = w.heap.size := by simp [World.setCell]
theorem zdq (w : World) (n : Nat) : (w.drewN n).heap = w.heap := by
 induction n with
 | zero => rfl
 | succ n ih => exact ih

/-- The byte that comes next, and the seed behind it. -/
def zql (bs : List Int) (m : Nat) (seed : Int) : Int := if m < bs.length then bs[m]?.getD 0 else if 3000 < m + 1 then 0 else (seed * 1103515245 + 12345) % 2147483648 / 65536 % 256
def zwz (bs : List Int) (m : Nat) (seed : Int) : Int := if m < bs.length then (seed * 31 + bs[m]?.getD 0 + 7) % 2147483648 else if 3000 < m + 1 then seed else (seed * 1103515245 + 12345) % 2147483648
theorem byte_in {bs : List Int} {m : Nat} (seed : Int) (h : m < bs.length) : zql bs m seed = bs[m] ∧ zwz bs m seed = (seed * 31 + bs[m] + 7) % 2147483648 := by
 unfold zql zwz; rw [if_pos h, if_pos h]; simp [h]
theorem byte_far {bs : List Int} {m : Nat} (seed : Int) (h : ¬ m < bs.length) (h2 : 3000 < m + 1) : zql bs m seed = 0 ∧ zwz bs m seed = seed := by
 unfold zql zwz; rw [if_neg h, if_neg h, if_pos h2, if_pos h2]; exact ⟨rfl, rfl⟩
theorem zti {bs : List Int} {m : Nat} (seed : Int) (h : ¬ m < bs.length) (h2 : ¬ 3000 < m + 1) : zql bs m seed = (seed * 1103515245 + 12345) % 2147483648 / 65536 % 256 ∧ zwz bs m seed = (seed * 1103515245 + 12345) % 2147483648 := by
 unfold zql zwz; rw [if_neg h, if_neg h, if_neg h2, if_neg h2]; exact ⟨rfl, rfl⟩

/-- A source that has been asked m times, and its seed. -/
structure SrcE (w0 w : World) (b : Nat) (vC : Value) (bs : List Int) (m : Nat) (seed : Int) : Prop where
 src : Src w0 w b vC bs m
 s0 : 0 ≤ seed
 s1 : seed < 2147483648
 cells : w.heap[b]? = some (.cells #[vC, .int .i64 (m : Int), .int .i64 seed] 118 (0, 0))
theorem SrcE.set {w0 w w' : World} {b m : Nat} {vC : Value} {bs : List Int} {seed seed' : Int} (h : SrcE w0 w b vC bs m seed) (ho : Outside b (b + 1) w w') (h3 : 0 ≤ seed') (h4 : seed' < 2147483648) (h5 : w'.heap[b]? = some (.cells #[vC, .int .i64 ((m : Int) + 1), .int .i64 seed'] 118 (0, 0))) : SrcE w0 w' b vC bs (m + 1) seed' :=
 ⟨h.src.set ho (at_ := (m : Int) + 1) (seed := seed') (by omega) (by omega) h3 h4 h5, h3, h4, h5⟩
theorem SrcE.newer {w0 w w' : World} {b m : Nat} {vC : Value} {bs : List Int} {seed : Int} (h : SrcE w0 w b vC bs m seed) (hb : Below w.heap.size w w') : SrcE w0 w' b vC bs m seed := ⟨h.src.newer hb, h.s0, h.s1, (hb.block b h.src.size).trans h.cells⟩
theorem SrcE.outside {w0 w w' : World} {b m : Nat} {vC : Value} {bs : List Int} {seed : Int} (h : SrcE w0 w b vC bs m seed) {lo hi : Nat} (ho : Outside lo hi w w') (hl : b < lo ∨ hi ≤ b) (hl2 : w0.heap.size ≤ lo) : SrcE w0 w' b vC bs m seed := ⟨h.src.outside ho hl hl2, h.s0, h.s1, (ho.block b h.src.size hl).trans h.cells⟩

set_option maxRecDepth 100000 in
set_option maxHeartbeats 8000000 in
/-- A byte, by the source's cells. -/
theorem zrs (w0 w : World) (b m : Nat) (vC : Value) (bs : List Int) (seed : Int) (h : SrcE w0 w b vC bs m seed) (hk : m ≤ 1000000) :
  Calls Tryz.prog 158 #[.pointer (some ⟨b, 0, none⟩)] w fun e w' => e = .returned (.int .i64 (zql bs m seed)) ∧ SrcE w0 w' b vC bs (m + 1) (zwz bs m seed) ∧ Outside b (b + 1) w w' ∧ w'.heap.size = w.heap.size := by
 have HS := zaa h
 obtain ⟨hsrc, s0, s1, hblk⟩ := h
 obtain ⟨aC, cC, rfl, _, hcC⟩ := hsrc.code.shape
 obtain ⟨c0, c1, c2, c3⟩ := zfl hblk
 have f1 := c3 1
 have hlen := hsrc.len
 have NB := zaa (src_set1 hblk (.int .i64 ((m : Int) + 1)))
 have O1 := zaa ((Outside.refl b (b + 1) w).setCell (a := ⟨b, 1, none⟩) (Nat.le_refl _) (by simp) (.int .i64 ((m : Int) + 1)))
 have B1 := zaa (hsrc.below.trans (O1.out.below hsrc.old hsrc.below.size))
 have hold := hsrc.old
 clear hsrc hblk c3
 go_enter Tryz.func158, Tryz.ntmps158
 go_wp2_with fail
 clear c0 c1 c2 f1
 generalize hw1 : w.setCell ⟨b, 1, none⟩ (.int .i64 ((m : Int) + 1)) = w1 at *
 have hz1 : w1.heap.size = w.heap.size := by rw [← hw1]; exact size_set _ _ _
 obtain ⟨c0, c1, c2, c3⟩ := zfl NB.out
 have f2 := c3 2
 clear c3 hw1
 by_cases c : m < bs.length
 ·obtain ⟨bc, oc, rfl, hbc, hcc⟩ := hcC (by omega)
  have x0 := (B1.out.cell (p := ⟨bc, oc + m, none⟩) hbc).trans (hcc m c)
  obtain ⟨x1, x2⟩ := HS.out.src.code.2 m c
  clear hcC hcc
  obtain ⟨E1, E2⟩ := byte_in seed c
  have EE := zaa (And.intro E1 E2)
  clear E1 E2
  generalize bs[m] = x at *
  have cc : ((m : Int) + 1) ≤ (bs.length : Int) := by omega
  have c4 : (m : Int) < (bs.length : Int) := by omega
  have c5 : (0 : Int) ≤ (m : Int) := by omega
  go_quiet (fail)
  go_wp2_with fail
  generalize hw2 : w1.drewN _ = w2
  have e2 : w2.heap = w1.heap := by rw [← hw2]; exact zdq _ _
  have O2 : Hid (Outside b (b + 1) w w2) := by rw [← hw2]; exact O1.out.drewN _
  have NB2 : Hid (w2.heap[b]? = some (.cells #[.slice (some ⟨bc, oc, none⟩) bs.length cC, .int .i64 ((m : Int) + 1), .int .i64 seed] 118 (0, 0))) := by rw [e2]; exact NB.out
  have x2' := (World.cell?_of_block (w := w1) (a := ⟨bc, oc + m, none⟩) (by rw [e2])).trans x0
  clear c0 c1 c2 f2 x0
  obtain ⟨c0, c1, c2, c3⟩ := zfl NB2.out
  have f2 := c3 2
  have hz2 : w2.heap.size = w.heap.size := by rw [e2]; exact hz1
  clear c3 hw2 e2
  go_region
  go_wp2_with fail
  have O3 := zaa (Outside.drewN (O2.out.setCell (a := ⟨b, 2, none⟩) (Nat.le_refl _) (by simp) (.int .i64 ((seed * 31 + x + 7) % 2147483648))) 1)
  have NB3 := zaa (src_set2 NB2.out (.int .i64 ((seed * 31 + x + 7) % 2147483648)))
  generalize hw3 : (w2.setCell ⟨b, 2, none⟩ (.int .i64 ((seed * 31 + x + 7) % 2147483648))).drew = w3
  have O4 : Hid (Outside b (b + 1) w w3) := by rw [← hw3]; exact O3.out
  have NB4 : Hid (w3.heap[b]? = some (.cells #[.slice (some ⟨bc, oc, none⟩) bs.length cC, .int .i64 ((m : Int) + 1), .int .i64 ((seed * 31 + x + 7) % 2147483648)] 118 (0, 0))) := by rw [← hw3]; exact NB3.out
  have hz3 : w3.heap.size = w.heap.size := by rw [← hw3]; exact (size_set _ _ _).trans hz2
  have x3 : w3.cell? ⟨bc, oc + m, none⟩ = some (.int .u8 x) := by
   rw [← hw3]
   exact (World.cell?_of_block (w := w2) (a := ⟨bc, oc + m, none⟩) (Below.heap_setCell _ _ _ _ (by simp only; omega))).trans x2'
  clear c0 c1 c2 f2 x2' hw3 O3 NB3
  obtain ⟨c0, c1, c2, c3⟩ := zfl NB4.out
  clear c3
  go_quiet (fail)
  go_wp2
  go_ret
  rw [EE.out.1, EE.out.2]
  exact ⟨rfl, HS.out.set (O4.out.drewN _) (by omega) (by omega) (by rw [zdq]; exact NB4.out), O4.out.drewN _, by rw [zdq]; exact hz3⟩
 ·have cc : ¬ ((m : Int) + 1) ≤ (bs.length : Int) := by omega
  clear hcC
  go_quiet (fail)
  go_wp2
  ·go_ret
   obtain ⟨E1, E2⟩ := byte_far seed c (by omega)
   rw [E1, E2]
   exact ⟨rfl, HS.out.set (O1.out.drewN _) (by omega) (by omega) (by rw [zdq]; exact NB.out), O1.out.drewN _, by rw [zdq]; exact hz1⟩
  ·go_ret
   have O3 := (O1.out.drewN nq).setCell (a := ⟨b, 2, none⟩) (Nat.le_refl _) (by simp) (.int .i64 ((seed * 1103515245 + 12345) % 2147483648))
   obtain ⟨E1, E2⟩ := zti seed c (by omega)
   rw [E1, E2]
   refine ⟨rfl, HS.out.set O3 (by omega) (by omega) (src_set2 (by rw [zdq]; exact NB.out) _), O3, by rw [size_set, zdq]; exact hz1⟩

theorem byteR_bd {w : World} {v : Value} {bs : List Int} (h : RdB w v bs) (m : Nat) (seed : Int) : 0 ≤ zql bs m seed ∧ zql bs m seed < 256 := by
 by_cases c : m < bs.length
 ·rw [(byte_in seed c).1]; exact h.2 m c
 ·by_cases c2 : 3000 < m + 1
  ·rw [(byte_far seed c c2).1]; omega
  ·rw [(zti seed c c2).1]; omega
theorem zfr (w0 w : World) (b k : Nat) (vC : Value) (bs : List Int) (h : Src w0 w b vC bs k) (hk : k ≤ 1000000) :
  Calls Tryz.prog 158 #[.pointer (some ⟨b, 0, none⟩)] w fun e w' => ∃ r : Int, e = .returned (.int .i64 r) ∧ 0 ≤ r ∧ r < 256 ∧ Src w0 w' b vC bs (k + 1) ∧ Outside b (b + 1) w w' ∧ w'.heap.size = w.heap.size := by
 obtain ⟨at_, seed, a0, a1, s0, s1, hblk⟩ := h.cells
 obtain ⟨m, rfl⟩ : ∃ m : Nat, at_ = m := ⟨at_.toNat, by omega⟩
 have bd := byteR_bd h.code m seed
 refine (zrs w0 w b m vC bs seed ⟨h.set (Outside.refl _ _ _) a0 (Int.le_refl _) s0 s1 hblk, s0, s1, hblk⟩ (by omega)).mono ?_
 rintro e w' ⟨rfl, h1, h2, h3⟩
 exact ⟨_, rfl, bd.1, bd.2, h1.src.more (by omega), h2, h3⟩

set_option maxRecDepth 100000 in
set_option maxHeartbeats 8000000 in
/-- A number from 0 to below n. -/
theorem zbn (n : Int) (hn : 2 ≤ n ∧ n ≤ 1000) (w0 w : World) (b k : Nat) (vC : Value) (bs : List Int) (h : Src w0 w b vC bs k) (hk : k ≤ 900000) :
  Calls Tryz.prog 113 #[.pointer (some ⟨b, 0, none⟩), .int .i64 n] w fun e w' => ∃ r : Int, e = .returned (.int .i64 r) ∧ 0 ≤ r ∧ r < n ∧ Src w0 w' b vC bs (k + 3) ∧ Outside b (b + 1) w w' ∧ w'.heap.size = w.heap.size := by
 have HS := zaa h
 clear h
 by_cases c : n ≤ 256
 ·go_enter Tryz.func113, Tryz.ntmps113
  go_wp2_with fail
  refine (zfr w0 w b k vC bs HS.out (by omega)).mono ?_
  rintro e w1 ⟨r, rfl, r0, r1, hs, ho, hz⟩
  have S1 := zaa hs
  have O1 := zaa ho
  clear hs ho
  go_wp2
  go_ret
  exact ⟨_, rfl, Int.emod_nonneg _ (by omega), Int.emod_lt_of_pos _ (by omega), S1.out.more (by omega), O1.out, hz⟩
 ·go_enter Tryz.func113, Tryz.ntmps113
  go_wp2_with fail
  refine (zfr w0 w b k vC bs HS.out (by omega)).mono ?_
  rintro e w1 ⟨r, rfl, r0, r1, hs, ho, hz⟩
  have S1 := zaa hs
  have O1 := zaa ho
  clear hs ho
  go_wp2_with fail
  refine (zfr w0 w1 b (k + 1) vC bs S1.out (by omega)).mono ?_
  rintro e w2 ⟨r', rfl, r2, r3, hs, ho, hz2⟩
  have S2 := zaa hs
  have O2 := zaa (O1.out.trans ho)
  clear hs ho
  go_wp2_with fail
  refine (zfr w0 w2 b (k + 2) vC bs S2.out (by omega)).mono ?_
  rintro e w3 ⟨r'', rfl, r4, r5, hs, ho, hz3⟩
  have S3 := zaa hs
  have O3 := zaa (O2.out.trans ho)
  clear hs ho
  go_wp2
  go_ret
  exact ⟨_, rfl, Int.emod_nonneg _ (by omega), Int.emod_lt_of_pos _ (by omega), S3.out, O3.out, by omega⟩

theorem cells_new {w w' : World} {cs : Array Value} {t : TypeId} {lo hi : Nat} (ho : Outside lo hi (w.alloc (.cells cs t)) w') (hl : hi ≤ w.heap.size) : w'.heap[w.heap.size]? = some (.cells cs t (0, 0)) :=
 (ho.block w.heap.size (by simp) (.inr hl)).trans (zag rfl)

set_option maxRecDepth 100000 in
set_option maxHeartbeats 8000000 in
/-- A word. -/
theorem zne (w0 w : World) (b k : Nat) (vC : Value) (bs : List Int) (h : Src w0 w b vC bs k) (hk : k ≤ 800000) :
  Calls Tryz.prog 164 #[.pointer (some ⟨b, 0, none⟩)] w fun e w' => ∃ r : Int, e = .returned (.int .i64 r) ∧ 0 ≤ r ∧ r < 1099511627776 ∧ Src w0 w' b vC bs (k + 9) ∧ Outside b (b + 1) w w' := by
 have HS := zaa h
 have hsz := h.size
 clear h
 go_enter Tryz.func164, Tryz.ntmps164
 go_wp2_with fail
 refine (zbn 9 (by omega) w0 w b k vC bs HS.out (by omega)).mono ?_
 rintro e w1 ⟨r, rfl, r0, r1, hs, ho, hz⟩
 have S1 := zaa hs
 have O1 := zaa ho
 clear hs ho
 go_wp2_with fail
 refine (zbn 1000 (by omega) w0 w1 b (k + 3) vC bs S1.out (by omega)).mono ?_
 rintro e w2 ⟨r', rfl, r2, r3, hs, ho, hz2⟩
 have S2 := zaa (hs.newer ((Below.refl _ _).alloc (Nat.le_refl _) (.cells #[.int .i64 r, .int .i64 r', .int .i64 1099511627775] 3)))
 have O2 := zaa ((O1.out.trans ho).trans (Outside.of_below ((Below.refl _ _).alloc (Nat.le_refl _) (.cells #[.int .i64 r, .int .i64 r', .int .i64 1099511627775] 3))))
 clear hs ho
 go_wp2_with fail
 refine (zbn 9 (by omega) w0 _ b (k + 6) vC bs S2.out (by omega)).mono ?_
 rintro e w3 ⟨r'', rfl, r4, r5, hs, ho, hz3⟩
 obtain ⟨c0, c1, c2, _⟩ := zfl (cells_new ho (by omega))
 rw [hz2, hz] at c0 c1 c2
 have S3 := zaa hs
 have O3 := zaa (O2.out.trans ho)
 clear hs ho
 rcases (show r'' / 4 = 0 ∨ r'' / 4 = 1 ∨ r'' / 4 = 2 by omega) with e | e | e
 ·go_wp2
  go_ret
  exact ⟨_, rfl, by omega, by omega, S3.out, O3.out⟩
 ·go_wp2
  go_ret
  exact ⟨_, rfl, by omega, by omega, S3.out, O3.out⟩
 ·go_wp2
  go_ret
  exact ⟨_, rfl, by omega, by omega, S3.out, O3.out⟩
end Go.Proofs.YtbbmljakfbhnpaaGreatDoor

namespace Go.Proofs.YtbbmljakfbhnpaaGreatDoor
open Go.RowKit

set_option maxRecDepth 100000 in
/-- A source is made. -/
theorem zqc (v : Value) (bs : List Int) (w : World) (h : RdB w v bs) (hl : bs.length ≤ 1048576) :
  Calls Tryz.prog 32 #[v] w fun e w' => e = .returned (.pointer (some ⟨w.heap.size, 0, none⟩)) ∧ SrcE w w' w.heap.size v bs 0 ((bs.length : Int) % 1000) ∧ Below w.heap.size w w' := by
 have H := zaa h
 obtain ⟨aC, cC, rfl, _⟩ := h.shape
 clear h
 have hm : (0 : Int) ≤ (bs.length : Int) := by omega
 go_enter Tryz.func32, Tryz.ntmps32
 go_wp2
 go_ret
 refine ⟨rfl, ⟨⟨H.out, hl, Nat.le_refl _, (Below.refl _ _).alloc (Nat.le_refl _) _, by simp, 0, (bs.length : Int) % 1000, by omega, by omega, by omega, by omega, zag rfl⟩, by omega, by omega, zag rfl⟩, (Below.refl _ _).alloc (Nat.le_refl _) _⟩

end Go.Proofs.YtbbmljakfbhnpaaGreatDoor
