/- Several texts laid together: IgH, OpenA, Open, SeenM, MiS, JrD, MiL, MiT, JrF, JrP, JrQ, JrC. -/
import Derived.Test.YtcilodgoognmnaaGreatDoorZAN
import Derived.Test.YtcilodgoognmnaaGreatDoorZAA
import Derived.ProofKit
import Derived.OpenShut
import Derived.ShutString
import Derived.ChangeOld
import Derived.Lib.SmallJoins
import Derived.Deep.Slices
import Derived.Deep.Strs
import Derived.Test.YtcilodgoognmnaaGreatDoorZAM
import Derived.Test.YtcilodgoognmnaaGreatDoorZAD
import Derived.Deep.RegionWith
import Derived.BigRegion
import Derived.BigQuiet
import Derived.Deep.QuietTactic
import Derived.Deep.DeepCutAuto
import Derived.Deep.RegionLaw
import Derived.Test.YtcilodgoognmnaaGreatDoorZAC
import Derived.Test.YtcilodgoognmnaaGreatDoorZAB
import Derived.Deep.RegionHeld3
namespace Go.Proofs.YtcilodgoognmnaaGreatDoor
open Go.RowKit
theorem zvx {ps : List Den} {k : Nat} (h : k < ps.length) : zaj ps k = (zey ps k).child := childAt_den h
theorem fe_free {ws : List Ino} {ps : List Den} (h : Img ws ps) (f : ¬ feI ps < 0) : ∃ k : Nat, feI ps = (k : Int) ∧ k < 24 ∧ zey ps k = freeD := by
 have hit := zoj (p := fun i => decide (zaj ps i < 0)) (n := ps.length) f
 have b := (zdb (fun i => decide (zaj ps i < 0)) ps.length).2
 have e : feI ps = zas (fun i => decide (zaj ps i < 0)) ps.length := rfl
 rw [← e] at hit b
 refine ⟨(feI ps).toNat, by omega, by have := h.l24; omega, ?_⟩
 have hk : (feI ps).toNat < ps.length := by omega
 have c : zaj ps (feI ps).toNat < 0 := of_decide_eq_true hit
 rw [zvx hk] at c
 rcases h.ent (feI ps).toNat (by have := h.l24; omega) with q | q
 ·exact q
 ·have := q.1; omega
theorem fi_free {ws : List Ino} {ps : List Den} (h : Img ws ps) (f : ¬ fiI ws < 0) : ∃ i : Nat, fiI ws = (i : Int) ∧ i < 16 ∧ (zcf ws i).kind = 0 := by
 have hit := zoj (p := fun i => decide (1 ≤ i) && zai ws (i : Int) == 0) (n := ws.length) f
 have b := (zdb (fun i => decide (1 ≤ i) && zai ws (i : Int) == 0) ws.length).2
 have e : fiI ws = zas (fun i => decide (1 ≤ i) && zai ws (i : Int) == 0) ws.length := rfl
 rw [← e] at hit b
 refine ⟨(fiI ws).toNat, by omega, by have := h.l16; omega, ?_⟩
 simp only [Bool.and_eq_true, beq_iff_eq] at hit
 rw [← zrh]
 exact hit.2
theorem zrm {ws : List Ino} {ps : List Den} (h : Img ws ps) {d : Int} {nm : ByteArray} {k : Nat} (e : zbb ps d nm = some k) : k < 24 ∧ ∃ i : Nat, zaj ps k = (i : Int) ∧ (zey ps k).child = (i : Int) ∧ i < 16 ∧ EntOK ws (zey ps k) ∧ (zey ps k).dir = d ∧ (zey ps k).name = nm := by
 obtain ⟨hk, q⟩ := znb e
 have hk24 : k < 24 := by have := h.l24; omega
 obtain ⟨c, hd, hn⟩ := zgt.1 q
 rw [← zgk hk] at c hd hn
 have ok : EntOK ws (zey ps k) := by
  rcases h.ent k hk24 with r | r
  ·rw [r] at c; exact absurd c (by decide)
  ·exact r
 refine ⟨hk24, (zey ps k).child.toNat, ?_, by omega, by have := ok.1; omega, ok, hd, hn⟩
 rw [zvx hk]
 omega
theorem wk_kind {ws : List Ino} {ps : List Den} (h : Img ws ps) : ∀ (ns : List ByteArray) (z : Int), (wk ws ps z ns).2 = 0 → ¬ zai ws z = 0 → ¬ zai ws (wk ws ps z ns).1 = 0
 | [], z, _, k => k
 | n :: ns, z, c, k => by
  by_cases q : zai ws z = 2
  ·cases e : zbb ps z n with
   | none => rw [zle q e] at c; cases c
   | some j =>
    rw [zlb q e] at c ⊢
    obtain ⟨_, i, ci, ck, _, ok, _, _⟩ := zrm h e
    refine wk_kind h ns _ c ?_
    rw [ci, ← ck]
    exact ok.2.2.2.1
  ·rw [zif q] at c; cases c
theorem wk_root {ws : List Ino} {ps : List Den} (h : Img ws ps) : ∀ (ns : List ByteArray) (z : Int), (wk ws ps z ns).2 = 0 → (wk ws ps z ns).1 = z ∨ 1 ≤ (wk ws ps z ns).1
 | [], z, _ => .inl rfl
 | n :: ns, z, c => by
  by_cases q : zai ws z = 2
  ·cases e : zbb ps z n with
   | none => rw [zle q e] at c; cases c
   | some k =>
    rw [zlb q e] at c ⊢
    obtain ⟨_, i, ci, ck, _, ok, _, _⟩ := zrm h e
    have := ok.1
    rcases wk_root h ns _ c with r | r
    ·right
     rw [r, ci]
     omega
    ·exact .inr r
  ·rw [zif q] at c; cases c
theorem znj {ws : List Ino} {ps : List Den} {s : ByteArray} (h : Img ws ps) (c : (lkI ws ps s).2 = 0) (k : ¬ zai ws (lkI ws ps s).1 = 2) : ∃ i : Nat, (lkI ws ps s).1 = (i : Int) ∧ i < 16 ∧ ¬ i = 0 ∧ (zcf ws i).kind = 1 := by
 have rg := zme (s := s) (zca.2 h)
 refine ⟨(lkI ws ps s).1.toNat, by omega, by omega, ?_⟩
 unfold lkI at c k rg ⊢
 by_cases q : spB s = true
 ·rw [if_pos q] at c k rg ⊢
  have r1 : zai ws 0 = 2 := h.root
  have kk := wk_kind h (spL s) 0 c (by rw [r1]; decide)
  have hp : 1 ≤ (wk ws ps 0 (spL s)).1 := by
   rcases wk_root h _ 0 c with r | r
   ·rw [r] at k; exact absurd r1 k
   ·exact r
  refine ⟨by omega, ?_⟩
  obtain ⟨n, hn⟩ : ∃ n : Nat, (wk ws ps 0 (spL s)).1 = (n : Int) := ⟨(wk ws ps 0 (spL s)).1.toNat, by omega⟩
  rw [hn] at k kk rg ⊢
  rw [Int.toNat_natCast]
  rw [zrh] at k kk
  have := (zga (h.ok n (by omega))).1
  omega
 ·rw [if_neg q] at c; cases c
end Go.Proofs.YtcilodgoognmnaaGreatDoor

namespace Go.Proofs.YtcilodgoognmnaaGreatDoor
open Go.ChangeShapes Go.WideShapes Go.ChangeAt Go.RowKit Go.Joins
theorem own : ownKnob Tryz.prog.godebug = none := by kernel_rfl
theorem zlv : laidOutB Tryz.prog = true := by kernel_rfl
theorem zmc : Tryz.prog.cellsOf 3 = 1 := by kernel_rfl
theorem cells4 : Tryz.prog.cellsOf 4 = 1 := by kernel_rfl
theorem zjv {α : Type} {P : Nat → α → Prop} : ∀ (n : Nat), (∀ i, i < n → ∃ x, P i x) → ∃ l : List α, l.length = n ∧ ∀ i (hi : i < l.length), P i l[i]
 | 0, _ => ⟨[], rfl, fun i hi => absurd hi (by simp)⟩
 | n + 1, h => by
  obtain ⟨l, hl, hp⟩ := zjv n (fun i hi => h i (by omega))
  obtain ⟨x, hx⟩ := h n (by omega)
  refine ⟨l ++ [x], by simp [hl], fun i hi => ?_⟩
  by_cases e : i < l.length
  ·rw [List.getElem_append_left e]; exact hp i e
  ·have e' : i = n := by simp at hi; omega
   subst e'
   rw [List.getElem_append_right (by omega)]
   simpa [hl] using hx
section
variable {H : Type} {enc : TypeId × Value → H} {W : World} {sp : Nat → Bool} {held : Bool} {fuel : Nat} {v : Value} {y : DataW H × List MemPlace}
theorem open_RdI (h : DataW.trod enc Tryz.prog W 0 sp held fuel 22 [v] = some y) : ∃ zs : List Int, RdI W v zs ∧ zs.length ≤ maxLen ∧ ∀ z ∈ zs, (Lit.int .i64 z).wf = true := by
 rcases open_ints Tryz.underlying22 Tryz.underlying3 zmc h with ⟨hcs, _⟩ | ⟨a, len, cap, zs, hcs, _, hl, hm, hz, _, hcell, hwz⟩
 ·simp only [List.cons.injEq, and_true] at hcs
  subst hcs
  exact ⟨[], ⟨rfl, none, 0, rfl, ⟨Nat.le_refl _, fun _ => rfl⟩, fun h => absurd h (by simp)⟩, by simp, fun z hz => by simp at hz⟩
 ·simp only [List.cons.injEq, and_true] at hcs
  subst hcs
  have hzl : len ≤ zs.length := by rw [hz]; split <;> omega
  have e : (zs.take len).length = len := by simp; omega
  refine ⟨zs.take len, ⟨by simp [zec], some a, cap, by rw [e], ⟨by rw [e]; exact hl, fun e => by cases e⟩, fun hn => ?_⟩, by rw [e]; omega, fun z hz => hwz z (List.mem_of_mem_take hz)⟩
  rw [e] at hn
  obtain ⟨b, off, spot⟩ := a
  have hc := hcell 0 (by omega)
  have hspot : spot = none := by simpa [Addr.add] using World.cell?_spot hc
  subst hspot
  refine ⟨b, off, rfl, World.block_lt_of_cell? W _ (by simpa [Addr.add] using hc), fun j hj => ?_⟩
  rw [e] at hj
  have hc := hcell j (by omega)
  rw [Addr.add_lit] at hc
  rw [hc, zfl _ j (by rw [e]; omega)]
  simp [List.getD, show j < zs.length by omega]
end
end Go.Proofs.YtcilodgoognmnaaGreatDoor

namespace Go.Proofs.YtcilodgoognmnaaGreatDoor
open Go.ChangeShapes Go.WideShapes Go.ChangeAt Go.RowKit Go.Joins
theorem cellsStore : Tryz.prog.cellsOf 199 = 3 := by kernel_rfl
theorem cellsPm : Tryz.prog.cellsOf 25 = 2 := by kernel_rfl
section
variable {H : Type} {enc : TypeId × Value → H} {W : World} {sp : Nat → Bool} {held : Bool} {fuel : Nat} {v : Value} {y : DataW H × List MemPlace}
set_option maxRecDepth 100000 in
theorem open_RdS (h : DataW.trod enc Tryz.prog W 0 sp held fuel 23 [v] = some y) : ∃ ps : List St, RdS W v ps ∧ ps.length ≤ maxLen ∧ ∀ p ∈ ps, (Lit.int .i64 p.at_).wf = true ∧ (Lit.int .i64 p.val).wf = true := by
 rcases Deep.open_slice Tryz.underlying23 h with ⟨hcs, _⟩ | ⟨a, len, cap, m, n, D, Pl, hcs, _, hl, hm, hmm, _, hel⟩
 ·simp only [List.cons.injEq, and_true] at hcs
  subst hcs
  exact ⟨[], ⟨rfl, none, 0, rfl, ⟨Nat.le_refl _, fun _ => rfl⟩, fun h => absurd h (by simp)⟩, by simp, fun p hp => by simp at hp⟩
 ·simp only [List.cons.injEq, and_true] at hcs
  subst hcs
  have hlm : len ≤ m := by rw [hmm]; split <;> omega
  have one : ∀ i, i < len → ∃ s : St, (W.cell? ((a.add (i * 3)).add 0) = some (.int .i64 s.at_) ∧ W.cell? ((a.add (i * 3)).add 1) = some (.int .i64 s.val) ∧ W.cell? ((a.add (i * 3)).add 2) = some (.bool s.fl)) ∧ (Lit.int .i64 s.at_).wf = true ∧ (Lit.int .i64 s.val).wf = true := by
   intro i hi
   obtain ⟨cs, hcs, ht⟩ := hel i (by omega)
   rw [cellsStore] at hcs
   obtain ⟨_, hlen, hc⟩ := World.cells?_some hcs
   obtain ⟨y0, y1, y2, n', _, _, t0, t1, t2⟩ := Deep.trod_struct3 Tryz.underlying199 ht
   obtain ⟨z0, e0, _, w0⟩ := DataW.trod_int Tryz.underlying3 t0
   obtain ⟨z1, e1, _, w1⟩ := DataW.trod_int Tryz.underlying3 t1
   obtain ⟨z2, e2, _⟩ := DataW.trod_bool Tryz.underlying4 t2
   simp only [zmc, cells4] at e0 e1 e2
   match cs, hlen with
   | [c0, c1, c2], _ =>
    simp at e0 e1 e2
    subst e0 e1 e2
    exact ⟨⟨z0, z1, z2⟩, ⟨by simpa using hc 0 (by omega), by simpa using hc 1 (by omega), by simpa using hc 2 (by omega)⟩, w0, w1⟩
  obtain ⟨ps, hpl, hps⟩ := zjv len one
  refine ⟨ps, ⟨sts_len ps, some a, cap, by rw [hpl], ⟨by rw [hpl]; exact hl, fun e => by cases e⟩, fun hn => ?_⟩, by rw [hpl]; omega, fun p hp => ?_⟩
  ·obtain ⟨b, off, spot⟩ := a
   have hc := (hps 0 hn).1.1
   have hspot : spot = none := by simpa [Addr.add] using World.cell?_spot hc
   subst hspot
   refine ⟨b, off, rfl, World.block_lt_of_cell? W _ (by simpa [Addr.add] using hc), fun j hj => ?_⟩
   have hk : j / 3 < ps.length := by omega
   obtain ⟨⟨q0, q1, q2⟩, _⟩ := hps (j / 3) hk
   simp only [Addr.add_lit, Nat.add_zero] at q0 q1 q2
   have hj3 : j = j / 3 * 3 + j % 3 := by omega
   rcases (show j % 3 = 0 ∨ j % 3 = 1 ∨ j % 3 = 2 from by omega) with r | r | r
   ·rw [hj3, r, Nat.add_zero, q0, ztn ps _ hk]
   ·rw [hj3, r, ← Nat.add_assoc, q1, zry ps _ hk]
   ·rw [hj3, r, ← Nat.add_assoc, q2, ztv ps _ hk]
  ·obtain ⟨i, hi, rfl⟩ := List.getElem_of_mem hp
   exact (hps i hi).2
end
end Go.Proofs.YtcilodgoognmnaaGreatDoor

namespace Go.Proofs.YtcilodgoognmnaaGreatDoor
open Go.RowKit
end Go.Proofs.YtcilodgoognmnaaGreatDoor

namespace Go.Proofs.YtcilodgoognmnaaGreatDoor
open Go.RowKit
structure Mi where
 kind : Int
 at_ : Int
 val : Int
end Go.Proofs.YtcilodgoognmnaaGreatDoor

namespace Go.Proofs.YtcilodgoognmnaaGreatDoor
def up (a v : Int) : St := ⟨a, v, false⟩
def stM (p : St) : Mi := ⟨1, p.at_, p.val⟩
def zqz (ks : List Int) (i : Nat) : Bool := (List.range i).any (fun k => ks[k]?.getD 0 / 8 == ks[i]?.getD 0 / 8)
def nl (ks : List Int) : Nat → List Mi
 | 0 => []
 | i + 1 => if zqz ks i = true then nl ks i else nl ks i ++ [⟨2, ks[i]?.getD 0, 0⟩]
def zbe (ks : List Int) : List Mi := nl ks ks.length ++ [⟨3, 0, 0⟩]
def seg (S : List St) : List Mi := S.map stM ++ zbe (S.map (·.at_))
def jrn : Nat → List St → List St
 | _, [] => []
 | i, u :: us => ⟨9 + 2 * (i : Int), u.at_, false⟩ :: ⟨9 + 2 * (i : Int) + 1, u.val, false⟩ :: jrn (i + 1) us
def cnt (n : Int) : List St := [⟨8, n, false⟩]
def zjz (us : List St) : List Mi := seg us ++ seg (cnt 0)
def zdd (us : List St) : List Mi := if us.length = 0 then [] else seg (jrn 0 us) ++ seg (cnt (us.length : Int)) ++ zjz us
end Go.Proofs.YtcilodgoognmnaaGreatDoor

namespace Go.Proofs.YtcilodgoognmnaaGreatDoor
open Go.RowKit
def Mi.cells (s : Mi) : List Value := [.int .i64 s.kind, .int .i64 s.at_, .int .i64 s.val]
def mis (ps : List Mi) : List Value := ps.flatMap Mi.cells
theorem Mi.cells_len (s : Mi) : s.cells.length = 3 := rfl
theorem mis_len (ps : List Mi) : (mis ps).length = ps.length * 3 := zgu _ 3 Mi.cells_len ps
theorem mis_at0 (ps : List Mi) (k : Nat) (h : k < ps.length) : (mis ps)[k * 3]? = some (.int .i64 ps[k].kind) := zbr _ 3 Mi.cells_len ps k 0 h (by omega)
theorem mis_at1 (ps : List Mi) (k : Nat) (h : k < ps.length) : (mis ps)[k * 3 + 1]? = some (.int .i64 ps[k].at_) := zbr _ 3 Mi.cells_len ps k 1 h (by omega)
theorem mis_at2 (ps : List Mi) (k : Nat) (h : k < ps.length) : (mis ps)[k * 3 + 2]? = some (.int .i64 ps[k].val) := zbr _ 3 Mi.cells_len ps k 2 h (by omega)
def RdM (w : World) (v : Value) (ps : List Mi) : Prop := Rd w 3 v ps.length (mis ps)
theorem RdM.shape {w : World} {v : Value} {ps : List Mi} (h : RdM w v ps) : ∃ ao cap, v = .slice ao ps.length cap ∧ ps.length ≤ cap ∧ (0 < ps.length → ∃ b o, ao = some ⟨b, o, none⟩ ∧ b < w.heap.size ∧
  ∀ k (h : k < ps.length), w.cell? ⟨b, o + k * 3, none⟩ = some (.int .i64 ps[k].kind) ∧ w.cell? ⟨b, o + k * 3 + 1, none⟩ = some (.int .i64 ps[k].at_) ∧ w.cell? ⟨b, o + k * 3 + 2, none⟩ = some (.int .i64 ps[k].val)) := by
 obtain ⟨_, ao, cap, rfl, h2, h3⟩ := h
 refine ⟨ao, cap, rfl, h2.1, fun hn => ?_⟩
 obtain ⟨b, o, rfl, hb, hc⟩ := h3 hn
 exact ⟨b, o, rfl, hb, fun k hk => ⟨(hc (k * 3) (by omega)).trans (mis_at0 ps k hk), (hc (k * 3 + 1) (by omega)).trans (mis_at1 ps k hk), (hc (k * 3 + 2) (by omega)).trans (mis_at2 ps k hk)⟩⟩
theorem zbn : (Tryz.prog.info? 118).map (fun i => (i.zero, i.size, i.bytes)) = some (some (.agg #[.int .i64 0, .int .i64 0, .int .i64 0]), 3, 24) := by kernel_rfl
theorem put3M_step {ys : List Value} {ps : List Mi} {k : Nat} (hk : k < ps.length) (hl : ys.length = ps.length * 3) (h : ∀ j, j < k * 3 → ys[j]? = (mis ps)[j]?) :
  ∀ j, j < (k + 1) * 3 → (put3 ys k (.int .i64 ps[k].kind) (.int .i64 ps[k].at_) (.int .i64 ps[k].val))[j]? = (mis ps)[j]? := by
 intro j hj
 rw [zhy (by omega)]
 split
 ·rename_i e; rw [e, mis_at2 ps k hk]
 ·split
  ·rename_i e; rw [e, mis_at1 ps k hk]
  ·split
   ·rename_i e; rw [e, mis_at0 ps k hk]
   ·exact h j (by omega)
theorem mis_all {ys : List Value} {ps : List Mi} (hl : ys.length = ps.length * 3) (h : ∀ j, j < ps.length * 3 → ys[j]? = (mis ps)[j]?) : ys = mis ps := by
 apply List.ext_getElem?
 intro j
 by_cases hj : j < ps.length * 3
 ·exact h j hj
 ·rw [List.getElem?_eq_none (by omega), List.getElem?_eq_none (by rw [mis_len]; omega)]
set_option maxHeartbeats 1000000 in
theorem eqMic_same (a v : Int) (f : Int) (w : World) : Calls Tryz.prog 59 #[.agg #[.int .i64 a, .int .i64 v, .int .i64 f], .agg #[.int .i64 a, .int .i64 v, .int .i64 f]] w fun e w' => e = .returned (.bool true) ∧ Below w.heap.size w w' := by
 go_enter Tryz.func59, Tryz.ntmps59
 go_wp2
 go_ret
 refine ⟨rfl, ?_⟩
 repeat (refine Below.alloc ?_ (by simp <;> omega) _)
 exact Below.refl _ _
end Go.Proofs.YtcilodgoognmnaaGreatDoor

namespace Go.Proofs.YtcilodgoognmnaaGreatDoor
open Go.RowKit
set_option maxHeartbeats 2000000 in
theorem zgv (va vb : Value) (ps : List Mi) (w : World) (ha : RdM w va ps) (hb : RdM w vb ps) (hn : ps.length ≤ 2147483648) :
  Calls Tryz.prog 15 #[va, vb] w fun e w' => e = .returned (.bool true) ∧ Below w.heap.size w w' := by
 obtain ⟨ao, cap, rfl, hcap, hc⟩ := ha.shape
 obtain ⟨ao2, cap2, rfl, hcap2, hc2⟩ := hb.shape
 clear ha hb
 go_enter Tryz.func15, Tryz.ntmps15
 go_wp2
 go_loopw [5] (fun i wr => ∃ k : Nat, k ≤ ps.length ∧ i = .int .i64 k ∧ Below w.heap.size w wr) (fun i _ => ps.length - (intOf i).toNat)
 case atStart => exact ⟨0, by omega, rfl, Below.refl _ _⟩
 case round =>
  obtain ⟨k, hk, rfl, hbw⟩ := hrel
  by_cases hlt : k < ps.length
  ·obtain ⟨b, o, rfl, hbl, hcell⟩ := hc (by omega)
   obtain ⟨b2, o2, rfl, hbl2, hcell2⟩ := hc2 (by omega)
   obtain ⟨c0, c1, c2⟩ := hcell k hlt
   obtain ⟨c3, c4, c5⟩ := hcell2 k hlt
   have d0 := (hbw.cell (p := ⟨b, o + k * 3, none⟩) hbl).trans c0
   have d1 := (hbw.cell (p := ⟨b, o + k * 3 + 1, none⟩) hbl).trans c1
   have d2 := (hbw.cell (p := ⟨b, o + k * 3 + 2, none⟩) hbl).trans c2
   have d3 := (hbw.cell (p := ⟨b2, o2 + k * 3, none⟩) hbl2).trans c3
   have d4 := (hbw.cell (p := ⟨b2, o2 + k * 3 + 1, none⟩) hbl2).trans c4
   have d5 := (hbw.cell (p := ⟨b2, o2 + k * 3 + 2, none⟩) hbl2).trans c5
   have hlt' : (k : Int) < (ps.length : Int) := by omega
   have hge : (0 : Int) ≤ (k : Int) := by omega
   have hz := hbw.size
   clear hcell hcell2 hc hc2 c0 c1 c2 c3 c4 c5
   go_wp2_with fail
   go_region_with (go_at_call 59; refine (eqMic_same _ _ _ _).mono ?_; rintro e w1 ⟨rfl, hb1⟩)
   all_goals
    go_wp2
    go_roundw
    case rel => exact ⟨k + 1, by omega, by go_num, hbw.trans (Below.mono (Below.trans ((Below.refl _ _).drew) ‹_›) hz)⟩
    case measure => simp [intOf]; omega
  ·go_wp2
   go_ret
   exact ⟨rfl, hbw⟩
def markM (k : Int) (i : Nat) : Mi := ⟨k + 3 * (i : Int), k + 3 * (i : Int) + 1, k + 3 * (i : Int) + 1 + 1⟩
def zfe (k : Int) (n : Nat) : List Mi := (List.range n).map (markM k)
theorem zel (k : Int) (n : Nat) : (zfe k n).length = n := by simp [zfe]
theorem zvb (k : Int) (n i : Nat) (h : i < (zfe k n).length) : (zfe k n)[i] = markM k i := by simp [zfe]
def IsMis (xs : List Value) (n : Nat) : Prop := ∀ k, k < n → ∃ a b c, xs[k * 3]? = some (.int .i64 a) ∧ xs[k * 3 + 1]? = some (.int .i64 b) ∧ xs[k * 3 + 2]? = some (.int .i64 c)
theorem isMis (ps : List Mi) : IsMis (mis ps) ps.length := fun k hk => ⟨_, _, _, mis_at0 ps k hk, mis_at1 ps k hk, mis_at2 ps k hk⟩
theorem IsMis.put3 {ys : List Value} {n : Nat} (h : IsMis ys n) (hl : ys.length = n * 3) (k : Nat) (a b : Int) (c : Int) : IsMis (put3 ys k (.int .i64 a) (.int .i64 b) (.int .i64 c)) n := by
 intro j hj
 rw [zhy (by omega), zhy (by omega), zhy (by omega)]
 by_cases e : j = k
 ·subst e
  exact ⟨a, b, c, by simp, by simp, by simp⟩
 ·obtain ⟨x, y, z, h0, h1, h2⟩ := h j hj
  refine ⟨x, y, z, ?_, ?_, ?_⟩
  ·rw [if_neg (by omega), if_neg (by omega), if_neg (by omega)]; exact h0
  ·rw [if_neg (by omega), if_neg (by omega), if_neg (by omega)]; exact h1
  ·rw [if_neg (by omega), if_neg (by omega), if_neg (by omega)]; exact h2
set_option maxHeartbeats 2000000 in
theorem zqf (v : Value) (n : Nat) (xs : List Value) (k0 : Int) (lo hi : Nat) (w : World) (h : Row w 118 3 lo hi v n xs) (hx : IsMis xs n) (hn : n ≤ 2147483648) (h0 : 0 ≤ k0) (h1 : k0 ≤ 1099511627776) :
  Calls Tryz.prog 17 #[v, .int .i64 k0] w fun e w' => e = .returned (.int .i64 (k0 + 3 * n)) ∧ Row w' 118 3 lo hi v n (mis (zfe k0 n)) ∧ w.grownBy w' v.ownBlock ∧ w'.heap.size = w.heap.size := by
 obtain ⟨hlen, ao, cap, rfl, hcap, hc⟩ := h.rd
 go_enter Tryz.func17, Tryz.ntmps17
 go_wp2
 go_loopw [1, 5] (fun c i wr => ∃ k : Nat, k ≤ n ∧ i = .int .i64 k ∧ c = .int .i64 (k0 + 3 * k) ∧ (∃ ys : List Value, Row wr 118 3 lo hi (.slice ao n cap) n ys ∧ IsMis ys n ∧ ∀ j, j < k * 3 → ys[j]? = (mis (zfe k0 n))[j]?) ∧ w.grownBy wr (Value.slice ao n cap).ownBlock ∧ wr.heap.size = w.heap.size) (fun _ i _ => n - (intOf i).toNat)
 case atStart => exact ⟨0, by omega, rfl, by simp, ⟨xs, h, hx, fun j hj => absurd hj (by omega)⟩, World.grownBy.refl _ _, rfl⟩
 case round =>
  obtain ⟨k, hk, rfl, rfl, ⟨ys, hrow, hys, hd⟩, hout, hz⟩ := hrel
  clear h hx hc hlen
  by_cases hlt : k < n
  ·obtain ⟨hlen, ao', cap', e', _, hc⟩ := hrow.rd
   cases e'
   obtain ⟨b, o, rfl, hbl, _⟩ := hc (by omega)
   obtain ⟨rfl, hb1, hb2, _, hfr, hcl⟩ := hrow.at
   obtain ⟨x, y, z, q0, q1, q2⟩ := hys k hlt
   have f0 := hfr (k * 3)
   have f1 := hfr (k * 3 + 1)
   have f2 := hfr (k * 3 + 2)
   have e0 := (hcl (k * 3) (by omega)).trans q0
   have e1 := (hcl (k * 3 + 1) (by omega)).trans q1
   have e2 := (hcl (k * 3 + 2) (by omega)).trans q2
   have PH := zaa (hrow.put3 k (.int .i64 (k0 + 3 * k)) (.int .i64 (k0 + 3 * k + 1)) (.int .i64 (k0 + 3 * k + 1 + 1)))
   have OH := zaa (zbm (zbm (zbm hout (a := ⟨b, k * 3, none⟩) rfl (.int .i64 (k0 + 3 * k))) (a := ⟨b, k * 3 + 1, none⟩) rfl (.int .i64 (k0 + 3 * k + 1))) (a := ⟨b, k * 3 + 2, none⟩) rfl (.int .i64 (k0 + 3 * k + 1 + 1)))
   have IH := zaa (hys.put3 hlen k (k0 + 3 * k) (k0 + 3 * k + 1) (k0 + 3 * k + 1 + 1))
   have DH : Hid (∀ j, j < (k + 1) * 3 → (put3 ys k (.int .i64 (k0 + 3 * k)) (.int .i64 (k0 + 3 * k + 1)) (.int .i64 (k0 + 3 * k + 1 + 1)))[j]? = (mis (zfe k0 n))[j]?) := by
    have hk' : k < (zfe k0 n).length := by rw [zel]; exact hlt
    have := put3M_step (ps := zfe k0 n) hk' (by rw [zel]; exact hlen) hd
    rw [zvb] at this
    exact this
   clear hrow hys hd hc hfr hcl q0 q1 q2
   go_wp2
   go_roundw
   case rel => exact ⟨k + 1, by omega, by go_num, by go_num, ⟨_, PH.out, IH.out, DH.out⟩, OH.out, by simp [hz]⟩
   case measure => simp [intOf]; omega
  ·have e : k = n := by omega
   subst e
   have hl := hrow.len
   have RH := zaa hrow
   have DH := zaa hd
   clear hrow hys hd
   go_wp2
   go_ret
   have e := mis_all (ps := zfe k0 k) (by rw [zel]; exact hl) (by rw [zel]; exact DH.out)
   exact ⟨rfl, e ▸ RH.out, hout, hz⟩
set_option maxHeartbeats 2000000 in
theorem zjb (v : Value) (n : Nat) (k0 : Int) (w : World) (h : RdM w v (zfe k0 n)) (hn : n ≤ 2147483648) (h0 : 0 ≤ k0) (h1 : k0 ≤ 1099511627776) :
  Calls Tryz.prog 18 #[v, .int .i64 k0] w fun e w' => e = .returned (.int .i64 (k0 + 3 * n)) ∧ w' = w := by
 obtain ⟨ao, cap, rfl, hcap, hc⟩ := h.shape
 simp only [zel] at hcap hc ⊢
 clear h
 go_enter Tryz.func18, Tryz.ntmps18
 go_wp2
 go_loop [1, 5] (fun c i => ∃ k : Nat, k ≤ n ∧ i = .int .i64 k ∧ c = .int .i64 (k0 + 3 * k)) (fun _ i => n - (intOf i).toNat)
 case atStart => exact ⟨0, by omega, rfl, by simp⟩
 case round =>
  obtain ⟨k, hk, rfl, rfl⟩ := hrel
  by_cases hlt : k < n
  ·obtain ⟨b, o, rfl, hbl, hcell⟩ := hc (by omega)
   obtain ⟨c0, c1, c2⟩ := hcell k hlt
   rw [zvb] at c0 c1 c2
   simp only [markM] at c0 c1 c2
   clear hcell hc
   go_wp2
   go_round
   case rel => exact ⟨k + 1, by omega, by go_num, by go_num⟩
   case measure => simp [intOf]; omega
  ·have e : k = n := by omega
   subst e
   go_wp2
   go_ret
   exact ⟨rfl, rfl⟩
end Go.Proofs.YtcilodgoognmnaaGreatDoor

namespace Go.Proofs.YtcilodgoognmnaaGreatDoor
open Go.RowKit
theorem znk (l : List Mi) (m : Mi) : mis (l ++ [m]) = mis l ++ m.cells := by simp [mis]
theorem zfn (l l' : List Mi) : mis (l ++ l') = mis l ++ mis l' := by simp [mis]
theorem zgm (m : Mi) : ∀ u ∈ m.cells, u.oneCell' = true := by
 intro u hu
 simp [Mi.cells] at hu
 rcases hu with rfl | rfl | rfl <;> rfl
theorem zck (l : List Mi) : ∀ u ∈ mis l, u.oneCell' = true := by
 intro u hu
 simp only [mis, List.mem_flatMap] at hu
 obtain ⟨m, _, hm⟩ := hu
 exact zgm m u hm
theorem zhf (w1 : World) (k a x : Int) : Rd (w1.alloc (.cells #[.int .i64 k, .int .i64 a, .int .i64 x] 118)) 3 (.slice (some ⟨w1.heap.size, 0, none⟩) 1 1) 1 (Mi.cells ⟨k, a, x⟩) := by
 refine ⟨rfl, _, _, rfl, ⟨Nat.le_refl _, fun e => by cases e⟩, fun _ => ⟨w1.heap.size, 0, rfl, by simp, fun j hj => ?_⟩⟩
 obtain ⟨e0, e1, e2⟩ := zay (zah (w := w1) (o := .cells #[.int .i64 k, .int .i64 a, .int .i64 x] 118) rfl)
 rw [Nat.zero_add]
 rcases (show j = 0 ∨ j = 1 ∨ j = 2 from by omega) with rfl | rfl | rfl
 ·exact e0
 ·exact e1
 ·exact e2
theorem RdM.form {w : World} {v : Value} {ps : List Mi} (h : RdM w v ps) {n : Nat} (hn : ps.length = n) : ∃ ao cap, v = .slice ao n cap := by
 obtain ⟨ao, cap, e, _⟩ := h.shape
 exact ⟨ao, cap, hn ▸ e⟩
theorem owns_drewN {w : World} {base : Nat} {e : TypeId} {size : Nat} {v : Value} {n : Nat} {xs : List Value} (h : w.ownsRow base e size v n xs) (k : Nat) : (w.drewN k).ownsRow base e size v n xs := by
 induction k with
 | zero => exact h
 | succ k ih => exact ih
theorem below_drewJ {B : Nat} {a w : World} (h : Below B a w) (n : Nat) : Below B a (w.drewN n) := by
 induction n with
 | zero => exact h
 | succ n ih => exact ⟨ih.os, ih.tape, ih.output, ih.size, ih.block⟩
theorem size_drewN (w : World) (n : Nat) : (w.drewN n).heap.size = w.heap.size := by
 induction n with
 | zero => rfl
 | succ n ih => exact ih
def zku (ks : List Int) (i k : Nat) : Bool := (List.range k).any (fun j => ks[j]?.getD 0 / 8 == ks[i]?.getD 0 / 8)
theorem knownU_succ (ks : List Int) (i k : Nat) : zku ks i (k + 1) = (zku ks i k || (ks[k]?.getD 0 / 8 == ks[i]?.getD 0 / 8)) := by
 unfold zku
 rw [List.range_succ, List.any_append]
 simp
theorem nl_le (ks : List Int) : ∀ i, (nl ks i).length ≤ i
 | 0 => Nat.le_refl _
 | i + 1 => by
  rw [nl]
  split
  ·have := nl_le ks i; omega
  ·have := nl_le ks i; simp; omega
set_option maxRecDepth 100000 in
set_option maxHeartbeats 4000000 in
theorem zdv (v : Value) (zs : List Int) (w : World) (h : RdI w v zs) (hn : zs.length ≤ 4096) (hz0 : ∀ k (h : k < zs.length), 0 ≤ zs[k] ∧ zs[k] < 336) :
  Calls Tryz.prog 108 #[v] w fun e w' => ∃ v', e = .returned v' ∧ Row w' 118 3 w.heap.size w'.heap.size v' (zbe zs).length (mis (zbe zs)) ∧ Below w.heap.size w w' := by
 obtain ⟨aZ, cZ, rfl, _, hcZ⟩ := h.shape
 have HZ := zaa hcZ
 have Z0 := zaa hz0
 clear h hcZ hz0
 have ho : (w.alloc (.cells #[] 118)).ownsRow w.heap.size 118 3 (.slice (some ⟨w.heap.size, 0, none⟩) 0 0) 0 [] := by
  simpa using World.ownsRow_lit (base := w.heap.size) (e := 118) (size := 3) w #[] 0 (by simp) (by simp) rfl
 have START := zaa (And.intro ho ((Below.refl w.heap.size w).alloc (Nat.le_refl _) (.cells #[] 118)))
 clear ho
 go_enter Tryz.func108, Tryz.ntmps108
 go_wp2
 go_loopw [3, 4, 5, 6] (fun vL i _ _ wr => ∃ m : Nat, m ≤ zs.length ∧ i = .int .i64 m ∧ Hid (wr.ownsRow w.heap.size 118 3 vL (nl zs m).length (mis (nl zs m)) ∧ Below w.heap.size w wr) ∧ w.heap.size ≤ wr.heap.size) (fun _ i _ _ _ => zs.length - (intOf i).toNat)
 case atStart => exact ⟨0, by omega, rfl, ⟨by simpa [nl, mis] using START.out.1, START.out.2⟩, by simp⟩
 case round =>
  obtain ⟨m, hm, rfl, I, hz⟩ := hrel
  by_cases hlt : m < zs.length
  ·obtain ⟨b, o, rfl, hbl, hcell⟩ := HZ.out (by omega)
   have CELL := zaa hcell
   clear hcell
   have m0 : (0 : Int) ≤ (m : Int) := by omega
   have m1 : (m : Int) < (zs.length : Int) := by omega
   go_wp2
   go_loopw [5, 6] (fun f kk wr2 => ∃ k : Nat, k ≤ m ∧ kk = .int .i64 k ∧ f = .bool (zku zs m k) ∧ Hid (wr2.ownsRow w.heap.size 118 3 u3 (nl zs m).length (mis (nl zs m)) ∧ Below w.heap.size w wr2) ∧ w.heap.size ≤ wr2.heap.size) (fun _ kk _ => m - (intOf kk).toNat)
   case atStart => exact ⟨0, by omega, rfl, rfl, I, hz⟩
   case round =>
    obtain ⟨k, hk, rfl, rfl, J, hz2⟩ := hrel
    by_cases hlk : k < m
    ·have k0 : (0 : Int) ≤ (k : Int) := by omega
     have k1 : (k : Int) < (m : Int) := by omega
     have k2 : (k : Int) < (zs.length : Int) := by omega
     have hkz : k < zs.length := by omega
     have d0 := (J.out.2.cell (p := ⟨b, o + k, none⟩) hbl).trans (CELL.out k hkz)
     have d1 := (J.out.2.cell (p := ⟨b, o + m, none⟩) hbl).trans (CELL.out m hlt)
     have p0 := Z0.out k hkz
     have p1 := Z0.out m hlt
     have SU := zaa (show zku zs m (k + 1) = (zku zs m k || (zs[k] / 8 == zs[m] / 8)) by rw [knownU_succ, List.getElem?_eq_getElem hkz, List.getElem?_eq_getElem hlt]; rfl)
     generalize zs[k] = x at *
     generalize zs[m] = y at *
     generalize zku zs m k = fb at *
     rcases (show fb = true ∨ (fb = false ∧ (x / 8 == y / 8) = true) ∨ (fb = false ∧ (x / 8 == y / 8) = false) by cases fb <;> cases (x / 8 == y / 8) <;> simp) with rfl | ⟨rfl, q⟩ | ⟨rfl, q⟩
     all_goals
      go_wp2
      go_quiet (fail)
      go_wp2
      go_roundw
      case rel => exact ⟨k + 1, by omega, by go_num, by rw [SU.out]; first | rfl | (rw [q]; rfl), ⟨owns_drewN J.out.1 _, below_drewJ J.out.2 _⟩, by rw [size_drewN]; exact hz2⟩
      case measure => simp [intOf]; omega
    ·obtain rfl : k = m := by omega
     by_cases c : zku zs k k = true
     ·have E := zaa (show nl zs (k + 1) = nl zs k by rw [nl]; exact if_pos c)
      rw [c]
      clear c
      go_wp2
      go_roundw
      case rel => exact ⟨k + 1, by omega, by go_num, by rw [E.out]; exact J, hz2⟩
      case measure => simp [intOf]; omega
     ·have c' : zku zs k k = false := by simpa using c
      have d1 := (J.out.2.cell (p := ⟨b, o + k, none⟩) hbl).trans (CELL.out k hlt)
      have E := zaa (show nl zs (k + 1) = nl zs k ++ [⟨2, zs[k], 0⟩] by
       rw [nl]
       have : ¬ zqz zs k = true := fun x => c x
       rw [if_neg this, List.getElem?_eq_getElem hlt]
       rfl)
      rw [c']
      clear c c'
      generalize zs[k] = y at *
      have O2 := zaa (J.out.1.alloc (.cells #[.int .i64 2, .int .i64 y, .int .i64 0] 118))
      have HRD := zaa (zhf wr 2 y 0)
      have hle := nl_le zs k
      go_wp2_with (at_builtin; refine zag _ rfl (.tmp 35) (.tmp 41) 45 rfl w.heap.size 118 (.agg #[.int .i64 0, .int .i64 0, .int .i64 0]) 3 24 Tryz.underlying45 zbn rfl (by decide) _ _ _ rfl O2.out _ 1 _ rfl HRD.out (zgm _) (by simp [maxLen]; omega) (by omega) (by simp; omega) ?_)
      intro vN wN hownN hgrN
      have hl := fun q hq => (O2.out.lt q hq).1
      have hzN := hgrN.size
      simp only [World.size_alloc] at hzN
      have G : Hid (wN.ownsRow w.heap.size 118 3 vN (nl zs (k + 1)).length (mis (nl zs (k + 1))) ∧ Below w.heap.size w wN) := by
       refine ⟨?_, (J.out.2.alloc (by omega) (.cells #[.int .i64 2, .int .i64 y, .int .i64 0] 118)).grown hgrN (by simp; omega) (fun q hq => hl q hq)⟩
       rw [E.out, znk, List.length_append]
       exact hownN
      clear hownN hgrN hl
      go_wp2
      go_roundw
      case rel => exact ⟨k + 1, by omega, by go_num, G, by omega⟩
      case measure => simp [intOf]; omega
  ·obtain rfl : m = zs.length := by omega
   have E := zaa (show zbe zs = nl zs zs.length ++ [⟨3, 0, 0⟩] from rfl)
   have O2 := zaa (I.out.1.alloc (.cells #[.int .i64 3, .int .i64 0, .int .i64 0] 118))
   have HRD := zaa (zhf wr 3 0 0)
   have hle := nl_le zs zs.length
   go_wp2_with (at_builtin; refine zag _ rfl (.tmp 43) (.tmp 45) 45 rfl w.heap.size 118 (.agg #[.int .i64 0, .int .i64 0, .int .i64 0]) 3 24 Tryz.underlying45 zbn rfl (by decide) _ _ _ rfl O2.out _ 1 _ rfl HRD.out (zgm _) (by simp [maxLen]; omega) (by omega) (by simp; omega) ?_)
   intro vN wN hownN hgrN
   have hl := fun q hq => (O2.out.lt q hq).1
   have G : Hid (wN.ownsRow w.heap.size 118 3 vN (zbe zs).length (mis (zbe zs)) ∧ Below w.heap.size w wN) := by
    refine ⟨?_, (I.out.2.alloc (by omega) (.cells #[.int .i64 3, .int .i64 0, .int .i64 0] 118)).grown hgrN (by simp; omega) (fun q hq => hl q hq)⟩
    rw [E.out, znk, List.length_append]
    exact hownN
   clear hownN hgrN hl
   obtain ⟨aL, cL, hvL⟩ := RdM.form (zad G.out.1).rd rfl
   subst hvL
   go_wp2
   go_ret
   exact ⟨_, rfl, zad G.out.1, G.out.2⟩
def allP (zs : List Int) : Bool := decide (∀ k (h : k < zs.length), 0 ≤ zs[k] ∧ zs[k] < 336)
def flC (zs : List Int) : Int := if 4096 < zs.length then 2 else if 50 < zs.length then 6 else if allP zs = true then 0 else 14
def fpL (zs : List Int) : List Mi := if flC zs = 0 then zbe zs else []
theorem fp_cases (zs : List Int) : (4096 < zs.length ∧ flC zs = 2 ∧ fpL zs = []) ∨ (¬ 4096 < zs.length ∧ 50 < zs.length ∧ flC zs = 6 ∧ fpL zs = []) ∨ (¬ 4096 < zs.length ∧ ¬ 50 < zs.length ∧ allP zs = false ∧ flC zs = 14 ∧ fpL zs = []) ∨ (¬ 4096 < zs.length ∧ ¬ 50 < zs.length ∧ allP zs = true ∧ flC zs = 0 ∧ fpL zs = zbe zs) := by
 by_cases c1 : 4096 < zs.length
 ·have e : flC zs = 2 := by unfold flC; rw [if_pos c1]
  exact .inl ⟨c1, e, by unfold fpL; rw [e]; rfl⟩
 ·by_cases c2 : 50 < zs.length
  ·have e : flC zs = 6 := by unfold flC; rw [if_neg c1, if_pos c2]
   exact .inr (.inl ⟨c1, c2, e, by unfold fpL; rw [e]; rfl⟩)
  ·by_cases c3 : allP zs = true
   ·have e : flC zs = 0 := by unfold flC; rw [if_neg c1, if_neg c2, if_pos c3]
    exact .inr (.inr (.inr ⟨c1, c2, c3, e, by unfold fpL; rw [e]; rfl⟩))
   ·have c3' : allP zs = false := by simpa using c3
    have e : flC zs = 14 := by unfold flC; rw [if_neg c1, if_neg c2, c3']; rfl
    exact .inr (.inr (.inl ⟨c1, c2, c3', e, by unfold fpL; rw [e]; rfl⟩))
theorem zbl (zs : List Int) : (zbe zs).length ≤ zs.length + 1 := by
 unfold zbe
 have := nl_le zs zs.length
 simp
 omega
theorem zvg {w : World} {lo hi : Nat} {v : Value} {k : Int} {n : Nat} (h : Row w 118 3 lo hi v n (mis (zfe k n))) : RdM w v (zfe k n) := by
 have := h.rd
 unfold RdM
 rw [zel]
 exact this
theorem zph (w : World) (t : TypeId) (size : Nat) : Row (w.alloc (.cells #[] t)) t size w.heap.size (w.alloc (.cells #[] t)).heap.size (.slice (some ⟨w.heap.size, 0, none⟩) 0 0) 0 [] :=
 zad (by simpa using World.ownsRow_lit (base := w.heap.size) (e := t) (size := size) w #[] 0 (by simp) (by simp) (by simp))
end Go.Proofs.YtcilodgoognmnaaGreatDoor

namespace Go.Proofs.YtcilodgoognmnaaGreatDoor
open Go.RowKit
theorem zdz (a x : Int) (w : World) : Calls Tryz.prog 107 #[.int .i64 a, .int .i64 x] w fun e w' => e = .returned (.agg #[.int .i64 1, .int .i64 a, .int .i64 x]) ∧ Below w.heap.size w w' := by
 go_enter Tryz.func107, Tryz.ntmps107
 go_wp2
 refine bodyPost_ret (v := .agg #[.int .i64 1, .int .i64 a, .int .i64 x]) (by simp [results, Tryz.results107, go_sem]) rfl ⟨rfl, ?_⟩
 repeat (refine Below.alloc ?_ (by simp <;> omega) _)
 exact Below.refl _ _
def upsB (us : List Se) : Bool := decide (∀ k (h : k < us.length), (48 ≤ us[k].at_ ∧ us[k].at_ < 336) ∧ 0 ≤ us[k].val ∧ us[k].val < 1099511627776)
end Go.Proofs.YtcilodgoognmnaaGreatDoor

namespace Go.Proofs.YtcilodgoognmnaaGreatDoor
open Go.RowKit
def zdx (us : List Se) : List St := us.map (fun s => up s.at_ s.val)
theorem zbw (us : List Se) : (zdx us).length = us.length := by simp [zdx]
theorem zti (us : List Se) (k : Nat) (h : k < us.length) : (zdx us)[k]? = some (up us[k].at_ us[k].val) := by simp [zdx, h]
def apM (us : List Se) (m : Nat) : List Mi := ((zdx us).take m).map stM
def apP (us : List Se) (m : Nat) : List Int := ((zdx us).take m).map (·.at_)
theorem apM_len (us : List Se) (m : Nat) : (apM us m).length ≤ m := by simp [apM]; omega
theorem apP_len (us : List Se) (m : Nat) : (apP us m).length ≤ m := by simp [apP]; omega
theorem zko {α : Type} (l : List α) (m : Nat) (x : α) (h : l[m]? = some x) : l.take (m + 1) = l.take m ++ [x] := by
 rw [List.take_add_one, h]; rfl
theorem apM_succ (us : List Se) (m : Nat) (h : m < us.length) : apM us (m + 1) = apM us m ++ [⟨1, us[m].at_, us[m].val⟩] := by
 unfold apM; rw [zko _ _ _ (zti us m h), List.map_append]; rfl
theorem apP_succ (us : List Se) (m : Nat) (h : m < us.length) : apP us (m + 1) = apP us m ++ [us[m].at_] := by
 unfold apP; rw [zko _ _ _ (zti us m h), List.map_append]; rfl
theorem apM_all (us : List Se) : apM us us.length = (zdx us).map stM := by unfold apM; rw [List.take_of_length_le (by rw [zbw]; omega)]
theorem apP_all (us : List Se) : apP us us.length = (zdx us).map (·.at_) := by unfold apP; rw [List.take_of_length_le (by rw [zbw]; omega)]
theorem apP_place (us : List Se) (m : Nat) (hz : ∀ k (h : k < us.length), 0 ≤ us[k].at_ ∧ us[k].at_ < 336) : ∀ k (h : k < (apP us m).length), 0 ≤ (apP us m)[k] ∧ (apP us m)[k] < 336 := by
 intro k h
 have h' := h
 simp only [apP, List.length_map, List.length_take, zbw] at h'
 have := hz k (by omega)
 simpa [apP, zdx, up] using this
structure PlI (w0 w : World) (vL vP : Value) (ls : List Mi) (ps : List Int) : Prop where
 l : w.ownsRow w0.heap.size 118 3 vL ls.length (mis ls)
 p : w.ownsRow w0.heap.size 3 1 vP ps.length (zec ps)
 b : Below w0.heap.size w0 w
 z : w0.heap.size ≤ w.heap.size
theorem ty_ne : (3 : Nat) ≠ 118 := by decide
theorem PlI.below {w0 w w' : World} {vL vP : Value} {ls : List Mi} {ps : List Int} (h : PlI w0 w vL vP ls ps) (hb : Below w.heap.size w w') : PlI w0 w' vL vP ls ps :=
 ⟨((zad h.l).below hb (Nat.le_refl _)).1, ((zad h.p).below hb (Nat.le_refl _)).1, zab h.b hb h.z, Nat.le_trans h.z hb.size⟩
theorem PlI.growL {w0 w w' : World} {vL vP v' : Value} {ls : List Mi} {ps : List Int} (h : PlI w0 w vL vP ls ps) (ms : List Mi) (ho : w'.ownsRow w0.heap.size 118 3 v' (ls.length + ms.length) (mis ls ++ mis ms)) (hg : w.grownBy w' vL.ownBlock) : PlI w0 w' v' vP (ls ++ ms) ps :=
 ⟨by rw [zfn, List.length_append]; exact ho, (Row.apart (zad h.p) (zad h.l) ty_ne hg).1, h.b.grown hg h.z (fun q hq => (h.l.lt q hq).1), Nat.le_trans h.z hg.size⟩
theorem PlI.growP {w0 w w' : World} {vL vP v' : Value} {ls : List Mi} {ps : List Int} (h : PlI w0 w vL vP ls ps) (ks : List Int) (ho : w'.ownsRow w0.heap.size 3 1 v' (ps.length + ks.length) (zec ps ++ zec ks)) (hg : w.grownBy w' vP.ownBlock) : PlI w0 w' vL v' ls (ps ++ ks) :=
 ⟨(Row.apart (zad h.l) (zad h.p) (Ne.symm ty_ne) hg).1, by rw [List.length_append, show zec (ps ++ ks) = zec ps ++ zec ks by simp [zec]]; exact ho, h.b.grown hg h.z (fun q hq => (h.p.lt q hq).1), Nat.le_trans h.z hg.size⟩
theorem zcs {w w' : World} (h : Below w.drew.heap.size w.drew w') : Below w.heap.size w w' := zab ((Below.refl w.heap.size w).drew) h (Nat.le_refl _)
theorem zof (w1 : World) (x : Int) : RdI (w1.alloc (.cells #[.int .i64 x] 3)) (.slice (some ⟨w1.heap.size, 0, none⟩) 1 1) [x] := by
 refine ⟨rfl, _, _, rfl, ⟨Nat.le_refl _, fun e => by cases e⟩, fun _ => ⟨w1.heap.size, 0, rfl, by simp, fun j hj => ?_⟩⟩
 obtain rfl : j = 0 := by simp at hj; omega
 have e := zah (w := w1) (o := .cells #[.int .i64 x] 3) rfl
 unfold World.cell?
 simp only [e]
 rfl
theorem zil (m : Mi) : mis [m] = m.cells := by simp [mis]
set_option maxRecDepth 100000 in
set_option maxHeartbeats 4000000 in
theorem zuf (v : Value) (us : List Se) (w : World) (h : RdE w v us) (hn : us.length ≤ 64) (hz0 : ∀ k (h : k < us.length), 0 ≤ us[k].at_ ∧ us[k].at_ < 336) :
  Calls Tryz.prog 171 #[v] w fun e w' => ∃ v', e = .returned v' ∧ Row w' 118 3 w.heap.size w'.heap.size v' (zjz (zdx us)).length (mis (zjz (zdx us))) ∧ Below w.heap.size w w' := by
 obtain ⟨aZ, cZ, rfl, _, hcZ⟩ := h.shape
 have HZ := zaa hcZ
 have Z0 := zaa hz0
 clear h hcZ hz0
 have START : Hid (PlI w ((w.alloc (.cells #[] 118)).alloc (.cells #[] 3)) (.slice (some ⟨w.heap.size, 0, none⟩) 0 0) (.slice (some ⟨w.heap.size + 1, 0, none⟩) 0 0) [] []) := by
  refine ⟨?_, ?_, ((Below.refl w.heap.size w).alloc (Nat.le_refl _) _).alloc (by simp) _, by simp <;> omega⟩
  ·exact ((zph w 118 3).alloc (Nat.le_refl _) _).1
  ·simpa [zec] using World.ownsRow_lit (base := w.heap.size) (e := 3) (size := 1) (w.alloc (.cells #[] 118)) #[] 0 (by simp) (by simp) (by simp)
 go_enter Tryz.func171, Tryz.ntmps171
 go_wp2
 go_loopw [3, 4, 5] (fun vL vP i wr => ∃ m : Nat, m ≤ us.length ∧ i = .int .i64 m ∧ Hid (PlI w wr vL vP (apM us m) (apP us m)) ∧ w.heap.size ≤ wr.heap.size) (fun _ _ i _ => us.length - (intOf i).toNat)
 case atStart => exact ⟨0, by omega, rfl, by simpa [apM, apP] using START, by simp <;> omega⟩
 case round =>
  obtain ⟨m, hm, rfl, J, hz⟩ := hrel
  by_cases hlt : m < us.length
  ·obtain ⟨b, o, rfl, hbl, hcell⟩ := HZ.out (by omega)
   have C0 := (J.out.b.cell (p := ⟨b, o + m * 2, none⟩) hbl).trans (hcell m hlt).1
   have C1 := (J.out.b.cell (p := ⟨b, o + m * 2 + 1, none⟩) hbl).trans (hcell m hlt).2
   have EM := zaa (apM_succ us m hlt)
   have EP := zaa (apP_succ us m hlt)
   have l1 := apM_len us m
   have l2 := apP_len us m
   have hbr : b < wr.heap.size := by omega
   have DW := zaa (hcell m hlt)
   clear hcell
   have m0 : (0 : Int) ≤ (m : Int) := by omega
   have m1 : (m : Int) < (us.length : Int) := by omega
   generalize us[m].at_ = x at *
   generalize us[m].val = y at *
   go_wp2_with fail
   go_region_held3 (fun w' => w'.cell? ⟨b, o + m * 2, none⟩ = some (.int .i64 x) ∧ w'.cell? ⟨b, o + m * 2 + 1, none⟩ = some (.int .i64 y)) (first | exact ⟨C0, C1⟩ | exact ⟨s0, s1⟩ | exact ⟨r0, r1⟩ | exact ⟨q0, q1⟩)
    (first
     | (go_at_call 107; refine (zdz _ _ _).mono ?_; rintro e w1 ⟨rfl, hb1⟩; have hb1' := zcs hb1; have q0 := (hb1'.cell (p := ⟨b, o + m * 2, none⟩) hbr).trans C0; have q1 := (hb1'.cell (p := ⟨b, o + m * 2 + 1, none⟩) hbr).trans C1; have P1 := zaa ((J.out.below hb1').below ((Below.refl _ _).alloc (Nat.le_refl _) (.cells #[.int .i64 1, .int .i64 x, .int .i64 y] 118))); have HRD := zaa (zhf w1 1 x y); have r0 := (P1.out.b.cell (p := ⟨b, o + m * 2, none⟩) hbl).trans DW.out.1; have r1 := (P1.out.b.cell (p := ⟨b, o + m * 2 + 1, none⟩) hbl).trans DW.out.2; have hz1 := P1.out.z; clear hb1 hb1')
     | (refine zal rfl (.tmp 14) (.tmp 26) 45 rfl w.heap.size 118 (.agg #[.int .i64 0, .int .i64 0, .int .i64 0]) 3 24 Tryz.underlying45 zbn rfl (by decide) _ _ _ rfl P1.out.l _ 1 _ rfl HRD.out (zgm _) (by simp [maxLen]; omega) (by omega) hz1 ?_; intro vN wN hownN hgrN; have G := zaa (P1.out.growL [⟨1, x, y⟩] (by rw [zil]; exact hownN) hgrN); have s0 := (G.out.b.cell (p := ⟨b, o + m * 2, none⟩) hbl).trans DW.out.1; have s1 := (G.out.b.cell (p := ⟨b, o + m * 2 + 1, none⟩) hbl).trans DW.out.2; clear hownN hgrN))
   all_goals
    have hzG := G.out.z
    clear C0 C1 q0 q1 r0 r1 P1 HRD J
    have P2 := zaa (G.out.below ((Below.refl _ _).alloc (Nat.le_refl _) (.cells #[.int .i64 x] 3)))
    have HR2 := zaa (zof wN x)
    have hz2 := P2.out.z
    clear G
    go_wp2_with (at_builtin; refine zag _ rfl (.tmp 28) (.tmp 34) 22 rfl w.heap.size 3 (.int .i64 0) 1 8 Tryz.underlying22 info3 rfl (by decide) _ _ _ rfl P2.out.p _ 1 _ rfl HR2.out (znh _) (by simp [maxLen]; omega) (by omega) hz2 ?_)
    intro vQ wQ hownQ hgrQ
    have G2 := zaa (P2.out.growP [x] hownQ hgrQ)
    rw [← EM.out, ← EP.out] at G2
    have hz3 := G2.out.z
    clear hownQ hgrQ P2 HR2
    go_wp2
    go_roundw
    case rel => exact ⟨m + 1, by omega, by go_num, G2, hz3⟩
    case measure => simp [intOf]; omega
  ·obtain rfl : m = us.length := by omega
   have PL := zaa (apP_place us us.length Z0.out)
   have l1 := apM_len us us.length
   have l2 := apP_len us us.length
   have EE := zaa (show zjz (zdx us) = apM us us.length ++ zbe (apP us us.length) ++ [⟨1, 8, 0⟩] ++ zbe [8] by
    rw [apM_all, apP_all]; simp [zjz, seg, cnt, stM])
   have l3 := zbl (apP us us.length)
   have l4 := zbl [8]
   simp only [List.length_cons, List.length_nil] at l4
   generalize apM us us.length = A at *
   generalize apP us us.length = B at *
   go_wp2_with fail
   refine (zdv _ B _ (zad J.out.p).rd (by omega) PL.out).mono ?_
   rintro e w1 ⟨v1, rfl, hr1, hb1⟩
   have P1 := zaa (J.out.below hb1)
   have R1 := zaa hr1.rd
   have hz1 := P1.out.z
   clear hr1 hb1 J
   go_wp2_with (at_builtin; refine zag _ rfl (.tmp 36) (.tmp 38) 45 rfl w.heap.size 118 (.agg #[.int .i64 0, .int .i64 0, .int .i64 0]) 3 24 Tryz.underlying45 zbn rfl (by decide) _ _ _ rfl P1.out.l _ _ _ rfl R1.out (zck _) (by simp [maxLen]; omega) (by omega) hz1 ?_)
   intro v2 w2 hown2 hgr2
   have P2 := zaa (P1.out.growL _ hown2 hgr2)
   have hz2 := P2.out.z
   have l5 : (A ++ zbe B).length ≤ 200 := by simp; omega
   generalize A ++ zbe B = C at *
   clear hown2 hgr2 P1 R1
   go_wp2_with fail
   refine (zdz _ _ _).mono ?_
   rintro e w3 ⟨rfl, hb3⟩
   have P3 := zaa ((P2.out.below hb3).below ((Below.refl _ _).alloc (Nat.le_refl _) (.cells #[.int .i64 1, .int .i64 8, .int .i64 0] 118)))
   have R3 := zaa (zhf w3 1 8 0)
   have hz3 := P3.out.z
   clear hb3 P2
   go_wp2_with (at_builtin; refine zag _ rfl (.tmp 40) (.tmp 42) 45 rfl w.heap.size 118 (.agg #[.int .i64 0, .int .i64 0, .int .i64 0]) 3 24 Tryz.underlying45 zbn rfl (by decide) _ _ _ rfl P3.out.l _ 1 _ rfl R3.out (zgm _) (by simp [maxLen]; omega) (by omega) hz3 ?_)
   intro v4 w4 hown4 hgr4
   have P4 := zaa (P3.out.growL [⟨1, 8, 0⟩] (by rw [zil]; exact hown4) hgr4)
   have l6 : (C ++ [(⟨1, 8, 0⟩ : Mi)]).length ≤ 201 := by simp; omega
   generalize C ++ [(⟨1, 8, 0⟩ : Mi)] = D at *
   have P5 := zaa (P4.out.below ((Below.refl _ _).alloc (Nat.le_refl _) (.cells #[.int .i64 8] 3)))
   have R5 := zaa (zof w4 8)
   clear hown4 hgr4 P3 R3 P4
   go_wp2_with fail
   refine (zdv _ [8] _ R5.out (by simp) (by intro k h; simp at h; subst h; simp)).mono ?_
   rintro e w6 ⟨v6, rfl, hr6, hb6⟩
   have P6 := zaa (P5.out.below hb6)
   have R6 := zaa hr6.rd
   have hz6 := P6.out.z
   clear hr6 hb6 P5 R5
   go_wp2_with (at_builtin; refine zag _ rfl (.tmp 44) (.tmp 46) 45 rfl w.heap.size 118 (.agg #[.int .i64 0, .int .i64 0, .int .i64 0]) 3 24 Tryz.underlying45 zbn rfl (by decide) _ _ _ rfl P6.out.l _ _ _ rfl R6.out (zck _) (by simp [maxLen]; omega) (by omega) hz6 ?_)
   intro v7 w7 hown7 hgr7
   have P7 := zaa (P6.out.growL _ hown7 hgr7)
   rw [← EE.out] at P7
   obtain ⟨aL, cL, hvL⟩ := RdM.form (zad P7.out.l).rd rfl
   subst hvL
   clear hown7 hgr7 P6 R6
   go_wp2
   go_ret
   exact ⟨_, rfl, zad P7.out.l, P7.out.b⟩
end Go.Proofs.YtcilodgoognmnaaGreatDoor

namespace Go.Proofs.YtcilodgoognmnaaGreatDoor
open Go.RowKit
def ldW (ws : List Int) (ps : List St) (k : Nat) : Int := zjm (k : Int) (ws[k]?.getD 0) ps
theorem ldW_at {ws : List Int} {ps : List St} {k : Nat} (h : k < ws.length) : ldW ws ps k = zjm (k : Int) ws[k] ps := by unfold ldW; simp [h]
end Go.Proofs.YtcilodgoognmnaaGreatDoor
