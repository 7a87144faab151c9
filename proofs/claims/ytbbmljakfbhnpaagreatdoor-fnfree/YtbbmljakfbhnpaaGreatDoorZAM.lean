/- Several texts laid together: PmSeen, CrashS, DrawP, OpenA, AtE, SeenM, MemM, JrD, JrM, JlP. -/
import Derived.Test.YtbbmljakfbhnpaaGreatDoorZAC
import Derived.Test.YtbbmljakfbhnpaaGreatDoorZAB
import Derived.BigRegion
import Derived.Deep.DeepCutAuto
import Derived.Test.YtbbmljakfbhnpaaGreatDoorZAL
import Derived.Test.YtbbmljakfbhnpaaGreatDoorZAD
import Derived.Deep.RegionWith
import Derived.Test.YtbbmljakfbhnpaaGreatDoorZAA
import Derived.ProofKit
import Derived.OpenShut
import Derived.ShutString
import Derived.ChangeOld
import Derived.Lib.SmallJoins
import Derived.Deep.Slices
import Derived.Deep.Strs
import Derived.Test.YtbbmljakfbhnpaaGreatDoorZAF
namespace Go.Proofs.YtbbmljakfbhnpaaGreatDoor
open Go.RowKit


/-- The words with the stores laid one after the other. -/
def zcl (ws : List Int) (ps : List St) : List Int := ps.foldl (fun acc p => acc.set p.at_.toNat p.val) ws
theorem layW_snoc (ws : List Int) (ps : List St) (p : St) : zcl ws (ps ++ [p]) = (zcl ws ps).set p.at_.toNat p.val := by simp [zcl]
theorem zce (ws : List Int) : ∀ ps : List St, (zcl ws ps).length = ws.length := by
 intro ps
 unfold zcl
 induction ps generalizing ws with
 | nil => rfl
 | cons p ps ih => rw [List.foldl_cons, ih]; simp
theorem layW_at : ∀ (ps : List St) (ws : List Int) (k : Nat) (hk : k < ws.length) (_ : ∀ p ∈ ps, 0 ≤ p.at_) (hk' : k < (zcl ws ps).length), (zcl ws ps)[k] = zjx (k : Int) ws[k] ps
 | [], ws, k, hk, _, _ => rfl
 | p :: ps, ws, k, hk, h0, hk' => by
  have hk2 : k < (ws.set p.at_.toNat p.val).length := by simpa using hk
  have := layW_at ps (ws.set p.at_.toNat p.val) k hk2 (fun q hq => h0 q (by simp [hq])) hk'
  show (zcl (ws.set p.at_.toNat p.val) ps)[k] = zjx (k : Int) (if p.at_ = (k : Int) then p.val else ws[k]) ps
  rw [this, List.getElem_set]
  have hp := h0 p (by simp)
  by_cases e : p.at_ = (k : Int)
  ·rw [if_pos (by omega), if_pos e]
  ·rw [if_neg (by omega), if_neg e]

def seenC (ws : List Int) (ps : List St) : Int := if pmB ws ps = true then 0 else 1
def seenZ (ws : List Int) (ps : List St) : List Int := if pmB ws ps = true then zcl ws ps else []
theorem seen_not {ws : List Int} {ps : List St} (h : pmB ws ps = false) : seenC ws ps = 1 ∧ seenZ ws ps = [] := by
 unfold seenC seenZ
 rw [h]
 exact ⟨rfl, rfl⟩
theorem seen_ok {ws : List Int} {ps : List St} (h : pmB ws ps = true) : seenC ws ps = 0 ∧ seenZ ws ps = zcl ws ps := by
 unfold seenC seenZ
 rw [h]
 exact ⟨rfl, rfl⟩

set_option maxRecDepth 100000 in
set_option maxHeartbeats 4000000 in
theorem zpb (v : Value) (ws : List Int) (ps : List St) (w : World) (h : RdPm w v ws ps) (hw : ws.length ≤ 1048576) (hp : ps.length ≤ 1048576) :
  Calls Tryz.prog 53 #[v] w fun e w' => ∃ v', e = .returned (.tuple #[v', .int .i64 (seenC ws ps)]) ∧ Row w' 3 1 w.heap.size w'.heap.size v' (seenZ ws ps).length (zcv (seenZ ws ps)) ∧ Below w.heap.size w w' := by
 have HR := zaa h
 obtain ⟨vW, vP, rfl, h1, h2⟩ := h
 have H1 := zaa h1
 obtain ⟨aW, cW, rfl, _⟩ := h1.shape
 obtain ⟨aP, cP, rfl, _, hcP⟩ := h2.shape
 have HP := zaa hcP
 clear h1 h2 hcP
 have hb0 : Below w.heap.size w (w.alloc (.cells #[.slice aW ws.length cW, .slice aP ps.length cP] 31)) := (Below.refl _ _).alloc (Nat.le_refl _) _
 by_cases hc : pmB ws ps = true
 ·obtain ⟨e1, e2⟩ := seen_ok hc
  rw [e1, e2]
  clear e1 e2
  have OK := zaa (pmB_in hc)
  go_enter Tryz.func53, Tryz.ntmps53
  go_wp2_with fail
  refine (zfk _ ws ps _ (HR.out.below hb0) hw hp).mono ?_
  rintro e w1 ⟨rfl, hb1⟩
  have hz1 : w.heap.size + 1 ≤ w1.heap.size := by have := hb1.size; simp at this; omega
  have V0 := (hb1.block w.heap.size (by simp <;> omega)).trans (zah rfl)
  obtain ⟨x1, x2, x3, x4⟩ := zac V0
  have B1 := zaa (zab hb0 hb1 (by simp <;> omega))
  have VH := zaa V0
  clear hb0 hb1 V0
  go_wp2_with (at_builtin; refine zae _ rfl (.const (.slice none 0 0)) (.tmp 11) 28 rfl w1.heap.size 3 (.int .i64 0) 1 8 Tryz.underlying28 zjv rfl (by decide) _ 0 [] rfl (World.ownsRow_nil _ _ _ _) _ ws.length (zcv ws) rfl (Rd.below H1.out B1.out) (zgh ws) (by simp [maxLen]; omega) (by omega) (Nat.le_refl _) ?_)
  intro v2 w2 hown2 hgr2
  have hown2 : w2.ownsRow w1.heap.size 3 1 v2 ws.length (zcv ws) := by simpa using hown2
  obtain ⟨aW2, cW2, rfl⟩ := RdI.form (zad hown2).rd rfl
  have hz2 : w1.heap.size ≤ w2.heap.size := hgr2.size
  have B2 := B1.out.grown hgr2 (by omega) (fun k hk => by cases hk)
  have V0 := (hgr2.block w.heap.size (by omega) (by simp [Value.ownBlock])).trans VH.out
  obtain ⟨z1, z2, z3, z4⟩ := zac V0
  have START := zaa (And.intro (zad hown2) B2)
  clear x1 x2 x3 x4 hown2 hgr2 B2 V0
  go_wp2
  go_loopw [6, 16] (fun _ i wr => ∃ m : Nat, m ≤ ps.length ∧ i = .int .i64 m ∧ Row wr 3 1 w1.heap.size w2.heap.size (.slice aW2 ws.length cW2) ws.length (zcv (zcl ws (ps.take m))) ∧ Below w.heap.size w wr ∧ w2.heap.size ≤ wr.heap.size) (fun _ i _ => ps.length - (intOf i).toNat)
  case atStart => exact ⟨0, by omega, rfl, START.out.1, START.out.2, Nat.le_refl _⟩
  case round =>
   obtain ⟨m, hm, rfl, hrow, hb, hz⟩ := hrel
   by_cases hlt : m < ps.length
   ·obtain ⟨b, o, rfl, hbl, hcell⟩ := HP.out (by omega)
    obtain ⟨e0, e1, e2⟩ := hcell m hlt
    have d0 := (hb.cell (p := ⟨b, o + m * 3, none⟩) hbl).trans e0
    have d1 := (hb.cell (p := ⟨b, o + m * 3 + 1, none⟩) hbl).trans e1
    have d2 := (hb.cell (p := ⟨b, o + m * 3 + 2, none⟩) hbl).trans e2
    obtain ⟨q0, q1⟩ := OK.out m hlt
    obtain ⟨_, aw', cw', ew', _, hcw⟩ := hrow.rd
    cases ew'
    obtain ⟨bw, ow, rfl, hblw, _⟩ := hcw (by omega)
    obtain ⟨rfl, hb1, _, _, hfrw, hclw⟩ := (hrow.alloc hz (.cells #[.int .i64 ps[m].at_, .int .i64 ps[m].val, .bool ps[m].fl] 136)).at
    have hj : ps[m].at_.toNat < (zcl ws (ps.take m)).length := by rw [zce]; omega
    have g0 := hfrw ps[m].at_.toNat
    have g1 := (hclw ps[m].at_.toNat (by omega)).trans (zcs _ _ hj)
    have F : Hid (Row ((wr.setCell ⟨bw, ps[m].at_.toNat, none⟩ (.int .i64 ps[m].val)).alloc (.cells #[.int .i64 ps[m].at_, .int .i64 ps[m].val, .bool ps[m].fl] 136)) 3 1 w1.heap.size w2.heap.size (.slice (some ⟨bw, 0, none⟩) ws.length cW2) ws.length (zcv (zcl ws (ps.take (m + 1))))) := by
     rw [zfv ps m hlt, layW_snoc, ← zhk]
     exact (hrow.stored _ _).alloc (by simp; omega) _
    have G := zaa ((hb.setCell (p := ⟨bw, ps[m].at_.toNat, none⟩) (by simp only; omega) (.int .i64 ps[m].val)).alloc (by simp; omega) (.cells #[.int .i64 ps[m].at_, .int .i64 ps[m].val, .bool ps[m].fl] 136))
    clear hrow hcell e0 e1 e2 hcw hfrw hclw
    go_wp2
    go_roundw
    case rel => exact ⟨m + 1, by omega, by go_num, F.out, G.out, by simp; omega⟩
    case measure => simp [intOf]; omega
   ·have e : m = ps.length := by omega
    subst e
    have R := zaa hrow
    clear hrow
    go_wp2
    go_ret2
    refine ⟨_, rfl, ?_, hb⟩
    have := R.out
    rw [List.take_length] at this
    rw [zce]
    exact this.wide (by omega) hz
 ·have hc' : pmB ws ps = false := by simpa using hc
  clear hc
  obtain ⟨e1, e2⟩ := seen_not hc'
  rw [e1, e2]
  clear e1 e2
  go_enter Tryz.func53, Tryz.ntmps53
  go_wp2_with fail
  refine (zfk _ ws ps _ (HR.out.below hb0) hw hp).mono ?_
  rintro e w1 ⟨rfl, hb1⟩
  have B1 := zaa (zab hb0 hb1 (by simp <;> omega))
  clear hb0 hb1
  go_wp2
  go_ret2
  exact ⟨_, rfl, Row.nil _ _ _ _ _, B1.out⟩
end Go.Proofs.YtbbmljakfbhnpaaGreatDoor

namespace Go.Proofs.YtbbmljakfbhnpaaGreatDoor
open Go.RowKit

/-- In the midst of the model's crash: the words so far, the stores, the places. -/
structure CrInv (w wr : World) (n : Nat) (X : List Int) (ps : List St) (us : List Int) (lo hi hi2 : Nat) (vW vP vU : Value) : Prop where
 words : Row wr 3 1 lo hi vW n (zcv X)
 pend : Row wr 136 3 lo hi vP ps.length (sts ps)
 plc : Row wr 3 1 hi hi2 vU us.length (zcv us)
 box : wr.heap[w.heap.size]? = some (.cells #[vW, vP] 31 (0, 0))
 res : wr.heap[w.heap.size + 1]? = some (.cells #[.slice none 0 0, .slice none 0 0] 31 (0, 0))
 below : Below w.heap.size w wr
 size : hi2 ≤ wr.heap.size

theorem CrInv.drewN {w wr : World} {n : Nat} {X : List Int} {ps : List St} {us : List Int} {lo hi hi2 : Nat} {vW vP vU : Value} (h : CrInv w wr n X ps us lo hi hi2 vW vP vU) (m : Nat) : CrInv w (wr.drewN m) n X ps us lo hi hi2 vW vP vU := by
 obtain ⟨h1, h2, h3, h4, h5, h6, h7⟩ := h
 exact ⟨h1.same (fun _ _ _ => rfl), h2.same (fun _ _ _ => rfl), h3.same (fun _ _ _ => rfl), h4, h5, below_drewN h6 m, h7⟩
theorem CrInv.drew {w wr : World} {n : Nat} {X : List Int} {ps : List St} {us : List Int} {lo hi hi2 : Nat} {vW vP vU : Value} (h : CrInv w wr n X ps us lo hi hi2 vW vP vU) : CrInv w wr.drew n X ps us lo hi hi2 vW vP vU := by
 obtain ⟨h1, h2, h3, h4, h5, h6, h7⟩ := h
 exact ⟨h1.same (fun _ _ _ => rfl), h2.same (fun _ _ _ => rfl), h3.same (fun _ _ _ => rfl), h4, h5, h6.drew, h7⟩
theorem CrInv.store {w wr : World} {n : Nat} {X : List Int} {ps : List St} {us : List Int} {lo hi hi2 : Nat} {b cap : Nat} {vP vU : Value} (h : CrInv w wr n X ps us lo hi hi2 (.slice (some ⟨b, 0, none⟩) n cap) vP vU) (hlo : w.heap.size + 2 ≤ lo) (a : Nat) (x : Int) :
  CrInv w (wr.setCell ⟨b, a, none⟩ (.int .i64 x)) n (X.set a x) ps us lo hi hi2 (.slice (some ⟨b, 0, none⟩) n cap) vP vU := by
 obtain ⟨h1, h2, h3, h4, h5, h6, h7⟩ := h
 obtain ⟨_, hb1, hb2, _⟩ := h1.at
 refine ⟨?_, h2.apart h1 (by decide) (World.ownsRow.stored h1.1 _ _).2, h3.same (fun k hk _ => Below.heap_setCell _ _ _ _ (by simp only; omega)), ?_, ?_, h6.setCell (by simp only; omega) _, by simp; omega⟩
 ·rw [← zhk]; exact h1.stored _ _
 ·rw [Below.heap_setCell _ _ _ _ (by simp only; omega)]; exact h4
 ·rw [Below.heap_setCell _ _ _ _ (by simp only; omega)]; exact h5

end Go.Proofs.YtbbmljakfbhnpaaGreatDoor

namespace Go.Proofs.YtbbmljakfbhnpaaGreatDoor
open Go.RowKit

/-- A memory that the document allows, with at most n stores. -/
structure PmP (ws : List Int) (ps : List St) (n : Nat) : Prop where
 len : ws.length = 336
 few : ps.length ≤ n
 word : ∀ z ∈ ws, 0 ≤ z ∧ z < 1099511627776
 store : ∀ p ∈ ps, (0 ≤ p.at_ ∧ p.at_ < 336) ∧ 0 ≤ p.val ∧ p.val < 1099511627776
 ord : ps.Pairwise (fun p q => p.at_ = q.at_ → q.fl = true → p.fl = true)
theorem PmP.ok {ws : List Int} {ps : List St} {n : Nat} (h : PmP ws ps n) (hn : n ≤ 400) : pmB ws ps = true :=
 pmB_mk h.len (Nat.le_trans h.few hn) (fun _ hk => decide_eq_true (h.word _ (List.getElem_mem hk))) (fun _ hk => ⟨decide_eq_true (h.store _ (List.getElem_mem hk)).1, decide_eq_true (h.store _ (List.getElem_mem hk)).2⟩)
theorem PmP.at {ws : List Int} {ps : List St} {n : Nat} (h : PmP ws ps n) : ∀ j (hj : j < ps.length), 0 ≤ ps[j].at_ ∧ ps[j].at_ < 336 := fun _ hj => (h.store _ (List.getElem_mem hj)).1
theorem PmP.more {ws : List Int} {ps : List St} {n m : Nat} (h : PmP ws ps n) (hm : n ≤ m) : PmP ws ps m := ⟨h.len, Nat.le_trans h.few hm, h.word, h.store, h.ord⟩
/-- A memory that can be read lies in no block that is too small for it, or has no such cells: what is written there does not reach it. -/
theorem RdPm.away {w w' : World} {b : Nat} {v : Value} {ws : List Int} {ps : List St} {cs : Array Value} {t : TypeId} {fr : Nat × Nat} (h : RdPm w v ws ps) (hl : ws.length = 336) (hb : w.heap[b]? = some (.cells cs t fr)) (hcs : ∀ o f, cs[o + 3]? = none ∧ ¬ cs[o + 2]? = some (.bool f)) (hz : w.heap.size ≤ w'.heap.size) (ho : ∀ j, j < w.heap.size → ¬ j = b → w'.heap[j]? = w.heap[j]?) : RdPm w' v ws ps := by
 obtain ⟨vW, vP, rfl, h1, h2⟩ := h
 refine ⟨vW, vP, rfl, h1.same hz (fun j hj he => ho j hj (fun e => ?_)), ?_⟩
 ·subst e
  obtain ⟨_, ao, cap, rfl, _, hc⟩ := h1
  obtain ⟨b', o, rfl, _, hc⟩ := hc (by omega)
  simp only [Value.ownBlock, Option.some.injEq] at he
  subst he
  have := hc 3 (by omega)
  rw [zcs ws 3 (by omega)] at this
  simp only [World.cell?, hb] at this
  have e := (hcs o true).1
  simp_all
 ·by_cases hp : 0 < ps.length
  ·refine h2.same hz (fun j hj he => ho j hj (fun e => ?_))
   subst e
   obtain ⟨_, ao, cap, rfl, _, hc⟩ := h2
   obtain ⟨b', o, rfl, _, hc⟩ := hc hp
   simp only [Value.ownBlock, Option.some.injEq] at he
   subst he
   have := hc 2 (by omega)
   rw [show (2 : Nat) = 0 * 3 + 2 by omega, zqd ps 0 hp] at this
   simp only [World.cell?, hb] at this
   have e := (hcs o ps[0].fl).2
   simp_all
  ·obtain ⟨h3, ao, cap, rfl, h4, _⟩ := h2
   exact ⟨h3, ao, cap, rfl, h4, fun h => absurd h hp⟩
theorem RdPm.source {w0 w w' : World} {b k : Nat} {vC v : Value} {bs ws : List Int} {ps : List St} (h : RdPm w v ws ps) (hl : ws.length = 336) (hs : Src w0 w b vC bs k) (ho : Outside b (b + 1) w w') : RdPm w' v ws ps := by
 obtain ⟨_, _, _, _, _, _, hb⟩ := hs.cells
 refine h.away hl hb (fun o f => ⟨by simp, ?_⟩) ho.size (fun j hj hne => ho.block j hj (by omega))
 match o with
 | 0 => simp
 | o + 1 => simp
/-- In the midst of drawing a memory. -/
structure PmInv (w0 w wr : World) (b : Nat) (vC : Value) (bs : List Int) (q : Nat) (ws : List Int) (ps : List St) (n : Nat) (vW vP : Value) : Prop where
 pm : PmP ws ps n
 rd : RdPm wr (.agg #[vW, vP]) ws ps
 box : wr.heap[w.heap.size + 1 + 1 + 1]? = some (.cells #[vW, vP] 31 (0, 0))
 res : wr.heap[w.heap.size]? = some (.cells #[.slice none 0 0, .slice none 0 0] 31 (0, 0))
 src : Src w0 wr b vC bs q
 out : Outside b (b + 1) w wr
 size : w.heap.size + 4 ≤ wr.heap.size
 old : b < w.heap.size
theorem PmInv.next {w0 w wr w' : World} {b : Nat} {vC : Value} {bs : List Int} {q q' : Nat} {ws : List Int} {ps : List St} {n : Nat} {vW vP : Value} (h : PmInv w0 w wr b vC bs q ws ps n vW vP) (hs : Src w0 w' b vC bs q') (ho : Outside b (b + 1) wr w') : PmInv w0 w w' b vC bs q' ws ps n vW vP := by
 have hz := h.size
 have ho' := h.old
 exact ⟨h.pm, h.rd.source h.pm.len h.src ho, (ho.block _ (by omega) (.inr (by omega))).trans h.box, (ho.block _ (by omega) (.inr (by omega))).trans h.res, hs, h.out.trans ho, Nat.le_trans hz ho.size, ho'⟩
theorem PmInv.drew {w0 w wr : World} {b : Nat} {vC : Value} {bs : List Int} {q : Nat} {ws : List Int} {ps : List St} {n : Nat} {vW vP : Value} (h : PmInv w0 w wr b vC bs q ws ps n vW vP) : PmInv w0 w wr.drew b vC bs q ws ps n vW vP :=
 h.next (h.src.outside (lo := b + 1) (hi := b + 1) ((Outside.refl _ _ wr).drewN 1) (.inl (by omega)) (by have := h.src.old; omega)) ((Outside.refl _ _ wr).drewN 1)
theorem PmInv.some {w0 w wr : World} {b : Nat} {vC : Value} {bs : List Int} {q q' : Nat} {ws : List Int} {ps : List St} {n : Nat} {vW vP : Value} (h : PmInv w0 w wr b vC bs q ws ps n vW vP) (hq : q ≤ q') : PmInv w0 w wr b vC bs q' ws ps n vW vP :=
 ⟨h.pm, h.rd, h.box, h.res, h.src.more hq, h.out, h.size, h.old⟩

end Go.Proofs.YtbbmljakfbhnpaaGreatDoor

namespace Go.Proofs.YtbbmljakfbhnpaaGreatDoor
open Go.ChangeShapes Go.WideShapes Go.ChangeAt Go.RowKit Go.Joins

theorem own : ownKnob Tryz.prog.godebug = none := by kernel_rfl
theorem zrt : laidOutB Tryz.prog = true := by kernel_rfl
theorem cells3 : Tryz.prog.cellsOf 3 = 1 := by kernel_rfl
section

variable {H : Type} {enc : TypeId × Value → H} {W : World} {sp : Nat → Bool} {held : Bool} {fuel : Nat} {v : Value} {y : DataW H × List MemPlace}

end

end Go.Proofs.YtbbmljakfbhnpaaGreatDoor

namespace Go.Proofs.YtbbmljakfbhnpaaGreatDoor
open Go.ChangeShapes Go.WideShapes Go.ChangeAt Go.RowKit Go.Joins

theorem Below.drewN'' {B : Nat} {a w : World} (h : Below B a w) (n : Nat) : Below B a (w.drewN n) := by
 induction n with
 | zero => exact h
 | succ n ih => exact ⟨ih.os, ih.tape, ih.output, ih.size, ih.block⟩

theorem cells5 : Tryz.prog.cellsOf 5 = 1 := by kernel_rfl
section
variable {H : Type} {enc : TypeId × Value → H} {W : World} {sp : Nat → Bool} {held : Bool} {fuel : Nat} {v : Value} {y : DataW H × List MemPlace}
theorem wf_u8 {z : Int} (h : (Lit.int .u8 z).wf = true) : 0 ≤ z ∧ z < 256 := by
 have h1 : IntKind.u8.min ≤ z ∧ z ≤ IntKind.u8.max := by simpa [Lit.wf] using h
 have a : IntKind.u8.min = 0 := by rfl
 have b : IntKind.u8.max = 255 := by rfl
 omega
theorem open_RdB (h : DataW.trod enc Tryz.prog W 0 sp held fuel 22 [v] = some y) : ∃ zs : List Int, RdB W v zs ∧ zs.length ≤ maxLen := by
 rcases open_ints Tryz.underlying22 Tryz.underlying5 cells5 h with ⟨hcs, _⟩ | ⟨a, len, cap, zs, hcs, _, hl, hm, hz, _, hcell, hwz⟩
 ·simp only [List.cons.injEq, and_true] at hcs
  subst hcs
  exact ⟨[], ⟨⟨rfl, none, 0, rfl, ⟨Nat.le_refl _, fun _ => rfl⟩, fun h => absurd h (by simp)⟩, fun k hk => by simp at hk⟩, by simp⟩
 ·simp only [List.cons.injEq, and_true] at hcs
  subst hcs
  have hzl : len ≤ zs.length := by rw [hz]; split <;> omega
  have e : (zs.take len).length = len := by simp; omega
  refine ⟨zs.take len, ⟨⟨by simp [bys], some a, cap, by rw [e], ⟨by rw [e]; exact hl, fun e => by cases e⟩, fun hn => ?_⟩, fun k hk => wf_u8 (hwz _ (List.mem_of_mem_take (List.getElem_mem hk)))⟩, by rw [e]; omega⟩
  rw [e] at hn
  obtain ⟨b, off, spot⟩ := a
  have hc := hcell 0 (by omega)
  have hspot : spot = none := by simpa [Addr.add] using World.cell?_spot hc
  subst hspot
  refine ⟨b, off, rfl, World.block_lt_of_cell? W _ (by simpa [Addr.add] using hc), fun j hj => ?_⟩
  rw [e] at hj
  have hc := hcell j (by omega)
  rw [Addr.add_lit] at hc
  rw [hc, bys_at _ j (by rw [e]; omega)]
  simp [List.getD, show j < zs.length by omega]
end
end Go.Proofs.YtbbmljakfbhnpaaGreatDoor

namespace Go.Proofs.YtbbmljakfbhnpaaGreatDoor
open Go.RowKit

theorem zla {a w : World} (h : Below a.heap.size a w) (o : Obj) : Below a.heap.size a (w.alloc o) := h.alloc h.size o

/-- Behind the region that draws a place and flushes there. -/
structure CutF (w3 wx : World) (ws : List Int) (ps : List St) (k : Int) (aW aP : Option Addr) (cW cP bx : Nat) : Prop where
 k0 : 0 ≤ k
 k1 : k < 336
 lo : w3.heap.size ≤ bx
 hi : bx < wx.heap.size
 box : wx.heap[bx]? = some (.cells #[.slice aW 336 cW, .slice aP ps.length cP] 31 (0, 0))
 rd : RdPm wx (.agg #[.slice aW 336 cW, .slice aP ps.length cP]) ws (ps.map (fl1 k))
 below : Below w3.heap.size w3 wx
theorem CutF.drew {w3 wx : World} {ws : List Int} {ps : List St} {k : Int} {aW aP : Option Addr} {cW cP bx : Nat} (h : CutF w3 wx ws ps k aW aP cW cP bx) : CutF w3 wx.drew ws ps k aW aP cW cP bx :=
 ⟨h.k0, h.k1, h.lo, h.hi, h.box, h.rd.below ((Below.refl _ _).drew), h.below.drew⟩
theorem CutF.new {w3 wf : World} {ws : List Int} {ps : List St} {k : Int} {aW aP : Option Addr} {cW cP : Nat} (k0 : 0 ≤ k) (k1 : k < 336) (hr : RdPm wf (.agg #[.slice aW 336 cW, .slice aP ps.length cP]) ws (ps.map (fl1 k))) (hb : Below w3.heap.size w3 wf) : CutF w3 (wf.alloc (.cells #[.slice aW 336 cW, .slice aP ps.length cP] 31)) ws ps k aW aP cW cP wf.heap.size :=
 ⟨k0, k1, hb.size, by simp, zah rfl, hr.below ((Below.refl _ _).alloc (Nat.le_refl _) _), zla hb _⟩
end Go.Proofs.YtbbmljakfbhnpaaGreatDoor

namespace Go.Proofs.YtbbmljakfbhnpaaGreatDoor
open Go.RowKit

/-- Behind a region that draws what is kept, and crashes. -/
structure CutC (w0 wx : World) (X : List Int) (aW aP : Option Addr) (cW cP bx : Nat) : Prop where
 lo : w0.heap.size ≤ bx
 hi : bx < wx.heap.size
 box : wx.heap[bx]? = some (.cells #[.slice aW 336 cW, .slice aP 0 cP] 31 (0, 0))
 rd : RdPm wx (.agg #[.slice aW 336 cW, .slice aP 0 cP]) X []
 below : Below w0.heap.size w0 wx
theorem CutC.drew {w0 wx : World} {X : List Int} {aW aP : Option Addr} {cW cP bx : Nat} (h : CutC w0 wx X aW aP cW cP bx) : CutC w0 wx.drew X aW aP cW cP bx :=
 ⟨h.lo, h.hi, h.box, h.rd.below ((Below.refl _ _).drew), h.below.drew⟩
theorem CutC.new {w0 wf : World} {X : List Int} {aW aP : Option Addr} {cW cP : Nat} (hr : RdPm wf (.agg #[.slice aW 336 cW, .slice aP 0 cP]) X []) (hb : Below w0.heap.size w0 wf) : CutC w0 (wf.alloc (.cells #[.slice aW 336 cW, .slice aP 0 cP] 31)) X aW aP cW cP wf.heap.size :=
 ⟨hb.size, by simp, zah rfl, hr.below ((Below.refl _ _).alloc (Nat.le_refl _) _), zla hb _⟩
end Go.Proofs.YtbbmljakfbhnpaaGreatDoor

namespace Go.Proofs.YtbbmljakfbhnpaaGreatDoor

/-- An update: a place and a value; as a store that is not flushed. -/
def up (a v : Int) : St := ⟨a, v, false⟩
def stM (p : St) : Mi := ⟨1, p.at_, p.val⟩
/-- The flushes of the first places: one for each line that no place ahead has. -/
def knownL (ks : List Int) (i : Nat) : Bool := (List.range i).any (fun k => ks[k]?.getD 0 / 8 == ks[i]?.getD 0 / 8)
def nl (ks : List Int) : Nat → List Mi
 | 0 => []
 | i + 1 => if knownL ks i = true then nl ks i else nl ks i ++ [⟨2, ks[i]?.getD 0, 0⟩]
def zbh (ks : List Int) : List Mi := nl ks ks.length ++ [⟨3, 0, 0⟩]
/-- Stores, then their lines flushed, then a fence. -/
def seg (S : List St) : List Mi := S.map stM ++ zbh (S.map (·.at_))
/-- The updates as they stand in the journal. -/
def jrn : Nat → List St → List St
 | _, [] => []
 | i, u :: us => ⟨9 + 2 * (i : Int), u.at_, false⟩ :: ⟨9 + 2 * (i : Int) + 1, u.val, false⟩ :: jrn (i + 1) us
def cnt (n : Int) : List St := [⟨8, n, false⟩]
def zhw (us : List St) : List Mi := seg us ++ seg (cnt 0)
def zds (us : List St) : List Mi := if us.length = 0 then [] else seg (jrn 0 us) ++ seg (cnt (us.length : Int)) ++ zhw us
end Go.Proofs.YtbbmljakfbhnpaaGreatDoor

namespace Go.Proofs.YtbbmljakfbhnpaaGreatDoor


/-- What a step does to a memory. -/
def zqu (s : List Int × List St) (m : Mi) : List Int × List St :=
 if m.kind = 1 then (s.1, s.2 ++ [⟨m.at_, m.val, false⟩]) else if m.kind = 2 then (s.1, s.2.map (fl1 m.at_)) else if m.kind = 3 then (zna s.1 s.2, zks s.2) else s
def zno (s : List Int × List St) (l : List Mi) : List Int × List St := l.foldl zqu s
theorem runM_nil (s : List Int × List St) : zno s [] = s := rfl
theorem ziw (s : List Int × List St) (m : Mi) (l : List Mi) : zno s (m :: l) = zno (zqu s m) l := rfl
theorem zdi (s : List Int × List St) (l l' : List Mi) : zno s (l ++ l') = zno (zno s l) l' := by simp [zno]
theorem zvk (s : List Int × List St) (p : St) : zqu s (stM p) = (s.1, s.2 ++ [⟨p.at_, p.val, false⟩]) := if_pos rfl
theorem step1_flush (s : List Int × List St) (a : Int) : zqu s ⟨2, a, 0⟩ = (s.1, s.2.map (fl1 a)) := by
 unfold zqu
 rw [if_neg (show ¬ (2 : Int) = 1 by decide), if_pos rfl]
theorem zwi (s : List Int × List St) : zqu s ⟨3, 0, 0⟩ = (zna s.1 s.2, zks s.2) := by
 unfold zqu
 rw [if_neg (by decide), if_neg (by decide), if_pos rfl]

theorem zra (ks : List Int) : ∀ i, ∀ m ∈ nl ks i, m = ⟨2, m.at_, 0⟩
 | 0, m, h => by cases h
 | i + 1, m, h => by
  rw [nl] at h
  split at h
  ·exact zra ks i m h
  ·rcases List.mem_append.1 h with h | h
   ·exact zra ks i m h
   ·rw [List.mem_singleton.1 h]
theorem nl_has (ks : List Int) : ∀ i k, k < i → ∃ m ∈ nl ks i, m.at_ / 8 = ks[k]?.getD 0 / 8
 | 0, k, h => absurd h (by omega)
 | i + 1, k, h => by
  rw [nl]
  by_cases e : k < i
  ·obtain ⟨m, hm, e⟩ := nl_has ks i k e
   split
   ·exact ⟨m, hm, e⟩
   ·exact ⟨m, List.mem_append_left _ hm, e⟩
  ·obtain rfl : k = i := by omega
   split
   ·rename_i hk
    simp only [knownL, List.any_eq_true, List.mem_range, beq_iff_eq] at hk
    obtain ⟨j, hj, e⟩ := hk
    obtain ⟨m, hm, e2⟩ := nl_has ks k j hj
    exact ⟨m, hm, e2.trans e⟩
   ·exact ⟨_, List.mem_append_right _ (List.mem_singleton.2 rfl), rfl⟩

/-- Behind some flushes: the words are as they were, each store stands, and is flushed if its line was. -/
theorem zoi : ∀ (l : List Mi) (s : List Int × List St), (∀ m ∈ l, m = ⟨2, m.at_, 0⟩) → ∃ g : St → St, zno s l = (s.1, s.2.map g) ∧ (∀ p, (g p).at_ = p.at_ ∧ (g p).val = p.val ∧ (p.fl = true → (g p).fl = true)) ∧ ∀ p, (∃ m ∈ l, m.at_ / 8 = p.at_ / 8) → (g p).fl = true
 | [], s, _ => ⟨id, by simp [zno], fun p => ⟨rfl, rfl, id⟩, fun p h => by obtain ⟨m, hm, _⟩ := h; cases hm⟩
 | m :: l, s, h => by
  have hm := h m (by simp)
  obtain ⟨g, e, h1, h2⟩ := zoi l (s.1, s.2.map (fl1 m.at_)) (fun x hx => h x (by simp [hx]))
  have hf : ∀ p : St, (fl1 m.at_ p).at_ = p.at_ ∧ (fl1 m.at_ p).val = p.val ∧ (p.fl = true → (fl1 m.at_ p).fl = true) := fun p => by
   unfold fl1
   split
   ·exact ⟨rfl, rfl, fun _ => rfl⟩
   ·exact ⟨rfl, rfl, id⟩
  refine ⟨fun p => g (fl1 m.at_ p), ?_, fun p => ?_, fun p hp => ?_⟩
  ·rw [ziw, hm, step1_flush]
   show zno (s.1, s.2.map (fl1 m.at_)) l = _
   rw [e, List.map_map]
   rfl
  ·have a := h1 (fl1 m.at_ p)
   have b := hf p
   exact ⟨a.1.trans b.1, a.2.1.trans b.2.1, fun x => a.2.2 (b.2.2 x)⟩
  ·obtain ⟨x, hx, e2⟩ := hp
   rcases List.mem_cons.1 hx with rfl | hx
   ·apply (h1 _).2.2
    unfold fl1
    rw [if_pos e2.symm]
   ·apply h2
    exact ⟨x, hx, by rw [(hf p).1]; exact e2⟩
theorem fen_all : ∀ (ps : List St) (ws : List Int), (∀ p ∈ ps, p.fl = true) → zna ws ps = zcl ws ps ∧ zks ps = []
 | [], _, _ => ⟨rfl, rfl⟩
 | p :: ps, ws, h => by
  have hp := h p (by simp)
  have ih := fen_all ps (ws.set p.at_.toNat p.val) (fun q hq => h q (by simp [hq]))
  refine ⟨?_, ?_⟩
  ·show zna (if p.fl then ws.set p.at_.toNat p.val else ws) ps = zcl (ws.set p.at_.toNat p.val) ps
   rw [hp]
   exact ih.1
  ·unfold zks at ih ⊢
   rw [List.filter_cons, hp]
   exact ih.2
theorem layW_map (g : St → St) (hg : ∀ p, (g p).at_ = p.at_ ∧ (g p).val = p.val) : ∀ (ps : List St) (ws : List Int), zcl ws (ps.map g) = zcl ws ps
 | [], _ => rfl
 | p :: ps, ws => by
  show zcl (ws.set (g p).at_.toNat (g p).val) (ps.map g) = zcl (ws.set p.at_.toNat p.val) ps
  rw [(hg p).1, (hg p).2]
  exact layW_map g hg ps _

theorem zpp : ∀ (S : List St) (s : List Int × List St), zno s (S.map stM) = (s.1, s.2 ++ S.map (fun p => (⟨p.at_, p.val, false⟩ : St)))
 | [], s => by simp [zno]
 | p :: S, s => by
  rw [List.map_cons, ziw, zvk, zpp S]
  simp
theorem zij (S : List St) (ws : List Int) : zno (ws, []) (seg S) = (zcl ws S, []) := by
 have e0 : zno (ws, []) (S.map stM) = (ws, S.map (fun p => (⟨p.at_, p.val, false⟩ : St))) := by rw [zpp]; simp
 unfold seg zbh
 rw [zdi, e0, zdi]
 obtain ⟨g, e, h1, h2⟩ := zoi (nl (S.map (·.at_)) (S.map (·.at_)).length) (ws, S.map (fun p => (⟨p.at_, p.val, false⟩ : St))) (zra _ _)
 rw [e, ziw, runM_nil, zwi]
 have hall : ∀ p ∈ (S.map (fun p => (⟨p.at_, p.val, false⟩ : St))).map g, p.fl = true := by
  intro p hp
  rw [List.map_map, List.mem_map] at hp
  obtain ⟨q, hq, rfl⟩ := hp
  apply h2
  obtain ⟨i, hi, rfl⟩ := List.getElem_of_mem hq
  obtain ⟨m, hm, e2⟩ := nl_has (S.map (·.at_)) (S.map (·.at_)).length i (by simpa using hi)
  refine ⟨m, hm, ?_⟩
  rw [e2]
  simp [hi]
 have f := fen_all _ ws hall
 show (zna ws ((S.map (fun p => (⟨p.at_, p.val, false⟩ : St))).map g), zks _) = _
 rw [f.1, f.2, List.map_map, layW_map (g ∘ fun p => (⟨p.at_, p.val, false⟩ : St)) (fun p => ⟨(h1 _).1, (h1 _).2.1⟩)]

theorem jrn_at : ∀ (us : List St) (i : Nat), ∀ p ∈ jrn i us, 9 + 2 * (i : Int) ≤ p.at_ ∧ p.at_ < 9 + 2 * ((i + us.length : Nat) : Int)
 | [], _, p, h => by cases h
 | u :: us, i, p, h => by
  rw [jrn] at h
  simp only [List.length_cons]
  rcases List.mem_cons.1 h with rfl | h
  ·exact ⟨Int.le_refl _, by show 9 + 2 * (i : Int) < _; omega⟩
  ·rcases List.mem_cons.1 h with rfl | h
   ·exact ⟨by show _ ≤ 9 + 2 * (i : Int) + 1; omega, by show 9 + 2 * (i : Int) + 1 < _; omega⟩
   ·have := jrn_at us (i + 1) p h
    omega
end Go.Proofs.YtbbmljakfbhnpaaGreatDoor

namespace Go.Proofs.YtbbmljakfbhnpaaGreatDoor
open Go.RowKit

/-- A step that is right, and of the memory. -/
def StOK (m : Mi) : Prop := miB m = true ∧ (m.kind = 1 ∨ m.kind = 2 ∨ m.kind = 3)
theorem nl_mem (ks : List Int) : ∀ i, i ≤ ks.length → ∀ m ∈ nl ks i, ∃ k, k < ks.length ∧ m.at_ = ks[k]?.getD 0
 | 0, _, m, h => by cases h
 | i + 1, hi, m, h => by
  rw [nl] at h
  split at h
  ·exact nl_mem ks i (by omega) m h
  ·rcases List.mem_append.1 h with h | h
   ·exact nl_mem ks i (by omega) m h
   ·rw [List.mem_singleton.1 h]; exact ⟨i, by omega, rfl⟩
theorem ztq {S : List St} (h : ∀ p ∈ S, (0 ≤ p.at_ ∧ p.at_ < 336) ∧ 0 ≤ p.val ∧ p.val < 1099511627776) : ∀ m ∈ seg S, StOK m := by
 intro m hm
 unfold seg zbh at hm
 rcases List.mem_append.1 hm with hm | hm
 ·obtain ⟨p, hp, rfl⟩ := List.mem_map.1 hm
  have := h p hp
  exact ⟨(zku 1 p.at_ p.val).2 (.inl ⟨rfl, this⟩), .inl rfl⟩
 ·rcases List.mem_append.1 hm with hm | hm
  ·have e := zra _ _ m hm
   obtain ⟨k, hk, ek⟩ := nl_mem _ _ (Nat.le_refl _) m hm
   have : ∃ p ∈ S, m.at_ = p.at_ := by
    rw [List.length_map] at hk
    exact ⟨S[k], List.getElem_mem hk, by rw [ek, List.getElem?_map, List.getElem?_eq_getElem hk]; rfl⟩
   obtain ⟨p, hp, ep⟩ := this
   rw [e]
   have := h p hp
   exact ⟨(zku 2 m.at_ 0).2 (.inr (.inl ⟨rfl, by rw [ep]; exact this.1, rfl⟩)), .inr (.inl rfl)⟩
  ·rw [List.mem_singleton.1 hm]
   exact ⟨(zku 3 0 0).2 (.inr (.inr (.inr ⟨.inl rfl, rfl, rfl⟩))), .inr (.inr rfl)⟩
theorem jrn_val : ∀ (us : List St) (i : Nat), (∀ p ∈ us, (48 ≤ p.at_ ∧ p.at_ < 336) ∧ 0 ≤ p.val ∧ p.val < 1099511627776) → ∀ p ∈ jrn i us, 0 ≤ p.val ∧ p.val < 1099511627776
 | [], _, _, p, h => by cases h
 | u :: us, i, hu, p, h => by
  rw [jrn] at h
  have h0 := hu u List.mem_cons_self
  rcases List.mem_cons.1 h with rfl | h
  ·exact ⟨by show 0 ≤ u.at_; omega, by show u.at_ < _; omega⟩
  ·rcases List.mem_cons.1 h with rfl | h
   ·exact ⟨by show 0 ≤ u.val; omega, by show u.val < _; omega⟩
   ·exact jrn_val us (i + 1) (fun q hq => hu q (List.mem_cons_of_mem _ hq)) p h
theorem cnt_ok (n : Int) (h : 0 ≤ n ∧ n < 1099511627776) : ∀ p ∈ cnt n, (0 ≤ p.at_ ∧ p.at_ < 336) ∧ 0 ≤ p.val ∧ p.val < 1099511627776 := by
 intro p hp
 rw [List.mem_singleton.1 hp]
 exact ⟨⟨by show (0 : Int) ≤ 8; omega, by show (8 : Int) < 336; omega⟩, h⟩
end Go.Proofs.YtbbmljakfbhnpaaGreatDoor
