/- Several texts laid together: CrashS, DrawP, OpenA, AtE, SeenM, MemM, JrD, JrM, JlP. -/
import Derived.Test.YtbbmljakfbhnpaaGreatDoorZAR
import Derived.Test.YtbbmljakfbhnpaaGreatDoorZAE
import Derived.Test.YtbbmljakfbhnpaaGreatDoorZAT
import Derived.BigRegion
import Derived.Deep.DeepCutAuto
import Derived.Test.YtbbmljakfbhnpaaGreatDoorZAW
import Derived.Test.YtbbmljakfbhnpaaGreatDoorZAU
import Derived.Deep.RegionWith
import Derived.Test.YtbbmljakfbhnpaaGreatDoorZAA
import Derived.ProofKit
import Derived.OpenShut
import Derived.ShutString
import Derived.ChangeOld
import Derived.Lib.SmallJoins
import Derived.Deep.Slices
import Derived.Deep.Strs
import Derived.Test.YtbbmljakfbhnpaaGreatDoorZAQ
import Derived.Test.YtbbmljakfbhnpaaGreatDoorZAD
import Derived.Test.YtbbmljakfbhnpaaGreatDoorZAS
namespace Go.Proofs.YtbbmljakfbhnpaaGreatDoor
open Go.RowKit

/-- In the midst of the model's crash: the words so far, the stores, the places. -/
structure CrInv (w wr : World) (n : Nat) (X : List Int) (ps : List St) (us : List Int) (lo hi hi2 : Nat) (vW vP vU : Value) : Prop where
 words : Row wr 3 1 lo hi vW n (zco X)
 pend : Row wr 136 3 lo hi vP ps.length (sts ps)
 plc : Row wr 3 1 hi hi2 vU us.length (zco us)
 box : wr.heap[w.heap.size]? = some (.cells #[vW, vP] 31 (0, 0))
 res : wr.heap[w.heap.size + 1]? = some (.cells #[.slice none 0 0, .slice none 0 0] 31 (0, 0))
 below : Below w.heap.size w wr
 size : hi2 ≤ wr.heap.size

theorem CrInv.drewN {w wr : World} {n : Nat} {X : List Int} {ps : List St} {us : List Int} {lo hi hi2 : Nat} {vW vP vU : Value} (h : CrInv w wr n X ps us lo hi hi2 vW vP vU) (m : Nat) : CrInv w (wr.drewN m) n X ps us lo hi hi2 vW vP vU := by
 obtain ⟨h1, h2, h3, h4, h5, h6, h7⟩ := h
 exact ⟨h1.same (fun _ _ _ => rfl), h2.same (fun _ _ _ => rfl), h3.same (fun _ _ _ => rfl), h4, h5, zeo h6 m, h7⟩
theorem CrInv.drew {w wr : World} {n : Nat} {X : List Int} {ps : List St} {us : List Int} {lo hi hi2 : Nat} {vW vP vU : Value} (h : CrInv w wr n X ps us lo hi hi2 vW vP vU) : CrInv w wr.drew n X ps us lo hi hi2 vW vP vU := by
 obtain ⟨h1, h2, h3, h4, h5, h6, h7⟩ := h
 exact ⟨h1.same (fun _ _ _ => rfl), h2.same (fun _ _ _ => rfl), h3.same (fun _ _ _ => rfl), h4, h5, h6.drew, h7⟩
theorem CrInv.store {w wr : World} {n : Nat} {X : List Int} {ps : List St} {us : List Int} {lo hi hi2 : Nat} {b cap : Nat} {vP vU : Value} (h : CrInv w wr n X ps us lo hi hi2 (.slice (some ⟨b, 0, none⟩) n cap) vP vU) (hlo : w.heap.size + 2 ≤ lo) (a : Nat) (x : Int) :
  CrInv w (wr.setCell ⟨b, a, none⟩ (.int .i64 x)) n (X.set a x) ps us lo hi hi2 (.slice (some ⟨b, 0, none⟩) n cap) vP vU := by
 obtain ⟨h1, h2, h3, h4, h5, h6, h7⟩ := h
 obtain ⟨_, hb1, hb2, _⟩ := h1.at
 refine ⟨?_, h2.apart h1 (by decide) (World.ownsRow.stored h1.1 _ _).2, h3.same (fun k hk _ => Below.heap_setCell _ _ _ _ (by simp only; omega)), ?_, ?_, h6.setCell (by simp only; omega) _, by simp; omega⟩
 ·rw [← zft]; exact h1.stored _ _
 ·rw [Below.heap_setCell _ _ _ _ (by simp only; omega)]; exact h4
 ·rw [Below.heap_setCell _ _ _ _ (by simp only; omega)]; exact h5

end Go.Proofs.YtbbmljakfbhnpaaGreatDoor

namespace Go.Proofs.YtbbmljakfbhnpaaGreatDoor
open Go.RowKit

/-- A memory that the document allows, with at most n stores. -/
structure PmP (ws : List Int) (ps : List St) (n : Nat) : Prop where
 len : ws.length = 336
 few : ps.length ≤ n
 word : ∀ z ∈ ws, 0 ≤ z ∧ z < 1099511627776
 store : ∀ p ∈ ps, (0 ≤ p.at_ ∧ p.at_ < 336) ∧ 0 ≤ p.val ∧ p.val < 1099511627776
 ord : ps.Pairwise (fun p q => p.at_ = q.at_ → q.fl = true → p.fl = true)
theorem PmP.ok {ws : List Int} {ps : List St} {n : Nat} (h : PmP ws ps n) (hn : n ≤ 400) : pmB ws ps = true :=
 pmB_mk h.len (Nat.le_trans h.few hn) (fun _ hk => decide_eq_true (h.word _ (List.getElem_mem hk))) (fun _ hk => ⟨decide_eq_true (h.store _ (List.getElem_mem hk)).1, decide_eq_true (h.store _ (List.getElem_mem hk)).2⟩)
theorem PmP.at {ws : List Int} {ps : List St} {n : Nat} (h : PmP ws ps n) : ∀ j (hj : j < ps.length), 0 ≤ ps[j].at_ ∧ ps[j].at_ < 336 := fun _ hj => (h.store _ (List.getElem_mem hj)).1
theorem PmP.more {ws : List Int} {ps : List St} {n m : Nat} (h : PmP ws ps n) (hm : n ≤ m) : PmP ws ps m := ⟨h.len, Nat.le_trans h.few hm, h.word, h.store, h.ord⟩
/-- A memory that can be read lies in no block that is too small for it, or has no such cells: what is written there does not reach it. -/
theorem RdPm.away {w w' : World} {b : Nat} {v : Value} {ws : List Int} {ps : List St} {cs : Array Value} {t : TypeId} {fr : Nat × Nat} (h : RdPm w v ws ps) (hl : ws.length = 336) (hb : w.heap[b]? = some (.cells cs t fr)) (hcs : ∀ o f, cs[o + 3]? = none ∧ ¬ cs[o + 2]? = some (.bool f)) (hz : w.heap.size ≤ w'.heap.size) (ho : ∀ j, j < w.heap.size → ¬ j = b → w'.heap[j]? = w.heap[j]?) : RdPm w' v ws ps := by
 obtain ⟨vW, vP, rfl, h1, h2⟩ := h
 refine ⟨vW, vP, rfl, h1.same hz (fun j hj he => ho j hj (fun e => ?_)), ?_⟩
 ·subst e
  obtain ⟨_, ao, cap, rfl, _, hc⟩ := h1
  obtain ⟨b', o, rfl, _, hc⟩ := hc (by omega)
  simp only [Value.ownBlock, Option.some.injEq] at he
  subst he
  have := hc 3 (by omega)
  rw [zcq ws 3 (by omega)] at this
  simp only [World.cell?, hb] at this
  have e := (hcs o true).1
  simp_all
 ·by_cases hp : 0 < ps.length
  ·refine h2.same hz (fun j hj he => ho j hj (fun e => ?_))
   subst e
   obtain ⟨_, ao, cap, rfl, _, hc⟩ := h2
   obtain ⟨b', o, rfl, _, hc⟩ := hc hp
   simp only [Value.ownBlock, Option.some.injEq] at he
   subst he
   have := hc 2 (by omega)
   rw [show (2 : Nat) = 0 * 3 + 2 by omega, zrh ps 0 hp] at this
   simp only [World.cell?, hb] at this
   have e := (hcs o ps[0].fl).2
   simp_all
  ·obtain ⟨h3, ao, cap, rfl, h4, _⟩ := h2
   exact ⟨h3, ao, cap, rfl, h4, fun h => absurd h hp⟩
theorem RdPm.source {w0 w w' : World} {b k : Nat} {vC v : Value} {bs ws : List Int} {ps : List St} (h : RdPm w v ws ps) (hl : ws.length = 336) (hs : Src w0 w b vC bs k) (ho : Outside b (b + 1) w w') : RdPm w' v ws ps := by
 obtain ⟨_, _, _, _, _, _, hb⟩ := hs.cells
 refine h.away hl hb (fun o f => ⟨by simp, ?_⟩) ho.size (fun j hj hne => ho.block j hj (by omega))
 match o with
 | 0 => simp
 | o + 1 => simp
/-- In the midst of drawing a memory. -/
structure PmInv (w0 w wr : World) (b : Nat) (vC : Value) (bs : List Int) (q : Nat) (ws : List Int) (ps : List St) (n : Nat) (vW vP : Value) : Prop where
 pm : PmP ws ps n
 rd : RdPm wr (.agg #[vW, vP]) ws ps
 box : wr.heap[w.heap.size + 1 + 1 + 1]? = some (.cells #[vW, vP] 31 (0, 0))
 res : wr.heap[w.heap.size]? = some (.cells #[.slice none 0 0, .slice none 0 0] 31 (0, 0))
 src : Src w0 wr b vC bs q
 out : Outside b (b + 1) w wr
 size : w.heap.size + 4 ≤ wr.heap.size
 old : b < w.heap.size
theorem PmInv.next {w0 w wr w' : World} {b : Nat} {vC : Value} {bs : List Int} {q q' : Nat} {ws : List Int} {ps : List St} {n : Nat} {vW vP : Value} (h : PmInv w0 w wr b vC bs q ws ps n vW vP) (hs : Src w0 w' b vC bs q') (ho : Outside b (b + 1) wr w') : PmInv w0 w w' b vC bs q' ws ps n vW vP := by
 have hz := h.size
 have ho' := h.old
 exact ⟨h.pm, h.rd.source h.pm.len h.src ho, (ho.block _ (by omega) (.inr (by omega))).trans h.box, (ho.block _ (by omega) (.inr (by omega))).trans h.res, hs, h.out.trans ho, Nat.le_trans hz ho.size, ho'⟩
theorem PmInv.drew {w0 w wr : World} {b : Nat} {vC : Value} {bs : List Int} {q : Nat} {ws : List Int} {ps : List St} {n : Nat} {vW vP : Value} (h : PmInv w0 w wr b vC bs q ws ps n vW vP) : PmInv w0 w wr.drew b vC bs q ws ps n vW vP :=
 h.next (h.src.outside (lo := b + 1) (hi := b + 1) ((Outside.refl _ _ wr).drewN 1) (.inl (by omega)) (by have := h.src.old; omega)) ((Outside.refl _ _ wr).drewN 1)
theorem PmInv.some {w0 w wr : World} {b : Nat} {vC : Value} {bs : List Int} {q q' : Nat} {ws : List Int} {ps : List St} {n : Nat} {vW vP : Value} (h : PmInv w0 w wr b vC bs q ws ps n vW vP) (hq : q ≤ q') : PmInv w0 w wr b vC bs q' ws ps n vW vP :=
 ⟨h.pm, h.rd, h.box, h.res, h.src.more hq, h.out, h.size, h.old⟩

end Go.Proofs.YtbbmljakfbhnpaaGreatDoor

namespace Go.Proofs.YtbbmljakfbhnpaaGreatDoor
open Go.ChangeShapes Go.WideShapes Go.ChangeAt Go.RowKit Go.Joins

theorem own : ownKnob Tryz.prog.godebug = none := by kernel_rfl
theorem zng : laidOutB Tryz.prog = true := by kernel_rfl
theorem cells3 : Tryz.prog.cellsOf 3 = 1 := by kernel_rfl
section

variable {H : Type} {enc : TypeId × Value → H} {W : World} {sp : Nat → Bool} {held : Bool} {fuel : Nat} {v : Value} {y : DataW H × List MemPlace}

end

end Go.Proofs.YtbbmljakfbhnpaaGreatDoor

namespace Go.Proofs.YtbbmljakfbhnpaaGreatDoor
open Go.ChangeShapes Go.WideShapes Go.ChangeAt Go.RowKit Go.Joins

theorem Below.drewN'' {B : Nat} {a w : World} (h : Below B a w) (n : Nat) : Below B a (w.drewN n) := by
 induction n with
 | zero => exact h
 | succ n ih => exact ⟨ih.os, ih.tape, ih.output, ih.size, ih.block⟩

theorem cells5 : Tryz.prog.cellsOf 5 = 1 := by kernel_rfl
section
variable {H : Type} {enc : TypeId × Value → H} {W : World} {sp : Nat → Bool} {held : Bool} {fuel : Nat} {v : Value} {y : DataW H × List MemPlace}
theorem wf_u8 {z : Int} (h : (Lit.int .u8 z).wf = true) : 0 ≤ z ∧ z < 256 := by
 have h1 : IntKind.u8.min ≤ z ∧ z ≤ IntKind.u8.max := by simpa [Lit.wf] using h
 have a : IntKind.u8.min = 0 := by rfl
 have b : IntKind.u8.max = 255 := by rfl
 omega
theorem open_RdB (h : DataW.trod enc Tryz.prog W 0 sp held fuel 22 [v] = some y) : ∃ zs : List Int, RdB W v zs ∧ zs.length ≤ maxLen := by
 rcases open_ints Tryz.underlying22 Tryz.underlying5 cells5 h with ⟨hcs, _⟩ | ⟨a, len, cap, zs, hcs, _, hl, hm, hz, _, hcell, hwz⟩
 ·simp only [List.cons.injEq, and_true] at hcs
  subst hcs
  exact ⟨[], ⟨⟨rfl, none, 0, rfl, ⟨Nat.le_refl _, fun _ => rfl⟩, fun h => absurd h (by simp)⟩, fun k hk => by simp at hk⟩, by simp⟩
 ·simp only [List.cons.injEq, and_true] at hcs
  subst hcs
  have hzl : len ≤ zs.length := by rw [hz]; split <;> omega
  have e : (zs.take len).length = len := by simp; omega
  refine ⟨zs.take len, ⟨⟨by simp [bys], some a, cap, by rw [e], ⟨by rw [e]; exact hl, fun e => by cases e⟩, fun hn => ?_⟩, fun k hk => wf_u8 (hwz _ (List.mem_of_mem_take (List.getElem_mem hk)))⟩, by rw [e]; omega⟩
  rw [e] at hn
  obtain ⟨b, off, spot⟩ := a
  have hc := hcell 0 (by omega)
  have hspot : spot = none := by simpa [Addr.add] using World.cell?_spot hc
  subst hspot
  refine ⟨b, off, rfl, World.block_lt_of_cell? W _ (by simpa [Addr.add] using hc), fun j hj => ?_⟩
  rw [e] at hj
  have hc := hcell j (by omega)
  rw [Addr.add_lit] at hc
  rw [hc, bys_at _ j (by rw [e]; omega)]
  simp [List.getD, show j < zs.length by omega]
end
end Go.Proofs.YtbbmljakfbhnpaaGreatDoor

namespace Go.Proofs.YtbbmljakfbhnpaaGreatDoor
open Go.RowKit

theorem zkg {a w : World} (h : Below a.heap.size a w) (o : Obj) : Below a.heap.size a (w.alloc o) := h.alloc h.size o

/-- Behind the region that draws a place and flushes there. -/
structure CutF (w3 wx : World) (ws : List Int) (ps : List St) (k : Int) (aW aP : Option Addr) (cW cP bx : Nat) : Prop where
 k0 : 0 ≤ k
 k1 : k < 336
 lo : w3.heap.size ≤ bx
 hi : bx < wx.heap.size
 box : wx.heap[bx]? = some (.cells #[.slice aW 336 cW, .slice aP ps.length cP] 31 (0, 0))
 rd : RdPm wx (.agg #[.slice aW 336 cW, .slice aP ps.length cP]) ws (ps.map (fl1 k))
 below : Below w3.heap.size w3 wx
theorem CutF.drew {w3 wx : World} {ws : List Int} {ps : List St} {k : Int} {aW aP : Option Addr} {cW cP bx : Nat} (h : CutF w3 wx ws ps k aW aP cW cP bx) : CutF w3 wx.drew ws ps k aW aP cW cP bx :=
 ⟨h.k0, h.k1, h.lo, h.hi, h.box, h.rd.below ((Below.refl _ _).drew), h.below.drew⟩
theorem CutF.new {w3 wf : World} {ws : List Int} {ps : List St} {k : Int} {aW aP : Option Addr} {cW cP : Nat} (k0 : 0 ≤ k) (k1 : k < 336) (hr : RdPm wf (.agg #[.slice aW 336 cW, .slice aP ps.length cP]) ws (ps.map (fl1 k))) (hb : Below w3.heap.size w3 wf) : CutF w3 (wf.alloc (.cells #[.slice aW 336 cW, .slice aP ps.length cP] 31)) ws ps k aW aP cW cP wf.heap.size :=
 ⟨k0, k1, hb.size, by simp, zag rfl, hr.below ((Below.refl _ _).alloc (Nat.le_refl _) _), zkg hb _⟩
end Go.Proofs.YtbbmljakfbhnpaaGreatDoor

namespace Go.Proofs.YtbbmljakfbhnpaaGreatDoor
open Go.RowKit

/-- Behind a region that draws what is kept, and crashes. -/
structure CutC (w0 wx : World) (X : List Int) (aW aP : Option Addr) (cW cP bx : Nat) : Prop where
 lo : w0.heap.size ≤ bx
 hi : bx < wx.heap.size
 box : wx.heap[bx]? = some (.cells #[.slice aW 336 cW, .slice aP 0 cP] 31 (0, 0))
 rd : RdPm wx (.agg #[.slice aW 336 cW, .slice aP 0 cP]) X []
 below : Below w0.heap.size w0 wx
theorem CutC.drew {w0 wx : World} {X : List Int} {aW aP : Option Addr} {cW cP bx : Nat} (h : CutC w0 wx X aW aP cW cP bx) : CutC w0 wx.drew X aW aP cW cP bx :=
 ⟨h.lo, h.hi, h.box, h.rd.below ((Below.refl _ _).drew), h.below.drew⟩
theorem CutC.new {w0 wf : World} {X : List Int} {aW aP : Option Addr} {cW cP : Nat} (hr : RdPm wf (.agg #[.slice aW 336 cW, .slice aP 0 cP]) X []) (hb : Below w0.heap.size w0 wf) : CutC w0 (wf.alloc (.cells #[.slice aW 336 cW, .slice aP 0 cP] 31)) X aW aP cW cP wf.heap.size :=
 ⟨hb.size, by simp, zag rfl, hr.below ((Below.refl _ _).alloc (Nat.le_refl _) _), zkg hb _⟩
end Go.Proofs.YtbbmljakfbhnpaaGreatDoor

namespace Go.Proofs.YtbbmljakfbhnpaaGreatDoor

/-- An update: a place and a value; as a store that is not flushed. -/
def up (a v : Int) : St := ⟨a, v, false⟩
def stM (p : St) : Mi := ⟨1, p.at_, p.val⟩
/-- The flushes of the first places: one for each line that no place ahead has. -/
def knownL (ks : List Int) (i : Nat) : Bool := (List.range i).any (fun k => ks[k]?.getD 0 / 8 == ks[i]?.getD 0 / 8)
def nl (ks : List Int) : Nat → List Mi
 | 0 => []
 | i + 1 => if knownL ks i = true then nl ks i else nl ks i ++ [⟨2, ks[i]?.getD 0, 0⟩]
def zbg (ks : List Int) : List Mi := nl ks ks.length ++ [⟨3, 0, 0⟩]
/-- Stores, then their lines flushed, then a fence. -/
def seg (S : List St) : List Mi := S.map stM ++ zbg (S.map (·.at_))
/-- The updates as they stand in the journal. -/
def jrn : Nat → List St → List St
 | _, [] => []
 | i, u :: us => ⟨9 + 2 * (i : Int), u.at_, false⟩ :: ⟨9 + 2 * (i : Int) + 1, u.val, false⟩ :: jrn (i + 1) us
def cnt (n : Int) : List St := [⟨8, n, false⟩]
def zhn (us : List St) : List Mi := seg us ++ seg (cnt 0)
def zdg (us : List St) : List Mi := if us.length = 0 then [] else seg (jrn 0 us) ++ seg (cnt (us.length : Int)) ++ zhn us
end Go.Proofs.YtbbmljakfbhnpaaGreatDoor

namespace Go.Proofs.YtbbmljakfbhnpaaGreatDoor


/-- What a step does to a memory. -/
def zrp (s : List Int × List St) (m : Mi) : List Int × List St :=
 if m.kind = 1 then (s.1, s.2 ++ [⟨m.at_, m.val, false⟩]) else if m.kind = 2 then (s.1, s.2.map (fl1 m.at_)) else if m.kind = 3 then (zmr s.1 s.2, zkn s.2) else s
def zmh (s : List Int × List St) (l : List Mi) : List Int × List St := l.foldl zrp s
theorem runM_nil (s : List Int × List St) : zmh s [] = s := rfl
theorem zix (s : List Int × List St) (m : Mi) (l : List Mi) : zmh s (m :: l) = zmh (zrp s m) l := rfl
theorem zdd (s : List Int × List St) (l l' : List Mi) : zmh s (l ++ l') = zmh (zmh s l) l' := by simp [zmh]
theorem zwg (s : List Int × List St) (p : St) : zrp s (stM p) = (s.1, s.2 ++ [⟨p.at_, p.val, false⟩]) := if_pos rfl
theorem zvu (s : List Int × List St) (a : Int) : zrp s ⟨2, a, 0⟩ = (s.1, s.2.map (fl1 a)) := by
 unfold zrp
 rw [if_neg (show ¬ (2 : Int) = 1 by decide), if_pos rfl]
theorem zvc (s : List Int × List St) : zrp s ⟨3, 0, 0⟩ = (zmr s.1 s.2, zkn s.2) := by
 unfold zrp
 rw [if_neg (by decide), if_neg (by decide), if_pos rfl]

theorem zqf (ks : List Int) : ∀ i, ∀ m ∈ nl ks i, m = ⟨2, m.at_, 0⟩
 | 0, m, h => by cases h
 | i + 1, m, h => by
  rw [nl] at h
  split at h
  ·exact zqf ks i m h
  ·rcases List.mem_append.1 h with h | h
   ·exact zqf ks i m h
   ·rw [List.mem_singleton.1 h]
theorem nl_has (ks : List Int) : ∀ i k, k < i → ∃ m ∈ nl ks i, m.at_ / 8 = ks[k]?.getD 0 / 8
 | 0, k, h => absurd h (by omega)
 | i + 1, k, h => by
  rw [nl]
  by_cases e : k < i
  ·obtain ⟨m, hm, e⟩ := nl_has ks i k e
   split
   ·exact ⟨m, hm, e⟩
   ·exact ⟨m, List.mem_append_left _ hm, e⟩
  ·obtain rfl : k = i := by omega
   split
   ·rename_i hk
    simp only [knownL, List.any_eq_true, List.mem_range, beq_iff_eq] at hk
    obtain ⟨j, hj, e⟩ := hk
    obtain ⟨m, hm, e2⟩ := nl_has ks k j hj
    exact ⟨m, hm, e2.trans e⟩
   ·exact ⟨_, List.mem_append_right _ (List.mem_singleton.2 rfl), rfl⟩

/-- Behind some flushes: the words are as they were, each store stands, and is flushed if its line was. -/
theorem zmy : ∀ (l : List Mi) (s : List Int × List St), (∀ m ∈ l, m = ⟨2, m.at_, 0⟩) → ∃ g : St → St, zmh s l = (s.1, s.2.map g) ∧ (∀ p, (g p).at_ = p.at_ ∧ (g p).val = p.val ∧ (p.fl = true → (g p).fl = true)) ∧ ∀ p, (∃ m ∈ l, m.at_ / 8 = p.at_ / 8) → (g p).fl = true
 | [], s, _ => ⟨id, by simp [zmh], fun p => ⟨rfl, rfl, id⟩, fun p h => by obtain ⟨m, hm, _⟩ := h; cases hm⟩
 | m :: l, s, h => by
  have hm := h m (by simp)
  obtain ⟨g, e, h1, h2⟩ := zmy l (s.1, s.2.map (fl1 m.at_)) (fun x hx => h x (by simp [hx]))
  have hf : ∀ p : St, (fl1 m.at_ p).at_ = p.at_ ∧ (fl1 m.at_ p).val = p.val ∧ (p.fl = true → (fl1 m.at_ p).fl = true) := fun p => by
   unfold fl1
   split
   ·exact ⟨rfl, rfl, fun _ => rfl⟩
   ·exact ⟨rfl, rfl, id⟩
  refine ⟨fun p => g (fl1 m.at_ p), ?_, fun p => ?_, fun p hp => ?_⟩
  ·rw [zix, hm, zvu]
   show zmh (s.1, s.2.map (fl1 m.at_)) l = _
   rw [e, List.map_map]
   rfl
  ·have a := h1 (fl1 m.at_ p)
   have b := hf p
   exact ⟨a.1.trans b.1, a.2.1.trans b.2.1, fun x => a.2.2 (b.2.2 x)⟩
  ·obtain ⟨x, hx, e2⟩ := hp
   rcases List.mem_cons.1 hx with rfl | hx
   ·apply (h1 _).2.2
    unfold fl1
    rw [if_pos e2.symm]
   ·apply h2
    exact ⟨x, hx, by rw [(hf p).1]; exact e2⟩
theorem fen_all : ∀ (ps : List St) (ws : List Int), (∀ p ∈ ps, p.fl = true) → zmr ws ps = zck ws ps ∧ zkn ps = []
 | [], _, _ => ⟨rfl, rfl⟩
 | p :: ps, ws, h => by
  have hp := h p (by simp)
  have ih := fen_all ps (ws.set p.at_.toNat p.val) (fun q hq => h q (by simp [hq]))
  refine ⟨?_, ?_⟩
  ·show zmr (if p.fl then ws.set p.at_.toNat p.val else ws) ps = zck (ws.set p.at_.toNat p.val) ps
   rw [hp]
   exact ih.1
  ·unfold zkn at ih ⊢
   rw [List.filter_cons, hp]
   exact ih.2
theorem layW_map (g : St → St) (hg : ∀ p, (g p).at_ = p.at_ ∧ (g p).val = p.val) : ∀ (ps : List St) (ws : List Int), zck ws (ps.map g) = zck ws ps
 | [], _ => rfl
 | p :: ps, ws => by
  show zck (ws.set (g p).at_.toNat (g p).val) (ps.map g) = zck (ws.set p.at_.toNat p.val) ps
  rw [(hg p).1, (hg p).2]
  exact layW_map g hg ps _

theorem zpc : ∀ (S : List St) (s : List Int × List St), zmh s (S.map stM) = (s.1, s.2 ++ S.map (fun p => (⟨p.at_, p.val, false⟩ : St)))
 | [], s => by simp [zmh]
 | p :: S, s => by
  rw [List.map_cons, zix, zwg, zpc S]
  simp
theorem zht (S : List St) (ws : List Int) : zmh (ws, []) (seg S) = (zck ws S, []) := by
 have e0 : zmh (ws, []) (S.map stM) = (ws, S.map (fun p => (⟨p.at_, p.val, false⟩ : St))) := by rw [zpc]; simp
 unfold seg zbg
 rw [zdd, e0, zdd]
 obtain ⟨g, e, h1, h2⟩ := zmy (nl (S.map (·.at_)) (S.map (·.at_)).length) (ws, S.map (fun p => (⟨p.at_, p.val, false⟩ : St))) (zqf _ _)
 rw [e, zix, runM_nil, zvc]
 have hall : ∀ p ∈ (S.map (fun p => (⟨p.at_, p.val, false⟩ : St))).map g, p.fl = true := by
  intro p hp
  rw [List.map_map, List.mem_map] at hp
  obtain ⟨q, hq, rfl⟩ := hp
  apply h2
  obtain ⟨i, hi, rfl⟩ := List.getElem_of_mem hq
  obtain ⟨m, hm, e2⟩ := nl_has (S.map (·.at_)) (S.map (·.at_)).length i (by simpa using hi)
  refine ⟨m, hm, ?_⟩
  rw [e2]
  simp [hi]
 have f := fen_all _ ws hall
 show (zmr ws ((S.map (fun p => (⟨p.at_, p.val, false⟩ : St))).map g), zkn _) = _
 rw [f.1, f.2, List.map_map, layW_map (g ∘ fun p => (⟨p.at_, p.val, false⟩ : St)) (fun p => ⟨(h1 _).1, (h1 _).2.1⟩)]

theorem jrn_at : ∀ (us : List St) (i : Nat), ∀ p ∈ jrn i us, 9 + 2 * (i : Int) ≤ p.at_ ∧ p.at_ < 9 + 2 * ((i + us.length : Nat) : Int)
 | [], _, p, h => by cases h
 | u :: us, i, p, h => by
  rw [jrn] at h
  simp only [List.length_cons]
  rcases List.mem_cons.1 h with rfl | h
  ·exact ⟨Int.le_refl _, by show 9 + 2 * (i : Int) < _; omega⟩
  ·rcases List.mem_cons.1 h with rfl | h
   ·exact ⟨by show _ ≤ 9 + 2 * (i : Int) + 1; omega, by show 9 + 2 * (i : Int) + 1 < _; omega⟩
   ·have := jrn_at us (i + 1) p h
    omega
end Go.Proofs.YtbbmljakfbhnpaaGreatDoor

namespace Go.Proofs.YtbbmljakfbhnpaaGreatDoor
open Go.RowKit

/-- A step that is right, and of the memory. -/
def StOK (m : Mi) : Prop := miB m = true ∧ (m.kind = 1 ∨ m.kind = 2 ∨ m.kind = 3)
theorem nl_mem (ks : List Int) : ∀ i, i ≤ ks.length → ∀ m ∈ nl ks i, ∃ k, k < ks.length ∧ m.at_ = ks[k]?.getD 0
 | 0, _, m, h => by cases h
 | i + 1, hi, m, h => by
  rw [nl] at h
  split at h
  ·exact nl_mem ks i (by omega) m h
  ·rcases List.mem_append.1 h with h | h
   ·exact nl_mem ks i (by omega) m h
   ·rw [List.mem_singleton.1 h]; exact ⟨i, by omega, rfl⟩
theorem ztv {S : List St} (h : ∀ p ∈ S, (0 ≤ p.at_ ∧ p.at_ < 336) ∧ 0 ≤ p.val ∧ p.val < 1099511627776) : ∀ m ∈ seg S, StOK m := by
 intro m hm
 unfold seg zbg at hm
 rcases List.mem_append.1 hm with hm | hm
 ·obtain ⟨p, hp, rfl⟩ := List.mem_map.1 hm
  have := h p hp
  exact ⟨(zkr 1 p.at_ p.val).2 (.inl ⟨rfl, this⟩), .inl rfl⟩
 ·rcases List.mem_append.1 hm with hm | hm
  ·have e := zqf _ _ m hm
   obtain ⟨k, hk, ek⟩ := nl_mem _ _ (Nat.le_refl _) m hm
   have : ∃ p ∈ S, m.at_ = p.at_ := by
    rw [List.length_map] at hk
    exact ⟨S[k], List.getElem_mem hk, by rw [ek, List.getElem?_map, List.getElem?_eq_getElem hk]; rfl⟩
   obtain ⟨p, hp, ep⟩ := this
   rw [e]
   have := h p hp
   exact ⟨(zkr 2 m.at_ 0).2 (.inr (.inl ⟨rfl, by rw [ep]; exact this.1, rfl⟩)), .inr (.inl rfl)⟩
  ·rw [List.mem_singleton.1 hm]
   exact ⟨(zkr 3 0 0).2 (.inr (.inr (.inr ⟨.inl rfl, rfl, rfl⟩))), .inr (.inr rfl)⟩
theorem jrn_val : ∀ (us : List St) (i : Nat), (∀ p ∈ us, (48 ≤ p.at_ ∧ p.at_ < 336) ∧ 0 ≤ p.val ∧ p.val < 1099511627776) → ∀ p ∈ jrn i us, 0 ≤ p.val ∧ p.val < 1099511627776
 | [], _, _, p, h => by cases h
 | u :: us, i, hu, p, h => by
  rw [jrn] at h
  have h0 := hu u List.mem_cons_self
  rcases List.mem_cons.1 h with rfl | h
  ·exact ⟨by show 0 ≤ u.at_; omega, by show u.at_ < _; omega⟩
  ·rcases List.mem_cons.1 h with rfl | h
   ·exact ⟨by show 0 ≤ u.val; omega, by show u.val < _; omega⟩
   ·exact jrn_val us (i + 1) (fun q hq => hu q (List.mem_cons_of_mem _ hq)) p h
theorem cnt_ok (n : Int) (h : 0 ≤ n ∧ n < 1099511627776) : ∀ p ∈ cnt n, (0 ≤ p.at_ ∧ p.at_ < 336) ∧ 0 ≤ p.val ∧ p.val < 1099511627776 := by
 intro p hp
 rw [List.mem_singleton.1 hp]
 exact ⟨⟨by show (0 : Int) ≤ 8; omega, by show (8 : Int) < 336; omega⟩, h⟩
end Go.Proofs.YtbbmljakfbhnpaaGreatDoor
