/- Several texts laid together: DrawP, OpenA, AtE, SeenM, MemM, JrD, JrM, JlP, ImK. -/
import Derived.Test.YtlgghookekokaaaGreatDoorZAK
import Derived.Test.YtlgghookekokaaaGreatDoorZAC
import Derived.Test.YtlgghookekokaaaGreatDoorZAB
import Derived.Deep.RegionWith
import Derived.Test.YtlgghookekokaaaGreatDoorZAA
import Derived.ProofKit
import Derived.OpenShut
import Derived.ShutString
import Derived.ChangeOld
import Derived.Lib.SmallJoins
import Derived.Deep.Slices
import Derived.Deep.Strs
import Derived.Test.YtlgghookekokaaaGreatDoorZAE
import Derived.Test.YtlgghookekokaaaGreatDoorZAH
namespace Go.Proofs.YtlgghookekokaaaGreatDoor
open Go.RowKit

/-- A memory that the document allows, with at most n stores. -/
structure PmP (ws : List Int) (ps : List St) (n : Nat) : Prop where
  len : ws.length = 336
  few : ps.length ≤ n
  word : ∀ z ∈ ws, 0 ≤ z ∧ z < 1099511627776
  store : ∀ p ∈ ps, (0 ≤ p.at_ ∧ p.at_ < 336) ∧ 0 ≤ p.val ∧ p.val < 1099511627776
  ord : ps.Pairwise (fun p q => p.at_ = q.at_ → q.fl = true → p.fl = true)
theorem PmP.ok {ws : List Int} {ps : List St} {n : Nat} (h : PmP ws ps n) (hn : n ≤ 400) : pmB ws ps = true :=
  pmB_mk h.len (Nat.le_trans h.few hn) (fun _ hk => decide_eq_true (h.word _ (List.getElem_mem hk))) (fun _ hk => ⟨decide_eq_true (h.store _ (List.getElem_mem hk)).1, decide_eq_true (h.store _ (List.getElem_mem hk)).2⟩)
theorem PmP.at {ws : List Int} {ps : List St} {n : Nat} (h : PmP ws ps n) : ∀ j (hj : j < ps.length), 0 ≤ ps[j].at_ ∧ ps[j].at_ < 336 := fun _ hj => (h.store _ (List.getElem_mem hj)).1
theorem PmP.more {ws : List Int} {ps : List St} {n m : Nat} (h : PmP ws ps n) (hm : n ≤ m) : PmP ws ps m := ⟨h.len, Nat.le_trans h.few hm, h.word, h.store, h.ord⟩
theorem PmP.zero : PmP (List.replicate 336 0) [] 0 :=
  ⟨List.length_replicate .., Nat.le_refl _, fun z hz => by obtain ⟨_, rfl⟩ := List.mem_replicate.1 hz; omega, fun p hp => by simp at hp, List.Pairwise.nil⟩

/-- A memory that can be read lies in no block that is too small for it, or has no such cells: what is written there does not reach it. -/
theorem RdPm.away {w w' : World} {b : Nat} {v : Value} {ws : List Int} {ps : List St} {cs : Array Value} {t : TypeId} {fr : Nat × Nat} (h : RdPm w v ws ps) (hl : ws.length = 336) (hb : w.heap[b]? = some (.cells cs t fr)) (hcs : ∀ o f, cs[o + 3]? = none ∧ ¬ cs[o + 2]? = some (.bool f)) (hz : w.heap.size ≤ w'.heap.size) (ho : ∀ j, j < w.heap.size → ¬ j = b → w'.heap[j]? = w.heap[j]?) : RdPm w' v ws ps := by
  obtain ⟨vW, vP, rfl, h1, h2⟩ := h
  refine ⟨vW, vP, rfl, h1.same hz (fun j hj he => ho j hj (fun e => ?_)), ?_⟩
  · subst e
    obtain ⟨_, ao, cap, rfl, _, hc⟩ := h1
    obtain ⟨b', o, rfl, _, hc⟩ := hc (by omega)
    simp only [Value.ownBlock, Option.some.injEq] at he
    subst he
    have := hc 3 (by omega)
    rw [ints_at ws 3 (by omega)] at this
    simp only [World.cell?, hb] at this
    have e := (hcs o true).1
    simp_all
  · by_cases hp : 0 < ps.length
    · refine h2.same hz (fun j hj he => ho j hj (fun e => ?_))
      subst e
      obtain ⟨_, ao, cap, rfl, _, hc⟩ := h2
      obtain ⟨b', o, rfl, _, hc⟩ := hc hp
      simp only [Value.ownBlock, Option.some.injEq] at he
      subst he
      have := hc 2 (by omega)
      rw [show (2 : Nat) = 0 * 3 + 2 by omega, sts_at2 ps 0 hp] at this
      simp only [World.cell?, hb] at this
      have e := (hcs o ps[0].fl).2
      simp_all
    · obtain ⟨h3, ao, cap, rfl, h4, _⟩ := h2
      exact ⟨h3, ao, cap, rfl, h4, fun h => absurd h hp⟩
theorem RdPm.source {w0 w w' : World} {b k : Nat} {vC v : Value} {bs ws : List Int} {ps : List St} (h : RdPm w v ws ps) (hl : ws.length = 336) (hs : Src w0 w b vC bs k) (ho : Outside b (b + 1) w w') : RdPm w' v ws ps := by
  obtain ⟨_, _, _, _, _, _, hb⟩ := hs.cells
  refine h.away hl hb (fun o f => ⟨by simp, ?_⟩) ho.size (fun j hj hne => ho.block j hj (by omega))
  match o with
  | 0 => simp
  | o + 1 => simp
/-- In the midst of drawing a memory. -/
structure PmInv (w0 w wr : World) (b : Nat) (vC : Value) (bs : List Int) (q : Nat) (ws : List Int) (ps : List St) (n : Nat) (vW vP : Value) : Prop where
  pm : PmP ws ps n
  rd : RdPm wr (.agg #[vW, vP]) ws ps
  box : wr.heap[w.heap.size + 1 + 1 + 1]? = some (.cells #[vW, vP] 31 (0, 0))
  res : wr.heap[w.heap.size]? = some (.cells #[.slice none 0 0, .slice none 0 0] 31 (0, 0))
  src : Src w0 wr b vC bs q
  out : Outside b (b + 1) w wr
  size : w.heap.size + 4 ≤ wr.heap.size
  old : b < w.heap.size
theorem PmInv.next {w0 w wr w' : World} {b : Nat} {vC : Value} {bs : List Int} {q q' : Nat} {ws : List Int} {ps : List St} {n : Nat} {vW vP : Value} (h : PmInv w0 w wr b vC bs q ws ps n vW vP) (hs : Src w0 w' b vC bs q') (ho : Outside b (b + 1) wr w') : PmInv w0 w w' b vC bs q' ws ps n vW vP := by
  have hz := h.size
  have ho' := h.old
  exact ⟨h.pm, h.rd.source h.pm.len h.src ho, (ho.block _ (by omega) (.inr (by omega))).trans h.box, (ho.block _ (by omega) (.inr (by omega))).trans h.res, hs, h.out.trans ho, Nat.le_trans hz ho.size, ho'⟩
theorem PmInv.drew {w0 w wr : World} {b : Nat} {vC : Value} {bs : List Int} {q : Nat} {ws : List Int} {ps : List St} {n : Nat} {vW vP : Value} (h : PmInv w0 w wr b vC bs q ws ps n vW vP) : PmInv w0 w wr.drew b vC bs q ws ps n vW vP :=
  h.next (h.src.outside (lo := b + 1) (hi := b + 1) ((Outside.refl _ _ wr).drewN 1) (.inl (by omega)) (by have := h.src.old; omega)) ((Outside.refl _ _ wr).drewN 1)
theorem PmInv.some {w0 w wr : World} {b : Nat} {vC : Value} {bs : List Int} {q q' : Nat} {ws : List Int} {ps : List St} {n : Nat} {vW vP : Value} (h : PmInv w0 w wr b vC bs q ws ps n vW vP) (hq : q ≤ q') : PmInv w0 w wr b vC bs q' ws ps n vW vP :=
  ⟨h.pm, h.rd, h.box, h.res, h.src.more hq, h.out, h.size, h.old⟩

end Go.Proofs.YtlgghookekokaaaGreatDoor

namespace Go.Proofs.YtlgghookekokaaaGreatDoor
open Go.ChangeShapes Go.WideShapes Go.ChangeAt Go.RowKit Go.Joins

theorem own : ownKnob Tryz.prog.godebug = none := by kernel_rfl
theorem laidOut : laidOutB Tryz.prog = true := by kernel_rfl
theorem cells3 : Tryz.prog.cellsOf 3 = 1 := by kernel_rfl
section

variable {H : Type} {enc : TypeId × Value → H} {W : World} {sp : Nat → Bool} {held : Bool} {fuel : Nat} {v : Value} {y : DataW H × List MemPlace}

end

end Go.Proofs.YtlgghookekokaaaGreatDoor

namespace Go.Proofs.YtlgghookekokaaaGreatDoor
open Go.ChangeShapes Go.WideShapes Go.ChangeAt Go.RowKit Go.Joins

theorem cells5 : Tryz.prog.cellsOf 5 = 1 := by kernel_rfl
section
variable {H : Type} {enc : TypeId × Value → H} {W : World} {sp : Nat → Bool} {held : Bool} {fuel : Nat} {v : Value} {y : DataW H × List MemPlace}
theorem wf_u8 {z : Int} (h : (Lit.int .u8 z).wf = true) : 0 ≤ z ∧ z < 256 := by
  have h1 : IntKind.u8.min ≤ z ∧ z ≤ IntKind.u8.max := by simpa [Lit.wf] using h
  have a : IntKind.u8.min = 0 := by rfl
  have b : IntKind.u8.max = 255 := by rfl
  omega
theorem open_RdB (h : DataW.trod enc Tryz.prog W 0 sp held fuel 22 [v] = some y) : ∃ zs : List Int, RdB W v zs ∧ zs.length ≤ maxLen := by
  rcases open_ints Tryz.underlying22 Tryz.underlying5 cells5 h with ⟨hcs, _⟩ | ⟨a, len, cap, zs, hcs, _, hl, hm, hz, _, hcell, hwz⟩
  · simp only [List.cons.injEq, and_true] at hcs
    subst hcs
    exact ⟨[], ⟨⟨rfl, none, 0, rfl, ⟨Nat.le_refl _, fun _ => rfl⟩, fun h => absurd h (by simp)⟩, fun k hk => by simp at hk⟩, by simp⟩
  · simp only [List.cons.injEq, and_true] at hcs
    subst hcs
    have hzl : len ≤ zs.length := by rw [hz]; split <;> omega
    have e : (zs.take len).length = len := by simp; omega
    refine ⟨zs.take len, ⟨⟨by simp [bys], some a, cap, by rw [e], ⟨by rw [e]; exact hl, fun e => by cases e⟩, fun hn => ?_⟩, fun k hk => wf_u8 (hwz _ (List.mem_of_mem_take (List.getElem_mem hk)))⟩, by rw [e]; omega⟩
    rw [e] at hn
    obtain ⟨b, off, spot⟩ := a
    have hc := hcell 0 (by omega)
    have hspot : spot = none := by simpa [Addr.add] using World.cell?_spot hc
    subst hspot
    refine ⟨b, off, rfl, World.block_lt_of_cell? W _ (by simpa [Addr.add] using hc), fun j hj => ?_⟩
    rw [e] at hj
    have hc := hcell j (by omega)
    rw [Addr.add_lit] at hc
    rw [hc, bys_at _ j (by rw [e]; omega)]
    simp [List.getD, show j < zs.length by omega]
end
end Go.Proofs.YtlgghookekokaaaGreatDoor

namespace Go.Proofs.YtlgghookekokaaaGreatDoor
open Go.RowKit

theorem below_allocS {a w : World} (h : Below a.heap.size a w) (o : Obj) : Below a.heap.size a (w.alloc o) := h.alloc h.size o

/-- Behind the region that draws a place and flushes there. -/
structure CutF (w3 wx : World) (ws : List Int) (ps : List St) (k : Int) (aW aP : Option Addr) (cW cP bx : Nat) : Prop where
  k0 : 0 ≤ k
  k1 : k < 336
  lo : w3.heap.size ≤ bx
  hi : bx < wx.heap.size
  box : wx.heap[bx]? = some (.cells #[.slice aW 336 cW, .slice aP ps.length cP] 31 (0, 0))
  rd : RdPm wx (.agg #[.slice aW 336 cW, .slice aP ps.length cP]) ws (ps.map (fl1 k))
  below : Below w3.heap.size w3 wx
theorem CutF.drew {w3 wx : World} {ws : List Int} {ps : List St} {k : Int} {aW aP : Option Addr} {cW cP bx : Nat} (h : CutF w3 wx ws ps k aW aP cW cP bx) : CutF w3 wx.drew ws ps k aW aP cW cP bx :=
  ⟨h.k0, h.k1, h.lo, h.hi, h.box, h.rd.below ((Below.refl _ _).drew), h.below.drew⟩
theorem CutF.new {w3 wf : World} {ws : List Int} {ps : List St} {k : Int} {aW aP : Option Addr} {cW cP : Nat} (k0 : 0 ≤ k) (k1 : k < 336) (hr : RdPm wf (.agg #[.slice aW 336 cW, .slice aP ps.length cP]) ws (ps.map (fl1 k))) (hb : Below w3.heap.size w3 wf) : CutF w3 (wf.alloc (.cells #[.slice aW 336 cW, .slice aP ps.length cP] 31)) ws ps k aW aP cW cP wf.heap.size :=
  ⟨k0, k1, hb.size, by simp, at_new rfl, hr.below ((Below.refl _ _).alloc (Nat.le_refl _) _), below_allocS hb _⟩
end Go.Proofs.YtlgghookekokaaaGreatDoor

namespace Go.Proofs.YtlgghookekokaaaGreatDoor
open Go.RowKit

/-- Behind a region that draws what is kept, and crashes. -/
structure CutC (w0 wx : World) (X : List Int) (aW aP : Option Addr) (cW cP bx : Nat) : Prop where
  lo : w0.heap.size ≤ bx
  hi : bx < wx.heap.size
  box : wx.heap[bx]? = some (.cells #[.slice aW 336 cW, .slice aP 0 cP] 31 (0, 0))
  rd : RdPm wx (.agg #[.slice aW 336 cW, .slice aP 0 cP]) X []
  below : Below w0.heap.size w0 wx
theorem CutC.drew {w0 wx : World} {X : List Int} {aW aP : Option Addr} {cW cP bx : Nat} (h : CutC w0 wx X aW aP cW cP bx) : CutC w0 wx.drew X aW aP cW cP bx :=
  ⟨h.lo, h.hi, h.box, h.rd.below ((Below.refl _ _).drew), h.below.drew⟩
theorem CutC.new {w0 wf : World} {X : List Int} {aW aP : Option Addr} {cW cP : Nat} (hr : RdPm wf (.agg #[.slice aW 336 cW, .slice aP 0 cP]) X []) (hb : Below w0.heap.size w0 wf) : CutC w0 (wf.alloc (.cells #[.slice aW 336 cW, .slice aP 0 cP] 31)) X aW aP cW cP wf.heap.size :=
  ⟨hb.size, by simp, at_new rfl, hr.below ((Below.refl _ _).alloc (Nat.le_refl _) _), below_allocS hb _⟩
end Go.Proofs.YtlgghookekokaaaGreatDoor

namespace Go.Proofs.YtlgghookekokaaaGreatDoor

/-- An update: a place and a value; as a store that is not flushed. -/
def up (a v : Int) : St := ⟨a, v, false⟩
def stM (p : St) : Mi := ⟨1, p.at_, p.val⟩
/-- The flushes of the first places: one for each line that no place ahead has. -/
def knownL (ks : List Int) (i : Nat) : Bool := (List.range i).any (fun k => ks[k]?.getD 0 / 8 == ks[i]?.getD 0 / 8)
def nl (ks : List Int) : Nat → List Mi
  | 0 => []
  | i + 1 => if knownL ks i = true then nl ks i else nl ks i ++ [⟨2, ks[i]?.getD 0, 0⟩]
def flushL (ks : List Int) : List Mi := nl ks ks.length ++ [⟨3, 0, 0⟩]
/-- Stores, then their lines flushed, then a fence. -/
def seg (S : List St) : List Mi := S.map stM ++ flushL (S.map (·.at_))
/-- The updates as they stand in the journal. -/
def jrn : Nat → List St → List St
  | _, [] => []
  | i, u :: us => ⟨9 + 2 * (i : Int), u.at_, false⟩ :: ⟨9 + 2 * (i : Int) + 1, u.val, false⟩ :: jrn (i + 1) us
def cnt (n : Int) : List St := [⟨8, n, false⟩]
def applyL (us : List St) : List Mi := seg us ++ seg (cnt 0)
def planL (us : List St) : List Mi := if us.length = 0 then [] else seg (jrn 0 us) ++ seg (cnt (us.length : Int)) ++ applyL us
end Go.Proofs.YtlgghookekokaaaGreatDoor

namespace Go.Proofs.YtlgghookekokaaaGreatDoor


/-- What a step does to a memory. -/
def step1 (s : List Int × List St) (m : Mi) : List Int × List St :=
  if m.kind = 1 then (s.1, s.2 ++ [⟨m.at_, m.val, false⟩]) else if m.kind = 2 then (s.1, s.2.map (fl1 m.at_)) else if m.kind = 3 then (fenW s.1 s.2, fenP s.2) else s
def runM (s : List Int × List St) (l : List Mi) : List Int × List St := l.foldl step1 s
theorem runM_nil (s : List Int × List St) : runM s [] = s := rfl
theorem runM_cons (s : List Int × List St) (m : Mi) (l : List Mi) : runM s (m :: l) = runM (step1 s m) l := rfl
theorem runM_append (s : List Int × List St) (l l' : List Mi) : runM s (l ++ l') = runM (runM s l) l' := by simp [runM]
theorem step1_store (s : List Int × List St) (p : St) : step1 s (stM p) = (s.1, s.2 ++ [⟨p.at_, p.val, false⟩]) := if_pos rfl
theorem step1_flush (s : List Int × List St) (a : Int) : step1 s ⟨2, a, 0⟩ = (s.1, s.2.map (fl1 a)) := by
  unfold step1
  rw [if_neg (show ¬ (2 : Int) = 1 by decide), if_pos rfl]
theorem step1_fence (s : List Int × List St) : step1 s ⟨3, 0, 0⟩ = (fenW s.1 s.2, fenP s.2) := by
  unfold step1
  rw [if_neg (by decide), if_neg (by decide), if_pos rfl]

theorem nl_kind (ks : List Int) : ∀ i, ∀ m ∈ nl ks i, m = ⟨2, m.at_, 0⟩
  | 0, m, h => by cases h
  | i + 1, m, h => by
    rw [nl] at h
    split at h
    · exact nl_kind ks i m h
    · rcases List.mem_append.1 h with h | h
      · exact nl_kind ks i m h
      · rw [List.mem_singleton.1 h]
theorem nl_has (ks : List Int) : ∀ i k, k < i → ∃ m ∈ nl ks i, m.at_ / 8 = ks[k]?.getD 0 / 8
  | 0, k, h => absurd h (by omega)
  | i + 1, k, h => by
    rw [nl]
    by_cases e : k < i
    · obtain ⟨m, hm, e⟩ := nl_has ks i k e
      split
      · exact ⟨m, hm, e⟩
      · exact ⟨m, List.mem_append_left _ hm, e⟩
    · obtain rfl : k = i := by omega
      split
      · rename_i hk
        simp only [knownL, List.any_eq_true, List.mem_range, beq_iff_eq] at hk
        obtain ⟨j, hj, e⟩ := hk
        obtain ⟨m, hm, e2⟩ := nl_has ks k j hj
        exact ⟨m, hm, e2.trans e⟩
      · exact ⟨_, List.mem_append_right _ (List.mem_singleton.2 rfl), rfl⟩

/-- Behind some flushes: the words are as they were, each store stands, and is flushed if its line was. -/
theorem run_flushes : ∀ (l : List Mi) (s : List Int × List St), (∀ m ∈ l, m = ⟨2, m.at_, 0⟩) → ∃ g : St → St, runM s l = (s.1, s.2.map g) ∧ (∀ p, (g p).at_ = p.at_ ∧ (g p).val = p.val ∧ (p.fl = true → (g p).fl = true)) ∧ ∀ p, (∃ m ∈ l, m.at_ / 8 = p.at_ / 8) → (g p).fl = true
  | [], s, _ => ⟨id, by simp [runM], fun p => ⟨rfl, rfl, id⟩, fun p h => by obtain ⟨m, hm, _⟩ := h; cases hm⟩
  | m :: l, s, h => by
    have hm := h m (by simp)
    obtain ⟨g, e, h1, h2⟩ := run_flushes l (s.1, s.2.map (fl1 m.at_)) (fun x hx => h x (by simp [hx]))
    have hf : ∀ p : St, (fl1 m.at_ p).at_ = p.at_ ∧ (fl1 m.at_ p).val = p.val ∧ (p.fl = true → (fl1 m.at_ p).fl = true) := fun p => by
      unfold fl1
      split
      · exact ⟨rfl, rfl, fun _ => rfl⟩
      · exact ⟨rfl, rfl, id⟩
    refine ⟨fun p => g (fl1 m.at_ p), ?_, fun p => ?_, fun p hp => ?_⟩
    · rw [runM_cons, hm, step1_flush]
      show runM (s.1, s.2.map (fl1 m.at_)) l = _
      rw [e, List.map_map]
      rfl
    · have a := h1 (fl1 m.at_ p)
      have b := hf p
      exact ⟨a.1.trans b.1, a.2.1.trans b.2.1, fun x => a.2.2 (b.2.2 x)⟩
    · obtain ⟨x, hx, e2⟩ := hp
      rcases List.mem_cons.1 hx with rfl | hx
      · apply (h1 _).2.2
        unfold fl1
        rw [if_pos e2.symm]
      · apply h2
        exact ⟨x, hx, by rw [(hf p).1]; exact e2⟩
theorem fen_all : ∀ (ps : List St) (ws : List Int), (∀ p ∈ ps, p.fl = true) → fenW ws ps = layW ws ps ∧ fenP ps = []
  | [], _, _ => ⟨rfl, rfl⟩
  | p :: ps, ws, h => by
    have hp := h p (by simp)
    have ih := fen_all ps (ws.set p.at_.toNat p.val) (fun q hq => h q (by simp [hq]))
    refine ⟨?_, ?_⟩
    · show fenW (if p.fl then ws.set p.at_.toNat p.val else ws) ps = layW (ws.set p.at_.toNat p.val) ps
      rw [hp]
      exact ih.1
    · unfold fenP at ih ⊢
      rw [List.filter_cons, hp]
      exact ih.2
theorem layW_map (g : St → St) (hg : ∀ p, (g p).at_ = p.at_ ∧ (g p).val = p.val) : ∀ (ps : List St) (ws : List Int), layW ws (ps.map g) = layW ws ps
  | [], _ => rfl
  | p :: ps, ws => by
    show layW (ws.set (g p).at_.toNat (g p).val) (ps.map g) = layW (ws.set p.at_.toNat p.val) ps
    rw [(hg p).1, (hg p).2]
    exact layW_map g hg ps _

theorem run_stores : ∀ (S : List St) (s : List Int × List St), runM s (S.map stM) = (s.1, s.2 ++ S.map (fun p => (⟨p.at_, p.val, false⟩ : St)))
  | [], s => by simp [runM]
  | p :: S, s => by
    rw [List.map_cons, runM_cons, step1_store, run_stores S]
    simp
theorem seg_run (S : List St) (ws : List Int) : runM (ws, []) (seg S) = (layW ws S, []) := by
  have e0 : runM (ws, []) (S.map stM) = (ws, S.map (fun p => (⟨p.at_, p.val, false⟩ : St))) := by rw [run_stores]; simp
  unfold seg flushL
  rw [runM_append, e0, runM_append]
  obtain ⟨g, e, h1, h2⟩ := run_flushes (nl (S.map (·.at_)) (S.map (·.at_)).length) (ws, S.map (fun p => (⟨p.at_, p.val, false⟩ : St))) (nl_kind _ _)
  rw [e, runM_cons, runM_nil, step1_fence]
  have hall : ∀ p ∈ (S.map (fun p => (⟨p.at_, p.val, false⟩ : St))).map g, p.fl = true := by
    intro p hp
    rw [List.map_map, List.mem_map] at hp
    obtain ⟨q, hq, rfl⟩ := hp
    apply h2
    obtain ⟨i, hi, rfl⟩ := List.getElem_of_mem hq
    obtain ⟨m, hm, e2⟩ := nl_has (S.map (·.at_)) (S.map (·.at_)).length i (by simpa using hi)
    refine ⟨m, hm, ?_⟩
    rw [e2]
    simp [hi]
  have f := fen_all _ ws hall
  show (fenW ws ((S.map (fun p => (⟨p.at_, p.val, false⟩ : St))).map g), fenP _) = _
  rw [f.1, f.2, List.map_map, layW_map (g ∘ fun p => (⟨p.at_, p.val, false⟩ : St)) (fun p => ⟨(h1 _).1, (h1 _).2.1⟩)]

theorem jrn_at : ∀ (us : List St) (i : Nat), ∀ p ∈ jrn i us, 9 + 2 * (i : Int) ≤ p.at_ ∧ p.at_ < 9 + 2 * ((i + us.length : Nat) : Int)
  | [], _, p, h => by cases h
  | u :: us, i, p, h => by
    rw [jrn] at h
    simp only [List.length_cons]
    rcases List.mem_cons.1 h with rfl | h
    · exact ⟨Int.le_refl _, by show 9 + 2 * (i : Int) < _; omega⟩
    · rcases List.mem_cons.1 h with rfl | h
      · exact ⟨by show _ ≤ 9 + 2 * (i : Int) + 1; omega, by show 9 + 2 * (i : Int) + 1 < _; omega⟩
      · have := jrn_at us (i + 1) p h
        omega
end Go.Proofs.YtlgghookekokaaaGreatDoor

namespace Go.Proofs.YtlgghookekokaaaGreatDoor
open Go.RowKit

/-- A step that is right, and of the memory. -/
def StOK (m : Mi) : Prop := miB m = true ∧ (m.kind = 1 ∨ m.kind = 2 ∨ m.kind = 3)
theorem nl_mem (ks : List Int) : ∀ i, i ≤ ks.length → ∀ m ∈ nl ks i, ∃ k, k < ks.length ∧ m.at_ = ks[k]?.getD 0
  | 0, _, m, h => by cases h
  | i + 1, hi, m, h => by
    rw [nl] at h
    split at h
    · exact nl_mem ks i (by omega) m h
    · rcases List.mem_append.1 h with h | h
      · exact nl_mem ks i (by omega) m h
      · rw [List.mem_singleton.1 h]; exact ⟨i, by omega, rfl⟩
theorem ok_seg {S : List St} (h : ∀ p ∈ S, (0 ≤ p.at_ ∧ p.at_ < 336) ∧ 0 ≤ p.val ∧ p.val < 1099511627776) : ∀ m ∈ seg S, StOK m := by
  intro m hm
  unfold seg flushL at hm
  rcases List.mem_append.1 hm with hm | hm
  · obtain ⟨p, hp, rfl⟩ := List.mem_map.1 hm
    have := h p hp
    exact ⟨(miB_of 1 p.at_ p.val).2 (.inl ⟨rfl, this⟩), .inl rfl⟩
  · rcases List.mem_append.1 hm with hm | hm
    · have e := nl_kind _ _ m hm
      obtain ⟨k, hk, ek⟩ := nl_mem _ _ (Nat.le_refl _) m hm
      have : ∃ p ∈ S, m.at_ = p.at_ := by
        rw [List.length_map] at hk
        exact ⟨S[k], List.getElem_mem hk, by rw [ek, List.getElem?_map, List.getElem?_eq_getElem hk]; rfl⟩
      obtain ⟨p, hp, ep⟩ := this
      rw [e]
      have := h p hp
      exact ⟨(miB_of 2 m.at_ 0).2 (.inr (.inl ⟨rfl, by rw [ep]; exact this.1, rfl⟩)), .inr (.inl rfl)⟩
    · rw [List.mem_singleton.1 hm]
      exact ⟨(miB_of 3 0 0).2 (.inr (.inr (.inr ⟨.inl rfl, rfl, rfl⟩))), .inr (.inr rfl)⟩
theorem jrn_val : ∀ (us : List St) (i : Nat), (∀ p ∈ us, (48 ≤ p.at_ ∧ p.at_ < 336) ∧ 0 ≤ p.val ∧ p.val < 1099511627776) → ∀ p ∈ jrn i us, 0 ≤ p.val ∧ p.val < 1099511627776
  | [], _, _, p, h => by cases h
  | u :: us, i, hu, p, h => by
    rw [jrn] at h
    have h0 := hu u List.mem_cons_self
    rcases List.mem_cons.1 h with rfl | h
    · exact ⟨by show 0 ≤ u.at_; omega, by show u.at_ < _; omega⟩
    · rcases List.mem_cons.1 h with rfl | h
      · exact ⟨by show 0 ≤ u.val; omega, by show u.val < _; omega⟩
      · exact jrn_val us (i + 1) (fun q hq => hu q (List.mem_cons_of_mem _ hq)) p h
theorem cnt_ok (n : Int) (h : 0 ≤ n ∧ n < 1099511627776) : ∀ p ∈ cnt n, (0 ≤ p.at_ ∧ p.at_ < 336) ∧ 0 ≤ p.val ∧ p.val < 1099511627776 := by
  intro p hp
  rw [List.mem_singleton.1 hp]
  exact ⟨⟨by show (0 : Int) ≤ 8; omega, by show (8 : Int) < 336; omega⟩, h⟩
end Go.Proofs.YtlgghookekokaaaGreatDoor

namespace Go.Proofs.YtlgghookekokaaaGreatDoor
open Go.RowKit

/-- A number stands in a list. -/
def hasB (zs : List Int) (n : Int) : Bool := zs.contains n
theorem has_not {zs : List Int} {n : Int} (h : ∀ j (h : j < zs.length), ¬ zs[j] = n) : hasB zs n = false := by
  unfold hasB
  rw [List.contains_eq_any_beq, List.any_eq_false]
  intro z hz
  obtain ⟨j, hj, rfl⟩ := List.getElem_of_mem hz
  simp only [beq_iff_eq]
  exact fun e => h j hj e.symm

set_option maxRecDepth 100000 in
set_option maxHeartbeats 2000000 in
theorem l05Has_any (v : Value) (zs : List Int) (n : Int) (w : World) (h : RdI w v zs) (hn : zs.length ≤ 1048576) :
    Calls Tryz.prog 157 #[v, .int .i64 n] w fun e w' => e = .returned (.bool (hasB zs n)) ∧ w' = w := by
  obtain ⟨aZ, cZ, rfl, _, hcZ⟩ := h.shape
  have HZ := hideIt hcZ
  clear h hcZ
  go_enter Tryz.func157, Tryz.ntmps157
  go_wp2
  go_loop [5] (fun i => ∃ k : Nat, k ≤ zs.length ∧ i = .int .i64 k ∧ Hid (∀ j (h : j < zs.length), j < k → ¬ zs[j] = n)) (fun i => zs.length - (intOf i).toNat)
  case atStart => exact ⟨0, by omega, rfl, fun j h a => absurd a (by omega)⟩
  case round =>
    obtain ⟨k, hk, rfl, H⟩ := hrel
    by_cases hlt : k < zs.length
    · obtain ⟨b, o, rfl, hbl, hcell⟩ := HZ.out (by omega)
      have d0 := hcell k hlt
      have k0 : (0 : Int) ≤ (k : Int) := by omega
      have k1 : (k : Int) < (zs.length : Int) := by omega
      have HY := hideIt (fun e : zs[k] = n => show hasB zs n = true by unfold hasB; rw [← e]; exact List.contains_iff_mem.2 (List.getElem_mem hlt))
      have HX := hideIt (fun (e : ¬ zs[k] = n) j (h : j < zs.length) (a : j < k + 1) => show ¬ zs[j] = n by
        by_cases q : j = k
        · subst q; exact e
        · exact H.out j h (by omega))
      clear hcell
      generalize zs[k] = z at *
      by_cases q : z = n
      · have q1 : (z == n) = true := beq_iff_eq.2 q
        have E := hideIt (HY.out q)
        clear q HX HY
        go_wp2
        go_ret
        exact ⟨ret_bool E.out.symm, rfl⟩
      · have q1 : (z == n) = false := beq_eq_false_iff_ne.2 q
        have E := hideIt (HX.out q)
        clear q HX HY
        go_wp2
        go_round
        case rel => exact ⟨k + 1, by omega, by go_num, E⟩
        case measure => simp [intOf]; omega
    · obtain rfl : k = zs.length := by omega
      have E := hideIt (has_not (fun j h => H.out j h h))
      go_wp2
      go_ret
      exact ⟨ret_bool E.out.symm, rfl⟩

theorem l01Bit_any (b : Bool) (w : World) : Calls Tryz.prog 155 #[.bool b] w fun e w' => e = .returned (.int .i64 (if b = true then 1 else 0)) ∧ w' = w := by
  cases b
  all_goals
    go_enter Tryz.func155, Tryz.ntmps155
    go_wp2
    go_ret
    exact ⟨rfl, rfl⟩

/-- The directory that one stands in, -1 of one that stands in none. -/
def upD (ds : List Den) (c : Int) : Int := ((ds.find? fun x => x.child == c).map Den.dir).getD (-1)
theorem upD_no {ds : List Den} {c : Int} (h : ∀ j (h : j < ds.length), ¬ ds[j].child = c) : upD ds c = -1 := by
  unfold upD
  rw [List.find?_eq_none.2]
  · rfl
  · intro x hx
    obtain ⟨j, hj, rfl⟩ := List.getElem_of_mem hx
    simp only [beq_iff_eq]
    exact h j hj
theorem upD_yes {ds : List Den} {c : Int} {k : Nat} (hk : k < ds.length) (h : ∀ j (h : j < ds.length), j < k → ¬ ds[j].child = c) (e : ds[k].child = c) : upD ds c = ds[k].dir := by
  unfold upD
  have : ds.find? (fun x => x.child == c) = some ds[k] := List.find?_eq_some_iff_getElem.2 ⟨beq_iff_eq.2 e, k, hk, rfl, fun j hj => by
    have := h j (by omega) hj
    simp [this]⟩
  rw [this]
  rfl

set_option maxRecDepth 100000 in
set_option maxHeartbeats 2000000 in
theorem l05Up_any (v : Value) (ws : List Ino) (ps : List Den) (c : Int) (w : World) (h : RdIm w v ws ps) (hn : ps.length ≤ 1048576) :
    Calls Tryz.prog 198 #[v, .int .i64 c] w fun e w' => e = .returned (.int .i64 (upD ps c)) ∧ Below w.heap.size w w' := by
  obtain ⟨vW, vP, rfl, h1, h2⟩ := h
  obtain ⟨aW, cW, rfl, _⟩ := h1.shape
  obtain ⟨aP, cP, rfl, _, hcP⟩ := h2.shape
  have HZ := hideIt hcP
  clear h1 h2 hcP
  obtain ⟨W, hW⟩ : ∃ W, W = w.alloc (.cells #[.slice aW ws.length cW, .slice aP ps.length cP] 26) := ⟨_, rfl⟩
  have CA : Hid (∀ w', Below W.heap.size W w' → w'.cell? ⟨w.heap.size, 1, none⟩ = some (.slice aP ps.length cP)) := fun w' hb => by
    have : w'.heap[w.heap.size]? = some (.cells #[.slice aW ws.length cW, .slice aP ps.length cP] 26 (0, 0)) := (hb.block _ (by rw [hW]; simp)).trans (by rw [hW]; exact at_new rfl)
    exact (two_cells this).2.1
  have BW : Hid (Below w.heap.size w W) := by rw [hW]; exact (Below.refl _ _).alloc (Nat.le_refl _) _
  have hz : w.heap.size ≤ W.heap.size := BW.out.size
  go_enter Tryz.func198, Tryz.ntmps198
  go_wp2
  rw [← hW]
  clear hW
  go_loopw [5] (fun i wr => ∃ k : Nat, k ≤ ps.length ∧ i = .int .i64 k ∧ Hid (Below W.heap.size W wr ∧ ∀ j (h : j < ps.length), j < k → ¬ ps[j].child = c)) (fun i _ => ps.length - (intOf i).toNat)
  case atStart => exact ⟨0, by omega, rfl, Below.refl _ _, fun j h a => absurd a (by omega)⟩
  case round =>
    obtain ⟨k, hk, rfl, J⟩ := hrel
    have x1 := CA.out wr J.out.1
    by_cases hlt : k < ps.length
    · obtain ⟨b, o, rfl, hbl, hcell⟩ := HZ.out (by omega)
      have BR := below_trans BW.out J.out.1 hz
      obtain ⟨c0, c1, c2⟩ := hcell k hlt
      have d0 := (BR.cell (p := ⟨b, o + k * 3, none⟩) hbl).trans c0
      have d2 := (BR.cell (p := ⟨b, o + k * 3 + 2, none⟩) hbl).trans c2
      have B := hideIt BR
      have k0 : (0 : Int) ≤ (k : Int) := by omega
      have k1 : (k : Int) < (ps.length : Int) := by omega
      have HY := hideIt (fun e : ps[k].child = c => upD_yes hlt J.out.2 e)
      have HX := hideIt (fun (e : ¬ ps[k].child = c) j (h : j < ps.length) (a : j < k + 1) => show ¬ ps[j].child = c by
        by_cases q : j = k
        · subst q; exact e
        · exact J.out.2 j h (by omega))
      clear hcell c0 c1 c2 BR
      generalize ps[k].child = z at *
      generalize ps[k].dir = y at *
      by_cases q : z = c
      · have q1 : (z == c) = true := beq_iff_eq.2 q
        have E := hideIt (HY.out q)
        clear q HX HY
        go_wp2
        go_ret
        exact ⟨ret_int E.out.symm, B.out⟩
      · have q1 : (z == c) = false := beq_eq_false_iff_ne.2 q
        have E : Hid (Below W.heap.size W wr ∧ ∀ j (h : j < ps.length), j < k + 1 → ¬ ps[j].child = c) := ⟨J.out.1, HX.out q⟩
        clear q HX HY
        go_wp2
        go_roundw
        case rel => exact ⟨k + 1, by omega, by go_num, E⟩
        case measure => simp [intOf]; omega
    · obtain rfl : k = ps.length := by omega
      have E := hideIt (upD_no (fun j h => J.out.2 j h h))
      go_wp2
      go_ret
      exact ⟨ret_int E.out.symm, below_trans BW.out J.out.1 hz⟩

/-- One hangs on the root within n steps up. -/
def hangs (ds : List Den) : Nat → Int → Bool
  | 0, _ => false
  | n + 1, d => if d = 0 then true else if upD ds d < 0 then false else hangs ds n (upD ds d)

set_option maxRecDepth 100000 in
set_option maxHeartbeats 2000000 in
theorem l05Hangs_any (v : Value) (ws : List Ino) (ps : List Den) (c : Int) (w : World) (h : RdIm w v ws ps) (hn : ps.length ≤ 1048576) :
    Calls Tryz.prog 156 #[v, .int .i64 c] w fun e w' => e = .returned (.bool (hangs ps 16 c)) ∧ Below w.heap.size w w' := by
  have HR := hideIt h
  obtain ⟨vW, vP, rfl, h1, h2⟩ := h
  obtain ⟨aW, cW, rfl, _⟩ := h1.shape
  obtain ⟨aP, cP, rfl, _, hcP⟩ := h2.shape
  clear h1 h2 hcP
  obtain ⟨W, hW⟩ : ∃ W, W = w.alloc (.cells #[.slice aW ws.length cW, .slice aP ps.length cP] 26) := ⟨_, rfl⟩
  have CA : Hid (∀ w', Below W.heap.size W w' → w'.cell? ⟨w.heap.size, 0, none⟩ = some (.slice aW ws.length cW) ∧ w'.cell? ⟨w.heap.size, 1, none⟩ = some (.slice aP ps.length cP)) := fun w' hb => by
    have : w'.heap[w.heap.size]? = some (.cells #[.slice aW ws.length cW, .slice aP ps.length cP] 26 (0, 0)) := (hb.block _ (by rw [hW]; simp)).trans (by rw [hW]; exact at_new rfl)
    exact ⟨(two_cells this).1, (two_cells this).2.1⟩
  have BW : Hid (Below w.heap.size w W) := by rw [hW]; exact (Below.refl _ _).alloc (Nat.le_refl _) _
  have hz : w.heap.size ≤ W.heap.size := BW.out.size
  have LU := hideIt (fun d w1 h => l05Up_any (.agg #[.slice aW ws.length cW, .slice aP ps.length cP]) ws ps d w1 h hn)
  go_enter Tryz.func156, Tryz.ntmps156
  go_wp2
  rw [← hW]
  clear hW
  go_loopw [1, 5] (fun d i wr => ∃ (k : Nat) (z : Int), k ≤ 16 ∧ i = .int .i64 k ∧ d = .int .i64 z ∧ Hid (Below W.heap.size W wr ∧ hangs ps 16 c = hangs ps (16 - k) z)) (fun _ i _ => 16 - (intOf i).toNat)
  case atStart => exact ⟨0, c, by omega, rfl, rfl, Below.refl _ _, rfl⟩
  case round =>
    obtain ⟨k, z, hk, rfl, rfl, J⟩ := hrel
    obtain ⟨x0, x1⟩ := CA.out wr J.out.1
    by_cases hlt : k < 16
    · have ES := hideIt (show hangs ps (16 - k) z = if z = 0 then true else if upD ps z < 0 then false else hangs ps (16 - (k + 1)) (upD ps z) by
        rw [show 16 - k = (16 - (k + 1)) + 1 by omega]; rfl)
      have B := hideIt (below_trans BW.out J.out.1 hz)
      by_cases q : z = 0
      · subst q
        have E := hideIt (show hangs ps 16 c = true by rw [J.out.2, ES.out, if_pos rfl])
        go_wp2
        go_ret
        exact ⟨ret_bool E.out.symm, B.out⟩
      · have q1 : (z == 0) = false := beq_eq_false_iff_ne.2 q
        have R := hideIt (HR.out.below B.out)
        by_cases r : upD ps z < 0
        · have E := hideIt (show hangs ps 16 c = false by rw [J.out.2, ES.out, if_neg q, if_pos r])
          go_wp2_with fail
          refine (LU.out _ _ R.out).mono ?_
          rintro e w1 ⟨rfl, hb1⟩
          have B1 := hideIt (below_trans B.out hb1 B.out.size)
          clear hb1
          go_wp2
          go_ret
          exact ⟨ret_bool E.out.symm, B1.out⟩
        · have E := hideIt (show hangs ps 16 c = hangs ps (16 - (k + 1)) (upD ps z) by rw [J.out.2, ES.out, if_neg q, if_neg r])
          go_wp2_with fail
          refine (LU.out _ _ R.out).mono ?_
          rintro e w1 ⟨rfl, hb1⟩
          have B1 := hideIt (below_trans J.out.1 hb1 J.out.1.size)
          clear hb1
          go_wp2
          go_roundw
          case rel => exact ⟨k + 1, _, by omega, by go_num, rfl, B1.out, E.out⟩
          case measure => simp [intOf]; omega
    · obtain rfl : k = 16 := by omega
      have E := hideIt (show hangs ps 16 c = false by rw [J.out.2]; rfl)
      go_wp2
      go_ret
      exact ⟨ret_bool E.out.symm, below_trans BW.out J.out.1 hz⟩
end Go.Proofs.YtlgghookekokaaaGreatDoor
