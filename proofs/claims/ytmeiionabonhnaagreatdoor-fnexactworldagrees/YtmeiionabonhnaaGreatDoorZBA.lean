/- Several texts laid together: JrQ, JrC, DtA, DtB, RdB. -/
import Derived.Test.YtmeiionabonhnaaGreatDoorZAB
import Derived.Test.YtmeiionabonhnaaGreatDoorZAI
import Derived.Test.YtmeiionabonhnaaGreatDoorZAJ
import Derived.Test.YtmeiionabonhnaaGreatDoorZAD
import Derived.Deep.RegionHeld3
import Derived.BigRegion
import Derived.BigQuiet
import Derived.Deep.QuietTactic
import Derived.Deep.DeepCutAuto
import Derived.Test.YtmeiionabonhnaaGreatDoorZAZ
import Derived.Test.YtmeiionabonhnaaGreatDoorZAA
import Derived.Test.YtmeiionabonhnaaGreatDoorZAE
import Derived.Deep.RegionWith
import Derived.Deep.RegionLaw
import Derived.Test.YtmeiionabonhnaaGreatDoorZAH
import Derived.Test.YtmeiionabonhnaaGreatDoorZAF
import Derived.Test.YtmeiionabonhnaaGreatDoorZAR
import Derived.Test.YtmeiionabonhnaaGreatDoorZAX
import Derived.Test.YtmeiionabonhnaaGreatDoorZAW
import Derived.Deep.LoopGhost
namespace Go.Proofs.YtmeiionabonhnaaGreatDoor
open Go.RowKit
theorem below_of_drew {w w' : World} (h : Below w.drew.heap.size w.drew w') : Below w.heap.size w w' := below_trans ((Below.refl w.heap.size w).drew) h (Nat.le_refl _)
end Go.Proofs.YtmeiionabonhnaaGreatDoor

namespace Go.Proofs.YtmeiionabonhnaaGreatDoor
open Go.RowKit
def ldW (ws : List Int) (ps : List St) (k : Nat) : Int := lastW (k : Int) (ws[k]?.getD 0) ps
theorem ldW_at {ws : List Int} {ps : List St} {k : Nat} (h : k < ws.length) : ldW ws ps k = lastW (k : Int) ws[k] ps := by unfold ldW; simp [h]
theorem pm_len {ws : List Int} {ps : List St} (h : pmB ws ps = true) : ws.length = 336 := (pmB_len h).1
set_option maxRecDepth 100000 in
set_option maxHeartbeats 2000000 in
theorem l04Count_any (v : Value) (ws : List Int) (ps : List St) (w : World) (h : RdPm w v ws ps) (hw : ws.length ≤ 1048576) (hp : ps.length ≤ 1048576) (ha : 8 < ws.length) :
    Calls Tryz.prog 145 #[v] w fun e w' => e = .returned (.int .i64 (ldW ws ps 8)) ∧ Below w.heap.size w w' := by
  have HR := hideIt h
  obtain ⟨vW, vP, rfl, h1, h2⟩ := h
  obtain ⟨aW, cW, rfl, _⟩ := h1.shape
  obtain ⟨aP, cP, rfl, _⟩ := h2.shape
  clear h1 h2
  have hb0 : Below w.heap.size w (w.alloc (.cells #[.slice aW ws.length cW, .slice aP ps.length cP] 66)) := (Below.refl _ _).alloc (Nat.le_refl _) _
  rw [ldW_at ha]
  go_enter Tryz.func145, Tryz.ntmps145
  go_wp2_with fail
  refine (l01Load_any _ ws ps 8 _ (HR.out.below hb0) hw hp ha).mono ?_
  rintro e w2 ⟨rfl, hb2⟩
  go_wp2
  go_ret
  exact ⟨rfl, below_trans hb0 hb2 (by simp)⟩
end Go.Proofs.YtmeiionabonhnaaGreatDoor

namespace Go.Proofs.YtmeiionabonhnaaGreatDoor
open Go.RowKit
def pgV (ws : List Int) (ps : List St) (es : List Int) (qs : List Se) (e : Int) : Int := if e % 4 = 1 then ldW ws ps (312 + e / 4).toNat else if e % 4 = 2 then lastE (e / 4) (es[(e / 4).toNat]?.getD 0) qs else 0
def dvB (ws : List Int) (ps : List St) (es : List Int) (qs : List Se) : Bool := (pmB ws ps && blkB es qs) && riB (layW ws ps)
def pgL (ws : List Int) (ps : List St) (es : List Int) (qs : List Se) (x : Ino) (k : Nat) : List Int := (List.range k).map fun j => pgV ws ps es qs (x.map.getD j 0)
theorem pgL_step (ws : List Int) (ps : List St) (es : List Int) (qs : List Se) (x : Ino) (k : Nat) : pgL ws ps es qs x (k + 1) = pgL ws ps es qs x k ++ [pgV ws ps es qs (x.map.getD k 0)] := by
  unfold pgL
  rw [List.range_succ, List.map_append]
  rfl
end Go.Proofs.YtmeiionabonhnaaGreatDoor

namespace Go.Proofs.YtmeiionabonhnaaGreatDoor
open Go.RowKit
set_option maxRecDepth 100000 in
set_option maxHeartbeats 4000000 in
theorem l08Value_any (v : Value) (ws : List Int) (ps : List St) (es : List Int) (qs : List Se) (e : Int) (w : World) (h : RdDev w v ws ps es qs) (hP : pmB ws ps = true) (hB : blkB es qs = true) (te : tieB e = true) :
    Calls Tryz.prog 147 #[v, .int .i64 e] w fun r w' => r = .returned (.int .i64 (pgV ws ps es qs e)) ∧ Below w.heap.size w w' := by
  obtain ⟨aW, cW, aP, cP, aS, cS, aQ, cQ, rfl, h1, h2⟩ := h.form
  have te' : 0 ≤ e ∧ ((e % 4 = 0 ∧ e / 4 = 0) ∨ (e % 4 = 1 ∧ 0 ≤ e / 4 ∧ e / 4 < 24) ∨ (e % 4 = 2 ∧ 0 ≤ e / 4 ∧ e / 4 < 32)) := by
    unfold tieB addrB at te
    rw [Bool.and_eq_true, decide_eq_true_eq, decide_eq_true_eq] at te
    exact te
  have wl := pmB_len hP
  have el := blkB_len hB
  have BW : Hid (Below w.heap.size w (w.alloc (.cells #[.slice aW ws.length cW, .slice aP ps.length cP, .slice aS es.length cS, .slice aQ qs.length cQ] 71))) := (Below.refl _ _).alloc (Nat.le_refl _) _
  have LT := hideIt (fun w1 => l03Tier_any e w1 te'.1 (by omega))
  have EV := hideIt (show pgV ws ps es qs e = if e % 4 = 1 then ldW ws ps (312 + e / 4).toNat else if e % 4 = 2 then lastE (e / 4) (es[(e / 4).toNat]?.getD 0) qs else 0 from rfl)
  have L1 : Hid (∀ (k : Nat), k < 24 → ∀ w1, Below w.heap.size w w1 → Calls Tryz.prog 91 #[.agg #[.slice aW ws.length cW, .slice aP ps.length cP], .int .i64 (312 + (k : Int))] w1 fun r w' => r = .returned (.int .i64 (ldW ws ps (312 + k))) ∧ Below w1.heap.size w1 w') := fun k hk w1 hb => by
    have := l01Load_any _ ws ps (312 + k) w1 (h1.below hb) (by omega) (by omega) (by omega)
    rw [← ldW_at, show ((312 + k : Nat) : Int) = 312 + (k : Int) by omega] at this
    exact this
  have L2 : Hid (∀ (k : Nat), k < 32 → ∀ w1, Below w.heap.size w w1 → Calls Tryz.prog 206 #[.agg #[.slice aS es.length cS, .slice aQ qs.length cQ], .int .i64 (k : Int)] w1 fun r w' => r = .returned (.int .i64 (lastE (k : Int) (es[k]?.getD 0) qs)) ∧ Below w1.heap.size w1 w') := fun k hk w1 hb => by
    have := l02Read_any _ es qs k w1 (h2.below hb) (by omega) (by omega) (by omega)
    rw [show (es[k]?.getD 0) = es[k]'(by omega) by simp [show k < es.length by omega]]
    exact this
  clear h h1 h2 te hP hB wl el
  generalize pgV ws ps es qs e = r at *
  generalize e % 4 = t at *
  generalize e / 4 = a at *
  rcases te'.2 with ⟨rfl, rfl⟩ | ⟨rfl, a0, a1⟩ | ⟨rfl, a0, a1⟩
  · rw [if_neg (by omega), if_neg (by omega)] at EV
    obtain rfl := EV.out
    clear te' L1 L2 EV
    go_enter Tryz.func147, Tryz.ntmps147
    go_wp2_with fail
    refine (LT.out _).mono ?_
    rintro r w1 ⟨rfl, rfl⟩
    go_wp2
    go_ret
    exact ⟨rfl, BW.out⟩
  · obtain ⟨k, rfl⟩ : ∃ k : Nat, a = (k : Int) := ⟨a.toNat, by omega⟩
    rw [if_pos rfl, show (312 + (k : Int)).toNat = 312 + k by omega] at EV
    obtain rfl := EV.out
    have k24 : k < 24 := by omega
    have Q := hideIt (L1.out k k24)
    clear te' L1 L2 EV a0 a1
    go_enter Tryz.func147, Tryz.ntmps147
    go_wp2_with fail
    refine (LT.out _).mono ?_
    rintro r w1 ⟨rfl, rfl⟩
    go_wp2_with fail
    refine (Q.out _ BW.out).mono ?_
    rintro r w2 ⟨rfl, hb2⟩
    have B2 := hideIt (below_trans BW.out hb2 BW.out.size)
    clear hb2
    go_wp2
    go_ret
    exact ⟨rfl, B2.out⟩
  · obtain ⟨k, rfl⟩ : ∃ k : Nat, a = (k : Int) := ⟨a.toNat, by omega⟩
    rw [if_neg (by omega), if_pos rfl, Int.toNat_natCast] at EV
    obtain rfl := EV.out
    have k32 : k < 32 := by omega
    have Q := hideIt (L2.out k k32)
    clear te' L1 L2 EV a0 a1
    go_enter Tryz.func147, Tryz.ntmps147
    go_wp2_with fail
    refine (LT.out _).mono ?_
    rintro r w1 ⟨rfl, rfl⟩
    go_wp2_with fail
    refine (Q.out _ BW.out).mono ?_
    rintro r w2 ⟨rfl, hb2⟩
    have B2 := hideIt (below_trans BW.out hb2 BW.out.size)
    clear hb2
    go_wp2
    go_ret
    exact ⟨rfl, B2.out⟩
end Go.Proofs.YtmeiionabonhnaaGreatDoor

namespace Go.Proofs.YtmeiionabonhnaaGreatDoor
open Go.RowKit
theorem bel2 {a b c : World} (h1 : Below a.heap.size a b) (h2 : Below b.heap.size b c) : Below a.heap.size a c := below_trans h1 h2 h1.size
structure RimI (W w : World) (bM : Nat) (vI vD : Value) (xs : List Ino) (ds : List Den) : Prop where
  m : w.heap[bM]? = some (.cells #[vI, vD] 98 (0, 0))
  i : w.ownsRow W.heap.size 150 11 vI xs.length (inos xs)
  d : w.ownsRow W.heap.size 140 3 vD ds.length (dens ds)
  b : Below W.heap.size W w
  hb : W.heap.size ≤ bM
theorem RimI.lt {W w : World} {bM : Nat} {vI vD : Value} {xs : List Ino} {ds : List Den} (h : RimI W w bM vI vD xs ds) : bM < w.heap.size := (Array.getElem?_eq_some_iff.1 h.m).1
theorem RimI.z {W w : World} {bM : Nat} {vI vD : Value} {xs : List Ino} {ds : List Den} (h : RimI W w bM vI vD xs ds) : W.heap.size ≤ w.heap.size := h.b.size
theorem RimI.below {W w w' : World} {bM : Nat} {vI vD : Value} {xs : List Ino} {ds : List Den} (h : RimI W w bM vI vD xs ds) (hb : Below w.heap.size w w') : RimI W w' bM vI vD xs ds :=
  ⟨(hb.block _ h.lt).trans h.m, ((own_block h.i).below hb (Nat.le_refl _)).1, ((own_block h.d).below hb (Nat.le_refl _)).1, below_trans h.b hb h.z, h.hb⟩
theorem own_type {w : World} {base : Nat} {e t : TypeId} {size : Nat} {v : Value} {n : Nat} {xs : List Value} {b : Nat} {cs : Array Value} {fr : Nat × Nat} (h : w.ownsRow base e size v n xs) (hb : w.heap[b]? = some (.cells cs t fr)) (hne : e ≠ t) : v.ownBlock ≠ some b := by
  intro hv
  obtain ⟨_, h1 | ⟨g, cap, cur, e1, _, hg, _⟩⟩ := h
  · rw [h1.1] at hv; cases hv
  · rw [e1] at hv
    have : g = b := by simpa [Value.ownBlock] using hv
    subst this
    rw [hg] at hb
    injection hb with hb
    injection hb with _ ht _
    exact hne ht
theorem img_ino : (150 : Nat) ≠ 98 := by decide
theorem img_den : (140 : Nat) ≠ 98 := by decide
theorem ino_den : (150 : Nat) ≠ 140 := by decide
theorem inos_app (l l' : List Ino) : inos (l ++ l') = inos l ++ inos l' := by simp [inos]
theorem inos_ones (l : List Ino) : ∀ u ∈ inos l, u.oneCell' = true := by
  intro u hu
  simp only [inos, List.mem_flatMap] at hu
  obtain ⟨m, _, hm⟩ := hu
  simp [Ino.cs] at hm
  rcases hm with rfl | rfl | rfl | rfl | rfl | rfl | rfl | rfl | rfl | rfl | rfl <;> rfl
theorem RimI.growI {W w w' : World} {bM : Nat} {vI vD v' : Value} {xs : List Ino} {ds : List Den} (h : RimI W w bM vI vD xs ds) (x : Ino) (ho : w'.ownsRow W.heap.size 150 11 v' (xs.length + 1) (inos xs ++ inos [x])) (hg : w.grownBy w' vI.ownBlock) :
    w'.heap[bM]? = some (.cells #[vI, vD] 98 (0, 0)) ∧ RimI W (w'.setCell ⟨bM, 0, none⟩ v') bM v' vD (xs ++ [x]) ds := by
  have hm : w'.heap[bM]? = some (.cells #[vI, vD] 98 (0, 0)) := (hg.block _ h.lt (own_type h.i h.m img_ino).symm).trans h.m
  have hd := (Row.apart (own_block h.d) (own_block h.i) (Ne.symm ino_den) hg).1
  have hbw := h.b.grown hg h.z (fun q hq => (h.i.lt q hq).1)
  have hm2 : (w'.setCell ⟨bM, 0, none⟩ v').heap[bM]? = some (.cells #[v', vD] 98 (0, 0)) := eight_set (xs := [vI, vD]) hm 0 v'
  refine ⟨hm, hm2, ?_, ?_, hbw.setCell h.hb _, h.hb⟩
  · rw [inos_app, List.length_append]
    exact ownsRow_setCell_other ho (own_type ho hm img_ino) _
  · exact ownsRow_setCell_other hd (own_type hd hm img_den) _
theorem RimI.growD {W w w' : World} {bM : Nat} {vI vD v' : Value} {xs : List Ino} {ds : List Den} (h : RimI W w bM vI vD xs ds) (x : Den) (ho : w'.ownsRow W.heap.size 140 3 v' (ds.length + 1) (dens ds ++ dens [x])) (hg : w.grownBy w' vD.ownBlock) :
    w'.heap[bM]? = some (.cells #[vI, vD] 98 (0, 0)) ∧ RimI W (w'.setCell ⟨bM, 1, none⟩ v') bM vI v' xs (ds ++ [x]) := by
  have hm : w'.heap[bM]? = some (.cells #[vI, vD] 98 (0, 0)) := (hg.block _ h.lt (own_type h.d h.m img_den).symm).trans h.m
  have hd := (Row.apart (own_block h.i) (own_block h.d) ino_den hg).1
  have hbw := h.b.grown hg h.z (fun q hq => (h.d.lt q hq).1)
  have hm2 : (w'.setCell ⟨bM, 1, none⟩ v').heap[bM]? = some (.cells #[vI, v'] 98 (0, 0)) := eight_set (xs := [vI, vD]) hm 1 v'
  refine ⟨hm, hm2, ?_, ?_, hbw.setCell h.hb _, h.hb⟩
  · exact ownsRow_setCell_other hd (own_type hd hm img_ino) _
  · rw [dens_app, List.length_append]
    exact ownsRow_setCell_other ho (own_type ho hm img_den) _
theorem below_allocB {a w : World} (h : Below a.heap.size a w) (o : Obj) : Below a.heap.size a (w.alloc o) := h.alloc h.size o
structure BoxZ (t : TypeId) (wr w : World) (b : Nat) (cs : List Value) : Prop where
  ge : wr.heap.size ≤ b
  at_ : w.heap[b]? = some (.cells cs.toArray t (0, 0))
theorem BoxZ.new {t : TypeId} {wr Y : World} {cs : List Value} (h : Below wr.heap.size wr Y) : BoxZ t wr (Y.alloc (.cells cs.toArray t)) Y.heap.size cs := ⟨h.size, at_new rfl⟩
theorem BoxZ.drew {t : TypeId} {wr w : World} {b : Nat} {cs : List Value} (h : BoxZ t wr w b cs) : BoxZ t wr w.drew b cs := ⟨h.ge, h.at_⟩
theorem BoxZ.lt {t : TypeId} {wr w : World} {b : Nat} {cs : List Value} (h : BoxZ t wr w b cs) : b < w.heap.size := (Array.getElem?_eq_some_iff.1 h.at_).1
theorem BoxZ.below {t : TypeId} {wr X w : World} {b : Nat} {cs : List Value} (h : BoxZ t wr X b cs) (hb : Below X.heap.size X w) : BoxZ t wr w b cs := ⟨h.ge, (hb.block _ h.lt).trans h.at_⟩
theorem BoxZ.put {t : TypeId} {wr w : World} {b : Nat} {cs : List Value} (h : BoxZ t wr w b cs) (j : Nat) (u : Value) : BoxZ t wr (w.setCell ⟨b, j, none⟩ u) b (cs.set j u) := ⟨h.ge, eight_set h.at_ j u⟩
theorem BoxZ.cell {t : TypeId} {wr w : World} {b : Nat} {cs : List Value} (h : BoxZ t wr w b cs) (j : Nat) : w.cell? ⟨b, j, none⟩ = cs[j]? ∧ w.frozen? ⟨b, j, none⟩ = false := eight_at h.at_ j
end Go.Proofs.YtmeiionabonhnaaGreatDoor
