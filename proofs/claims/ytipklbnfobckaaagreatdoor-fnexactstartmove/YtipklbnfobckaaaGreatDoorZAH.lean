/- Several texts laid together: BlkOwn, BlkBar, MicD, MicO, MiL. -/
import Derived.Test.YtipklbnfobckaaaGreatDoorZAG
import Derived.Deep.RegionLaw
import Derived.Test.YtipklbnfobckaaaGreatDoorZAE
import Derived.Test.YtipklbnfobckaaaGreatDoorZAF
import Derived.Deep.RegionWith
import Derived.Deep.DeepCutAuto
import Derived.Test.YtipklbnfobckaaaGreatDoorZAB
namespace Go.Proofs.YtipklbnfobckaaaGreatDoor
open Go.RowKit


/-- A device of a call's own, its sectors in a block of numbers. -/
def RowBlk3 (w : World) (lo hi : Nat) (v : Value) (ws : List Int) (ps : List Se) : Prop := ∃ vW vP, v = .agg #[vW, vP] ∧ Row w 3 1 lo hi vW ws.length (zca ws) ∧ Row w 167 2 lo hi vP ps.length (ses ps)

set_option maxHeartbeats 2000000 in
theorem l02Own_row (v : Value) (ws : List Int) (ps : List Se) (w : World) (h : RdBlk w v ws ps) (hw : ws.length ≤ 2147483648) (hp : ps.length ≤ 2147483648) :
  Calls Tryz.prog 181 #[v] w fun e w' => ∃ v', e = .returned v' ∧ RowBlk3 w' w.heap.size w'.heap.size v' ws ps ∧ Below w.heap.size w w' := by
 obtain ⟨vW, vP, rfl, h1, h2⟩ := h
 have H1 := zaa h1
 have H2 := zaa h2
 obtain ⟨aW, cW, rfl, _⟩ := h1.shape
 obtain ⟨aP, cP, rfl, _⟩ := h2.shape
 clear h1 h2
 have hb0 : Below w.heap.size w (((w.alloc (.cells #[.slice aW ws.length cW, .slice aP ps.length cP] 44)).alloc (.cells #[.slice none 0 0, .slice none 0 0] 44)).alloc (.cells #[] 3)) := by
  repeat (refine Below.alloc ?_ (by simp <;> omega) _)
  exact Below.refl _ _
 have ho0 : (((w.alloc (.cells #[.slice aW ws.length cW, .slice aP ps.length cP] 44)).alloc (.cells #[.slice none 0 0, .slice none 0 0] 44)).alloc (.cells #[] 3)).ownsRow (w.heap.size + 2) 3 1 (.slice (some ⟨w.heap.size + 1 + 1, 0, none⟩) 0 0) 0 [] := by
  simpa using World.ownsRow_lit (base := w.heap.size + 2) (e := 3) (size := 1) ((w.alloc (.cells #[.slice aW ws.length cW, .slice aP ps.length cP] 44)).alloc (.cells #[.slice none 0 0, .slice none 0 0] 44)) #[] 0 (by simp) (by simp) rfl
 have HO := zaa ho0
 have HB := zaa hb0
 clear ho0 hb0
 go_enter Tryz.func181, Tryz.ntmps181
 go_wp2_with (at_builtin; refine zai _ rfl (.tmp 3) (.tmp 5) 22 rfl (w.heap.size + 2) 3 (.int .i64 0) 1 8 Tryz.underlying22 zkh rfl (by decide) _ 0 [] rfl HO.out _ ws.length (zca ws) rfl (Rd.below H1.out HB.out) (zem ws) (by simp [maxLen]; omega) (by omega) (by simp) ?_)
 intro v1 w1 hown1 hgr1
 have hown1 : w1.ownsRow (w.heap.size + 2) 3 1 v1 ws.length (zca ws) := by simpa using hown1
 have R1 := zaa (zaf hown1)
 obtain ⟨_, a1, c1, rfl, _⟩ := (zaf hown1).rd
 have hz1 : w.heap.size + 3 ≤ w1.heap.size := by have := hgr1.size; simp at this; omega
 have V0 := (hgr1.block w.heap.size (by simp <;> omega) (by simp [Value.ownBlock] <;> omega)).trans (zap (zap (zah rfl)))
 have V1 := (hgr1.block (w.heap.size + 1) (by simp <;> omega) (by simp [Value.ownBlock] <;> omega)).trans (zap (zah (by simp)))
 have B1 := HB.out.grown hgr1 (by simp <;> omega) (fun k hk => by simp [Value.ownBlock] at hk; omega)
 have V0' := zap (o := .cells #[] 167) (zig V0 (.slice a1 ws.length c1))
 have V1' := zap (o := .cells #[] 167) ((Below.heap_setCell w1 ⟨w.heap.size, 0, none⟩ (.slice a1 ws.length c1) (w.heap.size + 1) (by simp)).trans V1)
 obtain ⟨x1, x2, x3, x4⟩ := zad V0
 obtain ⟨x5, x6, x7, x8⟩ := zad V0'
 have HV := zaa (And.intro V0' V1')
 have hB2 := (B1.setCell (p := ⟨w.heap.size, 0, none⟩) (Nat.le_refl _) (.slice a1 ws.length c1)).alloc (by simp; omega) (.cells #[] 167)
 have ho2 : ((w1.setCell ⟨w.heap.size, 0, none⟩ (.slice a1 ws.length c1)).alloc (.cells #[] 167)).ownsRow w1.heap.size 167 2 (.slice (some ⟨w1.heap.size, 0, none⟩) 0 0) 0 [] := by
  simpa using World.ownsRow_lit (base := w1.heap.size) (e := 167) (size := 2) (w1.setCell ⟨w.heap.size, 0, none⟩ (.slice a1 ws.length c1)) #[] 0 (by simp) (by simp) rfl
 have HB2 := zaa hB2
 have HO2 := zaa ho2
 clear hown1 hgr1 V0 V1 B1 V0' V1' hB2 ho2
 go_wp2_with (at_builtin; refine zai _ rfl (.tmp 8) (.tmp 10) 42 rfl w1.heap.size 167 (.agg #[.int .i64 0, .int .i64 0]) 2 16 Tryz.underlying42 zwg rfl (by decide) _ 0 [] rfl HO2.out _ ps.length (ses ps) rfl (Rd.below H2.out HB2.out) (ses_one ps) (by simp [maxLen]; omega) (by omega) (by simp) ?_)
 intro v2 w2 hown2 hgr2
 have hown2 : w2.ownsRow w1.heap.size 167 2 v2 ps.length (ses ps) := by simpa using hown2
 have R2 := zaa (zaf hown2)
 obtain ⟨_, a2, c2, rfl, _⟩ := (zaf hown2).rd
 have hz2 : w1.heap.size + 1 ≤ w2.heap.size := by have := hgr2.size; simp at this; omega
 have V0 := (hgr2.block w.heap.size (by simp <;> omega) (by simp [Value.ownBlock]; omega)).trans HV.out.1
 have V1 := (hgr2.block (w.heap.size + 1) (by simp <;> omega) (by simp [Value.ownBlock]; omega)).trans HV.out.2
 have B2 := zaa (HB2.out.grown hgr2 (by simp <;> omega) (fun k hk => by simp [Value.ownBlock] at hk; omega))
 have K2 : Hid (∀ b, w.heap.size + 2 ≤ b → b < w1.heap.size → w2.heap[b]? = w1.heap[b]?) := by
  intro b h1 h2
  rw [hgr2.block b (by simp <;> omega) (by simp [Value.ownBlock]; omega), zdy, if_neg (by simp; omega), Below.heap_setCell _ _ _ _ (by simp only; omega)]
 obtain ⟨z1, z2, z3, z4⟩ := zad V0
 obtain ⟨t1, t2, t3, t4⟩ := zad V1
 clear hown2 hgr2 V0 V1
 go_wp2
 refine bodyPost_ret (v := .agg #[.slice a1 ws.length c1, .slice a2 ps.length c2]) (by simp [results, Tryz.results181, go_sem, t1, t2]) rfl ?_
 refine ⟨_, rfl, ⟨_, _, rfl, (R1.out.same fun b h1 h2 => ?_).wide (by omega) (by simp; omega), (R2.out.same fun b h1 h2 => ?_).wide (by omega) (by simp)⟩, ?_⟩
 ·rw [Below.heap_setCell _ _ _ _ (by simp only; omega), Below.heap_setCell _ _ _ _ (by simp only; omega), Below.heap_setCell _ _ _ _ (by simp only; omega), K2.out b h1 h2]
 ·rw [Below.heap_setCell _ _ _ _ (by simp only; omega), Below.heap_setCell _ _ _ _ (by simp only; omega), Below.heap_setCell _ _ _ _ (by simp only; omega)]
 ·exact ((B2.out.setCell (by simp only; omega) _).setCell (by simp only; omega) _).setCell (by simp only; omega) _
theorem l02Own_any (v : Value) (ws : List Int) (ps : List Se) (w : World) (h : RdBlk w v ws ps) (hw : ws.length ≤ 2147483648) (hp : ps.length ≤ 2147483648) :
  Calls Tryz.prog 181 #[v] w fun e w' => ∃ v', e = .returned v' ∧ RowBlk w' w.heap.size w'.heap.size v' ws ps ∧ Below w.heap.size w w' :=
 (l02Own_row v ws ps w h hw hp).mono fun _ _ ⟨v', he, ⟨vW, vP, hv, h1, h2⟩, hb⟩ => ⟨v', he, ⟨vW, vP, hv, h1.z, h2⟩, hb⟩
end Go.Proofs.YtipklbnfobckaaaGreatDoor

namespace Go.Proofs.YtipklbnfobckaaaGreatDoor
open Go.RowKit

/-- The sectors with the writes laid one after the other. -/
def layE (ws : List Int) (ps : List Se) : List Int := ps.foldl (fun acc p => acc.set p.at_.toNat p.val) ws
theorem layE_len (ws : List Int) : ∀ ps : List Se, (layE ws ps).length = ws.length := by
 intro ps
 unfold layE
 induction ps generalizing ws with
 | nil => rfl
 | cons p ps ih => rw [List.foldl_cons, ih]; simp
/-- In the midst of a barrier: the sectors so far, and the writes. -/
structure BarInv (w wr : World) (eZ : TypeId) (ws : List Int) (ps : List Se) (lo hi : Nat) (vW vP : Value) (m : Nat) : Prop where
 words : Row wr eZ 1 lo hi vW ws.length (zca (layE ws (ps.take m)))
 pend : Row wr 167 2 lo hi vP ps.length (ses ps)
 box : wr.heap[w.heap.size]? = some (.cells #[vW, vP] 44 (0, 0))
 res : wr.heap[w.heap.size + 1]? = some (.cells #[.slice none 0 0, .slice none 0 0] 44 (0, 0))
 below : Below w.heap.size w wr
 size : hi ≤ wr.heap.size
theorem BarInv.drew {w wr : World} {eZ : TypeId} {ws : List Int} {ps : List Se} {lo hi : Nat} {vW vP : Value} {m : Nat} (h : BarInv w wr eZ ws ps lo hi vW vP m) : BarInv w wr.drew eZ ws ps lo hi vW vP m := by
 obtain ⟨h1, h2, h4, h5, h6, h7⟩ := h
 exact ⟨h1.same (fun _ _ _ => rfl), h2.same (fun _ _ _ => rfl), h4, h5, h6.drew, h7⟩

end Go.Proofs.YtipklbnfobckaaaGreatDoor

namespace Go.Proofs.YtipklbnfobckaaaGreatDoor
open Go.RowKit

/-- What a step leaves of the memory and of the block device. -/
def doW (m : Mi) (ws : List Int) (ps : List St) : List Int := if m.kind = 3 then fenW ws ps else ws
def doP (m : Mi) (ps : List St) : List St := if m.kind = 1 then ps ++ [⟨m.at_, m.val, false⟩] else if m.kind = 2 then ps.map (fl1 m.at_) else if m.kind = 3 then fenP ps else ps
def doE (m : Mi) (es : List Int) (qs : List Se) : List Int := if m.kind = 5 then layE es qs else es
def doQ (m : Mi) (qs : List Se) : List Se := if m.kind = 4 then qs ++ [⟨m.at_, m.val⟩] else if m.kind = 5 then [] else qs

/-- A block of slices alone holds no number: what is read as numbers does not lie there. -/
theorem Rd.boxless {w w' : World} {size : Nat} {v : Value} {n : Nat} {xs : List Value} {b : Nat} {cs : Array Value} {t : TypeId} {fr : Nat × Nat} (h : Rd w size v n xs) (h0 : 0 < n * size → ∃ z, xs[0]? = some (.int .i64 z)) (hb : w.heap[b]? = some (.cells cs t fr)) (hcs : ∀ (o : Nat) (z : Int), ¬ cs[o]? = some (.int .i64 z)) (hz : w.heap.size ≤ w'.heap.size) (ho : ∀ j, j < w.heap.size → ¬ j = b → w'.heap[j]? = w.heap[j]?) : Rd w' size v n xs := by
 by_cases hn : 0 < n * size
 ·refine h.same hz (fun j hj he => ho j hj (fun e => ?_))
  subst e
  obtain ⟨hl, ao, cap, rfl, _, hc⟩ := h
  have hn' : 0 < n := by
   rcases Nat.eq_zero_or_pos n with e | e
   ·subst e; simp at hn
   ·exact e
  obtain ⟨b', o, rfl, _, hc⟩ := hc hn'
  simp only [Value.ownBlock, Option.some.injEq] at he
  subst he
  obtain ⟨z, e⟩ := h0 hn
  have := hc 0 hn
  rw [e] at this
  simp only [World.cell?, hb] at this
  exact hcs o z (by simpa using this)
 ·obtain ⟨h3, ao, cap, rfl, h4, h5⟩ := h
  refine ⟨h3, ao, cap, rfl, h4, fun hp => ?_⟩
  obtain ⟨b', o, e, hlt, hc⟩ := h5 hp
  exact ⟨b', o, e, by omega, fun j hj => absurd (Nat.lt_of_le_of_lt (Nat.zero_le _) hj) hn⟩
theorem RdI.boxless {w w' : World} {v : Value} {zs : List Int} {b : Nat} {cs : Array Value} {t : TypeId} {fr : Nat × Nat} (h : RdI w v zs) (hb : w.heap[b]? = some (.cells cs t fr)) (hcs : ∀ (o : Nat) (z : Int), ¬ cs[o]? = some (.int .i64 z)) (hz : w.heap.size ≤ w'.heap.size) (ho : ∀ j, j < w.heap.size → ¬ j = b → w'.heap[j]? = w.heap[j]?) : RdI w' v zs :=
 Rd.boxless h (fun hn => ⟨zs[0]'(by simpa using hn), zck zs 0 (by simpa using hn)⟩) hb hcs hz ho
theorem RdPm.boxless {w w' : World} {v : Value} {ws : List Int} {ps : List St} {b : Nat} {cs : Array Value} {t : TypeId} {fr : Nat × Nat} (h : RdPm w v ws ps) (hb : w.heap[b]? = some (.cells cs t fr)) (hcs : ∀ (o : Nat) (z : Int), ¬ cs[o]? = some (.int .i64 z)) (hz : w.heap.size ≤ w'.heap.size) (ho : ∀ j, j < w.heap.size → ¬ j = b → w'.heap[j]? = w.heap[j]?) : RdPm w' v ws ps := by
 obtain ⟨vW, vP, rfl, h1, h2⟩ := h
 refine ⟨vW, vP, rfl, RdI.boxless h1 hb hcs hz ho, Rd.boxless h2 (fun hn => ?_) hb hcs hz ho⟩
 have hl : 0 < ps.length := by omega
 have := zjm ps 0 hl
 rw [Nat.zero_mul] at this
 exact ⟨_, this⟩
theorem RdBlk.boxless {w w' : World} {v : Value} {ws : List Int} {ps : List Se} {b : Nat} {cs : Array Value} {t : TypeId} {fr : Nat × Nat} (h : RdBlk w v ws ps) (hb : w.heap[b]? = some (.cells cs t fr)) (hcs : ∀ (o : Nat) (z : Int), ¬ cs[o]? = some (.int .i64 z)) (hz : w.heap.size ≤ w'.heap.size) (ho : ∀ j, j < w.heap.size → ¬ j = b → w'.heap[j]? = w.heap[j]?) : RdBlk w' v ws ps := by
 obtain ⟨vW, vP, rfl, h1, h2⟩ := h
 refine ⟨vW, vP, rfl, RdI.boxless h1 hb hcs hz ho, Rd.boxless h2 (fun hn => ?_) hb hcs hz ho⟩
 have hl : 0 < ps.length := by omega
 have := zim ps 0 hl
 rw [Nat.zero_mul] at this
 exact ⟨_, this⟩
theorem noints {a b c d : Value} (ha : ∀ z, ¬ a = .int .i64 z) (hb : ∀ z, ¬ b = .int .i64 z) (hc : ∀ z, ¬ c = .int .i64 z) (hd : ∀ z, ¬ d = .int .i64 z) : ∀ (o : Nat) (z : Int), ¬ (#[a, b, c, d] : Array Value)[o]? = some (.int .i64 z) := fun o z e => by
 match o with
 | 0 => simp at e; exact ha z e
 | 1 => simp at e; exact hb z e
 | 2 => simp at e; exact hc z e
 | 3 => simp at e; exact hd z e
 | o + 4 => simp at e
/-- The world behind a step: one device put into the box, and the box into the answer. -/
def putD (w : World) (bD bR i j : Nat) (x y a b c d : Value) : World := (((((w.setCell ⟨bD, i, none⟩ x).setCell ⟨bD, j, none⟩ y).setCell ⟨bR, 0, none⟩ a).setCell ⟨bR, 1, none⟩ b).setCell ⟨bR, 2, none⟩ c).setCell ⟨bR, 3, none⟩ d
theorem zsm (w : World) (bD bR i j : Nat) (x y a b c d : Value) : (putD w bD bR i j x y a b c d).heap.size = w.heap.size := by simp [putD, World.setCell]
theorem putD_other (w : World) (bD bR i j : Nat) (x y a b c d : Value) (k : Nat) (h1 : ¬ k = bD) (h2 : ¬ k = bR) : (putD w bD bR i j x y a b c d).heap[k]? = w.heap[k]? := by
 unfold putD
 rw [Below.heap_setCell _ _ _ _ h2, Below.heap_setCell _ _ _ _ h2, Below.heap_setCell _ _ _ _ h2, Below.heap_setCell _ _ _ _ h2, Below.heap_setCell _ _ _ _ h1, Below.heap_setCell _ _ _ _ h1]
theorem Rd.put {w : World} {size : Nat} {v : Value} {n : Nat} {xs : List Value} {bD bR i j : Nat} {x y a b c d : Value} {cs cs' : Array Value} {t t' : TypeId} {fr fr' : Nat × Nat} (h : Rd w size v n xs) (h0 : 0 < n * size → ∃ z, xs[0]? = some (.int .i64 z)) (hD : w.heap[bD]? = some (.cells cs t fr)) (hcs : ∀ (o : Nat) (z : Int), ¬ cs[o]? = some (.int .i64 z)) (hR : w.heap[bR]? = some (.cells cs' t' fr')) (hcs' : ∀ (o : Nat) (z : Int), ¬ cs'[o]? = some (.int .i64 z)) : Rd (putD w bD bR i j x y a b c d) size v n xs := by
 by_cases e : v.ownBlock = some bD ∨ v.ownBlock = some bR
 ·obtain ⟨h3, ao, cap, rfl, h4, h5⟩ := h
  refine ⟨h3, ao, cap, rfl, h4, fun hp => ?_⟩
  obtain ⟨b', o, rfl, hlt, hc⟩ := h5 hp
  refine ⟨b', o, rfl, by rw [zsm]; exact hlt, fun k hk => ?_⟩
  exfalso
  obtain ⟨z, ez⟩ := h0 (Nat.lt_of_le_of_lt (Nat.zero_le _) hk)
  have := hc 0 (Nat.lt_of_le_of_lt (Nat.zero_le _) hk)
  rw [ez] at this
  simp only [Value.ownBlock, Option.some.injEq] at e
  rcases e with rfl | rfl
  ·simp only [World.cell?, hD] at this
   exact hcs o z (by simpa using this)
  ·simp only [World.cell?, hR] at this
   exact hcs' o z (by simpa using this)
 ·refine h.same (Nat.le_of_eq (zsm ..).symm) (fun k _ he => putD_other _ _ _ _ _ _ _ _ _ _ _ k (fun x => ?_) (fun x => ?_))
  ·subst x; exact e (.inl he)
  ·subst x; exact e (.inr he)
theorem RdI.put {w : World} {v : Value} {zs : List Int} {bD bR i j : Nat} {x y a b c d : Value} {cs cs' : Array Value} {t t' : TypeId} {fr fr' : Nat × Nat} (h : RdI w v zs) (hD : w.heap[bD]? = some (.cells cs t fr)) (hcs : ∀ (o : Nat) (z : Int), ¬ cs[o]? = some (.int .i64 z)) (hR : w.heap[bR]? = some (.cells cs' t' fr')) (hcs' : ∀ (o : Nat) (z : Int), ¬ cs'[o]? = some (.int .i64 z)) : RdI (putD w bD bR i j x y a b c d) v zs :=
 Rd.put h (fun hn => ⟨zs[0]'(by simpa using hn), zck zs 0 (by simpa using hn)⟩) hD hcs hR hcs'
theorem RdPm.put {w : World} {v : Value} {ws : List Int} {ps : List St} {bD bR i j : Nat} {x y a b c d : Value} {cs cs' : Array Value} {t t' : TypeId} {fr fr' : Nat × Nat} (h : RdPm w v ws ps) (hD : w.heap[bD]? = some (.cells cs t fr)) (hcs : ∀ (o : Nat) (z : Int), ¬ cs[o]? = some (.int .i64 z)) (hR : w.heap[bR]? = some (.cells cs' t' fr')) (hcs' : ∀ (o : Nat) (z : Int), ¬ cs'[o]? = some (.int .i64 z)) : RdPm (putD w bD bR i j x y a b c d) v ws ps := by
 obtain ⟨vW, vP, rfl, h1, h2⟩ := h
 refine ⟨vW, vP, rfl, RdI.put h1 hD hcs hR hcs', Rd.put h2 (fun hn => ?_) hD hcs hR hcs'⟩
 have := zjm ps 0 (by omega)
 rw [Nat.zero_mul] at this
 exact ⟨_, this⟩
theorem RdBlk.put {w : World} {v : Value} {ws : List Int} {ps : List Se} {bD bR i j : Nat} {x y a b c d : Value} {cs cs' : Array Value} {t t' : TypeId} {fr fr' : Nat × Nat} (h : RdBlk w v ws ps) (hD : w.heap[bD]? = some (.cells cs t fr)) (hcs : ∀ (o : Nat) (z : Int), ¬ cs[o]? = some (.int .i64 z)) (hR : w.heap[bR]? = some (.cells cs' t' fr')) (hcs' : ∀ (o : Nat) (z : Int), ¬ cs'[o]? = some (.int .i64 z)) : RdBlk (putD w bD bR i j x y a b c d) v ws ps := by
 obtain ⟨vW, vP, rfl, h1, h2⟩ := h
 refine ⟨vW, vP, rfl, RdI.put h1 hD hcs hR hcs', Rd.put h2 (fun hn => ?_) hD hcs hR hcs'⟩
 have := zim ps 0 (by omega)
 rw [Nat.zero_mul] at this
 exact ⟨_, this⟩
end Go.Proofs.YtipklbnfobckaaaGreatDoor

namespace Go.Proofs.YtipklbnfobckaaaGreatDoor
open Go.RowKit

/-- The answer's box, filled. -/
def putR (w : World) (bR : Nat) (a b c d : Value) : World := (((w.setCell ⟨bR, 0, none⟩ a).setCell ⟨bR, 1, none⟩ b).setCell ⟨bR, 2, none⟩ c).setCell ⟨bR, 3, none⟩ d
theorem zqm (w : World) (bR : Nat) (a b c d : Value) : Outside bR (bR + 1) w (putR w bR a b c d) := by
 unfold putR
 repeat (refine Outside.setCell ?_ (by simp only; omega) (by simp only; omega) _)
 exact Outside.refl _ _ _
theorem zrz (w : World) (bR : Nat) (a b c d : Value) : (putR w bR a b c d).heap.size = w.heap.size := by simp [putR, World.setCell]

set_option maxRecDepth 100000 in
set_option maxHeartbeats 8000000 in
theorem l04Own_any (v : Value) (ws : List Int) (ps : List St) (es : List Int) (qs : List Se) (w : World) (h : RdDev w v ws ps es qs) (hw : ws.length ≤ 1048576) (hp : ps.length ≤ 1048576) (he : es.length ≤ 1048576) (hq : qs.length ≤ 1048576) :
  Calls Tryz.prog 119 #[v] w fun e w' => ∃ v', e = .returned v' ∧ RowDev w' w.heap.size w'.heap.size v' ws ps es qs ∧ Below w.heap.size w w' := by
 obtain ⟨aW, cW, aP, cP, aS, cS, aQ, cQ, rfl, r1, r2⟩ := h.form
 have R1 := zaa r1
 have R2 := zaa r2
 clear h r1 r2
 have hb0 : Below w.heap.size w ((w.alloc (.cells #[.slice aW ws.length cW, .slice aP ps.length cP, .slice aS es.length cS, .slice aQ qs.length cQ] 46)).alloc (.cells #[.slice none 0 0, .slice none 0 0, .slice none 0 0, .slice none 0 0] 46)) := by
  repeat (refine Below.alloc ?_ (by simp <;> omega) _)
  exact Below.refl _ _
 go_enter Tryz.func119, Tryz.ntmps119
 go_upto_region 1 with fail
 obtain ⟨w0, hw0⟩ : ∃ w0 : World, w0 = (w.alloc (.cells #[.slice aW ws.length cW, .slice aP ps.length cP, .slice aS es.length cS, .slice aQ qs.length cQ] 46)).alloc (.cells #[.slice none 0 0, .slice none 0 0, .slice none 0 0, .slice none 0 0] 46) := ⟨_, rfl⟩
 rw [← hw0]
 rw [← hw0] at hb0
 have hz0 : w.heap.size + 2 ≤ w0.heap.size := by rw [hw0]; simp
 have V0 : Hid (w0.heap[w.heap.size]? = some (.cells #[.slice aW ws.length cW, .slice aP ps.length cP, .slice aS es.length cS, .slice aQ qs.length cQ] 46 (0, 0))) := by rw [hw0]; exact zap (zah rfl)
 have V1 : Hid (w0.heap[w.heap.size + 1]? = some (.cells #[.slice none 0 0, .slice none 0 0, .slice none 0 0, .slice none 0 0] 46 (0, 0))) := by rw [hw0]; exact zah (by simp)
 clear hw0
 have B0 := zaa hb0
 clear hb0
 obtain ⟨x0, x1, x2, x3, -, -, -, -⟩ := zan V0.out
 obtain ⟨y0, y1, y2, y3, y4, y5, y6, y7⟩ := zan V1.out
 go_region_with (first
  | (go_at_call 180; refine (l01Own_any _ ws ps _ (R1.out.below (by first | exact B0.out | exact B0.out.drew)) (by omega) (by omega)).mono ?_; rintro e w1 ⟨v1, rfl, hr1, hb1⟩; obtain ⟨aW1, cW1, aP1, cP1, rfl⟩ := hr1.form; have hz1 : w0.heap.size ≤ w1.heap.size := hb1.size; have B1 : Hid (Below w0.heap.size w0 w1) := (by first | exact hb1 | exact zab ((Below.refl _ _).drew) hb1 (Nat.le_refl _)); have Q1 : Hid (RowPm w1 w0.heap.size w1.heap.size (.agg #[.slice aW1 ws.length cW1, .slice aP1 ps.length cP1]) ws ps) := hr1; obtain ⟨z0, z1, z2, z3, -, -, -, -⟩ := zan ((B1.out.block w.heap.size (by omega)).trans V0.out); clear hr1 hb1)
  | (go_at_call 181; refine (l02Own_any _ es qs _ (R2.out.below (by first | exact zab B0.out B1.out (by omega) | exact (zab B0.out B1.out (by omega)).drew)) (by omega) (by omega)).mono ?_; rintro e w2 ⟨v2, rfl, hr2, hb2⟩; obtain ⟨aS2, cS2, aQ2, cQ2, rfl⟩ := hr2.form; have hz2 : w1.heap.size ≤ w2.heap.size := hb2.size; have B2 : Hid (Below w1.heap.size w1 w2) := (by first | exact hb2 | exact zab ((Below.refl _ _).drew) hb2 (Nat.le_refl _)); have Q2 : Hid (RowBlk w2 w1.heap.size w2.heap.size (.agg #[.slice aS2 es.length cS2, .slice aQ2 qs.length cQ2]) es qs) := hr2; have VR := zaa ((B2.out.block (w.heap.size + 1) (by omega)).trans ((B1.out.block (w.heap.size + 1) (by omega)).trans V1.out)); obtain ⟨t0, t1, t2, t3, t4, t5, t6, t7⟩ := zan VR.out; clear hr2 hb2))
 all_goals
  go_wp2
  refine bodyPost_ret (v := .agg #[.slice aW1 ws.length cW1, .slice aP1 ps.length cP1, .slice aS2 es.length cS2, .slice aQ2 qs.length cQ2]) (by simp [results, Tryz.results119, go_sem, t0, t1, t2, t3]) rfl ?_
  have O := zqm w2 (w.heap.size + 1) (.slice aW1 ws.length cW1) (.slice aP1 ps.length cP1) (.slice aS2 es.length cS2) (.slice aQ2 qs.length cQ2)
  have Z := zrz w2 (w.heap.size + 1) (.slice aW1 ws.length cW1) (.slice aP1 ps.length cP1) (.slice aS2 es.length cS2) (.slice aQ2 qs.length cQ2)
  refine ⟨_, rfl, ⟨_, _, _, _, w0.heap.size, w1.heap.size, w1.heap.size, w2.heap.size, rfl, ?_, ?_, by omega, Nat.le_trans hz2 (Nat.le_of_eq Z.symm), by omega, Nat.le_of_eq Z.symm, .inl (Nat.le_refl _)⟩, ?_⟩
  ·exact (Q1.out.below B2.out (Nat.le_refl _)).outside O (by omega) (by omega)
  ·exact Q2.out.outside O (by omega) (Nat.le_refl _)
  ·exact (zab (zab B0.out B1.out (by omega)) B2.out (by omega)).trans (O.below (by omega) (by omega))

/-- The code of a step, and what it leaves. -/
def fullB (m : Mi) (ps : List St) (qs : List Se) : Bool := decide ((m.kind = 1 ∧ ps.length = 400) ∨ (m.kind = 4 ∧ qs.length = 400))
theorem RowDev.zero (w : World) (lo hi : Nat) (h : lo ≤ hi) : RowDev w lo hi (.agg #[.slice none 0 0, .slice none 0 0, .slice none 0 0, .slice none 0 0]) [] [] [] [] :=
 ⟨_, _, _, _, lo, lo, lo, hi, rfl, RowPm.zero w lo lo, RowBlk.zero w lo hi, Nat.le_refl _, h, Nat.le_refl _, Nat.le_refl _, .inl (Nat.le_refl _)⟩
end Go.Proofs.YtipklbnfobckaaaGreatDoor

namespace Go.Proofs.YtipklbnfobckaaaGreatDoor
open Go.RowKit

def Mi.cells (s : Mi) : List Value := [.int .i64 s.kind, .int .i64 s.at_, .int .i64 s.val]
def mis (ps : List Mi) : List Value := ps.flatMap Mi.cells

theorem Mi.cells_len (s : Mi) : s.cells.length = 3 := rfl
theorem zwj (ps : List Mi) : (mis ps).length = ps.length * 3 := zfh _ 3 Mi.cells_len ps
theorem zjf (ps : List Mi) (k : Nat) (h : k < ps.length) : (mis ps)[k * 3]? = some (.int .i64 ps[k].kind) := zbc _ 3 Mi.cells_len ps k 0 h (by omega)
theorem zjg (ps : List Mi) (k : Nat) (h : k < ps.length) : (mis ps)[k * 3 + 1]? = some (.int .i64 ps[k].at_) := zbc _ 3 Mi.cells_len ps k 1 h (by omega)
theorem zjk (ps : List Mi) (k : Nat) (h : k < ps.length) : (mis ps)[k * 3 + 2]? = some (.int .i64 ps[k].val) := zbc _ 3 Mi.cells_len ps k 2 h (by omega)

/-- A slice of steps that can be read. -/
def RdM (w : World) (v : Value) (ps : List Mi) : Prop := Rd w 3 v ps.length (mis ps)
theorem RdM.shape {w : World} {v : Value} {ps : List Mi} (h : RdM w v ps) : ∃ ao cap, v = .slice ao ps.length cap ∧ ps.length ≤ cap ∧ (0 < ps.length → ∃ b o, ao = some ⟨b, o, none⟩ ∧ b < w.heap.size ∧
  ∀ k (h : k < ps.length), w.cell? ⟨b, o + k * 3, none⟩ = some (.int .i64 ps[k].kind) ∧ w.cell? ⟨b, o + k * 3 + 1, none⟩ = some (.int .i64 ps[k].at_) ∧ w.cell? ⟨b, o + k * 3 + 2, none⟩ = some (.int .i64 ps[k].val)) := by
 obtain ⟨_, ao, cap, rfl, h2, h3⟩ := h
 refine ⟨ao, cap, rfl, h2.1, fun hn => ?_⟩
 obtain ⟨b, o, rfl, hb, hc⟩ := h3 hn
 exact ⟨b, o, rfl, hb, fun k hk => ⟨(hc (k * 3) (by omega)).trans (zjf ps k hk), (hc (k * 3 + 1) (by omega)).trans (zjg ps k hk), (hc (k * 3 + 2) (by omega)).trans (zjk ps k hk)⟩⟩

theorem zcb : (Tryz.prog.info? 79).map (fun i => (i.zero, i.size, i.bytes)) = some (some (.agg #[.int .i64 0, .int .i64 0, .int .i64 0]), 3, 24) := by kernel_rfl

set_option maxHeartbeats 1000000 in
theorem toMic_any (a v : Int) (f : Int) (w : World) : Calls Tryz.prog 101 #[.agg #[.int .i64 a, .int .i64 v, .int .i64 f]] w fun e w' => e = .returned (.agg #[.int .i64 a, .int .i64 v, .int .i64 f]) ∧ Below w.heap.size w w' := by
 go_enter Tryz.func101, Tryz.ntmps101
 go_wp2
 refine bodyPost_ret (v := .agg #[.int .i64 a, .int .i64 v, .int .i64 f]) (by simp [results, Tryz.results101, go_sem]) rfl ⟨rfl, ?_⟩
 repeat (refine Below.alloc ?_ (by simp <;> omega) _)
 exact Below.refl _ _

theorem zou {ys : List Value} {ps : List Mi} {k : Nat} (hk : k < ps.length) (hl : ys.length = ps.length * 3) (h : ∀ j, j < k * 3 → ys[j]? = (mis ps)[j]?) :
  ∀ j, j < (k + 1) * 3 → (put3 ys k (.int .i64 ps[k].kind) (.int .i64 ps[k].at_) (.int .i64 ps[k].val))[j]? = (mis ps)[j]? := by
 intro j hj
 rw [zfd (by omega)]
 split
 ·rename_i e; rw [e, zjk ps k hk]
 ·split
  ·rename_i e; rw [e, zjg ps k hk]
  ·split
   ·rename_i e; rw [e, zjf ps k hk]
   ·exact h j (by omega)
theorem mis_all {ys : List Value} {ps : List Mi} (hl : ys.length = ps.length * 3) (h : ∀ j, j < ps.length * 3 → ys[j]? = (mis ps)[j]?) : ys = mis ps := by
 apply List.ext_getElem?
 intro j
 by_cases hj : j < ps.length * 3
 ·exact h j hj
 ·rw [List.getElem?_eq_none (by omega), List.getElem?_eq_none (by rw [zwj]; omega)]

set_option maxHeartbeats 1000000 in
theorem zsf (v : Value) (ps : List Mi) (w : World) (h : RdM w v ps) (hn : ps.length ≤ 1048576) :
  Calls Tryz.prog 48 #[v] w fun e w' => ∃ v', e = .returned v' ∧ Row w' 79 3 w.heap.size w'.heap.size v' ps.length (mis ps) ∧ Below w.heap.size w w' := by
 obtain ⟨ao, cap, rfl, hcap, hc⟩ := h.shape
 clear h
 have hmk := zfe (P := Tryz.prog) 47 79 (.agg #[.int .i64 0, .int .i64 0, .int .i64 0]) 3 24 Tryz.underlying47 zcb .i64 .i64 ps.length (by omega) (by omega)
 go_enter Tryz.func48, Tryz.ntmps48
 go_wp2
 go_loopw [4] (fun i wr => ∃ k : Nat, k ≤ ps.length ∧ i = .int .i64 k ∧ (∃ ys, Row wr 79 3 w.heap.size (w.heap.size + 1) (.slice (some ⟨w.heap.size, 0, none⟩) ps.length ps.length) ps.length ys ∧ ∀ j, j < k * 3 → ys[j]? = (mis ps)[j]?) ∧ Below w.heap.size w wr ∧ w.heap.size + 1 ≤ wr.heap.size) (fun i _ => ps.length - (intOf i).toNat)
 case atStart =>
  refine ⟨0, by omega, rfl, ⟨_, zpe w (.agg #[.int .i64 0, .int .i64 0, .int .i64 0]) 3 ps.length 79 (by simp [maxLen]; omega), fun j hj => absurd hj (by omega)⟩, (Below.refl _ _).alloc (Nat.le_refl _) _, by simp⟩
 case round =>
  obtain ⟨k, hk, rfl, ⟨ys, hrow, hys⟩, hb, hz⟩ := hrel
  by_cases hlt : k < ps.length
  ·obtain ⟨b, o, rfl, hbl, hcell⟩ := hc (by omega)
   obtain ⟨c0, c1, c2⟩ := hcell k hlt
   have d0 := (hb.cell (p := ⟨b, o + k * 3, none⟩) hbl).trans c0
   have d1 := (hb.cell (p := ⟨b, o + k * 3 + 1, none⟩) hbl).trans c1
   have d2 := (hb.cell (p := ⟨b, o + k * 3 + 2, none⟩) hbl).trans c2
   have RH := zaa hrow
   have YH := zaa hys
   clear hcell hc c0 c1 c2 hrow hys
   go_wp2_with fail
   refine (toMic_any _ _ _ _).mono ?_
   rintro e w1 ⟨rfl, hb1⟩
   have R1 := zaa (RH.out.below hb1 (by omega))
   obtain ⟨_, _, _, hsz, hfr, hcl⟩ := R1.out.at
   have hl := RH.out.len
   have f0 := hfr (k * 3)
   have f1 := hfr (k * 3 + 1)
   have f2 := hfr (k * 3 + 2)
   have e0 : w1.cell? ⟨w.heap.size, k * 3, none⟩ = some (ys[k * 3]'(by omega)) := by rw [hcl _ (by omega)]; simp
   have e1 : w1.cell? ⟨w.heap.size, k * 3 + 1, none⟩ = some (ys[k * 3 + 1]'(by omega)) := by rw [hcl _ (by omega)]; simp
   have e2 : w1.cell? ⟨w.heap.size, k * 3 + 2, none⟩ = some (ys[k * 3 + 2]'(by omega)) := by rw [hcl _ (by omega)]; simp
   have BH := zaa (hb.trans (hb1.mono (show w.heap.size ≤ wr.heap.size by omega)))
   have hz1 := hb1.size
   clear hfr hcl hb1 hb d0 d1 d2
   have P1 := zaa (R1.out.put3 k (.int .i64 ps[k].kind) (.int .i64 ps[k].at_) (.int .i64 ps[k].val))
   have B1 := zaa (((BH.out.setCell (p := ⟨w.heap.size, k * 3, none⟩) (Nat.le_refl _) (.int .i64 ps[k].kind)).setCell (p := ⟨w.heap.size, k * 3 + 1, none⟩) (Nat.le_refl _) (.int .i64 ps[k].at_)).setCell (p := ⟨w.heap.size, k * 3 + 2, none⟩) (Nat.le_refl _) (.int .i64 ps[k].val))
   go_wp2
   go_roundw
   case rel => exact ⟨k + 1, by omega, by go_num, ⟨_, P1.out, zou hlt hl YH.out⟩, B1.out, by simp; omega⟩
   case measure => simp [intOf]; omega
  ·have e : k = ps.length := by omega
   subst e
   have hl := hrow.len
   have RH := zaa hrow
   have YH := zaa hys
   clear hrow hys hc
   go_wp2
   go_ret
   have e := mis_all hl YH.out
   refine ⟨_, rfl, ?_, hb⟩
   rw [← e]
   exact RH.out.wide (Nat.le_refl _) hz

theorem ztd (ao : Option Addr) (n cap : Nat) (left : Int) (w : World) (hn : n ≤ maxLen) (h0 : 0 ≤ left) (h1 : left ≤ 1048576) :
  Calls Tryz.prog 39 #[.slice ao n cap, .int .i64 left] w fun e w' => e = .returned (.int .i64 (zfj left n)) ∧ w' = w := by
 unfold maxLen at hn
 by_cases h : left < n
 ·have e : zfj left n = -1 := by unfold zfj; rw [if_pos h]
  rw [e]; clear e
  go_enter Tryz.func39, Tryz.ntmps39
  go_wp2
  go_ret
  exact ⟨rfl, rfl⟩
 ·have e : zfj left n = left - n := by unfold zfj; rw [if_neg h]
  rw [e]; clear e
  go_enter Tryz.func39, Tryz.ntmps39
  go_wp2
  go_ret
  exact ⟨rfl, rfl⟩

set_option maxHeartbeats 1000000 in
theorem eqMic_same (a v : Int) (f : Int) (w : World) : Calls Tryz.prog 115 #[.agg #[.int .i64 a, .int .i64 v, .int .i64 f], .agg #[.int .i64 a, .int .i64 v, .int .i64 f]] w fun e w' => e = .returned (.bool true) ∧ Below w.heap.size w w' := by
 go_enter Tryz.func115, Tryz.ntmps115
 go_wp2
 go_ret
 refine ⟨rfl, ?_⟩
 repeat (refine Below.alloc ?_ (by simp <;> omega) _)
 exact Below.refl _ _
end Go.Proofs.YtipklbnfobckaaaGreatDoor
