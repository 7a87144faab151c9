/- Several texts laid together: BlkBar, MicD, MicDo. -/
import Derived.Test.YtbbmljakfbhnpaaGreatDoorZAU
import Derived.Test.YtbbmljakfbhnpaaGreatDoorZAS
import Derived.Test.YtbbmljakfbhnpaaGreatDoorZAT
import Derived.Deep.RegionWith
import Derived.Deep.DeepCutAuto
namespace Go.Proofs.YtbbmljakfbhnpaaGreatDoor
open Go.RowKit

/-- The sectors with the writes laid one after the other. -/
def zvh (ws : List Int) (ps : List Se) : List Int := ps.foldl (fun acc p => acc.set p.at_.toNat p.val) ws
theorem layE_snoc (ws : List Int) (ps : List Se) (p : Se) : zvh ws (ps ++ [p]) = (zvh ws ps).set p.at_.toNat p.val := by simp [zvh]
theorem zlj (ws : List Int) : ∀ ps : List Se, (zvh ws ps).length = ws.length := by
 intro ps
 unfold zvh
 induction ps generalizing ws with
 | nil => rfl
 | cons p ps ih => rw [List.foldl_cons, ih]; simp
/-- In the midst of a barrier: the sectors so far, and the writes. -/
structure BarInv (w wr : World) (eZ : TypeId) (ws : List Int) (ps : List Se) (lo hi : Nat) (vW vP : Value) (m : Nat) : Prop where
 words : Row wr eZ 1 lo hi vW ws.length (zco (zvh ws (ps.take m)))
 pend : Row wr 146 2 lo hi vP ps.length (ses ps)
 box : wr.heap[w.heap.size]? = some (.cells #[vW, vP] 34 (0, 0))
 res : wr.heap[w.heap.size + 1]? = some (.cells #[.slice none 0 0, .slice none 0 0] 34 (0, 0))
 below : Below w.heap.size w wr
 size : hi ≤ wr.heap.size
theorem BarInv.hit {w wr : World} {eZ : TypeId} {ws : List Int} {ps : List Se} {lo hi : Nat} {b n cap : Nat} {vP : Value} {m : Nat} (h : BarInv w wr eZ ws ps lo hi (.slice (some ⟨b, 0, none⟩) n cap) vP m) (he : eZ ≠ 146) (hm : m < ps.length) (hlo : w.heap.size + 2 ≤ lo) (hn : n = ws.length) :
  BarInv w (wr.setCell ⟨b, ps[m].at_.toNat, none⟩ (.int .i64 ps[m].val)) eZ ws ps lo hi (.slice (some ⟨b, 0, none⟩) n cap) vP (m + 1) := by
 subst hn
 obtain ⟨h1, h3, h4, h5, h6, h7⟩ := h
 obtain ⟨_, hb1, hb2, _⟩ := h1.at
 have e1 : zvh ws (ps.take (m + 1)) = (zvh ws (ps.take m)).set ps[m].at_.toNat ps[m].val := by rw [zfk ps m hm, layE_snoc]
 refine ⟨?_, ?_, ?_, ?_, ?_, ?_⟩
 ·rw [e1, ← zft]
  exact h1.stored _ _
 ·exact h3.apart h1 (Ne.symm he) (World.ownsRow.stored h1.1 _ _).2
 ·rw [Below.heap_setCell _ _ _ _ (by simp only; omega)]; exact h4
 ·rw [Below.heap_setCell _ _ _ _ (by simp only; omega)]; exact h5
 ·exact h6.setCell (by simp only; omega) _
 ·simpa using h7

theorem BarInv.drew {w wr : World} {eZ : TypeId} {ws : List Int} {ps : List Se} {lo hi : Nat} {vW vP : Value} {m : Nat} (h : BarInv w wr eZ ws ps lo hi vW vP m) : BarInv w wr.drew eZ ws ps lo hi vW vP m := by
 obtain ⟨h1, h2, h4, h5, h6, h7⟩ := h
 exact ⟨h1.same (fun _ _ _ => rfl), h2.same (fun _ _ _ => rfl), h4, h5, h6.drew, h7⟩

set_option maxRecDepth 100000 in
set_option maxHeartbeats 4000000 in
theorem zoj (v : Value) (ws : List Int) (ps : List Se) (w : World) (h : RdBlk w v ws ps) (hw : ws.length ≤ 1048576) (hp : ps.length ≤ 1048576) (hok : ∀ j (h : j < ps.length), 0 ≤ ps[j].at_ ∧ ps[j].at_ < ws.length) :
  Calls Tryz.prog 213 #[v] w fun e w' => ∃ v', e = .returned v' ∧ RowBlk w' w.heap.size w'.heap.size v' (zvh ws ps) [] ∧ Below w.heap.size w w' := by
 have HR := zaa h
 obtain ⟨vW, vP, rfl, h1, h2⟩ := h
 obtain ⟨aW, cW, rfl, _⟩ := h1.shape
 obtain ⟨aP, cP, rfl, _⟩ := h2.shape
 have HOK := zaa hok
 clear h1 h2 hok
 have hb0 : Below w.heap.size w ((w.alloc (.cells #[.slice aW ws.length cW, .slice aP ps.length cP] 34)).alloc (.cells #[.slice none 0 0, .slice none 0 0] 34)) := by
  repeat (refine Below.alloc ?_ (by simp <;> omega) _)
  exact Below.refl _ _
 go_enter Tryz.func213, Tryz.ntmps213
 go_wp2_with fail
 refine (zpr _ ws ps _ (HR.out.below hb0) (by omega) (by omega)).mono ?_
 rintro e w2 ⟨v2, rfl, hr2, hb2⟩
 obtain ⟨vW2, vP2, rfl, hI2, hS2⟩ := hr2
 obtain ⟨aW2, cW2, rfl⟩ := RdI.form hI2.rd rfl
 obtain ⟨aP2, cP2, rfl⟩ := RdE.form hS2.rd rfl
 obtain ⟨eZ, heZ, hI2⟩ := hI2
 simp only [World.size_alloc] at hI2 hS2
 have HE := zaa heZ
 have hz2 : w.heap.size + 2 ≤ w2.heap.size := by have := hb2.size; simp at this; omega
 have V0 := (hb2.block w.heap.size (by simp <;> omega)).trans (zaj (zag rfl))
 have V1 := (hb2.block (w.heap.size + 1) (by simp)).trans (zag (by simp))
 have B2 := zab hb0 hb2 (by simp <;> omega)
 obtain ⟨x1, x2, x3, x4⟩ := zad V0
 have INV : Hid (BarInv w ((w2.setCell ⟨w.heap.size, 0, none⟩ (.slice aW2 ws.length cW2)).setCell ⟨w.heap.size, 1, none⟩ (.slice aP2 ps.length cP2)) eZ ws ps (w.heap.size + 1 + 1) w2.heap.size (.slice aW2 ws.length cW2) (.slice aP2 ps.length cP2) 0) := by
  refine ⟨?_, ?_, ?_, ?_, ?_, ?_⟩
  ·refine hI2.same fun b hb1 _ => ?_
   rw [Below.heap_setCell _ _ _ _ (by simp only; omega), Below.heap_setCell _ _ _ _ (by simp only; omega)]
  ·refine hS2.same fun b hb1 _ => ?_
   rw [Below.heap_setCell _ _ _ _ (by simp only; omega), Below.heap_setCell _ _ _ _ (by simp only; omega)]
  ·exact zra (zlm V0 _) _
  ·rw [Below.heap_setCell _ _ _ _ (by simp only; omega), Below.heap_setCell _ _ _ _ (by simp only; omega)]
   exact V1
  ·exact (B2.setCell (by simp only; omega) _).setCell (by simp only; omega) _
  ·simp
 clear hb0 hb2 hI2 hS2 V0 V1 B2 heZ
 go_wp2
 go_loopw [3] (fun i wr => ∃ m : Nat, m ≤ ps.length ∧ i = .int .i64 m ∧ Hid (BarInv w wr eZ ws ps (w.heap.size + 1 + 1) w2.heap.size (.slice aW2 ws.length cW2) (.slice aP2 ps.length cP2) m)) (fun i _ => ps.length - (intOf i).toNat)
 case atStart => exact ⟨0, by omega, rfl, INV⟩
 case round =>
  obtain ⟨m, hm, rfl, I⟩ := hrel
  obtain ⟨y1, y2, y3, y4⟩ := zad I.out.box
  by_cases hlt : m < ps.length
  ·obtain ⟨_, ao', cap', e', _, hc⟩ := I.out.pend.rd
   cases e'
   obtain ⟨b, o, rfl, hbl, _⟩ := hc (by omega)
   obtain ⟨rfl, _, _, _, hfr, hcl⟩ := I.out.pend.at
   have e0 := (hcl (m * 2) (by omega)).trans (zqb _ m hlt)
   have e1 := (hcl (m * 2 + 1) (by omega)).trans (ses_at1 _ m hlt)
   obtain ⟨q0, q1⟩ := HOK.out m hlt
   obtain ⟨_, aw', cw', ew', _, hcw⟩ := I.out.words.rd
   cases ew'
   obtain ⟨bw, ow, rfl, hblw, _⟩ := hcw (by omega)
   obtain ⟨rfl, _, _, _, hfrw, hclw⟩ := I.out.words.at
   have hj : ps[m].at_.toNat < (zvh ws (ps.take m)).length := by rw [zlj]; omega
   have g0 := hfrw ps[m].at_.toNat
   have g1 := (hclw ps[m].at_.toNat (by omega)).trans (zcq _ _ hj)
   have q1' : ps[m].at_ < (ws.length : Int) := q1
   have hlt' : (m : Int) < (ps.length : Int) := by omega
   have hge : (0 : Int) ≤ (m : Int) := by omega
   clear hc hfr hcl hcw hfrw hclw
   go_wp2
   go_region
   all_goals
    go_wp2
    go_roundw
    case rel =>
     refine ⟨m + 1, by omega, by go_num, ?_⟩
     first | exact (I.out.hit HE.out hlt (Nat.le_refl _) rfl).drew | exact I.out.drew.hit HE.out hlt (Nat.le_refl _) rfl
    case measure => simp [intOf]; omega
  ·have e : m = ps.length := by omega
   subst e
   have hsz := I.out.size
   obtain ⟨z1, z2, z3, z4⟩ := zad (zaj (o := .cells #[] 146) I.out.box)
   obtain ⟨t1, t2, t3, t4⟩ := zad (zaj (o := .cells #[] 146) I.out.res)
   have ho : (wr.alloc (.cells #[] 146)).ownsRow wr.heap.size 146 2 (.slice (some ⟨wr.heap.size, 0, none⟩) 0 0) 0 [] := by
    simpa using World.ownsRow_lit (base := wr.heap.size) (e := 146) (size := 2) wr #[] 0 (by simp) (by simp) rfl
   have HO := zaa ho
   clear ho
   go_wp2
   have I2 := I.out
   refine bodyPost_ret (v := .agg #[.slice aW2 ws.length cW2, .slice (some ⟨wr.heap.size, 0, none⟩) 0 0]) (by simp [results, Tryz.results213, go_sem, t1, t2]) rfl ?_
   refine ⟨_, rfl, ⟨_, _, rfl, ⟨eZ, HE.out, ?_⟩, ?_⟩, (((I2.below.alloc (by omega) _).setCell (by simp only; omega) _).setCell (by simp only; omega) _).setCell (by simp only; omega) _⟩
   ·rw [zlj]
    have := I2.words
    rw [List.take_length] at this
    refine ((this.alloc hsz (.cells #[] 146)).same fun b h1 h2 => ?_).wide (by omega) (by simp; omega)
    rw [Below.heap_setCell _ _ _ _ (by simp only; omega), Below.heap_setCell _ _ _ _ (by simp only; omega), Below.heap_setCell _ _ _ _ (by simp only; omega)]
   ·refine ((zac HO.out).same fun b h1 h2 => ?_).wide (by omega) (by simp)
    rw [Below.heap_setCell _ _ _ _ (by simp only; omega), Below.heap_setCell _ _ _ _ (by simp only; omega), Below.heap_setCell _ _ _ _ (by simp only; omega)]

end Go.Proofs.YtbbmljakfbhnpaaGreatDoor

namespace Go.Proofs.YtbbmljakfbhnpaaGreatDoor
open Go.RowKit

/-- What a step leaves of the memory and of the block device. -/
def doW (m : Mi) (ws : List Int) (ps : List St) : List Int := if m.kind = 3 then zmr ws ps else ws
def doP (m : Mi) (ps : List St) : List St := if m.kind = 1 then ps ++ [⟨m.at_, m.val, false⟩] else if m.kind = 2 then ps.map (fl1 m.at_) else if m.kind = 3 then zkn ps else ps
def doE (m : Mi) (es : List Int) (qs : List Se) : List Int := if m.kind = 5 then zvh es qs else es
def doQ (m : Mi) (qs : List Se) : List Se := if m.kind = 4 then qs ++ [⟨m.at_, m.val⟩] else if m.kind = 5 then [] else qs

/-- A block of slices alone holds no number: what is read as numbers does not lie there. -/
theorem Rd.boxless {w w' : World} {size : Nat} {v : Value} {n : Nat} {xs : List Value} {b : Nat} {cs : Array Value} {t : TypeId} {fr : Nat × Nat} (h : Rd w size v n xs) (h0 : 0 < n * size → ∃ z, xs[0]? = some (.int .i64 z)) (hb : w.heap[b]? = some (.cells cs t fr)) (hcs : ∀ (o : Nat) (z : Int), ¬ cs[o]? = some (.int .i64 z)) (hz : w.heap.size ≤ w'.heap.size) (ho : ∀ j, j < w.heap.size → ¬ j = b → w'.heap[j]? = w.heap[j]?) : Rd w' size v n xs := by
 by_cases hn : 0 < n * size
 ·refine h.same hz (fun j hj he => ho j hj (fun e => ?_))
  subst e
  obtain ⟨hl, ao, cap, rfl, _, hc⟩ := h
  have hn' : 0 < n := by
   rcases Nat.eq_zero_or_pos n with e | e
   ·subst e; simp at hn
   ·exact e
  obtain ⟨b', o, rfl, _, hc⟩ := hc hn'
  simp only [Value.ownBlock, Option.some.injEq] at he
  subst he
  obtain ⟨z, e⟩ := h0 hn
  have := hc 0 hn
  rw [e] at this
  simp only [World.cell?, hb] at this
  exact hcs o z (by simpa using this)
 ·obtain ⟨h3, ao, cap, rfl, h4, h5⟩ := h
  refine ⟨h3, ao, cap, rfl, h4, fun hp => ?_⟩
  obtain ⟨b', o, e, hlt, hc⟩ := h5 hp
  exact ⟨b', o, e, by omega, fun j hj => absurd (Nat.lt_of_le_of_lt (Nat.zero_le _) hj) hn⟩
theorem RdI.boxless {w w' : World} {v : Value} {zs : List Int} {b : Nat} {cs : Array Value} {t : TypeId} {fr : Nat × Nat} (h : RdI w v zs) (hb : w.heap[b]? = some (.cells cs t fr)) (hcs : ∀ (o : Nat) (z : Int), ¬ cs[o]? = some (.int .i64 z)) (hz : w.heap.size ≤ w'.heap.size) (ho : ∀ j, j < w.heap.size → ¬ j = b → w'.heap[j]? = w.heap[j]?) : RdI w' v zs :=
 Rd.boxless h (fun hn => ⟨zs[0]'(by simpa using hn), zcq zs 0 (by simpa using hn)⟩) hb hcs hz ho
theorem RdPm.boxless {w w' : World} {v : Value} {ws : List Int} {ps : List St} {b : Nat} {cs : Array Value} {t : TypeId} {fr : Nat × Nat} (h : RdPm w v ws ps) (hb : w.heap[b]? = some (.cells cs t fr)) (hcs : ∀ (o : Nat) (z : Int), ¬ cs[o]? = some (.int .i64 z)) (hz : w.heap.size ≤ w'.heap.size) (ho : ∀ j, j < w.heap.size → ¬ j = b → w'.heap[j]? = w.heap[j]?) : RdPm w' v ws ps := by
 obtain ⟨vW, vP, rfl, h1, h2⟩ := h
 refine ⟨vW, vP, rfl, RdI.boxless h1 hb hcs hz ho, Rd.boxless h2 (fun hn => ?_) hb hcs hz ho⟩
 have hl : 0 < ps.length := by omega
 have := znl ps 0 hl
 rw [Nat.zero_mul] at this
 exact ⟨_, this⟩
theorem RdBlk.boxless {w w' : World} {v : Value} {ws : List Int} {ps : List Se} {b : Nat} {cs : Array Value} {t : TypeId} {fr : Nat × Nat} (h : RdBlk w v ws ps) (hb : w.heap[b]? = some (.cells cs t fr)) (hcs : ∀ (o : Nat) (z : Int), ¬ cs[o]? = some (.int .i64 z)) (hz : w.heap.size ≤ w'.heap.size) (ho : ∀ j, j < w.heap.size → ¬ j = b → w'.heap[j]? = w.heap[j]?) : RdBlk w' v ws ps := by
 obtain ⟨vW, vP, rfl, h1, h2⟩ := h
 refine ⟨vW, vP, rfl, RdI.boxless h1 hb hcs hz ho, Rd.boxless h2 (fun hn => ?_) hb hcs hz ho⟩
 have hl : 0 < ps.length := by omega
 have := zqb ps 0 hl
 rw [Nat.zero_mul] at this
 exact ⟨_, this⟩
theorem zcz {a b c d : Value} (ha : ∀ z, ¬ a = .int .i64 z) (hb : ∀ z, ¬ b = .int .i64 z) (hc : ∀ z, ¬ c = .int .i64 z) (hd : ∀ z, ¬ d = .int .i64 z) : ∀ (o : Nat) (z : Int), ¬ (#[a, b, c, d] : Array Value)[o]? = some (.int .i64 z) := fun o z e => by
 match o with
 | 0 => simp at e; exact ha z e
 | 1 => simp at e; exact hb z e
 | 2 => simp at e; exact hc z e
 | 3 => simp at e; exact hd z e
 | o + 4 => simp at e
theorem zaf (a : Option Addr) (n c : Nat) (z : Int) : ¬ Value.slice a n c = .int .i64 z := fun e => by cases e

/-- The world behind a step: one device put into the box, and the box into the answer. -/
def putD (w : World) (bD bR i j : Nat) (x y a b c d : Value) : World := (((((w.setCell ⟨bD, i, none⟩ x).setCell ⟨bD, j, none⟩ y).setCell ⟨bR, 0, none⟩ a).setCell ⟨bR, 1, none⟩ b).setCell ⟨bR, 2, none⟩ c).setCell ⟨bR, 3, none⟩ d
theorem zsf (w : World) (bD bR i j : Nat) (x y a b c d : Value) : (putD w bD bR i j x y a b c d).heap.size = w.heap.size := by simp [putD, World.setCell]
theorem putD_other (w : World) (bD bR i j : Nat) (x y a b c d : Value) (k : Nat) (h1 : ¬ k = bD) (h2 : ¬ k = bR) : (putD w bD bR i j x y a b c d).heap[k]? = w.heap[k]? := by
 unfold putD
 rw [Below.heap_setCell _ _ _ _ h2, Below.heap_setCell _ _ _ _ h2, Below.heap_setCell _ _ _ _ h2, Below.heap_setCell _ _ _ _ h2, Below.heap_setCell _ _ _ _ h1, Below.heap_setCell _ _ _ _ h1]
theorem Rd.put {w : World} {size : Nat} {v : Value} {n : Nat} {xs : List Value} {bD bR i j : Nat} {x y a b c d : Value} {cs cs' : Array Value} {t t' : TypeId} {fr fr' : Nat × Nat} (h : Rd w size v n xs) (h0 : 0 < n * size → ∃ z, xs[0]? = some (.int .i64 z)) (hD : w.heap[bD]? = some (.cells cs t fr)) (hcs : ∀ (o : Nat) (z : Int), ¬ cs[o]? = some (.int .i64 z)) (hR : w.heap[bR]? = some (.cells cs' t' fr')) (hcs' : ∀ (o : Nat) (z : Int), ¬ cs'[o]? = some (.int .i64 z)) : Rd (putD w bD bR i j x y a b c d) size v n xs := by
 by_cases e : v.ownBlock = some bD ∨ v.ownBlock = some bR
 ·obtain ⟨h3, ao, cap, rfl, h4, h5⟩ := h
  refine ⟨h3, ao, cap, rfl, h4, fun hp => ?_⟩
  obtain ⟨b', o, rfl, hlt, hc⟩ := h5 hp
  refine ⟨b', o, rfl, by rw [zsf]; exact hlt, fun k hk => ?_⟩
  exfalso
  obtain ⟨z, ez⟩ := h0 (Nat.lt_of_le_of_lt (Nat.zero_le _) hk)
  have := hc 0 (Nat.lt_of_le_of_lt (Nat.zero_le _) hk)
  rw [ez] at this
  simp only [Value.ownBlock, Option.some.injEq] at e
  rcases e with rfl | rfl
  ·simp only [World.cell?, hD] at this
   exact hcs o z (by simpa using this)
  ·simp only [World.cell?, hR] at this
   exact hcs' o z (by simpa using this)
 ·refine h.same (Nat.le_of_eq (zsf ..).symm) (fun k _ he => putD_other _ _ _ _ _ _ _ _ _ _ _ k (fun x => ?_) (fun x => ?_))
  ·subst x; exact e (.inl he)
  ·subst x; exact e (.inr he)
theorem RdI.put {w : World} {v : Value} {zs : List Int} {bD bR i j : Nat} {x y a b c d : Value} {cs cs' : Array Value} {t t' : TypeId} {fr fr' : Nat × Nat} (h : RdI w v zs) (hD : w.heap[bD]? = some (.cells cs t fr)) (hcs : ∀ (o : Nat) (z : Int), ¬ cs[o]? = some (.int .i64 z)) (hR : w.heap[bR]? = some (.cells cs' t' fr')) (hcs' : ∀ (o : Nat) (z : Int), ¬ cs'[o]? = some (.int .i64 z)) : RdI (putD w bD bR i j x y a b c d) v zs :=
 Rd.put h (fun hn => ⟨zs[0]'(by simpa using hn), zcq zs 0 (by simpa using hn)⟩) hD hcs hR hcs'
theorem RdPm.put {w : World} {v : Value} {ws : List Int} {ps : List St} {bD bR i j : Nat} {x y a b c d : Value} {cs cs' : Array Value} {t t' : TypeId} {fr fr' : Nat × Nat} (h : RdPm w v ws ps) (hD : w.heap[bD]? = some (.cells cs t fr)) (hcs : ∀ (o : Nat) (z : Int), ¬ cs[o]? = some (.int .i64 z)) (hR : w.heap[bR]? = some (.cells cs' t' fr')) (hcs' : ∀ (o : Nat) (z : Int), ¬ cs'[o]? = some (.int .i64 z)) : RdPm (putD w bD bR i j x y a b c d) v ws ps := by
 obtain ⟨vW, vP, rfl, h1, h2⟩ := h
 refine ⟨vW, vP, rfl, RdI.put h1 hD hcs hR hcs', Rd.put h2 (fun hn => ?_) hD hcs hR hcs'⟩
 have := znl ps 0 (by omega)
 rw [Nat.zero_mul] at this
 exact ⟨_, this⟩
theorem RdBlk.put {w : World} {v : Value} {ws : List Int} {ps : List Se} {bD bR i j : Nat} {x y a b c d : Value} {cs cs' : Array Value} {t t' : TypeId} {fr fr' : Nat × Nat} (h : RdBlk w v ws ps) (hD : w.heap[bD]? = some (.cells cs t fr)) (hcs : ∀ (o : Nat) (z : Int), ¬ cs[o]? = some (.int .i64 z)) (hR : w.heap[bR]? = some (.cells cs' t' fr')) (hcs' : ∀ (o : Nat) (z : Int), ¬ cs'[o]? = some (.int .i64 z)) : RdBlk (putD w bD bR i j x y a b c d) v ws ps := by
 obtain ⟨vW, vP, rfl, h1, h2⟩ := h
 refine ⟨vW, vP, rfl, RdI.put h1 hD hcs hR hcs', Rd.put h2 (fun hn => ?_) hD hcs hR hcs'⟩
 have := zqb ps 0 (by omega)
 rw [Nat.zero_mul] at this
 exact ⟨_, this⟩
theorem zfe {B : Nat} {a0 w : World} (h : Below B a0 w) {bD bR : Nat} (h1 : B ≤ bD) (h2 : B ≤ bR) (i j : Nat) (x y a b c d : Value) : Below B a0 (putD w bD bR i j x y a b c d) := by
 unfold putD
 repeat (refine Below.setCell ?_ (by simp only; omega) _)
 exact h
end Go.Proofs.YtbbmljakfbhnpaaGreatDoor

namespace Go.Proofs.YtbbmljakfbhnpaaGreatDoor
open Go.RowKit

set_option maxRecDepth 100000 in
set_option maxHeartbeats 8000000 in
theorem l04Do_any (v : Value) (m : Mi) (ws : List Int) (ps : List St) (es : List Int) (qs : List Se) (w : World) (h : RdDev w v ws ps es qs) (hp1 : pmB ws ps = true) (hb1 : zoi es qs = true) (hm : miB m = true) :
  Calls Tryz.prog 191 #[v, m.v] w fun e w' => ∃ v', e = .returned v' ∧ RdDev w' v' (doW m ws ps) (doP m ps) (doE m es qs) (doQ m qs) ∧ Below w.heap.size w w' := by
 obtain ⟨k, a, x⟩ := m
 obtain ⟨aW, cW, aP, cP, aS, cS, aQ, cQ, rfl, r1, r2⟩ := h.form
 have R1 := zaa r1
 have R2 := zaa r2
 have HW := zaa (zgc hp1).1
 have hwl : ws.length ≤ 336 := Nat.le_of_eq HW.out
 have hpl : ps.length ≤ 400 := (zgc hp1).2
 have HE := zaa (zeg hb1).1
 have hel : es.length ≤ 32 := Nat.le_of_eq HE.out
 have hql : qs.length ≤ 400 := (zeg hb1).2
 have PA := zaa (fun j (hj : j < ps.length) => zni (zit hp1 j hj).1)
 have QA := zaa (fun j (hj : j < qs.length) => secB_true (zpb hb1 j hj).1)
 have hk := (zkr k a x).1 hm
 clear h r1 r2 hp1 hb1 hm
 have hb0 : Below w.heap.size w (((w.alloc (.cells #[.slice aW ws.length cW, .slice aP ps.length cP, .slice aS es.length cS, .slice aQ qs.length cQ] 36)).alloc (.cells #[.int .i64 k, .int .i64 a, .int .i64 x] 215)).alloc (.cells #[.slice none 0 0, .slice none 0 0, .slice none 0 0, .slice none 0 0] 36)) := by
  repeat (refine Below.alloc ?_ (by simp <;> omega) _)
  exact Below.refl _ _
 unfold Mi.v
 simp only
 rcases (show (k = 1 ∧ (0 ≤ a ∧ a < 336)) ∨ (k = 2 ∧ (0 ≤ a ∧ a < 336)) ∨ k = 3 ∨ (k = 4 ∧ (0 ≤ a ∧ a < 32)) ∨ k = 5 by omega) with ⟨rfl, ha⟩ | ⟨rfl, ha⟩ | rfl | ⟨rfl, ha⟩ | rfl
 ·clear hk
  have D := zaa (show doW (⟨1, a, x⟩ : Mi) ws ps = ws ∧ doP (⟨1, a, x⟩ : Mi) ps = ps ++ [⟨a, x, false⟩] ∧ doE (⟨1, a, x⟩ : Mi) es qs = es ∧ doQ (⟨1, a, x⟩ : Mi) qs = qs from ⟨rfl, rfl, rfl, rfl⟩)
  go_enter Tryz.func191, Tryz.ntmps191
  go_wp2_with fail
  refine (zst _ ws ps a x _ (R1.out.below hb0) (by omega)).mono ?_
  rintro e w1 ⟨v1, rfl, hr, hb⟩
  have hr' : RdPm w1 v1 _ _ := hr
  obtain ⟨vW1, vP1, rfl, hI, hS⟩ := hr'
  obtain ⟨aW1, cW1, rfl⟩ := RdI.form hI rfl
  obtain ⟨aP1, cP1, rfl⟩ := RdS.form hS (n := ps.length + 1) (by simp)
  have hz1 : w.heap.size + 3 ≤ w1.heap.size := by have := hb.size; simp at this; omega
  have V0 := (hb.block w.heap.size (by simp <;> omega)).trans (zaj (zaj (zag rfl)))
  have V2 := (hb.block (w.heap.size + 1 + 1) (by simp <;> omega)).trans (zag (by simp))
  have VM := (hb.block (w.heap.size + 1) (by simp <;> omega)).trans (zaj (zag (by simp)))
  have RN := zaa hr
  have RO := zaa (R2.out.below (zab hb0 hb (by simp <;> omega)))
  have B1 := zaa (zab hb0 hb (by simp <;> omega))
  obtain ⟨x0, x1, x2, x3, x4, x5, x6, x7⟩ := zan V0
  obtain ⟨y0, y1, y2, y3, y4, y5, y6, y7⟩ := zan V2
  obtain ⟨m0, m1, m2⟩ := zba VM
  have VH := zaa (And.intro V0 V2)
  clear hb0 hb hr hI hS V0 V2 VM
  go_wp2
  refine bodyPost_ret (v := .agg #[.slice aW1 ws.length cW1, .slice aP1 (ps.length + 1) cP1, .slice aS es.length cS, .slice aQ qs.length cQ]) (by simp [results, Tryz.results191, go_sem, y0, y1, y2, y3]) rfl ?_
  refine ⟨_, rfl, ?_, ?_⟩
  ·rw [D.out.1, D.out.2.1, D.out.2.2.1, D.out.2.2.2]
   exact ⟨_, _, _, _, rfl, (RN.out.put (bD := w.heap.size) (bR := w.heap.size + 1 + 1) (i := 0) (j := 1) VH.out.1 (zcz (zaf _ _ _) (zaf _ _ _) (zaf _ _ _) (zaf _ _ _)) VH.out.2 (zcz (zaf _ _ _) (zaf _ _ _) (zaf _ _ _) (zaf _ _ _))), (RO.out.put (bD := w.heap.size) (bR := w.heap.size + 1 + 1) (i := 0) (j := 1) VH.out.1 (zcz (zaf _ _ _) (zaf _ _ _) (zaf _ _ _) (zaf _ _ _)) VH.out.2 (zcz (zaf _ _ _) (zaf _ _ _) (zaf _ _ _) (zaf _ _ _)))⟩
  ·exact zfe B1.out (Nat.le_refl _) (by omega) 0 1 _ _ _ _ _ _
 ·clear hk
  have D := zaa (show doW (⟨2, a, x⟩ : Mi) ws ps = ws ∧ doP (⟨2, a, x⟩ : Mi) ps = ps.map (fl1 a) ∧ doE (⟨2, a, x⟩ : Mi) es qs = es ∧ doQ (⟨2, a, x⟩ : Mi) qs = qs from ⟨rfl, rfl, rfl, rfl⟩)
  obtain ⟨q, rfl⟩ : ∃ q : Nat, a = q := ⟨a.toNat, by omega⟩
  go_enter Tryz.func191, Tryz.ntmps191
  go_wp2_with fail
  refine (ztu _ ws ps q _ (R1.out.below hb0) (by omega) (by omega) (fun j hj => PA.out j hj)).mono ?_
  rintro e w1 ⟨v1, rfl, hr, hb⟩
  have hr' : RdPm w1 v1 _ _ := hr
  obtain ⟨vW1, vP1, rfl, hI, hS⟩ := hr'
  obtain ⟨aW1, cW1, rfl⟩ := RdI.form hI rfl
  obtain ⟨aP1, cP1, rfl⟩ := RdS.form hS (n := ps.length) (by simp)
  have hz1 : w.heap.size + 3 ≤ w1.heap.size := by have := hb.size; simp at this; omega
  have V0 := (hb.block w.heap.size (by simp <;> omega)).trans (zaj (zaj (zag rfl)))
  have V2 := (hb.block (w.heap.size + 1 + 1) (by simp <;> omega)).trans (zag (by simp))
  have VM := (hb.block (w.heap.size + 1) (by simp <;> omega)).trans (zaj (zag (by simp)))
  have RN := zaa hr
  have RO := zaa (R2.out.below (zab hb0 hb (by simp <;> omega)))
  have B1 := zaa (zab hb0 hb (by simp <;> omega))
  obtain ⟨x0, x1, x2, x3, x4, x5, x6, x7⟩ := zan V0
  obtain ⟨y0, y1, y2, y3, y4, y5, y6, y7⟩ := zan V2
  obtain ⟨m0, m1, m2⟩ := zba VM
  have VH := zaa (And.intro V0 V2)
  clear hb0 hb hr hI hS V0 V2 VM
  go_wp2
  refine bodyPost_ret (v := .agg #[.slice aW1 ws.length cW1, .slice aP1 ps.length cP1, .slice aS es.length cS, .slice aQ qs.length cQ]) (by simp [results, Tryz.results191, go_sem, y0, y1, y2, y3]) rfl ?_
  refine ⟨_, rfl, ?_, ?_⟩
  ·rw [D.out.1, D.out.2.1, D.out.2.2.1, D.out.2.2.2]
   exact ⟨_, _, _, _, rfl, (RN.out.put (bD := w.heap.size) (bR := w.heap.size + 1 + 1) (i := 0) (j := 1) VH.out.1 (zcz (zaf _ _ _) (zaf _ _ _) (zaf _ _ _) (zaf _ _ _)) VH.out.2 (zcz (zaf _ _ _) (zaf _ _ _) (zaf _ _ _) (zaf _ _ _))), (RO.out.put (bD := w.heap.size) (bR := w.heap.size + 1 + 1) (i := 0) (j := 1) VH.out.1 (zcz (zaf _ _ _) (zaf _ _ _) (zaf _ _ _) (zaf _ _ _)) VH.out.2 (zcz (zaf _ _ _) (zaf _ _ _) (zaf _ _ _) (zaf _ _ _)))⟩
  ·exact zfe B1.out (Nat.le_refl _) (by omega) 0 1 _ _ _ _ _ _
 ·clear hk
  have D := zaa (show doW (⟨3, a, x⟩ : Mi) ws ps = zmr ws ps ∧ doP (⟨3, a, x⟩ : Mi) ps = zkn ps ∧ doE (⟨3, a, x⟩ : Mi) es qs = es ∧ doQ (⟨3, a, x⟩ : Mi) qs = qs from ⟨rfl, rfl, rfl, rfl⟩)
  go_enter Tryz.func191, Tryz.ntmps191
  go_wp2_with fail
  refine (zun _ ws ps _ (R1.out.below hb0) (by omega) (by omega) (fun j hj => by have := PA.out j hj; have := HW.out; omega)).mono ?_
  rintro e w1 ⟨v1, rfl, hr, hb⟩
  have hr' : RdPm w1 v1 _ _ := hr.rd
  obtain ⟨vW1, vP1, rfl, hI, hS⟩ := hr'
  obtain ⟨aW1, cW1, rfl⟩ := RdI.form hI (zls ws ps)
  obtain ⟨aP1, cP1, rfl⟩ := RdS.form hS (n := (zkn ps).length) rfl
  have hz1 : w.heap.size + 3 ≤ w1.heap.size := by have := hb.size; simp at this; omega
  have V0 := (hb.block w.heap.size (by simp <;> omega)).trans (zaj (zaj (zag rfl)))
  have V2 := (hb.block (w.heap.size + 1 + 1) (by simp <;> omega)).trans (zag (by simp))
  have VM := (hb.block (w.heap.size + 1) (by simp <;> omega)).trans (zaj (zag (by simp)))
  have RN := zaa hr
  have RO := zaa (R2.out.below (zab hb0 hb (by simp <;> omega)))
  have B1 := zaa (zab hb0 hb (by simp <;> omega))
  obtain ⟨x0, x1, x2, x3, x4, x5, x6, x7⟩ := zan V0
  obtain ⟨y0, y1, y2, y3, y4, y5, y6, y7⟩ := zan V2
  obtain ⟨m0, m1, m2⟩ := zba VM
  have VH := zaa (And.intro V0 V2)
  clear hb0 hb hr hI hS V0 V2 VM
  go_wp2
  refine bodyPost_ret (v := .agg #[.slice aW1 ws.length cW1, .slice aP1 ((zkn ps).length) cP1, .slice aS es.length cS, .slice aQ qs.length cQ]) (by simp [results, Tryz.results191, go_sem, y0, y1, y2, y3]) rfl ?_
  refine ⟨_, rfl, ?_, ?_⟩
  ·rw [D.out.1, D.out.2.1, D.out.2.2.1, D.out.2.2.2]
   exact ⟨_, _, _, _, rfl, (RN.out.rd.put (bD := w.heap.size) (bR := w.heap.size + 1 + 1) (i := 0) (j := 1) VH.out.1 (zcz (zaf _ _ _) (zaf _ _ _) (zaf _ _ _) (zaf _ _ _)) VH.out.2 (zcz (zaf _ _ _) (zaf _ _ _) (zaf _ _ _) (zaf _ _ _))), (RO.out.put (bD := w.heap.size) (bR := w.heap.size + 1 + 1) (i := 0) (j := 1) VH.out.1 (zcz (zaf _ _ _) (zaf _ _ _) (zaf _ _ _) (zaf _ _ _)) VH.out.2 (zcz (zaf _ _ _) (zaf _ _ _) (zaf _ _ _) (zaf _ _ _)))⟩
  ·exact zfe B1.out (Nat.le_refl _) (by omega) 0 1 _ _ _ _ _ _
 ·clear hk
  have D := zaa (show doW (⟨4, a, x⟩ : Mi) ws ps = ws ∧ doP (⟨4, a, x⟩ : Mi) ps = ps ∧ doE (⟨4, a, x⟩ : Mi) es qs = es ∧ doQ (⟨4, a, x⟩ : Mi) qs = qs ++ [⟨a, x⟩] from ⟨rfl, rfl, rfl, rfl⟩)
  go_enter Tryz.func191, Tryz.ntmps191
  go_wp2_with fail
  refine (zuk _ es qs a x _ (R2.out.below hb0) (by omega)).mono ?_
  rintro e w1 ⟨v1, rfl, hr, hb⟩
  have hr' : RdBlk w1 v1 _ _ := hr
  obtain ⟨vW1, vP1, rfl, hI, hS⟩ := hr'
  obtain ⟨aW1, cW1, rfl⟩ := RdI.form hI rfl
  obtain ⟨aP1, cP1, rfl⟩ := RdE.form hS (n := qs.length + 1) (by simp)
  have hz1 : w.heap.size + 3 ≤ w1.heap.size := by have := hb.size; simp at this; omega
  have V0 := (hb.block w.heap.size (by simp <;> omega)).trans (zaj (zaj (zag rfl)))
  have V2 := (hb.block (w.heap.size + 1 + 1) (by simp <;> omega)).trans (zag (by simp))
  have VM := (hb.block (w.heap.size + 1) (by simp <;> omega)).trans (zaj (zag (by simp)))
  have RN := zaa hr
  have RO := zaa (R1.out.below (zab hb0 hb (by simp <;> omega)))
  have B1 := zaa (zab hb0 hb (by simp <;> omega))
  obtain ⟨x0, x1, x2, x3, x4, x5, x6, x7⟩ := zan V0
  obtain ⟨y0, y1, y2, y3, y4, y5, y6, y7⟩ := zan V2
  obtain ⟨m0, m1, m2⟩ := zba VM
  have VH := zaa (And.intro V0 V2)
  clear hb0 hb hr hI hS V0 V2 VM
  go_wp2
  refine bodyPost_ret (v := .agg #[.slice aW ws.length cW, .slice aP ps.length cP, .slice aW1 es.length cW1, .slice aP1 (qs.length + 1) cP1]) (by simp [results, Tryz.results191, go_sem, y0, y1, y2, y3]) rfl ?_
  refine ⟨_, rfl, ?_, ?_⟩
  ·rw [D.out.1, D.out.2.1, D.out.2.2.1, D.out.2.2.2]
   exact ⟨_, _, _, _, rfl, (RO.out.put (bD := w.heap.size) (bR := w.heap.size + 1 + 1) (i := 2) (j := 3) VH.out.1 (zcz (zaf _ _ _) (zaf _ _ _) (zaf _ _ _) (zaf _ _ _)) VH.out.2 (zcz (zaf _ _ _) (zaf _ _ _) (zaf _ _ _) (zaf _ _ _))), (RN.out.put (bD := w.heap.size) (bR := w.heap.size + 1 + 1) (i := 2) (j := 3) VH.out.1 (zcz (zaf _ _ _) (zaf _ _ _) (zaf _ _ _) (zaf _ _ _)) VH.out.2 (zcz (zaf _ _ _) (zaf _ _ _) (zaf _ _ _) (zaf _ _ _)))⟩
  ·exact zfe B1.out (Nat.le_refl _) (by omega) 2 3 _ _ _ _ _ _
 ·clear hk
  have D := zaa (show doW (⟨5, a, x⟩ : Mi) ws ps = ws ∧ doP (⟨5, a, x⟩ : Mi) ps = ps ∧ doE (⟨5, a, x⟩ : Mi) es qs = zvh es qs ∧ doQ (⟨5, a, x⟩ : Mi) qs = [] from ⟨rfl, rfl, rfl, rfl⟩)
  go_enter Tryz.func191, Tryz.ntmps191
  go_wp2_with fail
  refine (zoj _ es qs _ (R2.out.below hb0) (by omega) (by omega) (fun j hj => by have := QA.out j hj; have := HE.out; omega)).mono ?_
  rintro e w1 ⟨v1, rfl, hr, hb⟩
  have hr' : RdBlk w1 v1 _ _ := hr.rd
  obtain ⟨vW1, vP1, rfl, hI, hS⟩ := hr'
  obtain ⟨aW1, cW1, rfl⟩ := RdI.form hI (zlj es qs)
  obtain ⟨aP1, cP1, rfl⟩ := RdE.form hS (n := 0) rfl
  have hz1 : w.heap.size + 3 ≤ w1.heap.size := by have := hb.size; simp at this; omega
  have V0 := (hb.block w.heap.size (by simp <;> omega)).trans (zaj (zaj (zag rfl)))
  have V2 := (hb.block (w.heap.size + 1 + 1) (by simp <;> omega)).trans (zag (by simp))
  have VM := (hb.block (w.heap.size + 1) (by simp <;> omega)).trans (zaj (zag (by simp)))
  have RN := zaa hr
  have RO := zaa (R1.out.below (zab hb0 hb (by simp <;> omega)))
  have B1 := zaa (zab hb0 hb (by simp <;> omega))
  obtain ⟨x0, x1, x2, x3, x4, x5, x6, x7⟩ := zan V0
  obtain ⟨y0, y1, y2, y3, y4, y5, y6, y7⟩ := zan V2
  obtain ⟨m0, m1, m2⟩ := zba VM
  have VH := zaa (And.intro V0 V2)
  clear hb0 hb hr hI hS V0 V2 VM
  go_wp2
  refine bodyPost_ret (v := .agg #[.slice aW ws.length cW, .slice aP ps.length cP, .slice aW1 es.length cW1, .slice aP1 0 cP1]) (by simp [results, Tryz.results191, go_sem, y0, y1, y2, y3]) rfl ?_
  refine ⟨_, rfl, ?_, ?_⟩
  ·rw [D.out.1, D.out.2.1, D.out.2.2.1, D.out.2.2.2]
   exact ⟨_, _, _, _, rfl, (RO.out.put (bD := w.heap.size) (bR := w.heap.size + 1 + 1) (i := 2) (j := 3) VH.out.1 (zcz (zaf _ _ _) (zaf _ _ _) (zaf _ _ _) (zaf _ _ _)) VH.out.2 (zcz (zaf _ _ _) (zaf _ _ _) (zaf _ _ _) (zaf _ _ _))), (RN.out.rd.put (bD := w.heap.size) (bR := w.heap.size + 1 + 1) (i := 2) (j := 3) VH.out.1 (zcz (zaf _ _ _) (zaf _ _ _) (zaf _ _ _) (zaf _ _ _)) VH.out.2 (zcz (zaf _ _ _) (zaf _ _ _) (zaf _ _ _) (zaf _ _ _)))⟩
  ·exact zfe B1.out (Nat.le_refl _) (by omega) 2 3 _ _ _ _ _ _
end Go.Proofs.YtbbmljakfbhnpaaGreatDoor
