/- Several texts laid together: DtC, DtD, IgJ, DtH, TrC, MvA. -/
import Derived.Test.YtfcjhhiekjbbiaaGreatDoorZBL
import Derived.Test.YtfcjhhiekjbbiaaGreatDoorRdD
import Derived.Test.YtfcjhhiekjbbiaaGreatDoorZBJ
import Derived.Test.YtfcjhhiekjbbiaaGreatDoorZBH
import Derived.Test.YtfcjhhiekjbbiaaGreatDoorZAM
import Derived.Test.YtfcjhhiekjbbiaaGreatDoorZAI
import Derived.Test.YtfcjhhiekjbbiaaGreatDoorZAZ
namespace Go.Proofs.YtfcjhhiekjbbiaaGreatDoor
open Go.RowKit

/-- The image of devices; none where there is no right one. -/
def dvN (ws : List Int) (ps : List St) (es : List Int) (qs : List Se) : List Ino := if dvB ws ps es qs = true then inosOf (layW ws ps) 16 else []
def dvD (ws : List Int) (ps : List St) (es : List Int) (qs : List Se) : List Den := if dvB ws ps es qs = true then densOf (layW ws ps) 24 else []
theorem dv_not {ws : List Int} {ps : List St} {es : List Int} {qs : List Se} (h : (pmB ws ps && blkB es qs) = false) : dvB ws ps es qs = false ∧ dvN ws ps es qs = [] ∧ dvD ws ps es qs = [] := by
  have e : dvB ws ps es qs = false := by unfold dvB; rw [h]; rfl
  exact ⟨e, by unfold dvN; rw [e]; rfl, by unfold dvD; rw [e]; rfl⟩
theorem dv_form {ws : List Int} {ps : List St} {es : List Int} {qs : List Se} (h : (pmB ws ps && blkB es qs) = true) : dvB ws ps es qs = (riC ws ps == 0) ∧ dvN ws ps es qs = riN ws ps ∧ dvD ws ps es qs = riD ws ps := by
  have p : pmB ws ps = true := by rw [Bool.and_eq_true] at h; exact h.1
  have e : dvB ws ps es qs = riB (layW ws ps) := by unfold dvB; rw [h]; rfl
  cases q : riB (layW ws ps) with
  | false =>
    obtain ⟨a, b, c⟩ := ri_form p q
    rw [q] at e
    exact ⟨by rw [e, a]; rfl, by unfold dvN; rw [e, b]; rfl, by unfold dvD; rw [e, c]; rfl⟩
  | true =>
    obtain ⟨a, b, c⟩ := ri_ok p q
    rw [q] at e
    exact ⟨by rw [e, a]; rfl, by unfold dvN; rw [e, b]; rfl, by unfold dvD; rw [e, c]; rfl⟩
theorem rowim_set {w : World} {lo hi : Nat} {vI vD : Value} {xs : List Ino} {ds : List Den} {b : Nat} {cs : Array Value} {fr : Nat × Nat} (h1 : Row w 76 11 lo hi vI xs.length (inos xs)) (h2 : Row w 141 3 lo hi vD ds.length (dens ds)) (hb : w.heap[b]? = some (.cells cs 54 fr)) (v0 v1 : Value) : RowIm ((w.setCell ⟨b, 0, none⟩ v0).setCell ⟨b, 1, none⟩ v1) lo hi (.agg #[vI, vD]) xs ds := by
  have T1 := own_type h1.1 hb img_ino
  have T2 := own_type h2.1 hb img_den
  exact ⟨_, _, rfl, ⟨ownsRow_setCell_other (ownsRow_setCell_other h1.1 T1 _) T1 _, h1.2⟩, ⟨ownsRow_setCell_other (ownsRow_setCell_other h2.1 T2 _) T2 _, h2.2⟩⟩

set_option maxRecDepth 100000 in
set_option maxHeartbeats 4000000 in
theorem l08Image_any (v : Value) (ws : List Int) (ps : List St) (es : List Int) (qs : List Se) (w : World) (h : RdDev w v ws ps es qs) (hw : ws.length ≤ 1048576) (hp : ps.length ≤ 1048576) (he : es.length ≤ 1048576) (hq : qs.length ≤ 1048576) :
    Calls Tryz.prog 32 #[v] w fun e w' => ∃ v', e = .returned (.tuple #[v', .bool (dvB ws ps es qs)]) ∧ RowIm w' w.heap.size w'.heap.size v' (dvN ws ps es qs) (dvD ws ps es qs) ∧ Below w.heap.size w w' := by
  have LO := hideIt (fun w1 (hb : Below w.heap.size w w1) => specDevicesOK_any v ws ps es qs w1 (h.below hb) hw hp he hq)
  obtain ⟨aW, cW, aP, cP, aS, cS, aQ, cQ, rfl, h1, h2⟩ := h.form
  have LR := hideIt (fun w1 (hb : Below w.heap.size w w1) => specReadImage_any _ ws ps w1 (h1.below hb) hw hp)
  have NO := hideIt (fun q => dv_not (ws := ws) (ps := ps) (es := es) (qs := qs) q)
  have YES := hideIt (fun q => dv_form (ws := ws) (ps := ps) (es := es) (qs := qs) q)
  clear h h1 h2
  obtain ⟨W1, hW1⟩ : ∃ W1, W1 = (w.alloc (.cells #[.slice aW ws.length cW, .slice aP ps.length cP, .slice aS es.length cS, .slice aQ qs.length cQ] 42)).alloc (.cells #[.slice none 0 0, .slice none 0 0] 54) := ⟨_, rfl⟩
  have hz1 : W1.heap.size = w.heap.size + 1 + 1 := by rw [hW1]; simp
  have CA : Hid (∀ w', Below W1.heap.size W1 w' → w'.cell? ⟨w.heap.size, 0, none⟩ = some (.slice aW ws.length cW) ∧ w'.cell? ⟨w.heap.size, 1, none⟩ = some (.slice aP ps.length cP) ∧ w'.cell? ⟨w.heap.size, 2, none⟩ = some (.slice aS es.length cS) ∧ w'.cell? ⟨w.heap.size, 3, none⟩ = some (.slice aQ qs.length cQ)) := fun w' hb => by
    have : w'.heap[w.heap.size]? = some (.cells #[.slice aW ws.length cW, .slice aP ps.length cP, .slice aS es.length cS, .slice aQ qs.length cQ] 42 (0, 0)) := (hb.block _ (by omega)).trans (by rw [hW1]; exact at_old (at_new rfl))
    obtain ⟨x0, x1, x2, x3, -, -, -, -⟩ := four_cells this
    exact ⟨x0, x1, x2, x3⟩
  have CR : Hid (∀ w', Below W1.heap.size W1 w' → w'.heap[w.heap.size + 1]? = some (.cells #[.slice none 0 0, .slice none 0 0] 54 (0, 0))) := fun w' hb => (hb.block _ (by omega)).trans (by
    rw [hW1]
    have := at_new (w := w.alloc (.cells #[.slice aW ws.length cW, .slice aP ps.length cP, .slice aS es.length cS, .slice aQ qs.length cQ] 42)) (o := .cells #[.slice none 0 0, .slice none 0 0] 54) rfl
    rw [World.size_alloc] at this
    exact this)
  have BW : Hid (Below w.heap.size w W1) := by rw [hW1]; exact ((Below.refl _ _).alloc (Nat.le_refl _) _).alloc (by simp) _
  have hz0 : w.heap.size + 1 < W1.heap.size := by omega
  clear hz1
  obtain ⟨x0, x1, x2, x3⟩ := CA.out W1 (Below.refl _ _)
  generalize riC ws ps = rc at *
  generalize riN ws ps = rn at *
  generalize riD ws ps = rd at *
  generalize dvB ws ps es qs = db at *
  generalize dvN ws ps es qs = dn at *
  generalize dvD ws ps es qs = dd at *
  generalize (pmB ws ps && blkB es qs) = ok at *
  go_enter Tryz.func32, Tryz.ntmps32
  go_wp2_with fail
  rw [← hW1]
  clear hW1
  refine (LO.out _ BW.out).mono ?_
  rintro e w1 ⟨rfl, hb1⟩
  have B1 := hideIt hb1
  have B1w := hideIt (below_trans BW.out B1.out BW.out.size)
  clear x0 x1 x2 x3 hb1
  obtain ⟨x0, x1, x2, x3⟩ := CA.out w1 B1.out
  cases ok with
  | false =>
    obtain ⟨rfl, rfl, rfl⟩ := NO.out rfl
    have CB := hideIt (CR.out _ B1.out)
    obtain ⟨p0, p1, p2, p3⟩ := two_cells CB.out
    have BR : Hid (Below w.heap.size w ((w1.setCell ⟨w.heap.size + 1, 0, none⟩ (.slice none 0 0)).setCell ⟨w.heap.size + 1, 1, none⟩ (.slice none 0 0))) := (B1w.out.setCell (by simp only; omega) _).setCell (by simp only; omega) _
    clear NO YES
    go_wp2
    refine bodyPost_ret (v := .tuple #[.agg #[.slice none 0 0, .slice none 0 0], .bool false]) (by simp [results, Tryz.results32, go_sem, p0, p1]) rfl ?_
    exact ⟨_, rfl, rowim_nil _ _ _, BR.out⟩
  | true =>
    obtain ⟨rfl, rfl, rfl⟩ := YES.out rfl
    clear NO YES
    go_wp2_with fail
    refine (LR.out _ B1w.out).mono ?_
    rintro e w2 ⟨v2, rfl, ⟨vI, vD, rfl, hI, hD⟩, hb2⟩
    obtain ⟨-, a1, c1, hv1, -⟩ := hI.rd
    obtain ⟨-, a2, c2, hv2, -⟩ := hD.rd
    subst hv1
    subst hv2
    have HI := hideIt hI
    have HD := hideIt hD
    have B2 := hideIt (bel2 B1.out hb2)
    have B3 : Hid (Below W1.heap.size W1 (w2.alloc (.cells #[.slice a1 dn.length c1, .slice a2 dd.length c2] 54))) := below_allocB B2.out _
    have hz12 : W1.heap.size ≤ w1.heap.size := B1.out.size
    have hz2 : w1.heap.size ≤ w2.heap.size := hb2.size
    have hzw : w.heap.size ≤ w1.heap.size := B1w.out.size
    clear x0 x1 x2 x3 hb2 hI hD
    obtain ⟨y0, y1, _, _⟩ := two_cells (at_new (w := w2) (o := .cells #[.slice a1 dn.length c1, .slice a2 dd.length c2] 54) rfl)
    obtain ⟨w3, hw3⟩ : ∃ w3, w3 = w2.alloc (.cells #[.slice a1 dn.length c1, .slice a2 dd.length c2] 54) := ⟨_, rfl⟩
    have BC : Hid (Below w2.heap.size w2 w3) := by rw [hw3]; exact (Below.refl _ _).alloc (Nat.le_refl _) _
    rw [← hw3] at B3 y0 y1
    have HI3 := hideIt (HI.out.below BC.out (Nat.le_refl _))
    have HD3 := hideIt (HD.out.below BC.out (Nat.le_refl _))
    have hz3 : w2.heap.size ≤ w3.heap.size := BC.out.size
    have CB := hideIt (CR.out _ B3.out)
    obtain ⟨p0, p1, p2, p3⟩ := two_cells CB.out
    have BR : Hid (Below w.heap.size w ((w3.setCell ⟨w.heap.size + 1, 0, none⟩ (.slice a1 dn.length c1)).setCell ⟨w.heap.size + 1, 1, none⟩ (.slice a2 dd.length c2))) := ((below_trans BW.out B3.out BW.out.size).setCell (by simp only; omega) _).setCell (by simp only; omega) _
    have RF := hideIt (rowim_wide (rowim_set HI3.out HD3.out CB.out (.slice a1 dn.length c1) (.slice a2 dd.length c2)) (lo' := w.heap.size) (hi' := ((w3.setCell ⟨w.heap.size + 1, 0, none⟩ (.slice a1 dn.length c1)).setCell ⟨w.heap.size + 1, 1, none⟩ (.slice a2 dd.length c2)).heap.size) (by omega) (by simp; omega))
    clear CB HI HD HI3 HD3 BC B3 B2 LR LO CA CR
    subst hw3
    go_wp2
    refine bodyPost_ret (v := .tuple #[.agg #[.slice a1 dn.length c1, .slice a2 dd.length c2], .bool (rc == 0)]) (by simp [results, Tryz.results32, go_sem, p0, p1]) rfl ?_
    exact ⟨_, rfl, RF.out, BR.out⟩
end Go.Proofs.YtfcjhhiekjbbiaaGreatDoor

namespace Go.Proofs.YtfcjhhiekjbbiaaGreatDoor
open Go.RowKit

theorem dv_yes {ws : List Int} {ps : List St} {es : List Int} {qs : List Se} (h : dvB ws ps es qs = true) : pmB ws ps = true ∧ blkB es qs = true ∧ dvN ws ps es qs = inosOf (layW ws ps) 16 ∧ dvD ws ps es qs = densOf (layW ws ps) 24 ∧ imgB (inosOf (layW ws ps) 16) (densOf (layW ws ps) 24) = true := by
  have q := h
  unfold dvB at q
  rw [Bool.and_eq_true, Bool.and_eq_true] at q
  obtain ⟨⟨a, b⟩, r⟩ := q
  unfold riB at r
  rw [Bool.and_eq_true, Bool.and_eq_true] at r
  exact ⟨a, b, by unfold dvN; rw [if_pos h], by unfold dvD; rw [if_pos h], r.2.2⟩

end Go.Proofs.YtfcjhhiekjbbiaaGreatDoor

namespace Go.Proofs.YtfcjhhiekjbbiaaGreatDoor
open Go.RowKit

/-- What is free is new. -/
theorem first_some {p : Nat → Bool} {n : Nat} (h : 0 ≤ firstIx p n) : ∃ k : Nat, k < n ∧ firstIx p n = (k : Int) ∧ p k = true := by
  unfold firstIx at h ⊢
  cases e : (List.range n).find? p with
  | none => rw [e] at h; exact absurd h (by show ¬ (0 : Int) ≤ -1; omega)
  | some k => exact ⟨k, List.mem_range.1 (List.mem_of_find?_eq_some e), rfl, List.find?_some e⟩
end Go.Proofs.YtfcjhhiekjbbiaaGreatDoor

namespace Go.Proofs.YtfcjhhiekjbbiaaGreatDoor
open Go.RowKit

/-- A plan of steps that is told. -/
def MiOut (w w' : World) (e : Ending) (r : List Mi × Int) : Prop := ∃ v', e = .returned (.tuple #[v', .int .i64 r.2]) ∧ Row w' 63 3 w.heap.size w'.heap.size v' r.1.length (mis r.1) ∧ Below w.heap.size w w'
theorem mi_none {w w1 : World} {n : Nat} {c : Int} (B : Below w.heap.size w w1) (e : n = w1.heap.size) : MiOut w (w1.alloc (.cells #[] 63)) (.returned (.tuple #[.slice (some ⟨n, 0, none⟩) 0 0, .int .i64 c])) ([], c) := by
  subst e
  exact ⟨_, rfl, (row_none w1 _ _).wide B.size (Nat.le_refl _), B.alloc B.size _⟩
/-- Steps under way. -/
structure MiI (W w : World) (vL : Value) (ls : List Mi) : Prop where
  l : w.ownsRow W.heap.size 63 3 vL ls.length (mis ls)
  b : Below W.heap.size W w
theorem MiI.z {W w : World} {vL : Value} {ls : List Mi} (h : MiI W w vL ls) : W.heap.size ≤ w.heap.size := h.b.size
theorem MiI.below {W w w' : World} {vL : Value} {ls : List Mi} (h : MiI W w vL ls) (hb : Below w.heap.size w w') : MiI W w' vL ls :=
  ⟨((own_block h.l).below hb (Nat.le_refl _)).1, below_trans h.b hb h.z⟩
theorem MiI.grow {W w w' : World} {vL v' : Value} {ls : List Mi} (h : MiI W w vL ls) (ms : List Mi) (ho : w'.ownsRow W.heap.size 63 3 v' (ls.length + ms.length) (mis ls ++ mis ms)) (hg : w.grownBy w' vL.ownBlock) : MiI W w' v' (ls ++ ms) :=
  ⟨by rw [mis_append, List.length_append]; exact ho, h.b.grown hg h.z (fun q hq => (h.l.lt q hq).1)⟩
/-- Steps and updates under way. -/
structure WrI (W w : World) (vL vU : Value) (ls : List Mi) (us : List Se) : Prop where
  l : w.ownsRow W.heap.size 63 3 vL ls.length (mis ls)
  u : w.ownsRow W.heap.size 92 2 vU us.length (ses us)
  b : Below W.heap.size W w
theorem WrI.z {W w : World} {vL vU : Value} {ls : List Mi} {us : List Se} (h : WrI W w vL vU ls us) : W.heap.size ≤ w.heap.size := h.b.size
theorem WrI.below {W w w' : World} {vL vU : Value} {ls : List Mi} {us : List Se} (h : WrI W w vL vU ls us) (hb : Below w.heap.size w w') : WrI W w' vL vU ls us :=
  ⟨((own_block h.l).below hb (Nat.le_refl _)).1, ((own_block h.u).below hb (Nat.le_refl _)).1, below_trans h.b hb h.z⟩
end Go.Proofs.YtfcjhhiekjbbiaaGreatDoor

namespace Go.Proofs.YtfcjhhiekjbbiaaGreatDoor
open Go.RowKit

theorem tie_at {ns : List Ino} {ds : List Den} (h : imgB ns ds = true) {k : Nat} (hk : k < 16) (j : Nat) : tieB ((inoAt ns k).map.getD j 0) = true := by
  have t := (ino_ties ((img_iff.1 h).ok k hk)).1
  rw [List.getD_eq_getElem?_getD]
  rcases Nat.lt_or_ge j (inoAt ns k).map.length with q | q
  · rw [List.getElem?_eq_getElem q]
    exact t _ (List.getElem_mem q)
  · rw [List.getElem?_eq_none q]
    exact tieB_zero
/-- The tier of an entry. -/
theorem tier_is {e t : Int} (h : tieB e = true) (ht : t = 1 ∨ t = 2) : (tieT e == t) = true ↔ ¬ (e = 0 ∨ ¬ e % 4 = t) := by
  unfold tieT
  rw [if_pos h, beq_iff_eq]
  constructor
  · intro q r
    rcases r with r | r
    · subst r; omega
    · exact r q
  · intro q
    by_cases c : e % 4 = t
    · exact c
    · exact absurd (.inr c) q
end Go.Proofs.YtfcjhhiekjbbiaaGreatDoor

namespace Go.Proofs.YtfcjhhiekjbbiaaGreatDoor
open Go.RowKit

/-- One word lets a page be at another place. -/
def swL (i p e : Int) : List Mi := ⟨1, 48 + 12 * i + (3 + p), e⟩ :: flushL [48 + 12 * i + (3 + p)]
def deS (ns : List Ino) (x : Int) : List Mi := [⟨4, fsI ns, x⟩, ⟨5, 0, 0⟩]
def prS (ns : List Ino) (x : Int) : List Mi := ⟨1, 312 + fpI ns, x⟩ :: flushL [312 + fpI ns]
/-- What a move of a page with an entry and a word answers. -/
def deF (ns : List Ino) (e x i p : Int) : List Mi × Int := if e = 0 ∨ ¬ e % 4 = 1 then ([], 5) else if fsI ns < 0 then ([], 7) else (deS ns x ++ swL i p (4 * fsI ns + 2), 0)
def prF (ns : List Ino) (e x i p : Int) : List Mi × Int := if e = 0 ∨ ¬ e % 4 = 2 then ([], 5) else if fpI ns < 0 then ([], 7) else (prS ns x ++ swL i p (4 * fpI ns + 1), 0)
/-- The entry of a page. -/
def enI (ns : List Ino) (i p : Int) : Int := (inoAt ns i.toNat).map.getD p.toNat 0
def mvC (d : Bool) (i p : Int) : Int := if d = true then (if (0 ≤ i ∧ i ≤ 15) ∧ (0 ≤ p ∧ p ≤ 7) then 0 else 4) else 1
def deR2 (ws : List Int) (ps : List St) (es : List Int) (qs : List Se) (i p : Int) : List Mi × Int := if mvC (dvB ws ps es qs) i p = 0 then deF (dvN ws ps es qs) (enI (dvN ws ps es qs) i p) (pgV ws ps es qs (enI (dvN ws ps es qs) i p)) i p else ([], mvC (dvB ws ps es qs) i p)
def prR2 (ws : List Int) (ps : List St) (es : List Int) (qs : List Se) (i p : Int) : List Mi × Int := if mvC (dvB ws ps es qs) i p = 0 then prF (dvN ws ps es qs) (enI (dvN ws ps es qs) i p) (pgV ws ps es qs (enI (dvN ws ps es qs) i p)) i p else ([], mvC (dvB ws ps es qs) i p)
theorem swL_len (i p e : Int) : (swL i p e).length ≤ 3 := by
  have := flushL_len [48 + 12 * i + (3 + p)]
  unfold swL
  simp only [List.length_cons, List.length_nil] at this ⊢
  omega

set_option maxRecDepth 100000 in
set_option maxHeartbeats 8000000 in
/-- A store, and what makes it sure: as a list that is owned. -/
theorem l09Swing_any (i p e : Int) (w : World) (hi : 0 ≤ i ∧ i < 16) (hp : 0 ≤ p ∧ p < 8) :
    Calls Tryz.prog 36 #[.int .i64 i, .int .i64 p, .int .i64 e] w fun r w' => ∃ v', r = .returned v' ∧ Row w' 63 3 w.heap.size w'.heap.size v' (swL i p e).length (mis (swL i p e)) ∧ Below w.heap.size w w' := by
  have wp : IntKind.i64.wrap (3 + p) = 3 + p := by rw [IntKind.wrap_i64]; omega
  have EX := hideIt (show swL i p e = [⟨1, 48 + 12 * i + (3 + p), e⟩] ++ flushL [48 + 12 * i + (3 + p)] from rfl)
  rw [EX.out]
  have pr : 0 ≤ 3 + p ∧ 3 + p < 11 := by omega
  have ar : 0 ≤ 48 + 12 * i + (3 + p) ∧ 48 + 12 * i + (3 + p) < 336 := by omega
  have LN := hideIt (fun w1 => l03Inode_any i (3 + p) w1 hi pr)
  have l7 : (flushL [48 + 12 * i + (3 + p)]).length ≤ 2 := flushL_len [48 + 12 * i + (3 + p)]
  clear EX
  generalize 48 + 12 * i + (3 + p) = a at *
  have LF := hideIt (fun v w1 h => l04Flush_any v [a] w1 h (by simp) (by intro j h; simp at h; subst h; simpa using ar))
  generalize flushL [a] = FL at *
  go_enter Tryz.func36, Tryz.ntmps36
  go_wp2_with fail
  refine (LN.out _).mono ?_
  rintro e w' ⟨rfl, hw'⟩
  subst w'
  go_wp2_with fail
  refine (l04Store_any _ _ _).mono ?_
  rintro r w4 ⟨rfl, hb4⟩
  have M4 : Hid (MiI w (w4.alloc (.cells #[.int .i64 1, .int .i64 a, .int .i64 e] 63)) (.slice (some ⟨w4.heap.size, 0, none⟩) 1 1) [⟨1, a, e⟩]) := ⟨World.ownsRow_lit w4 _ 1 hb4.size (by simp [maxLen]) rfl, hb4.alloc hb4.size _⟩
  have M6 := hideIt (M4.out.below ((Below.refl _ _).alloc (Nat.le_refl _) (.cells #[.int .i64 a] 3)))
  have R6 := hideIt (rd_oneJ (w4.alloc (.cells #[.int .i64 1, .int .i64 a, .int .i64 e] 63)) a)
  simp only [World.size_alloc] at R6
  clear hb4 M4
  go_wp2_with fail
  refine (LF.out _ _ R6.out).mono ?_
  rintro r w7 ⟨v7, rfl, hr7, hb7⟩
  have M7 := hideIt (M6.out.below hb7)
  have R7 := hideIt hr7.rd
  have hz7 := M7.out.z
  clear hr7 hb7 M6 R6
  go_wp2_with (at_builtin; refine wpList_append_rd _ rfl (.tmp 15) (.tmp 18) 32 rfl w.heap.size 63 (.agg #[.int .i64 0, .int .i64 0, .int .i64 0]) 3 24 Tryz.underlying32 infoMic rfl (by decide) _ _ _ rfl M7.out.l _ _ _ rfl R7.out (mis_one _) (by first | omega | (simp [maxLen]; done) | (simp [maxLen]; omega)) (by first | omega | (simp; done) | (simp; omega)) hz7 ?_)
  intro vT wT hownT hgrT
  have M := hideIt (M7.out.grow FL hownT hgrT)
  obtain ⟨-, aT, cT, hvT, -⟩ := (own_block hownT).rd
  subst hvT
  clear hownT hgrT M7 R7
  go_wp2
  go_ret
  exact ⟨_, rfl, own_block M.out.l, M.out.b⟩
end Go.Proofs.YtfcjhhiekjbbiaaGreatDoor
