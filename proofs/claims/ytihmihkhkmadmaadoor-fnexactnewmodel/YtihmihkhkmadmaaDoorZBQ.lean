/- Several texts laid together: MdJ, MeE. -/
import Derived.Test.YtihmihkhkmadmaaDoorZBN
import Derived.Test.YtihmihkhkmadmaaDoorOrdT
import Derived.Test.YtihmihkhkmadmaaDoorZBD
import Derived.Test.YtihmihkhkmadmaaDoorMeC
import Derived.Test.YtihmihkhkmadmaaDoorMeD
import Derived.Test.YtihmihkhkmadmaaDoorDuA
import Derived.Test.YtihmihkhkmadmaaDoorZAV
namespace Go.Proofs.YtihmihkhkmadmaaDoor
open Go.RowKit
def moT (ws : List Int) (ps : List St) (es : List Int) (qs : List Se) : List Th := if dvB ws ps es qs = true then ofL ws ps es qs (dvN ws ps es qs) else []
def moD (ws : List Int) (ps : List St) (es : List Int) (qs : List Se) : List Den := if dvB ws ps es qs = true then dvD ws ps es qs else []
def moC (ws : List Int) (ps : List St) (es : List Int) (qs : List Se) : Int := if dvB ws ps es qs = true then 0 else 1
theorem dvI {ws : List Int} {ps : List St} {es : List Int} {qs : List Se} (d : dvB ws ps es qs = true) : imgB (dvN ws ps es qs) (dvD ws ps es qs) = true := by rw [(dv_yes d).2.2.1, (dv_yes d).2.2.2.1]; exact (dv_yes d).2.2.2.2
theorem dvL {ws : List Int} {ps : List St} {es : List Int} {qs : List Se} (d : dvB ws ps es qs = true) : (dvN ws ps es qs).length = 16 ∧ (dvD ws ps es qs).length = 24 ∧ ∀ k (h : k < (dvN ws ps es qs).length), inoB (dvN ws ps es qs)[k] = true := by
  obtain ⟨a, b, -, o, -⟩ := pimg_all (dvI d)
  exact ⟨a, b, of_decide_eq_true o⟩
end Go.Proofs.YtihmihkhkmadmaaDoor

namespace Go.Proofs.YtihmihkhkmadmaaDoor
open Go.RowKit
theorem ofL_len {ws : List Int} {ps : List St} {es : List Int} {qs : List Se} {ns : List Ino} : (ofL ws ps es qs ns).length = ns.length := by simp [ofL]
theorem ofL_get {ws : List Int} {ps : List St} {es : List Int} {qs : List Se} {ns : List Ino} {k : Nat} (h : k < (ofL ws ps es qs ns).length) (h2 : k < ns.length) : (ofL ws ps es qs ns)[k] = ofT ws ps es qs ns[k] := by simp [ofL]
theorem callModelOf1 (args : Array Value) (w : World) : (callFunc 36 args).run Tryd.prog w = .ok (.enter 36 args) w := by
  simp [callFunc, go_sem, Tryd.func36, Tryd.f36]
set_option maxRecDepth 100000 in
set_option maxHeartbeats 8000000 in
theorem implModelOf_any (v : Value) (ws : List Int) (ps : List St) (es : List Int) (qs : List Se) (w : World) (h : RdDev w v ws ps es qs) (hw : ws.length ≤ 1048576) (hp : ps.length ≤ 1048576) (he : es.length ≤ 1048576) (hq : qs.length ≤ 1048576) (hT : TS w) (hE : ED w) (hF : FD w) (hN : NW w) :
    Calls Tryd.prog 15 #[v] w fun e w' => ∃ v', e = .returned (.tuple #[v', .int .i64 (moC ws ps es qs)]) ∧ RowMd w' w.heap.size w'.heap.size v' (moT ws ps es qs) (moD ws ps es qs) ∧ Below w.heap.size w w' := by
  have LS := hideIt (fun w1 (hb : Below w.heap.size w w1) => seenImage_any v ws ps es qs w1 (h.below hb) hw hp he hq (hT.below hb) (hE.below hb) (hF.below hb))
  have LI := hideIt (fun v1 w1 (hb : Below w.heap.size w w1) (h1 : RdIm w1 v1 (dvN ws ps es qs) (dvD ws ps es qs)) => implImageOK_any v1 (dvN ws ps es qs) (dvD ws ps es qs) w1 h1 (dv_len ws ps es qs).1 (dv_len ws ps es qs).2 (hT.below hb) (hE.below hb) (hF.below hb) dv_R dv_name)
  have LF : Hid (dvB ws ps es qs = true → ∀ (b : Nat) v2 w1, Below w.heap.size w w1 → RdIm w1 v2 (dvN ws ps es qs) (dvD ws ps es qs) → (∃ a0 n0 c0 a1 n1 c1 a2 n2 c2 a3 n3 c3, v = .agg #[.slice a0 n0 c0, .slice a1 n1 c1, .slice a2 n2 c2, .slice a3 n3 c3] ∧ w1.heap[b]? = some (.cells #[.slice a0 n0 c0, .slice a1 n1 c1, .slice a2 n2 c2, .slice a3 n3 c3] 48 (0, 0))) → Calls Tryd.prog 35 #[v2, .func (.func 36) #[] #[.pointer (some ⟨b, 0, none⟩)]] w1 fun e w' => ∃ v', e = .returned v' ∧ RowMd w' w1.heap.size w'.heap.size v' (ofL ws ps es qs (dvN ws ps es qs)) (dvD ws ps es qs) ∧ Below w1.heap.size w1 w') := fun d b v2 w1 hb h2 hbx => by
    refine filled_any _ _ callModelOf1 v2 (dvN ws ps es qs) (dvD ws ps es qs) (ofL ws ps es qs (dvN ws ps es qs)) w1 h2 (by rw [(dvL d).1]; decide) (by rw [(dvL d).2.1]; decide) ofL_len (fun k hk hk2 => by rw [ofL_get hk hk2]; exact ⟨rfl, rfl⟩) ?_
    intro w2 hb2 k hk hk2 x hx
    have B := below_trans hb hb2 hb.size
    rw [ofL_get hk hk2, ← hx]
    obtain ⟨a0, n0, c0, a1, n1, c1, a2, n2, c2, a3, n3, c3, e, hcell⟩ := hbx
    exact modelOf1_any b k v ws ps es qs x w2 (h.below B) ⟨a0, n0, c0, a1, n1, c1, a2, n2, c2, a3, n3, c3, e, (hb2.block b (Array.getElem?_eq_some_iff.1 hcell).1).trans hcell⟩ (dv_yes d).1 (dv_yes d).2.1 (by rw [hx]; exact (dvL d).2.2 k hk2) (hT.below B) (hN.below B)
  have ET : Hid (dvB ws ps es qs = true → moT ws ps es qs = ofL ws ps es qs (dvN ws ps es qs) ∧ moD ws ps es qs = dvD ws ps es qs ∧ moC ws ps es qs = 0) := fun d => ⟨if_pos d, if_pos d, if_pos d⟩
  have EF : Hid (dvB ws ps es qs = false → moT ws ps es qs = [] ∧ moD ws ps es qs = [] ∧ moC ws ps es qs = 1) := fun d => by
    have d' : ¬ dvB ws ps es qs = true := by rw [d]; decide
    exact ⟨if_neg d', if_neg d', if_neg d'⟩
  rw [dv_img] at LI
  obtain ⟨dW, eW, dP, eP, dS, eS, dQ, eQ, rfl, -, -⟩ := h.form
  clear h hT hE hF hN
  obtain ⟨W, hW⟩ : ∃ W, W = (w.alloc (.cells #[.slice dW ws.length eW, .slice dP ps.length eP, .slice dS es.length eS, .slice dQ qs.length eQ] 48)).alloc (.cells #[.slice none 0 0, .slice none 0 0] 25) := ⟨_, rfl⟩
  have hzW : W.heap.size = w.heap.size + 1 + 1 := by rw [hW]; simp
  have CB : Hid (∀ w', Below W.heap.size W w' → w'.heap[w.heap.size]? = some (.cells #[.slice dW ws.length eW, .slice dP ps.length eP, .slice dS es.length eS, .slice dQ qs.length eQ] 48 (0, 0))) := fun w' hb => (hb.block _ (by omega)).trans (by rw [hW]; exact at_old (at_new rfl))
  have CD : Hid (∀ w', Below W.heap.size W w' → w'.cell? ⟨w.heap.size, 0, none⟩ = some (.slice dW ws.length eW) ∧ w'.cell? ⟨w.heap.size, 1, none⟩ = some (.slice dP ps.length eP) ∧ w'.cell? ⟨w.heap.size, 2, none⟩ = some (.slice dS es.length eS) ∧ w'.cell? ⟨w.heap.size, 3, none⟩ = some (.slice dQ qs.length eQ)) := fun w' hb => by
    obtain ⟨x0, x1, x2, x3, -, -, -, -⟩ := four_cells (CB.out w' hb)
    exact ⟨x0, x1, x2, x3⟩
  have CR : Hid (∀ w', Below W.heap.size W w' → w'.heap[w.heap.size + 1]? = some (.cells #[.slice none 0 0, .slice none 0 0] 25 (0, 0))) := fun w' hb => (hb.block _ (by omega)).trans (by
    rw [hW]
    have := at_new (w := w.alloc (.cells #[.slice dW ws.length eW, .slice dP ps.length eP, .slice dS es.length eS, .slice dQ qs.length eQ] 48)) (o := .cells #[.slice none 0 0, .slice none 0 0] 25) rfl
    rw [World.size_alloc] at this
    exact this)
  have BW : Hid (Below w.heap.size w W) := by rw [hW]; exact ((Below.refl _ _).alloc (Nat.le_refl _) _).alloc (by simp) _
  have hz2 : w.heap.size + 1 < W.heap.size := by omega
  clear hzW
  obtain ⟨x0, x1, x2, x3⟩ := CD.out _ (Below.refl _ _)
  generalize moT ws ps es qs = mt at *
  generalize moD ws ps es qs = md at *
  generalize moC ws ps es qs = mc at *
  generalize dvB ws ps es qs = db at *
  generalize dvN ws ps es qs = dn at *
  generalize dvD ws ps es qs = dd at *
  go_enter Tryd.func15, Tryd.ntmps15
  go_wp2_with fail
  rw [← hW]
  clear hW
  refine (LS.out _ BW.out).mono ?_
  rintro e w1 ⟨v1, rfl, hR, hb1⟩
  have HR := hideIt hR
  obtain ⟨vI, vD, rfl, hI, hD⟩ := hR
  obtain ⟨a1, k1, hv1, -, hcN⟩ := RdN.shape hI.rd
  obtain ⟨-, a2, k2, hv2, -⟩ := hD.rd
  subst hv1
  subst hv2
  have A1 := hideIt hb1
  have B1 := hideIt (below_trans BW.out hb1 BW.out.size)
  have BC : Hid (Below w1.heap.size w1 (w1.alloc (.cells #[.slice a1 dn.length k1, .slice a2 dd.length k2] 62))) := (Below.refl _ _).alloc (Nat.le_refl _) _
  have VM : Hid ((w1.alloc (.cells #[.slice a1 dn.length k1, .slice a2 dd.length k2] 62)).heap[w1.heap.size]? = some (.cells #[.slice a1 dn.length k1, .slice a2 dd.length k2] 62 (0, 0))) := at_new rfl
  obtain ⟨w2, hw2⟩ : ∃ w2, w2 = w1.alloc (.cells #[.slice a1 dn.length k1, .slice a2 dd.length k2] 62) := ⟨_, rfl⟩
  rw [← hw2] at BC VM
  have A2 := hideIt (bel2 A1.out BC.out)
  have B2 := hideIt (below_trans B1.out BC.out B1.out.size)
  have R2 := hideIt (HR.out.below BC.out (Nat.le_refl _)).rd
  have hz3 : w1.heap.size < w2.heap.size := (Array.getElem?_eq_some_iff.1 VM.out).1
  have hz4 : W.heap.size ≤ w2.heap.size := A2.out.size
  have LI2 := hideIt (LI.out _ w2 B2.out R2.out)
  clear hb1 hI hD hcN HR x0 x1 x2 x3 B1 LI LS
  obtain ⟨y0, y1, _, _⟩ := two_cells VM.out
  rw [hw2] at y0 y1
  go_wp2_with fail
  rw [← hw2]
  clear hw2 y0 y1
  refine LI2.out.mono ?_
  rintro e w3 ⟨rfl, hb3⟩
  have A3 := hideIt (bel2 A2.out hb3)
  have B3 := hideIt (below_trans B2.out hb3 B2.out.size)
  have VM3 := hideIt ((hb3.block _ hz3).trans VM.out)
  have R3 := hideIt (R2.out.below hb3)
  have hz5 := hb3.size
  clear hb3 LI2 VM R2 A2 B2
  obtain ⟨y0, y1, _, _⟩ := two_cells VM3.out
  have C3 := hideIt (CR.out w3 A3.out)
  obtain ⟨p0, p1, p2, p3⟩ := two_cells C3.out
  cases db with
  | false =>
    obtain ⟨rfl, rfl, rfl⟩ := EF.out rfl
    have BR : Hid (Below w.heap.size w ((w3.setCell ⟨w.heap.size + 1, 0, none⟩ (.slice none 0 0)).setCell ⟨w.heap.size + 1, 1, none⟩ (.slice none 0 0))) := (B3.out.setCell (by simp only; omega) _).setCell (by simp only; omega) _
    have S2 : ((w3.setCell ⟨w.heap.size + 1, 0, none⟩ (.slice none 0 0)).setCell ⟨w.heap.size + 1, 1, none⟩ (.slice none 0 0)).heap[w.heap.size + 1]? = some (.cells #[.slice none 0 0, .slice none 0 0] 25 (0, 0)) := eight_set (xs := [.slice none 0 0, .slice none 0 0]) (two_set0 C3.out (.slice none 0 0)) 1 _
    obtain ⟨s0, s1, -, -⟩ := two_cells S2
    clear LF ET EF
    go_wp2
    refine bodyPost_ret (v := .tuple #[.agg #[.slice none 0 0, .slice none 0 0], .int .i64 1]) (by simp [results, Tryd.results15, go_sem, s0, s1]) rfl ?_
    exact ⟨_, rfl, ⟨_, _, w.heap.size, w.heap.size, w.heap.size, w.heap.size, rfl, RowTh.nil _ _ _, Row.nil _ _ _ _ _, Nat.le_refl _, BR.out.size, Nat.le_refl _, BR.out.size, .inl (Nat.le_refl _)⟩, BR.out⟩
  | true =>
    obtain ⟨rfl, rfl, rfl⟩ := ET.out rfl
    have LF2 := hideIt (LF.out rfl w.heap.size _ w3 B3.out R3.out ⟨_, _, _, _, _, _, _, _, _, _, _, _, rfl, CB.out w3 A3.out⟩)
    clear ET EF LF
    go_wp2_with fail
    refine LF2.out.mono ?_
    rintro e w4 ⟨v4, rfl, hR4, hb4⟩
    have A4 := hideIt (bel2 A3.out hb4)
    have B4 := hideIt (below_trans B3.out hb4 B3.out.size)
    have hz6 := hb4.size
    have O4 := hideIt (show RowMd w4 w3.heap.size w4.heap.size v4 _ _ from hR4)
    obtain ⟨aT, cT, aE, cE, rfl⟩ := hR4.rd.form
    clear hR4 hb4 y0 y1 p0 p1 p2 p3 C3 LF2
    have C4 := hideIt (CR.out w4 A4.out)
    obtain ⟨p0, p1, p2, p3⟩ := two_cells C4.out
    generalize (ofL ws ps es qs dn).length = nT at *
    have OF : Hid (Outside (w.heap.size + 1) (w.heap.size + 1 + 1) w4 ((w4.setCell ⟨w.heap.size + 1, 0, none⟩ (.slice aT nT cT)).setCell ⟨w.heap.size + 1, 1, none⟩ (.slice aE md.length cE))) := by
      repeat (refine Outside.setCell ?_ (by simp only; omega) (by simp only; omega) _)
      exact Outside.refl _ _ _
    have BR : Hid (Below w.heap.size w ((w4.setCell ⟨w.heap.size + 1, 0, none⟩ (.slice aT nT cT)).setCell ⟨w.heap.size + 1, 1, none⟩ (.slice aE md.length cE))) := (B4.out.setCell (by simp only; omega) _).setCell (by simp only; omega) _
    have S2 : ((w4.setCell ⟨w.heap.size + 1, 0, none⟩ (.slice aT nT cT)).setCell ⟨w.heap.size + 1, 1, none⟩ (.slice aE md.length cE)).heap[w.heap.size + 1]? = some (.cells #[.slice aT nT cT, .slice aE md.length cE] 25 (0, 0)) := eight_set (xs := [.slice aT nT cT, .slice none 0 0]) (two_set0 C4.out (.slice aT nT cT)) 1 _
    obtain ⟨s0, s1, -, -⟩ := two_cells S2
    have zq := OF.out.size
    go_wp2
    refine bodyPost_ret (v := .tuple #[.agg #[.slice aT nT cT, .slice aE md.length cE], .int .i64 0]) (by simp [results, Tryd.results15, go_sem, s0, s1]) rfl ?_
    exact ⟨_, rfl, (O4.out.outside OF.out (.inr (by omega)) (Nat.le_refl _)).wide (by omega) zq, BR.out⟩
end Go.Proofs.YtihmihkhkmadmaaDoor
