/- Several texts laid together: MeE, MkI. -/
import Derived.Test.YtihmihkhkmadmaaGreatDoorZBO
import Derived.Test.YtihmihkhkmadmaaGreatDoorMeD
import Derived.Test.YtihmihkhkmadmaaGreatDoorMdJ
import Derived.Test.YtihmihkhkmadmaaGreatDoorZBM
import Derived.Test.YtihmihkhkmadmaaGreatDoorZAX
import Derived.Test.YtihmihkhkmadmaaGreatDoorZAG
import Derived.Deep.DeepCutAuto
import Derived.Deep.RegionWith
namespace Go.Proofs.YtihmihkhkmadmaaGreatDoor
open Go.RowKit
theorem ofL_len {ws : List Int} {ps : List St} {es : List Int} {qs : List Se} {ns : List Ino} : (ofL ws ps es qs ns).length = ns.length := by simp [ofL]
theorem ofL_get {ws : List Int} {ps : List St} {es : List Int} {qs : List Se} {ns : List Ino} {k : Nat} (h : k < (ofL ws ps es qs ns).length) (h2 : k < ns.length) : (ofL ws ps es qs ns)[k] = ofT ws ps es qs ns[k] := by simp [ofL]
theorem callModelOf1 (args : Array Value) (w : World) : (callFunc 22 args).run Tryz.prog w = .ok (.enter 22 args) w := by
  simp [callFunc, go_sem, Tryz.func22, Tryz.f22]
set_option maxRecDepth 100000 in
set_option maxHeartbeats 8000000 in
theorem implModelOf_any (v : Value) (ws : List Int) (ps : List St) (es : List Int) (qs : List Se) (w : World) (h : RdDev w v ws ps es qs) (hw : ws.length ≤ 1048576) (hp : ps.length ≤ 1048576) (he : es.length ≤ 1048576) (hq : qs.length ≤ 1048576) (hT : TS w) (hE : ED w) (hF : FD w) (hN : NW w) :
    Calls Tryz.prog 7 #[v] w fun e w' => ∃ v', e = .returned (.tuple #[v', .int .i64 (moC ws ps es qs)]) ∧ RowMd w' w.heap.size w'.heap.size v' (moT ws ps es qs) (moD ws ps es qs) ∧ Below w.heap.size w w' := by
  have LS := hideIt (fun w1 (hb : Below w.heap.size w w1) => seenImage_any v ws ps es qs w1 (h.below hb) hw hp he hq (hT.below hb) (hE.below hb) (hF.below hb))
  have LI := hideIt (fun v1 w1 (hb : Below w.heap.size w w1) (h1 : RdIm w1 v1 (dvN ws ps es qs) (dvD ws ps es qs)) => implImageOK_any v1 (dvN ws ps es qs) (dvD ws ps es qs) w1 h1 (dv_len ws ps es qs).1 (dv_len ws ps es qs).2 (hT.below hb) (hE.below hb) (hF.below hb) dv_R dv_name)
  have LF : Hid (dvB ws ps es qs = true → ∀ (b : Nat) v2 w1, Below w.heap.size w w1 → RdIm w1 v2 (dvN ws ps es qs) (dvD ws ps es qs) → (∃ a0 n0 c0 a1 n1 c1 a2 n2 c2 a3 n3 c3, v = .agg #[.slice a0 n0 c0, .slice a1 n1 c1, .slice a2 n2 c2, .slice a3 n3 c3] ∧ w1.heap[b]? = some (.cells #[.slice a0 n0 c0, .slice a1 n1 c1, .slice a2 n2 c2, .slice a3 n3 c3] 45 (0, 0))) → Calls Tryz.prog 21 #[v2, .func (.func 22) #[] #[.pointer (some ⟨b, 0, none⟩)]] w1 fun e w' => ∃ v', e = .returned v' ∧ RowMd w' w1.heap.size w'.heap.size v' (ofL ws ps es qs (dvN ws ps es qs)) (dvD ws ps es qs) ∧ Below w1.heap.size w1 w') := fun d b v2 w1 hb h2 hbx => by
    refine filled_any _ _ callModelOf1 v2 (dvN ws ps es qs) (dvD ws ps es qs) (ofL ws ps es qs (dvN ws ps es qs)) w1 h2 (by rw [(dvL d).1]; decide) (by rw [(dvL d).2.1]; decide) ofL_len (fun k hk hk2 => by rw [ofL_get hk hk2]; exact ⟨rfl, rfl⟩) ?_
    intro w2 hb2 k hk hk2 x hx
    have B := below_trans hb hb2 hb.size
    rw [ofL_get hk hk2, ← hx]
    obtain ⟨a0, n0, c0, a1, n1, c1, a2, n2, c2, a3, n3, c3, e, hcell⟩ := hbx
    exact modelOf1_any b k v ws ps es qs x w2 (h.below B) ⟨a0, n0, c0, a1, n1, c1, a2, n2, c2, a3, n3, c3, e, (hb2.block b (Array.getElem?_eq_some_iff.1 hcell).1).trans hcell⟩ (dv_yes d).1 (dv_yes d).2.1 (by rw [hx]; exact (dvL d).2.2 k hk2) (hT.below B) (hN.below B)
  have ET : Hid (dvB ws ps es qs = true → moT ws ps es qs = ofL ws ps es qs (dvN ws ps es qs) ∧ moD ws ps es qs = dvD ws ps es qs ∧ moC ws ps es qs = 0) := fun d => ⟨if_pos d, if_pos d, if_pos d⟩
  have EF : Hid (dvB ws ps es qs = false → moT ws ps es qs = [] ∧ moD ws ps es qs = [] ∧ moC ws ps es qs = 1) := fun d => by
    have d' : ¬ dvB ws ps es qs = true := by rw [d]; decide
    exact ⟨if_neg d', if_neg d', if_neg d'⟩
  rw [dv_img] at LI
  obtain ⟨dW, eW, dP, eP, dS, eS, dQ, eQ, rfl, -, -⟩ := h.form
  clear h hT hE hF hN
  obtain ⟨W, hW⟩ : ∃ W, W = (w.alloc (.cells #[.slice dW ws.length eW, .slice dP ps.length eP, .slice dS es.length eS, .slice dQ qs.length eQ] 45)).alloc (.cells #[.slice none 0 0, .slice none 0 0] 35) := ⟨_, rfl⟩
  have hzW : W.heap.size = w.heap.size + 1 + 1 := by rw [hW]; simp
  have CB : Hid (∀ w', Below W.heap.size W w' → w'.heap[w.heap.size]? = some (.cells #[.slice dW ws.length eW, .slice dP ps.length eP, .slice dS es.length eS, .slice dQ qs.length eQ] 45 (0, 0))) := fun w' hb => (hb.block _ (by omega)).trans (by rw [hW]; exact at_old (at_new rfl))
  have CD : Hid (∀ w', Below W.heap.size W w' → w'.cell? ⟨w.heap.size, 0, none⟩ = some (.slice dW ws.length eW) ∧ w'.cell? ⟨w.heap.size, 1, none⟩ = some (.slice dP ps.length eP) ∧ w'.cell? ⟨w.heap.size, 2, none⟩ = some (.slice dS es.length eS) ∧ w'.cell? ⟨w.heap.size, 3, none⟩ = some (.slice dQ qs.length eQ)) := fun w' hb => by
    obtain ⟨x0, x1, x2, x3, -, -, -, -⟩ := four_cells (CB.out w' hb)
    exact ⟨x0, x1, x2, x3⟩
  have CR : Hid (∀ w', Below W.heap.size W w' → w'.heap[w.heap.size + 1]? = some (.cells #[.slice none 0 0, .slice none 0 0] 35 (0, 0))) := fun w' hb => (hb.block _ (by omega)).trans (by
    rw [hW]
    have := at_new (w := w.alloc (.cells #[.slice dW ws.length eW, .slice dP ps.length eP, .slice dS es.length eS, .slice dQ qs.length eQ] 45)) (o := .cells #[.slice none 0 0, .slice none 0 0] 35) rfl
    rw [World.size_alloc] at this
    exact this)
  have BW : Hid (Below w.heap.size w W) := by rw [hW]; exact ((Below.refl _ _).alloc (Nat.le_refl _) _).alloc (by simp) _
  have hz2 : w.heap.size + 1 < W.heap.size := by omega
  clear hzW
  obtain ⟨x0, x1, x2, x3⟩ := CD.out _ (Below.refl _ _)
  generalize moT ws ps es qs = mt at *
  generalize moD ws ps es qs = md at *
  generalize moC ws ps es qs = mc at *
  generalize dvB ws ps es qs = db at *
  generalize dvN ws ps es qs = dn at *
  generalize dvD ws ps es qs = dd at *
  go_enter Tryz.func7, Tryz.ntmps7
  go_wp2_with fail
  rw [← hW]
  clear hW
  refine (LS.out _ BW.out).mono ?_
  rintro e w1 ⟨v1, rfl, hR, hb1⟩
  have HR := hideIt hR
  obtain ⟨vI, vD, rfl, hI, hD⟩ := hR
  obtain ⟨a1, k1, hv1, -, hcN⟩ := RdN.shape hI.rd
  obtain ⟨-, a2, k2, hv2, -⟩ := hD.rd
  subst hv1
  subst hv2
  have A1 := hideIt hb1
  have B1 := hideIt (below_trans BW.out hb1 BW.out.size)
  have BC : Hid (Below w1.heap.size w1 (w1.alloc (.cells #[.slice a1 dn.length k1, .slice a2 dd.length k2] 56))) := (Below.refl _ _).alloc (Nat.le_refl _) _
  have VM : Hid ((w1.alloc (.cells #[.slice a1 dn.length k1, .slice a2 dd.length k2] 56)).heap[w1.heap.size]? = some (.cells #[.slice a1 dn.length k1, .slice a2 dd.length k2] 56 (0, 0))) := at_new rfl
  obtain ⟨w2, hw2⟩ : ∃ w2, w2 = w1.alloc (.cells #[.slice a1 dn.length k1, .slice a2 dd.length k2] 56) := ⟨_, rfl⟩
  rw [← hw2] at BC VM
  have A2 := hideIt (bel2 A1.out BC.out)
  have B2 := hideIt (below_trans B1.out BC.out B1.out.size)
  have R2 := hideIt (HR.out.below BC.out (Nat.le_refl _)).rd
  have hz3 : w1.heap.size < w2.heap.size := (Array.getElem?_eq_some_iff.1 VM.out).1
  have hz4 : W.heap.size ≤ w2.heap.size := A2.out.size
  have LI2 := hideIt (LI.out _ w2 B2.out R2.out)
  clear hb1 hI hD hcN HR x0 x1 x2 x3 B1 LI LS
  obtain ⟨y0, y1, _, _⟩ := two_cells VM.out
  rw [hw2] at y0 y1
  go_wp2_with fail
  rw [← hw2]
  clear hw2 y0 y1
  refine LI2.out.mono ?_
  rintro e w3 ⟨rfl, hb3⟩
  have A3 := hideIt (bel2 A2.out hb3)
  have B3 := hideIt (below_trans B2.out hb3 B2.out.size)
  have VM3 := hideIt ((hb3.block _ hz3).trans VM.out)
  have R3 := hideIt (R2.out.below hb3)
  have hz5 := hb3.size
  clear hb3 LI2 VM R2 A2 B2
  obtain ⟨y0, y1, _, _⟩ := two_cells VM3.out
  have C3 := hideIt (CR.out w3 A3.out)
  obtain ⟨p0, p1, p2, p3⟩ := two_cells C3.out
  cases db with
  | false =>
    obtain ⟨rfl, rfl, rfl⟩ := EF.out rfl
    have BR : Hid (Below w.heap.size w ((w3.setCell ⟨w.heap.size + 1, 0, none⟩ (.slice none 0 0)).setCell ⟨w.heap.size + 1, 1, none⟩ (.slice none 0 0))) := (B3.out.setCell (by simp only; omega) _).setCell (by simp only; omega) _
    have S2 : ((w3.setCell ⟨w.heap.size + 1, 0, none⟩ (.slice none 0 0)).setCell ⟨w.heap.size + 1, 1, none⟩ (.slice none 0 0)).heap[w.heap.size + 1]? = some (.cells #[.slice none 0 0, .slice none 0 0] 35 (0, 0)) := eight_set (xs := [.slice none 0 0, .slice none 0 0]) (two_set0 C3.out (.slice none 0 0)) 1 _
    obtain ⟨s0, s1, -, -⟩ := two_cells S2
    clear LF ET EF
    go_wp2
    refine bodyPost_ret (v := .tuple #[.agg #[.slice none 0 0, .slice none 0 0], .int .i64 1]) (by simp [results, Tryz.results7, go_sem, s0, s1]) rfl ?_
    exact ⟨_, rfl, ⟨_, _, w.heap.size, w.heap.size, w.heap.size, w.heap.size, rfl, RowTh.nil _ _ _, Row.nil _ _ _ _ _, Nat.le_refl _, BR.out.size, Nat.le_refl _, BR.out.size, .inl (Nat.le_refl _)⟩, BR.out⟩
  | true =>
    obtain ⟨rfl, rfl, rfl⟩ := ET.out rfl
    have LF2 := hideIt (LF.out rfl w.heap.size _ w3 B3.out R3.out ⟨_, _, _, _, _, _, _, _, _, _, _, _, rfl, CB.out w3 A3.out⟩)
    clear ET EF LF
    go_wp2_with fail
    refine LF2.out.mono ?_
    rintro e w4 ⟨v4, rfl, hR4, hb4⟩
    have A4 := hideIt (bel2 A3.out hb4)
    have B4 := hideIt (below_trans B3.out hb4 B3.out.size)
    have hz6 := hb4.size
    have O4 := hideIt (show RowMd w4 w3.heap.size w4.heap.size v4 _ _ from hR4)
    obtain ⟨aT, cT, aE, cE, rfl⟩ := hR4.rd.form
    clear hR4 hb4 y0 y1 p0 p1 p2 p3 C3 LF2
    have C4 := hideIt (CR.out w4 A4.out)
    obtain ⟨p0, p1, p2, p3⟩ := two_cells C4.out
    generalize (ofL ws ps es qs dn).length = nT at *
    have OF : Hid (Outside (w.heap.size + 1) (w.heap.size + 1 + 1) w4 ((w4.setCell ⟨w.heap.size + 1, 0, none⟩ (.slice aT nT cT)).setCell ⟨w.heap.size + 1, 1, none⟩ (.slice aE md.length cE))) := by
      repeat (refine Outside.setCell ?_ (by simp only; omega) (by simp only; omega) _)
      exact Outside.refl _ _ _
    have BR : Hid (Below w.heap.size w ((w4.setCell ⟨w.heap.size + 1, 0, none⟩ (.slice aT nT cT)).setCell ⟨w.heap.size + 1, 1, none⟩ (.slice aE md.length cE))) := (B4.out.setCell (by simp only; omega) _).setCell (by simp only; omega) _
    have S2 : ((w4.setCell ⟨w.heap.size + 1, 0, none⟩ (.slice aT nT cT)).setCell ⟨w.heap.size + 1, 1, none⟩ (.slice aE md.length cE)).heap[w.heap.size + 1]? = some (.cells #[.slice aT nT cT, .slice aE md.length cE] 35 (0, 0)) := eight_set (xs := [.slice aT nT cT, .slice none 0 0]) (two_set0 C4.out (.slice aT nT cT)) 1 _
    obtain ⟨s0, s1, -, -⟩ := two_cells S2
    have zq := OF.out.size
    go_wp2
    refine bodyPost_ret (v := .tuple #[.agg #[.slice aT nT cT, .slice aE md.length cE], .int .i64 0]) (by simp [results, Tryz.results7, go_sem, s0, s1]) rfl ?_
    exact ⟨_, rfl, (O4.out.outside OF.out (.inr (by omega)) (Nat.le_refl _)).wide (by omega) zq, BR.out⟩
end Go.Proofs.YtihmihkhkmadmaaGreatDoor

namespace Go.Proofs.YtihmihkhkmadmaaGreatDoor
open Go.RowKit
def markD (k : Int) (i : Nat) : Den := ⟨k + 3 * (i : Int), mtx (k + 3 * (i : Int) + 1).toNat, k + 3 * (i : Int) + 2⟩
def marksD (k : Int) (n : Nat) : List Den := (List.range n).map (markD k)
theorem marksD_len (k : Int) (n : Nat) : (marksD k n).length = n := by simp [marksD]
theorem marksD_succ (k : Int) (n : Nat) : marksD k (n + 1) = marksD k n ++ [markD k n] := by unfold marksD; rw [List.range_succ, List.map_append]; rfl
def mkdTo (k0 : Int) (k : Nat) (ds : List Den) : List Den := marksD k0 k ++ ds.drop k
theorem mkdTo_zero (k0 : Int) (ds : List Den) : mkdTo k0 0 ds = ds := by simp [mkdTo, marksD]
theorem mkdTo_all (k0 : Int) (ds : List Den) : mkdTo k0 ds.length ds = marksD k0 ds.length := by simp [mkdTo]
theorem dens_app' (l l' : List Den) : dens (l ++ l') = dens l ++ dens l' := by simp [dens]
theorem mkdTo_succ {k0 : Int} {ds : List Den} {k : Nat} (h : k < ds.length) : (((dens (mkdTo k0 k ds)).set (k * 3) (.int .i64 (k0 + 3 * (k : Int)))).set (k * 3 + 1) (.string (mtx (k0 + 3 * (k : Int) + 1).toNat))).set (k * 3 + 2) (.int .i64 (k0 + 3 * (k : Int) + 2)) = dens (mkdTo k0 (k + 1) ds) := by
  have l1 : (dens (marksD k0 k)).length = k * 3 := by rw [dens_len, marksD_len]
  unfold mkdTo
  rw [List.drop_eq_getElem_cons h, marksD_succ, dens_app', dens_app', dens_app', List.set_append_right _ _ (by omega), List.set_append_right _ _ (by omega), List.set_append_right _ _ (by omega), l1, List.append_assoc]
  congr 1
  rw [show k * 3 - k * 3 = 0 by omega, show k * 3 + 1 - k * 3 = 1 by omega, show k * 3 + 2 - k * 3 = 2 by omega]
  rfl
theorem mkdTo_at {k0 : Int} {ds : List Den} {k : Nat} (h : k < ds.length) : (dens (mkdTo k0 k ds))[k * 3]? = some (.int .i64 ds[k].dir) ∧ (dens (mkdTo k0 k ds))[k * 3 + 1]? = some (.string ds[k].name) ∧ (dens (mkdTo k0 k ds))[k * 3 + 2]? = some (.int .i64 ds[k].child) := by
  have l1 : (dens (marksD k0 k)).length = k * 3 := by rw [dens_len, marksD_len]
  unfold mkdTo
  rw [List.drop_eq_getElem_cons h, dens_app', List.getElem?_append_right (by omega), List.getElem?_append_right (by omega), List.getElem?_append_right (by omega), l1]
  rw [show k * 3 - k * 3 = 0 by omega, show k * 3 + 1 - k * 3 = 1 by omega, show k * 3 + 2 - k * 3 = 2 by omega]
  exact ⟨rfl, rfl, rfl⟩
set_option maxRecDepth 100000 in
set_option maxHeartbeats 4000000 in
theorem markDirentS_any (v : Value) (ds : List Den) (k0 : Int) (lo hi : Nat) (w : World) (h : Row w 96 3 lo hi v ds.length (dens ds)) (hz : hi ≤ w.heap.size) (hn : ds.length ≤ 16777216) (h0 : 0 ≤ k0) (h1 : k0 ≤ 1099511627776) :
    Calls Tryz.prog 31 #[v, .int .i64 k0] w fun e w' => e = .returned (.int .i64 (k0 + 3 * ds.length)) ∧ Row w' 96 3 lo hi v ds.length (dens (marksD k0 ds.length)) ∧ w.grownBy w' v.ownBlock := by
  obtain ⟨_, ao, cap, rfl, hcap, hc⟩ := h.rd
  go_enter Tryz.func31, Tryz.ntmps31
  go_wp2
  go_loopw [1, 5] (fun c i wr => ∃ k : Nat, k ≤ ds.length ∧ i = .int .i64 k ∧ c = .int .i64 (k0 + 3 * k) ∧ Hid (Row wr 96 3 lo hi (.slice ao ds.length cap) ds.length (dens (mkdTo k0 k ds)) ∧ w.grownBy wr (Value.slice ao ds.length cap).ownBlock) ∧ w.heap.size ≤ wr.heap.size) (fun _ i _ => ds.length - (intOf i).toNat)
  case atStart => exact ⟨0, by omega, rfl, by simp, ⟨by rw [mkdTo_zero]; exact h, World.grownBy.refl _ _⟩, Nat.le_refl _⟩
  case round =>
    obtain ⟨k, hk, rfl, rfl, I, hzr⟩ := hrel
    clear h hc
    have k0' : (0 : Int) ≤ (k : Int) := by omega
    by_cases hlt : k < ds.length
    · obtain ⟨_, ao', cap', e', _, hc⟩ := I.out.1.rd
      cases e'
      obtain ⟨b, o, rfl, hbl, _⟩ := hc (by omega)
      obtain ⟨rfl, hb1, hb2, _, hfr, hcl⟩ := I.out.1.at
      have k1 : (k : Int) < (ds.length : Int) := by omega
      obtain ⟨q0, q1, q2⟩ := mkdTo_at (k0 := k0) hlt
      have MS := hideIt (mkdTo_succ (k0 := k0) hlt)
      have f0 := hfr (k * 3)
      have f1 := hfr (k * 3 + 1)
      have f2 := hfr (k * 3 + 2)
      have e0 := (hcl (k * 3) (by omega)).trans q0
      have e1 := (hcl (k * 3 + 1) (by omega)).trans q1
      have e2 := (hcl (k * 3 + 2) (by omega)).trans q2
      have I1 := hideIt (I.out.1.stored (k * 3) (.int .i64 (k0 + 3 * (k : Int))))
      have G1 := hideIt (grown_setCell I.out.2 (a := ⟨b, k * 3, none⟩) rfl (.int .i64 (k0 + 3 * (k : Int))))
      have LM := hideIt (fun w1 => markText_any (k0 + 3 * (k : Int) + 1).toNat w1 (by omega))
      rw [show (((k0 + 3 * (k : Int) + 1).toNat : Nat) : Int) = k0 + 3 * (k : Int) + 1 by omega] at LM
      have hzs : (wr.setCell ⟨b, k * 3, none⟩ (.int .i64 (k0 + 3 * (k : Int)))).heap.size = wr.heap.size := by simp
      generalize mtx (k0 + 3 * (k : Int) + 1).toNat = tx at *
      generalize ds[k].dir = xd at *
      generalize ds[k].name = xs at *
      generalize ds[k].child = xc at *
      clear I hc hfr hcl q0 q1 q2
      go_wp2_with fail
      refine (LM.out _).mono ?_
      rintro e w2 ⟨rfl, hb⟩
      rw [hzs] at hb
      have R2 := hideIt (I1.out.below hb (by omega))
      have G2 := hideIt (grown_trans G1.out (grown_below (row := (Value.slice (some ⟨b, 0, none⟩) ds.length cap).ownBlock) (by rw [hzs]; exact hb)))
      have hz2 : wr.heap.size ≤ w2.heap.size := by have := hb.size; omega
      obtain ⟨_, _, _, _, hfr, hcl⟩ := R2.out.at
      have l0 : (dens (mkdTo k0 k ds)).length = ds.length * 3 := by
        rw [dens_len]; unfold mkdTo; rw [List.length_append, marksD_len, List.length_drop]; congr 1; omega
      have q1 := (hcl (k * 3 + 1) (by omega))
      have q2 := (hcl (k * 3 + 2) (by omega))
      have f1 := hfr (k * 3 + 1)
      have f2 := hfr (k * 3 + 2)
      obtain ⟨y0, y1, y2⟩ := mkdTo_at (k0 := k0) hlt
      rw [List.getElem?_set_ne (by omega), y1] at q1
      rw [List.getElem?_set_ne (by omega), y2] at q2
      have R3 : Hid (Row ((w2.setCell ⟨b, k * 3 + 1, none⟩ (.string tx)).setCell ⟨b, k * 3 + 2, none⟩ (.int .i64 (k0 + 3 * (k : Int) + 1 + 1))) 96 3 lo hi (.slice (some ⟨b, 0, none⟩) ds.length cap) ds.length (dens (mkdTo k0 (k + 1) ds)) ∧ w.grownBy ((w2.setCell ⟨b, k * 3 + 1, none⟩ (.string tx)).setCell ⟨b, k * 3 + 2, none⟩ (.int .i64 (k0 + 3 * (k : Int) + 1 + 1))) (Value.slice (some ⟨b, 0, none⟩) ds.length cap).ownBlock) := by
        refine ⟨?_, grown_setCell (grown_setCell G2.out (a := ⟨b, k * 3 + 1, none⟩) rfl _) (a := ⟨b, k * 3 + 2, none⟩) rfl _⟩
        rw [← MS.out, show k0 + 3 * (k : Int) + 2 = k0 + 3 * (k : Int) + 1 + 1 by omega]
        exact (R2.out.stored _ _).stored _ _
      generalize ds[k].name = ys at q1
      generalize ds[k].child = yc at q2
      clear hb hfr hcl y0 y1 y2 I1 G1 R2 G2 hzs l0 e0 e1 e2 f0
      go_wp2
      go_roundw
      case rel => exact ⟨k + 1, by omega, by go_num, by go_num, R3, by simp; omega⟩
      case measure => simp [intOf]; omega
    · obtain rfl : k = ds.length := by omega
      have E := hideIt (mkdTo_all k0 ds)
      go_wp2
      go_ret
      exact ⟨rfl, by have := I.out.1; rw [E.out] at this; exact this, I.out.2⟩
end Go.Proofs.YtihmihkhkmadmaaGreatDoor
