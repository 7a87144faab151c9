/- Several texts laid together: MeE, TrSb, TpG, TrSc. -/
import Derived.Test.YtmeiionabonhnaaGreatDoorZBT
import Derived.Test.YtmeiionabonhnaaGreatDoorMeD
import Derived.Test.YtmeiionabonhnaaGreatDoorZBL
import Derived.Test.YtmeiionabonhnaaGreatDoorZBE
import Derived.Test.YtmeiionabonhnaaGreatDoorZAW
import Derived.Test.YtmeiionabonhnaaGreatDoorZBR
import Derived.Test.YtmeiionabonhnaaGreatDoorZBQ
namespace Go.Proofs.YtmeiionabonhnaaGreatDoor
open Go.RowKit
theorem ofL_len {ws : List Int} {ps : List St} {es : List Int} {qs : List Se} {ns : List Ino} : (ofL ws ps es qs ns).length = ns.length := by simp [ofL]
theorem ofL_get {ws : List Int} {ps : List St} {es : List Int} {qs : List Se} {ns : List Ino} {k : Nat} (h : k < (ofL ws ps es qs ns).length) (h2 : k < ns.length) : (ofL ws ps es qs ns)[k] = ofT ws ps es qs ns[k] := by simp [ofL]
theorem callModelOf1 (args : Array Value) (w : World) : (callFunc 113 args).run Tryz.prog w = .ok (.enter 113 args) w := by
  simp [callFunc, go_sem, Tryz.func113, Tryz.f113]
set_option maxRecDepth 100000 in
set_option maxHeartbeats 8000000 in
theorem implModelOf_any (v : Value) (ws : List Int) (ps : List St) (es : List Int) (qs : List Se) (w : World) (h : RdDev w v ws ps es qs) (hw : ws.length ≤ 1048576) (hp : ps.length ≤ 1048576) (he : es.length ≤ 1048576) (hq : qs.length ≤ 1048576) (hT : TS w) (hE : ED w) (hF : FD w) (hN : NW w) :
    Calls Tryz.prog 60 #[v] w fun e w' => ∃ v', e = .returned (.tuple #[v', .int .i64 (moC ws ps es qs)]) ∧ RowMd w' w.heap.size w'.heap.size v' (moT ws ps es qs) (moD ws ps es qs) ∧ Below w.heap.size w w' := by
  have LS := hideIt (fun w1 (hb : Below w.heap.size w w1) => seenImage_any v ws ps es qs w1 (h.below hb) hw hp he hq (hT.below hb) (hE.below hb) (hF.below hb))
  have LI := hideIt (fun v1 w1 (hb : Below w.heap.size w w1) (h1 : RdIm w1 v1 (dvN ws ps es qs) (dvD ws ps es qs)) => implImageOK_any v1 (dvN ws ps es qs) (dvD ws ps es qs) w1 h1 (dv_len ws ps es qs).1 (dv_len ws ps es qs).2 (hT.below hb) (hE.below hb) (hF.below hb) dv_R dv_name)
  have LF : Hid (dvB ws ps es qs = true → ∀ (b : Nat) v2 w1, Below w.heap.size w w1 → RdIm w1 v2 (dvN ws ps es qs) (dvD ws ps es qs) → (∃ a0 n0 c0 a1 n1 c1 a2 n2 c2 a3 n3 c3, v = .agg #[.slice a0 n0 c0, .slice a1 n1 c1, .slice a2 n2 c2, .slice a3 n3 c3] ∧ w1.heap[b]? = some (.cells #[.slice a0 n0 c0, .slice a1 n1 c1, .slice a2 n2 c2, .slice a3 n3 c3] 71 (0, 0))) → Calls Tryz.prog 112 #[v2, .func (.func 113) #[] #[.pointer (some ⟨b, 0, none⟩)]] w1 fun e w' => ∃ v', e = .returned v' ∧ RowMd w' w1.heap.size w'.heap.size v' (ofL ws ps es qs (dvN ws ps es qs)) (dvD ws ps es qs) ∧ Below w1.heap.size w1 w') := fun d b v2 w1 hb h2 hbx => by
    refine filled_any _ _ callModelOf1 v2 (dvN ws ps es qs) (dvD ws ps es qs) (ofL ws ps es qs (dvN ws ps es qs)) w1 h2 (by rw [(dvL d).1]; decide) (by rw [(dvL d).2.1]; decide) ofL_len (fun k hk hk2 => by rw [ofL_get hk hk2]; exact ⟨rfl, rfl⟩) ?_
    intro w2 hb2 k hk hk2 x hx
    have B := below_trans hb hb2 hb.size
    rw [ofL_get hk hk2, ← hx]
    obtain ⟨a0, n0, c0, a1, n1, c1, a2, n2, c2, a3, n3, c3, e, hcell⟩ := hbx
    exact modelOf1_any b k v ws ps es qs x w2 (h.below B) ⟨a0, n0, c0, a1, n1, c1, a2, n2, c2, a3, n3, c3, e, (hb2.block b (Array.getElem?_eq_some_iff.1 hcell).1).trans hcell⟩ (dv_yes d).1 (dv_yes d).2.1 (by rw [hx]; exact (dvL d).2.2 k hk2) (hT.below B) (hN.below B)
  have ET : Hid (dvB ws ps es qs = true → moT ws ps es qs = ofL ws ps es qs (dvN ws ps es qs) ∧ moD ws ps es qs = dvD ws ps es qs ∧ moC ws ps es qs = 0) := fun d => ⟨if_pos d, if_pos d, if_pos d⟩
  have EF : Hid (dvB ws ps es qs = false → moT ws ps es qs = [] ∧ moD ws ps es qs = [] ∧ moC ws ps es qs = 1) := fun d => by
    have d' : ¬ dvB ws ps es qs = true := by rw [d]; decide
    exact ⟨if_neg d', if_neg d', if_neg d'⟩
  rw [dv_img] at LI
  obtain ⟨dW, eW, dP, eP, dS, eS, dQ, eQ, rfl, -, -⟩ := h.form
  clear h hT hE hF hN
  obtain ⟨W, hW⟩ : ∃ W, W = (w.alloc (.cells #[.slice dW ws.length eW, .slice dP ps.length eP, .slice dS es.length eS, .slice dQ qs.length eQ] 71)).alloc (.cells #[.slice none 0 0, .slice none 0 0] 33) := ⟨_, rfl⟩
  have hzW : W.heap.size = w.heap.size + 1 + 1 := by rw [hW]; simp
  have CB : Hid (∀ w', Below W.heap.size W w' → w'.heap[w.heap.size]? = some (.cells #[.slice dW ws.length eW, .slice dP ps.length eP, .slice dS es.length eS, .slice dQ qs.length eQ] 71 (0, 0))) := fun w' hb => (hb.block _ (by omega)).trans (by rw [hW]; exact at_old (at_new rfl))
  have CD : Hid (∀ w', Below W.heap.size W w' → w'.cell? ⟨w.heap.size, 0, none⟩ = some (.slice dW ws.length eW) ∧ w'.cell? ⟨w.heap.size, 1, none⟩ = some (.slice dP ps.length eP) ∧ w'.cell? ⟨w.heap.size, 2, none⟩ = some (.slice dS es.length eS) ∧ w'.cell? ⟨w.heap.size, 3, none⟩ = some (.slice dQ qs.length eQ)) := fun w' hb => by
    obtain ⟨x0, x1, x2, x3, -, -, -, -⟩ := four_cells (CB.out w' hb)
    exact ⟨x0, x1, x2, x3⟩
  have CR : Hid (∀ w', Below W.heap.size W w' → w'.heap[w.heap.size + 1]? = some (.cells #[.slice none 0 0, .slice none 0 0] 33 (0, 0))) := fun w' hb => (hb.block _ (by omega)).trans (by
    rw [hW]
    have := at_new (w := w.alloc (.cells #[.slice dW ws.length eW, .slice dP ps.length eP, .slice dS es.length eS, .slice dQ qs.length eQ] 71)) (o := .cells #[.slice none 0 0, .slice none 0 0] 33) rfl
    rw [World.size_alloc] at this
    exact this)
  have BW : Hid (Below w.heap.size w W) := by rw [hW]; exact ((Below.refl _ _).alloc (Nat.le_refl _) _).alloc (by simp) _
  have hz2 : w.heap.size + 1 < W.heap.size := by omega
  clear hzW
  obtain ⟨x0, x1, x2, x3⟩ := CD.out _ (Below.refl _ _)
  generalize moT ws ps es qs = mt at *
  generalize moD ws ps es qs = md at *
  generalize moC ws ps es qs = mc at *
  generalize dvB ws ps es qs = db at *
  generalize dvN ws ps es qs = dn at *
  generalize dvD ws ps es qs = dd at *
  go_enter Tryz.func60, Tryz.ntmps60
  go_wp2_with fail
  rw [← hW]
  clear hW
  refine (LS.out _ BW.out).mono ?_
  rintro e w1 ⟨v1, rfl, hR, hb1⟩
  have HR := hideIt hR
  obtain ⟨vI, vD, rfl, hI, hD⟩ := hR
  obtain ⟨a1, k1, hv1, -, hcN⟩ := RdN.shape hI.rd
  obtain ⟨-, a2, k2, hv2, -⟩ := hD.rd
  subst hv1
  subst hv2
  have A1 := hideIt hb1
  have B1 := hideIt (below_trans BW.out hb1 BW.out.size)
  have BC : Hid (Below w1.heap.size w1 (w1.alloc (.cells #[.slice a1 dn.length k1, .slice a2 dd.length k2] 98))) := (Below.refl _ _).alloc (Nat.le_refl _) _
  have VM : Hid ((w1.alloc (.cells #[.slice a1 dn.length k1, .slice a2 dd.length k2] 98)).heap[w1.heap.size]? = some (.cells #[.slice a1 dn.length k1, .slice a2 dd.length k2] 98 (0, 0))) := at_new rfl
  obtain ⟨w2, hw2⟩ : ∃ w2, w2 = w1.alloc (.cells #[.slice a1 dn.length k1, .slice a2 dd.length k2] 98) := ⟨_, rfl⟩
  rw [← hw2] at BC VM
  have A2 := hideIt (bel2 A1.out BC.out)
  have B2 := hideIt (below_trans B1.out BC.out B1.out.size)
  have R2 := hideIt (HR.out.below BC.out (Nat.le_refl _)).rd
  have hz3 : w1.heap.size < w2.heap.size := (Array.getElem?_eq_some_iff.1 VM.out).1
  have hz4 : W.heap.size ≤ w2.heap.size := A2.out.size
  have LI2 := hideIt (LI.out _ w2 B2.out R2.out)
  clear hb1 hI hD hcN HR x0 x1 x2 x3 B1 LI LS
  obtain ⟨y0, y1, _, _⟩ := two_cells VM.out
  rw [hw2] at y0 y1
  go_wp2_with fail
  rw [← hw2]
  clear hw2 y0 y1
  refine LI2.out.mono ?_
  rintro e w3 ⟨rfl, hb3⟩
  have A3 := hideIt (bel2 A2.out hb3)
  have B3 := hideIt (below_trans B2.out hb3 B2.out.size)
  have VM3 := hideIt ((hb3.block _ hz3).trans VM.out)
  have R3 := hideIt (R2.out.below hb3)
  have hz5 := hb3.size
  clear hb3 LI2 VM R2 A2 B2
  obtain ⟨y0, y1, _, _⟩ := two_cells VM3.out
  have C3 := hideIt (CR.out w3 A3.out)
  obtain ⟨p0, p1, p2, p3⟩ := two_cells C3.out
  cases db with
  | false =>
    obtain ⟨rfl, rfl, rfl⟩ := EF.out rfl
    have BR : Hid (Below w.heap.size w ((w3.setCell ⟨w.heap.size + 1, 0, none⟩ (.slice none 0 0)).setCell ⟨w.heap.size + 1, 1, none⟩ (.slice none 0 0))) := (B3.out.setCell (by simp only; omega) _).setCell (by simp only; omega) _
    have S2 : ((w3.setCell ⟨w.heap.size + 1, 0, none⟩ (.slice none 0 0)).setCell ⟨w.heap.size + 1, 1, none⟩ (.slice none 0 0)).heap[w.heap.size + 1]? = some (.cells #[.slice none 0 0, .slice none 0 0] 33 (0, 0)) := eight_set (xs := [.slice none 0 0, .slice none 0 0]) (two_set0 C3.out (.slice none 0 0)) 1 _
    obtain ⟨s0, s1, -, -⟩ := two_cells S2
    clear LF ET EF
    go_wp2
    refine bodyPost_ret (v := .tuple #[.agg #[.slice none 0 0, .slice none 0 0], .int .i64 1]) (by simp [results, Tryz.results60, go_sem, s0, s1]) rfl ?_
    exact ⟨_, rfl, ⟨_, _, w.heap.size, w.heap.size, w.heap.size, w.heap.size, rfl, RowTh.nil _ _ _, Row.nil _ _ _ _ _, Nat.le_refl _, BR.out.size, Nat.le_refl _, BR.out.size, .inl (Nat.le_refl _)⟩, BR.out⟩
  | true =>
    obtain ⟨rfl, rfl, rfl⟩ := ET.out rfl
    have LF2 := hideIt (LF.out rfl w.heap.size _ w3 B3.out R3.out ⟨_, _, _, _, _, _, _, _, _, _, _, _, rfl, CB.out w3 A3.out⟩)
    clear ET EF LF
    go_wp2_with fail
    refine LF2.out.mono ?_
    rintro e w4 ⟨v4, rfl, hR4, hb4⟩
    have A4 := hideIt (bel2 A3.out hb4)
    have B4 := hideIt (below_trans B3.out hb4 B3.out.size)
    have hz6 := hb4.size
    have O4 := hideIt (show RowMd w4 w3.heap.size w4.heap.size v4 _ _ from hR4)
    obtain ⟨aT, cT, aE, cE, rfl⟩ := hR4.rd.form
    clear hR4 hb4 y0 y1 p0 p1 p2 p3 C3 LF2
    have C4 := hideIt (CR.out w4 A4.out)
    obtain ⟨p0, p1, p2, p3⟩ := two_cells C4.out
    generalize (ofL ws ps es qs dn).length = nT at *
    have OF : Hid (Outside (w.heap.size + 1) (w.heap.size + 1 + 1) w4 ((w4.setCell ⟨w.heap.size + 1, 0, none⟩ (.slice aT nT cT)).setCell ⟨w.heap.size + 1, 1, none⟩ (.slice aE md.length cE))) := by
      repeat (refine Outside.setCell ?_ (by simp only; omega) (by simp only; omega) _)
      exact Outside.refl _ _ _
    have BR : Hid (Below w.heap.size w ((w4.setCell ⟨w.heap.size + 1, 0, none⟩ (.slice aT nT cT)).setCell ⟨w.heap.size + 1, 1, none⟩ (.slice aE md.length cE))) := (B4.out.setCell (by simp only; omega) _).setCell (by simp only; omega) _
    have S2 : ((w4.setCell ⟨w.heap.size + 1, 0, none⟩ (.slice aT nT cT)).setCell ⟨w.heap.size + 1, 1, none⟩ (.slice aE md.length cE)).heap[w.heap.size + 1]? = some (.cells #[.slice aT nT cT, .slice aE md.length cE] 33 (0, 0)) := eight_set (xs := [.slice aT nT cT, .slice none 0 0]) (two_set0 C4.out (.slice aT nT cT)) 1 _
    obtain ⟨s0, s1, -, -⟩ := two_cells S2
    have zq := OF.out.size
    go_wp2
    refine bodyPost_ret (v := .tuple #[.agg #[.slice aT nT cT, .slice aE md.length cE], .int .i64 0]) (by simp [results, Tryz.results60, go_sem, s0, s1]) rfl ?_
    exact ⟨_, rfl, (O4.out.outside OF.out (.inr (by omega)) (Nat.le_refl _)).wide (by omega) zq, BR.out⟩
end Go.Proofs.YtmeiionabonhnaaGreatDoor

namespace Go.Proofs.YtmeiionabonhnaaGreatDoor
open Go.RowKit
def smB (ta tb : List Th) (pa pb : List Den) : Bool := (modB ta pa && modB tb pb) && decide (liL ta pa = liL tb pb)
def smC (ta tb : List Th) (pa pb : List Den) : Int := if (modB ta pa && modB tb pb) = true then 0 else 1
end Go.Proofs.YtmeiionabonhnaaGreatDoor

namespace Go.Proofs.YtmeiionabonhnaaGreatDoor
open Go.RowKit Go.Maps Go.MapKept Go.ChangeMaps Go.WideShapes
open Go.WideElems (Fit rd rg pl rd_val elemAt)
theorem grownN {w w' : World} (h : Below w.heap.size w w') : w.grownBy w' none := ⟨h.os, h.tape, h.output, h.size, fun i hi _ => h.block i hi⟩
set_option maxRecDepth 100000 in
set_option maxHeartbeats 16000000 in
theorem implModelText_any (v : Value) (ts : List Th) (ps : List Den) (w : World) (h : RdMd w v ts ps) (hn : ts.length ≤ 1048576) (hp : ps.length ≤ 1048576) (hs : ∀ k (h : k < ps.length), ps[k].name.size ≤ maxLen) (hT : TS w) (hE : ED w) (hF : FD w) (hQ : PT w) :
    Calls Tryz.prog 10 #[v] w fun e w' => ∃ vL, e = .returned (.tuple #[vL, .int .i64 (mtC ts ps)]) ∧ Row w' 9 1 w.heap.size w'.heap.size vL (mtL ts ps).length (strs (mtL ts ps)) ∧ Below w.heap.size w w' := by
  have LO := hideIt (fun w1 (hb : Below w.heap.size w w1) => implModelOK_any v ts ps w1 (h.below2 hb) hn hp hs (hT.below hb) (hE.below hb) (hF.below hb))
  have LS := hideIt (fun w1 (hb : Below w.heap.size w w1) => shapeOf_any v ts ps w1 (h.below2 hb) hn)
  have LP := hideIt (fun v1 w1 (hb : Below w.heap.size w w1) (h1 : RdIm w1 v1 (imgM ts) ps) => implPathsOf_of sortDen_holds v1 (imgM ts) ps w1 h1 (by rw [imgM_len]; exact hn) hp (hT.below hb) (hE.below hb) (hF.below hb) (imgM_R ts) hs)
  obtain ⟨vT, vP, rfl, ⟨us, eu, hU⟩, hD⟩ := h
  have LB := hideIt (fun w1 (hb : Below w.heap.size w w1) (hm : modB ts ps = true) => thingsByPath_any _ us ps w1 vT vP rfl (hU.below hb) (Rd.below hD hb) (by
    have hi : imgB (imgM ts) ps = true := by
      cases q : imgB (imgM ts) ps with
      | true => rfl
      | false => rw [mod_not q] at hm; cases hm
    have := (pimg_all hi).2.1; omega) (by
    have hi : imgB (imgM ts) ps = true := by
      cases q : imgB (imgM ts) ps with
      | true => rfl
      | false => rw [mod_not q] at hm; cases hm
    rw [map_fst_len eu]; exact (img_pages hi).1) (hF.below hb) (fun y hy => by
    have hi : imgB (imgM ts) ps = true := by
      cases q : imgB (imgM ts) ps with
      | true => rfl
      | false => rw [mod_not q] at hm; cases hm
    have en := ent_dir hi (taken_ents hi) hy
    exact ⟨taken_name hi hy, en.1.1, en.1.2, taken_chn hi hy⟩) (fun y hy => by
    have hi : imgB (imgM ts) ps = true := by
      cases q : imgB (imgM ts) ps with
      | true => rfl
      | false => rw [mod_not q] at hm; cases hm
    have := pthU_size (ts := takenD ps) (fun y hy => taken_name hi hy) 16 y ⟨#[]⟩ (taken_name hi hy)
    have z : (⟨#[]⟩ : ByteArray).size = 0 := rfl
    unfold maxLen
    omega))
  have TOLD := hideIt (fun (hm : modB ts ps = true) s (hs : s ∈ pthN (imgM ts) ps 16 0 ⟨#[]⟩) => told (us := us) eu hm hs)
  obtain ⟨aT, cT, rfl⟩ := (show RdTh w vT ts from ⟨us, eu, hU⟩).form
  obtain ⟨aP, cP, rfl, -, -⟩ := hD.shape
  have HU := hideIt hU
  have HQ := hideIt hQ
  clear hs hn hp hT hE hF hQ hU hD
  obtain ⟨ML, eL⟩ : ∃ ML, ML = mtL ts ps := ⟨_, rfl⟩
  obtain ⟨MC, eC⟩ : ∃ MC, MC = mtC ts ps := ⟨_, rfl⟩
  rw [← eL, ← eC]
  have EL := hideIt eL
  have EC := hideIt eC
  clear eL eC
  obtain ⟨V, hV⟩ : ∃ V, V = w.alloc (.cells #[.slice aT ts.length cT, .slice aP ps.length cP] 33) := ⟨_, rfl⟩
  have BV : Hid (Below w.heap.size w V) := by rw [hV]; exact (Below.refl _ _).alloc (Nat.le_refl _) _
  have XV : Hid (V.heap[w.heap.size]? = some (.cells #[.slice aT ts.length cT, .slice aP ps.length cP] 33 (0, 0))) := by rw [hV]; exact at_new rfl
  have zV : w.heap.size < V.heap.size := (Array.getElem?_eq_some_iff.1 XV.out).1
  go_enter Tryz.func10, Tryz.ntmps10
  go_upto_region 1 with fail
  rw [← hV]
  clear hV
  obtain ⟨x0, x1, -⟩ := two_cells XV.out
  go_wp2_with fail
  refine (LO.out V BV.out).mono ?_
  rintro e w1 ⟨rfl, hb⟩
  have B1 := hideIt (below_trans BV.out hb BV.out.size)
  have X1 := hideIt ((hb.block w.heap.size zV).trans XV.out)
  have z1 : w.heap.size < w1.heap.size := by have := hb.size; omega
  clear hb BV XV zV x0 x1 LO
  by_cases hm : modB ts ps = true
  rotate_left
  · have hm' : modB ts ps = false := by simpa using hm
    have e1 : mtL ts ps = [] := if_neg hm
    have e2 : mtC ts ps = 1 := if_neg hm
    rw [hm']
    obtain rfl : ML = [] := EL.out.trans e1
    obtain rfl : MC = 1 := EC.out.trans e2
    clear hm hm' LS LP LB TOLD e1 e2 EL EC
    go_wp2
    go_ret2
    exact ⟨_, rfl, Row.nil _ _ _ _ _, B1.out⟩
  have e1 : mtL ts ps = (pthN (imgM ts) ps 16 0 ⟨#[]⟩).map (lnT ts ps) := if_pos hm
  have e2 : mtC ts ps = 0 := if_pos hm
  have hi : imgB (imgM ts) ps = true := by
    cases q : imgB (imgM ts) ps with
    | true => rfl
    | false => rw [mod_not q] at hm; cases hm
  have p1 : poL (imgM ts) ps = pthN (imgM ts) ps 16 0 ⟨#[]⟩ := if_pos hi
  have p2 : poC (imgM ts) ps = 0 := if_pos hi
  have PL := poL_len (imgM ts) ps
  rw [p1] at PL LP
  rw [p2] at LP
  rw [hm]
  obtain rfl : ML = (pthN (imgM ts) ps 16 0 ⟨#[]⟩).map (lnT ts ps) := EL.out.trans e1
  obtain rfl : MC = 0 := EC.out.trans e2
  clear EL EC
  have LB2 := hideIt (fun w1 hb => LB.out w1 hb hm)
  have TD := hideIt (TOLD.out hm)
  clear LB TOLD p1 p2 e1 e2 hi hm
  obtain ⟨P, eP⟩ : ∃ P, P = pthN (imgM ts) ps 16 0 ⟨#[]⟩ := ⟨_, rfl⟩
  rw [← eP] at PL LP TD
  have EP := hideIt eP
  clear eP
  obtain ⟨x0, x1, -⟩ := two_cells X1.out
  go_upto_region 3 with fail
  go_wp2_with fail
  refine (LB2.out w1 B1.out).mono ?_
  rintro e w2 ⟨bm, rfl, ho, hbm, hb⟩
  have B2 := hideIt (below_trans B1.out hb B1.out.size)
  have X2 := hideIt ((hb.block w.heap.size z1).trans X1.out)
  have z2 : w1.heap.size ≤ w2.heap.size := hb.size
  have O2 := hideIt ho
  have zb : w.heap.size < bm := by omega
  clear hb ho B1 X1 x0 x1 LB2 hbm
  obtain ⟨x0, x1, -⟩ := two_cells X2.out
  go_wp2_with fail
  refine (LS.out w2 B2.out).mono ?_
  rintro e w3 ⟨v3, rfl, hr3, hb⟩
  have B3 := hideIt (below_trans B2.out hb B2.out.size)
  have O3 := hideIt (O2.out.kept (row := none) (grownN hb) (by simp))
  have z3 : w2.heap.size ≤ w3.heap.size := hb.size
  have R3 := hideIt hr3
  obtain ⟨vA, vB, rfl, ⟨-, iA, jA, rfl, -⟩, ⟨-, iB, jB, rfl, -⟩⟩ := id hr3
  clear hb hr3 B2 O2 X2 x0 x1 LS
  go_wp2_with fail
  refine (LP.out _ w3 B3.out R3.out).mono ?_
  rintro e w4 ⟨v4, rfl, hr4, hb⟩
  have B4 := hideIt (below_trans B3.out hb B3.out.size)
  have O4 := hideIt (O3.out.kept (row := none) (grownN hb) (by simp))
  have z4 : w3.heap.size ≤ w4.heap.size := hb.size
  have zm : bm < w3.heap.size := World.ownsMap.lt O3.out
  have R4 := hideIt hr4
  obtain ⟨-, aL, cL, rfl, -⟩ := id hr4.rd
  clear hb hr4 B3 O3 R3 LP
  have Z0 := hideIt (lnTo_zero ts ps P)
  have ZE := hideIt (lnTo_end ts ps P)
  go_upto_region 5 with fail
  go_wp2_with fail
  go_loopg [22] P.length (fun g i wr => ∃ k : Nat, k + g = P.length ∧ i = .int .i64 k ∧ Hid (Row wr 9 1 w3.heap.size w4.heap.size (.slice aL P.length cL) P.length (strs (lnTo ts ps P k))) ∧ Hid (wr.ownsMap Tryz.prog 9 RV bm 24 (mapD us (takenD ps) (takenD ps) (takenD ps).length)) ∧ Hid (Below w.heap.size w wr) ∧ w4.heap.size ≤ wr.heap.size)
  case atStart => exact ⟨0, by omega, rfl, by unfold Hid; rw [Z0.out]; exact R4.out, O4.out, B4.out, Nat.le_refl _⟩
  case round =>
    obtain ⟨k, hk, rfl, R, O, B, zr⟩ := hrel
    clear R4 O4 B4
    have k0 : (0 : Int) ≤ (k : Int) := by omega
    by_cases hlt : k < P.length
    · obtain ⟨T1, ⟨c, hc, T2, T3⟩, T4, ⟨T5, T5'⟩, T6, T7⟩ := TD.out _ (List.getElem_mem hlt)
      have LS2 := hideIt (lnTo_succ (ts := ts) (ps := ps) hlt)
      have LA := lnTo_at (ts := ts) (ps := ps) hlt
      have LN := lnTo_len ts ps P k
      have EQ : Hid (lnT ts ps P[k] = P[k] ++ ⟨#[32]⟩ ++ thT us[c].1.kind us[c].1.links us[c].1.pages) := by unfold Hid lnT; rw [T3]
      rw [T3] at T5 T5' T6 T7
      have RP := hideIt (HU.out.2 c hc)
      obtain ⟨ax, cx, ev⟩ := HU.out.val c hc
      have TV : thV us[c] = .agg #[.int .i64 us[c].1.kind, .int .i64 us[c].1.links, .slice ax us[c].1.pages.length cx] := by unfold thV; rw [ev]
      rw [ev] at RP
      have TS := thT_size (a := us[c].1.kind) T5 T5' T7
      have LT := hideIt (fun w1 (hb : Below w.heap.size w w1) => thingText_any us[c].1.kind us[c].1.links _ us[c].1.pages w1 (Rd.below RP.out hb) (by omega) T5 T5' T7 (HQ.out.below hb))
      have key : keyOf Tryz.prog 9 (.string P[k]) = some (keyB P[k]) := WideMaps.keyOf_string_mk strUT (by unfold maxLen; omega)
      obtain ⟨vv, pp, hrun, hvv⟩ := O.out.lookup strKT mapTU (thZero wr) (show RV thZV = some (.held thZV, []) from rfl) key
      rw [T1] at hvv
      have hvv2 : vv = thV (thAt (imgM ts) ps us P[k]) := by
        have := (Prod.mk.inj (Option.some.inj hvv)).1
        injection this
      rw [T2, TV] at hvv2
      rw [hvv2] at hrun
      clear hvv hvv2 T1 T2 T3 TV ev RP key T5 T5' T7
      generalize lnT ts ps P[k] = ln at *
      generalize us[c].1.kind = tk at *
      generalize us[c].1.links = tl at *
      generalize us[c].1.pages = tp at *
      have A1 := fun (w1 : World) => run_string_add_sum (P := Tryz.prog) w1 P[k] ⟨#[32]⟩ (by show _ + 1 ≤ _; omega)
      have s1 : (P[k] ++ ⟨#[32]⟩ : ByteArray).size = P[k].size + 1 := ByteArray.size_append
      have A2 := fun (w1 : World) => run_string_add_sum (P := Tryz.prog) w1 (P[k] ++ ⟨#[32]⟩) (thT tk tl tp) (by omega)
      rw [← EQ.out] at A2
      generalize (P[k] ++ ⟨#[32]⟩ : ByteArray) = r1 at *
      generalize thT tk tl tp = r2 at *
      clear EQ s1 TS
      obtain ⟨-, aL', cL', e', -, hcL⟩ := R.out.rd
      cases e'
      obtain ⟨bL, oL, rfl, hbl, -⟩ := hcL (by omega)
      obtain ⟨rfl, hb1, hb2, -, hfr, hcl⟩ := R.out.at
      have f0 := hfr k
      have e0 : wr.cell? ⟨bL, k, none⟩ = some (.string P[k]) := by
        rw [hcl k (by omega), strs_at _ k (by omega)]
        rw [List.getElem?_eq_getElem (by omega)] at LA
        rw [Option.some.inj LA]
      have k1 : (k : Int) < (P.length : Int) := by omega
      have hg2 : gk - 1 < gk := by omega
      have hk2 : (k + 1) + (gk - 1) = P.length := by omega
      generalize P[k] = pk at *
      have a1 := A1 wr
      clear hcL hfr hcl LA A1
      go_upto_region 8 with fail
      go_wp2_with fail
      refine (LT.out wr B.out).mono ?_
      rintro e w5 ⟨rfl, hb⟩
      have R5 := hideIt (R.out.below hb zr)
      have O5 := hideIt (O.out.kept (row := none) (grownN hb) (by simp))
      have B5 := hideIt (below_trans B.out hb B.out.size)
      have z5 : wr.heap.size ≤ w5.heap.size := hb.size
      have e5 : w5.cell? ⟨bL, k, none⟩ = some (.string pk) := (hb.cell (p := ⟨bL, k, none⟩) (by show bL < _; omega)).trans e0
      obtain ⟨-, -, -, -, hfr, -⟩ := R5.out.at
      have f5 := hfr k
      have a2 := A2 w5
      have ne : bm ≠ bL := by omega
      have R6 : Hid (Row (w5.setCell ⟨bL, k, none⟩ (.string ln)) 9 1 w3.heap.size w4.heap.size (.slice (some ⟨bL, 0, none⟩) P.length cL) P.length (strs (lnTo ts ps P (k + 1)))) := by
        unfold Hid
        rw [← LS2.out]
        exact R5.out.stored _ _
      have O6 := hideIt (World.ownsMap.setCell O5.out (a := ⟨bL, k, none⟩) ne (.string ln))
      have B6 := hideIt (B5.out.setCell (p := ⟨bL, k, none⟩) (by show w.heap.size ≤ bL; omega) (.string ln))
      clear hb hfr R5 O5 B5 R O B A2 a1 e0 f0 LT hrun LS2
      go_wp2
      go_roundg (gk - 1)
      case measure => exact hg2
      case rel => exact ⟨k + 1, hk2, by go_num, R6.out, O6.out, B6.out, by simp; omega⟩
    · obtain rfl : k = P.length := by omega
      have RE := hideIt R.out
      rw [ZE.out] at RE
      clear R O Z0 ZE
      go_wp2
      go_ret2
      have RE2 := hideIt (RE.out.wide (lo' := w.heap.size) (hi' := wr.heap.size) (by omega) zr)
      exact ⟨.slice aL P.length cL, rfl, by rw [List.length_map, ← EP.out]; exact RE2.out, B.out⟩
end Go.Proofs.YtmeiionabonhnaaGreatDoor

namespace Go.Proofs.YtmeiionabonhnaaGreatDoor
open Go.RowKit
set_option maxRecDepth 100000 in
set_option maxHeartbeats 4000000 in
theorem equalT_any (v1 v2 : Value) (P R : List ByteArray) (w : World) (h1 : RdT w v1 P) (h2 : RdT w v2 R) (PL : P.length ≤ 1048576) :
    Calls Tryz.prog 43 #[v1, v2] w fun e w' => e = .returned (.bool (decide (P = R))) ∧ Below w.heap.size w w' := by
  obtain ⟨aP, cP, rfl, -, hcP⟩ := h1.shape
  obtain ⟨aR, cR, rfl, -, hcR⟩ := h2.shape
  have HP := hideIt hcP
  have HR := hideIt hcR
  clear hcP hcR h1 h2
  obtain ⟨ans, ea⟩ : ∃ ans, ans = decide (P = R) := ⟨_, rfl⟩
  rw [← ea]
  have EA := hideIt ea
  clear ea
  have B2 : Hid (Below w.heap.size w w) := Below.refl _ _
  go_enter Tryz.func43, Tryz.ntmps43
  by_cases c : P.length = R.length
  rotate_left
  · have c1 : ¬ (P.length : Int) = (R.length : Int) := by omega
    have c2 : ((P.length : Int) == (R.length : Int)) = false := beq_eq_false_iff_ne.2 c1
    obtain rfl : ans = false := EA.out.trans (decide_eq_false (show ¬ P = R from fun e => c (by rw [e])))
    clear c HP HR EA
    go_wp2
    go_ret
    exact ⟨rfl, B2.out⟩
  have c1 : (P.length : Int) = (R.length : Int) := by omega
  have c2 : ((P.length : Int) == (R.length : Int)) = true := beq_iff_eq.2 c1
  have CL := hideIt c
  clear c
  have YES : Hid ((∀ j (h : j < P.length) (h' : j < R.length), P[j] = R[j]) → ans = true) := fun h => EA.out.trans (decide_eq_true (List.ext_getElem CL.out h))
  have NO : Hid (∀ j (h : j < P.length) (h' : j < R.length), P[j] ≠ R[j] → ans = false) := fun j h h' n => EA.out.trans (decide_eq_false (fun e => n (by subst e; rfl)))
  clear EA
  go_upto_region 3 with fail
  clear c1 c2
  go_wp2_with fail
  go_loopg [13] P.length (fun g i wr => ∃ k : Nat, k + g = P.length ∧ i = .int .i64 k ∧ Hid (Below w.heap.size w wr) ∧ Hid (∀ j (h : j < P.length) (h' : j < R.length), j < k → P[j] = R[j]))
  case atStart => exact ⟨0, by omega, rfl, Below.refl _ _, fun j h h' q => absurd q (by omega)⟩
  case round =>
    obtain ⟨k, hk, rfl, BW, H⟩ := hrel
    have k0 : (0 : Int) ≤ (k : Int) := by omega
    by_cases hlt : k < P.length
    · have hlr : k < R.length := by have := CL.out; omega
      have k1 : (k : Int) < (P.length : Int) := by omega
      have k2 : (k : Int) < (R.length : Int) := by omega
      obtain ⟨bP, oP, rfl, lP, hcP⟩ := HP.out (by omega)
      obtain ⟨bR, oR, rfl, lR, hcR⟩ := HR.out (by omega)
      have d0 := (BW.out.cell (p := ⟨bP, oP + k, none⟩) lP).trans (hcP k hlt)
      have d1 := (BW.out.cell (p := ⟨bR, oR + k, none⟩) lR).trans (hcR k hlr)
      by_cases c : P[k] = R[k]
      · have H2 : Hid (∀ j (h : j < P.length) (h' : j < R.length), j < k + 1 → P[j] = R[j]) := fun j h h' q => by
          by_cases e : j = k
          · subst e; exact c
          · exact H.out j h h' (by omega)
        rw [← c] at d1
        have hk2 : Hid ((k + 1) + (P.length - (k + 1)) = P.length) := by unfold Hid; omega
        have hg2 : P.length - (k + 1) < gk := by omega
        clear H YES NO c hcP hcR
        have CL2 : P.length ≤ R.length := by have := CL.out; omega
        clear CL
        generalize P[k] = x at *
        go_upto_region 6 with fail
        go_quiet (fail)
        go_wp2
        go_roundg (P.length - (k + 1))
        case measure => exact hg2
        case rel => exact ⟨k + 1, hk2.out, by go_num, below_drewS BW.out _, H2.out⟩
      · obtain rfl : ans = false := NO.out k hlt hlr c
        have c3 : (P[k].toList == R[k].toList) = false := by
          rw [beq_eq_false_iff_ne]
          intro e
          exact c (ByteArray.ext (Array.ext' (by rw [← Lib.toList_data, ← Lib.toList_data]; exact e)))
        clear H YES NO hcP hcR CL
        generalize P[k] = x at *
        generalize R[k] = y at *
        go_upto_region 6 with fail
        go_quiet (fail)
        go_wp2
        go_ret
        exact ⟨rfl, below_drewS BW.out _⟩
    · obtain rfl : k = P.length := by omega
      obtain rfl : ans = true := YES.out (fun j h h' => H.out j h h' h)
      clear H YES NO CL HP HR
      go_wp2
      go_ret
      exact ⟨rfl, BW.out⟩
end Go.Proofs.YtmeiionabonhnaaGreatDoor
