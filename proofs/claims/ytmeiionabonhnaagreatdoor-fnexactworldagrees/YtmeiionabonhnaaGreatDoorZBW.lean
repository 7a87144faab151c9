/- Several texts laid together: TrSd, WaC. -/
import Derived.Test.YtmeiionabonhnaaGreatDoorZBV
import Derived.Test.YtmeiionabonhnaaGreatDoorZBS
namespace Go.Proofs.YtmeiionabonhnaaGreatDoor
open Go.RowKit
theorem mt_no {ts : List Th} {ps : List Den} (h : modB ts ps = false) : mtL ts ps = [] ∧ mtC ts ps = 1 := ⟨if_neg (by rw [h]; decide), if_neg (by rw [h]; decide)⟩
theorem mt_yes {ts : List Th} {ps : List Den} (h : modB ts ps = true) : mtL ts ps = liL ts ps ∧ mtC ts ps = 0 := ⟨if_pos h, if_pos h⟩
set_option maxRecDepth 100000 in
set_option maxHeartbeats 4000000 in
theorem implSameModel_any (va vb : Value) (ta tb : List Th) (pa pb : List Den) (w : World) (ha : RdMd w va ta pa) (hb : RdMd w vb tb pb) (hna : ta.length ≤ 1048576) (hnb : tb.length ≤ 1048576) (hpa : pa.length ≤ 1048576) (hpb : pb.length ≤ 1048576) (hsa : ∀ k (h : k < pa.length), pa[k].name.size ≤ maxLen) (hsb : ∀ k (h : k < pb.length), pb[k].name.size ≤ maxLen) (hT : TS w) (hE : ED w) (hF : FD w) (hQ : PT w) :
    Calls Tryz.prog 17 #[va, vb] w fun e w' => e = .returned (.tuple #[.bool (smB ta tb pa pb), .int .i64 (smC ta tb pa pb)]) ∧ Below w.heap.size w w' := by
  have LA := hideIt (fun w1 (h1 : Below w.heap.size w w1) => implModelText_any va ta pa w1 (ha.below h1) hna hpa hsa (hT.below h1) (hE.below h1) (hF.below h1) (hQ.below h1))
  have LB := hideIt (fun w1 (h1 : Below w.heap.size w w1) => implModelText_any vb tb pb w1 (hb.below h1) hnb hpb hsb (hT.below h1) (hE.below h1) (hF.below h1) (hQ.below h1))
  obtain ⟨aA, cA, dA, eA, rfl⟩ := ha.form
  obtain ⟨aB, cB, dB, eB, rfl⟩ := hb.form
  clear ha hb hna hnb hpa hpb hsa hsb hT hE hF hQ
  obtain ⟨V, hV⟩ : ∃ V, V = (w.alloc (.cells #[.slice aA ta.length cA, .slice dA pa.length eA] 33)).alloc (.cells #[.slice aB tb.length cB, .slice dB pb.length eB] 33) := ⟨_, rfl⟩
  have BV : Hid (Below w.heap.size w V) := by rw [hV]; exact ((Below.refl _ _).alloc (Nat.le_refl _) _).alloc (by simp) _
  have XA : Hid (V.heap[w.heap.size]? = some (.cells #[.slice aA ta.length cA, .slice dA pa.length eA] 33 (0, 0))) := by rw [hV]; exact at_old (at_new rfl)
  have XB : Hid (V.heap[w.heap.size + 1]? = some (.cells #[.slice aB tb.length cB, .slice dB pb.length eB] 33 (0, 0))) := by
    rw [hV]
    have := at_new (w := w.alloc (.cells #[.slice aA ta.length cA, .slice dA pa.length eA] 33)) (o := .cells #[.slice aB tb.length cB, .slice dB pb.length eB] 33) rfl
    rw [World.size_alloc] at this
    exact this
  have zB : w.heap.size + 1 < V.heap.size := (Array.getElem?_eq_some_iff.1 XB.out).1
  obtain ⟨x0, x1, -⟩ := two_cells XA.out
  cases ma : modB ta pa with
  | false =>
    rw [(mt_no ma).1, (mt_no ma).2] at LA
    rw [show smB ta tb pa pb = false by unfold smB; rw [ma]; rfl, show smC ta tb pa pb = 1 by unfold smC; rw [ma]; rfl]
    clear ma LB XB
    go_enter Tryz.func17, Tryz.ntmps17
    go_upto_region 1 with fail
    rw [← hV]
    clear hV
    go_wp2_with fail
    refine (LA.out V BV.out).mono ?_
    rintro e w1 ⟨v1, rfl, -, hb1⟩
    have B1 := hideIt (below_trans BV.out hb1 BV.out.size)
    clear hb1 x0 x1 LA
    go_wp2
    go_ret2
    exact ⟨rfl, B1.out⟩
  | true =>
    have la := liL_len ma
    rw [(mt_yes ma).1, (mt_yes ma).2] at LA
    cases mb : modB tb pb with
    | false =>
      rw [(mt_no mb).1, (mt_no mb).2] at LB
      rw [show smB ta tb pa pb = false by unfold smB; rw [mb, Bool.and_false]; rfl, show smC ta tb pa pb = 1 by unfold smC; rw [mb, Bool.and_false]; rfl]
      clear ma mb la
      go_enter Tryz.func17, Tryz.ntmps17
      go_upto_region 1 with fail
      rw [← hV]
      clear hV
      go_wp2_with fail
      refine (LA.out V BV.out).mono ?_
      rintro e w1 ⟨v1, rfl, -, hb1⟩
      have B1 := hideIt (below_trans BV.out hb1 BV.out.size)
      obtain ⟨y0, y1, -⟩ := two_cells ((hb1.block (w.heap.size + 1) zB).trans XB.out)
      clear hb1 x0 x1 LA
      go_upto_region 4 with fail
      go_wp2_with fail
      refine (LB.out w1 B1.out).mono ?_
      rintro e w2 ⟨v2, rfl, -, hb2⟩
      have B2 := hideIt (below_trans B1.out hb2 B1.out.size)
      clear hb2 y0 y1 LB
      go_wp2
      go_ret2
      exact ⟨rfl, B2.out⟩
    | true =>
      rw [(mt_yes mb).1, (mt_yes mb).2] at LB
      rw [show smB ta tb pa pb = decide (liL ta pa = liL tb pb) by unfold smB; rw [ma, mb]; rfl, show smC ta tb pa pb = 0 by unfold smC; rw [ma, mb]; rfl]
      clear ma mb
      have LQ := hideIt (fun v1 v2 w1 h1 h2 => equalT_any v1 v2 (liL ta pa) (liL tb pb) w1 h1 h2 (by omega))
      generalize decide (liL ta pa = liL tb pb) = ans at *
      go_enter Tryz.func17, Tryz.ntmps17
      go_upto_region 1 with fail
      rw [← hV]
      clear hV
      go_wp2_with fail
      refine (LA.out V BV.out).mono ?_
      rintro e w1 ⟨v1, rfl, hr1, hb1⟩
      have B1 := hideIt (below_trans BV.out hb1 BV.out.size)
      have RP1 : Hid (RdT w1 v1 (liL ta pa)) := hr1.rd
      obtain ⟨y0, y1, -⟩ := two_cells ((hb1.block (w.heap.size + 1) zB).trans XB.out)
      clear hb1 hr1 x0 x1 LA XA XB
      go_upto_region 4 with fail
      go_wp2_with fail
      refine (LB.out w1 B1.out).mono ?_
      rintro e w2 ⟨v2, rfl, hr2, hb2⟩
      have B2 := hideIt (below_trans B1.out hb2 B1.out.size)
      have RP2 : Hid (RdT w2 v1 (liL ta pa)) := Rd.below RP1.out hb2
      have RR2 : Hid (RdT w2 v2 (liL tb pb)) := hr2.rd
      clear hb2 hr2 y0 y1 LB B1 RP1
      go_upto_region 7 with fail
      go_wp2_with fail
      refine (LQ.out _ _ w2 RP2.out RR2.out).mono ?_
      rintro e w3 ⟨rfl, hb3⟩
      have B3 := hideIt (below_trans B2.out hb3 B2.out.size)
      clear hb3 LQ RP2 RR2
      go_wp2
      go_ret2
      exact ⟨rfl, B3.out⟩
end Go.Proofs.YtmeiionabonhnaaGreatDoor

namespace Go.Proofs.YtmeiionabonhnaaGreatDoor
open Go.RowKit
theorem mo_len {ws : List Int} {ps : List St} {es : List Int} {qs : List Se} : (moT ws ps es qs).length ≤ 16 ∧ (moD ws ps es qs).length ≤ 24 ∧ ∀ k (h : k < (moD ws ps es qs).length), (moD ws ps es qs)[k].name.size ≤ maxLen := by
  by_cases d : dvB ws ps es qs = true
  · have L := dvL d
    have e1 : moT ws ps es qs = ofL ws ps es qs (dvN ws ps es qs) := if_pos d
    have e2 : moD ws ps es qs = dvD ws ps es qs := if_pos d
    rw [e1, e2]
    refine ⟨by unfold ofL; rw [List.length_map, L.1]; omega, by rw [L.2.1]; omega, dv_name⟩
  · have e1 : moT ws ps es qs = [] := if_neg d
    have e2 : moD ws ps es qs = [] := if_neg d
    rw [e1, e2]
    exact ⟨by simp, by simp, fun k h => absurd h (by simp)⟩
set_option maxRecDepth 100000 in
set_option maxHeartbeats 8000000 in
theorem isModelOf_any (va vd : Value) (ts : List Th) (ds : List Den) (ws : List Int) (ps : List St) (es : List Int) (qs : List Se) (w : World) (ha : RdMd w va ts ds) (hd : RdDev w vd ws ps es qs) (hts : ts.length ≤ 1048576) (hds : ds.length ≤ 1048576) (hdn : ∀ k (h : k < ds.length), ds[k].name.size ≤ maxLen) (hw : ws.length ≤ 1048576) (hp : ps.length ≤ 1048576) (he : es.length ≤ 1048576) (hq : qs.length ≤ 1048576) (hT : TS w) (hE : ED w) (hF : FD w) (hN : NW w) (hQ : PT w) :
    Calls Tryz.prog 54 #[va, vd] w fun e w' => e = .returned (.bool (smB ts (moT ws ps es qs) ds (moD ws ps es qs))) ∧ Below w.heap.size w w' := by
  have LM := hideIt (fun w1 (hb : Below w.heap.size w w1) => implModelOf_any vd ws ps es qs w1 (hd.below hb) hw hp he hq (hT.below hb) (hE.below hb) (hF.below hb) (hN.below hb))
  have LS := hideIt (fun vb w1 (hb : Below w.heap.size w w1) h2 => implSameModel_any va vb ts (moT ws ps es qs) ds (moD ws ps es qs) w1 (ha.below hb) h2 hts (by have := (mo_len (ws := ws) (ps := ps) (es := es) (qs := qs)).1; omega) hds (by have := (mo_len (ws := ws) (ps := ps) (es := es) (qs := qs)).2.1; omega) hdn mo_len.2.2 (hT.below hb) (hE.below hb) (hF.below hb) (hQ.below hb))
  obtain ⟨aG, cG, aD, cD, rfl⟩ := ha.form
  obtain ⟨aW, cW, aP, cP, aS, cS, aQ, cQ, rfl, -, -⟩ := hd.form
  clear ha hd hts hds hdn hw hp he hq hT hE hF hN hQ
  generalize smB ts (moT ws ps es qs) ds (moD ws ps es qs) = ans at *
  generalize smC ts (moT ws ps es qs) ds (moD ws ps es qs) = cc at *
  generalize moC ws ps es qs = mc at *
  generalize moT ws ps es qs = mt at *
  generalize moD ws ps es qs = md at *
  obtain ⟨V, hV⟩ : ∃ V, V = (w.alloc (.cells #[.slice aG ts.length cG, .slice aD ds.length cD] 33)).alloc (.cells #[.slice aW ws.length cW, .slice aP ps.length cP, .slice aS es.length cS, .slice aQ qs.length cQ] 71) := ⟨_, rfl⟩
  have BV : Hid (Below w.heap.size w V) := by rw [hV]; exact ((Below.refl _ _).alloc (Nat.le_refl _) _).alloc (by simp) _
  have XA : Hid (V.heap[w.heap.size]? = some (.cells #[.slice aG ts.length cG, .slice aD ds.length cD] 33 (0, 0))) := by rw [hV]; exact at_old (at_new rfl)
  have XB : Hid (V.heap[w.heap.size + 1]? = some (.cells #[.slice aW ws.length cW, .slice aP ps.length cP, .slice aS es.length cS, .slice aQ qs.length cQ] 71 (0, 0))) := by
    rw [hV]
    have := at_new (w := w.alloc (.cells #[.slice aG ts.length cG, .slice aD ds.length cD] 33)) (o := .cells #[.slice aW ws.length cW, .slice aP ps.length cP, .slice aS es.length cS, .slice aQ qs.length cQ] 71) rfl
    rw [World.size_alloc] at this
    exact this
  have zA := lt_box XA.out
  go_enter Tryz.func54, Tryz.ntmps54
  go_upto_region 1 with fail
  rw [← hV]
  clear hV
  obtain ⟨x0, x1, x2, x3, -⟩ := four_cells XB.out
  go_wp2_with fail
  refine (LM.out V BV.out).mono ?_
  rintro e w1 ⟨v1, rfl, hr, hb⟩
  have B1 := hideIt (below_trans BV.out hb BV.out.size)
  have X1 := hideIt (box_below XA.out hb zA)
  have R1 := hideIt hr.rd
  have z1 := lt_box X1.out
  obtain ⟨aU, cU, aZ, cZ, rfl⟩ := hr.rd.form
  clear hb hr BV XA XB x0 x1 x2 x3 LM zA
  obtain ⟨W2, hW2⟩ : ∃ W2, W2 = w1.alloc (.cells #[.slice aU mt.length cU, .slice aZ md.length cZ] 33) := ⟨_, rfl⟩
  have b2 : Below w1.heap.size w1 W2 := by rw [hW2]; exact (Below.refl _ _).alloc (Nat.le_refl _) _
  have Y2 : Hid (W2.heap[w1.heap.size]? = some (.cells #[.slice aU mt.length cU, .slice aZ md.length cZ] 33 (0, 0))) := by rw [hW2]; exact at_new rfl
  have X2 := hideIt (box_below X1.out b2 z1)
  have B2 := hideIt (below_trans B1.out b2 B1.out.size)
  have R2 := hideIt (R1.out.below b2)
  go_upto_region 2 with fail
  rw [← hW2]
  clear hW2 b2 B1 X1 R1
  obtain ⟨x0, x1, -⟩ := two_cells X2.out
  obtain ⟨y0, y1, -⟩ := two_cells Y2.out
  go_wp2_with fail
  refine (LS.out _ W2 B2.out R2.out).mono ?_
  rintro e w3 ⟨rfl, hb⟩
  have B3 := hideIt (below_trans B2.out hb B2.out.size)
  clear hb x0 x1 y0 y1 LS
  go_wp2
  go_ret
  exact ⟨rfl, B3.out⟩
set_option maxRecDepth 100000 in
set_option maxHeartbeats 8000000 in
theorem implWorldAgrees_any (v : Value) (ws : List Int) (ps : List St) (es : List Int) (qs : List Se) (hs : List Int) (td : List Mi) (cd vl : Int) (nm : List ByteArray) (fr : Bool) (ts : List Th) (ds : List Den) (ok : Int) (op ot : ByteArray) (og ox : Int) (az : List Aw) (ag : Bool) (w : World) (h : RdWd w v ws ps es qs hs td cd vl nm fr ts ds ok op ot og ox az ag) (hws : ws.length ≤ 1048576) (hps : ps.length ≤ 1048576) (hes : es.length ≤ 1048576) (hqs : qs.length ≤ 1048576) (hhs : hs.length ≤ 1048576) (htd : td.length ≤ 1048576) (hnm : nm.length ≤ 1048576) (hts : ts.length ≤ 1048576) (hds : ds.length ≤ 1048576) (hdn : ∀ k (h : k < ds.length), ds[k].name.size ≤ maxLen) (hS : SB w) (hT : TS w) (hE : ED w) (hF : FD w) (hN : NW w) (hQ : PT w) :
    Calls Tryz.prog 21 #[v] w fun e w' => e = .returned (.tuple #[.bool (waB ws ps es qs hs td cd vl nm fr ts ds ok op ot og ox az ag), .int .i64 (waC ws ps es qs hs td cd vl nm fr ts ds ok op ot og ox az ag)]) ∧ Below w.heap.size w w' := by
  have LW := hideIt (fun w1 (hb : Below w.heap.size w w1) => implWorldOK_any v ws ps es qs hs td cd vl nm fr ts ds ok op ot og ox az ag w1 (h.below hb) hws hps hes hqs hhs htd hnm hts hds hdn (hS.below hb) (hT.below hb) (hE.below hb) (hF.below hb))
  obtain ⟨aW, cW, aP, cP, aS, cS, aQ, cQ, aH, cH, aT, cT, aN, cN, aG, cG, aD, cD, aR, cR, rfl, f1, m1, a1⟩ := h
  have LI : Hid (∀ w1, Below w.heap.size w w1 → Calls Tryz.prog 54 #[.agg #[.slice aG ts.length cG, .slice aD ds.length cD], .agg #[.slice aW ws.length cW, .slice aP ps.length cP, .slice aS es.length cS, .slice aQ qs.length cQ]] w1 fun e w' => e = .returned (.bool (smB ts (moT ws ps es qs) ds (moD ws ps es qs))) ∧ Below w1.heap.size w1 w') := fun w1 hb => by
    obtain ⟨aW', cW', aP', cP', aS', cS', aQ', cQ', aH', cH', aT', cT', aN', cN', e, rd, -⟩ := f1
    cases e
    exact isModelOf_any _ _ ts ds ws ps es qs w1 (m1.below hb) (rd.below hb) hts hds hdn hws hps hes hqs (hT.below hb) (hE.below hb) (hF.below hb) (hN.below hb) (hQ.below hb)
  clear f1 m1 a1
  have FB : Hid (wldB ws ps es qs hs td cd vl nm fr ts ds ok op ot og ox az = true → td.length = 0 → smB ts (moT ws ps es qs) ds (moD ws ps es qs) = decide (liL ts ds = liL (moT ws ps es qs) (moD ws ps es qs))) := fun q t0 => by
    unfold wldB fsB at q
    simp only [Bool.and_eq_true, Bool.or_eq_true, decide_eq_true_eq] at q
    obtain ⟨⟨-, -, -, -, r⟩, m, -⟩ := q
    rcases r with r | r
    · omega
    · unfold restB at r
      simp only [Bool.and_eq_true, decide_eq_true_eq] at r
      obtain rfl := List.length_eq_zero_iff.1 r.2.1
      obtain rfl := List.length_eq_zero_iff.1 r.2.2.1
      unfold smB
      rw [m, mo_right r.1]
      rfl
  obtain ⟨A, hA⟩ : ∃ A, A = waB ws ps es qs hs td cd vl nm fr ts ds ok op ot og ox az ag := ⟨_, rfl⟩
  obtain ⟨R, hR⟩ : ∃ R, R = waC ws ps es qs hs td cd vl nm fr ts ds ok op ot og ox az ag := ⟨_, rfl⟩
  have OF : Hid (wldB ws ps es qs hs td cd vl nm fr ts ds ok op ot og ox az = false → A = false ∧ R = 1) := fun q => ⟨by rw [hA]; unfold waB; rw [q]; rfl, by rw [hR]; unfold waC; rw [q]; rfl⟩
  have OT : Hid (wldB ws ps es qs hs td cd vl nm fr ts ds ok op ot og ox az = true → A = (ag && (decide (0 < td.length) || decide (liL ts ds = liL (moT ws ps es qs) (moD ws ps es qs)))) ∧ R = 0) := fun q => ⟨by rw [hA]; unfold waB; rw [q]; rfl, by rw [hR]; unfold waC; rw [q]; rfl⟩
  rw [← hA, ← hR]
  clear hA hR hws hps hes hqs hhs htd hnm hts hds hdn hS hT hE hF hN hQ
  obtain ⟨V, hV⟩ : ∃ V, V = w.alloc (.cells #[.slice aW ws.length cW, .slice aP ps.length cP, .slice aS es.length cS, .slice aQ qs.length cQ, .slice aH hs.length cH, .slice aT td.length cT, .int .i64 cd, .int .i64 vl, .slice aN nm.length cN, .bool fr, .slice aG ts.length cG, .slice aD ds.length cD, .int .i64 ok, .string op, .string ot, .int .i64 og, .int .i64 ox, .slice aR az.length cR, .bool ag] 79) := ⟨_, rfl⟩
  have BV : Hid (Below w.heap.size w V) := by rw [hV]; exact (Below.refl _ _).alloc (Nat.le_refl _) _
  have XV : Hid (V.heap[w.heap.size]? = some (.cells #[.slice aW ws.length cW, .slice aP ps.length cP, .slice aS es.length cS, .slice aQ qs.length cQ, .slice aH hs.length cH, .slice aT td.length cT, .int .i64 cd, .int .i64 vl, .slice aN nm.length cN, .bool fr, .slice aG ts.length cG, .slice aD ds.length cD, .int .i64 ok, .string op, .string ot, .int .i64 og, .int .i64 ox, .slice aR az.length cR, .bool ag] 79 (0, 0))) := by rw [hV]; exact at_new rfl
  have ltV : w.heap.size < V.heap.size := lt_box XV.out
  go_enter Tryz.func21, Tryz.ntmps21
  go_upto_region 1 with fail
  rw [← hV]
  clear hV
  go_wp2_with (refine wpList_loadG (by rfl) 79 (.tmp 1) rfl w.heap.size rfl 79 _ (0, 0) _ XV.out Tryz.underlying79 rfl infoWd ?_)
  refine (LW.out V BV.out).mono ?_
  rintro e w1 ⟨rfl, hb⟩
  have B1 := hideIt (below_trans BV.out hb BV.out.size)
  have X1 := hideIt (box_below XV.out hb ltV)
  have lt1 : w.heap.size < w1.heap.size := lt_box X1.out
  clear hb LW BV XV ltV
  cases qw : wldB ws ps es qs hs td cd vl nm fr ts ds ok op ot og ox az with
  | false =>
    obtain ⟨rfl, rfl⟩ := OF.out qw
    clear OF OT FB LI qw X1
    go_wp2
    go_ret2
    exact ⟨rfl, B1.out⟩
  | true =>
  obtain ⟨eA, rfl⟩ := OT.out qw
  have FC := hideIt (FB.out qw)
  clear OF OT FB qw
  have x18 : w1.cell? ⟨w.heap.size, 18, none⟩ = some (.bool ag) := wd_cell X1.out 18 rfl
  cases ag with
  | false =>
    obtain rfl : A = false := eA
    clear FC LI X1
    go_wp2
    go_ret2
    exact ⟨rfl, B1.out⟩
  | true =>
  have x5 : w1.cell? ⟨w.heap.size, 5, none⟩ = some (.slice aT td.length cT) := wd_cell X1.out 5 rfl
  by_cases t0 : td.length = 0
  case neg =>
    have t1 : (0 : Int) < (td.length : Int) := by omega
    have d1 : decide ((0 : Int) < (td.length : Int)) = true := decide_eq_true t1
    obtain rfl : A = true := by rw [eA, decide_eq_true (show 0 < td.length by omega)]; rfl
    clear FC LI X1 eA
    go_wp2
    go_ret2
    exact ⟨rfl, B1.out⟩
  have t1 : ¬ (0 : Int) < (td.length : Int) := by omega
  have d1 : decide ((0 : Int) < (td.length : Int)) = false := decide_eq_false t1
  have d2 : decide (0 < td.length) = false := decide_eq_false (by omega)
  have e : A = smB ts (moT ws ps es qs) ds (moD ws ps es qs) := by rw [FC.out t0, eA, decide_eq_false (show ¬ 0 < td.length by omega)]; simp
  rw [← e] at LI
  clear FC eA e t0
  have x0 : w1.cell? ⟨w.heap.size, 0, none⟩ = some (.slice aW ws.length cW) := wd_cell X1.out 0 rfl
  have x1 : w1.cell? ⟨w.heap.size, 1, none⟩ = some (.slice aP ps.length cP) := wd_cell X1.out 1 rfl
  have x2 : w1.cell? ⟨w.heap.size, 2, none⟩ = some (.slice aS es.length cS) := wd_cell X1.out 2 rfl
  have x3 : w1.cell? ⟨w.heap.size, 3, none⟩ = some (.slice aQ qs.length cQ) := wd_cell X1.out 3 rfl
  have x10 : w1.cell? ⟨w.heap.size, 10, none⟩ = some (.slice aG ts.length cG) := wd_cell X1.out 10 rfl
  have x11 : w1.cell? ⟨w.heap.size, 11, none⟩ = some (.slice aD ds.length cD) := wd_cell X1.out 11 rfl
  go_wp2_with fail
  refine (LI.out w1 B1.out).mono ?_
  rintro e w2 ⟨rfl, hb⟩
  have B2 := hideIt (below_trans B1.out hb B1.out.size)
  clear hb LI X1 x0 x1 x2 x3 x5 x10 x11 x18
  go_wp2
  go_ret2
  exact ⟨rfl, B2.out⟩
end Go.Proofs.YtmeiionabonhnaaGreatDoor
