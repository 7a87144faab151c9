/- Several texts laid together: LawWorldAgrees, OpenB, OpenD, OpenM, OpenO, OpenF. -/
import Derived.Test.YtmeiionabonhnaaGreatDoorZBW
import Derived.Test.YtmeiionabonhnaaGreatDoorZBK
import Derived.Deep.DeepCutAuto
import Derived.Deep.RegionHeld3
import Derived.Test.YtmeiionabonhnaaGreatDoorZAG
import Derived.Test.YtmeiionabonhnaaGreatDoorZAZ
import Derived.Test.YtmeiionabonhnaaGreatDoorZAH
import Derived.Test.YtmeiionabonhnaaGreatDoorZAJ
import Derived.Deep.Strs
import Derived.Test.YtmeiionabonhnaaGreatDoorZAK
namespace Go.Proofs.YtmeiionabonhnaaGreatDoor
open Go.RowKit
theorem exec_load_row {P : Program} {o : Oper} {a : Act} {w : World} (ty : TypeId) (x : Operand) (ho : o.op = .load ty x)
    (g : Nat) (hx : a.eval x = .pointer (some ⟨g, 0, none⟩)) (t : TypeId) (cs : Array Value) (fr : Nat × Nat) (d : TypeDesc) (hg : w.heap[g]? = some (.cells cs t fr))
    (hu : P.underlying ty = some d) (hd : (match d with | .struct _ | .array _ _ => true | _ => false) = true) (hi : (P.info? ty).map (·.size) = some cs.size) : (execOp a.eval o).run P w = .ok (.value (.agg cs)) w := by
  unfold execOp
  simp only [ho, hx, Instr.loadAt, Instr.sureAddr, Sem.run_bind, Sem.run_pure, Result.andThen_ok, run_loadVar_row w g t ty cs fr d hg hu hd hi]
theorem RdWd.form {w : World} {v : Value} {ws : List Int} {ps : List St} {es : List Int} {qs : List Se} {hs : List Int} {td : List Mi} {cd vl : Int} {nm : List ByteArray} {fr : Bool} {ts : List Th} {ds : List Den} {ok : Int} {op ot : ByteArray} {og ox : Int} {az : List Aw} {ag : Bool} (h : RdWd w v ws ps es qs hs td cd vl nm fr ts ds ok op ot og ox az ag) : ∃ aW cW aP cP aS cS aQ cQ aH cH aT cT aN cN aG cG aD cD aR cR, v = .agg #[.slice aW ws.length cW, .slice aP ps.length cP, .slice aS es.length cS, .slice aQ qs.length cQ, .slice aH hs.length cH, .slice aT td.length cT, .int .i64 cd, .int .i64 vl, .slice aN nm.length cN, .bool fr, .slice aG ts.length cG, .slice aD ds.length cD, .int .i64 ok, .string op, .string ot, .int .i64 og, .int .i64 ox, .slice aR az.length cR, .bool ag] := by
  obtain ⟨aW, cW, aP, cP, aS, cS, aQ, cQ, aH, cH, aT, cT, aN, cN, aG, cG, aD, cD, aR, cR, e, -, -, -⟩ := h
  exact ⟨aW, cW, aP, cP, aS, cS, aQ, cQ, aH, cH, aT, cT, aN, cN, aG, cG, aD, cD, aR, cR, e⟩
set_option maxRecDepth 100000 in
set_option maxHeartbeats 16000000 in
theorem worldAgrees_law (v : Value) (ws : List Int) (ps : List St) (es : List Int) (qs : List Se) (hs : List Int) (td : List Mi) (cd vl : Int) (nm : List ByteArray) (fr : Bool) (ts : List Th) (ds : List Den) (ok : Int) (op ot : ByteArray) (og ox : Int) (az : List Aw) (ag : Bool) (w : World) (h : RdWd w v ws ps es qs hs td cd vl nm fr ts ds ok op ot og ox az ag) (hB : ws.length ≤ maxLen ∧ ps.length ≤ maxLen ∧ es.length ≤ maxLen ∧ qs.length ≤ maxLen ∧ hs.length ≤ maxLen ∧ td.length ≤ maxLen ∧ nm.length ≤ maxLen) (hz : ∀ k (hk : k < nm.length), nm[k].size ≤ maxLen) (hts : ts.length ≤ maxLen) (htg : ∀ k (hk : k < ts.length), ts[k].pages.length ≤ maxLen) (hds : ds.length ≤ maxLen) (hdn : ∀ k (h : k < ds.length), ds[k].name.size ≤ maxLen) (hop : op.size ≤ maxLen) (hot : ot.size ≤ maxLen) (haz : az.length ≤ maxLen) (hap : ∀ k (hk : k < az.length), az[k].names.length ≤ maxLen) (han : ∀ k (hk : k < az.length), ∀ j (hj : j < az[k].names.length), az[k].names[j].size ≤ maxLen) (hS : SB w) (hT : TS w) (hE : ED w) (hF : FD w) (hN : NW w) (hQ : PT w) :
    Calls Tryz.prog 5 #[v] w fun e w' => e = .returned (.bool true) ∧ Below w.heap.size w w' := by
  obtain ⟨aW, cW, aP, cP, aS, cS, aQ, cQ, aH, cH, aT, cT, aN, cN, aG, cG, aD, cD, aR, cR, rfl, -, -, -⟩ := id h
  obtain ⟨W, hW⟩ : ∃ W, W = w.alloc (.cells #[.slice aW ws.length cW, .slice aP ps.length cP, .slice aS es.length cS, .slice aQ qs.length cQ, .slice aH hs.length cH, .slice aT td.length cT, .int .i64 cd, .int .i64 vl, .slice aN nm.length cN, .bool fr, .slice aG ts.length cG, .slice aD ds.length cD, .int .i64 ok, .string op, .string ot, .int .i64 og, .int .i64 ox, .slice aR az.length cR, .bool ag] 61) := ⟨_, rfl⟩
  have BW : Hid (Below w.heap.size w W) := by rw [hW]; exact (Below.refl _ _).alloc (Nat.le_refl _) _
  have VA_0 : Hid (W.heap[w.heap.size]? = some (.cells #[.slice aW ws.length cW, .slice aP ps.length cP, .slice aS es.length cS, .slice aQ qs.length cQ, .slice aH hs.length cH, .slice aT td.length cT, .int .i64 cd, .int .i64 vl, .slice aN nm.length cN, .bool fr, .slice aG ts.length cG, .slice aD ds.length cD, .int .i64 ok, .string op, .string ot, .int .i64 og, .int .i64 ox, .slice aR az.length cR, .bool ag] 61 (0, 0))) := by rw [hW]; exact at_new rfl
  have ltA : w.heap.size < W.heap.size := lt_box VA_0.out
  have B_0 : Hid (Below W.heap.size W W) := Below.refl _ _
  have RDA : Hid (∀ w', Below W.heap.size W w' → RdWd w' (.agg #[.slice aW ws.length cW, .slice aP ps.length cP, .slice aS es.length cS, .slice aQ qs.length cQ, .slice aH hs.length cH, .slice aT td.length cT, .int .i64 cd, .int .i64 vl, .slice aN nm.length cN, .bool fr, .slice aG ts.length cG, .slice aD ds.length cD, .int .i64 ok, .string op, .string ot, .int .i64 og, .int .i64 ox, .slice aR az.length cR, .bool ag]) ws ps es qs hs td cd vl nm fr ts ds ok op ot og ox az ag) := fun w' hb => RdWd.below h (below_trans BW.out hb BW.out.size)
  have FB : Hid (∀ w', Below W.heap.size W w' → Below w.heap.size w w') := fun w' hb => below_trans BW.out hb BW.out.size
  have SZ : Hid (∀ w1, Below W.heap.size W w1 → Calls Tryz.prog 18 #[.agg #[.slice aW ws.length cW, .slice aP ps.length cP, .slice aS es.length cS, .slice aQ qs.length cQ, .slice aH hs.length cH, .slice aT td.length cT, .int .i64 cd, .int .i64 vl, .slice aN nm.length cN, .bool fr, .slice aG ts.length cG, .slice aD ds.length cD, .int .i64 ok, .string op, .string ot, .int .i64 og, .int .i64 ox, .slice aR az.length cR, .bool ag], .int .i64 1048576] w1 fun e w' => ∃ r : Int, e = .returned (.int .i64 r) ∧ (0 ≤ r → (ws.length ≤ 1048576 ∧ ps.length ≤ 1048576 ∧ es.length ≤ 1048576 ∧ qs.length ≤ 1048576 ∧ hs.length ≤ 1048576 ∧ td.length ≤ 1048576 ∧ nm.length ≤ 1048576) ∧ (ts.length + totT ts ≤ 1048576 ∧ ds.length ≤ 1048576) ∧ (az.length ≤ 1048576 ∧ ∀ k (hk : k < az.length), az[k].names.length ≤ 1048576)) ∧ -1 ≤ r ∧ Below w1.heap.size w1 w') := fun w1 hb => szWorld_any _ ws ps es qs hs td cd vl nm fr ts ds ok op ot og ox az ag w1 (RDA.out w1 hb) hB.1 hB.2.1 hB.2.2.1 hB.2.2.2.1 hB.2.2.2.2.1 hB.2.2.2.2.2.1 hB.2.2.2.2.2.2 hz hts htg hds hdn hop hot haz hap han
  have HDN := hideIt hdn
  clear hB hz hts htg hds hdn hop hot haz hap han
  go_enter Tryz.func5, Tryz.ntmps5
  go_upto_region 2 with fail
  rw [← hW]
  clear hW
  go_wp2_with (refine wpList_load_row rfl 61 (.tmp 1) rfl w.heap.size rfl 61 _ (0, 0) _ VA_0.out Tryz.underlying61 rfl infoLW ?_)
  refine (SZ.out W B_0.out).mono ?_
  rintro e w1 ⟨r, rfl, hr, hr1, hb⟩
  have z1 : W.heap.size ≤ w1.heap.size := hb.size
  have B_1 := hideIt (below_trans B_0.out hb B_0.out.size)
  have VA_1 := hideIt (box_below VA_0.out hb (lt_box VA_0.out))
  clear B_0 VA_0 hb
  by_cases cr : r < 0
  · clear hS hT hE hF hN hQ SZ RDA HDN 
    go_wp2
    go_ret
    exact ⟨rfl, FB.out _ B_1.out⟩
  obtain ⟨⟨hws, hps, hes, hqs, hhs, htd, hnm⟩, ⟨htt, hds⟩, haz, hap⟩ := hr (by omega)
  clear SZ hr hr1
  have hts : ts.length ≤ 1048576 := by omega
  have HTG : Hid (∀ k (hk : k < ts.length), ts[k].pages.length ≤ 1048576) := fun k hk => by have := totT_le hk; omega
  have HAP := hideIt hap
  clear hap htt
  have SC := hideIt (fun v1 w1 (h1 : RdWd w1 v1 ws ps es qs hs td cd vl nm fr ts ds ok op ot og ox az ag) => specWorldAgrees_any v1 ws ps es qs hs td cd vl nm fr ts ds ok op ot og ox az ag w1 h1 hws hps hes hqs hhs htd hnm hts hds HDN.out)
  have IC := hideIt (fun v1 w1 (hb : Below w.heap.size w w1) (h1 : RdWd w1 v1 ws ps es qs hs td cd vl nm fr ts ds ok op ot og ox az ag) => implWorldAgrees_any v1 ws ps es qs hs td cd vl nm fr ts ds ok op ot og ox az ag w1 h1 hws hps hes hqs hhs htd hnm hts hds HDN.out (hS.below hb) (hT.below hb) (hE.below hb) (hF.below hb) (hN.below hb) (hQ.below hb))
  have HTQ : Hid (∀ k (hk : k < ts.length), ts[k].pages.length ≤ 2147483648) := fun k hk => Nat.le_trans (HTG.out k hk) (by decide)
  have HAQ : Hid (∀ k (hk : k < az.length), az[k].names.length ≤ 2147483648) := fun k hk => Nat.le_trans (HAP.out k hk) (by decide)
  generalize waB ws ps es qs hs td cd vl nm fr ts ds ok op ot og ox az ag = fb at *
  generalize waC ws ps es qs hs td cd vl nm fr ts ds ok op ot og ox az ag = cc at *
  clear hS hT hE hF hN hQ HDN
  go_wp2_with (refine wpList_load_row rfl 61 (.tmp 1) rfl w.heap.size rfl 61 _ (0, 0) _ VA_1.out Tryz.underlying61 rfl infoLW ?_)
  refine (toWorld_any _ ws ps es qs hs td cd vl nm fr ts ds ok op ot og ox az ag w1 (RDA.out w1 B_1.out) hws hps hes hqs hhs htd hnm hts HTG.out hds haz HAP.out).mono ?_
  rintro e w2 ⟨v2, rfl, hr, hb⟩
  have hq := hr.form
  obtain ⟨SaW, ScW, SaP, ScP, SaS, ScS, SaQ, ScQ, SaH, ScH, SaT, ScT, SaN, ScN, SaG, ScG, SaD, ScD, SaR, ScR, eq⟩ := hq
  subst eq
  have z2 : w1.heap.size ≤ w2.heap.size := hb.size
  have B_2 := hideIt (below_trans B_1.out hb B_1.out.size)
  have VA_2 := hideIt (box_below VA_1.out hb (lt_box VA_1.out))
  clear B_1 VA_1 hb
  have RS_2 : Hid (RdWd w2 _ ws ps es qs hs td cd vl nm fr ts ds ok op ot og ox az ag) := hr
  clear hr
  go_wp2_with fail
  refine (SC.out _ w2 RS_2.out).mono ?_
  rintro e w3 ⟨rfl, hb⟩
  have z3 : w2.heap.size ≤ w3.heap.size := hb.size
  have B_3 := hideIt (below_trans B_2.out hb B_2.out.size)
  have VA_3 := hideIt (box_below VA_2.out hb (lt_box VA_2.out))
  have RS_3 := hideIt (RS_2.out.below hb)
  clear B_2 VA_2 RS_2 hb
  clear SC RS_3
  go_wp2_with (refine wpList_load_row rfl 61 (.tmp 1) rfl w.heap.size rfl 61 _ (0, 0) _ VA_3.out Tryz.underlying61 rfl infoLW ?_)
  refine (toWorld_any _ ws ps es qs hs td cd vl nm fr ts ds ok op ot og ox az ag w3 (RDA.out w3 B_3.out) hws hps hes hqs hhs htd hnm hts HTG.out hds haz HAP.out).mono ?_
  rintro e w4 ⟨v4, rfl, hr, hb⟩
  have hq := hr.form
  obtain ⟨XaW, XcW, XaP, XcP, XaS, XcS, XaQ, XcQ, XaH, XcH, XaT, XcT, XaN, XcN, XaG, XcG, XaD, XcD, XaR, XcR, eq⟩ := hq
  subst eq
  have z4 : w3.heap.size ≤ w4.heap.size := hb.size
  have B_4 := hideIt (below_trans B_3.out hb B_3.out.size)
  have VA_4 := hideIt (box_below VA_3.out hb (lt_box VA_3.out))
  clear B_3 VA_3 hb
  have RX_4 : Hid (RdWd w4 _ ws ps es qs hs td cd vl nm fr ts ds ok op ot og ox az ag) := hr
  clear hr
  obtain ⟨w5, hw5⟩ : ∃ w5, w5 = (w4.alloc (.cells #[.slice none 0 0, .slice none 0 0, .slice none 0 0, .slice none 0 0, .slice none 0 0, .slice none 0 0, .int .i64 0, .int .i64 0, .slice none 0 0, .bool false, .slice none 0 0, .slice none 0 0, .int .i64 0, .string ⟨#[]⟩, .string ⟨#[]⟩, .int .i64 0, .int .i64 0, .slice none 0 0, .bool false] 79)).setRow w4.heap.size #[.slice XaW ws.length XcW, .slice XaP ps.length XcP, .slice XaS es.length XcS, .slice XaQ qs.length XcQ, .slice XaH hs.length XcH, .slice XaT td.length XcT, .int .i64 cd, .int .i64 vl, .slice XaN nm.length XcN, .bool fr, .slice XaG ts.length XcG, .slice XaD ds.length XcD, .int .i64 ok, .string op, .string ot, .int .i64 og, .int .i64 ox, .slice XaR az.length XcR, .bool ag] := ⟨_, rfl⟩
  have hb : Below w4.heap.size w4 w5 := by rw [hw5]; exact ((Below.refl _ _).alloc (Nat.le_refl _) _).trans ((outside_setRow _ _ _).below (Nat.le_refl _) (by simp))
  obtain ⟨bX, hbX⟩ : ∃ bX : Nat, bX = w4.heap.size := ⟨_, rfl⟩
  have VX_5 : Hid (w5.heap[bX]? = some (.cells #[.slice XaW ws.length XcW, .slice XaP ps.length XcP, .slice XaS es.length XcS, .slice XaQ qs.length XcQ, .slice XaH hs.length XcH, .slice XaT td.length XcT, .int .i64 cd, .int .i64 vl, .slice XaN nm.length XcN, .bool fr, .slice XaG ts.length XcG, .slice XaD ds.length XcD, .int .i64 ok, .string op, .string ot, .int .i64 og, .int .i64 ox, .slice XaR az.length XcR, .bool ag] 79 (0, 0))) := by rw [hw5, hbX]; exact setRow_heap _ _ _ _ _ _ (at_new rfl)
  have pX : w4.heap.size ≤ bX ∧ bX ≤ w4.heap.size ∧ bX < w5.heap.size := ⟨Nat.le_of_eq hbX.symm, Nat.le_of_eq hbX, lt_box VX_5.out⟩
  have z5 : w4.heap.size ≤ w5.heap.size := hb.size
  have B_5 := hideIt (below_trans B_4.out hb B_4.out.size)
  have VA_5 := hideIt (box_below VA_4.out hb (lt_box VA_4.out))
  have RX_5 := hideIt (RX_4.out.below hb)
  clear B_4 VA_4 RX_4 hb
  go_upto_region 7 with (refine wpList_store_row rfl 79 (.tmp 6) (.tmp 21) rfl _ #[.slice XaW ws.length XcW, .slice XaP ps.length XcP, .slice XaS es.length XcS, .slice XaQ qs.length XcQ, .slice XaH hs.length XcH, .slice XaT td.length XcT, .int .i64 cd, .int .i64 vl, .slice XaN nm.length XcN, .bool fr, .slice XaG ts.length XcG, .slice XaD ds.length XcD, .int .i64 ok, .string op, .string ot, .int .i64 og, .int .i64 ox, .slice XaR az.length XcR, .bool ag] rfl rfl 79 _ (at_new rfl) infoWd rfl (by simp [Value.oneCell']) ?_)
  rw [← hw5, ← hbX]
  clear hw5 hbX
  go_wp2_with (refine wpList_load_row rfl 79 (.tmp 6) rfl bX rfl 79 _ (0, 0) _ VX_5.out Tryz.underlying79 rfl infoWd ?_)
  refine (IC.out _ w5 (FB.out w5 B_5.out) RX_5.out).mono ?_
  rintro e w6 ⟨rfl, hb⟩
  have z6 : w5.heap.size ≤ w6.heap.size := hb.size
  have B_6 := hideIt (below_trans B_5.out hb B_5.out.size)
  have VA_6 := hideIt (box_below VA_5.out hb (lt_box VA_5.out))
  have VX_6 := hideIt (box_below VX_5.out hb (lt_box VX_5.out))
  have RX_6 := hideIt (RX_5.out.below hb)
  clear B_5 VA_5 VX_5 RX_5 hb
  clear IC
  have SK : Hid (∀ w', Below w6.heap.size w6 w' → w'.heap[bX]? = some (.cells #[.slice XaW ws.length XcW, .slice XaP ps.length XcP, .slice XaS es.length XcS, .slice XaQ qs.length XcQ, .slice XaH hs.length XcH, .slice XaT td.length XcT, .int .i64 cd, .int .i64 vl, .slice XaN nm.length XcN, .bool fr, .slice XaG ts.length XcG, .slice XaD ds.length XcD, .int .i64 ok, .string op, .string ot, .int .i64 og, .int .i64 ox, .slice XaR az.length XcR, .bool ag] 79 (0, 0)) ∧ w'.heap[w.heap.size]? = some (.cells #[.slice aW ws.length cW, .slice aP ps.length cP, .slice aS es.length cS, .slice aQ qs.length cQ, .slice aH hs.length cH, .slice aT td.length cT, .int .i64 cd, .int .i64 vl, .slice aN nm.length cN, .bool fr, .slice aG ts.length cG, .slice aD ds.length cD, .int .i64 ok, .string op, .string ot, .int .i64 og, .int .i64 ox, .slice aR az.length cR, .bool ag] 61 (0, 0))) := fun w' hb => ⟨box_below VX_6.out hb (lt_box VX_6.out), box_below VA_6.out hb (lt_box VA_6.out)⟩
  go_upto_region 10 with fail
  go_cut [39] (fun s wx => s = .bool false ∧ Hid (Below w6.heap.size w6 wx))
  case first =>
    as_aux_lemma =>
      refine wp_region_T 4 (fun w' => w'.heap[bX]? = some (.cells #[.slice XaW ws.length XcW, .slice XaP ps.length XcP, .slice XaS es.length XcS, .slice XaQ qs.length XcQ, .slice XaH hs.length XcH, .slice XaT td.length XcT, .int .i64 cd, .int .i64 vl, .slice XaN nm.length XcN, .bool fr, .slice XaG ts.length XcG, .slice XaD ds.length XcD, .int .i64 ok, .string op, .string ot, .int .i64 og, .int .i64 ox, .slice XaR az.length XcR, .bool ag] 79 (0, 0)) ∧ w'.heap[w.heap.size]? = some (.cells #[.slice aW ws.length cW, .slice aP ps.length cP, .slice aS es.length cS, .slice aQ qs.length cQ, .slice aH hs.length cH, .slice aT td.length cT, .int .i64 cd, .int .i64 vl, .slice aN nm.length cN, .bool fr, .slice aG ts.length cG, .slice aD ds.length cD, .int .i64 ok, .string op, .string ot, .int .i64 og, .int .i64 ox, .slice aR az.length cR, .bool ag] 61 (0, 0))) (by kernel_rfl) (SK.out _ (Below.drew (Below.refl _ _))) (fun hS => ?_)
      refine wpAnyT_take (i := 0) (v := .agg #[.slice XaW ws.length XcW, .slice XaP ps.length XcP, .slice XaS es.length XcS, .slice XaQ qs.length XcQ, .slice XaH hs.length XcH, .slice XaT td.length XcT, .int .i64 cd, .int .i64 vl, .slice XaN nm.length XcN, .bool fr, .slice XaG ts.length XcG, .slice XaD ds.length XcD, .int .i64 ok, .string op, .string ot, .int .i64 og, .int .i64 ox, .slice XaR az.length XcR, .bool ag]) [3, 0] rfl (by kernel_rfl) (fun _ _ _ h => h) hS rfl (fun w' hSw => exec_load_row 79 (.tmp 6) rfl bX rfl 79 _ (0, 0) _ hSw.1 Tryz.underlying79 rfl infoWd) ?_
      try simp only [Act.put]
      refine wpAnyT_take (i := 1) (v := .agg #[.slice aW ws.length cW, .slice aP ps.length cP, .slice aS es.length cS, .slice aQ qs.length cQ, .slice aH hs.length cH, .slice aT td.length cT, .int .i64 cd, .int .i64 vl, .slice aN nm.length cN, .bool fr, .slice aG ts.length cG, .slice aD ds.length cD, .int .i64 ok, .string op, .string ot, .int .i64 og, .int .i64 ox, .slice aR az.length cR, .bool ag]) [3, 2, 1] rfl (by kernel_rfl) (fun _ _ _ h => h) hS rfl (fun w' hSw => exec_load_row 61 (.tmp 1) rfl w.heap.size rfl 61 _ (0, 0) _ hSw.2 Tryz.underlying61 rfl infoLW) ?_
      try simp only [Act.put]
      clear hS
      refine wpAnyT_one (i := 2) rfl (by kernel_rfl) (fun K hK => ?_)
      go_simp
      go_at_call 20
      refine (toWorld_any _ ws ps es qs hs td cd vl nm fr ts ds ok op ot og ox az ag _ (RDA.out _ (below_trans B_6.out (Below.drew (Below.refl _ _)) B_6.out.size)) hws hps hes hqs hhs htd hnm hts HTG.out hds haz HAP.out).mono ?_
      rintro e wt ⟨vt, rfl, hrt, hbt⟩
      have BF : Hid (Below w6.heap.size w6 wt) := bel2 (Below.drew (Below.refl _ _)) hbt
      obtain ⟨taW, tcW, taP, tcP, taS, tcS, taQ, tcQ, taH, tcH, taT, tcT, taN, tcN, taG, tcG, taD, tcD, taR, tcR, rfl⟩ := hrt.form
      have RT := hideIt hrt
      clear hrt hbt
      refine hK.out _ _ (fun _ => SK.out wt BF.out) ?_
      clear hK K
      try simp only [Act.put]
      refine wpAnyT_one (i := 3) rfl (by kernel_rfl) (fun K hK => ?_)
      go_simp
      go_at_call 22
      refine (eqWorld_same _ _ ws ps es qs hs td cd vl nm fr ts ds ok op ot og ox az ag wt (RX_6.out.below BF.out) RT.out (by omega) (by omega) (by omega) (by omega) (by omega) (by omega) (by omega) (by omega) HTQ.out (by omega) (by omega) HAQ.out).mono ?_
      rintro e wu ⟨rfl, hbu⟩
      have BE : Hid (Below w6.heap.size w6 wu) := bel2 BF.out hbu
      clear hbu
      refine hK.out _ _ (fun _ => SK.out wu BE.out) ?_
      clear hK K
      try simp only [Act.put]
      refine wpAnyT_one (i := 4) rfl (by kernel_rfl) (fun K hK => ?_)
      go_simp
      refine hK.out _ _ (fun h => absurd rfl h) ?_
      clear hK K
      try simp only [Act.put]
      refine wpAnyT_done (by kernel_rfl) ?_ _
      go_wp2_with fail
      go_meet
      exact ⟨rfl, BE.out⟩
  case rest =>
  obtain ⟨rfl, hbH⟩ := hcut
  rename World => w7
  clear SK
  have hb := hbH.out
  clear hbH
  have z7 : w6.heap.size ≤ w7.heap.size := hb.size
  have B_7 := hideIt (below_trans B_6.out hb B_6.out.size)
  have VA_7 := hideIt (box_below VA_6.out hb (lt_box VA_6.out))
  have VX_7 := hideIt (box_below VX_6.out hb (lt_box VX_6.out))
  have RX_7 := hideIt (RX_6.out.below hb)
  clear B_6 VA_6 VX_6 RX_6 hb
  go_wp2
  go_ret
  exact ⟨rfl, FB.out _ B_7.out⟩
end Go.Proofs.YtmeiionabonhnaaGreatDoor

namespace Go.Proofs.YtmeiionabonhnaaGreatDoor
open Go.ChangeShapes Go.WideShapes Go.ChangeAt Go.RowKit Go.Joins
theorem cellsSec : Tryz.prog.cellsOf 303 = 2 := by kernel_rfl
theorem cellsBlk : Tryz.prog.cellsOf 49 = 2 := by kernel_rfl
section
variable {H : Type} {enc : TypeId × Value → H} {W : World} {sp : Nat → Bool} {held : Bool} {fuel : Nat} {v : Value} {y : DataW H × List MemPlace}
set_option maxRecDepth 100000 in
theorem open_RdE (h : DataW.trod enc Tryz.prog W 0 sp held fuel 47 [v] = some y) : ∃ ps : List Se, RdE W v ps ∧ ps.length ≤ maxLen ∧ ∀ p ∈ ps, (Lit.int .i64 p.at_).wf = true ∧ (Lit.int .i64 p.val).wf = true := by
  rcases Deep.open_slice Tryz.underlying47 h with ⟨hcs, _⟩ | ⟨a, len, cap, m, n, D, Pl, hcs, _, hl, hm, hmm, _, hel⟩
  · simp only [List.cons.injEq, and_true] at hcs
    subst hcs
    exact ⟨[], ⟨rfl, none, 0, rfl, ⟨Nat.le_refl _, fun _ => rfl⟩, fun h => absurd h (by simp)⟩, by simp, fun p hp => by simp at hp⟩
  · simp only [List.cons.injEq, and_true] at hcs
    subst hcs
    have hlm : len ≤ m := by rw [hmm]; split <;> omega
    have one : ∀ i, i < len → ∃ s : Se, (W.cell? ((a.add (i * 2)).add 0) = some (.int .i64 s.at_) ∧ W.cell? ((a.add (i * 2)).add 1) = some (.int .i64 s.val) ) ∧ (Lit.int .i64 s.at_).wf = true ∧ (Lit.int .i64 s.val).wf = true := by
      intro i hi
      obtain ⟨cs, hcs, ht⟩ := hel i (by omega)
      rw [cellsSec] at hcs
      obtain ⟨_, hlen, hc⟩ := World.cells?_some hcs
      obtain ⟨y0, y1, n', _, _, t0, t1⟩ := ChangeShapes.trod_struct2 Tryz.underlying303 ht
      obtain ⟨z0, e0, _, w0⟩ := DataW.trod_int Tryz.underlying3 t0
      obtain ⟨z1, e1, _, w1⟩ := DataW.trod_int Tryz.underlying3 t1
      simp only [cells3] at e0 e1
      match cs, hlen with
      | [c0, c1], _ =>
        simp at e0 e1
        subst e0 e1
        exact ⟨⟨z0, z1⟩, ⟨by simpa using hc 0 (by omega), by simpa using hc 1 (by omega)⟩, w0, w1⟩
    obtain ⟨ps, hpl, hps⟩ := exists_list len one
    refine ⟨ps, ⟨ses_len ps, some a, cap, by rw [hpl], ⟨by rw [hpl]; exact hl, fun e => by cases e⟩, fun hn => ?_⟩, by rw [hpl]; omega, fun p hp => ?_⟩
    · obtain ⟨b, off, spot⟩ := a
      have hc := (hps 0 hn).1.1
      have hspot : spot = none := by simpa [Addr.add] using World.cell?_spot hc
      subst hspot
      refine ⟨b, off, rfl, World.block_lt_of_cell? W _ (by simpa [Addr.add] using hc), fun j hj => ?_⟩
      have hk : j / 2 < ps.length := by omega
      obtain ⟨⟨q0, q1⟩, _⟩ := hps (j / 2) hk
      simp only [Addr.add_lit, Nat.add_zero] at q0 q1
      have hj3 : j = j / 2 * 2 + j % 2 := by omega
      rcases (show j % 2 = 0 ∨ j % 2 = 1 from by omega) with r | r
      · rw [hj3, r, Nat.add_zero, q0, ses_at0 ps _ hk]
      · rw [hj3, r, ← Nat.add_assoc, q1, ses_at1 ps _ hk]
    · obtain ⟨i, hi, rfl⟩ := List.getElem_of_mem hp
      exact (hps i hi).2
end
end Go.Proofs.YtmeiionabonhnaaGreatDoor

namespace Go.Proofs.YtmeiionabonhnaaGreatDoor
open Go.ChangeShapes Go.WideShapes Go.ChangeAt Go.RowKit Go.Joins
theorem cellsDev : Tryz.prog.cellsOf 51 = 4 := by kernel_rfl
end Go.Proofs.YtmeiionabonhnaaGreatDoor

namespace Go.Proofs.YtmeiionabonhnaaGreatDoor
open Go.ChangeShapes Go.WideShapes Go.ChangeAt Go.RowKit Go.Joins
theorem cellsMic : Tryz.prog.cellsOf 217 = 3 := by kernel_rfl
section
variable {H : Type} {enc : TypeId × Value → H} {W : World} {sp : Nat → Bool} {held : Bool} {fuel : Nat} {v : Value} {y : DataW H × List MemPlace}
set_option maxRecDepth 100000 in
theorem open_RdM (h : DataW.trod enc Tryz.prog W 0 sp held fuel 52 [v] = some y) : ∃ ps : List Mi, RdM W v ps ∧ ps.length ≤ maxLen ∧ ∀ p ∈ ps, (Lit.int .i64 p.at_).wf = true ∧ (Lit.int .i64 p.val).wf = true := by
  rcases Deep.open_slice Tryz.underlying52 h with ⟨hcs, _⟩ | ⟨a, len, cap, m, n, D, Pl, hcs, _, hl, hm, hmm, _, hel⟩
  · simp only [List.cons.injEq, and_true] at hcs
    subst hcs
    exact ⟨[], ⟨rfl, none, 0, rfl, ⟨Nat.le_refl _, fun _ => rfl⟩, fun h => absurd h (by simp)⟩, by simp, fun p hp => by simp at hp⟩
  · simp only [List.cons.injEq, and_true] at hcs
    subst hcs
    have hlm : len ≤ m := by rw [hmm]; split <;> omega
    have one : ∀ i, i < len → ∃ s : Mi, (W.cell? ((a.add (i * 3)).add 0) = some (.int .i64 s.kind) ∧ W.cell? ((a.add (i * 3)).add 1) = some (.int .i64 s.at_) ∧ W.cell? ((a.add (i * 3)).add 2) = some (.int .i64 s.val)) ∧ (Lit.int .i64 s.at_).wf = true ∧ (Lit.int .i64 s.val).wf = true := by
      intro i hi
      obtain ⟨cs, hcs, ht⟩ := hel i (by omega)
      rw [cellsMic] at hcs
      obtain ⟨_, hlen, hc⟩ := World.cells?_some hcs
      obtain ⟨y0, y1, y2, n', _, _, t0, t1, t2⟩ := Deep.trod_struct3 Tryz.underlying217 ht
      obtain ⟨z0, e0, _, w0⟩ := DataW.trod_int Tryz.underlying3 t0
      obtain ⟨z1, e1, _, w1⟩ := DataW.trod_int Tryz.underlying3 t1
      obtain ⟨z2, e2, _, w2⟩ := DataW.trod_int Tryz.underlying3 t2
      simp only [cells3] at e0 e1 e2
      match cs, hlen with
      | [c0, c1, c2], _ =>
        simp at e0 e1 e2
        subst e0 e1 e2
        exact ⟨⟨z0, z1, z2⟩, ⟨by simpa using hc 0 (by omega), by simpa using hc 1 (by omega), by simpa using hc 2 (by omega)⟩, w1, w2⟩
    obtain ⟨ps, hpl, hps⟩ := exists_list len one
    refine ⟨ps, ⟨mis_len ps, some a, cap, by rw [hpl], ⟨by rw [hpl]; exact hl, fun e => by cases e⟩, fun hn => ?_⟩, by rw [hpl]; omega, fun p hp => ?_⟩
    · obtain ⟨b, off, spot⟩ := a
      have hc := (hps 0 hn).1.1
      have hspot : spot = none := by simpa [Addr.add] using World.cell?_spot hc
      subst hspot
      refine ⟨b, off, rfl, World.block_lt_of_cell? W _ (by simpa [Addr.add] using hc), fun j hj => ?_⟩
      have hk : j / 3 < ps.length := by omega
      obtain ⟨⟨q0, q1, q2⟩, _⟩ := hps (j / 3) hk
      simp only [Addr.add_lit, Nat.add_zero] at q0 q1 q2
      have hj3 : j = j / 3 * 3 + j % 3 := by omega
      rcases (show j % 3 = 0 ∨ j % 3 = 1 ∨ j % 3 = 2 from by omega) with r | r | r
      · rw [hj3, r, Nat.add_zero, q0, mis_at0 ps _ hk]
      · rw [hj3, r, ← Nat.add_assoc, q1, mis_at1 ps _ hk]
      · rw [hj3, r, ← Nat.add_assoc, q2, mis_at2 ps _ hk]
    · obtain ⟨i, hi, rfl⟩ := List.getElem_of_mem hp
      exact (hps i hi).2
end
end Go.Proofs.YtmeiionabonhnaaGreatDoor

namespace Go.Proofs.YtmeiionabonhnaaGreatDoor
open Go.ChangeShapes Go.WideShapes Go.ChangeAt Go.RowKit Go.Joins
theorem cellsOp : Tryz.prog.cellsOf 58 = 5 := by kernel_rfl
theorem cellsN : Tryz.prog.cellsOf 3 = 1 := by kernel_rfl
theorem cellsT : Tryz.prog.cellsOf 9 = 1 := by kernel_rfl
theorem trod_struct5 {H : Type} {enc : TypeId × Value → H} {P : Program} {w : World} {base : Nat} {spare : Nat → Bool} {held : Bool} {t : TypeId} {f0 f1 f2 f3 f4 : Field} {fuel : Nat} {cs : List Value} {x : DataW H × List MemPlace} (ht : P.underlying t = some (.struct #[f0, f1, f2, f3, f4])) (h : DataW.trod enc P w base spare held fuel t cs = some x) :
    ∃ y0 y1 y2 y3 y4 n, cs.length = P.cellsOf t ∧ DataW.trod enc P w base spare held n f0.type ((cs.drop f0.offset).take (P.cellsOf f0.type)) = some y0 ∧ DataW.trod enc P w base spare held n f1.type ((cs.drop f1.offset).take (P.cellsOf f1.type)) = some y1 ∧ DataW.trod enc P w base spare held n f2.type ((cs.drop f2.offset).take (P.cellsOf f2.type)) = some y2 ∧ DataW.trod enc P w base spare held n f3.type ((cs.drop f3.offset).take (P.cellsOf f3.type)) = some y3 ∧ DataW.trod enc P w base spare held n f4.type ((cs.drop f4.offset).take (P.cellsOf f4.type)) = some y4 := by
  obtain ⟨xs, n, _, rfl, hl, hlen, hf⟩ := DataW.trod_struct ht h
  match xs, hlen with
  | [y0, y1, y2, y3, y4], _ => exact ⟨y0, y1, y2, y3, y4, n, hl, by simpa using hf 0 f0 rfl, by simpa using hf 1 f1 rfl, by simpa using hf 2 f2 rfl, by simpa using hf 3 f3 rfl, by simpa using hf 4 f4 rfl⟩
end Go.Proofs.YtmeiionabonhnaaGreatDoor

namespace Go.Proofs.YtmeiionabonhnaaGreatDoor
open Go.ChangeShapes Go.WideShapes Go.ChangeAt Go.RowKit Go.Joins
section
variable {H : Type} {enc : TypeId × Value → H} {W : World} {sp : Nat → Bool} {held : Bool} {fuel : Nat} {v : Value} {y : DataW H × List MemPlace}
set_option maxRecDepth 100000 in
theorem open_RdT (h : DataW.trod enc Tryz.prog W 0 sp held fuel 27 [v] = some y) : ∃ ss : List ByteArray, RdT W v ss ∧ ss.length ≤ maxLen ∧ ∀ k (hk : k < ss.length), ss[k].size ≤ maxLen := by
  rcases Deep.open_slice Tryz.underlying27 h with ⟨hcs, _⟩ | ⟨a, len, cap, m, n, D, Pl, hcs, _, hl, hm, hmm, _, hel⟩
  · simp only [List.cons.injEq, and_true] at hcs
    subst hcs
    exact ⟨[], ⟨rfl, none, 0, rfl, ⟨Nat.le_refl _, fun _ => rfl⟩, fun h => absurd h (by simp)⟩, by simp, fun k hk => by simp at hk⟩
  · simp only [List.cons.injEq, and_true] at hcs
    subst hcs
    have hlm : len ≤ m := by rw [hmm]; split <;> omega
    have one : ∀ i, i < len → ∃ s : ByteArray, W.cell? (a.add (i * 1)) = some (.string s) ∧ s.size ≤ maxLen := by
      intro i hi
      obtain ⟨cs, hcs, ht⟩ := hel i (by omega)
      rw [cellsT] at hcs
      obtain ⟨_, hlen, hc⟩ := World.cells?_some hcs
      obtain ⟨s, e0, _, w0⟩ := DataW.trod_string Tryz.underlying9 ht
      subst e0
      exact ⟨s, by have := hc 0 (by omega); simpa [Addr.add] using this, by simpa using w0⟩
    obtain ⟨ss, hpl, hps⟩ := exists_list len one
    refine ⟨ss, ⟨by rw [strs_len, Nat.mul_one], some a, cap, by rw [hpl], ⟨by rw [hpl]; exact hl, fun e => by cases e⟩, fun hn => ?_⟩, by rw [hpl]; omega, fun k hk => (hps k hk).2⟩
    obtain ⟨b, off, spot⟩ := a
    have hc := (hps 0 hn).1
    have hspot : spot = none := by simpa [Addr.add] using World.cell?_spot hc
    subst hspot
    refine ⟨b, off, rfl, World.block_lt_of_cell? W _ (by simpa [Addr.add] using hc), fun j hj => ?_⟩
    have hk : j < ss.length := by omega
    have q := (hps j hk).1
    simp only [Addr.add_lit, Nat.mul_one] at q
    rw [q, strs_at ss j hk]
end
theorem cellsFs : Tryz.prog.cellsOf 56 = 10 := by kernel_rfl
theorem cellsAn : Tryz.prog.cellsOf 54 = 3 := by kernel_rfl
theorem cellsB : Tryz.prog.cellsOf 4 = 1 := by kernel_rfl
end Go.Proofs.YtmeiionabonhnaaGreatDoor
