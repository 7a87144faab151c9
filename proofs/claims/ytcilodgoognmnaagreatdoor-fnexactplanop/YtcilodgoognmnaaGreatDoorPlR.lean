/- The plans to link and to rename: by the program. -/
import Derived.Test.YtcilodgoognmnaaGreatDoorPlN
import Derived.Test.YtcilodgoognmnaaGreatDoorZBA
namespace Go.Proofs.YtcilodgoognmnaaGreatDoor
open Go.RowKit Go.Maps

theorem lkR_short {ws : List Ino} {ps : List Den} {s : ByteArray} (h : ¬ 65536 < s.size) (hi : imgB ws ps = true) : lkR ws ps s = lkI ws ps s := by
  unfold lkR
  rw [if_neg h, if_pos hi]
/-- In a right image what is looked up is no root, but of the root's path. -/
theorem child_pos {ws : List Ino} {ps : List Den} (h : imgB ws ps = true) {d : Int} {nm : ByteArray} {k : Nat} (e : entAt ps d nm = some k) : 1 ≤ childAt ps k := by
  obtain ⟨hk, q⟩ := ent_some e
  have := hit_child q
  rw [childAt_of hk]
  rcases pimg_ent h k hk with r | r
  · omega
  · exact r.1.1
theorem wk_pos {ws : List Ino} {ps : List Den} (h : imgB ws ps = true) : ∀ (ns : List ByteArray) (z : Int), (wk ws ps z ns).2 = 0 → (wk ws ps z ns).1 = z ∨ 1 ≤ (wk ws ps z ns).1
  | [], z, _ => .inl rfl
  | n :: ns, z, c => by
    by_cases q : kindAt ws z = 2
    · cases e : entAt ps z n with
      | none => rw [wk_none q e] at c; cases c
      | some k =>
        rw [wk_some q e] at c ⊢
        rcases wk_pos h ns _ c with r | r
        · right
          rw [r]
          exact child_pos h e
        · exact .inr r
    · rw [wk_nodir q] at c; cases c
theorem lk_file {ws : List Ino} {ps : List Den} {s : ByteArray} (h : imgB ws ps = true) (c : (lkI ws ps s).2 = 0) (k : ¬ kindAt ws (lkI ws ps s).1 = 2) : 1 ≤ (lkI ws ps s).1 := by
  unfold lkI at c k ⊢
  by_cases q : spB s = true
  · rw [if_pos q] at c k ⊢
    rcases wk_pos h _ 0 c with r | r
    · rw [r] at k
      exact absurd (pimg_all h).2.2.1 k
    · exact r
  · rw [if_neg q] at c; cases c

set_option maxRecDepth 100000 in
set_option maxHeartbeats 16000000 in
theorem implPlanLink_any (v : Value) (ws : List Ino) (ps : List Den) (s t : ByteArray) (w : World) (h : RdIm w v ws ps) (hw : ws.length ≤ 1048576) (hp : ps.length ≤ 1048576) (hT : TS w) (hE : ED w) (hF : FD w) (hr : ∀ k (h : k < ws.length), ws[k].R) (hs : ∀ k (h : k < ps.length), ps[k].name.size ≤ maxLen) :
    Calls Tryz.prog 203 #[v, .string s, .string t] w fun e w' => PlOut w w' e (lnR ws ps s t) := by
  have LF := hideIt (fun vL w1 (hb : Below w.heap.size w w1) hL => planFault_any v vL ws ps [s, t] w1 (h.below hb) hL (by simp) hw hp (hT.below hb) (hE.below hb) (hF.below hb) hr hs)
  have LN := hideIt (fun b D w1 (hb : Below w.heap.size w w1) hm => newName_any v ws ps t b D w1 (h.below hb) hw hp (hT.below hb) (hE.below hb) (hF.below hb) hr hs hm)
  have LD := hideIt (fun k x w1 (hb : Below w.heap.size w w1) hs => implDirentUpdates_any k x w1 (hF.below hb) hs)
  rw [pf_two] at LF
  have ER := hideIt (show nnR ws ps t = if (paR ws ps t).2.2 = 0 then nnN ps (paR ws ps t).1 (paR ws ps t).2.1 else (zeroD, (paR ws ps t).2.2) from rfl)
  have EM := hideIt (fun d nm => show nnN ps d nm = match entAt ps d nm with | none => (⟨d, nm, 0⟩, 0) | some _ => (zeroD, 8) from rfl)
  have PR := hideIt (@paR_short ws ps t)
  have PO := hideIt (fun hi c => paI_ok (ws := ws) (ps := ps) (s := t) hi c)
  have ENO := hideIt (fun d nm => @entI_no ps d nm)
  have PA := hideIt (fun hi => pimg_all (ws := ws) (ps := ps) hi)
  have LL := hideIt (fun w1 (hb : Below w.heap.size w w1) => implLookup_any v ws ps s w1 (h.below hb) hw hp (hT.below hb) (hE.below hb) (hF.below hb) hr hs)
  have LDi := hideIt (fun i w1 (hb : Below w.heap.size w w1) hl h0 => isDir_any v ws ps i w1 (h.below hb) hl h0)
  have LK := hideIt (fun w1 (hb : Below w.heap.size w w1) hi => freeEntry_any v ws ps w1 (h.below hb) hi (hF.below hb))
  have EL := hideIt (show lnR ws ps s t = if 65536 < s.size then ([], 2) else if 65536 < t.size then ([], 2) else if imgB ws ps = true then lnI ws ps s t else ([], 1) from rfl)
  have EI := hideIt (show lnI ws ps s t = if (lkI ws ps s).2 = 0 then (if kindAt ws (lkI ws ps s).1 = 2 then ([], 9) else lnP ws ps t (lkI ws ps s).1) else ([], (lkI ws ps s).2) from rfl)
  have EP := hideIt (fun i => show lnP ws ps t i = if (paI ws ps t).2.2 = 0 then lnN ws ps i (paI ws ps t).1 (paI ws ps t).2.1 else ([], (paI ws ps t).2.2) from rfl)
  have EN := hideIt (fun i d nm => show lnN ws ps i d nm = if 0 ≤ entI ps d nm then ([], 8) else if feI ps < 0 then ([], 7) else (enL (feI ps) ⟨d, nm, i⟩ ++ [⟨48 + 12 * i + 2, linkAt ws i + 1⟩], 0) from rfl)
  have KR := hideIt (@lkR_short ws ps s)
  have LO := hideIt (fun hi => lkI_ok (ws := ws) (ps := ps) (s := s) hi)
  have LFi := hideIt (fun hi c k => lk_file (ws := ws) (ps := ps) (s := s) hi c k)
  have LR := hideIt (fun hi i h0 => link_range (ws := ws) (ps := ps) hi (i := i) h0)
  have FR := hideIt (fun hi => fe_range (ws := ws) (ps := ps) hi)
  obtain ⟨vW, vP, rfl, h1, h2⟩ := h
  obtain ⟨aW, cW, rfl, _, hcW⟩ := h1.shape
  obtain ⟨aP, cP, rfl, _, hcP⟩ := h2.shape
  have HW := hideIt hcW
  have HP := hideIt hcP
  clear h1 h2 hr hs hT hE hF hcW hcP
  have CA : Hid (∀ w', Below (w.alloc (.cells #[.slice aW ws.length cW, .slice aP ps.length cP] 63)).heap.size (w.alloc (.cells #[.slice aW ws.length cW, .slice aP ps.length cP] 63)) w' → w'.cell? ⟨w.heap.size, 0, none⟩ = some (.slice aW ws.length cW) ∧ w'.cell? ⟨w.heap.size, 1, none⟩ = some (.slice aP ps.length cP)) := fun w' hb => by
    have : w'.heap[w.heap.size]? = some (.cells #[.slice aW ws.length cW, .slice aP ps.length cP] 63 (0, 0)) := (hb.block _ (by simp)).trans (at_new rfl)
    exact ⟨(two_cells this).1, (two_cells this).2.1⟩
  have BW : Hid (Below w.heap.size w (w.alloc (.cells #[.slice aW ws.length cW, .slice aP ps.length cP] 63))) := (Below.refl _ _).alloc (Nat.le_refl _) _
  obtain ⟨x0, x1⟩ := CA.out _ (Below.refl _ _)
  generalize hmr : lnR ws ps s t = res at *
  clear hmr
  obtain ⟨W, hW⟩ : ∃ W, W = w.alloc (.cells #[.slice aW ws.length cW, .slice aP ps.length cP] 63) := ⟨_, rfl⟩
  have RS : Hid (RdT (W.alloc (.cells #[.string s, .string t] 9)) (.slice (some ⟨W.heap.size, 0, none⟩) 2 2) [s, t]) := by
    refine ⟨rfl, _, _, rfl, ⟨Nat.le_refl _, fun e => by cases e⟩, fun _ => ⟨W.heap.size, 0, rfl, by simp, fun j hj => ?_⟩⟩
    have e0 := (eight_at (xs := [.string s, .string t]) (at_new (w := W) (o := .cells #[.string s, .string t] 9) rfl) j).1
    rw [Nat.zero_add]
    rw [e0]
    rfl
  have hz : w.heap.size < W.heap.size := by rw [hW]; simp
  have BS : Hid (Below W.heap.size W (W.alloc (.cells #[.string s, .string t] 9))) := (Below.refl _ _).alloc (Nat.le_refl _) _
  have hWs : W.heap.size = w.heap.size + 1 := by rw [hW]; simp
  rw [hWs] at RS
  rw [← hW] at CA BW
  have hmm := @run_makeMap Tryz.prog
  go_enter Tryz.func203, Tryz.ntmps203
  go_wp2_with fail
  rw [← hW]
  clear hW x0 x1 hWs
  refine (LF.out _ _ (below_trans BW.out BS.out (by omega)) RS.out).mono ?_
  rintro e w1 ⟨rfl, hb1⟩
  have A1 := hideIt (below_trans BS.out hb1 BS.out.size)
  have B1 := hideIt (below_trans BW.out A1.out (by omega))
  clear hb1 BS RS LF
  by_cases c1 : 65536 < s.size
  · rw [if_pos c1]
    rw [if_pos c1] at EL
    obtain rfl := EL.out
    go_wp2
    go_ret2
    exact pl_nil B1.out
  rw [if_neg c1]
  rw [if_neg c1] at EL
  by_cases c1t : 65536 < t.size
  · rw [if_pos c1t]
    rw [if_pos c1t] at EL
    obtain rfl := EL.out
    go_wp2
    go_ret2
    exact pl_nil B1.out
  rw [if_neg c1t]
  rw [if_neg c1t] at EL
  cases hi : imgB ws ps with
  | false =>
    rw [hi] at EL
    obtain rfl := EL.out
    go_wp2
    go_ret2
    exact pl_nil B1.out
  | true =>
  rw [if_pos rfl]
  rw [hi, if_pos rfl] at EL
  have PE := PR.out c1t hi
  have PO2 := hideIt (PO.out hi)
  obtain ⟨l16, l24, _⟩ := PA.out hi
  have L16 := hideIt l16
  have L24 := hideIt l24
  obtain ⟨bW, oW, rfl, hblW, hcellW⟩ := HW.out (by omega)
  obtain ⟨bP, oP, rfl, hblP, hcellP⟩ := HP.out (by omega)
  have HWc : Hid (∀ i (h : i < ws.length) w', Below w.heap.size w w' → w'.cell? ⟨bW, oW + i * 11, none⟩ = some (.int .i64 (kindAt ws (i : Int))) ∧ w'.cell? ⟨bW, oW + i * 11 + 2, none⟩ = some (.int .i64 (linkAt ws (i : Int)))) := fun i h w' hb =>
    ⟨((hb.cell (p := ⟨bW, oW + i * 11, none⟩) hblW).trans (hcellW i h).1).trans (by rw [← kindAt_of h]), ((hb.cell (p := ⟨bW, oW + i * 11 + 2, none⟩) hblW).trans (hcellW i h).2.2.1).trans (by rw [← linkAt_of h])⟩
  have HPc : Hid (∀ k (h : k < ps.length) w', Below w.heap.size w w' → w'.cell? ⟨bP, oP + k * 3 + 2, none⟩ = some (.int .i64 (childAt ps k))) := fun k h w' hb =>
    ((hb.cell (p := ⟨bP, oP + k * 3 + 2, none⟩) hblP).trans (hcellP k h).2.2).trans (by rw [← childAt_of h])
  rw [PE] at ER
  clear PE PR PO PA HW HP hcellW hcellP l16 l24
  rw [KR.out c1 hi] at LL
  have LOi := LO.out hi
  have LFk := hideIt (LFi.out hi)
  have f2 := FR.out hi
  have LK2 := hideIt (fun w1 hb => LK.out w1 hb hi)
  have LRi := hideIt (LR.out hi)
  rw [EI.out, EP.out] at EL
  clear KR LO LFi FR LK LR EI EP c1 c1t hi HPc hblP
  generalize paI ws ps t = pr at *
  generalize lkI ws ps s = lr at *
  generalize feI ps = fe at *
  obtain ⟨pd, pn, pc⟩ := pr
  obtain ⟨li, lc⟩ := lr
  simp only at EL PO2 LOi LFk ER LL
  obtain ⟨i, rfl⟩ : ∃ i : Nat, li = (i : Int) := ⟨li.toNat, by omega⟩
  have i16 : i < 16 := by omega
  have i1 : i < ws.length := by have := L16.out; omega
  have i0 : (0 : Int) ≤ (i : Int) := by omega
  have il : (i : Int) < (ws.length : Int) := by omega
  have lkr := LRi.out (i : Int) (by omega)
  have HWi := hideIt (HWc.out i i1)
  have EN2 := hideIt (EN.out (i : Int))
  have LDi2 := hideIt (fun w1 hb => LDi.out (i : Int) w1 hb L16.out (by omega))
  clear EN LRi HWc LDi
  generalize kindAt ws (i : Int) = kd at *
  generalize linkAt ws (i : Int) = lk at *
  generalize nnR ws ps t = nn at *
  obtain ⟨⟨nd, nname, nch⟩, nc⟩ := nn
  simp only at LN
  obtain ⟨x0, x1⟩ := CA.out _ A1.out
  go_wp2_with fail
  refine (LL.out _ B1.out).mono ?_
  rintro e w2 ⟨rfl, hb2⟩
  have A2 := hideIt (below_trans A1.out hb2 A1.out.size)
  have B2 := hideIt (below_trans B1.out hb2 B1.out.size)
  clear x0 x1
  obtain ⟨x0, x1⟩ := CA.out _ A2.out
  clear hb2 LL A1 B1
  by_cases c : lc = 0
  case neg =>
    rw [if_neg c] at EL
    obtain rfl := EL.out
    have q : (lc != 0) = true := by rw [bne_iff_ne]; exact c
    clear c EL
    go_wp2
    go_ret2
    exact pl_nil B2.out
  rw [if_pos c] at EL
  subst c
  go_wp2_with fail
  refine (LDi2.out _ B2.out).mono ?_
  rintro e w3 ⟨rfl, hb3⟩
  have A3 := hideIt (below_trans A2.out hb3 A2.out.size)
  have B3 := hideIt (below_trans B2.out hb3 B2.out.size)
  clear x0 x1 hb3 LDi2 A2 B2
  by_cases c : kd = 2
  · rw [if_pos c] at EL
    obtain rfl := EL.out
    rw [show (kd == 2) = true by rw [c]; rfl]
    clear c EL
    go_wp2
    go_ret2
    exact pl_nil B3.out
  rw [if_neg c] at EL
  rw [show (kd == 2) = false by rw [beq_eq_false_iff_ne]; exact c]
  have ip := LFk.out (by first | rfl | trivial) c
  clear c LFk
  have M1 : Hid (Mp (w3.alloc (.map #[] 0)) w3.heap.size (.map [])) := mp_made
  have A1m := hideIt (A3.out.alloc A3.out.size (.map #[] 0))
  have B1m := hideIt (B3.out.alloc B3.out.size (.map #[] 0))
  have z1 : W.heap.size ≤ w3.heap.size := A3.out.size
  obtain ⟨x0, x1⟩ := CA.out _ A1m.out
  go_wp2_with fail
  refine (LN.out _ _ _ B1m.out M1.out).mono ?_
  rintro e w4 ⟨rfl, -, hg4⟩
  have A4 := hideIt (below_grown A1m.out hg4 z1)
  have B4 := hideIt (below_trans BW.out A4.out (by omega))
  have z4 : W.heap.size ≤ w4.heap.size := A4.out.size
  clear x0 x1 hg4 LN M1 A3 B3 A1m B1m hmm z1
  have AX := hideIt (A4.out.alloc A4.out.size (.cells #[.int .i64 nd, .string nname, .int .i64 nch] 180))
  have BX := hideIt (B4.out.alloc B4.out.size (.cells #[.int .i64 nd, .string nname, .int .i64 nch] 180))
  obtain ⟨x0, x1⟩ := CA.out _ AX.out
  by_cases c : pc = 0
  case neg =>
    rw [if_neg c] at EL ER
    obtain rfl := EL.out
    have e2 := ER.out
    simp only [Prod.mk.injEq] at e2
    obtain ⟨-, rfl⟩ := e2
    have q : (nc != 0) = true := by rw [bne_iff_ne]; exact c
    clear c EL ER
    go_wp2
    go_ret2
    exact pl_nil BX.out
  rw [if_pos c] at EL ER
  subst c
  rw [EM.out] at ER
  rw [EN2.out] at EL
  obtain ⟨p1, -, p3⟩ := PO2.out rfl
  have NM := hideIt p3
  have EO := ENO.out pd pn
  clear PO2 p3 EM EN2 ENO
  cases he : entAt ps pd pn with
  | some k =>
    have e8 : 0 ≤ entI ps pd pn := by rw [entI_some he]; omega
    rw [if_pos e8] at EL
    rw [he] at ER
    obtain rfl := EL.out
    have e2 := ER.out
    simp only [Prod.mk.injEq] at e2
    obtain ⟨-, rfl⟩ := e2
    clear e8 EL ER he EO
    go_wp2
    go_ret2
    exact pl_nil BX.out
  | none =>
  have e8 := EO.1 he
  rw [if_neg (by omega)] at EL
  rw [he] at ER
  have e2 := ER.out
  simp only [Prod.mk.injEq, Den.mk.injEq] at e2
  obtain ⟨⟨rfl, rfl, rfl⟩, rfl⟩ := e2
  clear e8 ER he EO
  go_wp2_with fail
  refine (LK2.out _ BX.out).mono ?_
  rintro e w5 ⟨rfl, hb5⟩
  have V5 : Hid (w5.heap[w4.heap.size]? = some (.cells #[.int .i64 nd, .string nname, .int .i64 0] 180 (0, 0))) := (hb5.block _ (by simp)).trans (at_new rfl)
  have A5 := hideIt (below_trans AX.out hb5 AX.out.size)
  have B5 := hideIt (below_trans BX.out hb5 BX.out.size)
  clear hb5 LK2 AX BX A4 B4 x0 x1
  obtain ⟨t0, t1, t2⟩ := three_cells V5.out
  have u2 := (eight_at (xs := [.int .i64 nd, .string nname, .int .i64 0]) V5.out 2).2
  have wz : w4.heap.size < w5.heap.size := (Array.getElem?_eq_some_iff.1 V5.out).1
  by_cases c3 : fe < 0
  · rw [show tellV fe = 0 from if_pos c3, show tellC fe = 7 from if_pos c3]
    rw [if_pos c3] at EL
    obtain rfl := EL.out
    clear EL c3
    go_wp2
    go_ret2
    exact pl_nil B5.out
  rw [show tellV fe = fe from if_neg c3, show tellC fe = 0 from if_neg c3]
  rw [if_neg c3] at EL
  have S := hideIt (three_set (u := .int .i64 (i : Int)) t0 t1 t2)
  have A6 : Hid (Below W.heap.size W (w5.setCell ⟨w4.heap.size, 2, none⟩ (.int .i64 (i : Int)))) := A5.out.setCell (by simp only; omega) _
  have z6 : w5.heap.size ≤ (w5.setCell ⟨w4.heap.size, 2, none⟩ (.int .i64 (i : Int))).heap.size := by simp [World.setCell]
  obtain ⟨s0, s1, s2⟩ := S.out
  obtain ⟨d1, d2⟩ := du_ok (k := fe) (x := ⟨nd, nname, (i : Int)⟩) (by omega) (okB_new p1 NM.out (by omega))
  have LD2 := hideIt (fun w1 hb => LD.out fe ⟨nd, nname, (i : Int)⟩ w1 hb (by show nname.size ≤ maxLen; have := (nmB_true NM.out).2.1; unfold maxLen; omega))
  rw [d1, d2, show (Den.mk nd nname (i : Int)).v = .agg #[.int .i64 nd, .string nname, .int .i64 (i : Int)] from rfl] at LD2
  have l3 : (enL fe ⟨nd, nname, (i : Int)⟩).length ≤ 3 := Nat.le_refl _
  generalize enL fe ⟨nd, nname, (i : Int)⟩ = L at *
  have LU := hideIt (fun x w1 => inodeUpdate_any (i : Int) 2 x w1 (by omega) (by omega))
  have wpl : IntKind.i64.wrap (lk + 1) = lk + 1 := by rw [IntKind.wrap_i64]; omega
  obtain rfl := EL.out
  clear d1 d2 LD EL
  go_wp2_with fail
  obtain ⟨w6, hw6⟩ : ∃ w6, w6 = w5.setCell ⟨w4.heap.size, 2, none⟩ (.int .i64 (i : Int)) := ⟨_, rfl⟩
  rw [← hw6]
  rw [← hw6] at A6
  clear hw6 t0 t1 t2 u2 s0 s1 s2 S z6 A5 B5 V5 wz
  have B6 := hideIt (below_trans BW.out A6.out (by omega))
  refine (LD2.out _ B6.out).mono ?_
  rintro e w7 ⟨v7, rfl, hr7, hb7⟩
  have J7 : Hid (UpI w6 w7 v7 L) := ⟨hr7.1, hb7⟩
  obtain ⟨-, aE, cE, hvE, -⟩ := hr7.rd
  subst hvE
  have A7 := hideIt (below_trans A6.out hb7 A6.out.size)
  have B7 := hideIt (below_trans B6.out hb7 B6.out.size)
  obtain ⟨x0, x1⟩ := CA.out _ A7.out
  have y2 := (HWi.out _ B7.out).2
  clear hr7 hb7 LD2 A6 A7 CA HWi
  go_wp2_with fail
  refine (LU.out _ _).mono ?_
  rintro e w8 ⟨rfl, hb8⟩
  have J8 := hideIt (J7.out.below hb8)
  clear hb8 x0 x1 y2 J7 LU
  have J9 := hideIt (J8.out.below ((Below.refl _ _).alloc (Nat.le_refl _) (.cells #[.int .i64 (48 + 12 * (i : Int) + 2), .int .i64 (lk + 1)] 130)))
  have R9 := hideIt (rd_upd w8 (48 + 12 * (i : Int) + 2) (lk + 1))
  have z9 : w6.heap.size ≤ (w8.alloc (.cells #[.int .i64 (48 + 12 * (i : Int) + 2), .int .i64 (lk + 1)] 130)).heap.size := J9.out.z
  go_wp2_with (at_builtin; refine wpList_append_rd _ rfl (.tmp 63) (.tmp 73) 57 rfl w6.heap.size 130 (.agg #[.int .i64 0, .int .i64 0]) 2 16 Tryz.underlying57 infoUp rfl (by decide) _ _ _ rfl J9.out.l _ _ _ rfl R9.out (ses_ones _) (by simp [maxLen]; omega) (by omega) z9 ?_)
  intro vN wN hownN hgrN
  have G := hideIt (J9.out.grow [⟨48 + 12 * (i : Int) + 2, lk + 1⟩] hownN hgrN)
  have G2 := hideIt (G.out.wide B6.out)
  obtain ⟨-, aN, cN, hvN, -⟩ := (own_block G2.out.l).rd
  subst hvN
  clear hownN hgrN J8 J9 R9 G
  go_wp2
  go_ret2
  exact pl_row 0 G2.out

set_option maxRecDepth 100000 in
set_option maxHeartbeats 16000000 in
theorem implPlanRename_any (v : Value) (ws : List Ino) (ps : List Den) (s t : ByteArray) (w : World) (h : RdIm w v ws ps) (hw : ws.length ≤ 1048576) (hp : ps.length ≤ 1048576) (hT : TS w) (hE : ED w) (hF : FD w) (hr : ∀ k (h : k < ws.length), ws[k].R) (hs : ∀ k (h : k < ps.length), ps[k].name.size ≤ maxLen) :
    Calls Tryz.prog 204 #[v, .string s, .string t] w fun e w' => PlOut w w' e (rnR ws ps s t) := by
  have LF := hideIt (fun vL w1 (hb : Below w.heap.size w w1) hL => planFault_any v vL ws ps [s, t] w1 (h.below hb) hL (by simp) hw hp (hT.below hb) (hE.below hb) (hF.below hb) hr hs)
  have LN := hideIt (fun b D w1 (hb : Below w.heap.size w w1) hm => newName_any v ws ps t b D w1 (h.below hb) hw hp (hT.below hb) (hE.below hb) (hF.below hb) hr hs hm)
  have LD := hideIt (fun k x w1 (hb : Below w.heap.size w w1) hs => implDirentUpdates_any k x w1 (hF.below hb) hs)
  rw [pf_two] at LF
  have ER := hideIt (show nnR ws ps t = if (paR ws ps t).2.2 = 0 then nnN ps (paR ws ps t).1 (paR ws ps t).2.1 else (zeroD, (paR ws ps t).2.2) from rfl)
  have EM := hideIt (fun d nm => show nnN ps d nm = match entAt ps d nm with | none => (⟨d, nm, 0⟩, 0) | some _ => (zeroD, 8) from rfl)
  have PR := hideIt (@paR_short ws ps t)
  have PO := hideIt (fun hi c => paI_ok (ws := ws) (ps := ps) (s := t) hi c)
  have ENO := hideIt (fun d nm => @entI_no ps d nm)
  have PA := hideIt (fun hi => pimg_all (ws := ws) (ps := ps) hi)
  have LL := hideIt (fun b D w1 (hb : Below w.heap.size w w1) hm => entryOf_any v ws ps s b D w1 (h.below hb) hw hp (hT.below hb) (hE.below hb) (hF.below hb) hr hs hm)
  have LB := hideIt (fun a b w1 (hb : Below w.heap.size w w1) => implBeneath_any v ws ps a b w1 (h.below hb) hw hp (hT.below hb) (hE.below hb) (hF.below hb) hr hs)
  have EL := hideIt (show rnR ws ps s t = if 65536 < s.size then ([], 2) else if 65536 < t.size then ([], 2) else if imgB ws ps = true then rnI ws ps s t else ([], 1) from rfl)
  have EI := hideIt (show rnI ws ps s t = if (paI ws ps s).2.2 = 0 then rnE ws ps t (paI ws ps s).1 (paI ws ps s).2.1 else ([], (paI ws ps s).2.2) from rfl)
  have EE := hideIt (fun d nm => show rnE ws ps t d nm = match entAt ps d nm with | none => ([], 5) | some k => rnP ws ps t k from rfl)
  have EP := hideIt (fun k => show rnP ws ps t k = if (paI ws ps t).2.2 = 0 then rnN ws ps k (paI ws ps t).1 (paI ws ps t).2.1 else ([], (paI ws ps t).2.2) from rfl)
  have EN := hideIt (fun k d nm => show rnN ws ps k d nm = if 0 ≤ entI ps d nm then ([], 8) else if kindAt ws (childAt ps k) = 2 ∧ benN ps 17 d (childAt ps k) = true then ([], 13) else (enL (k : Int) ⟨d, nm, childAt ps k⟩, 0) from rfl)
  have RR0 := hideIt (show erR ws ps s = if (paR ws ps s).2.2 = 0 then erN ps (paR ws ps s).1 (paR ws ps s).2.1 else (0, (paR ws ps s).2.2) from rfl)
  have RN := hideIt (fun d nm => show erN ps d nm = match entAt ps d nm with | none => (0, 5) | some k => ((k : Int), 0) from rfl)
  have PRs := hideIt (@paR_short ws ps s)
  have CR := hideIt (fun hi d nm k e => And.intro (child_range (ws := ws) (ps := ps) hi (d := d) (nm := nm) (k := k) e) (child_pos hi e))
  have BE1 := hideIt (fun hi a b q r => be_ok (ws := ws) (ps := ps) (a := a) (b := b) hi q r)
  have BE2 := hideIt (fun hi a b q r => be_nodir (ws := ws) (ps := ps) (a := a) (b := b) hi q r)
  obtain ⟨vW, vP, rfl, h1, h2⟩ := h
  obtain ⟨aW, cW, rfl, _, hcW⟩ := h1.shape
  obtain ⟨aP, cP, rfl, _, hcP⟩ := h2.shape
  have HW := hideIt hcW
  have HP := hideIt hcP
  clear h1 h2 hr hs hT hE hF hcW hcP
  have CA : Hid (∀ w', Below (w.alloc (.cells #[.slice aW ws.length cW, .slice aP ps.length cP] 63)).heap.size (w.alloc (.cells #[.slice aW ws.length cW, .slice aP ps.length cP] 63)) w' → w'.cell? ⟨w.heap.size, 0, none⟩ = some (.slice aW ws.length cW) ∧ w'.cell? ⟨w.heap.size, 1, none⟩ = some (.slice aP ps.length cP)) := fun w' hb => by
    have : w'.heap[w.heap.size]? = some (.cells #[.slice aW ws.length cW, .slice aP ps.length cP] 63 (0, 0)) := (hb.block _ (by simp)).trans (at_new rfl)
    exact ⟨(two_cells this).1, (two_cells this).2.1⟩
  have BW : Hid (Below w.heap.size w (w.alloc (.cells #[.slice aW ws.length cW, .slice aP ps.length cP] 63))) := (Below.refl _ _).alloc (Nat.le_refl _) _
  obtain ⟨x0, x1⟩ := CA.out _ (Below.refl _ _)
  generalize hmr : rnR ws ps s t = res at *
  clear hmr
  obtain ⟨W, hW⟩ : ∃ W, W = w.alloc (.cells #[.slice aW ws.length cW, .slice aP ps.length cP] 63) := ⟨_, rfl⟩
  have RS : Hid (RdT (W.alloc (.cells #[.string s, .string t] 9)) (.slice (some ⟨W.heap.size, 0, none⟩) 2 2) [s, t]) := by
    refine ⟨rfl, _, _, rfl, ⟨Nat.le_refl _, fun e => by cases e⟩, fun _ => ⟨W.heap.size, 0, rfl, by simp, fun j hj => ?_⟩⟩
    have e0 := (eight_at (xs := [.string s, .string t]) (at_new (w := W) (o := .cells #[.string s, .string t] 9) rfl) j).1
    rw [Nat.zero_add]
    rw [e0]
    rfl
  have hz : w.heap.size < W.heap.size := by rw [hW]; simp
  have BS : Hid (Below W.heap.size W (W.alloc (.cells #[.string s, .string t] 9))) := (Below.refl _ _).alloc (Nat.le_refl _) _
  have hWs : W.heap.size = w.heap.size + 1 := by rw [hW]; simp
  rw [hWs] at RS
  rw [← hW] at CA BW
  have hmm := @run_makeMap Tryz.prog
  go_enter Tryz.func204, Tryz.ntmps204
  go_wp2_with fail
  rw [← hW]
  clear hW x0 x1 hWs
  refine (LF.out _ _ (below_trans BW.out BS.out (by omega)) RS.out).mono ?_
  rintro e w1 ⟨rfl, hb1⟩
  have A1 := hideIt (below_trans BS.out hb1 BS.out.size)
  have B1 := hideIt (below_trans BW.out A1.out (by omega))
  clear hb1 BS RS LF
  by_cases c1 : 65536 < s.size
  · rw [if_pos c1]
    rw [if_pos c1] at EL
    obtain rfl := EL.out
    go_wp2
    go_ret2
    exact pl_nil B1.out
  rw [if_neg c1]
  rw [if_neg c1] at EL
  by_cases c1t : 65536 < t.size
  · rw [if_pos c1t]
    rw [if_pos c1t] at EL
    obtain rfl := EL.out
    go_wp2
    go_ret2
    exact pl_nil B1.out
  rw [if_neg c1t]
  rw [if_neg c1t] at EL
  cases hi : imgB ws ps with
  | false =>
    rw [hi] at EL
    obtain rfl := EL.out
    go_wp2
    go_ret2
    exact pl_nil B1.out
  | true =>
  rw [if_pos rfl]
  rw [hi, if_pos rfl] at EL
  have PE := PR.out c1t hi
  have PO2 := hideIt (PO.out hi)
  obtain ⟨l16, l24, _⟩ := PA.out hi
  have L16 := hideIt l16
  have L24 := hideIt l24
  obtain ⟨bW, oW, rfl, hblW, hcellW⟩ := HW.out (by omega)
  obtain ⟨bP, oP, rfl, hblP, hcellP⟩ := HP.out (by omega)
  have HWc : Hid (∀ i (h : i < ws.length) w', Below w.heap.size w w' → w'.cell? ⟨bW, oW + i * 11, none⟩ = some (.int .i64 (kindAt ws (i : Int))) ∧ w'.cell? ⟨bW, oW + i * 11 + 2, none⟩ = some (.int .i64 (linkAt ws (i : Int)))) := fun i h w' hb =>
    ⟨((hb.cell (p := ⟨bW, oW + i * 11, none⟩) hblW).trans (hcellW i h).1).trans (by rw [← kindAt_of h]), ((hb.cell (p := ⟨bW, oW + i * 11 + 2, none⟩) hblW).trans (hcellW i h).2.2.1).trans (by rw [← linkAt_of h])⟩
  have HPc : Hid (∀ k (h : k < ps.length) w', Below w.heap.size w w' → w'.cell? ⟨bP, oP + k * 3 + 2, none⟩ = some (.int .i64 (childAt ps k))) := fun k h w' hb =>
    ((hb.cell (p := ⟨bP, oP + k * 3 + 2, none⟩) hblP).trans (hcellP k h).2.2).trans (by rw [← childAt_of h])
  rw [PE] at ER
  clear PE PR PO PA HW HP hcellW hcellP l16 l24
  rw [PRs.out c1 hi] at RR0
  rw [EI.out] at EL
  have CRi := hideIt (CR.out hi)
  have BEa := hideIt (BE1.out hi)
  have BEb := hideIt (BE2.out hi)
  clear PRs EI c1 c1t hi CR BE1 BE2 HWc hblW
  generalize paI ws ps t = pt at *
  generalize paI ws ps s = pr at *
  obtain ⟨pd, pn, pc⟩ := pr
  obtain ⟨td, tn, tc⟩ := pt
  simp only at EL PO2 ER RR0 EP
  generalize nnR ws ps t = nn at *
  obtain ⟨⟨nd, nname, nch⟩, nc⟩ := nn
  generalize erR ws ps s = er at *
  obtain ⟨ek, ec⟩ := er
  simp only at LN LL
  have M1 : Hid (Mp (w1.alloc (.map #[] 0)) w1.heap.size (.map [])) := mp_made
  have A1m := hideIt (A1.out.alloc A1.out.size (.map #[] 0))
  have B1m := hideIt (B1.out.alloc B1.out.size (.map #[] 0))
  have z1 : W.heap.size ≤ w1.heap.size := A1.out.size
  obtain ⟨x0, x1⟩ := CA.out _ A1m.out
  go_wp2_with fail
  refine (LL.out _ _ _ B1m.out M1.out).mono ?_
  rintro e w2 ⟨rfl, ⟨D2, hm2⟩, hg2⟩
  have A2 := hideIt (below_grown A1m.out hg2 z1)
  have B2 := hideIt (below_trans BW.out A2.out (by omega))
  have M2 := hideIt hm2
  clear x0 x1 hg2 LL M1 A1 B1 A1m B1m hmm hm2
  by_cases c : pc = 0
  case neg =>
    rw [if_neg c] at EL RR0
    obtain rfl := EL.out
    have e2 := RR0.out
    simp only [Prod.mk.injEq] at e2
    obtain ⟨-, rfl⟩ := e2
    have q : (ec != 0) = true := by rw [bne_iff_ne]; exact c
    clear c EL RR0
    go_wp2
    go_ret2
    exact pl_nil B2.out
  rw [if_pos c] at EL RR0
  subst c
  rw [RN.out] at RR0
  rw [EE.out] at EL
  clear EE RN
  cases he : entAt ps pd pn with
  | none =>
    rw [he] at EL RR0
    obtain rfl := EL.out
    have e2 := RR0.out
    simp only [Prod.mk.injEq] at e2
    obtain ⟨-, rfl⟩ := e2
    clear EL RR0
    go_wp2
    go_ret2
    exact pl_nil B2.out
  | some k =>
  rw [he] at EL RR0
  have e2 := RR0.out
  simp only [Prod.mk.injEq] at e2
  obtain ⟨rfl, rfl⟩ := e2
  have EL2 : Hid (res = rnP ws ps t k) := EL.out
  rw [EP.out] at EL2
  obtain ⟨⟨k1, k2⟩, k3⟩ := CRi.out _ _ _ he
  have EN2 := hideIt (EN.out k)
  have HPk := hideIt (HPc.out k k1)
  obtain ⟨i, hi'⟩ : ∃ i : Nat, childAt ps k = (i : Int) := ⟨(childAt ps k).toNat, by omega⟩
  rw [hi'] at EN2 HPk k3
  have k24 : k < 24 := by have := L24.out; omega
  have i16 : i < 16 := by omega
  have kl : (k : Int) < (ps.length : Int) := by omega
  have k0 : (0 : Int) ≤ (k : Int) := by omega
  have i0 : (0 : Int) ≤ (i : Int) := by omega
  clear EL EP EN CRi HPc he hi' k2 RR0
  obtain ⟨x0, x1⟩ := CA.out _ A2.out
  go_wp2_with fail
  refine (LN.out _ _ _ B2.out M2.out).mono ?_
  rintro e w4 ⟨rfl, -, hg4⟩
  have A4 := hideIt (below_grown A2.out hg4 z1)
  have B4 := hideIt (below_trans BW.out A4.out (by omega))
  have z4 : W.heap.size ≤ w4.heap.size := A4.out.size
  clear x0 x1 hg4 LN M2 A2 B2
  have AX := hideIt (A4.out.alloc A4.out.size (.cells #[.int .i64 nd, .string nname, .int .i64 nch] 180))
  have BX := hideIt (B4.out.alloc B4.out.size (.cells #[.int .i64 nd, .string nname, .int .i64 nch] 180))
  by_cases c : tc = 0
  case neg =>
    rw [if_neg c] at EL2 ER
    obtain rfl := EL2.out
    have e2 := ER.out
    simp only [Prod.mk.injEq] at e2
    obtain ⟨-, rfl⟩ := e2
    have q : (nc != 0) = true := by rw [bne_iff_ne]; exact c
    clear c EL2 ER
    go_wp2
    go_ret2
    exact pl_nil BX.out
  rw [if_pos c] at EL2 ER
  subst c
  rw [EM.out] at ER
  rw [EN2.out] at EL2
  obtain ⟨p1, p2, p3⟩ := PO2.out rfl
  have NM := hideIt p3
  have EO := ENO.out td tn
  clear PO2 p3 EM EN2 ENO
  cases he : entAt ps td tn with
  | some k' =>
    have e8 : 0 ≤ entI ps td tn := by rw [entI_some he]; omega
    rw [if_pos e8] at EL2
    rw [he] at ER
    obtain rfl := EL2.out
    have e2 := ER.out
    simp only [Prod.mk.injEq] at e2
    obtain ⟨-, rfl⟩ := e2
    clear e8 EL2 ER he EO
    go_wp2
    go_ret2
    exact pl_nil BX.out
  | none =>
  have e8 := EO.1 he
  rw [if_neg (by omega)] at EL2
  rw [he] at ER
  have e2 := ER.out
  simp only [Prod.mk.injEq, Den.mk.injEq] at e2
  obtain ⟨⟨rfl, rfl, rfl⟩, rfl⟩ := e2
  clear e8 ER he EO
  obtain ⟨w5, hw5⟩ : ∃ w5, w5 = w4.alloc (.cells #[.int .i64 nd, .string nname, .int .i64 (i : Int)] 180) := ⟨_, rfl⟩
  have V5 : Hid (w5.heap[w4.heap.size]? = some (.cells #[.int .i64 nd, .string nname, .int .i64 (i : Int)] 180 (0, 0))) := by rw [hw5]; exact at_new rfl
  have A5 : Hid (Below W.heap.size W w5) := by rw [hw5]; exact A4.out.alloc A4.out.size _
  have B5 := hideIt (below_trans BW.out A5.out (by omega))
  obtain ⟨x0, x1⟩ := CA.out _ AX.out
  obtain ⟨x0', x1'⟩ := CA.out _ A5.out
  rw [hw5] at x0' x1'
  have y0 := HPk.out _ BX.out
  obtain ⟨d1, d2⟩ := du_ok (k := (k : Int)) (x := ⟨nd, nname, (i : Int)⟩) (by omega) (okB_new p1 NM.out (by omega))
  have LD2 := hideIt (fun w1 hb => LD.out (k : Int) ⟨nd, nname, (i : Int)⟩ w1 hb (by show nname.size ≤ maxLen; have := (nmB_true NM.out).2.1; unfold maxLen; omega))
  rw [d1, d2, show (Den.mk nd nname (i : Int)).v = .agg #[.int .i64 nd, .string nname, .int .i64 (i : Int)] from rfl] at LD2
  have BV : Hid (beV ws ps nd (i : Int) = true ↔ kindAt ws (i : Int) = 2 ∧ benN ps 17 nd (i : Int) = true) := by
    show _ ↔ _
    by_cases q : kindAt ws (i : Int) = 2
    · rw [(BEa.out nd (i : Int) ⟨p1, by omega⟩ ⟨p2, q⟩).2]
      exact ⟨fun h => ⟨q, h⟩, fun h => h.2⟩
    · rw [(BEb.out nd (i : Int) ⟨p1, by omega⟩ (fun h => q h.2)).2]
      exact ⟨fun h => (by cases h), fun h => absurd h.1 q⟩
  have LB2 := hideIt (fun w1 hb => LB.out nd (i : Int) w1 hb)
  clear LB BEa BEb d1 d2 LD
  generalize enL (k : Int) ⟨nd, nname, (i : Int)⟩ = L at *
  generalize beV ws ps nd (i : Int) = bv at *
  generalize beC ws ps nd (i : Int) = bc at *
  go_wp2_with fail
  rw [← hw5]
  clear hw5 x0 x1 x0' x1' y0 AX BX A4 B4 HPk
  refine (LB2.out _ B5.out).mono ?_
  rintro e w6 ⟨rfl, hb6⟩
  have B6 := hideIt (below_trans B5.out hb6 B5.out.size)
  have V6 : Hid (w6.heap[w4.heap.size]? = some (.cells #[.int .i64 nd, .string nname, .int .i64 (i : Int)] 180 (0, 0))) := (hb6.block _ ((Array.getElem?_eq_some_iff.1 V5.out).1)).trans V5.out
  clear hb6 LB2 A5 B5 V5 CA
  cases bv with
  | true =>
    rw [if_pos (BV.out.1 rfl)] at EL2
    obtain rfl := EL2.out
    clear EL2 BV
    go_wp2
    go_ret2
    exact pl_nil B6.out
  | false =>
  rw [if_neg (fun h => by cases BV.out.2 h)] at EL2
  obtain rfl := EL2.out
  obtain ⟨t0, t1, t2⟩ := three_cells V6.out
  clear EL2 BV
  go_wp2_with fail
  refine (LD2.out _ B6.out).mono ?_
  rintro e w7 ⟨v7, rfl, hr7, hb7⟩
  have R7 := hideIt (hr7.wide B6.out.size (Nat.le_refl _))
  have B7 := hideIt (below_trans B6.out hb7 B6.out.size)
  obtain ⟨-, aE, cE, hvE, -⟩ := hr7.rd
  subst hvE
  clear hr7 hb7 t0 t1 t2
  go_wp2
  go_ret2
  exact ⟨_, rfl, R7.out, B7.out⟩
end Go.Proofs.YtcilodgoognmnaaGreatDoor
