/- The plans to link and to rename: by the program. -/
import Derived.Test.YtpakbbdlhlkogaaGreatDoorPlN
import Derived.Test.YtpakbbdlhlkogaaGreatDoorZAX
namespace Go.Proofs.YtpakbbdlhlkogaaGreatDoor
open Go.RowKit Go.Maps
theorem lkR_short {ws : List Ino} {ps : List Den} {s : ByteArray} (h : ¬ 65536 < s.size) (hi : zcb ws ps = true) : lkR ws ps s = lkI ws ps s := by
 unfold lkR
 rw [if_neg h, if_pos hi]
theorem child_pos {ws : List Ino} {ps : List Den} (h : zcb ws ps = true) {d : Int} {nm : ByteArray} {k : Nat} (e : zay ps d nm = some k) : 1 ≤ zan ps k := by
 obtain ⟨hk, q⟩ := zmk e
 have := yaft q
 rw [zbf hk]
 rcases zjr h k hk with r | r
 ·omega
 ·exact r.1.1
theorem wk_pos {ws : List Ino} {ps : List Den} (h : zcb ws ps = true) : ∀ (ns : List ByteArray) (z : Int), (wk ws ps z ns).2 = 0 → (wk ws ps z ns).1 = z ∨ 1 ≤ (wk ws ps z ns).1
 | [], z, _ => .inl rfl
 | n :: ns, z, c => by
  by_cases q : zai ws z = 2
  ·cases e : zay ps z n with
   | none => rw [zfy q e] at c; cases c
   | some k =>
    rw [zff q e] at c ⊢
    rcases wk_pos h ns _ c with r | r
    ·right
     rw [r]
     exact child_pos h e
    ·exact .inr r
  ·rw [zel q] at c; cases c
theorem lk_file {ws : List Ino} {ps : List Den} {s : ByteArray} (h : zcb ws ps = true) (c : (lkI ws ps s).2 = 0) (k : ¬ zai ws (lkI ws ps s).1 = 2) : 1 ≤ (lkI ws ps s).1 := by
 unfold lkI at c k ⊢
 by_cases q : spB s = true
 ·rw [if_pos q] at c k ⊢
  rcases wk_pos h _ 0 c with r | r
  ·rw [r] at k
   exact absurd (zau h).2.2.1 k
  ·exact r
 ·rw [if_neg q] at c; cases c
set_option maxRecDepth 100000 in
set_option maxHeartbeats 16000000 in
theorem implPlanLink_any (v : Value) (ws : List Ino) (ps : List Den) (s t : ByteArray) (w : World) (h : RdIm w v ws ps) (hw : ws.length ≤ 1048576) (hp : ps.length ≤ 1048576) (hT : TS w) (hE : ED w) (hF : FD w) (hr : ∀ k (h : k < ws.length), ws[k].R) (hs : ∀ k (h : k < ps.length), ps[k].name.size ≤ maxLen) :
  Calls Tryz.prog 14 #[v, .string s, .string t] w fun e w' => zhj w w' e (lnR ws ps s t) := by
 have LF := zaa (fun vL w1 (hb : Below w.heap.size w w1) hL => zru v vL ws ps [s, t] w1 (h.below hb) hL (by simp) hw hp (hT.below hb) (hE.below hb) (hF.below hb) hr hs)
 have LN := zaa (fun b D w1 (hb : Below w.heap.size w w1) hm => zxu v ws ps t b D w1 (h.below hb) hw hp (hT.below hb) (hE.below hb) (hF.below hb) hr hs hm)
 have LD := zaa (fun k x w1 (hb : Below w.heap.size w w1) hs => zeo k x w1 (hF.below hb) hs)
 rw [yawv] at LF
 have ER := zaa (show nnR ws ps t = if (paR ws ps t).2.2 = 0 then nnN ps (paR ws ps t).1 (paR ws ps t).2.1 else (yack, (paR ws ps t).2.2) from rfl)
 have EM := zaa (fun d nm => show nnN ps d nm = match zay ps d nm with | none => (⟨d, nm, 0⟩, 0) | some _ => (yack, 8) from rfl)
 have PR := zaa (@yagz ws ps t)
 have PO := zaa (fun hi c => zha (ws := ws) (ps := ps) (s := t) hi c)
 have ENO := zaa (fun d nm => @zkz ps d nm)
 have PA := zaa (fun hi => zau (ws := ws) (ps := ps) hi)
 have LL := zaa (fun w1 (hb : Below w.heap.size w w1) => zir v ws ps s w1 (h.below hb) hw hp (hT.below hb) (hE.below hb) (hF.below hb) hr hs)
 have LDi := zaa (fun i w1 (hb : Below w.heap.size w w1) hl h0 => zvh v ws ps i w1 (h.below hb) hl h0)
 have LK := zaa (fun w1 (hb : Below w.heap.size w w1) hi => zsk v ws ps w1 (h.below hb) hi (hF.below hb))
 have EL := zaa (show lnR ws ps s t = if 65536 < s.size then ([], 2) else if 65536 < t.size then ([], 2) else if zcb ws ps = true then lnI ws ps s t else ([], 1) from rfl)
 have EI := zaa (show lnI ws ps s t = if (lkI ws ps s).2 = 0 then (if zai ws (lkI ws ps s).1 = 2 then ([], 9) else lnP ws ps t (lkI ws ps s).1) else ([], (lkI ws ps s).2) from rfl)
 have EP := zaa (fun i => show lnP ws ps t i = if (paI ws ps t).2.2 = 0 then lnN ws ps i (paI ws ps t).1 (paI ws ps t).2.1 else ([], (paI ws ps t).2.2) from rfl)
 have EN := zaa (fun i d nm => show lnN ws ps i d nm = if 0 ≤ zka ps d nm then ([], 8) else if feI ps < 0 then ([], 7) else (enL (feI ps) ⟨d, nm, i⟩ ++ [⟨48 + 12 * i + 2, zdn ws i + 1⟩], 0) from rfl)
 have KR := zaa (@lkR_short ws ps s)
 have LO := zaa (fun hi => zzi (ws := ws) (ps := ps) (s := s) hi)
 have LFi := zaa (fun hi c k => lk_file (ws := ws) (ps := ps) (s := s) hi c k)
 have LR := zaa (fun hi i h0 => zlb (ws := ws) (ps := ps) hi (i := i) h0)
 have FR := zaa (fun hi => ztm (ws := ws) (ps := ps) hi)
 obtain ⟨vW, vP, rfl, h1, h2⟩ := h
 obtain ⟨aW, cW, rfl, _, hcW⟩ := h1.shape
 obtain ⟨aP, cP, rfl, _, hcP⟩ := h2.shape
 have HW := zaa hcW
 have HP := zaa hcP
 clear h1 h2 hr hs hT hE hF hcW hcP
 have CA : Hid (∀ w', Below (w.alloc (.cells #[.slice aW ws.length cW, .slice aP ps.length cP] 42)).heap.size (w.alloc (.cells #[.slice aW ws.length cW, .slice aP ps.length cP] 42)) w' → w'.cell? ⟨w.heap.size, 0, none⟩ = some (.slice aW ws.length cW) ∧ w'.cell? ⟨w.heap.size, 1, none⟩ = some (.slice aP ps.length cP)) := fun w' hb => by
  have : w'.heap[w.heap.size]? = some (.cells #[.slice aW ws.length cW, .slice aP ps.length cP] 42 (0, 0)) := (hb.block _ (by simp)).trans (zah rfl)
  exact ⟨(zac this).1, (zac this).2.1⟩
 have BW : Hid (Below w.heap.size w (w.alloc (.cells #[.slice aW ws.length cW, .slice aP ps.length cP] 42))) := (Below.refl _ _).alloc (Nat.le_refl _) _
 obtain ⟨x0, x1⟩ := CA.out _ (Below.refl _ _)
 generalize hmr : lnR ws ps s t = res at *
 clear hmr
 obtain ⟨W, hW⟩ : ∃ W, W = w.alloc (.cells #[.slice aW ws.length cW, .slice aP ps.length cP] 42) := ⟨_, rfl⟩
 have RS : Hid (RdT (W.alloc (.cells #[.string s, .string t] 9)) (.slice (some ⟨W.heap.size, 0, none⟩) 2 2) [s, t]) := by
  refine ⟨rfl, _, _, rfl, ⟨Nat.le_refl _, fun e => by cases e⟩, fun _ => ⟨W.heap.size, 0, rfl, by simp, fun j hj => ?_⟩⟩
  have e0 := (zao (xs := [.string s, .string t]) (zah (w := W) (o := .cells #[.string s, .string t] 9) rfl) j).1
  rw [Nat.zero_add]
  rw [e0]
  rfl
 have hz : w.heap.size < W.heap.size := by rw [hW]; simp
 have BS : Hid (Below W.heap.size W (W.alloc (.cells #[.string s, .string t] 9))) := (Below.refl _ _).alloc (Nat.le_refl _) _
 have hWs : W.heap.size = w.heap.size + 1 := by rw [hW]; simp
 rw [hWs] at RS
 rw [← hW] at CA BW
 have hmm := @run_makeMap Tryz.prog
 go_enter Tryz.func14, Tryz.ntmps14
 go_wp2_with fail
 rw [← hW]
 clear hW x0 x1 hWs
 refine (LF.out _ _ (zab BW.out BS.out (by omega)) RS.out).mono ?_
 rintro e w1 ⟨rfl, hb1⟩
 have A1 := zaa (zab BS.out hb1 BS.out.size)
 have B1 := zaa (zab BW.out A1.out (by omega))
 clear hb1 BS RS LF
 by_cases c1 : 65536 < s.size
 ·rw [if_pos c1]
  rw [if_pos c1] at EL
  obtain rfl := EL.out
  go_wp2
  go_ret2
  exact zim B1.out
 rw [if_neg c1]
 rw [if_neg c1] at EL
 by_cases c1t : 65536 < t.size
 ·rw [if_pos c1t]
  rw [if_pos c1t] at EL
  obtain rfl := EL.out
  go_wp2
  go_ret2
  exact zim B1.out
 rw [if_neg c1t]
 rw [if_neg c1t] at EL
 cases hi : zcb ws ps with
 | false =>
  rw [hi] at EL
  obtain rfl := EL.out
  go_wp2
  go_ret2
  exact zim B1.out
 | true =>
 rw [if_pos rfl]
 rw [hi, if_pos rfl] at EL
 have PE := PR.out c1t hi
 have PO2 := zaa (PO.out hi)
 obtain ⟨l16, l24, _⟩ := PA.out hi
 have L16 := zaa l16
 have L24 := zaa l24
 obtain ⟨bW, oW, rfl, hblW, hcellW⟩ := HW.out (by omega)
 obtain ⟨bP, oP, rfl, hblP, hcellP⟩ := HP.out (by omega)
 have HWc : Hid (∀ i (h : i < ws.length) w', Below w.heap.size w w' → w'.cell? ⟨bW, oW + i * 11, none⟩ = some (.int .i64 (zai ws (i : Int))) ∧ w'.cell? ⟨bW, oW + i * 11 + 2, none⟩ = some (.int .i64 (zdn ws (i : Int)))) := fun i h w' hb =>
  ⟨((hb.cell (p := ⟨bW, oW + i * 11, none⟩) hblW).trans (hcellW i h).1).trans (by rw [← zbo h]), ((hb.cell (p := ⟨bW, oW + i * 11 + 2, none⟩) hblW).trans (hcellW i h).2.2.1).trans (by rw [← zho h])⟩
 have HPc : Hid (∀ k (h : k < ps.length) w', Below w.heap.size w w' → w'.cell? ⟨bP, oP + k * 3 + 2, none⟩ = some (.int .i64 (zan ps k))) := fun k h w' hb =>
  ((hb.cell (p := ⟨bP, oP + k * 3 + 2, none⟩) hblP).trans (hcellP k h).2.2).trans (by rw [← zbf h])
 rw [PE] at ER
 clear PE PR PO PA HW HP hcellW hcellP l16 l24
 rw [KR.out c1 hi] at LL
 have LOi := LO.out hi
 have LFk := zaa (LFi.out hi)
 have f2 := FR.out hi
 have LK2 := zaa (fun w1 hb => LK.out w1 hb hi)
 have LRi := zaa (LR.out hi)
 rw [EI.out, EP.out] at EL
 clear KR LO LFi FR LK LR EI EP c1 c1t hi HPc hblP
 generalize paI ws ps t = pr at *
 generalize lkI ws ps s = lr at *
 generalize feI ps = fe at *
 obtain ⟨pd, pn, pc⟩ := pr
 obtain ⟨li, lc⟩ := lr
 simp only at EL PO2 LOi LFk ER LL
 obtain ⟨i, rfl⟩ : ∃ i : Nat, li = (i : Int) := ⟨li.toNat, by omega⟩
 have i16 : i < 16 := by omega
 have i1 : i < ws.length := by have := L16.out; omega
 have i0 : (0 : Int) ≤ (i : Int) := by omega
 have il : (i : Int) < (ws.length : Int) := by omega
 have lkr := LRi.out (i : Int) (by omega)
 have HWi := zaa (HWc.out i i1)
 have EN2 := zaa (EN.out (i : Int))
 have LDi2 := zaa (fun w1 hb => LDi.out (i : Int) w1 hb L16.out (by omega))
 clear EN LRi HWc LDi
 generalize zai ws (i : Int) = kd at *
 generalize zdn ws (i : Int) = lk at *
 generalize nnR ws ps t = nn at *
 obtain ⟨⟨nd, nname, nch⟩, nc⟩ := nn
 simp only at LN
 obtain ⟨x0, x1⟩ := CA.out _ A1.out
 go_wp2_with fail
 refine (LL.out _ B1.out).mono ?_
 rintro e w2 ⟨rfl, hb2⟩
 have A2 := zaa (zab A1.out hb2 A1.out.size)
 have B2 := zaa (zab B1.out hb2 B1.out.size)
 clear x0 x1
 obtain ⟨x0, x1⟩ := CA.out _ A2.out
 clear hb2 LL A1 B1
 by_cases c : lc = 0
 case neg =>
  rw [if_neg c] at EL
  obtain rfl := EL.out
  have q : (lc != 0) = true := by rw [bne_iff_ne]; exact c
  clear c EL
  go_wp2
  go_ret2
  exact zim B2.out
 rw [if_pos c] at EL
 subst c
 go_wp2_with fail
 refine (LDi2.out _ B2.out).mono ?_
 rintro e w3 ⟨rfl, hb3⟩
 have A3 := zaa (zab A2.out hb3 A2.out.size)
 have B3 := zaa (zab B2.out hb3 B2.out.size)
 clear x0 x1 hb3 LDi2 A2 B2
 by_cases c : kd = 2
 ·rw [if_pos c] at EL
  obtain rfl := EL.out
  rw [show (kd == 2) = true by rw [c]; rfl]
  clear c EL
  go_wp2
  go_ret2
  exact zim B3.out
 rw [if_neg c] at EL
 rw [show (kd == 2) = false by rw [beq_eq_false_iff_ne]; exact c]
 have ip := LFk.out (by first | rfl | trivial) c
 clear c LFk
 have M1 : Hid (Mp (w3.alloc (.map #[] 0)) w3.heap.size (.map [])) := yady
 have A1m := zaa (A3.out.alloc A3.out.size (.map #[] 0))
 have B1m := zaa (B3.out.alloc B3.out.size (.map #[] 0))
 have z1 : W.heap.size ≤ w3.heap.size := A3.out.size
 obtain ⟨x0, x1⟩ := CA.out _ A1m.out
 go_wp2_with fail
 refine (LN.out _ _ _ B1m.out M1.out).mono ?_
 rintro e w4 ⟨rfl, -, hg4⟩
 have A4 := zaa (ziy A1m.out hg4 z1)
 have B4 := zaa (zab BW.out A4.out (by omega))
 have z4 : W.heap.size ≤ w4.heap.size := A4.out.size
 clear x0 x1 hg4 LN M1 A3 B3 A1m B1m hmm z1
 have AX := zaa (A4.out.alloc A4.out.size (.cells #[.int .i64 nd, .string nname, .int .i64 nch] 69))
 have BX := zaa (B4.out.alloc B4.out.size (.cells #[.int .i64 nd, .string nname, .int .i64 nch] 69))
 obtain ⟨x0, x1⟩ := CA.out _ AX.out
 by_cases c : pc = 0
 case neg =>
  rw [if_neg c] at EL ER
  obtain rfl := EL.out
  have e2 := ER.out
  simp only [Prod.mk.injEq] at e2
  obtain ⟨-, rfl⟩ := e2
  have q : (nc != 0) = true := by rw [bne_iff_ne]; exact c
  clear c EL ER
  go_wp2
  go_ret2
  exact zim BX.out
 rw [if_pos c] at EL ER
 subst c
 rw [EM.out] at ER
 rw [EN2.out] at EL
 obtain ⟨p1, -, p3⟩ := PO2.out rfl
 have NM := zaa p3
 have EO := ENO.out pd pn
 clear PO2 p3 EM EN2 ENO
 cases he : zay ps pd pn with
 | some k =>
  have e8 : 0 ≤ zka ps pd pn := by rw [zne he]; omega
  rw [if_pos e8] at EL
  rw [he] at ER
  obtain rfl := EL.out
  have e2 := ER.out
  simp only [Prod.mk.injEq] at e2
  obtain ⟨-, rfl⟩ := e2
  clear e8 EL ER he EO
  go_wp2
  go_ret2
  exact zim BX.out
 | none =>
 have e8 := EO.1 he
 rw [if_neg (by omega)] at EL
 rw [he] at ER
 have e2 := ER.out
 simp only [Prod.mk.injEq, Den.mk.injEq] at e2
 obtain ⟨⟨rfl, rfl, rfl⟩, rfl⟩ := e2
 clear e8 ER he EO
 go_wp2_with fail
 refine (LK2.out _ BX.out).mono ?_
 rintro e w5 ⟨rfl, hb5⟩
 have V5 : Hid (w5.heap[w4.heap.size]? = some (.cells #[.int .i64 nd, .string nname, .int .i64 0] 69 (0, 0))) := (hb5.block _ (by simp)).trans (zah rfl)
 have A5 := zaa (zab AX.out hb5 AX.out.size)
 have B5 := zaa (zab BX.out hb5 BX.out.size)
 clear hb5 LK2 AX BX A4 B4 x0 x1
 obtain ⟨t0, t1, t2⟩ := zaw V5.out
 have u2 := (zao (xs := [.int .i64 nd, .string nname, .int .i64 0]) V5.out 2).2
 have wz : w4.heap.size < w5.heap.size := (Array.getElem?_eq_some_iff.1 V5.out).1
 by_cases c3 : fe < 0
 ·rw [show zsm fe = 0 from if_pos c3, show zrx fe = 7 from if_pos c3]
  rw [if_pos c3] at EL
  obtain rfl := EL.out
  clear EL c3
  go_wp2
  go_ret2
  exact zim B5.out
 rw [show zsm fe = fe from if_neg c3, show zrx fe = 0 from if_neg c3]
 rw [if_neg c3] at EL
 have S := zaa (yaif (u := .int .i64 (i : Int)) t0 t1 t2)
 have A6 : Hid (Below W.heap.size W (w5.setCell ⟨w4.heap.size, 2, none⟩ (.int .i64 (i : Int)))) := A5.out.setCell (by simp only; omega) _
 have z6 : w5.heap.size ≤ (w5.setCell ⟨w4.heap.size, 2, none⟩ (.int .i64 (i : Int))).heap.size := by simp [World.setCell]
 obtain ⟨s0, s1, s2⟩ := S.out
 obtain ⟨d1, d2⟩ := yasu (k := fe) (x := ⟨nd, nname, (i : Int)⟩) (by omega) (yaqp p1 NM.out (by omega))
 have LD2 := zaa (fun w1 hb => LD.out fe ⟨nd, nname, (i : Int)⟩ w1 hb (by show nname.size ≤ maxLen; have := (zda NM.out).2.1; unfold maxLen; omega))
 rw [d1, d2, show (Den.mk nd nname (i : Int)).v = .agg #[.int .i64 nd, .string nname, .int .i64 (i : Int)] from rfl] at LD2
 have l3 : (enL fe ⟨nd, nname, (i : Int)⟩).length ≤ 3 := Nat.le_refl _
 generalize enL fe ⟨nd, nname, (i : Int)⟩ = L at *
 have LU := zaa (fun x w1 => zhv (i : Int) 2 x w1 (by omega) (by omega))
 have wpl : IntKind.i64.wrap (lk + 1) = lk + 1 := by rw [IntKind.wrap_i64]; omega
 obtain rfl := EL.out
 clear d1 d2 LD EL
 go_wp2_with fail
 obtain ⟨w6, hw6⟩ : ∃ w6, w6 = w5.setCell ⟨w4.heap.size, 2, none⟩ (.int .i64 (i : Int)) := ⟨_, rfl⟩
 rw [← hw6]
 rw [← hw6] at A6
 clear hw6 t0 t1 t2 u2 s0 s1 s2 S z6 A5 B5 V5 wz
 have B6 := zaa (zab BW.out A6.out (by omega))
 refine (LD2.out _ B6.out).mono ?_
 rintro e w7 ⟨v7, rfl, hr7, hb7⟩
 have J7 : Hid (UpI w6 w7 v7 L) := ⟨hr7.1, hb7⟩
 obtain ⟨-, aE, cE, hvE, -⟩ := hr7.rd
 subst hvE
 have A7 := zaa (zab A6.out hb7 A6.out.size)
 have B7 := zaa (zab B6.out hb7 B6.out.size)
 obtain ⟨x0, x1⟩ := CA.out _ A7.out
 have y2 := (HWi.out _ B7.out).2
 clear hr7 hb7 LD2 A6 A7 CA HWi
 go_wp2_with fail
 refine (LU.out _ _).mono ?_
 rintro e w8 ⟨rfl, hb8⟩
 have J8 := zaa (J7.out.below hb8)
 clear hb8 x0 x1 y2 J7 LU
 have J9 := zaa (J8.out.below ((Below.refl _ _).alloc (Nat.le_refl _) (.cells #[.int .i64 (48 + 12 * (i : Int) + 2), .int .i64 (lk + 1)] 83)))
 have R9 := zaa (zil w8 (48 + 12 * (i : Int) + 2) (lk + 1))
 have z9 : w6.heap.size ≤ (w8.alloc (.cells #[.int .i64 (48 + 12 * (i : Int) + 2), .int .i64 (lk + 1)] 83)).heap.size := J9.out.z
 go_wp2_with (at_builtin; refine zae _ rfl (.tmp 63) (.tmp 73) 46 rfl w6.heap.size 83 (.agg #[.int .i64 0, .int .i64 0]) 2 16 Tryz.underlying46 zhi rfl (by decide) _ _ _ rfl J9.out.l _ _ _ rfl R9.out (zdp _) (by simp [maxLen]; omega) (by omega) z9 ?_)
 intro vN wN hownN hgrN
 have G := zaa (J9.out.grow [⟨48 + 12 * (i : Int) + 2, lk + 1⟩] hownN hgrN)
 have G2 := zaa (G.out.wide B6.out)
 obtain ⟨-, aN, cN, hvN, -⟩ := (zad G2.out.l).rd
 subst hvN
 clear hownN hgrN J8 J9 R9 G
 go_wp2
 go_ret2
 exact zqy 0 G2.out
end Go.Proofs.YtpakbbdlhlkogaaGreatDoor
