/- Several texts laid together: PlR, DuB. -/
import Derived.Test.YtcilodgoognmnaaGreatDoorZAX
import Derived.Test.YtcilodgoognmnaaGreatDoorZAS
import Derived.Test.YtcilodgoognmnaaGreatDoorZAV
import Derived.Test.YtcilodgoognmnaaGreatDoorZAW
namespace Go.Proofs.YtcilodgoognmnaaGreatDoor
open Go.RowKit Go.Maps
theorem zwv {ws : List Ino} {ps : List Den} {s : ByteArray} (h : ¬ 65536 < s.size) (hi : zax ws ps = true) : lkR ws ps s = lkI ws ps s := by
 unfold lkR
 rw [if_neg h, if_pos hi]
theorem zuu {ws : List Ino} {ps : List Den} (h : zax ws ps = true) {d : Int} {nm : ByteArray} {k : Nat} (e : zbb ps d nm = some k) : 1 ≤ zaj ps k := by
 obtain ⟨hk, q⟩ := znb e
 have := zub q
 rw [zba hk]
 rcases zfb h k hk with r | r
 ·omega
 ·exact r.1.1
theorem wk_pos {ws : List Ino} {ps : List Den} (h : zax ws ps = true) : ∀ (ns : List ByteArray) (z : Int), (wk ws ps z ns).2 = 0 → (wk ws ps z ns).1 = z ∨ 1 ≤ (wk ws ps z ns).1
 | [], z, _ => .inl rfl
 | n :: ns, z, c => by
  by_cases q : zai ws z = 2
  ·cases e : zbb ps z n with
   | none => rw [zle q e] at c; cases c
   | some k =>
    rw [zlb q e] at c ⊢
    rcases wk_pos h ns _ c with r | r
    ·right
     rw [r]
     exact zuu h e
    ·exact .inr r
  ·rw [zif q] at c; cases c
theorem lk_file {ws : List Ino} {ps : List Den} {s : ByteArray} (h : zax ws ps = true) (c : (lkI ws ps s).2 = 0) (k : ¬ zai ws (lkI ws ps s).1 = 2) : 1 ≤ (lkI ws ps s).1 := by
 unfold lkI at c k ⊢
 by_cases q : spB s = true
 ·rw [if_pos q] at c k ⊢
  rcases wk_pos h _ 0 c with r | r
  ·rw [r] at k
   exact absurd (zao h).2.2.1 k
  ·exact r
 ·rw [if_neg q] at c; cases c
set_option maxRecDepth 100000 in
set_option maxHeartbeats 16000000 in
theorem zmu (v : Value) (ws : List Ino) (ps : List Den) (s t : ByteArray) (w : World) (h : RdIm w v ws ps) (hw : ws.length ≤ 1048576) (hp : ps.length ≤ 1048576) (hT : TS w) (hE : ED w) (hF : FD w) (hr : ∀ k (h : k < ws.length), ws[k].R) (hs : ∀ k (h : k < ps.length), ps[k].name.size ≤ maxLen) :
  Calls Tryz.prog 203 #[v, .string s, .string t] w fun e w' => zer w w' e (lnR ws ps s t) := by
 have LF := zaa (fun vL w1 (hb : Below w.heap.size w w1) hL => zgw v vL ws ps [s, t] w1 (h.below hb) hL (by simp) hw hp (hT.below hb) (hE.below hb) (hF.below hb) hr hs)
 have LN := zaa (fun b D w1 (hb : Below w.heap.size w w1) hm => zjj v ws ps t b D w1 (h.below hb) hw hp (hT.below hb) (hE.below hb) (hF.below hb) hr hs hm)
 have LD := zaa (fun k x w1 (hb : Below w.heap.size w w1) hs => zby k x w1 (hF.below hb) hs)
 rw [pf_two] at LF
 have ER := zaa (show nnR ws ps t = if (paR ws ps t).2.2 = 0 then nnN ps (paR ws ps t).1 (paR ws ps t).2.1 else (zql, (paR ws ps t).2.2) from rfl)
 have EM := zaa (fun d nm => show nnN ps d nm = match zbb ps d nm with | none => (⟨d, nm, 0⟩, 0) | some _ => (zql, 8) from rfl)
 have PR := zaa (@zjw ws ps t)
 have PO := zaa (fun hi c => zib (ws := ws) (ps := ps) (s := t) hi c)
 have ENO := zaa (fun d nm => @zpx ps d nm)
 have PA := zaa (fun hi => zao (ws := ws) (ps := ps) hi)
 have LL := zaa (fun w1 (hb : Below w.heap.size w w1) => zdr v ws ps s w1 (h.below hb) hw hp (hT.below hb) (hE.below hb) (hF.below hb) hr hs)
 have LDi := zaa (fun i w1 (hb : Below w.heap.size w w1) hl h0 => zhu v ws ps i w1 (h.below hb) hl h0)
 have LK := zaa (fun w1 (hb : Below w.heap.size w w1) hi => zkd v ws ps w1 (h.below hb) hi (hF.below hb))
 have EL := zaa (show lnR ws ps s t = if 65536 < s.size then ([], 2) else if 65536 < t.size then ([], 2) else if zax ws ps = true then lnI ws ps s t else ([], 1) from rfl)
 have EI := zaa (show lnI ws ps s t = if (lkI ws ps s).2 = 0 then (if zai ws (lkI ws ps s).1 = 2 then ([], 9) else lnP ws ps t (lkI ws ps s).1) else ([], (lkI ws ps s).2) from rfl)
 have EP := zaa (fun i => show lnP ws ps t i = if (paI ws ps t).2.2 = 0 then lnN ws ps i (paI ws ps t).1 (paI ws ps t).2.1 else ([], (paI ws ps t).2.2) from rfl)
 have EN := zaa (fun i d nm => show lnN ws ps i d nm = if 0 ≤ zkl ps d nm then ([], 8) else if feI ps < 0 then ([], 7) else (enL (feI ps) ⟨d, nm, i⟩ ++ [⟨48 + 12 * i + 2, zcx ws i + 1⟩], 0) from rfl)
 have KR := zaa (@zwv ws ps s)
 have LO := zaa (fun hi => zme (ws := ws) (ps := ps) (s := s) hi)
 have LFi := zaa (fun hi c k => lk_file (ws := ws) (ps := ps) (s := s) hi c k)
 have LR := zaa (fun hi i h0 => zij (ws := ws) (ps := ps) hi (i := i) h0)
 have FR := zaa (fun hi => znm (ws := ws) (ps := ps) hi)
 obtain ⟨vW, vP, rfl, h1, h2⟩ := h
 obtain ⟨aW, cW, rfl, _, hcW⟩ := h1.shape
 obtain ⟨aP, cP, rfl, _, hcP⟩ := h2.shape
 have HW := zaa hcW
 have HP := zaa hcP
 clear h1 h2 hr hs hT hE hF hcW hcP
 have CA : Hid (∀ w', Below (w.alloc (.cells #[.slice aW ws.length cW, .slice aP ps.length cP] 63)).heap.size (w.alloc (.cells #[.slice aW ws.length cW, .slice aP ps.length cP] 63)) w' → w'.cell? ⟨w.heap.size, 0, none⟩ = some (.slice aW ws.length cW) ∧ w'.cell? ⟨w.heap.size, 1, none⟩ = some (.slice aP ps.length cP)) := fun w' hb => by
  have : w'.heap[w.heap.size]? = some (.cells #[.slice aW ws.length cW, .slice aP ps.length cP] 63 (0, 0)) := (hb.block _ (by simp)).trans (zah rfl)
  exact ⟨(zac this).1, (zac this).2.1⟩
 have BW : Hid (Below w.heap.size w (w.alloc (.cells #[.slice aW ws.length cW, .slice aP ps.length cP] 63))) := (Below.refl _ _).alloc (Nat.le_refl _) _
 obtain ⟨x0, x1⟩ := CA.out _ (Below.refl _ _)
 generalize hmr : lnR ws ps s t = res at *
 clear hmr
 obtain ⟨W, hW⟩ : ∃ W, W = w.alloc (.cells #[.slice aW ws.length cW, .slice aP ps.length cP] 63) := ⟨_, rfl⟩
 have RS : Hid (RdT (W.alloc (.cells #[.string s, .string t] 9)) (.slice (some ⟨W.heap.size, 0, none⟩) 2 2) [s, t]) := by
  refine ⟨rfl, _, _, rfl, ⟨Nat.le_refl _, fun e => by cases e⟩, fun _ => ⟨W.heap.size, 0, rfl, by simp, fun j hj => ?_⟩⟩
  have e0 := (zae (xs := [.string s, .string t]) (zah (w := W) (o := .cells #[.string s, .string t] 9) rfl) j).1
  rw [Nat.zero_add]
  rw [e0]
  rfl
 have hz : w.heap.size < W.heap.size := by rw [hW]; simp
 have BS : Hid (Below W.heap.size W (W.alloc (.cells #[.string s, .string t] 9))) := (Below.refl _ _).alloc (Nat.le_refl _) _
 have hWs : W.heap.size = w.heap.size + 1 := by rw [hW]; simp
 rw [hWs] at RS
 rw [← hW] at CA BW
 have hmm := @run_makeMap Tryz.prog
 go_enter Tryz.func203, Tryz.ntmps203
 go_wp2_with fail
 rw [← hW]
 clear hW x0 x1 hWs
 refine (LF.out _ _ (zab BW.out BS.out (by omega)) RS.out).mono ?_
 rintro e w1 ⟨rfl, hb1⟩
 have A1 := zaa (zab BS.out hb1 BS.out.size)
 have B1 := zaa (zab BW.out A1.out (by omega))
 clear hb1 BS RS LF
 by_cases c1 : 65536 < s.size
 ·rw [if_pos c1]
  rw [if_pos c1] at EL
  obtain rfl := EL.out
  go_wp2
  go_ret2
  exact zcb B1.out
 rw [if_neg c1]
 rw [if_neg c1] at EL
 by_cases c1t : 65536 < t.size
 ·rw [if_pos c1t]
  rw [if_pos c1t] at EL
  obtain rfl := EL.out
  go_wp2
  go_ret2
  exact zcb B1.out
 rw [if_neg c1t]
 rw [if_neg c1t] at EL
 cases hi : zax ws ps with
 | false =>
  rw [hi] at EL
  obtain rfl := EL.out
  go_wp2
  go_ret2
  exact zcb B1.out
 | true =>
 rw [if_pos rfl]
 rw [hi, if_pos rfl] at EL
 have PE := PR.out c1t hi
 have PO2 := zaa (PO.out hi)
 obtain ⟨l16, l24, _⟩ := PA.out hi
 have L16 := zaa l16
 have L24 := zaa l24
 obtain ⟨bW, oW, rfl, hblW, hcellW⟩ := HW.out (by omega)
 obtain ⟨bP, oP, rfl, hblP, hcellP⟩ := HP.out (by omega)
 have HWc : Hid (∀ i (h : i < ws.length) w', Below w.heap.size w w' → w'.cell? ⟨bW, oW + i * 11, none⟩ = some (.int .i64 (zai ws (i : Int))) ∧ w'.cell? ⟨bW, oW + i * 11 + 2, none⟩ = some (.int .i64 (zcx ws (i : Int)))) := fun i h w' hb =>
  ⟨((hb.cell (p := ⟨bW, oW + i * 11, none⟩) hblW).trans (hcellW i h).1).trans (by rw [← zaz h]), ((hb.cell (p := ⟨bW, oW + i * 11 + 2, none⟩) hblW).trans (hcellW i h).2.2.1).trans (by rw [← zev h])⟩
 have HPc : Hid (∀ k (h : k < ps.length) w', Below w.heap.size w w' → w'.cell? ⟨bP, oP + k * 3 + 2, none⟩ = some (.int .i64 (zaj ps k))) := fun k h w' hb =>
  ((hb.cell (p := ⟨bP, oP + k * 3 + 2, none⟩) hblP).trans (hcellP k h).2.2).trans (by rw [← zba h])
 rw [PE] at ER
 clear PE PR PO PA HW HP hcellW hcellP l16 l24
 rw [KR.out c1 hi] at LL
 have LOi := LO.out hi
 have LFk := zaa (LFi.out hi)
 have f2 := FR.out hi
 have LK2 := zaa (fun w1 hb => LK.out w1 hb hi)
 have LRi := zaa (LR.out hi)
 rw [EI.out, EP.out] at EL
 clear KR LO LFi FR LK LR EI EP c1 c1t hi HPc hblP
 generalize paI ws ps t = pr at *
 generalize lkI ws ps s = lr at *
 generalize feI ps = fe at *
 obtain ⟨pd, pn, pc⟩ := pr
 obtain ⟨li, lc⟩ := lr
 simp only at EL PO2 LOi LFk ER LL
 obtain ⟨i, rfl⟩ : ∃ i : Nat, li = (i : Int) := ⟨li.toNat, by omega⟩
 have i16 : i < 16 := by omega
 have i1 : i < ws.length := by have := L16.out; omega
 have i0 : (0 : Int) ≤ (i : Int) := by omega
 have il : (i : Int) < (ws.length : Int) := by omega
 have lkr := LRi.out (i : Int) (by omega)
 have HWi := zaa (HWc.out i i1)
 have EN2 := zaa (EN.out (i : Int))
 have LDi2 := zaa (fun w1 hb => LDi.out (i : Int) w1 hb L16.out (by omega))
 clear EN LRi HWc LDi
 generalize zai ws (i : Int) = kd at *
 generalize zcx ws (i : Int) = lk at *
 generalize nnR ws ps t = nn at *
 obtain ⟨⟨nd, nname, nch⟩, nc⟩ := nn
 simp only at LN
 obtain ⟨x0, x1⟩ := CA.out _ A1.out
 go_wp2_with fail
 refine (LL.out _ B1.out).mono ?_
 rintro e w2 ⟨rfl, hb2⟩
 have A2 := zaa (zab A1.out hb2 A1.out.size)
 have B2 := zaa (zab B1.out hb2 B1.out.size)
 clear x0 x1
 obtain ⟨x0, x1⟩ := CA.out _ A2.out
 clear hb2 LL A1 B1
 by_cases c : lc = 0
 case neg =>
  rw [if_neg c] at EL
  obtain rfl := EL.out
  have q : (lc != 0) = true := by rw [bne_iff_ne]; exact c
  clear c EL
  go_wp2
  go_ret2
  exact zcb B2.out
 rw [if_pos c] at EL
 subst c
 go_wp2_with fail
 refine (LDi2.out _ B2.out).mono ?_
 rintro e w3 ⟨rfl, hb3⟩
 have A3 := zaa (zab A2.out hb3 A2.out.size)
 have B3 := zaa (zab B2.out hb3 B2.out.size)
 clear x0 x1 hb3 LDi2 A2 B2
 by_cases c : kd = 2
 ·rw [if_pos c] at EL
  obtain rfl := EL.out
  rw [show (kd == 2) = true by rw [c]; rfl]
  clear c EL
  go_wp2
  go_ret2
  exact zcb B3.out
 rw [if_neg c] at EL
 rw [show (kd == 2) = false by rw [beq_eq_false_iff_ne]; exact c]
 have ip := LFk.out (by first | rfl | trivial) c
 clear c LFk
 have M1 : Hid (Mp (w3.alloc (.map #[] 0)) w3.heap.size (.map [])) := zrw
 have A1m := zaa (A3.out.alloc A3.out.size (.map #[] 0))
 have B1m := zaa (B3.out.alloc B3.out.size (.map #[] 0))
 have z1 : W.heap.size ≤ w3.heap.size := A3.out.size
 obtain ⟨x0, x1⟩ := CA.out _ A1m.out
 go_wp2_with fail
 refine (LN.out _ _ _ B1m.out M1.out).mono ?_
 rintro e w4 ⟨rfl, -, hg4⟩
 have A4 := zaa (zdq A1m.out hg4 z1)
 have B4 := zaa (zab BW.out A4.out (by omega))
 have z4 : W.heap.size ≤ w4.heap.size := A4.out.size
 clear x0 x1 hg4 LN M1 A3 B3 A1m B1m hmm z1
 have AX := zaa (A4.out.alloc A4.out.size (.cells #[.int .i64 nd, .string nname, .int .i64 nch] 180))
 have BX := zaa (B4.out.alloc B4.out.size (.cells #[.int .i64 nd, .string nname, .int .i64 nch] 180))
 obtain ⟨x0, x1⟩ := CA.out _ AX.out
 by_cases c : pc = 0
 case neg =>
  rw [if_neg c] at EL ER
  obtain rfl := EL.out
  have e2 := ER.out
  simp only [Prod.mk.injEq] at e2
  obtain ⟨-, rfl⟩ := e2
  have q : (nc != 0) = true := by rw [bne_iff_ne]; exact c
  clear c EL ER
  go_wp2
  go_ret2
  exact zcb BX.out
 rw [if_pos c] at EL ER
 subst c
 rw [EM.out] at ER
 rw [EN2.out] at EL
 obtain ⟨p1, -, p3⟩ := PO2.out rfl
 have NM := zaa p3
 have EO := ENO.out pd pn
 clear PO2 p3 EM EN2 ENO
 cases he : zbb ps pd pn with
 | some k =>
  have e8 : 0 ≤ zkl ps pd pn := by rw [zht he]; omega
  rw [if_pos e8] at EL
  rw [he] at ER
  obtain rfl := EL.out
  have e2 := ER.out
  simp only [Prod.mk.injEq] at e2
  obtain ⟨-, rfl⟩ := e2
  clear e8 EL ER he EO
  go_wp2
  go_ret2
  exact zcb BX.out
 | none =>
 have e8 := EO.1 he
 rw [if_neg (by omega)] at EL
 rw [he] at ER
 have e2 := ER.out
 simp only [Prod.mk.injEq, Den.mk.injEq] at e2
 obtain ⟨⟨rfl, rfl, rfl⟩, rfl⟩ := e2
 clear e8 ER he EO
 go_wp2_with fail
 refine (LK2.out _ BX.out).mono ?_
 rintro e w5 ⟨rfl, hb5⟩
 have V5 : Hid (w5.heap[w4.heap.size]? = some (.cells #[.int .i64 nd, .string nname, .int .i64 0] 180 (0, 0))) := (hb5.block _ (by simp)).trans (zah rfl)
 have A5 := zaa (zab AX.out hb5 AX.out.size)
 have B5 := zaa (zab BX.out hb5 BX.out.size)
 clear hb5 LK2 AX BX A4 B4 x0 x1
 obtain ⟨t0, t1, t2⟩ := zay V5.out
 have u2 := (zae (xs := [.int .i64 nd, .string nname, .int .i64 0]) V5.out 2).2
 have wz : w4.heap.size < w5.heap.size := (Array.getElem?_eq_some_iff.1 V5.out).1
 by_cases c3 : fe < 0
 ·rw [show zfy fe = 0 from if_pos c3, show zfi fe = 7 from if_pos c3]
  rw [if_pos c3] at EL
  obtain rfl := EL.out
  clear EL c3
  go_wp2
  go_ret2
  exact zcb B5.out
 rw [show zfy fe = fe from if_neg c3, show zfi fe = 0 from if_neg c3]
 rw [if_neg c3] at EL
 have S := zaa (zvq (u := .int .i64 (i : Int)) t0 t1 t2)
 have A6 : Hid (Below W.heap.size W (w5.setCell ⟨w4.heap.size, 2, none⟩ (.int .i64 (i : Int)))) := A5.out.setCell (by simp only; omega) _
 have z6 : w5.heap.size ≤ (w5.setCell ⟨w4.heap.size, 2, none⟩ (.int .i64 (i : Int))).heap.size := by simp [World.setCell]
 obtain ⟨s0, s1, s2⟩ := S.out
 obtain ⟨d1, d2⟩ := du_ok (k := fe) (x := ⟨nd, nname, (i : Int)⟩) (by omega) (okB_new p1 NM.out (by omega))
 have LD2 := zaa (fun w1 hb => LD.out fe ⟨nd, nname, (i : Int)⟩ w1 hb (by show nname.size ≤ maxLen; have := (zcz NM.out).2.1; unfold maxLen; omega))
 rw [d1, d2, show (Den.mk nd nname (i : Int)).v = .agg #[.int .i64 nd, .string nname, .int .i64 (i : Int)] from rfl] at LD2
 have l3 : (enL fe ⟨nd, nname, (i : Int)⟩).length ≤ 3 := Nat.le_refl _
 generalize enL fe ⟨nd, nname, (i : Int)⟩ = L at *
 have LU := zaa (fun x w1 => zcr (i : Int) 2 x w1 (by omega) (by omega))
 have wpl : IntKind.i64.wrap (lk + 1) = lk + 1 := by rw [IntKind.wrap_i64]; omega
 obtain rfl := EL.out
 clear d1 d2 LD EL
 go_wp2_with fail
 obtain ⟨w6, hw6⟩ : ∃ w6, w6 = w5.setCell ⟨w4.heap.size, 2, none⟩ (.int .i64 (i : Int)) := ⟨_, rfl⟩
 rw [← hw6]
 rw [← hw6] at A6
 clear hw6 t0 t1 t2 u2 s0 s1 s2 S z6 A5 B5 V5 wz
 have B6 := zaa (zab BW.out A6.out (by omega))
 refine (LD2.out _ B6.out).mono ?_
 rintro e w7 ⟨v7, rfl, hr7, hb7⟩
 have J7 : Hid (UpI w6 w7 v7 L) := ⟨hr7.1, hb7⟩
 obtain ⟨-, aE, cE, hvE, -⟩ := hr7.rd
 subst hvE
 have A7 := zaa (zab A6.out hb7 A6.out.size)
 have B7 := zaa (zab B6.out hb7 B6.out.size)
 obtain ⟨x0, x1⟩ := CA.out _ A7.out
 have y2 := (HWi.out _ B7.out).2
 clear hr7 hb7 LD2 A6 A7 CA HWi
 go_wp2_with fail
 refine (LU.out _ _).mono ?_
 rintro e w8 ⟨rfl, hb8⟩
 have J8 := zaa (J7.out.below hb8)
 clear hb8 x0 x1 y2 J7 LU
 have J9 := zaa (J8.out.below ((Below.refl _ _).alloc (Nat.le_refl _) (.cells #[.int .i64 (48 + 12 * (i : Int) + 2), .int .i64 (lk + 1)] 130)))
 have R9 := zaa (zfv w8 (48 + 12 * (i : Int) + 2) (lk + 1))
 have z9 : w6.heap.size ≤ (w8.alloc (.cells #[.int .i64 (48 + 12 * (i : Int) + 2), .int .i64 (lk + 1)] 130)).heap.size := J9.out.z
 go_wp2_with (at_builtin; refine zag _ rfl (.tmp 63) (.tmp 73) 57 rfl w6.heap.size 130 (.agg #[.int .i64 0, .int .i64 0]) 2 16 Tryz.underlying57 zff rfl (by decide) _ _ _ rfl J9.out.l _ _ _ rfl R9.out (zco _) (by simp [maxLen]; omega) (by omega) z9 ?_)
 intro vN wN hownN hgrN
 have G := zaa (J9.out.grow [⟨48 + 12 * (i : Int) + 2, lk + 1⟩] hownN hgrN)
 have G2 := zaa (G.out.wide B6.out)
 obtain ⟨-, aN, cN, hvN, -⟩ := (zad G2.out.l).rd
 subst hvN
 clear hownN hgrN J8 J9 R9 G
 go_wp2
 go_ret2
 exact znq 0 G2.out
set_option maxRecDepth 100000 in
set_option maxHeartbeats 16000000 in
theorem zkq (v : Value) (ws : List Ino) (ps : List Den) (s t : ByteArray) (w : World) (h : RdIm w v ws ps) (hw : ws.length ≤ 1048576) (hp : ps.length ≤ 1048576) (hT : TS w) (hE : ED w) (hF : FD w) (hr : ∀ k (h : k < ws.length), ws[k].R) (hs : ∀ k (h : k < ps.length), ps[k].name.size ≤ maxLen) :
  Calls Tryz.prog 204 #[v, .string s, .string t] w fun e w' => zer w w' e (rnR ws ps s t) := by
 have LF := zaa (fun vL w1 (hb : Below w.heap.size w w1) hL => zgw v vL ws ps [s, t] w1 (h.below hb) hL (by simp) hw hp (hT.below hb) (hE.below hb) (hF.below hb) hr hs)
 have LN := zaa (fun b D w1 (hb : Below w.heap.size w w1) hm => zjj v ws ps t b D w1 (h.below hb) hw hp (hT.below hb) (hE.below hb) (hF.below hb) hr hs hm)
 have LD := zaa (fun k x w1 (hb : Below w.heap.size w w1) hs => zby k x w1 (hF.below hb) hs)
 rw [pf_two] at LF
 have ER := zaa (show nnR ws ps t = if (paR ws ps t).2.2 = 0 then nnN ps (paR ws ps t).1 (paR ws ps t).2.1 else (zql, (paR ws ps t).2.2) from rfl)
 have EM := zaa (fun d nm => show nnN ps d nm = match zbb ps d nm with | none => (⟨d, nm, 0⟩, 0) | some _ => (zql, 8) from rfl)
 have PR := zaa (@zjw ws ps t)
 have PO := zaa (fun hi c => zib (ws := ws) (ps := ps) (s := t) hi c)
 have ENO := zaa (fun d nm => @zpx ps d nm)
 have PA := zaa (fun hi => zao (ws := ws) (ps := ps) hi)
 have LL := zaa (fun b D w1 (hb : Below w.heap.size w w1) hm => zpo v ws ps s b D w1 (h.below hb) hw hp (hT.below hb) (hE.below hb) (hF.below hb) hr hs hm)
 have LB := zaa (fun a b w1 (hb : Below w.heap.size w w1) => znw v ws ps a b w1 (h.below hb) hw hp (hT.below hb) (hE.below hb) (hF.below hb) hr hs)
 have EL := zaa (show rnR ws ps s t = if 65536 < s.size then ([], 2) else if 65536 < t.size then ([], 2) else if zax ws ps = true then rnI ws ps s t else ([], 1) from rfl)
 have EI := zaa (show rnI ws ps s t = if (paI ws ps s).2.2 = 0 then rnE ws ps t (paI ws ps s).1 (paI ws ps s).2.1 else ([], (paI ws ps s).2.2) from rfl)
 have EE := zaa (fun d nm => show rnE ws ps t d nm = match zbb ps d nm with | none => ([], 5) | some k => rnP ws ps t k from rfl)
 have EP := zaa (fun k => show rnP ws ps t k = if (paI ws ps t).2.2 = 0 then rnN ws ps k (paI ws ps t).1 (paI ws ps t).2.1 else ([], (paI ws ps t).2.2) from rfl)
 have EN := zaa (fun k d nm => show rnN ws ps k d nm = if 0 ≤ zkl ps d nm then ([], 8) else if zai ws (zaj ps k) = 2 ∧ zjg ps 17 d (zaj ps k) = true then ([], 13) else (enL (k : Int) ⟨d, nm, zaj ps k⟩, 0) from rfl)
 have RR0 := zaa (show erR ws ps s = if (paR ws ps s).2.2 = 0 then erN ps (paR ws ps s).1 (paR ws ps s).2.1 else (0, (paR ws ps s).2.2) from rfl)
 have RN := zaa (fun d nm => show erN ps d nm = match zbb ps d nm with | none => (0, 5) | some k => ((k : Int), 0) from rfl)
 have PRs := zaa (@zjw ws ps s)
 have CR := zaa (fun hi d nm k e => And.intro (zda (ws := ws) (ps := ps) hi (d := d) (nm := nm) (k := k) e) (zuu hi e))
 have BE1 := zaa (fun hi a b q r => be_ok (ws := ws) (ps := ps) (a := a) (b := b) hi q r)
 have BE2 := zaa (fun hi a b q r => be_nodir (ws := ws) (ps := ps) (a := a) (b := b) hi q r)
 obtain ⟨vW, vP, rfl, h1, h2⟩ := h
 obtain ⟨aW, cW, rfl, _, hcW⟩ := h1.shape
 obtain ⟨aP, cP, rfl, _, hcP⟩ := h2.shape
 have HW := zaa hcW
 have HP := zaa hcP
 clear h1 h2 hr hs hT hE hF hcW hcP
 have CA : Hid (∀ w', Below (w.alloc (.cells #[.slice aW ws.length cW, .slice aP ps.length cP] 63)).heap.size (w.alloc (.cells #[.slice aW ws.length cW, .slice aP ps.length cP] 63)) w' → w'.cell? ⟨w.heap.size, 0, none⟩ = some (.slice aW ws.length cW) ∧ w'.cell? ⟨w.heap.size, 1, none⟩ = some (.slice aP ps.length cP)) := fun w' hb => by
  have : w'.heap[w.heap.size]? = some (.cells #[.slice aW ws.length cW, .slice aP ps.length cP] 63 (0, 0)) := (hb.block _ (by simp)).trans (zah rfl)
  exact ⟨(zac this).1, (zac this).2.1⟩
 have BW : Hid (Below w.heap.size w (w.alloc (.cells #[.slice aW ws.length cW, .slice aP ps.length cP] 63))) := (Below.refl _ _).alloc (Nat.le_refl _) _
 obtain ⟨x0, x1⟩ := CA.out _ (Below.refl _ _)
 generalize hmr : rnR ws ps s t = res at *
 clear hmr
 obtain ⟨W, hW⟩ : ∃ W, W = w.alloc (.cells #[.slice aW ws.length cW, .slice aP ps.length cP] 63) := ⟨_, rfl⟩
 have RS : Hid (RdT (W.alloc (.cells #[.string s, .string t] 9)) (.slice (some ⟨W.heap.size, 0, none⟩) 2 2) [s, t]) := by
  refine ⟨rfl, _, _, rfl, ⟨Nat.le_refl _, fun e => by cases e⟩, fun _ => ⟨W.heap.size, 0, rfl, by simp, fun j hj => ?_⟩⟩
  have e0 := (zae (xs := [.string s, .string t]) (zah (w := W) (o := .cells #[.string s, .string t] 9) rfl) j).1
  rw [Nat.zero_add]
  rw [e0]
  rfl
 have hz : w.heap.size < W.heap.size := by rw [hW]; simp
 have BS : Hid (Below W.heap.size W (W.alloc (.cells #[.string s, .string t] 9))) := (Below.refl _ _).alloc (Nat.le_refl _) _
 have hWs : W.heap.size = w.heap.size + 1 := by rw [hW]; simp
 rw [hWs] at RS
 rw [← hW] at CA BW
 have hmm := @run_makeMap Tryz.prog
 go_enter Tryz.func204, Tryz.ntmps204
 go_wp2_with fail
 rw [← hW]
 clear hW x0 x1 hWs
 refine (LF.out _ _ (zab BW.out BS.out (by omega)) RS.out).mono ?_
 rintro e w1 ⟨rfl, hb1⟩
 have A1 := zaa (zab BS.out hb1 BS.out.size)
 have B1 := zaa (zab BW.out A1.out (by omega))
 clear hb1 BS RS LF
 by_cases c1 : 65536 < s.size
 ·rw [if_pos c1]
  rw [if_pos c1] at EL
  obtain rfl := EL.out
  go_wp2
  go_ret2
  exact zcb B1.out
 rw [if_neg c1]
 rw [if_neg c1] at EL
 by_cases c1t : 65536 < t.size
 ·rw [if_pos c1t]
  rw [if_pos c1t] at EL
  obtain rfl := EL.out
  go_wp2
  go_ret2
  exact zcb B1.out
 rw [if_neg c1t]
 rw [if_neg c1t] at EL
 cases hi : zax ws ps with
 | false =>
  rw [hi] at EL
  obtain rfl := EL.out
  go_wp2
  go_ret2
  exact zcb B1.out
 | true =>
 rw [if_pos rfl]
 rw [hi, if_pos rfl] at EL
 have PE := PR.out c1t hi
 have PO2 := zaa (PO.out hi)
 obtain ⟨l16, l24, _⟩ := PA.out hi
 have L16 := zaa l16
 have L24 := zaa l24
 obtain ⟨bW, oW, rfl, hblW, hcellW⟩ := HW.out (by omega)
 obtain ⟨bP, oP, rfl, hblP, hcellP⟩ := HP.out (by omega)
 have HWc : Hid (∀ i (h : i < ws.length) w', Below w.heap.size w w' → w'.cell? ⟨bW, oW + i * 11, none⟩ = some (.int .i64 (zai ws (i : Int))) ∧ w'.cell? ⟨bW, oW + i * 11 + 2, none⟩ = some (.int .i64 (zcx ws (i : Int)))) := fun i h w' hb =>
  ⟨((hb.cell (p := ⟨bW, oW + i * 11, none⟩) hblW).trans (hcellW i h).1).trans (by rw [← zaz h]), ((hb.cell (p := ⟨bW, oW + i * 11 + 2, none⟩) hblW).trans (hcellW i h).2.2.1).trans (by rw [← zev h])⟩
 have HPc : Hid (∀ k (h : k < ps.length) w', Below w.heap.size w w' → w'.cell? ⟨bP, oP + k * 3 + 2, none⟩ = some (.int .i64 (zaj ps k))) := fun k h w' hb =>
  ((hb.cell (p := ⟨bP, oP + k * 3 + 2, none⟩) hblP).trans (hcellP k h).2.2).trans (by rw [← zba h])
 rw [PE] at ER
 clear PE PR PO PA HW HP hcellW hcellP l16 l24
 rw [PRs.out c1 hi] at RR0
 rw [EI.out] at EL
 have CRi := zaa (CR.out hi)
 have BEa := zaa (BE1.out hi)
 have BEb := zaa (BE2.out hi)
 clear PRs EI c1 c1t hi CR BE1 BE2 HWc hblW
 generalize paI ws ps t = pt at *
 generalize paI ws ps s = pr at *
 obtain ⟨pd, pn, pc⟩ := pr
 obtain ⟨td, tn, tc⟩ := pt
 simp only at EL PO2 ER RR0 EP
 generalize nnR ws ps t = nn at *
 obtain ⟨⟨nd, nname, nch⟩, nc⟩ := nn
 generalize erR ws ps s = er at *
 obtain ⟨ek, ec⟩ := er
 simp only at LN LL
 have M1 : Hid (Mp (w1.alloc (.map #[] 0)) w1.heap.size (.map [])) := zrw
 have A1m := zaa (A1.out.alloc A1.out.size (.map #[] 0))
 have B1m := zaa (B1.out.alloc B1.out.size (.map #[] 0))
 have z1 : W.heap.size ≤ w1.heap.size := A1.out.size
 obtain ⟨x0, x1⟩ := CA.out _ A1m.out
 go_wp2_with fail
 refine (LL.out _ _ _ B1m.out M1.out).mono ?_
 rintro e w2 ⟨rfl, ⟨D2, hm2⟩, hg2⟩
 have A2 := zaa (zdq A1m.out hg2 z1)
 have B2 := zaa (zab BW.out A2.out (by omega))
 have M2 := zaa hm2
 clear x0 x1 hg2 LL M1 A1 B1 A1m B1m hmm hm2
 by_cases c : pc = 0
 case neg =>
  rw [if_neg c] at EL RR0
  obtain rfl := EL.out
  have e2 := RR0.out
  simp only [Prod.mk.injEq] at e2
  obtain ⟨-, rfl⟩ := e2
  have q : (ec != 0) = true := by rw [bne_iff_ne]; exact c
  clear c EL RR0
  go_wp2
  go_ret2
  exact zcb B2.out
 rw [if_pos c] at EL RR0
 subst c
 rw [RN.out] at RR0
 rw [EE.out] at EL
 clear EE RN
 cases he : zbb ps pd pn with
 | none =>
  rw [he] at EL RR0
  obtain rfl := EL.out
  have e2 := RR0.out
  simp only [Prod.mk.injEq] at e2
  obtain ⟨-, rfl⟩ := e2
  clear EL RR0
  go_wp2
  go_ret2
  exact zcb B2.out
 | some k =>
 rw [he] at EL RR0
 have e2 := RR0.out
 simp only [Prod.mk.injEq] at e2
 obtain ⟨rfl, rfl⟩ := e2
 have EL2 : Hid (res = rnP ws ps t k) := EL.out
 rw [EP.out] at EL2
 obtain ⟨⟨k1, k2⟩, k3⟩ := CRi.out _ _ _ he
 have EN2 := zaa (EN.out k)
 have HPk := zaa (HPc.out k k1)
 obtain ⟨i, hi'⟩ : ∃ i : Nat, zaj ps k = (i : Int) := ⟨(zaj ps k).toNat, by omega⟩
 rw [hi'] at EN2 HPk k3
 have k24 : k < 24 := by have := L24.out; omega
 have i16 : i < 16 := by omega
 have kl : (k : Int) < (ps.length : Int) := by omega
 have k0 : (0 : Int) ≤ (k : Int) := by omega
 have i0 : (0 : Int) ≤ (i : Int) := by omega
 clear EL EP EN CRi HPc he hi' k2 RR0
 obtain ⟨x0, x1⟩ := CA.out _ A2.out
 go_wp2_with fail
 refine (LN.out _ _ _ B2.out M2.out).mono ?_
 rintro e w4 ⟨rfl, -, hg4⟩
 have A4 := zaa (zdq A2.out hg4 z1)
 have B4 := zaa (zab BW.out A4.out (by omega))
 have z4 : W.heap.size ≤ w4.heap.size := A4.out.size
 clear x0 x1 hg4 LN M2 A2 B2
 have AX := zaa (A4.out.alloc A4.out.size (.cells #[.int .i64 nd, .string nname, .int .i64 nch] 180))
 have BX := zaa (B4.out.alloc B4.out.size (.cells #[.int .i64 nd, .string nname, .int .i64 nch] 180))
 by_cases c : tc = 0
 case neg =>
  rw [if_neg c] at EL2 ER
  obtain rfl := EL2.out
  have e2 := ER.out
  simp only [Prod.mk.injEq] at e2
  obtain ⟨-, rfl⟩ := e2
  have q : (nc != 0) = true := by rw [bne_iff_ne]; exact c
  clear c EL2 ER
  go_wp2
  go_ret2
  exact zcb BX.out
 rw [if_pos c] at EL2 ER
 subst c
 rw [EM.out] at ER
 rw [EN2.out] at EL2
 obtain ⟨p1, p2, p3⟩ := PO2.out rfl
 have NM := zaa p3
 have EO := ENO.out td tn
 clear PO2 p3 EM EN2 ENO
 cases he : zbb ps td tn with
 | some k' =>
  have e8 : 0 ≤ zkl ps td tn := by rw [zht he]; omega
  rw [if_pos e8] at EL2
  rw [he] at ER
  obtain rfl := EL2.out
  have e2 := ER.out
  simp only [Prod.mk.injEq] at e2
  obtain ⟨-, rfl⟩ := e2
  clear e8 EL2 ER he EO
  go_wp2
  go_ret2
  exact zcb BX.out
 | none =>
 have e8 := EO.1 he
 rw [if_neg (by omega)] at EL2
 rw [he] at ER
 have e2 := ER.out
 simp only [Prod.mk.injEq, Den.mk.injEq] at e2
 obtain ⟨⟨rfl, rfl, rfl⟩, rfl⟩ := e2
 clear e8 ER he EO
 obtain ⟨w5, hw5⟩ : ∃ w5, w5 = w4.alloc (.cells #[.int .i64 nd, .string nname, .int .i64 (i : Int)] 180) := ⟨_, rfl⟩
 have V5 : Hid (w5.heap[w4.heap.size]? = some (.cells #[.int .i64 nd, .string nname, .int .i64 (i : Int)] 180 (0, 0))) := by rw [hw5]; exact zah rfl
 have A5 : Hid (Below W.heap.size W w5) := by rw [hw5]; exact A4.out.alloc A4.out.size _
 have B5 := zaa (zab BW.out A5.out (by omega))
 obtain ⟨x0, x1⟩ := CA.out _ AX.out
 obtain ⟨x0', x1'⟩ := CA.out _ A5.out
 rw [hw5] at x0' x1'
 have y0 := HPk.out _ BX.out
 obtain ⟨d1, d2⟩ := du_ok (k := (k : Int)) (x := ⟨nd, nname, (i : Int)⟩) (by omega) (okB_new p1 NM.out (by omega))
 have LD2 := zaa (fun w1 hb => LD.out (k : Int) ⟨nd, nname, (i : Int)⟩ w1 hb (by show nname.size ≤ maxLen; have := (zcz NM.out).2.1; unfold maxLen; omega))
 rw [d1, d2, show (Den.mk nd nname (i : Int)).v = .agg #[.int .i64 nd, .string nname, .int .i64 (i : Int)] from rfl] at LD2
 have BV : Hid (beV ws ps nd (i : Int) = true ↔ zai ws (i : Int) = 2 ∧ zjg ps 17 nd (i : Int) = true) := by
  show _ ↔ _
  by_cases q : zai ws (i : Int) = 2
  ·rw [(BEa.out nd (i : Int) ⟨p1, by omega⟩ ⟨p2, q⟩).2]
   exact ⟨fun h => ⟨q, h⟩, fun h => h.2⟩
  ·rw [(BEb.out nd (i : Int) ⟨p1, by omega⟩ (fun h => q h.2)).2]
   exact ⟨fun h => (by cases h), fun h => absurd h.1 q⟩
 have LB2 := zaa (fun w1 hb => LB.out nd (i : Int) w1 hb)
 clear LB BEa BEb d1 d2 LD
 generalize enL (k : Int) ⟨nd, nname, (i : Int)⟩ = L at *
 generalize beV ws ps nd (i : Int) = bv at *
 generalize beC ws ps nd (i : Int) = bc at *
 go_wp2_with fail
 rw [← hw5]
 clear hw5 x0 x1 x0' x1' y0 AX BX A4 B4 HPk
 refine (LB2.out _ B5.out).mono ?_
 rintro e w6 ⟨rfl, hb6⟩
 have B6 := zaa (zab B5.out hb6 B5.out.size)
 have V6 : Hid (w6.heap[w4.heap.size]? = some (.cells #[.int .i64 nd, .string nname, .int .i64 (i : Int)] 180 (0, 0))) := (hb6.block _ ((Array.getElem?_eq_some_iff.1 V5.out).1)).trans V5.out
 clear hb6 LB2 A5 B5 V5 CA
 cases bv with
 | true =>
  rw [if_pos (BV.out.1 rfl)] at EL2
  obtain rfl := EL2.out
  clear EL2 BV
  go_wp2
  go_ret2
  exact zcb B6.out
 | false =>
 rw [if_neg (fun h => by cases BV.out.2 h)] at EL2
 obtain rfl := EL2.out
 obtain ⟨t0, t1, t2⟩ := zay V6.out
 clear EL2 BV
 go_wp2_with fail
 refine (LD2.out _ B6.out).mono ?_
 rintro e w7 ⟨v7, rfl, hr7, hb7⟩
 have R7 := zaa (hr7.wide B6.out.size (Nat.le_refl _))
 have B7 := zaa (zab B6.out hb7 B6.out.size)
 obtain ⟨-, aE, cE, hvE, -⟩ := hr7.rd
 subst hvE
 clear hr7 hb7 t0 t1 t2
 go_wp2
 go_ret2
 exact ⟨_, rfl, R7.out, B7.out⟩
end Go.Proofs.YtcilodgoognmnaaGreatDoor

namespace Go.Proofs.YtcilodgoognmnaaGreatDoor
open Go.RowKit
def flR (ns : List Ino) (ds : List Den) (s : ByteArray) : Int × Int := if 65536 < s.size then (0, 2) else if zax ns ds = true then flI ns ds s else (0, 1)
def faI (ns : List Ino) (r : Int × Int) : Ino := if r.2 = 0 then zcf ns r.1.toNat else zbf
theorem fl_right {ns : List Ino} {ds : List Den} {s : ByteArray} (h : (flR ns ds s).2 = 0) : zax ns ds = true ∧ ¬ 65536 < s.size ∧ flR ns ds s = flI ns ds s := by
 unfold flR at h ⊢
 by_cases c : 65536 < s.size
 ·rw [if_pos c] at h
  simp at h
 ·rw [if_neg c] at h ⊢
  by_cases d : zax ns ds = true
  ·rw [if_pos d]
   exact ⟨d, c, rfl⟩
  ·rw [if_neg d] at h
   simp at h
theorem fl_ways (ns : List Ino) (ds : List Den) (s : ByteArray) : (¬ (lkR ns ds s).2 = 0 ∧ flR ns ds s = (0, (lkR ns ds s).2)) ∨ ((lkR ns ds s).2 = 0 ∧ zax ns ds = true ∧ ∃ i : Nat, i < 16 ∧ (lkR ns ds s).1 = (i : Int) ∧ ((zai ns (i : Int) = 2 ∧ flR ns ds s = (0, 9)) ∨ (¬ zai ns (i : Int) = 2 ∧ flR ns ds s = ((i : Int), 0)))) := by
 unfold lkR flR
 by_cases c : 65536 < s.size
 ·rw [if_pos c, if_pos c]
  exact .inl ⟨by simp, rfl⟩
 ·rw [if_neg c, if_neg c]
  by_cases d : zax ns ds = true
  ·rw [if_pos d, if_pos d]
   unfold flI
   by_cases e : (lkI ns ds s).2 = 0
   ·rw [if_pos e]
    refine .inr ⟨e, d, ?_⟩
    by_cases f : zai ns (lkI ns ds s).1 = 2
    ·have k := zme (s := s) d
     rw [if_neg (by rw [f]; omega)]
     exact ⟨(lkI ns ds s).1.toNat, by omega, by omega, .inl ⟨by rw [show (((lkI ns ds s).1.toNat : Nat) : Int) = (lkI ns ds s).1 by omega]; exact f, rfl⟩⟩
    ·obtain ⟨i, ei, hi, -, k⟩ := znj (zca.1 d) e f
     have k1 : zai ns (lkI ns ds s).1 = 1 := by
      rw [ei, zaz (show i < ns.length by have := (zao d).1; omega), ← zcn]
      exact k
     rw [if_pos k1]
     exact ⟨i, hi, ei, .inr ⟨by rw [← ei]; exact f, by rw [ei]⟩⟩
   ·rw [if_neg e]
    exact .inl ⟨e, rfl⟩
  ·rw [if_neg d, if_neg d]
   exact .inl ⟨by simp, rfl⟩
set_option maxRecDepth 100000 in
set_option maxHeartbeats 8000000 in
theorem zhd (v : Value) (ns : List Ino) (ds : List Den) (s : ByteArray) (w : World) (h : RdIm w v ns ds) (hw : ns.length ≤ 1048576) (hp : ds.length ≤ 1048576) (hT : TS w) (hE : ED w) (hF : FD w) (hr : ∀ k (h : k < ns.length), ns[k].R) (hs : ∀ k (h : k < ds.length), ds[k].name.size ≤ maxLen) :
  ∀ x, x = faI ns (flR ns ds s) → Calls Tryz.prog 46 #[v, .string s] w fun e w' => e = .returned (.tuple #[.agg #[.int .i64 x.kind, .int .i64 x.size, .int .i64 x.links, .int .i64 x.m0, .int .i64 x.m1, .int .i64 x.m2, .int .i64 x.m3, .int .i64 x.m4, .int .i64 x.m5, .int .i64 x.m6, .int .i64 x.m7, .int .i64 (flR ns ds s).1], .int .i64 (flR ns ds s).2]) ∧ Below w.heap.size w w' := by
 intro x hx
 have HX := zaa hx
 have LL := zaa (fun w1 (hb : Below w.heap.size w w1) => zdr v ns ds s w1 (h.below hb) hw hp (hT.below hb) (hE.below hb) (hF.below hb) hr hs)
 have LD := zaa (fun (hi : zax ns ds = true) (i : Nat) (h16 : i < 16) w1 (hb : Below w.heap.size w w1) => zhu v ns ds (i : Int) w1 (h.below hb) (zao hi).1 (by omega))
 have WAYS := zaa (fl_ways ns ds s)
 have L16 := zaa (fun hi => (zao (ws := ns) (ps := ds) hi).1)
 obtain ⟨vW, vP, rfl, h1, h2⟩ := h
 obtain ⟨aW, cW, rfl, _, hcW⟩ := h1.shape
 obtain ⟨aP, cP, rfl, _, hcP⟩ := h2.shape
 have HW := zaa hcW
 clear h1 h2 hr hs hT hE hF hcW hcP hx hw hp
 obtain ⟨W, hW⟩ : ∃ W, W = (w.alloc (.cells #[.slice aW ns.length cW, .slice aP ds.length cP] 63)).alloc (.cells #[.int .i64 0, .int .i64 0, .int .i64 0, .int .i64 0, .int .i64 0, .int .i64 0, .int .i64 0, .int .i64 0, .int .i64 0, .int .i64 0, .int .i64 0, .int .i64 0] 99) := ⟨_, rfl⟩
 have hzW : W.heap.size = w.heap.size + 1 + 1 := by rw [hW]; simp
 have CA : Hid (∀ w', Below W.heap.size W w' → w'.cell? ⟨w.heap.size, 0, none⟩ = some (.slice aW ns.length cW) ∧ w'.cell? ⟨w.heap.size, 1, none⟩ = some (.slice aP ds.length cP)) := fun w' hb => by
  have : w'.heap[w.heap.size]? = some (.cells #[.slice aW ns.length cW, .slice aP ds.length cP] 63 (0, 0)) := (hb.block _ (by omega)).trans (by rw [hW]; exact zau (zah rfl))
  exact ⟨(zac this).1, (zac this).2.1⟩
 have CR : Hid (∀ w', Below W.heap.size W w' → w'.heap[w.heap.size + 1]? = some (.cells ([.int .i64 0, .int .i64 0, .int .i64 0, .int .i64 0, .int .i64 0, .int .i64 0, .int .i64 0, .int .i64 0, .int .i64 0, .int .i64 0, .int .i64 0, .int .i64 0] : List Value).toArray 99 (0, 0))) := fun w' hb => (hb.block _ (by omega)).trans (by
  rw [hW]
  have := zah (w := w.alloc (.cells #[.slice aW ns.length cW, .slice aP ds.length cP] 63)) (o := .cells #[.int .i64 0, .int .i64 0, .int .i64 0, .int .i64 0, .int .i64 0, .int .i64 0, .int .i64 0, .int .i64 0, .int .i64 0, .int .i64 0, .int .i64 0, .int .i64 0] 99) rfl
  rw [World.size_alloc] at this
  exact this)
 have BW : Hid (Below w.heap.size w W) := by rw [hW]; exact ((Below.refl _ _).alloc (Nat.le_refl _) _).alloc (by simp) _
 have hz0 : w.heap.size + 1 < W.heap.size := by omega
 clear hzW
 obtain ⟨x0, x1⟩ := CA.out _ (Below.refl _ _)
 generalize flR ns ds s = res at *
 generalize lkR ns ds s = lr at *
 obtain ⟨li, lc⟩ := lr
 simp only at WAYS LL
 go_enter Tryz.func46, Tryz.ntmps46
 go_wp2_with fail
 rw [← hW]
 clear hW x0 x1
 refine (LL.out _ BW.out).mono ?_
 rintro e w1 ⟨rfl, hb1⟩
 have A1 := zaa hb1
 have B1 := zaa (zab BW.out A1.out BW.out.size)
 have hz1 : w.heap.size + 1 < w1.heap.size := Nat.lt_of_lt_of_le hz0 A1.out.size
 clear hb1 LL
 rcases WAYS.out with ⟨c, rfl⟩ | ⟨rfl, hi, i, i16, rfl, c⟩
 ·have q : (lc != 0) = true := by rw [bne_iff_ne]; exact c
  obtain rfl : x = zbf := HX.out.trans (if_neg c)
  have E := zaa (zae (CR.out _ A1.out))
  have p0 := (E.out 0).1
  have f0 := (E.out 0).2
  have p1 := (E.out 1).1
  have f1 := (E.out 1).2
  have p2 := (E.out 2).1
  have f2 := (E.out 2).2
  have p3 := (E.out 3).1
  have f3 := (E.out 3).2
  have p4 := (E.out 4).1
  have f4 := (E.out 4).2
  have p5 := (E.out 5).1
  have f5 := (E.out 5).2
  have p6 := (E.out 6).1
  have f6 := (E.out 6).2
  have p7 := (E.out 7).1
  have f7 := (E.out 7).2
  have p8 := (E.out 8).1
  have f8 := (E.out 8).2
  have p9 := (E.out 9).1
  have f9 := (E.out 9).2
  have p10 := (E.out 10).1
  have f10 := (E.out 10).2
  have p11 := (E.out 11).1
  have f11 := (E.out 11).2
  simp only [List.getElem?_cons_zero, List.getElem?_cons_succ] at p0 p1 p2 p3 p4 p5 p6 p7 p8 p9 p10 p11
  clear CR CA WAYS LD HW L16 c
  go_wp2
  refine bodyPost_ret (v := .tuple #[.agg #[.int .i64 0, .int .i64 0, .int .i64 0, .int .i64 0, .int .i64 0, .int .i64 0, .int .i64 0, .int .i64 0, .int .i64 0, .int .i64 0, .int .i64 0, .int .i64 0], .int .i64 lc]) (by simp [results, Tryz.results46, go_sem, p0, p1, p2, p3, p4, p5, p6, p7, p8, p9, p10, p11]) rfl ⟨rfl, ?_⟩
  repeat (first | with_reducible exact B1.out | refine Below.setCell ?_ (by simp only; omega) _)
 ·have LD2 := zaa (LD.out hi i i16)
  have i1 : i < ns.length := by have := L16.out hi; omega
  have i0 : (0 : Int) ≤ (i : Int) := by omega
  have il : (i : Int) < (ns.length : Int) := by omega
  obtain ⟨bW, oW, rfl, hblW, hcellW⟩ := HW.out (by omega)
  have HC : Hid (∀ k (h : k < ns.length) (x : Ino), x = ns[k] → ∀ w', Below w.heap.size w w' → w'.cell? ⟨bW, oW + k * 11, none⟩ = some (.int .i64 x.kind) ∧ w'.cell? ⟨bW, oW + k * 11 + 1, none⟩ = some (.int .i64 x.size) ∧ w'.cell? ⟨bW, oW + k * 11 + 2, none⟩ = some (.int .i64 x.links) ∧ w'.cell? ⟨bW, oW + k * 11 + 3, none⟩ = some (.int .i64 x.m0) ∧ w'.cell? ⟨bW, oW + k * 11 + 4, none⟩ = some (.int .i64 x.m1) ∧ w'.cell? ⟨bW, oW + k * 11 + 5, none⟩ = some (.int .i64 x.m2) ∧ w'.cell? ⟨bW, oW + k * 11 + 6, none⟩ = some (.int .i64 x.m3) ∧ w'.cell? ⟨bW, oW + k * 11 + 7, none⟩ = some (.int .i64 x.m4) ∧ w'.cell? ⟨bW, oW + k * 11 + 8, none⟩ = some (.int .i64 x.m5) ∧ w'.cell? ⟨bW, oW + k * 11 + 9, none⟩ = some (.int .i64 x.m6) ∧ w'.cell? ⟨bW, oW + k * 11 + 10, none⟩ = some (.int .i64 x.m7)) := fun k h x e w' hb => by
   obtain ⟨a0, a1, a2, a3, a4, a5, a6, a7, a8, a9, a10⟩ := hcellW k h
   subst e
   exact ⟨(hb.cell (p := ⟨bW, oW + k * 11, none⟩) hblW).trans a0, (hb.cell (p := ⟨bW, oW + k * 11 + 1, none⟩) hblW).trans a1, (hb.cell (p := ⟨bW, oW + k * 11 + 2, none⟩) hblW).trans a2, (hb.cell (p := ⟨bW, oW + k * 11 + 3, none⟩) hblW).trans a3, (hb.cell (p := ⟨bW, oW + k * 11 + 4, none⟩) hblW).trans a4, (hb.cell (p := ⟨bW, oW + k * 11 + 5, none⟩) hblW).trans a5, (hb.cell (p := ⟨bW, oW + k * 11 + 6, none⟩) hblW).trans a6, (hb.cell (p := ⟨bW, oW + k * 11 + 7, none⟩) hblW).trans a7, (hb.cell (p := ⟨bW, oW + k * 11 + 8, none⟩) hblW).trans a8, (hb.cell (p := ⟨bW, oW + k * 11 + 9, none⟩) hblW).trans a9, (hb.cell (p := ⟨bW, oW + k * 11 + 10, none⟩) hblW).trans a10⟩
  clear hcellW HW L16 LD WAYS hi
  obtain ⟨x0, x1⟩ := CA.out _ A1.out
  generalize hkd : zai ns (i : Int) = kd at *
  rcases c with ⟨rfl, rfl⟩ | ⟨c, rfl⟩
  ·obtain rfl : x = zbf := HX.out.trans (if_neg (by simp))
   go_wp2_with fail
   refine (LD2.out _ B1.out).mono ?_
   rintro e w2 ⟨rfl, hb2⟩
   have A2 := zaa (zfm A1.out hb2)
   have B2 := zaa (zab B1.out hb2 B1.out.size)
   have hz2 : w.heap.size + 1 < w2.heap.size := Nat.lt_of_lt_of_le hz1 hb2.size
   clear hb2 x0 x1
   have E := zaa (zae (CR.out _ A2.out))
   have p0 := (E.out 0).1
   have f0 := (E.out 0).2
   have p1 := (E.out 1).1
   have f1 := (E.out 1).2
   have p2 := (E.out 2).1
   have f2 := (E.out 2).2
   have p3 := (E.out 3).1
   have f3 := (E.out 3).2
   have p4 := (E.out 4).1
   have f4 := (E.out 4).2
   have p5 := (E.out 5).1
   have f5 := (E.out 5).2
   have p6 := (E.out 6).1
   have f6 := (E.out 6).2
   have p7 := (E.out 7).1
   have f7 := (E.out 7).2
   have p8 := (E.out 8).1
   have f8 := (E.out 8).2
   have p9 := (E.out 9).1
   have f9 := (E.out 9).2
   have p10 := (E.out 10).1
   have f10 := (E.out 10).2
   have p11 := (E.out 11).1
   have f11 := (E.out 11).2
   simp only [List.getElem?_cons_zero, List.getElem?_cons_succ] at p0 p1 p2 p3 p4 p5 p6 p7 p8 p9 p10 p11
   clear CR CA LD2 hkd
   go_wp2
   refine bodyPost_ret (v := .tuple #[.agg #[.int .i64 0, .int .i64 0, .int .i64 0, .int .i64 0, .int .i64 0, .int .i64 0, .int .i64 0, .int .i64 0, .int .i64 0, .int .i64 0, .int .i64 0, .int .i64 0], .int .i64 9]) (by simp [results, Tryz.results46, go_sem, p0, p1, p2, p3, p4, p5, p6, p7, p8, p9, p10, p11]) rfl ⟨rfl, ?_⟩
   repeat (first | with_reducible exact B2.out | refine Below.setCell ?_ (by simp only; omega) _)
  ·have hxi : x = ns[i] := by
    rw [HX.out]
    unfold faI
    rw [if_pos rfl, Int.toNat_natCast, zcn i1]
   have q : (kd == 2) = false := by rw [beq_eq_false_iff_ne]; exact c
   have HC2 := zaa (HC.out i i1 x hxi)
   clear HX hxi HC c hkd
   go_wp2_with fail
   refine (LD2.out _ B1.out).mono ?_
   rintro e w2 ⟨rfl, hb2⟩
   have A2 := zaa (zfm A1.out hb2)
   have B2 := zaa (zab B1.out hb2 B1.out.size)
   have hz2 : w.heap.size + 1 < w2.heap.size := Nat.lt_of_lt_of_le hz1 hb2.size
   clear hb2 x0 x1
   have E := zaa (zae (CR.out _ A2.out))
   have p0 := (E.out 0).1
   have f0 := (E.out 0).2
   have p1 := (E.out 1).1
   have f1 := (E.out 1).2
   have p2 := (E.out 2).1
   have f2 := (E.out 2).2
   have p3 := (E.out 3).1
   have f3 := (E.out 3).2
   have p4 := (E.out 4).1
   have f4 := (E.out 4).2
   have p5 := (E.out 5).1
   have f5 := (E.out 5).2
   have p6 := (E.out 6).1
   have f6 := (E.out 6).2
   have p7 := (E.out 7).1
   have f7 := (E.out 7).2
   have p8 := (E.out 8).1
   have f8 := (E.out 8).2
   have p9 := (E.out 9).1
   have f9 := (E.out 9).2
   have p10 := (E.out 10).1
   have f10 := (E.out 10).2
   have p11 := (E.out 11).1
   have f11 := (E.out 11).2
   simp only [List.getElem?_cons_zero, List.getElem?_cons_succ] at p0 p1 p2 p3 p4 p5 p6 p7 p8 p9 p10 p11
   obtain ⟨x0, x1⟩ := CA.out _ A2.out
   obtain ⟨a0, a1, a2, a3, a4, a5, a6, a7, a8, a9, a10⟩ := HC2.out _ B2.out
   clear CR CA LD2 HC2
   go_wp2
   refine bodyPost_ret (v := .tuple #[.agg #[.int .i64 x.kind, .int .i64 x.size, .int .i64 x.links, .int .i64 x.m0, .int .i64 x.m1, .int .i64 x.m2, .int .i64 x.m3, .int .i64 x.m4, .int .i64 x.m5, .int .i64 x.m6, .int .i64 x.m7, .int .i64 (i : Int)], .int .i64 0]) (by simp [results, Tryz.results46, go_sem, p0, p1, p2, p3, p4, p5, p6, p7, p8, p9, p10, p11]) rfl ⟨rfl, ?_⟩
   repeat (first | with_reducible exact B2.out | refine Below.setCell ?_ (by simp only; omega) _)
end Go.Proofs.YtcilodgoognmnaaGreatDoor
