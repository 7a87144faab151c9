/- The plan to remove: by the program. -/
import Derived.Test.YtpakbbdlhlkogaaGreatDoorPlN
import Derived.Test.YtpakbbdlhlkogaaGreatDoorZAW
namespace Go.Proofs.YtpakbbdlhlkogaaGreatDoor
open Go.RowKit Go.Maps
theorem yauw {ws : List Ino} {ps : List Den} {s : ByteArray} : rmR ws ps s = if (paR ws ps s).2.2 = 0 then rmN ws ps (paR ws ps s).1 (paR ws ps s).2.1 else ([], (paR ws ps s).2.2) := by
 unfold rmR paR
 by_cases c : 65536 < s.size
 ·rw [if_pos c, if_pos c]; rfl
 ·rw [if_neg c, if_neg c]
  by_cases c1 : zcb ws ps = true
  ·rw [if_pos c1, if_pos c1]; rfl
  ·rw [if_neg c1, if_neg c1]; rfl
set_option maxRecDepth 100000 in
set_option maxHeartbeats 16000000 in
theorem zkg (v : Value) (ws : List Ino) (ps : List Den) (s : ByteArray) (w : World) (h : RdIm w v ws ps) (hw : ws.length ≤ 1048576) (hp : ps.length ≤ 1048576) (hT : TS w) (hE : ED w) (hF : FD w) (hr : ∀ k (h : k < ws.length), ws[k].R) (hs : ∀ k (h : k < ps.length), ps[k].name.size ≤ maxLen) :
  Calls Tryz.prog 9 #[v, .string s] w fun e w' => zhj w w' e (rmR ws ps s) := by
 have LN := zaa (fun b D w1 (hb : Below w.heap.size w w1) hm => zxi v ws ps s b D w1 (h.below hb) hw hp (hT.below hb) (hE.below hb) (hF.below hb) hr hs hm)
 have LT := zaa (fun d b D w1 (hb : Below w.heap.size w w1) hi hm => zlk v ws ps d b D w1 (h.below hb) hi hm (hF.below hb))
 have LD := zaa (fun k x w1 (hb : Below w.heap.size w w1) hs => zeo k x w1 (hF.below hb) hs)
 have LU := zaa (fun i x w1 (hb : Below w.heap.size w w1) hi hl => zkv i x w1 hi hl (hT.below hb) (hE.below hb))
 have FDB := zaa (fun w1 (hb : Below w.heap.size w w1) => (hF.below hb).cells)
 have EL := zaa (@yauw ws ps s)
 have EN := zaa (fun d nm => show rmN ws ps d nm = match zay ps d nm with | none => ([], 5) | some k => rmC ws ps k from rfl)
 have EC := zaa (fun k => show rmC ws ps k = if zai ws (zan ps k) = 2 ∧ ¬ zbh ps (zan ps k) = [] then ([], 11) else (rmU (k : Int) (zan ps k) (zdn ws (zan ps k)), 0) from rfl)
 have ER := zaa (show erR ws ps s = if (paR ws ps s).2.2 = 0 then erN ps (paR ws ps s).1 (paR ws ps s).2.1 else (0, (paR ws ps s).2.2) from rfl)
 have EM := zaa (fun d nm => show erN ps d nm = match zay ps d nm with | none => (0, 5) | some k => ((k : Int), 0) from rfl)
 have PR := zaa (@yahb ws ps s)
 have CR := zaa (fun hi d nm k e => zej (ws := ws) (ps := ps) hi (d := d) (nm := nm) (k := k) e)
 have LR := zaa (fun hi i h0 => zlb (ws := ws) (ps := ps) hi (i := i) h0)
 have MZ := zaa (fun hi d => yarp (ws := ws) (ps := ps) hi d)
 have FE := zaa (fun hi d k => zqv (ws := ws) (ps := ps) hi (d := d) k)
 have PA := zaa (fun hi => zau (ws := ws) (ps := ps) hi)
 obtain ⟨vW, vP, rfl, h1, h2⟩ := h
 obtain ⟨aW, cW, rfl, _, hcW⟩ := h1.shape
 obtain ⟨aP, cP, rfl, _, hcP⟩ := h2.shape
 have HW := zaa hcW
 have HP := zaa hcP
 clear h1 h2 hr hs hT hE hF hcW hcP
 have CA : Hid (∀ w', Below (w.alloc (.cells #[.slice aW ws.length cW, .slice aP ps.length cP] 42)).heap.size (w.alloc (.cells #[.slice aW ws.length cW, .slice aP ps.length cP] 42)) w' → w'.cell? ⟨w.heap.size, 0, none⟩ = some (.slice aW ws.length cW) ∧ w'.cell? ⟨w.heap.size, 1, none⟩ = some (.slice aP ps.length cP)) := fun w' hb => by
  have : w'.heap[w.heap.size]? = some (.cells #[.slice aW ws.length cW, .slice aP ps.length cP] 42 (0, 0)) := (hb.block _ (by simp)).trans (zah rfl)
  exact ⟨(zac this).1, (zac this).2.1⟩
 have BW : Hid (Below w.heap.size w (w.alloc (.cells #[.slice aW ws.length cW, .slice aP ps.length cP] 42))) := (Below.refl _ _).alloc (Nat.le_refl _) _
 generalize rmR ws ps s = res at *
 generalize erR ws ps s = er at *
 generalize hpr : paR ws ps s = pr at *
 clear hpr
 obtain ⟨W, hW⟩ : ∃ W, W = w.alloc (.cells #[.slice aW ws.length cW, .slice aP ps.length cP] 42) := ⟨_, rfl⟩
 have M1 : Hid (Mp ((w.alloc (.cells #[.slice aW ws.length cW, .slice aP ps.length cP] 42)).alloc (.map #[] 0)) (w.heap.size + 1) (.map [])) := by
  have := yady (w := w.alloc (.cells #[.slice aW ws.length cW, .slice aP ps.length cP] 42))
  rw [World.size_alloc] at this
  exact this
 have A1 : Hid (Below W.heap.size W ((w.alloc (.cells #[.slice aW ws.length cW, .slice aP ps.length cP] 42)).alloc (.map #[] 0))) := by rw [← hW]; exact zti (Below.refl _ _) _
 rw [← hW] at CA BW
 have hz : w.heap.size < W.heap.size := by rw [hW]; simp
 have hWs : W.heap.size ≤ w.heap.size + 1 := by rw [hW]; simp
 have B1 := zaa (zab BW.out A1.out (by omega))
 obtain ⟨x0, x1⟩ := CA.out _ A1.out
 obtain ⟨pd, pn, pc⟩ := pr
 obtain ⟨ek, ec⟩ := er
 simp only at EL ER PR LN
 have hmm := @run_makeMap Tryz.prog
 go_enter Tryz.func9, Tryz.ntmps9
 go_wp2_with fail
 refine (LN.out _ _ _ B1.out M1.out).mono ?_
 rintro e w2 ⟨rfl, ⟨D2, hm2⟩, hg2⟩
 have A2 := zaa (ziy A1.out hg2 hWs)
 have B2 := zaa (zab BW.out A2.out (by omega))
 have M2 := zaa hm2
 clear x0 x1 hg2 LN M1 A1 B1 hmm hm2 hW
 by_cases c : pc = 0
 case neg =>
  rw [if_neg c] at EL ER
  obtain rfl := EL.out
  have e2 := ER.out
  simp only [Prod.mk.injEq] at e2
  obtain ⟨-, rfl⟩ := e2
  have q : (ec != 0) = true := by rw [bne_iff_ne]; exact c
  clear c EL ER
  go_wp2
  go_ret2
  exact zim B2.out
 rw [if_pos c] at EL ER
 subst c
 obtain ⟨hi, -⟩ := PR.out rfl
 rw [EM.out] at ER
 rw [EN.out] at EL
 clear PR EM EN
 cases he : zay ps pd pn with
 | none =>
  rw [he] at EL ER
  obtain rfl := EL.out
  have e2 := ER.out
  simp only [Prod.mk.injEq] at e2
  obtain ⟨-, rfl⟩ := e2
  clear EL ER
  go_wp2
  go_ret2
  exact zim B2.out
 | some k =>
 rw [he] at EL ER
 have e2 := ER.out
 simp only [Prod.mk.injEq] at e2
 obtain ⟨rfl, rfl⟩ := e2
 have EL2 : Hid (res = rmC ws ps k) := EL.out
 rw [EC.out] at EL2
 obtain ⟨k1, k2⟩ := CR.out hi _ _ _ he
 have lr := LR.out hi _ k2
 obtain ⟨l16, l24, _⟩ := PA.out hi
 obtain ⟨bW, oW, rfl, hblW, hcellW⟩ := HW.out (by omega)
 obtain ⟨bP, oP, rfl, hblP, hcellP⟩ := HP.out (by omega)
 have HPk := zaa (fun w' (hb : Below w.heap.size w w') => ((hb.cell (p := ⟨bP, oP + k * 3 + 2, none⟩) hblP).trans (hcellP k k1).2.2).trans (by rw [← zbf k1]))
 have LTk := zaa (fun b D w1 hb hm => LT.out (zan ps k) b D w1 hb hi hm)
 obtain ⟨ma, mb⟩ := MZ.out hi (zan ps k)
 have MA := zaa ma
 have MB := zaa mb
 have FEk := zaa (FE.out hi (zan ps k))
 obtain ⟨i, hi'⟩ : ∃ i : Nat, zan ps k = (i : Int) := ⟨(zan ps k).toNat, by omega⟩
 rw [hi'] at EL2 lr HPk LTk MA MB FEk
 have i1 : i < ws.length := by omega
 have CI := zaa (hcellW i i1)
 have lx : Hid (ws[i].links = zdn ws (i : Int)) := (zho i1).symm
 have k24 : k < 24 := by omega
 have i16 : i < 16 := by omega
 have kl : (k : Int) < (ps.length : Int) := by omega
 have il : (i : Int) < (ws.length : Int) := by omega
 have k0 : (0 : Int) ≤ (k : Int) := by omega
 have i0 : (0 : Int) ≤ (i : Int) := by omega
 clear EL EC CR LR ER he HP HW LT hi' k2 hblP l16 l24 hcellW hcellP MZ FE PA ma mb hi
 generalize ws[i] = xi at *
 generalize zai ws (i : Int) = kd at *
 generalize zdn ws (i : Int) = lk at *
 generalize zbh ps (i : Int) = nms at *
 generalize mpD ps (i : Int) ps.length = D3 at *
 obtain ⟨x0, x1⟩ := CA.out _ A2.out
 have y0 := HPk.out _ B2.out
 go_wp2_with fail
 refine (LTk.out _ _ _ B2.out M2.out).mono ?_
 rintro e w3 ⟨rfl, hm3, hg3⟩
 have A3 := zaa (ziy A2.out hg3 hWs)
 have B3 := zaa (zab BW.out A3.out (by omega))
 have M3 := zaa hm3
 clear x0 x1 y0 hg3 hm3 LTk A2 B2 M2 HPk
 by_cases q : nms = []
 case neg =>
  have q2 : kd = 2 := Classical.byContradiction fun a => q (FEk.out a)
  rw [if_pos ⟨q2, q⟩] at EL2
  obtain rfl := EL2.out
  have sz := MB.out q
  clear EL2 q q2 MA MB FEk
  have sz2 : (Maps.size D3 : Int) > 0 := by omega
  go_wp2_with (at_len; refine wpList_len_own _ rfl _ 75 rfl 9 3 mapU _ (w.heap.size + 1) 4096 D3 rfl M3.out ?_)
  go_wp2
  go_ret2
  exact zim B3.out
 have EL3 : Hid (res = (rmU (k : Int) (i : Int) lk, 0)) := EL2.out.trans (if_neg (by rintro ⟨_, b⟩; exact b q))
 have sz := MA.out q
 clear EL2 q MA MB FEk
 have sz2 : (Maps.size D3 : Int) = 0 := by omega
 have EU := zaa (show rmU (k : Int) (i : Int) lk = enL (k : Int) freeD ++ (if 1 < lk then [⟨48 + 12 * (i : Int) + 2, lk - 1⟩] else wrL (i : Int) zbd 8) from rfl)
 generalize rmU (k : Int) (i : Int) lk = ru at *
 obtain rfl := EL3.out
 clear EL3
 obtain ⟨d1, d2⟩ := yasu (k := (k : Int)) (x := freeD) (by omega) yaio
 have LD2 := zaa (LD.out (k : Int) freeD w3 B3.out (by show (0 : Nat) ≤ maxLen; unfold maxLen; omega))
 rw [d1, d2, show freeD.v = .agg #[.int .i64 0, .string ⟨#[]⟩, .int .i64 (-1)] from rfl] at LD2
 have l3 : (enL (k : Int) freeD).length ≤ 3 := Nat.le_refl _
 have LU2 := zaa (fun w1 hb => LU.out (i : Int) xi w1 hb (by omega) (by rw [lx.out]; omega))
 have EX := zaa (show unL (i : Int) xi = if 1 < lk then [⟨48 + 12 * (i : Int) + 2, lk - 1⟩] else wrL (i : Int) zbd 8 by unfold unL; rw [lx.out])
 rw [← EX.out] at EU
 have l11 : (unL (i : Int) xi).length ≤ 11 := by
  rw [EX.out]
  split
  ·simp
  ·rw [zta]; omega
 rw [show xi.v = .agg #[.int .i64 xi.kind, .int .i64 xi.size, .int .i64 xi.links, .int .i64 xi.m0, .int .i64 xi.m1, .int .i64 xi.m2, .int .i64 xi.m3, .int .i64 xi.m4, .int .i64 xi.m5, .int .i64 xi.m6, .int .i64 xi.m7] from rfl] at LU2
 generalize enL (k : Int) freeD = EN at *
 generalize unL (i : Int) xi = UL at *
 obtain ⟨f0, f1, f2⟩ := FDB.out _ B3.out
 clear d1 d2 LD LU EX lx
 go_wp2_with (at_len; refine wpList_len_own _ rfl _ 75 rfl 9 3 mapU _ (w.heap.size + 1) 4096 D3 rfl M3.out ?_)
 refine LD2.out.mono ?_
 rintro e w4 ⟨v4, rfl, hr4, hb4⟩
 have J4 : Hid (UpI w3 w4 v4 EN) := ⟨hr4.1, hb4⟩
 obtain ⟨-, aE, cE, hvE, -⟩ := hr4.rd
 subst hvE
 have A4 := zaa (zab A3.out hb4 A3.out.size)
 have B4 := zaa (zab B3.out hb4 B3.out.size)
 obtain ⟨x0, x1⟩ := CA.out _ A4.out
 obtain ⟨c0, c1, c2, c3, c4, c5, c6, c7, c8, c9, c10⟩ := CI.out
 have d0 := (B4.out.cell (p := ⟨bW, oW + i * 11, none⟩) hblW).trans c0
 have d1 := (B4.out.cell (p := ⟨bW, oW + i * 11 + 1, none⟩) hblW).trans c1
 have d2 := (B4.out.cell (p := ⟨bW, oW + i * 11 + 2, none⟩) hblW).trans c2
 have d3 := (B4.out.cell (p := ⟨bW, oW + i * 11 + 3, none⟩) hblW).trans c3
 have d4 := (B4.out.cell (p := ⟨bW, oW + i * 11 + 4, none⟩) hblW).trans c4
 have d5 := (B4.out.cell (p := ⟨bW, oW + i * 11 + 5, none⟩) hblW).trans c5
 have d6 := (B4.out.cell (p := ⟨bW, oW + i * 11 + 6, none⟩) hblW).trans c6
 have d7 := (B4.out.cell (p := ⟨bW, oW + i * 11 + 7, none⟩) hblW).trans c7
 have d8 := (B4.out.cell (p := ⟨bW, oW + i * 11 + 8, none⟩) hblW).trans c8
 have d9 := (B4.out.cell (p := ⟨bW, oW + i * 11 + 9, none⟩) hblW).trans c9
 have d10 := (B4.out.cell (p := ⟨bW, oW + i * 11 + 10, none⟩) hblW).trans c10
 clear c0 c1 c2 c3 c4 c5 c6 c7 c8 c9 c10 CI hr4 hb4 f0 f1 f2 LD2 FDB
 go_wp2_with fail
 refine (LU2.out _ B4.out).mono ?_
 rintro e w5 ⟨v5, rfl, hr5, hb5⟩
 have J5 := zaa (J4.out.below hb5)
 have R5 := zaa hr5.rd
 obtain ⟨-, aF, cF, hvF, -⟩ := hr5.rd
 subst hvF
 have z5 : w3.heap.size ≤ w5.heap.size := J5.out.z
 clear hr5 hb5 J4 LU2 x0 x1 d0 d1 d2 d3 d4 d5 d6 d7 d8 d9 d10 CA
 go_wp2_with (at_builtin; refine zae _ rfl (.tmp 42) (.tmp 49) 46 rfl w3.heap.size 83 (.agg #[.int .i64 0, .int .i64 0]) 2 16 Tryz.underlying46 zhi rfl (by decide) _ _ _ rfl J5.out.l _ _ _ rfl R5.out (zdp _) (by simp [maxLen]; omega) (by omega) z5 ?_)
 intro vN wN hownN hgrN
 have G := zaa (J5.out.grow UL hownN hgrN)
 rw [← EU.out] at G
 have G2 := zaa (G.out.wide B3.out)
 obtain ⟨-, aN, cN, hvN, -⟩ := (zad G2.out.l).rd
 subst hvN
 clear hownN hgrN J5 R5 G
 go_wp2
 go_ret2
 exact zqy 0 G2.out
end Go.Proofs.YtpakbbdlhlkogaaGreatDoor
