/- Several texts laid together: FsH, MvB. -/
import Derived.Test.YtpakbbdlhlkogaaGreatDoorZBI
import Derived.Test.YtpakbbdlhlkogaaGreatDoorZBD
namespace Go.Proofs.YtpakbbdlhlkogaaGreatDoor
open Go.RowKit
def FsIdle (w : World) (v : Value) : Prop := ∃ ws es ns ds hs, RdFs w v ws es hs [] 0 0 [] false ∧ Idle ws es ns ds ∧ ziz hs = true
theorem FsIdle.below {w w' : World} {v : Value} (h : FsIdle w v) (hb : Below w.heap.size w w') : FsIdle w' v := by
 obtain ⟨ws, es, ns, ds, hs, a, b, c⟩ := h
 exact ⟨ws, es, ns, ds, hs, a.below hb, b, c⟩
theorem zch {ws es : List Int} {ns : List Ino} {ds : List Den} (h : Idle ws es ns ds) : 3 ≤ ws.length ∧ 3 ≤ es.length := by
 have a := h.wi.len
 have b := (zex h.bk).1
 omega
theorem FsIdle.soft {w w' : World} {v : Value} (h : FsIdle w v) (s : Soft w w') : FsIdle w' v := by
 obtain ⟨ws, es, ns, ds, hs, a, b, c⟩ := h
 exact ⟨ws, es, ns, ds, hs, a.soft s (zch b).1 (zch b).2 (by have := (zbt c).1; omega), b, c⟩
set_option maxRecDepth 100000 in
set_option maxHeartbeats 16000000 in
theorem zop (v : Value) (k : Int) (p t : ByteArray) (g y : Int) (w : World) (h : FsIdle w v) (hp : p.size ≤ 65536) (ht : t.size ≤ 65536) :
  Calls Tryz.prog 49 #[v, .agg #[.int .i64 k, .string p, .string t, .int .i64 g, .int .i64 y]] w fun e w' => ∃ v' cd vl a n c, e = .returned (.tuple #[v', .agg #[.int .i64 cd, .int .i64 vl, .slice a n c], .int .i64 0]) ∧ FsIdle w' v' ∧ Below w.heap.size w w' := by
 obtain ⟨ws, es, ns, ds, hs, h, hi, hh⟩ := h
 obtain ⟨⟨ws', es', ns', ds', run, hi'⟩, hm, hl, -⟩ := yahh hi k p t g y
 have LS := zaa (fun w1 (hb : Below w.heap.size w w1) => ztv v ws es hs ns ds 0 0 [] k p t g y w1 (h.below hb) hi hh hp ht)
 have LF := zaa (fun v2 hs2 cd vl nm w1 (h2 : RdFs w1 v2 ws es hs2 (opI ws [] es [] ns ds k p t g y).steps cd vl nm true) (q : ziz hs2 = true) => zjw v2 ws es hs2 _ cd vl nm true ws' es' w1 h2 hi.pm hi.bk (by have := (zbt q).1; omega) hm (by omega) run hi'.pm hi'.bk)
 have LT := zaa (fun v2 hs2 cd vl nm w1 (h2 : RdFs w1 v2 ws' es' hs2 [] cd vl nm true) (q : ziz hs2 = true) => zzd v2 ws' es' hs2 cd vl nm w1 h2 (zch hi').1 (zch hi').2 (by have := (zbt q).1; omega))
 have HI' := zaa hi'
 obtain ⟨aW, cW, aP, cP, aS, cS, aQ, cQ, aH, cH, aT, cT, aN, cN, rfl, -, -, -, -⟩ := h
 clear hi hi' hh hp ht hm hl run
 rw [show ([] : List Mi).length = 0 from rfl, show ([] : List ByteArray).length = 0 from rfl] at LS ⊢
 generalize opI ws [] es [] ns ds k p t g y = A at *
 obtain ⟨V, hV⟩ : ∃ V, V = (((w.alloc (.cells #[.slice aW ws.length cW, .slice aP 0 cP, .slice aS es.length cS, .slice aQ 0 cQ, .slice aH hs.length cH, .slice aT 0 cT, .int .i64 0, .int .i64 0, .slice aN 0 cN, .bool false] 37)).alloc (.cells #[.int .i64 k, .string p, .string t, .int .i64 g, .int .i64 y] 100)).alloc (.cells zei.toArray 37)).alloc (.cells #[.int .i64 0, .int .i64 0, .slice none 0 0] 35) := ⟨_, rfl⟩
 have HZ : Hid (V.heap.size = w.heap.size + 1 + 1 + 1 + 1) := by rw [hV]; simp [Hid]
 have BV : Hid (Below w.heap.size w V) := by rw [hV]; exact ((((Below.refl _ _).alloc (Nat.le_refl _) _).alloc (by simp) _).alloc (by simp <;> omega) _).alloc (by simp <;> omega) _
 have XV : Hid (V.heap[w.heap.size]? = some (.cells #[.slice aW ws.length cW, .slice aP 0 cP, .slice aS es.length cS, .slice aQ 0 cQ, .slice aH hs.length cH, .slice aT 0 cT, .int .i64 0, .int .i64 0, .slice aN 0 cN, .bool false] 37 (0, 0))) := by rw [hV]; exact zak (zak (zak (zah rfl)))
 have OV : Hid (V.heap[w.heap.size + 1]? = some (.cells #[.int .i64 k, .string p, .string t, .int .i64 g, .int .i64 y] 100 (0, 0))) := by rw [hV]; exact zak (zak (zah (by simp)))
 have YV : Hid (V.heap[w.heap.size + 1 + 1]? = some (.cells zei.toArray 37 (0, 0))) := by rw [hV]; exact zak (zah (by simp))
 have ZV : Hid (V.heap[w.heap.size + 1 + 1 + 1]? = some (.cells #[.int .i64 0, .int .i64 0, .slice none 0 0] 35 (0, 0))) := by rw [hV]; exact zah (by simp)
 unfold zei at hV
 go_enter Tryz.func49, Tryz.ntmps49
 go_upto_region 1 with fail
 rw [← hV]
 clear hV
 obtain ⟨x0, x1, x2, x3, x4, x5, x6, x7, x8, x9, -⟩ := zaj XV.out
 obtain ⟨o0, o1, o2, o3, o4⟩ := zhx OV.out
 go_wp2_with fail
 refine (LS.out _ BV.out).mono ?_
 rintro e w1 ⟨v1, hs1, rfl, hh1, hF1, hb1⟩
 have HH1 := zaa hh1
 have R1 := zaa hF1
 obtain ⟨bW, dW, bP, dP, bS, dS, bQ, dQ, bH, dH, bT, dT, bN, dN, rfl, -, -, -, -⟩ := hF1
 have z1 : Hid (V.heap.size ≤ w1.heap.size) := hb1.size
 have B1 := zaa hb1
 clear x0 x1 x2 x3 x4 x5 x6 x7 x8 x9 o0 o1 o2 o3 o4 hb1 hh1 LS XV OV
 obtain ⟨V1, hV1⟩ : ∃ V1, V1 = w1.alloc (.cells #[.slice bW ws.length dW, .slice bP 0 dP, .slice bS es.length dS, .slice bQ 0 dQ, .slice bH hs1.length dH, .slice bT A.steps.length dT, .int .i64 A.code, .int .i64 A.val, .slice bN A.names.length dN, .bool true] 37) := ⟨_, rfl⟩
 have BC : Hid (Below w1.heap.size w1 V1) := by rw [hV1]; exact (Below.refl _ _).alloc (Nat.le_refl _) _
 have X1 : Hid (V1.heap[w1.heap.size]? = some (.cells #[.slice bW ws.length dW, .slice bP 0 dP, .slice bS es.length dS, .slice bQ 0 dQ, .slice bH hs1.length dH, .slice bT A.steps.length dT, .int .i64 A.code, .int .i64 A.val, .slice bN A.names.length dN, .bool true] 37 (0, 0))) := by rw [hV1]; exact zah rfl
 have BV1 := zaa (zab B1.out BC.out B1.out.size)
 have R2 := zaa (R1.out.below BC.out)
 go_upto_region 2 with fail
 rw [← hV1]
 clear hV1
 obtain ⟨x0, x1, x2, x3, x4, x5, x6, x7, x8, x9, -⟩ := zaj X1.out
 go_wp2_with fail
 refine (LF.out _ _ _ _ _ _ R2.out HH1.out).mono ?_
 rintro e w2 ⟨v2, rfl, hF2, hb2⟩
 have R3 := zaa hF2
 have B2 := zaa (zab BV1.out hb2 BV1.out.size)
 obtain ⟨_, _, _, _, _, _, _, _, _, _, _, _, _, _, rfl, -, -, -, -⟩ := hF2
 clear x0 x1 x2 x3 x4 x5 x6 x7 x8 x9 hb2 LF R1 R2 X1 BC B1 BV1
 go_wp2_with fail
 refine (LT.out _ _ _ _ _ _ R3.out HH1.out).mono ?_
 rintro e w3 ⟨v3, aA, nA, cA, rfl, hF3, hb3⟩
 have R4 := zaa hF3
 have B3 := zaa (zab B2.out hb3 B2.out.size)
 obtain ⟨eW, fW, eP, fP, eS, fS, eQ, fQ, eH, fH, eT, fT, eN, fN, rfl, -, -, -, -⟩ := hF3
 rw [show ([] : List Mi).length = 0 from rfl, show ([] : List ByteArray).length = 0 from rfl] at R4 ⊢
 clear hb3 LT R3 B2
 have Y3 := zaa ((B3.out.block (w.heap.size + 1 + 1) (by have q := HZ.out; omega)).trans YV.out)
 have Z3 := zaa ((B3.out.block (w.heap.size + 1 + 1 + 1) (by have q := HZ.out; omega)).trans ZV.out)
 have z3 : Hid (V.heap.size ≤ w3.heap.size) := B3.out.size
 have BB := zaa (zab BV.out B3.out BV.out.size)
 have Y3' : w3.heap[w.heap.size + 1 + 1]? = some (.cells #[.slice none 0 0, .slice none 0 0, .slice none 0 0, .slice none 0 0, .slice none 0 0, .slice none 0 0, .int .i64 0, .int .i64 0, .slice none 0 0, .bool false] 37 (0, 0)) := Y3.out
 obtain ⟨y0, y1, y2, y3, y4, y5, y6, y7, y8, y9, g0, g1, g2, g3, g4, g5, g6, g7, g8, g9⟩ := zaj Y3'
 obtain ⟨m0, m1, m2, k0, k1, k2⟩ := tri3 Z3.out
 clear Y3' YV ZV
 have O5 := zaa (zbx w3 (w.heap.size + 1 + 1) (.slice eW ws'.length fW) (.slice eP 0 fP) (.slice eS es'.length fS) (.slice eQ 0 fQ) (.slice eH hs1.length fH) (.slice eT 0 fT) (.int .i64 0) (.int .i64 0) (.slice eN 0 fN) (.bool false))
 have E5 := zaa (zqq w3 (w.heap.size + 1 + 1) (.slice eW ws'.length fW) (.slice eP 0 fP) (.slice eS es'.length fS) (.slice eQ 0 fQ) (.slice eH hs1.length fH) (.slice eT 0 fT) (.int .i64 0) (.int .i64 0) (.slice eN 0 fN) (.bool false))
 have S5 := zaa (Soft.outside O5.out Y3.out rfl)
 have Z6 := zaa ((O5.out.block (w.heap.size + 1 + 1 + 1) (by have q := HZ.out; have q1 := z3.out; omega) (by omega)).trans Z3.out)
 have B5 := zaa (BB.out.trans (O5.out.below (B := w.heap.size) (by omega) (by have q := HZ.out; have q1 := z3.out; omega)))
 have O6 := zaa (yaai (zge w3 (w.heap.size + 1 + 1) (.slice eW ws'.length fW) (.slice eP 0 fP) (.slice eS es'.length fS) (.slice eQ 0 fQ) (.slice eH hs1.length fH) (.slice eT 0 fT) (.int .i64 0) (.int .i64 0) (.slice eN 0 fN) (.bool false)) (w.heap.size + 1 + 1 + 1) (.int .i64 A.code) (.int .i64 A.val) (.slice aA nA cA))
 have S6 := zaa (S5.out.trans (Soft.outside O6.out Z6.out rfl))
 have B6 := zaa (B5.out.trans (O6.out.below (B := w.heap.size) (by omega) (by have q := HZ.out; have q1 := z3.out; have q2 := E5.out; omega)))
 have F6 := zaa (show FsIdle _ _ from ⟨ws', es', ns', ds', hs1, R4.out.soft S6.out (zch HI'.out).1 (zch HI'.out).2 (by have := (zbt HH1.out).1; omega), HI'.out, HH1.out⟩)
 clear O5 E5 S5 Z6 B5 O6 S6 Y3 Z3
 go_wp2
 refine bodyPost_ret (v := .tuple #[.agg #[.slice eW ws'.length fW, .slice eP 0 fP, .slice eS es'.length fS, .slice eQ 0 fQ, .slice eH hs1.length fH, .slice eT 0 fT, .int .i64 0, .int .i64 0, .slice eN 0 fN, .bool false], .agg #[.int .i64 A.code, .int .i64 A.val, .slice aA nA cA], .int .i64 0]) (by simp [results, Tryz.results49, go_sem, y0, y1, y2, y3, y4, y5, y6, y7, y8, y9, m0, m1, m2]) rfl ?_
 exact ⟨_, _, _, _, _, _, rfl, F6.out, B6.out⟩
set_option maxRecDepth 100000 in
set_option maxHeartbeats 16000000 in
theorem zrw (vd v : Value) (ws : List Int) (ps : List St) (es : List Int) (qs : List Se) (ns : List Ino) (ds : List Den) (i p : Nat) (w : World) (hd : RdDev w vd ws ps es qs) (hP : pmB ws ps = true) (hB : zpr es qs = true) (h : RdIm w v ns ds) (hi : zcb ns ds = true) (i16 : i < 16) (p8 : p < 8) :
  Calls Tryz.prog 103 #[vd, v, .int .i64 (i : Int), .int .i64 (p : Int)] w fun e w' => yajt w w' e (deF ns (enI ns (i : Int) (p : Int)) (pgV ws ps es qs (enI ns (i : Int) (p : Int))) (i : Int) (p : Int)) := by
 have TE : zes (enI ns (i : Int) (p : Int)) = true := by
  unfold enI
  rw [Int.toNat_natCast, Int.toNat_natCast]
  exact yafl hi i16 p
 have LV := zaa (fun w1 (hb : Below w.heap.size w w1) => zhq vd ws ps es qs (enI ns (i : Int) (p : Int)) w1 (hd.below hb) hP hB TE)
 obtain ⟨z0, z1⟩ := zeq TE
 obtain ⟨l16, l24, _⟩ := zau hi
 have TR : ∀ k (h : k < ns.length), ∀ z ∈ ns[k].map, 0 ≤ z ∧ z ≤ 1048576 := fun k hk z hz => by
  have t := (zfq ((zca.1 hi).ok k (by omega))).1 z (by rw [zbn hk]; exact hz)
  exact zeq t
 have LF : Hid (∀ w1, Below w.heap.size w w1 → Calls Tryz.prog 134 #[v, .int .i64 2, .int .i64 32] w1 fun e w' => e = .returned (.int .i64 (fsI ns)) ∧ Below w1.heap.size w1 w') := fun w1 hb => zgi v ns ds 2 32 w1 (h.below hb) (by omega) TR (by omega)
 have L16 := zaa l16
 have F1 : Hid (0 ≤ fsI ns → ∃ k : Nat, k < 32 ∧ fsI ns = (k : Int)) := fun c => by
  obtain ⟨k, a, b, -⟩ := zdb c
  exact ⟨k, a, b⟩
 have EL := zaa (fun x => show deF ns (enI ns (i : Int) (p : Int)) x (i : Int) (p : Int) = if enI ns (i : Int) (p : Int) = 0 ∨ ¬ enI ns (i : Int) (p : Int) % 4 = 1 then ([], 5) else if fsI ns < 0 then ([], 7) else (deS ns x ++ swL (i : Int) (p : Int) (4 * fsI ns + 2), 0) from rfl)
 obtain ⟨vW, vP, rfl, h1, h2⟩ := h
 obtain ⟨aW, cW, rfl, _, hcW⟩ := h1.shape
 obtain ⟨aP, cP, rfl, _, hcP⟩ := h2.shape
 obtain ⟨bW, oW, rfl, hblW, hcellW⟩ := hcW (by omega)
 have HM : Hid (∀ w', Below w.heap.size w w' → w'.cell? ⟨bW, oW + i * 11 + 3 + p, none⟩ = some (.int .i64 (enI ns (i : Int) (p : Int)))) := fun w' hb => by
  unfold enI
  rw [Int.toNat_natCast, Int.toNat_natCast, zbn (by have := L16.out; omega : i < ns.length)]
  obtain ⟨a0, a1, a2, a3, a4, a5, a6, a7, a8, a9, a10⟩ := hcellW i (by have := L16.out; omega)
  rcases (show p = 0 ∨ p = 1 ∨ p = 2 ∨ p = 3 ∨ p = 4 ∨ p = 5 ∨ p = 6 ∨ p = 7 by omega) with rfl | rfl | rfl | rfl | rfl | rfl | rfl | rfl
  ·exact (hb.cell (p := ⟨bW, oW + i * 11 + 3, none⟩) hblW).trans a3
  ·exact (hb.cell (p := ⟨bW, oW + i * 11 + 4, none⟩) hblW).trans a4
  ·exact (hb.cell (p := ⟨bW, oW + i * 11 + 5, none⟩) hblW).trans a5
  ·exact (hb.cell (p := ⟨bW, oW + i * 11 + 6, none⟩) hblW).trans a6
  ·exact (hb.cell (p := ⟨bW, oW + i * 11 + 7, none⟩) hblW).trans a7
  ·exact (hb.cell (p := ⟨bW, oW + i * 11 + 8, none⟩) hblW).trans a8
  ·exact (hb.cell (p := ⟨bW, oW + i * 11 + 9, none⟩) hblW).trans a9
  ·exact (hb.cell (p := ⟨bW, oW + i * 11 + 10, none⟩) hblW).trans a10
 obtain ⟨dW, eW, dP, eP, dS, eS, dQ, eQ, rfl, -, -⟩ := hd.form
 have i1 : (i : Int) < (ns.length : Int) := by have := L16.out; omega
 have i0 : (0 : Int) ≤ (i : Int) := by omega
 have p0 : (0 : Int) ≤ (p : Int) := by omega
 have p1 : (p : Int) < 8 := by omega
 clear h1 h2 hi hcW hcP hcellW l16 l24 TR hd hP hB L16 TE
 obtain ⟨W0, hW0⟩ : ∃ W0, W0 = w.alloc (.cells #[.slice dW ws.length eW, .slice dP ps.length eP, .slice dS es.length eS, .slice dQ qs.length eQ] 31) := ⟨_, rfl⟩
 obtain ⟨W, hW⟩ : ∃ W, W = W0.alloc (.cells #[.slice (some ⟨bW, oW, none⟩) ns.length cW, .slice aP ds.length cP] 42) := ⟨_, rfl⟩
 have z0' : W0.heap.size = w.heap.size + 1 := by rw [hW0]; simp
 have CA : Hid (∀ w', Below W.heap.size W w' → w'.cell? ⟨w.heap.size + 1, 0, none⟩ = some (.slice (some ⟨bW, oW, none⟩) ns.length cW) ∧ w'.cell? ⟨w.heap.size + 1, 1, none⟩ = some (.slice aP ds.length cP)) := fun w' hb => by
  have : w'.heap[w.heap.size + 1]? = some (.cells #[.slice (some ⟨bW, oW, none⟩) ns.length cW, .slice aP ds.length cP] 42 (0, 0)) := (hb.block _ (by rw [hW]; simp; omega)).trans (by rw [hW, ← z0']; exact zah rfl)
  exact ⟨(zac this).1, (zac this).2.1⟩
 have CD : Hid (∀ w', Below W.heap.size W w' → w'.cell? ⟨w.heap.size, 0, none⟩ = some (.slice dW ws.length eW) ∧ w'.cell? ⟨w.heap.size, 1, none⟩ = some (.slice dP ps.length eP) ∧ w'.cell? ⟨w.heap.size, 2, none⟩ = some (.slice dS es.length eS) ∧ w'.cell? ⟨w.heap.size, 3, none⟩ = some (.slice dQ qs.length eQ)) := fun w' hb => by
  have : w'.heap[w.heap.size]? = some (.cells #[.slice dW ws.length eW, .slice dP ps.length eP, .slice dS es.length eS, .slice dQ qs.length eQ] 31 (0, 0)) := (hb.block _ (by rw [hW]; simp; omega)).trans (by
   rw [hW]
   exact (((Below.refl W0.heap.size W0).alloc (Nat.le_refl _) _).block _ (by omega)).trans (by rw [hW0]; exact zah rfl))
  obtain ⟨a, b, c, d, -⟩ := zaq this
  exact ⟨a, b, c, d⟩
 have BW : Hid (Below w.heap.size w W) := by rw [hW, hW0]; exact ((Below.refl _ _).alloc (Nat.le_refl _) _).alloc (by simp) _
 generalize enI ns (i : Int) (p : Int) = e at *
 generalize pgV ws ps es qs e = x at *
 have EL1 := zaa (EL.out x)
 have te : Int.tmod e 4 = e % 4 := Int.tmod_eq_emod_of_nonneg z0
 clear EL z0'
 generalize deF ns e x (i : Int) (p : Int) = res at *
 obtain ⟨x0, x1⟩ := CA.out _ (Below.refl _ _)
 have e0 := HM.out _ BW.out
 go_enter Tryz.func103, Tryz.ntmps103
 go_upto_region 1 with fail
 rw [← hW0, ← hW]
 clear hW hW0
 by_cases c1 : e = 0
 ·rw [if_pos (.inl c1)] at EL1
  obtain rfl := EL1.out
  subst c1
  clear EL1 LV LF
  go_wp2
  go_ret2
  exact zfw BW.out rfl
 have q1 : (e == 0) = false := by rw [beq_eq_false_iff_ne]; exact c1
 by_cases c2 : e % 4 = 1
 case neg =>
  rw [if_pos (.inr c2)] at EL1
  obtain rfl := EL1.out
  have q2 : (e % 4 != 1) = true := by rw [bne_iff_ne]; exact c2
  clear EL1 LV LF c1 c2
  go_wp2
  go_ret2
  exact zfw BW.out rfl
 have q2 : (e % 4 != 1) = false := by rw [bne_eq_false_iff_eq]; exact c2
 rw [if_neg (fun h => h.elim c1 (fun h => h c2))] at EL1
 clear c1 c2
 go_wp2_with fail
 refine (LF.out _ BW.out).mono ?_
 rintro r w1 ⟨rfl, hb1⟩
 have A1 := zaa hb1
 have B1 := zaa (zab BW.out hb1 BW.out.size)
 clear hb1 x0 x1 e0 LF
 by_cases c : fsI ns < 0
 ·rw [if_pos c] at EL1
  obtain rfl := EL1.out
  generalize fsI ns = fr at *
  clear EL1 LV F1
  go_wp2
  go_ret2
  exact zfw B1.out rfl
 rw [if_neg c] at EL1
 obtain ⟨k, k1, ek⟩ := F1.out (by omega)
 have KS := zaa ek
 rw [ek] at EL1 ⊢
 have c' : ¬ (k : Int) < 0 := by omega
 clear F1 c ek
 obtain ⟨x0, x1, x2, x3⟩ := CD.out _ A1.out
 have EX := zaa (show deS ns x = [⟨4, (k : Int), x⟩, ⟨5, 0, 0⟩] by unfold deS; rw [KS.out])
 rw [EX.out] at EL1
 have l7 := zwr (i : Int) (p : Int) (4 * (k : Int) + 2)
 have LSw := zaa (fun w1 => zlx (i : Int) (p : Int) (4 * (k : Int) + 2) w1 ⟨i0, by omega⟩ ⟨p0, p1⟩)
 have kr : 0 ≤ (k : Int) ∧ (k : Int) < 32 := by omega
 clear EX KS
 generalize swL (i : Int) (p : Int) (4 * (k : Int) + 2) = SW at *
 go_wp2_with fail
 refine (LV.out _ B1.out).mono ?_
 rintro r w2 ⟨rfl, hb2⟩
 have B2 := zaa (zab B1.out hb2 B1.out.size)
 have M2 : Hid (MiI w (w2.alloc (.cells #[.int .i64 4, .int .i64 (k : Int), .int .i64 x, .int .i64 5, .int .i64 0, .int .i64 0] 175)) (.slice (some ⟨w2.heap.size, 0, none⟩) 2 2) [⟨4, (k : Int), x⟩, ⟨5, 0, 0⟩]) := ⟨World.ownsRow_lit w2 _ 2 B2.out.size (by simp [maxLen]) rfl, B2.out.alloc B2.out.size _⟩
 clear hb2 x0 x1 x2 x3 LV
 go_wp2_with fail
 refine (zfp _ _ _ (by omega) kr).mono ?_
 rintro r w' ⟨rfl, hw'⟩
 subst w'
 go_wp2_with fail
 refine (LSw.out _).mono ?_
 rintro r w7 ⟨v7, rfl, hr7, hb7⟩
 have M7 := zaa (M2.out.below hb7)
 have R7 := zaa hr7.rd
 have hz7 := M7.out.z
 clear hr7 hb7 M2 LSw
 go_wp2_with (at_builtin; refine zae _ rfl (.tmp 41) (.tmp 46) 32 rfl w.heap.size 175 (.agg #[.int .i64 0, .int .i64 0, .int .i64 0]) 3 24 Tryz.underlying32 zce rfl (by decide) _ _ _ rfl M7.out.l _ _ _ rfl R7.out (zcw _) (by first | omega | (simp [maxLen]; done) | (simp [maxLen]; omega)) (by first | omega | (simp; done) | (simp; omega)) hz7 ?_)
 intro vT wT hownT hgrT
 have M := zaa (M7.out.grow SW hownT hgrT)
 obtain ⟨-, aT, cT, hvT, -⟩ := (zad hownT).rd
 subst hvT
 obtain rfl := EL1.out
 clear hownT hgrT M7 R7 EL1
 go_wp2
 go_ret2
 exact ⟨_, rfl, zad M.out.l, M.out.b⟩
set_option maxRecDepth 100000 in
set_option maxHeartbeats 16000000 in
theorem zqc (vd v : Value) (ws : List Int) (ps : List St) (es : List Int) (qs : List Se) (ns : List Ino) (ds : List Den) (i p : Nat) (w : World) (hd : RdDev w vd ws ps es qs) (hP : pmB ws ps = true) (hB : zpr es qs = true) (h : RdIm w v ns ds) (hi : zcb ns ds = true) (i16 : i < 16) (p8 : p < 8) :
  Calls Tryz.prog 102 #[vd, v, .int .i64 (i : Int), .int .i64 (p : Int)] w fun e w' => yajt w w' e (prF ns (enI ns (i : Int) (p : Int)) (pgV ws ps es qs (enI ns (i : Int) (p : Int))) (i : Int) (p : Int)) := by
 have TE : zes (enI ns (i : Int) (p : Int)) = true := by
  unfold enI
  rw [Int.toNat_natCast, Int.toNat_natCast]
  exact yafl hi i16 p
 have LV := zaa (fun w1 (hb : Below w.heap.size w w1) => zhq vd ws ps es qs (enI ns (i : Int) (p : Int)) w1 (hd.below hb) hP hB TE)
 obtain ⟨z0, z1⟩ := zeq TE
 obtain ⟨l16, l24, _⟩ := zau hi
 have TR : ∀ k (h : k < ns.length), ∀ z ∈ ns[k].map, 0 ≤ z ∧ z ≤ 1048576 := fun k hk z hz => by
  have t := (zfq ((zca.1 hi).ok k (by omega))).1 z (by rw [zbn hk]; exact hz)
  exact zeq t
 have LF : Hid (∀ w1, Below w.heap.size w w1 → Calls Tryz.prog 134 #[v, .int .i64 1, .int .i64 24] w1 fun e w' => e = .returned (.int .i64 (fpI ns)) ∧ Below w1.heap.size w1 w') := fun w1 hb => zgi v ns ds 1 24 w1 (h.below hb) (by omega) TR (by omega)
 have L16 := zaa l16
 have F1 : Hid (0 ≤ fpI ns → ∃ k : Nat, k < 24 ∧ fpI ns = (k : Int)) := fun c => by
  obtain ⟨k, a, b, -⟩ := zdb c
  exact ⟨k, a, b⟩
 have EL := zaa (fun x => show prF ns (enI ns (i : Int) (p : Int)) x (i : Int) (p : Int) = if enI ns (i : Int) (p : Int) = 0 ∨ ¬ enI ns (i : Int) (p : Int) % 4 = 2 then ([], 5) else if fpI ns < 0 then ([], 7) else (prS ns x ++ swL (i : Int) (p : Int) (4 * fpI ns + 1), 0) from rfl)
 obtain ⟨vW, vP, rfl, h1, h2⟩ := h
 obtain ⟨aW, cW, rfl, _, hcW⟩ := h1.shape
 obtain ⟨aP, cP, rfl, _, hcP⟩ := h2.shape
 obtain ⟨bW, oW, rfl, hblW, hcellW⟩ := hcW (by omega)
 have HM : Hid (∀ w', Below w.heap.size w w' → w'.cell? ⟨bW, oW + i * 11 + 3 + p, none⟩ = some (.int .i64 (enI ns (i : Int) (p : Int)))) := fun w' hb => by
  unfold enI
  rw [Int.toNat_natCast, Int.toNat_natCast, zbn (by have := L16.out; omega : i < ns.length)]
  obtain ⟨a0, a1, a2, a3, a4, a5, a6, a7, a8, a9, a10⟩ := hcellW i (by have := L16.out; omega)
  rcases (show p = 0 ∨ p = 1 ∨ p = 2 ∨ p = 3 ∨ p = 4 ∨ p = 5 ∨ p = 6 ∨ p = 7 by omega) with rfl | rfl | rfl | rfl | rfl | rfl | rfl | rfl
  ·exact (hb.cell (p := ⟨bW, oW + i * 11 + 3, none⟩) hblW).trans a3
  ·exact (hb.cell (p := ⟨bW, oW + i * 11 + 4, none⟩) hblW).trans a4
  ·exact (hb.cell (p := ⟨bW, oW + i * 11 + 5, none⟩) hblW).trans a5
  ·exact (hb.cell (p := ⟨bW, oW + i * 11 + 6, none⟩) hblW).trans a6
  ·exact (hb.cell (p := ⟨bW, oW + i * 11 + 7, none⟩) hblW).trans a7
  ·exact (hb.cell (p := ⟨bW, oW + i * 11 + 8, none⟩) hblW).trans a8
  ·exact (hb.cell (p := ⟨bW, oW + i * 11 + 9, none⟩) hblW).trans a9
  ·exact (hb.cell (p := ⟨bW, oW + i * 11 + 10, none⟩) hblW).trans a10
 obtain ⟨dW, eW, dP, eP, dS, eS, dQ, eQ, rfl, -, -⟩ := hd.form
 have i1 : (i : Int) < (ns.length : Int) := by have := L16.out; omega
 have i0 : (0 : Int) ≤ (i : Int) := by omega
 have p0 : (0 : Int) ≤ (p : Int) := by omega
 have p1 : (p : Int) < 8 := by omega
 clear h1 h2 hi hcW hcP hcellW l16 l24 TR hd hP hB L16 TE
 obtain ⟨W0, hW0⟩ : ∃ W0, W0 = w.alloc (.cells #[.slice dW ws.length eW, .slice dP ps.length eP, .slice dS es.length eS, .slice dQ qs.length eQ] 31) := ⟨_, rfl⟩
 obtain ⟨W, hW⟩ : ∃ W, W = W0.alloc (.cells #[.slice (some ⟨bW, oW, none⟩) ns.length cW, .slice aP ds.length cP] 42) := ⟨_, rfl⟩
 have z0' : W0.heap.size = w.heap.size + 1 := by rw [hW0]; simp
 have CA : Hid (∀ w', Below W.heap.size W w' → w'.cell? ⟨w.heap.size + 1, 0, none⟩ = some (.slice (some ⟨bW, oW, none⟩) ns.length cW) ∧ w'.cell? ⟨w.heap.size + 1, 1, none⟩ = some (.slice aP ds.length cP)) := fun w' hb => by
  have : w'.heap[w.heap.size + 1]? = some (.cells #[.slice (some ⟨bW, oW, none⟩) ns.length cW, .slice aP ds.length cP] 42 (0, 0)) := (hb.block _ (by rw [hW]; simp; omega)).trans (by rw [hW, ← z0']; exact zah rfl)
  exact ⟨(zac this).1, (zac this).2.1⟩
 have CD : Hid (∀ w', Below W.heap.size W w' → w'.cell? ⟨w.heap.size, 0, none⟩ = some (.slice dW ws.length eW) ∧ w'.cell? ⟨w.heap.size, 1, none⟩ = some (.slice dP ps.length eP) ∧ w'.cell? ⟨w.heap.size, 2, none⟩ = some (.slice dS es.length eS) ∧ w'.cell? ⟨w.heap.size, 3, none⟩ = some (.slice dQ qs.length eQ)) := fun w' hb => by
  have : w'.heap[w.heap.size]? = some (.cells #[.slice dW ws.length eW, .slice dP ps.length eP, .slice dS es.length eS, .slice dQ qs.length eQ] 31 (0, 0)) := (hb.block _ (by rw [hW]; simp; omega)).trans (by
   rw [hW]
   exact (((Below.refl W0.heap.size W0).alloc (Nat.le_refl _) _).block _ (by omega)).trans (by rw [hW0]; exact zah rfl))
  obtain ⟨a, b, c, d, -⟩ := zaq this
  exact ⟨a, b, c, d⟩
 have BW : Hid (Below w.heap.size w W) := by rw [hW, hW0]; exact ((Below.refl _ _).alloc (Nat.le_refl _) _).alloc (by simp) _
 generalize enI ns (i : Int) (p : Int) = e at *
 generalize pgV ws ps es qs e = x at *
 have EL1 := zaa (EL.out x)
 have te : Int.tmod e 4 = e % 4 := Int.tmod_eq_emod_of_nonneg z0
 clear EL z0'
 generalize prF ns e x (i : Int) (p : Int) = res at *
 obtain ⟨x0, x1⟩ := CA.out _ (Below.refl _ _)
 have e0 := HM.out _ BW.out
 go_enter Tryz.func102, Tryz.ntmps102
 go_upto_region 1 with fail
 rw [← hW0, ← hW]
 clear hW hW0
 by_cases c1 : e = 0
 ·rw [if_pos (.inl c1)] at EL1
  obtain rfl := EL1.out
  subst c1
  clear EL1 LV LF
  go_wp2
  go_ret2
  exact zfw BW.out rfl
 have q1 : (e == 0) = false := by rw [beq_eq_false_iff_ne]; exact c1
 by_cases c2 : e % 4 = 2
 case neg =>
  rw [if_pos (.inr c2)] at EL1
  obtain rfl := EL1.out
  have q2 : (e % 4 != 2) = true := by rw [bne_iff_ne]; exact c2
  clear EL1 LV LF c1 c2
  go_wp2
  go_ret2
  exact zfw BW.out rfl
 have q2 : (e % 4 != 2) = false := by rw [bne_eq_false_iff_eq]; exact c2
 rw [if_neg (fun h => h.elim c1 (fun h => h c2))] at EL1
 clear c1 c2
 go_wp2_with fail
 refine (LF.out _ BW.out).mono ?_
 rintro r w1 ⟨rfl, hb1⟩
 have A1 := zaa hb1
 have B1 := zaa (zab BW.out hb1 BW.out.size)
 clear hb1 x0 x1 e0 LF
 by_cases c : fpI ns < 0
 ·rw [if_pos c] at EL1
  obtain rfl := EL1.out
  generalize fpI ns = fr at *
  clear EL1 LV F1
  go_wp2
  go_ret2
  exact zfw B1.out rfl
 rw [if_neg c] at EL1
 obtain ⟨k, k1, ek⟩ := F1.out (by omega)
 have KS := zaa ek
 rw [ek] at EL1 ⊢
 have c' : ¬ (k : Int) < 0 := by omega
 clear F1 c ek
 obtain ⟨x0, x1, x2, x3⟩ := CD.out _ A1.out
 have wpk : IntKind.i64.wrap (312 + (k : Int)) = 312 + (k : Int) := by rw [IntKind.wrap_i64]; omega
 have EX := zaa (show prS ns x = [⟨1, 312 + (k : Int), x⟩] ++ zbm [312 + (k : Int)] by unfold prS; rw [KS.out]; rfl)
 rw [EX.out] at EL1
 have l7 := zwr (i : Int) (p : Int) (4 * (k : Int) + 1)
 have LSw := zaa (fun w1 => zlx (i : Int) (p : Int) (4 * (k : Int) + 1) w1 ⟨i0, by omega⟩ ⟨p0, p1⟩)
 have kr : 0 ≤ (k : Int) ∧ (k : Int) < 32 := by omega
 have l6 : (zbm [312 + (k : Int)]).length ≤ 2 := zcc [312 + (k : Int)]
 have LFl := zaa (fun v w1 h => zcv v [312 + (k : Int)] w1 h (by simp) (by intro j h; simp at h; subst h; simp; omega))
 clear EX KS
 generalize swL (i : Int) (p : Int) (4 * (k : Int) + 1) = SW at *
 generalize zbm [312 + (k : Int)] = FL at *
 go_wp2_with fail
 refine (LV.out _ B1.out).mono ?_
 rintro r w2 ⟨rfl, hb2⟩
 have B2 := zaa (zab B1.out hb2 B1.out.size)
 clear hb2 x0 x1 x2 x3 LV
 go_wp2_with fail
 refine (zcy _ _ _).mono ?_
 rintro r w4 ⟨rfl, hb4⟩
 have B4 := zaa (zab B2.out hb4 B2.out.size)
 have M4 : Hid (MiI w (w4.alloc (.cells #[.int .i64 1, .int .i64 (312 + (k : Int)), .int .i64 x] 175)) (.slice (some ⟨w4.heap.size, 0, none⟩) 1 1) [⟨1, 312 + (k : Int), x⟩]) := ⟨World.ownsRow_lit w4 _ 1 B4.out.size (by simp [maxLen]) rfl, B4.out.alloc B4.out.size _⟩
 have M6 := zaa (M4.out.below ((Below.refl _ _).alloc (Nat.le_refl _) (.cells #[.int .i64 (312 + (k : Int))] 3)))
 have R6 := zaa (zkw (w4.alloc (.cells #[.int .i64 1, .int .i64 (312 + (k : Int)), .int .i64 x] 175)) (312 + (k : Int)))
 simp only [World.size_alloc] at R6
 clear hb4 M4
 go_wp2_with fail
 refine (LFl.out _ _ R6.out).mono ?_
 rintro r w5 ⟨v5, rfl, hr5, hb5⟩
 have M5 := zaa (M6.out.below hb5)
 have R5 := zaa hr5.rd
 have hz5 := M5.out.z
 clear hr5 hb5 M6 R6 LFl
 go_wp2_with (at_builtin; refine zae _ rfl (.tmp 40) (.tmp 44) 32 rfl w.heap.size 175 (.agg #[.int .i64 0, .int .i64 0, .int .i64 0]) 3 24 Tryz.underlying32 zce rfl (by decide) _ _ _ rfl M5.out.l _ _ _ rfl R5.out (zcw _) (by first | omega | (simp [maxLen]; done) | (simp [maxLen]; omega)) (by first | omega | (simp; done) | (simp; omega)) hz5 ?_)
 intro vS wS hownS hgrS
 have M6 := zaa (M5.out.grow FL hownS hgrS)
 have l8 : ([(⟨1, 312 + (k : Int), x⟩ : Mi)] ++ FL).length ≤ 3 := by simp; omega
 generalize [(⟨1, 312 + (k : Int), x⟩ : Mi)] ++ FL = LL at *
 clear hownS hgrS M5 R5
 go_wp2_with fail
 refine (zfp _ _ _ (by omega) kr).mono ?_
 rintro r w' ⟨rfl, hw'⟩
 subst w'
 go_wp2_with fail
 refine (LSw.out _).mono ?_
 rintro r w7 ⟨v7, rfl, hr7, hb7⟩
 have M7 := zaa (M6.out.below hb7)
 have R7 := zaa hr7.rd
 have hz7 := M7.out.z
 clear hr7 hb7 M6 LSw
 go_wp2_with (at_builtin; refine zae _ rfl (.tmp 46) (.tmp 51) 32 rfl w.heap.size 175 (.agg #[.int .i64 0, .int .i64 0, .int .i64 0]) 3 24 Tryz.underlying32 zce rfl (by decide) _ _ _ rfl M7.out.l _ _ _ rfl R7.out (zcw _) (by first | omega | (simp [maxLen]; done) | (simp [maxLen]; omega)) (by first | omega | (simp; done) | (simp; omega)) hz7 ?_)
 intro vT wT hownT hgrT
 have M := zaa (M7.out.grow SW hownT hgrT)
 obtain ⟨-, aT, cT, hvT, -⟩ := (zad hownT).rd
 subst hvT
 obtain rfl := EL1.out
 clear hownT hgrT M7 R7 EL1
 go_wp2
 go_ret2
 exact ⟨_, rfl, zad M.out.l, M.out.b⟩
end Go.Proofs.YtpakbbdlhlkogaaGreatDoor
