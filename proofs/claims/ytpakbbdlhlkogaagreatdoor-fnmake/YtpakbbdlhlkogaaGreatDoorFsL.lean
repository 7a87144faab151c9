/- A file system that is new, and one that is owned: by the model. -/
import Derived.Test.YtpakbbdlhlkogaaGreatDoorZBJ
import Derived.Test.YtpakbbdlhlkogaaGreatDoorNdC
import Derived.Test.YtpakbbdlhlkogaaGreatDoorZAU
import Derived.Test.YtpakbbdlhlkogaaGreatDoorZBD
namespace Go.Proofs.YtpakbbdlhlkogaaGreatDoor
open Go.RowKit
theorem yauo : ndW = zpe := by unfold ndW zmc zpe; rfl
theorem yade : ∃ ns ds, Idle ndW zs32 ns ds := by
 rw [yauo]
 exact ⟨_, _, yamp, by kernel_rfl, by kernel_rfl, by kernel_rfl⟩
theorem FsIdle.mk' {w : World} {v : Value} {ws es hs : List Int} {ns : List Ino} {ds : List Den} (a : RdFs w v ws es hs [] 0 0 [] false) (b : Idle ws es ns ds) (c : ziz hs = true) : FsIdle w v := ⟨ws, es, ns, ds, hs, a, b, c⟩
set_option maxRecDepth 100000 in
set_option maxHeartbeats 16000000 in
theorem yahk (w : World) : Calls Tryz.prog 48 #[] w fun e w' => ∃ v', e = .returned v' ∧ FsIdle w' v' ∧ Below w.heap.size w w' := by
 obtain ⟨V, hV⟩ : ∃ V, V = w.alloc (.cells zei.toArray 37) := ⟨_, rfl⟩
 have YV : Hid (V.heap[w.heap.size]? = some (.cells zei.toArray 37 (0, 0))) := by rw [hV]; exact zah rfl
 have BV : Hid (Below w.heap.size w V) := by rw [hV]; exact (Below.refl _ _).alloc (Nat.le_refl _) _
 have zV : Hid (w.heap.size < V.heap.size) := by rw [hV]; simp [Hid]
 unfold zei at hV
 go_enter Tryz.func48, Tryz.ntmps48
 go_upto_region 1 with fail
 rw [← hV]
 clear hV
 go_wp2_with fail
 refine (zkm V).mono ?_
 rintro e w1 ⟨v1, rfl, hr1, hb1⟩
 obtain ⟨iW, jW, iP, jP, iS, jS, iQ, jQ, rfl, -, -⟩ := hr1.form
 have D1 := zaa hr1
 have B1 := zaa hb1
 clear hr1 hb1
 go_wp2_with fail
 refine (yada w1).mono ?_
 rintro e w2 ⟨v2, rfl, hr2, hb2⟩
 have R2 : Hid (RdI w2 v2 (ztp 128)) := hr2.rd
 obtain ⟨-, iH, jH, hv2, -⟩ := hr2.rd
 subst hv2
 have D2 := zaa (D1.out.below hb2)
 have B2 := zaa (zab B1.out hb2 B1.out.size)
 have z2 : Hid (V.heap.size ≤ w2.heap.size) := B2.out.size
 clear hr2 hb2 D1 B1
 have Y2 := zaa ((B2.out.block w.heap.size zV.out).trans YV.out)
 obtain ⟨X, hX⟩ : ∃ X, X = (w2.alloc (.cells #[] 175)).alloc (.cells #[] 9) := ⟨_, rfl⟩
 have BX : Hid (Below w2.heap.size w2 X) := by rw [hX]; exact ((Below.refl _ _).alloc (Nat.le_refl _) _).alloc (by simp) _
 have YX : Hid (X.heap[w.heap.size]? = some (.cells zei.toArray 37 (0, 0))) := by rw [hX]; exact zak (zak Y2.out)
 have YX' : X.heap[w.heap.size]? = some (.cells #[.slice none 0 0, .slice none 0 0, .slice none 0 0, .slice none 0 0, .slice none 0 0, .slice none 0 0, .int .i64 0, .int .i64 0, .slice none 0 0, .bool false] 37 (0, 0)) := YX.out
 obtain ⟨x0, x1, x2, x3, x4, x5, x6, x7, x8, x9, g0, g1, g2, g3, g4, g5, g6, g7, g8, g9⟩ := zaj YX'
 clear YX'
 have O4 := zaa (zbx X w.heap.size (.slice iW ndW.length jW) (.slice iP 0 jP) (.slice iS zs32.length jS) (.slice iQ 0 jQ) (.slice iH (ztp 128).length jH) (.slice (some ⟨w2.heap.size, 0, none⟩) 0 0) (.int .i64 0) (.int .i64 0) (.slice (some ⟨w2.heap.size + 1, 0, none⟩) 0 0) (.bool false))
 have S4 := zaa (Soft.outside O4.out YX.out rfl)
 have SS := zaa ((Soft.of_below BX.out).trans S4.out)
 have B3 := zaa (zab (zab BV.out B2.out BV.out.size) BX.out (by have q := zV.out; have q1 := z2.out; omega))
 have B4 := zaa (B3.out.trans (O4.out.below (B := w.heap.size) (Nat.le_refl _) B3.out.size))
 have F4 : Hid (FsIdle (zge X w.heap.size (.slice iW ndW.length jW) (.slice iP 0 jP) (.slice iS zs32.length jS) (.slice iQ 0 jQ) (.slice iH (ztp 128).length jH) (.slice (some ⟨w2.heap.size, 0, none⟩) 0 0) (.int .i64 0) (.int .i64 0) (.slice (some ⟨w2.heap.size + 1, 0, none⟩) 0 0) (.bool false)) (.agg #[.slice iW ndW.length jW, .slice iP 0 jP, .slice iS zs32.length jS, .slice iQ 0 jQ, .slice iH (ztp 128).length jH, .slice (some ⟨w2.heap.size, 0, none⟩) 0 0, .int .i64 0, .int .i64 0, .slice (some ⟨w2.heap.size + 1, 0, none⟩) 0 0, .bool false])) := by
  obtain ⟨ns, ds, hi⟩ := yade
  exact FsIdle.mk' ⟨iW, jW, iP, jP, iS, jS, iQ, jQ, iH, jH, _, _, _, _, rfl, D2.out.soft SS.out (zch hi).1 (zch hi).2, RdI.soft R2.out SS.out (by rw [zrt]; decide), yarr _ _ _ (fun e => nomatch e), yake _ _⟩ hi yaeh
 clear O4 S4 SS B3 BX YX D2 R2 Y2
 subst hX
 go_wp2
 refine bodyPost_ret (v := .agg #[.slice iW ndW.length jW, .slice iP 0 jP, .slice iS zs32.length jS, .slice iQ 0 jQ, .slice iH (ztp 128).length jH, .slice (some ⟨w2.heap.size, 0, none⟩) 0 0, .int .i64 0, .int .i64 0, .slice (some ⟨w2.heap.size + 1, 0, none⟩) 0 0, .bool false]) (by simp [results, Tryz.results48, go_sem, x0, x1, x2, x3, x4, x5, x6, x7, x8, x9]) rfl ?_
 exact ⟨_, rfl, F4.out, B4.out⟩
set_option maxRecDepth 100000 in
set_option maxHeartbeats 16000000 in
theorem yadh (v : Value) (ws es hs : List Int) (td : List Mi) (cd vl : Int) (nm : List ByteArray) (fr : Bool) (w : World) (h : RdFs w v ws es hs td cd vl nm fr) (h1 : 3 ≤ ws.length ∧ ws.length ≤ 1048576) (h2 : 3 ≤ es.length ∧ es.length ≤ 1048576) (h3 : 3 ≤ hs.length ∧ hs.length ≤ 1048576) (h4 : td.length ≤ 1048576) (h5 : nm.length ≤ 1048576) :
  Calls Tryz.prog 56 #[v] w fun e w' => ∃ v', e = .returned v' ∧ RdFs w' v' ws es hs td cd vl nm fr ∧ Below w.heap.size w w' := by
 obtain ⟨aW, cW, aP, cP, aS, cS, aQ, cQ, aH, cH, aT, cT, aN, cN, rfl, a, b, c, d⟩ := h
 have RH : Hid (Rd w 1 (.slice aH hs.length cH) hs.length (zdd hs)) := b
 have RT : Hid (Rd w 3 (.slice aT td.length cT) td.length (mis td)) := c
 have RN : Hid (Rd w 1 (.slice aN nm.length cN) nm.length (zer nm)) := d
 have LO := zaa (fun w1 (hb : Below w.heap.size w w1) => yadm _ ws [] es [] w1 (a.below hb) h1.2 (by simp) h2.2 (by simp))
 have H1 := zaa h1.1
 have H2 := zaa h2.1
 have H3 := zaa h3.1
 obtain ⟨-, h3⟩ := h3
 clear a b c d h1 h2
 obtain ⟨V, hV⟩ : ∃ V, V = (w.alloc (.cells #[.slice aW ws.length cW, .slice aP 0 cP, .slice aS es.length cS, .slice aQ 0 cQ, .slice aH hs.length cH, .slice aT td.length cT, .int .i64 cd, .int .i64 vl, .slice aN nm.length cN, .bool fr] 37)).alloc (.cells zei.toArray 37) := ⟨_, rfl⟩
 have BV : Hid (Below w.heap.size w V) := by rw [hV]; exact ((Below.refl _ _).alloc (Nat.le_refl _) _).alloc (by simp) _
 have XV : Hid (V.heap[w.heap.size]? = some (.cells #[.slice aW ws.length cW, .slice aP 0 cP, .slice aS es.length cS, .slice aQ 0 cQ, .slice aH hs.length cH, .slice aT td.length cT, .int .i64 cd, .int .i64 vl, .slice aN nm.length cN, .bool fr] 37 (0, 0))) := by rw [hV]; exact zak (zah rfl)
 have YV : Hid (V.heap[w.heap.size + 1]? = some (.cells zei.toArray 37 (0, 0))) := by rw [hV]; exact zah (by simp)
 have zV : Hid (w.heap.size + 2 ≤ V.heap.size) := by rw [hV]; simp [Hid]
 unfold zei at hV
 go_enter Tryz.func56, Tryz.ntmps56
 go_upto_region 1 with fail
 rw [← hV]
 clear hV
 obtain ⟨x0, x1, x2, x3, x4, x5, x6, x7, x8, x9, -⟩ := zaj XV.out
 go_wp2_with fail
 refine (LO.out V BV.out).mono ?_
 rintro e w1 ⟨v1, rfl, hr1, hb1⟩
 have D1 := zaa hr1.rd
 obtain ⟨iW, jW, iP, jP, iS, jS, iQ, jQ, rfl, -, -⟩ := hr1.rd.form
 have X1 := zaa ((hb1.block w.heap.size (by have q := zV.out; omega)).trans XV.out)
 have Y1 := zaa ((hb1.block (w.heap.size + 1) (by have q := zV.out; omega)).trans YV.out)
 have B1 := zaa (zab BV.out hb1 BV.out.size)
 have z1 : Hid (w.heap.size + 2 ≤ w1.heap.size) := Nat.le_trans zV.out hb1.size
 clear hr1 hb1 x0 x1 x2 x3 x4 x5 x6 x7 x8 x9 XV YV LO BV zV
 obtain ⟨x0, x1, x2, x3, x4, x5, x6, x7, x8, x9, g0, g1, g2, g3, g4, g5, g6, g7, g8, g9⟩ := zaj X1.out
 obtain ⟨U1, hU1⟩ : ∃ U1, U1 = putR w1 w.heap.size (.slice iW ws.length jW) (.slice iP 0 jP) (.slice iS es.length jS) (.slice iQ 0 jQ) := ⟨_, rfl⟩
 have O1 : Hid (Outside w.heap.size (w.heap.size + 1) w1 U1) := by rw [hU1]; exact zhy _ _ _ _ _ _
 have S1 := zaa (Soft.outside O1.out X1.out rfl)
 have XB : Hid (U1.heap[w.heap.size]? = some (.cells #[.slice iW ws.length jW, .slice iP 0 jP, .slice iS es.length jS, .slice iQ 0 jQ, .slice aH hs.length cH, .slice aT td.length cT, .int .i64 cd, .int .i64 vl, .slice aN nm.length cN, .bool fr] 37 (0, 0))) := by rw [hU1]; exact yaiq X1.out _ _ _ _
 have YB := zaa ((O1.out.block (w.heap.size + 1) (by have q := z1.out; omega) (by omega)).trans Y1.out)
 have BB := zaa (B1.out.trans (O1.out.below (B := w.heap.size) (Nat.le_refl _) B1.out.size))
 have zX : Hid (w.heap.size + 2 ≤ U1.heap.size) := Nat.le_trans z1.out O1.out.size
 have DU := zaa (D1.out.soft S1.out H1.out H2.out)
 unfold putR at hU1
 go_upto_region 2 with fail
 rw [← hU1]
 clear hU1 x0 x1 x2 x3 x4 x5 x6 x7 x8 x9 g0 g1 g2 g3 g4 g5 g6 g7 g8 g9 X1 Y1 B1 z1 O1 S1 D1
 have HOH : Hid ((U1.alloc (.cells #[] 3)).ownsRow U1.heap.size 3 1 (.slice (some ⟨U1.heap.size, 0, none⟩) 0 0) 0 []) := by
  unfold Hid; simpa using World.ownsRow_lit (base := U1.heap.size) (e := 3) (size := 1) U1 #[] 0 (by simp) (by simp) rfl
 have XAH := zaa (zak (o := .cells #[] 3) XB.out)
 obtain ⟨x0, x1, x2, x3, x4, x5, x6, x7, x8, x9, -⟩ := zaj XAH.out
 have SRH : Hid (Rd (U1.alloc (.cells #[] 3)) 1 (.slice aH hs.length cH) hs.length (zdd hs)) := Rd.below RH.out (BB.out.alloc BB.out.size _)
 go_wp2_with (at_builtin; refine zae _ rfl (.tmp 7) (.tmp 9) 23 rfl U1.heap.size 3 (.int .i64 0) 1 8 Tryz.underlying23 zlj rfl (by decide) _ 0 [] rfl HOH.out _ (hs.length) (zdd hs) rfl SRH.out (zfs hs) (by first | omega | (simp [maxLen]; omega)) (by first | omega | (simp; omega)) (by simp) ?_)
 intro vH uH hownH hgrH
 have hownH : uH.ownsRow U1.heap.size 3 1 vH (hs.length) (zdd hs) := by simpa using hownH
 have RH := zaa (zad hownH).rd
 obtain ⟨-, iH, jH, hvH, -⟩ := (zad hownH).rd
 subst hvH
 have BGH : Hid (Below U1.heap.size U1 uH) := ((Below.refl _ _).alloc (Nat.le_refl _) _).grown hgrH (by simp) (fun k hk => by simp [Value.ownBlock] at hk; omega)
 clear hownH hgrH x0 x1 x2 x3 x4 x5 x6 x7 x8 x9 XAH HOH SRH
 have XUH := zaa ((BGH.out.block w.heap.size (by have q := zX.out; omega)).trans XB.out)
 have YUH := zaa ((BGH.out.block (w.heap.size + 1) (by have q := zX.out; omega)).trans YB.out)
 have BUH := zaa (zab BB.out BGH.out BB.out.size)
 have zUH : Hid (w.heap.size + 2 ≤ uH.heap.size) := Nat.le_trans zX.out BGH.out.size
 obtain ⟨x0, x1, x2, x3, x4, x5, x6, x7, x8, x9, g0, g1, g2, g3, g4, g5, g6, g7, g8, g9⟩ := zaj XUH.out
 obtain ⟨U2, hU2⟩ : ∃ U2, U2 = uH.setCell ⟨w.heap.size, 4, none⟩ (.slice iH (hs.length) jH) := ⟨_, rfl⟩
 have OH : Hid (Outside w.heap.size (w.heap.size + 1) uH U2) := by rw [hU2]; exact zaa (Outside.setCell (Outside.refl _ _ _) (a := ⟨w.heap.size, 4, none⟩) (Nat.le_refl _) (Nat.lt_succ_self _) _)
 have SH := zaa (Soft.outside OH.out XUH.out rfl)
 have STH := zaa ((Soft.of_below BGH.out).trans SH.out)
 have XNH : Hid (U2.heap[w.heap.size]? = some (.cells #[.slice iW ws.length jW, .slice iP 0 jP, .slice iS es.length jS, .slice iQ 0 jQ, .slice iH hs.length jH, .slice aT td.length cT, .int .i64 cd, .int .i64 vl, .slice aN nm.length cN, .bool fr] 37 (0, 0))) := by rw [hU2]; exact ztd XUH.out _
 have YNH := zaa ((OH.out.block (w.heap.size + 1) (by have q := zUH.out; omega) (by omega)).trans YUH.out)
 have BNH := zaa (BUH.out.trans (OH.out.below (B := w.heap.size) (Nat.le_refl _) BUH.out.size))
 have zNH : Hid (w.heap.size + 2 ≤ U2.heap.size) := Nat.le_trans zUH.out OH.out.size
 have QH : Hid (RdI U2 (.slice iH (hs.length) jH) hs) := RdI.soft RH.out SH.out H3.out
 go_upto_region 3 with fail
 rw [← hU2]
 clear hU2 x0 x1 x2 x3 x4 x5 x6 x7 x8 x9 g0 g1 g2 g3 g4 g5 g6 g7 g8 g9 XB YB BB zX XUH YUH BUH zUH OH SH BGH RH
 have XB := XNH
 have YB := YNH
 have BB := BNH
 have zX := zNH
 clear XNH YNH BNH zNH
 have HOT : Hid ((U2.alloc (.cells #[] 175)).ownsRow U2.heap.size 175 3 (.slice (some ⟨U2.heap.size, 0, none⟩) 0 0) 0 []) := by
  unfold Hid; simpa using World.ownsRow_lit (base := U2.heap.size) (e := 175) (size := 3) U2 #[] 0 (by simp) (by simp) rfl
 have XAT := zaa (zak (o := .cells #[] 175) XB.out)
 obtain ⟨x0, x1, x2, x3, x4, x5, x6, x7, x8, x9, -⟩ := zaj XAT.out
 have SRT : Hid (Rd (U2.alloc (.cells #[] 175)) 3 (.slice aT td.length cT) td.length (mis td)) := Rd.below RT.out (BB.out.alloc BB.out.size _)
 go_wp2_with (at_builtin; refine zae _ rfl (.tmp 12) (.tmp 14) 32 rfl U2.heap.size 175 (.agg #[.int .i64 0, .int .i64 0, .int .i64 0]) 3 24 Tryz.underlying32 zce rfl (by decide) _ 0 [] rfl HOT.out _ (td.length) (mis td) rfl SRT.out (zcw td) (by first | omega | (simp [maxLen]; omega)) (by first | omega | (simp; omega)) (by simp) ?_)
 intro vT uT hownT hgrT
 have hownT : uT.ownsRow U2.heap.size 175 3 vT (td.length) (mis td) := by simpa using hownT
 have RT := zaa (zad hownT).rd
 obtain ⟨-, iT, jT, hvT, -⟩ := (zad hownT).rd
 subst hvT
 have BGT : Hid (Below U2.heap.size U2 uT) := ((Below.refl _ _).alloc (Nat.le_refl _) _).grown hgrT (by simp) (fun k hk => by simp [Value.ownBlock] at hk; omega)
 clear hownT hgrT x0 x1 x2 x3 x4 x5 x6 x7 x8 x9 XAT HOT SRT
 have XUT := zaa ((BGT.out.block w.heap.size (by have q := zX.out; omega)).trans XB.out)
 have YUT := zaa ((BGT.out.block (w.heap.size + 1) (by have q := zX.out; omega)).trans YB.out)
 have BUT := zaa (zab BB.out BGT.out BB.out.size)
 have zUT : Hid (w.heap.size + 2 ≤ uT.heap.size) := Nat.le_trans zX.out BGT.out.size
 obtain ⟨x0, x1, x2, x3, x4, x5, x6, x7, x8, x9, g0, g1, g2, g3, g4, g5, g6, g7, g8, g9⟩ := zaj XUT.out
 obtain ⟨U3, hU3⟩ : ∃ U3, U3 = uT.setCell ⟨w.heap.size, 5, none⟩ (.slice iT (td.length) jT) := ⟨_, rfl⟩
 have OT : Hid (Outside w.heap.size (w.heap.size + 1) uT U3) := by rw [hU3]; exact zaa (Outside.setCell (Outside.refl _ _ _) (a := ⟨w.heap.size, 5, none⟩) (Nat.le_refl _) (Nat.lt_succ_self _) _)
 have ST := zaa (Soft.outside OT.out XUT.out rfl)
 have STT := zaa ((Soft.of_below BGT.out).trans ST.out)
 have XNT : Hid (U3.heap[w.heap.size]? = some (.cells #[.slice iW ws.length jW, .slice iP 0 jP, .slice iS es.length jS, .slice iQ 0 jQ, .slice iH hs.length jH, .slice iT td.length jT, .int .i64 cd, .int .i64 vl, .slice aN nm.length cN, .bool fr] 37 (0, 0))) := by rw [hU3]; exact zgx XUT.out _
 have YNT := zaa ((OT.out.block (w.heap.size + 1) (by have q := zUT.out; omega) (by omega)).trans YUT.out)
 have BNT := zaa (BUT.out.trans (OT.out.below (B := w.heap.size) (Nat.le_refl _) BUT.out.size))
 have zNT : Hid (w.heap.size + 2 ≤ U3.heap.size) := Nat.le_trans zUT.out OT.out.size
 have QT : Hid (RdM U3 (.slice iT (td.length) jT) td) := RdM.soft RT.out ST.out
 go_upto_region 4 with fail
 rw [← hU3]
 clear hU3 x0 x1 x2 x3 x4 x5 x6 x7 x8 x9 g0 g1 g2 g3 g4 g5 g6 g7 g8 g9 XB YB BB zX XUT YUT BUT zUT OT ST BGT RT
 have XB := XNT
 have YB := YNT
 have BB := BNT
 have zX := zNT
 clear XNT YNT BNT zNT
 have HON : Hid ((U3.alloc (.cells #[] 9)).ownsRow U3.heap.size 9 1 (.slice (some ⟨U3.heap.size, 0, none⟩) 0 0) 0 []) := by
  unfold Hid; simpa using World.ownsRow_lit (base := U3.heap.size) (e := 9) (size := 1) U3 #[] 0 (by simp) (by simp) rfl
 have XAN := zaa (zak (o := .cells #[] 9) XB.out)
 obtain ⟨x0, x1, x2, x3, x4, x5, x6, x7, x8, x9, -⟩ := zaj XAN.out
 have SRN : Hid (Rd (U3.alloc (.cells #[] 9)) 1 (.slice aN nm.length cN) nm.length (zer nm)) := Rd.below RN.out (BB.out.alloc BB.out.size _)
 go_wp2_with (at_builtin; refine zae _ rfl (.tmp 17) (.tmp 20) 33 rfl U3.heap.size 9 (.string ⟨#[]⟩) 1 16 Tryz.underlying33 zfg rfl (by decide) _ 0 [] rfl HON.out _ (nm.length) (zer nm) rfl SRN.out (zbl nm) (by first | omega | (simp [maxLen]; omega)) (by first | omega | (simp; omega)) (by simp) ?_)
 intro vN uN hownN hgrN
 have hownN : uN.ownsRow U3.heap.size 9 1 vN (nm.length) (zer nm) := by simpa using hownN
 have RN := zaa (zad hownN).rd
 obtain ⟨-, iN, jN, hvN, -⟩ := (zad hownN).rd
 subst hvN
 have BGN : Hid (Below U3.heap.size U3 uN) := ((Below.refl _ _).alloc (Nat.le_refl _) _).grown hgrN (by simp) (fun k hk => by simp [Value.ownBlock] at hk; omega)
 clear hownN hgrN x0 x1 x2 x3 x4 x5 x6 x7 x8 x9 XAN HON SRN
 have XUN := zaa ((BGN.out.block w.heap.size (by have q := zX.out; omega)).trans XB.out)
 have YUN := zaa ((BGN.out.block (w.heap.size + 1) (by have q := zX.out; omega)).trans YB.out)
 have BUN := zaa (zab BB.out BGN.out BB.out.size)
 have zUN : Hid (w.heap.size + 2 ≤ uN.heap.size) := Nat.le_trans zX.out BGN.out.size
 obtain ⟨x0, x1, x2, x3, x4, x5, x6, x7, x8, x9, g0, g1, g2, g3, g4, g5, g6, g7, g8, g9⟩ := zaj XUN.out
 obtain ⟨U4, hU4⟩ : ∃ U4, U4 = uN.setCell ⟨w.heap.size, 8, none⟩ (.slice iN (nm.length) jN) := ⟨_, rfl⟩
 have ON : Hid (Outside w.heap.size (w.heap.size + 1) uN U4) := by rw [hU4]; exact zaa (Outside.setCell (Outside.refl _ _ _) (a := ⟨w.heap.size, 8, none⟩) (Nat.le_refl _) (Nat.lt_succ_self _) _)
 have SN := zaa (Soft.outside ON.out XUN.out rfl)
 have STN := zaa ((Soft.of_below BGN.out).trans SN.out)
 have XNN : Hid (U4.heap[w.heap.size]? = some (.cells #[.slice iW ws.length jW, .slice iP 0 jP, .slice iS es.length jS, .slice iQ 0 jQ, .slice iH hs.length jH, .slice iT td.length jT, .int .i64 cd, .int .i64 vl, .slice iN nm.length jN, .bool fr] 37 (0, 0))) := by rw [hU4]; exact zjo XUN.out _
 have YNN := zaa ((ON.out.block (w.heap.size + 1) (by have q := zUN.out; omega) (by omega)).trans YUN.out)
 have BNN := zaa (BUN.out.trans (ON.out.below (B := w.heap.size) (Nat.le_refl _) BUN.out.size))
 have zNN : Hid (w.heap.size + 2 ≤ U4.heap.size) := Nat.le_trans zUN.out ON.out.size
 have QN : Hid (RdT U4 (.slice iN (nm.length) jN) nm) := RdT.soft RN.out SN.out
 go_upto_region 5 with fail
 rw [← hU4]
 clear hU4 x0 x1 x2 x3 x4 x5 x6 x7 x8 x9 g0 g1 g2 g3 g4 g5 g6 g7 g8 g9 XB YB BB zX XUN YUN BUN zUN ON SN BGN RN
 have XB := XNN
 have YB := YNN
 have BB := BNN
 have zX := zNN
 clear XNN YNN BNN zNN
 obtain ⟨x0, x1, x2, x3, x4, x5, x6, x7, x8, x9, -⟩ := zaj XB.out
 have YB' : U4.heap[w.heap.size + 1]? = some (.cells #[.slice none 0 0, .slice none 0 0, .slice none 0 0, .slice none 0 0, .slice none 0 0, .slice none 0 0, .int .i64 0, .int .i64 0, .slice none 0 0, .bool false] 37 (0, 0)) := YB.out
 obtain ⟨y0, y1, y2, y3, y4, y5, y6, y7, y8, y9, g0, g1, g2, g3, g4, g5, g6, g7, g8, g9⟩ := zaj YB'
 clear YB'
 have OF := zaa (zbx U4 (w.heap.size + 1) (.slice iW ws.length jW) (.slice iP 0 jP) (.slice iS es.length jS) (.slice iQ 0 jQ) (.slice iH hs.length jH) (.slice iT td.length jT) (.int .i64 cd) (.int .i64 vl) (.slice iN nm.length jN) (.bool fr))
 have SF := zaa (Soft.outside OF.out YB.out rfl)
 have BF := zaa (BB.out.trans (OF.out.below (B := w.heap.size) (by omega) BB.out.size))
 have FF : Hid (RdFs _ (.agg #[.slice iW ws.length jW, .slice iP 0 jP, .slice iS es.length jS, .slice iQ 0 jQ, .slice iH hs.length jH, .slice iT td.length jT, .int .i64 cd, .int .i64 vl, .slice iN nm.length jN, .bool fr]) ws es hs td cd vl nm fr) :=
  ⟨iW, jW, iP, jP, iS, jS, iQ, jQ, iH, jH, iT, jT, iN, jN, rfl, DU.out.soft (((STH.out.trans STT.out).trans STN.out).trans SF.out) H1.out H2.out, RdI.soft QH.out ((STT.out.trans STN.out).trans SF.out) H3.out, RdM.soft QT.out (STN.out.trans SF.out), RdT.soft QN.out SF.out⟩
 clear OF SF DU QH QT QN STH STT STN
 go_wp2
 refine bodyPost_ret (v := .agg #[.slice iW ws.length jW, .slice iP 0 jP, .slice iS es.length jS, .slice iQ 0 jQ, .slice iH hs.length jH, .slice iT td.length jT, .int .i64 cd, .int .i64 vl, .slice iN nm.length jN, .bool fr]) (by simp [results, Tryz.results56, go_sem, y0, y1, y2, y3, y4, y5, y6, y7, y8, y9]) rfl ?_
 exact ⟨_, rfl, FF.out, BF.out⟩
end Go.Proofs.YtpakbbdlhlkogaaGreatDoor
