/- Several texts laid together: FsL, FsM, FsN. -/
import Derived.Test.YtkdjfhkalelafaaGreatDoorZBF
import Derived.Test.YtkdjfhkalelafaaGreatDoorNdC
import Derived.Test.YtkdjfhkalelafaaGreatDoorZAS
import Derived.Test.YtkdjfhkalelafaaGreatDoorZBA
import Derived.Test.YtkdjfhkalelafaaGreatDoorFsI
import Derived.Test.YtkdjfhkalelafaaGreatDoorZBI
namespace Go.Proofs.YtkdjfhkalelafaaGreatDoor
open Go.RowKit
theorem yavf:ndW = zob:=by unfold ndW zlz zob; rfl
theorem yadc:∃ ns ds,Idle ndW zs32 ns ds:=by
 rw [yavf]
 exact ⟨_,_,yamk,by kernel_rfl,by kernel_rfl,by kernel_rfl⟩
theorem FsIdle.mk' {w:World} {v:Value} {ws es hs:List Int} {ns:List Ino} {ds:List Den} (a:RdFs w v ws es hs [] 0 0 [] false) (b:Idle ws es ns ds) (c:zjp hs = true):FsIdle w v:=⟨ws,es,ns,ds,hs,a,b,c⟩
set_option maxRecDepth 100000 in
set_option maxHeartbeats 16000000 in
theorem yahk (w:World):Calls Tryz.prog 44 #[] w fun e w' => ∃ v',e = .returned v' ∧ FsIdle w' v' ∧ Below w.heap.size w w':=by
 obtain ⟨V,hV⟩:∃ V,V = w.alloc (.cells zei.toArray 37):=⟨_,rfl⟩
 have YV:Hid (V.heap[w.heap.size]? = some (.cells zei.toArray 37 (0,0))):=by rw [hV]; exact zah rfl
 have BV:Hid (Below w.heap.size w V):=by rw [hV]; exact (Below.refl _ _).alloc (Nat.le_refl _) _
 have zV:Hid (w.heap.size < V.heap.size):=by rw [hV]; simp [Hid]
 unfold zei at hV
 go_enter Tryz.func44,Tryz.ntmps44
 go_upto_region 1 with fail
 rw [← hV]
 clear hV
 go_wp2_with fail
 refine (zju V).mono ?_
 rintro e w1 ⟨v1,rfl,hr1,hb1⟩
 obtain ⟨iW,jW,iP,jP,iS,jS,iQ,jQ,rfl,-,-⟩:=hr1.form
 have D1:=zaa hr1
 have B1:=zaa hb1
 clear hr1 hb1
 go_wp2_with fail
 refine (yadv w1).mono ?_
 rintro e w2 ⟨v2,rfl,hr2,hb2⟩
 have R2:Hid (RdI w2 v2 (ztn 128)):=hr2.rd
 obtain ⟨-,iH,jH,hv2,-⟩:=hr2.rd
 subst hv2
 have D2:=zaa (D1.out.below hb2)
 have B2:=zaa (zab B1.out hb2 B1.out.size)
 have z2:Hid (V.heap.size ≤ w2.heap.size):=B2.out.size
 clear hr2 hb2 D1 B1
 have Y2:=zaa ((B2.out.block w.heap.size zV.out).trans YV.out)
 obtain ⟨X,hX⟩:∃ X,X = (w2.alloc (.cells #[] 192)).alloc (.cells #[] 9):=⟨_,rfl⟩
 have BX:Hid (Below w2.heap.size w2 X):=by rw [hX]; exact ((Below.refl _ _).alloc (Nat.le_refl _) _).alloc (by simp) _
 have YX:Hid (X.heap[w.heap.size]? = some (.cells zei.toArray 37 (0,0))):=by rw [hX]; exact zak (zak Y2.out)
 have YX':X.heap[w.heap.size]? = some (.cells #[.slice none 0 0,.slice none 0 0,.slice none 0 0,.slice none 0 0,.slice none 0 0,.slice none 0 0,.int .i64 0,.int .i64 0,.slice none 0 0,.bool false] 37 (0,0)):=YX.out
 obtain ⟨x0,x1,x2,x3,x4,x5,x6,x7,x8,x9,g0,g1,g2,g3,g4,g5,g6,g7,g8,g9⟩:=zaj YX'
 clear YX'
 have O4:=zaa (zbu X w.heap.size (.slice iW ndW.length jW) (.slice iP 0 jP) (.slice iS zs32.length jS) (.slice iQ 0 jQ) (.slice iH (ztn 128).length jH) (.slice (some ⟨w2.heap.size,0,none⟩) 0 0) (.int .i64 0) (.int .i64 0) (.slice (some ⟨w2.heap.size + 1,0,none⟩) 0 0) (.bool false))
 have S4:=zaa (Soft.outside O4.out YX.out rfl)
 have SS:=zaa ((Soft.of_below BX.out).trans S4.out)
 have B3:=zaa (zab (zab BV.out B2.out BV.out.size) BX.out (by have q:=zV.out; have q1:=z2.out; omega))
 have B4:=zaa (B3.out.trans (O4.out.below (B:=w.heap.size) (Nat.le_refl _) B3.out.size))
 have F4:Hid (FsIdle (zga X w.heap.size (.slice iW ndW.length jW) (.slice iP 0 jP) (.slice iS zs32.length jS) (.slice iQ 0 jQ) (.slice iH (ztn 128).length jH) (.slice (some ⟨w2.heap.size,0,none⟩) 0 0) (.int .i64 0) (.int .i64 0) (.slice (some ⟨w2.heap.size + 1,0,none⟩) 0 0) (.bool false)) (.agg #[.slice iW ndW.length jW,.slice iP 0 jP,.slice iS zs32.length jS,.slice iQ 0 jQ,.slice iH (ztn 128).length jH,.slice (some ⟨w2.heap.size,0,none⟩) 0 0,.int .i64 0,.int .i64 0,.slice (some ⟨w2.heap.size + 1,0,none⟩) 0 0,.bool false])):=by
  obtain ⟨ns,ds,hi⟩:=yadc
  exact FsIdle.mk' ⟨iW,jW,iP,jP,iS,jS,iQ,jQ,iH,jH,_,_,_,_,rfl,D2.out.soft SS.out (zce hi).1 (zce hi).2,RdI.soft R2.out SS.out (by rw [zrz]; decide),yasg _ _ _ (fun e => nomatch e),yajs _ _⟩ hi yafx
 clear O4 S4 SS B3 BX YX D2 R2 Y2
 subst hX
 go_wp2
 refine bodyPost_ret (v:=.agg #[.slice iW ndW.length jW,.slice iP 0 jP,.slice iS zs32.length jS,.slice iQ 0 jQ,.slice iH (ztn 128).length jH,.slice (some ⟨w2.heap.size,0,none⟩) 0 0,.int .i64 0,.int .i64 0,.slice (some ⟨w2.heap.size + 1,0,none⟩) 0 0,.bool false]) (by simp [results,Tryz.results44,go_sem,x0,x1,x2,x3,x4,x5,x6,x7,x8,x9]) rfl ?_
 exact ⟨_,rfl,F4.out,B4.out⟩
set_option maxRecDepth 100000 in
set_option maxHeartbeats 16000000 in
theorem yact (v:Value) (ws es hs:List Int) (td:List Mi) (cd vl:Int) (nm:List ByteArray) (fr:Bool) (w:World) (h:RdFs w v ws es hs td cd vl nm fr) (h1:3 ≤ ws.length ∧ ws.length ≤ 1048576) (h2:3 ≤ es.length ∧ es.length ≤ 1048576) (h3:3 ≤ hs.length ∧ hs.length ≤ 1048576) (h4:td.length ≤ 1048576) (h5:nm.length ≤ 1048576) :
  Calls Tryz.prog 52 #[v] w fun e w' => ∃ v',e = .returned v' ∧ RdFs w' v' ws es hs td cd vl nm fr ∧ Below w.heap.size w w':=by
 obtain ⟨aW,cW,aP,cP,aS,cS,aQ,cQ,aH,cH,aT,cT,aN,cN,rfl,a,b,c,d⟩:=h
 have RH:Hid (Rd w 1 (.slice aH hs.length cH) hs.length (zdh hs)):=b
 have RT:Hid (Rd w 3 (.slice aT td.length cT) td.length (mis td)):=c
 have RN:Hid (Rd w 1 (.slice aN nm.length cN) nm.length (zep nm)):=d
 have LO:=zaa (fun w1 (hb:Below w.heap.size w w1) => yacn _ ws [] es [] w1 (a.below hb) h1.2 (by simp) h2.2 (by simp))
 have H1:=zaa h1.1
 have H2:=zaa h2.1
 have H3:=zaa h3.1
 obtain ⟨-,h3⟩:=h3
 clear a b c d h1 h2
 obtain ⟨V,hV⟩:∃ V,V = (w.alloc (.cells #[.slice aW ws.length cW,.slice aP 0 cP,.slice aS es.length cS,.slice aQ 0 cQ,.slice aH hs.length cH,.slice aT td.length cT,.int .i64 cd,.int .i64 vl,.slice aN nm.length cN,.bool fr] 37)).alloc (.cells zei.toArray 37):=⟨_,rfl⟩
 have BV:Hid (Below w.heap.size w V):=by rw [hV]; exact ((Below.refl _ _).alloc (Nat.le_refl _) _).alloc (by simp) _
 have XV:Hid (V.heap[w.heap.size]? = some (.cells #[.slice aW ws.length cW,.slice aP 0 cP,.slice aS es.length cS,.slice aQ 0 cQ,.slice aH hs.length cH,.slice aT td.length cT,.int .i64 cd,.int .i64 vl,.slice aN nm.length cN,.bool fr] 37 (0,0))):=by rw [hV]; exact zak (zah rfl)
 have YV:Hid (V.heap[w.heap.size + 1]? = some (.cells zei.toArray 37 (0,0))):=by rw [hV]; exact zah (by simp)
 have zV:Hid (w.heap.size + 2 ≤ V.heap.size):=by rw [hV]; simp [Hid]
 unfold zei at hV
 go_enter Tryz.func52,Tryz.ntmps52
 go_upto_region 1 with fail
 rw [← hV]
 clear hV
 obtain ⟨x0,x1,x2,x3,x4,x5,x6,x7,x8,x9,-⟩:=zaj XV.out
 go_wp2_with fail
 refine (LO.out V BV.out).mono ?_
 rintro e w1 ⟨v1,rfl,hr1,hb1⟩
 have D1:=zaa hr1.rd
 obtain ⟨iW,jW,iP,jP,iS,jS,iQ,jQ,rfl,-,-⟩:=hr1.rd.form
 have X1:=zaa ((hb1.block w.heap.size (by have q:=zV.out; omega)).trans XV.out)
 have Y1:=zaa ((hb1.block (w.heap.size + 1) (by have q:=zV.out; omega)).trans YV.out)
 have B1:=zaa (zab BV.out hb1 BV.out.size)
 have z1:Hid (w.heap.size + 2 ≤ w1.heap.size):=Nat.le_trans zV.out hb1.size
 clear hr1 hb1 x0 x1 x2 x3 x4 x5 x6 x7 x8 x9 XV YV LO BV zV
 obtain ⟨x0,x1,x2,x3,x4,x5,x6,x7,x8,x9,g0,g1,g2,g3,g4,g5,g6,g7,g8,g9⟩:=zaj X1.out
 obtain ⟨U1,hU1⟩:∃ U1,U1 = putR w1 w.heap.size (.slice iW ws.length jW) (.slice iP 0 jP) (.slice iS es.length jS) (.slice iQ 0 jQ):=⟨_,rfl⟩
 have O1:Hid (Outside w.heap.size (w.heap.size + 1) w1 U1):=by rw [hU1]; exact zib _ _ _ _ _ _
 have S1:=zaa (Soft.outside O1.out X1.out rfl)
 have XB:Hid (U1.heap[w.heap.size]? = some (.cells #[.slice iW ws.length jW,.slice iP 0 jP,.slice iS es.length jS,.slice iQ 0 jQ,.slice aH hs.length cH,.slice aT td.length cT,.int .i64 cd,.int .i64 vl,.slice aN nm.length cN,.bool fr] 37 (0,0))):=by rw [hU1]; exact yaic X1.out _ _ _ _
 have YB:=zaa ((O1.out.block (w.heap.size + 1) (by have q:=z1.out; omega) (by omega)).trans Y1.out)
 have BB:=zaa (B1.out.trans (O1.out.below (B:=w.heap.size) (Nat.le_refl _) B1.out.size))
 have zX:Hid (w.heap.size + 2 ≤ U1.heap.size):=Nat.le_trans z1.out O1.out.size
 have DU:=zaa (D1.out.soft S1.out H1.out H2.out)
 unfold putR at hU1
 go_upto_region 2 with fail
 rw [← hU1]
 clear hU1 x0 x1 x2 x3 x4 x5 x6 x7 x8 x9 g0 g1 g2 g3 g4 g5 g6 g7 g8 g9 X1 Y1 B1 z1 O1 S1 D1
 have HOH:Hid ((U1.alloc (.cells #[] 3)).ownsRow U1.heap.size 3 1 (.slice (some ⟨U1.heap.size,0,none⟩) 0 0) 0 []):=by
  unfold Hid; simpa using World.ownsRow_lit (base:=U1.heap.size) (e:=3) (size:=1) U1 #[] 0 (by simp) (by simp) rfl
 have XAH:=zaa (zak (o:=.cells #[] 3) XB.out)
 obtain ⟨x0,x1,x2,x3,x4,x5,x6,x7,x8,x9,-⟩:=zaj XAH.out
 have SRH:Hid (Rd (U1.alloc (.cells #[] 3)) 1 (.slice aH hs.length cH) hs.length (zdh hs)):=Rd.below RH.out (BB.out.alloc BB.out.size _)
 go_wp2_with (at_builtin; refine zae _ rfl (.tmp 7) (.tmp 9) 23 rfl U1.heap.size 3 (.int .i64 0) 1 8 Tryz.underlying23 zld rfl (by decide) _ 0 [] rfl HOH.out _ (hs.length) (zdh hs) rfl SRH.out (zfm hs) (by first | omega | (simp [maxLen]; omega)) (by first | omega | (simp; omega)) (by simp) ?_)
 intro vH uH hownH hgrH
 have hownH:uH.ownsRow U1.heap.size 3 1 vH (hs.length) (zdh hs):=by simpa using hownH
 have RH:=zaa (zad hownH).rd
 obtain ⟨-,iH,jH,hvH,-⟩:=(zad hownH).rd
 subst hvH
 have BGH:Hid (Below U1.heap.size U1 uH):=((Below.refl _ _).alloc (Nat.le_refl _) _).grown hgrH (by simp) (fun k hk => by simp [Value.ownBlock] at hk; omega)
 clear hownH hgrH x0 x1 x2 x3 x4 x5 x6 x7 x8 x9 XAH HOH SRH
 have XUH:=zaa ((BGH.out.block w.heap.size (by have q:=zX.out; omega)).trans XB.out)
 have YUH:=zaa ((BGH.out.block (w.heap.size + 1) (by have q:=zX.out; omega)).trans YB.out)
 have BUH:=zaa (zab BB.out BGH.out BB.out.size)
 have zUH:Hid (w.heap.size + 2 ≤ uH.heap.size):=Nat.le_trans zX.out BGH.out.size
 obtain ⟨x0,x1,x2,x3,x4,x5,x6,x7,x8,x9,g0,g1,g2,g3,g4,g5,g6,g7,g8,g9⟩:=zaj XUH.out
 obtain ⟨U2,hU2⟩:∃ U2,U2 = uH.setCell ⟨w.heap.size,4,none⟩ (.slice iH (hs.length) jH):=⟨_,rfl⟩
 have OH:Hid (Outside w.heap.size (w.heap.size + 1) uH U2):=by rw [hU2]; exact zaa (Outside.setCell (Outside.refl _ _ _) (a:=⟨w.heap.size,4,none⟩) (Nat.le_refl _) (Nat.lt_succ_self _) _)
 have SH:=zaa (Soft.outside OH.out XUH.out rfl)
 have STH:=zaa ((Soft.of_below BGH.out).trans SH.out)
 have XNH:Hid (U2.heap[w.heap.size]? = some (.cells #[.slice iW ws.length jW,.slice iP 0 jP,.slice iS es.length jS,.slice iQ 0 jQ,.slice iH hs.length jH,.slice aT td.length cT,.int .i64 cd,.int .i64 vl,.slice aN nm.length cN,.bool fr] 37 (0,0))):=by rw [hU2]; exact zsl XUH.out _
 have YNH:=zaa ((OH.out.block (w.heap.size + 1) (by have q:=zUH.out; omega) (by omega)).trans YUH.out)
 have BNH:=zaa (BUH.out.trans (OH.out.below (B:=w.heap.size) (Nat.le_refl _) BUH.out.size))
 have zNH:Hid (w.heap.size + 2 ≤ U2.heap.size):=Nat.le_trans zUH.out OH.out.size
 have QH:Hid (RdI U2 (.slice iH (hs.length) jH) hs):=RdI.soft RH.out SH.out H3.out
 go_upto_region 3 with fail
 rw [← hU2]
 clear hU2 x0 x1 x2 x3 x4 x5 x6 x7 x8 x9 g0 g1 g2 g3 g4 g5 g6 g7 g8 g9 XB YB BB zX XUH YUH BUH zUH OH SH BGH RH
 have XB:=XNH
 have YB:=YNH
 have BB:=BNH
 have zX:=zNH
 clear XNH YNH BNH zNH
 have HOT:Hid ((U2.alloc (.cells #[] 192)).ownsRow U2.heap.size 192 3 (.slice (some ⟨U2.heap.size,0,none⟩) 0 0) 0 []):=by
  unfold Hid; simpa using World.ownsRow_lit (base:=U2.heap.size) (e:=192) (size:=3) U2 #[] 0 (by simp) (by simp) rfl
 have XAT:=zaa (zak (o:=.cells #[] 192) XB.out)
 obtain ⟨x0,x1,x2,x3,x4,x5,x6,x7,x8,x9,-⟩:=zaj XAT.out
 have SRT:Hid (Rd (U2.alloc (.cells #[] 192)) 3 (.slice aT td.length cT) td.length (mis td)):=Rd.below RT.out (BB.out.alloc BB.out.size _)
 go_wp2_with (at_builtin; refine zae _ rfl (.tmp 12) (.tmp 14) 32 rfl U2.heap.size 192 (.agg #[.int .i64 0,.int .i64 0,.int .i64 0]) 3 24 Tryz.underlying32 zbx rfl (by decide) _ 0 [] rfl HOT.out _ (td.length) (mis td) rfl SRT.out (zcw td) (by first | omega | (simp [maxLen]; omega)) (by first | omega | (simp; omega)) (by simp) ?_)
 intro vT uT hownT hgrT
 have hownT:uT.ownsRow U2.heap.size 192 3 vT (td.length) (mis td):=by simpa using hownT
 have RT:=zaa (zad hownT).rd
 obtain ⟨-,iT,jT,hvT,-⟩:=(zad hownT).rd
 subst hvT
 have BGT:Hid (Below U2.heap.size U2 uT):=((Below.refl _ _).alloc (Nat.le_refl _) _).grown hgrT (by simp) (fun k hk => by simp [Value.ownBlock] at hk; omega)
 clear hownT hgrT x0 x1 x2 x3 x4 x5 x6 x7 x8 x9 XAT HOT SRT
 have XUT:=zaa ((BGT.out.block w.heap.size (by have q:=zX.out; omega)).trans XB.out)
 have YUT:=zaa ((BGT.out.block (w.heap.size + 1) (by have q:=zX.out; omega)).trans YB.out)
 have BUT:=zaa (zab BB.out BGT.out BB.out.size)
 have zUT:Hid (w.heap.size + 2 ≤ uT.heap.size):=Nat.le_trans zX.out BGT.out.size
 obtain ⟨x0,x1,x2,x3,x4,x5,x6,x7,x8,x9,g0,g1,g2,g3,g4,g5,g6,g7,g8,g9⟩:=zaj XUT.out
 obtain ⟨U3,hU3⟩:∃ U3,U3 = uT.setCell ⟨w.heap.size,5,none⟩ (.slice iT (td.length) jT):=⟨_,rfl⟩
 have OT:Hid (Outside w.heap.size (w.heap.size + 1) uT U3):=by rw [hU3]; exact zaa (Outside.setCell (Outside.refl _ _ _) (a:=⟨w.heap.size,5,none⟩) (Nat.le_refl _) (Nat.lt_succ_self _) _)
 have ST:=zaa (Soft.outside OT.out XUT.out rfl)
 have STT:=zaa ((Soft.of_below BGT.out).trans ST.out)
 have XNT:Hid (U3.heap[w.heap.size]? = some (.cells #[.slice iW ws.length jW,.slice iP 0 jP,.slice iS es.length jS,.slice iQ 0 jQ,.slice iH hs.length jH,.slice iT td.length jT,.int .i64 cd,.int .i64 vl,.slice aN nm.length cN,.bool fr] 37 (0,0))):=by rw [hU3]; exact zgq XUT.out _
 have YNT:=zaa ((OT.out.block (w.heap.size + 1) (by have q:=zUT.out; omega) (by omega)).trans YUT.out)
 have BNT:=zaa (BUT.out.trans (OT.out.below (B:=w.heap.size) (Nat.le_refl _) BUT.out.size))
 have zNT:Hid (w.heap.size + 2 ≤ U3.heap.size):=Nat.le_trans zUT.out OT.out.size
 have QT:Hid (RdM U3 (.slice iT (td.length) jT) td):=RdM.soft RT.out ST.out
 go_upto_region 4 with fail
 rw [← hU3]
 clear hU3 x0 x1 x2 x3 x4 x5 x6 x7 x8 x9 g0 g1 g2 g3 g4 g5 g6 g7 g8 g9 XB YB BB zX XUT YUT BUT zUT OT ST BGT RT
 have XB:=XNT
 have YB:=YNT
 have BB:=BNT
 have zX:=zNT
 clear XNT YNT BNT zNT
 have HON:Hid ((U3.alloc (.cells #[] 9)).ownsRow U3.heap.size 9 1 (.slice (some ⟨U3.heap.size,0,none⟩) 0 0) 0 []):=by
  unfold Hid; simpa using World.ownsRow_lit (base:=U3.heap.size) (e:=9) (size:=1) U3 #[] 0 (by simp) (by simp) rfl
 have XAN:=zaa (zak (o:=.cells #[] 9) XB.out)
 obtain ⟨x0,x1,x2,x3,x4,x5,x6,x7,x8,x9,-⟩:=zaj XAN.out
 have SRN:Hid (Rd (U3.alloc (.cells #[] 9)) 1 (.slice aN nm.length cN) nm.length (zep nm)):=Rd.below RN.out (BB.out.alloc BB.out.size _)
 go_wp2_with (at_builtin; refine zae _ rfl (.tmp 17) (.tmp 20) 33 rfl U3.heap.size 9 (.string ⟨#[]⟩) 1 16 Tryz.underlying33 zff rfl (by decide) _ 0 [] rfl HON.out _ (nm.length) (zep nm) rfl SRN.out (zbj nm) (by first | omega | (simp [maxLen]; omega)) (by first | omega | (simp; omega)) (by simp) ?_)
 intro vN uN hownN hgrN
 have hownN:uN.ownsRow U3.heap.size 9 1 vN (nm.length) (zep nm):=by simpa using hownN
 have RN:=zaa (zad hownN).rd
 obtain ⟨-,iN,jN,hvN,-⟩:=(zad hownN).rd
 subst hvN
 have BGN:Hid (Below U3.heap.size U3 uN):=((Below.refl _ _).alloc (Nat.le_refl _) _).grown hgrN (by simp) (fun k hk => by simp [Value.ownBlock] at hk; omega)
 clear hownN hgrN x0 x1 x2 x3 x4 x5 x6 x7 x8 x9 XAN HON SRN
 have XUN:=zaa ((BGN.out.block w.heap.size (by have q:=zX.out; omega)).trans XB.out)
 have YUN:=zaa ((BGN.out.block (w.heap.size + 1) (by have q:=zX.out; omega)).trans YB.out)
 have BUN:=zaa (zab BB.out BGN.out BB.out.size)
 have zUN:Hid (w.heap.size + 2 ≤ uN.heap.size):=Nat.le_trans zX.out BGN.out.size
 obtain ⟨x0,x1,x2,x3,x4,x5,x6,x7,x8,x9,g0,g1,g2,g3,g4,g5,g6,g7,g8,g9⟩:=zaj XUN.out
 obtain ⟨U4,hU4⟩:∃ U4,U4 = uN.setCell ⟨w.heap.size,8,none⟩ (.slice iN (nm.length) jN):=⟨_,rfl⟩
 have ON:Hid (Outside w.heap.size (w.heap.size + 1) uN U4):=by rw [hU4]; exact zaa (Outside.setCell (Outside.refl _ _ _) (a:=⟨w.heap.size,8,none⟩) (Nat.le_refl _) (Nat.lt_succ_self _) _)
 have SN:=zaa (Soft.outside ON.out XUN.out rfl)
 have STN:=zaa ((Soft.of_below BGN.out).trans SN.out)
 have XNN:Hid (U4.heap[w.heap.size]? = some (.cells #[.slice iW ws.length jW,.slice iP 0 jP,.slice iS es.length jS,.slice iQ 0 jQ,.slice iH hs.length jH,.slice iT td.length jT,.int .i64 cd,.int .i64 vl,.slice iN nm.length jN,.bool fr] 37 (0,0))):=by rw [hU4]; exact zkp XUN.out _
 have YNN:=zaa ((ON.out.block (w.heap.size + 1) (by have q:=zUN.out; omega) (by omega)).trans YUN.out)
 have BNN:=zaa (BUN.out.trans (ON.out.below (B:=w.heap.size) (Nat.le_refl _) BUN.out.size))
 have zNN:Hid (w.heap.size + 2 ≤ U4.heap.size):=Nat.le_trans zUN.out ON.out.size
 have QN:Hid (RdT U4 (.slice iN (nm.length) jN) nm):=RdT.soft RN.out SN.out
 go_upto_region 5 with fail
 rw [← hU4]
 clear hU4 x0 x1 x2 x3 x4 x5 x6 x7 x8 x9 g0 g1 g2 g3 g4 g5 g6 g7 g8 g9 XB YB BB zX XUN YUN BUN zUN ON SN BGN RN
 have XB:=XNN
 have YB:=YNN
 have BB:=BNN
 have zX:=zNN
 clear XNN YNN BNN zNN
 obtain ⟨x0,x1,x2,x3,x4,x5,x6,x7,x8,x9,-⟩:=zaj XB.out
 have YB':U4.heap[w.heap.size + 1]? = some (.cells #[.slice none 0 0,.slice none 0 0,.slice none 0 0,.slice none 0 0,.slice none 0 0,.slice none 0 0,.int .i64 0,.int .i64 0,.slice none 0 0,.bool false] 37 (0,0)):=YB.out
 obtain ⟨y0,y1,y2,y3,y4,y5,y6,y7,y8,y9,g0,g1,g2,g3,g4,g5,g6,g7,g8,g9⟩:=zaj YB'
 clear YB'
 have OF:=zaa (zbu U4 (w.heap.size + 1) (.slice iW ws.length jW) (.slice iP 0 jP) (.slice iS es.length jS) (.slice iQ 0 jQ) (.slice iH hs.length jH) (.slice iT td.length jT) (.int .i64 cd) (.int .i64 vl) (.slice iN nm.length jN) (.bool fr))
 have SF:=zaa (Soft.outside OF.out YB.out rfl)
 have BF:=zaa (BB.out.trans (OF.out.below (B:=w.heap.size) (by omega) BB.out.size))
 have FF:Hid (RdFs _ (.agg #[.slice iW ws.length jW,.slice iP 0 jP,.slice iS es.length jS,.slice iQ 0 jQ,.slice iH hs.length jH,.slice iT td.length jT,.int .i64 cd,.int .i64 vl,.slice iN nm.length jN,.bool fr]) ws es hs td cd vl nm fr) :=
  ⟨iW,jW,iP,jP,iS,jS,iQ,jQ,iH,jH,iT,jT,iN,jN,rfl,DU.out.soft (((STH.out.trans STT.out).trans STN.out).trans SF.out) H1.out H2.out,RdI.soft QH.out ((STT.out.trans STN.out).trans SF.out) H3.out,RdM.soft QT.out (STN.out.trans SF.out),RdT.soft QN.out SF.out⟩
 clear OF SF DU QH QT QN STH STT STN
 go_wp2
 refine bodyPost_ret (v:=.agg #[.slice iW ws.length jW,.slice iP 0 jP,.slice iS es.length jS,.slice iQ 0 jQ,.slice iH hs.length jH,.slice iT td.length jT,.int .i64 cd,.int .i64 vl,.slice iN nm.length jN,.bool fr]) (by simp [results,Tryz.results52,go_sem,y0,y1,y2,y3,y4,y5,y6,y7,y8,y9]) rfl ?_
 exact ⟨_,rfl,FF.out,BF.out⟩
structure FV where
 a0:Option Addr
 n0:Nat
 c0:Nat
 a1:Option Addr
 n1:Nat
 c1:Nat
 a2:Option Addr
 n2:Nat
 c2:Nat
 a3:Option Addr
 n3:Nat
 c3:Nat
 a4:Option Addr
 n4:Nat
 c4:Nat
 a5:Option Addr
 n5:Nat
 c5:Nat
 x:Int
 y:Int
 a8:Option Addr
 n8:Nat
 c8:Nat
 z:Bool
def FsMv (w:World) (v:Value):Prop:=∃ ws es ns ds hs td,RdFs w v ws es hs td 0 0 [] false ∧ Idle ws es ns ds ∧ zjp hs = true ∧ MvOK ws es td
theorem FsMv.soft {w w':World} {v:Value} (h:FsMv w v) (s:Soft w w'):FsMv w' v:=by
 obtain ⟨ws,es,ns,ds,hs,td,a,b,c,d⟩:=h
 exact ⟨ws,es,ns,ds,hs,td,a.soft s (zce b).1 (zce b).2 (by have:=(zbq c).1; omega),b,c,d⟩
theorem RdFs.form {w:World} {v:Value} {ws es hs:List Int} {td:List Mi} {cd vl:Int} {nm:List ByteArray} {fr:Bool} (h:RdFs w v ws es hs td cd vl nm fr):∃ f:FV,v = .agg #[.slice f.a0 f.n0 f.c0,.slice f.a1 f.n1 f.c1,.slice f.a2 f.n2 f.c2,.slice f.a3 f.n3 f.c3,.slice f.a4 f.n4 f.c4,.slice f.a5 f.n5 f.c5,.int .i64 f.x,.int .i64 f.y,.slice f.a8 f.n8 f.c8,.bool f.z]:=by
 obtain ⟨aW,cW,aP,cP,aS,cS,aQ,cQ,aH,cH,aT,cT,aN,cN,rfl,-⟩:=h
 exact ⟨⟨aW,_,cW,aP,_,cP,aS,_,cS,aQ,_,cQ,aH,_,cH,aT,_,cT,_,_,aN,_,cN,_⟩,rfl⟩
theorem FsMv.form {w:World} {v:Value} (h:FsMv w v):∃ f:FV,v = .agg #[.slice f.a0 f.n0 f.c0,.slice f.a1 f.n1 f.c1,.slice f.a2 f.n2 f.c2,.slice f.a3 f.n3 f.c3,.slice f.a4 f.n4 f.c4,.slice f.a5 f.n5 f.c5,.int .i64 f.x,.int .i64 f.y,.slice f.a8 f.n8 f.c8,.bool f.z]:=by
 obtain ⟨_,_,_,_,_,_,a,_⟩:=h
 exact a.form
theorem FsIdle.form {w:World} {v:Value} (h:FsIdle w v):∃ f:FV,v = .agg #[.slice f.a0 f.n0 f.c0,.slice f.a1 f.n1 f.c1,.slice f.a2 f.n2 f.c2,.slice f.a3 f.n3 f.c3,.slice f.a4 f.n4 f.c4,.slice f.a5 f.n5 f.c5,.int .i64 f.x,.int .i64 f.y,.slice f.a8 f.n8 f.c8,.bool f.z]:=by
 obtain ⟨_,_,_,_,_,a,_⟩:=h
 exact a.form
theorem zvg (v:Value) (pr:Bool) (w:World) (h:FsIdle w v) :
  Calls Tryz.prog 49 #[v,.bool pr] w fun e w' => ∃ v' c,e = .returned (.tuple #[v',.int .i64 c]) ∧ FsMv w' v' ∧ Below w.heap.size w w':=by
 obtain ⟨ws,es,ns,ds,hs,a,b,c⟩:=h
 refine (zyh v pr ws es hs ns ds w a b c).mono ?_
 rintro e w' ⟨v',cd,td,rfl,r,m,hb⟩
 exact ⟨v',cd,rfl,⟨ws,es,ns,ds,hs,td,r,b,c,m⟩,hb⟩
theorem zug (v:Value) (w:World) (h:FsMv w v) :
  Calls Tryz.prog 50 #[v] w fun e w' => ∃ v',e = .returned v' ∧ FsIdle w' v' ∧ Below w.heap.size w w':=by
 obtain ⟨ws,es,ns,ds,hs,td,a,b,c,⟨ws',es',ns',ds',run,hi'⟩,hm,hl⟩:=h
 refine (zjv v ws es hs td 0 0 [] false ws' es' w a b.pm b.bk (by have:=(zbq c).1; omega) hm (by omega) run hi'.pm hi'.bk).mono ?_
 rintro e w' ⟨v',rfl,r,hb⟩
 exact ⟨v',rfl,⟨ws',es',ns',ds',hs,r,hi',c⟩,hb⟩
theorem zxy (v:Value) (w:World) (h:FsIdle w v) :
  Calls Tryz.prog 52 #[v] w fun e w' => ∃ v',e = .returned v' ∧ FsIdle w' v' ∧ Below w.heap.size w w':=by
 obtain ⟨ws,es,ns,ds,hs,a,b,c⟩:=h
 have l1:=b.wi.len
 have l2:=(zej b.bk).1
 have l3:=(zbq c).1
 refine (yact v ws es hs [] 0 0 [] false w a (by omega) (by omega) (by omega) (by simp) (by simp)).mono ?_
 rintro e w' ⟨v',rfl,r,hb⟩
 exact ⟨v',rfl,⟨ws,es,ns,ds,hs,r,b,c⟩,hb⟩
theorem zcd (w w':World) (v:Value) (h:FsIdle w v) (s:Soft w w'):FsIdle w' v:=h.soft s
theorem yalu (w w':World) (v:Value) (h:FsMv w v) (s:Soft w w'):FsMv w' v:=h.soft s
theorem Src.soft {w0 W W':World} {b k:Nat} {vC:Value} {bs:List Int} (h:Src w0 W b vC bs k) (O:Outside b (b + 1) W W'):Soft W W':=by
 obtain ⟨aC,cC,rfl,_⟩:=h.code.shape
 obtain ⟨_,_,_,_,_,_,hc⟩:=h.cells
 exact Soft.outside O hc rfl
theorem yaoy {w:World} {b:Nat} {t:TypeId} {x0 x1 x2 x3 x4 x5 x6 x7 x8 x9:Value} (h:w.heap[b]? = some (.cells #[x0,x1,x2,x3,x4,x5,x6,x7,x8,x9] t (0,0))) (y0 y1 y2 y3 y4 y5 y6 y7 y8 y9:Value):(zga w b y0 y1 y2 y3 y4 y5 y6 y7 y8 y9).heap[b]? = some (.cells #[y0,y1,y2,y3,y4,y5,y6,y7,y8,y9] t (0,0)) :=
 zmx (zkp (zml (zna (zgq (zsl (yaaz (zzt (zzk (yaau h _) _) _) _) _) _) _) _) _) _
structure FsS (P:World → Value → Prop) (w0 w W:World) (b k:Nat) (vC:Value) (bs:List Int) (fb:Nat) (f:FV):Prop where
 src:Src w0 W b vC bs k
 out:Outside b (b + 1) w W
 fs:P W (.agg #[.slice f.a0 f.n0 f.c0,.slice f.a1 f.n1 f.c1,.slice f.a2 f.n2 f.c2,.slice f.a3 f.n3 f.c3,.slice f.a4 f.n4 f.c4,.slice f.a5 f.n5 f.c5,.int .i64 f.x,.int .i64 f.y,.slice f.a8 f.n8 f.c8,.bool f.z])
 box:W.heap[fb]? = some (.cells #[.slice f.a0 f.n0 f.c0,.slice f.a1 f.n1 f.c1,.slice f.a2 f.n2 f.c2,.slice f.a3 f.n3 f.c3,.slice f.a4 f.n4 f.c4,.slice f.a5 f.n5 f.c5,.int .i64 f.x,.int .i64 f.y,.slice f.a8 f.n8 f.c8,.bool f.z] 37 (0,0))
 res:W.heap[w.heap.size]? = some (.cells #[.slice none 0 0,.slice none 0 0,.slice none 0 0,.slice none 0 0,.slice none 0 0,.slice none 0 0,.int .i64 0,.int .i64 0,.slice none 0 0,.bool false] 37 (0,0))
 far:w.heap.size < fb
 near:b < w.heap.size
 base:w0.heap.size ≤ w.heap.size
theorem FsS.turn {P:World → Value → Prop} (ps:∀ (w w':World) (v:Value),P w v → Soft w w' → P w' v) {w0 w W W':World} {b k k':Nat} {vC:Value} {bs:List Int} {fb:Nat} {f:FV} (h:FsS P w0 w W b k vC bs fb f) (S:Src w0 W' b vC bs k') (O:Outside b (b + 1) W W'):FsS P w0 w W' b k' vC bs fb f :=
 ⟨S,h.out.trans O,ps _ _ _ h.fs (h.src.soft O),(O.block fb (Array.getElem?_eq_some_iff.1 h.box).1 (by have:=h.far; have:=h.near; omega)).trans h.box,(O.block _ (Array.getElem?_eq_some_iff.1 h.res).1 (by have:=h.near; omega)).trans h.res,h.far,h.near,h.base⟩
theorem FsS.newer {P:World → Value → Prop} (ps:∀ (w w':World) (v:Value),P w v → Soft w w' → P w' v) {w0 w W W':World} {b k:Nat} {vC:Value} {bs:List Int} {fb:Nat} {f:FV} (h:FsS P w0 w W b k vC bs fb f) (B:Below W.heap.size W W'):FsS P w0 w W' b k vC bs fb f :=
 h.turn ps (h.src.newer B) (Outside.of_below B)
theorem FsS.call {P Q:World → Value → Prop} (qs:∀ (w w':World) (v:Value),Q w v → Soft w w' → Q w' v) {w0 w W W':World} {b k:Nat} {vC:Value} {bs:List Int} {fb:Nat} {f g:FV} (h:FsS P w0 w W b k vC bs fb f) (B:Below W.heap.size W W') (F:Q W' (.agg #[.slice g.a0 g.n0 g.c0,.slice g.a1 g.n1 g.c1,.slice g.a2 g.n2 g.c2,.slice g.a3 g.n3 g.c3,.slice g.a4 g.n4 g.c4,.slice g.a5 g.n5 g.c5,.int .i64 g.x,.int .i64 g.y,.slice g.a8 g.n8 g.c8,.bool g.z])):FsS Q w0 w (zga W' fb (.slice g.a0 g.n0 g.c0) (.slice g.a1 g.n1 g.c1) (.slice g.a2 g.n2 g.c2) (.slice g.a3 g.n3 g.c3) (.slice g.a4 g.n4 g.c4) (.slice g.a5 g.n5 g.c5) (.int .i64 g.x) (.int .i64 g.y) (.slice g.a8 g.n8 g.c8) (.bool g.z)) b k vC bs fb g:=by
 have O:=zbu W' fb (.slice g.a0 g.n0 g.c0) (.slice g.a1 g.n1 g.c1) (.slice g.a2 g.n2 g.c2) (.slice g.a3 g.n3 g.c3) (.slice g.a4 g.n4 g.c4) (.slice g.a5 g.n5 g.c5) (.int .i64 g.x) (.int .i64 g.y) (.slice g.a8 g.n8 g.c8) (.bool g.z)
 have bx:=(B.block fb (Array.getElem?_eq_some_iff.1 h.box).1).trans h.box
 have f:=h.far
 have n:=h.near
 have z:=h.base
 have rs:=(B.block w.heap.size (Array.getElem?_eq_some_iff.1 h.res).1).trans h.res
 exact ⟨(h.src.newer B).outside O (by omega) (by omega),(h.out.trans (Outside.of_below B)).newer O (by omega),qs _ _ _ F (Soft.outside O bx rfl),yaoy bx (.slice g.a0 g.n0 g.c0) (.slice g.a1 g.n1 g.c1) (.slice g.a2 g.n2 g.c2) (.slice g.a3 g.n3 g.c3) (.slice g.a4 g.n4 g.c4) (.slice g.a5 g.n5 g.c5) (.int .i64 g.x) (.int .i64 g.y) (.slice g.a8 g.n8 g.c8) (.bool g.z),(O.block _ (Array.getElem?_eq_some_iff.1 rs).1 (by omega)).trans rs,f,n,z⟩
set_option maxRecDepth 100000 in
set_option maxHeartbeats 32000000 in
theorem yahx (w0 w:World) (b k:Nat) (vC:Value) (bs:List Int) (h:Src w0 w b vC bs k) (hk:k ≤ 10000) :
  Calls Tryz.prog 19 #[.pointer (some ⟨b,0,none⟩)] w fun e w' => ∃ v' k',e = .returned v' ∧ k' ≤ k + 3000 ∧ FsIdle w' v' ∧ Src w0 w' b vC bs k' ∧ Outside b (b + 1) w w':=by
 have near:=h.size
 have base:=h.below.size
 have HS:=zaa h
 clear h
 obtain ⟨V,hV⟩:∃ V,V = w.alloc (.cells zei.toArray 37):=⟨_,rfl⟩
 have RV:Hid (V.heap[w.heap.size]? = some (.cells #[.slice none 0 0,.slice none 0 0,.slice none 0 0,.slice none 0 0,.slice none 0 0,.slice none 0 0,.int .i64 0,.int .i64 0,.slice none 0 0,.bool false] 37 (0,0))):=by rw [hV]; exact zah rfl
 have BV:Hid (Below w.heap.size w V):=by rw [hV]; exact (Below.refl _ _).alloc (Nat.le_refl _) _
 have zV:Hid (w.heap.size < V.heap.size):=by rw [hV]; simp [Hid]
 unfold zei at hV
 go_enter Tryz.func19,Tryz.ntmps19
 go_upto_region 1 with fail
 rw [← hV]
 clear hV
 go_wp2_with fail
 refine (yahk V).mono ?_
 rintro e w1 ⟨v1,rfl,hf1,hb1⟩
 obtain ⟨g1,rfl⟩:=hf1.form
 have F1:=zaa hf1
 have B1:=zaa hb1
 clear hf1 hb1
 obtain ⟨W1,hW1⟩:∃ W1,W1 = w1.alloc (.cells #[.slice g1.a0 g1.n0 g1.c0,.slice g1.a1 g1.n1 g1.c1,.slice g1.a2 g1.n2 g1.c2,.slice g1.a3 g1.n3 g1.c3,.slice g1.a4 g1.n4 g1.c4,.slice g1.a5 g1.n5 g1.c5,.int .i64 g1.x,.int .i64 g1.y,.slice g1.a8 g1.n8 g1.c8,.bool g1.z] 37):=⟨_,rfl⟩
 have I1:Hid (FsS FsIdle w0 w W1 b k vC bs w1.heap.size g1):=by
  rw [hW1]
  have A1:Below w1.heap.size w1 (w1.alloc (.cells #[.slice g1.a0 g1.n0 g1.c0,.slice g1.a1 g1.n1 g1.c1,.slice g1.a2 g1.n2 g1.c2,.slice g1.a3 g1.n3 g1.c3,.slice g1.a4 g1.n4 g1.c4,.slice g1.a5 g1.n5 g1.c5,.int .i64 g1.x,.int .i64 g1.y,.slice g1.a8 g1.n8 g1.c8,.bool g1.z] 37)):=(Below.refl _ _).alloc (Nat.le_refl _) _
  have BA:=zab BV.out B1.out BV.out.size
  have BB:=zab BA A1 BA.size
  exact ⟨HS.out.newer BB,Outside.of_below BB,F1.out.below A1,zah rfl,zak ((B1.out.block _ zV.out).trans RV.out),Nat.lt_of_lt_of_le zV.out B1.out.size,near,base⟩
 clear B1 F1 RV BV zV HS
 go_upto_region 2 with fail
 rw [← hW1]
 clear hW1
 generalize w1.heap.size = fb at *
 obtain ⟨c0,c1,c2,c3,c4,c5,c6,c7,c8,c9,f0,f1,f2,f3,f4,f5,f6,f7,f8,f9⟩:=zaj I1.out.box
 go_wp2_with fail
 refine (zou _ 1 ⟨#[47,97]⟩ ⟨#[]⟩ 0 0 _ I1.out.fs (by decide) (by decide)).mono ?_
 rintro e w2 ⟨v2,cd2,vl2,a2,n2,k2,rfl,hf2,hb2⟩
 obtain ⟨g2,rfl⟩:=hf2.form
 have F2:=zaa hf2
 have B2:=zaa hb2
 clear hf2 hb2
 clear c0 c1 c2 c3 c4 c5 c6 c7 c8 c9 f0 f1 f2 f3 f4 f5 f6 f7 f8 f9
 obtain ⟨W2,hW2⟩:∃ W2,W2 = zga w2 fb (.slice g2.a0 g2.n0 g2.c0) (.slice g2.a1 g2.n1 g2.c1) (.slice g2.a2 g2.n2 g2.c2) (.slice g2.a3 g2.n3 g2.c3) (.slice g2.a4 g2.n4 g2.c4) (.slice g2.a5 g2.n5 g2.c5) (.int .i64 g2.x) (.int .i64 g2.y) (.slice g2.a8 g2.n8 g2.c8) (.bool g2.z):=⟨_,rfl⟩
 have I2:=zaa (FsS.call (Q:=FsIdle) (g:=g2) zcd I1.out B2.out F2.out)
 rw [← hW2] at I2
 have NBW2:=zaa ((B2.out.block fb (Array.getElem?_eq_some_iff.1 I1.out.box).1).trans I1.out.box)
 obtain ⟨c0,c1,c2,c3,c4,c5,c6,c7,c8,c9,f0,f1,f2,f3,f4,f5,f6,f7,f8,f9⟩:=zaj NBW2.out
 unfold zga at hW2
 go_upto_region 3 with fail
 rw [← hW2]
 clear hW2 c0 c1 c2 c3 c4 c5 c6 c7 c8 c9 f0 f1 f2 f3 f4 f5 f6 f7 f8 f9 NBW2 I1 F2 B2
 obtain ⟨c0,c1,c2,c3,c4,c5,c6,c7,c8,c9,f0,f1,f2,f3,f4,f5,f6,f7,f8,f9⟩:=zaj I2.out.box
 go_wp2_with fail
 refine (zou _ 2 ⟨#[47,98]⟩ ⟨#[]⟩ 0 0 _ I2.out.fs (by decide) (by decide)).mono ?_
 rintro e w3 ⟨v3,cd3,vl3,a3,n3,k3,rfl,hf3,hb3⟩
 obtain ⟨g3,rfl⟩:=hf3.form
 have F3:=zaa hf3
 have B3:=zaa hb3
 clear hf3 hb3
 clear c0 c1 c2 c3 c4 c5 c6 c7 c8 c9 f0 f1 f2 f3 f4 f5 f6 f7 f8 f9
 obtain ⟨W3,hW3⟩:∃ W3,W3 = zga w3 fb (.slice g3.a0 g3.n0 g3.c0) (.slice g3.a1 g3.n1 g3.c1) (.slice g3.a2 g3.n2 g3.c2) (.slice g3.a3 g3.n3 g3.c3) (.slice g3.a4 g3.n4 g3.c4) (.slice g3.a5 g3.n5 g3.c5) (.int .i64 g3.x) (.int .i64 g3.y) (.slice g3.a8 g3.n8 g3.c8) (.bool g3.z):=⟨_,rfl⟩
 have I3:=zaa (FsS.call (Q:=FsIdle) (g:=g3) zcd I2.out B3.out F3.out)
 rw [← hW3] at I3
 have NBW3:=zaa ((B3.out.block fb (Array.getElem?_eq_some_iff.1 I2.out.box).1).trans I2.out.box)
 obtain ⟨c0,c1,c2,c3,c4,c5,c6,c7,c8,c9,f0,f1,f2,f3,f4,f5,f6,f7,f8,f9⟩:=zaj NBW3.out
 unfold zga at hW3
 go_upto_region 4 with fail
 rw [← hW3]
 clear hW3 c0 c1 c2 c3 c4 c5 c6 c7 c8 c9 f0 f1 f2 f3 f4 f5 f6 f7 f8 f9 NBW3 I2 F3 B3
 go_wp2_with fail
 refine (zxk w0 _ b k vC bs I3.out.src).mono ?_
 rintro e w4 ⟨sz,rfl,s0,s1,rfl⟩
 have ws8:IntKind.i64.wrap (sz + 8) = sz + 8:=by rw [IntKind.wrap_i64]; omega
 go_wp2_with fail
 refine (zbr (sz + 8) (by omega) w0 _ b k vC bs I3.out.src (by omega)).mono ?_
 rintro e w5 ⟨r,rfl,r0,r1,hs,ho,-⟩
 have I5:=zaa (I3.out.turn zcd hs ho)
 clear hs ho I3 ws8
 obtain ⟨n,rfl⟩:∃ n:Nat,r = (n:Int):=⟨r.toNat,by omega⟩
 have n28:n ≤ 28:=by omega
 clear r0 r1 s0 s1
 go_wp2
 go_loopw [4] (fun i wr => ∃ (j q:Nat) (f:FV),j ≤ 28 ∧ i = .int .i64 (j:Int) ∧ q + 80 * j ≤ k + 2400 ∧ Hid (FsS FsIdle w0 w wr b q vC bs fb f)) (fun i _ => (intOf i).toNat)
 case atStart => exact ⟨n,_,_,n28,rfl,by omega,I5⟩
 case round =>
  obtain ⟨j,q,f,hj,rfl,hq,I⟩:=hrel
  clear I5
  by_cases c:0 < j
  ·have cj:(0:Int) < (j:Int):=by omega
   go_wp2_with fail
   refine (zgy 4 (by omega) w0 _ b q vC bs I.out.src (by omega)).mono ?_
   rintro e w6 ⟨rc,rfl,hs,ho,-⟩
   have I6:=zaa (I.out.turn zcd hs ho)
   clear hs ho I
   cases rc with
   | true =>
    obtain ⟨c0,c1,c2,c3,c4,c5,c6,c7,c8,c9,f0,f1,f2,f3,f4,f5,f6,f7,f8,f9⟩:=zaj I6.out.box
    go_upto_region 8 with fail
    go_region_with (first
     | (go_at_call 48; refine (zgy 2 (by omega) w0 _ b _ vC bs (I6.out.src.newer (by repeat (first | exact Below.refl _ _ | refine Below.drew ?_))) (by omega)).mono ?_; rintro e w7 ⟨pr,rfl,hs,ho,-⟩; have I7:=zaa ((I6.out.newer zcd (by repeat (first | exact Below.refl _ _ | refine Below.drew ?_))).turn zcd hs ho); clear hs ho c0 c1 c2 c3 c4 c5 c6 c7 c8 c9 f0 f1 f2 f3 f4 f5 f6 f7 f8 f9; obtain ⟨c0,c1,c2,c3,c4,c5,c6,c7,c8,c9,f0,f1,f2,f3,f4,f5,f6,f7,f8,f9⟩:=zaj I7.out.box)
     | (go_at_call 49; refine (zvg _ pr _ (I7.out.newer zcd (by repeat (first | exact Below.refl _ _ | refine Below.drew ?_))).fs).mono ?_; rintro e w8 ⟨v8,c8',rfl,hf8,hb8⟩; obtain ⟨g8,rfl⟩:=hf8.form; have F8:=zaa hf8; have B8:Hid (Below w7.heap.size w7 w8):=(by first | exact hb8 | exact zab (by repeat (first | exact Below.refl _ _ | refine Below.drew ?_)) hb8 (Nat.le_refl _)); clear hf8 hb8 c0 c1 c2 c3 c4 c5 c6 c7 c8 c9 f0 f1 f2 f3 f4 f5 f6 f7 f8 f9; have NB8:=zaa ((B8.out.block fb (Array.getElem?_eq_some_iff.1 I7.out.box).1).trans I7.out.box); obtain ⟨c0,c1,c2,c3,c4,c5,c6,c7,c8,c9,f0,f1,f2,f3,f4,f5,f6,f7,f8,f9⟩:=zaj NB8.out))
    all_goals
     obtain ⟨U8,hU8⟩:∃ U8,U8 = zga w8 fb (.slice g8.a0 g8.n0 g8.c0) (.slice g8.a1 g8.n1 g8.c1) (.slice g8.a2 g8.n2 g8.c2) (.slice g8.a3 g8.n3 g8.c3) (.slice g8.a4 g8.n4 g8.c4) (.slice g8.a5 g8.n5 g8.c5) (.int .i64 g8.x) (.int .i64 g8.y) (.slice g8.a8 g8.n8 g8.c8) (.bool g8.z):=⟨_,rfl⟩
     have I8:=zaa (FsS.call (Q:=FsMv) (g:=g8) yalu I7.out B8.out F8.out)
     rw [← hU8] at I8
     unfold zga at hU8
     rw [← hU8]
     clear hU8 c0 c1 c2 c3 c4 c5 c6 c7 c8 c9 f0 f1 f2 f3 f4 f5 f6 f7 f8 f9 NB8 I7 F8 B8
     obtain ⟨c0,c1,c2,c3,c4,c5,c6,c7,c8,c9,f0,f1,f2,f3,f4,f5,f6,f7,f8,f9⟩:=zaj I8.out.box
     go_wp2_with fail
     refine (zug _ _ I8.out.fs).mono ?_
     rintro e w9 ⟨v9,rfl,hf9,hb9⟩
     obtain ⟨g9,rfl⟩:=hf9.form
     have F9:=zaa hf9
     have B9:=zaa hb9
     clear hf9 hb9
     clear c0 c1 c2 c3 c4 c5 c6 c7 c8 c9 f0 f1 f2 f3 f4 f5 f6 f7 f8 f9
     obtain ⟨U9,hU9⟩:∃ U9,U9 = zga w9 fb (.slice g9.a0 g9.n0 g9.c0) (.slice g9.a1 g9.n1 g9.c1) (.slice g9.a2 g9.n2 g9.c2) (.slice g9.a3 g9.n3 g9.c3) (.slice g9.a4 g9.n4 g9.c4) (.slice g9.a5 g9.n5 g9.c5) (.int .i64 g9.x) (.int .i64 g9.y) (.slice g9.a8 g9.n8 g9.c8) (.bool g9.z):=⟨_,rfl⟩
     have I9:=zaa (FsS.call (Q:=FsIdle) (g:=g9) zcd I8.out B9.out F9.out)
     rw [← hU9] at I9
     have NBU9:=zaa ((B9.out.block fb (Array.getElem?_eq_some_iff.1 I8.out.box).1).trans I8.out.box)
     obtain ⟨c0,c1,c2,c3,c4,c5,c6,c7,c8,c9,f0,f1,f2,f3,f4,f5,f6,f7,f8,f9⟩:=zaj NBU9.out
     unfold zga at hU9
     go_upto_region 6 with fail
     rw [← hU9]
     clear hU9 c0 c1 c2 c3 c4 c5 c6 c7 c8 c9 f0 f1 f2 f3 f4 f5 f6 f7 f8 f9 NBU9 I8 F9 B9
     go_wp2
     go_roundw
     case rel => exact ⟨j - 1,_,_,by omega,by go_num,by omega,I9⟩
     case measure => simp [intOf]; omega
   | false =>
    obtain ⟨c0,c1,c2,c3,c4,c5,c6,c7,c8,c9,f0,f1,f2,f3,f4,f5,f6,f7,f8,f9⟩:=zaj I6.out.box
    go_upto_region 10 with fail
    go_region_with (first
     | (go_at_call 51; refine (yaiv w0 _ b _ vC bs (I6.out.src.newer (by repeat (first | exact Below.refl _ _ | refine Below.drew ?_))) (by omega)).mono ?_; rintro e w7 ⟨kd,pp,tt,gg,yy,rfl,hp,ht,hs,ho⟩; have HP:=zaa (And.intro hp ht); have I7:=zaa ((I6.out.newer zcd (by repeat (first | exact Below.refl _ _ | refine Below.drew ?_))).turn zcd hs ho); clear hs ho hp ht c0 c1 c2 c3 c4 c5 c6 c7 c8 c9 f0 f1 f2 f3 f4 f5 f6 f7 f8 f9; obtain ⟨c0,c1,c2,c3,c4,c5,c6,c7,c8,c9,f0,f1,f2,f3,f4,f5,f6,f7,f8,f9⟩:=zaj I7.out.box)
     | (go_at_call 45; refine (zou _ kd pp tt gg yy _ (I7.out.newer zcd (by repeat (first | exact Below.refl _ _ | refine Below.drew ?_))).fs (by have:=HP.out.1; omega) (by have:=HP.out.2; omega)).mono ?_; rintro e w8 ⟨v8,cd8,vl8,a8,n8,k8,rfl,hf8,hb8⟩; obtain ⟨g8,rfl⟩:=hf8.form; have F8:=zaa hf8; have B8:Hid (Below w7.heap.size w7 w8):=(by first | exact hb8 | exact zab (by repeat (first | exact Below.refl _ _ | refine Below.drew ?_)) hb8 (Nat.le_refl _)); clear hf8 hb8 c0 c1 c2 c3 c4 c5 c6 c7 c8 c9 f0 f1 f2 f3 f4 f5 f6 f7 f8 f9; have NB8:=zaa ((B8.out.block fb (Array.getElem?_eq_some_iff.1 I7.out.box).1).trans I7.out.box); obtain ⟨c0,c1,c2,c3,c4,c5,c6,c7,c8,c9,f0,f1,f2,f3,f4,f5,f6,f7,f8,f9⟩:=zaj NB8.out))
    all_goals
     obtain ⟨U8,hU8⟩:∃ U8,U8 = zga w8 fb (.slice g8.a0 g8.n0 g8.c0) (.slice g8.a1 g8.n1 g8.c1) (.slice g8.a2 g8.n2 g8.c2) (.slice g8.a3 g8.n3 g8.c3) (.slice g8.a4 g8.n4 g8.c4) (.slice g8.a5 g8.n5 g8.c5) (.int .i64 g8.x) (.int .i64 g8.y) (.slice g8.a8 g8.n8 g8.c8) (.bool g8.z):=⟨_,rfl⟩
     have I8:=zaa (FsS.call (Q:=FsIdle) (g:=g8) zcd I7.out B8.out F8.out)
     rw [← hU8] at I8
     unfold zga at hU8
     rw [← hU8]
     clear hU8 c0 c1 c2 c3 c4 c5 c6 c7 c8 c9 f0 f1 f2 f3 f4 f5 f6 f7 f8 f9 NB8 I7 F8 B8
     go_wp2
     go_roundw
     case rel => exact ⟨j - 1,_,_,by omega,by go_num,by omega,I8⟩
     case measure => simp [intOf]; omega
  ·obtain rfl:j = 0:=by omega
   obtain ⟨c0,c1,c2,c3,c4,c5,c6,c7,c8,c9,f0,f1,f2,f3,f4,f5,f6,f7,f8,f9⟩:=zaj I.out.box
   go_wp2_with fail
   refine (zxy _ _ I.out.fs).mono ?_
   rintro e w9 ⟨v9,rfl,hf9,hb9⟩
   obtain ⟨g9,rfl⟩:=hf9.form
   have F9:=zaa hf9
   have B9:=zaa hb9
   clear hf9 hb9
   have R9:=zaa ((B9.out.block w.heap.size (Array.getElem?_eq_some_iff.1 I.out.res).1).trans I.out.res)
   have O9:=zaa (zbu w9 w.heap.size (.slice g9.a0 g9.n0 g9.c0) (.slice g9.a1 g9.n1 g9.c1) (.slice g9.a2 g9.n2 g9.c2) (.slice g9.a3 g9.n3 g9.c3) (.slice g9.a4 g9.n4 g9.c4) (.slice g9.a5 g9.n5 g9.c5) (.int .i64 g9.x) (.int .i64 g9.y) (.slice g9.a8 g9.n8 g9.c8) (.bool g9.z))
   have FF:=zaa (F9.out.soft (Soft.outside O9.out R9.out rfl))
   have SF:=zaa ((I.out.src.newer B9.out).outside O9.out (.inl near) base)
   have OF:=zaa ((I.out.out.trans (Outside.of_below B9.out)).newer O9.out (Nat.le_refl _))
   clear c0 c1 c2 c3 c4 c5 c6 c7 c8 c9 f0 f1 f2 f3 f4 f5 f6 f7 f8 f9 O9 I F9 B9
   obtain ⟨y0,y1,y2,y3,y4,y5,y6,y7,y8,y9,m0,m1,m2,m3,m4,m5,m6,m7,m8,m9⟩:=zaj R9.out
   go_wp2
   refine bodyPost_ret (v:=.agg #[.slice g9.a0 g9.n0 g9.c0,.slice g9.a1 g9.n1 g9.c1,.slice g9.a2 g9.n2 g9.c2,.slice g9.a3 g9.n3 g9.c3,.slice g9.a4 g9.n4 g9.c4,.slice g9.a5 g9.n5 g9.c5,.int .i64 g9.x,.int .i64 g9.y,.slice g9.a8 g9.n8 g9.c8,.bool g9.z]) (by simp [results,Tryz.results19,go_sem,y0,y1,y2,y3,y4,y5,y6,y7,y8,y9]) rfl ?_
   exact ⟨_,_,rfl,by omega,FF.out,SF.out,OF.out⟩
theorem zxz (f:FV) (w:World):(Instr.field 37 (.agg #[.slice f.a0 f.n0 f.c0,.slice f.a1 f.n1 f.c1,.slice f.a2 f.n2 f.c2,.slice f.a3 f.n3 f.c3,.slice f.a4 f.n4 f.c4,.slice f.a5 f.n5 f.c5,.int .i64 f.x,.int .i64 f.y,.slice f.a8 f.n8 f.c8,.bool f.z]) 0).run Tryz.prog w = .ok (.agg #[.slice f.a0 f.n0 f.c0,.slice f.a1 f.n1 f.c1,.slice f.a2 f.n2 f.c2,.slice f.a3 f.n3 f.c3]) w:=by kernel_rfl
end Go.Proofs.YtkdjfhkalelafaaGreatDoor
