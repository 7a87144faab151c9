import Derived.Test.YtogcbbkhnpmgeaaGreatDoorNdC
set_option maxRecDepth 100000
set_option maxHeartbeats 32000000
namespace Go.Proofs.YtogcbbkhnpmgeaaGreatDoor
open Go.RowKit
theorem ybba:ndW=zqs:=by unfold ndW zoq zqs;rfl
theorem yahz:∃ ns ds,Idle ndW zs32 ns ds:=by
 rw[ybba];exact⟨_,_,yasu,by kernel_rfl,by kernel_rfl,by kernel_rfl⟩
theorem FsIdle.mk'{w:World}{v:Value}{ws es hs:List Int}{ns:List Ino}{ds:List Den}(a:RdFs w v ws es hs [] 0 0 [] false)(b:Idle ws es ns ds)(c:zla hs=true):FsIdle w v:=⟨ws,es,ns,ds,hs,a,b,c⟩
theorem yaoi(w:World):zC 47 #[] w fun e w'=>∃ v',e=.returned v'/\FsIdle w' v'/\zB w w':=by
 obtain⟨V,hV⟩:=zE (w.alloc (.cells zez.toArray 37))
 have YV:Hid (V.heap[w.heap.size]?=some (.cells zez.toArray 37 (0,0))):=by rw[hV];exact zaf rfl
 have BV:Hid (zB w V):=by rw[hV];exact zR.alloc zL _
 have zV:Hid (w.heap.size<V.heap.size):=by rw[hV];simp[Hid]
 unfold zez at hV;go_enter Tryz.func47,Tryz.ntmps47;go_upto_region 1 with fail;rw[<- hV];clear hV;go_wp2_with fail;refine(zmb V).mono ?_;rintro e w1 ⟨v1,rfl,hr1,hb1⟩;obtain⟨iW,jW,iP,jP,iS,jS,iQ,jQ,rfl,-,-⟩:=hr1.form;have D1:=zaa hr1;have B1:=zaa hb1;clear hr1 hb1;go_wp2_with fail;refine(yajk w1).mono ?_;rintro e w2 ⟨v2,rfl,hr2,hb2⟩;have R2:Hid (RdI w2 v2 (zxn 128)):=hr2.rd;obtain⟨-,iH,jH,hv2,-⟩:=hr2.rd;subst hv2;have D2:=zaa (D1.o.below hb2);have B2:=zaa (zab B1.o hb2 B1.o.size);have z2:Hid (V.heap.size<=w2.heap.size):=B2.o.size;clear hr2 hb2 D1 B1;have Y2:=zaa ((B2.o.block w.heap.size zV.o).trans YV.o)
 obtain⟨X,hX⟩:=zE ((w2.alloc (.cells #[] 82)).alloc (.cells #[] 9))
 have BX:Hid (zB w2 X):=by rw[hX];exact(zR.alloc zL _).alloc (by simp) _
 have YX:Hid (X.heap[w.heap.size]?=some (.cells zez.toArray 37 (0,0))):=by rw[hX];exact zal (zal Y2.o)
 have YX':X.heap[w.heap.size]?=some (.cells #[.N,.N,.N,.N,.N,.N,.I 0,.I 0,.N,.bool false] 37 (0,0)):=YX.o;obtain⟨x0,x1,x2,x3,x4,x5,x6,x7,x8,x9,g0,g1,g2,g3,g4,g5,g6,g7,g8,g9⟩:=zak YX';clear YX';have O4:=zaa (zcf X w.heap.size (.slice iW ndW.length jW) (.slice iP 0 jP) (.slice iS zs32.length jS) (.slice iQ 0 jQ) (.slice iH (zxn 128).length jH) (.slice (some ⟨w2.heap.size,0,none⟩) 0 0) (.I 0) (.I 0) (.slice (some ⟨w2.heap.size+1,0,none⟩) 0 0) (.bool false));have S4:=zaa (Soft.outside O4.o YX.o rfl);have SS:=zaa ((Soft.of_below BX.o).trans S4.o);have B3:=zaa (zab (zab BV.o B2.o BV.o.size) BX.o (by have q:=zV.o;have q1:=z2.o;omega));have B4:=zaa (B3.o.trans (O4.o.below (B:=w.heap.size) zL B3.o.size))
 have F4:Hid (FsIdle (zhl X w.heap.size (.slice iW ndW.length jW) (.slice iP 0 jP) (.slice iS zs32.length jS) (.slice iQ 0 jQ) (.slice iH (zxn 128).length jH) (.slice (some ⟨w2.heap.size,0,none⟩) 0 0) (.I 0) (.I 0) (.slice (some ⟨w2.heap.size+1,0,none⟩) 0 0) (.bool false)) (.agg #[.slice iW ndW.length jW,.slice iP 0 jP,.slice iS zs32.length jS,.slice iQ 0 jQ,.slice iH (zxn 128).length jH,.slice (some ⟨w2.heap.size,0,none⟩) 0 0,.I 0,.I 0,.slice (some ⟨w2.heap.size+1,0,none⟩) 0 0,.bool false])):=by
  obtain⟨ns,ds,hi⟩:=yahz;exact FsIdle.mk' ⟨iW,jW,iP,jP,iS,jS,iQ,jQ,iH,jH,_,_,_,_,rfl,D2.o.soft SS.o (zcm hi).1 (zcm hi).2,RdI.soft R2.o SS.o (by rw[zwj];decide),yaxu _ _ _ (fun e=>nomatch e),yang _ _⟩ hi yapw
 clear O4 S4 SS B3 BX YX D2 R2 Y2;subst hX;go_wp2;refine bodyPost_ret (v:=.agg #[.slice iW ndW.length jW,.slice iP 0 jP,.slice iS zs32.length jS,.slice iQ 0 jQ,.slice iH (zxn 128).length jH,.slice (some ⟨w2.heap.size,0,none⟩) 0 0,.I 0,.I 0,.slice (some ⟨w2.heap.size+1,0,none⟩) 0 0,.bool false]) (by simp[results,Tryz.results47,go_sem,x0,x1,x2,x3,x4,x5,x6,x7,x8,x9]) rfl ?_;exact⟨_,rfl,F4.o,B4.o⟩
theorem yahu(v:Value)(ws es hs:List Int)(td:List Mi)(cd vl:Int)(nm:List ByteArray)(fr:Bool)(w:World)(h:RdFs w v ws es hs td cd vl nm fr)(h1:3<=ws.length/\ws.length<=1048576)(h2:3<=es.length/\es.length<=1048576)(h3:3<=hs.length/\hs.length<=1048576)(h4:td.length<=1048576)(h5:nm.length<=1048576) :
  zC 54 #[v] w fun e w'=>∃ v',e=.returned v'/\RdFs w' v' ws es hs td cd vl nm fr/\zB w w':=by
 obtain⟨aW,cW,aP,cP,aS,cS,aQ,cQ,aH,cH,aT,cT,aN,cN,rfl,a,b,c,d⟩:=h;have RH:Hid (Rd w 1 (.slice aH hs.length cH) hs.length (zeg hs)):=b;have RT:Hid (Rd w 3 (.slice aT td.length cT) td.length (mis td)):=c;have RN:Hid (Rd w 1 (.slice aN nm.length cN) nm.length (zee nm)):=d;have LO:=zaa (fun w1 (hb:zB w w1)=>yajo _ ws [] es [] w1 (a.below hb) h1.2 (by simp) h2.2 (by simp));have H1:=zaa h1.1;have H2:=zaa h2.1;have H3:=zaa h3.1;obtain⟨-,h3⟩:=h3;clear a b c d h1 h2
 obtain⟨V,hV⟩:=zE ((w.alloc (.cells #[.slice aW ws.length cW,.slice aP 0 cP,.slice aS es.length cS,.slice aQ 0 cQ,.slice aH hs.length cH,.slice aT td.length cT,.I cd,.I vl,.slice aN nm.length cN,.bool fr] 37)).alloc (.cells zez.toArray 37))
 have BV:Hid (zB w V):=by rw[hV];exact(zR.alloc zL _).alloc (by simp) _
 have XV:Hid (V.heap[w.heap.size]?=some (.cells #[.slice aW ws.length cW,.slice aP 0 cP,.slice aS es.length cS,.slice aQ 0 cQ,.slice aH hs.length cH,.slice aT td.length cT,.I cd,.I vl,.slice aN nm.length cN,.bool fr] 37 (0,0))):=by rw[hV];exact zal (zaf rfl)
 have YV:Hid (V.heap[w.heap.size+1]?=some (.cells zez.toArray 37 (0,0))):=by rw[hV];exact zaf (by simp)
 have zV:Hid (w.heap.size+2<=V.heap.size):=by rw[hV];simp[Hid]
 unfold zez at hV;go_enter Tryz.func54,Tryz.ntmps54;go_upto_region 1 with fail;rw[<- hV];clear hV;obtain⟨x0,x1,x2,x3,x4,x5,x6,x7,x8,x9,-⟩:=zak XV.o;go_wp2_with fail;refine(LO.o V BV.o).mono ?_;rintro e w1 ⟨v1,rfl,hr1,hb1⟩;have D1:=zaa hr1.rd;obtain⟨iW,jW,iP,jP,iS,jS,iQ,jQ,rfl,-,-⟩:=hr1.rd.form;have X1:=zaa ((hb1.block w.heap.size (by have q:=zV.o;omega)).trans XV.o);have Y1:=zaa ((hb1.block (w.heap.size+1) (by have q:=zV.o;omega)).trans YV.o);have B1:=zaa (zab BV.o hb1 BV.o.size);have z1:Hid (w.heap.size+2<=w1.heap.size):=Nat.le_trans zV.o hb1.size;clear hr1 hb1 x0 x1 x2 x3 x4 x5 x6 x7 x8 x9 XV YV LO BV zV;obtain⟨x0,x1,x2,x3,x4,x5,x6,x7,x8,x9,g0,g1,g2,g3,g4,g5,g6,g7,g8,g9⟩:=zak X1.o
 obtain⟨U1,hU1⟩:=zE (putR w1 w.heap.size (.slice iW ws.length jW) (.slice iP 0 jP) (.slice iS es.length jS) (.slice iQ 0 jQ))
 have O1:Hid (Outside w.heap.size (w.heap.size+1) w1 U1):=by rw[hU1];exact zkd _ _ _ _ _ _
 have S1:=zaa (Soft.outside O1.o X1.o rfl)
 have XB:Hid (U1.heap[w.heap.size]?=some (.cells #[.slice iW ws.length jW,.slice iP 0 jP,.slice iS es.length jS,.slice iQ 0 jQ,.slice aH hs.length cH,.slice aT td.length cT,.I cd,.I vl,.slice aN nm.length cN,.bool fr] 37 (0,0))):=by rw[hU1];exact yaoa X1.o _ _ _ _
 have YB:=zaa ((O1.o.block (w.heap.size+1) (by have q:=z1.o;omega) (by omega)).trans Y1.o);have BB:=zaa (B1.o.trans (O1.o.below (B:=w.heap.size) zL B1.o.size));have zX:Hid (w.heap.size+2<=U1.heap.size):=Nat.le_trans z1.o O1.o.size;have DU:=zaa (D1.o.soft S1.o H1.o H2.o);unfold putR at hU1;go_upto_region 2 with fail;rw[<- hU1];clear hU1 x0 x1 x2 x3 x4 x5 x6 x7 x8 x9 g0 g1 g2 g3 g4 g5 g6 g7 g8 g9 X1 Y1 B1 z1 O1 S1 D1
 have HOH:Hid ((U1.alloc (.cells #[] 3)).ownsRow U1.heap.size 3 1 (.slice (some ⟨U1.heap.size,0,none⟩) 0 0) 0 []):=by
  unfold Hid;simpa using World.ownsRow_lit (base:=U1.heap.size) (e:=3) (size:=1) U1 #[] 0 (by simp) (by simp) rfl
 have XAH:=zaa (zal (o:=.cells #[] 3) XB.o);obtain⟨x0,x1,x2,x3,x4,x5,x6,x7,x8,x9,-⟩:=zak XAH.o;have SRH:Hid (Rd (U1.alloc (.cells #[] 3)) 1 (.slice aH hs.length cH) hs.length (zeg hs)):=Rd.below RH.o (BB.o.alloc BB.o.size _);go_wp2_with (at_builtin;refine zae _ rfl (.tmp 7) (.tmp 9) 23 rfl U1.heap.size 3 (.I 0) 1 8 Tryz.underlying23 zmo rfl (by decide) _ 0 [] rfl HOH.o _ (hs.length) (zeg hs) rfl SRH.o (zgp hs) (by first | omega | (simp[maxLen];omega)) (by first | omega | (simp;omega)) (by simp) ?_);intro vH uH hownH hgrH
 have hownH:uH.ownsRow U1.heap.size 3 1 vH (hs.length) (zeg hs):=by simpa using hownH
 have RH:=zaa (zad hownH).rd;obtain⟨-,iH,jH,hvH,-⟩:=(zad hownH).rd;subst hvH;have BGH:Hid (zB U1 uH):=(zR.alloc zL _).grown hgrH (by simp) (fun k hk=>by simp[Value.ownBlock]at hk;omega);clear hownH hgrH x0 x1 x2 x3 x4 x5 x6 x7 x8 x9 XAH HOH SRH;have XUH:=zaa ((BGH.o.block w.heap.size (by have q:=zX.o;omega)).trans XB.o);have YUH:=zaa ((BGH.o.block (w.heap.size+1) (by have q:=zX.o;omega)).trans YB.o);have BUH:=zaa (zab BB.o BGH.o BB.o.size);have zUH:Hid (w.heap.size+2<=uH.heap.size):=Nat.le_trans zX.o BGH.o.size;obtain⟨x0,x1,x2,x3,x4,x5,x6,x7,x8,x9,g0,g1,g2,g3,g4,g5,g6,g7,g8,g9⟩:=zak XUH.o
 obtain⟨U2,hU2⟩:=zE (uH.setCell ⟨w.heap.size,4,none⟩ (.slice iH (hs.length) jH))
 have OH:Hid (Outside w.heap.size (w.heap.size+1) uH U2):=by rw[hU2];exact zaa (Outside.setCell (Outside.refl _ _ _) (a:=⟨w.heap.size,4,none⟩) zL (Nat.lt_succ_self _) _)
 have SH:=zaa (Soft.outside OH.o XUH.o rfl);have STH:=zaa ((Soft.of_below BGH.o).trans SH.o)
 have XNH:Hid (U2.heap[w.heap.size]?=some (.cells #[.slice iW ws.length jW,.slice iP 0 jP,.slice iS es.length jS,.slice iQ 0 jQ,.slice iH hs.length jH,.slice aT td.length cT,.I cd,.I vl,.slice aN nm.length cN,.bool fr] 37 (0,0))):=by rw[hU2];exact zve XUH.o _
 have YNH:=zaa ((OH.o.block (w.heap.size+1) (by have q:=zUH.o;omega) (by omega)).trans YUH.o);have BNH:=zaa (BUH.o.trans (OH.o.below (B:=w.heap.size) zL BUH.o.size));have zNH:Hid (w.heap.size+2<=U2.heap.size):=Nat.le_trans zUH.o OH.o.size;have QH:Hid (RdI U2 (.slice iH (hs.length) jH) hs):=RdI.soft RH.o SH.o H3.o;go_upto_region 3 with fail;rw[<- hU2];clear hU2 x0 x1 x2 x3 x4 x5 x6 x7 x8 x9 g0 g1 g2 g3 g4 g5 g6 g7 g8 g9 XB YB BB zX XUH YUH BUH zUH OH SH BGH RH;have XB:=XNH;have YB:=YNH;have BB:=BNH;have zX:=zNH;clear XNH YNH BNH zNH
 have HOT:Hid ((U2.alloc (.cells #[] 82)).ownsRow U2.heap.size 82 3 (.slice (some ⟨U2.heap.size,0,none⟩) 0 0) 0 []):=by
  unfold Hid;simpa using World.ownsRow_lit (base:=U2.heap.size) (e:=82) (size:=3) U2 #[] 0 (by simp) (by simp) rfl
 have XAT:=zaa (zal (o:=.cells #[] 82) XB.o);obtain⟨x0,x1,x2,x3,x4,x5,x6,x7,x8,x9,-⟩:=zak XAT.o;have SRT:Hid (Rd (U2.alloc (.cells #[] 82)) 3 (.slice aT td.length cT) td.length (mis td)):=Rd.below RT.o (BB.o.alloc BB.o.size _);go_wp2_with (at_builtin;refine zae _ rfl (.tmp 12) (.tmp 14) 32 rfl U2.heap.size 82 (.agg #[.I 0,.I 0,.I 0]) 3 24 Tryz.underlying32 zbp rfl (by decide) _ 0 [] rfl HOT.o _ (td.length) (mis td) rfl SRT.o (zcj td) (by first | omega | (simp[maxLen];omega)) (by first | omega | (simp;omega)) (by simp) ?_);intro vT uT hownT hgrT
 have hownT:uT.ownsRow U2.heap.size 82 3 vT (td.length) (mis td):=by simpa using hownT
 have RT:=zaa (zad hownT).rd;obtain⟨-,iT,jT,hvT,-⟩:=(zad hownT).rd;subst hvT;have BGT:Hid (zB U2 uT):=(zR.alloc zL _).grown hgrT (by simp) (fun k hk=>by simp[Value.ownBlock]at hk;omega);clear hownT hgrT x0 x1 x2 x3 x4 x5 x6 x7 x8 x9 XAT HOT SRT;have XUT:=zaa ((BGT.o.block w.heap.size (by have q:=zX.o;omega)).trans XB.o);have YUT:=zaa ((BGT.o.block (w.heap.size+1) (by have q:=zX.o;omega)).trans YB.o);have BUT:=zaa (zab BB.o BGT.o BB.o.size);have zUT:Hid (w.heap.size+2<=uT.heap.size):=Nat.le_trans zX.o BGT.o.size;obtain⟨x0,x1,x2,x3,x4,x5,x6,x7,x8,x9,g0,g1,g2,g3,g4,g5,g6,g7,g8,g9⟩:=zak XUT.o
 obtain⟨U3,hU3⟩:=zE (uT.setCell ⟨w.heap.size,5,none⟩ (.slice iT (td.length) jT))
 have OT:Hid (Outside w.heap.size (w.heap.size+1) uT U3):=by rw[hU3];exact zaa (Outside.setCell (Outside.refl _ _ _) (a:=⟨w.heap.size,5,none⟩) zL (Nat.lt_succ_self _) _)
 have ST:=zaa (Soft.outside OT.o XUT.o rfl);have STT:=zaa ((Soft.of_below BGT.o).trans ST.o)
 have XNT:Hid (U3.heap[w.heap.size]?=some (.cells #[.slice iW ws.length jW,.slice iP 0 jP,.slice iS es.length jS,.slice iQ 0 jQ,.slice iH hs.length jH,.slice iT td.length jT,.I cd,.I vl,.slice aN nm.length cN,.bool fr] 37 (0,0))):=by rw[hU3];exact zic XUT.o _
 have YNT:=zaa ((OT.o.block (w.heap.size+1) (by have q:=zUT.o;omega) (by omega)).trans YUT.o);have BNT:=zaa (BUT.o.trans (OT.o.below (B:=w.heap.size) zL BUT.o.size));have zNT:Hid (w.heap.size+2<=U3.heap.size):=Nat.le_trans zUT.o OT.o.size;have QT:Hid (RdM U3 (.slice iT (td.length) jT) td):=RdM.soft RT.o ST.o;go_upto_region 4 with fail;rw[<- hU3];clear hU3 x0 x1 x2 x3 x4 x5 x6 x7 x8 x9 g0 g1 g2 g3 g4 g5 g6 g7 g8 g9 XB YB BB zX XUT YUT BUT zUT OT ST BGT RT;have XB:=XNT;have YB:=YNT;have BB:=BNT;have zX:=zNT;clear XNT YNT BNT zNT
 have HON:Hid ((U3.alloc (.cells #[] 9)).ownsRow U3.heap.size 9 1 (.slice (some ⟨U3.heap.size,0,none⟩) 0 0) 0 []):=by
  unfold Hid;simpa using World.ownsRow_lit (base:=U3.heap.size) (e:=9) (size:=1) U3 #[] 0 (by simp) (by simp) rfl
 have XAN:=zaa (zal (o:=.cells #[] 9) XB.o);obtain⟨x0,x1,x2,x3,x4,x5,x6,x7,x8,x9,-⟩:=zak XAN.o;have SRN:Hid (Rd (U3.alloc (.cells #[] 9)) 1 (.slice aN nm.length cN) nm.length (zee nm)):=Rd.below RN.o (BB.o.alloc BB.o.size _);go_wp2_with (at_builtin;refine zae _ rfl (.tmp 17) (.tmp 20) 33 rfl U3.heap.size 9 (.string ⟨#[]⟩) 1 16 Tryz.underlying33 zfr rfl (by decide) _ 0 [] rfl HON.o _ (nm.length) (zee nm) rfl SRN.o (zbr nm) (by first | omega | (simp[maxLen];omega)) (by first | omega | (simp;omega)) (by simp) ?_);intro vN uN hownN hgrN
 have hownN:uN.ownsRow U3.heap.size 9 1 vN (nm.length) (zee nm):=by simpa using hownN
 have RN:=zaa (zad hownN).rd;obtain⟨-,iN,jN,hvN,-⟩:=(zad hownN).rd;subst hvN;have BGN:Hid (zB U3 uN):=(zR.alloc zL _).grown hgrN (by simp) (fun k hk=>by simp[Value.ownBlock]at hk;omega);clear hownN hgrN x0 x1 x2 x3 x4 x5 x6 x7 x8 x9 XAN HON SRN;have XUN:=zaa ((BGN.o.block w.heap.size (by have q:=zX.o;omega)).trans XB.o);have YUN:=zaa ((BGN.o.block (w.heap.size+1) (by have q:=zX.o;omega)).trans YB.o);have BUN:=zaa (zab BB.o BGN.o BB.o.size);have zUN:Hid (w.heap.size+2<=uN.heap.size):=Nat.le_trans zX.o BGN.o.size;obtain⟨x0,x1,x2,x3,x4,x5,x6,x7,x8,x9,g0,g1,g2,g3,g4,g5,g6,g7,g8,g9⟩:=zak XUN.o
 obtain⟨U4,hU4⟩:=zE (uN.setCell ⟨w.heap.size,8,none⟩ (.slice iN (nm.length) jN))
 have ON:Hid (Outside w.heap.size (w.heap.size+1) uN U4):=by rw[hU4];exact zaa (Outside.setCell (Outside.refl _ _ _) (a:=⟨w.heap.size,8,none⟩) zL (Nat.lt_succ_self _) _)
 have SN:=zaa (Soft.outside ON.o XUN.o rfl);have STN:=zaa ((Soft.of_below BGN.o).trans SN.o)
 have XNN:Hid (U4.heap[w.heap.size]?=some (.cells #[.slice iW ws.length jW,.slice iP 0 jP,.slice iS es.length jS,.slice iQ 0 jQ,.slice iH hs.length jH,.slice iT td.length jT,.I cd,.I vl,.slice iN nm.length jN,.bool fr] 37 (0,0))):=by rw[hU4];exact zmf XUN.o _
 have YNN:=zaa ((ON.o.block (w.heap.size+1) (by have q:=zUN.o;omega) (by omega)).trans YUN.o);have BNN:=zaa (BUN.o.trans (ON.o.below (B:=w.heap.size) zL BUN.o.size));have zNN:Hid (w.heap.size+2<=U4.heap.size):=Nat.le_trans zUN.o ON.o.size;have QN:Hid (RdT U4 (.slice iN (nm.length) jN) nm):=RdT.soft RN.o SN.o;go_upto_region 5 with fail;rw[<- hU4];clear hU4 x0 x1 x2 x3 x4 x5 x6 x7 x8 x9 g0 g1 g2 g3 g4 g5 g6 g7 g8 g9 XB YB BB zX XUN YUN BUN zUN ON SN BGN RN;have XB:=XNN;have YB:=YNN;have BB:=BNN;have zX:=zNN;clear XNN YNN BNN zNN;obtain⟨x0,x1,x2,x3,x4,x5,x6,x7,x8,x9,-⟩:=zak XB.o;have YB':U4.heap[w.heap.size+1]?=some (.cells #[.N,.N,.N,.N,.N,.N,.I 0,.I 0,.N,.bool false] 37 (0,0)):=YB.o;obtain⟨y0,y1,y2,y3,y4,y5,y6,y7,y8,y9,g0,g1,g2,g3,g4,g5,g6,g7,g8,g9⟩:=zak YB';clear YB';have OF:=zaa (zcf U4 (w.heap.size+1) (.slice iW ws.length jW) (.slice iP 0 jP) (.slice iS es.length jS) (.slice iQ 0 jQ) (.slice iH hs.length jH) (.slice iT td.length jT) (.I cd) (.I vl) (.slice iN nm.length jN) (.bool fr));have SF:=zaa (Soft.outside OF.o YB.o rfl);have BF:=zaa (BB.o.trans (OF.o.below (B:=w.heap.size) (by omega) BB.o.size))
 have FF:Hid (RdFs _ (.agg #[.slice iW ws.length jW,.slice iP 0 jP,.slice iS es.length jS,.slice iQ 0 jQ,.slice iH hs.length jH,.slice iT td.length jT,.I cd,.I vl,.slice iN nm.length jN,.bool fr]) ws es hs td cd vl nm fr) :=
  ⟨iW,jW,iP,jP,iS,jS,iQ,jQ,iH,jH,iT,jT,iN,jN,rfl,DU.o.soft (((STH.o.trans STT.o).trans STN.o).trans SF.o) H1.o H2.o,RdI.soft QH.o ((STT.o.trans STN.o).trans SF.o) H3.o,RdM.soft QT.o (STN.o.trans SF.o),RdT.soft QN.o SF.o⟩
 clear OF SF DU QH QT QN STH STT STN;go_wp2;refine bodyPost_ret (v:=.agg #[.slice iW ws.length jW,.slice iP 0 jP,.slice iS es.length jS,.slice iQ 0 jQ,.slice iH hs.length jH,.slice iT td.length jT,.I cd,.I vl,.slice iN nm.length jN,.bool fr]) (by simp[results,Tryz.results54,go_sem,y0,y1,y2,y3,y4,y5,y6,y7,y8,y9]) rfl ?_;exact⟨_,rfl,FF.o,BF.o⟩
structure FV where
 a0:Option Addr
 n0:Nat
 c0:Nat
 a1:Option Addr
 n1:Nat
 c1:Nat
 a2:Option Addr
 n2:Nat
 c2:Nat
 a3:Option Addr
 n3:Nat
 c3:Nat
 a4:Option Addr
 n4:Nat
 c4:Nat
 a5:Option Addr
 n5:Nat
 c5:Nat
 x:Int
 y:Int
 a8:Option Addr
 n8:Nat
 c8:Nat
 z:Bool
def FsMv(w:World)(v:Value):Prop:=∃ ws es ns ds hs td,RdFs w v ws es hs td 0 0 [] false/\Idle ws es ns ds/\zla hs=true/\MvOK ws es td
theorem FsMv.soft{w w':World}{v:Value}(h:FsMv w v)(s:Soft w w'):FsMv w' v:=by
 obtain⟨ws,es,ns,ds,hs,td,a,b,c,d⟩:=h;exact⟨ws,es,ns,ds,hs,td,a.soft s (zcm b).1 (zcm b).2 (by have:=(zcb c).1;omega),b,c,d⟩
theorem RdFs.form{w:World}{v:Value}{ws es hs:List Int}{td:List Mi}{cd vl:Int}{nm:List ByteArray}{fr:Bool}(h:RdFs w v ws es hs td cd vl nm fr):∃ f:FV,v=.agg #[.slice f.a0 f.n0 f.c0,.slice f.a1 f.n1 f.c1,.slice f.a2 f.n2 f.c2,.slice f.a3 f.n3 f.c3,.slice f.a4 f.n4 f.c4,.slice f.a5 f.n5 f.c5,.I f.x,.I f.y,.slice f.a8 f.n8 f.c8,.bool f.z]:=by
 obtain⟨aW,cW,aP,cP,aS,cS,aQ,cQ,aH,cH,aT,cT,aN,cN,rfl,-⟩:=h;exact⟨⟨aW,_,cW,aP,_,cP,aS,_,cS,aQ,_,cQ,aH,_,cH,aT,_,cT,_,_,aN,_,cN,_⟩,rfl⟩
theorem FsMv.form{w:World}{v:Value}(h:FsMv w v):∃ f:FV,v=.agg #[.slice f.a0 f.n0 f.c0,.slice f.a1 f.n1 f.c1,.slice f.a2 f.n2 f.c2,.slice f.a3 f.n3 f.c3,.slice f.a4 f.n4 f.c4,.slice f.a5 f.n5 f.c5,.I f.x,.I f.y,.slice f.a8 f.n8 f.c8,.bool f.z]:=by
 obtain⟨_,_,_,_,_,_,a,_⟩:=h;exact a.form
theorem FsIdle.form{w:World}{v:Value}(h:FsIdle w v):∃ f:FV,v=.agg #[.slice f.a0 f.n0 f.c0,.slice f.a1 f.n1 f.c1,.slice f.a2 f.n2 f.c2,.slice f.a3 f.n3 f.c3,.slice f.a4 f.n4 f.c4,.slice f.a5 f.n5 f.c5,.I f.x,.I f.y,.slice f.a8 f.n8 f.c8,.bool f.z]:=by
 obtain⟨_,_,_,_,_,a,_⟩:=h;exact a.form
theorem zxt(v:Value)(pr:Bool)(w:World)(h:FsIdle w v) :
  zC 52 #[v,.bool pr] w fun e w'=>∃ v' c,e=.returned (.tuple #[v',.I c])/\FsMv w' v'/\zB w w':=by
 obtain⟨ws,es,ns,ds,hs,a,b,c⟩:=h;refine(yacn v pr ws es hs ns ds w a b c).mono ?_;rintro e w' ⟨v',cd,td,rfl,r,m,hb⟩;exact⟨v',cd,rfl,⟨ws,es,ns,ds,hs,td,r,b,c,m⟩,hb⟩
theorem zyc(v:Value)(w:World)(h:FsMv w v) :
  zC 53 #[v] w fun e w'=>∃ v',e=.returned v'/\FsIdle w' v'/\zB w w':=by
 obtain⟨ws,es,ns,ds,hs,td,a,b,c,⟨ws',es',ns',ds',run,hi'⟩,hm,hl⟩:=h;refine(zms v ws es hs td 0 0 [] false ws' es' w a b.pm b.bk (by have:=(zcb c).1;omega) hm (by omega) run hi'.pm hi'.bk).mono ?_;rintro e w' ⟨v',rfl,r,hb⟩;exact⟨v',rfl,⟨ws',es',ns',ds',hs,r,hi',c⟩,hb⟩
theorem yado(v:Value)(w:World)(h:FsIdle w v) :
  zC 54 #[v] w fun e w'=>∃ v',e=.returned v'/\FsIdle w' v'/\zB w w':=by
 obtain⟨ws,es,ns,ds,hs,a,b,c⟩:=h;have l1:=b.wi.len;have l2:=(zdu b.bk).1;have l3:=(zcb c).1;refine(yahu v ws es hs [] 0 0 [] false w a (by omega) (by omega) (by omega) (by simp) (by simp)).mono ?_;rintro e w' ⟨v',rfl,r,hb⟩;exact⟨v',rfl,⟨ws,es,ns,ds,hs,r,b,c⟩,hb⟩
theorem zcn(w w':World)(v:Value)(h:FsIdle w v)(s:Soft w w'):FsIdle w' v:=h.soft s
theorem yaud(w w':World)(v:Value)(h:FsMv w v)(s:Soft w w'):FsMv w' v:=h.soft s
theorem Src.soft{w0 W W':World}{b k:Nat}{vC:Value}{bs:List Int}(h:Src w0 W b vC bs k)(O:Outside b (b+1) W W'):Soft W W':=by
 obtain⟨aC,cC,rfl,_⟩:=h.code.shape;obtain⟨_,_,_,_,_,_,hc⟩:=h.cells;exact Soft.outside O hc rfl
theorem yarz{w:World}{b:Nat}{t:TypeId}{x0 x1 x2 x3 x4 x5 x6 x7 x8 x9:Value}(h:w.heap[b]?=some (.cells #[x0,x1,x2,x3,x4,x5,x6,x7,x8,x9] t (0,0)))(y0 y1 y2 y3 y4 y5 y6 y7 y8 y9:Value):(zhl w b y0 y1 y2 y3 y4 y5 y6 y7 y8 y9).heap[b]?=some (.cells #[y0,y1,y2,y3,y4,y5,y6,y7,y8,y9] t (0,0)) :=
 zpx (zmf (zpg (zpc (zic (zve (yagc (yagq (yahd (yafu h _) _) _) _) _) _) _) _) _) _
structure FsS(P:World->Value->Prop)(w0 w W:World)(b k:Nat)(vC:Value)(bs:List Int)(fb:Nat)(f:FV):Prop where
 src:Src w0 W b vC bs k
 o:Outside b (b+1) w W
 fs:P W (.agg #[.slice f.a0 f.n0 f.c0,.slice f.a1 f.n1 f.c1,.slice f.a2 f.n2 f.c2,.slice f.a3 f.n3 f.c3,.slice f.a4 f.n4 f.c4,.slice f.a5 f.n5 f.c5,.I f.x,.I f.y,.slice f.a8 f.n8 f.c8,.bool f.z])
 box:W.heap[fb]?=some (.cells #[.slice f.a0 f.n0 f.c0,.slice f.a1 f.n1 f.c1,.slice f.a2 f.n2 f.c2,.slice f.a3 f.n3 f.c3,.slice f.a4 f.n4 f.c4,.slice f.a5 f.n5 f.c5,.I f.x,.I f.y,.slice f.a8 f.n8 f.c8,.bool f.z] 37 (0,0))
 res:W.heap[w.heap.size]?=some (.cells #[.N,.N,.N,.N,.N,.N,.I 0,.I 0,.N,.bool false] 37 (0,0))
 far:w.heap.size<fb
 near:b<w.heap.size
 base:w0.heap.size<=w.heap.size
theorem FsS.turn{P:World->Value->Prop}(ps:∀ (w w':World) (v:Value),P w v->Soft w w'->P w' v){w0 w W W':World}{b k k':Nat}{vC:Value}{bs:List Int}{fb:Nat}{f:FV}(h:FsS P w0 w W b k vC bs fb f)(S:Src w0 W' b vC bs k')(O:Outside b (b+1) W W'):FsS P w0 w W' b k' vC bs fb f :=
 ⟨S,h.o.trans O,ps _ _ _ h.fs (h.src.soft O),(O.block fb (Array.getElem?_eq_some_iff.1 h.box).1 (by have:=h.far;have:=h.near;omega)).trans h.box,(O.block _ (Array.getElem?_eq_some_iff.1 h.res).1 (by have:=h.near;omega)).trans h.res,h.far,h.near,h.base⟩
theorem FsS.newer{P:World->Value->Prop}(ps:∀ (w w':World) (v:Value),P w v->Soft w w'->P w' v){w0 w W W':World}{b k:Nat}{vC:Value}{bs:List Int}{fb:Nat}{f:FV}(h:FsS P w0 w W b k vC bs fb f)(B:zB W W'):FsS P w0 w W' b k vC bs fb f :=
 h.turn ps (h.src.newer B) (Outside.of_below B)
theorem FsS.call{P Q:World->Value->Prop}(qs:∀ (w w':World) (v:Value),Q w v->Soft w w'->Q w' v){w0 w W W':World}{b k:Nat}{vC:Value}{bs:List Int}{fb:Nat}{f g:FV}(h:FsS P w0 w W b k vC bs fb f)(B:zB W W')(F:Q W' (.agg #[.slice g.a0 g.n0 g.c0,.slice g.a1 g.n1 g.c1,.slice g.a2 g.n2 g.c2,.slice g.a3 g.n3 g.c3,.slice g.a4 g.n4 g.c4,.slice g.a5 g.n5 g.c5,.I g.x,.I g.y,.slice g.a8 g.n8 g.c8,.bool g.z])):FsS Q w0 w (zhl W' fb (.slice g.a0 g.n0 g.c0) (.slice g.a1 g.n1 g.c1) (.slice g.a2 g.n2 g.c2) (.slice g.a3 g.n3 g.c3) (.slice g.a4 g.n4 g.c4) (.slice g.a5 g.n5 g.c5) (.I g.x) (.I g.y) (.slice g.a8 g.n8 g.c8) (.bool g.z)) b k vC bs fb g:=by
 have O:=zcf W' fb (.slice g.a0 g.n0 g.c0) (.slice g.a1 g.n1 g.c1) (.slice g.a2 g.n2 g.c2) (.slice g.a3 g.n3 g.c3) (.slice g.a4 g.n4 g.c4) (.slice g.a5 g.n5 g.c5) (.I g.x) (.I g.y) (.slice g.a8 g.n8 g.c8) (.bool g.z);have bx:=(B.block fb (Array.getElem?_eq_some_iff.1 h.box).1).trans h.box;have f:=h.far;have n:=h.near;have z:=h.base;have rs:=(B.block w.heap.size (Array.getElem?_eq_some_iff.1 h.res).1).trans h.res;exact⟨(h.src.newer B).outside O (by omega) (by omega),(h.o.trans (Outside.of_below B)).newer O (by omega),qs _ _ _ F (Soft.outside O bx rfl),yarz bx (.slice g.a0 g.n0 g.c0) (.slice g.a1 g.n1 g.c1) (.slice g.a2 g.n2 g.c2) (.slice g.a3 g.n3 g.c3) (.slice g.a4 g.n4 g.c4) (.slice g.a5 g.n5 g.c5) (.I g.x) (.I g.y) (.slice g.a8 g.n8 g.c8) (.bool g.z),(O.block _ (Array.getElem?_eq_some_iff.1 rs).1 (by omega)).trans rs,f,n,z⟩
theorem yapm(w0 w:World)(b k:Nat)(vC:Value)(bs:List Int)(h:Src w0 w b vC bs k)(hk:k<=10000) :
  zC 21 #[.pointer (some ⟨b,0,none⟩)] w fun e w'=>∃ v' k',e=.returned v'/\k'<=k+3000/\FsIdle w' v'/\Src w0 w' b vC bs k'/\Outside b (b+1) w w':=by
 have near:=h.size;have base:=h.below.size;have HS:=zaa h;clear h
 obtain⟨V,hV⟩:=zE (w.alloc (.cells zez.toArray 37))
 have RV:Hid (V.heap[w.heap.size]?=some (.cells #[.N,.N,.N,.N,.N,.N,.I 0,.I 0,.N,.bool false] 37 (0,0))):=by rw[hV];exact zaf rfl
 have BV:Hid (zB w V):=by rw[hV];exact zR.alloc zL _
 have zV:Hid (w.heap.size<V.heap.size):=by rw[hV];simp[Hid]
 unfold zez at hV;go_enter Tryz.func21,Tryz.ntmps21;go_upto_region 1 with fail;rw[<- hV];clear hV;go_wp2_with fail;refine(yaoi V).mono ?_;rintro e w1 ⟨v1,rfl,hf1,hb1⟩;obtain⟨g1,rfl⟩:=hf1.form;have F1:=zaa hf1;have B1:=zaa hb1;clear hf1 hb1
 obtain⟨W1,hW1⟩:=zE (w1.alloc (.cells #[.slice g1.a0 g1.n0 g1.c0,.slice g1.a1 g1.n1 g1.c1,.slice g1.a2 g1.n2 g1.c2,.slice g1.a3 g1.n3 g1.c3,.slice g1.a4 g1.n4 g1.c4,.slice g1.a5 g1.n5 g1.c5,.I g1.x,.I g1.y,.slice g1.a8 g1.n8 g1.c8,.bool g1.z] 37))
 have I1:Hid (FsS FsIdle w0 w W1 b k vC bs w1.heap.size g1):=by
  rw[hW1];have A1:zB w1 (w1.alloc (.cells #[.slice g1.a0 g1.n0 g1.c0,.slice g1.a1 g1.n1 g1.c1,.slice g1.a2 g1.n2 g1.c2,.slice g1.a3 g1.n3 g1.c3,.slice g1.a4 g1.n4 g1.c4,.slice g1.a5 g1.n5 g1.c5,.I g1.x,.I g1.y,.slice g1.a8 g1.n8 g1.c8,.bool g1.z] 37)):=zR.alloc zL _;have BA:=zab BV.o B1.o BV.o.size;have BB:=zab BA A1 BA.size;exact⟨HS.o.newer BB,Outside.of_below BB,F1.o.below A1,zaf rfl,zal ((B1.o.block _ zV.o).trans RV.o),Nat.lt_of_lt_of_le zV.o B1.o.size,near,base⟩
 clear B1 F1 RV BV zV HS;go_upto_region 2 with fail;rw[<- hW1];clear hW1;generalize w1.heap.size=fb at *;obtain⟨c0,c1,c2,c3,c4,c5,c6,c7,c8,c9,f0,f1,f2,f3,f4,f5,f6,f7,f8,f9⟩:=zak I1.o.box;go_wp2_with fail;refine(zro _ 1 ⟨#[47,97]⟩ ⟨#[]⟩ 0 0 _ I1.o.fs (by decide) (by decide)).mono ?_;rintro e w2 ⟨v2,cd2,vl2,a2,n2,k2,rfl,hf2,hb2⟩;obtain⟨g2,rfl⟩:=hf2.form;have F2:=zaa hf2;have B2:=zaa hb2;clear hf2 hb2;clear c0 c1 c2 c3 c4 c5 c6 c7 c8 c9 f0 f1 f2 f3 f4 f5 f6 f7 f8 f9
 obtain⟨W2,hW2⟩:=zE (zhl w2 fb (.slice g2.a0 g2.n0 g2.c0) (.slice g2.a1 g2.n1 g2.c1) (.slice g2.a2 g2.n2 g2.c2) (.slice g2.a3 g2.n3 g2.c3) (.slice g2.a4 g2.n4 g2.c4) (.slice g2.a5 g2.n5 g2.c5) (.I g2.x) (.I g2.y) (.slice g2.a8 g2.n8 g2.c8) (.bool g2.z))
 have I2:=zaa (FsS.call (Q:=FsIdle) (g:=g2) zcn I1.o B2.o F2.o);rw[<- hW2]at I2;have NBW2:=zaa ((B2.o.block fb (Array.getElem?_eq_some_iff.1 I1.o.box).1).trans I1.o.box);obtain⟨c0,c1,c2,c3,c4,c5,c6,c7,c8,c9,f0,f1,f2,f3,f4,f5,f6,f7,f8,f9⟩:=zak NBW2.o;unfold zhl at hW2;go_upto_region 3 with fail;rw[<- hW2];clear hW2 c0 c1 c2 c3 c4 c5 c6 c7 c8 c9 f0 f1 f2 f3 f4 f5 f6 f7 f8 f9 NBW2 I1 F2 B2;obtain⟨c0,c1,c2,c3,c4,c5,c6,c7,c8,c9,f0,f1,f2,f3,f4,f5,f6,f7,f8,f9⟩:=zak I2.o.box;go_wp2_with fail;refine(zro _ 2 ⟨#[47,98]⟩ ⟨#[]⟩ 0 0 _ I2.o.fs (by decide) (by decide)).mono ?_;rintro e w3 ⟨v3,cd3,vl3,a3,n3,k3,rfl,hf3,hb3⟩;obtain⟨g3,rfl⟩:=hf3.form;have F3:=zaa hf3;have B3:=zaa hb3;clear hf3 hb3;clear c0 c1 c2 c3 c4 c5 c6 c7 c8 c9 f0 f1 f2 f3 f4 f5 f6 f7 f8 f9
 obtain⟨W3,hW3⟩:=zE (zhl w3 fb (.slice g3.a0 g3.n0 g3.c0) (.slice g3.a1 g3.n1 g3.c1) (.slice g3.a2 g3.n2 g3.c2) (.slice g3.a3 g3.n3 g3.c3) (.slice g3.a4 g3.n4 g3.c4) (.slice g3.a5 g3.n5 g3.c5) (.I g3.x) (.I g3.y) (.slice g3.a8 g3.n8 g3.c8) (.bool g3.z))
 have I3:=zaa (FsS.call (Q:=FsIdle) (g:=g3) zcn I2.o B3.o F3.o);rw[<- hW3]at I3;have NBW3:=zaa ((B3.o.block fb (Array.getElem?_eq_some_iff.1 I2.o.box).1).trans I2.o.box);obtain⟨c0,c1,c2,c3,c4,c5,c6,c7,c8,c9,f0,f1,f2,f3,f4,f5,f6,f7,f8,f9⟩:=zak NBW3.o;unfold zhl at hW3;go_upto_region 4 with fail;rw[<- hW3];clear hW3 c0 c1 c2 c3 c4 c5 c6 c7 c8 c9 f0 f1 f2 f3 f4 f5 f6 f7 f8 f9 NBW3 I2 F3 B3;go_wp2_with fail;refine(yabr w0 _ b k vC bs I3.o.src).mono ?_;rintro e w4 ⟨sz,rfl,s0,s1,rfl⟩
 have ws8:IntKind.i64.wrap (sz+8)=sz+8:=by rw[IntKind.wrap_i64];omega
 go_wp2_with fail;refine(zcd (sz+8) (by omega) w0 _ b k vC bs I3.o.src (by omega)).mono ?_;rintro e w5 ⟨r,rfl,r0,r1,hs,ho,-⟩;have I5:=zaa (I3.o.turn zcn hs ho);clear hs ho I3 ws8
 obtain⟨n,rfl⟩:∃ n:Nat,r=(n:Int):=⟨r.toNat,by omega⟩
 have n28:n<=28:=by omega
 clear r0 r1 s0 s1;go_wp2
 go_loopw [4] (fun i wr=>∃ (j q:Nat) (f:FV),j<=28/\i=.I (j:Int)/\q+80*j<=k+2400/\Hid (FsS FsIdle w0 w wr b q vC bs fb f)) (fun i _=>(intOf i).toNat)
 case atStart=>exact⟨n,_,_,n28,rfl,by omega,I5⟩
 case round =>
  obtain⟨j,q,f,hj,rfl,hq,I⟩:=hrel;clear I5
  by_cases c:0<j
  ·have cj:(0:Int)<(j:Int):=by omega
   go_wp2_with fail;refine(zhz 4 (by omega) w0 _ b q vC bs I.o.src (by omega)).mono ?_;rintro e w6 ⟨rc,rfl,hs,ho,-⟩;have I6:=zaa (I.o.turn zcn hs ho);clear hs ho I
   cases rc with
   | true =>
    obtain⟨c0,c1,c2,c3,c4,c5,c6,c7,c8,c9,f0,f1,f2,f3,f4,f5,f6,f7,f8,f9⟩:=zak I6.o.box;go_upto_region 8 with fail
    go_region_with (first
     | (go_at_call 51;refine(zhz 2 (by omega) w0 _ b _ vC bs (I6.o.src.newer (by repeat (first | exact zR | refine Below.drew ?_))) (by omega)).mono ?_;rintro e w7 ⟨pr,rfl,hs,ho,-⟩;have I7:=zaa ((I6.o.newer zcn (by repeat (first | exact zR | refine Below.drew ?_))).turn zcn hs ho);clear hs ho c0 c1 c2 c3 c4 c5 c6 c7 c8 c9 f0 f1 f2 f3 f4 f5 f6 f7 f8 f9;obtain⟨c0,c1,c2,c3,c4,c5,c6,c7,c8,c9,f0,f1,f2,f3,f4,f5,f6,f7,f8,f9⟩:=zak I7.o.box)
     | (go_at_call 52;refine(zxt _ pr _ (I7.o.newer zcn (by repeat (first | exact zR | refine Below.drew ?_))).fs).mono ?_;rintro e w8 ⟨v8,c8',rfl,hf8,hb8⟩;obtain⟨g8,rfl⟩:=hf8.form;have F8:=zaa hf8;have B8:Hid (zB w7 w8):=(by first | exact hb8 | exact zab (by repeat (first | exact zR | refine Below.drew ?_)) hb8 zL);clear hf8 hb8 c0 c1 c2 c3 c4 c5 c6 c7 c8 c9 f0 f1 f2 f3 f4 f5 f6 f7 f8 f9;have NB8:=zaa ((B8.o.block fb (Array.getElem?_eq_some_iff.1 I7.o.box).1).trans I7.o.box);obtain⟨c0,c1,c2,c3,c4,c5,c6,c7,c8,c9,f0,f1,f2,f3,f4,f5,f6,f7,f8,f9⟩:=zak NB8.o))
    all_goals
     obtain⟨U8,hU8⟩:=zE (zhl w8 fb (.slice g8.a0 g8.n0 g8.c0) (.slice g8.a1 g8.n1 g8.c1) (.slice g8.a2 g8.n2 g8.c2) (.slice g8.a3 g8.n3 g8.c3) (.slice g8.a4 g8.n4 g8.c4) (.slice g8.a5 g8.n5 g8.c5) (.I g8.x) (.I g8.y) (.slice g8.a8 g8.n8 g8.c8) (.bool g8.z))
     have I8:=zaa (FsS.call (Q:=FsMv) (g:=g8) yaud I7.o B8.o F8.o);rw[<- hU8]at I8;unfold zhl at hU8;rw[<- hU8];clear hU8 c0 c1 c2 c3 c4 c5 c6 c7 c8 c9 f0 f1 f2 f3 f4 f5 f6 f7 f8 f9 NB8 I7 F8 B8;obtain⟨c0,c1,c2,c3,c4,c5,c6,c7,c8,c9,f0,f1,f2,f3,f4,f5,f6,f7,f8,f9⟩:=zak I8.o.box;go_wp2_with fail;refine(zyc _ _ I8.o.fs).mono ?_;rintro e w9 ⟨v9,rfl,hf9,hb9⟩;obtain⟨g9,rfl⟩:=hf9.form;have F9:=zaa hf9;have B9:=zaa hb9;clear hf9 hb9;clear c0 c1 c2 c3 c4 c5 c6 c7 c8 c9 f0 f1 f2 f3 f4 f5 f6 f7 f8 f9
     obtain⟨U9,hU9⟩:=zE (zhl w9 fb (.slice g9.a0 g9.n0 g9.c0) (.slice g9.a1 g9.n1 g9.c1) (.slice g9.a2 g9.n2 g9.c2) (.slice g9.a3 g9.n3 g9.c3) (.slice g9.a4 g9.n4 g9.c4) (.slice g9.a5 g9.n5 g9.c5) (.I g9.x) (.I g9.y) (.slice g9.a8 g9.n8 g9.c8) (.bool g9.z))
     have I9:=zaa (FsS.call (Q:=FsIdle) (g:=g9) zcn I8.o B9.o F9.o);rw[<- hU9]at I9;have NBU9:=zaa ((B9.o.block fb (Array.getElem?_eq_some_iff.1 I8.o.box).1).trans I8.o.box);obtain⟨c0,c1,c2,c3,c4,c5,c6,c7,c8,c9,f0,f1,f2,f3,f4,f5,f6,f7,f8,f9⟩:=zak NBU9.o;unfold zhl at hU9;go_upto_region 6 with fail;rw[<- hU9];clear hU9 c0 c1 c2 c3 c4 c5 c6 c7 c8 c9 f0 f1 f2 f3 f4 f5 f6 f7 f8 f9 NBU9 I8 F9 B9;go_wp2
     go_roundw
     case rel=>exact⟨j-1,_,_,by omega,by go_num,by omega,I9⟩
     case measure=>simp[intOf];omega
   | false =>
    obtain⟨c0,c1,c2,c3,c4,c5,c6,c7,c8,c9,f0,f1,f2,f3,f4,f5,f6,f7,f8,f9⟩:=zak I6.o.box;go_upto_region 10 with fail
    go_region_with (first
     | (go_at_call 22;refine(yapi w0 _ b _ vC bs (I6.o.src.newer (by repeat (first | exact zR | refine Below.drew ?_))) (by omega)).mono ?_;rintro e w7 ⟨kd,pp,tt,gg,yy,rfl,hp,ht,hs,ho⟩;have HP:=zaa (And.intro hp ht);have I7:=zaa ((I6.o.newer zcn (by repeat (first | exact zR | refine Below.drew ?_))).turn zcn hs ho);clear hs ho hp ht c0 c1 c2 c3 c4 c5 c6 c7 c8 c9 f0 f1 f2 f3 f4 f5 f6 f7 f8 f9;obtain⟨c0,c1,c2,c3,c4,c5,c6,c7,c8,c9,f0,f1,f2,f3,f4,f5,f6,f7,f8,f9⟩:=zak I7.o.box)
     | (go_at_call 48;refine(zro _ kd pp tt gg yy _ (I7.o.newer zcn (by repeat (first | exact zR | refine Below.drew ?_))).fs (by have:=HP.o.1;omega) (by have:=HP.o.2;omega)).mono ?_;rintro e w8 ⟨v8,cd8,vl8,a8,n8,k8,rfl,hf8,hb8⟩;obtain⟨g8,rfl⟩:=hf8.form;have F8:=zaa hf8;have B8:Hid (zB w7 w8):=(by first | exact hb8 | exact zab (by repeat (first | exact zR | refine Below.drew ?_)) hb8 zL);clear hf8 hb8 c0 c1 c2 c3 c4 c5 c6 c7 c8 c9 f0 f1 f2 f3 f4 f5 f6 f7 f8 f9;have NB8:=zaa ((B8.o.block fb (Array.getElem?_eq_some_iff.1 I7.o.box).1).trans I7.o.box);obtain⟨c0,c1,c2,c3,c4,c5,c6,c7,c8,c9,f0,f1,f2,f3,f4,f5,f6,f7,f8,f9⟩:=zak NB8.o))
    all_goals
     obtain⟨U8,hU8⟩:=zE (zhl w8 fb (.slice g8.a0 g8.n0 g8.c0) (.slice g8.a1 g8.n1 g8.c1) (.slice g8.a2 g8.n2 g8.c2) (.slice g8.a3 g8.n3 g8.c3) (.slice g8.a4 g8.n4 g8.c4) (.slice g8.a5 g8.n5 g8.c5) (.I g8.x) (.I g8.y) (.slice g8.a8 g8.n8 g8.c8) (.bool g8.z))
     have I8:=zaa (FsS.call (Q:=FsIdle) (g:=g8) zcn I7.o B8.o F8.o);rw[<- hU8]at I8;unfold zhl at hU8;rw[<- hU8];clear hU8 c0 c1 c2 c3 c4 c5 c6 c7 c8 c9 f0 f1 f2 f3 f4 f5 f6 f7 f8 f9 NB8 I7 F8 B8;go_wp2
     go_roundw
     case rel=>exact⟨j-1,_,_,by omega,by go_num,by omega,I8⟩
     case measure=>simp[intOf];omega
  ·obtain rfl:j=0:=by omega
   obtain⟨c0,c1,c2,c3,c4,c5,c6,c7,c8,c9,f0,f1,f2,f3,f4,f5,f6,f7,f8,f9⟩:=zak I.o.box;go_wp2_with fail;refine(yado _ _ I.o.fs).mono ?_;rintro e w9 ⟨v9,rfl,hf9,hb9⟩;obtain⟨g9,rfl⟩:=hf9.form;have F9:=zaa hf9;have B9:=zaa hb9;clear hf9 hb9;have R9:=zaa ((B9.o.block w.heap.size (Array.getElem?_eq_some_iff.1 I.o.res).1).trans I.o.res);have O9:=zaa (zcf w9 w.heap.size (.slice g9.a0 g9.n0 g9.c0) (.slice g9.a1 g9.n1 g9.c1) (.slice g9.a2 g9.n2 g9.c2) (.slice g9.a3 g9.n3 g9.c3) (.slice g9.a4 g9.n4 g9.c4) (.slice g9.a5 g9.n5 g9.c5) (.I g9.x) (.I g9.y) (.slice g9.a8 g9.n8 g9.c8) (.bool g9.z));have FF:=zaa (F9.o.soft (Soft.outside O9.o R9.o rfl));have SF:=zaa ((I.o.src.newer B9.o).outside O9.o (.inl near) base);have OF:=zaa ((I.o.o.trans (Outside.of_below B9.o)).newer O9.o zL);clear c0 c1 c2 c3 c4 c5 c6 c7 c8 c9 f0 f1 f2 f3 f4 f5 f6 f7 f8 f9 O9 I F9 B9;obtain⟨y0,y1,y2,y3,y4,y5,y6,y7,y8,y9,m0,m1,m2,m3,m4,m5,m6,m7,m8,m9⟩:=zak R9.o;go_wp2;refine bodyPost_ret (v:=.agg #[.slice g9.a0 g9.n0 g9.c0,.slice g9.a1 g9.n1 g9.c1,.slice g9.a2 g9.n2 g9.c2,.slice g9.a3 g9.n3 g9.c3,.slice g9.a4 g9.n4 g9.c4,.slice g9.a5 g9.n5 g9.c5,.I g9.x,.I g9.y,.slice g9.a8 g9.n8 g9.c8,.bool g9.z]) (by simp[results,Tryz.results21,go_sem,y0,y1,y2,y3,y4,y5,y6,y7,y8,y9]) rfl ?_;exact⟨_,_,rfl,by omega,FF.o,SF.o,OF.o⟩
theorem yabu(f:FV)(w:World):(Instr.field 37 (.agg #[.slice f.a0 f.n0 f.c0,.slice f.a1 f.n1 f.c1,.slice f.a2 f.n2 f.c2,.slice f.a3 f.n3 f.c3,.slice f.a4 f.n4 f.c4,.slice f.a5 f.n5 f.c5,.I f.x,.I f.y,.slice f.a8 f.n8 f.c8,.bool f.z]) 0).run Tryz.prog w=.ok (.agg #[.slice f.a0 f.n0 f.c0,.slice f.a1 f.n1 f.c1,.slice f.a2 f.n2 f.c2,.slice f.a3 f.n3 f.c3]) w:=by kernel_rfl
end Go.Proofs.YtogcbbkhnpmgeaaGreatDoor
