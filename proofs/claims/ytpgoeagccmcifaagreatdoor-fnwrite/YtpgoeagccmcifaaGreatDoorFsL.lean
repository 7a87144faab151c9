/- A file system that is new, and one that is owned: by the model. -/
import Derived.Test.YtpgoeagccmcifaaGreatDoorZBK
import Derived.Test.YtpgoeagccmcifaaGreatDoorNdC
import Derived.Test.YtpgoeagccmcifaaGreatDoorZAU
import Derived.Test.YtpgoeagccmcifaaGreatDoorZBE
namespace Go.Proofs.YtpgoeagccmcifaaGreatDoor
open Go.RowKit
theorem yazr:ndW=zrn:=by unfold ndW zou zrn;rfl
theorem yaik:∃ ns ds,Idle ndW zs32 ns ds:=by
 rw[yazr]
 exact⟨_,_,yasy,by kernel_rfl,by kernel_rfl,by kernel_rfl⟩
theorem FsIdle.mk' {w:World}{v:Value}{ws es hs:List Int}{ns:List Ino}{ds:List Den}(a:RdFs w v ws es hs [] 0 0 []false)(b:Idle ws es ns ds)(c:zli hs=true):FsIdle w v:=⟨ws,es,ns,ds,hs,a,b,c⟩
set_option maxRecDepth 100000 in
set_option maxHeartbeats 16000000 in
theorem yapq(w:World):Calls Tryz.prog 35 #[]w fun e w'=>∃ v',e=.returned v'∧FsIdle w' v'∧Below w.heap.size w w':=by
 obtain⟨V,hV⟩:∃ V,V=w.alloc(.cells zfg.toArray 37):=⟨_,rfl⟩
 have YV:Hid(V.heap[w.heap.size]?=some(.cells zfg.toArray 37(0,0))):=by rw[hV];exact zag rfl
 have BV:Hid(Below w.heap.size w V):=by rw[hV];exact(Below.refl _ _).alloc(Nat.le_refl _)_
 have zV:Hid(w.heap.size < V.heap.size):=by rw[hV];simp[Hid]
 unfold zfg at hV
 go_enter Tryz.func35,Tryz.ntmps35
 go_upto_region 1 with fail
 rw[← hV]
 clear hV
 go_wp2_with fail
 refine(zls V).mono ?_
 rintro e w1⟨v1,rfl,hr1,hb1⟩
 obtain⟨iW,jW,iP,jP,iS,jS,iQ,jQ,rfl,-,-⟩:=hr1.form
 have D1:=zaa hr1
 have B1:=zaa hb1
 clear hr1 hb1
 go_wp2_with fail
 refine(yahn w1).mono ?_
 rintro e w2⟨v2,rfl,hr2,hb2⟩
 have R2:Hid(RdI w2 v2(zxh 128)):=hr2.rd
 obtain⟨-,iH,jH,hv2,-⟩:=hr2.rd
 subst hv2
 have D2:=zaa(D1.o.below hb2)
 have B2:=zaa(zab B1.o hb2 B1.o.size)
 have z2:Hid(V.heap.size≤w2.heap.size):=B2.o.size
 clear hr2 hb2 D1 B1
 have Y2:=zaa((B2.o.block w.heap.size zV.o).trans YV.o)
 obtain⟨X,hX⟩:∃ X,X=(w2.alloc(.cells #[] 85)).alloc(.cells #[] 9):=⟨_,rfl⟩
 have BX:Hid(Below w2.heap.size w2 X):=by rw[hX];exact((Below.refl _ _).alloc(Nat.le_refl _)_).alloc(by simp)_
 have YX:Hid(X.heap[w.heap.size]?=some(.cells zfg.toArray 37(0,0))):=by rw[hX];exact zaj(zaj Y2.o)
 have YX':X.heap[w.heap.size]?=some(.cells #[.slice none 0 0,.slice none 0 0,.slice none 0 0,.slice none 0 0,.slice none 0 0,.slice none 0 0,.int .i64 0,.int .i64 0,.slice none 0 0,.bool false] 37(0,0)):=YX.o
 obtain⟨x0,x1,x2,x3,x4,x5,x6,x7,x8,x9,g0,g1,g2,g3,g4,g5,g6,g7,g8,g9⟩:=zam YX'
 clear YX'
 have O4:=zaa(zca X w.heap.size(.slice iW ndW.length jW)(.slice iP 0 jP)(.slice iS zs32.length jS)(.slice iQ 0 jQ)(.slice iH(zxh 128).length jH)(.slice(some⟨w2.heap.size,0,none⟩) 0 0)(.int .i64 0)(.int .i64 0)(.slice(some⟨w2.heap.size+1,0,none⟩) 0 0)(.bool false))
 have S4:=zaa(Soft.outside O4.o YX.o rfl)
 have SS:=zaa((Soft.of_below BX.o).trans S4.o)
 have B3:=zaa(zab(zab BV.o B2.o BV.o.size)BX.o(by have q:=zV.o;have q1:=z2.o;omega))
 have B4:=zaa(B3.o.trans(O4.o.below(B:=w.heap.size)(Nat.le_refl _)B3.o.size))
 have F4:Hid(FsIdle(zhl X w.heap.size(.slice iW ndW.length jW)(.slice iP 0 jP)(.slice iS zs32.length jS)(.slice iQ 0 jQ)(.slice iH(zxh 128).length jH)(.slice(some⟨w2.heap.size,0,none⟩) 0 0)(.int .i64 0)(.int .i64 0)(.slice(some⟨w2.heap.size+1,0,none⟩) 0 0)(.bool false))(.agg #[.slice iW ndW.length jW,.slice iP 0 jP,.slice iS zs32.length jS,.slice iQ 0 jQ,.slice iH(zxh 128).length jH,.slice(some⟨w2.heap.size,0,none⟩) 0 0,.int .i64 0,.int .i64 0,.slice(some⟨w2.heap.size+1,0,none⟩) 0 0,.bool false])):=by
  obtain⟨ns,ds,hi⟩:=yaik
  exact FsIdle.mk'⟨iW,jW,iP,jP,iS,jS,iQ,jQ,iH,jH,_,_,_,_,rfl,D2.o.soft SS.o(zcl hi).1(zcl hi).2,RdI.soft R2.o SS.o(by rw[zvs];decide),yays _ _ _(fun e=>nomatch e),yalm _ _⟩hi yamn
 clear O4 S4 SS B3 BX YX D2 R2 Y2
 subst hX
 go_wp2
 refine bodyPost_ret(v:=.agg #[.slice iW ndW.length jW,.slice iP 0 jP,.slice iS zs32.length jS,.slice iQ 0 jQ,.slice iH(zxh 128).length jH,.slice(some⟨w2.heap.size,0,none⟩) 0 0,.int .i64 0,.int .i64 0,.slice(some⟨w2.heap.size+1,0,none⟩) 0 0,.bool false])(by simp[results,Tryz.results35,go_sem,x0,x1,x2,x3,x4,x5,x6,x7,x8,x9])rfl ?_
 exact⟨_,rfl,F4.o,B4.o⟩
set_option maxRecDepth 100000 in
set_option maxHeartbeats 16000000 in
theorem yagr(v:Value)(ws es hs:List Int)(td:List Mi)(cd vl:Int)(nm:List ByteArray)(fr:Bool)(w:World)(h:RdFs w v ws es hs td cd vl nm fr)(h1:3≤ws.length∧ws.length≤1048576)(h2:3≤es.length∧es.length≤1048576)(h3:3≤hs.length∧hs.length≤1048576)(h4:td.length≤1048576)(h5:nm.length≤1048576) :
  Calls Tryz.prog 43 #[v]w fun e w'=>∃ v',e=.returned v'∧RdFs w' v' ws es hs td cd vl nm fr∧Below w.heap.size w w':=by
 obtain⟨aW,cW,aP,cP,aS,cS,aQ,cQ,aH,cH,aT,cT,aN,cN,rfl,a,b,c,d⟩:=h
 have RH:Hid(Rd w 1(.slice aH hs.length cH)hs.length(zco hs)):=b
 have RT:Hid(Rd w 3(.slice aT td.length cT)td.length(mis td)):=c
 have RN:Hid(Rd w 1(.slice aN nm.length cN)nm.length(zfn nm)):=d
 have LO:=zaa(fun w1(hb:Below w.heap.size w w1)=>yahw _ ws []es []w1(a.below hb)h1.2(by simp)h2.2(by simp))
 have H1:=zaa h1.1
 have H2:=zaa h2.1
 have H3:=zaa h3.1
 obtain⟨-,h3⟩:=h3
 clear a b c d h1 h2
 obtain⟨V,hV⟩:∃ V,V=(w.alloc(.cells #[.slice aW ws.length cW,.slice aP 0 cP,.slice aS es.length cS,.slice aQ 0 cQ,.slice aH hs.length cH,.slice aT td.length cT,.int .i64 cd,.int .i64 vl,.slice aN nm.length cN,.bool fr] 37)).alloc(.cells zfg.toArray 37):=⟨_,rfl⟩
 have BV:Hid(Below w.heap.size w V):=by rw[hV];exact((Below.refl _ _).alloc(Nat.le_refl _)_).alloc(by simp)_
 have XV:Hid(V.heap[w.heap.size]?=some(.cells #[.slice aW ws.length cW,.slice aP 0 cP,.slice aS es.length cS,.slice aQ 0 cQ,.slice aH hs.length cH,.slice aT td.length cT,.int .i64 cd,.int .i64 vl,.slice aN nm.length cN,.bool fr] 37(0,0))):=by rw[hV];exact zaj(zag rfl)
 have YV:Hid(V.heap[w.heap.size+1]?=some(.cells zfg.toArray 37(0,0))):=by rw[hV];exact zag(by simp)
 have zV:Hid(w.heap.size+2≤V.heap.size):=by rw[hV];simp[Hid]
 unfold zfg at hV
 go_enter Tryz.func43,Tryz.ntmps43
 go_upto_region 1 with fail
 rw[← hV]
 clear hV
 obtain⟨x0,x1,x2,x3,x4,x5,x6,x7,x8,x9,-⟩:=zam XV.o
 go_wp2_with fail
 refine(LO.o V BV.o).mono ?_
 rintro e w1⟨v1,rfl,hr1,hb1⟩
 have D1:=zaa hr1.rd
 obtain⟨iW,jW,iP,jP,iS,jS,iQ,jQ,rfl,-,-⟩:=hr1.rd.form
 have X1:=zaa((hb1.block w.heap.size(by have q:=zV.o;omega)).trans XV.o)
 have Y1:=zaa((hb1.block(w.heap.size+1)(by have q:=zV.o;omega)).trans YV.o)
 have B1:=zaa(zab BV.o hb1 BV.o.size)
 have z1:Hid(w.heap.size+2≤w1.heap.size):=Nat.le_trans zV.o hb1.size
 clear hr1 hb1 x0 x1 x2 x3 x4 x5 x6 x7 x8 x9 XV YV LO BV zV
 obtain⟨x0,x1,x2,x3,x4,x5,x6,x7,x8,x9,g0,g1,g2,g3,g4,g5,g6,g7,g8,g9⟩:=zam X1.o
 obtain⟨U1,hU1⟩:∃ U1,U1=putR w1 w.heap.size(.slice iW ws.length jW)(.slice iP 0 jP)(.slice iS es.length jS)(.slice iQ 0 jQ):=⟨_,rfl⟩
 have O1:Hid(Outside w.heap.size(w.heap.size+1)w1 U1):=by rw[hU1];exact zdq _ _ _ _ _ _
 have S1:=zaa(Soft.outside O1.o X1.o rfl)
 have XB:Hid(U1.heap[w.heap.size]?=some(.cells #[.slice iW ws.length jW,.slice iP 0 jP,.slice iS es.length jS,.slice iQ 0 jQ,.slice aH hs.length cH,.slice aT td.length cT,.int .i64 cd,.int .i64 vl,.slice aN nm.length cN,.bool fr] 37(0,0))):=by rw[hU1];exact yaky X1.o _ _ _ _
 have YB:=zaa((O1.o.block(w.heap.size+1)(by have q:=z1.o;omega)(by omega)).trans Y1.o)
 have BB:=zaa(B1.o.trans(O1.o.below(B:=w.heap.size)(Nat.le_refl _)B1.o.size))
 have zX:Hid(w.heap.size+2≤U1.heap.size):=Nat.le_trans z1.o O1.o.size
 have DU:=zaa(D1.o.soft S1.o H1.o H2.o)
 unfold putR at hU1
 go_upto_region 2 with fail
 rw[← hU1]
 clear hU1 x0 x1 x2 x3 x4 x5 x6 x7 x8 x9 g0 g1 g2 g3 g4 g5 g6 g7 g8 g9 X1 Y1 B1 z1 O1 S1 D1
 have HOH:Hid((U1.alloc(.cells #[] 3)).ownsRow U1.heap.size 3 1(.slice(some⟨U1.heap.size,0,none⟩) 0 0) 0 []):=by
  unfold Hid;simpa using World.ownsRow_lit(base:=U1.heap.size)(e:=3)(size:=1)U1 #[] 0(by simp)(by simp)rfl
 have XAH:=zaa(zaj(o:=.cells #[] 3)XB.o)
 obtain⟨x0,x1,x2,x3,x4,x5,x6,x7,x8,x9,-⟩:=zam XAH.o
 have SRH:Hid(Rd(U1.alloc(.cells #[] 3)) 1(.slice aH hs.length cH)hs.length(zco hs)):=Rd.below RH.o(BB.o.alloc BB.o.size _)
 go_wp2_with(at_builtin;refine zae _ rfl(.tmp 7)(.tmp 9) 23 rfl U1.heap.size 3(.int .i64 0) 1 8 Tryz.underlying23 zil rfl(by decide)_ 0 []rfl HOH.o _(hs.length)(zco hs)rfl SRH.o(zef hs)(by first | omega | (simp[maxLen];omega))(by first | omega | (simp;omega))(by simp) ?_)
 intro vH uH hownH hgrH
 have hownH:uH.ownsRow U1.heap.size 3 1 vH(hs.length)(zco hs):=by simpa using hownH
 have RH:=zaa(zad hownH).rd
 obtain⟨-,iH,jH,hvH,-⟩:=(zad hownH).rd
 subst hvH
 have BGH:Hid(Below U1.heap.size U1 uH):=((Below.refl _ _).alloc(Nat.le_refl _)_).grown hgrH(by simp)(fun k hk=>by simp[Value.ownBlock]at hk;omega)
 clear hownH hgrH x0 x1 x2 x3 x4 x5 x6 x7 x8 x9 XAH HOH SRH
 have XUH:=zaa((BGH.o.block w.heap.size(by have q:=zX.o;omega)).trans XB.o)
 have YUH:=zaa((BGH.o.block(w.heap.size+1)(by have q:=zX.o;omega)).trans YB.o)
 have BUH:=zaa(zab BB.o BGH.o BB.o.size)
 have zUH:Hid(w.heap.size+2≤uH.heap.size):=Nat.le_trans zX.o BGH.o.size
 obtain⟨x0,x1,x2,x3,x4,x5,x6,x7,x8,x9,g0,g1,g2,g3,g4,g5,g6,g7,g8,g9⟩:=zam XUH.o
 obtain⟨U2,hU2⟩:∃ U2,U2=uH.setCell⟨w.heap.size,4,none⟩(.slice iH(hs.length)jH):=⟨_,rfl⟩
 have OH:Hid(Outside w.heap.size(w.heap.size+1)uH U2):=by rw[hU2];exact zaa(Outside.setCell(Outside.refl _ _ _)(a:=⟨w.heap.size,4,none⟩)(Nat.le_refl _)(Nat.lt_succ_self _)_)
 have SH:=zaa(Soft.outside OH.o XUH.o rfl)
 have STH:=zaa((Soft.of_below BGH.o).trans SH.o)
 have XNH:Hid(U2.heap[w.heap.size]?=some(.cells #[.slice iW ws.length jW,.slice iP 0 jP,.slice iS es.length jS,.slice iQ 0 jQ,.slice iH hs.length jH,.slice aT td.length cT,.int .i64 cd,.int .i64 vl,.slice aN nm.length cN,.bool fr] 37(0,0))):=by rw[hU2];exact zwk XUH.o _
 have YNH:=zaa((OH.o.block(w.heap.size+1)(by have q:=zUH.o;omega)(by omega)).trans YUH.o)
 have BNH:=zaa(BUH.o.trans(OH.o.below(B:=w.heap.size)(Nat.le_refl _)BUH.o.size))
 have zNH:Hid(w.heap.size+2≤U2.heap.size):=Nat.le_trans zUH.o OH.o.size
 have QH:Hid(RdI U2(.slice iH(hs.length)jH)hs):=RdI.soft RH.o SH.o H3.o
 go_upto_region 3 with fail
 rw[← hU2]
 clear hU2 x0 x1 x2 x3 x4 x5 x6 x7 x8 x9 g0 g1 g2 g3 g4 g5 g6 g7 g8 g9 XB YB BB zX XUH YUH BUH zUH OH SH BGH RH
 have XB:=XNH
 have YB:=YNH
 have BB:=BNH
 have zX:=zNH
 clear XNH YNH BNH zNH
 have HOT:Hid((U2.alloc(.cells #[] 85)).ownsRow U2.heap.size 85 3(.slice(some⟨U2.heap.size,0,none⟩) 0 0) 0 []):=by
  unfold Hid;simpa using World.ownsRow_lit(base:=U2.heap.size)(e:=85)(size:=3)U2 #[] 0(by simp)(by simp)rfl
 have XAT:=zaa(zaj(o:=.cells #[] 85)XB.o)
 obtain⟨x0,x1,x2,x3,x4,x5,x6,x7,x8,x9,-⟩:=zam XAT.o
 have SRT:Hid(Rd(U2.alloc(.cells #[] 85)) 3(.slice aT td.length cT)td.length(mis td)):=Rd.below RT.o(BB.o.alloc BB.o.size _)
 go_wp2_with(at_builtin;refine zae _ rfl(.tmp 12)(.tmp 14) 32 rfl U2.heap.size 85(.agg #[.int .i64 0,.int .i64 0,.int .i64 0]) 3 24 Tryz.underlying32 zbj rfl(by decide)_ 0 []rfl HOT.o _(td.length)(mis td)rfl SRT.o(zch td)(by first | omega | (simp[maxLen];omega))(by first | omega | (simp;omega))(by simp) ?_)
 intro vT uT hownT hgrT
 have hownT:uT.ownsRow U2.heap.size 85 3 vT(td.length)(mis td):=by simpa using hownT
 have RT:=zaa(zad hownT).rd
 obtain⟨-,iT,jT,hvT,-⟩:=(zad hownT).rd
 subst hvT
 have BGT:Hid(Below U2.heap.size U2 uT):=((Below.refl _ _).alloc(Nat.le_refl _)_).grown hgrT(by simp)(fun k hk=>by simp[Value.ownBlock]at hk;omega)
 clear hownT hgrT x0 x1 x2 x3 x4 x5 x6 x7 x8 x9 XAT HOT SRT
 have XUT:=zaa((BGT.o.block w.heap.size(by have q:=zX.o;omega)).trans XB.o)
 have YUT:=zaa((BGT.o.block(w.heap.size+1)(by have q:=zX.o;omega)).trans YB.o)
 have BUT:=zaa(zab BB.o BGT.o BB.o.size)
 have zUT:Hid(w.heap.size+2≤uT.heap.size):=Nat.le_trans zX.o BGT.o.size
 obtain⟨x0,x1,x2,x3,x4,x5,x6,x7,x8,x9,g0,g1,g2,g3,g4,g5,g6,g7,g8,g9⟩:=zam XUT.o
 obtain⟨U3,hU3⟩:∃ U3,U3=uT.setCell⟨w.heap.size,5,none⟩(.slice iT(td.length)jT):=⟨_,rfl⟩
 have OT:Hid(Outside w.heap.size(w.heap.size+1)uT U3):=by rw[hU3];exact zaa(Outside.setCell(Outside.refl _ _ _)(a:=⟨w.heap.size,5,none⟩)(Nat.le_refl _)(Nat.lt_succ_self _)_)
 have ST:=zaa(Soft.outside OT.o XUT.o rfl)
 have STT:=zaa((Soft.of_below BGT.o).trans ST.o)
 have XNT:Hid(U3.heap[w.heap.size]?=some(.cells #[.slice iW ws.length jW,.slice iP 0 jP,.slice iS es.length jS,.slice iQ 0 jQ,.slice iH hs.length jH,.slice iT td.length jT,.int .i64 cd,.int .i64 vl,.slice aN nm.length cN,.bool fr] 37(0,0))):=by rw[hU3];exact zhs XUT.o _
 have YNT:=zaa((OT.o.block(w.heap.size+1)(by have q:=zUT.o;omega)(by omega)).trans YUT.o)
 have BNT:=zaa(BUT.o.trans(OT.o.below(B:=w.heap.size)(Nat.le_refl _)BUT.o.size))
 have zNT:Hid(w.heap.size+2≤U3.heap.size):=Nat.le_trans zUT.o OT.o.size
 have QT:Hid(RdM U3(.slice iT(td.length)jT)td):=RdM.soft RT.o ST.o
 go_upto_region 4 with fail
 rw[← hU3]
 clear hU3 x0 x1 x2 x3 x4 x5 x6 x7 x8 x9 g0 g1 g2 g3 g4 g5 g6 g7 g8 g9 XB YB BB zX XUT YUT BUT zUT OT ST BGT RT
 have XB:=XNT
 have YB:=YNT
 have BB:=BNT
 have zX:=zNT
 clear XNT YNT BNT zNT
 have HON:Hid((U3.alloc(.cells #[] 9)).ownsRow U3.heap.size 9 1(.slice(some⟨U3.heap.size,0,none⟩) 0 0) 0 []):=by
  unfold Hid;simpa using World.ownsRow_lit(base:=U3.heap.size)(e:=9)(size:=1)U3 #[] 0(by simp)(by simp)rfl
 have XAN:=zaa(zaj(o:=.cells #[] 9)XB.o)
 obtain⟨x0,x1,x2,x3,x4,x5,x6,x7,x8,x9,-⟩:=zam XAN.o
 have SRN:Hid(Rd(U3.alloc(.cells #[] 9)) 1(.slice aN nm.length cN)nm.length(zfn nm)):=Rd.below RN.o(BB.o.alloc BB.o.size _)
 go_wp2_with(at_builtin;refine zae _ rfl(.tmp 17)(.tmp 20) 33 rfl U3.heap.size 9(.string⟨#[]⟩) 1 16 Tryz.underlying33 zgg rfl(by decide)_ 0 []rfl HON.o _(nm.length)(zfn nm)rfl SRN.o(zbl nm)(by first | omega | (simp[maxLen];omega))(by first | omega | (simp;omega))(by simp) ?_)
 intro vN uN hownN hgrN
 have hownN:uN.ownsRow U3.heap.size 9 1 vN(nm.length)(zfn nm):=by simpa using hownN
 have RN:=zaa(zad hownN).rd
 obtain⟨-,iN,jN,hvN,-⟩:=(zad hownN).rd
 subst hvN
 have BGN:Hid(Below U3.heap.size U3 uN):=((Below.refl _ _).alloc(Nat.le_refl _)_).grown hgrN(by simp)(fun k hk=>by simp[Value.ownBlock]at hk;omega)
 clear hownN hgrN x0 x1 x2 x3 x4 x5 x6 x7 x8 x9 XAN HON SRN
 have XUN:=zaa((BGN.o.block w.heap.size(by have q:=zX.o;omega)).trans XB.o)
 have YUN:=zaa((BGN.o.block(w.heap.size+1)(by have q:=zX.o;omega)).trans YB.o)
 have BUN:=zaa(zab BB.o BGN.o BB.o.size)
 have zUN:Hid(w.heap.size+2≤uN.heap.size):=Nat.le_trans zX.o BGN.o.size
 obtain⟨x0,x1,x2,x3,x4,x5,x6,x7,x8,x9,g0,g1,g2,g3,g4,g5,g6,g7,g8,g9⟩:=zam XUN.o
 obtain⟨U4,hU4⟩:∃ U4,U4=uN.setCell⟨w.heap.size,8,none⟩(.slice iN(nm.length)jN):=⟨_,rfl⟩
 have ON:Hid(Outside w.heap.size(w.heap.size+1)uN U4):=by rw[hU4];exact zaa(Outside.setCell(Outside.refl _ _ _)(a:=⟨w.heap.size,8,none⟩)(Nat.le_refl _)(Nat.lt_succ_self _)_)
 have SN:=zaa(Soft.outside ON.o XUN.o rfl)
 have STN:=zaa((Soft.of_below BGN.o).trans SN.o)
 have XNN:Hid(U4.heap[w.heap.size]?=some(.cells #[.slice iW ws.length jW,.slice iP 0 jP,.slice iS es.length jS,.slice iQ 0 jQ,.slice iH hs.length jH,.slice iT td.length jT,.int .i64 cd,.int .i64 vl,.slice iN nm.length jN,.bool fr] 37(0,0))):=by rw[hU4];exact zmj XUN.o _
 have YNN:=zaa((ON.o.block(w.heap.size+1)(by have q:=zUN.o;omega)(by omega)).trans YUN.o)
 have BNN:=zaa(BUN.o.trans(ON.o.below(B:=w.heap.size)(Nat.le_refl _)BUN.o.size))
 have zNN:Hid(w.heap.size+2≤U4.heap.size):=Nat.le_trans zUN.o ON.o.size
 have QN:Hid(RdT U4(.slice iN(nm.length)jN)nm):=RdT.soft RN.o SN.o
 go_upto_region 5 with fail
 rw[← hU4]
 clear hU4 x0 x1 x2 x3 x4 x5 x6 x7 x8 x9 g0 g1 g2 g3 g4 g5 g6 g7 g8 g9 XB YB BB zX XUN YUN BUN zUN ON SN BGN RN
 have XB:=XNN
 have YB:=YNN
 have BB:=BNN
 have zX:=zNN
 clear XNN YNN BNN zNN
 obtain⟨x0,x1,x2,x3,x4,x5,x6,x7,x8,x9,-⟩:=zam XB.o
 have YB':U4.heap[w.heap.size+1]?=some(.cells #[.slice none 0 0,.slice none 0 0,.slice none 0 0,.slice none 0 0,.slice none 0 0,.slice none 0 0,.int .i64 0,.int .i64 0,.slice none 0 0,.bool false] 37(0,0)):=YB.o
 obtain⟨y0,y1,y2,y3,y4,y5,y6,y7,y8,y9,g0,g1,g2,g3,g4,g5,g6,g7,g8,g9⟩:=zam YB'
 clear YB'
 have OF:=zaa(zca U4(w.heap.size+1)(.slice iW ws.length jW)(.slice iP 0 jP)(.slice iS es.length jS)(.slice iQ 0 jQ)(.slice iH hs.length jH)(.slice iT td.length jT)(.int .i64 cd)(.int .i64 vl)(.slice iN nm.length jN)(.bool fr))
 have SF:=zaa(Soft.outside OF.o YB.o rfl)
 have BF:=zaa(BB.o.trans(OF.o.below(B:=w.heap.size)(by omega)BB.o.size))
 have FF:Hid(RdFs _(.agg #[.slice iW ws.length jW,.slice iP 0 jP,.slice iS es.length jS,.slice iQ 0 jQ,.slice iH hs.length jH,.slice iT td.length jT,.int .i64 cd,.int .i64 vl,.slice iN nm.length jN,.bool fr])ws es hs td cd vl nm fr) :=
  ⟨iW,jW,iP,jP,iS,jS,iQ,jQ,iH,jH,iT,jT,iN,jN,rfl,DU.o.soft(((STH.o.trans STT.o).trans STN.o).trans SF.o)H1.o H2.o,RdI.soft QH.o((STT.o.trans STN.o).trans SF.o)H3.o,RdM.soft QT.o(STN.o.trans SF.o),RdT.soft QN.o SF.o⟩
 clear OF SF DU QH QT QN STH STT STN
 go_wp2
 refine bodyPost_ret(v:=.agg #[.slice iW ws.length jW,.slice iP 0 jP,.slice iS es.length jS,.slice iQ 0 jQ,.slice iH hs.length jH,.slice iT td.length jT,.int .i64 cd,.int .i64 vl,.slice iN nm.length jN,.bool fr])(by simp[results,Tryz.results43,go_sem,y0,y1,y2,y3,y4,y5,y6,y7,y8,y9])rfl ?_
 exact⟨_,rfl,FF.o,BF.o⟩
end Go.Proofs.YtpgoeagccmcifaaGreatDoor
