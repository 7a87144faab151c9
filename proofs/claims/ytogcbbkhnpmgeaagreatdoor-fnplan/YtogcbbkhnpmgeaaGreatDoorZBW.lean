import Derived.Test.YtogcbbkhnpmgeaaGreatDoorZBU
import Derived.Test.YtogcbbkhnpmgeaaGreatDoorZBV
set_option maxRecDepth 100000
set_option maxHeartbeats 32000000
namespace Go.Proofs.YtogcbbkhnpmgeaaGreatDoor
open Go.RowKit
def MvOK(ws es:List Int)(td:List Mi):Prop:=(∃ ws' es' ns' ds',mr td ws [] es []=⟨0,ws',[],es',[]⟩/\Idle ws' es' ns' ds')/\(∀ m∈td,miB m=true)/\td.length<=200
theorem yacn(v:Value)(pr:Bool)(ws es hs:List Int)(ns:List Ino)(ds:List Den)(w:World)(h:RdFs w v ws es hs [] 0 0 [] false)(hi:Idle ws es ns ds)(hh:zla hs=true) :
  zC 52 #[v,.bool pr] w fun e w'=>∃ v' c td,e=.returned (.tuple #[v',.I c])/\RdFs w' v' ws es hs td 0 0 [] false/\MvOK ws es td/\zB w w':=by
 have H1:Hid (3<=ws.length):=(zcm hi).1;have H2:Hid (3<=es.length):=(zcm hi).2
 have H3:Hid (3<=hs.length):=by have:=(zcb hh).1;unfold Hid;omega
 have NONE:Hid (MvOK ws es []):=⟨zyj hi,(fun m hm=>nomatch hm),Nat.zero_le _⟩
 obtain⟨aW,cW,aP,cP,aS,cS,aQ,cQ,aH,cH,aT,cT,aN,cN,rfl,a,b,c,d⟩:=h;have RD:=zaa a;have RH:=zaa b;have RT:=zaa c;have RN:=zaa d
 have LR:Hid (∀ w1,zB w w1->zC 104 #[.agg #[.slice aW ws.length cW,.slice aP 0 cP]] w1 fun e w'=>(∃ v',e=.returned (.tuple #[v',.bool true])/\RowIm w' w1.heap.size w'.heap.size v' ns ds)/\zB w1 w'):=fun w1 hb=>by
  obtain⟨_,_,_,_,e1,q,_⟩:=a.below hb;simp only[Value.agg.injEq,Array.mk.injEq,List.cons.injEq,and_true]at e1;obtain⟨rfl,rfl,-,-⟩:=e1;refine(zlb _ ws [] w1 q hi.pm).mono ?_;rintro e w' ⟨⟨v',rfl,h1,_⟩,hb'⟩;have gd:zcl (zce ws []) 24=true:=hi.wi.good;refine⟨⟨v',by rw[gd],?_⟩,hb'⟩;have:=h1 gd;rw[show zbj (zce ws []) 16=ns from hi.wi.inos,show zbl (zce ws []) 24=ds from hi.wi.dens]at this;exact this
 have LK0:=zaa (fun t v2 w1 (hb:zB w w1) (h2:RdIm w1 v2 ns ds)=>yact v2 (.slice aH hs.length cH) ns ds hs t pr w1 h2 hi.img (Rd.below b hb) hh);have LD:=zaa (fun(i p:Nat) (h16:i<16) (h8:p<8) v2 w1 (hb:zB w w1) (h2:RdIm w1 v2 ns ds)=>zvj _ v2 ws [] es [] ns ds i p w1 (a.below hb) hi.pm hi.bk h2 hi.img h16 h8);have LP:=zaa (fun(i p:Nat) (h16:i<16) (h8:p<8) v2 w1 (hb:zB w w1) (h2:RdIm w1 v2 ns ds)=>ztc _ v2 ws [] es [] ns ds i p w1 (a.below hb) hi.pm hi.bk h2 hi.img h16 h8)
 have EN:∀ i p:Nat,enI ns (i:Int) (p:Int)=(zan ns i).map.getD p 0:=fun i p=>by unfold enI;rw[Int.toNat_natCast,Int.toNat_natCast]
 have MD:Hid (∀ i p:Nat,i<16->p<8->(deF ns (enI ns (i:Int) (p:Int)) (pgV ws [] es [] (enI ns (i:Int) (p:Int))) (i:Int) (p:Int)).2=0->MvOK ws es (deF ns (enI ns (i:Int) (p:Int)) (pgV ws [] es [] (enI ns (i:Int) (p:Int))) (i:Int) (p:Int)).1):=fun i p h16 h8=>by rw[EN];exact fun c=>yabp hi h16 h8 _ c
 have MP:Hid (∀ i p:Nat,i<16->p<8->(prF ns (enI ns (i:Int) (p:Int)) (pgV ws [] es [] (enI ns (i:Int) (p:Int))) (i:Int) (p:Int)).2=0->MvOK ws es (prF ns (enI ns (i:Int) (p:Int)) (pgV ws [] es [] (enI ns (i:Int) (p:Int))) (i:Int) (p:Int)).1):=fun i p h16 h8=>by rw[EN];exact fun c=>zyf hi h16 h8 _ c
 have PK:=zaa (fun t=>zyn ns hs t pr 128);clear a b c d hi hh EN;simp only[List.length_nil]at RT RN ⊢
 obtain⟨V,hV⟩:=zE ((w.alloc (.cells #[.slice aW ws.length cW,.slice aP 0 cP,.slice aS es.length cS,.slice aQ 0 cQ,.slice aH hs.length cH,.slice aT 0 cT,.I 0,.I 0,.slice aN 0 cN,.bool false] 37)).alloc (.cells zez.toArray 37))
 have HZ:Hid (V.heap.size=w.heap.size+1+1):=by rw[hV];simp[Hid]
 have BV:Hid (zB w V):=by rw[hV];exact(zR.alloc zL _).alloc (by simp) _
 have XV:Hid (V.heap[w.heap.size]?=some (.cells #[.slice aW ws.length cW,.slice aP 0 cP,.slice aS es.length cS,.slice aQ 0 cQ,.slice aH hs.length cH,.slice aT 0 cT,.I 0,.I 0,.slice aN 0 cN,.bool false] 37 (0,0))):=by rw[hV];exact zal (zaf rfl)
 have YV:Hid (V.heap[w.heap.size+1]?=some (.cells zez.toArray 37 (0,0))):=by rw[hV];exact zaf (by simp)
 unfold zez at hV;go_enter Tryz.func52,Tryz.ntmps52;go_upto_region 1 with fail;rw[<- hV];clear hV;obtain⟨x0,x1,x2,x3,x4,x5,x6,x7,x8,x9,-⟩:=zak XV.o;go_wp2_with fail;refine(LR.o _ BV.o).mono ?_;rintro e w1 ⟨⟨v1,rfl,hr1⟩,hb1⟩;have HR1:=zaa hr1;obtain⟨vI,vD,rfl,hI,hD⟩:=hr1;obtain⟨-,a1,k1,hv1,-⟩:=hI.rd;obtain⟨-,a2,k2,hv2,-⟩:=hD.rd;subst hv1;subst hv2;have z1:Hid (V.heap.size<=w1.heap.size):=hb1.size
 obtain⟨V1,hV1⟩:=zE (w1.alloc (.cells #[.slice a1 ns.length k1,.slice a2 ds.length k2] 51))
 have BC:Hid (zB w1 V1):=by rw[hV1];exact zR.alloc zL _
 have BV1:=zaa (zab hb1 BC.o hb1.size)
 have I1:Hid (V1.heap[w1.heap.size]?=some (.cells #[.slice a1 ns.length k1,.slice a2 ds.length k2] 51 (0,0))):=by rw[hV1];exact zaf rfl
 have RI1:=zaa (HR1.o.below BC.o zL).rd;have X1:=zaa ((BV1.o.block _ (by have q:=HZ.o;omega)).trans XV.o);have Y1:=zaa ((BV1.o.block _ (by have q:=HZ.o;omega)).trans YV.o);have B1:=zaa (zab BV.o BV1.o BV.o.size);have l1:Hid (w1.heap.size<V1.heap.size):=(Array.getElem?_eq_some_iff.1 I1.o).1;clear x0 x1 x2 x3 x4 x5 x6 x7 x8 x9 hI hD HR1 LR hb1 XV YV BV1 BC;go_upto_region 4 with fail;rw[<- hV1];clear hV1;obtain⟨x0,x1,x2,x3,x4,x5,x6,x7,x8,x9,-⟩:=zak X1.o;obtain⟨i0,i1,-,-⟩:=zac I1.o
 cases pr with
 | false =>
  have LK:=zaa (LK0.o 1);obtain⟨pr0,pr1⟩:=PK.o 1;clear LK0 PK MP;generalize pkN ns hs 1 false 128=pk at *;go_wp2_with fail;refine(LK.o _ _ B1.o RI1.o).mono ?_;rintro e w2 ⟨rfl,hb2⟩;have z2:Hid (V1.heap.size<=w2.heap.size):=hb2.size;have X2:=zaa ((hb2.block _ (by have q:=HZ.o;have q1:=z1.o;have q2:=l1.o;omega)).trans X1.o);have I2:=zaa ((hb2.block _ l1.o).trans I1.o);have Y2:=zaa ((hb2.block _ (by have q:=HZ.o;have q1:=z1.o;have q2:=l1.o;omega)).trans Y1.o);have B2:=zaa (zab B1.o hb2 B1.o.size);have RI2:=zaa (RI1.o.below hb2);clear x0 x1 x2 x3 x4 x5 x6 x7 x8 x9 i0 i1 hb2 LK X1 I1 Y1 RI1
  by_cases ck:pk<0
  ·have XU:=X2;have YU:=Y2;have BU:=B2
   have zU:Hid (V.heap.size<=w2.heap.size):=by have q1:=z1.o;have q2:=l1.o;have q3:=z2.o;unfold Hid;omega
   have RDU:=zaa (RD.o.below B2.o);have RHU:Hid (RdI w2 (.slice aH hs.length cH) hs):=Rd.below RH.o B2.o;have RTU:Hid (RdM w2 (.slice aT 0 cT) []):=Rd.below RT.o B2.o;have RNU:Hid (RdT w2 (.slice aN 0 cN) []):=Rd.below RN.o B2.o;clear X2 Y2 I2 RI2 B2 LD LP RD RH RT RN;obtain⟨x0,x1,x2,x3,x4,x5,x6,x7,x8,x9,-⟩:=zak XU.o;have YU':w2.heap[w.heap.size+1]?=some (.cells #[.N,.N,.N,.N,.N,.N,.I 0,.I 0,.N,.bool false] 37 (0,0)):=YU.o;obtain⟨y0,y1,y2,y3,y4,y5,y6,y7,y8,y9,g0,g1,g2,g3,g4,g5,g6,g7,g8,g9⟩:=zak YU';clear YU';have O3:=zaa (zcf w2 (w.heap.size+1) (.slice aW ws.length cW) (.slice aP 0 cP) (.slice aS es.length cS) (.slice aQ 0 cQ) (.slice aH hs.length cH) (.slice aT 0 cT) (.I 0) (.I 0) (.slice aN 0 cN) (.bool false));have S3:=zaa (Soft.outside O3.o YU.o rfl);have B3:=zaa (BU.o.trans (O3.o.below (B:=w.heap.size) (by omega) (by have q1:=HZ.o;have q2:=zU.o;omega)))
   have F3:Hid (RdFs _ (.agg #[.slice aW ws.length cW,.slice aP 0 cP,.slice aS es.length cS,.slice aQ 0 cQ,.slice aH hs.length cH,.slice aT 0 cT,.I 0,.I 0,.slice aN 0 cN,.bool false]) ws es hs [] 0 0 [] false) :=
    ⟨aW,cW,aP,cP,aS,cS,aQ,cQ,aH,cH,_,_,aN,cN,rfl,RDU.o.soft S3.o H1.o H2.o,RdI.soft RHU.o S3.o H3.o,RdM.soft RTU.o S3.o,RdT.soft RNU.o S3.o⟩
   clear O3 S3 XU YU RDU RHU RTU RNU BU;go_wp2;refine bodyPost_ret (v:=.tuple #[.agg #[.slice aW ws.length cW,.slice aP 0 cP,.slice aS es.length cS,.slice aQ 0 cQ,.slice aH hs.length cH,.slice aT 0 cT,.I 0,.I 0,.slice aN 0 cN,.bool false],.I 5]) (by simp[results,Tryz.results52,go_sem,y0,y1,y2,y3,y4,y5,y6,y7,y8,y9]) rfl ?_;exact⟨_,_,_,rfl,F3.o,NONE.o,B3.o⟩
  obtain⟨kk,rfl⟩:∃ kk:Nat,pk=(kk:Int):=⟨pk.toNat,by omega⟩
  have kk128:kk<128:=by omega
  obtain⟨a8,b8,ha8,hb8,hab⟩:∃ a b:Nat,a<16/\b<8/\kk=8*a+b:=⟨kk/8,kk%8,by omega,by omega,by omega⟩
  have tq:Int.tdiv (kk:Int) 8=(a8:Int):=by rw[Int.tdiv_eq_ediv_of_nonneg (by omega)];omega
  have tr:Int.tmod (kk:Int) 8=(b8:Int):=by rw[Int.tmod_eq_emod_of_nonneg (by omega)];omega
  obtain⟨V3,hV3⟩:=zE (w2.alloc (.cells #[] 82))
  have BC3:Hid (zB w2 V3):=by rw[hV3];exact zR.alloc zL _
  have z3:Hid (w2.heap.size<=V3.heap.size):=BC3.o.size;have X3:=zaa ((BC3.o.block _ (by have q:=HZ.o;have q1:=z1.o;have q2:=l1.o;have q3:=z2.o;omega)).trans X2.o);have Y3:=zaa ((BC3.o.block _ (by have q:=HZ.o;have q1:=z1.o;have q2:=l1.o;have q3:=z2.o;omega)).trans Y2.o);have I3:=zaa ((BC3.o.block _ (by have q:=l1.o;have q1:=z2.o;omega)).trans I2.o);have B3a:=zaa (zab B2.o BC3.o B2.o.size);have RI3:=zaa (RI2.o.below BC3.o);have L3:=zaa (LD.o a8 b8 ha8 hb8 _ _ B3a.o RI3.o);have MV:=zaa (MD.o a8 b8 ha8 hb8);clear X2 Y2 I2 RI2 B2 BC3 LD LP ck hab kk128;go_upto_region 11 with fail;rw[<- hV3];clear hV3;obtain⟨x0,x1,x2,x3,x4,x5,x6,x7,x8,x9,-⟩:=zak X3.o;obtain⟨i0,i1,-,-⟩:=zac I3.o;generalize deF ns (enI ns (a8:Int) (b8:Int)) (pgV ws [] es [] (enI ns (a8:Int) (b8:Int))) (a8:Int) (b8:Int)=M at *;obtain⟨ml,mc⟩:=M;simp only at MV L3;go_wp2_with fail;refine L3.o.mono ?_;rintro e w4 ⟨v4,rfl,hr4,hb4⟩;have R4:=zaa hr4.rd;obtain⟨-,iM,jM,hv4,-⟩:=hr4.rd;subst hv4;have z4:Hid (V3.heap.size<=w4.heap.size):=hb4.size;have X4:=zaa ((hb4.block _ (by have q:=HZ.o;have q1:=z1.o;have q2:=l1.o;have q3:=z2.o;have q4:=z3.o;omega)).trans X3.o);have Y4:=zaa ((hb4.block _ (by have q:=HZ.o;have q1:=z1.o;have q2:=l1.o;have q3:=z2.o;have q4:=z3.o;omega)).trans Y3.o);have B4:=zaa (zab B3a.o hb4 B3a.o.size)
  have zV4:Hid (V.heap.size<=w4.heap.size):=by have q1:=z1.o;have q2:=l1.o;have q3:=z2.o;have q4:=z3.o;have q5:=z4.o;unfold Hid;omega
  have RD4:=zaa (RD.o.below B4.o);have RH4:Hid (RdI w4 (.slice aH hs.length cH) hs):=Rd.below RH.o B4.o;have RT4:Hid (RdM w4 (.slice aT 0 cT) []):=Rd.below RT.o B4.o;have RN4:Hid (RdT w4 (.slice aN 0 cN) []):=Rd.below RN.o B4.o;clear x0 x1 x2 x3 x4 x5 x6 x7 x8 x9 i0 i1 hr4 hb4 L3 X3 Y3 I3 B3a RI3 RD RH RT RN
  by_cases cm:mc=0
  case neg =>
   have qm:(mc != 0)=true:=by rw[bne_iff_ne];exact cm
   have XU:=X4;have YU:=Y4;have BU:=B4;have zU:=zV4;have RDU:=RD4;have RHU:=RH4;have RTU:=RT4;have RNU:=RN4;clear X4 Y4 B4 RD4 RH4 RT4 RN4 cm;obtain⟨x0,x1,x2,x3,x4,x5,x6,x7,x8,x9,-⟩:=zak XU.o;have YU':w4.heap[w.heap.size+1]?=some (.cells #[.N,.N,.N,.N,.N,.N,.I 0,.I 0,.N,.bool false] 37 (0,0)):=YU.o;obtain⟨y0,y1,y2,y3,y4,y5,y6,y7,y8,y9,g0,g1,g2,g3,g4,g5,g6,g7,g8,g9⟩:=zak YU';clear YU';have O3:=zaa (zcf w4 (w.heap.size+1) (.slice aW ws.length cW) (.slice aP 0 cP) (.slice aS es.length cS) (.slice aQ 0 cQ) (.slice aH hs.length cH) (.slice aT 0 cT) (.I 0) (.I 0) (.slice aN 0 cN) (.bool false));have S3:=zaa (Soft.outside O3.o YU.o rfl);have B3:=zaa (BU.o.trans (O3.o.below (B:=w.heap.size) (by omega) (by have q1:=HZ.o;have q2:=zU.o;omega)))
   have F3:Hid (RdFs _ (.agg #[.slice aW ws.length cW,.slice aP 0 cP,.slice aS es.length cS,.slice aQ 0 cQ,.slice aH hs.length cH,.slice aT 0 cT,.I 0,.I 0,.slice aN 0 cN,.bool false]) ws es hs [] 0 0 [] false) :=
    ⟨aW,cW,aP,cP,aS,cS,aQ,cQ,aH,cH,_,_,aN,cN,rfl,RDU.o.soft S3.o H1.o H2.o,RdI.soft RHU.o S3.o H3.o,RdM.soft RTU.o S3.o,RdT.soft RNU.o S3.o⟩
   clear O3 S3 XU YU RDU RHU RTU RNU BU;go_wp2;refine bodyPost_ret (v:=.tuple #[.agg #[.slice aW ws.length cW,.slice aP 0 cP,.slice aS es.length cS,.slice aQ 0 cQ,.slice aH hs.length cH,.slice aT 0 cT,.I 0,.I 0,.slice aN 0 cN,.bool false],.I mc]) (by simp[results,Tryz.results52,go_sem,y0,y1,y2,y3,y4,y5,y6,y7,y8,y9]) rfl ?_;exact⟨_,_,_,rfl,F3.o,NONE.o,B3.o⟩
  subst cm;obtain⟨MR0,MM,ML⟩:=MV.o rfl;have HMR:=zaa MR0;have HMM:=zaa MM;have HML:=zaa ML;clear MR0 MM ML MV;obtain⟨x0,x1,x2,x3,x4,x5,x6,x7,x8,x9,g0,g1,g2,g3,g4,g5,g6,g7,g8,g9⟩:=zak X4.o
  obtain⟨U,hU⟩:=zE (w4.setCell ⟨w.heap.size,5,none⟩ (.slice iM ml.length jM))
  have XU:Hid (U.heap[w.heap.size]?=some (.cells #[.slice aW ws.length cW,.slice aP 0 cP,.slice aS es.length cS,.slice aQ 0 cQ,.slice aH hs.length cH,.slice iM ml.length jM,.I 0,.I 0,.slice aN 0 cN,.bool false] 37 (0,0))):=by rw[hU];exact zic X4.o _
  have OW:Hid (Outside w.heap.size (w.heap.size+1) w4 U):=by rw[hU];exact zaa (Outside.setCell (Outside.refl _ _ _) (a:=⟨w.heap.size,5,none⟩) zL (Nat.lt_succ_self _) _)
  have SW:=zaa (Soft.outside OW.o X4.o rfl);have YU:=zaa ((OW.o.block (w.heap.size+1) (by have q:=HZ.o;have q1:=zV4.o;omega) (by omega)).trans Y4.o);have BU:=zaa (B4.o.trans (OW.o.below (B:=w.heap.size) zL (by have q:=HZ.o;have q1:=zV4.o;omega)))
  have zU:Hid (V.heap.size<=U.heap.size):=by have q1:=zV4.o;have q2:=OW.o.size;unfold Hid;omega
  have RDU:=zaa (RD4.o.soft SW.o H1.o H2.o);have RHU:=zaa (RdI.soft RH4.o SW.o H3.o);have RTU:Hid (RdM U (.slice iM ml.length jM) ml):=RdM.soft R4.o SW.o;have RNU:=zaa (RdT.soft RN4.o SW.o);go_upto_region 18 with fail;rw[<- hU];clear hU x0 x1 x2 x3 x4 x5 x6 x7 x8 x9 g0 g1 g2 g3 g4 g5 g6 g7 g8 g9 X4 Y4 OW SW RD4 RH4 RT4 RN4 R4 B4;obtain⟨x0,x1,x2,x3,x4,x5,x6,x7,x8,x9,-⟩:=zak XU.o;have YU':U.heap[w.heap.size+1]?=some (.cells #[.N,.N,.N,.N,.N,.N,.I 0,.I 0,.N,.bool false] 37 (0,0)):=YU.o;obtain⟨y0,y1,y2,y3,y4,y5,y6,y7,y8,y9,g0,g1,g2,g3,g4,g5,g6,g7,g8,g9⟩:=zak YU';clear YU';have O3:=zaa (zcf U (w.heap.size+1) (.slice aW ws.length cW) (.slice aP 0 cP) (.slice aS es.length cS) (.slice aQ 0 cQ) (.slice aH hs.length cH) (.slice iM ml.length jM) (.I 0) (.I 0) (.slice aN 0 cN) (.bool false));have S3:=zaa (Soft.outside O3.o YU.o rfl);have B3:=zaa (BU.o.trans (O3.o.below (B:=w.heap.size) (by omega) (by have q1:=HZ.o;have q2:=zU.o;omega)))
  have F3:Hid (RdFs _ (.agg #[.slice aW ws.length cW,.slice aP 0 cP,.slice aS es.length cS,.slice aQ 0 cQ,.slice aH hs.length cH,.slice iM ml.length jM,.I 0,.I 0,.slice aN 0 cN,.bool false]) ws es hs ml 0 0 [] false) :=
   ⟨aW,cW,aP,cP,aS,cS,aQ,cQ,aH,cH,_,_,aN,cN,rfl,RDU.o.soft S3.o H1.o H2.o,RdI.soft RHU.o S3.o H3.o,RdM.soft RTU.o S3.o,RdT.soft RNU.o S3.o⟩
  clear O3 S3 XU YU RDU RHU RTU RNU BU;go_wp2;refine bodyPost_ret (v:=.tuple #[.agg #[.slice aW ws.length cW,.slice aP 0 cP,.slice aS es.length cS,.slice aQ 0 cQ,.slice aH hs.length cH,.slice iM ml.length jM,.I 0,.I 0,.slice aN 0 cN,.bool false],.I 0]) (by simp[results,Tryz.results52,go_sem,y0,y1,y2,y3,y4,y5,y6,y7,y8,y9]) rfl ?_;exact⟨_,_,_,rfl,F3.o,⟨HMR.o,HMM.o,HML.o⟩,B3.o⟩
 | true =>
  have LK:=zaa (LK0.o 2);obtain⟨pr0,pr1⟩:=PK.o 2;clear LK0 PK MD;generalize pkN ns hs 2 true 128=pk at *;go_wp2_with fail;refine(LK.o _ _ B1.o RI1.o).mono ?_;rintro e w2 ⟨rfl,hb2⟩;have z2:Hid (V1.heap.size<=w2.heap.size):=hb2.size;have X2:=zaa ((hb2.block _ (by have q:=HZ.o;have q1:=z1.o;have q2:=l1.o;omega)).trans X1.o);have I2:=zaa ((hb2.block _ l1.o).trans I1.o);have Y2:=zaa ((hb2.block _ (by have q:=HZ.o;have q1:=z1.o;have q2:=l1.o;omega)).trans Y1.o);have B2:=zaa (zab B1.o hb2 B1.o.size);have RI2:=zaa (RI1.o.below hb2);clear x0 x1 x2 x3 x4 x5 x6 x7 x8 x9 i0 i1 hb2 LK X1 I1 Y1 RI1
  by_cases ck:pk<0
  ·have XU:=X2;have YU:=Y2;have BU:=B2
   have zU:Hid (V.heap.size<=w2.heap.size):=by have q1:=z1.o;have q2:=l1.o;have q3:=z2.o;unfold Hid;omega
   have RDU:=zaa (RD.o.below B2.o);have RHU:Hid (RdI w2 (.slice aH hs.length cH) hs):=Rd.below RH.o B2.o;have RTU:Hid (RdM w2 (.slice aT 0 cT) []):=Rd.below RT.o B2.o;have RNU:Hid (RdT w2 (.slice aN 0 cN) []):=Rd.below RN.o B2.o;clear X2 Y2 I2 RI2 B2 LD LP RD RH RT RN;obtain⟨x0,x1,x2,x3,x4,x5,x6,x7,x8,x9,-⟩:=zak XU.o;have YU':w2.heap[w.heap.size+1]?=some (.cells #[.N,.N,.N,.N,.N,.N,.I 0,.I 0,.N,.bool false] 37 (0,0)):=YU.o;obtain⟨y0,y1,y2,y3,y4,y5,y6,y7,y8,y9,g0,g1,g2,g3,g4,g5,g6,g7,g8,g9⟩:=zak YU';clear YU';have O3:=zaa (zcf w2 (w.heap.size+1) (.slice aW ws.length cW) (.slice aP 0 cP) (.slice aS es.length cS) (.slice aQ 0 cQ) (.slice aH hs.length cH) (.slice aT 0 cT) (.I 0) (.I 0) (.slice aN 0 cN) (.bool false));have S3:=zaa (Soft.outside O3.o YU.o rfl);have B3:=zaa (BU.o.trans (O3.o.below (B:=w.heap.size) (by omega) (by have q1:=HZ.o;have q2:=zU.o;omega)))
   have F3:Hid (RdFs _ (.agg #[.slice aW ws.length cW,.slice aP 0 cP,.slice aS es.length cS,.slice aQ 0 cQ,.slice aH hs.length cH,.slice aT 0 cT,.I 0,.I 0,.slice aN 0 cN,.bool false]) ws es hs [] 0 0 [] false) :=
    ⟨aW,cW,aP,cP,aS,cS,aQ,cQ,aH,cH,_,_,aN,cN,rfl,RDU.o.soft S3.o H1.o H2.o,RdI.soft RHU.o S3.o H3.o,RdM.soft RTU.o S3.o,RdT.soft RNU.o S3.o⟩
   clear O3 S3 XU YU RDU RHU RTU RNU BU;go_wp2;refine bodyPost_ret (v:=.tuple #[.agg #[.slice aW ws.length cW,.slice aP 0 cP,.slice aS es.length cS,.slice aQ 0 cQ,.slice aH hs.length cH,.slice aT 0 cT,.I 0,.I 0,.slice aN 0 cN,.bool false],.I 5]) (by simp[results,Tryz.results52,go_sem,y0,y1,y2,y3,y4,y5,y6,y7,y8,y9]) rfl ?_;exact⟨_,_,_,rfl,F3.o,NONE.o,B3.o⟩
  obtain⟨kk,rfl⟩:∃ kk:Nat,pk=(kk:Int):=⟨pk.toNat,by omega⟩
  have kk128:kk<128:=by omega
  obtain⟨a8,b8,ha8,hb8,hab⟩:∃ a b:Nat,a<16/\b<8/\kk=8*a+b:=⟨kk/8,kk%8,by omega,by omega,by omega⟩
  have tq:Int.tdiv (kk:Int) 8=(a8:Int):=by rw[Int.tdiv_eq_ediv_of_nonneg (by omega)];omega
  have tr:Int.tmod (kk:Int) 8=(b8:Int):=by rw[Int.tmod_eq_emod_of_nonneg (by omega)];omega
  obtain⟨V3,hV3⟩:=zE (w2.alloc (.cells #[] 82))
  have BC3:Hid (zB w2 V3):=by rw[hV3];exact zR.alloc zL _
  have z3:Hid (w2.heap.size<=V3.heap.size):=BC3.o.size;have X3:=zaa ((BC3.o.block _ (by have q:=HZ.o;have q1:=z1.o;have q2:=l1.o;have q3:=z2.o;omega)).trans X2.o);have Y3:=zaa ((BC3.o.block _ (by have q:=HZ.o;have q1:=z1.o;have q2:=l1.o;have q3:=z2.o;omega)).trans Y2.o);have I3:=zaa ((BC3.o.block _ (by have q:=l1.o;have q1:=z2.o;omega)).trans I2.o);have B3a:=zaa (zab B2.o BC3.o B2.o.size);have RI3:=zaa (RI2.o.below BC3.o);have L3:=zaa (LP.o a8 b8 ha8 hb8 _ _ B3a.o RI3.o);have MV:=zaa (MP.o a8 b8 ha8 hb8);clear X2 Y2 I2 RI2 B2 BC3 LD LP ck hab kk128;go_upto_region 11 with fail;rw[<- hV3];clear hV3;obtain⟨x0,x1,x2,x3,x4,x5,x6,x7,x8,x9,-⟩:=zak X3.o;obtain⟨i0,i1,-,-⟩:=zac I3.o;generalize prF ns (enI ns (a8:Int) (b8:Int)) (pgV ws [] es [] (enI ns (a8:Int) (b8:Int))) (a8:Int) (b8:Int)=M at *;obtain⟨ml,mc⟩:=M;simp only at MV L3;go_wp2_with fail;refine L3.o.mono ?_;rintro e w4 ⟨v4,rfl,hr4,hb4⟩;have R4:=zaa hr4.rd;obtain⟨-,iM,jM,hv4,-⟩:=hr4.rd;subst hv4;have z4:Hid (V3.heap.size<=w4.heap.size):=hb4.size;have X4:=zaa ((hb4.block _ (by have q:=HZ.o;have q1:=z1.o;have q2:=l1.o;have q3:=z2.o;have q4:=z3.o;omega)).trans X3.o);have Y4:=zaa ((hb4.block _ (by have q:=HZ.o;have q1:=z1.o;have q2:=l1.o;have q3:=z2.o;have q4:=z3.o;omega)).trans Y3.o);have B4:=zaa (zab B3a.o hb4 B3a.o.size)
  have zV4:Hid (V.heap.size<=w4.heap.size):=by have q1:=z1.o;have q2:=l1.o;have q3:=z2.o;have q4:=z3.o;have q5:=z4.o;unfold Hid;omega
  have RD4:=zaa (RD.o.below B4.o);have RH4:Hid (RdI w4 (.slice aH hs.length cH) hs):=Rd.below RH.o B4.o;have RT4:Hid (RdM w4 (.slice aT 0 cT) []):=Rd.below RT.o B4.o;have RN4:Hid (RdT w4 (.slice aN 0 cN) []):=Rd.below RN.o B4.o;clear x0 x1 x2 x3 x4 x5 x6 x7 x8 x9 i0 i1 hr4 hb4 L3 X3 Y3 I3 B3a RI3 RD RH RT RN
  by_cases cm:mc=0
  case neg =>
   have qm:(mc != 0)=true:=by rw[bne_iff_ne];exact cm
   have XU:=X4;have YU:=Y4;have BU:=B4;have zU:=zV4;have RDU:=RD4;have RHU:=RH4;have RTU:=RT4;have RNU:=RN4;clear X4 Y4 B4 RD4 RH4 RT4 RN4 cm;obtain⟨x0,x1,x2,x3,x4,x5,x6,x7,x8,x9,-⟩:=zak XU.o;have YU':w4.heap[w.heap.size+1]?=some (.cells #[.N,.N,.N,.N,.N,.N,.I 0,.I 0,.N,.bool false] 37 (0,0)):=YU.o;obtain⟨y0,y1,y2,y3,y4,y5,y6,y7,y8,y9,g0,g1,g2,g3,g4,g5,g6,g7,g8,g9⟩:=zak YU';clear YU';have O3:=zaa (zcf w4 (w.heap.size+1) (.slice aW ws.length cW) (.slice aP 0 cP) (.slice aS es.length cS) (.slice aQ 0 cQ) (.slice aH hs.length cH) (.slice aT 0 cT) (.I 0) (.I 0) (.slice aN 0 cN) (.bool false));have S3:=zaa (Soft.outside O3.o YU.o rfl);have B3:=zaa (BU.o.trans (O3.o.below (B:=w.heap.size) (by omega) (by have q1:=HZ.o;have q2:=zU.o;omega)))
   have F3:Hid (RdFs _ (.agg #[.slice aW ws.length cW,.slice aP 0 cP,.slice aS es.length cS,.slice aQ 0 cQ,.slice aH hs.length cH,.slice aT 0 cT,.I 0,.I 0,.slice aN 0 cN,.bool false]) ws es hs [] 0 0 [] false) :=
    ⟨aW,cW,aP,cP,aS,cS,aQ,cQ,aH,cH,_,_,aN,cN,rfl,RDU.o.soft S3.o H1.o H2.o,RdI.soft RHU.o S3.o H3.o,RdM.soft RTU.o S3.o,RdT.soft RNU.o S3.o⟩
   clear O3 S3 XU YU RDU RHU RTU RNU BU;go_wp2;refine bodyPost_ret (v:=.tuple #[.agg #[.slice aW ws.length cW,.slice aP 0 cP,.slice aS es.length cS,.slice aQ 0 cQ,.slice aH hs.length cH,.slice aT 0 cT,.I 0,.I 0,.slice aN 0 cN,.bool false],.I mc]) (by simp[results,Tryz.results52,go_sem,y0,y1,y2,y3,y4,y5,y6,y7,y8,y9]) rfl ?_;exact⟨_,_,_,rfl,F3.o,NONE.o,B3.o⟩
  subst cm;obtain⟨MR0,MM,ML⟩:=MV.o rfl;have HMR:=zaa MR0;have HMM:=zaa MM;have HML:=zaa ML;clear MR0 MM ML MV;obtain⟨x0,x1,x2,x3,x4,x5,x6,x7,x8,x9,g0,g1,g2,g3,g4,g5,g6,g7,g8,g9⟩:=zak X4.o
  obtain⟨U,hU⟩:=zE (w4.setCell ⟨w.heap.size,5,none⟩ (.slice iM ml.length jM))
  have XU:Hid (U.heap[w.heap.size]?=some (.cells #[.slice aW ws.length cW,.slice aP 0 cP,.slice aS es.length cS,.slice aQ 0 cQ,.slice aH hs.length cH,.slice iM ml.length jM,.I 0,.I 0,.slice aN 0 cN,.bool false] 37 (0,0))):=by rw[hU];exact zic X4.o _
  have OW:Hid (Outside w.heap.size (w.heap.size+1) w4 U):=by rw[hU];exact zaa (Outside.setCell (Outside.refl _ _ _) (a:=⟨w.heap.size,5,none⟩) zL (Nat.lt_succ_self _) _)
  have SW:=zaa (Soft.outside OW.o X4.o rfl);have YU:=zaa ((OW.o.block (w.heap.size+1) (by have q:=HZ.o;have q1:=zV4.o;omega) (by omega)).trans Y4.o);have BU:=zaa (B4.o.trans (OW.o.below (B:=w.heap.size) zL (by have q:=HZ.o;have q1:=zV4.o;omega)))
  have zU:Hid (V.heap.size<=U.heap.size):=by have q1:=zV4.o;have q2:=OW.o.size;unfold Hid;omega
  have RDU:=zaa (RD4.o.soft SW.o H1.o H2.o);have RHU:=zaa (RdI.soft RH4.o SW.o H3.o);have RTU:Hid (RdM U (.slice iM ml.length jM) ml):=RdM.soft R4.o SW.o;have RNU:=zaa (RdT.soft RN4.o SW.o);go_upto_region 18 with fail;rw[<- hU];clear hU x0 x1 x2 x3 x4 x5 x6 x7 x8 x9 g0 g1 g2 g3 g4 g5 g6 g7 g8 g9 X4 Y4 OW SW RD4 RH4 RT4 RN4 R4 B4;obtain⟨x0,x1,x2,x3,x4,x5,x6,x7,x8,x9,-⟩:=zak XU.o;have YU':U.heap[w.heap.size+1]?=some (.cells #[.N,.N,.N,.N,.N,.N,.I 0,.I 0,.N,.bool false] 37 (0,0)):=YU.o;obtain⟨y0,y1,y2,y3,y4,y5,y6,y7,y8,y9,g0,g1,g2,g3,g4,g5,g6,g7,g8,g9⟩:=zak YU';clear YU';have O3:=zaa (zcf U (w.heap.size+1) (.slice aW ws.length cW) (.slice aP 0 cP) (.slice aS es.length cS) (.slice aQ 0 cQ) (.slice aH hs.length cH) (.slice iM ml.length jM) (.I 0) (.I 0) (.slice aN 0 cN) (.bool false));have S3:=zaa (Soft.outside O3.o YU.o rfl);have B3:=zaa (BU.o.trans (O3.o.below (B:=w.heap.size) (by omega) (by have q1:=HZ.o;have q2:=zU.o;omega)))
  have F3:Hid (RdFs _ (.agg #[.slice aW ws.length cW,.slice aP 0 cP,.slice aS es.length cS,.slice aQ 0 cQ,.slice aH hs.length cH,.slice iM ml.length jM,.I 0,.I 0,.slice aN 0 cN,.bool false]) ws es hs ml 0 0 [] false) :=
   ⟨aW,cW,aP,cP,aS,cS,aQ,cQ,aH,cH,_,_,aN,cN,rfl,RDU.o.soft S3.o H1.o H2.o,RdI.soft RHU.o S3.o H3.o,RdM.soft RTU.o S3.o,RdT.soft RNU.o S3.o⟩
  clear O3 S3 XU YU RDU RHU RTU RNU BU;go_wp2;refine bodyPost_ret (v:=.tuple #[.agg #[.slice aW ws.length cW,.slice aP 0 cP,.slice aS es.length cS,.slice aQ 0 cQ,.slice aH hs.length cH,.slice iM ml.length jM,.I 0,.I 0,.slice aN 0 cN,.bool false],.I 0]) (by simp[results,Tryz.results52,go_sem,y0,y1,y2,y3,y4,y5,y6,y7,y8,y9]) rfl ?_;exact⟨_,_,_,rfl,F3.o,⟨HMR.o,HMM.o,HML.o⟩,B3.o⟩
theorem yazu{hs:List Int}(h:hs.length=128)(k:∀ k (h:k<hs.length),0<=hs[k]/\hs[k]<=64):zla hs=true:=decide_eq_true ⟨h,k⟩
theorem yapw:zla (zxn 128)=true:=yazu (zwj 128) (fun k h=>by
 have e:(zxn 128)[k]=1:=List.eq_of_mem_replicate (List.getElem_mem h);rw[e]
 omega)
theorem zhz(n:Int)(hn:2<=n/\n<=1000)(w0 w:World)(b k:Nat)(vC:Value)(bs:List Int)(h:Src w0 w b vC bs k)(hk:k<=900000) :
  zC 51 #[.pointer (some ⟨b,0,none⟩),.I n] w fun e w'=>∃ r:Bool,e=.returned (.bool r)/\Src w0 w' b vC bs (k+3)/\Outside b (b+1) w w'/\w'.heap.size=w.heap.size:=by
 have HS:=zaa h
 have wn:IntKind.i64.wrap (n-1)=n-1:=by rw[IntKind.wrap_i64];omega
 clear h;go_enter Tryz.func51,Tryz.ntmps51;go_wp2_with fail;refine(zcd n hn w0 w b k vC bs HS.o hk).mono ?_;rintro e w1 ⟨r,rfl,r0,r1,hs,ho,hz⟩;have S1:=zaa hs;have O1:=zaa ho;clear hs ho;go_wp2;go_ret;exact⟨_,rfl,S1.o,O1.o,hz⟩
theorem zzk(ss:List ByteArray)(hn:2<=ss.length/\ss.length<=1000)(w0 w:World)(b bl k:Nat)(vC:Value)(bs:List Int)(h:Src w0 w b vC bs k)(hk:k<=900000)(hl:w.heap[bl]?=some (.cells (ss.map Value.string).toArray 9 (0,0)))(hbl:bl≠b) :
  zC 83 #[.pointer (some ⟨b,0,none⟩),.slice (some ⟨bl,0,none⟩) ss.length ss.length] w fun e w'=>∃ s,e=.returned (.string s)/\s∈ss/\Src w0 w' b vC bs (k+3)/\Outside b (b+1) w w'/\w'.heap.size=w.heap.size:=by
 have HS:=zaa h;have HL:=zaa hl;have lt:Hid (bl<w.heap.size):=(Array.getElem?_eq_some_iff.1 hl).1
 have h0:((ss.length:Int) == 0)=false:=by rw[beq_eq_false_iff_ne];omega
 have NX:=zaa (zcd (ss.length:Int) (by omega) w0 w b k vC bs HS.o hk);obtain⟨n1,n2⟩:=hn;clear h hl;go_enter Tryz.func83,Tryz.ntmps83;go_wp2_with fail;refine NX.o.mono ?_;rintro e w1 ⟨r,rfl,r0,r1,hs,ho,hz⟩;have S1:=zaa hs;have O1:=zaa ho;obtain⟨j,rfl⟩:=Int.eq_ofNat_of_zero_le r0
 have hj:j<ss.length:=by omega
 have hc:w1.cell? ⟨bl,j,none⟩=some (.string ss[j]):=by
  have:=(ho.block bl lt.o (by omega)).trans HL.o;simp[World.cell?,this,hj]
 have EM:=zaa (List.getElem_mem hj);generalize ss[j]=s at hc EM;clear hs ho NX;go_wp2;go_ret;exact⟨_,rfl,EM.o,S1.o,O1.o,hz⟩
def slB:ByteArray:=⟨#[47]⟩
def segs:List ByteArray:=[⟨#[97]⟩,⟨#[98]⟩,⟨#[99]⟩,⟨#[100,105,114]⟩,⟨#[97]⟩]
def oneP:List ByteArray:=segs.map fun s=>slB++s
def twoP:List ByteArray:=oneP.flatMap fun p=>segs.map fun s=>p++(slB++s)
def PathD(p:ByteArray):Prop:=p∈oneP\/p∈twoP
theorem PathD.size{p:ByteArray}(h:PathD p):p.size<=100:=by
 have:∀ p∈oneP++twoP,p.size<=100:=by decide
 exact this p (List.mem_append.2 h)
theorem zid(w0 w:World)(b k:Nat)(vC:Value)(bs:List Int)(h:Src w0 w b vC bs k)(hk:k<=800000) :
  zC 36 #[.pointer (some ⟨b,0,none⟩)] w fun e w'=>∃ p,e=.returned (.string p)/\PathD p/\Src w0 w' b vC bs (k+9)/\Outside b (b+1) w w':=by
 have hsz:=h.size;have HS:=zaa h;clear h;go_enter Tryz.func36,Tryz.ntmps36;go_wp2_with fail;refine(zcd 5 (by omega) w0 _ b k vC bs HS.o (by omega)).mono ?_;rintro e w1 ⟨r,rfl,r0,r1,hs,ho,hz⟩;have S1:=zaa hs;have O1:=zaa ho;clear hs ho hz HS
 have step:∀ (wr:World) (q:Nat),Outside b (b+1) w wr->Src w0 wr b vC bs q->q<=800100->zC 83 #[.pointer (some ⟨b,0,none⟩),.slice (some ⟨wr.heap.size,0,none⟩) 5 5] (wr.alloc (.cells #[.string ⟨#[97]⟩,.string ⟨#[98]⟩,.string ⟨#[99]⟩,.string ⟨#[100,105,114]⟩,.string ⟨#[97]⟩] 9)) fun e w'=>∃ s,e=.returned (.string s)/\s∈segs/\Src w0 w' b vC bs (q+3)/\Outside b (b+1) w w':=fun wr q o s hq=>by
  refine(zzk segs (by decide) w0 _ b wr.heap.size q vC bs (s.newer (zR.alloc zL _)) (by omega) (zaf rfl) (by have:=s.size;omega)).mono ?_;rintro e w' ⟨t,rfl,m,s',o',-⟩;exact⟨t,rfl,m,s',(o.trans (Outside.of_below (zR.alloc zL _))).trans o'⟩
 have STEP:=zaa step;clear step
 obtain⟨n,hn,hn12⟩:∃ n:Nat,1+r/3=(n:Int)/\(n=1\/n=2):=by
  by_cases c:r<3
  ·exact⟨1,by omega,.inl rfl⟩
  ·exact⟨2,by omega,.inr rfl⟩
 go_wp2
 go_loopw [3,4] (fun vP i wr=>∃ (j q:Nat) (p:ByteArray),i=.I (j:Int)/\vP=.string p/\q+3*j<=k+9/\Hid ((j=n/\p=⟨#[]⟩)\/(j=1/\p∈oneP)\/(j=0/\PathD p))/\j<=2/\Hid (Src w0 wr b vC bs q/\Outside b (b+1) w wr)) (fun _ i _=>(intOf i).toNat)
 case atStart=>exact⟨n,_,_,by go_num,rfl,by omega,.inl ⟨rfl,rfl⟩,by omega,S1.o,O1.o⟩
 case round =>
  obtain⟨j,q,p,rfl,rfl,hq,P,j2,I⟩:=hrel
  by_cases c:0<j
  ·have c0:(0:Int)<(j:Int):=by omega
   go_wp2_with fail;refine(STEP.o _ q I.o.2 I.o.1 (by omega)).mono ?_;rintro e w2 ⟨s,rfl,ms,hs2,ho2⟩;have I2:=zaa (And.intro hs2 ho2);have MS:=zaa ms;have s1:s.size<=100:=(show ∀ s∈segs,s.size<=100 by decide) s ms
   have p1:p.size<=100:=by
    rcases P.o with q | q | q
    ·rw[q.2];decide
    ·exact PathD.size (.inl q.2)
    ·exact PathD.size q.2
   have pe:Hid (p.size+(1+s.size)<=300):=by unfold Hid;omega
   clear ms hs2 ho2 I;go_wp2
   go_roundw
   case rel =>
    refine⟨j-1,_,_,by go_num,rfl,by omega,?_,by omega,I2⟩;have e0:(⟨#[]⟩:ByteArray)++(slB++s)=slB++s:=ByteArray.empty_append;have m1:slB++s∈oneP:=List.mem_map.2 ⟨s,MS.o,rfl⟩
    rcases P.o with q | q | q
    ·have e1:p++(slB++s)=slB++s:=by rw[q.2];exact e0
     rcases hn12 with h | h
     ·exact .inr (.inr ⟨by omega,.inl (by show p++(slB++s)∈oneP;rw[e1];exact m1)⟩)
     ·exact .inr (.inl ⟨by omega,(by show p++(slB++s)∈oneP;rw[e1];exact m1)⟩)
    ·exact .inr (.inr ⟨by omega,.inr (List.mem_flatMap.2 ⟨p,q.2,List.mem_map.2 ⟨s,MS.o,rfl⟩⟩)⟩)
    ·omega
   case measure=>simp[intOf];omega
  ·obtain rfl:j=0:=by omega
   go_wp2;go_ret;refine⟨_,rfl,?_,I.o.1.more (by omega),I.o.2⟩
   rcases P.o with q | q | q
   ·omega
   ·omega
   ·exact q.2
def any9:List ByteArray:=[⟨#[47]⟩,⟨#[]⟩,⟨#[97]⟩,⟨#[47,47]⟩,⟨#[47,97,47]⟩,⟨#[47,65]⟩,⟨#[47,97,47,98,47,99,47,97,47,98,47,99]⟩,⟨#[47,97,47,98,47,99,47,97,47,98,47,99,47,100]⟩,⟨#[47,97,47,98,47,99,47,100]⟩]
theorem zkr(w0 w:World)(b k:Nat)(vC:Value)(bs:List Int)(h:Src w0 w b vC bs k)(hk:k<=700000) :
  zC 56 #[.pointer (some ⟨b,0,none⟩)] w fun e w'=>∃ p,e=.returned (.string p)/\p.size<=100/\Src w0 w' b vC bs (k+12)/\Outside b (b+1) w w':=by
 have HS:=zaa h;clear h;go_enter Tryz.func56,Tryz.ntmps56;go_wp2_with fail;refine(zhz 6 (by omega) w0 _ b k vC bs HS.o (by omega)).mono ?_;rintro e w1 ⟨r,rfl,hs,ho,hz⟩;have S1:=zaa hs;have O1:=zaa ho;clear hs ho hz HS
 cases r with
 | true =>
  have PK:=zaa (zzk any9 (by decide) w0 (w1.alloc (.cells (any9.map Value.string).toArray 9)) b w1.heap.size (k+3) vC bs (S1.o.newer (zR.alloc zL _)) (by omega) (zaf rfl) (by have:=S1.o.size;omega));go_wp2_with fail;refine PK.o.mono ?_;rintro e w2 ⟨s,rfl,ms,hs,ho,-⟩;have S2:=zaa (hs.more (k':=k+12) (by omega));have O2:=zaa ((O1.o.trans (Outside.of_below (zR.alloc zL _))).trans ho);have Z:=zaa ((show ∀ s∈any9,s.size<=100 by decide) s ms);clear hs ho ms PK;go_wp2;go_ret;exact⟨_,rfl,Z.o,S2.o,O2.o⟩
 | false =>
  go_wp2_with fail;refine(zid w0 _ b (k+3) vC bs S1.o (by omega)).mono ?_;rintro e w2 ⟨s,rfl,ms,hs,ho⟩;have S2:=zaa hs;have O2:=zaa (O1.o.trans ho);have Z:=zaa ms.size;clear hs ho ms;go_wp2;go_ret;exact⟨_,rfl,Z.o,S2.o,O2.o⟩
theorem yabr(w0 w:World)(b k:Nat)(vC:Value)(bs:List Int)(h:Src w0 w b vC bs k) :
  zC 50 #[.pointer (some ⟨b,0,none⟩),.I 20] w fun e w'=>∃ r:Int,e=.returned (.I r)/\1<=r/\r<=20/\w'=w:=by
 obtain⟨aC,cC,rfl,_⟩:=h.code.shape;obtain⟨at_,seed,_,_,_,_,hc⟩:=h.cells;obtain⟨c0,-,-,-⟩:=zht hc;have hl:=h.len;clear h hc
 have cc:((bs.length:Int)/12)<=100000/\0<=((bs.length:Int)/12):=by omega
 go_enter Tryz.func50,Tryz.ntmps50;go_wp2
 all_goals
  go_ret;exact⟨_,rfl,by omega,by omega,rfl⟩
end Go.Proofs.YtogcbbkhnpmgeaaGreatDoor
