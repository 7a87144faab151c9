import Derived.Test.YtogcbbkhnpmgeaaGreatDoorZBS
set_option maxRecDepth 100000
set_option maxHeartbeats 16000000
namespace Go.Proofs.YtogcbbkhnpmgeaaGreatDoor
open Go.RowKit
def RdFs(w:World)(v:Value)(ws es hs:List Int)(td:List Mi)(cd vl:Int)(nm:List ByteArray)(fr:Bool):Prop :=
 ∃ aW cW aP cP aS cS aQ cQ aH cH aT cT aN cN,v=.agg #[.slice aW ws.length cW,.slice aP 0 cP,.slice aS es.length cS,.slice aQ 0 cQ,.slice aH hs.length cH,.slice aT td.length cT,.I cd,.I vl,.slice aN nm.length cN,.bool fr]/\RdDev w (.agg #[.slice aW ws.length cW,.slice aP 0 cP,.slice aS es.length cS,.slice aQ 0 cQ]) ws [] es []/\RdI w (.slice aH hs.length cH) hs/\RdM w (.slice aT td.length cT) td/\RdT w (.slice aN nm.length cN) nm
theorem RdFs.soft{w w':World}{v:Value}{ws es hs:List Int}{td:List Mi}{cd vl:Int}{nm:List ByteArray}{fr:Bool}(h:RdFs w v ws es hs td cd vl nm fr)(s:Soft w w')(h1:3<=ws.length)(h2:3<=es.length)(h3:3<=hs.length):RdFs w' v ws es hs td cd vl nm fr:=by
 obtain⟨aW,cW,aP,cP,aS,cS,aQ,cQ,aH,cH,aT,cT,aN,cN,rfl,a,b,c,d⟩:=h;exact⟨aW,cW,aP,cP,aS,cS,aQ,cQ,aH,cH,aT,cT,aN,cN,rfl,a.soft s h1 h2,b.soft s h3,c.soft s,d.soft s⟩
theorem RdFs.below{w w':World}{v:Value}{ws es hs:List Int}{td:List Mi}{cd vl:Int}{nm:List ByteArray}{fr:Bool}(h:RdFs w v ws es hs td cd vl nm fr)(s:zB w w'):RdFs w' v ws es hs td cd vl nm fr:=by
 obtain⟨aW,cW,aP,cP,aS,cS,aQ,cQ,aH,cH,aT,cT,aN,cN,rfl,a,b,c,d⟩:=h;exact⟨aW,cW,aP,cP,aS,cS,aQ,cQ,aH,cH,aT,cT,aN,cN,rfl,a.below s,Rd.below b s,Rd.below c s,Rd.below d s⟩
theorem zak{w:World}{b:Nat}{t:TypeId}{x0 x1 x2 x3 x4 x5 x6 x7 x8 x9:Value}(h:w.heap[b]?=some (.cells #[x0,x1,x2,x3,x4,x5,x6,x7,x8,x9] t (0,0))):w.cell? ⟨b,0,none⟩=some x0/\w.cell? ⟨b,1,none⟩=some x1/\w.cell? ⟨b,2,none⟩=some x2/\w.cell? ⟨b,3,none⟩=some x3/\w.cell? ⟨b,4,none⟩=some x4/\w.cell? ⟨b,5,none⟩=some x5/\w.cell? ⟨b,6,none⟩=some x6/\w.cell? ⟨b,7,none⟩=some x7/\w.cell? ⟨b,8,none⟩=some x8/\w.cell? ⟨b,9,none⟩=some x9/\w.frozen? ⟨b,0,none⟩=false/\w.frozen? ⟨b,1,none⟩=false/\w.frozen? ⟨b,2,none⟩=false/\w.frozen? ⟨b,3,none⟩=false/\w.frozen? ⟨b,4,none⟩=false/\w.frozen? ⟨b,5,none⟩=false/\w.frozen? ⟨b,6,none⟩=false/\w.frozen? ⟨b,7,none⟩=false/\w.frozen? ⟨b,8,none⟩=false/\w.frozen? ⟨b,9,none⟩=false:=by
 simp[World.cell?,World.frozen?,h]
theorem yafu{w:World}{b:Nat}{t:TypeId}{x0 x1 x2 x3 x4 x5 x6 x7 x8 x9:Value}(h:w.heap[b]?=some (.cells #[x0,x1,x2,x3,x4,x5,x6,x7,x8,x9] t (0,0)))(u:Value):(w.setCell ⟨b,0,none⟩ u).heap[b]?=some (.cells #[u,x1,x2,x3,x4,x5,x6,x7,x8,x9] t (0,0)):=by simp[World.setCell,Array.getElem?_modify,h]
theorem yahd{w:World}{b:Nat}{t:TypeId}{x0 x1 x2 x3 x4 x5 x6 x7 x8 x9:Value}(h:w.heap[b]?=some (.cells #[x0,x1,x2,x3,x4,x5,x6,x7,x8,x9] t (0,0)))(u:Value):(w.setCell ⟨b,1,none⟩ u).heap[b]?=some (.cells #[x0,u,x2,x3,x4,x5,x6,x7,x8,x9] t (0,0)):=by simp[World.setCell,Array.getElem?_modify,h]
theorem yagq{w:World}{b:Nat}{t:TypeId}{x0 x1 x2 x3 x4 x5 x6 x7 x8 x9:Value}(h:w.heap[b]?=some (.cells #[x0,x1,x2,x3,x4,x5,x6,x7,x8,x9] t (0,0)))(u:Value):(w.setCell ⟨b,2,none⟩ u).heap[b]?=some (.cells #[x0,x1,u,x3,x4,x5,x6,x7,x8,x9] t (0,0)):=by simp[World.setCell,Array.getElem?_modify,h]
theorem yagc{w:World}{b:Nat}{t:TypeId}{x0 x1 x2 x3 x4 x5 x6 x7 x8 x9:Value}(h:w.heap[b]?=some (.cells #[x0,x1,x2,x3,x4,x5,x6,x7,x8,x9] t (0,0)))(u:Value):(w.setCell ⟨b,3,none⟩ u).heap[b]?=some (.cells #[x0,x1,x2,u,x4,x5,x6,x7,x8,x9] t (0,0)):=by simp[World.setCell,Array.getElem?_modify,h]
theorem zve{w:World}{b:Nat}{t:TypeId}{x0 x1 x2 x3 x4 x5 x6 x7 x8 x9:Value}(h:w.heap[b]?=some (.cells #[x0,x1,x2,x3,x4,x5,x6,x7,x8,x9] t (0,0)))(u:Value):(w.setCell ⟨b,4,none⟩ u).heap[b]?=some (.cells #[x0,x1,x2,x3,u,x5,x6,x7,x8,x9] t (0,0)):=by simp[World.setCell,Array.getElem?_modify,h]
theorem zic{w:World}{b:Nat}{t:TypeId}{x0 x1 x2 x3 x4 x5 x6 x7 x8 x9:Value}(h:w.heap[b]?=some (.cells #[x0,x1,x2,x3,x4,x5,x6,x7,x8,x9] t (0,0)))(u:Value):(w.setCell ⟨b,5,none⟩ u).heap[b]?=some (.cells #[x0,x1,x2,x3,x4,u,x6,x7,x8,x9] t (0,0)):=by simp[World.setCell,Array.getElem?_modify,h]
theorem zpc{w:World}{b:Nat}{t:TypeId}{x0 x1 x2 x3 x4 x5 x6 x7 x8 x9:Value}(h:w.heap[b]?=some (.cells #[x0,x1,x2,x3,x4,x5,x6,x7,x8,x9] t (0,0)))(u:Value):(w.setCell ⟨b,6,none⟩ u).heap[b]?=some (.cells #[x0,x1,x2,x3,x4,x5,u,x7,x8,x9] t (0,0)):=by simp[World.setCell,Array.getElem?_modify,h]
theorem zpg{w:World}{b:Nat}{t:TypeId}{x0 x1 x2 x3 x4 x5 x6 x7 x8 x9:Value}(h:w.heap[b]?=some (.cells #[x0,x1,x2,x3,x4,x5,x6,x7,x8,x9] t (0,0)))(u:Value):(w.setCell ⟨b,7,none⟩ u).heap[b]?=some (.cells #[x0,x1,x2,x3,x4,x5,x6,u,x8,x9] t (0,0)):=by simp[World.setCell,Array.getElem?_modify,h]
theorem zmf{w:World}{b:Nat}{t:TypeId}{x0 x1 x2 x3 x4 x5 x6 x7 x8 x9:Value}(h:w.heap[b]?=some (.cells #[x0,x1,x2,x3,x4,x5,x6,x7,x8,x9] t (0,0)))(u:Value):(w.setCell ⟨b,8,none⟩ u).heap[b]?=some (.cells #[x0,x1,x2,x3,x4,x5,x6,x7,u,x9] t (0,0)):=by simp[World.setCell,Array.getElem?_modify,h]
theorem zpx{w:World}{b:Nat}{t:TypeId}{x0 x1 x2 x3 x4 x5 x6 x7 x8 x9:Value}(h:w.heap[b]?=some (.cells #[x0,x1,x2,x3,x4,x5,x6,x7,x8,x9] t (0,0)))(u:Value):(w.setCell ⟨b,9,none⟩ u).heap[b]?=some (.cells #[x0,x1,x2,x3,x4,x5,x6,x7,x8,u] t (0,0)):=by simp[World.setCell,Array.getElem?_modify,h]
theorem yaoa{w:World}{b:Nat}{t:TypeId}{x0 x1 x2 x3 x4 x5 x6 x7 x8 x9:Value}(h:w.heap[b]?=some (.cells #[x0,x1,x2,x3,x4,x5,x6,x7,x8,x9] t (0,0)))(p q r s:Value):(putR w b p q r s).heap[b]?=some (.cells #[p,q,r,s,x4,x5,x6,x7,x8,x9] t (0,0)):=yagc (yagq (yahd (yafu h p) q) r) s
def zhl(w:World)(b:Nat)(x0 x1 x2 x3 x4 x5 x6 x7 x8 x9:Value):World:=((((((((((w.setCell ⟨b,0,none⟩ x0).setCell ⟨b,1,none⟩ x1).setCell ⟨b,2,none⟩ x2).setCell ⟨b,3,none⟩ x3).setCell ⟨b,4,none⟩ x4).setCell ⟨b,5,none⟩ x5).setCell ⟨b,6,none⟩ x6).setCell ⟨b,7,none⟩ x7).setCell ⟨b,8,none⟩ x8).setCell ⟨b,9,none⟩ x9)
theorem zcf(w:World)(b:Nat)(x0 x1 x2 x3 x4 x5 x6 x7 x8 x9:Value):Outside b (b+1) w (zhl w b x0 x1 x2 x3 x4 x5 x6 x7 x8 x9):=by
 unfold zhl
 repeat (refine Outside.setCell ?_ (by simp only;omega) (by simp only;omega) _)
 exact Outside.refl _ _ _
theorem zuv(w:World)(b:Nat)(x0 x1 x2 x3 x4 x5 x6 x7 x8 x9:Value):(zhl w b x0 x1 x2 x3 x4 x5 x6 x7 x8 x9).heap.size=w.heap.size:=by simp[zhl,World.setCell]
theorem tri3{w:World}{b:Nat}{t:TypeId}{x y z:Value}(h:w.heap[b]?=some (.cells #[x,y,z] t (0,0))):w.cell? ⟨b,0,none⟩=some x/\w.cell? ⟨b,1,none⟩=some y/\w.cell? ⟨b,2,none⟩=some z/\w.frozen? ⟨b,0,none⟩=false/\w.frozen? ⟨b,1,none⟩=false/\w.frozen? ⟨b,2,none⟩=false:=by simp[World.cell?,World.frozen?,h]
def zez:List Value:=[.N,.N,.N,.N,.N,.N,.I 0,.I 0,.N,.bool false]
theorem zms(v:Value)(ws es hs:List Int)(td:List Mi)(cd vl:Int)(nm:List ByteArray)(fr:Bool)(ws' es':List Int)(w:World)(h:RdFs w v ws es hs td cd vl nm fr)(hp:pmB ws []=true)(hb:zfp es []=true)(hh:3<=hs.length)(hm:∀ m∈td,miB m=true)(hl:td.length<=1000)(r:mr td ws [] es []=⟨0,ws',[],es',[]⟩)(hp':pmB ws' []=true)(hb':zfp es' []=true) :
  zC 53 #[v] w fun e w'=>∃ v',e=.returned v'/\RdFs w' v' ws' es' hs [] cd vl nm fr/\zB w w':=by
 have h336:Hid (3<=ws'.length):=by have:=(zgj hp').1;unfold Hid;omega
 have h32:Hid (3<=es'.length):=by have:=(zdu hb').1;unfold Hid;omega
 have HH:=zaa hh;have HF:=zaa h;obtain⟨aW,cW,aP,cP,aS,cS,aQ,cQ,aH,cH,aT,cT,aN,cN,rfl,a,b,c,d⟩:=h
 have LA:Hid (∀ w1,zB w w1->zC 108 #[.agg #[.slice aW ws.length cW,.slice aP 0 cP,.slice aS es.length cS,.slice aQ 0 cQ],.slice aT td.length cT] w1 fun e w'=>∃ v',e=.returned v'/\RdDev w' v' ws' [] es' []/\zB w1 w'):=fun w1 hb1=>yaix _ _ td ws [] es [] ws' [] es' [] w1 (a.below hb1) (Rd.below c hb1) hp hb hm hl r
 have RH:=zaa b;have RN:=zaa d;clear a b c d hp hb hm hl r hp' hb' hh HF
 obtain⟨V,hV⟩:=zE ((w.alloc (.cells #[.slice aW ws.length cW,.slice aP 0 cP,.slice aS es.length cS,.slice aQ 0 cQ,.slice aH hs.length cH,.slice aT td.length cT,.I cd,.I vl,.slice aN nm.length cN,.bool fr] 37)).alloc (.cells zez.toArray 37))
 have hzV:V.heap.size=w.heap.size+1+1:=by rw[hV];simp
 have BV:Hid (zB w V):=by rw[hV];exact(zR.alloc zL _).alloc (by simp) _
 have XV:Hid (V.heap[w.heap.size]?=some (.cells #[.slice aW ws.length cW,.slice aP 0 cP,.slice aS es.length cS,.slice aQ 0 cQ,.slice aH hs.length cH,.slice aT td.length cT,.I cd,.I vl,.slice aN nm.length cN,.bool fr] 37 (0,0))):=by rw[hV];exact zal (zaf rfl)
 have YV:Hid (V.heap[w.heap.size+1]?=some (.cells zez.toArray 37 (0,0))):=by
  rw[hV];have:=zaf (w:=w.alloc (.cells #[.slice aW ws.length cW,.slice aP 0 cP,.slice aS es.length cS,.slice aQ 0 cQ,.slice aH hs.length cH,.slice aT td.length cT,.I cd,.I vl,.slice aN nm.length cN,.bool fr] 37)) (o:=.cells zez.toArray 37) rfl;rw[World.size_alloc]at this;exact this
 unfold zez at hV;go_enter Tryz.func53,Tryz.ntmps53;go_upto_region 1 with fail;rw[<- hV];clear hV;obtain⟨x0,x1,x2,x3,x4,x5,x6,x7,x8,x9,-⟩:=zak XV.o;go_wp2_with fail;refine(LA.o _ BV.o).mono ?_;rintro e w1 ⟨v1,rfl,hr1,hb1⟩;obtain⟨iW,jW,iP,jP,iS,jS,iQ,jQ,rfl,-,-⟩:=hr1.form;have z1:V.heap.size<=w1.heap.size:=hb1.size;have B1:=zaa (zab BV.o hb1 BV.o.size);have X1:=zaa ((hb1.block _ (by omega)).trans XV.o);have Y1:=zaa ((hb1.block _ (by omega)).trans YV.o);have D1:=zaa hr1;clear hr1 hb1 x0 x1 x2 x3 x4 x5 x6 x7 x8 x9 XV YV LA;obtain⟨x0,x1,x2,x3,x4,x5,x6,x7,x8,x9,g0,g1,g2,g3,g4,g5,g6,g7,g8,g9⟩:=zak X1.o
 obtain⟨w2,hw2⟩:=zE (putR w1 w.heap.size (.slice iW ws'.length jW) (.slice iP 0 jP) (.slice iS es'.length jS) (.slice iQ 0 jQ))
 have O2:=zaa (zkd w1 w.heap.size (.slice iW ws'.length jW) (.slice iP 0 jP) (.slice iS es'.length jS) (.slice iQ 0 jQ))
 have S2:Hid (Soft w1 w2):=by rw[hw2];exact Soft.outside O2.o X1.o rfl
 have X2:Hid (w2.heap[w.heap.size]?=some (.cells #[.slice iW ws'.length jW,.slice iP 0 jP,.slice iS es'.length jS,.slice iQ 0 jQ,.slice aH hs.length cH,.slice aT td.length cT,.I cd,.I vl,.slice aN nm.length cN,.bool fr] 37 (0,0))):=by rw[hw2];exact yaoa X1.o _ _ _ _
 have Y2:Hid (w2.heap[w.heap.size+1]?=some (.cells zez.toArray 37 (0,0))):=by rw[hw2];exact(O2.o.block _ (by omega) (by omega)).trans Y1.o
 have B2:Hid (zB w w2):=by rw[hw2];exact B1.o.trans (O2.o.below zL (by omega))
 have z2:w1.heap.size=w2.heap.size:=by rw[hw2,zsk]
 unfold putR at hw2;go_upto_region 2 with fail;rw[<- hw2];clear hw2 O2 x0 x1 x2 x3 x4 x5 x6 x7 x8 x9 g0 g1 g2 g3 g4 g5 g6 g7 g8 g9 X1 Y1
 obtain⟨w3,hw3⟩:=zE ((w2.alloc (.cells #[] 82)).setCell ⟨w.heap.size,5,none⟩ (.slice (some ⟨w2.heap.size,0,none⟩) 0 0))
 have X2a:=zaa (zal (o:=.cells #[] 82) X2.o)
 have S3:Hid (Soft w2 w3):=by rw[hw3];exact((Soft.refl _).alloc _).set X2a.o rfl _ _
 have X3:Hid (w3.heap[w.heap.size]?=some (.cells #[.slice iW ws'.length jW,.slice iP 0 jP,.slice iS es'.length jS,.slice iQ 0 jQ,.slice aH hs.length cH,.slice (some ⟨w2.heap.size,0,none⟩) 0 0,.I cd,.I vl,.slice aN nm.length cN,.bool fr] 37 (0,0))):=by rw[hw3];exact zic X2a.o _
 have Y3:Hid (w3.heap[w.heap.size+1]?=some (.cells zez.toArray 37 (0,0))):=by rw[hw3,Below.heap_setCell _ _ _ _ (by simp only;omega)];exact zal Y2.o
 have B3:Hid (zB w w3):=by rw[hw3];exact(B2.o.alloc B2.o.size _).setCell zL _
 have z3:w2.heap.size+1=w3.heap.size:=by rw[hw3];simp[World.setCell]
 obtain⟨-,-,-,-,-,x5,-,-,-,-,-,-,-,-,-,g5,-⟩:=zak X2a.o;go_upto_region 3 with fail;rw[<- hw3];clear hw3 x5 g5 X2 Y2 X2a;obtain⟨x0,x1,x2,x3,x4,x5,x6,x7,x8,x9,-⟩:=zak X3.o;have Y3':w3.heap[w.heap.size+1]?=some (.cells #[.N,.N,.N,.N,.N,.N,.I 0,.I 0,.N,.bool false] 37 (0,0)):=Y3.o;obtain⟨y0,y1,y2,y3,y4,y5,y6,y7,y8,y9,g0,g1,g2,g3,g4,g5,g6,g7,g8,g9⟩:=zak Y3';clear Y3';have O4:=zaa (zcf w3 (w.heap.size+1) (.slice iW ws'.length jW) (.slice iP 0 jP) (.slice iS es'.length jS) (.slice iQ 0 jQ) (.slice aH hs.length cH) (.slice (some ⟨w2.heap.size,0,none⟩) 0 0) (.I cd) (.I vl) (.slice aN nm.length cN) (.bool fr));have S4:=zaa (Soft.outside O4.o Y3.o rfl);have SS:=zaa ((S2.o.trans S3.o).trans S4.o);have B4:=zaa (B3.o.trans (O4.o.below (B:=w.heap.size) (by omega) (by omega)))
 have NIL:Hid (RdM w3 (.slice (some ⟨w2.heap.size,0,none⟩) 0 0) []):=⟨rfl,_,_,rfl,⟨Nat.le_refl _,fun e=>by cases e⟩,fun h=>absurd h (by simp)⟩
 have F4:Hid (RdFs _ (.agg #[.slice iW ws'.length jW,.slice iP 0 jP,.slice iS es'.length jS,.slice iQ 0 jQ,.slice aH hs.length cH,.slice (some ⟨w2.heap.size,0,none⟩) 0 0,.I cd,.I vl,.slice aN nm.length cN,.bool fr]) ws' es' hs [] cd vl nm fr) :=
  ⟨iW,jW,iP,jP,iS,jS,iQ,jQ,aH,cH,_,_,aN,cN,rfl,RdDev.soft D1.o SS.o h336.o h32.o,RdI.soft (Rd.below RH.o B1.o) SS.o HH.o,RdM.soft NIL.o S4.o,RdT.soft (Rd.below RN.o B1.o) SS.o⟩
 clear O4 S4 SS S2 S3 D1 NIL;go_wp2;refine bodyPost_ret (v:=.agg #[.slice iW ws'.length jW,.slice iP 0 jP,.slice iS es'.length jS,.slice iQ 0 jQ,.slice aH hs.length cH,.slice (some ⟨w2.heap.size,0,none⟩) 0 0,.I cd,.I vl,.slice aN nm.length cN,.bool fr]) (by simp[results,Tryz.results53,go_sem,y0,y1,y2,y3,y4,y5,y6,y7,y8,y9]) rfl ?_;exact⟨_,rfl,F4.o,B4.o⟩
def putA(w:World)(b:Nat)(x y z:Value):World:=(((w.setCell ⟨b,0,none⟩ x).setCell ⟨b,1,none⟩ y).setCell ⟨b,2,none⟩ z)
theorem yaez(w:World)(b:Nat)(x y z:Value):Outside b (b+1) w (putA w b x y z):=by
 unfold putA
 repeat (refine Outside.setCell ?_ (by simp only;omega) (by simp only;omega) _)
 exact Outside.refl _ _ _
theorem yaxu(w:World)(a:Option Addr)(c:Nat)(h:a=none->c=0):RdM w (.slice a 0 c) []:=⟨rfl,_,_,rfl,⟨Nat.zero_le _,h⟩,fun h=>absurd h (by simp)⟩
theorem yang(w:World)(b:Nat):RdT w (.slice (some ⟨b,0,none⟩) 0 0) []:=⟨rfl,_,_,rfl,⟨Nat.le_refl _,fun e=>by cases e⟩,fun h=>absurd h (by simp)⟩
theorem yadb(v:Value)(ws es hs:List Int)(cd vl:Int)(nm:List ByteArray)(w:World)(h:RdFs w v ws es hs [] cd vl nm true)(h1:3<=ws.length)(h2:3<=es.length)(hh:3<=hs.length) :
  zC 102 #[v] w fun e w'=>∃ v' a n c,e=.returned (.tuple #[v',.agg #[.I cd,.I vl,.slice a n c],.I 0])/\RdFs w' v' ws es hs [] 0 0 [] false/\zB w w':=by
 have H1:=zaa h1;have H2:=zaa h2;have HH:=zaa hh;obtain⟨aW,cW,aP,cP,aS,cS,aQ,cQ,aH,cH,aT,cT,aN,cN,rfl,a,b,c,d⟩:=h;have RD:=zaa a;have RH:=zaa b;have RT:=zaa c;clear a b c d h1 h2 hh;rw[show([]:List Mi).length=0 from rfl]at RT ⊢
 obtain⟨V,hV⟩:=zE (((w.alloc (.cells #[.slice aW ws.length cW,.slice aP 0 cP,.slice aS es.length cS,.slice aQ 0 cQ,.slice aH hs.length cH,.slice aT 0 cT,.I cd,.I vl,.slice aN nm.length cN,.bool true] 37)).alloc (.cells zez.toArray 37)).alloc (.cells #[.I 0,.I 0,.N] 35))
 have HZ:Hid (V.heap.size=w.heap.size+1+1+1):=by rw[hV];simp[Hid]
 have BV:Hid (zB w V):=by rw[hV];exact((zR.alloc zL _).alloc (by simp) _).alloc (by simp<;>omega) _
 have XV:Hid (V.heap[w.heap.size]?=some (.cells #[.slice aW ws.length cW,.slice aP 0 cP,.slice aS es.length cS,.slice aQ 0 cQ,.slice aH hs.length cH,.slice aT 0 cT,.I cd,.I vl,.slice aN nm.length cN,.bool true] 37 (0,0))):=by rw[hV];exact zal (zal (zaf rfl))
 have YV:Hid (V.heap[w.heap.size+1]?=some (.cells zez.toArray 37 (0,0))):=by rw[hV];exact zal (zaf (by simp))
 have ZV:Hid (V.heap[w.heap.size+1+1]?=some (.cells #[.I 0,.I 0,.N] 35 (0,0))):=by rw[hV];exact zaf (by simp)
 unfold zez at hV;go_enter Tryz.func102,Tryz.ntmps102;go_upto_region 1 with fail;rw[<- hV];clear hV
 obtain⟨V2,hV2⟩:=zE ((V.alloc (.cells #[] 9)).alloc (.cells #[.I 0,.I 0,.slice (some ⟨V.heap.size,0,none⟩) 0 0] 35))
 have B2:Hid (zB V V2):=by rw[hV2];exact(zR.alloc zL _).alloc (by simp) _
 have N2:Hid (V2.heap[V.heap.size+1]?=some (.cells #[.I 0,.I 0,.slice (some ⟨V.heap.size,0,none⟩) 0 0] 35 (0,0))):=by rw[hV2];exact zaf (by simp)
 have Z2:Hid (V2.heap.size=V.heap.size+1+1):=by rw[hV2];simp[Hid]
 have X2:=zaa ((B2.o.block _ (by have q1:=HZ.o;have q2:=Z2.o;omega)).trans XV.o);go_upto_region 2 with fail;rw[<- hV2];clear hV2;obtain⟨x0,x1,x2,x3,x4,x5,x6,x7,x8,x9,-⟩:=zak X2.o
 obtain⟨V3,hV3⟩:=zE (V2.alloc (.cells #[.I cd,.I vl,.slice aN nm.length cN] 35))
 have B3:Hid (zB V2 V3):=by rw[hV3];exact zR.alloc zL _
 have A3:Hid (V3.heap[V2.heap.size]?=some (.cells #[.I cd,.I vl,.slice aN nm.length cN] 35 (0,0))):=by rw[hV3];exact zaf rfl
 have Z3:Hid (V3.heap.size=V2.heap.size+1):=by rw[hV3];simp[Hid]
 have X3:=zaa ((B3.o.block _ (by have q1:=HZ.o;have q2:=Z2.o;have q3:=Z3.o;omega)).trans X2.o);have N3:=zaa ((B3.o.block _ (by have q1:=HZ.o;have q2:=Z2.o;have q3:=Z3.o;omega)).trans N2.o);have BB3:=zaa (zab B2.o B3.o (by have q1:=HZ.o;have q2:=Z2.o;have q3:=Z3.o;omega));go_upto_region 7 with fail;rw[<- hV3];clear hV3 x0 x1 x2 x3 x4 x5 x6 x7 x8 x9 N2 X2 XV;obtain⟨x0,x1,x2,x3,x4,x5,x6,x7,x8,x9,g0,g1,g2,g3,g4,g5,g6,g7,g8,g9⟩:=zak X3.o;obtain⟨n0,n1,n2,-,-,-⟩:=tri3 N3.o
 obtain⟨V4,hV4⟩:=zE ((((V3.setCell ⟨w.heap.size,6,none⟩ (.I 0)).setCell ⟨w.heap.size,7,none⟩ (.I 0)).setCell ⟨w.heap.size,8,none⟩ (.slice (some ⟨V.heap.size,0,none⟩) 0 0)).setCell ⟨w.heap.size,9,none⟩ (.bool false))
 have X4:Hid (V4.heap[w.heap.size]?=some (.cells #[.slice aW ws.length cW,.slice aP 0 cP,.slice aS es.length cS,.slice aQ 0 cQ,.slice aH hs.length cH,.slice aT 0 cT,.I 0,.I 0,.slice (some ⟨V.heap.size,0,none⟩) 0 0,.bool false] 37 (0,0))):=by rw[hV4];exact zpx (zmf (zpg (zpc X3.o _) _) _) _
 have O4:Hid (Outside w.heap.size (w.heap.size+1) V3 V4):=by
  rw[hV4];unfold Hid
  repeat (refine Outside.setCell ?_ (by simp only;omega) (by simp only;omega) _)
  exact Outside.refl _ _ _
 have S4:=zaa (Soft.outside O4.o X3.o rfl)
 have Z5:Hid (V3.heap.size=V4.heap.size):=by rw[hV4];simp[World.setCell,Hid]
 have A4:=zaa ((O4.o.block _ (by have q1:=HZ.o;have q2:=Z2.o;have q3:=Z3.o;have q5:=Z5.o;omega) (by have q1:=HZ.o;have q2:=Z2.o;have q3:=Z3.o;have q5:=Z5.o;omega)).trans A3.o);have Y4:=zaa ((O4.o.block (w.heap.size+1) (by have q1:=HZ.o;have q2:=Z2.o;have q3:=Z3.o;have q5:=Z5.o;omega) (by have q1:=HZ.o;have q2:=Z2.o;have q3:=Z3.o;have q5:=Z5.o;omega)).trans ((BB3.o.block _ (by have q1:=HZ.o;have q2:=Z2.o;have q3:=Z3.o;have q5:=Z5.o;omega)).trans YV.o));have Z4:=zaa ((O4.o.block (w.heap.size+1+1) (by have q1:=HZ.o;have q2:=Z2.o;have q3:=Z3.o;have q5:=Z5.o;omega) (by have q1:=HZ.o;have q2:=Z2.o;have q3:=Z3.o;have q5:=Z5.o;omega)).trans ((BB3.o.block _ (by have q1:=HZ.o;have q2:=Z2.o;have q3:=Z3.o;have q5:=Z5.o;omega)).trans ZV.o));have B4:=zaa ((zab BV.o BB3.o (by have q1:=HZ.o;have q2:=Z2.o;have q3:=Z3.o;have q5:=Z5.o;omega)).trans (O4.o.below (B:=w.heap.size) zL (by have q1:=HZ.o;have q2:=Z2.o;have q3:=Z3.o;have q5:=Z5.o;omega)));have SV:=zaa ((Soft.of_below BB3.o).trans S4.o);go_upto_region 9 with fail;rw[<- hV4];clear hV4 x0 x1 x2 x3 x4 x5 x6 x7 x8 x9 g0 g1 g2 g3 g4 g5 g6 g7 g8 g9 n0 n1 n2 X3 N3 A3 YV ZV;obtain⟨x0,x1,x2,x3,x4,x5,x6,x7,x8,x9,-⟩:=zak X4.o;obtain⟨n0,n1,n2,-,-,-⟩:=tri3 A4.o;have Y4':V4.heap[w.heap.size+1]?=some (.cells #[.N,.N,.N,.N,.N,.N,.I 0,.I 0,.N,.bool false] 37 (0,0)):=Y4.o;obtain⟨y0,y1,y2,y3,y4,y5,y6,y7,y8,y9,g0,g1,g2,g3,g4,g5,g6,g7,g8,g9⟩:=zak Y4';obtain⟨m0,m1,m2,k0,k1,k2⟩:=tri3 Z4.o;clear Y4'
 have eV:V2.heap.size=w.heap.size+1+1+1+1+1:=by rw[Z2.o,HZ.o]
 rw[eV]at n0 n1 n2 ⊢;have O5:=zaa (zcf V4 (w.heap.size+1) (.slice aW ws.length cW) (.slice aP 0 cP) (.slice aS es.length cS) (.slice aQ 0 cQ) (.slice aH hs.length cH) (.slice aT 0 cT) (.I 0) (.I 0) (.slice (some ⟨V.heap.size,0,none⟩) 0 0) (.bool false));have E5:=zaa (zuv V4 (w.heap.size+1) (.slice aW ws.length cW) (.slice aP 0 cP) (.slice aS es.length cS) (.slice aQ 0 cQ) (.slice aH hs.length cH) (.slice aT 0 cT) (.I 0) (.I 0) (.slice (some ⟨V.heap.size,0,none⟩) 0 0) (.bool false));have S5:=zaa (Soft.outside O5.o Y4.o rfl);have Z6:=zaa ((O5.o.block (w.heap.size+1+1) (by have q1:=HZ.o;have q2:=Z2.o;have q3:=Z3.o;have q5:=Z5.o;omega) (by omega)).trans Z4.o);have B5:=zaa (B4.o.trans (O5.o.below (B:=w.heap.size) (by omega) (by have q1:=HZ.o;have q2:=Z2.o;have q3:=Z3.o;have q5:=Z5.o;omega)))
 obtain⟨V5,hV5⟩:=zE (zhl V4 (w.heap.size+1) (.slice aW ws.length cW) (.slice aP 0 cP) (.slice aS es.length cS) (.slice aQ 0 cQ) (.slice aH hs.length cH) (.slice aT 0 cT) (.I 0) (.I 0) (.slice (some ⟨V.heap.size,0,none⟩) 0 0) (.bool false))
 rw[<- hV5]at O5 S5 Z6 B5 E5;have O6:=zaa (yaez V5 (w.heap.size+1+1) (.I cd) (.I vl) (.slice aN nm.length cN));have S6:=zaa (((SV.o.trans S5.o).trans (Soft.outside O6.o Z6.o rfl)).drew);have B6:=zaa (B5.o.trans (O6.o.below (B:=w.heap.size) (by omega) (by have q6:=E5.o;have q1:=HZ.o;have q2:=Z2.o;have q3:=Z3.o;have q5:=Z5.o;omega))).drew
 have F6:Hid (RdFs (putA V5 (w.heap.size+1+1) (.I cd) (.I vl) (.slice aN nm.length cN)).drew (.agg #[.slice aW ws.length cW,.slice aP 0 cP,.slice aS es.length cS,.slice aQ 0 cQ,.slice aH hs.length cH,.slice aT 0 cT,.I 0,.I 0,.slice (some ⟨V.heap.size,0,none⟩) 0 0,.bool false]) ws es hs [] 0 0 [] false) :=
  ⟨aW,cW,aP,cP,aS,cS,aQ,cQ,aH,cH,aT,cT,_,_,rfl,(RD.o.below BV.o).soft S6.o H1.o H2.o,RdI.soft (Rd.below RH.o BV.o) S6.o HH.o,RdM.soft (Rd.below RT.o BV.o) S6.o,yang _ _⟩
 unfold zhl at hV5;clear O5 S5 Z6 B5 E5 O6 S6 SV S4 O4 X4 A4 Y4 Z4 B4 BB3 B3 B2 Z2 Z3 Z5 RD RH RT;go_wp2_with fail
 go_region
 all_goals
  go_wp2_with fail;rw[<- hV5];refine bodyPost_ret (v:=.tuple #[.agg #[.slice aW ws.length cW,.slice aP 0 cP,.slice aS es.length cS,.slice aQ 0 cQ,.slice aH hs.length cH,.slice aT 0 cT,.I 0,.I 0,.slice (some ⟨V.heap.size,0,none⟩) 0 0,.bool false],.agg #[.I cd,.I vl,.slice aN nm.length cN],.I 0]) (by simp[results,Tryz.results102,go_sem,hV5,y0,y1,y2,y3,y4,y5,y6,y7,y8,y9,m0,m1,m2]) rfl ?_;exact⟨_,_,_,_,rfl,F6.o,B6.o⟩
def touH(hs:List Int)(k:Nat):List Int:=hs.set k (min 64 (hs.getD k 0+8))
theorem zcb{hs:List Int}(h:zla hs=true):hs.length=128/\∀ k (h:k<hs.length),0<=hs[k]/\hs[k]<=64:=of_decide_eq_true h
theorem yaxg{w:World}{base:Nat}{e:TypeId}{size:Nat}{v:Value}{n:Nat}{xs:List Value}(h:w.ownsRow base e size v n xs)(hn:0<n):∃ b c,v=.slice (some ⟨b,0,none⟩) n c/\n<=c:=by
 rcases(zad h).shape with ⟨_,e,_⟩ | ⟨b,c,rfl,hc,_⟩
 ·omega
 ·exact⟨b,c,rfl,hc⟩
theorem zyx(v:Value)(hs:List Int)(i p:Nat)(w:World)(h:RdI w v hs)(hn:hs.length=128)(hr:∀ k (h:k<hs.length),0<=hs[k]/\hs[k]<=64)(hi:i<16)(hp:p<8) :
  zC 160 #[v,.I (i:Int),.I (p:Int)] w fun e w'=>∃ v',e=.returned v'/\Row w' 3 1 w.heap.size w'.heap.size v' (touH hs (8*i+p)).length (zeg (touH hs (8*i+p)))/\zB w w':=by
 obtain⟨ao,cap,rfl,hcap,-⟩:=h.shape;have HR:Hid (Rd (w.alloc (.cells #[] 3)) 1 (.slice ao hs.length cap) hs.length (zeg hs)):=Rd.below h (zR.alloc zL _)
 have ST:Hid (InI w (w.alloc (.cells #[] 3)) (.slice (some ⟨w.heap.size,0,none⟩) 0 0) []):=⟨World.ownsRow_lit w #[] 0 zL (by simp[maxLen]) (by simp),zR.alloc zL _⟩
 have hz:w.heap.size<=(w.alloc (.cells #[] 3)).heap.size:=ST.o.z
 obtain⟨k,hk⟩:∃ k:Nat,k=8*i+p:=⟨_,rfl⟩
 have k128:k<hs.length:=by omega
 have KL:=zaa k128;obtain⟨z0,z64⟩:=hr k k128
 have EG:Hid (hs.getD k 0=hs[k]):=by unfold Hid;rw[List.getD_eq_getElem?_getD,List.getElem?_eq_getElem k128];rfl
 have ET:Hid (touH hs k=hs.set k (min 64 (hs[k]+8))):=by unfold Hid touH;rw[EG.o]
 have kk:(8*(i:Int)+(p:Int))=(k:Int):=by omega
 have w1f:IntKind.i64.wrap (8*(i:Int))=8*(i:Int):=by rw[IntKind.wrap_i64];omega
 have w2f:IntKind.i64.wrap (8*(i:Int)+(p:Int))=(k:Int):=by rw[IntKind.wrap_i64];omega
 have w3f:IntKind.i64.wrap (hs[k]+8)=hs[k]+8:=by rw[IntKind.wrap_i64];omega
 rw[<- hk,ET.o];have CL:Hid ((zeg hs)[k]?=some (.I hs[k])):=zdx hs k k128
 have hl1:hs.length<=128:=by omega
 clear hn hr;generalize hs[k]=z at *
 obtain⟨mm,em,cm⟩:∃ mm:Int,min 64 (z+8)=mm/\((z+8<64/\mm=z+8)\/(¬ z+8<64/\mm=64)):=⟨min 64 (z+8),rfl,by omega⟩
 rw[em];have CM:=zaa cm;clear em cm;go_enter Tryz.func160,Tryz.ntmps160;go_wp2_with (at_builtin;refine zae _ rfl (.tmp 8) (.tmp 9) 23 rfl w.heap.size 3 (.I 0) 1 8 Tryz.underlying23 zmo rfl (by decide) _ _ _ rfl ST.o.l _ hs.length (zeg hs) rfl HR.o (zgp _) (by first | omega | (simp[maxLen];omega)) (by first | omega | (simp;omega)) hz ?_);intro vN wN hownN hgrN
 have G:Hid (Row wN 3 1 w.heap.size wN.heap.size vN hs.length (zeg hs)):=by
  have q:=zad hownN;exact q
 have BN:Hid (zB w wN):=ST.o.b.grown hgrN hz (fun q hq=>(ST.o.l.lt q hq).1);obtain⟨b,c,rfl,hcb⟩:=yaxg G.o.1 (by omega)
 obtain⟨_,_,_,hbl,hfr,hcl⟩:=G.o.at
 have e0:wN.cell? ⟨b,k,none⟩=some (.I z):=(hcl k (by omega)).trans CL.o;have f0:wN.frozen? ⟨b,k,none⟩=false:=hfr k
 have k0:(0:Int)<=(k:Int):=by omega
 have k1:(k:Int)<(hs.length:Int):=by omega
 have hwb:w.heap.size<=b:=(G.o.1.lt b rfl).1
 have R2:Hid (Row (wN.setCell ⟨b,k,none⟩ (.I mm)) 3 1 w.heap.size (wN.setCell ⟨b,k,none⟩ (.I mm)).heap.size (.slice (some ⟨b,0,none⟩) hs.length c) hs.length (zeg (hs.set k mm))):=by
  have q:=G.o.stored k (.I mm);rw[zna]at q;exact q.wide zL (by simp[World.setCell])
 have B2:Hid (zB w (wN.setCell ⟨b,k,none⟩ (.I mm))):=BN.o.setCell hwb _;clear hownN hgrN G BN HR ST hcl hfr kk hk
 rcases CM.o with ⟨c1,rfl⟩ | ⟨c1,rfl⟩
 ·have mn:min 64 (z+8)=z+8:=by omega
  go_wp2;go_ret;exact⟨_,rfl,R2.o,B2.o⟩
 ·have mn:min 64 (z+8)=64:=by omega
  go_wp2;go_ret;exact⟨_,rfl,R2.o,B2.o⟩
end Go.Proofs.YtogcbbkhnpmgeaaGreatDoor
