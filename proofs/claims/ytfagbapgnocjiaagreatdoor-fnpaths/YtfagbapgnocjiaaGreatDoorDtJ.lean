/- An operation is planned: by the model. -/
import Derived.Test.YtfagbapgnocjiaaGreatDoorZBL
set_option maxRecDepth 100000
set_option maxHeartbeats 16000000
namespace Go.Proofs.YtfagbapgnocjiaaGreatDoor
open Go.RowKit
structure OpA where
 steps:List Mi
 code:Int
 val:Int
 names:List ByteArray
def stV(x:Ino):Int:=100*x.kind+10*x.size+min 9 x.links
def stA(ns:List Ino)(r:Int×Int):OpA:=if r.2=0 then⟨[],0,stV (zal ns r.1.toNat),[]⟩ else⟨[],r.2,0,[]⟩
def lsA(ns:List Ino)(ds:List Den)(r:Int×Int):OpA:=if r.2=0 then(if zag ns r.1=2 then⟨[],0,0,zbk (zaw ds r.1)⟩ else⟨[],10,0,[]⟩) else⟨[],r.2,0,[]⟩
def opI(ws:List Int)(ps:List St)(es:List Int)(qs:List Se)(ns:List Ino)(ds:List Den)(k:Int)(p t:ByteArray)(g y:Int):OpA:=if k=6 then⟨(wrI ns ds p g y).1,(wrI ns ds p g y).2,0,[]⟩else if k=8 then⟨[],(rpI ws ps es qs ns ds p g).2,(rpI ws ps es qs ns ds p g).1,[]⟩else if k=9 then stA ns (lkI ns ds p)else if k=10 then lsA ns ds (lkI ns ds p) else⟨zdh (zdq (uoI ns ds k p t g).1),(uoI ns ds k p t g).2,0,[]⟩
def OpOut(w w':World)(vS vA:Value)(A:OpA):Prop:=∃ vN,vA=.agg #[.I A.code,.I A.val,vN]/\Row w' 173 3 w.heap.size w'.heap.size vS A.steps.length (mis A.steps)/\Row w' 9 1 w.heap.size w'.heap.size vN A.names.length (zcs A.names)/\zB w w'
structure OpT(w w':World)(vS vN:Value)(L:List Mi)(ss:List ByteArray):Prop where
 s:Row w' 173 3 w.heap.size w'.heap.size vS L.length (mis L)
 n:Row w' 9 1 w.heap.size w'.heap.size vN ss.length (zcs ss)
 b:zB w w'
theorem OpT.below{w w1 w2:World}{vS vN:Value}{L:List Mi}{ss:List ByteArray}(h:OpT w w1 vS vN L ss)(hb:zB w1 w2):OpT w w2 vS vN L ss :=
 ⟨(h.s.below hb zL).wide zL hb.size,(h.n.below hb zL).wide zL hb.size,zab h.b hb h.b.size⟩
theorem yatz:(173:Nat)≠81:=by decide
theorem yatq:(208:Nat)≠81:=by decide
theorem yatv:(9:Nat)≠81:=by decide
theorem OpT.set{w w1:World}{vS vN:Value}{L:List Mi}{ss:List ByteArray}(h:OpT w w1 vS vN L ss){b:Nat}{c:Array Value}{fr:Nat×Nat}(hb:w1.heap[b]?=some (.cells c 81 fr))(hw:w.heap.size<=b)(j:Nat)(u:Value):OpT w (w1.setCell ⟨b,j,none⟩ u) vS vN L ss:=by
 have e:(w1.setCell ⟨b,j,none⟩ u).heap.size=w1.heap.size:=by simp[World.setCell]
 refine⟨?_,?_,h.b.setCell hw _⟩
 ·rw[e];exact⟨ownsRow_setCell_other h.s.1 (zcl h.s.1 hb yatz) u,h.s.2⟩
 ·rw[e];exact⟨ownsRow_setCell_other h.n.1 (zcl h.n.1 hb yatv) u,h.n.2⟩
theorem OpT.names{w w1:World}{vS vN vM:Value}{L:List Mi}{ss tt:List ByteArray}(h:OpT w w1 vS vN L ss)(k:Row w1 9 1 w.heap.size w1.heap.size vM tt.length (zcs tt)):OpT w w1 vS vM L tt:=⟨h.s,k,h.b⟩
theorem OpT.steps{w w1:World}{vS vN vM:Value}{L M:List Mi}{ss:List ByteArray}(h:OpT w w1 vS vN L ss)(k:Row w1 173 3 w.heap.size w1.heap.size vM M.length (mis M)):OpT w w1 vM vN M ss:=⟨k,h.n,h.b⟩
theorem puA{w:World}{b:Nat}{t:TypeId}{x y z:Value}(h:w.heap[b]?=some (.cells #[x,y,z] t (0,0)))(u:Value):(w.setCell ⟨b,0,none⟩ u).heap[b]?=some (.cells #[u,y,z] t (0,0)):=by
 simp[World.setCell,Array.getElem?_modify,h]
theorem puB{w:World}{b:Nat}{t:TypeId}{x y z:Value}(h:w.heap[b]?=some (.cells #[x,y,z] t (0,0)))(u:Value):(w.setCell ⟨b,1,none⟩ u).heap[b]?=some (.cells #[x,u,z] t (0,0)):=by
 simp[World.setCell,Array.getElem?_modify,h]
theorem puC{w:World}{b:Nat}{t:TypeId}{x y z:Value}(h:w.heap[b]?=some (.cells #[x,y,z] t (0,0)))(u:Value):(w.setCell ⟨b,2,none⟩ u).heap[b]?=some (.cells #[x,y,u] t (0,0)):=by
 simp[World.setCell,Array.getElem?_modify,h]
theorem zil{w:World}{b c j:Nat}{o:Obj}(h:w.heap[b]?=some o)(hn:b≠c)(u:Value):(w.setCell ⟨c,j,none⟩ u).heap[b]?=some o:=by
 rw[Below.heap_setCell _ _ _ _ hn];exact h
theorem tri{w:World}{b:Nat}{t:TypeId}{x y z:Value}(h:w.heap[b]?=some (.cells #[x,y,z] t (0,0))):w.cell? ⟨b,0,none⟩=some x/\w.cell? ⟨b,1,none⟩=some y/\w.cell? ⟨b,2,none⟩=some z/\w.frozen? ⟨b,0,none⟩=false/\w.frozen? ⟨b,1,none⟩=false/\w.frozen? ⟨b,2,none⟩=false :=
 ⟨(zat (xs:=[x,y,z]) h 0).1,(zat (xs:=[x,y,z]) h 1).1,(zat (xs:=[x,y,z]) h 2).1,(zat (xs:=[x,y,z]) h 0).2,(zat (xs:=[x,y,z]) h 1).2,(zat (xs:=[x,y,z]) h 2).2⟩
theorem OpOut.drew{w w1:World}{vS vA:Value}{A:OpA}(h:OpOut w w1 vS vA A):OpOut w w1.drew vS vA A:=by
 obtain⟨vN,e,a,b,c⟩:=h;have T:=(OpT.mk a b c).below ((Below.refl w1.heap.size w1).drew);exact⟨vN,e,T.s,T.n,T.b⟩
theorem zgx{w w1:World}{vS vN:Value}{b:Nat}{c v:Int}{x y z:Value}{A:OpA}(h:OpT w w1 vS vN A.steps A.names)(hb:w1.heap[b]?=some (.cells #[x,y,z] 81 (0,0)))(hw:w.heap.size<=b)(e1:A.code=c)(e2:A.val=v) :
  OpOut w (((w1.setCell ⟨b,0,none⟩ (.I c)).setCell ⟨b,1,none⟩ (.I v)).setCell ⟨b,2,none⟩ vN) vS (.agg #[.I c,.I v,vN]) A:=by
 have T:=((h.set hb hw 0 (.I c)).set (puA hb _) hw 1 (.I v)).set (puB (puA hb _) _) hw 2 vN;exact⟨vN,by rw[e1,e2],T.s,T.n,T.b⟩
theorem yaec(vd v:Value)(ws:List Int)(ps:List St)(es:List Int)(qs:List Se)(ns:List Ino)(ds:List Den)(k:Int)(p t:ByteArray)(g y:Int)(w:World)(hd:RdDev w vd ws ps es qs)(hP:pmB ws ps=true)(hB:zpe es qs=true)(h:RdIm w v ns ds)(hi:zbo ns ds=true)(hp:p.size<=65536)(ht:t.size<=65536) :
  zC 138 #[vd,v,.agg #[.I k,.string p,.string t,.I g,.I y]] w fun e w'=>∃ vS vA,e=.returned (.tuple #[vS,vA])/\OpOut w w' vS vA (opI ws ps es qs ns ds k p t g y):=by
 have LW:=zaa (fun w1 (hb:zB w w1)=>zvj v ns ds p g y w1 (h.below hb) hi hp);have LR:=zaa (fun w1 (hb:zB w w1)=>zwz vd v ws ps es qs ns ds p g w1 (hd.below hb) hP hB (h.below hb) hi hp);have LL:=zaa (fun w1 (hb:zB w w1)=>zeu v ns ds p w1 (h.below hb) hi hp);have LN:=zaa (fun i w1 (hb:zB w w1)=>zgu v ns ds i w1 (h.below hb) (by have:=(zao hi).2.1;omega));have LU:=zaa (fun w1 (hb:zB w w1)=>zpg v ns ds k p t g y w1 (h.below hb) hi hp ht);have LPl:=zaa (fun vu w1 h=>zmg vu (uoI ns ds k p t g).1 w1 h (yasb (zbv.1 hi)).1 (yasb (zbv.1 hi)).2);have EO:=zaa (show opI ws ps es qs ns ds k p t g y=if k=6 then⟨(wrI ns ds p g y).1,(wrI ns ds p g y).2,0,[]⟩else if k=8 then⟨[],(rpI ws ps es qs ns ds p g).2,(rpI ws ps es qs ns ds p g).1,[]⟩else if k=9 then stA ns (lkI ns ds p)else if k=10 then lsA ns ds (lkI ns ds p) else⟨zdh (zdq (uoI ns ds k p t g).1),(uoI ns ds k p t g).2,0,[]⟩from rfl);have LO:=zaa (yaab (s:=p) hi);have OK:=zaa (fun i (h16:i<16)=>zcf ((zbv.1 hi).ok i h16));obtain⟨l16,l24,_⟩:=zao hi;have L16:=zaa l16;obtain⟨dW,eW,dP,eP,dS,eS,dQ,eQ,rfl,-,-⟩:=hd.form;obtain⟨vW,vP,rfl,h1,h2⟩:=h;obtain⟨aW,cW,rfl,_,hcW⟩:=h1.shape;obtain⟨aP,cP,rfl,_,_⟩:=h2.shape;obtain⟨bW,oW,rfl,hblW,hcellW⟩:=hcW (by omega)
 have HC:Hid (∀ i:Nat,i<16->∀ x,x=zal ns i->∀ w',zB w w'->w'.cell? ⟨bW,oW+i*11,none⟩=some (.I x.kind)/\w'.cell? ⟨bW,oW+i*11+1,none⟩=some (.I x.size)/\w'.cell? ⟨bW,oW+i*11+2,none⟩=some (.I x.links)/\w'.cell? ⟨bW,oW+i*11+3,none⟩=some (.I x.m0)/\w'.cell? ⟨bW,oW+i*11+4,none⟩=some (.I x.m1)/\w'.cell? ⟨bW,oW+i*11+5,none⟩=some (.I x.m2)/\w'.cell? ⟨bW,oW+i*11+6,none⟩=some (.I x.m3)/\w'.cell? ⟨bW,oW+i*11+7,none⟩=some (.I x.m4)/\w'.cell? ⟨bW,oW+i*11+8,none⟩=some (.I x.m5)/\w'.cell? ⟨bW,oW+i*11+9,none⟩=some (.I x.m6)/\w'.cell? ⟨bW,oW+i*11+10,none⟩=some (.I x.m7)):=fun i h16 x hx w' hb=>by
  rw[hx,zcc (by omega:i<ns.length)];obtain⟨a0,a1,a2,a3,a4,a5,a6,a7,a8,a9,a10⟩:=hcellW i (by omega);exact⟨(hb.cell (p:=⟨bW,oW+i*11,none⟩) hblW).trans a0,(hb.cell (p:=⟨bW,oW+i*11+1,none⟩) hblW).trans a1,(hb.cell (p:=⟨bW,oW+i*11+2,none⟩) hblW).trans a2,(hb.cell (p:=⟨bW,oW+i*11+3,none⟩) hblW).trans a3,(hb.cell (p:=⟨bW,oW+i*11+4,none⟩) hblW).trans a4,(hb.cell (p:=⟨bW,oW+i*11+5,none⟩) hblW).trans a5,(hb.cell (p:=⟨bW,oW+i*11+6,none⟩) hblW).trans a6,(hb.cell (p:=⟨bW,oW+i*11+7,none⟩) hblW).trans a7,(hb.cell (p:=⟨bW,oW+i*11+8,none⟩) hblW).trans a8,(hb.cell (p:=⟨bW,oW+i*11+9,none⟩) hblW).trans a9,(hb.cell (p:=⟨bW,oW+i*11+10,none⟩) hblW).trans a10⟩
 clear h1 h2 hcW hcellW hd hP hB hi l16 l24
 obtain⟨W,hW⟩:=zE (((((((w.alloc (.cells #[.slice dW ws.length eW,.slice dP ps.length eP,.slice dS es.length eS,.slice dQ qs.length eQ] 78)).alloc (.cells #[.slice (some ⟨bW,oW,none⟩) ns.length cW,.slice aP ds.length cP] 26)).alloc (.cells #[.I k,.string p,.string t,.I g,.I y] 104)).alloc (.cells #[.I 0,.I 0,.N] 81)).alloc (.cells #[] 9)).alloc (.cells #[.I 0,.I 0,.slice (some ⟨w.heap.size+1+1+1+1,0,none⟩) 0 0] 81)).alloc (.cells #[] 173))
 have hzW:W.heap.size=w.heap.size+1+1+1+1+1+1+1:=by rw[hW];simp only[World.size_alloc]
 have BW:Hid (zB w W):=by
  rw[hW]
  repeat (first | exact zR | refine Below.alloc ?_ (by first | exact Nat.le_refl _ | (simp only[World.size_alloc];omega)) _)
 have VD:Hid (∀ w',zB W w'->w'.heap[w.heap.size]?=some (.cells #[.slice dW ws.length eW,.slice dP ps.length eP,.slice dS es.length eS,.slice dQ qs.length eQ] 78 (0,0))):=fun w' hb=>(hb.block _ (by omega)).trans (by
  rw[hW]
  exact zak (zak (zak (zak (zak (zak (zai rfl)))))))
 have VI:Hid (∀ w',zB W w'->w'.heap[w.heap.size+1]?=some (.cells #[.slice (some ⟨bW,oW,none⟩) ns.length cW,.slice aP ds.length cP] 26 (0,0))):=fun w' hb=>(hb.block _ (by omega)).trans (by
  have:=zai (w:=(w.alloc (.cells #[.slice dW ws.length eW,.slice dP ps.length eP,.slice dS es.length eS,.slice dQ qs.length eQ] 78))) (o:=.cells #[.slice (some ⟨bW,oW,none⟩) ns.length cW,.slice aP ds.length cP] 26) rfl;simp only[World.size_alloc]at this;rw[hW]
  exact zak (zak (zak (zak (zak this)))))
 have VO:Hid (∀ w',zB W w'->w'.heap[w.heap.size+1+1]?=some (.cells ([.I k,.string p,.string t,.I g,.I y]:List Value).toArray 104 (0,0))):=fun w' hb=>(hb.block _ (by omega)).trans (by
  have:=zai (w:=((w.alloc (.cells #[.slice dW ws.length eW,.slice dP ps.length eP,.slice dS es.length eS,.slice dQ qs.length eQ] 78)).alloc (.cells #[.slice (some ⟨bW,oW,none⟩) ns.length cW,.slice aP ds.length cP] 26))) (o:=.cells #[.I k,.string p,.string t,.I g,.I y] 104) rfl;simp only[World.size_alloc]at this;rw[hW]
  exact zak (zak (zak (zak this))))
 have VR:Hid (∀ w',zB W w'->w'.heap[w.heap.size+1+1+1]?=some (.cells #[.I 0,.I 0,.N] 81 (0,0))):=fun w' hb=>(hb.block _ (by omega)).trans (by
  have:=zai (w:=(((w.alloc (.cells #[.slice dW ws.length eW,.slice dP ps.length eP,.slice dS es.length eS,.slice dQ qs.length eQ] 78)).alloc (.cells #[.slice (some ⟨bW,oW,none⟩) ns.length cW,.slice aP ds.length cP] 26)).alloc (.cells #[.I k,.string p,.string t,.I g,.I y] 104))) (o:=.cells #[.I 0,.I 0,.N] 81) rfl;simp only[World.size_alloc]at this;rw[hW]
  exact zak (zak (zak this)))
 have VA:Hid (∀ w',zB W w'->w'.heap[w.heap.size+1+1+1+1+1]?=some (.cells #[.I 0,.I 0,.slice (some ⟨w.heap.size+1+1+1+1,0,none⟩) 0 0] 81 (0,0))):=fun w' hb=>(hb.block _ (by omega)).trans (by
  have:=zai (w:=(((((w.alloc (.cells #[.slice dW ws.length eW,.slice dP ps.length eP,.slice dS es.length eS,.slice dQ qs.length eQ] 78)).alloc (.cells #[.slice (some ⟨bW,oW,none⟩) ns.length cW,.slice aP ds.length cP] 26)).alloc (.cells #[.I k,.string p,.string t,.I g,.I y] 104)).alloc (.cells #[.I 0,.I 0,.N] 81)).alloc (.cells #[] 9))) (o:=.cells #[.I 0,.I 0,.slice (some ⟨w.heap.size+1+1+1+1,0,none⟩) 0 0] 81) rfl;simp only[World.size_alloc]at this;rw[hW]
  exact zak this)
 have TW:Hid (OpT w W (.slice (some ⟨w.heap.size+1+1+1+1+1+1,0,none⟩) 0 0) (.slice (some ⟨w.heap.size+1+1+1+1,0,none⟩) 0 0) [] []):=by
  have r4:=zmx (((((w.alloc (.cells #[.slice dW ws.length eW,.slice dP ps.length eP,.slice dS es.length eS,.slice dQ qs.length eQ] 78)).alloc (.cells #[.slice (some ⟨bW,oW,none⟩) ns.length cW,.slice aP ds.length cP] 26)).alloc (.cells #[.I k,.string p,.string t,.I g,.I y] 104)).alloc (.cells #[.I 0,.I 0,.N] 81)));have r6:=zlq (((((((w.alloc (.cells #[.slice dW ws.length eW,.slice dP ps.length eP,.slice dS es.length eS,.slice dQ qs.length eQ] 78)).alloc (.cells #[.slice (some ⟨bW,oW,none⟩) ns.length cW,.slice aP ds.length cP] 26)).alloc (.cells #[.I k,.string p,.string t,.I g,.I y] 104)).alloc (.cells #[.I 0,.I 0,.N] 81)).alloc (.cells #[] 9)).alloc (.cells #[.I 0,.I 0,.slice (some ⟨w.heap.size+1+1+1+1,0,none⟩) 0 0] 81))) 173 3;have f5:Below ((((((w.alloc (.cells #[.slice dW ws.length eW,.slice dP ps.length eP,.slice dS es.length eS,.slice dQ qs.length eQ] 78)).alloc (.cells #[.slice (some ⟨bW,oW,none⟩) ns.length cW,.slice aP ds.length cP] 26)).alloc (.cells #[.I k,.string p,.string t,.I g,.I y] 104)).alloc (.cells #[.I 0,.I 0,.N] 81)).alloc (.cells #[] 9))).heap.size ((((((w.alloc (.cells #[.slice dW ws.length eW,.slice dP ps.length eP,.slice dS es.length eS,.slice dQ qs.length eQ] 78)).alloc (.cells #[.slice (some ⟨bW,oW,none⟩) ns.length cW,.slice aP ds.length cP] 26)).alloc (.cells #[.I k,.string p,.string t,.I g,.I y] 104)).alloc (.cells #[.I 0,.I 0,.N] 81)).alloc (.cells #[] 9))) ((((((((w.alloc (.cells #[.slice dW ws.length eW,.slice dP ps.length eP,.slice dS es.length eS,.slice dQ qs.length eQ] 78)).alloc (.cells #[.slice (some ⟨bW,oW,none⟩) ns.length cW,.slice aP ds.length cP] 26)).alloc (.cells #[.I k,.string p,.string t,.I g,.I y] 104)).alloc (.cells #[.I 0,.I 0,.N] 81)).alloc (.cells #[] 9)).alloc (.cells #[.I 0,.I 0,.slice (some ⟨w.heap.size+1+1+1+1,0,none⟩) 0 0] 81)).alloc (.cells #[] 173))):=(zR.alloc zL _).alloc (by simp) _;have q4:=r4.below f5 zL
  have e7:((((((((w.alloc (.cells #[.slice dW ws.length eW,.slice dP ps.length eP,.slice dS es.length eS,.slice dQ qs.length eQ] 78)).alloc (.cells #[.slice (some ⟨bW,oW,none⟩) ns.length cW,.slice aP ds.length cP] 26)).alloc (.cells #[.I k,.string p,.string t,.I g,.I y] 104)).alloc (.cells #[.I 0,.I 0,.N] 81)).alloc (.cells #[] 9)).alloc (.cells #[.I 0,.I 0,.slice (some ⟨w.heap.size+1+1+1+1,0,none⟩) 0 0] 81)).alloc (.cells #[] 173))).heap.size=W.heap.size:=by rw[hW]
  simp only[World.size_alloc]at r6 q4;rw[hW];refine⟨r6.wide (by omega) (by simp only[World.size_alloc];omega),q4.wide (by omega) (by simp only[World.size_alloc];omega),?_⟩;rw[<- hW];exact BW.o
 have hz3:w.heap.size<=w.heap.size+1+1+1:=by omega
 have hz5:w.heap.size<=w.heap.size+1+1+1+1+1:=by omega
 have n15:¬ w.heap.size+1=w.heap.size+1+1+1+1+1:=by omega
 have n25:¬ w.heap.size+1+1=w.heap.size+1+1+1+1+1:=by omega
 have n35:¬ w.heap.size+1+1+1=w.heap.size+1+1+1+1+1:=by omega
 have hzw:w.heap.size+1+1+1+1+1+1+1<=W.heap.size:=by omega
 clear hzW;rw[EO.o]
 by_cases c6:k=6
 case pos =>
  subst c6;rw[if_pos rfl];clear EO LR LL LN LU LPl LO OK HC;generalize wrI ns ds p g y=R at *;obtain⟨L,cd⟩:=R;simp only[yaff]at LW;go_enter Tryz.func138,Tryz.ntmps138;go_wp2_with fail;rw[<- hW];clear hW;refine(LW.o _ BW.o).mono ?_;rintro e w1 ⟨v1,rfl,hr1,hb1⟩;obtain⟨-,aS,cS,hvS,-⟩:=hr1.rd;subst hvS;have T_1:=zaa ((TW.o.below hb1).steps (hr1.wide (lo':=w.heap.size) (hi':=w1.heap.size) BW.o.size zL));have VI_1:=zaa (VI.o _ hb1);have VO_1:=zaa (VO.o _ hb1);have VR_1:=zaa (VR.o _ hb1);have VA_1:=zaa (VA.o _ hb1)
  have hs1:w.heap.size+1+1+1+1+1+1+1<=w1.heap.size:=by have:=hb1.size;omega
  clear hr1 hb1 LW;obtain⟨r0,r1,r2,r3,r4,r5⟩:=tri VA_1.o;obtain⟨u0,u1,u2,u3,u4,u5⟩:=tri VR_1.o
  obtain⟨w2,hw2⟩:=zE (w1.setCell ⟨w.heap.size+1+1+1+1+1,0,none⟩ (.I cd))
  have T_2:=zaa (T_1.o.set VA_1.o hz5 0 (.I cd));have VI_2:=zaa (zil (j:=0) VI_1.o n15 (.I cd));have VO_2:=zaa (zil (j:=0) VO_1.o n25 (.I cd));have VR_2:=zaa (zil (j:=0) VR_1.o n35 (.I cd));have VA_2:=zaa (puA VA_1.o (.I cd));rw[<- hw2]at T_2 VI_2 VO_2 VR_2 VA_2
  have hs2:w.heap.size+1+1+1+1+1+1+1<=w2.heap.size:=by rw[hw2];simp only[World.setCell,Array.size_modify];exact hs1
  go_wp2_with fail;rw[<- hw2];clear hw2;clear r0 r1 r2 r3 r4 r5 u0 u1 u2 u3 u4 u5;have FIN:=zaa (zgx (A:=⟨L,cd,0,[]⟩) T_2.o VR_2.o hz3 rfl rfl);obtain⟨r0,r1,r2,r3,r4,r5⟩:=tri VA_2.o;obtain⟨u0,u1,u2,u3,u4,u5⟩:=tri VR_2.o;clear T_2 VA VR TW VD VI VO BW VI_2 VO_2 VR_2 VA_2
  go_region
  all_goals
   go_wp2;refine bodyPost_ret (v:=.tuple #[.slice aS L.length cS,.agg #[.I cd,.I 0,.slice (some ⟨w.heap.size+1+1+1+1,0,none⟩) 0 0]]) (by simp[results,Tryz.results138,go_sem,u0,u1,u2]) rfl ⟨_,_,rfl,?_⟩
   first | exact FIN.o | exact FIN.o.drew
 rw[if_neg c6]
 by_cases c8:k=8
 case pos =>
  subst c8;rw[if_pos rfl];clear EO LW LL LN LU LPl LO OK HC;generalize rpI ws ps es qs ns ds p g=R at *;obtain⟨rv,cd⟩:=R;simp only at LR;go_enter Tryz.func138,Tryz.ntmps138;go_wp2_with fail;rw[<- hW];clear hW;refine(LR.o _ BW.o).mono ?_;rintro e w1 ⟨rfl,hb1⟩;have T_1:=zaa (TW.o.below hb1);have VI_1:=zaa (VI.o _ hb1);have VO_1:=zaa (VO.o _ hb1);have VR_1:=zaa (VR.o _ hb1);have VA_1:=zaa (VA.o _ hb1)
  have hs1:w.heap.size+1+1+1+1+1+1+1<=w1.heap.size:=by have:=hb1.size;omega
  clear hb1 LR;obtain⟨r0,r1,r2,r3,r4,r5⟩:=tri VA_1.o;obtain⟨u0,u1,u2,u3,u4,u5⟩:=tri VR_1.o
  obtain⟨w2,hw2⟩:=zE (w1.setCell ⟨w.heap.size+1+1+1+1+1,1,none⟩ (.I rv))
  have T_2:=zaa (T_1.o.set VA_1.o hz5 1 (.I rv));have VI_2:=zaa (zil (j:=1) VI_1.o n15 (.I rv));have VO_2:=zaa (zil (j:=1) VO_1.o n25 (.I rv));have VR_2:=zaa (zil (j:=1) VR_1.o n35 (.I rv));have VA_2:=zaa (puB VA_1.o (.I rv));rw[<- hw2]at T_2 VI_2 VO_2 VR_2 VA_2
  have hs2:w.heap.size+1+1+1+1+1+1+1<=w2.heap.size:=by rw[hw2];simp only[World.setCell,Array.size_modify];exact hs1
  obtain⟨w3,hw3⟩:=zE (w2.setCell ⟨w.heap.size+1+1+1+1+1,0,none⟩ (.I cd))
  have T_3:=zaa (T_2.o.set VA_2.o hz5 0 (.I cd));have VI_3:=zaa (zil (j:=0) VI_2.o n15 (.I cd));have VO_3:=zaa (zil (j:=0) VO_2.o n25 (.I cd));have VR_3:=zaa (zil (j:=0) VR_2.o n35 (.I cd));have VA_3:=zaa (puA VA_2.o (.I cd));rw[<- hw3]at T_3 VI_3 VO_3 VR_3 VA_3
  have hs3:w.heap.size+1+1+1+1+1+1+1<=w3.heap.size:=by rw[hw3];simp only[World.setCell,Array.size_modify];exact hs2
  go_wp2_with fail;rw[<- hw2,<- hw3];clear hw2 hw3 T_1 T_2 VI_1 VO_1 VR_1 VA_1 VI_2 VO_2 VR_2 VA_2;clear r0 r1 r2 r3 r4 r5 u0 u1 u2 u3 u4 u5;have FIN:=zaa (zgx (A:=⟨[],cd,rv,[]⟩) T_3.o VR_3.o hz3 rfl rfl);obtain⟨r0,r1,r2,r3,r4,r5⟩:=tri VA_3.o;obtain⟨u0,u1,u2,u3,u4,u5⟩:=tri VR_3.o;clear T_3 VA VR TW VD VI VO BW VI_3 VO_3 VR_3 VA_3
  go_region
  all_goals
   go_wp2;refine bodyPost_ret (v:=.tuple #[.slice (some ⟨w.heap.size+1+1+1+1+1+1,0,none⟩) 0 0,.agg #[.I cd,.I rv,.slice (some ⟨w.heap.size+1+1+1+1,0,none⟩) 0 0]]) (by simp[results,Tryz.results138,go_sem,u0,u1,u2]) rfl ⟨_,_,rfl,?_⟩
   first | exact FIN.o | exact FIN.o.drew
 rw[if_neg c8]
 by_cases c9:k=9
 case pos =>
  subst c9;rw[if_pos rfl];clear EO LW LR LN LU LPl;have EA:=zaa (fun r=>show stA ns r=if r.2=0 then⟨[],0,stV (zal ns r.1.toNat),[]⟩ else⟨[],r.2,0,[]⟩from rfl);generalize lkI ns ds p=R at *;obtain⟨li,lc⟩:=R;have EB:=zaa (EA.o (li,lc));generalize stA ns (li,lc)=AA at *;clear EA;simp only at LL LO EB;go_enter Tryz.func138,Tryz.ntmps138;go_wp2_with fail;rw[<- hW];clear hW;refine(LL.o _ BW.o).mono ?_;rintro e w1 ⟨rfl,hb1⟩;have T_1:=zaa (TW.o.below hb1);have VI_1:=zaa (VI.o _ hb1);have VO_1:=zaa (VO.o _ hb1);have VR_1:=zaa (VR.o _ hb1);have VA_1:=zaa (VA.o _ hb1)
  have hs1:w.heap.size+1+1+1+1+1+1+1<=w1.heap.size:=by have:=hb1.size;omega
  clear hb1 LL;obtain⟨r0,r1,r2,r3,r4,r5⟩:=tri VA_1.o;obtain⟨u0,u1,u2,u3,u4,u5⟩:=tri VR_1.o
  obtain⟨w2,hw2⟩:=zE (w1.setCell ⟨w.heap.size+1+1+1+1+1,0,none⟩ (.I lc))
  have T_2:=zaa (T_1.o.set VA_1.o hz5 0 (.I lc));have VI_2:=zaa (zil (j:=0) VI_1.o n15 (.I lc));have VO_2:=zaa (zil (j:=0) VO_1.o n25 (.I lc));have VR_2:=zaa (zil (j:=0) VR_1.o n35 (.I lc));have VA_2:=zaa (puA VA_1.o (.I lc));rw[<- hw2]at T_2 VI_2 VO_2 VR_2 VA_2
  have hs2:w.heap.size+1+1+1+1+1+1+1<=w2.heap.size:=by rw[hw2];simp only[World.setCell,Array.size_modify];exact hs1
  go_upto_region 17 with fail;rw[<- hw2];clear hw2 T_1 VI_1 VO_1 VR_1 VA_1;clear r0 r1 r2 r3 r4 r5 u0 u1 u2 u3 u4 u5
  by_cases c:lc=0
  case neg =>
   rw[if_neg c]at EB;obtain rfl:=EB.o
   have q:(lc != 0)=true:=by rw[bne_iff_ne];exact c
   clear c;go_wp2_with fail;have FIN:=zaa (zgx (A:=⟨[],lc,0,[]⟩) T_2.o VR_2.o hz3 rfl rfl);obtain⟨r0,r1,r2,r3,r4,r5⟩:=tri VA_2.o;obtain⟨u0,u1,u2,u3,u4,u5⟩:=tri VR_2.o;clear T_2 VA VR TW VD VI VO BW VI_2 VO_2 VR_2 VA_2
   go_region
   all_goals
    go_wp2;refine bodyPost_ret (v:=.tuple #[.slice (some ⟨w.heap.size+1+1+1+1+1+1,0,none⟩) 0 0,.agg #[.I lc,.I 0,.slice (some ⟨w.heap.size+1+1+1+1,0,none⟩) 0 0]]) (by simp[results,Tryz.results138,go_sem,u0,u1,u2]) rfl ⟨_,_,rfl,?_⟩
    first | exact FIN.o | exact FIN.o.drew
  subst c;rw[if_pos rfl]at EB
  obtain⟨i,rfl⟩:∃ i:Nat,li=(i:Int):=⟨li.toNat,by have:=LO.o;omega⟩
  have i16:i<16:=by have:=LO.o;omega
  have i0:(0:Int)<=(i:Int):=by omega
  have il:(i:Int)<(ns.length:Int):=by have:=L16.o;omega
  obtain⟨x,hx⟩:=zE (zal ns i)
  rw[Int.toNat_natCast,<- hx]at EB;have HC2:=zaa (HC.o i i16 x hx);have OK2:=zaa (OK.o i i16);rw[<- hx]at OK2;clear HC OK LO hx;obtain⟨⟨k0,k2⟩,⟨z0,z8⟩,⟨l0,l24⟩,-⟩:=OK2.o;clear OK2;obtain⟨a0,a1,a2,a3,a4,a5,a6,a7,a8,a9,a10⟩:=HC2.o _ T_2.o.b;obtain⟨x0,x1,-,-⟩:=zad VI_2.o
  obtain⟨w3,hw3⟩:=zE (w2.alloc (.cells #[.I x.kind,.I x.size,.I x.links,.I x.m0,.I x.m1,.I x.m2,.I x.m3,.I x.m4,.I x.m5,.I x.m6,.I x.m7] 41))
  have hb3:zB w2 w3:=by rw[hw3];exact zR.alloc zL _
  have T_3:=zaa (T_2.o.below hb3);have VI_3:=zaa ((hb3.block _ (by omega)).trans VI_2.o);have VO_3:=zaa ((hb3.block _ (by omega)).trans VO_2.o);have VR_3:=zaa ((hb3.block _ (by omega)).trans VR_2.o);have VA_3:=zaa ((hb3.block _ (by omega)).trans VA_2.o);have hs3:w.heap.size+1+1+1+1+1+1+1<=w3.heap.size:=Nat.le_trans hs2 hb3.size
  have VX:Hid (w3.heap[w2.heap.size]?=some (.cells x.cs.toArray 41 (0,0))):=by rw[hw3];exact zai rfl
  go_upto_region 20 with fail;rw[<- hw3];clear hw3 hb3 T_2 VI_2 VO_2 VR_2 VA_2 a0 a1 a2 a3 a4 a5 a6 a7 a8 a9 a10 x0 x1 HC2;have o0:=(zat VO_3.o 0).1;have y0:w3.cell? ⟨w2.heap.size,0,none⟩=some (.I x.kind):=(zat VX.o 0).1;have y1:w3.cell? ⟨w2.heap.size,1,none⟩=some (.I x.size):=(zat VX.o 1).1;have y2:w3.cell? ⟨w2.heap.size,2,none⟩=some (.I x.links):=(zat VX.o 2).1;simp only[List.getElem?_cons_zero]at o0;have EV:=zaa (show stV x=100*x.kind+10*x.size+min 9 x.links from rfl);generalize stV x=sv at *;generalize x.kind=xk at *;generalize x.size=xs at *;generalize x.links=xl at *;clear VX
  have w1f:IntKind.i64.wrap (100*xk)=100*xk:=by rw[IntKind.wrap_i64];omega
  have w2f:IntKind.i64.wrap (10*xs)=10*xs:=by rw[IntKind.wrap_i64];omega
  have w3f:IntKind.i64.wrap (100*xk+10*xs)=100*xk+10*xs:=by rw[IntKind.wrap_i64];omega
  have ml:∃ mm:Int,min 9 xl=mm/\0<=mm/\mm<=9:=⟨_,rfl,by omega,by omega⟩
  obtain⟨mm,em,m0,m9⟩:=ml;rw[em]at EV
  have w4f:IntKind.i64.wrap (100*xk+10*xs+mm)=100*xk+10*xs+mm:=by rw[IntKind.wrap_i64];omega
  obtain⟨r0,r1,r2,r3,r4,r5⟩:=tri VA_3.o;obtain⟨u0,u1,u2,u3,u4,u5⟩:=tri VR_3.o;rw[EV.o]at EB;obtain rfl:=EB.o;clear EV
  obtain⟨w4,hw4⟩:=zE (w3.setCell ⟨w.heap.size+1+1+1+1+1,1,none⟩ (.I (100*xk+10*xs+mm)))
  have T_4:=zaa (T_3.o.set VA_3.o hz5 1 (.I (100*xk+10*xs+mm)));have VI_4:=zaa (zil (j:=1) VI_3.o n15 (.I (100*xk+10*xs+mm)));have VO_4:=zaa (zil (j:=1) VO_3.o n25 (.I (100*xk+10*xs+mm)));have VR_4:=zaa (zil (j:=1) VR_3.o n35 (.I (100*xk+10*xs+mm)));have VA_4:=zaa (puB VA_3.o (.I (100*xk+10*xs+mm)));rw[<- hw4]at T_4 VI_4 VO_4 VR_4 VA_4
  have hs4:w.heap.size+1+1+1+1+1+1+1<=w4.heap.size:=by rw[hw4];simp only[World.setCell,Array.size_modify];exact hs3
  go_wp2_with fail;rw[<- hw4];clear hw4 T_3 VI_3 VO_3 VR_3 VA_3 y0 y1 y2 o0;clear r0 r1 r2 r3 r4 r5 u0 u1 u2 u3 u4 u5;have FIN:=zaa (zgx (A:=⟨[],0,100*xk+10*xs+mm,[]⟩) T_4.o VR_4.o hz3 rfl rfl);obtain⟨r0,r1,r2,r3,r4,r5⟩:=tri VA_4.o;obtain⟨u0,u1,u2,u3,u4,u5⟩:=tri VR_4.o;clear T_4 VA VR TW VD VI VO BW VI_4 VO_4 VR_4 VA_4
  go_region
  all_goals
   go_wp2;refine bodyPost_ret (v:=.tuple #[.slice (some ⟨w.heap.size+1+1+1+1+1+1,0,none⟩) 0 0,.agg #[.I 0,.I (100*xk+10*xs+mm),.slice (some ⟨w.heap.size+1+1+1+1,0,none⟩) 0 0]]) (by simp[results,Tryz.results138,go_sem,u0,u1,u2]) rfl ⟨_,_,rfl,?_⟩
   first | exact FIN.o | exact FIN.o.drew
 rw[if_neg c9]
 by_cases c10:k=10
 case pos =>
  subst c10;rw[if_pos rfl];clear EO LW LR LU LPl;have EA:=zaa (fun r=>show lsA ns ds r=if r.2=0 then(if zag ns r.1=2 then⟨[],0,0,zbk (zaw ds r.1)⟩ else⟨[],10,0,[]⟩) else⟨[],r.2,0,[]⟩from rfl);generalize lkI ns ds p=R at *;obtain⟨li,lc⟩:=R;have EB:=zaa (EA.o (li,lc));generalize lsA ns ds (li,lc)=AA at *;clear EA;simp only at LL LO EB;go_enter Tryz.func138,Tryz.ntmps138;go_wp2_with fail;rw[<- hW];clear hW;refine(LL.o _ BW.o).mono ?_;rintro e w1 ⟨rfl,hb1⟩;have T_1:=zaa (TW.o.below hb1);have VI_1:=zaa (VI.o _ hb1);have VO_1:=zaa (VO.o _ hb1);have VR_1:=zaa (VR.o _ hb1);have VA_1:=zaa (VA.o _ hb1)
  have hs1:w.heap.size+1+1+1+1+1+1+1<=w1.heap.size:=by have:=hb1.size;omega
  clear hb1 LL;obtain⟨r0,r1,r2,r3,r4,r5⟩:=tri VA_1.o;obtain⟨u0,u1,u2,u3,u4,u5⟩:=tri VR_1.o
  obtain⟨w2,hw2⟩:=zE (w1.setCell ⟨w.heap.size+1+1+1+1+1,0,none⟩ (.I lc))
  have T_2:=zaa (T_1.o.set VA_1.o hz5 0 (.I lc));have VI_2:=zaa (zil (j:=0) VI_1.o n15 (.I lc));have VO_2:=zaa (zil (j:=0) VO_1.o n25 (.I lc));have VR_2:=zaa (zil (j:=0) VR_1.o n35 (.I lc));have VA_2:=zaa (puA VA_1.o (.I lc));rw[<- hw2]at T_2 VI_2 VO_2 VR_2 VA_2
  have hs2:w.heap.size+1+1+1+1+1+1+1<=w2.heap.size:=by rw[hw2];simp only[World.setCell,Array.size_modify];exact hs1
  go_upto_region 17 with fail;rw[<- hw2];clear hw2 T_1 VI_1 VO_1 VR_1 VA_1;clear r0 r1 r2 r3 r4 r5 u0 u1 u2 u3 u4 u5
  by_cases c:lc=0
  case neg =>
   rw[if_neg c]at EB;obtain rfl:=EB.o
   have q:(lc != 0)=true:=by rw[bne_iff_ne];exact c
   clear c;go_wp2_with fail;have FIN:=zaa (zgx (A:=⟨[],lc,0,[]⟩) T_2.o VR_2.o hz3 rfl rfl);obtain⟨r0,r1,r2,r3,r4,r5⟩:=tri VA_2.o;obtain⟨u0,u1,u2,u3,u4,u5⟩:=tri VR_2.o;clear T_2 VA VR TW VD VI VO BW VI_2 VO_2 VR_2 VA_2
   go_region
   all_goals
    go_wp2;refine bodyPost_ret (v:=.tuple #[.slice (some ⟨w.heap.size+1+1+1+1+1+1,0,none⟩) 0 0,.agg #[.I lc,.I 0,.slice (some ⟨w.heap.size+1+1+1+1,0,none⟩) 0 0]]) (by simp[results,Tryz.results138,go_sem,u0,u1,u2]) rfl ⟨_,_,rfl,?_⟩
    first | exact FIN.o | exact FIN.o.drew
  subst c;rw[if_pos rfl]at EB
  obtain⟨i,rfl⟩:∃ i:Nat,li=(i:Int):=⟨li.toNat,by have:=LO.o;omega⟩
  have i16:i<16:=by have:=LO.o;omega
  have i0:(0:Int)<=(i:Int):=by omega
  have il:(i:Int)<(ns.length:Int):=by have:=L16.o;omega
  obtain⟨x,hx⟩:=zE (zal ns i)
  have EK:Hid (zag ns (i:Int)=x.kind):=by unfold Hid;rw[hx];rfl
  rw[EK.o]at EB;have HC2:=zaa (HC.o i i16 x hx);have OK2:=zaa (OK.o i i16);rw[<- hx]at OK2;clear HC OK LO hx EK;obtain⟨⟨k0,k2⟩,⟨z0,z8⟩,⟨l0,l24⟩,-⟩:=OK2.o;clear OK2;obtain⟨a0,a1,a2,a3,a4,a5,a6,a7,a8,a9,a10⟩:=HC2.o _ T_2.o.b;obtain⟨x0,x1,-,-⟩:=zad VI_2.o
  obtain⟨w3,hw3⟩:=zE (w2.alloc (.cells #[.I x.kind,.I x.size,.I x.links,.I x.m0,.I x.m1,.I x.m2,.I x.m3,.I x.m4,.I x.m5,.I x.m6,.I x.m7] 41))
  have hb3:zB w2 w3:=by rw[hw3];exact zR.alloc zL _
  have T_3:=zaa (T_2.o.below hb3);have VI_3:=zaa ((hb3.block _ (by omega)).trans VI_2.o);have VO_3:=zaa ((hb3.block _ (by omega)).trans VO_2.o);have VR_3:=zaa ((hb3.block _ (by omega)).trans VR_2.o);have VA_3:=zaa ((hb3.block _ (by omega)).trans VA_2.o);have hs3:w.heap.size+1+1+1+1+1+1+1<=w3.heap.size:=Nat.le_trans hs2 hb3.size
  have VX:Hid (w3.heap[w2.heap.size]?=some (.cells x.cs.toArray 41 (0,0))):=by rw[hw3];exact zai rfl
  go_upto_region 20 with fail;rw[<- hw3];clear hw3 hb3 T_2 VI_2 VO_2 VR_2 VA_2 a0 a1 a2 a3 a4 a5 a6 a7 a8 a9 a10 x0 x1 HC2;have o0:=(zat VO_3.o 0).1;have y0:w3.cell? ⟨w2.heap.size,0,none⟩=some (.I x.kind):=(zat VX.o 0).1;have y1:w3.cell? ⟨w2.heap.size,1,none⟩=some (.I x.size):=(zat VX.o 1).1;have y2:w3.cell? ⟨w2.heap.size,2,none⟩=some (.I x.links):=(zat VX.o 2).1;simp only[List.getElem?_cons_zero]at o0;generalize x.kind=xk at *;clear VX
  by_cases c:xk=2
  case neg =>
   rw[if_neg c]at EB;obtain rfl:=EB.o
   have q:(xk != 2)=true:=by rw[bne_iff_ne];exact c
   clear c;obtain⟨r0,r1,r2,r3,r4,r5⟩:=tri VA_3.o;obtain⟨u0,u1,u2,u3,u4,u5⟩:=tri VR_3.o
   obtain⟨w4,hw4⟩:=zE (w3.setCell ⟨w.heap.size+1+1+1+1+1,0,none⟩ (.I 10))
   have T_4:=zaa (T_3.o.set VA_3.o hz5 0 (.I 10));have VI_4:=zaa (zil (j:=0) VI_3.o n15 (.I 10));have VO_4:=zaa (zil (j:=0) VO_3.o n25 (.I 10));have VR_4:=zaa (zil (j:=0) VR_3.o n35 (.I 10));have VA_4:=zaa (puA VA_3.o (.I 10));rw[<- hw4]at T_4 VI_4 VO_4 VR_4 VA_4
   have hs4:w.heap.size+1+1+1+1+1+1+1<=w4.heap.size:=by rw[hw4];simp only[World.setCell,Array.size_modify];exact hs3
   go_wp2_with fail;rw[<- hw4];clear hw4 T_3 VI_3 VO_3 VR_3 VA_3 y0 y1 y2 o0;clear r0 r1 r2 r3 r4 r5 u0 u1 u2 u3 u4 u5;have FIN:=zaa (zgx (A:=⟨[],10,0,[]⟩) T_4.o VR_4.o hz3 rfl rfl);obtain⟨r0,r1,r2,r3,r4,r5⟩:=tri VA_4.o;obtain⟨u0,u1,u2,u3,u4,u5⟩:=tri VR_4.o;clear T_4 VA VR TW VD VI VO BW VI_4 VO_4 VR_4 VA_4
   go_region
   all_goals
    go_wp2;refine bodyPost_ret (v:=.tuple #[.slice (some ⟨w.heap.size+1+1+1+1+1+1,0,none⟩) 0 0,.agg #[.I 10,.I 0,.slice (some ⟨w.heap.size+1+1+1+1,0,none⟩) 0 0]]) (by simp[results,Tryz.results138,go_sem,u0,u1,u2]) rfl ⟨_,_,rfl,?_⟩
    first | exact FIN.o | exact FIN.o.drew
  subst c;rw[if_pos rfl]at EB;have LN2:=zaa (LN.o (i:Int));clear LN;obtain⟨x0,x1,-,-⟩:=zad VI_3.o;go_wp2_with fail;refine(LN2.o _ T_3.o.b).mono ?_;rintro e w4 ⟨v4,rfl,hr4,hb4⟩;obtain⟨-,aN,cN,hvN,-⟩:=hr4.rd;subst hvN;have T_4:=zaa (T_3.o.below hb4);have VI_4:=zaa ((hb4.block _ (by omega)).trans VI_3.o);have VO_4:=zaa ((hb4.block _ (by omega)).trans VO_3.o);have VR_4:=zaa ((hb4.block _ (by omega)).trans VR_3.o);have VA_4:=zaa ((hb4.block _ (by omega)).trans VA_3.o);have hs4:w.heap.size+1+1+1+1+1+1+1<=w4.heap.size:=Nat.le_trans hs3 hb4.size;have TN:=zaa (T_4.o.names (hr4.wide (lo':=w.heap.size) (hi':=w4.heap.size) T_3.o.b.size zL));clear T_4;have T_4:=TN;clear TN hr4 hb4 LN2 T_3 VI_3 VO_3 VR_3 VA_3 y0 y1 y2 o0 x0 x1;generalize zbk (zaw ds (i:Int))=NN at *;obtain rfl:=EB.o;obtain⟨r0,r1,r2,r3,r4,r5⟩:=tri VA_4.o;obtain⟨u0,u1,u2,u3,u4,u5⟩:=tri VR_4.o
  obtain⟨w5,hw5⟩:=zE (w4.setCell ⟨w.heap.size+1+1+1+1+1,2,none⟩ (.slice aN NN.length cN))
  have T_5:=zaa (T_4.o.set VA_4.o hz5 2 (.slice aN NN.length cN));have VI_5:=zaa (zil (j:=2) VI_4.o n15 (.slice aN NN.length cN));have VO_5:=zaa (zil (j:=2) VO_4.o n25 (.slice aN NN.length cN));have VR_5:=zaa (zil (j:=2) VR_4.o n35 (.slice aN NN.length cN));have VA_5:=zaa (puC VA_4.o (.slice aN NN.length cN));rw[<- hw5]at T_5 VI_5 VO_5 VR_5 VA_5
  have hs5:w.heap.size+1+1+1+1+1+1+1<=w5.heap.size:=by rw[hw5];simp only[World.setCell,Array.size_modify];exact hs4
  go_wp2_with fail;rw[<- hw5];clear hw5 T_4 VI_4 VO_4 VR_4 VA_4;clear r0 r1 r2 r3 r4 r5 u0 u1 u2 u3 u4 u5;have FIN:=zaa (zgx (A:=⟨[],0,0,NN⟩) T_5.o VR_5.o hz3 rfl rfl);obtain⟨r0,r1,r2,r3,r4,r5⟩:=tri VA_5.o;obtain⟨u0,u1,u2,u3,u4,u5⟩:=tri VR_5.o;clear T_5 VA VR TW VD VI VO BW VI_5 VO_5 VR_5 VA_5
  go_region
  all_goals
   go_wp2;refine bodyPost_ret (v:=.tuple #[.slice (some ⟨w.heap.size+1+1+1+1+1+1,0,none⟩) 0 0,.agg #[.I 0,.I 0,.slice aN NN.length cN]]) (by simp[results,Tryz.results138,go_sem,u0,u1,u2]) rfl ⟨_,_,rfl,?_⟩
   first | exact FIN.o | exact FIN.o.drew
 rw[if_neg c10]
 have q6:(k == 6)=false:=by rw[beq_eq_false_iff_ne];exact c6
 have q8:(k == 8)=false:=by rw[beq_eq_false_iff_ne];exact c8
 have q9:(k == 9)=false:=by rw[beq_eq_false_iff_ne];exact c9
 have q10:(k == 10)=false:=by rw[beq_eq_false_iff_ne];exact c10
 clear c6 c8 c9 c10;clear EO LW LR LL LN LO OK HC;generalize uoI ns ds k p t g=R at *;obtain⟨us,cd⟩:=R;simp only[zru]at LU LPl;go_enter Tryz.func138,Tryz.ntmps138;go_wp2_with fail;rw[<- hW];clear hW;refine(LU.o _ BW.o).mono ?_;rintro e w1 ⟨v1,rfl,hr1,hb1⟩;obtain⟨-,aU,cU,hvU,-⟩:=hr1.rd;subst hvU;have RU1:=zaa hr1;have T_1:=zaa (TW.o.below hb1);have VI_1:=zaa (VI.o _ hb1);have VO_1:=zaa (VO.o _ hb1);have VR_1:=zaa (VR.o _ hb1);have VA_1:=zaa (VA.o _ hb1)
 have hs1:w.heap.size+1+1+1+1+1+1+1<=w1.heap.size:=by have:=hb1.size;omega
 clear hr1 LU;obtain⟨r0,r1,r2,r3,r4,r5⟩:=tri VA_1.o;obtain⟨u0,u1,u2,u3,u4,u5⟩:=tri VR_1.o
 obtain⟨w2,hw2⟩:=zE (w1.setCell ⟨w.heap.size+1+1+1+1+1,0,none⟩ (.I cd))
 have T_2:=zaa (T_1.o.set VA_1.o hz5 0 (.I cd));have VI_2:=zaa (zil (j:=0) VI_1.o n15 (.I cd));have VO_2:=zaa (zil (j:=0) VO_1.o n25 (.I cd));have VR_2:=zaa (zil (j:=0) VR_1.o n35 (.I cd));have VA_2:=zaa (puA VA_1.o (.I cd));rw[<- hw2]at T_2 VI_2 VO_2 VR_2 VA_2
 have hs2:w.heap.size+1+1+1+1+1+1+1<=w2.heap.size:=by rw[hw2];simp only[World.setCell,Array.size_modify];exact hs1
 have RU2:Hid (RdE w2 (.slice aU us.length cU) us):=by
  have q:=zcl RU1.o.1 VA_1.o yatq;rw[hw2];exact Row.rd (hi:=w1.heap.size) ⟨ownsRow_setCell_other RU1.o.1 q _,RU1.o.2⟩
 go_wp2_with fail;rw[<- hw2];clear hw2 T_1 VI_1 VO_1 VR_1 VA_1 RU1 hb1;clear r0 r1 r2 r3 r4 r5 u0 u1 u2 u3 u4 u5
 have KE:Hid (∀ w',zB w2 w'->w'.cell? ⟨w.heap.size+1+1+1+1+1,0,none⟩=some (.I cd)/\w'.cell? ⟨w.heap.size+1+1+1+1+1,1,none⟩=some (.I 0)/\w'.cell? ⟨w.heap.size+1+1+1+1+1,2,none⟩=some (.slice (some ⟨w.heap.size+1+1+1+1,0,none⟩) 0 0)):=fun w' hb=>by
  obtain⟨a,b,c,-,-,-⟩:=tri ((hb.block _ (by omega)).trans VA_2.o);exact⟨a,b,c⟩
 have KF:Hid (∀ w' a b c,zB w2 w'->(((w'.setCell ⟨w.heap.size+1+1+1,0,none⟩ a).setCell ⟨w.heap.size+1+1+1,1,none⟩ b).setCell ⟨w.heap.size+1+1+1,2,none⟩ c).cell? ⟨w.heap.size+1+1+1+1+1,0,none⟩=some (.I cd)/\(((w'.setCell ⟨w.heap.size+1+1+1,0,none⟩ a).setCell ⟨w.heap.size+1+1+1,1,none⟩ b).setCell ⟨w.heap.size+1+1+1,2,none⟩ c).cell? ⟨w.heap.size+1+1+1+1+1,1,none⟩=some (.I 0)/\(((w'.setCell ⟨w.heap.size+1+1+1,0,none⟩ a).setCell ⟨w.heap.size+1+1+1,1,none⟩ b).setCell ⟨w.heap.size+1+1+1,2,none⟩ c).cell? ⟨w.heap.size+1+1+1+1+1,2,none⟩=some (.slice (some ⟨w.heap.size+1+1+1+1,0,none⟩) 0 0)):=fun w' a b c hb=>by
  have V:=(hb.block _ (by omega)).trans VA_2.o
  have n53:¬ w.heap.size+1+1+1+1+1=w.heap.size+1+1+1:=by omega
  obtain⟨a,b,c,-,-,-⟩:=tri (zil (j:=2) (zil (j:=1) (zil (j:=0) V n53 a) n53 b) n53 c);exact⟨a,b,c⟩
 have B2r:=zaa (Below.refl w2.heap.size w2);obtain⟨r0,r1,r2⟩:=KE.o _ B2r.o
 have VR3:Hid (∀ w',zB w2 w'->w'.heap[w.heap.size+1+1+1]?=some (.cells #[.I 0,.I 0,.N] 81 (0,0))):=fun w' hb=>(hb.block _ (by omega)).trans VR_2.o
 go_region_held3 (fun w'=>w'.cell? ⟨w.heap.size+1+1+1+1+1,0,none⟩=some (.I cd)/\w'.cell? ⟨w.heap.size+1+1+1+1+1,1,none⟩=some (.I 0)/\w'.cell? ⟨w.heap.size+1+1+1+1+1,2,none⟩=some (.slice (some ⟨w.heap.size+1+1+1+1,0,none⟩) 0 0))
  (first | with_reducible exact KF.o _ _ _ _ A3.o | with_reducible exact KE.o _ A3.o | with_reducible exact KE.o _ B2r.o | with_reducible exact KE.o _ B2r.o.drew)
  (first
   | (go_at_call 165;refine(LPl.o _ _ (Rd.below RU2.o (by first | with_reducible exact B2r.o | with_reducible exact B2r.o.drew))).mono ?_;rintro e w3 ⟨v3,rfl,hr3,hb3⟩;have A3:=zaa (zdn hb3);obtain⟨-,aS,cS,hvS,-⟩:=hr3.rd;subst hvS;have hz2:=T_2.o.b.size;have T3:=zaa ((T_2.o.below A3.o).steps (hr3.wide (lo':=w.heap.size) (hi':=w3.heap.size) (by first | exact hz2 | (simp only[World.size_drew];exact hz2)) zL));have V3:=zaa (VR3.o _ A3.o);clear hr3 hb3;obtain⟨u0,u1,u2,u3,u4,u5⟩:=tri V3.o;obtain⟨t0,t1,t2⟩:=KE.o _ A3.o))
 all_goals
  have FIN:=zaa (zgx (A:=⟨zdh (zdq us),cd,0,[]⟩) T3.o V3.o hz3 rfl rfl);go_wp2;refine bodyPost_ret (v:=.tuple #[.slice aS (zdh (zdq us)).length cS,.agg #[.I cd,.I 0,.slice (some ⟨w.heap.size+1+1+1+1,0,none⟩) 0 0]]) (by simp[results,Tryz.results138,go_sem,u0,u1,u2]) rfl ⟨_,_,rfl,?_⟩
  first | exact FIN.o | exact FIN.o.drew
end Go.Proofs.YtfagbapgnocjiaaGreatDoor
