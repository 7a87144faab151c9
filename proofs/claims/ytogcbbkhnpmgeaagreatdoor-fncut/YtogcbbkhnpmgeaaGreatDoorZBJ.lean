import Derived.Test.YtogcbbkhnpmgeaaGreatDoorZBI
set_option maxRecDepth 100000
set_option maxHeartbeats 16000000
namespace Go.Proofs.YtogcbbkhnpmgeaaGreatDoor
open Go.RowKit
theorem yanm{w:World}{b:Nat}{t:TypeId}{x y z u a b' c d:Value}(h:w.heap[b]?=some (.cells #[x,y,z,u] t (0,0))):(putR w b a b' c d).heap[b]?=some (.cells #[a,b',c,d] t (0,0)):=by
 simp[putR,World.setCell,Array.getElem?_modify,h]
theorem belY{a b c:World}(h1:zB a b)(h2:zB b c):zB a c:=zab h1 h2 h1.size
structure MidA(l:List Mi)(ws:List Int)(ps:List St)(es:List Int)(qs:List Se)(w wr:World)(k:Nat)(W:List Int)(P:List St)(E:List Int)(Q:List Se)(a b' c d:Value):Prop where
 run:mr (l.take k) ws ps es qs=⟨0,W,P,E,Q⟩
 box:wr.heap[w.heap.size]?=some (.cells #[a,b',c,d] 31 (0,0))
 res:wr.heap[w.heap.size+1]?=some (.cells #[.N,.N,.N,.N] 31 (0,0))
 rd:RdDev wr (.agg #[a,b',c,d]) W P E Q
 below:zB w wr
 size:w.heap.size+1<wr.heap.size
theorem RdDev.put{w:World}{b:Nat}{ws:List Int}{ps:List St}{es:List Int}{qs:List Se}{v:Value}{x y z u:Value}{t:TypeId}{fr:Nat×Nat}(h:RdDev w v ws ps es qs)(hb:w.heap[b]?=some (.cells #[x,y,z,u] t fr))(hx:∀ n,¬ x=.I n)(hy:∀ n,¬ y=.I n)(hz:∀ n,¬ z=.I n)(hu:∀ n,¬ u=.I n)(p q r s:Value):RdDev (putR w b p q r s) v ws ps es qs:=by
 obtain⟨vW,vP,vS,vQ,rfl,h1,h2⟩:=h;have O:=zhw w b p q r s;have N:=zdf hx hy hz hu;exact⟨_,_,_,_,rfl,h1.boxless hb N O.size (fun j hj hn=>O.block j hj (by omega)),h2.boxless hb N O.size (fun j hj hn=>O.block j hj (by omega))⟩
theorem yaoa{l:List Mi}{ws:List Int}{ps:List St}{es:List Int}{qs:List Se}(h:(mr l ws ps es qs).c=0){k:Nat}(hk:k<l.length){W:List Int}{P:List St}{E:List Int}{Q:List Se}(r:mr (l.take k) ws ps es qs=⟨0,W,P,E,Q⟩):zpi l[k] P Q=false:=by
 cases f:zpi l[k] P Q with
 | false=>rfl
 | true =>
  rw[yase hk r f]at h
  cases h
theorem yabw(v vL:Value)(l:List Mi)(ws:List Int)(ps:List St)(es:List Int)(qs:List Se)(W':List Int)(P':List St)(E':List Int)(Q':List Se)(w:World)(h:RdDev w v ws ps es qs)(hL:RdM w vL l)(hp:pmB ws ps=true)(hb:zfj es qs=true)(hm:∀ m∈l,miB m=true)(hl:l.length<=1000)(r:mr l ws ps es qs=⟨0,W',P',E',Q'⟩) :
  zC 108 #[v,vL] w fun e w'=>∃ v',e=.returned v'/\RdDev w' v' W' P' E' Q'/\zB w w':=by
 have HD:=zaa h;have CP:=zaa (And.intro hp hb);have CM:=zaa hm;have C0:=zaa (show(mr l ws ps es qs).c=0 by rw[r]);have RR:=zaa r;obtain⟨aL,cL,rfl,-,hcL⟩:=hL.shape;have HL:=zaa hcL;obtain⟨aW,cW,aP,cP,aS,cS,aQ,cQ,rfl,-,-⟩:=h.form;clear h hL hcL hp hb hm r
 obtain⟨V,hV⟩:=zE ((w.alloc (.cells #[.slice aW ws.length cW,.slice aP ps.length cP,.slice aS es.length cS,.slice aQ qs.length cQ] 31)).alloc (.cells #[.N,.N,.N,.N] 31))
 have hb0:zB w V:=by
  rw[hV]
  repeat (refine Below.alloc ?_ (by simp<;>omega) _)
  exact zR
 have I0:Hid (MidA l ws ps es qs w V 0 ws ps es qs (.slice aW ws.length cW) (.slice aP ps.length cP) (.slice aS es.length cS) (.slice aQ qs.length cQ)) :=
  ⟨rfl,by rw[hV];exact zal (zah rfl),by rw[hV];exact zah (by simp),HD.o.below hb0,hb0,by rw[hV];simp⟩
 clear hb0;go_enter Tryz.func108,Tryz.ntmps108;go_upto_region 1 with fail;rw[<- hV];clear hV;go_wp2_with fail
 go_loopw [5] (fun i wq=>∃ k:Nat,k<=l.length/\i=.I k/\∃ (W:List Int) (P:List St) (E:List Int) (Q:List Se) (d1 d2 d3 d4:Option Addr) (f1 f2 f3 f4:Nat),Hid (MidA l ws ps es qs w wq k W P E Q (.slice d1 W.length f1) (.slice d2 P.length f2) (.slice d3 E.length f3) (.slice d4 Q.length f4))) (fun i _=>l.length-(intOf i).toNat)
 case atStart=>exact⟨0,by omega,rfl,ws,ps,es,qs,_,_,_,_,_,_,_,_,I0⟩
 case round =>
  obtain⟨k,hk,rfl,W,P,E,Q,d1,d2,d3,d4,f1,f2,f3,f4,I⟩:=hrel;clear I0;have hsz:=I.o.size
  by_cases hlt:k<l.length
  ·obtain⟨bL,oL,rfl,hblL,hcellL⟩:=HL.o (by omega);obtain⟨g0,g1,g2⟩:=hcellL k hlt;have e0:=(I.o.below.cell (p:=⟨bL,oL+k*3,none⟩) hblL).trans g0;have e1:=(I.o.below.cell (p:=⟨bL,oL+k*3+1,none⟩) hblL).trans g1;have e2:=(I.o.below.cell (p:=⟨bL,oL+k*3+2,none⟩) hblL).trans g2
   have k0:(0:Int)<=(k:Int):=by omega
   have k1:(k:Int)<(l.length:Int):=by omega
   clear g0 g1 g2 hcellL
   have XO:=zaa (show pmB W P=true/\zfj E Q=true by
    have:=yark (l.take k) ws ps es qs CP.o.1 CP.o.2 (fun m hm=>CM.o m (List.mem_of_mem_take hm));rw[I.o.run]at this
    exact this)
   have NX:=zaa (yare hlt I.o.run (yaoa C0.o hlt I.o.run))
   have LD:Hid (∀ v2 w1,RdDev w1 v2 W P E Q->zC 164 #[v2,.agg #[.I l[k].kind,.I l[k].at_,.I l[k].val]] w1 fun e w'=>∃ v',e=.returned v'/\RdDev w' v' (doW l[k] W P) (doP l[k] P) (doE l[k] E Q) (doQ l[k] Q)/\zB w1 w'):=fun v2 w1 h2=>yagh v2 l[k] W P E Q w1 h2 XO.o.1 XO.o.2 (CM.o _ (List.getElem_mem hlt))
   obtain⟨x0,x1,x2,x3,y0,y1,y2,y3⟩:=zao I.o.box;generalize doW l[k] W P=W2 at *;generalize doP l[k] P=P2 at *;generalize doE l[k] E Q=E2 at *;generalize doQ l[k] Q=Q2 at *;generalize l[k]=m at *;go_wp2_with fail
   go_region_law (go_simp;go_at_call 164;refine(LD.o _ _ (I.o.rd.below (by repeat (first | with_reducible exact zR | with_reducible refine Below.drew ?_)))).mono ?_;rintro e wf ⟨vf,rfl,hrf,hbf⟩;have BF:Hid (zB wr wf):=belY (by repeat (first | with_reducible exact zR | with_reducible refine Below.drew ?_)) hbf;have RF:=zaa hrf;obtain⟨i0,j0,i1,j1,i2,j2,i3,j3,rfl,-,-⟩:=hrf.form;have DB:=zaa ((BF.o.block w.heap.size (by omega)).trans I.o.box);obtain⟨z0,z1,z2,z3,z4,z5,z6,z7⟩:=zao DB.o;clear hrf hbf)
   all_goals
    have DR:=zaa ((BF.o.block (w.heap.size+1) (by omega)).trans I.o.res)
    have G:Hid (MidA l ws ps es qs w (putR wf w.heap.size (.slice i0 W2.length j0) (.slice i1 P2.length j1) (.slice i2 E2.length j2) (.slice i3 Q2.length j3)) (k+1) W2 P2 E2 Q2 (.slice i0 W2.length j0) (.slice i1 P2.length j1) (.slice i2 E2.length j2) (.slice i3 Q2.length j3)):=by
     have O:=zhw wf w.heap.size (.slice i0 W2.length j0) (.slice i1 P2.length j1) (.slice i2 E2.length j2) (.slice i3 Q2.length j3);have Z:=znu wf w.heap.size (.slice i0 W2.length j0) (.slice i1 P2.length j1) (.slice i2 E2.length j2) (.slice i3 Q2.length j3);have zf:=BF.o.size;exact⟨NX.o,yanm DB.o,(O.block _ (by omega) (by omega)).trans DR.o,RF.o.put DB.o (zaf _ _ _) (zaf _ _ _) (zaf _ _ _) (zaf _ _ _) _ _ _ _,(zab I.o.below BF.o (by omega)).trans (O.below zL (by omega)),Nat.lt_of_lt_of_eq (show w.heap.size+1<wf.heap.size by omega) Z.symm⟩
    go_wp2
    go_roundw
    case rel=>exact⟨k+1,by omega,by go_num,_,_,_,_,i0,i1,i2,i3,j0,j1,j2,j3,G⟩
    case measure=>simp[intOf];omega
  ·have RUN:=yatp (by omega) I.o.run;rw[RR.o]at RUN;obtain⟨-,rfl,rfl,rfl,rfl⟩:=MR.mk.inj RUN;obtain⟨x0,x1,x2,x3,-,-,-,-⟩:=zao I.o.box;obtain⟨y0,y1,y2,y3,y4,y5,y6,y7⟩:=zao I.o.res;have O:=zaa (zhw wr (w.heap.size+1) (.slice d1 W'.length f1) (.slice d2 P'.length f2) (.slice d3 E'.length f3) (.slice d4 Q'.length f4));have RD:=zaa (I.o.rd.put I.o.res (zaf _ _ _) (zaf _ _ _) (zaf _ _ _) (zaf _ _ _) (.slice d1 W'.length f1) (.slice d2 P'.length f2) (.slice d3 E'.length f3) (.slice d4 Q'.length f4));have BD:=zaa (I.o.below.trans (O.o.below (B:=w.heap.size) (by omega) (by omega)));clear O;go_wp2;refine bodyPost_ret (v:=.agg #[.slice d1 W'.length f1,.slice d2 P'.length f2,.slice d3 E'.length f3,.slice d4 Q'.length f4]) (by simp[results,Tryz.results108,go_sem,y0,y1,y2,y3]) rfl ?_;exact⟨_,rfl,RD.o,BD.o⟩
def RdFs(w:World)(v:Value)(ws es hs:List Int)(td:List Mi)(cd vl:Int)(nm:List ByteArray)(fr:Bool):Prop :=
 ∃ aW cW aP cP aS cS aQ cQ aH cH aT cT aN cN,v=.agg #[.slice aW ws.length cW,.slice aP 0 cP,.slice aS es.length cS,.slice aQ 0 cQ,.slice aH hs.length cH,.slice aT td.length cT,.I cd,.I vl,.slice aN nm.length cN,.bool fr]/\RdDev w (.agg #[.slice aW ws.length cW,.slice aP 0 cP,.slice aS es.length cS,.slice aQ 0 cQ]) ws [] es []/\RdI w (.slice aH hs.length cH) hs/\RdM w (.slice aT td.length cT) td/\RdT w (.slice aN nm.length cN) nm
theorem RdFs.soft{w w':World}{v:Value}{ws es hs:List Int}{td:List Mi}{cd vl:Int}{nm:List ByteArray}{fr:Bool}(h:RdFs w v ws es hs td cd vl nm fr)(s:Soft w w')(h1:3<=ws.length)(h2:3<=es.length)(h3:3<=hs.length):RdFs w' v ws es hs td cd vl nm fr:=by
 obtain⟨aW,cW,aP,cP,aS,cS,aQ,cQ,aH,cH,aT,cT,aN,cN,rfl,a,b,c,d⟩:=h;exact⟨aW,cW,aP,cP,aS,cS,aQ,cQ,aH,cH,aT,cT,aN,cN,rfl,a.soft s h1 h2,b.soft s h3,c.soft s,d.soft s⟩
theorem RdFs.below{w w':World}{v:Value}{ws es hs:List Int}{td:List Mi}{cd vl:Int}{nm:List ByteArray}{fr:Bool}(h:RdFs w v ws es hs td cd vl nm fr)(s:zB w w'):RdFs w' v ws es hs td cd vl nm fr:=by
 obtain⟨aW,cW,aP,cP,aS,cS,aQ,cQ,aH,cH,aT,cT,aN,cN,rfl,a,b,c,d⟩:=h;exact⟨aW,cW,aP,cP,aS,cS,aQ,cQ,aH,cH,aT,cT,aN,cN,rfl,a.below s,Rd.below b s,Rd.below c s,Rd.below d s⟩
theorem zaj{w:World}{b:Nat}{t:TypeId}{x0 x1 x2 x3 x4 x5 x6 x7 x8 x9:Value}(h:w.heap[b]?=some (.cells #[x0,x1,x2,x3,x4,x5,x6,x7,x8,x9] t (0,0))):w.cell? ⟨b,0,none⟩=some x0/\w.cell? ⟨b,1,none⟩=some x1/\w.cell? ⟨b,2,none⟩=some x2/\w.cell? ⟨b,3,none⟩=some x3/\w.cell? ⟨b,4,none⟩=some x4/\w.cell? ⟨b,5,none⟩=some x5/\w.cell? ⟨b,6,none⟩=some x6/\w.cell? ⟨b,7,none⟩=some x7/\w.cell? ⟨b,8,none⟩=some x8/\w.cell? ⟨b,9,none⟩=some x9/\w.frozen? ⟨b,0,none⟩=false/\w.frozen? ⟨b,1,none⟩=false/\w.frozen? ⟨b,2,none⟩=false/\w.frozen? ⟨b,3,none⟩=false/\w.frozen? ⟨b,4,none⟩=false/\w.frozen? ⟨b,5,none⟩=false/\w.frozen? ⟨b,6,none⟩=false/\w.frozen? ⟨b,7,none⟩=false/\w.frozen? ⟨b,8,none⟩=false/\w.frozen? ⟨b,9,none⟩=false:=by
 simp[World.cell?,World.frozen?,h]
theorem yabg{w:World}{b:Nat}{t:TypeId}{x0 x1 x2 x3 x4 x5 x6 x7 x8 x9:Value}(h:w.heap[b]?=some (.cells #[x0,x1,x2,x3,x4,x5,x6,x7,x8,x9] t (0,0)))(u:Value):(w.setCell ⟨b,0,none⟩ u).heap[b]?=some (.cells #[u,x1,x2,x3,x4,x5,x6,x7,x8,x9] t (0,0)):=by simp[World.setCell,Array.getElem?_modify,h]
theorem yaan{w:World}{b:Nat}{t:TypeId}{x0 x1 x2 x3 x4 x5 x6 x7 x8 x9:Value}(h:w.heap[b]?=some (.cells #[x0,x1,x2,x3,x4,x5,x6,x7,x8,x9] t (0,0)))(u:Value):(w.setCell ⟨b,1,none⟩ u).heap[b]?=some (.cells #[x0,u,x2,x3,x4,x5,x6,x7,x8,x9] t (0,0)):=by simp[World.setCell,Array.getElem?_modify,h]
theorem zzm{w:World}{b:Nat}{t:TypeId}{x0 x1 x2 x3 x4 x5 x6 x7 x8 x9:Value}(h:w.heap[b]?=some (.cells #[x0,x1,x2,x3,x4,x5,x6,x7,x8,x9] t (0,0)))(u:Value):(w.setCell ⟨b,2,none⟩ u).heap[b]?=some (.cells #[x0,x1,u,x3,x4,x5,x6,x7,x8,x9] t (0,0)):=by simp[World.setCell,Array.getElem?_modify,h]
theorem zzi{w:World}{b:Nat}{t:TypeId}{x0 x1 x2 x3 x4 x5 x6 x7 x8 x9:Value}(h:w.heap[b]?=some (.cells #[x0,x1,x2,x3,x4,x5,x6,x7,x8,x9] t (0,0)))(u:Value):(w.setCell ⟨b,3,none⟩ u).heap[b]?=some (.cells #[x0,x1,x2,u,x4,x5,x6,x7,x8,x9] t (0,0)):=by simp[World.setCell,Array.getElem?_modify,h]
theorem zsz{w:World}{b:Nat}{t:TypeId}{x0 x1 x2 x3 x4 x5 x6 x7 x8 x9:Value}(h:w.heap[b]?=some (.cells #[x0,x1,x2,x3,x4,x5,x6,x7,x8,x9] t (0,0)))(u:Value):(w.setCell ⟨b,4,none⟩ u).heap[b]?=some (.cells #[x0,x1,x2,x3,u,x5,x6,x7,x8,x9] t (0,0)):=by simp[World.setCell,Array.getElem?_modify,h]
theorem zgl{w:World}{b:Nat}{t:TypeId}{x0 x1 x2 x3 x4 x5 x6 x7 x8 x9:Value}(h:w.heap[b]?=some (.cells #[x0,x1,x2,x3,x4,x5,x6,x7,x8,x9] t (0,0)))(u:Value):(w.setCell ⟨b,5,none⟩ u).heap[b]?=some (.cells #[x0,x1,x2,x3,x4,u,x6,x7,x8,x9] t (0,0)):=by simp[World.setCell,Array.getElem?_modify,h]
theorem zmf{w:World}{b:Nat}{t:TypeId}{x0 x1 x2 x3 x4 x5 x6 x7 x8 x9:Value}(h:w.heap[b]?=some (.cells #[x0,x1,x2,x3,x4,x5,x6,x7,x8,x9] t (0,0)))(u:Value):(w.setCell ⟨b,6,none⟩ u).heap[b]?=some (.cells #[x0,x1,x2,x3,x4,x5,u,x7,x8,x9] t (0,0)):=by simp[World.setCell,Array.getElem?_modify,h]
theorem zmb{w:World}{b:Nat}{t:TypeId}{x0 x1 x2 x3 x4 x5 x6 x7 x8 x9:Value}(h:w.heap[b]?=some (.cells #[x0,x1,x2,x3,x4,x5,x6,x7,x8,x9] t (0,0)))(u:Value):(w.setCell ⟨b,7,none⟩ u).heap[b]?=some (.cells #[x0,x1,x2,x3,x4,x5,x6,u,x8,x9] t (0,0)):=by simp[World.setCell,Array.getElem?_modify,h]
theorem zkj{w:World}{b:Nat}{t:TypeId}{x0 x1 x2 x3 x4 x5 x6 x7 x8 x9:Value}(h:w.heap[b]?=some (.cells #[x0,x1,x2,x3,x4,x5,x6,x7,x8,x9] t (0,0)))(u:Value):(w.setCell ⟨b,8,none⟩ u).heap[b]?=some (.cells #[x0,x1,x2,x3,x4,x5,x6,x7,u,x9] t (0,0)):=by simp[World.setCell,Array.getElem?_modify,h]
theorem zmn{w:World}{b:Nat}{t:TypeId}{x0 x1 x2 x3 x4 x5 x6 x7 x8 x9:Value}(h:w.heap[b]?=some (.cells #[x0,x1,x2,x3,x4,x5,x6,x7,x8,x9] t (0,0)))(u:Value):(w.setCell ⟨b,9,none⟩ u).heap[b]?=some (.cells #[x0,x1,x2,x3,x4,x5,x6,x7,x8,u] t (0,0)):=by simp[World.setCell,Array.getElem?_modify,h]
theorem yakb{w:World}{b:Nat}{t:TypeId}{x0 x1 x2 x3 x4 x5 x6 x7 x8 x9:Value}(h:w.heap[b]?=some (.cells #[x0,x1,x2,x3,x4,x5,x6,x7,x8,x9] t (0,0)))(p q r s:Value):(putR w b p q r s).heap[b]?=some (.cells #[p,q,r,s,x4,x5,x6,x7,x8,x9] t (0,0)):=zzi (zzm (yaan (yabg h p) q) r) s
def zge(w:World)(b:Nat)(x0 x1 x2 x3 x4 x5 x6 x7 x8 x9:Value):World:=((((((((((w.setCell ⟨b,0,none⟩ x0).setCell ⟨b,1,none⟩ x1).setCell ⟨b,2,none⟩ x2).setCell ⟨b,3,none⟩ x3).setCell ⟨b,4,none⟩ x4).setCell ⟨b,5,none⟩ x5).setCell ⟨b,6,none⟩ x6).setCell ⟨b,7,none⟩ x7).setCell ⟨b,8,none⟩ x8).setCell ⟨b,9,none⟩ x9)
theorem zbt(w:World)(b:Nat)(x0 x1 x2 x3 x4 x5 x6 x7 x8 x9:Value):Outside b (b+1) w (zge w b x0 x1 x2 x3 x4 x5 x6 x7 x8 x9):=by
 unfold zge
 repeat (refine Outside.setCell ?_ (by simp only;omega) (by simp only;omega) _)
 exact Outside.refl _ _ _
theorem zqc(w:World)(b:Nat)(x0 x1 x2 x3 x4 x5 x6 x7 x8 x9:Value):(zge w b x0 x1 x2 x3 x4 x5 x6 x7 x8 x9).heap.size=w.heap.size:=by simp[zge,World.setCell]
theorem tri3{w:World}{b:Nat}{t:TypeId}{x y z:Value}(h:w.heap[b]?=some (.cells #[x,y,z] t (0,0))):w.cell? ⟨b,0,none⟩=some x/\w.cell? ⟨b,1,none⟩=some y/\w.cell? ⟨b,2,none⟩=some z/\w.frozen? ⟨b,0,none⟩=false/\w.frozen? ⟨b,1,none⟩=false/\w.frozen? ⟨b,2,none⟩=false:=by simp[World.cell?,World.frozen?,h]
def zdz:List Value:=[.N,.N,.N,.N,.N,.N,.I 0,.I 0,.N,.bool false]
theorem zjx(v:Value)(ws es hs:List Int)(td:List Mi)(cd vl:Int)(nm:List ByteArray)(fr:Bool)(ws' es':List Int)(w:World)(h:RdFs w v ws es hs td cd vl nm fr)(hp:pmB ws []=true)(hb:zfj es []=true)(hh:3<=hs.length)(hm:∀ m∈td,miB m=true)(hl:td.length<=1000)(r:mr td ws [] es []=⟨0,ws',[],es',[]⟩)(hp':pmB ws' []=true)(hb':zfj es' []=true) :
  zC 53 #[v] w fun e w'=>∃ v',e=.returned v'/\RdFs w' v' ws' es' hs [] cd vl nm fr/\zB w w':=by
 have h336:Hid (3<=ws'.length):=by have:=(zed hp').1;unfold Hid;omega
 have h32:Hid (3<=es'.length):=by have:=(zcy hb').1;unfold Hid;omega
 have HH:=zaa hh;have HF:=zaa h;obtain⟨aW,cW,aP,cP,aS,cS,aQ,cQ,aH,cH,aT,cT,aN,cN,rfl,a,b,c,d⟩:=h
 have LA:Hid (∀ w1,zB w w1->zC 108 #[.agg #[.slice aW ws.length cW,.slice aP 0 cP,.slice aS es.length cS,.slice aQ 0 cQ],.slice aT td.length cT] w1 fun e w'=>∃ v',e=.returned v'/\RdDev w' v' ws' [] es' []/\zB w1 w'):=fun w1 hb1=>yabw _ _ td ws [] es [] ws' [] es' [] w1 (a.below hb1) (Rd.below c hb1) hp hb hm hl r
 have RH:=zaa b;have RN:=zaa d;clear a b c d hp hb hm hl r hp' hb' hh HF
 obtain⟨V,hV⟩:=zE ((w.alloc (.cells #[.slice aW ws.length cW,.slice aP 0 cP,.slice aS es.length cS,.slice aQ 0 cQ,.slice aH hs.length cH,.slice aT td.length cT,.I cd,.I vl,.slice aN nm.length cN,.bool fr] 37)).alloc (.cells zdz.toArray 37))
 have hzV:V.heap.size=w.heap.size+1+1:=by rw[hV];simp
 have BV:Hid (zB w V):=by rw[hV];exact(zR.alloc zL _).alloc (by simp) _
 have XV:Hid (V.heap[w.heap.size]?=some (.cells #[.slice aW ws.length cW,.slice aP 0 cP,.slice aS es.length cS,.slice aQ 0 cQ,.slice aH hs.length cH,.slice aT td.length cT,.I cd,.I vl,.slice aN nm.length cN,.bool fr] 37 (0,0))):=by rw[hV];exact zal (zah rfl)
 have YV:Hid (V.heap[w.heap.size+1]?=some (.cells zdz.toArray 37 (0,0))):=by
  rw[hV];have:=zah (w:=w.alloc (.cells #[.slice aW ws.length cW,.slice aP 0 cP,.slice aS es.length cS,.slice aQ 0 cQ,.slice aH hs.length cH,.slice aT td.length cT,.I cd,.I vl,.slice aN nm.length cN,.bool fr] 37)) (o:=.cells zdz.toArray 37) rfl;rw[World.size_alloc]at this;exact this
 unfold zdz at hV;go_enter Tryz.func53,Tryz.ntmps53;go_upto_region 1 with fail;rw[<- hV];clear hV;obtain⟨x0,x1,x2,x3,x4,x5,x6,x7,x8,x9,-⟩:=zaj XV.o;go_wp2_with fail;refine(LA.o _ BV.o).mono ?_;rintro e w1 ⟨v1,rfl,hr1,hb1⟩;obtain⟨iW,jW,iP,jP,iS,jS,iQ,jQ,rfl,-,-⟩:=hr1.form;have z1:V.heap.size<=w1.heap.size:=hb1.size;have B1:=zaa (zab BV.o hb1 BV.o.size);have X1:=zaa ((hb1.block _ (by omega)).trans XV.o);have Y1:=zaa ((hb1.block _ (by omega)).trans YV.o);have D1:=zaa hr1;clear hr1 hb1 x0 x1 x2 x3 x4 x5 x6 x7 x8 x9 XV YV LA;obtain⟨x0,x1,x2,x3,x4,x5,x6,x7,x8,x9,g0,g1,g2,g3,g4,g5,g6,g7,g8,g9⟩:=zaj X1.o
 obtain⟨w2,hw2⟩:=zE (putR w1 w.heap.size (.slice iW ws'.length jW) (.slice iP 0 jP) (.slice iS es'.length jS) (.slice iQ 0 jQ))
 have O2:=zaa (zhw w1 w.heap.size (.slice iW ws'.length jW) (.slice iP 0 jP) (.slice iS es'.length jS) (.slice iQ 0 jQ))
 have S2:Hid (Soft w1 w2):=by rw[hw2];exact Soft.outside O2.o X1.o rfl
 have X2:Hid (w2.heap[w.heap.size]?=some (.cells #[.slice iW ws'.length jW,.slice iP 0 jP,.slice iS es'.length jS,.slice iQ 0 jQ,.slice aH hs.length cH,.slice aT td.length cT,.I cd,.I vl,.slice aN nm.length cN,.bool fr] 37 (0,0))):=by rw[hw2];exact yakb X1.o _ _ _ _
 have Y2:Hid (w2.heap[w.heap.size+1]?=some (.cells zdz.toArray 37 (0,0))):=by rw[hw2];exact(O2.o.block _ (by omega) (by omega)).trans Y1.o
 have B2:Hid (zB w w2):=by rw[hw2];exact B1.o.trans (O2.o.below zL (by omega))
 have z2:w1.heap.size=w2.heap.size:=by rw[hw2,znu]
 unfold putR at hw2;go_upto_region 2 with fail;rw[<- hw2];clear hw2 O2 x0 x1 x2 x3 x4 x5 x6 x7 x8 x9 g0 g1 g2 g3 g4 g5 g6 g7 g8 g9 X1 Y1
 obtain⟨w3,hw3⟩:=zE ((w2.alloc (.cells #[] 82)).setCell ⟨w.heap.size,5,none⟩ (.slice (some ⟨w2.heap.size,0,none⟩) 0 0))
 have X2a:=zaa (zal (o:=.cells #[] 82) X2.o)
 have S3:Hid (Soft w2 w3):=by rw[hw3];exact((Soft.refl _).alloc _).set X2a.o rfl _ _
 have X3:Hid (w3.heap[w.heap.size]?=some (.cells #[.slice iW ws'.length jW,.slice iP 0 jP,.slice iS es'.length jS,.slice iQ 0 jQ,.slice aH hs.length cH,.slice (some ⟨w2.heap.size,0,none⟩) 0 0,.I cd,.I vl,.slice aN nm.length cN,.bool fr] 37 (0,0))):=by rw[hw3];exact zgl X2a.o _
 have Y3:Hid (w3.heap[w.heap.size+1]?=some (.cells zdz.toArray 37 (0,0))):=by rw[hw3,Below.heap_setCell _ _ _ _ (by simp only;omega)];exact zal Y2.o
 have B3:Hid (zB w w3):=by rw[hw3];exact(B2.o.alloc B2.o.size _).setCell zL _
 have z3:w2.heap.size+1=w3.heap.size:=by rw[hw3];simp[World.setCell]
 obtain⟨-,-,-,-,-,x5,-,-,-,-,-,-,-,-,-,g5,-⟩:=zaj X2a.o;go_upto_region 3 with fail;rw[<- hw3];clear hw3 x5 g5 X2 Y2 X2a;obtain⟨x0,x1,x2,x3,x4,x5,x6,x7,x8,x9,-⟩:=zaj X3.o;have Y3':w3.heap[w.heap.size+1]?=some (.cells #[.N,.N,.N,.N,.N,.N,.I 0,.I 0,.N,.bool false] 37 (0,0)):=Y3.o;obtain⟨y0,y1,y2,y3,y4,y5,y6,y7,y8,y9,g0,g1,g2,g3,g4,g5,g6,g7,g8,g9⟩:=zaj Y3';clear Y3';have O4:=zaa (zbt w3 (w.heap.size+1) (.slice iW ws'.length jW) (.slice iP 0 jP) (.slice iS es'.length jS) (.slice iQ 0 jQ) (.slice aH hs.length cH) (.slice (some ⟨w2.heap.size,0,none⟩) 0 0) (.I cd) (.I vl) (.slice aN nm.length cN) (.bool fr));have S4:=zaa (Soft.outside O4.o Y3.o rfl);have SS:=zaa ((S2.o.trans S3.o).trans S4.o);have B4:=zaa (B3.o.trans (O4.o.below (B:=w.heap.size) (by omega) (by omega)))
 have NIL:Hid (RdM w3 (.slice (some ⟨w2.heap.size,0,none⟩) 0 0) []):=⟨rfl,_,_,rfl,⟨Nat.le_refl _,fun e=>by cases e⟩,fun h=>absurd h (by simp)⟩
 have F4:Hid (RdFs _ (.agg #[.slice iW ws'.length jW,.slice iP 0 jP,.slice iS es'.length jS,.slice iQ 0 jQ,.slice aH hs.length cH,.slice (some ⟨w2.heap.size,0,none⟩) 0 0,.I cd,.I vl,.slice aN nm.length cN,.bool fr]) ws' es' hs [] cd vl nm fr) :=
  ⟨iW,jW,iP,jP,iS,jS,iQ,jQ,aH,cH,_,_,aN,cN,rfl,RdDev.soft D1.o SS.o h336.o h32.o,RdI.soft (Rd.below RH.o B1.o) SS.o HH.o,RdM.soft NIL.o S4.o,RdT.soft (Rd.below RN.o B1.o) SS.o⟩
 clear O4 S4 SS S2 S3 D1 NIL;go_wp2;refine bodyPost_ret (v:=.agg #[.slice iW ws'.length jW,.slice iP 0 jP,.slice iS es'.length jS,.slice iQ 0 jQ,.slice aH hs.length cH,.slice (some ⟨w2.heap.size,0,none⟩) 0 0,.I cd,.I vl,.slice aN nm.length cN,.bool fr]) (by simp[results,Tryz.results53,go_sem,y0,y1,y2,y3,y4,y5,y6,y7,y8,y9]) rfl ?_;exact⟨_,rfl,F4.o,B4.o⟩
theorem zvz(ss:List ByteArray)(hn:2<=ss.length/\ss.length<=1000)(w0 w:World)(b bl k:Nat)(vC:Value)(bs:List Int)(h:Src w0 w b vC bs k)(hk:k<=900000)(hl:w.heap[bl]?=some (.cells (ss.map Value.string).toArray 9 (0,0)))(hbl:bl≠b) :
  zC 83 #[.pointer (some ⟨b,0,none⟩),.slice (some ⟨bl,0,none⟩) ss.length ss.length] w fun e w'=>∃ s,e=.returned (.string s)/\s∈ss/\Src w0 w' b vC bs (k+3)/\Outside b (b+1) w w'/\w'.heap.size=w.heap.size:=by
 have HS:=zaa h;have HL:=zaa hl;have lt:Hid (bl<w.heap.size):=(Array.getElem?_eq_some_iff.1 hl).1
 have h0:((ss.length:Int) == 0)=false:=by rw[beq_eq_false_iff_ne];omega
 have NX:=zaa (zbp (ss.length:Int) (by omega) w0 w b k vC bs HS.o hk);obtain⟨n1,n2⟩:=hn;clear h hl;go_enter Tryz.func83,Tryz.ntmps83;go_wp2_with fail;refine NX.o.mono ?_;rintro e w1 ⟨r,rfl,r0,r1,hs,ho,hz⟩;have S1:=zaa hs;have O1:=zaa ho;obtain⟨j,rfl⟩:=Int.eq_ofNat_of_zero_le r0
 have hj:j<ss.length:=by omega
 have hc:w1.cell? ⟨bl,j,none⟩=some (.string ss[j]):=by
  have:=(ho.block bl lt.o (by omega)).trans HL.o;simp[World.cell?,this,hj]
 have EM:=zaa (List.getElem_mem hj);generalize ss[j]=s at hc EM;clear hs ho NX;go_wp2;go_ret;exact⟨_,rfl,EM.o,S1.o,O1.o,hz⟩
def slB:ByteArray:=⟨#[47]⟩
def segs:List ByteArray:=[⟨#[97]⟩,⟨#[98]⟩,⟨#[99]⟩,⟨#[100,105,114]⟩,⟨#[97]⟩]
def oneP:List ByteArray:=segs.map fun s=>slB++s
def twoP:List ByteArray:=oneP.flatMap fun p=>segs.map fun s=>p++(slB++s)
def PathD(p:ByteArray):Prop:=p∈oneP\/p∈twoP
theorem PathD.size{p:ByteArray}(h:PathD p):p.size<=100:=by
 have:∀ p∈oneP++twoP,p.size<=100:=by decide
 exact this p (List.mem_append.2 h)
theorem zfb(w0 w:World)(b k:Nat)(vC:Value)(bs:List Int)(h:Src w0 w b vC bs k)(hk:k<=800000) :
  zC 36 #[.pointer (some ⟨b,0,none⟩)] w fun e w'=>∃ p,e=.returned (.string p)/\PathD p/\Src w0 w' b vC bs (k+9)/\Outside b (b+1) w w':=by
 have hsz:=h.size;have HS:=zaa h;clear h;go_enter Tryz.func36,Tryz.ntmps36;go_wp2_with fail;refine(zbp 5 (by omega) w0 _ b k vC bs HS.o (by omega)).mono ?_;rintro e w1 ⟨r,rfl,r0,r1,hs,ho,hz⟩;have S1:=zaa hs;have O1:=zaa ho;clear hs ho hz HS
 have step:∀ (wr:World) (q:Nat),Outside b (b+1) w wr->Src w0 wr b vC bs q->q<=800100->zC 83 #[.pointer (some ⟨b,0,none⟩),.slice (some ⟨wr.heap.size,0,none⟩) 5 5] (wr.alloc (.cells #[.string ⟨#[97]⟩,.string ⟨#[98]⟩,.string ⟨#[99]⟩,.string ⟨#[100,105,114]⟩,.string ⟨#[97]⟩] 9)) fun e w'=>∃ s,e=.returned (.string s)/\s∈segs/\Src w0 w' b vC bs (q+3)/\Outside b (b+1) w w':=fun wr q o s hq=>by
  refine(zvz segs (by decide) w0 _ b wr.heap.size q vC bs (s.newer (zR.alloc zL _)) (by omega) (zah rfl) (by have:=s.size;omega)).mono ?_;rintro e w' ⟨t,rfl,m,s',o',-⟩;exact⟨t,rfl,m,s',(o.trans (Outside.of_below (zR.alloc zL _))).trans o'⟩
 have STEP:=zaa step;clear step
 obtain⟨n,hn,hn12⟩:∃ n:Nat,1+r/3=(n:Int)/\(n=1\/n=2):=by
  by_cases c:r<3
  ·exact⟨1,by omega,.inl rfl⟩
  ·exact⟨2,by omega,.inr rfl⟩
 go_wp2
 go_loopw [3,4] (fun vP i wr=>∃ (j q:Nat) (p:ByteArray),i=.I (j:Int)/\vP=.string p/\q+3*j<=k+9/\Hid ((j=n/\p=⟨#[]⟩)\/(j=1/\p∈oneP)\/(j=0/\PathD p))/\j<=2/\Hid (Src w0 wr b vC bs q/\Outside b (b+1) w wr)) (fun _ i _=>(intOf i).toNat)
 case atStart=>exact⟨n,_,_,by go_num,rfl,by omega,.inl ⟨rfl,rfl⟩,by omega,S1.o,O1.o⟩
 case round =>
  obtain⟨j,q,p,rfl,rfl,hq,P,j2,I⟩:=hrel
  by_cases c:0<j
  ·have c0:(0:Int)<(j:Int):=by omega
   go_wp2_with fail;refine(STEP.o _ q I.o.2 I.o.1 (by omega)).mono ?_;rintro e w2 ⟨s,rfl,ms,hs2,ho2⟩;have I2:=zaa (And.intro hs2 ho2);have MS:=zaa ms;have s1:s.size<=100:=(show ∀ s∈segs,s.size<=100 by decide) s ms
   have p1:p.size<=100:=by
    rcases P.o with q | q | q
    ·rw[q.2];decide
    ·exact PathD.size (.inl q.2)
    ·exact PathD.size q.2
   have pe:Hid (p.size+(1+s.size)<=300):=by unfold Hid;omega
   clear ms hs2 ho2 I;go_wp2
   go_roundw
   case rel =>
    refine⟨j-1,_,_,by go_num,rfl,by omega,?_,by omega,I2⟩;have e0:(⟨#[]⟩:ByteArray)++(slB++s)=slB++s:=ByteArray.empty_append;have m1:slB++s∈oneP:=List.mem_map.2 ⟨s,MS.o,rfl⟩
    rcases P.o with q | q | q
    ·have e1:p++(slB++s)=slB++s:=by rw[q.2];exact e0
     rcases hn12 with h | h
     ·exact .inr (.inr ⟨by omega,.inl (by show p++(slB++s)∈oneP;rw[e1];exact m1)⟩)
     ·exact .inr (.inl ⟨by omega,(by show p++(slB++s)∈oneP;rw[e1];exact m1)⟩)
    ·exact .inr (.inr ⟨by omega,.inr (List.mem_flatMap.2 ⟨p,q.2,List.mem_map.2 ⟨s,MS.o,rfl⟩⟩)⟩)
    ·omega
   case measure=>simp[intOf];omega
  ·obtain rfl:j=0:=by omega
   go_wp2;go_ret;refine⟨_,rfl,?_,I.o.1.more (by omega),I.o.2⟩
   rcases P.o with q | q | q
   ·omega
   ·omega
   ·exact q.2
def any9:List ByteArray:=[⟨#[47]⟩,⟨#[]⟩,⟨#[97]⟩,⟨#[47,47]⟩,⟨#[47,97,47]⟩,⟨#[47,65]⟩,⟨#[47,97,47,98,47,99,47,97,47,98,47,99]⟩,⟨#[47,97,47,98,47,99,47,97,47,98,47,99,47,100]⟩,⟨#[47,97,47,98,47,99,47,100]⟩]
theorem zif(w0 w:World)(b k:Nat)(vC:Value)(bs:List Int)(h:Src w0 w b vC bs k)(hk:k<=700000) :
  zC 56 #[.pointer (some ⟨b,0,none⟩)] w fun e w'=>∃ p,e=.returned (.string p)/\p.size<=100/\Src w0 w' b vC bs (k+12)/\Outside b (b+1) w w':=by
 have HS:=zaa h;clear h;go_enter Tryz.func56,Tryz.ntmps56;go_wp2_with fail;refine(zgj 6 (by omega) w0 _ b k vC bs HS.o (by omega)).mono ?_;rintro e w1 ⟨r,rfl,hs,ho,hz⟩;have S1:=zaa hs;have O1:=zaa ho;clear hs ho hz HS
 cases r with
 | true =>
  have PK:=zaa (zvz any9 (by decide) w0 (w1.alloc (.cells (any9.map Value.string).toArray 9)) b w1.heap.size (k+3) vC bs (S1.o.newer (zR.alloc zL _)) (by omega) (zah rfl) (by have:=S1.o.size;omega));go_wp2_with fail;refine PK.o.mono ?_;rintro e w2 ⟨s,rfl,ms,hs,ho,-⟩;have S2:=zaa (hs.more (k':=k+12) (by omega));have O2:=zaa ((O1.o.trans (Outside.of_below (zR.alloc zL _))).trans ho);have Z:=zaa ((show ∀ s∈any9,s.size<=100 by decide) s ms);clear hs ho ms PK;go_wp2;go_ret;exact⟨_,rfl,Z.o,S2.o,O2.o⟩
 | false =>
  go_wp2_with fail;refine(zfb w0 _ b (k+3) vC bs S1.o (by omega)).mono ?_;rintro e w2 ⟨s,rfl,ms,hs,ho⟩;have S2:=zaa hs;have O2:=zaa (O1.o.trans ho);have Z:=zaa ms.size;clear hs ho ms;go_wp2;go_ret;exact⟨_,rfl,Z.o,S2.o,O2.o⟩
theorem zyy(w0 w:World)(b k:Nat)(vC:Value)(bs:List Int)(h:Src w0 w b vC bs k) :
  zC 50 #[.pointer (some ⟨b,0,none⟩),.I 20] w fun e w'=>∃ r:Int,e=.returned (.I r)/\1<=r/\r<=20/\w'=w:=by
 obtain⟨aC,cC,rfl,_⟩:=h.code.shape;obtain⟨at_,seed,_,_,_,_,hc⟩:=h.cells;obtain⟨c0,-,-,-⟩:=zfw hc;have hl:=h.len;clear h hc
 have cc:((bs.length:Int)/12)<=100000/\0<=((bs.length:Int)/12):=by omega
 go_enter Tryz.func50,Tryz.ntmps50;go_wp2
 all_goals
  go_ret;exact⟨_,rfl,by omega,by omega,rfl⟩
end Go.Proofs.YtogcbbkhnpmgeaaGreatDoor
