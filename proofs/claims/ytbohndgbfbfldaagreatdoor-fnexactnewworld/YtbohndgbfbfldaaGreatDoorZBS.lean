/- Several texts laid together: MeC, MdF. -/
import Derived.Test.YtbohndgbfbfldaaGreatDoorZBR
import Derived.Test.YtbohndgbfbfldaaGreatDoorZAI
import Derived.Test.YtbohndgbfbfldaaGreatDoorZAW
import Derived.Deep.LoopGhost
set_option maxRecDepth 100000
set_option maxHeartbeats 8000000
namespace Go.Proofs.YtbohndgbfbfldaaGreatDoor
open Go.RowKit
theorem zkj (v:Value) (ws:List Int) (ps:List St) (es:List Int) (qs:List Se) (x:Ino) (w:World) (h:RdDev w v ws ps es qs) (hP:pmB ws ps=true) (hB:zfa es qs=true) (hx:zga x=true) (hT:TS w) (hN:NW w) :
  Calls Tryz.prog 104 #[v,.agg #[.int .i64 x.kind,.int .i64 x.size,.int .i64 x.links,.int .i64 x.m0,.int .i64 x.m1,.int .i64 x.m2,.int .i64 x.m3,.int .i64 x.m4,.int .i64 x.m5,.int .i64 x.m6,.int .i64 x.m7]] w fun e w'=>∃ v',e=.returned v'∧Row w' 3 1 w.heap.size w'.heap.size v' (pgL ws ps es qs x x.size.toNat).length (zbk (pgL ws ps es qs x x.size.toNat))∧Below w.heap.size w w':=by
 have LV2:=zaa (fun w1 (hb:Below w.heap.size w w1) z (hz:zfp z=true)=>zoy v ws ps es qs z w1 (h.below hb) hP hB hz (hT.below hb) (hN.below hb))
 have OK:Hid ((0≤x.size∧x.size≤8)∧∀ j:Nat,j < 8→zfp (x.map.getD j 0)=true):=by
  refine ⟨(zta hx).2.1,fun j hj=>(zlu hx).1 _ ?_⟩;rw[List.getD_eq_getElem?_getD,List.getElem?_eq_getElem (show j < x.map.length from hj)];exact List.getElem_mem _
 obtain ⟨dW,eW,dP,eP,dS,eS,dQ,eQ,rfl,-,-⟩:=h.form;clear h hT hN hP hB hx
 obtain ⟨w3,hw3⟩:∃ w3,w3=(w.alloc (.cells #[.slice dW ws.length eW,.slice dP ps.length eP,.slice dS es.length eS,.slice dQ qs.length eQ] 30)).alloc (.cells #[.int .i64 x.kind,.int .i64 x.size,.int .i64 x.links,.int .i64 x.m0,.int .i64 x.m1,.int .i64 x.m2,.int .i64 x.m3,.int .i64 x.m4,.int .i64 x.m5,.int .i64 x.m6,.int .i64 x.m7] 149):=⟨_,rfl⟩
 have hz3:w.heap.size+1 < w3.heap.size:=by rw[hw3];simp
 have hz4:w.heap.size < w3.heap.size:=by omega
 have BX:Hid (Below w.heap.size w w3):=by rw[hw3];exact ((Below.refl _ _).alloc (Nat.le_refl _) _).alloc (by simp) _
 have KE:Hid (∀ w',Below w3.heap.size w3 w'→w'.cell? ⟨w.heap.size,0,none⟩=some (.slice dW ws.length eW)∧w'.cell? ⟨w.heap.size,1,none⟩=some (.slice dP ps.length eP)∧w'.cell? ⟨w.heap.size,2,none⟩=some (.slice dS es.length eS)∧w'.cell? ⟨w.heap.size,3,none⟩=some (.slice dQ qs.length eQ)):=fun w' hb=>by
  have:w'.heap[w.heap.size]?=some (.cells #[.slice dW ws.length eW,.slice dP ps.length eP,.slice dS es.length eS,.slice dQ qs.length eQ] 30 (0,0)):=(hb.block _ hz4).trans (by rw[hw3];exact zao (zae rfl));obtain ⟨x0,x1,x2,x3,-,-,-,-⟩:=zaj this;exact ⟨x0,x1,x2,x3⟩
 have VX:Hid (w3.heap[w.heap.size+1]?=some (.cells x.cs.toArray 149 (0,0))):=by
  rw[hw3];have q:=zae (w:=w.alloc (.cells #[.slice dW ws.length eW,.slice dP ps.length eP,.slice dS es.length eS,.slice dQ qs.length eQ] 30)) (o:=.cells x.cs.toArray 149) rfl;rw[World.size_alloc] at q;exact q
 have KS:Hid (∀ w',Below w3.heap.size w3 w'→w'.cell? ⟨w.heap.size+1,1,none⟩=some (.int .i64 x.size)):=fun w' hb=>(hb.cell (p:=⟨w.heap.size+1,1,none⟩) hz3).trans (zag (xs:=x.cs) VX.o 1).1
 have KM:Hid (∀ w',Below w3.heap.size w3 w'→∀ m,m < 8→w'.cell? ⟨w.heap.size+1,3+m,none⟩=some (.int .i64 (x.map.getD m 0))):=fun w' hb m hm=>((hb.cell (p:=⟨w.heap.size+1,3+m,none⟩) hz3).trans (zag (xs:=x.cs) VX.o (3+m)).1).trans (x.at m hm)
 obtain ⟨⟨z0,z8⟩,ti⟩:=OK.o;have TI:=zaa ti;clear VX OK ti;have y1:=KS.o _ (Below.refl _ _)
 obtain ⟨N,hN⟩:∃ N:Nat,x.size=(N:Int):=⟨x.size.toNat,by omega⟩
 have N8:N≤8:=by omega
 have EN:=zaa (show x.size.toNat=N by omega);rw[EN.o];rw[hN] at KS y1
 have START:Hid (InI w3 w3 (.slice none 0 0) (pgL ws ps es qs x 0)):=⟨World.ownsRow_nil _ _ _ _,Below.refl _ _⟩
 have nn:(0:Int)≤(N:Int):=by omega
 have n8:(N:Int)≤8:=by omega
 have hsl:∀ w1,(Instr.sliceAt 147 (.pointer (some ⟨w.heap.size+1,3,none⟩)) none (some (.int .i64 x.size)) none).run Tryz.prog w1=.ok (.slice (some ⟨w.heap.size+1,3,none⟩) N 8) w1:=fun w1=>by rw[hN];exact zuf w1 _ N N8
 rw[hN] at hsl;clear EN z0 z8;go_enter Tryz.func104,Tryz.ntmps104;rw[hN] at hw3 ⊢;go_wp2;rw[← hw3];clear hw3 y1 hN
 go_loopw [5,13] (fun vL k wr=>∃ m:Nat,m≤N∧k=.int .i64 (m:Int)∧Hid (InI w3 wr vL (pgL ws ps es qs x m))) (fun _ k _=>N - (intOf k).toNat)
 case atStart=>exact ⟨0,by omega,rfl,START⟩
 case round =>
  obtain ⟨m,hm,rfl,J⟩:=hrel;clear START
  have m0:(0:Int)≤(m:Int):=by omega
  have JW:=zaa (zab BX.o J.o.b BX.o.size)
  by_cases hlt:m < N
  ·have m1:(m:Int) < (N:Int):=by omega
   have m8:m < 8:=by omega
   have LV3:=zaa (fun w1 hb=>LV2.o w1 hb _ (TI.o m m8));have EM:=zaa (zzz ws ps es qs x m)
   have l2:(pgL ws ps es qs x m).length≤8:=by rw[yadf];omega
   have y2:=KM.o wr J.o.b m m8;obtain ⟨r0,r1,r2,r3⟩:=KE.o wr J.o.b;generalize pgV ws ps es qs (x.map.getD m 0)=y at *;generalize x.map.getD m 0=z at *;go_wp2_with fail;refine (LV3.o _ JW.o).mono ?_;rintro e w5 ⟨rfl,hb5⟩;have JB:Hid (InI w3 (w5.alloc (.cells #[.int .i64 y] 3)) u5 (pgL ws ps es qs x m)):=(J.o.below hb5).below ((Below.refl _ _).alloc (Nat.le_refl _) _);have RB:=zaa (zuk w5 y);have hzb:=JB.o.z;clear hb5 r0 r1 r2 r3 y2;go_wp2_with (at_builtin;refine zaq _ rfl (.tmp 17) (.tmp 21) 22 rfl w3.heap.size 3 (.int .i64 0) 1 8 Tryz.underlying22 zmd rfl (by decide) _ _ _ rfl JB.o.l _ 1 _ rfl RB.o (zqa _) (by first | omega | (simp[maxLen];omega)) (by first | omega | (simp;omega)) hzb ?_);intro vN wN hownN hgrN;have G:=zaa (JB.o.grow y hownN hgrN);rw[← EM.o] at G;clear hownN hgrN JB RB J;go_wp2
   go_roundw
   case rel=>exact ⟨m+1,by omega,by go_num,G⟩
   case measure=>simp[intOf];omega
  ·obtain rfl:m=N:=by omega
   obtain ⟨-,aN,cN,hvN,-⟩:=(zai J.o.l).rd;subst hvN;go_wp2;go_ret;exact ⟨_,rfl,(zai J.o.l).wide BX.o.size (Nat.le_refl _),JW.o⟩
theorem znn (b:Nat) (i:Int) (v:Value) (ws:List Int) (ps:List St) (es:List Int) (qs:List Se) (x:Ino) (w:World) (h:RdDev w v ws ps es qs) (hb:∃ a0 n0 c0 a1 n1 c1 a2 n2 c2 a3 n3 c3,v=.agg #[.slice a0 n0 c0,.slice a1 n1 c1,.slice a2 n2 c2,.slice a3 n3 c3]∧w.heap[b]?=some (.cells #[.slice a0 n0 c0,.slice a1 n1 c1,.slice a2 n2 c2,.slice a3 n3 c3] 30 (0,0))) (hP:pmB ws ps=true) (hB:zfa es qs=true) (hx:zga x=true) (hT:TS w) (hN:NW w) :
  Calls Tryz.prog 103 #[.int .i64 i,.agg #[.int .i64 x.kind,.int .i64 x.size,.int .i64 x.links,.int .i64 x.m0,.int .i64 x.m1,.int .i64 x.m2,.int .i64 x.m3,.int .i64 x.m4,.int .i64 x.m5,.int .i64 x.m6,.int .i64 x.m7],.pointer (some ⟨b,0,none⟩)] w fun e w'=>∃ v',e=.returned v'∧Row w' 3 1 w.heap.size w'.heap.size v' (pgL ws ps es qs x x.size.toNat).length (zbk (pgL ws ps es qs x x.size.toNat))∧Below w.heap.size w w':=by
 have LP:=zaa (fun w1 (hb:Below w.heap.size w w1)=>zkj v ws ps es qs x w1 (h.below hb) hP hB hx (hT.below hb) (hN.below hb));obtain ⟨a0,n0,c0,a1,n1,c1,a2,n2,c2,a3,n3,c3,rfl,hb⟩:=hb;have hlt:b < w.heap.size:=(Array.getElem?_eq_some_iff.1 hb).1;clear h hT hN hP hB hx
 obtain ⟨W,hW⟩:∃ W,W=w.alloc (.cells #[.int .i64 x.kind,.int .i64 x.size,.int .i64 x.links,.int .i64 x.m0,.int .i64 x.m1,.int .i64 x.m2,.int .i64 x.m3,.int .i64 x.m4,.int .i64 x.m5,.int .i64 x.m6,.int .i64 x.m7] 149):=⟨_,rfl⟩
 have BW:Hid (Below w.heap.size w W):=by rw[hW];exact (Below.refl _ _).alloc (Nat.le_refl _) _
 have VX:Hid (W.heap[w.heap.size]?=some (.cells x.cs.toArray 149 (0,0))):=by rw[hW];exact zae rfl
 have VD:=(BW.o.block b hlt).trans hb;obtain ⟨x0,x1,x2,x3,-,-,-,-⟩:=zaj VD;obtain ⟨k0,k1,k2,k3,-,-,-,-⟩:=zaj hb;have e0:=(zag (xs:=x.cs) VX.o 0).1;have e1:=(zag (xs:=x.cs) VX.o 1).1;have e2:=(zag (xs:=x.cs) VX.o 2).1;have e3:=(zag (xs:=x.cs) VX.o 3).1;have e4:=(zag (xs:=x.cs) VX.o 4).1;have e5:=(zag (xs:=x.cs) VX.o 5).1;have e6:=(zag (xs:=x.cs) VX.o 6).1;have e7:=(zag (xs:=x.cs) VX.o 7).1;have e8:=(zag (xs:=x.cs) VX.o 8).1;have e9:=(zag (xs:=x.cs) VX.o 9).1;have e10:=(zag (xs:=x.cs) VX.o 10).1;simp only[Ino.cs,List.getElem?_cons_zero,List.getElem?_cons_succ] at e0 e1 e2 e3 e4 e5 e6 e7 e8 e9 e10;clear VX VD hb;go_enter Tryz.func103,Tryz.ntmps103;go_wp2_with fail;rw[← hW];refine (LP.o W BW.o).mono ?_;rintro e w1 ⟨v1,rfl,hr,hb1⟩;have B1:=zaa (zab BW.o hb1 BW.o.size);have R1:=zaa (hr.wide BW.o.size (Nat.le_refl _));clear hr hb1 e0 e1 e2 e3 e4 e5 e6 e7 e8 e9 e10 x0 x1 x2 x3;go_wp2;go_ret;exact ⟨_,rfl,R1.o,B1.o⟩
def ofT (ws:List Int) (ps:List St) (es:List Int) (qs:List Se) (x:Ino):Th:=⟨x.kind,x.links,pgL ws ps es qs x x.size.toNat⟩
def ofL (ws:List Int) (ps:List St) (es:List Int) (qs:List Se) (ns:List Ino):List Th:=ns.map (ofT ws ps es qs)
theorem zye (t:Th) (a:Option Addr) (n c:Nat):∀ u∈thv [(t,.slice a n c)],u.oneCell'=true:=by
 intro u hu;simp[thv,thc] at hu
 rcases hu with rfl | rfl | rfl <;> rfl
theorem zya (w1:World) (t:Th) (v:Value):Rd (w1.alloc (.cells #[.int .i64 t.kind,.int .i64 t.links,v] 128)) 3 (.slice (some ⟨w1.heap.size,0,none⟩) 1 1) 1 (thv [(t,v)]):=by
 refine ⟨rfl,_,_,rfl,⟨Nat.le_refl _,fun e=>by cases e⟩,fun _=>⟨w1.heap.size,0,rfl,by simp,fun j hj=>?_⟩⟩;rw[Nat.zero_add];exact (zag (xs:=thc (t,v)) (zae rfl) j).1
theorem zto:(128:Nat)≠40:=by decide
theorem yadv:(3:Nat)≠40:=by decide
theorem yaee:(3:Nat)≠128:=by decide
theorem yaeb:(128:Nat)≠149:=by decide
end Go.Proofs.YtbohndgbfbfldaaGreatDoor
