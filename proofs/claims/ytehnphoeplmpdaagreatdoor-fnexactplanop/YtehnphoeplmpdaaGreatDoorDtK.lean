/- Operations planned: by the model. -/
import Derived.Test.YtehnphoeplmpdaaGreatDoorDtJ
set_option maxRecDepth 100000
set_option maxHeartbeats 16000000
namespace Go.Proofs.YtehnphoeplmpdaaGreatDoor
open Go.RowKit
def opR (ws:List Int) (ps:List St) (es:List Int) (qs:List Se) (k:Int) (p t:ByteArray) (g y:Int):OpA×Int:=if dvB ws ps es qs=true∧opB k p t g y=true then (opI ws ps es qs (dvN ws ps es qs) (dvD ws ps es qs) k p t g y,0) else (⟨[],0,0,[]⟩,1)
theorem OpOut.at {w w1 w2:World} {vS vA:Value} {A:OpA} (h:OpOut w1 w2 vS vA A) (B:Below w.heap.size w w1):∃ vN,vA=.agg #[.int .i64 A.code,.int .i64 A.val,vN]∧OpT w w2 vS vN A.steps A.names:=by
 obtain ⟨vN,e,a,b,c⟩:=h;exact ⟨vN,e,a.wide B.size (Nat.le_refl _),b.wide B.size (Nat.le_refl _),zab B c B.size⟩
theorem znc {k:Int} {p t:ByteArray} {g y:Int} (h:opB k p t g y=true):(1≤k∧k≤10)∧p.size≤65536∧t.size≤65536:=by
 have q:=of_decide_eq_true h;exact ⟨q.1,q.2.1,q.2.2.1⟩
theorem zqo (v:Value) (ws:List Int) (ps:List St) (es:List Int) (qs:List Se) (k:Int) (p t:ByteArray) (g y:Int) (w:World) (h:RdDev w v ws ps es qs) (hw:ws.length≤1048576) (hp:ps.length≤1048576) (he:es.length≤1048576) (hq:qs.length≤1048576) :
  Calls Tryz.prog 8 #[v,.agg #[.int .i64 k,.string p,.string t,.int .i64 g,.int .i64 y]] w fun e w'=>∃ vS vA,e=.returned (.tuple #[vS,vA,.int .i64 (opR ws ps es qs k p t g y).2])∧OpOut w w' vS vA (opR ws ps es qs k p t g y).1:=by
 have LI:=zaa (fun w1 (hb:Below w.heap.size w w1)=>zxc v ws ps es qs w1 (h.below hb) hw hp he hq);have LK:=zaa (fun w1=>zuh k p t g y w1)
 have IM:Hid (dvB ws ps es qs=true→zay (dvN ws ps es qs) (dvD ws ps es qs)=true):=fun d=>by rw[(zdk d).2.2.1,(zdk d).2.2.2.1];exact (zdk d).2.2.2.2
 have LO:=zaa (fun (d:dvB ws ps es qs=true) (o:opB k p t g y=true) v2 w1 (hb:Below w.heap.size w w1) (h2:RdIm w1 v2 (dvN ws ps es qs) (dvD ws ps es qs))=>yajf v v2 ws ps es qs (dvN ws ps es qs) (dvD ws ps es qs) k p t g y w1 (h.below hb) (zdk d).1 (zdk d).2.1 h2 (IM.o d) (znc o).2.1 (znc o).2.2);have EO:=zaa (show opR ws ps es qs k p t g y=if dvB ws ps es qs=true∧opB k p t g y=true then (opI ws ps es qs (dvN ws ps es qs) (dvD ws ps es qs) k p t g y,0) else (⟨[],0,0,[]⟩,1) from rfl);obtain ⟨dW,eW,dP,eP,dS,eS,dQ,eQ,rfl,-,-⟩:=h.form;clear h IM
 obtain ⟨W,hW⟩:∃ W,W=((w.alloc (.cells #[.slice dW ws.length eW,.slice dP ps.length eP,.slice dS es.length eS,.slice dQ qs.length eQ] 48)).alloc (.cells #[.int .i64 k,.string p,.string t,.int .i64 g,.int .i64 y] 50)).alloc (.cells #[.int .i64 0,.int .i64 0,.slice none 0 0] 38):=⟨_,rfl⟩
 have hzW:W.heap.size=w.heap.size+1+1+1:=by rw[hW];simp only[World.size_alloc]
 have BW:Hid (Below w.heap.size w W):=by
  rw[hW]
  repeat (first | exact Below.refl _ _ | refine Below.alloc ?_ (by first | exact Nat.le_refl _ | (simp only[World.size_alloc];omega)) _)
 have CD:Hid (∀ w',Below W.heap.size W w'→w'.cell? ⟨w.heap.size,0,none⟩=some (.slice dW ws.length eW)∧w'.cell? ⟨w.heap.size,1,none⟩=some (.slice dP ps.length eP)∧w'.cell? ⟨w.heap.size,2,none⟩=some (.slice dS es.length eS)∧w'.cell? ⟨w.heap.size,3,none⟩=some (.slice dQ qs.length eQ)):=fun w' hb=>by
  have q:w'.heap[w.heap.size]?=some (.cells #[.slice dW ws.length eW,.slice dP ps.length eP,.slice dS es.length eS,.slice dQ qs.length eQ] 48 (0,0)):=(hb.block _ (by omega)).trans (by rw[hW];exact zat (zat (zah rfl)));obtain ⟨x0,x1,x2,x3,-,-,-,-⟩:=zax q;exact ⟨x0,x1,x2,x3⟩
 have CO:Hid (∀ w',Below W.heap.size W w'→w'.cell? ⟨w.heap.size+1,0,none⟩=some (.int .i64 k)∧w'.cell? ⟨w.heap.size+1,1,none⟩=some (.string p)∧w'.cell? ⟨w.heap.size+1,2,none⟩=some (.string t)∧w'.cell? ⟨w.heap.size+1,3,none⟩=some (.int .i64 g)∧w'.cell? ⟨w.heap.size+1,4,none⟩=some (.int .i64 y)):=fun w' hb=>by
  have q:w'.heap[w.heap.size+1]?=some (.cells ([.int .i64 k,.string p,.string t,.int .i64 g,.int .i64 y]:List Value).toArray 50 (0,0)):=(hb.block _ (by omega)).trans (by
   have:=zah (w:=w.alloc (.cells #[.slice dW ws.length eW,.slice dP ps.length eP,.slice dS es.length eS,.slice dQ qs.length eQ] 48)) (o:=.cells #[.int .i64 k,.string p,.string t,.int .i64 g,.int .i64 y] 50) rfl;simp only[World.size_alloc] at this;rw[hW]
   exact zat this)
  exact ⟨(zae q 0).1,(zae q 1).1,(zae q 2).1,(zae q 3).1,(zae q 4).1⟩
 have VR:Hid (∀ w',Below W.heap.size W w'→w'.heap[w.heap.size+1+1]?=some (.cells #[.int .i64 0,.int .i64 0,.slice none 0 0] 38 (0,0))):=fun w' hb=>(hb.block _ (by omega)).trans (by
  have:=zah (w:=(w.alloc (.cells #[.slice dW ws.length eW,.slice dP ps.length eP,.slice dS es.length eS,.slice dQ qs.length eQ] 48)).alloc (.cells #[.int .i64 k,.string p,.string t,.int .i64 g,.int .i64 y] 50)) (o:=.cells #[.int .i64 0,.int .i64 0,.slice none 0 0] 38) rfl;simp only[World.size_alloc] at this;rw[hW]
  exact this)
 have hz2:w.heap.size≤w.heap.size+1+1:=by omega
 generalize opR ws ps es qs k p t g y=res at *;generalize opI ws ps es qs (dvN ws ps es qs) (dvD ws ps es qs) k p t g y=A at *;generalize dvB ws ps es qs=db at *;generalize dvN ws ps es qs=dn at *;generalize dvD ws ps es qs=dd at *;generalize opB k p t g y=ob at *;obtain ⟨x0,x1,x2,x3⟩:=CD.o _ (Below.refl _ _);rw[hW] at x0 x1 x2 x3;go_enter Tryz.func8,Tryz.ntmps8;go_wp2_with fail;rw[← hW];clear hW x0 x1 x2 x3;refine (LI.o _ BW.o).mono ?_;rintro e w1 ⟨v1,rfl,hR,hb1⟩;have HR:=zaa hR;obtain ⟨vI,vD,rfl,hI,hD⟩:=hR;obtain ⟨-,a1,k1,hv1,-⟩:=hI.rd;obtain ⟨-,a2,k2,hv2,-⟩:=hD.rd;subst hv1;subst hv2;have BC:Hid (Below w1.heap.size w1 (w1.alloc (.cells #[.slice a1 dn.length k1,.slice a2 dd.length k2] 79))):=(Below.refl _ _).alloc (Nat.le_refl _) _;have VM:Hid ((w1.alloc (.cells #[.slice a1 dn.length k1,.slice a2 dd.length k2] 79)).heap[w1.heap.size]?=some (.cells #[.slice a1 dn.length k1,.slice a2 dd.length k2] 79 (0,0))):=zah rfl
 obtain ⟨w2,hw2⟩:∃ w2,w2=w1.alloc (.cells #[.slice a1 dn.length k1,.slice a2 dd.length k2] 79):=⟨_,rfl⟩
 rw[← hw2] at BC VM;have A2:=zaa (zfh hb1 BC.o);have Bq2:=zaa (zab BW.o A2.o BW.o.size);have R2:=zaa (HR.o.below BC.o (Nat.le_refl _)).rd;have hz12:w1.heap.size < w2.heap.size:=(Array.getElem?_eq_some_iff.1 VM.o).1
 have BAD:Hid (∀ w',Below W.heap.size W w'→OpOut w ((((w'.alloc (.cells #[] 98)).setCell ⟨w.heap.size+1+1,0,none⟩ (.int .i64 0)).setCell ⟨w.heap.size+1+1,1,none⟩ (.int .i64 0)).setCell ⟨w.heap.size+1+1,2,none⟩ (.slice none 0 0)) (.slice (some ⟨w'.heap.size,0,none⟩) 0 0) (.agg #[.int .i64 0,.int .i64 0,.slice none 0 0]) ⟨[],0,0,[]⟩):=fun w' hb=>by
  have B:=zab BW.o hb BW.o.size
  have T:OpT w (w'.alloc (.cells #[] 98)) (.slice (some ⟨w'.heap.size,0,none⟩) 0 0) (.slice none 0 0) [] []:=⟨(zko w' _ _).wide B.size (Nat.le_refl _),Row.nil _ _ _ _ _,B.alloc B.size _⟩
  exact zde (A:=⟨[],0,0,[]⟩) T (zat (VR.o w' hb)) hz2 rfl rfl
 have BADR:Hid (∀ w',Below W.heap.size W w'→(w'.alloc (.cells #[] 98)).heap[w.heap.size+1+1]?=some (.cells #[.int .i64 0,.int .i64 0,.slice none 0 0] 38 (0,0))):=fun w' hb=>zat (VR.o w' hb)
 clear hb1 HR hI hD LI BC;go_upto_region 2 with fail;rw[← hw2];clear hw2
 cases db with
 | false =>
  rw[if_neg (fun q=>by cases q.1)] at EO;obtain rfl:=EO.o;have FIN:=zaa (BAD.o _ A2.o);obtain ⟨u0,u1,u2,u3,u4,u5⟩:=tri (BADR.o _ A2.o);clear EO BAD BADR LO CD CO VR;go_wp2;refine bodyPost_ret (v:=.tuple #[.slice (some ⟨w2.heap.size,0,none⟩) 0 0,.agg #[.int .i64 0,.int .i64 0,.slice none 0 0],.int .i64 1]) (by simp[results,Tryz.results8,go_sem,u0,u1,u2]) rfl ⟨_,_,rfl,?_⟩
  first | exact FIN.o | exact FIN.o.drew
 | true =>
 obtain ⟨o0,o1,o2,o3,o4⟩:=CO.o _ A2.o;go_wp2_with fail;refine (LK.o _).mono ?_;rintro e w3 ⟨rfl,hb3⟩;have A3:=zaa (zfh A2.o hb3);have B3w:=zaa (zab Bq2.o hb3 Bq2.o.size);have R3:=zaa (R2.o.below hb3);obtain ⟨y0,y1,_,_⟩:=zac ((hb3.block _ hz12).trans VM.o);clear hb3 LK o0 o1 o2 o3 o4 A2 Bq2 R2 VM
 cases ob with
 | false =>
  rw[if_neg (fun q=>by cases q.2)] at EO;obtain rfl:=EO.o;have FIN:=zaa (BAD.o _ A3.o);obtain ⟨u0,u1,u2,u3,u4,u5⟩:=tri (BADR.o _ A3.o);clear EO BAD BADR LO CD CO VR;go_wp2;refine bodyPost_ret (v:=.tuple #[.slice (some ⟨w3.heap.size,0,none⟩) 0 0,.agg #[.int .i64 0,.int .i64 0,.slice none 0 0],.int .i64 1]) (by simp[results,Tryz.results8,go_sem,u0,u1,u2]) rfl ⟨_,_,rfl,?_⟩
  first | exact FIN.o | exact FIN.o.drew
 | true =>
 rw[if_pos (by first | exact ⟨rfl,rfl⟩ | exact ⟨trivial,rfl⟩ | exact ⟨rfl,trivial⟩ | exact ⟨trivial,trivial⟩ | trivial)] at EO;have LO2:=zaa (LO.o (by first | rfl | trivial) (by first | rfl | trivial));clear LO BAD BADR;obtain ⟨o0,o1,o2,o3,o4⟩:=CO.o _ A3.o;obtain ⟨x0,x1,x2,x3⟩:=CD.o _ A3.o;go_wp2_with fail;refine (LO2.o _ _ B3w.o R3.o).mono ?_;rintro e w4 ⟨vS,vA,rfl,hO⟩;have A4:=zaa (zfh A3.o hO.choose_spec.2.2.2);obtain ⟨vN,rfl,T4⟩:=hO.at B3w.o;obtain ⟨-,aS,cS,hvS,-⟩:=T4.s.rd;obtain ⟨-,aN,cN,hvN,-⟩:=T4.n.rd;subst hvS;subst hvN;have T4:=zaa T4;clear hO LO2 o0 o1 o2 o3 o4 x0 x1 x2 x3 y0 y1 R3;obtain rfl:=EO.o;obtain ⟨L,cd,vl,nn⟩:=A;simp only at T4 ⊢;have VX:Hid ((w4.alloc (.cells #[.int .i64 cd,.int .i64 vl,.slice aN nn.length cN] 38)).heap[w4.heap.size]?=some (.cells #[.int .i64 cd,.int .i64 vl,.slice aN nn.length cN] 38 (0,0))):=zah rfl;have T5:=zaa (T4.o.below ((Below.refl w4.heap.size w4).alloc (Nat.le_refl _) (.cells #[.int .i64 cd,.int .i64 vl,.slice aN nn.length cN] 38)));have V5:=zaa (zat (o:=.cells #[.int .i64 cd,.int .i64 vl,.slice aN nn.length cN] 38) (VR.o _ A4.o))
 obtain ⟨w5,hw5⟩:∃ w5,w5=w4.alloc (.cells #[.int .i64 cd,.int .i64 vl,.slice aN nn.length cN] 38):=⟨_,rfl⟩
 rw[← hw5] at VX T5 V5;have FIN:=zaa (zde (A:=⟨L,cd,vl,nn⟩) T5.o V5.o hz2 rfl rfl);obtain ⟨u0,u1,u2,u3,u4,u5⟩:=tri V5.o;obtain ⟨s0,s1,s2,-,-,-⟩:=tri VX.o;clear T4 T5 V5 VX CD CO VR A3 A4 B3w BW EO;go_wp2_with fail;rw[← hw5];clear hw5
 go_region
 all_goals
  go_wp2;refine bodyPost_ret (v:=.tuple #[.slice aS L.length cS,.agg #[.int .i64 cd,.int .i64 vl,.slice aN nn.length cN],.int .i64 0]) (by simp[results,Tryz.results8,go_sem,u0,u1,u2]) rfl ⟨_,_,rfl,?_⟩
  first | exact FIN.o | exact FIN.o.drew
end Go.Proofs.YtehnphoeplmpdaaGreatDoor
