/- Several texts laid together: DuI, AnA, AnL, OpL, DevC. -/
import Derived.Test.YtehnphoeplmpdaaGreatDoorZBW
import Derived.Test.YtehnphoeplmpdaaGreatDoorDtK
import Derived.Test.YtehnphoeplmpdaaGreatDoorZAM
import Derived.Test.YtehnphoeplmpdaaGreatDoorZAN
import Derived.Test.YtehnphoeplmpdaaGreatDoorZAD
import Derived.Test.YtehnphoeplmpdaaGreatDoorDev
import Derived.Test.YtehnphoeplmpdaaGreatDoorZAV
import Derived.Test.YtehnphoeplmpdaaGreatDoorZAU
import Derived.Test.YtehnphoeplmpdaaGreatDoorZAX
import Derived.Deep.RegionWith
import Derived.Deep.DeepCutAuto
import Derived.Deep.RegionLaw
set_option maxRecDepth 100000
set_option maxHeartbeats 16000000
namespace Go.Proofs.YtehnphoeplmpdaaGreatDoor
open Go.RowKit
theorem yatn (ns:List Ino) (r:Int×Int):stA ns r=⟨[],(soR ns r).2,(soR ns r).1,[]⟩:=by
 unfold stA soR
 split <;> rfl
theorem yatq (ns:List Ino) (ds:List Den) (r:Int×Int):lsA ns ds r=⟨[],(naR ns ds r).2,0,(naR ns ds r).1⟩:=by
 unfold lsA naR
 repeat' split
 all_goals rfl
theorem zwc {ws:List Int} {ps:List St} {es:List Int} {qs:List Se} {p:ByteArray} {g y:Int} (h:p.size≤65536) (d:dvB ws ps es qs=true):wrR ws ps es qs p g y=wrI (dvN ws ps es qs) (dvD ws ps es qs) p g y:=by
 unfold wrR;rw[if_neg (by omega),if_pos d,(zdk d).2.2.1,(zdk d).2.2.2.1]
theorem yajb {ws:List Int} {ps:List St} {es:List Int} {qs:List Se} {p:ByteArray} {g:Int} (h:p.size≤65536) (d:dvB ws ps es qs=true):rpR ws ps es qs p g=rpI ws ps es qs (dvN ws ps es qs) (dvD ws ps es qs) p g:=by
 unfold rpR;rw[if_neg (by omega),if_pos d,(zdk d).2.2.1,(zdk d).2.2.2.1]
theorem yatb {ws:List Int} {ps:List St} {es:List Int} {qs:List Se} {k:Int} {p t:ByteArray} {g y:Int} (h:p.size≤65536) (d:dvB ws ps es qs=true) (c8:¬ k=8) (c9:¬ k=9) (c10:¬ k=10):opI ws ps es qs (dvN ws ps es qs) (dvD ws ps es qs) k p t g y=⟨(osR ws ps es qs (dvN ws ps es qs) (dvD ws ps es qs) k p t g y).1,(osR ws ps es qs (dvN ws ps es qs) (dvD ws ps es qs) k p t g y).2,0,[]⟩:=by
 unfold opI osR
 by_cases c6:k=6
 ·rw[if_pos c6,if_pos c6,zwc h d]
 ·rw[if_neg c6,if_neg c6,if_neg c8,if_neg c9,if_neg c10]
theorem zqh (v:Value) (ws:List Int) (ps:List St) (es:List Int) (qs:List Se) (k:Int) (p t:ByteArray) (g y:Int) (w:World) (h:RdDev w v ws ps es qs) (hw:ws.length≤1048576) (hp:ps.length≤1048576) (he:es.length≤1048576) (hq:qs.length≤1048576) (hT:TS w) (hE:ED w) (hF:FD w) (hN:NW w) :
  Calls Tryz.prog 11 #[v,.agg #[.int .i64 k,.string p,.string t,.int .i64 g,.int .i64 y]] w fun e w'=>∃ vS vA,e=.returned (.tuple #[vS,vA,.int .i64 (opR ws ps es qs k p t g y).2])∧OpOut w w' vS vA (opR ws ps es qs k p t g y).1:=by
 have LI:=zaa (fun w1 (hb:Below w.heap.size w w1)=>zgq v ws ps es qs w1 (h.below hb) hw hp he hq (hT.below hb) (hE.below hb) (hF.below hb));have LK:=zaa (fun w1=>zvv k p t g y w1);have LM:=zaa (fun v2 w1 (hb:Below w.heap.size w w1) h2=>zbp v2 (dvN ws ps es qs) (dvD ws ps es qs) w1 h2 (zez ws ps es qs).1 (zez ws ps es qs).2 (hT.below hb) (hE.below hb) (hF.below hb) dv_R zju);rw[zmr] at LM
 have LR:Hid (dvB ws ps es qs=true→p.size≤65536→∀ w1,Below w.heap.size w w1→Calls Tryz.prog 39 #[v,.string p,.int .i64 g] w1 fun e w'=>e=.returned (.tuple #[.int .i64 (rpI ws ps es qs (dvN ws ps es qs) (dvD ws ps es qs) p g).1,.int .i64 (rpI ws ps es qs (dvN ws ps es qs) (dvD ws ps es qs) p g).2])∧Below w1.heap.size w1 w'):=fun d hl w1 hb=>by
  have q:=zms v ws ps es qs p g w1 (h.below hb) hw hp he hq (hT.below hb) (hE.below hb) (hF.below hb) (hN.below hb);rw[yajb hl d] at q;exact q
 have LS:=zaa (fun (d:dvB ws ps es qs=true) (hl:p.size≤65536) v2 w1 (hb:Below w.heap.size w w1) h2=>yads v2 (dvN ws ps es qs) (dvD ws ps es qs) p w1 h2 ((zmr ws ps es qs).trans d) hl (zez ws ps es qs).1 (zez ws ps es qs).2 (hT.below hb) (hE.below hb) (hF.below hb) dv_R zju);have LN:=zaa (fun (d:dvB ws ps es qs=true) (hl:p.size≤65536) v2 w1 (hb:Below w.heap.size w w1) h2=>zzd v2 (dvN ws ps es qs) (dvD ws ps es qs) p w1 h2 ((zmr ws ps es qs).trans d) hl (zez ws ps es qs).1 (zez ws ps es qs).2 (hT.below hb) (hE.below hb) (hF.below hb) dv_R zju);have LP:=zaa (fun (d:dvB ws ps es qs=true) (hl:p.size≤65536) (hl2:t.size≤65536) v2 w1 (hb:Below w.heap.size w w1) h2=>zyi v v2 ws ps es qs (dvN ws ps es qs) (dvD ws ps es qs) k p t g y w1 (h.below hb) h2 ((zmr ws ps es qs).trans d) hl hl2 hw hp he hq (hT.below hb) (hE.below hb) (hF.below hb) (zez ws ps es qs).1 (zez ws ps es qs).2 dv_R zju);have EO:=zaa (show opR ws ps es qs k p t g y=if dvB ws ps es qs=true∧opB k p t g y=true then (opI ws ps es qs (dvN ws ps es qs) (dvD ws ps es qs) k p t g y,0) else (⟨[],0,0,[]⟩,1) from rfl)
 have E8:Hid (k=8→opI ws ps es qs (dvN ws ps es qs) (dvD ws ps es qs) k p t g y=⟨[],(rpI ws ps es qs (dvN ws ps es qs) (dvD ws ps es qs) p g).2,(rpI ws ps es qs (dvN ws ps es qs) (dvD ws ps es qs) p g).1,[]⟩):=fun c=>by unfold opI;rw[if_neg (by omega),if_pos c]
 have E9:Hid (k=9→opI ws ps es qs (dvN ws ps es qs) (dvD ws ps es qs) k p t g y=⟨[],(soR (dvN ws ps es qs) (lkI (dvN ws ps es qs) (dvD ws ps es qs) p)).2,(soR (dvN ws ps es qs) (lkI (dvN ws ps es qs) (dvD ws ps es qs) p)).1,[]⟩):=fun c=>by unfold opI;rw[if_neg (by omega),if_neg (by omega),if_pos c,yatn]
 have E10:Hid (k=10→opI ws ps es qs (dvN ws ps es qs) (dvD ws ps es qs) k p t g y=⟨[],(naR (dvN ws ps es qs) (dvD ws ps es qs) (lkI (dvN ws ps es qs) (dvD ws ps es qs) p)).2,0,(naR (dvN ws ps es qs) (dvD ws ps es qs) (lkI (dvN ws ps es qs) (dvD ws ps es qs) p)).1⟩):=fun c=>by unfold opI;rw[if_neg (by omega),if_neg (by omega),if_neg (by omega),if_pos c,yatq]
 have EX:=zaa (fun (hl:p.size≤65536) (d:dvB ws ps es qs=true) c8 c9 c10=>yatb (ws:=ws) (ps:=ps) (es:=es) (qs:=qs) (k:=k) (p:=p) (t:=t) (g:=g) (y:=y) hl d c8 c9 c10);have OP:=zaa (fun o=>znc (k:=k) (p:=p) (t:=t) (g:=g) (y:=y) o);obtain ⟨dW,eW,dP,eP,dS,eS,dQ,eQ,rfl,-,-⟩:=h.form;clear h hT hE hF hN
 obtain ⟨W,hW⟩:∃ W,W=((w.alloc (.cells #[.slice dW ws.length eW,.slice dP ps.length eP,.slice dS es.length eS,.slice dQ qs.length eQ] 48)).alloc (.cells #[.int .i64 k,.string p,.string t,.int .i64 g,.int .i64 y] 50)).alloc (.cells #[.int .i64 0,.int .i64 0,.slice none 0 0] 38):=⟨_,rfl⟩
 have hzW:W.heap.size=w.heap.size+1+1+1:=by rw[hW];simp only[World.size_alloc]
 have BW:Hid (Below w.heap.size w W):=by
  rw[hW]
  repeat (first | exact Below.refl _ _ | refine Below.alloc ?_ (by first | exact Nat.le_refl _ | (simp only[World.size_alloc];omega)) _)
 have CD:Hid (∀ w',Below W.heap.size W w'→w'.cell? ⟨w.heap.size,0,none⟩=some (.slice dW ws.length eW)∧w'.cell? ⟨w.heap.size,1,none⟩=some (.slice dP ps.length eP)∧w'.cell? ⟨w.heap.size,2,none⟩=some (.slice dS es.length eS)∧w'.cell? ⟨w.heap.size,3,none⟩=some (.slice dQ qs.length eQ)):=fun w' hb=>by
  have q:w'.heap[w.heap.size]?=some (.cells #[.slice dW ws.length eW,.slice dP ps.length eP,.slice dS es.length eS,.slice dQ qs.length eQ] 48 (0,0)):=(hb.block _ (by omega)).trans (by rw[hW];exact zat (zat (zah rfl)));obtain ⟨x0,x1,x2,x3,-,-,-,-⟩:=zax q;exact ⟨x0,x1,x2,x3⟩
 have CO:Hid (∀ w',Below W.heap.size W w'→w'.cell? ⟨w.heap.size+1,0,none⟩=some (.int .i64 k)∧w'.cell? ⟨w.heap.size+1,1,none⟩=some (.string p)∧w'.cell? ⟨w.heap.size+1,2,none⟩=some (.string t)∧w'.cell? ⟨w.heap.size+1,3,none⟩=some (.int .i64 g)∧w'.cell? ⟨w.heap.size+1,4,none⟩=some (.int .i64 y)):=fun w' hb=>by
  have q:w'.heap[w.heap.size+1]?=some (.cells ([.int .i64 k,.string p,.string t,.int .i64 g,.int .i64 y]:List Value).toArray 50 (0,0)):=(hb.block _ (by omega)).trans (by
   have:=zah (w:=w.alloc (.cells #[.slice dW ws.length eW,.slice dP ps.length eP,.slice dS es.length eS,.slice dQ qs.length eQ] 48)) (o:=.cells #[.int .i64 k,.string p,.string t,.int .i64 g,.int .i64 y] 50) rfl;simp only[World.size_alloc] at this;rw[hW]
   exact zat this)
  exact ⟨(zae q 0).1,(zae q 1).1,(zae q 2).1,(zae q 3).1,(zae q 4).1⟩
 have VR:Hid (∀ w',Below W.heap.size W w'→w'.heap[w.heap.size+1+1]?=some (.cells #[.int .i64 0,.int .i64 0,.slice none 0 0] 38 (0,0))):=fun w' hb=>(hb.block _ (by omega)).trans (by
  have:=zah (w:=(w.alloc (.cells #[.slice dW ws.length eW,.slice dP ps.length eP,.slice dS es.length eS,.slice dQ qs.length eQ] 48)).alloc (.cells #[.int .i64 k,.string p,.string t,.int .i64 g,.int .i64 y] 50)) (o:=.cells #[.int .i64 0,.int .i64 0,.slice none 0 0] 38) rfl;simp only[World.size_alloc] at this;rw[hW]
  exact this)
 have hz2:w.heap.size≤w.heap.size+1+1:=by omega
 generalize opR ws ps es qs k p t g y=res at *;generalize osR ws ps es qs (dvN ws ps es qs) (dvD ws ps es qs) k p t g y=OS at *;generalize rpI ws ps es qs (dvN ws ps es qs) (dvD ws ps es qs) p g=RP at *;generalize soR (dvN ws ps es qs) (lkI (dvN ws ps es qs) (dvD ws ps es qs) p)=SO at *;generalize naR (dvN ws ps es qs) (dvD ws ps es qs) (lkI (dvN ws ps es qs) (dvD ws ps es qs) p)=NA at *;generalize opI ws ps es qs (dvN ws ps es qs) (dvD ws ps es qs) k p t g y=A at *;generalize dvB ws ps es qs=db at *;generalize dvN ws ps es qs=dn at *;generalize dvD ws ps es qs=dd at *;generalize opB k p t g y=ob at *;obtain ⟨x0,x1,x2,x3⟩:=CD.o _ (Below.refl _ _);rw[hW] at x0 x1 x2 x3;go_enter Tryz.func11,Tryz.ntmps11;go_wp2_with fail;rw[← hW];clear hW x0 x1 x2 x3;refine (LI.o _ BW.o).mono ?_;rintro e w1 ⟨v1,rfl,hR,hb1⟩;have HR:=zaa hR;obtain ⟨vI,vD,rfl,hI,hD⟩:=hR;obtain ⟨-,a1,k1,hv1,-⟩:=hI.rd;obtain ⟨-,a2,k2,hv2,-⟩:=hD.rd;subst hv1;subst hv2;have BC:Hid (Below w1.heap.size w1 (w1.alloc (.cells #[.slice a1 dn.length k1,.slice a2 dd.length k2] 79))):=(Below.refl _ _).alloc (Nat.le_refl _) _;have VM:Hid ((w1.alloc (.cells #[.slice a1 dn.length k1,.slice a2 dd.length k2] 79)).heap[w1.heap.size]?=some (.cells #[.slice a1 dn.length k1,.slice a2 dd.length k2] 79 (0,0))):=zah rfl
 obtain ⟨w2,hw2⟩:∃ w2,w2=w1.alloc (.cells #[.slice a1 dn.length k1,.slice a2 dd.length k2] 79):=⟨_,rfl⟩
 rw[← hw2] at BC VM;have A2:=zaa (zfh hb1 BC.o);have Bq2:=zaa (zab BW.o A2.o BW.o.size);have R2:=zaa (HR.o.below BC.o (Nat.le_refl _)).rd;have hz12:w1.heap.size < w2.heap.size:=(Array.getElem?_eq_some_iff.1 VM.o).1;have hzW1:W.heap.size≤w1.heap.size:=hb1.size
 have BAD:Hid (∀ w',Below W.heap.size W w'→OpOut w (((w'.setCell ⟨w.heap.size+1+1,0,none⟩ (.int .i64 0)).setCell ⟨w.heap.size+1+1,1,none⟩ (.int .i64 0)).setCell ⟨w.heap.size+1+1,2,none⟩ (.slice none 0 0)) (.slice none 0 0) (.agg #[.int .i64 0,.int .i64 0,.slice none 0 0]) ⟨[],0,0,[]⟩):=fun w' hb =>
  zde (A:=⟨[],0,0,[]⟩) ⟨Row.nil _ _ _ _ _,Row.nil _ _ _ _ _,zab BW.o hb BW.o.size⟩ (VR.o w' hb) hz2 rfl rfl
 clear hb1 HR hI hD LI BC;obtain ⟨o0,o1,o2,o3,o4⟩:=CO.o _ A2.o;go_upto_region 2 with fail;rw[← hw2];clear hw2;go_wp2_with fail;refine (LK.o _).mono ?_;rintro e w3 ⟨rfl,hb3⟩;have A3:=zaa (zfh A2.o hb3);have B3w:=zaa (zab Bq2.o hb3 Bq2.o.size);have R3:=zaa (R2.o.below hb3);have VM3:=zaa ((hb3.block _ hz12).trans VM.o);have hz23:w2.heap.size≤w3.heap.size:=hb3.size;clear hb3 LK o0 o1 o2 o3 o4 A2 Bq2 R2 VM
 cases ob with
 | false =>
  rw[if_neg (fun q=>by cases q.2)] at EO;obtain rfl:=EO.o;have FIN:=zaa (BAD.o _ A3.o);obtain ⟨u0,u1,u2,u3,u4,u5⟩:=tri (VR.o _ A3.o);clear EO BAD CD CO VR LM LR LS LN LP E8 E9 E10 EX;go_wp2;refine bodyPost_ret (v:=.tuple #[.slice none 0 0,.agg #[.int .i64 0,.int .i64 0,.slice none 0 0],.int .i64 1]) (by simp[results,Tryz.results11,go_sem,u0,u1,u2]) rfl ⟨_,_,rfl,?_⟩
  first | exact FIN.o | exact FIN.o.drew
 | true =>
 obtain ⟨-,pl,tl⟩:=OP.o (by first | rfl | trivial);obtain ⟨y0,y1,_,_⟩:=zac VM3.o;go_wp2_with fail;refine (LM.o _ _ B3w.o R3.o).mono ?_;rintro e w4 ⟨rfl,hb4⟩;have A4:=zaa (zfh A3.o hb4);have Bw4:=zaa (zab B3w.o hb4 B3w.o.size);have R4:=zaa (R3.o.below hb4);have VM4:=zaa ((hb4.block _ (by omega)).trans VM3.o);have hz34:w3.heap.size≤w4.heap.size:=hb4.size;clear hb4 LM A3 B3w R3 VM3 y0 y1
 cases db with
 | false =>
  rw[if_neg (fun q=>by first | cases q.1 | cases q)] at EO;obtain rfl:=EO.o;have FIN:=zaa (BAD.o _ A4.o);obtain ⟨u0,u1,u2,u3,u4,u5⟩:=tri (VR.o _ A4.o);clear EO BAD CD CO VR LR LS LN LP E8 E9 E10 EX;go_wp2;refine bodyPost_ret (v:=.tuple #[.slice none 0 0,.agg #[.int .i64 0,.int .i64 0,.slice none 0 0],.int .i64 1]) (by simp[results,Tryz.results11,go_sem,u0,u1,u2]) rfl ⟨_,_,rfl,?_⟩
  first | exact FIN.o | exact FIN.o.drew
 | true =>
 rw[if_pos (by first | exact ⟨rfl,rfl⟩ | exact ⟨trivial,rfl⟩ | exact ⟨rfl,trivial⟩ | exact ⟨trivial,trivial⟩ | trivial)] at EO;have LR2:=zaa (LR.o (by first | rfl | trivial) pl);have LS2:=zaa (LS.o (by first | rfl | trivial) pl);have LN2:=zaa (LN.o (by first | rfl | trivial) pl);have LP2:=zaa (LP.o (by first | rfl | trivial) pl tl);have EX2:=zaa (fun c8 c9 c10=>EX.o pl (by first | rfl | trivial) c8 c9 c10)
 have n24:¬ w.heap.size+1+1=w4.heap.size:=by omega
 have hz4:w.heap.size≤w4.heap.size:=Bw4.o.size;have hb5:Below w4.heap.size w4 (w4.alloc (.cells #[.int .i64 0,.int .i64 0,.slice none 0 0] 38)):=(Below.refl _ _).alloc (Nat.le_refl _) _;have VA_5:Hid ((w4.alloc (.cells #[.int .i64 0,.int .i64 0,.slice none 0 0] 38)).heap[w4.heap.size]?=some (.cells #[.int .i64 0,.int .i64 0,.slice none 0 0] 38 (0,0))):=zah rfl
 obtain ⟨w5,hw5⟩:∃ w5,w5=w4.alloc (.cells #[.int .i64 0,.int .i64 0,.slice none 0 0] 38):=⟨_,rfl⟩
 rw[← hw5] at hb5 VA_5;have A5:=zaa (zfh A4.o hb5);have B5w:=zaa (zab Bw4.o hb5 Bw4.o.size);have R5:=zaa (R4.o.below hb5);have VM5:=zaa ((hb5.block _ (by omega)).trans VM4.o);have VR_5:=zaa (VR.o _ A5.o)
 have T_5:Hid (OpT w w5 (.slice none 0 0) (.slice none 0 0) [] []):=⟨Row.nil _ _ _ _ _,Row.nil _ _ _ _ _,B5w.o⟩
 have hl5:w4.heap.size < w5.heap.size:=(Array.getElem?_eq_some_iff.1 VA_5.o).1
 have hl2:w.heap.size+1+1 < w5.heap.size:=by omega
 clear LR LS LN LP EX BAD VR A4 R4 VM4 hb5 OP;go_upto_region 6 with fail;rw[← hw5];clear hw5;obtain ⟨o0,o1,o2,o3,o4⟩:=CO.o _ A5.o;obtain ⟨x0,x1,x2,x3⟩:=CD.o _ A5.o;obtain ⟨y0,y1,_,_⟩:=zac VM5.o
 by_cases c8:k=8
 case pos =>
  subst c8;have E:=zaa (E8.o rfl);obtain rfl:=EO.o;obtain ⟨rv,rc⟩:=RP;simp only at E LR2;obtain rfl:=E.o;clear E E8 E9 E10 EX2 LS2 LN2 LP2;go_wp2_with fail;refine (LR2.o _ B5w.o).mono ?_;rintro e w6 ⟨rfl,hb6⟩;clear o0 o1 o2 o3 o4 x0 x1 x2 x3 y0 y1 A5 R5 VM5;have T_6:=zaa (T_5.o.below hb6);have VR_6:=zaa ((hb6.block _ (by omega)).trans VR_5.o);have VA_6:=zaa ((hb6.block _ (by omega)).trans VA_5.o);have hs6:w5.heap.size≤w6.heap.size:=hb6.size;clear hb6 T_5 VR_5 VA_5;obtain ⟨r0,r1,r2,r3,r4,r5⟩:=tri VA_6.o;obtain ⟨u0,u1,u2,u3,u4,u5⟩:=tri VR_6.o
  obtain ⟨w7,hw7⟩:∃ w7,w7=w6.setCell ⟨w4.heap.size,1,none⟩ (.int .i64 rv):=⟨_,rfl⟩
  have T_7:=zaa (T_6.o.set VA_6.o hz4 1 (.int .i64 rv));have VR_7:=zaa (zhc (j:=1) VR_6.o n24 (.int .i64 rv));have VA_7:=zaa (puB VA_6.o (.int .i64 rv));rw[← hw7] at T_7 VR_7 VA_7
  obtain ⟨w8,hw8⟩:∃ w8,w8=w7.setCell ⟨w4.heap.size,0,none⟩ (.int .i64 rc):=⟨_,rfl⟩
  have T_8:=zaa (T_7.o.set VA_7.o hz4 0 (.int .i64 rc));have VR_8:=zaa (zhc (j:=0) VR_7.o n24 (.int .i64 rc));have VA_8:=zaa (puA VA_7.o (.int .i64 rc));rw[← hw8] at T_8 VR_8 VA_8;go_wp2_with fail;rw[← hw7,← hw8];clear hw7 hw8 T_6 VR_6 VA_6 T_7 VR_7 VA_7;clear r0 r1 r2 r3 r4 r5 u0 u1 u2 u3 u4 u5;have FIN:=zaa (zde (A:=⟨[],rc,rv,[]⟩) T_8.o VR_8.o hz2 rfl rfl);obtain ⟨r0,r1,r2,r3,r4,r5⟩:=tri VA_8.o;obtain ⟨u0,u1,u2,u3,u4,u5⟩:=tri VR_8.o;clear T_8 VR_8 VA_8
  go_region
  all_goals
   go_wp2;refine bodyPost_ret (v:=.tuple #[.slice none 0 0,.agg #[.int .i64 rc,.int .i64 rv,.slice none 0 0],.int .i64 0]) (by simp[results,Tryz.results11,go_sem,u0,u1,u2]) rfl ⟨_,_,rfl,?_⟩
   first | exact FIN.o | exact FIN.o.drew
 by_cases c9:k=9
 case pos =>
  subst c9;have E:=zaa (E9.o rfl);obtain rfl:=EO.o;obtain ⟨rv,rc⟩:=SO;simp only at E LS2;obtain rfl:=E.o;clear E E8 E9 E10 EX2 LR2 LN2 LP2 c8;go_wp2_with fail;refine (LS2.o _ _ B5w.o R5.o).mono ?_;rintro e w6 ⟨rfl,hb6⟩;clear o0 o1 o2 o3 o4 x0 x1 x2 x3 y0 y1 A5 R5 VM5;have T_6:=zaa (T_5.o.below hb6);have VR_6:=zaa ((hb6.block _ (by omega)).trans VR_5.o);have VA_6:=zaa ((hb6.block _ (by omega)).trans VA_5.o);have hs6:w5.heap.size≤w6.heap.size:=hb6.size;clear hb6 T_5 VR_5 VA_5;obtain ⟨r0,r1,r2,r3,r4,r5⟩:=tri VA_6.o;obtain ⟨u0,u1,u2,u3,u4,u5⟩:=tri VR_6.o
  obtain ⟨w7,hw7⟩:∃ w7,w7=w6.setCell ⟨w4.heap.size,1,none⟩ (.int .i64 rv):=⟨_,rfl⟩
  have T_7:=zaa (T_6.o.set VA_6.o hz4 1 (.int .i64 rv));have VR_7:=zaa (zhc (j:=1) VR_6.o n24 (.int .i64 rv));have VA_7:=zaa (puB VA_6.o (.int .i64 rv));rw[← hw7] at T_7 VR_7 VA_7
  obtain ⟨w8,hw8⟩:∃ w8,w8=w7.setCell ⟨w4.heap.size,0,none⟩ (.int .i64 rc):=⟨_,rfl⟩
  have T_8:=zaa (T_7.o.set VA_7.o hz4 0 (.int .i64 rc));have VR_8:=zaa (zhc (j:=0) VR_7.o n24 (.int .i64 rc));have VA_8:=zaa (puA VA_7.o (.int .i64 rc));rw[← hw8] at T_8 VR_8 VA_8;go_wp2_with fail;rw[← hw7,← hw8];clear hw7 hw8 T_6 VR_6 VA_6 T_7 VR_7 VA_7;clear r0 r1 r2 r3 r4 r5 u0 u1 u2 u3 u4 u5;have FIN:=zaa (zde (A:=⟨[],rc,rv,[]⟩) T_8.o VR_8.o hz2 rfl rfl);obtain ⟨r0,r1,r2,r3,r4,r5⟩:=tri VA_8.o;obtain ⟨u0,u1,u2,u3,u4,u5⟩:=tri VR_8.o;clear T_8 VR_8 VA_8
  go_region
  all_goals
   go_wp2;refine bodyPost_ret (v:=.tuple #[.slice none 0 0,.agg #[.int .i64 rc,.int .i64 rv,.slice none 0 0],.int .i64 0]) (by simp[results,Tryz.results11,go_sem,u0,u1,u2]) rfl ⟨_,_,rfl,?_⟩
   first | exact FIN.o | exact FIN.o.drew
 by_cases c10:k=10
 case pos =>
  subst c10;have E:=zaa (E10.o rfl);obtain rfl:=EO.o;obtain ⟨NN,rc⟩:=NA;simp only at E LN2;obtain rfl:=E.o;clear E E8 E9 E10 EX2 LR2 LS2 LP2 c8 c9;go_wp2_with fail;refine (LN2.o _ _ B5w.o R5.o).mono ?_;rintro e w6 ⟨v6,rfl,hr6,hb6⟩;obtain ⟨-,aN,cN,hvN,-⟩:=hr6.rd;subst hvN;clear o0 o1 o2 o3 o4 x0 x1 x2 x3 y0 y1 A5 R5 VM5;have T_6:=zaa ((T_5.o.below hb6).names (hr6.wide (lo':=w.heap.size) (hi':=w6.heap.size) B5w.o.size (Nat.le_refl _)));have VR_6:=zaa ((hb6.block _ (by omega)).trans VR_5.o);have VA_6:=zaa ((hb6.block _ (by omega)).trans VA_5.o);have hs6:w5.heap.size≤w6.heap.size:=hb6.size;clear hb6 hr6 T_5 VR_5 VA_5;obtain ⟨r0,r1,r2,r3,r4,r5⟩:=tri VA_6.o;obtain ⟨u0,u1,u2,u3,u4,u5⟩:=tri VR_6.o
  obtain ⟨w7,hw7⟩:∃ w7,w7=w6.setCell ⟨w4.heap.size,2,none⟩ (.slice aN NN.length cN):=⟨_,rfl⟩
  have T_7:=zaa (T_6.o.set VA_6.o hz4 2 (.slice aN NN.length cN));have VR_7:=zaa (zhc (j:=2) VR_6.o n24 (.slice aN NN.length cN));have VA_7:=zaa (puC VA_6.o (.slice aN NN.length cN));rw[← hw7] at T_7 VR_7 VA_7
  obtain ⟨w8,hw8⟩:∃ w8,w8=w7.setCell ⟨w4.heap.size,0,none⟩ (.int .i64 rc):=⟨_,rfl⟩
  have T_8:=zaa (T_7.o.set VA_7.o hz4 0 (.int .i64 rc));have VR_8:=zaa (zhc (j:=0) VR_7.o n24 (.int .i64 rc));have VA_8:=zaa (puA VA_7.o (.int .i64 rc));rw[← hw8] at T_8 VR_8 VA_8;go_wp2_with fail;rw[← hw7,← hw8];clear hw7 hw8 T_6 VR_6 VA_6 T_7 VR_7 VA_7;clear r0 r1 r2 r3 r4 r5 u0 u1 u2 u3 u4 u5;have FIN:=zaa (zde (A:=⟨[],rc,0,NN⟩) T_8.o VR_8.o hz2 rfl rfl);obtain ⟨r0,r1,r2,r3,r4,r5⟩:=tri VA_8.o;obtain ⟨u0,u1,u2,u3,u4,u5⟩:=tri VR_8.o;clear T_8 VR_8 VA_8
  go_region
  all_goals
   go_wp2;refine bodyPost_ret (v:=.tuple #[.slice none 0 0,.agg #[.int .i64 rc,.int .i64 0,.slice aN NN.length cN],.int .i64 0]) (by simp[results,Tryz.results11,go_sem,u0,u1,u2]) rfl ⟨_,_,rfl,?_⟩
   first | exact FIN.o | exact FIN.o.drew
 have E:=zaa (EX2.o c8 c9 c10);obtain rfl:=EO.o;obtain ⟨L,rc⟩:=OS;simp only[zwa] at E LP2;obtain rfl:=E.o
 have q8:(k == 8)=false:=by rw[beq_eq_false_iff_ne];exact c8
 have q9:(k == 9)=false:=by rw[beq_eq_false_iff_ne];exact c9
 have q10:(k == 10)=false:=by rw[beq_eq_false_iff_ne];exact c10
 clear E E8 E9 E10 EX2 LR2 LS2 LN2 c8 c9 c10;go_wp2_with fail;refine (LP2.o _ _ B5w.o R5.o).mono ?_;rintro e w6 ⟨v6,rfl,hr6,hb6⟩;obtain ⟨-,aS,cS,hvS,-⟩:=hr6.rd;subst hvS;clear o0 o1 o2 o3 o4 x0 x1 x2 x3 y0 y1 A5 R5 VM5;have T_6:=zaa ((T_5.o.below hb6).steps (hr6.wide (lo':=w.heap.size) (hi':=w6.heap.size) B5w.o.size (Nat.le_refl _)));have VR_6:=zaa ((hb6.block _ (by omega)).trans VR_5.o);have VA_6:=zaa ((hb6.block _ (by omega)).trans VA_5.o);have hs6:w5.heap.size≤w6.heap.size:=hb6.size;clear hb6 hr6 T_5 VR_5 VA_5;obtain ⟨r0,r1,r2,r3,r4,r5⟩:=tri VA_6.o;obtain ⟨u0,u1,u2,u3,u4,u5⟩:=tri VR_6.o
 obtain ⟨w7,hw7⟩:∃ w7,w7=w6.setCell ⟨w4.heap.size,0,none⟩ (.int .i64 rc):=⟨_,rfl⟩
 have T_7:=zaa (T_6.o.set VA_6.o hz4 0 (.int .i64 rc));have VR_7:=zaa (zhc (j:=0) VR_6.o n24 (.int .i64 rc));have VA_7:=zaa (puA VA_6.o (.int .i64 rc));rw[← hw7] at T_7 VR_7 VA_7;go_wp2_with fail;rw[← hw7];clear hw7 T_6 VR_6 VA_6;clear r0 r1 r2 r3 r4 r5 u0 u1 u2 u3 u4 u5;have FIN:=zaa (zde (A:=⟨L,rc,0,[]⟩) T_7.o VR_7.o hz2 rfl rfl);obtain ⟨r0,r1,r2,r3,r4,r5⟩:=tri VA_7.o;obtain ⟨u0,u1,u2,u3,u4,u5⟩:=tri VR_7.o;clear T_7 VR_7 VA_7
 go_region
 all_goals
  go_wp2;refine bodyPost_ret (v:=.tuple #[.slice aS L.length cS,.agg #[.int .i64 rc,.int .i64 0,.slice none 0 0],.int .i64 0]) (by simp[results,Tryz.results11,go_sem,u0,u1,u2]) rfl ⟨_,_,rfl,?_⟩
  first | exact FIN.o | exact FIN.o.drew
theorem zgv (c v:Int) (va vb:Value) (ss:List ByteArray) (w:World) (ha:RdT w va ss) (hb:RdT w vb ss) (hn:ss.length≤2147483648) :
  Calls Tryz.prog 13 #[.agg #[.int .i64 c,.int .i64 v,va],.agg #[.int .i64 c,.int .i64 v,vb]] w fun e w'=>e=.returned (.bool true)∧Below w.heap.size w w':=by
 have LE:=zaa (fun w1 (h:Below w.heap.size w w1)=>zql va vb ss w1 (Rd.below ha h) (Rd.below hb h) hn);obtain ⟨-,aa,ca,rfl,-⟩:=ha;obtain ⟨-,ab,cb,rfl,-⟩:=hb;have BW:Hid (Below w.heap.size w ((w.alloc (.cells #[.int .i64 c,.int .i64 v,.slice aa ss.length ca] 38)).alloc (.cells #[.int .i64 c,.int .i64 v,.slice ab ss.length cb] 38))):=((Below.refl _ _).alloc (Nat.le_refl _) _).alloc (by simp) _;go_enter Tryz.func13,Tryz.ntmps13;go_wp2_with fail;refine (LE.o _ BW.o).mono ?_;rintro e w1 ⟨rfl,hb1⟩;have B1:=zaa (zab BW.o hb1 BW.o.size);clear hb1;go_wp2;go_ret;exact ⟨rfl,B1.o⟩
theorem zqg (c v:Int) (vN:Value) (ss:List ByteArray) (k0:Int) (lo hi:Nat) (w:World) (h:Row w 9 1 lo hi vN ss.length (zcy ss)) (hz:hi≤w.heap.size) (hn:ss.length≤16777216) (h0:0≤k0) (h1:k0≤1099511627776) :
  Calls Tryz.prog 17 #[.agg #[.int .i64 c,.int .i64 v,vN],.int .i64 k0] w fun e w'=>e=.returned (.int .i64 (k0+ss.length))∧Row w' 9 1 lo hi vN ss.length (zcy (zdn k0 ss.length))∧∃ wa,Below w.heap.size w wa∧hi≤wa.heap.size∧wa.grownBy w' vN.ownBlock:=by
 obtain ⟨-,aa,ca,rfl,-⟩:=h.rd;have BW:Hid (Below w.heap.size w (w.alloc (.cells #[.int .i64 c,.int .i64 v,.slice aa ss.length ca] 38))):=(Below.refl _ _).alloc (Nat.le_refl _) _;have LM:=zaa (zpx (.slice aa ss.length ca) ss k0 lo hi (w.alloc (.cells #[.int .i64 c,.int .i64 v,.slice aa ss.length ca] 38)) (h.below BW.o hz) (Nat.le_trans hz BW.o.size) hn h0 h1);have hz2:hi≤(w.alloc (.cells #[.int .i64 c,.int .i64 v,.slice aa ss.length ca] 38)).heap.size:=Nat.le_trans hz BW.o.size;have Z2:=zaa hz2;clear h hz hz2;go_enter Tryz.func17,Tryz.ntmps17;go_wp2_with fail;refine LM.o.mono ?_;rintro e w1 ⟨rfl,hr1,hg1,-⟩;have R1:=zaa hr1;have G1:=zaa hg1;clear hr1 hg1 LM;go_wp2;go_ret;exact ⟨rfl,R1.o,_,BW.o,Z2.o,G1.o⟩
theorem zjb (c v:Int) (vN:Value) (n:Nat) (k0:Int) (w:World) (h:RdT w vN (zdn k0 n)) (hn:n≤16777216) (h0:0≤k0) (h1:k0≤1099511627776) :
  Calls Tryz.prog 19 #[.agg #[.int .i64 c,.int .i64 v,vN],.int .i64 k0] w fun e w'=>e=.returned (.int .i64 (k0+n))∧Below w.heap.size w w':=by
 have LH:=zaa (fun w1 (hb:Below w.heap.size w w1)=>zpn vN n k0 w1 (Rd.below h hb) hn h0 h1);obtain ⟨-,aa,ca,e,-⟩:=h;rw[zdp] at e;subst e;have BW:Hid (Below w.heap.size w (w.alloc (.cells #[.int .i64 c,.int .i64 v,.slice aa n ca] 38))):=(Below.refl _ _).alloc (Nat.le_refl _) _
 have q:¬ k0+(n:Int) < 0:=by omega
 go_enter Tryz.func19,Tryz.ntmps19;go_wp2_with fail;refine (LH.o _ BW.o).mono ?_;rintro e w1 ⟨rfl,hb1⟩;have B1:=zaa (zab BW.o hb1 BW.o.size);clear hb1;go_wp2;go_ret;exact ⟨rfl,B1.o⟩
theorem zwb {w w':World} {base:Nat} {e t:TypeId} {size:Nat} {v:Value} {n:Nat} {xs:List Value} {b:Nat} {c:Array Value} {fr:Nat×Nat} (h:w.ownsRow base e size v n xs) (hb:w.heap[b]?=some (.cells c t fr)) (hne:e≠t) (hg:w.grownBy w' v.ownBlock):w'.heap[b]?=some (.cells c t fr) :=
 (hg.block b (Array.getElem?_eq_some_iff.1 hb).1 (fun q=>zcc h hb hne q.symm)).trans hb
structure CutO (w0 wx:World) (vS vN:Value) (bx:Nat) (A:OpA):Prop where
 t:OpT w0 wx vS vN A.steps A.names
 bx0:w0.heap.size≤bx
 box:wx.heap[bx]?=some (.cells #[.int .i64 A.code,.int .i64 A.val,vN] 38 (0,0))
theorem CutO.new {w0 wf:World} {vS vN:Value} {A:OpA} (h:OpT w0 wf vS vN A.steps A.names):CutO w0 (wf.alloc (.cells #[.int .i64 A.code,.int .i64 A.val,vN] 38)) vS vN wf.heap.size A :=
 ⟨h.below ((Below.refl _ _).alloc (Nat.le_refl _) _),h.b.size,zah rfl⟩
theorem CutO.old {w0 wf:World} {vS vN:Value} {bx:Nat} {A:OpA} {x y z:Value} (h:OpT w0 wf vS vN A.steps A.names) (hb:wf.heap[bx]?=some (.cells #[x,y,z] 38 (0,0))) (hx:w0.heap.size≤bx):CutO w0 (((wf.setCell ⟨bx,0,none⟩ (.int .i64 A.code)).setCell ⟨bx,1,none⟩ (.int .i64 A.val)).setCell ⟨bx,2,none⟩ vN) vS vN bx A :=
 ⟨((h.set hb hx 0 _).set (puA hb _) hx 1 _).set (puB (puA hb _) _) hx 2 _,hx,puC (puB (puA hb _) _) _⟩
theorem zsm (k:Int) (p t:ByteArray) (g x:Int) (w:World):Calls Tryz.prog 10 #[.agg #[.int .i64 k,.string p,.string t,.int .i64 g,.int .i64 x]] w fun e w'=>e=.returned (.agg #[.int .i64 k,.string p,.string t,.int .i64 g,.int .i64 x])∧Below w.heap.size w w':=by
 go_enter Tryz.func10,Tryz.ntmps10;go_wp2;refine bodyPost_ret (v:=.agg #[.int .i64 k,.string p,.string t,.int .i64 g,.int .i64 x]) (by simp[results,Tryz.results10,go_sem]) rfl ⟨rfl,?_⟩
 repeat (first | exact Below.refl _ _ | refine Below.setCell ?_ (by simp only;omega) _ | refine Below.alloc ?_ (by simp <;> omega) _)
def opZ (p t:ByteArray) (left:Int):Int:=if left < (p.size:Int)+(t.size:Int) then -1 else left - (p.size:Int) - (t.size:Int)
theorem yame (k:Int) (p t:ByteArray) (g x left:Int) (w:World) (hp:p.size≤maxLen) (ht:t.size≤maxLen) (h0:0≤left) (h1:left≤1048576):Calls Tryz.prog 7 #[.agg #[.int .i64 k,.string p,.string t,.int .i64 g,.int .i64 x],.int .i64 left] w fun e w'=>e=.returned (.int .i64 (opZ p t left))∧Below w.heap.size w w':=by
 unfold maxLen at hp ht;have EO:=zaa (show opZ p t left=if left < (p.size:Int)+(t.size:Int) then -1 else left - (p.size:Int) - (t.size:Int) from rfl);have BW:=zaa ((Below.refl w.heap.size w).alloc (Nat.le_refl _) (.cells #[.int .i64 k,.string p,.string t,.int .i64 g,.int .i64 x] 32));generalize opZ p t left=r at *
 by_cases c:left < (p.size:Int)
 ·rw[if_pos (by omega)] at EO;obtain rfl:=EO.o
  have c':left - (p.size:Int) < 0:=by omega
  go_enter Tryz.func7,Tryz.ntmps7;go_wp2;go_ret;exact ⟨rfl,BW.o⟩
 have c':¬ left - (p.size:Int) < 0:=by omega
 by_cases d:left < (p.size:Int)+(t.size:Int)
 ·rw[if_pos d] at EO;obtain rfl:=EO.o
  have d':left - (p.size:Int) - (t.size:Int) < 0:=by omega
  go_enter Tryz.func7,Tryz.ntmps7;go_wp2;go_ret;exact ⟨rfl,BW.o⟩
 ·rw[if_neg d] at EO;obtain rfl:=EO.o
  have d':¬ left - (p.size:Int) - (t.size:Int) < 0:=by omega
  go_enter Tryz.func7,Tryz.ntmps7;go_wp2;go_ret;exact ⟨rfl,BW.o⟩
theorem zak {a w:World} (h:Below a.heap.size a w) (o:Obj):Below a.heap.size a (w.alloc o):=h.alloc h.size o
end Go.Proofs.YtehnphoeplmpdaaGreatDoor
