import Derived.Test.YtogcbbkhnpmgeaaGreatDoorZBR
set_option maxRecDepth 100000
set_option maxHeartbeats 16000000
namespace Go.Proofs.YtogcbbkhnpmgeaaGreatDoor
open Go.RowKit
theorem ybdh(ns:List Ino)(r:Int×Int):stA ns r=⟨[],(soR ns r).2,(soR ns r).1,[]⟩:=by
 unfold stA soR
 split<;>rfl
theorem ybdy(ns:List Ino)(ds:List Den)(r:Int×Int):lsA ns ds r=⟨[],(naR ns ds r).2,0,(naR ns ds r).1⟩:=by
 unfold lsA naR
 repeat' split
 all_goals rfl
theorem yalt{ws:List Int}{ps:List St}{es:List Int}{qs:List Se}{p:ByteArray}{g y:Int}(h:p.size<=65536)(d:dvB ws ps es qs=true):wrR ws ps es qs p g y=wrI (dvN ws ps es qs) (dvD ws ps es qs) p g y:=by
 unfold wrR;rw[if_neg (by omega),if_pos d,(zen d).2.2.1,(zen d).2.2.2.1]
theorem yapn{ws:List Int}{ps:List St}{es:List Int}{qs:List Se}{p:ByteArray}{g:Int}(h:p.size<=65536)(d:dvB ws ps es qs=true):rpR ws ps es qs p g=rpI ws ps es qs (dvN ws ps es qs) (dvD ws ps es qs) p g:=by
 unfold rpR;rw[if_neg (by omega),if_pos d,(zen d).2.2.1,(zen d).2.2.2.1]
theorem ybeh{ws:List Int}{ps:List St}{es:List Int}{qs:List Se}{k:Int}{p t:ByteArray}{g y:Int}(h:p.size<=65536)(d:dvB ws ps es qs=true)(c8:¬ k=8)(c9:¬ k=9)(c10:¬ k=10):opI ws ps es qs (dvN ws ps es qs) (dvD ws ps es qs) k p t g y=⟨(osR ws ps es qs (dvN ws ps es qs) (dvD ws ps es qs) k p t g y).1,(osR ws ps es qs (dvN ws ps es qs) (dvD ws ps es qs) k p t g y).2,0,[]⟩:=by
 unfold opI osR
 by_cases c6:k=6
 ·rw[if_pos c6,if_pos c6,yalt h d]
 ·rw[if_neg c6,if_neg c6,if_neg c8,if_neg c9,if_neg c10]
theorem ztp(v:Value)(ws:List Int)(ps:List St)(es:List Int)(qs:List Se)(k:Int)(p t:ByteArray)(g y:Int)(w:World)(h:RdDev w v ws ps es qs)(hw:ws.length<=1048576)(hp:ps.length<=1048576)(he:es.length<=1048576)(hq:qs.length<=1048576)(hT:TS w)(hE:ED w)(hF:FD w)(hN:NW w) :
  zC 7 #[v,.agg #[.I k,.string p,.string t,.I g,.I y]] w fun e w'=>∃ vS vA,e=.returned (.tuple #[vS,vA,.I (opR ws ps es qs k p t g y).2])/\OpOut w w' vS vA (opR ws ps es qs k p t g y).1:=by
 have LI:=zaa (fun w1 (hb:zB w w1)=>zik v ws ps es qs w1 (h.below hb) hw hp he hq (hT.below hb) (hE.below hb) (hF.below hb));have LK:=zaa (fun w1=>zoj k p t g y w1);have LM:=zaa (fun v2 w1 (hb:zB w w1) h2=>zby v2 (dvN ws ps es qs) (dvD ws ps es qs) w1 h2 (zgv ws ps es qs).1 (zgv ws ps es qs).2 (hT.below hb) (hE.below hb) (hF.below hb) dv_R zld);rw[zry]at LM
 have LR:Hid (dvB ws ps es qs=true->p.size<=65536->∀ w1,zB w w1->zC 25 #[v,.string p,.I g] w1 fun e w'=>e=.returned (.tuple #[.I (rpI ws ps es qs (dvN ws ps es qs) (dvD ws ps es qs) p g).1,.I (rpI ws ps es qs (dvN ws ps es qs) (dvD ws ps es qs) p g).2])/\zB w1 w'):=fun d hl w1 hb=>by
  have q:=zoz v ws ps es qs p g w1 (h.below hb) hw hp he hq (hT.below hb) (hE.below hb) (hF.below hb) (hN.below hb);rw[yapn hl d]at q;exact q
 have LS:=zaa (fun(d:dvB ws ps es qs=true) (hl:p.size<=65536) v2 w1 (hb:zB w w1) h2=>yahw v2 (dvN ws ps es qs) (dvD ws ps es qs) p w1 h2 ((zry ws ps es qs).trans d) hl (zgv ws ps es qs).1 (zgv ws ps es qs).2 (hT.below hb) (hE.below hb) (hF.below hb) dv_R zld);have LN:=zaa (fun(d:dvB ws ps es qs=true) (hl:p.size<=65536) v2 w1 (hb:zB w w1) h2=>yadf v2 (dvN ws ps es qs) (dvD ws ps es qs) p w1 h2 ((zry ws ps es qs).trans d) hl (zgv ws ps es qs).1 (zgv ws ps es qs).2 (hT.below hb) (hE.below hb) (hF.below hb) dv_R zld);have LP:=zaa (fun(d:dvB ws ps es qs=true) (hl:p.size<=65536) (hl2:t.size<=65536) v2 w1 (hb:zB w w1) h2=>yaeb v v2 ws ps es qs (dvN ws ps es qs) (dvD ws ps es qs) k p t g y w1 (h.below hb) h2 ((zry ws ps es qs).trans d) hl hl2 hw hp he hq (hT.below hb) (hE.below hb) (hF.below hb) (zgv ws ps es qs).1 (zgv ws ps es qs).2 dv_R zld);have EO:=zaa (show opR ws ps es qs k p t g y=if dvB ws ps es qs=true/\opB k p t g y=true then(opI ws ps es qs (dvN ws ps es qs) (dvD ws ps es qs) k p t g y,0) else(⟨[],0,0,[]⟩,1)from rfl)
 have E8:Hid (k=8->opI ws ps es qs (dvN ws ps es qs) (dvD ws ps es qs) k p t g y=⟨[],(rpI ws ps es qs (dvN ws ps es qs) (dvD ws ps es qs) p g).2,(rpI ws ps es qs (dvN ws ps es qs) (dvD ws ps es qs) p g).1,[]⟩):=fun c=>by unfold opI;rw[if_neg (by omega),if_pos c]
 have E9:Hid (k=9->opI ws ps es qs (dvN ws ps es qs) (dvD ws ps es qs) k p t g y=⟨[],(soR (dvN ws ps es qs) (lkI (dvN ws ps es qs) (dvD ws ps es qs) p)).2,(soR (dvN ws ps es qs) (lkI (dvN ws ps es qs) (dvD ws ps es qs) p)).1,[]⟩):=fun c=>by unfold opI;rw[if_neg (by omega),if_neg (by omega),if_pos c,ybdh]
 have E10:Hid (k=10->opI ws ps es qs (dvN ws ps es qs) (dvD ws ps es qs) k p t g y=⟨[],(naR (dvN ws ps es qs) (dvD ws ps es qs) (lkI (dvN ws ps es qs) (dvD ws ps es qs) p)).2,0,(naR (dvN ws ps es qs) (dvD ws ps es qs) (lkI (dvN ws ps es qs) (dvD ws ps es qs) p)).1⟩):=fun c=>by unfold opI;rw[if_neg (by omega),if_neg (by omega),if_neg (by omega),if_pos c,ybdy]
 have EX:=zaa (fun(hl:p.size<=65536) (d:dvB ws ps es qs=true) c8 c9 c10=>ybeh (ws:=ws) (ps:=ps) (es:=es) (qs:=qs) (k:=k) (p:=p) (t:=t) (g:=g) (y:=y) hl d c8 c9 c10);have OP:=zaa (fun o=>zpp (k:=k) (p:=p) (t:=t) (g:=g) (y:=y) o);obtain⟨dW,eW,dP,eP,dS,eS,dQ,eQ,rfl,-,-⟩:=h.form;clear h hT hE hF hN
 obtain⟨W,hW⟩:=zE (((w.alloc (.cells #[.slice dW ws.length eW,.slice dP ps.length eP,.slice dS es.length eS,.slice dQ qs.length eQ] 31)).alloc (.cells #[.I k,.string p,.string t,.I g,.I y] 40)).alloc (.cells #[.I 0,.I 0,.N] 35))
 have hzW:W.heap.size=w.heap.size+1+1+1:=by rw[hW];simp only[World.size_alloc]
 have BW:Hid (zB w W):=by
  rw[hW]
  repeat (first | exact zR | refine Below.alloc ?_ (by first | exact Nat.le_refl _ | (simp only[World.size_alloc];omega)) _)
 have CD:Hid (∀ w',zB W w'->w'.cell? ⟨w.heap.size,0,none⟩=some (.slice dW ws.length eW)/\w'.cell? ⟨w.heap.size,1,none⟩=some (.slice dP ps.length eP)/\w'.cell? ⟨w.heap.size,2,none⟩=some (.slice dS es.length eS)/\w'.cell? ⟨w.heap.size,3,none⟩=some (.slice dQ qs.length eQ)):=fun w' hb=>by
  have q:w'.heap[w.heap.size]?=some (.cells #[.slice dW ws.length eW,.slice dP ps.length eP,.slice dS es.length eS,.slice dQ qs.length eQ] 31 (0,0)):=(hb.block _ (by omega)).trans (by rw[hW];exact zal (zal (zaf rfl)));obtain⟨x0,x1,x2,x3,-,-,-,-⟩:=zaq q;exact⟨x0,x1,x2,x3⟩
 have CO:Hid (∀ w',zB W w'->w'.cell? ⟨w.heap.size+1,0,none⟩=some (.I k)/\w'.cell? ⟨w.heap.size+1,1,none⟩=some (.string p)/\w'.cell? ⟨w.heap.size+1,2,none⟩=some (.string t)/\w'.cell? ⟨w.heap.size+1,3,none⟩=some (.I g)/\w'.cell? ⟨w.heap.size+1,4,none⟩=some (.I y)):=fun w' hb=>by
  have q:w'.heap[w.heap.size+1]?=some (.cells ([.I k,.string p,.string t,.I g,.I y]:List Value).toArray 40 (0,0)):=(hb.block _ (by omega)).trans (by
   have:=zaf (w:=w.alloc (.cells #[.slice dW ws.length eW,.slice dP ps.length eP,.slice dS es.length eS,.slice dQ qs.length eQ] 31)) (o:=.cells #[.I k,.string p,.string t,.I g,.I y] 40) rfl;simp only[World.size_alloc]at this;rw[hW]
   exact zal this)
  exact⟨(zag q 0).1,(zag q 1).1,(zag q 2).1,(zag q 3).1,(zag q 4).1⟩
 have VR:Hid (∀ w',zB W w'->w'.heap[w.heap.size+1+1]?=some (.cells #[.I 0,.I 0,.N] 35 (0,0))):=fun w' hb=>(hb.block _ (by omega)).trans (by
  have:=zaf (w:=(w.alloc (.cells #[.slice dW ws.length eW,.slice dP ps.length eP,.slice dS es.length eS,.slice dQ qs.length eQ] 31)).alloc (.cells #[.I k,.string p,.string t,.I g,.I y] 40)) (o:=.cells #[.I 0,.I 0,.N] 35) rfl;simp only[World.size_alloc]at this;rw[hW]
  exact this)
 have hz2:w.heap.size<=w.heap.size+1+1:=by omega
 generalize opR ws ps es qs k p t g y=res at *;generalize osR ws ps es qs (dvN ws ps es qs) (dvD ws ps es qs) k p t g y=OS at *;generalize rpI ws ps es qs (dvN ws ps es qs) (dvD ws ps es qs) p g=RP at *;generalize soR (dvN ws ps es qs) (lkI (dvN ws ps es qs) (dvD ws ps es qs) p)=SO at *;generalize naR (dvN ws ps es qs) (dvD ws ps es qs) (lkI (dvN ws ps es qs) (dvD ws ps es qs) p)=NA at *;generalize opI ws ps es qs (dvN ws ps es qs) (dvD ws ps es qs) k p t g y=A at *;generalize dvB ws ps es qs=db at *;generalize dvN ws ps es qs=dn at *;generalize dvD ws ps es qs=dd at *;generalize opB k p t g y=ob at *;obtain⟨x0,x1,x2,x3⟩:=CD.o _ zR;rw[hW]at x0 x1 x2 x3;go_enter Tryz.func7,Tryz.ntmps7;go_wp2_with fail;rw[<- hW];clear hW x0 x1 x2 x3;refine(LI.o _ BW.o).mono ?_;rintro e w1 ⟨v1,rfl,hR,hb1⟩;have HR:=zaa hR;obtain⟨vI,vD,rfl,hI,hD⟩:=hR;obtain⟨-,a1,k1,hv1,-⟩:=hI.rd;obtain⟨-,a2,k2,hv2,-⟩:=hD.rd;subst hv1;subst hv2;have BC:Hid (zB w1 (w1.alloc (.cells #[.slice a1 dn.length k1,.slice a2 dd.length k2] 51))):=zR.alloc zL _;have VM:Hid ((w1.alloc (.cells #[.slice a1 dn.length k1,.slice a2 dd.length k2] 51)).heap[w1.heap.size]?=some (.cells #[.slice a1 dn.length k1,.slice a2 dd.length k2] 51 (0,0))):=zaf rfl
 obtain⟨w2,hw2⟩:=zE (w1.alloc (.cells #[.slice a1 dn.length k1,.slice a2 dd.length k2] 51))
 rw[<- hw2]at BC VM;have A2:=zaa (zgu hb1 BC.o);have Bq2:=zaa (zab BW.o A2.o BW.o.size);have R2:=zaa (HR.o.below BC.o zL).rd;have hz12:w1.heap.size<w2.heap.size:=(Array.getElem?_eq_some_iff.1 VM.o).1;have hzW1:W.heap.size<=w1.heap.size:=hb1.size
 have BAD:Hid (∀ w',zB W w'->OpOut w (((w'.setCell ⟨w.heap.size+1+1,0,none⟩ (.I 0)).setCell ⟨w.heap.size+1+1,1,none⟩ (.I 0)).setCell ⟨w.heap.size+1+1,2,none⟩ (.N)) (.N) (.agg #[.I 0,.I 0,.N]) ⟨[],0,0,[]⟩):=fun w' hb =>
  zec (A:=⟨[],0,0,[]⟩) ⟨Row.nil _ _ _ _ _,Row.nil _ _ _ _ _,zab BW.o hb BW.o.size⟩ (VR.o w' hb) hz2 rfl rfl
 clear hb1 HR hI hD LI BC;obtain⟨o0,o1,o2,o3,o4⟩:=CO.o _ A2.o;go_upto_region 2 with fail;rw[<- hw2];clear hw2;go_wp2_with fail;refine(LK.o _).mono ?_;rintro e w3 ⟨rfl,hb3⟩;have A3:=zaa (zgu A2.o hb3);have B3w:=zaa (zab Bq2.o hb3 Bq2.o.size);have R3:=zaa (R2.o.below hb3);have VM3:=zaa ((hb3.block _ hz12).trans VM.o);have hz23:w2.heap.size<=w3.heap.size:=hb3.size;clear hb3 LK o0 o1 o2 o3 o4 A2 Bq2 R2 VM
 cases ob with
 | false =>
  rw[if_neg (fun q=>by cases q.2)]at EO;obtain rfl:=EO.o;have FIN:=zaa (BAD.o _ A3.o);obtain⟨u0,u1,u2,u3,u4,u5⟩:=tri (VR.o _ A3.o);clear EO BAD CD CO VR LM LR LS LN LP E8 E9 E10 EX;go_wp2;refine bodyPost_ret (v:=.tuple #[.N,.agg #[.I 0,.I 0,.N],.I 1]) (by simp[results,Tryz.results7,go_sem,u0,u1,u2]) rfl ⟨_,_,rfl,?_⟩
  first | exact FIN.o | exact FIN.o.drew
 | true =>
 obtain⟨-,pl,tl⟩:=OP.o (by first | rfl | trivial);obtain⟨y0,y1,_,_⟩:=zac VM3.o;go_wp2_with fail;refine(LM.o _ _ B3w.o R3.o).mono ?_;rintro e w4 ⟨rfl,hb4⟩;have A4:=zaa (zgu A3.o hb4);have Bw4:=zaa (zab B3w.o hb4 B3w.o.size);have R4:=zaa (R3.o.below hb4);have VM4:=zaa ((hb4.block _ (by omega)).trans VM3.o);have hz34:w3.heap.size<=w4.heap.size:=hb4.size;clear hb4 LM A3 B3w R3 VM3 y0 y1
 cases db with
 | false =>
  rw[if_neg (fun q=>by first | cases q.1 | cases q)]at EO;obtain rfl:=EO.o;have FIN:=zaa (BAD.o _ A4.o);obtain⟨u0,u1,u2,u3,u4,u5⟩:=tri (VR.o _ A4.o);clear EO BAD CD CO VR LR LS LN LP E8 E9 E10 EX;go_wp2;refine bodyPost_ret (v:=.tuple #[.N,.agg #[.I 0,.I 0,.N],.I 1]) (by simp[results,Tryz.results7,go_sem,u0,u1,u2]) rfl ⟨_,_,rfl,?_⟩
  first | exact FIN.o | exact FIN.o.drew
 | true =>
 rw[if_pos (by first | exact⟨rfl,rfl⟩ | exact⟨trivial,rfl⟩ | exact⟨rfl,trivial⟩ | exact⟨trivial,trivial⟩ | trivial)]at EO;have LR2:=zaa (LR.o (by first | rfl | trivial) pl);have LS2:=zaa (LS.o (by first | rfl | trivial) pl);have LN2:=zaa (LN.o (by first | rfl | trivial) pl);have LP2:=zaa (LP.o (by first | rfl | trivial) pl tl);have EX2:=zaa (fun c8 c9 c10=>EX.o pl (by first | rfl | trivial) c8 c9 c10)
 have n24:¬ w.heap.size+1+1=w4.heap.size:=by omega
 have hz4:w.heap.size<=w4.heap.size:=Bw4.o.size;have hb5:zB w4 (w4.alloc (.cells #[.I 0,.I 0,.N] 35)):=zR.alloc zL _;have VA_5:Hid ((w4.alloc (.cells #[.I 0,.I 0,.N] 35)).heap[w4.heap.size]?=some (.cells #[.I 0,.I 0,.N] 35 (0,0))):=zaf rfl
 obtain⟨w5,hw5⟩:=zE (w4.alloc (.cells #[.I 0,.I 0,.N] 35))
 rw[<- hw5]at hb5 VA_5;have A5:=zaa (zgu A4.o hb5);have B5w:=zaa (zab Bw4.o hb5 Bw4.o.size);have R5:=zaa (R4.o.below hb5);have VM5:=zaa ((hb5.block _ (by omega)).trans VM4.o);have VR_5:=zaa (VR.o _ A5.o)
 have T_5:Hid (OpT w w5 (.N) (.N) [] []):=⟨Row.nil _ _ _ _ _,Row.nil _ _ _ _ _,B5w.o⟩
 have hl5:w4.heap.size<w5.heap.size:=(Array.getElem?_eq_some_iff.1 VA_5.o).1
 have hl2:w.heap.size+1+1<w5.heap.size:=by omega
 clear LR LS LN LP EX BAD VR A4 R4 VM4 hb5 OP;go_upto_region 6 with fail;rw[<- hw5];clear hw5;obtain⟨o0,o1,o2,o3,o4⟩:=CO.o _ A5.o;obtain⟨x0,x1,x2,x3⟩:=CD.o _ A5.o;obtain⟨y0,y1,_,_⟩:=zac VM5.o
 by_cases c8:k=8
 case pos =>
  subst c8;have E:=zaa (E8.o rfl);obtain rfl:=EO.o;obtain⟨rv,rc⟩:=RP;simp only at E LR2;obtain rfl:=E.o;clear E E8 E9 E10 EX2 LS2 LN2 LP2;go_wp2_with fail;refine(LR2.o _ B5w.o).mono ?_;rintro e w6 ⟨rfl,hb6⟩;clear o0 o1 o2 o3 o4 x0 x1 x2 x3 y0 y1 A5 R5 VM5;have T_6:=zaa (T_5.o.below hb6);have VR_6:=zaa ((hb6.block _ (by omega)).trans VR_5.o);have VA_6:=zaa ((hb6.block _ (by omega)).trans VA_5.o);have hs6:w5.heap.size<=w6.heap.size:=hb6.size;clear hb6 T_5 VR_5 VA_5;obtain⟨r0,r1,r2,r3,r4,r5⟩:=tri VA_6.o;obtain⟨u0,u1,u2,u3,u4,u5⟩:=tri VR_6.o
  obtain⟨w7,hw7⟩:=zE (w6.setCell ⟨w4.heap.size,1,none⟩ (.I rv))
  have T_7:=zaa (T_6.o.set VA_6.o hz4 1 (.I rv));have VR_7:=zaa (ziu (j:=1) VR_6.o n24 (.I rv));have VA_7:=zaa (puB VA_6.o (.I rv));rw[<- hw7]at T_7 VR_7 VA_7
  obtain⟨w8,hw8⟩:=zE (w7.setCell ⟨w4.heap.size,0,none⟩ (.I rc))
  have T_8:=zaa (T_7.o.set VA_7.o hz4 0 (.I rc));have VR_8:=zaa (ziu (j:=0) VR_7.o n24 (.I rc));have VA_8:=zaa (puA VA_7.o (.I rc));rw[<- hw8]at T_8 VR_8 VA_8;go_wp2_with fail;rw[<- hw7,<- hw8];clear hw7 hw8 T_6 VR_6 VA_6 T_7 VR_7 VA_7;clear r0 r1 r2 r3 r4 r5 u0 u1 u2 u3 u4 u5;have FIN:=zaa (zec (A:=⟨[],rc,rv,[]⟩) T_8.o VR_8.o hz2 rfl rfl);obtain⟨r0,r1,r2,r3,r4,r5⟩:=tri VA_8.o;obtain⟨u0,u1,u2,u3,u4,u5⟩:=tri VR_8.o;clear T_8 VR_8 VA_8
  go_region
  all_goals
   go_wp2;refine bodyPost_ret (v:=.tuple #[.N,.agg #[.I rc,.I rv,.N],.I 0]) (by simp[results,Tryz.results7,go_sem,u0,u1,u2]) rfl ⟨_,_,rfl,?_⟩
   first | exact FIN.o | exact FIN.o.drew
 by_cases c9:k=9
 case pos =>
  subst c9;have E:=zaa (E9.o rfl);obtain rfl:=EO.o;obtain⟨rv,rc⟩:=SO;simp only at E LS2;obtain rfl:=E.o;clear E E8 E9 E10 EX2 LR2 LN2 LP2 c8;go_wp2_with fail;refine(LS2.o _ _ B5w.o R5.o).mono ?_;rintro e w6 ⟨rfl,hb6⟩;clear o0 o1 o2 o3 o4 x0 x1 x2 x3 y0 y1 A5 R5 VM5;have T_6:=zaa (T_5.o.below hb6);have VR_6:=zaa ((hb6.block _ (by omega)).trans VR_5.o);have VA_6:=zaa ((hb6.block _ (by omega)).trans VA_5.o);have hs6:w5.heap.size<=w6.heap.size:=hb6.size;clear hb6 T_5 VR_5 VA_5;obtain⟨r0,r1,r2,r3,r4,r5⟩:=tri VA_6.o;obtain⟨u0,u1,u2,u3,u4,u5⟩:=tri VR_6.o
  obtain⟨w7,hw7⟩:=zE (w6.setCell ⟨w4.heap.size,1,none⟩ (.I rv))
  have T_7:=zaa (T_6.o.set VA_6.o hz4 1 (.I rv));have VR_7:=zaa (ziu (j:=1) VR_6.o n24 (.I rv));have VA_7:=zaa (puB VA_6.o (.I rv));rw[<- hw7]at T_7 VR_7 VA_7
  obtain⟨w8,hw8⟩:=zE (w7.setCell ⟨w4.heap.size,0,none⟩ (.I rc))
  have T_8:=zaa (T_7.o.set VA_7.o hz4 0 (.I rc));have VR_8:=zaa (ziu (j:=0) VR_7.o n24 (.I rc));have VA_8:=zaa (puA VA_7.o (.I rc));rw[<- hw8]at T_8 VR_8 VA_8;go_wp2_with fail;rw[<- hw7,<- hw8];clear hw7 hw8 T_6 VR_6 VA_6 T_7 VR_7 VA_7;clear r0 r1 r2 r3 r4 r5 u0 u1 u2 u3 u4 u5;have FIN:=zaa (zec (A:=⟨[],rc,rv,[]⟩) T_8.o VR_8.o hz2 rfl rfl);obtain⟨r0,r1,r2,r3,r4,r5⟩:=tri VA_8.o;obtain⟨u0,u1,u2,u3,u4,u5⟩:=tri VR_8.o;clear T_8 VR_8 VA_8
  go_region
  all_goals
   go_wp2;refine bodyPost_ret (v:=.tuple #[.N,.agg #[.I rc,.I rv,.N],.I 0]) (by simp[results,Tryz.results7,go_sem,u0,u1,u2]) rfl ⟨_,_,rfl,?_⟩
   first | exact FIN.o | exact FIN.o.drew
 by_cases c10:k=10
 case pos =>
  subst c10;have E:=zaa (E10.o rfl);obtain rfl:=EO.o;obtain⟨NN,rc⟩:=NA;simp only at E LN2;obtain rfl:=E.o;clear E E8 E9 E10 EX2 LR2 LS2 LP2 c8 c9;go_wp2_with fail;refine(LN2.o _ _ B5w.o R5.o).mono ?_;rintro e w6 ⟨v6,rfl,hr6,hb6⟩;obtain⟨-,aN,cN,hvN,-⟩:=hr6.rd;subst hvN;clear o0 o1 o2 o3 o4 x0 x1 x2 x3 y0 y1 A5 R5 VM5;have T_6:=zaa ((T_5.o.below hb6).names (hr6.wide (lo':=w.heap.size) (hi':=w6.heap.size) B5w.o.size zL));have VR_6:=zaa ((hb6.block _ (by omega)).trans VR_5.o);have VA_6:=zaa ((hb6.block _ (by omega)).trans VA_5.o);have hs6:w5.heap.size<=w6.heap.size:=hb6.size;clear hb6 hr6 T_5 VR_5 VA_5;obtain⟨r0,r1,r2,r3,r4,r5⟩:=tri VA_6.o;obtain⟨u0,u1,u2,u3,u4,u5⟩:=tri VR_6.o
  obtain⟨w7,hw7⟩:=zE (w6.setCell ⟨w4.heap.size,2,none⟩ (.slice aN NN.length cN))
  have T_7:=zaa (T_6.o.set VA_6.o hz4 2 (.slice aN NN.length cN));have VR_7:=zaa (ziu (j:=2) VR_6.o n24 (.slice aN NN.length cN));have VA_7:=zaa (puC VA_6.o (.slice aN NN.length cN));rw[<- hw7]at T_7 VR_7 VA_7
  obtain⟨w8,hw8⟩:=zE (w7.setCell ⟨w4.heap.size,0,none⟩ (.I rc))
  have T_8:=zaa (T_7.o.set VA_7.o hz4 0 (.I rc));have VR_8:=zaa (ziu (j:=0) VR_7.o n24 (.I rc));have VA_8:=zaa (puA VA_7.o (.I rc));rw[<- hw8]at T_8 VR_8 VA_8;go_wp2_with fail;rw[<- hw7,<- hw8];clear hw7 hw8 T_6 VR_6 VA_6 T_7 VR_7 VA_7;clear r0 r1 r2 r3 r4 r5 u0 u1 u2 u3 u4 u5;have FIN:=zaa (zec (A:=⟨[],rc,0,NN⟩) T_8.o VR_8.o hz2 rfl rfl);obtain⟨r0,r1,r2,r3,r4,r5⟩:=tri VA_8.o;obtain⟨u0,u1,u2,u3,u4,u5⟩:=tri VR_8.o;clear T_8 VR_8 VA_8
  go_region
  all_goals
   go_wp2;refine bodyPost_ret (v:=.tuple #[.N,.agg #[.I rc,.I 0,.slice aN NN.length cN],.I 0]) (by simp[results,Tryz.results7,go_sem,u0,u1,u2]) rfl ⟨_,_,rfl,?_⟩
   first | exact FIN.o | exact FIN.o.drew
 have E:=zaa (EX2.o c8 c9 c10);obtain rfl:=EO.o;obtain⟨L,rc⟩:=OS;simp only[zsz]at E LP2;obtain rfl:=E.o
 have q8:(k == 8)=false:=by rw[beq_eq_false_iff_ne];exact c8
 have q9:(k == 9)=false:=by rw[beq_eq_false_iff_ne];exact c9
 have q10:(k == 10)=false:=by rw[beq_eq_false_iff_ne];exact c10
 clear E E8 E9 E10 EX2 LR2 LS2 LN2 c8 c9 c10;go_wp2_with fail;refine(LP2.o _ _ B5w.o R5.o).mono ?_;rintro e w6 ⟨v6,rfl,hr6,hb6⟩;obtain⟨-,aS,cS,hvS,-⟩:=hr6.rd;subst hvS;clear o0 o1 o2 o3 o4 x0 x1 x2 x3 y0 y1 A5 R5 VM5;have T_6:=zaa ((T_5.o.below hb6).steps (hr6.wide (lo':=w.heap.size) (hi':=w6.heap.size) B5w.o.size zL));have VR_6:=zaa ((hb6.block _ (by omega)).trans VR_5.o);have VA_6:=zaa ((hb6.block _ (by omega)).trans VA_5.o);have hs6:w5.heap.size<=w6.heap.size:=hb6.size;clear hb6 hr6 T_5 VR_5 VA_5;obtain⟨r0,r1,r2,r3,r4,r5⟩:=tri VA_6.o;obtain⟨u0,u1,u2,u3,u4,u5⟩:=tri VR_6.o
 obtain⟨w7,hw7⟩:=zE (w6.setCell ⟨w4.heap.size,0,none⟩ (.I rc))
 have T_7:=zaa (T_6.o.set VA_6.o hz4 0 (.I rc));have VR_7:=zaa (ziu (j:=0) VR_6.o n24 (.I rc));have VA_7:=zaa (puA VA_6.o (.I rc));rw[<- hw7]at T_7 VR_7 VA_7;go_wp2_with fail;rw[<- hw7];clear hw7 T_6 VR_6 VA_6;clear r0 r1 r2 r3 r4 r5 u0 u1 u2 u3 u4 u5;have FIN:=zaa (zec (A:=⟨L,rc,0,[]⟩) T_7.o VR_7.o hz2 rfl rfl);obtain⟨r0,r1,r2,r3,r4,r5⟩:=tri VA_7.o;obtain⟨u0,u1,u2,u3,u4,u5⟩:=tri VR_7.o;clear T_7 VR_7 VA_7
 go_region
 all_goals
  go_wp2;refine bodyPost_ret (v:=.tuple #[.slice aS L.length cS,.agg #[.I rc,.I 0,.N],.I 0]) (by simp[results,Tryz.results7,go_sem,u0,u1,u2]) rfl ⟨_,_,rfl,?_⟩
  first | exact FIN.o | exact FIN.o.drew
def isIB:Value->Bool
 | .int _ _=>true
 | _=>false
def isSB:Value->Bool
 | .string _=>true
 | _=>false
def znz:List Value->Bool
 | []=>true
 | [a]=>!isSB a
 | [a,b]=>!isSB a&&!isSB b
 | a::b::c::t=>!isSB a&&!(isIB a&&isIB b&&isIB c)&&znz (b::c::t)
theorem zsp{a:Value}{l:List Value}(h:znz (a::l)=true):isSB a=false/\znz l=true:=by
 match l with
 | []=>simp[znz]at h;exact⟨h,rfl⟩
 | [b]=>simp[znz]at h;exact⟨h.1,by simp[znz,h.2]⟩
 | b::c::t =>
  simp only[znz,Bool.and_eq_true,Bool.not_eq_true']at h;exact⟨h.1.1,h.2⟩
theorem zyz:∀ {l:List Value},znz l=true->∀ (j:Nat) (v:Value),l[j]?=some v->isSB v=false
 | [],_,j,v,e=>by cases e
 | a::l,h,0,v,e=>by
  simp only[List.getElem?_cons_zero,Option.some.injEq]at e;rw[<- e];exact(zsp h).1
 | a::l,h,j+1,v,e=>zyz (zsp h).2 j v (by simpa using e)
theorem zus:∀ {l:List Value},znz l=true->∀ (j:Nat) (a b c:Value),l[j]?=some a->l[j+1]?=some b->l[j+2]?=some c->¬ (isIB a=true/\isIB b=true/\isIB c=true)
 | [],_,j,_,_,_,e,_,_=>by cases e
 | x::l,h,0,a,b,c,e1,e2,e3=>by
  match l,h,e2,e3 with
  | [],_,e2,_=>simp at e2
  | [y],_,_,e3=>simp at e3
  | y::z::t,h,e2,e3 =>
   simp only[List.getElem?_cons_zero,List.getElem?_cons_succ,Option.some.injEq]at e1 e2 e3;subst e1 e2 e3;simp only[znz,Bool.and_eq_true,Bool.not_eq_true']at h;intro q;have:=h.1.2;rw[q.1,q.2.1,q.2.2]at this
   cases this
 | x::l,h,j+1,a,b,c,e1,e2,e3=>zus (zsp h).2 j a b c (by simpa using e1) (by simpa using e2) (by simpa using e3)
def Hard(xs:List Value):Prop:=(∃ (j:Nat) (v:Value),xs[j]?=some v/\isSB v=true)\/∃ (j:Nat) (a b c:Value),xs[j]?=some a/\xs[j+1]?=some b/\xs[j+2]?=some c/\isIB a=true/\isIB b=true/\isIB c=true
structure Soft(w w':World):Prop where
 size:w.heap.size<=w'.heap.size
 blk:∀ j,j<w.heap.size->w'.heap[j]?=w.heap[j]?\/∃ cs t fr,w.heap[j]?=some (.cells cs t fr)/\znz cs.toList=true
theorem Soft.refl(w:World):Soft w w:=⟨Nat.le_refl _,fun _ _=>.inl rfl⟩
theorem Soft.trans{a b c:World}(h:Soft a b)(k:Soft b c):Soft a c :=
 ⟨Nat.le_trans h.size k.size,fun j hj=>by
  rcases h.blk j hj with e | e
  ·rcases k.blk j (Nat.lt_of_lt_of_le hj h.size)with f | f
   ·exact .inl (f.trans e)
   ·rw[e]at f;exact .inr f
  ·exact .inr e⟩
theorem Soft.of_below{w w':World}(h:zB w w'):Soft w w':=⟨h.size,fun j hj=>.inl (h.block j hj)⟩
theorem Soft.alloc{a w:World}(h:Soft a w)(o:Obj):Soft a (w.alloc o):=h.trans (.of_below (zR.alloc zL _))
theorem Soft.drew{a w:World}(h:Soft a w):Soft a w.drew:=h.trans (.of_below zR.drew)
theorem Soft.set{a w:World}(h:Soft a w){b:Nat}{cs:Array Value}{t:TypeId}{fr:Nat×Nat}(hb:w.heap[b]?=some (.cells cs t fr))(hs:znz cs.toList=true)(j:Nat)(u:Value):Soft a (w.setCell ⟨b,j,none⟩ u) :=
 h.trans ⟨by simp[World.setCell],fun k _=>by
  by_cases e:k=b
  ·subst e;exact .inr ⟨cs,t,fr,hb,hs⟩
  ·exact .inl (Below.heap_setCell _ _ _ _ e)⟩
theorem Soft.outside{w w':World}{b:Nat}{cs:Array Value}{t:TypeId}{fr:Nat×Nat}(h:Outside b (b+1) w w')(hb:w.heap[b]?=some (.cells cs t fr))(hs:znz cs.toList=true):Soft w w' :=
 ⟨h.size,fun k hk=>by
  by_cases e:k=b
  ·subst e;exact .inr ⟨cs,t,fr,hb,hs⟩
  ·exact .inl (h.block k hk (by omega))⟩
theorem Rd.soft{w w':World}{size:Nat}{v:Value}{n:Nat}{xs:List Value}(h:Rd w size v n xs)(hs:Soft w w')(hd:0<n*size->Hard xs):Rd w' size v n xs:=by
 by_cases hn:0<n*size
 ·refine h.same hs.size (fun j hj he=>?_)
  rcases hs.blk j hj with e | ⟨cs,t,fr,hb,sf⟩
  ·exact e
  ·exfalso;obtain⟨hl,ao,cap,rfl,_,hc⟩:=h
   have hn':0<n:=by
    rcases Nat.eq_zero_or_pos n with e | e
    ·subst e;simp at hn
    ·exact e
   obtain⟨b',o,rfl,_,hc⟩:=hc hn';simp only[Value.ownBlock,Option.some.injEq]at he;subst he
   have C:∀ k u,xs[k]?=some u->cs.toList[o+k]?=some u:=fun k u e=>by
    have hk:k<n*size:=by
     have:=(List.getElem?_eq_some_iff.1 e).1;omega
    have:=hc k hk;rw[e]at this;simp only[World.cell?,hb]at this;simpa using this
   rcases hd hn with ⟨k,u,e,f⟩ | ⟨k,a,b,c,e1,e2,e3,f1,f2,f3⟩
   ·have:=zyz sf _ _ (C k u e);rw[f]at this
    cases this
   ·exact zus sf (o+k) a b c (C k a e1) (C (k+1) b e2) (C (k+2) c e3) ⟨f1,f2,f3⟩
 ·obtain⟨h3,ao,cap,rfl,h4,h5⟩:=h;refine⟨h3,ao,cap,rfl,h4,fun hp=>?_⟩;obtain⟨b',o,e,hlt,hc⟩:=h5 hp;exact⟨b',o,e,Nat.lt_of_lt_of_le hlt hs.size,fun j hj=>absurd (Nat.lt_of_le_of_lt (Nat.zero_le _) hj) hn⟩
theorem yals{zs:List Int}(h:3<=zs.length):Hard (zeg zs):=.inr ⟨0,_,_,_,zdx zs 0 (by omega),zdx zs 1 (by omega),zdx zs 2 (by omega),rfl,rfl,rfl⟩
theorem RdI.soft{w w':World}{v:Value}{zs:List Int}(h:RdI w v zs)(hs:Soft w w')(h3:3<=zs.length):RdI w' v zs:=Rd.soft h hs (fun _=>yals h3)
theorem yavu{l:List Mi}(h:0<l.length):Hard (mis l):=by
 have a:=yamz l 0 h;have b:=yanm l 0 h;have c:=yanf l 0 h;rw[Nat.zero_mul]at a b c;exact .inr ⟨0,_,_,_,a,b,c,rfl,rfl,rfl⟩
theorem RdM.soft{w w':World}{v:Value}{l:List Mi}(h:RdM w v l)(hs:Soft w w'):RdM w' v l:=Rd.soft h hs (fun hn=>yavu (by omega))
theorem yalu{l:List ByteArray}(h:0<l.length):Hard (zee l):=.inl ⟨0,.string l[0],by simp[zee,h],rfl⟩
theorem RdT.soft{w w':World}{v:Value}{l:List ByteArray}(h:RdT w v l)(hs:Soft w w'):RdT w' v l:=Rd.soft h hs (fun hn=>yalu (by omega))
theorem Rd.softNil{w w':World}{size:Nat}{v:Value}(h:Rd w size v 0 [])(hs:Soft w w'):Rd w' size v 0 []:=Rd.soft h hs (fun hn=>by simp at hn)
theorem RdDev.soft{w w':World}{v:Value}{ws es:List Int}(h:RdDev w v ws [] es [])(hs:Soft w w')(h1:3<=ws.length)(h2:3<=es.length):RdDev w' v ws [] es []:=by
 obtain⟨vW,vP,vS,vQ,rfl,⟨_,_,e1,a,b⟩,⟨_,_,e2,c,d⟩⟩:=h
 cases e1
 cases e2
 exact⟨_,_,_,_,rfl,⟨_,_,rfl,RdI.soft a hs h1,Rd.softNil b hs⟩,⟨_,_,rfl,RdI.soft c hs h2,Rd.softNil d hs⟩⟩
theorem yasi{w:World}{b:Nat}{t:TypeId}{x y z u a b' c d:Value}(h:w.heap[b]?=some (.cells #[x,y,z,u] t (0,0))):(putR w b a b' c d).heap[b]?=some (.cells #[a,b',c,d] t (0,0)):=by
 simp[putR,World.setCell,Array.getElem?_modify,h]
theorem belY{a b c:World}(h1:zB a b)(h2:zB b c):zB a c:=zab h1 h2 h1.size
structure MidA(l:List Mi)(ws:List Int)(ps:List St)(es:List Int)(qs:List Se)(w wr:World)(k:Nat)(W:List Int)(P:List St)(E:List Int)(Q:List Se)(a b' c d:Value):Prop where
 run:mr (l.take k) ws ps es qs=⟨0,W,P,E,Q⟩
 box:wr.heap[w.heap.size]?=some (.cells #[a,b',c,d] 31 (0,0))
 res:wr.heap[w.heap.size+1]?=some (.cells #[.N,.N,.N,.N] 31 (0,0))
 rd:RdDev wr (.agg #[a,b',c,d]) W P E Q
 below:zB w wr
 size:w.heap.size+1<wr.heap.size
theorem RdDev.put{w:World}{b:Nat}{ws:List Int}{ps:List St}{es:List Int}{qs:List Se}{v:Value}{x y z u:Value}{t:TypeId}{fr:Nat×Nat}(h:RdDev w v ws ps es qs)(hb:w.heap[b]?=some (.cells #[x,y,z,u] t fr))(hx:∀ n,¬ x=.I n)(hy:∀ n,¬ y=.I n)(hz:∀ n,¬ z=.I n)(hu:∀ n,¬ u=.I n)(p q r s:Value):RdDev (putR w b p q r s) v ws ps es qs:=by
 obtain⟨vW,vP,vS,vQ,rfl,h1,h2⟩:=h;have O:=zkd w b p q r s;have N:=zea hx hy hz hu;exact⟨_,_,_,_,rfl,h1.boxless hb N O.size (fun j hj hn=>O.block j hj (by omega)),h2.boxless hb N O.size (fun j hj hn=>O.block j hj (by omega))⟩
theorem yatc{l:List Mi}{ws:List Int}{ps:List St}{es:List Int}{qs:List Se}(h:(mr l ws ps es qs).c=0){k:Nat}(hk:k<l.length){W:List Int}{P:List St}{E:List Int}{Q:List Se}(r:mr (l.take k) ws ps es qs=⟨0,W,P,E,Q⟩):zti l[k] P Q=false:=by
 cases f:zti l[k] P Q with
 | false=>rfl
 | true =>
  rw[yazx hk r f]at h
  cases h
theorem yaix(v vL:Value)(l:List Mi)(ws:List Int)(ps:List St)(es:List Int)(qs:List Se)(W':List Int)(P':List St)(E':List Int)(Q':List Se)(w:World)(h:RdDev w v ws ps es qs)(hL:RdM w vL l)(hp:pmB ws ps=true)(hb:zfp es qs=true)(hm:∀ m∈l,miB m=true)(hl:l.length<=1000)(r:mr l ws ps es qs=⟨0,W',P',E',Q'⟩) :
  zC 108 #[v,vL] w fun e w'=>∃ v',e=.returned v'/\RdDev w' v' W' P' E' Q'/\zB w w':=by
 have HD:=zaa h;have CP:=zaa (And.intro hp hb);have CM:=zaa hm;have C0:=zaa (show(mr l ws ps es qs).c=0 by rw[r]);have RR:=zaa r;obtain⟨aL,cL,rfl,-,hcL⟩:=hL.shape;have HL:=zaa hcL;obtain⟨aW,cW,aP,cP,aS,cS,aQ,cQ,rfl,-,-⟩:=h.form;clear h hL hcL hp hb hm r
 obtain⟨V,hV⟩:=zE ((w.alloc (.cells #[.slice aW ws.length cW,.slice aP ps.length cP,.slice aS es.length cS,.slice aQ qs.length cQ] 31)).alloc (.cells #[.N,.N,.N,.N] 31))
 have hb0:zB w V:=by
  rw[hV]
  repeat (refine Below.alloc ?_ (by simp<;>omega) _)
  exact zR
 have I0:Hid (MidA l ws ps es qs w V 0 ws ps es qs (.slice aW ws.length cW) (.slice aP ps.length cP) (.slice aS es.length cS) (.slice aQ qs.length cQ)) :=
  ⟨rfl,by rw[hV];exact zal (zaf rfl),by rw[hV];exact zaf (by simp),HD.o.below hb0,hb0,by rw[hV];simp⟩
 clear hb0;go_enter Tryz.func108,Tryz.ntmps108;go_upto_region 1 with fail;rw[<- hV];clear hV;go_wp2_with fail
 go_loopw [5] (fun i wq=>∃ k:Nat,k<=l.length/\i=.I k/\∃ (W:List Int) (P:List St) (E:List Int) (Q:List Se) (d1 d2 d3 d4:Option Addr) (f1 f2 f3 f4:Nat),Hid (MidA l ws ps es qs w wq k W P E Q (.slice d1 W.length f1) (.slice d2 P.length f2) (.slice d3 E.length f3) (.slice d4 Q.length f4))) (fun i _=>l.length-(intOf i).toNat)
 case atStart=>exact⟨0,by omega,rfl,ws,ps,es,qs,_,_,_,_,_,_,_,_,I0⟩
 case round =>
  obtain⟨k,hk,rfl,W,P,E,Q,d1,d2,d3,d4,f1,f2,f3,f4,I⟩:=hrel;clear I0;have hsz:=I.o.size
  by_cases hlt:k<l.length
  ·obtain⟨bL,oL,rfl,hblL,hcellL⟩:=HL.o (by omega);obtain⟨g0,g1,g2⟩:=hcellL k hlt;have e0:=(I.o.below.cell (p:=⟨bL,oL+k*3,none⟩) hblL).trans g0;have e1:=(I.o.below.cell (p:=⟨bL,oL+k*3+1,none⟩) hblL).trans g1;have e2:=(I.o.below.cell (p:=⟨bL,oL+k*3+2,none⟩) hblL).trans g2
   have k0:(0:Int)<=(k:Int):=by omega
   have k1:(k:Int)<(l.length:Int):=by omega
   clear g0 g1 g2 hcellL
   have XO:=zaa (show pmB W P=true/\zfp E Q=true by
    have:=yazq (l.take k) ws ps es qs CP.o.1 CP.o.2 (fun m hm=>CM.o m (List.mem_of_mem_take hm));rw[I.o.run]at this
    exact this)
   have NX:=zaa (ybac hlt I.o.run (yatc C0.o hlt I.o.run))
   have LD:Hid (∀ v2 w1,RdDev w1 v2 W P E Q->zC 164 #[v2,.agg #[.I l[k].kind,.I l[k].at_,.I l[k].val]] w1 fun e w'=>∃ v',e=.returned v'/\RdDev w' v' (doW l[k] W P) (doP l[k] P) (doE l[k] E Q) (doQ l[k] Q)/\zB w1 w'):=fun v2 w1 h2=>yaks v2 l[k] W P E Q w1 h2 XO.o.1 XO.o.2 (CM.o _ (List.getElem_mem hlt))
   obtain⟨x0,x1,x2,x3,y0,y1,y2,y3⟩:=zaq I.o.box;generalize doW l[k] W P=W2 at *;generalize doP l[k] P=P2 at *;generalize doE l[k] E Q=E2 at *;generalize doQ l[k] Q=Q2 at *;generalize l[k]=m at *;go_wp2_with fail
   go_region_law (go_simp;go_at_call 164;refine(LD.o _ _ (I.o.rd.below (by repeat (first | with_reducible exact zR | with_reducible refine Below.drew ?_)))).mono ?_;rintro e wf ⟨vf,rfl,hrf,hbf⟩;have BF:Hid (zB wr wf):=belY (by repeat (first | with_reducible exact zR | with_reducible refine Below.drew ?_)) hbf;have RF:=zaa hrf;obtain⟨i0,j0,i1,j1,i2,j2,i3,j3,rfl,-,-⟩:=hrf.form;have DB:=zaa ((BF.o.block w.heap.size (by omega)).trans I.o.box);obtain⟨z0,z1,z2,z3,z4,z5,z6,z7⟩:=zaq DB.o;clear hrf hbf)
   all_goals
    have DR:=zaa ((BF.o.block (w.heap.size+1) (by omega)).trans I.o.res)
    have G:Hid (MidA l ws ps es qs w (putR wf w.heap.size (.slice i0 W2.length j0) (.slice i1 P2.length j1) (.slice i2 E2.length j2) (.slice i3 Q2.length j3)) (k+1) W2 P2 E2 Q2 (.slice i0 W2.length j0) (.slice i1 P2.length j1) (.slice i2 E2.length j2) (.slice i3 Q2.length j3)):=by
     have O:=zkd wf w.heap.size (.slice i0 W2.length j0) (.slice i1 P2.length j1) (.slice i2 E2.length j2) (.slice i3 Q2.length j3);have Z:=zsk wf w.heap.size (.slice i0 W2.length j0) (.slice i1 P2.length j1) (.slice i2 E2.length j2) (.slice i3 Q2.length j3);have zf:=BF.o.size;exact⟨NX.o,yasi DB.o,(O.block _ (by omega) (by omega)).trans DR.o,RF.o.put DB.o (zah _ _ _) (zah _ _ _) (zah _ _ _) (zah _ _ _) _ _ _ _,(zab I.o.below BF.o (by omega)).trans (O.below zL (by omega)),Nat.lt_of_lt_of_eq (show w.heap.size+1<wf.heap.size by omega) Z.symm⟩
    go_wp2
    go_roundw
    case rel=>exact⟨k+1,by omega,by go_num,_,_,_,_,i0,i1,i2,i3,j0,j1,j2,j3,G⟩
    case measure=>simp[intOf];omega
  ·have RUN:=ybco (by omega) I.o.run;rw[RR.o]at RUN;obtain⟨-,rfl,rfl,rfl,rfl⟩:=MR.mk.inj RUN;obtain⟨x0,x1,x2,x3,-,-,-,-⟩:=zaq I.o.box;obtain⟨y0,y1,y2,y3,y4,y5,y6,y7⟩:=zaq I.o.res;have O:=zaa (zkd wr (w.heap.size+1) (.slice d1 W'.length f1) (.slice d2 P'.length f2) (.slice d3 E'.length f3) (.slice d4 Q'.length f4));have RD:=zaa (I.o.rd.put I.o.res (zah _ _ _) (zah _ _ _) (zah _ _ _) (zah _ _ _) (.slice d1 W'.length f1) (.slice d2 P'.length f2) (.slice d3 E'.length f3) (.slice d4 Q'.length f4));have BD:=zaa (I.o.below.trans (O.o.below (B:=w.heap.size) (by omega) (by omega)));clear O;go_wp2;refine bodyPost_ret (v:=.agg #[.slice d1 W'.length f1,.slice d2 P'.length f2,.slice d3 E'.length f3,.slice d4 Q'.length f4]) (by simp[results,Tryz.results108,go_sem,y0,y1,y2,y3]) rfl ?_;exact⟨_,rfl,RD.o,BD.o⟩
end Go.Proofs.YtogcbbkhnpmgeaaGreatDoor
