/- Several texts laid together: DuC, DuD, DuE. -/
import Derived.Test.YtpgoeagccmcifaaGreatDoorZBS
import Derived.Test.YtpgoeagccmcifaaGreatDoorZAO
import Derived.Test.YtpgoeagccmcifaaGreatDoorZAA
import Derived.Deep.RegionHeld3
import Derived.Test.YtpgoeagccmcifaaGreatDoorZAZ
import Derived.Test.YtpgoeagccmcifaaGreatDoorZAD
import Derived.Test.YtpgoeagccmcifaaGreatDoorZBB
import Derived.Test.YtpgoeagccmcifaaGreatDoorZAV
set_option maxRecDepth 100000
set_option maxHeartbeats 8000000
namespace Go.Proofs.YtpgoeagccmcifaaGreatDoor
open Go.RowKit
theorem zyi {ws:List Int} {ps:List St} (h:pmB ws ps=true) {k:Nat} (hk:k < 24):yabk ws ps (312+(k:Int))=ldW ws ps (312+k)∧zik ws ps (312+(k:Int))=0:=by
 have p:zbn (312+(k:Int))=true:=decide_eq_true (by omega)
 have a:zik ws ps (312+(k:Int))=0:=by unfold zik;rw[h,p];rfl
 refine ⟨?_,a⟩;unfold yabk ldW;rw[if_pos a,show (312+(k:Int)).toNat=312+k by omega,show ((312+k:Nat):Int)=312+(k:Int) by omega]
theorem zyn {es:List Int} {qs:List Se} (h:zdj es qs=true) {k:Nat} (hk:k < 32):yaby es qs (k:Int)=zhi (k:Int) (es[k]?.getD 0) qs∧zms es qs (k:Int)=0:=by
 have p:zls (k:Int)=true:=decide_eq_true (by omega)
 have a:zms es qs (k:Int)=0:=by unfold zms;rw[h,p];rfl
 refine ⟨?_,a⟩;unfold yaby;rw[if_pos a,Int.toNat_natCast]
theorem zre (v:Value) (ws:List Int) (ps:List St) (es:List Int) (qs:List Se) (e:Int) (w:World) (h:RdDev w v ws ps es qs) (hP:pmB ws ps=true) (hB:zdj es qs=true) (te:zeo e=true) (hT:TS w) (hN:NW w) :
  Calls Tryz.prog 20 #[v,.int .i64 e] w fun r w'=>r=.returned (.int .i64 (pgV ws ps es qs e))∧Below w.heap.size w w':=by
 obtain ⟨aW,cW,aP,cP,aS,cS,aQ,cQ,rfl,h1,h2⟩:=h.form
 have te':0≤e∧((e % 4=0∧e / 4=0)∨(e % 4=1∧0≤e / 4∧e / 4 < 24)∨(e % 4=2∧0≤e / 4∧e / 4 < 32)):=by
  unfold zeo zfb at te;rw[Bool.and_eq_true,decide_eq_true_eq,decide_eq_true_eq] at te;exact te
 have wl:=zfc hP;have el:=zci hB;have BW:Hid (Below w.heap.size w (w.alloc (.cells #[.slice aW ws.length cW,.slice aP ps.length cP,.slice aS es.length cS,.slice aQ qs.length cQ] 31))):=(Below.refl _ _).alloc (Nat.le_refl _) _
 have LT:Hid (∀ w1,Below w.heap.size w w1→Calls Tryz.prog 49 #[.int .i64 e] w1 fun r w'=>r=.returned (.tuple #[.int .i64 (e % 4),.int .i64 (e / 4),.int .i64 0])∧w'=w1):=fun w1 hb=>by
  have q:=zfh e w1 (hT.below hb) (by omega) (by omega);rw[(ztv te).1,(ztv te).2.1,(ztv te).2.2] at q;exact q
 have EV:=zaa (show pgV ws ps es qs e=if e % 4=1 then ldW ws ps (312+e / 4).toNat else if e % 4=2 then zhi (e / 4) (es[(e / 4).toNat]?.getD 0) qs else 0 from rfl)
 have L1:Hid (∀ (k:Nat),k < 24→∀ w1,Below w.heap.size w w1→Calls Tryz.prog 50 #[.agg #[.slice aW ws.length cW,.slice aP ps.length cP],.int .i64 (312+(k:Int))] w1 fun r w'=>r=.returned (.tuple #[.int .i64 (ldW ws ps (312+k)),.int .i64 0])∧Below w1.heap.size w1 w'):=fun k hk w1 hb=>by
  have:=zsw _ ws ps (312+(k:Int)) w1 (h1.below hb) (by omega) (by omega);rw[(zyi hP hk).1,(zyi hP hk).2] at this;exact this
 have L2:Hid (∀ (k:Nat),k < 32→∀ w1,Below w.heap.size w w1→Calls Tryz.prog 51 #[.agg #[.slice aS es.length cS,.slice aQ qs.length cQ],.int .i64 (k:Int)] w1 fun r w'=>r=.returned (.tuple #[.int .i64 (zhi (k:Int) (es[k]?.getD 0) qs),.int .i64 0])∧Below w1.heap.size w1 w'):=fun k hk w1 hb=>by
  have:=zsk _ es qs (k:Int) w1 (h2.below hb) (hN.below hb) (by omega) (by omega);rw[(zyn hB hk).1,(zyn hB hk).2] at this;exact this
 clear h h1 h2 te hP hB wl el hT hN;generalize pgV ws ps es qs e=r at *;generalize e % 4=t at *;generalize e / 4=a at *
 rcases te'.2 with ⟨rfl,rfl⟩ | ⟨rfl,a0,a1⟩ | ⟨rfl,a0,a1⟩
 ·rw[if_neg (by omega),if_neg (by omega)] at EV;obtain rfl:=EV.o;clear te' L1 L2 EV;go_enter Tryz.func20,Tryz.ntmps20;go_wp2_with fail;refine (LT.o _ BW.o).mono ?_;rintro r w1 ⟨rfl,hw1⟩;subst w1;go_wp2;go_ret;exact ⟨rfl,BW.o⟩
 ·obtain ⟨k,rfl⟩:∃ k:Nat,a=(k:Int):=⟨a.toNat,by omega⟩
  rw[if_pos rfl,show (312+(k:Int)).toNat=312+k by omega] at EV;obtain rfl:=EV.o
  have k24:k < 24:=by omega
  have Q:=zaa (L1.o k k24);clear te' L1 L2 EV a0 a1;go_enter Tryz.func20,Tryz.ntmps20;go_wp2_with fail;refine (LT.o _ BW.o).mono ?_;rintro r w1 ⟨rfl,hw1⟩;subst w1;go_wp2_with fail;refine (Q.o _ BW.o).mono ?_;rintro r w2 ⟨rfl,hb2⟩;have B2:=zaa (zab BW.o hb2 BW.o.size);clear hb2;go_wp2;go_ret;exact ⟨rfl,B2.o⟩
 ·obtain ⟨k,rfl⟩:∃ k:Nat,a=(k:Int):=⟨a.toNat,by omega⟩
  rw[if_neg (by omega),if_pos rfl,Int.toNat_natCast] at EV;obtain rfl:=EV.o
  have k32:k < 32:=by omega
  have Q:=zaa (L2.o k k32);clear te' L1 L2 EV a0 a1;go_enter Tryz.func20,Tryz.ntmps20;go_wp2_with fail;refine (LT.o _ BW.o).mono ?_;rintro r w1 ⟨rfl,hw1⟩;subst w1;go_wp2_with fail;refine (Q.o _ BW.o).mono ?_;rintro r w2 ⟨rfl,hb2⟩;have B2:=zaa (zab BW.o hb2 BW.o.size);clear hb2;go_wp2;go_ret;exact ⟨rfl,B2.o⟩
theorem yawu {ws:List Int} {ps:List St} {es:List Int} {qs:List Se} {s:ByteArray} {page:Int}:rpR ws ps es qs s page=if (flR (dvN ws ps es qs) (dvD ws ps es qs) s).2=0 then rpF ws ps es qs (dvN ws ps es qs) (flR (dvN ws ps es qs) (dvD ws ps es qs) s).1 page else (0,(flR (dvN ws ps es qs) (dvD ws ps es qs) s).2):=by
 unfold rpR flR;rw[yaer]
 by_cases c:65536 < s.size
 ·rw[if_pos c,if_pos c];rfl
 ·rw[if_neg c,if_neg c]
  by_cases d:dvB ws ps es qs=true
  ·rw[if_pos d,if_pos d,← (zfo d).2.2.1,← (zfo d).2.2.2.1];rfl
  ·rw[if_neg d,if_neg d];rfl
theorem yayj {ws:List Int} {ps:List St} {es:List Int} {qs:List Se} {s:ByteArray} (h:(flR (dvN ws ps es qs) (dvD ws ps es qs) s).2=0):pmB ws ps=true∧zdj es qs=true∧zcj (dvN ws ps es qs) (dvD ws ps es qs)=true∧∃ i:Nat,i < 16∧(flR (dvN ws ps es qs) (dvD ws ps es qs) s).1=(i:Int):=by
 obtain ⟨hi,-,e⟩:=yaua h
 have d:dvB ws ps es qs=true:=by rw[← yaer];exact hi
 rw[e] at h ⊢;obtain ⟨i,h16,ei,-⟩:=zgn (zbt.1 hi) h;exact ⟨(zfo d).1,(zfo d).2.1,hi,i,h16,ei⟩
def Ino.fa (x:Ino) (i:Int):List Value:=[.int .i64 x.kind,.int .i64 x.size,.int .i64 x.links,.int .i64 x.m0,.int .i64 x.m1,.int .i64 x.m2,.int .i64 x.m3,.int .i64 x.m4,.int .i64 x.m5,.int .i64 x.m6,.int .i64 x.m7,.int .i64 i]
theorem Ino.faM (x:Ino) (i:Int) (m:Nat) (hm:m < 8):(x.fa i)[3+m]?=some (.int .i64 (x.map.getD m 0)):=by
 rcases (show m=0∨m=1∨m=2∨m=3∨m=4∨m=5∨m=6∨m=7 by omega) with rfl | rfl | rfl | rfl | rfl | rfl | rfl | rfl <;> rfl
theorem zij (v:Value) (ws:List Int) (ps:List St) (es:List Int) (qs:List Se) (s:ByteArray) (page:Int) (w:World) (h:RdDev w v ws ps es qs) (hw:ws.length≤1048576) (hp:ps.length≤1048576) (he:es.length≤1048576) (hq:qs.length≤1048576) (hT:TS w) (hE:ED w) (hF:FD w) (hN:NW w) :
  Calls Tryz.prog 13 #[v,.string s,.int .i64 page] w fun e w'=>e=.returned (.tuple #[.int .i64 (rpR ws ps es qs s page).1,.int .i64 (rpR ws ps es qs s page).2])∧Below w.heap.size w w':=by
 have LI:=zaa (fun w1 (hb:Below w.heap.size w w1)=>zhz v ws ps es qs w1 (h.below hb) hw hp he hq (hT.below hb) (hE.below hb) (hF.below hb));have LF:=zaa (fun v2 w1 (hb:Below w.heap.size w w1) h2=>ziy v2 (dvN ws ps es qs) (dvD ws ps es qs) s w1 h2 (zoe ws ps es qs).1 (zoe ws ps es qs).2 (hT.below hb) (hE.below hb) (hF.below hb) dv_R zut);have LV:=zaa (fun hP hB w1 (hb:Below w.heap.size w w1) z (hz:zeo z=true)=>zre v ws ps es qs z w1 (h.below hb) hP hB hz (hT.below hb) (hN.below hb));have EL:=zaa (yawu (ws:=ws) (ps:=ps) (es:=es) (qs:=qs) (s:=s) (page:=page));have FL:=zaa (fun h=>yayj (ws:=ws) (ps:=ps) (es:=es) (qs:=qs) (s:=s) h)
 have EF:Hid (∀ i:Nat,∀ x,x=zan (dvN ws ps es qs) i→rpF ws ps es qs (dvN ws ps es qs) (i:Int) page=if 0≤page∧page < x.size then (pgV ws ps es qs (x.map.getD page.toNat 0),0) else (0,4)):=fun i x e=>by rw[e];rfl
 have OK:Hid (zcj (dvN ws ps es qs) (dvD ws ps es qs)=true→∀ i:Nat,i < 16→∀ x,x=zan (dvN ws ps es qs) i→(0≤x.size∧x.size≤8)∧∀ j:Nat,j < 8→zeo (x.map.getD j 0)=true):=fun hi i h16 x e=>by
  have q:=(zbt.1 hi).ok i h16;rw[← e] at q;refine ⟨(zbq q).2.1,fun j hj=>(zfj q).1 _ ?_⟩;rw[List.getD_eq_getElem?_getD,List.getElem?_eq_getElem (show j < x.map.length from hj)];exact List.getElem_mem _
 obtain ⟨dW,eW,dP,eP,dS,eS,dQ,eQ,rfl,-,-⟩:=h.form;clear h hT hE hF hN
 obtain ⟨W,hW⟩:∃ W,W=w.alloc (.cells #[.slice dW ws.length eW,.slice dP ps.length eP,.slice dS es.length eS,.slice dQ qs.length eQ] 31):=⟨_,rfl⟩
 have CD:Hid (∀ w',Below W.heap.size W w'→w'.cell? ⟨w.heap.size,0,none⟩=some (.slice dW ws.length eW)∧w'.cell? ⟨w.heap.size,1,none⟩=some (.slice dP ps.length eP)∧w'.cell? ⟨w.heap.size,2,none⟩=some (.slice dS es.length eS)∧w'.cell? ⟨w.heap.size,3,none⟩=some (.slice dQ qs.length eQ)):=fun w' hb=>by
  have:w'.heap[w.heap.size]?=some (.cells #[.slice dW ws.length eW,.slice dP ps.length eP,.slice dS es.length eS,.slice dQ qs.length eQ] 31 (0,0)):=(hb.block _ (by rw[hW];simp)).trans (by rw[hW];exact zag rfl);obtain ⟨x0,x1,x2,x3,-,-,-,-⟩:=zai this;exact ⟨x0,x1,x2,x3⟩
 have BW:Hid (Below w.heap.size w W):=by rw[hW];exact (Below.refl _ _).alloc (Nat.le_refl _) _
 obtain ⟨x0,x1,x2,x3⟩:=CD.o _ (Below.refl _ _);generalize dvN ws ps es qs=dn at *;generalize dvD ws ps es qs=dd at *;generalize rpR ws ps es qs s page=res at *;generalize hfl:flR dn dd s=lr at *;obtain ⟨li,lc⟩:=lr
 obtain ⟨x,hx⟩:∃ x,x=faI dn (li,lc):=⟨_,rfl⟩
 have LF2:=zaa (fun v2 w1 hb h2=>LF.o v2 w1 hb h2 x hx);have HX:=zaa hx;simp only at EL FL LF2;clear LF hfl hx;go_enter Tryz.func13,Tryz.ntmps13;go_wp2_with fail;rw[← hW];clear hW;refine (LI.o _ BW.o).mono ?_;rintro e w1 ⟨v1,rfl,hR,hb1⟩;have A1:=zaa hb1;have B1:=zaa (zab BW.o hb1 BW.o.size);have R1:=zaa hR.rd;clear hR hb1 x0 x1 x2 x3 LI;go_wp2_with fail;refine (LF2.o _ _ B1.o R1.o).mono ?_;rintro e w2 ⟨rfl,hb2⟩;have A2:=zaa (zim A1.o hb2);have B2:=zaa (zab B1.o hb2 B1.o.size);clear hb2 A1 B1 R1 LF2;have BX:=zaa (B2.o.alloc B2.o.size (.cells #[.int .i64 x.kind,.int .i64 x.size,.int .i64 x.links,.int .i64 x.m0,.int .i64 x.m1,.int .i64 x.m2,.int .i64 x.m3,.int .i64 x.m4,.int .i64 x.m5,.int .i64 x.m6,.int .i64 x.m7,.int .i64 li] 61))
 by_cases c:lc=0
 case neg =>
  rw[if_neg c] at EL;obtain rfl:=EL.o
  have q:(lc != 0)=true:=by rw[bne_iff_ne];exact c
  clear EL c FL OK EF LV HX;go_wp2;go_ret2;exact ⟨rfl,BX.o⟩
 subst c;rw[if_pos rfl] at EL;obtain ⟨hP,hB,hi,i,i16,ei⟩:=FL.o rfl;have LV2:=zaa (LV.o hP hB);subst ei;have hx:x=zan dn i:=HX.o.trans ((if_pos rfl).trans (by simp only[Int.toNat_natCast]));obtain ⟨⟨z0,z8⟩,ti⟩:=OK.o hi i i16 x hx;have TI:=zaa ti;rw[EF.o i x hx] at EL;clear FL OK EF LV HX hP hB hi ti hx;have VX:Hid ((w2.alloc (.cells #[.int .i64 x.kind,.int .i64 x.size,.int .i64 x.links,.int .i64 x.m0,.int .i64 x.m1,.int .i64 x.m2,.int .i64 x.m3,.int .i64 x.m4,.int .i64 x.m5,.int .i64 x.m6,.int .i64 x.m7,.int .i64 (i:Int)] 61)).heap[w2.heap.size]?=some (.cells (x.fa (i:Int)).toArray 61 (0,0))):=zag rfl;have AX:=zaa (A2.o.alloc A2.o.size (.cells #[.int .i64 x.kind,.int .i64 x.size,.int .i64 x.links,.int .i64 x.m0,.int .i64 x.m1,.int .i64 x.m2,.int .i64 x.m3,.int .i64 x.m4,.int .i64 x.m5,.int .i64 x.m6,.int .i64 x.m7,.int .i64 (i:Int)] 61))
 obtain ⟨w3,hw3⟩:∃ w3,w3=w2.alloc (.cells #[.int .i64 x.kind,.int .i64 x.size,.int .i64 x.links,.int .i64 x.m0,.int .i64 x.m1,.int .i64 x.m2,.int .i64 x.m3,.int .i64 x.m4,.int .i64 x.m5,.int .i64 x.m6,.int .i64 x.m7,.int .i64 (i:Int)] 61):=⟨_,rfl⟩
 rw[← hw3] at VX AX BX;have hz3:w2.heap.size < w3.heap.size:=(Array.getElem?_eq_some_iff.1 VX.o).1
 have KS:Hid (∀ w',Below w3.heap.size w3 w'→w'.cell? ⟨w2.heap.size,1,none⟩=some (.int .i64 x.size)):=fun w' hb=>(hb.cell (p:=⟨w2.heap.size,1,none⟩) hz3).trans (zak VX.o 1).1
 have KM:Hid (∀ w',Below w3.heap.size w3 w'→∀ m,m < 8→w'.cell? ⟨w2.heap.size,3+m,none⟩=some (.int .i64 (x.map.getD m 0))):=fun w' hb m hm=>((hb.cell (p:=⟨w2.heap.size,3+m,none⟩) hz3).trans (zak VX.o (3+m)).1).trans (x.faM _ m hm)
 have y1:=KS.o _ (Below.refl _ _);clear VX A2 B2
 by_cases c:0≤page∧page < x.size
 case neg =>
  rw[if_neg c] at EL;obtain rfl:=EL.o;clear EL;generalize x.size=sz at *;go_wp2_with fail;rw[← hw3];refine (zbe _ _ _ c).mono ?_;rintro e w' ⟨rfl,hw'⟩;subst w';clear hw3;go_wp2;go_ret2;exact ⟨rfl,BX.o⟩
 rw[if_pos c] at EL
 obtain ⟨j,rfl⟩:∃ j:Nat,page=(j:Int):=⟨page.toNat,by omega⟩
 rw[Int.toNat_natCast] at EL
 have j8:j < 8:=by omega
 have te:=zaa (TI.o j j8);have LV3:=zaa (fun w1 hb=>LV2.o w1 hb _ te.o)
 have j0:(0:Int)≤(j:Int):=by omega
 have j1:(j:Int) < 8:=by omega
 have KE:Hid (∀ w',Below w3.heap.size w3 w'→w'.cell? ⟨w.heap.size,0,none⟩=some (.slice dW ws.length eW)∧w'.cell? ⟨w.heap.size,1,none⟩=some (.slice dP ps.length eP)∧w'.cell? ⟨w.heap.size,2,none⟩=some (.slice dS es.length eS)∧w'.cell? ⟨w.heap.size,3,none⟩=some (.slice dQ qs.length eQ)∧w'.cell? ⟨w2.heap.size,3+j,none⟩=some (.int .i64 (x.map.getD j 0))):=fun w' hb=>by
  obtain ⟨a0,a1,a2,a3⟩:=CD.o w' (zim AX.o hb);exact ⟨a0,a1,a2,a3,KM.o w' hb j j8⟩
 generalize x.map.getD j 0=pz at *;go_wp2_with fail;rw[← hw3];refine (zaq _ _ _ c).mono ?_;rintro e w' ⟨rfl,hw'⟩;subst w';clear hw3 c y1 KS KM TI te LV2 CD;have B3r:=zaa (Below.refl w3.heap.size w3);obtain ⟨r0,r1,r2,r3,r4⟩:=KE.o _ B3r.o;go_wp2_with fail
 go_region_held3 (fun w'=>w'.cell? ⟨w.heap.size,0,none⟩=some (.slice dW ws.length eW)∧w'.cell? ⟨w.heap.size,1,none⟩=some (.slice dP ps.length eP)∧w'.cell? ⟨w.heap.size,2,none⟩=some (.slice dS es.length eS)∧w'.cell? ⟨w.heap.size,3,none⟩=some (.slice dQ qs.length eQ)∧w'.cell? ⟨w2.heap.size,3+j,none⟩=some (.int .i64 pz))
  (first | with_reducible exact KE.o _ A4.o | with_reducible exact KE.o _ B3r.o | with_reducible exact KE.o _ B3r.o.drew)
  (first
   | (go_at_call 20;refine (LV3.o _ (by first | with_reducible exact BX.o | with_reducible exact BX.o.drew)).mono ?_;rintro e w4 ⟨rfl,hb4⟩;have A4:=zaa (zdz hb4);clear hb4;obtain ⟨t0,t1,t2,t3,t4⟩:=KE.o _ A4.o))
 all_goals
  have B4:=zaa (zab BX.o A4.o BX.o.size);obtain rfl:=EL.o;go_wp2;go_ret2;exact ⟨rfl,B4.o⟩
theorem yayl {ws:List Int} {ps:List St} {es:List Int} {qs:List Se} {s:ByteArray}:psR ws ps es qs s=if (flR (dvN ws ps es qs) (dvD ws ps es qs) s).2=0 then (pgL ws ps es qs (zan (dvN ws ps es qs) (flR (dvN ws ps es qs) (dvD ws ps es qs) s).1.toNat) (zan (dvN ws ps es qs) (flR (dvN ws ps es qs) (dvD ws ps es qs) s).1.toNat).size.toNat,0) else ([],(flR (dvN ws ps es qs) (dvD ws ps es qs) s).2):=by
 unfold psR flR;rw[yaer]
 by_cases c:65536 < s.size
 ·rw[if_pos c,if_pos c];rfl
 ·rw[if_neg c,if_neg c]
  by_cases d:dvB ws ps es qs=true
  ·rw[if_pos d,if_pos d,← (zfo d).2.2.1,← (zfo d).2.2.2.1];rfl
  ·rw[if_neg d,if_neg d];rfl
theorem zjd (v:Value) (ws:List Int) (ps:List St) (es:List Int) (qs:List Se) (s:ByteArray) (w:World) (h:RdDev w v ws ps es qs) (hw:ws.length≤1048576) (hp:ps.length≤1048576) (he:es.length≤1048576) (hq:qs.length≤1048576) (hT:TS w) (hE:ED w) (hF:FD w) (hN:NW w) :
  Calls Tryz.prog 8 #[v,.string s] w fun e w'=>∃ v',e=.returned (.tuple #[v',.int .i64 (psR ws ps es qs s).2])∧Row w' 3 1 w.heap.size w'.heap.size v' (psR ws ps es qs s).1.length (zcp (psR ws ps es qs s).1)∧Below w.heap.size w w':=by
 have LI:=zaa (fun w1 (hb:Below w.heap.size w w1)=>zhz v ws ps es qs w1 (h.below hb) hw hp he hq (hT.below hb) (hE.below hb) (hF.below hb));have LF:=zaa (fun v2 w1 (hb:Below w.heap.size w w1) h2=>ziy v2 (dvN ws ps es qs) (dvD ws ps es qs) s w1 h2 (zoe ws ps es qs).1 (zoe ws ps es qs).2 (hT.below hb) (hE.below hb) (hF.below hb) dv_R zut);have LV:=zaa (fun hP hB w1 (hb:Below w.heap.size w w1) z (hz:zeo z=true)=>zre v ws ps es qs z w1 (h.below hb) hP hB hz (hT.below hb) (hN.below hb));have EL:=zaa (yayl (ws:=ws) (ps:=ps) (es:=es) (qs:=qs) (s:=s));have FL:=zaa (fun h=>yayj (ws:=ws) (ps:=ps) (es:=es) (qs:=qs) (s:=s) h)
 have OK:Hid (zcj (dvN ws ps es qs) (dvD ws ps es qs)=true→∀ i:Nat,i < 16→∀ x,x=zan (dvN ws ps es qs) i→(0≤x.size∧x.size≤8)∧∀ j:Nat,j < 8→zeo (x.map.getD j 0)=true):=fun hi i h16 x e=>by
  have q:=(zbt.1 hi).ok i h16;rw[← e] at q;refine ⟨(zbq q).2.1,fun j hj=>(zfj q).1 _ ?_⟩;rw[List.getD_eq_getElem?_getD,List.getElem?_eq_getElem (show j < x.map.length from hj)];exact List.getElem_mem _
 obtain ⟨dW,eW,dP,eP,dS,eS,dQ,eQ,rfl,-,-⟩:=h.form;clear h hT hE hF hN
 obtain ⟨W,hW⟩:∃ W,W=w.alloc (.cells #[.slice dW ws.length eW,.slice dP ps.length eP,.slice dS es.length eS,.slice dQ qs.length eQ] 31):=⟨_,rfl⟩
 have CD:Hid (∀ w',Below W.heap.size W w'→w'.cell? ⟨w.heap.size,0,none⟩=some (.slice dW ws.length eW)∧w'.cell? ⟨w.heap.size,1,none⟩=some (.slice dP ps.length eP)∧w'.cell? ⟨w.heap.size,2,none⟩=some (.slice dS es.length eS)∧w'.cell? ⟨w.heap.size,3,none⟩=some (.slice dQ qs.length eQ)):=fun w' hb=>by
  have:w'.heap[w.heap.size]?=some (.cells #[.slice dW ws.length eW,.slice dP ps.length eP,.slice dS es.length eS,.slice dQ qs.length eQ] 31 (0,0)):=(hb.block _ (by rw[hW];simp)).trans (by rw[hW];exact zag rfl);obtain ⟨x0,x1,x2,x3,-,-,-,-⟩:=zai this;exact ⟨x0,x1,x2,x3⟩
 have BW:Hid (Below w.heap.size w W):=by rw[hW];exact (Below.refl _ _).alloc (Nat.le_refl _) _
 obtain ⟨x0,x1,x2,x3⟩:=CD.o _ (Below.refl _ _);generalize dvN ws ps es qs=dn at *;generalize dvD ws ps es qs=dd at *;generalize psR ws ps es qs s=res at *;generalize hfl:flR dn dd s=lr at *;obtain ⟨li,lc⟩:=lr
 obtain ⟨x,hx⟩:∃ x,x=faI dn (li,lc):=⟨_,rfl⟩
 have LF2:=zaa (fun v2 w1 hb h2=>LF.o v2 w1 hb h2 x hx);have HX:=zaa hx;simp only at EL FL LF2;clear LF hfl hx;go_enter Tryz.func8,Tryz.ntmps8;go_wp2_with fail;rw[← hW];clear hW;refine (LI.o _ BW.o).mono ?_;rintro e w1 ⟨v1,rfl,hR,hb1⟩;have A1:=zaa hb1;have B1:=zaa (zab BW.o hb1 BW.o.size);have R1:=zaa hR.rd;clear hR hb1 x0 x1 x2 x3 LI;go_wp2_with fail;refine (LF2.o _ _ B1.o R1.o).mono ?_;rintro e w2 ⟨rfl,hb2⟩;have A2:=zaa (zim A1.o hb2);have B2:=zaa (zab B1.o hb2 B1.o.size);clear hb2 A1 B1 R1 LF2;have BX:=zaa (B2.o.alloc B2.o.size (.cells #[.int .i64 x.kind,.int .i64 x.size,.int .i64 x.links,.int .i64 x.m0,.int .i64 x.m1,.int .i64 x.m2,.int .i64 x.m3,.int .i64 x.m4,.int .i64 x.m5,.int .i64 x.m6,.int .i64 x.m7,.int .i64 li] 61))
 by_cases c:lc=0
 case neg =>
  rw[if_neg c] at EL;obtain rfl:=EL.o
  have q:(lc != 0)=true:=by rw[bne_iff_ne];exact c
  clear EL c FL OK LV HX;go_wp2;go_ret2;exact ⟨_,rfl,Row.nil _ _ _ _ _,BX.o⟩
 subst c;rw[if_pos rfl] at EL;obtain ⟨hP,hB,hi,i,i16,ei⟩:=FL.o rfl;have LV2:=zaa (LV.o hP hB);subst ei;have hx:x=zan dn i:=HX.o.trans ((if_pos rfl).trans (by simp only[Int.toNat_natCast]));obtain ⟨⟨z0,z8⟩,ti⟩:=OK.o hi i i16 x hx;have TI:=zaa ti;simp only[Int.toNat_natCast] at EL;rw[← hx] at EL;clear FL OK LV HX hP hB hi ti hx;have VX:Hid ((w2.alloc (.cells #[.int .i64 x.kind,.int .i64 x.size,.int .i64 x.links,.int .i64 x.m0,.int .i64 x.m1,.int .i64 x.m2,.int .i64 x.m3,.int .i64 x.m4,.int .i64 x.m5,.int .i64 x.m6,.int .i64 x.m7,.int .i64 (i:Int)] 61)).heap[w2.heap.size]?=some (.cells (x.fa (i:Int)).toArray 61 (0,0))):=zag rfl;have AX:=zaa (A2.o.alloc A2.o.size (.cells #[.int .i64 x.kind,.int .i64 x.size,.int .i64 x.links,.int .i64 x.m0,.int .i64 x.m1,.int .i64 x.m2,.int .i64 x.m3,.int .i64 x.m4,.int .i64 x.m5,.int .i64 x.m6,.int .i64 x.m7,.int .i64 (i:Int)] 61))
 obtain ⟨w3,hw3⟩:∃ w3,w3=w2.alloc (.cells #[.int .i64 x.kind,.int .i64 x.size,.int .i64 x.links,.int .i64 x.m0,.int .i64 x.m1,.int .i64 x.m2,.int .i64 x.m3,.int .i64 x.m4,.int .i64 x.m5,.int .i64 x.m6,.int .i64 x.m7,.int .i64 (i:Int)] 61):=⟨_,rfl⟩
 rw[← hw3] at VX AX BX;have hz3:w2.heap.size < w3.heap.size:=(Array.getElem?_eq_some_iff.1 VX.o).1
 have KS:Hid (∀ w',Below w3.heap.size w3 w'→w'.cell? ⟨w2.heap.size,1,none⟩=some (.int .i64 x.size)):=fun w' hb=>(hb.cell (p:=⟨w2.heap.size,1,none⟩) hz3).trans (zak VX.o 1).1
 have KM:Hid (∀ w',Below w3.heap.size w3 w'→∀ m,m < 8→w'.cell? ⟨w2.heap.size,3+m,none⟩=some (.int .i64 (x.map.getD m 0))):=fun w' hb m hm=>((hb.cell (p:=⟨w2.heap.size,3+m,none⟩) hz3).trans (zak VX.o (3+m)).1).trans (x.faM _ m hm)
 have y1:=KS.o _ (Below.refl _ _);clear VX A2 B2
 obtain ⟨N,hN⟩:∃ N:Nat,x.size=(N:Int):=⟨x.size.toNat,by omega⟩
 have N8:N≤8:=by omega
 have EN:=zaa (show x.size.toNat=N by omega);rw[EN.o] at EL
 have KE:Hid (∀ w',Below w3.heap.size w3 w'→w'.cell? ⟨w.heap.size,0,none⟩=some (.slice dW ws.length eW)∧w'.cell? ⟨w.heap.size,1,none⟩=some (.slice dP ps.length eP)∧w'.cell? ⟨w.heap.size,2,none⟩=some (.slice dS es.length eS)∧w'.cell? ⟨w.heap.size,3,none⟩=some (.slice dQ qs.length eQ)):=fun w' hb=>CD.o w' (zim AX.o hb)
 rw[hN] at KS y1
 have START:Hid (InI w3 w3 (.slice none 0 0) (pgL ws ps es qs x 0)):=⟨World.ownsRow_nil _ _ _ _,Below.refl _ _⟩
 have nn:(0:Int)≤(N:Int):=by omega
 have n8:(N:Int)≤8:=by omega
 have hsl:∀ w1,(Instr.sliceAt 57 (.pointer (some ⟨w2.heap.size,3,none⟩)) none (some (.int .i64 x.size)) none).run Tryz.prog w1=.ok (.slice (some ⟨w2.heap.size,3,none⟩) N 8) w1:=fun w1=>by rw[hN];exact yaoa w1 _ N N8
 clear hN EN z0 z8 CD AX;go_wp2;rw[← hw3];clear hw3 y1
 go_loopw [8,28] (fun vL k wr=>∃ m:Nat,m≤N∧k=.int .i64 (m:Int)∧Hid (InI w3 wr vL (pgL ws ps es qs x m))) (fun _ k _=>N - (intOf k).toNat)
 case atStart=>exact ⟨0,by omega,rfl,START⟩
 case round =>
  obtain ⟨m,hm,rfl,J⟩:=hrel;clear START
  have m0:(0:Int)≤(m:Int):=by omega
  have JW:=zaa (zab BX.o J.o.b BX.o.size)
  by_cases hlt:m < N
  ·have m1:(m:Int) < (N:Int):=by omega
   have m8:m < 8:=by omega
   have LV3:=zaa (fun w1 hb=>LV2.o w1 hb _ (TI.o m m8));have EM:=zaa (yats ws ps es qs x m)
   have l2:(pgL ws ps es qs x m).length≤8:=by rw[yawo];omega
   have y2:=KM.o wr J.o.b m m8;obtain ⟨r0,r1,r2,r3⟩:=KE.o wr J.o.b;generalize pgV ws ps es qs (x.map.getD m 0)=y at *;generalize x.map.getD m 0=z at *;go_wp2_with fail;refine (LV3.o _ JW.o).mono ?_;rintro e w5 ⟨rfl,hb5⟩;have JB:Hid (InI w3 (w5.alloc (.cells #[.int .i64 y] 3)) u8 (pgL ws ps es qs x m)):=(J.o.below hb5).below ((Below.refl _ _).alloc (Nat.le_refl _) _);have RB:=zaa (zyp w5 y);have hzb:=JB.o.z;clear hb5 r0 r1 r2 r3 y2;go_wp2_with (at_builtin;refine zae _ rfl (.tmp 32) (.tmp 36) 23 rfl w3.heap.size 3 (.int .i64 0) 1 8 Tryz.underlying23 zil rfl (by decide) _ _ _ rfl JB.o.l _ 1 _ rfl RB.o (zse _) (by first | omega | (simp[maxLen];omega)) (by first | omega | (simp;omega)) hzb ?_);intro vN wN hownN hgrN;have G:=zaa (JB.o.grow y hownN hgrN);rw[← EM.o] at G;clear hownN hgrN JB RB J;go_wp2
   go_roundw
   case rel=>exact ⟨m+1,by omega,by go_num,G⟩
   case measure=>simp[intOf];omega
  ·obtain rfl:m=N:=by omega
   obtain ⟨-,aN,cN,hvN,-⟩:=(zad J.o.l).rd;subst hvN;obtain rfl:=EL.o;go_wp2;go_ret2;exact ⟨_,rfl,(zad J.o.l).wide BX.o.size (Nat.le_refl _),JW.o⟩
theorem ztb (x:Ino) (i:Int) (sz:Int) (w:World) (hi:0≤i∧i < 16) :
  Calls Tryz.prog 60 #[.agg #[.int .i64 x.kind,.int .i64 x.size,.int .i64 x.links,.int .i64 x.m0,.int .i64 x.m1,.int .i64 x.m2,.int .i64 x.m3,.int .i64 x.m4,.int .i64 x.m5,.int .i64 x.m6,.int .i64 x.m7,.int .i64 i],.int .i64 sz] w fun e w'=>e=.returned (.agg #[.int .i64 (48+12*i+1),.int .i64 sz])∧Below w.heap.size w w':=by
 have LU:=zaa (fun w1=>zip i 1 sz w1 hi (by omega))
 obtain ⟨W,hW⟩:∃ W,W=(w.alloc (.cells #[.int .i64 x.kind,.int .i64 x.size,.int .i64 x.links,.int .i64 x.m0,.int .i64 x.m1,.int .i64 x.m2,.int .i64 x.m3,.int .i64 x.m4,.int .i64 x.m5,.int .i64 x.m6,.int .i64 x.m7,.int .i64 i] 61)).alloc (.cells #[.int .i64 0,.int .i64 0] 114):=⟨_,rfl⟩
 have hzW:W.heap.size=w.heap.size+1+1:=by rw[hW];simp
 have x11:((w.alloc (.cells #[.int .i64 x.kind,.int .i64 x.size,.int .i64 x.links,.int .i64 x.m0,.int .i64 x.m1,.int .i64 x.m2,.int .i64 x.m3,.int .i64 x.m4,.int .i64 x.m5,.int .i64 x.m6,.int .i64 x.m7,.int .i64 i] 61)).alloc (.cells #[.int .i64 0,.int .i64 0] 114)).cell? ⟨w.heap.size,11,none⟩=some (.int .i64 i):=(zak (xs:=x.fa i) (zaj (zag rfl)) 11).1
 have CR:Hid (∀ w',Below W.heap.size W w'→w'.heap[w.heap.size+1]?=some (.cells #[.int .i64 0,.int .i64 0] 114 (0,0))):=fun w' hb=>(hb.block _ (by omega)).trans (by
  rw[hW];have:=zag (w:=w.alloc (.cells #[.int .i64 x.kind,.int .i64 x.size,.int .i64 x.links,.int .i64 x.m0,.int .i64 x.m1,.int .i64 x.m2,.int .i64 x.m3,.int .i64 x.m4,.int .i64 x.m5,.int .i64 x.m6,.int .i64 x.m7,.int .i64 i] 61)) (o:=.cells #[.int .i64 0,.int .i64 0] 114) rfl;rw[World.size_alloc] at this
  exact this)
 have BW:Hid (Below w.heap.size w W):=by rw[hW];exact ((Below.refl _ _).alloc (Nat.le_refl _) _).alloc (by simp) _
 clear hzW hi;go_enter Tryz.func60,Tryz.ntmps60;go_wp2_with fail;rw[← hW];clear hW x11;refine (LU.o _).mono ?_;rintro e w1 ⟨rfl,hb1⟩;obtain ⟨p0,p1,f0,f1⟩:=zac (CR.o _ hb1);have B1:=zaa (zab BW.o hb1 BW.o.size);clear hb1 CR;go_wp2;refine bodyPost_ret (v:=.agg #[.int .i64 (48+12*i+1),.int .i64 sz]) (by simp[results,Tryz.results60,go_sem,p0,p1]) rfl ⟨rfl,?_⟩
 repeat (first | with_reducible exact B1.o | refine Below.setCell ?_ (by simp only;omega) _)
theorem ztd (x:Ino) (i:Int) (page z:Int) (w:World) (hi:0≤i∧i < 16) (hp:0≤page∧page < 8) :
  Calls Tryz.prog 59 #[.agg #[.int .i64 x.kind,.int .i64 x.size,.int .i64 x.links,.int .i64 x.m0,.int .i64 x.m1,.int .i64 x.m2,.int .i64 x.m3,.int .i64 x.m4,.int .i64 x.m5,.int .i64 x.m6,.int .i64 x.m7,.int .i64 i],.int .i64 page,.int .i64 z] w fun e w'=>e=.returned (.agg #[.int .i64 (48+12*i+(3+page)),.int .i64 z])∧Below w.heap.size w w':=by
 have LU:=zaa (fun w1=>zip i (3+page) z w1 hi (by omega))
 obtain ⟨W,hW⟩:∃ W,W=(w.alloc (.cells #[.int .i64 x.kind,.int .i64 x.size,.int .i64 x.links,.int .i64 x.m0,.int .i64 x.m1,.int .i64 x.m2,.int .i64 x.m3,.int .i64 x.m4,.int .i64 x.m5,.int .i64 x.m6,.int .i64 x.m7,.int .i64 i] 61)).alloc (.cells #[.int .i64 0,.int .i64 0] 114):=⟨_,rfl⟩
 have hzW:W.heap.size=w.heap.size+1+1:=by rw[hW];simp
 have x11:((w.alloc (.cells #[.int .i64 x.kind,.int .i64 x.size,.int .i64 x.links,.int .i64 x.m0,.int .i64 x.m1,.int .i64 x.m2,.int .i64 x.m3,.int .i64 x.m4,.int .i64 x.m5,.int .i64 x.m6,.int .i64 x.m7,.int .i64 i] 61)).alloc (.cells #[.int .i64 0,.int .i64 0] 114)).cell? ⟨w.heap.size,11,none⟩=some (.int .i64 i):=(zak (xs:=x.fa i) (zaj (zag rfl)) 11).1
 have CR:Hid (∀ w',Below W.heap.size W w'→w'.heap[w.heap.size+1]?=some (.cells #[.int .i64 0,.int .i64 0] 114 (0,0))):=fun w' hb=>(hb.block _ (by omega)).trans (by
  rw[hW];have:=zag (w:=w.alloc (.cells #[.int .i64 x.kind,.int .i64 x.size,.int .i64 x.links,.int .i64 x.m0,.int .i64 x.m1,.int .i64 x.m2,.int .i64 x.m3,.int .i64 x.m4,.int .i64 x.m5,.int .i64 x.m6,.int .i64 x.m7,.int .i64 i] 61)) (o:=.cells #[.int .i64 0,.int .i64 0] 114) rfl;rw[World.size_alloc] at this
  exact this)
 have BW:Hid (Below w.heap.size w W):=by rw[hW];exact ((Below.refl _ _).alloc (Nat.le_refl _) _).alloc (by simp) _
 have wp3:IntKind.i64.wrap (3+page)=3+page:=by rw[IntKind.wrap_i64];omega
 clear hzW hi;go_enter Tryz.func59,Tryz.ntmps59;go_wp2_with fail;rw[← hW];clear hW x11;refine (LU.o _).mono ?_;rintro e w1 ⟨rfl,hb1⟩;obtain ⟨p0,p1,f0,f1⟩:=zac (CR.o _ hb1);have B1:=zaa (zab BW.o hb1 BW.o.size);clear hb1 CR;go_wp2;refine bodyPost_ret (v:=.agg #[.int .i64 (48+12*i+(3+page)),.int .i64 z]) (by simp[results,Tryz.results59,go_sem,p0,p1]) rfl ⟨rfl,?_⟩
 repeat (first | with_reducible exact B1.o | refine Below.setCell ?_ (by simp only;omega) _)
theorem zow (x:Ino) (i page e:Int) (w:World) (hi:0≤i∧i < 16) (hp:0≤page∧page < 8) :
  Calls Tryz.prog 26 #[.agg #[.int .i64 x.kind,.int .i64 x.size,.int .i64 x.links,.int .i64 x.m0,.int .i64 x.m1,.int .i64 x.m2,.int .i64 x.m3,.int .i64 x.m4,.int .i64 x.m5,.int .i64 x.m6,.int .i64 x.m7,.int .i64 i,.int .i64 page,.int .i64 e]] w fun r w'=>∃ v',r=.returned v'∧Row w' 114 2 w.heap.size w'.heap.size v' (wrU i page x.size e).length (ses (wrU i page x.size e))∧Below w.heap.size w w':=by
 have LP:=zaa (fun w1=>ztd x i page e w1 hi hp);have LS:=zaa (fun w1=>ztb x i (page+1) w1 hi);have EU:=zaa (show wrU i page x.size e=⟨48+12*i+(3+page),e⟩ :: (if x.size≤page then [⟨48+12*i+1,page+1⟩] else []) from rfl)
 have wp1:IntKind.i64.wrap (page+1)=page+1:=by rw[IntKind.wrap_i64];omega
 obtain ⟨W,hW⟩:∃ W,W=w.alloc (.cells #[.int .i64 x.kind,.int .i64 x.size,.int .i64 x.links,.int .i64 x.m0,.int .i64 x.m1,.int .i64 x.m2,.int .i64 x.m3,.int .i64 x.m4,.int .i64 x.m5,.int .i64 x.m6,.int .i64 x.m7,.int .i64 i,.int .i64 page,.int .i64 e] 76):=⟨_,rfl⟩
 have CA:Hid (∀ w',Below W.heap.size W w'→w'.cell? ⟨w.heap.size,0,none⟩=some (.int .i64 x.kind)∧w'.cell? ⟨w.heap.size,1,none⟩=some (.int .i64 x.size)∧w'.cell? ⟨w.heap.size,2,none⟩=some (.int .i64 x.links)∧w'.cell? ⟨w.heap.size,3,none⟩=some (.int .i64 x.m0)∧w'.cell? ⟨w.heap.size,4,none⟩=some (.int .i64 x.m1)∧w'.cell? ⟨w.heap.size,5,none⟩=some (.int .i64 x.m2)∧w'.cell? ⟨w.heap.size,6,none⟩=some (.int .i64 x.m3)∧w'.cell? ⟨w.heap.size,7,none⟩=some (.int .i64 x.m4)∧w'.cell? ⟨w.heap.size,8,none⟩=some (.int .i64 x.m5)∧w'.cell? ⟨w.heap.size,9,none⟩=some (.int .i64 x.m6)∧w'.cell? ⟨w.heap.size,10,none⟩=some (.int .i64 x.m7)∧w'.cell? ⟨w.heap.size,11,none⟩=some (.int .i64 i)∧w'.cell? ⟨w.heap.size,12,none⟩=some (.int .i64 page)∧w'.cell? ⟨w.heap.size,13,none⟩=some (.int .i64 e)):=fun w' hb=>by
  have q:w'.heap[w.heap.size]?=some (.cells ([.int .i64 x.kind,.int .i64 x.size,.int .i64 x.links,.int .i64 x.m0,.int .i64 x.m1,.int .i64 x.m2,.int .i64 x.m3,.int .i64 x.m4,.int .i64 x.m5,.int .i64 x.m6,.int .i64 x.m7,.int .i64 i,.int .i64 page,.int .i64 e]:List Value).toArray 76 (0,0)):=(hb.block _ (by rw[hW];simp)).trans (by rw[hW];exact zag rfl);exact ⟨(zak q 0).1,(zak q 1).1,(zak q 2).1,(zak q 3).1,(zak q 4).1,(zak q 5).1,(zak q 6).1,(zak q 7).1,(zak q 8).1,(zak q 9).1,(zak q 10).1,(zak q 11).1,(zak q 12).1,(zak q 13).1⟩
 have BW:Hid (Below w.heap.size w W):=by rw[hW];exact (Below.refl _ _).alloc (Nat.le_refl _) _
 obtain ⟨k0,k1,k2,k3,k4,k5,k6,k7,k8,k9,k10,k11,k12,k13⟩:=CA.o _ (Below.refl _ _);rw[hW] at k0 k1 k2 k3 k4 k5 k6 k7 k8 k9 k10 k11 k12 k13;generalize wrU i page x.size e=L at *;clear hi hp;go_enter Tryz.func26,Tryz.ntmps26;go_wp2_with fail;rw[← hW];clear hW k0 k1 k2 k3 k4 k5 k6 k7 k8 k9 k10 k11 k12 k13;refine (LP.o _).mono ?_;rintro r w1 ⟨rfl,hb1⟩
 have ST:Hid (UpI W (w1.alloc (.cells #[.int .i64 (48+12*i+(3+page)),.int .i64 e] 114)) (.slice (some ⟨w1.heap.size,0,none⟩) 1 1) [⟨48+12*i+(3+page),e⟩]):=⟨World.ownsRow_lit w1 _ 1 hb1.size (by simp[maxLen]) rfl,hb1.alloc hb1.size _⟩
 have hz1:W.heap.size≤w1.heap.size:=hb1.size;clear hb1 LP;obtain ⟨k0,k1,k2,k3,k4,k5,k6,k7,k8,k9,k10,k11,k12,k13⟩:=CA.o _ ST.o.b
 by_cases c:x.size≤page
 ·rw[if_pos c] at EU;obtain rfl:=EU.o;clear EU;go_wp2_with fail;refine (LS.o _).mono ?_;rintro r w2 ⟨rfl,hb2⟩;have JB:Hid (UpI W (w2.alloc (.cells #[.int .i64 (48+12*i+1),.int .i64 (page+1)] 114)) (.slice (some ⟨w1.heap.size,0,none⟩) 1 1) [⟨48+12*i+(3+page),e⟩]):=(ST.o.below hb2).below ((Below.refl _ _).alloc (Nat.le_refl _) _);have RB:=zaa (zkh w2 (48+12*i+1) (page+1));have hzb:=JB.o.z;clear hb2 ST k0 k1 k2 k3 k4 k5 k6 k7 k8 k9 k10 k11 k12 k13 CA LS;go_wp2_with (at_builtin;refine zae _ rfl (.tmp 19) (.tmp 26) 78 rfl W.heap.size 114 (.agg #[.int .i64 0,.int .i64 0]) 2 16 Tryz.underlying78 zne rfl (by decide) _ _ _ rfl JB.o.l _ 1 _ rfl RB.o (zfw _) (by first | omega | (simp[maxLen];done) | (simp[maxLen];omega)) (by first | omega | (simp;done) | (simp;omega)) hzb ?_);intro vN wN hownN hgrN;have G:=zaa (JB.o.grow [⟨48+12*i+1,page+1⟩] hownN hgrN);have JW:=zaa (zab BW.o G.o.b BW.o.size);obtain ⟨-,aN,cN,hvN,-⟩:=(zad G.o.l).rd;subst hvN;clear hownN hgrN JB RB;go_wp2;go_ret;exact ⟨_,rfl,(zad G.o.l).wide BW.o.size (Nat.le_refl _),JW.o⟩
 ·rw[if_neg c] at EU;obtain rfl:=EU.o;have JW:=zaa (zab BW.o ST.o.b BW.o.size);clear EU;go_wp2;go_ret;exact ⟨_,rfl,(zad ST.o.l).wide BW.o.size (Nat.le_refl _),JW.o⟩
end Go.Proofs.YtpgoeagccmcifaaGreatDoor
