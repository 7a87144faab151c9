import Derived.Test.YtogcbbkhnpmgeaaGreatDoorZBG
set_option maxRecDepth 100000
set_option maxHeartbeats 8000000
namespace Go.Proofs.YtogcbbkhnpmgeaaGreatDoor
open Go.RowKit
theorem yagh(v:Value)(m:Mi)(ws:List Int)(ps:List St)(es:List Int)(qs:List Se)(w:World)(h:RdDev w v ws ps es qs)(hp1:pmB ws ps=true)(hb1:zfj es qs=true)(hm:miB m=true) :
  zC 164 #[v,m.v] w fun e w'=>∃ v',e=.returned v'/\RdDev w' v' (doW m ws ps) (doP m ps) (doE m es qs) (doQ m qs)/\zB w w':=by
 obtain⟨k,a,x⟩:=m;obtain⟨aW,cW,aP,cP,aS,cS,aQ,cQ,rfl,r1,r2⟩:=h.form;have R1:=zaa r1;have R2:=zaa r2;have HW:=zaa (zed hp1).1;have hwl:ws.length<=336:=Nat.le_of_eq HW.o;have hpl:ps.length<=400:=(zed hp1).2;have HE:=zaa (zcy hb1).1;have hel:es.length<=32:=Nat.le_of_eq HE.o;have hql:qs.length<=400:=(zcy hb1).2;have PA:=zaa (fun j (hj:j<ps.length)=>zgv (zjm hp1 j hj).1);have QA:=zaa (fun j (hj:j<qs.length)=>zvy (zqs hb1 j hj).1);have hk:=(zlj k a x).1 hm;clear h r1 r2 hp1 hb1 hm
 have hb0:zB w (((w.alloc (.cells #[.slice aW ws.length cW,.slice aP ps.length cP,.slice aS es.length cS,.slice aQ qs.length cQ] 31)).alloc (.cells #[.I k,.I a,.I x] 82)).alloc (.cells #[.N,.N,.N,.N] 31)):=by
  repeat (refine Below.alloc ?_ (by simp<;>omega) _)
  exact zR
 unfold Mi.v;simp only
 rcases(show(k=1/\(0<=a/\a<336))\/(k=2/\(0<=a/\a<336))\/k=3\/(k=4/\(0<=a/\a<32))\/k=5 by omega)with ⟨rfl,ha⟩ | ⟨rfl,ha⟩ | rfl | ⟨rfl,ha⟩ | rfl
 ·clear hk;have D:=zaa (show doW (⟨1,a,x⟩:Mi) ws ps=ws/\doP (⟨1,a,x⟩:Mi) ps=ps++[⟨a,x,false⟩]/\doE (⟨1,a,x⟩:Mi) es qs=es/\doQ (⟨1,a,x⟩:Mi) qs=qs from⟨rfl,rfl,rfl,rfl⟩);go_enter Tryz.func164,Tryz.ntmps164;go_wp2_with fail;refine(zwe _ ws ps a x _ (R1.o.below hb0) (by omega)).mono ?_;rintro e w1 ⟨v1,rfl,hr,hb⟩;have hr':RdPm w1 v1 _ _:=hr;obtain⟨vW1,vP1,rfl,hI,hS⟩:=hr';obtain⟨aW1,cW1,rfl⟩:=RdI.form hI rfl;obtain⟨aP1,cP1,rfl⟩:=RdS.form hS (n:=ps.length+1) (by simp)
  have hz1:w.heap.size+3<=w1.heap.size:=by have:=hb.size;simp at this;omega
  have V0:=(hb.block w.heap.size (by simp<;>omega)).trans (zal (zal (zah rfl)));have V2:=(hb.block (w.heap.size+1+1) (by simp<;>omega)).trans (zah (by simp));have VM:=(hb.block (w.heap.size+1) (by simp<;>omega)).trans (zal (zah (by simp)));have RN:=zaa hr;have RO:=zaa (R2.o.below (zab hb0 hb (by simp<;>omega)));have B1:=zaa (zab hb0 hb (by simp<;>omega));obtain⟨x0,x1,x2,x3,x4,x5,x6,x7⟩:=zao V0;obtain⟨y0,y1,y2,y3,y4,y5,y6,y7⟩:=zao V2;obtain⟨m0,m1,m2⟩:=zba VM;have VH:=zaa (And.intro V0 V2);clear hb0 hb hr hI hS V0 V2 VM;go_wp2;refine bodyPost_ret (v:=.agg #[.slice aW1 ws.length cW1,.slice aP1 (ps.length+1) cP1,.slice aS es.length cS,.slice aQ qs.length cQ]) (by simp[results,Tryz.results164,go_sem,y0,y1,y2,y3]) rfl ?_;refine⟨_,rfl,?_,?_⟩
  ·rw[D.o.1,D.o.2.1,D.o.2.2.1,D.o.2.2.2];exact⟨_,_,_,_,rfl,(RN.o.put (bD:=w.heap.size) (bR:=w.heap.size+1+1) (i:=0) (j:=1) VH.o.1 (zdf (zaf _ _ _) (zaf _ _ _) (zaf _ _ _) (zaf _ _ _)) VH.o.2 (zdf (zaf _ _ _) (zaf _ _ _) (zaf _ _ _) (zaf _ _ _))),(RO.o.put (bD:=w.heap.size) (bR:=w.heap.size+1+1) (i:=0) (j:=1) VH.o.1 (zdf (zaf _ _ _) (zaf _ _ _) (zaf _ _ _) (zaf _ _ _)) VH.o.2 (zdf (zaf _ _ _) (zaf _ _ _) (zaf _ _ _) (zaf _ _ _)))⟩
  ·exact zgb B1.o zL (by omega) 0 1 _ _ _ _ _ _
 ·clear hk;have D:=zaa (show doW (⟨2,a,x⟩:Mi) ws ps=ws/\doP (⟨2,a,x⟩:Mi) ps=ps.map (fl1 a)/\doE (⟨2,a,x⟩:Mi) es qs=es/\doQ (⟨2,a,x⟩:Mi) qs=qs from⟨rfl,rfl,rfl,rfl⟩)
  obtain⟨q,rfl⟩:∃ q:Nat,a=q:=⟨a.toNat,by omega⟩
  go_enter Tryz.func164,Tryz.ntmps164;go_wp2_with fail;refine(zuo _ ws ps q _ (R1.o.below hb0) (by omega) (by omega) (fun j hj=>PA.o j hj)).mono ?_;rintro e w1 ⟨v1,rfl,hr,hb⟩;have hr':RdPm w1 v1 _ _:=hr;obtain⟨vW1,vP1,rfl,hI,hS⟩:=hr';obtain⟨aW1,cW1,rfl⟩:=RdI.form hI rfl;obtain⟨aP1,cP1,rfl⟩:=RdS.form hS (n:=ps.length) (by simp)
  have hz1:w.heap.size+3<=w1.heap.size:=by have:=hb.size;simp at this;omega
  have V0:=(hb.block w.heap.size (by simp<;>omega)).trans (zal (zal (zah rfl)));have V2:=(hb.block (w.heap.size+1+1) (by simp<;>omega)).trans (zah (by simp));have VM:=(hb.block (w.heap.size+1) (by simp<;>omega)).trans (zal (zah (by simp)));have RN:=zaa hr;have RO:=zaa (R2.o.below (zab hb0 hb (by simp<;>omega)));have B1:=zaa (zab hb0 hb (by simp<;>omega));obtain⟨x0,x1,x2,x3,x4,x5,x6,x7⟩:=zao V0;obtain⟨y0,y1,y2,y3,y4,y5,y6,y7⟩:=zao V2;obtain⟨m0,m1,m2⟩:=zba VM;have VH:=zaa (And.intro V0 V2);clear hb0 hb hr hI hS V0 V2 VM;go_wp2;refine bodyPost_ret (v:=.agg #[.slice aW1 ws.length cW1,.slice aP1 ps.length cP1,.slice aS es.length cS,.slice aQ qs.length cQ]) (by simp[results,Tryz.results164,go_sem,y0,y1,y2,y3]) rfl ?_;refine⟨_,rfl,?_,?_⟩
  ·rw[D.o.1,D.o.2.1,D.o.2.2.1,D.o.2.2.2];exact⟨_,_,_,_,rfl,(RN.o.put (bD:=w.heap.size) (bR:=w.heap.size+1+1) (i:=0) (j:=1) VH.o.1 (zdf (zaf _ _ _) (zaf _ _ _) (zaf _ _ _) (zaf _ _ _)) VH.o.2 (zdf (zaf _ _ _) (zaf _ _ _) (zaf _ _ _) (zaf _ _ _))),(RO.o.put (bD:=w.heap.size) (bR:=w.heap.size+1+1) (i:=0) (j:=1) VH.o.1 (zdf (zaf _ _ _) (zaf _ _ _) (zaf _ _ _) (zaf _ _ _)) VH.o.2 (zdf (zaf _ _ _) (zaf _ _ _) (zaf _ _ _) (zaf _ _ _)))⟩
  ·exact zgb B1.o zL (by omega) 0 1 _ _ _ _ _ _
 ·clear hk;have D:=zaa (show doW (⟨3,a,x⟩:Mi) ws ps=zoq ws ps/\doP (⟨3,a,x⟩:Mi) ps=zle ps/\doE (⟨3,a,x⟩:Mi) es qs=es/\doQ (⟨3,a,x⟩:Mi) qs=qs from⟨rfl,rfl,rfl,rfl⟩);go_enter Tryz.func164,Tryz.ntmps164;go_wp2_with fail;refine(zwc _ ws ps _ (R1.o.below hb0) (by omega) (by omega) (fun j hj=>by have:=PA.o j hj;have:=HW.o;omega)).mono ?_;rintro e w1 ⟨v1,rfl,hr,hb⟩;have hr':RdPm w1 v1 _ _:=hr.rd;obtain⟨vW1,vP1,rfl,hI,hS⟩:=hr';obtain⟨aW1,cW1,rfl⟩:=RdI.form hI (zmp ws ps);obtain⟨aP1,cP1,rfl⟩:=RdS.form hS (n:=(zle ps).length) rfl
  have hz1:w.heap.size+3<=w1.heap.size:=by have:=hb.size;simp at this;omega
  have V0:=(hb.block w.heap.size (by simp<;>omega)).trans (zal (zal (zah rfl)));have V2:=(hb.block (w.heap.size+1+1) (by simp<;>omega)).trans (zah (by simp));have VM:=(hb.block (w.heap.size+1) (by simp<;>omega)).trans (zal (zah (by simp)));have RN:=zaa hr;have RO:=zaa (R2.o.below (zab hb0 hb (by simp<;>omega)));have B1:=zaa (zab hb0 hb (by simp<;>omega));obtain⟨x0,x1,x2,x3,x4,x5,x6,x7⟩:=zao V0;obtain⟨y0,y1,y2,y3,y4,y5,y6,y7⟩:=zao V2;obtain⟨m0,m1,m2⟩:=zba VM;have VH:=zaa (And.intro V0 V2);clear hb0 hb hr hI hS V0 V2 VM;go_wp2;refine bodyPost_ret (v:=.agg #[.slice aW1 ws.length cW1,.slice aP1 ((zle ps).length) cP1,.slice aS es.length cS,.slice aQ qs.length cQ]) (by simp[results,Tryz.results164,go_sem,y0,y1,y2,y3]) rfl ?_;refine⟨_,rfl,?_,?_⟩
  ·rw[D.o.1,D.o.2.1,D.o.2.2.1,D.o.2.2.2];exact⟨_,_,_,_,rfl,(RN.o.rd.put (bD:=w.heap.size) (bR:=w.heap.size+1+1) (i:=0) (j:=1) VH.o.1 (zdf (zaf _ _ _) (zaf _ _ _) (zaf _ _ _) (zaf _ _ _)) VH.o.2 (zdf (zaf _ _ _) (zaf _ _ _) (zaf _ _ _) (zaf _ _ _))),(RO.o.put (bD:=w.heap.size) (bR:=w.heap.size+1+1) (i:=0) (j:=1) VH.o.1 (zdf (zaf _ _ _) (zaf _ _ _) (zaf _ _ _) (zaf _ _ _)) VH.o.2 (zdf (zaf _ _ _) (zaf _ _ _) (zaf _ _ _) (zaf _ _ _)))⟩
  ·exact zgb B1.o zL (by omega) 0 1 _ _ _ _ _ _
 ·clear hk;have D:=zaa (show doW (⟨4,a,x⟩:Mi) ws ps=ws/\doP (⟨4,a,x⟩:Mi) ps=ps/\doE (⟨4,a,x⟩:Mi) es qs=es/\doQ (⟨4,a,x⟩:Mi) qs=qs++[⟨a,x⟩] from⟨rfl,rfl,rfl,rfl⟩);go_enter Tryz.func164,Tryz.ntmps164;go_wp2_with fail;refine(zux _ es qs a x _ (R2.o.below hb0) (by omega)).mono ?_;rintro e w1 ⟨v1,rfl,hr,hb⟩;have hr':RdBlk w1 v1 _ _:=hr;obtain⟨vW1,vP1,rfl,hI,hS⟩:=hr';obtain⟨aW1,cW1,rfl⟩:=RdI.form hI rfl;obtain⟨aP1,cP1,rfl⟩:=RdE.form hS (n:=qs.length+1) (by simp)
  have hz1:w.heap.size+3<=w1.heap.size:=by have:=hb.size;simp at this;omega
  have V0:=(hb.block w.heap.size (by simp<;>omega)).trans (zal (zal (zah rfl)));have V2:=(hb.block (w.heap.size+1+1) (by simp<;>omega)).trans (zah (by simp));have VM:=(hb.block (w.heap.size+1) (by simp<;>omega)).trans (zal (zah (by simp)));have RN:=zaa hr;have RO:=zaa (R1.o.below (zab hb0 hb (by simp<;>omega)));have B1:=zaa (zab hb0 hb (by simp<;>omega));obtain⟨x0,x1,x2,x3,x4,x5,x6,x7⟩:=zao V0;obtain⟨y0,y1,y2,y3,y4,y5,y6,y7⟩:=zao V2;obtain⟨m0,m1,m2⟩:=zba VM;have VH:=zaa (And.intro V0 V2);clear hb0 hb hr hI hS V0 V2 VM;go_wp2;refine bodyPost_ret (v:=.agg #[.slice aW ws.length cW,.slice aP ps.length cP,.slice aW1 es.length cW1,.slice aP1 (qs.length+1) cP1]) (by simp[results,Tryz.results164,go_sem,y0,y1,y2,y3]) rfl ?_;refine⟨_,rfl,?_,?_⟩
  ·rw[D.o.1,D.o.2.1,D.o.2.2.1,D.o.2.2.2];exact⟨_,_,_,_,rfl,(RO.o.put (bD:=w.heap.size) (bR:=w.heap.size+1+1) (i:=2) (j:=3) VH.o.1 (zdf (zaf _ _ _) (zaf _ _ _) (zaf _ _ _) (zaf _ _ _)) VH.o.2 (zdf (zaf _ _ _) (zaf _ _ _) (zaf _ _ _) (zaf _ _ _))),(RN.o.put (bD:=w.heap.size) (bR:=w.heap.size+1+1) (i:=2) (j:=3) VH.o.1 (zdf (zaf _ _ _) (zaf _ _ _) (zaf _ _ _) (zaf _ _ _)) VH.o.2 (zdf (zaf _ _ _) (zaf _ _ _) (zaf _ _ _) (zaf _ _ _)))⟩
  ·exact zgb B1.o zL (by omega) 2 3 _ _ _ _ _ _
 ·clear hk;have D:=zaa (show doW (⟨5,a,x⟩:Mi) ws ps=ws/\doP (⟨5,a,x⟩:Mi) ps=ps/\doE (⟨5,a,x⟩:Mi) es qs=zxz es qs/\doQ (⟨5,a,x⟩:Mi) qs=[] from⟨rfl,rfl,rfl,rfl⟩);go_enter Tryz.func164,Tryz.ntmps164;go_wp2_with fail;refine(zpd _ es qs _ (R2.o.below hb0) (by omega) (by omega) (fun j hj=>by have:=QA.o j hj;have:=HE.o;omega)).mono ?_;rintro e w1 ⟨v1,rfl,hr,hb⟩;have hr':RdBlk w1 v1 _ _:=hr.rd;obtain⟨vW1,vP1,rfl,hI,hS⟩:=hr';obtain⟨aW1,cW1,rfl⟩:=RdI.form hI (zmq es qs);obtain⟨aP1,cP1,rfl⟩:=RdE.form hS (n:=0) rfl
  have hz1:w.heap.size+3<=w1.heap.size:=by have:=hb.size;simp at this;omega
  have V0:=(hb.block w.heap.size (by simp<;>omega)).trans (zal (zal (zah rfl)));have V2:=(hb.block (w.heap.size+1+1) (by simp<;>omega)).trans (zah (by simp));have VM:=(hb.block (w.heap.size+1) (by simp<;>omega)).trans (zal (zah (by simp)));have RN:=zaa hr;have RO:=zaa (R1.o.below (zab hb0 hb (by simp<;>omega)));have B1:=zaa (zab hb0 hb (by simp<;>omega));obtain⟨x0,x1,x2,x3,x4,x5,x6,x7⟩:=zao V0;obtain⟨y0,y1,y2,y3,y4,y5,y6,y7⟩:=zao V2;obtain⟨m0,m1,m2⟩:=zba VM;have VH:=zaa (And.intro V0 V2);clear hb0 hb hr hI hS V0 V2 VM;go_wp2;refine bodyPost_ret (v:=.agg #[.slice aW ws.length cW,.slice aP ps.length cP,.slice aW1 es.length cW1,.slice aP1 0 cP1]) (by simp[results,Tryz.results164,go_sem,y0,y1,y2,y3]) rfl ?_;refine⟨_,rfl,?_,?_⟩
  ·rw[D.o.1,D.o.2.1,D.o.2.2.1,D.o.2.2.2];exact⟨_,_,_,_,rfl,(RO.o.put (bD:=w.heap.size) (bR:=w.heap.size+1+1) (i:=2) (j:=3) VH.o.1 (zdf (zaf _ _ _) (zaf _ _ _) (zaf _ _ _) (zaf _ _ _)) VH.o.2 (zdf (zaf _ _ _) (zaf _ _ _) (zaf _ _ _) (zaf _ _ _))),(RN.o.rd.put (bD:=w.heap.size) (bR:=w.heap.size+1+1) (i:=2) (j:=3) VH.o.1 (zdf (zaf _ _ _) (zaf _ _ _) (zaf _ _ _) (zaf _ _ _)) VH.o.2 (zdf (zaf _ _ _) (zaf _ _ _) (zaf _ _ _) (zaf _ _ _)))⟩
  ·exact zgb B1.o zL (by omega) 2 3 _ _ _ _ _ _
def putR(w:World)(bR:Nat)(a b c d:Value):World:=(((w.setCell ⟨bR,0,none⟩ a).setCell ⟨bR,1,none⟩ b).setCell ⟨bR,2,none⟩ c).setCell ⟨bR,3,none⟩ d
theorem zhw(w:World)(bR:Nat)(a b c d:Value):Outside bR (bR+1) w (putR w bR a b c d):=by
 unfold putR
 repeat (refine Outside.setCell ?_ (by simp only;omega) (by simp only;omega) _)
 exact Outside.refl _ _ _
theorem znu(w:World)(bR:Nat)(a b c d:Value):(putR w bR a b c d).heap.size=w.heap.size:=by simp[putR,World.setCell]
theorem yacy(v:Value)(ws:List Int)(ps:List St)(es:List Int)(qs:List Se)(w:World)(h:RdDev w v ws ps es qs)(hw:ws.length<=1048576)(hp:ps.length<=1048576)(he:es.length<=1048576)(hq:qs.length<=1048576) :
  zC 109 #[v] w fun e w'=>∃ v',e=.returned v'/\RowDev w' w.heap.size w'.heap.size v' ws ps es qs/\zB w w':=by
 obtain⟨aW,cW,aP,cP,aS,cS,aQ,cQ,rfl,r1,r2⟩:=h.form;have R1:=zaa r1;have R2:=zaa r2;clear h r1 r2
 have hb0:zB w ((w.alloc (.cells #[.slice aW ws.length cW,.slice aP ps.length cP,.slice aS es.length cS,.slice aQ qs.length cQ] 31)).alloc (.cells #[.N,.N,.N,.N] 31)):=by
  repeat (refine Below.alloc ?_ (by simp<;>omega) _)
  exact zR
 go_enter Tryz.func109,Tryz.ntmps109;go_upto_region 1 with fail
 obtain⟨w0,hw0⟩:∃ w0:World,w0=(w.alloc (.cells #[.slice aW ws.length cW,.slice aP ps.length cP,.slice aS es.length cS,.slice aQ qs.length cQ] 31)).alloc (.cells #[.N,.N,.N,.N] 31):=⟨_,rfl⟩
 rw[<- hw0];rw[<- hw0]at hb0
 have hz0:w.heap.size+2<=w0.heap.size:=by rw[hw0];simp
 have V0:Hid (w0.heap[w.heap.size]?=some (.cells #[.slice aW ws.length cW,.slice aP ps.length cP,.slice aS es.length cS,.slice aQ qs.length cQ] 31 (0,0))):=by rw[hw0];exact zal (zah rfl)
 have V1:Hid (w0.heap[w.heap.size+1]?=some (.cells #[.N,.N,.N,.N] 31 (0,0))):=by rw[hw0];exact zah (by simp)
 clear hw0;have B0:=zaa hb0;clear hb0;obtain⟨x0,x1,x2,x3,-,-,-,-⟩:=zao V0.o;obtain⟨y0,y1,y2,y3,y4,y5,y6,y7⟩:=zao V1.o
 go_region_with (first
  | (go_at_call 165;refine(zqq _ ws ps _ (R1.o.below (by first | exact B0.o | exact B0.o.drew)) (by omega) (by omega)).mono ?_;rintro e w1 ⟨v1,rfl,hr1,hb1⟩;obtain⟨aW1,cW1,aP1,cP1,rfl⟩:=hr1.form;have hz1:w0.heap.size<=w1.heap.size:=hb1.size;have B1:Hid (zB w0 w1):=(by first | exact hb1 | exact zab (zR.drew) hb1 zL);have Q1:Hid (RowPm w1 w0.heap.size w1.heap.size (.agg #[.slice aW1 ws.length cW1,.slice aP1 ps.length cP1]) ws ps):=hr1;obtain⟨z0,z1,z2,z3,-,-,-,-⟩:=zao ((B1.o.block w.heap.size (by omega)).trans V0.o);clear hr1 hb1)
  | (go_at_call 166;refine(zqp _ es qs _ (R2.o.below (by first | exact zab B0.o B1.o (by omega) | exact(zab B0.o B1.o (by omega)).drew)) (by omega) (by omega)).mono ?_;rintro e w2 ⟨v2,rfl,hr2,hb2⟩;obtain⟨aS2,cS2,aQ2,cQ2,rfl⟩:=hr2.form;have hz2:w1.heap.size<=w2.heap.size:=hb2.size;have B2:Hid (zB w1 w2):=(by first | exact hb2 | exact zab (zR.drew) hb2 zL);have Q2:Hid (RowBlk w2 w1.heap.size w2.heap.size (.agg #[.slice aS2 es.length cS2,.slice aQ2 qs.length cQ2]) es qs):=hr2;have VR:=zaa ((B2.o.block (w.heap.size+1) (by omega)).trans ((B1.o.block (w.heap.size+1) (by omega)).trans V1.o));obtain⟨t0,t1,t2,t3,t4,t5,t6,t7⟩:=zao VR.o;clear hr2 hb2))
 all_goals
  go_wp2;refine bodyPost_ret (v:=.agg #[.slice aW1 ws.length cW1,.slice aP1 ps.length cP1,.slice aS2 es.length cS2,.slice aQ2 qs.length cQ2]) (by simp[results,Tryz.results109,go_sem,t0,t1,t2,t3]) rfl ?_;have O:=zhw w2 (w.heap.size+1) (.slice aW1 ws.length cW1) (.slice aP1 ps.length cP1) (.slice aS2 es.length cS2) (.slice aQ2 qs.length cQ2);have Z:=znu w2 (w.heap.size+1) (.slice aW1 ws.length cW1) (.slice aP1 ps.length cP1) (.slice aS2 es.length cS2) (.slice aQ2 qs.length cQ2);refine⟨_,rfl,⟨_,_,_,_,w0.heap.size,w1.heap.size,w1.heap.size,w2.heap.size,rfl,?_,?_,by omega,Nat.le_trans hz2 (Nat.le_of_eq Z.symm),by omega,Nat.le_of_eq Z.symm,.inl zL⟩,?_⟩
  ·exact(Q1.o.below B2.o zL).outside O (by omega) (by omega)
  ·exact Q2.o.outside O (by omega) zL
  ·exact(zab (zab B0.o B1.o (by omega)) B2.o (by omega)).trans (O.below (by omega) (by omega))
def zpi(m:Mi)(ps:List St)(qs:List Se):Bool:=decide ((m.kind=1/\ps.length=400)\/(m.kind=4/\qs.length=400))
structure MR where
 c:Int
 W:List Int
 P:List St
 E:List Int
 Q:List Se
def mr:List Mi->List Int->List St->List Int->List Se->MR
 | [],ws,ps,es,qs=>⟨0,ws,ps,es,qs⟩
 | m::l,ws,ps,es,qs=>if zpi m ps qs=true then⟨7,ws,ps,es,qs⟩else mr l (doW m ws ps) (doP m ps) (doE m es qs) (doQ m qs)
theorem znj:∀ (l l':List Mi) (ws:List Int) (ps:List St) (es:List Int) (qs:List Se),mr (l++l') ws ps es qs=if (mr l ws ps es qs).c=0 then mr l' (mr l ws ps es qs).W (mr l ws ps es qs).P (mr l ws ps es qs).E (mr l ws ps es qs).Q else mr l ws ps es qs
 | [],l',ws,ps,es,qs=>by simp[mr]
 | m::l,l',ws,ps,es,qs=>by
   by_cases c:zpi m ps qs=true
   ·simp[mr,c]
   ·simp only[List.cons_append,mr,if_neg c];exact znj l l' _ _ _ _
theorem yatf(m:Mi)(ws:List Int)(ps:List St)(es:List Int)(qs:List Se):mr [m] ws ps es qs=if zpi m ps qs=true then⟨7,ws,ps,es,qs⟩ else⟨0,doW m ws ps,doP m ps,doE m es qs,doQ m qs⟩:=rfl
theorem ziq{ws:List Int}{ps:List St}:pmB ws ps=true↔ws.length=336/\ps.length<=400/\(∀ x∈ws,zaz x=true)/\∀ p∈ps,zcs p.at_=true/\zaz p.val=true:=by
 constructor
 ·intro h;refine⟨(zed h).1,(zed h).2,fun x hx=>?_,fun p hp=>?_⟩
  ·obtain⟨i,hi,rfl⟩:=List.getElem_of_mem hx;exact zzl h i hi
  ·obtain⟨i,hi,rfl⟩:=List.getElem_of_mem hp;exact zjm h i hi
 ·rintro⟨h1,h2,h3,h4⟩;exact yapu h1 h2 (fun k hk=>h3 _ (List.getElem_mem hk)) (fun k hk=>h4 _ (List.getElem_mem hk))
theorem zme{ws:List Int}{ps:List Se}:zfj ws ps=true↔ws.length=32/\ps.length<=400/\(∀ x∈ws,zaz x=true)/\∀ p∈ps,zpa p.at_=true/\zaz p.val=true:=by
 constructor
 ·intro h;refine⟨(zcy h).1,(zcy h).2,fun x hx=>?_,fun p hp=>?_⟩
  ·obtain⟨i,hi,rfl⟩:=List.getElem_of_mem hx;exact yaej h i hi
  ·obtain⟨i,hi,rfl⟩:=List.getElem_of_mem hp;exact zqs h i hi
 ·rintro⟨h1,h2,h3,h4⟩;exact yahl h1 h2 (fun k hk=>h3 _ (List.getElem_mem hk)) (fun k hk=>h4 _ (List.getElem_mem hk))
theorem zug:∀ (ps:List St) (ws:List Int),(∀ x∈ws,zaz x=true)->(∀ p∈ps,zaz p.val=true)->∀ x∈zoq ws ps,zaz x=true
 | [],ws,h,_=>h
 | p::ps,ws,h,k=>by
   show ∀ x∈zoq (if p.fl then ws.set p.at_.toNat p.val else ws) ps,zaz x=true
   refine zug ps _ ?_ (fun q hq=>k q (List.mem_cons_of_mem _ hq))
   split
   ·intro x hx
    rcases List.mem_or_eq_of_mem_set hx with hx | rfl
    ·exact h x hx
    ·exact k p (List.mem_cons_self)
   ·exact h
theorem zus:∀ (ps:List Se) (ws:List Int),(∀ x∈ws,zaz x=true)->(∀ p∈ps,zaz p.val=true)->∀ x∈zxz ws ps,zaz x=true
 | [],ws,h,_=>h
 | p::ps,ws,h,k=>by
   show ∀ x∈zxz (ws.set p.at_.toNat p.val) ps,zaz x=true
   refine zus ps _ ?_ (fun q hq=>k q (List.mem_cons_of_mem _ hq));intro x hx
   rcases List.mem_or_eq_of_mem_set hx with hx | rfl
   ·exact h x hx
   ·exact k p (List.mem_cons_self)
theorem yawh{m:Mi}{ws:List Int}{ps:List St}{es:List Int}{qs:List Se}(h:pmB ws ps=true)(hb:zfj es qs=true)(hm:miB m=true)(hf:zpi m ps qs=false):pmB (doW m ws ps) (doP m ps)=true/\zfj (doE m es qs) (doQ m qs)=true:=by
 obtain⟨k,a,x⟩:=m;obtain⟨p1,p2,p3,p4⟩:=ziq.1 h;obtain⟨b1,b2,b3,b4⟩:=zme.1 hb;have hk:=(zlj k a x).1 hm;have hf':¬ ((k=1/\ps.length=400)\/(k=4/\qs.length=400)):=of_decide_eq_false hf
 rcases(show(k=1/\(0<=a/\a<336)/\0<=x/\x<1099511627776)\/k=2\/k=3\/(k=4/\(0<=a/\a<32)/\0<=x/\x<1099511627776)\/k=5 by omega)with ⟨rfl,ha,hx⟩ | rfl|rfl | ⟨rfl,ha,hx⟩ | rfl
 ·refine⟨ziq.2 ⟨p1,?_,p3,?_⟩,hb⟩
  ·show(ps++[(⟨a,x,false⟩:St)]).length<=400
   simp;omega
  ·intro p hp
   rcases List.mem_append.1 (show p∈ps++[⟨a,x,false⟩]from hp)with hp | hp
   ·exact p4 p hp
   ·rw[List.mem_singleton.1 hp];exact⟨decide_eq_true ha,decide_eq_true hx⟩
 ·refine⟨ziq.2 ⟨p1,?_,p3,?_⟩,hb⟩
  ·show(ps.map (fl1 a)).length<=400
   simpa using p2
  ·intro p hp;obtain⟨q,hq,rfl⟩:=List.mem_map.1 (show p∈ps.map (fl1 a)from hp);have:=p4 q hq;unfold fl1
   split<;>exact this
 ·refine⟨ziq.2 ⟨?_,?_,?_,?_⟩,hb⟩
  ·show(zoq ws ps).length=336
   rw[zmp];exact p1
  ·exact Nat.le_trans (List.length_filter_le _ _) p2
  ·exact zug ps ws p3 (fun p hp=>(p4 p hp).2)
  ·intro p hp;exact p4 p (List.mem_filter.1 (show p∈ps.filter (fun p=>!p.fl)from hp)).1
 ·refine⟨h,zme.2 ⟨b1,?_,b3,?_⟩⟩
  ·show(qs++[(⟨a,x⟩:Se)]).length<=400
   simp;omega
  ·intro p hp
   rcases List.mem_append.1 (show p∈qs++[⟨a,x⟩]from hp)with hp | hp
   ·exact b4 p hp
   ·rw[List.mem_singleton.1 hp];exact⟨decide_eq_true ha,decide_eq_true hx⟩
 ·refine⟨h,zme.2 ⟨?_,Nat.zero_le _,?_,fun p hp=>by cases hp⟩⟩
  ·show(zxz es qs).length=32
   rw[zmq];exact b1
  ·exact zus qs es b3 (fun p hp=>(b4 p hp).2)
theorem yark:∀ (l:List Mi) (ws:List Int) (ps:List St) (es:List Int) (qs:List Se),pmB ws ps=true->zfj es qs=true->(∀ m∈l,miB m=true)->pmB (mr l ws ps es qs).W (mr l ws ps es qs).P=true/\zfj (mr l ws ps es qs).E (mr l ws ps es qs).Q=true
 | [],ws,ps,es,qs,h,hb,_=>⟨h,hb⟩
 | m::l,ws,ps,es,qs,h,hb,hm=>by
   by_cases c:zpi m ps qs=true
   ·simp only[mr,if_pos c];exact⟨h,hb⟩
   ·simp only[mr,if_neg c];obtain⟨h1,h2⟩:=yawh h hb (hm m List.mem_cons_self) (by simpa using c);exact yark l _ _ _ _ h1 h2 (fun q hq=>hm q (List.mem_cons_of_mem _ hq))
theorem yare{l:List Mi}{i:Nat}(hi:i<l.length){ws:List Int}{ps:List St}{es:List Int}{qs:List Se}{W:List Int}{P:List St}{E:List Int}{Q:List Se}(h:mr (l.take i) ws ps es qs=⟨0,W,P,E,Q⟩)(hf:zpi l[i] P Q=false) :
  mr (l.take (i+1)) ws ps es qs=⟨0,doW l[i] W P,doP l[i] P,doE l[i] E Q,doQ l[i] Q⟩:=by
 rw[List.take_succ_eq_append_getElem hi,znj,h];simp only[if_true,yatf];rw[if_neg (by rw[hf];simp)]
theorem yase{l:List Mi}{i:Nat}(hi:i<l.length){ws:List Int}{ps:List St}{es:List Int}{qs:List Se}{W:List Int}{P:List St}{E:List Int}{Q:List Se}(h:mr (l.take i) ws ps es qs=⟨0,W,P,E,Q⟩)(hf:zpi l[i] P Q=true) :
  mr l ws ps es qs=⟨7,W,P,E,Q⟩:=by
 have e:l=l.take i++l[i]::l.drop (i+1):=by rw[List.getElem_cons_drop];exact(List.take_append_drop i l).symm
 rw[e,znj,h];simp only[if_true,mr];rw[if_pos hf]
theorem yatp{l:List Mi}{i:Nat}(hi:l.length<=i){ws:List Int}{ps:List St}{es:List Int}{qs:List Se}{W:List Int}{P:List St}{E:List Int}{Q:List Se}(h:mr (l.take i) ws ps es qs=⟨0,W,P,E,Q⟩):mr l ws ps es qs=⟨0,W,P,E,Q⟩:=by
 rw[List.take_of_length_le hi]at h;exact h
def yawf(l:List Mi):Bool:=decide (∀ k (h:k<l.length),miB l[k]=true)
def ms(l:List Mi)(ws:List Int)(ps:List St)(es:List Int)(qs:List Se):MR:=if 4096<l.length then⟨2,[],[],[],[]⟩else if (pmB ws ps&&zfj es qs&&yawf l)=true then mr l ws ps es qs else⟨1,[],[],[],[]⟩
def StOK(m:Mi):Prop:=miB m=true/\(m.kind=1\/m.kind=2\/m.kind=3)
theorem yahg(ks:List Int):∀ i,i<=ks.length->∀ m∈nl ks i,∃ k,k<ks.length/\m.at_=ks[k]?.getD 0
 | 0,_,m,h=>by cases h
 | i+1,hi,m,h=>by
  rw[nl]at h
  split at h
  ·exact yahg ks i (by omega) m h
  ·rcases List.mem_append.1 h with h | h
   ·exact yahg ks i (by omega) m h
   ·rw[List.mem_singleton.1 h];exact⟨i,by omega,rfl⟩
theorem zvj{S:List St}(h:∀ p∈S,(0<=p.at_/\p.at_<336)/\0<=p.val/\p.val<1099511627776):∀ m∈seg S,StOK m:=by
 intro m hm;unfold seg zbf at hm
 rcases List.mem_append.1 hm with hm | hm
 ·obtain⟨p,hp,rfl⟩:=List.mem_map.1 hm;have:=h p hp;exact⟨(zlj 1 p.at_ p.val).2 (.inl ⟨rfl,this⟩),.inl rfl⟩
 ·rcases List.mem_append.1 hm with hm | hm
  ·have e:=zsf _ _ m hm;obtain⟨k,hk,ek⟩:=yahg _ _ zL m hm
   have:∃ p∈S,m.at_=p.at_:=by
    rw[List.length_map]at hk;exact⟨S[k],List.getElem_mem hk,by rw[ek,List.getElem?_map,List.getElem?_eq_getElem hk];rfl⟩
   obtain⟨p,hp,ep⟩:=this;rw[e];have:=h p hp;exact⟨(zlj 2 m.at_ 0).2 (.inr (.inl ⟨rfl,by rw[ep];exact this.1,rfl⟩)),.inr (.inl rfl)⟩
  ·rw[List.mem_singleton.1 hm];exact⟨(zlj 3 0 0).2 (.inr (.inr (.inr ⟨.inl rfl,rfl,rfl⟩))),.inr (.inr rfl)⟩
theorem yaif:∀ (us:List St) (i:Nat),(∀ p∈us,(48<=p.at_/\p.at_<336)/\0<=p.val/\p.val<1099511627776)->∀ p∈jrn i us,0<=p.val/\p.val<1099511627776
 | [],_,_,p,h=>by cases h
 | u::us,i,hu,p,h=>by
  rw[jrn]at h;have h0:=hu u List.mem_cons_self
  rcases List.mem_cons.1 h with rfl | h
  ·exact⟨by show 0<=u.at_;omega,by show u.at_<_;omega⟩
  ·rcases List.mem_cons.1 h with rfl | h
   ·exact⟨by show 0<=u.val;omega,by show u.val<_;omega⟩
   ·exact yaif us (i+1) (fun q hq=>hu q (List.mem_cons_of_mem _ hq)) p h
theorem yapp(n:Int)(h:0<=n/\n<1099511627776):∀ p∈cnt n,(0<=p.at_/\p.at_<336)/\0<=p.val/\p.val<1099511627776:=by
 intro p hp;rw[List.mem_singleton.1 hp];exact⟨⟨by show(0:Int)<=8;omega,by show(8:Int)<336;omega⟩,h⟩
def ziu(hs:List Int):Bool:=decide (hs.length=128/\∀ k (h:k<hs.length),0<=hs[k]/\hs[k]<=64)
def ztc(n:Nat):List Int:=List.replicate n 1
theorem yaio(n:Nat):ztc (n+1)=ztc n++[1]:=by unfold ztc;rw[List.replicate_succ',]
theorem zrt(n:Nat):(ztc n).length=n:=by simp[ztc]
theorem yacj(w:World):zC 100 #[] w fun e w'=>∃ v',e=.returned v'/\Row w' 3 1 w.heap.size w'.heap.size v' (ztc 128).length (zdb (ztc 128))/\zB w w':=by
 have START:Hid (InI w (w.alloc (.cells #[] 3)) (.slice (some ⟨w.heap.size,0,none⟩) 0 0) (ztc 0)):=⟨World.ownsRow_lit w #[] 0 zL (by simp[maxLen]) (by simp),zR.alloc zL _⟩
 go_enter Tryz.func100,Tryz.ntmps100;go_wp2
 go_loopw [1,2] (fun vL i wr=>∃ m:Nat,m<=128/\i=.I (m:Int)/\Hid (InI w wr vL (ztc m))) (fun _ i _=>128-(intOf i).toNat)
 case atStart=>exact⟨0,by omega,rfl,START⟩
 case round =>
  obtain⟨m,hm,rfl,J⟩:=hrel;clear START
  have m0:(0:Int)<=(m:Int):=by omega
  by_cases hlt:m<128
  ·have m1:(m:Int)<128:=by omega
   have EM:=zaa (yaio m)
   have l2:(ztc m).length<=128:=by rw[zrt];omega
   have JB:Hid (InI w (wr.alloc (.cells #[.I 1] 3)) u1 (ztc m)):=J.o.below (zR.alloc zL _);have RB:=zaa (yaaw wr 1);have hzb:=JB.o.z;clear J;go_wp2_with (at_builtin;refine zae _ rfl (.tmp 8) (.tmp 9) 23 rfl w.heap.size 3 (.I 0) 1 8 Tryz.underlying23 zjs rfl (by decide) _ _ _ rfl JB.o.l _ 1 _ rfl RB.o (zsx _) (by first | omega | (simp[maxLen];omega)) (by first | omega | (simp;omega)) hzb ?_);intro vN wN hownN hgrN;have G:=zaa (JB.o.grow 1 hownN hgrN);rw[<- EM.o]at G;clear hownN hgrN JB RB;go_wp2
   go_roundw
   case rel=>exact⟨m+1,by omega,by go_num,G⟩
   case measure=>simp[intOf];omega
  ·obtain rfl:m=128:=by omega
   obtain⟨-,aN,cN,hvN,-⟩:=(zad J.o.l).rd;subst hvN;go_wp2;go_ret;exact⟨_,rfl,zad J.o.l,J.o.b⟩
end Go.Proofs.YtogcbbkhnpmgeaaGreatDoor
