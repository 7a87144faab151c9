/- Several texts laid together: MicDo, MicO, JiM, JlP, TrA, TrC, MvA. -/
import Derived.Test.YtkdjfhkalelafaaGreatDoorZAY
import Derived.Test.YtkdjfhkalelafaaGreatDoorZAQ
import Derived.Test.YtkdjfhkalelafaaGreatDoorZAE
import Derived.Test.YtkdjfhkalelafaaGreatDoorZAC
import Derived.Test.YtkdjfhkalelafaaGreatDoorZAM
import Derived.Test.YtkdjfhkalelafaaGreatDoorZAX
namespace Go.Proofs.YtkdjfhkalelafaaGreatDoor
open Go.RowKit
set_option maxRecDepth 100000 in
set_option maxHeartbeats 8000000 in
theorem yakq (v:Value) (m:Mi) (ws:List Int) (ps:List St) (es:List Int) (qs:List Se) (w:World) (h:RdDev w v ws ps es qs) (hp1:pmB ws ps = true) (hb1:zgk es qs = true) (hm:miB m = true) :
  Calls Tryz.prog 147 #[v,m.v] w fun e w' => ∃ v',e = .returned v' ∧ RdDev w' v' (doW m ws ps) (doP m ps) (doE m es qs) (doQ m qs) ∧ Below w.heap.size w w':=by
 obtain ⟨k,a,x⟩:=m
 obtain ⟨aW,cW,aP,cP,aS,cS,aQ,cQ,rfl,r1,r2⟩:=h.form
 have R1:=zaa r1
 have R2:=zaa r2
 have HW:=zaa (zes hp1).1
 have hwl:ws.length ≤ 336:=Nat.le_of_eq HW.out
 have hpl:ps.length ≤ 400:=(zes hp1).2
 have HE:=zaa (zej hb1).1
 have hel:es.length ≤ 32:=Nat.le_of_eq HE.out
 have hql:qs.length ≤ 400:=(zej hb1).2
 have PA:=zaa (fun j (hj:j < ps.length) => zha (zkj hp1 j hj).1)
 have QA:=zaa (fun j (hj:j < qs.length) => zvl (zqw hb1 j hj).1)
 have hk:=(zlp k a x).1 hm
 clear h r1 r2 hp1 hb1 hm
 have hb0:Below w.heap.size w (((w.alloc (.cells #[.slice aW ws.length cW,.slice aP ps.length cP,.slice aS es.length cS,.slice aQ qs.length cQ] 31)).alloc (.cells #[.int .i64 k,.int .i64 a,.int .i64 x] 192)).alloc (.cells #[.slice none 0 0,.slice none 0 0,.slice none 0 0,.slice none 0 0] 31)):=by
  repeat (refine Below.alloc ?_ (by simp <;> omega) _)
  exact Below.refl _ _
 unfold Mi.v
 simp only
 rcases (show (k = 1 ∧ (0 ≤ a ∧ a < 336)) ∨ (k = 2 ∧ (0 ≤ a ∧ a < 336)) ∨ k = 3 ∨ (k = 4 ∧ (0 ≤ a ∧ a < 32)) ∨ k = 5 by omega) with ⟨rfl,ha⟩ | ⟨rfl,ha⟩ | rfl | ⟨rfl,ha⟩ | rfl
 ·clear hk
  have D:=zaa (show doW (⟨1,a,x⟩:Mi) ws ps = ws ∧ doP (⟨1,a,x⟩:Mi) ps = ps ++ [⟨a,x,false⟩] ∧ doE (⟨1,a,x⟩:Mi) es qs = es ∧ doQ (⟨1,a,x⟩:Mi) qs = qs from ⟨rfl,rfl,rfl,rfl⟩)
  go_enter Tryz.func147,Tryz.ntmps147
  go_wp2_with fail
  refine (zuk _ ws ps a x _ (R1.out.below hb0) (by omega)).mono ?_
  rintro e w1 ⟨v1,rfl,hr,hb⟩
  have hr':RdPm w1 v1 _ _:=hr
  obtain ⟨vW1,vP1,rfl,hI,hS⟩:=hr'
  obtain ⟨aW1,cW1,rfl⟩:=RdI.form hI rfl
  obtain ⟨aP1,cP1,rfl⟩:=RdS.form hS (n:=ps.length + 1) (by simp)
  have hz1:w.heap.size + 3 ≤ w1.heap.size:=by have:=hb.size; simp at this; omega
  have V0:=(hb.block w.heap.size (by simp <;> omega)).trans (zak (zak (zah rfl)))
  have V2:=(hb.block (w.heap.size + 1 + 1) (by simp <;> omega)).trans (zah (by simp))
  have VM:=(hb.block (w.heap.size + 1) (by simp <;> omega)).trans (zak (zah (by simp)))
  have RN:=zaa hr
  have RO:=zaa (R2.out.below (zab hb0 hb (by simp <;> omega)))
  have B1:=zaa (zab hb0 hb (by simp <;> omega))
  obtain ⟨x0,x1,x2,x3,x4,x5,x6,x7⟩:=zaq V0
  obtain ⟨y0,y1,y2,y3,y4,y5,y6,y7⟩:=zaq V2
  obtain ⟨m0,m1,m2⟩:=zay VM
  have VH:=zaa (And.intro V0 V2)
  clear hb0 hb hr hI hS V0 V2 VM
  go_wp2
  refine bodyPost_ret (v:=.agg #[.slice aW1 ws.length cW1,.slice aP1 (ps.length + 1) cP1,.slice aS es.length cS,.slice aQ qs.length cQ]) (by simp [results,Tryz.results147,go_sem,y0,y1,y2,y3]) rfl ?_
  refine ⟨_,rfl,?_,?_⟩
  ·rw [D.out.1,D.out.2.1,D.out.2.2.1,D.out.2.2.2]
   exact ⟨_,_,_,_,rfl,(RN.out.put (bD:=w.heap.size) (bR:=w.heap.size + 1 + 1) (i:=0) (j:=1) VH.out.1 (zdf (zaf _ _ _) (zaf _ _ _) (zaf _ _ _) (zaf _ _ _)) VH.out.2 (zdf (zaf _ _ _) (zaf _ _ _) (zaf _ _ _) (zaf _ _ _))),(RO.out.put (bD:=w.heap.size) (bR:=w.heap.size + 1 + 1) (i:=0) (j:=1) VH.out.1 (zdf (zaf _ _ _) (zaf _ _ _) (zaf _ _ _) (zaf _ _ _)) VH.out.2 (zdf (zaf _ _ _) (zaf _ _ _) (zaf _ _ _) (zaf _ _ _)))⟩
  ·exact zgc B1.out (Nat.le_refl _) (by omega) 0 1 _ _ _ _ _ _
 ·clear hk
  have D:=zaa (show doW (⟨2,a,x⟩:Mi) ws ps = ws ∧ doP (⟨2,a,x⟩:Mi) ps = ps.map (fl1 a) ∧ doE (⟨2,a,x⟩:Mi) es qs = es ∧ doQ (⟨2,a,x⟩:Mi) qs = qs from ⟨rfl,rfl,rfl,rfl⟩)
  obtain ⟨q,rfl⟩:∃ q:Nat,a = q:=⟨a.toNat,by omega⟩
  go_enter Tryz.func147,Tryz.ntmps147
  go_wp2_with fail
  refine (zvu _ ws ps q _ (R1.out.below hb0) (by omega) (by omega) (fun j hj => PA.out j hj)).mono ?_
  rintro e w1 ⟨v1,rfl,hr,hb⟩
  have hr':RdPm w1 v1 _ _:=hr
  obtain ⟨vW1,vP1,rfl,hI,hS⟩:=hr'
  obtain ⟨aW1,cW1,rfl⟩:=RdI.form hI rfl
  obtain ⟨aP1,cP1,rfl⟩:=RdS.form hS (n:=ps.length) (by simp)
  have hz1:w.heap.size + 3 ≤ w1.heap.size:=by have:=hb.size; simp at this; omega
  have V0:=(hb.block w.heap.size (by simp <;> omega)).trans (zak (zak (zah rfl)))
  have V2:=(hb.block (w.heap.size + 1 + 1) (by simp <;> omega)).trans (zah (by simp))
  have VM:=(hb.block (w.heap.size + 1) (by simp <;> omega)).trans (zak (zah (by simp)))
  have RN:=zaa hr
  have RO:=zaa (R2.out.below (zab hb0 hb (by simp <;> omega)))
  have B1:=zaa (zab hb0 hb (by simp <;> omega))
  obtain ⟨x0,x1,x2,x3,x4,x5,x6,x7⟩:=zaq V0
  obtain ⟨y0,y1,y2,y3,y4,y5,y6,y7⟩:=zaq V2
  obtain ⟨m0,m1,m2⟩:=zay VM
  have VH:=zaa (And.intro V0 V2)
  clear hb0 hb hr hI hS V0 V2 VM
  go_wp2
  refine bodyPost_ret (v:=.agg #[.slice aW1 ws.length cW1,.slice aP1 ps.length cP1,.slice aS es.length cS,.slice aQ qs.length cQ]) (by simp [results,Tryz.results147,go_sem,y0,y1,y2,y3]) rfl ?_
  refine ⟨_,rfl,?_,?_⟩
  ·rw [D.out.1,D.out.2.1,D.out.2.2.1,D.out.2.2.2]
   exact ⟨_,_,_,_,rfl,(RN.out.put (bD:=w.heap.size) (bR:=w.heap.size + 1 + 1) (i:=0) (j:=1) VH.out.1 (zdf (zaf _ _ _) (zaf _ _ _) (zaf _ _ _) (zaf _ _ _)) VH.out.2 (zdf (zaf _ _ _) (zaf _ _ _) (zaf _ _ _) (zaf _ _ _))),(RO.out.put (bD:=w.heap.size) (bR:=w.heap.size + 1 + 1) (i:=0) (j:=1) VH.out.1 (zdf (zaf _ _ _) (zaf _ _ _) (zaf _ _ _) (zaf _ _ _)) VH.out.2 (zdf (zaf _ _ _) (zaf _ _ _) (zaf _ _ _) (zaf _ _ _)))⟩
  ·exact zgc B1.out (Nat.le_refl _) (by omega) 0 1 _ _ _ _ _ _
 ·clear hk
  have D:=zaa (show doW (⟨3,a,x⟩:Mi) ws ps = zod ws ps ∧ doP (⟨3,a,x⟩:Mi) ps = zlx ps ∧ doE (⟨3,a,x⟩:Mi) es qs = es ∧ doQ (⟨3,a,x⟩:Mi) qs = qs from ⟨rfl,rfl,rfl,rfl⟩)
  go_enter Tryz.func147,Tryz.ntmps147
  go_wp2_with fail
  refine (zuj _ ws ps _ (R1.out.below hb0) (by omega) (by omega) (fun j hj => by have:=PA.out j hj; have:=HW.out; omega)).mono ?_
  rintro e w1 ⟨v1,rfl,hr,hb⟩
  have hr':RdPm w1 v1 _ _:=hr.rd
  obtain ⟨vW1,vP1,rfl,hI,hS⟩:=hr'
  obtain ⟨aW1,cW1,rfl⟩:=RdI.form hI (zmz ws ps)
  obtain ⟨aP1,cP1,rfl⟩:=RdS.form hS (n:=(zlx ps).length) rfl
  have hz1:w.heap.size + 3 ≤ w1.heap.size:=by have:=hb.size; simp at this; omega
  have V0:=(hb.block w.heap.size (by simp <;> omega)).trans (zak (zak (zah rfl)))
  have V2:=(hb.block (w.heap.size + 1 + 1) (by simp <;> omega)).trans (zah (by simp))
  have VM:=(hb.block (w.heap.size + 1) (by simp <;> omega)).trans (zak (zah (by simp)))
  have RN:=zaa hr
  have RO:=zaa (R2.out.below (zab hb0 hb (by simp <;> omega)))
  have B1:=zaa (zab hb0 hb (by simp <;> omega))
  obtain ⟨x0,x1,x2,x3,x4,x5,x6,x7⟩:=zaq V0
  obtain ⟨y0,y1,y2,y3,y4,y5,y6,y7⟩:=zaq V2
  obtain ⟨m0,m1,m2⟩:=zay VM
  have VH:=zaa (And.intro V0 V2)
  clear hb0 hb hr hI hS V0 V2 VM
  go_wp2
  refine bodyPost_ret (v:=.agg #[.slice aW1 ws.length cW1,.slice aP1 ((zlx ps).length) cP1,.slice aS es.length cS,.slice aQ qs.length cQ]) (by simp [results,Tryz.results147,go_sem,y0,y1,y2,y3]) rfl ?_
  refine ⟨_,rfl,?_,?_⟩
  ·rw [D.out.1,D.out.2.1,D.out.2.2.1,D.out.2.2.2]
   exact ⟨_,_,_,_,rfl,(RN.out.rd.put (bD:=w.heap.size) (bR:=w.heap.size + 1 + 1) (i:=0) (j:=1) VH.out.1 (zdf (zaf _ _ _) (zaf _ _ _) (zaf _ _ _) (zaf _ _ _)) VH.out.2 (zdf (zaf _ _ _) (zaf _ _ _) (zaf _ _ _) (zaf _ _ _))),(RO.out.put (bD:=w.heap.size) (bR:=w.heap.size + 1 + 1) (i:=0) (j:=1) VH.out.1 (zdf (zaf _ _ _) (zaf _ _ _) (zaf _ _ _) (zaf _ _ _)) VH.out.2 (zdf (zaf _ _ _) (zaf _ _ _) (zaf _ _ _) (zaf _ _ _)))⟩
  ·exact zgc B1.out (Nat.le_refl _) (by omega) 0 1 _ _ _ _ _ _
 ·clear hk
  have D:=zaa (show doW (⟨4,a,x⟩:Mi) ws ps = ws ∧ doP (⟨4,a,x⟩:Mi) ps = ps ∧ doE (⟨4,a,x⟩:Mi) es qs = es ∧ doQ (⟨4,a,x⟩:Mi) qs = qs ++ [⟨a,x⟩] from ⟨rfl,rfl,rfl,rfl⟩)
  go_enter Tryz.func147,Tryz.ntmps147
  go_wp2_with fail
  refine (zvj _ es qs a x _ (R2.out.below hb0) (by omega)).mono ?_
  rintro e w1 ⟨v1,rfl,hr,hb⟩
  have hr':RdBlk w1 v1 _ _:=hr
  obtain ⟨vW1,vP1,rfl,hI,hS⟩:=hr'
  obtain ⟨aW1,cW1,rfl⟩:=RdI.form hI rfl
  obtain ⟨aP1,cP1,rfl⟩:=RdE.form hS (n:=qs.length + 1) (by simp)
  have hz1:w.heap.size + 3 ≤ w1.heap.size:=by have:=hb.size; simp at this; omega
  have V0:=(hb.block w.heap.size (by simp <;> omega)).trans (zak (zak (zah rfl)))
  have V2:=(hb.block (w.heap.size + 1 + 1) (by simp <;> omega)).trans (zah (by simp))
  have VM:=(hb.block (w.heap.size + 1) (by simp <;> omega)).trans (zak (zah (by simp)))
  have RN:=zaa hr
  have RO:=zaa (R1.out.below (zab hb0 hb (by simp <;> omega)))
  have B1:=zaa (zab hb0 hb (by simp <;> omega))
  obtain ⟨x0,x1,x2,x3,x4,x5,x6,x7⟩:=zaq V0
  obtain ⟨y0,y1,y2,y3,y4,y5,y6,y7⟩:=zaq V2
  obtain ⟨m0,m1,m2⟩:=zay VM
  have VH:=zaa (And.intro V0 V2)
  clear hb0 hb hr hI hS V0 V2 VM
  go_wp2
  refine bodyPost_ret (v:=.agg #[.slice aW ws.length cW,.slice aP ps.length cP,.slice aW1 es.length cW1,.slice aP1 (qs.length + 1) cP1]) (by simp [results,Tryz.results147,go_sem,y0,y1,y2,y3]) rfl ?_
  refine ⟨_,rfl,?_,?_⟩
  ·rw [D.out.1,D.out.2.1,D.out.2.2.1,D.out.2.2.2]
   exact ⟨_,_,_,_,rfl,(RO.out.put (bD:=w.heap.size) (bR:=w.heap.size + 1 + 1) (i:=2) (j:=3) VH.out.1 (zdf (zaf _ _ _) (zaf _ _ _) (zaf _ _ _) (zaf _ _ _)) VH.out.2 (zdf (zaf _ _ _) (zaf _ _ _) (zaf _ _ _) (zaf _ _ _))),(RN.out.put (bD:=w.heap.size) (bR:=w.heap.size + 1 + 1) (i:=2) (j:=3) VH.out.1 (zdf (zaf _ _ _) (zaf _ _ _) (zaf _ _ _) (zaf _ _ _)) VH.out.2 (zdf (zaf _ _ _) (zaf _ _ _) (zaf _ _ _) (zaf _ _ _)))⟩
  ·exact zgc B1.out (Nat.le_refl _) (by omega) 2 3 _ _ _ _ _ _
 ·clear hk
  have D:=zaa (show doW (⟨5,a,x⟩:Mi) ws ps = ws ∧ doP (⟨5,a,x⟩:Mi) ps = ps ∧ doE (⟨5,a,x⟩:Mi) es qs = zxs es qs ∧ doQ (⟨5,a,x⟩:Mi) qs = [] from ⟨rfl,rfl,rfl,rfl⟩)
  go_enter Tryz.func147,Tryz.ntmps147
  go_wp2_with fail
  refine (zpx _ es qs _ (R2.out.below hb0) (by omega) (by omega) (fun j hj => by have:=QA.out j hj; have:=HE.out; omega)).mono ?_
  rintro e w1 ⟨v1,rfl,hr,hb⟩
  have hr':RdBlk w1 v1 _ _:=hr.rd
  obtain ⟨vW1,vP1,rfl,hI,hS⟩:=hr'
  obtain ⟨aW1,cW1,rfl⟩:=RdI.form hI (zmi es qs)
  obtain ⟨aP1,cP1,rfl⟩:=RdE.form hS (n:=0) rfl
  have hz1:w.heap.size + 3 ≤ w1.heap.size:=by have:=hb.size; simp at this; omega
  have V0:=(hb.block w.heap.size (by simp <;> omega)).trans (zak (zak (zah rfl)))
  have V2:=(hb.block (w.heap.size + 1 + 1) (by simp <;> omega)).trans (zah (by simp))
  have VM:=(hb.block (w.heap.size + 1) (by simp <;> omega)).trans (zak (zah (by simp)))
  have RN:=zaa hr
  have RO:=zaa (R1.out.below (zab hb0 hb (by simp <;> omega)))
  have B1:=zaa (zab hb0 hb (by simp <;> omega))
  obtain ⟨x0,x1,x2,x3,x4,x5,x6,x7⟩:=zaq V0
  obtain ⟨y0,y1,y2,y3,y4,y5,y6,y7⟩:=zaq V2
  obtain ⟨m0,m1,m2⟩:=zay VM
  have VH:=zaa (And.intro V0 V2)
  clear hb0 hb hr hI hS V0 V2 VM
  go_wp2
  refine bodyPost_ret (v:=.agg #[.slice aW ws.length cW,.slice aP ps.length cP,.slice aW1 es.length cW1,.slice aP1 0 cP1]) (by simp [results,Tryz.results147,go_sem,y0,y1,y2,y3]) rfl ?_
  refine ⟨_,rfl,?_,?_⟩
  ·rw [D.out.1,D.out.2.1,D.out.2.2.1,D.out.2.2.2]
   exact ⟨_,_,_,_,rfl,(RO.out.put (bD:=w.heap.size) (bR:=w.heap.size + 1 + 1) (i:=2) (j:=3) VH.out.1 (zdf (zaf _ _ _) (zaf _ _ _) (zaf _ _ _) (zaf _ _ _)) VH.out.2 (zdf (zaf _ _ _) (zaf _ _ _) (zaf _ _ _) (zaf _ _ _))),(RN.out.rd.put (bD:=w.heap.size) (bR:=w.heap.size + 1 + 1) (i:=2) (j:=3) VH.out.1 (zdf (zaf _ _ _) (zaf _ _ _) (zaf _ _ _) (zaf _ _ _)) VH.out.2 (zdf (zaf _ _ _) (zaf _ _ _) (zaf _ _ _) (zaf _ _ _)))⟩
  ·exact zgc B1.out (Nat.le_refl _) (by omega) 2 3 _ _ _ _ _ _
def putR (w:World) (bR:Nat) (a b c d:Value):World:=(((w.setCell ⟨bR,0,none⟩ a).setCell ⟨bR,1,none⟩ b).setCell ⟨bR,2,none⟩ c).setCell ⟨bR,3,none⟩ d
theorem zib (w:World) (bR:Nat) (a b c d:Value):Outside bR (bR + 1) w (putR w bR a b c d):=by
 unfold putR
 repeat (refine Outside.setCell ?_ (by simp only; omega) (by simp only; omega) _)
 exact Outside.refl _ _ _
theorem znj (w:World) (bR:Nat) (a b c d:Value):(putR w bR a b c d).heap.size = w.heap.size:=by simp [putR,World.setCell]
set_option maxRecDepth 100000 in
set_option maxHeartbeats 8000000 in
theorem yacn (v:Value) (ws:List Int) (ps:List St) (es:List Int) (qs:List Se) (w:World) (h:RdDev w v ws ps es qs) (hw:ws.length ≤ 1048576) (hp:ps.length ≤ 1048576) (he:es.length ≤ 1048576) (hq:qs.length ≤ 1048576) :
  Calls Tryz.prog 106 #[v] w fun e w' => ∃ v',e = .returned v' ∧ RowDev w' w.heap.size w'.heap.size v' ws ps es qs ∧ Below w.heap.size w w':=by
 obtain ⟨aW,cW,aP,cP,aS,cS,aQ,cQ,rfl,r1,r2⟩:=h.form
 have R1:=zaa r1
 have R2:=zaa r2
 clear h r1 r2
 have hb0:Below w.heap.size w ((w.alloc (.cells #[.slice aW ws.length cW,.slice aP ps.length cP,.slice aS es.length cS,.slice aQ qs.length cQ] 31)).alloc (.cells #[.slice none 0 0,.slice none 0 0,.slice none 0 0,.slice none 0 0] 31)):=by
  repeat (refine Below.alloc ?_ (by simp <;> omega) _)
  exact Below.refl _ _
 go_enter Tryz.func106,Tryz.ntmps106
 go_upto_region 1 with fail
 obtain ⟨w0,hw0⟩:∃ w0:World,w0 = (w.alloc (.cells #[.slice aW ws.length cW,.slice aP ps.length cP,.slice aS es.length cS,.slice aQ qs.length cQ] 31)).alloc (.cells #[.slice none 0 0,.slice none 0 0,.slice none 0 0,.slice none 0 0] 31):=⟨_,rfl⟩
 rw [← hw0]
 rw [← hw0] at hb0
 have hz0:w.heap.size + 2 ≤ w0.heap.size:=by rw [hw0]; simp
 have V0:Hid (w0.heap[w.heap.size]? = some (.cells #[.slice aW ws.length cW,.slice aP ps.length cP,.slice aS es.length cS,.slice aQ qs.length cQ] 31 (0,0))):=by rw [hw0]; exact zak (zah rfl)
 have V1:Hid (w0.heap[w.heap.size + 1]? = some (.cells #[.slice none 0 0,.slice none 0 0,.slice none 0 0,.slice none 0 0] 31 (0,0))):=by rw [hw0]; exact zah (by simp)
 clear hw0
 have B0:=zaa hb0
 clear hb0
 obtain ⟨x0,x1,x2,x3,-,-,-,-⟩:=zaq V0.out
 obtain ⟨y0,y1,y2,y3,y4,y5,y6,y7⟩:=zaq V1.out
 go_region_with (first
  | (go_at_call 148; refine (zqh _ ws ps _ (R1.out.below (by first | exact B0.out | exact B0.out.drew)) (by omega) (by omega)).mono ?_; rintro e w1 ⟨v1,rfl,hr1,hb1⟩; obtain ⟨aW1,cW1,aP1,cP1,rfl⟩:=hr1.form; have hz1:w0.heap.size ≤ w1.heap.size:=hb1.size; have B1:Hid (Below w0.heap.size w0 w1):=(by first | exact hb1 | exact zab ((Below.refl _ _).drew) hb1 (Nat.le_refl _)); have Q1:Hid (RowPm w1 w0.heap.size w1.heap.size (.agg #[.slice aW1 ws.length cW1,.slice aP1 ps.length cP1]) ws ps):=hr1; obtain ⟨z0,z1,z2,z3,-,-,-,-⟩:=zaq ((B1.out.block w.heap.size (by omega)).trans V0.out); clear hr1 hb1)
  | (go_at_call 149; refine (zqy _ es qs _ (R2.out.below (by first | exact zab B0.out B1.out (by omega) | exact (zab B0.out B1.out (by omega)).drew)) (by omega) (by omega)).mono ?_; rintro e w2 ⟨v2,rfl,hr2,hb2⟩; obtain ⟨aS2,cS2,aQ2,cQ2,rfl⟩:=hr2.form; have hz2:w1.heap.size ≤ w2.heap.size:=hb2.size; have B2:Hid (Below w1.heap.size w1 w2):=(by first | exact hb2 | exact zab ((Below.refl _ _).drew) hb2 (Nat.le_refl _)); have Q2:Hid (RowBlk w2 w1.heap.size w2.heap.size (.agg #[.slice aS2 es.length cS2,.slice aQ2 qs.length cQ2]) es qs):=hr2; have VR:=zaa ((B2.out.block (w.heap.size + 1) (by omega)).trans ((B1.out.block (w.heap.size + 1) (by omega)).trans V1.out)); obtain ⟨t0,t1,t2,t3,t4,t5,t6,t7⟩:=zaq VR.out; clear hr2 hb2))
 all_goals
  go_wp2
  refine bodyPost_ret (v:=.agg #[.slice aW1 ws.length cW1,.slice aP1 ps.length cP1,.slice aS2 es.length cS2,.slice aQ2 qs.length cQ2]) (by simp [results,Tryz.results106,go_sem,t0,t1,t2,t3]) rfl ?_
  have O:=zib w2 (w.heap.size + 1) (.slice aW1 ws.length cW1) (.slice aP1 ps.length cP1) (.slice aS2 es.length cS2) (.slice aQ2 qs.length cQ2)
  have Z:=znj w2 (w.heap.size + 1) (.slice aW1 ws.length cW1) (.slice aP1 ps.length cP1) (.slice aS2 es.length cS2) (.slice aQ2 qs.length cQ2)
  refine ⟨_,rfl,⟨_,_,_,_,w0.heap.size,w1.heap.size,w1.heap.size,w2.heap.size,rfl,?_,?_,by omega,Nat.le_trans hz2 (Nat.le_of_eq Z.symm),by omega,Nat.le_of_eq Z.symm,.inl (Nat.le_refl _)⟩,?_⟩
  ·exact (Q1.out.below B2.out (Nat.le_refl _)).outside O (by omega) (by omega)
  ·exact Q2.out.outside O (by omega) (Nat.le_refl _)
  ·exact (zab (zab B0.out B1.out (by omega)) B2.out (by omega)).trans (O.below (by omega) (by omega))
def zpm (m:Mi) (ps:List St) (qs:List Se):Bool:=decide ((m.kind = 1 ∧ ps.length = 400) ∨ (m.kind = 4 ∧ qs.length = 400))
structure MR where
 c:Int
 W:List Int
 P:List St
 E:List Int
 Q:List Se
def mr:List Mi → List Int → List St → List Int → List Se → MR
 | [],ws,ps,es,qs => ⟨0,ws,ps,es,qs⟩
 | m :: l,ws,ps,es,qs => if zpm m ps qs = true then ⟨7,ws,ps,es,qs⟩ else mr l (doW m ws ps) (doP m ps) (doE m es qs) (doQ m qs)
theorem zor:∀ (l l':List Mi) (ws:List Int) (ps:List St) (es:List Int) (qs:List Se),mr (l ++ l') ws ps es qs = if (mr l ws ps es qs).c = 0 then mr l' (mr l ws ps es qs).W (mr l ws ps es qs).P (mr l ws ps es qs).E (mr l ws ps es qs).Q else mr l ws ps es qs
 | [],l',ws,ps,es,qs => by simp [mr]
 | m :: l,l',ws,ps,es,qs => by
   by_cases c:zpm m ps qs = true
   ·simp [mr,c]
   ·simp only [List.cons_append,mr,if_neg c]
    exact zor l l' _ _ _ _
theorem yavh (m:Mi) (ws:List Int) (ps:List St) (es:List Int) (qs:List Se):mr [m] ws ps es qs = if zpm m ps qs = true then ⟨7,ws,ps,es,qs⟩ else ⟨0,doW m ws ps,doP m ps,doE m es qs,doQ m qs⟩:=rfl
theorem zjb {ws:List Int} {ps:List St}:pmB ws ps = true ↔ ws.length = 336 ∧ ps.length ≤ 400 ∧ (∀ x ∈ ws,zbd x = true) ∧ ∀ p ∈ ps,zcx p.at_ = true ∧ zbd p.val = true:=by
 constructor
 ·intro h
  refine ⟨(zes h).1,(zes h).2,fun x hx => ?_,fun p hp => ?_⟩
  ·obtain ⟨i,hi,rfl⟩:=List.getElem_of_mem hx; exact yabr h i hi
  ·obtain ⟨i,hi,rfl⟩:=List.getElem_of_mem hp; exact zkj h i hi
 ·rintro ⟨h1,h2,h3,h4⟩
  exact yaqb h1 h2 (fun k hk => h3 _ (List.getElem_mem hk)) (fun k hk => h4 _ (List.getElem_mem hk))
theorem zmg {ws:List Int} {ps:List Se}:zgk ws ps = true ↔ ws.length = 32 ∧ ps.length ≤ 400 ∧ (∀ x ∈ ws,zbd x = true) ∧ ∀ p ∈ ps,zpr p.at_ = true ∧ zbd p.val = true:=by
 constructor
 ·intro h
  refine ⟨(zej h).1,(zej h).2,fun x hx => ?_,fun p hp => ?_⟩
  ·obtain ⟨i,hi,rfl⟩:=List.getElem_of_mem hx; exact yaji h i hi
  ·obtain ⟨i,hi,rfl⟩:=List.getElem_of_mem hp; exact zqw h i hi
 ·rintro ⟨h1,h2,h3,h4⟩
  exact yahr h1 h2 (fun k hk => h3 _ (List.getElem_mem hk)) (fun k hk => h4 _ (List.getElem_mem hk))
theorem ztt:∀ (ps:List St) (ws:List Int),(∀ x ∈ ws,zbd x = true) → (∀ p ∈ ps,zbd p.val = true) → ∀ x ∈ zod ws ps,zbd x = true
 | [],ws,h,_ => h
 | p :: ps,ws,h,k => by
   show ∀ x ∈ zod (if p.fl then ws.set p.at_.toNat p.val else ws) ps,zbd x = true
   refine ztt ps _ ?_ (fun q hq => k q (List.mem_cons_of_mem _ hq))
   split
   ·intro x hx
    rcases List.mem_or_eq_of_mem_set hx with hx | rfl
    ·exact h x hx
    ·exact k p (List.mem_cons_self)
   ·exact h
theorem ztv:∀ (ps:List Se) (ws:List Int),(∀ x ∈ ws,zbd x = true) → (∀ p ∈ ps,zbd p.val = true) → ∀ x ∈ zxs ws ps,zbd x = true
 | [],ws,h,_ => h
 | p :: ps,ws,h,k => by
   show ∀ x ∈ zxs (ws.set p.at_.toNat p.val) ps,zbd x = true
   refine ztv ps _ ?_ (fun q hq => k q (List.mem_cons_of_mem _ hq))
   intro x hx
   rcases List.mem_or_eq_of_mem_set hx with hx | rfl
   ·exact h x hx
   ·exact k p (List.mem_cons_self)
theorem yawu {m:Mi} {ws:List Int} {ps:List St} {es:List Int} {qs:List Se} (h:pmB ws ps = true) (hb:zgk es qs = true) (hm:miB m = true) (hf:zpm m ps qs = false):pmB (doW m ws ps) (doP m ps) = true ∧ zgk (doE m es qs) (doQ m qs) = true:=by
 obtain ⟨k,a,x⟩:=m
 obtain ⟨p1,p2,p3,p4⟩:=zjb.1 h
 obtain ⟨b1,b2,b3,b4⟩:=zmg.1 hb
 have hk:=(zlp k a x).1 hm
 have hf':¬ ((k = 1 ∧ ps.length = 400) ∨ (k = 4 ∧ qs.length = 400)):=of_decide_eq_false hf
 rcases (show (k = 1 ∧ (0 ≤ a ∧ a < 336) ∧ 0 ≤ x ∧ x < 1099511627776) ∨ k = 2 ∨ k = 3 ∨ (k = 4 ∧ (0 ≤ a ∧ a < 32) ∧ 0 ≤ x ∧ x < 1099511627776) ∨ k = 5 by omega) with ⟨rfl,ha,hx⟩ | rfl | rfl | ⟨rfl,ha,hx⟩ | rfl
 ·refine ⟨zjb.2 ⟨p1,?_,p3,?_⟩,hb⟩
  ·show (ps ++ [(⟨a,x,false⟩:St)]).length ≤ 400
   simp
   omega
  ·intro p hp
   rcases List.mem_append.1 (show p ∈ ps ++ [⟨a,x,false⟩] from hp) with hp | hp
   ·exact p4 p hp
   ·rw [List.mem_singleton.1 hp]; exact ⟨decide_eq_true ha,decide_eq_true hx⟩
 ·refine ⟨zjb.2 ⟨p1,?_,p3,?_⟩,hb⟩
  ·show (ps.map (fl1 a)).length ≤ 400
   simpa using p2
  ·intro p hp
   obtain ⟨q,hq,rfl⟩:=List.mem_map.1 (show p ∈ ps.map (fl1 a) from hp)
   have:=p4 q hq
   unfold fl1
   split <;> exact this
 ·refine ⟨zjb.2 ⟨?_,?_,?_,?_⟩,hb⟩
  ·show (zod ws ps).length = 336
   rw [zmz]; exact p1
  ·exact Nat.le_trans (List.length_filter_le _ _) p2
  ·exact ztt ps ws p3 (fun p hp => (p4 p hp).2)
  ·intro p hp
   exact p4 p (List.mem_filter.1 (show p ∈ ps.filter (fun p => !p.fl) from hp)).1
 ·refine ⟨h,zmg.2 ⟨b1,?_,b3,?_⟩⟩
  ·show (qs ++ [(⟨a,x⟩:Se)]).length ≤ 400
   simp
   omega
  ·intro p hp
   rcases List.mem_append.1 (show p ∈ qs ++ [⟨a,x⟩] from hp) with hp | hp
   ·exact b4 p hp
   ·rw [List.mem_singleton.1 hp]; exact ⟨decide_eq_true ha,decide_eq_true hx⟩
 ·refine ⟨h,zmg.2 ⟨?_,Nat.zero_le _,?_,fun p hp => by cases hp⟩⟩
  ·show (zxs es qs).length = 32
   rw [zmi]; exact b1
  ·exact ztv qs es b3 (fun p hp => (b4 p hp).2)
theorem yasm:∀ (l:List Mi) (ws:List Int) (ps:List St) (es:List Int) (qs:List Se),pmB ws ps = true → zgk es qs = true → (∀ m ∈ l,miB m = true) → pmB (mr l ws ps es qs).W (mr l ws ps es qs).P = true ∧ zgk (mr l ws ps es qs).E (mr l ws ps es qs).Q = true
 | [],ws,ps,es,qs,h,hb,_ => ⟨h,hb⟩
 | m :: l,ws,ps,es,qs,h,hb,hm => by
   by_cases c:zpm m ps qs = true
   ·simp only [mr,if_pos c]; exact ⟨h,hb⟩
   ·simp only [mr,if_neg c]
    obtain ⟨h1,h2⟩:=yawu h hb (hm m List.mem_cons_self) (by simpa using c)
    exact yasm l _ _ _ _ h1 h2 (fun q hq => hm q (List.mem_cons_of_mem _ hq))
theorem yarq {l:List Mi} {i:Nat} (hi:i < l.length) {ws:List Int} {ps:List St} {es:List Int} {qs:List Se} {W:List Int} {P:List St} {E:List Int} {Q:List Se} (h:mr (l.take i) ws ps es qs = ⟨0,W,P,E,Q⟩) (hf:zpm l[i] P Q = false) :
  mr (l.take (i + 1)) ws ps es qs = ⟨0,doW l[i] W P,doP l[i] P,doE l[i] E Q,doQ l[i] Q⟩:=by
 rw [List.take_succ_eq_append_getElem hi,zor,h]
 simp only [if_true,yavh]
 rw [if_neg (by rw [hf]; simp)]
theorem yasy {l:List Mi} {i:Nat} (hi:i < l.length) {ws:List Int} {ps:List St} {es:List Int} {qs:List Se} {W:List Int} {P:List St} {E:List Int} {Q:List Se} (h:mr (l.take i) ws ps es qs = ⟨0,W,P,E,Q⟩) (hf:zpm l[i] P Q = true) :
  mr l ws ps es qs = ⟨7,W,P,E,Q⟩:=by
 have e:l = l.take i ++ l[i] :: l.drop (i + 1):=by rw [List.getElem_cons_drop]; exact (List.take_append_drop i l).symm
 rw [e,zor,h]
 simp only [if_true,mr]
 rw [if_pos hf]
theorem yatk {l:List Mi} {i:Nat} (hi:l.length ≤ i) {ws:List Int} {ps:List St} {es:List Int} {qs:List Se} {W:List Int} {P:List St} {E:List Int} {Q:List Se} (h:mr (l.take i) ws ps es qs = ⟨0,W,P,E,Q⟩):mr l ws ps es qs = ⟨0,W,P,E,Q⟩:=by
 rw [List.take_of_length_le hi] at h
 exact h
def yawx (l:List Mi):Bool:=decide (∀ k (h:k < l.length),miB l[k] = true)
def ms (l:List Mi) (ws:List Int) (ps:List St) (es:List Int) (qs:List Se):MR:=if 4096 < l.length then ⟨2,[],[],[],[]⟩ else if (pmB ws ps && zgk es qs && yawx l) = true then mr l ws ps es qs else ⟨1,[],[],[],[]⟩
def StOK (m:Mi):Prop:=miB m = true ∧ (m.kind = 1 ∨ m.kind = 2 ∨ m.kind = 3)
theorem yaij (ks:List Int):∀ i,i ≤ ks.length → ∀ m ∈ nl ks i,∃ k,k < ks.length ∧ m.at_ = ks[k]?.getD 0
 | 0,_,m,h => by cases h
 | i + 1,hi,m,h => by
  rw [nl] at h
  split at h
  ·exact yaij ks i (by omega) m h
  ·rcases List.mem_append.1 h with h | h
   ·exact yaij ks i (by omega) m h
   ·rw [List.mem_singleton.1 h]; exact ⟨i,by omega,rfl⟩
theorem zwh {S:List St} (h:∀ p ∈ S,(0 ≤ p.at_ ∧ p.at_ < 336) ∧ 0 ≤ p.val ∧ p.val < 1099511627776):∀ m ∈ seg S,StOK m:=by
 intro m hm
 unfold seg zbl at hm
 rcases List.mem_append.1 hm with hm | hm
 ·obtain ⟨p,hp,rfl⟩:=List.mem_map.1 hm
  have:=h p hp
  exact ⟨(zlp 1 p.at_ p.val).2 (.inl ⟨rfl,this⟩),.inl rfl⟩
 ·rcases List.mem_append.1 hm with hm | hm
  ·have e:=ztl _ _ m hm
   obtain ⟨k,hk,ek⟩:=yaij _ _ (Nat.le_refl _) m hm
   have:∃ p ∈ S,m.at_ = p.at_:=by
    rw [List.length_map] at hk
    exact ⟨S[k],List.getElem_mem hk,by rw [ek,List.getElem?_map,List.getElem?_eq_getElem hk]; rfl⟩
   obtain ⟨p,hp,ep⟩:=this
   rw [e]
   have:=h p hp
   exact ⟨(zlp 2 m.at_ 0).2 (.inr (.inl ⟨rfl,by rw [ep]; exact this.1,rfl⟩)),.inr (.inl rfl)⟩
  ·rw [List.mem_singleton.1 hm]
   exact ⟨(zlp 3 0 0).2 (.inr (.inr (.inr ⟨.inl rfl,rfl,rfl⟩))),.inr (.inr rfl)⟩
theorem yaju:∀ (us:List St) (i:Nat),(∀ p ∈ us,(48 ≤ p.at_ ∧ p.at_ < 336) ∧ 0 ≤ p.val ∧ p.val < 1099511627776) → ∀ p ∈ jrn i us,0 ≤ p.val ∧ p.val < 1099511627776
 | [],_,_,p,h => by cases h
 | u :: us,i,hu,p,h => by
  rw [jrn] at h
  have h0:=hu u List.mem_cons_self
  rcases List.mem_cons.1 h with rfl | h
  ·exact ⟨by show 0 ≤ u.at_; omega,by show u.at_ < _; omega⟩
  ·rcases List.mem_cons.1 h with rfl | h
   ·exact ⟨by show 0 ≤ u.val; omega,by show u.val < _; omega⟩
   ·exact yaju us (i + 1) (fun q hq => hu q (List.mem_cons_of_mem _ hq)) p h
theorem yaqg (n:Int) (h:0 ≤ n ∧ n < 1099511627776):∀ p ∈ cnt n,(0 ≤ p.at_ ∧ p.at_ < 336) ∧ 0 ≤ p.val ∧ p.val < 1099511627776:=by
 intro p hp
 rw [List.mem_singleton.1 hp]
 exact ⟨⟨by show (0:Int) ≤ 8; omega,by show (8:Int) < 336; omega⟩,h⟩
def zjp (hs:List Int):Bool:=decide (hs.length = 128 ∧ ∀ k (h:k < hs.length),0 ≤ hs[k] ∧ hs[k] ≤ 64)
def ztn (n:Nat):List Int:=List.replicate n 1
theorem yaje (n:Nat):ztn (n + 1) = ztn n ++ [1]:=by unfold ztn; rw [List.replicate_succ',]
theorem zrz (n:Nat):(ztn n).length = n:=by simp [ztn]
set_option maxRecDepth 100000 in
set_option maxHeartbeats 4000000 in
theorem yadv (w:World):Calls Tryz.prog 95 #[] w fun e w' => ∃ v',e = .returned v' ∧ Row w' 3 1 w.heap.size w'.heap.size v' (ztn 128).length (zdh (ztn 128)) ∧ Below w.heap.size w w':=by
 have START:Hid (InI w (w.alloc (.cells #[] 3)) (.slice (some ⟨w.heap.size,0,none⟩) 0 0) (ztn 0)):=⟨World.ownsRow_lit w #[] 0 (Nat.le_refl _) (by simp [maxLen]) (by simp),(Below.refl _ _).alloc (Nat.le_refl _) _⟩
 go_enter Tryz.func95,Tryz.ntmps95
 go_wp2
 go_loopw [1,2] (fun vL i wr => ∃ m:Nat,m ≤ 128 ∧ i = .int .i64 (m:Int) ∧ Hid (InI w wr vL (ztn m))) (fun _ i _ => 128 - (intOf i).toNat)
 case atStart => exact ⟨0,by omega,rfl,START⟩
 case round =>
  obtain ⟨m,hm,rfl,J⟩:=hrel
  clear START
  have m0:(0:Int) ≤ (m:Int):=by omega
  by_cases hlt:m < 128
  ·have m1:(m:Int) < 128:=by omega
   have EM:=zaa (yaje m)
   have l2:(ztn m).length ≤ 128:=by rw [zrz]; omega
   have JB:Hid (InI w (wr.alloc (.cells #[.int .i64 1] 3)) u1 (ztn m)):=J.out.below ((Below.refl _ _).alloc (Nat.le_refl _) _)
   have RB:=zaa (yafd wr 1)
   have hzb:=JB.out.z
   clear J
   go_wp2_with (at_builtin; refine zae _ rfl (.tmp 8) (.tmp 9) 23 rfl w.heap.size 3 (.int .i64 0) 1 8 Tryz.underlying23 zld rfl (by decide) _ _ _ rfl JB.out.l _ 1 _ rfl RB.out (zzf _) (by first | omega | (simp [maxLen]; omega)) (by first | omega | (simp; omega)) hzb ?_)
   intro vN wN hownN hgrN
   have G:=zaa (JB.out.grow 1 hownN hgrN)
   rw [← EM.out] at G
   clear hownN hgrN JB RB
   go_wp2
   go_roundw
   case rel => exact ⟨m + 1,by omega,by go_num,G⟩
   case measure => simp [intOf]; omega
  ·obtain rfl:m = 128:=by omega
   obtain ⟨-,aN,cN,hvN,-⟩:=(zad J.out.l).rd
   subst hvN
   go_wp2
   go_ret
   exact ⟨_,rfl,zad J.out.l,J.out.b⟩
def pgE (ns:List Ino) (i:Nat):Int:=(zan ns (i / 8)).map.getD (i % 8) 0
def pkS (ns:List Ino) (hs:List Int) (t:Int) (hot:Bool) (b:Int) (i:Nat):Int:=if pgE ns i = 0 ∨ ¬ pgE ns i % 4 = t then b else if b < 0 ∨ (hot = true ∧ hs.getD b.toNat 0 < hs.getD i 0) ∨ (hot = false ∧ hs.getD i 0 < hs.getD b.toNat 0) then (i:Int) else b
def pkN (ns:List Ino) (hs:List Int) (t:Int) (hot:Bool):Nat → Int
 | 0 => -1
 | n + 1 => pkS ns hs t hot (pkN ns hs t hot n) n
theorem zun (ns:List Ino) (hs:List Int) (t:Int) (hot:Bool) (n:Nat):-1 ≤ pkN ns hs t hot n ∧ pkN ns hs t hot n < (n:Int):=by
 induction n with
 | zero => exact ⟨Int.le_refl (-1),show (-1:Int) < 0 by decide⟩
 | succ n ih =>
  have e:pkN ns hs t hot (n + 1) = pkS ns hs t hot (pkN ns hs t hot n) n:=rfl
  rw [e]
  unfold pkS
  split
  ·omega
  ·split <;> omega
theorem yagy {ns:List Ino} {ds:List Den} (h:zcb ns ds = true) {k:Nat} (hk:k < 16) (j:Nat):zet ((zan ns k).map.getD j 0) = true:=by
 have t:=(zfn ((zbz.1 h).ok k hk)).1
 rw [List.getD_eq_getElem?_getD]
 rcases Nat.lt_or_ge j (zan ns k).map.length with q | q
 ·rw [List.getElem?_eq_getElem q]
  exact t _ (List.getElem_mem q)
 ·rw [List.getElem?_eq_none q]
  exact zwg
def swL (i p e:Int):List Mi:=⟨1,48 + 12 * i + (3 + p),e⟩ :: zbl [48 + 12 * i + (3 + p)]
def deS (ns:List Ino) (x:Int):List Mi:=[⟨4,fsI ns,x⟩,⟨5,0,0⟩]
def prS (ns:List Ino) (x:Int):List Mi:=⟨1,312 + fpI ns,x⟩ :: zbl [312 + fpI ns]
def deF (ns:List Ino) (e x i p:Int):List Mi × Int:=if e = 0 ∨ ¬ e % 4 = 1 then ([],5) else if fsI ns < 0 then ([],7) else (deS ns x ++ swL i p (4 * fsI ns + 2),0)
def prF (ns:List Ino) (e x i p:Int):List Mi × Int:=if e = 0 ∨ ¬ e % 4 = 2 then ([],5) else if fpI ns < 0 then ([],7) else (prS ns x ++ swL i p (4 * fpI ns + 1),0)
def enI (ns:List Ino) (i p:Int):Int:=(zan ns i.toNat).map.getD p.toNat 0
theorem zxe (i p e:Int):(swL i p e).length ≤ 3:=by
 have:=zbv [48 + 12 * i + (3 + p)]
 unfold swL
 simp only [List.length_cons,List.length_nil] at this ⊢
 omega
set_option maxRecDepth 100000 in
set_option maxHeartbeats 8000000 in
theorem zlo (i p e:Int) (w:World) (hi:0 ≤ i ∧ i < 16) (hp:0 ≤ p ∧ p < 8) :
  Calls Tryz.prog 145 #[.int .i64 i,.int .i64 p,.int .i64 e] w fun r w' => ∃ v',r = .returned v' ∧ Row w' 192 3 w.heap.size w'.heap.size v' (swL i p e).length (mis (swL i p e)) ∧ Below w.heap.size w w':=by
 have wp:IntKind.i64.wrap (3 + p) = 3 + p:=by rw [IntKind.wrap_i64]; omega
 have EX:=zaa (show swL i p e = [⟨1,48 + 12 * i + (3 + p),e⟩] ++ zbl [48 + 12 * i + (3 + p)] from rfl)
 rw [EX.out]
 have pr:0 ≤ 3 + p ∧ 3 + p < 11:=by omega
 have ar:0 ≤ 48 + 12 * i + (3 + p) ∧ 48 + 12 * i + (3 + p) < 336:=by omega
 have LN:=zaa (fun w1 => zbc i (3 + p) w1 hi pr)
 have l7:(zbl [48 + 12 * i + (3 + p)]).length ≤ 2:=zbv [48 + 12 * i + (3 + p)]
 clear EX
 generalize 48 + 12 * i + (3 + p) = a at *
 have LF:=zaa (fun v w1 h => zcy v [a] w1 h (by simp) (by intro j h; simp at h; subst h; simpa using ar))
 generalize zbl [a] = FL at *
 go_enter Tryz.func145,Tryz.ntmps145
 go_wp2_with fail
 refine (LN.out _).mono ?_
 rintro e w' ⟨rfl,hw'⟩
 subst w'
 go_wp2_with fail
 refine (zcz _ _ _).mono ?_
 rintro r w4 ⟨rfl,hb4⟩
 have M4:Hid (MiI w (w4.alloc (.cells #[.int .i64 1,.int .i64 a,.int .i64 e] 192)) (.slice (some ⟨w4.heap.size,0,none⟩) 1 1) [⟨1,a,e⟩]):=⟨World.ownsRow_lit w4 _ 1 hb4.size (by simp [maxLen]) rfl,hb4.alloc hb4.size _⟩
 have M6:=zaa (M4.out.below ((Below.refl _ _).alloc (Nat.le_refl _) (.cells #[.int .i64 a] 3)))
 have R6:=zaa (zky (w4.alloc (.cells #[.int .i64 1,.int .i64 a,.int .i64 e] 192)) a)
 simp only [World.size_alloc] at R6
 clear hb4 M4
 go_wp2_with fail
 refine (LF.out _ _ R6.out).mono ?_
 rintro r w7 ⟨v7,rfl,hr7,hb7⟩
 have M7:=zaa (M6.out.below hb7)
 have R7:=zaa hr7.rd
 have hz7:=M7.out.z
 clear hr7 hb7 M6 R6
 go_wp2_with (at_builtin; refine zae _ rfl (.tmp 15) (.tmp 18) 32 rfl w.heap.size 192 (.agg #[.int .i64 0,.int .i64 0,.int .i64 0]) 3 24 Tryz.underlying32 zbx rfl (by decide) _ _ _ rfl M7.out.l _ _ _ rfl R7.out (zcw _) (by first | omega | (simp [maxLen]; done) | (simp [maxLen]; omega)) (by first | omega | (simp; done) | (simp; omega)) hz7 ?_)
 intro vT wT hownT hgrT
 have M:=zaa (M7.out.grow FL hownT hgrT)
 obtain ⟨-,aT,cT,hvT,-⟩:=(zad hownT).rd
 subst hvT
 clear hownT hgrT M7 R7
 go_wp2
 go_ret
 exact ⟨_,rfl,zad M.out.l,M.out.b⟩
end Go.Proofs.YtkdjfhkalelafaaGreatDoor
