/- Devices copied, and one step done: by the program. -/
import Derived.Test.YtahiphgmhndgaaaGreatDoorZBI
import Derived.Test.YtahiphgmhndgaaaGreatDoorZAH
import Derived.Test.YtahiphgmhndgaaaGreatDoorZBH
import Derived.Test.YtahiphgmhndgaaaGreatDoorZAF
import Derived.Test.YtahiphgmhndgaaaGreatDoorZAV
import Derived.Test.YtahiphgmhndgaaaGreatDoorZAW
import Derived.Test.YtahiphgmhndgaaaGreatDoorZBJ
set_option maxRecDepth 100000
set_option maxHeartbeats 8000000
namespace Go.Proofs.YtahiphgmhndgaaaGreatDoor
open Go.RowKit
theorem RowBlk3.z {w:World} {lo hi:Nat} {v:Value} {ws:List Int} {ps:List Se} (h:RowBlk3 w lo hi v ws ps):RowBlk w lo hi v ws ps:=by
 obtain ⟨vW,vP,e,h1,h2⟩:=h;exact ⟨vW,vP,e,h1.z,h2⟩
theorem zla (w:World) (bD bR i j:Nat) (h:bD≤bR) (x y a b c d:Value):Outside bD (bR+1) w (putD w bD bR i j x y a b c d):=by
 unfold putD
 repeat (refine Outside.setCell ?_ (by simp only;omega) (by simp only;omega) _)
 exact Outside.refl _ _ _
def RowDevB (w:World) (b lo hi:Nat) (v:Value) (ws:List Int) (ps:List St) (es:List Int) (qs:List Se):Prop :=
 ∃ vW vP vS vQ l1 h1 l2 h2,v=.agg #[vW,vP,vS,vQ]∧RowPm w l1 h1 (.agg #[vW,vP]) ws ps∧RowBlk w l2 h2 (.agg #[vS,vQ]) es qs∧(lo≤l1∧h1≤hi∧lo≤l2∧h2≤hi∧(h1≤l2∨h2≤l1))∧(h1≤b∨b < l1)∧(h2≤b∨b < l2)
theorem RowDevB.row {w:World} {b lo hi:Nat} {v:Value} {ws:List Int} {ps:List St} {es:List Int} {qs:List Se} (h:RowDevB w b lo hi v ws ps es qs):RowDev w lo hi v ws ps es qs:=by
 obtain ⟨vW,vP,vS,vQ,l1,h1,l2,h2,e,r1,r2,c,_⟩:=h;exact ⟨vW,vP,vS,vQ,l1,h1,l2,h2,e,r1,r2,c⟩
theorem RowDev.b {w:World} {lo hi:Nat} {v:Value} {ws:List Int} {ps:List St} {es:List Int} {qs:List Se} (h:RowDev w lo hi v ws ps es qs) (b:Nat) (hb:b < lo∨hi≤b):RowDevB w b lo hi v ws ps es qs:=by
 obtain ⟨vW,vP,vS,vQ,l1,h1,l2,h2,e,r1,r2,c⟩:=h;exact ⟨vW,vP,vS,vQ,l1,h1,l2,h2,e,r1,r2,c,by omega,by omega⟩
theorem RowDevB.below {w w':World} {b lo hi:Nat} {v:Value} {ws:List Int} {ps:List St} {es:List Int} {qs:List Se} (h:RowDevB w b lo hi v ws ps es qs) {B:Nat} (hb:Below B w w') (hB:hi≤B):RowDevB w' b lo hi v ws ps es qs:=by
 obtain ⟨vW,vP,vS,vQ,l1,h1,l2,h2,e,r1,r2,c,d⟩:=h;exact ⟨vW,vP,vS,vQ,l1,h1,l2,h2,e,r1.below hb (by omega),r2.below hb (by omega),c,d⟩
theorem RowDevB.wide {w:World} {b lo hi:Nat} {v:Value} {ws:List Int} {ps:List St} {es:List Int} {qs:List Se} (h:RowDevB w b lo hi v ws ps es qs) {lo' hi':Nat} (a:lo'≤lo) (a':hi≤hi'):RowDevB w b lo' hi' v ws ps es qs:=by
 obtain ⟨vW,vP,vS,vQ,l1,h1,l2,h2,e,r1,r2,c,d⟩:=h;exact ⟨vW,vP,vS,vQ,l1,h1,l2,h2,e,r1,r2,by omega,d⟩
theorem RowDevB.put {w w':World} {b lo hi:Nat} {v:Value} {ws:List Int} {ps:List St} {es:List Int} {qs:List Se} (h:RowDevB w b lo hi v ws ps es qs) (ho:Outside b (b+1) w w') (hz:hi≤w.heap.size):RowDevB w' b lo hi v ws ps es qs:=by
 obtain ⟨vW,vP,vS,vQ,l1,h1,l2,h2,e,r1,r2,c,d⟩:=h;exact ⟨vW,vP,vS,vQ,l1,h1,l2,h2,e,r1.outside ho (by omega) (by omega),r2.outside ho (by omega) (by omega),c,d⟩
def barL (_:List Int) (_:List Se):List Se:=[]
theorem znr (v:Value) (ws:List Int) (ps:List Se) (w:World) (h:RdBlk w v ws ps) (hw:ws.length≤1048576) (hp:ps.length≤1048576) :
  Calls Tryz.prog 150 #[v] w fun e w'=>∃ v',e=.returned (.tuple #[v',.int .i64 (barC ws ps)])∧RowBlk w' w.heap.size w'.heap.size v' (ziu ws ps) (barL ws ps)∧Below w.heap.size w w':=zkq v ws ps w h hw hp
theorem yaiv (v:Value) (ws:List Int) (ps:List Se) (w:World) (h:RdBlk w v ws ps) (hw:ws.length≤2147483648) (hp:ps.length≤2147483648) :
  Calls Tryz.prog 145 #[v] w fun e w'=>∃ v',e=.returned v'∧RowBlk w' w.heap.size w'.heap.size v' ws ps∧Below w.heap.size w w':=by
 refine (zjl v ws ps w h hw hp).mono ?_;rintro e w' ⟨v',rfl,hr,hb⟩;exact ⟨v',rfl,hr.z,hb⟩
theorem zpx (v:Value) (ws:List Int) (ps:List St) (es:List Int) (qs:List Se) (w:World) (h:RdDev w v ws ps es qs) (hw:ws.length≤1048576) (hp:ps.length≤1048576) (he:es.length≤1048576) (hq:qs.length≤1048576) :
  Calls Tryz.prog 100 #[v] w fun e w'=>∃ v',e=.returned v'∧RowDev w' w.heap.size w'.heap.size v' ws ps es qs∧Below w.heap.size w w':=by
 obtain ⟨aW,cW,aP,cP,aS,cS,aQ,cQ,rfl,r1,r2⟩:=h.form;have R1:=zaa r1;have R2:=zaa r2;clear h r1 r2
 have hb0:Below w.heap.size w ((w.alloc (.cells #[.slice aW ws.length cW,.slice aP ps.length cP,.slice aS es.length cS,.slice aQ qs.length cQ] 45)).alloc (.cells #[.slice none 0 0,.slice none 0 0,.slice none 0 0,.slice none 0 0] 45)):=by
  repeat (refine Below.alloc ?_ (by simp <;> omega) _)
  exact Below.refl _ _
 go_enter Tryz.func100,Tryz.ntmps100;go_upto_region 1 with fail
 obtain ⟨w0,hw0⟩:∃ w0:World,w0=(w.alloc (.cells #[.slice aW ws.length cW,.slice aP ps.length cP,.slice aS es.length cS,.slice aQ qs.length cQ] 45)).alloc (.cells #[.slice none 0 0,.slice none 0 0,.slice none 0 0,.slice none 0 0] 45):=⟨_,rfl⟩
 rw[← hw0];rw[← hw0] at hb0
 have hz0:w.heap.size+2≤w0.heap.size:=by rw[hw0];simp
 have V0:Hid (w0.heap[w.heap.size]?=some (.cells #[.slice aW ws.length cW,.slice aP ps.length cP,.slice aS es.length cS,.slice aQ qs.length cQ] 45 (0,0))):=by rw[hw0];exact zal (zag rfl)
 have V1:Hid (w0.heap[w.heap.size+1]?=some (.cells #[.slice none 0 0,.slice none 0 0,.slice none 0 0,.slice none 0 0] 45 (0,0))):=by rw[hw0];exact zag (by simp)
 clear hw0;have B0:=zaa hb0;clear hb0;obtain ⟨x0,x1,x2,x3,-,-,-,-⟩:=zaf V0.o;obtain ⟨y0,y1,y2,y3,y4,y5,y6,y7⟩:=zaf V1.o
 go_region_with (first
  | (go_at_call 144;refine (zik _ ws ps _ (R1.o.below (by first | exact B0.o | exact B0.o.drew)) (by omega) (by omega)).mono ?_;rintro e w1 ⟨v1,rfl,hr1,hb1⟩;obtain ⟨aW1,cW1,aP1,cP1,rfl⟩:=hr1.form;have hz1:w0.heap.size≤w1.heap.size:=hb1.size;have B1:Hid (Below w0.heap.size w0 w1):=(by first | exact hb1 | exact zab ((Below.refl _ _).drew) hb1 (Nat.le_refl _));have Q1:Hid (RowPm w1 w0.heap.size w1.heap.size (.agg #[.slice aW1 ws.length cW1,.slice aP1 ps.length cP1]) ws ps):=hr1;obtain ⟨z0,z1,z2,z3,-,-,-,-⟩:=zaf ((B1.o.block w.heap.size (by omega)).trans V0.o);clear hr1 hb1)
  | (go_at_call 145;refine (yaiv _ es qs _ (R2.o.below (by first | exact zab B0.o B1.o (by omega) | exact (zab B0.o B1.o (by omega)).drew)) (by omega) (by omega)).mono ?_;rintro e w2 ⟨v2,rfl,hr2,hb2⟩;obtain ⟨aS2,cS2,aQ2,cQ2,rfl⟩:=hr2.form;have hz2:w1.heap.size≤w2.heap.size:=hb2.size;have B2:Hid (Below w1.heap.size w1 w2):=(by first | exact hb2 | exact zab ((Below.refl _ _).drew) hb2 (Nat.le_refl _));have Q2:Hid (RowBlk w2 w1.heap.size w2.heap.size (.agg #[.slice aS2 es.length cS2,.slice aQ2 qs.length cQ2]) es qs):=hr2;have VR:=zaa ((B2.o.block (w.heap.size+1) (by omega)).trans ((B1.o.block (w.heap.size+1) (by omega)).trans V1.o));obtain ⟨t0,t1,t2,t3,t4,t5,t6,t7⟩:=zaf VR.o;clear hr2 hb2))
 all_goals
  go_wp2;refine bodyPost_ret (v:=.agg #[.slice aW1 ws.length cW1,.slice aP1 ps.length cP1,.slice aS2 es.length cS2,.slice aQ2 qs.length cQ2]) (by simp[results,Tryz.results100,go_sem,t0,t1,t2,t3]) rfl ?_;have O:=zbb w2 (w.heap.size+1) (.slice aW1 ws.length cW1) (.slice aP1 ps.length cP1) (.slice aS2 es.length cS2) (.slice aQ2 qs.length cQ2);have Z:=zax w2 (w.heap.size+1) (.slice aW1 ws.length cW1) (.slice aP1 ps.length cP1) (.slice aS2 es.length cS2) (.slice aQ2 qs.length cQ2);refine ⟨_,rfl,⟨_,_,_,_,w0.heap.size,w1.heap.size,w1.heap.size,w2.heap.size,rfl,?_,?_,by omega,Nat.le_trans hz2 (Nat.le_of_eq Z.symm),by omega,Nat.le_of_eq Z.symm,.inl (Nat.le_refl _)⟩,?_⟩
  ·exact (Q1.o.below B2.o (Nat.le_refl _)).outside O (by omega) (by omega)
  ·exact Q2.o.outside O (by omega) (Nat.le_refl _)
  ·exact (zab (zab B0.o B1.o (by omega)) B2.o (by omega)).trans (O.below (by omega) (by omega))
theorem yamz {a x:Int} {ws:List Int} {ps:List St} {es:List Int} {qs:List Se} (hp:pmB ws ps=true) (hb:zbp es qs=true) (ha:0≤a∧a < 336) (hx:0≤x∧x < 1099511627776) :
  mdC ⟨1,a,x⟩ ws ps es qs=zdv ws ps a x∧mdW ⟨1,a,x⟩ ws ps es qs=zcy ws ps a x∧mdP ⟨1,a,x⟩ ws ps es qs=zdb ws ps a x∧mdE ⟨1,a,x⟩ ws ps es qs=es∧mdQ ⟨1,a,x⟩ ws ps es qs=qs:=by
 have hm:miB ⟨1,a,x⟩=true:=zjf (by omega);have h0:=zui hp (show zbk a=true from decide_eq_true ha);have h1:zao x=true:=decide_eq_true hx
 rcases zkc ⟨1,a,x⟩ ws ps es qs with ⟨c,_⟩ | ⟨_,c,_⟩ | ⟨_,_,f,c0,c1,c2,c3,c4⟩ | ⟨_,_,f,c0,c1,c2,c3,c4⟩
 ·rw[hp,hb] at c;cases c
 ·rw[hm] at c;cases c
 ·have hl:ps.length=400:=by have:=of_decide_eq_true f;simp at this;exact this
  rcases zjv ws ps a x with ⟨q,_⟩ | ⟨_,q,_⟩ | ⟨_,_,_,d0,d1,d2⟩ | ⟨_,_,q,_⟩
  ·omega
  ·rw[h1] at q;cases q
  ·exact ⟨c0.trans d0.symm,c1.trans d1.symm,c2.trans d2.symm,c3,c4⟩
  ·exact absurd hl q
 ·have hl:¬ ps.length=400:=by have:=of_decide_eq_false f;simp at this;exact this
  rcases zjv ws ps a x with ⟨q,_⟩ | ⟨_,q,_⟩ | ⟨_,_,q,_⟩ | ⟨_,_,_,d0,d1,d2⟩
  ·omega
  ·rw[h1] at q;cases q
  ·exact absurd q hl
  ·exact ⟨c0.trans d0.symm,c1.trans d1.symm,c2.trans d2.symm,c3,c4⟩
theorem yapu {a x:Int} {ws:List Int} {ps:List St} {es:List Int} {qs:List Se} (hp:pmB ws ps=true) (hb:zbp es qs=true) (ha:0≤a∧a < 32) (hx:0≤x∧x < 1099511627776) :
  mdC ⟨4,a,x⟩ ws ps es qs=zdx es qs a x∧mdW ⟨4,a,x⟩ ws ps es qs=ws∧mdP ⟨4,a,x⟩ ws ps es qs=ps∧mdE ⟨4,a,x⟩ ws ps es qs=zcz es qs a x∧mdQ ⟨4,a,x⟩ ws ps es qs=zdc es qs a x:=by
 have hm:miB ⟨4,a,x⟩=true:=zjf (by omega);have h0:=yacb hb (show zlg a=true from decide_eq_true ha);have h1:zao x=true:=decide_eq_true hx
 rcases zkc ⟨4,a,x⟩ ws ps es qs with ⟨c,_⟩ | ⟨_,c,_⟩ | ⟨_,_,f,c0,c1,c2,c3,c4⟩ | ⟨_,_,f,c0,c1,c2,c3,c4⟩
 ·rw[hp,hb] at c;cases c
 ·rw[hm] at c;cases c
 ·have hl:qs.length=400:=by have:=of_decide_eq_true f;simp at this;exact this
  rcases zjh es qs a x with ⟨q,_⟩ | ⟨_,q,_⟩ | ⟨_,_,_,d0,d1,d2⟩ | ⟨_,_,q,_⟩
  ·omega
  ·rw[h1] at q;cases q
  ·exact ⟨c0.trans d0.symm,c1,c2,c3.trans d1.symm,c4.trans d2.symm⟩
  ·exact absurd hl q
 ·have hl:¬ qs.length=400:=by have:=of_decide_eq_false f;simp at this;exact this
  rcases zjh es qs a x with ⟨q,_⟩ | ⟨_,q,_⟩ | ⟨_,_,q,_⟩ | ⟨_,_,_,d0,d1,d2⟩
  ·omega
  ·rw[h1] at q;cases q
  ·exact absurd q hl
  ·exact ⟨c0.trans d0.symm,c1,c2,c3.trans d1.symm,c4.trans d2.symm⟩
theorem ztn {k a x:Int} {ws:List Int} {ps:List St} {es:List Int} {qs:List Se} (hp:pmB ws ps=true) (hb:zbp es qs=true) (hm:miB ⟨k,a,x⟩=true) (h1:¬ k=1) (h4:¬ k=4) :
  mdC ⟨k,a,x⟩ ws ps es qs=0∧mdW ⟨k,a,x⟩ ws ps es qs=doW ⟨k,a,x⟩ ws ps∧mdP ⟨k,a,x⟩ ws ps es qs=doP ⟨k,a,x⟩ ps∧mdE ⟨k,a,x⟩ ws ps es qs=doE ⟨k,a,x⟩ es qs∧mdQ ⟨k,a,x⟩ ws ps es qs=doQ ⟨k,a,x⟩ qs:=by
 have hf:zgl ⟨k,a,x⟩ ps qs=false:=decide_eq_false (fun h=>by simp at h;omega)
 rcases zkc ⟨k,a,x⟩ ws ps es qs with ⟨c,_⟩ | ⟨_,c,_⟩ | ⟨_,_,f,_⟩ | ⟨_,_,_,c⟩
 ·rw[hp,hb] at c;cases c
 ·rw[hm] at c;cases c
 ·rw[hf] at f;cases f
 ·exact c
theorem yamo {a:Int} {ws:List Int} {ps:List St} {es:List Int} {qs:List Se} (hp:pmB ws ps=true) (hb:zbp es qs=true) (ha:0≤a∧a < 336) :
  mdC ⟨2,a,0⟩ ws ps es qs=zjw ws ps a∧mdW ⟨2,a,0⟩ ws ps es qs=zdl ws ps a∧mdP ⟨2,a,0⟩ ws ps es qs=zdn ws ps a∧mdE ⟨2,a,0⟩ ws ps es qs=es∧mdQ ⟨2,a,0⟩ ws ps es qs=qs:=by
 have h0:=zui hp (show zbk a=true from decide_eq_true ha);obtain ⟨c0,c1,c2,c3,c4⟩:=ztn (x:=0) hp hb (zjf (k:=2) (a:=a) (x:=0) (by omega)) (by omega) (by omega);unfold zdl zdn;rw[if_pos h0,if_pos h0,h0];exact ⟨c0,c1,c2,c3,c4⟩
theorem yaqa {ws:List Int} {ps:List St} {es:List Int} {qs:List Se} (hp:pmB ws ps=true) (hb:zbp es qs=true) :
  mdC ⟨3,0,0⟩ ws ps es qs=zmr ws ps∧mdW ⟨3,0,0⟩ ws ps es qs=zdo ws ps∧mdP ⟨3,0,0⟩ ws ps es qs=zdm ws ps∧mdE ⟨3,0,0⟩ ws ps es qs=es∧mdQ ⟨3,0,0⟩ ws ps es qs=qs:=by
 obtain ⟨c0,c1,c2,c3,c4⟩:=ztn (x:=0) hp hb (zjf (k:=3) (a:=0) (x:=0) (by omega)) (by omega) (by omega);unfold zmr zdo zdm;rw[if_pos hp,if_pos hp,if_pos hp];exact ⟨c0,c1,c2,c3,c4⟩
theorem yavv {ws:List Int} {ps:List St} {es:List Int} {qs:List Se} (hp:pmB ws ps=true) (hb:zbp es qs=true) :
  mdC ⟨5,0,0⟩ ws ps es qs=barC es qs∧mdW ⟨5,0,0⟩ ws ps es qs=ws∧mdP ⟨5,0,0⟩ ws ps es qs=ps∧mdE ⟨5,0,0⟩ ws ps es qs=ziu es qs∧mdQ ⟨5,0,0⟩ ws ps es qs=barL es qs:=by
 obtain ⟨c0,c1,c2,c3,c4⟩:=ztn (x:=0) hp hb (zjf (k:=5) (a:=0) (x:=0) (by omega)) (by omega) (by omega);unfold barC ziu;rw[if_pos hb,if_pos hb];exact ⟨c0,c1,c2,c3,c4⟩
theorem zrz (v:Value) (k a x:Int) (ws:List Int) (ps:List St) (es:List Int) (qs:List Se) (b lo:Nat) (w:World) (hbx:b < w.heap.size) (hlo:lo≤w.heap.size) (h:RowDevB w b lo w.heap.size v ws ps es qs) (hp1:pmB ws ps=true) (hb1:zbp es qs=true) (hm:miB ⟨k,a,x⟩=true) :
  Calls Tryz.prog 101 #[v,.agg #[.int .i64 k,.int .i64 a,.int .i64 x]] w fun e w'=>∃ v',e=.returned (.tuple #[v',.int .i64 (mdC ⟨k,a,x⟩ ws ps es qs)])∧RowDevB w' b lo w'.heap.size v' (mdW ⟨k,a,x⟩ ws ps es qs) (mdP ⟨k,a,x⟩ ws ps es qs) (mdE ⟨k,a,x⟩ ws ps es qs) (mdQ ⟨k,a,x⟩ ws ps es qs)∧Below w.heap.size w w':=by
 obtain ⟨vW,vP,vS,vQ,l1,h1,l2,h2,rfl,r1,r2,⟨c1,c2,c3,c4,c5⟩,c6,c7⟩:=h;obtain ⟨aW,cW,aP,cP,e1⟩:=r1.form;obtain ⟨aS,cS,aQ,cQ,e2⟩:=r2.form
 cases e1
 cases e2
 have R1:=zaa r1;have R2:=zaa r2;have hwl:ws.length≤336:=Nat.le_of_eq (zbz hp1).1;have hpl:ps.length≤400:=(zbz hp1).2;have hel:es.length≤32:=Nat.le_of_eq (zbt hb1).1;have hql:qs.length≤400:=(zbt hb1).2;have HP:=zaa (And.intro hp1 hb1);have hk:=(zkr k a x).1 hm;clear r1 r2 hp1 hb1 hm
 have hb0:Below w.heap.size w (((w.alloc (.cells #[.slice aW ws.length cW,.slice aP ps.length cP,.slice aS es.length cS,.slice aQ qs.length cQ] 45)).alloc (.cells #[.int .i64 k,.int .i64 a,.int .i64 x] 98)).alloc (.cells #[.slice none 0 0,.slice none 0 0,.slice none 0 0,.slice none 0 0] 45)):=by
  repeat (refine Below.alloc ?_ (by simp <;> omega) _)
  exact Below.refl _ _
 rcases (show (k=1∧(0≤a∧a < 336)∧0≤x∧x < 1099511627776)∨(k=2∧(0≤a∧a < 336)∧x=0)∨(k=3∧a=0∧x=0)∨(k=4∧(0≤a∧a < 32)∧0≤x∧x < 1099511627776)∨(k=5∧a=0∧x=0) by omega) with ⟨rfl,ha,hx⟩ | ⟨rfl,ha,rfl⟩ | ⟨rfl,rfl,rfl⟩ | ⟨rfl,ha,hx⟩ | ⟨rfl,rfl,rfl⟩
 ·clear hk;have D:=zaa (yamz HP.o.1 HP.o.2 ha hx);rw[D.o.1,D.o.2.1,D.o.2.2.1,D.o.2.2.2.1,D.o.2.2.2.2];clear D;go_enter Tryz.func101,Tryz.ntmps101;go_wp2_with fail;refine (zom _ ws ps a x _ (R1.o.rd.below hb0) (by omega) (by omega)).mono ?_;rintro e w1 ⟨v1,rfl,hr,hb⟩;have hr':RdPm w1 v1 _ _:=hr.rd;obtain ⟨vW1,vP1,rfl,hI,hS⟩:=hr';obtain ⟨aW1,cW1,rfl⟩:=RdI.form hI (n:=(zcy ws ps a x).length) rfl;obtain ⟨aP1,cP1,rfl⟩:=RdS.form hS (n:=(zdb ws ps a x).length) rfl
  have hz1:w.heap.size+3≤w1.heap.size:=by have:=hb.size;simp at this;omega
  have V0:=(hb.block w.heap.size (by simp <;> omega)).trans (zal (zal (zag rfl)));have V2:=(hb.block (w.heap.size+1+1) (by simp <;> omega)).trans (zag (by simp));have VM:=(hb.block (w.heap.size+1) (by simp <;> omega)).trans (zal (zag (by simp)))
  have hr:RowPm w1 (w.heap.size+1+1+1) w1.heap.size (.agg #[.slice aW1 (zcy ws ps a x).length cW1,.slice aP1 (zdb ws ps a x).length cP1]) (zcy ws ps a x) (zdb ws ps a x):=(by simpa using hr)
  have RN:=zaa hr;have B1:=zaa (zab hb0 hb (by simp <;> omega));have RO:=zaa (R2.o.below B1.o (by omega));obtain ⟨x0,x1,x2,x3,x4,x5,x6,x7⟩:=zaf V0;obtain ⟨y0,y1,y2,y3,y4,y5,y6,y7⟩:=zaf V2;obtain ⟨m0,m1,m2⟩:=zas VM;clear hb0 hb hr hI hS V0 V2 VM;go_wp2;refine bodyPost_ret (v:=.tuple #[.agg #[.slice aW1 (zcy ws ps a x).length cW1,.slice aP1 (zdb ws ps a x).length cP1,.slice aS es.length cS,.slice aQ qs.length cQ],.int .i64 (zdv ws ps a x)]) (by simp[results,Tryz.results101,go_sem,y0,y1,y2,y3]) rfl ?_;have O:=zla w1 w.heap.size (w.heap.size+1+1) 0 1 (by omega) (.slice aW1 (zcy ws ps a x).length cW1) (.slice aP1 (zdb ws ps a x).length cP1) (.slice aW1 (zcy ws ps a x).length cW1) (.slice aP1 (zdb ws ps a x).length cP1) (.slice aS es.length cS) (.slice aQ qs.length cQ);have Z:=zfx w1 w.heap.size (w.heap.size+1+1) 0 1 (.slice aW1 (zcy ws ps a x).length cW1) (.slice aP1 (zdb ws ps a x).length cP1) (.slice aW1 (zcy ws ps a x).length cW1) (.slice aP1 (zdb ws ps a x).length cP1) (.slice aS es.length cS) (.slice aQ qs.length cQ);refine ⟨_,rfl,?_,B1.o.trans (O.below (by omega) (by omega))⟩;refine RowDevB.wide (lo:=lo) (hi:=w1.heap.size) ⟨_,_,_,_,w.heap.size+1+1+1,w1.heap.size,l2,h2,rfl,(RN.o.outside O (by omega) (by omega)),(RO.o.outside O (by omega) (by omega)),⟨by omega,by omega,by omega,by omega,by omega⟩,by omega,by omega⟩ (Nat.le_refl _) (Nat.le_of_eq Z.symm)
 ·clear hk;have D:=zaa (yamo HP.o.1 HP.o.2 ha);rw[D.o.1,D.o.2.1,D.o.2.2.1,D.o.2.2.2.1,D.o.2.2.2.2];clear D;go_enter Tryz.func101,Tryz.ntmps101;go_wp2_with fail;refine (zqb _ ws ps a _ (R1.o.rd.below hb0) (by omega) (by omega)).mono ?_;rintro e w1 ⟨v1,rfl,hr,hb⟩;have hr':RdPm w1 v1 _ _:=hr.rd;obtain ⟨vW1,vP1,rfl,hI,hS⟩:=hr';obtain ⟨aW1,cW1,rfl⟩:=RdI.form hI (n:=(zdl ws ps a).length) rfl;obtain ⟨aP1,cP1,rfl⟩:=RdS.form hS (n:=(zdn ws ps a).length) rfl
  have hz1:w.heap.size+3≤w1.heap.size:=by have:=hb.size;simp at this;omega
  have V0:=(hb.block w.heap.size (by simp <;> omega)).trans (zal (zal (zag rfl)));have V2:=(hb.block (w.heap.size+1+1) (by simp <;> omega)).trans (zag (by simp));have VM:=(hb.block (w.heap.size+1) (by simp <;> omega)).trans (zal (zag (by simp)))
  have hr:RowPm w1 (w.heap.size+1+1+1) w1.heap.size (.agg #[.slice aW1 (zdl ws ps a).length cW1,.slice aP1 (zdn ws ps a).length cP1]) (zdl ws ps a) (zdn ws ps a):=(by simpa using hr)
  have RN:=zaa hr;have B1:=zaa (zab hb0 hb (by simp <;> omega));have RO:=zaa (R2.o.below B1.o (by omega));obtain ⟨x0,x1,x2,x3,x4,x5,x6,x7⟩:=zaf V0;obtain ⟨y0,y1,y2,y3,y4,y5,y6,y7⟩:=zaf V2;obtain ⟨m0,m1,m2⟩:=zas VM;clear hb0 hb hr hI hS V0 V2 VM;go_wp2;refine bodyPost_ret (v:=.tuple #[.agg #[.slice aW1 (zdl ws ps a).length cW1,.slice aP1 (zdn ws ps a).length cP1,.slice aS es.length cS,.slice aQ qs.length cQ],.int .i64 (zjw ws ps a)]) (by simp[results,Tryz.results101,go_sem,y0,y1,y2,y3]) rfl ?_;have O:=zla w1 w.heap.size (w.heap.size+1+1) 0 1 (by omega) (.slice aW1 (zdl ws ps a).length cW1) (.slice aP1 (zdn ws ps a).length cP1) (.slice aW1 (zdl ws ps a).length cW1) (.slice aP1 (zdn ws ps a).length cP1) (.slice aS es.length cS) (.slice aQ qs.length cQ);have Z:=zfx w1 w.heap.size (w.heap.size+1+1) 0 1 (.slice aW1 (zdl ws ps a).length cW1) (.slice aP1 (zdn ws ps a).length cP1) (.slice aW1 (zdl ws ps a).length cW1) (.slice aP1 (zdn ws ps a).length cP1) (.slice aS es.length cS) (.slice aQ qs.length cQ);refine ⟨_,rfl,?_,B1.o.trans (O.below (by omega) (by omega))⟩;refine RowDevB.wide (lo:=lo) (hi:=w1.heap.size) ⟨_,_,_,_,w.heap.size+1+1+1,w1.heap.size,l2,h2,rfl,(RN.o.outside O (by omega) (by omega)),(RO.o.outside O (by omega) (by omega)),⟨by omega,by omega,by omega,by omega,by omega⟩,by omega,by omega⟩ (Nat.le_refl _) (Nat.le_of_eq Z.symm)
 ·clear hk;have D:=zaa (yaqa HP.o.1 HP.o.2);rw[D.o.1,D.o.2.1,D.o.2.2.1,D.o.2.2.2.1,D.o.2.2.2.2];clear D;go_enter Tryz.func101,Tryz.ntmps101;go_wp2_with fail;refine (zoz _ ws ps _ (R1.o.rd.below hb0) (by omega) (by omega)).mono ?_;rintro e w1 ⟨v1,rfl,hr,hb⟩;have hr':RdPm w1 v1 _ _:=hr.rd;obtain ⟨vW1,vP1,rfl,hI,hS⟩:=hr';obtain ⟨aW1,cW1,rfl⟩:=RdI.form hI (n:=(zdo ws ps).length) rfl;obtain ⟨aP1,cP1,rfl⟩:=RdS.form hS (n:=(zdm ws ps).length) rfl
  have hz1:w.heap.size+3≤w1.heap.size:=by have:=hb.size;simp at this;omega
  have V0:=(hb.block w.heap.size (by simp <;> omega)).trans (zal (zal (zag rfl)));have V2:=(hb.block (w.heap.size+1+1) (by simp <;> omega)).trans (zag (by simp));have VM:=(hb.block (w.heap.size+1) (by simp <;> omega)).trans (zal (zag (by simp)))
  have hr:RowPm w1 (w.heap.size+1+1+1) w1.heap.size (.agg #[.slice aW1 (zdo ws ps).length cW1,.slice aP1 (zdm ws ps).length cP1]) (zdo ws ps) (zdm ws ps):=(by simpa using hr)
  have RN:=zaa hr;have B1:=zaa (zab hb0 hb (by simp <;> omega));have RO:=zaa (R2.o.below B1.o (by omega));obtain ⟨x0,x1,x2,x3,x4,x5,x6,x7⟩:=zaf V0;obtain ⟨y0,y1,y2,y3,y4,y5,y6,y7⟩:=zaf V2;obtain ⟨m0,m1,m2⟩:=zas VM;clear hb0 hb hr hI hS V0 V2 VM;go_wp2;refine bodyPost_ret (v:=.tuple #[.agg #[.slice aW1 (zdo ws ps).length cW1,.slice aP1 (zdm ws ps).length cP1,.slice aS es.length cS,.slice aQ qs.length cQ],.int .i64 (zmr ws ps)]) (by simp[results,Tryz.results101,go_sem,y0,y1,y2,y3]) rfl ?_;have O:=zla w1 w.heap.size (w.heap.size+1+1) 0 1 (by omega) (.slice aW1 (zdo ws ps).length cW1) (.slice aP1 (zdm ws ps).length cP1) (.slice aW1 (zdo ws ps).length cW1) (.slice aP1 (zdm ws ps).length cP1) (.slice aS es.length cS) (.slice aQ qs.length cQ);have Z:=zfx w1 w.heap.size (w.heap.size+1+1) 0 1 (.slice aW1 (zdo ws ps).length cW1) (.slice aP1 (zdm ws ps).length cP1) (.slice aW1 (zdo ws ps).length cW1) (.slice aP1 (zdm ws ps).length cP1) (.slice aS es.length cS) (.slice aQ qs.length cQ);refine ⟨_,rfl,?_,B1.o.trans (O.below (by omega) (by omega))⟩;refine RowDevB.wide (lo:=lo) (hi:=w1.heap.size) ⟨_,_,_,_,w.heap.size+1+1+1,w1.heap.size,l2,h2,rfl,(RN.o.outside O (by omega) (by omega)),(RO.o.outside O (by omega) (by omega)),⟨by omega,by omega,by omega,by omega,by omega⟩,by omega,by omega⟩ (Nat.le_refl _) (Nat.le_of_eq Z.symm)
 ·clear hk;have D:=zaa (yapu HP.o.1 HP.o.2 ha hx);rw[D.o.1,D.o.2.1,D.o.2.2.1,D.o.2.2.2.1,D.o.2.2.2.2];clear D;go_enter Tryz.func101,Tryz.ntmps101;go_wp2_with fail;refine (znm _ es qs a x _ (R2.o.rd.below hb0) (by omega) (by omega)).mono ?_;rintro e w1 ⟨v1,rfl,hr,hb⟩;have hr':RdBlk w1 v1 _ _:=hr.rd;obtain ⟨vW1,vP1,rfl,hI,hS⟩:=hr';obtain ⟨aW1,cW1,rfl⟩:=RdI.form hI (n:=(zcz es qs a x).length) rfl;obtain ⟨aP1,cP1,rfl⟩:=RdE.form hS (n:=(zdc es qs a x).length) rfl
  have hz1:w.heap.size+3≤w1.heap.size:=by have:=hb.size;simp at this;omega
  have V0:=(hb.block w.heap.size (by simp <;> omega)).trans (zal (zal (zag rfl)));have V2:=(hb.block (w.heap.size+1+1) (by simp <;> omega)).trans (zag (by simp));have VM:=(hb.block (w.heap.size+1) (by simp <;> omega)).trans (zal (zag (by simp)))
  have hr:RowBlk w1 (w.heap.size+1+1+1) w1.heap.size (.agg #[.slice aW1 (zcz es qs a x).length cW1,.slice aP1 (zdc es qs a x).length cP1]) (zcz es qs a x) (zdc es qs a x):=(by simpa using hr)
  have RN:=zaa hr;have B1:=zaa (zab hb0 hb (by simp <;> omega));have RO:=zaa (R1.o.below B1.o (by omega));obtain ⟨x0,x1,x2,x3,x4,x5,x6,x7⟩:=zaf V0;obtain ⟨y0,y1,y2,y3,y4,y5,y6,y7⟩:=zaf V2;obtain ⟨m0,m1,m2⟩:=zas VM;clear hb0 hb hr hI hS V0 V2 VM;go_wp2;refine bodyPost_ret (v:=.tuple #[.agg #[.slice aW ws.length cW,.slice aP ps.length cP,.slice aW1 (zcz es qs a x).length cW1,.slice aP1 (zdc es qs a x).length cP1],.int .i64 (zdx es qs a x)]) (by simp[results,Tryz.results101,go_sem,y0,y1,y2,y3]) rfl ?_;have O:=zla w1 w.heap.size (w.heap.size+1+1) 2 3 (by omega) (.slice aW1 (zcz es qs a x).length cW1) (.slice aP1 (zdc es qs a x).length cP1) (.slice aW ws.length cW) (.slice aP ps.length cP) (.slice aW1 (zcz es qs a x).length cW1) (.slice aP1 (zdc es qs a x).length cP1);have Z:=zfx w1 w.heap.size (w.heap.size+1+1) 2 3 (.slice aW1 (zcz es qs a x).length cW1) (.slice aP1 (zdc es qs a x).length cP1) (.slice aW ws.length cW) (.slice aP ps.length cP) (.slice aW1 (zcz es qs a x).length cW1) (.slice aP1 (zdc es qs a x).length cP1);refine ⟨_,rfl,?_,B1.o.trans (O.below (by omega) (by omega))⟩;refine RowDevB.wide (lo:=lo) (hi:=w1.heap.size) ⟨_,_,_,_,l1,h1,w.heap.size+1+1+1,w1.heap.size,rfl,(RO.o.outside O (by omega) (by omega)),(RN.o.outside O (by omega) (by omega)),⟨by omega,by omega,by omega,by omega,by omega⟩,by omega,by omega⟩ (Nat.le_refl _) (Nat.le_of_eq Z.symm)
 ·clear hk;have D:=zaa (yavv HP.o.1 HP.o.2);rw[D.o.1,D.o.2.1,D.o.2.2.1,D.o.2.2.2.1,D.o.2.2.2.2];clear D;go_enter Tryz.func101,Tryz.ntmps101;go_wp2_with fail;refine (znr _ es qs _ (R2.o.rd.below hb0) (by omega) (by omega)).mono ?_;rintro e w1 ⟨v1,rfl,hr,hb⟩;have hr':RdBlk w1 v1 _ _:=hr.rd;obtain ⟨vW1,vP1,rfl,hI,hS⟩:=hr';obtain ⟨aW1,cW1,rfl⟩:=RdI.form hI (n:=(ziu es qs).length) rfl;obtain ⟨aP1,cP1,rfl⟩:=RdE.form hS (n:=(barL es qs).length) rfl
  have hz1:w.heap.size+3≤w1.heap.size:=by have:=hb.size;simp at this;omega
  have V0:=(hb.block w.heap.size (by simp <;> omega)).trans (zal (zal (zag rfl)));have V2:=(hb.block (w.heap.size+1+1) (by simp <;> omega)).trans (zag (by simp));have VM:=(hb.block (w.heap.size+1) (by simp <;> omega)).trans (zal (zag (by simp)))
  have hr:RowBlk w1 (w.heap.size+1+1+1) w1.heap.size (.agg #[.slice aW1 (ziu es qs).length cW1,.slice aP1 (barL es qs).length cP1]) (ziu es qs) (barL es qs):=(by simpa using hr)
  have RN:=zaa hr;have B1:=zaa (zab hb0 hb (by simp <;> omega));have RO:=zaa (R1.o.below B1.o (by omega));obtain ⟨x0,x1,x2,x3,x4,x5,x6,x7⟩:=zaf V0;obtain ⟨y0,y1,y2,y3,y4,y5,y6,y7⟩:=zaf V2;obtain ⟨m0,m1,m2⟩:=zas VM;clear hb0 hb hr hI hS V0 V2 VM;go_wp2;refine bodyPost_ret (v:=.tuple #[.agg #[.slice aW ws.length cW,.slice aP ps.length cP,.slice aW1 (ziu es qs).length cW1,.slice aP1 (barL es qs).length cP1],.int .i64 (barC es qs)]) (by simp[results,Tryz.results101,go_sem,y0,y1,y2,y3]) rfl ?_;have O:=zla w1 w.heap.size (w.heap.size+1+1) 2 3 (by omega) (.slice aW1 (ziu es qs).length cW1) (.slice aP1 (barL es qs).length cP1) (.slice aW ws.length cW) (.slice aP ps.length cP) (.slice aW1 (ziu es qs).length cW1) (.slice aP1 (barL es qs).length cP1);have Z:=zfx w1 w.heap.size (w.heap.size+1+1) 2 3 (.slice aW1 (ziu es qs).length cW1) (.slice aP1 (barL es qs).length cP1) (.slice aW ws.length cW) (.slice aP ps.length cP) (.slice aW1 (ziu es qs).length cW1) (.slice aP1 (barL es qs).length cP1);refine ⟨_,rfl,?_,B1.o.trans (O.below (by omega) (by omega))⟩;refine RowDevB.wide (lo:=lo) (hi:=w1.heap.size) ⟨_,_,_,_,l1,h1,w.heap.size+1+1+1,w1.heap.size,rfl,(RO.o.outside O (by omega) (by omega)),(RN.o.outside O (by omega) (by omega)),⟨by omega,by omega,by omega,by omega,by omega⟩,by omega,by omega⟩ (Nat.le_refl _) (Nat.le_of_eq Z.symm)
end Go.Proofs.YtahiphgmhndgaaaGreatDoor
