import Derived.Test.YtdiaiejmoocpmaaGreatDoorZBH
import Derived.Orders
set_option maxRecDepth 100000
set_option maxHeartbeats 16000000
namespace Go.Proofs.YtdiaiejmoocpmaaGreatDoor
open Go.RowKit
theorem Outside.newer{lo hi l2 h2:Nat}{w x y:World}(h:Outside lo hi w x)(k:Outside l2 h2 x y)(hl:w.heap.size<=l2):Outside lo hi w y :=
 ⟨k.os.trans h.os,k.tape.trans h.tape,k.output.trans h.output,Nat.le_trans h.size k.size,fun i hi' ho=>(k.block i (Nat.lt_of_lt_of_le hi' h.size) (.inl (by omega))).trans (h.block i hi' ho)⟩
theorem zas{w:World}{b:Nat}{t:TypeId}{x0 x1 x2 x3 x4:Value}(h:w.heap[b]?=some (.cells #[x0,x1,x2,x3,x4] t (0,0))):w.cell? ⟨b,0,none⟩=some x0/\w.cell? ⟨b,1,none⟩=some x1/\w.cell? ⟨b,2,none⟩=some x2/\w.cell? ⟨b,3,none⟩=some x3/\w.cell? ⟨b,4,none⟩=some x4/\w.frozen? ⟨b,0,none⟩=false/\w.frozen? ⟨b,1,none⟩=false/\w.frozen? ⟨b,2,none⟩=false/\w.frozen? ⟨b,3,none⟩=false/\w.frozen? ⟨b,4,none⟩=false:=by simp[World.cell?,World.frozen?,h]
theorem yakx{w:World}{b:Nat}{t:TypeId}{x0 x1 x2 x3 x4:Value}(h:w.heap[b]?=some (.cells #[x0,x1,x2,x3,x4] t (0,0)))(u:Value):(w.setCell ⟨b,0,none⟩ u).heap[b]?=some (.cells #[u,x1,x2,x3,x4] t (0,0)):=by simp[World.setCell,Array.getElem?_modify,h]
theorem yajo{w:World}{b:Nat}{t:TypeId}{x0 x1 x2 x3 x4:Value}(h:w.heap[b]?=some (.cells #[x0,x1,x2,x3,x4] t (0,0)))(u:Value):(w.setCell ⟨b,1,none⟩ u).heap[b]?=some (.cells #[x0,u,x2,x3,x4] t (0,0)):=by simp[World.setCell,Array.getElem?_modify,h]
theorem yamo{w:World}{b:Nat}{t:TypeId}{x0 x1 x2 x3 x4:Value}(h:w.heap[b]?=some (.cells #[x0,x1,x2,x3,x4] t (0,0)))(u:Value):(w.setCell ⟨b,2,none⟩ u).heap[b]?=some (.cells #[x0,x1,u,x3,x4] t (0,0)):=by simp[World.setCell,Array.getElem?_modify,h]
theorem yaod{w:World}{b:Nat}{t:TypeId}{x0 x1 x2 x3 x4:Value}(h:w.heap[b]?=some (.cells #[x0,x1,x2,x3,x4] t (0,0)))(u:Value):(w.setCell ⟨b,3,none⟩ u).heap[b]?=some (.cells #[x0,x1,x2,u,x4] t (0,0)):=by simp[World.setCell,Array.getElem?_modify,h]
theorem yalq{w:World}{b:Nat}{t:TypeId}{x0 x1 x2 x3 x4:Value}(h:w.heap[b]?=some (.cells #[x0,x1,x2,x3,x4] t (0,0)))(u:Value):(w.setCell ⟨b,4,none⟩ u).heap[b]?=some (.cells #[x0,x1,x2,x3,u] t (0,0)):=by simp[World.setCell,Array.getElem?_modify,h]
def put5(w:World)(b:Nat)(x0 x1 x2 x3 x4:Value):World:=((((w.setCell ⟨b,0,none⟩ x0).setCell ⟨b,1,none⟩ x1).setCell ⟨b,2,none⟩ x2).setCell ⟨b,3,none⟩ x3).setCell ⟨b,4,none⟩ x4
theorem yafe(w:World)(b:Nat)(x0 x1 x2 x3 x4:Value):Outside b (b+1) w (put5 w b x0 x1 x2 x3 x4):=by
 unfold put5
 repeat (refine Outside.setCell ?_ (by simp only;omega) (by simp only;omega) _)
 exact Outside.refl _ _ _
structure OpI(w0 w W:World)(b k:Nat)(vC:Value)(bs:List Int)(ob:Nat)(x0 x1 x2 x3 x4:Value):Prop where
 src:Src w0 W b vC bs k
 o:Outside b (b+1) w W
 box:W.heap[ob]?=some (.cells #[x0,x1,x2,x3,x4] 97 (0,0))
 res:W.heap[w.heap.size]?=some (.cells #[.I 0,.string ⟨#[]⟩,.string ⟨#[]⟩,.I 0,.I 0] 97 (0,0))
 far:w.heap.size<ob
 near:b<w.heap.size
 base:w0.heap.size<=w.heap.size
theorem OpI.drew{w0 w W W':World}{b k k':Nat}{vC:Value}{bs:List Int}{ob:Nat}{x0 x1 x2 x3 x4:Value}(h:OpI w0 w W b k vC bs ob x0 x1 x2 x3 x4)(S:Src w0 W' b vC bs k')(O:Outside b (b+1) W W'):OpI w0 w W' b k' vC bs ob x0 x1 x2 x3 x4 :=
 ⟨S,h.o.trans O,(O.block ob (Array.getElem?_eq_some_iff.1 h.box).1 (by have:=h.far;have:=h.near;omega)).trans h.box,(O.block _ (Array.getElem?_eq_some_iff.1 h.res).1 (by have:=h.near;omega)).trans h.res,h.far,h.near,h.base⟩
theorem OpI.fin{w0 w W:World}{b k:Nat}{vC:Value}{bs:List Int}{ob:Nat}{x0 x1 x2 x3 x4:Value}(h:OpI w0 w W b k vC bs ob x0 x1 x2 x3 x4)(y0 y1 y2 y3 y4:Value):Src w0 (put5 W w.heap.size y0 y1 y2 y3 y4) b vC bs k/\Outside b (b+1) w (put5 W w.heap.size y0 y1 y2 y3 y4) :=
 ⟨h.src.outside (yafe _ _ _ _ _ _ _) (.inl h.near) h.base,h.o.newer (yafe _ _ _ _ _ _ _) zL⟩
theorem OpI.set0{w0 w W:World}{b k:Nat}{vC:Value}{bs:List Int}{ob:Nat}{x0 x1 x2 x3 x4:Value}(h:OpI w0 w W b k vC bs ob x0 x1 x2 x3 x4)(u:Value):OpI w0 w (W.setCell ⟨ob,0,none⟩ u) b k vC bs ob u x1 x2 x3 x4:=by
 have O:Outside ob (ob+1) W (W.setCell ⟨ob,0,none⟩ u):=Outside.setCell (Outside.refl _ _ _) (a:=⟨ob,0,none⟩) zL (Nat.lt_succ_self _) _;have f:=h.far;have n:=h.near;have z:=h.base;exact⟨h.src.outside O (by omega) (by omega),h.o.newer O (by omega),yakx h.box u,(O.block _ (Array.getElem?_eq_some_iff.1 h.res).1 (by omega)).trans h.res,f,n,z⟩
theorem OpI.set1{w0 w W:World}{b k:Nat}{vC:Value}{bs:List Int}{ob:Nat}{x0 x1 x2 x3 x4:Value}(h:OpI w0 w W b k vC bs ob x0 x1 x2 x3 x4)(u:Value):OpI w0 w (W.setCell ⟨ob,1,none⟩ u) b k vC bs ob x0 u x2 x3 x4:=by
 have O:Outside ob (ob+1) W (W.setCell ⟨ob,1,none⟩ u):=Outside.setCell (Outside.refl _ _ _) (a:=⟨ob,1,none⟩) zL (Nat.lt_succ_self _) _;have f:=h.far;have n:=h.near;have z:=h.base;exact⟨h.src.outside O (by omega) (by omega),h.o.newer O (by omega),yajo h.box u,(O.block _ (Array.getElem?_eq_some_iff.1 h.res).1 (by omega)).trans h.res,f,n,z⟩
theorem OpI.set2{w0 w W:World}{b k:Nat}{vC:Value}{bs:List Int}{ob:Nat}{x0 x1 x2 x3 x4:Value}(h:OpI w0 w W b k vC bs ob x0 x1 x2 x3 x4)(u:Value):OpI w0 w (W.setCell ⟨ob,2,none⟩ u) b k vC bs ob x0 x1 u x3 x4:=by
 have O:Outside ob (ob+1) W (W.setCell ⟨ob,2,none⟩ u):=Outside.setCell (Outside.refl _ _ _) (a:=⟨ob,2,none⟩) zL (Nat.lt_succ_self _) _;have f:=h.far;have n:=h.near;have z:=h.base;exact⟨h.src.outside O (by omega) (by omega),h.o.newer O (by omega),yamo h.box u,(O.block _ (Array.getElem?_eq_some_iff.1 h.res).1 (by omega)).trans h.res,f,n,z⟩
theorem OpI.set3{w0 w W:World}{b k:Nat}{vC:Value}{bs:List Int}{ob:Nat}{x0 x1 x2 x3 x4:Value}(h:OpI w0 w W b k vC bs ob x0 x1 x2 x3 x4)(u:Value):OpI w0 w (W.setCell ⟨ob,3,none⟩ u) b k vC bs ob x0 x1 x2 u x4:=by
 have O:Outside ob (ob+1) W (W.setCell ⟨ob,3,none⟩ u):=Outside.setCell (Outside.refl _ _ _) (a:=⟨ob,3,none⟩) zL (Nat.lt_succ_self _) _;have f:=h.far;have n:=h.near;have z:=h.base;exact⟨h.src.outside O (by omega) (by omega),h.o.newer O (by omega),yaod h.box u,(O.block _ (Array.getElem?_eq_some_iff.1 h.res).1 (by omega)).trans h.res,f,n,z⟩
theorem OpI.set4{w0 w W:World}{b k:Nat}{vC:Value}{bs:List Int}{ob:Nat}{x0 x1 x2 x3 x4:Value}(h:OpI w0 w W b k vC bs ob x0 x1 x2 x3 x4)(u:Value):OpI w0 w (W.setCell ⟨ob,4,none⟩ u) b k vC bs ob x0 x1 x2 x3 u:=by
 have O:Outside ob (ob+1) W (W.setCell ⟨ob,4,none⟩ u):=Outside.setCell (Outside.refl _ _ _) (a:=⟨ob,4,none⟩) zL (Nat.lt_succ_self _) _;have f:=h.far;have n:=h.near;have z:=h.base;exact⟨h.src.outside O (by omega) (by omega),h.o.newer O (by omega),yalq h.box u,(O.block _ (Array.getElem?_eq_some_iff.1 h.res).1 (by omega)).trans h.res,f,n,z⟩
theorem zsk{k:Int}{p t:ByteArray}{g x:Int}(h1:p.size<=100)(h2:t.size<=100)(hk:1<=k/\k<=10)(ht:k=4\/k=5\/t.size=0)(hx:k=6\/x=0)(hg:g=0\/(6<=k/\k<=8)):opB k p t g x=true:=decide_eq_true ⟨hk,by omega,by omega,ht,hx,hg.symm⟩
theorem yaui(w0 w:World)(b k:Nat)(vC:Value)(bs:List Int)(h:Src w0 w b vC bs k)(hk:k<=600000) :
  zC 43 #[.pointer (some ⟨b,0,none⟩)] w fun e w'=>∃ kd p t g y,e=.returned (.agg #[.I kd,.string p,.string t,.I g,.I y])/\p.size<=100/\t.size<=100/\opB kd p t g y=true/\Src w0 w' b vC bs (k+60)/\Outside b (b+1) w w':=by
 have hsz:=h.size;have bw:=h.below.size;have HS:=zaa (h.newer ((Below.refl w.heap.size w).alloc zL (.cells #[.I 0,.string ⟨#[]⟩,.string ⟨#[]⟩,.I 0,.I 0] 97)));have RV:Hid ((w.alloc (.cells #[.I 0,.string ⟨#[]⟩,.string ⟨#[]⟩,.I 0,.I 0] 97)).heap[w.heap.size]?=some (.cells #[.I 0,.string ⟨#[]⟩,.string ⟨#[]⟩,.I 0,.I 0] 97 (0,0))):=zaf rfl;have BV:Hid (zB w (w.alloc (.cells #[.I 0,.string ⟨#[]⟩,.string ⟨#[]⟩,.I 0,.I 0] 97))):=zR.alloc zL _
 obtain⟨V,hV⟩:=zE (w.alloc (.cells #[.I 0,.string ⟨#[]⟩,.string ⟨#[]⟩,.I 0,.I 0] 97))
 rw[<- hV]at HS RV BV;clear h;go_enter Tryz.func43,Tryz.ntmps43;go_upto_region 1 with fail;rw[<- hV];clear hV;go_wp2_with fail;refine(zbz 10 (by omega) w0 _ b k vC bs HS.o (by omega)).mono ?_;rintro e w1 ⟨r,rfl,r0,r1,hs,ho,-⟩;have S1:=zaa hs;have O1:=zaa ho;clear hs ho HS
 obtain⟨r,rfl⟩:∃ n:Nat,r=(n:Int):=⟨r.toNat,by omega⟩
 have r10:r<10:=by omega
 go_wp2_with fail;refine(zgj w0 _ b _ vC bs S1.o (by omega)).mono ?_;rintro e w2 ⟨p,rfl,mp,hs,ho⟩;have ZP:=zaa mp.size;have O2:=zaa (O1.o.trans ho);have lV:V.heap.size<=w2.heap.size:=O2.o.size;have lR:w.heap.size<V.heap.size:=(Array.getElem?_eq_some_iff.1 RV.o).1
 obtain⟨W,hW⟩:=zE (w2.alloc (.cells #[.I (1+(r:Int)),.string p,.string ⟨#[]⟩,.I 0,.I 0] 97))
 have I0:Hid (OpI w0 w W b (k+12) vC bs w2.heap.size (.I (1+(r:Int))) (.string p) (.string ⟨#[]⟩) (.I 0) (.I 0)):=by
  rw[hW];exact⟨hs.newer (zR.alloc zL _),((Outside.of_below BV.o).trans O2.o).trans (Outside.of_below (zR.alloc zL _)),zaf rfl,zaj ((O2.o.block _ lR (by omega)).trans RV.o),by omega,hsz,bw⟩
 clear hs ho mp S1 O1 O2 RV BV;go_upto_region 2 with fail;rw[<- hW];clear hW;generalize w2.heap.size=ob at *;clear lV;go_wp2_with fail;refine(zhw 3 (by omega) w0 _ b _ vC bs I0.o.src (by omega)).mono ?_;rintro e w3 ⟨rc,rfl,hs,ho,-⟩;have I1:=zaa (I0.o.drew hs ho);clear hs ho I0
 cases rc with
 | true =>
  obtain⟨c0,c1,c2,c3,c4,f0,f1,f2,f3,f4⟩:=zas I1.o.box
  obtain⟨W2,hW2⟩:=zE (w3.setCell ⟨ob,0,none⟩ (.I 6))
  have I2:=zaa (I1.o.set0 (.I 6));rw[<- hW2]at I2;go_upto_region 4 with fail;rw[<- hW2];clear hW2 c0 c1 c2 c3 c4 f0 f1 f2 f3 f4 I1;obtain⟨c0,c1,c2,c3,c4,f0,f1,f2,f3,f4⟩:=zas I2.o.box;go_wp2_with fail;refine(zbz 8 (by omega) w0 _ b _ vC bs I2.o.src (by omega)).mono ?_;rintro e x1 ⟨g,rfl,g0,g1,hs,ho,-⟩;have J1:=zaa (I2.o.drew hs ho);clear hs ho c0 c1 c2 c3 c4 f0 f1 f2 f3 f4 I2;obtain⟨c0,c1,c2,c3,c4,f0,f1,f2,f3,f4⟩:=zas J1.o.box
  obtain⟨X2,hX2⟩:=zE (x1.setCell ⟨ob,3,none⟩ (.I g))
  have J2:=zaa (J1.o.set3 (.I g));rw[<- hX2]at J2;go_upto_region 10 with fail;rw[<- hX2];clear hX2 c0 c1 c2 c3 c4 f0 f1 f2 f3 f4 J1;obtain⟨c0,c1,c2,c3,c4,f0,f1,f2,f3,f4⟩:=zas J2.o.box;go_wp2_with fail;refine(zlf w0 _ b _ vC bs J2.o.src (by omega)).mono ?_;rintro e x3 ⟨y,rfl,y0,y1,hs,ho⟩;have J3:=zaa (J2.o.drew hs ho);clear hs ho c0 c1 c2 c3 c4 f0 f1 f2 f3 f4 J2;obtain⟨c0,c1,c2,c3,c4,f0,f1,f2,f3,f4⟩:=zas J3.o.box
  obtain⟨X4,hX4⟩:=zE (x3.setCell ⟨ob,4,none⟩ (.I y))
  have J4:=zaa (J3.o.set4 (.I y));rw[<- hX4]at J4;go_upto_region 17 with fail;rw[<- hX4];clear hX4 c0 c1 c2 c3 c4 f0 f1 f2 f3 f4 J3;have FIN:=zaa (J4.o.fin (.I 6) (.string p) (.string ⟨#[]⟩) (.I g) (.I y));obtain⟨c0,c1,c2,c3,c4,-⟩:=zas J4.o.box;obtain⟨d0,d1,d2,d3,d4,f0,f1,f2,f3,f4⟩:=zas J4.o.res;have Z1:Hid ((p:ByteArray).size<=100):=ZP;have Z2:Hid ((⟨#[]⟩:ByteArray).size<=100):=zaa (by decide);go_wp2;refine bodyPost_ret (v:=.agg #[.I 6,.string p,.string ⟨#[]⟩,.I g,.I y]) (by simp[results,Tryz.results43,go_sem,d0,d1,d2,d3,d4]) rfl ?_;exact⟨_,_,_,_,_,rfl,Z1.o,Z2.o,zsk Z1.o Z2.o (by omega) (by first | exact .inl rfl | exact .inr (.inl rfl) | exact .inr (.inr rfl)) (by first | exact .inl rfl | exact .inr rfl) (by first | exact .inl rfl | exact .inr (by omega)),FIN.o.1.more (by omega),FIN.o.2⟩
 | false =>
  rcases(show r=0\/r=1\/r=2\/r=3\/r=4\/r=5\/r=6\/r=7\/r=8\/r=9 by omega)with rfl|rfl|rfl|rfl|rfl|rfl|rfl|rfl|rfl|rfl
  ·have I2:Hid (OpI w0 w w3 b (k+15) vC bs ob (.I 1) (.string p) (.string ⟨#[]⟩) (.I 0) (.I 0)):=I1;clear I1;have FIN:=zaa (I2.o.fin (.I 1) (.string p) (.string ⟨#[]⟩) (.I 0) (.I 0));obtain⟨c0,c1,c2,c3,c4,-⟩:=zas I2.o.box;obtain⟨d0,d1,d2,d3,d4,f0,f1,f2,f3,f4⟩:=zas I2.o.res;have Z1:Hid ((p:ByteArray).size<=100):=ZP;have Z2:Hid ((⟨#[]⟩:ByteArray).size<=100):=zaa (by decide);go_wp2;refine bodyPost_ret (v:=.agg #[.I 1,.string p,.string ⟨#[]⟩,.I 0,.I 0]) (by simp[results,Tryz.results43,go_sem,d0,d1,d2,d3,d4]) rfl ?_;exact⟨_,_,_,_,_,rfl,Z1.o,Z2.o,zsk Z1.o Z2.o (by omega) (by first | exact .inl rfl | exact .inr (.inl rfl) | exact .inr (.inr rfl)) (by first | exact .inl rfl | exact .inr rfl) (by first | exact .inl rfl | exact .inr (by omega)),FIN.o.1.more (by omega),FIN.o.2⟩
  ·have I2:Hid (OpI w0 w w3 b (k+15) vC bs ob (.I 2) (.string p) (.string ⟨#[]⟩) (.I 0) (.I 0)):=I1;clear I1;have FIN:=zaa (I2.o.fin (.I 2) (.string p) (.string ⟨#[]⟩) (.I 0) (.I 0));obtain⟨c0,c1,c2,c3,c4,-⟩:=zas I2.o.box;obtain⟨d0,d1,d2,d3,d4,f0,f1,f2,f3,f4⟩:=zas I2.o.res;have Z1:Hid ((p:ByteArray).size<=100):=ZP;have Z2:Hid ((⟨#[]⟩:ByteArray).size<=100):=zaa (by decide);go_wp2;refine bodyPost_ret (v:=.agg #[.I 2,.string p,.string ⟨#[]⟩,.I 0,.I 0]) (by simp[results,Tryz.results43,go_sem,d0,d1,d2,d3,d4]) rfl ?_;exact⟨_,_,_,_,_,rfl,Z1.o,Z2.o,zsk Z1.o Z2.o (by omega) (by first | exact .inl rfl | exact .inr (.inl rfl) | exact .inr (.inr rfl)) (by first | exact .inl rfl | exact .inr rfl) (by first | exact .inl rfl | exact .inr (by omega)),FIN.o.1.more (by omega),FIN.o.2⟩
  ·have I2:Hid (OpI w0 w w3 b (k+15) vC bs ob (.I 3) (.string p) (.string ⟨#[]⟩) (.I 0) (.I 0)):=I1;clear I1;have FIN:=zaa (I2.o.fin (.I 3) (.string p) (.string ⟨#[]⟩) (.I 0) (.I 0));obtain⟨c0,c1,c2,c3,c4,-⟩:=zas I2.o.box;obtain⟨d0,d1,d2,d3,d4,f0,f1,f2,f3,f4⟩:=zas I2.o.res;have Z1:Hid ((p:ByteArray).size<=100):=ZP;have Z2:Hid ((⟨#[]⟩:ByteArray).size<=100):=zaa (by decide);go_wp2;refine bodyPost_ret (v:=.agg #[.I 3,.string p,.string ⟨#[]⟩,.I 0,.I 0]) (by simp[results,Tryz.results43,go_sem,d0,d1,d2,d3,d4]) rfl ?_;exact⟨_,_,_,_,_,rfl,Z1.o,Z2.o,zsk Z1.o Z2.o (by omega) (by first | exact .inl rfl | exact .inr (.inl rfl) | exact .inr (.inr rfl)) (by first | exact .inl rfl | exact .inr rfl) (by first | exact .inl rfl | exact .inr (by omega)),FIN.o.1.more (by omega),FIN.o.2⟩
  ·have I2:Hid (OpI w0 w w3 b (k+15) vC bs ob (.I 4) (.string p) (.string ⟨#[]⟩) (.I 0) (.I 0)):=I1;clear I1;obtain⟨c0,c1,c2,c3,c4,f0,f1,f2,f3,f4⟩:=zas I2.o.box;go_wp2_with fail;refine(zgj w0 _ b _ vC bs I2.o.src (by omega)).mono ?_;rintro e x1 ⟨t,rfl,mt,hs,ho⟩;have J1:=zaa (I2.o.drew hs ho);have ZT:=zaa mt.size;clear mt;clear hs ho c0 c1 c2 c3 c4 f0 f1 f2 f3 f4 I2;obtain⟨c0,c1,c2,c3,c4,f0,f1,f2,f3,f4⟩:=zas J1.o.box
   obtain⟨X2,hX2⟩:=zE (x1.setCell ⟨ob,2,none⟩ (.string t))
   have J2:=zaa (J1.o.set2 (.string t));rw[<- hX2]at J2;go_upto_region 17 with fail;rw[<- hX2];clear hX2 c0 c1 c2 c3 c4 f0 f1 f2 f3 f4 J1;have FIN:=zaa (J2.o.fin (.I 4) (.string p) (.string t) (.I 0) (.I 0));obtain⟨c0,c1,c2,c3,c4,-⟩:=zas J2.o.box;obtain⟨d0,d1,d2,d3,d4,f0,f1,f2,f3,f4⟩:=zas J2.o.res;have Z1:Hid ((p:ByteArray).size<=100):=ZP;have Z2:Hid ((t:ByteArray).size<=100):=ZT;go_wp2;refine bodyPost_ret (v:=.agg #[.I 4,.string p,.string t,.I 0,.I 0]) (by simp[results,Tryz.results43,go_sem,d0,d1,d2,d3,d4]) rfl ?_;exact⟨_,_,_,_,_,rfl,Z1.o,Z2.o,zsk Z1.o Z2.o (by omega) (by first | exact .inl rfl | exact .inr (.inl rfl) | exact .inr (.inr rfl)) (by first | exact .inl rfl | exact .inr rfl) (by first | exact .inl rfl | exact .inr (by omega)),FIN.o.1.more (by omega),FIN.o.2⟩
  ·have I2:Hid (OpI w0 w w3 b (k+15) vC bs ob (.I 5) (.string p) (.string ⟨#[]⟩) (.I 0) (.I 0)):=I1;clear I1;obtain⟨c0,c1,c2,c3,c4,f0,f1,f2,f3,f4⟩:=zas I2.o.box;go_wp2_with fail;refine(zgj w0 _ b _ vC bs I2.o.src (by omega)).mono ?_;rintro e x1 ⟨t,rfl,mt,hs,ho⟩;have J1:=zaa (I2.o.drew hs ho);have ZT:=zaa mt.size;clear mt;clear hs ho c0 c1 c2 c3 c4 f0 f1 f2 f3 f4 I2;obtain⟨c0,c1,c2,c3,c4,f0,f1,f2,f3,f4⟩:=zas J1.o.box
   obtain⟨X2,hX2⟩:=zE (x1.setCell ⟨ob,2,none⟩ (.string t))
   have J2:=zaa (J1.o.set2 (.string t));rw[<- hX2]at J2;go_upto_region 17 with fail;rw[<- hX2];clear hX2 c0 c1 c2 c3 c4 f0 f1 f2 f3 f4 J1;have FIN:=zaa (J2.o.fin (.I 5) (.string p) (.string t) (.I 0) (.I 0));obtain⟨c0,c1,c2,c3,c4,-⟩:=zas J2.o.box;obtain⟨d0,d1,d2,d3,d4,f0,f1,f2,f3,f4⟩:=zas J2.o.res;have Z1:Hid ((p:ByteArray).size<=100):=ZP;have Z2:Hid ((t:ByteArray).size<=100):=ZT;go_wp2;refine bodyPost_ret (v:=.agg #[.I 5,.string p,.string t,.I 0,.I 0]) (by simp[results,Tryz.results43,go_sem,d0,d1,d2,d3,d4]) rfl ?_;exact⟨_,_,_,_,_,rfl,Z1.o,Z2.o,zsk Z1.o Z2.o (by omega) (by first | exact .inl rfl | exact .inr (.inl rfl) | exact .inr (.inr rfl)) (by first | exact .inl rfl | exact .inr rfl) (by first | exact .inl rfl | exact .inr (by omega)),FIN.o.1.more (by omega),FIN.o.2⟩
  ·have I2:Hid (OpI w0 w w3 b (k+15) vC bs ob (.I 6) (.string p) (.string ⟨#[]⟩) (.I 0) (.I 0)):=I1;clear I1;obtain⟨c0,c1,c2,c3,c4,f0,f1,f2,f3,f4⟩:=zas I2.o.box;go_wp2_with fail;refine(zbz 8 (by omega) w0 _ b _ vC bs I2.o.src (by omega)).mono ?_;rintro e x1 ⟨g,rfl,g0,g1,hs,ho,-⟩;have J1:=zaa (I2.o.drew hs ho);clear hs ho c0 c1 c2 c3 c4 f0 f1 f2 f3 f4 I2;obtain⟨c0,c1,c2,c3,c4,f0,f1,f2,f3,f4⟩:=zas J1.o.box
   obtain⟨X2,hX2⟩:=zE (x1.setCell ⟨ob,3,none⟩ (.I g))
   have J2:=zaa (J1.o.set3 (.I g));rw[<- hX2]at J2;go_upto_region 10 with fail;rw[<- hX2];clear hX2 c0 c1 c2 c3 c4 f0 f1 f2 f3 f4 J1;obtain⟨c0,c1,c2,c3,c4,f0,f1,f2,f3,f4⟩:=zas J2.o.box;go_wp2_with fail;refine(zlf w0 _ b _ vC bs J2.o.src (by omega)).mono ?_;rintro e x3 ⟨y,rfl,y0,y1,hs,ho⟩;have J3:=zaa (J2.o.drew hs ho);clear hs ho c0 c1 c2 c3 c4 f0 f1 f2 f3 f4 J2;obtain⟨c0,c1,c2,c3,c4,f0,f1,f2,f3,f4⟩:=zas J3.o.box
   obtain⟨X4,hX4⟩:=zE (x3.setCell ⟨ob,4,none⟩ (.I y))
   have J4:=zaa (J3.o.set4 (.I y));rw[<- hX4]at J4;go_upto_region 17 with fail;rw[<- hX4];clear hX4 c0 c1 c2 c3 c4 f0 f1 f2 f3 f4 J3;have FIN:=zaa (J4.o.fin (.I 6) (.string p) (.string ⟨#[]⟩) (.I g) (.I y));obtain⟨c0,c1,c2,c3,c4,-⟩:=zas J4.o.box;obtain⟨d0,d1,d2,d3,d4,f0,f1,f2,f3,f4⟩:=zas J4.o.res;have Z1:Hid ((p:ByteArray).size<=100):=ZP;have Z2:Hid ((⟨#[]⟩:ByteArray).size<=100):=zaa (by decide);go_wp2;refine bodyPost_ret (v:=.agg #[.I 6,.string p,.string ⟨#[]⟩,.I g,.I y]) (by simp[results,Tryz.results43,go_sem,d0,d1,d2,d3,d4]) rfl ?_;exact⟨_,_,_,_,_,rfl,Z1.o,Z2.o,zsk Z1.o Z2.o (by omega) (by first | exact .inl rfl | exact .inr (.inl rfl) | exact .inr (.inr rfl)) (by first | exact .inl rfl | exact .inr rfl) (by first | exact .inl rfl | exact .inr (by omega)),FIN.o.1.more (by omega),FIN.o.2⟩
  ·have I2:Hid (OpI w0 w w3 b (k+15) vC bs ob (.I 7) (.string p) (.string ⟨#[]⟩) (.I 0) (.I 0)):=I1;clear I1;obtain⟨c0,c1,c2,c3,c4,f0,f1,f2,f3,f4⟩:=zas I2.o.box;go_wp2_with fail;refine(zbz 9 (by omega) w0 _ b _ vC bs I2.o.src (by omega)).mono ?_;rintro e x1 ⟨g,rfl,g0,g1,hs,ho,-⟩;have J1:=zaa (I2.o.drew hs ho);clear hs ho c0 c1 c2 c3 c4 f0 f1 f2 f3 f4 I2;obtain⟨c0,c1,c2,c3,c4,f0,f1,f2,f3,f4⟩:=zas J1.o.box
   obtain⟨X2,hX2⟩:=zE (x1.setCell ⟨ob,3,none⟩ (.I g))
   have J2:=zaa (J1.o.set3 (.I g));rw[<- hX2]at J2;go_upto_region 17 with fail;rw[<- hX2];clear hX2 c0 c1 c2 c3 c4 f0 f1 f2 f3 f4 J1;have FIN:=zaa (J2.o.fin (.I 7) (.string p) (.string ⟨#[]⟩) (.I g) (.I 0));obtain⟨c0,c1,c2,c3,c4,-⟩:=zas J2.o.box;obtain⟨d0,d1,d2,d3,d4,f0,f1,f2,f3,f4⟩:=zas J2.o.res;have Z1:Hid ((p:ByteArray).size<=100):=ZP;have Z2:Hid ((⟨#[]⟩:ByteArray).size<=100):=zaa (by decide);go_wp2;refine bodyPost_ret (v:=.agg #[.I 7,.string p,.string ⟨#[]⟩,.I g,.I 0]) (by simp[results,Tryz.results43,go_sem,d0,d1,d2,d3,d4]) rfl ?_;exact⟨_,_,_,_,_,rfl,Z1.o,Z2.o,zsk Z1.o Z2.o (by omega) (by first | exact .inl rfl | exact .inr (.inl rfl) | exact .inr (.inr rfl)) (by first | exact .inl rfl | exact .inr rfl) (by first | exact .inl rfl | exact .inr (by omega)),FIN.o.1.more (by omega),FIN.o.2⟩
  ·have I2:Hid (OpI w0 w w3 b (k+15) vC bs ob (.I 8) (.string p) (.string ⟨#[]⟩) (.I 0) (.I 0)):=I1;clear I1;obtain⟨c0,c1,c2,c3,c4,f0,f1,f2,f3,f4⟩:=zas I2.o.box;go_wp2_with fail;refine(zbz 9 (by omega) w0 _ b _ vC bs I2.o.src (by omega)).mono ?_;rintro e x1 ⟨g,rfl,g0,g1,hs,ho,-⟩;have J1:=zaa (I2.o.drew hs ho);clear hs ho c0 c1 c2 c3 c4 f0 f1 f2 f3 f4 I2;obtain⟨c0,c1,c2,c3,c4,f0,f1,f2,f3,f4⟩:=zas J1.o.box
   obtain⟨X2,hX2⟩:=zE (x1.setCell ⟨ob,3,none⟩ (.I g))
   have J2:=zaa (J1.o.set3 (.I g));rw[<- hX2]at J2;go_upto_region 17 with fail;rw[<- hX2];clear hX2 c0 c1 c2 c3 c4 f0 f1 f2 f3 f4 J1;have FIN:=zaa (J2.o.fin (.I 8) (.string p) (.string ⟨#[]⟩) (.I g) (.I 0));obtain⟨c0,c1,c2,c3,c4,-⟩:=zas J2.o.box;obtain⟨d0,d1,d2,d3,d4,f0,f1,f2,f3,f4⟩:=zas J2.o.res;have Z1:Hid ((p:ByteArray).size<=100):=ZP;have Z2:Hid ((⟨#[]⟩:ByteArray).size<=100):=zaa (by decide);go_wp2;refine bodyPost_ret (v:=.agg #[.I 8,.string p,.string ⟨#[]⟩,.I g,.I 0]) (by simp[results,Tryz.results43,go_sem,d0,d1,d2,d3,d4]) rfl ?_;exact⟨_,_,_,_,_,rfl,Z1.o,Z2.o,zsk Z1.o Z2.o (by omega) (by first | exact .inl rfl | exact .inr (.inl rfl) | exact .inr (.inr rfl)) (by first | exact .inl rfl | exact .inr rfl) (by first | exact .inl rfl | exact .inr (by omega)),FIN.o.1.more (by omega),FIN.o.2⟩
  ·have I2:Hid (OpI w0 w w3 b (k+15) vC bs ob (.I 9) (.string p) (.string ⟨#[]⟩) (.I 0) (.I 0)):=I1;clear I1;obtain⟨c0,c1,c2,c3,c4,f0,f1,f2,f3,f4⟩:=zas I2.o.box;go_wp2_with fail;refine(zkg w0 _ b _ vC bs I2.o.src (by omega)).mono ?_;rintro e x1 ⟨t,rfl,mt,hs,ho⟩;have J1:=zaa (I2.o.drew hs ho);have ZT:=zaa mt;clear mt;clear hs ho c0 c1 c2 c3 c4 f0 f1 f2 f3 f4 I2;obtain⟨c0,c1,c2,c3,c4,f0,f1,f2,f3,f4⟩:=zas J1.o.box
   obtain⟨X2,hX2⟩:=zE (x1.setCell ⟨ob,1,none⟩ (.string t))
   have J2:=zaa (J1.o.set1 (.string t));rw[<- hX2]at J2;go_upto_region 17 with fail;rw[<- hX2];clear hX2 c0 c1 c2 c3 c4 f0 f1 f2 f3 f4 J1;have FIN:=zaa (J2.o.fin (.I 9) (.string t) (.string ⟨#[]⟩) (.I 0) (.I 0));obtain⟨c0,c1,c2,c3,c4,-⟩:=zas J2.o.box;obtain⟨d0,d1,d2,d3,d4,f0,f1,f2,f3,f4⟩:=zas J2.o.res;have Z1:Hid ((t:ByteArray).size<=100):=ZT;have Z2:Hid ((⟨#[]⟩:ByteArray).size<=100):=zaa (by decide);go_wp2;refine bodyPost_ret (v:=.agg #[.I 9,.string t,.string ⟨#[]⟩,.I 0,.I 0]) (by simp[results,Tryz.results43,go_sem,d0,d1,d2,d3,d4]) rfl ?_;exact⟨_,_,_,_,_,rfl,Z1.o,Z2.o,zsk Z1.o Z2.o (by omega) (by first | exact .inl rfl | exact .inr (.inl rfl) | exact .inr (.inr rfl)) (by first | exact .inl rfl | exact .inr rfl) (by first | exact .inl rfl | exact .inr (by omega)),FIN.o.1.more (by omega),FIN.o.2⟩
  ·have I2:Hid (OpI w0 w w3 b (k+15) vC bs ob (.I 10) (.string p) (.string ⟨#[]⟩) (.I 0) (.I 0)):=I1;clear I1;obtain⟨c0,c1,c2,c3,c4,f0,f1,f2,f3,f4⟩:=zas I2.o.box;go_wp2_with fail;refine(zkg w0 _ b _ vC bs I2.o.src (by omega)).mono ?_;rintro e x1 ⟨t,rfl,mt,hs,ho⟩;have J1:=zaa (I2.o.drew hs ho);have ZT:=zaa mt;clear mt;clear hs ho c0 c1 c2 c3 c4 f0 f1 f2 f3 f4 I2;obtain⟨c0,c1,c2,c3,c4,f0,f1,f2,f3,f4⟩:=zas J1.o.box
   obtain⟨X2,hX2⟩:=zE (x1.setCell ⟨ob,1,none⟩ (.string t))
   have J2:=zaa (J1.o.set1 (.string t));rw[<- hX2]at J2;go_upto_region 17 with fail;rw[<- hX2];clear hX2 c0 c1 c2 c3 c4 f0 f1 f2 f3 f4 J1;have FIN:=zaa (J2.o.fin (.I 10) (.string t) (.string ⟨#[]⟩) (.I 0) (.I 0));obtain⟨c0,c1,c2,c3,c4,-⟩:=zas J2.o.box;obtain⟨d0,d1,d2,d3,d4,f0,f1,f2,f3,f4⟩:=zas J2.o.res;have Z1:Hid ((t:ByteArray).size<=100):=ZT;have Z2:Hid ((⟨#[]⟩:ByteArray).size<=100):=zaa (by decide);go_wp2;refine bodyPost_ret (v:=.agg #[.I 10,.string t,.string ⟨#[]⟩,.I 0,.I 0]) (by simp[results,Tryz.results43,go_sem,d0,d1,d2,d3,d4]) rfl ?_;exact⟨_,_,_,_,_,rfl,Z1.o,Z2.o,zsk Z1.o Z2.o (by omega) (by first | exact .inl rfl | exact .inr (.inl rfl) | exact .inr (.inr rfl)) (by first | exact .inl rfl | exact .inr rfl) (by first | exact .inl rfl | exact .inr (by omega)),FIN.o.1.more (by omega),FIN.o.2⟩
theorem yapk(w0 w:World)(b k:Nat)(vC:Value)(bs:List Int)(h:Src w0 w b vC bs k)(hk:k<=600000) :
  zC 43 #[.pointer (some ⟨b,0,none⟩)] w fun e w'=>∃ kd p t g y,e=.returned (.agg #[.I kd,.string p,.string t,.I g,.I y])/\p.size<=100/\t.size<=100/\Src w0 w' b vC bs (k+60)/\Outside b (b+1) w w':=by
 refine(yaui w0 w b k vC bs h hk).mono ?_;rintro e w' ⟨kd,p,t,g,y,rfl,mp,mt,-,hs,ho⟩;exact⟨_,_,_,_,_,rfl,mp,mt,hs,ho⟩
def zpc:List Int:=List.replicate 336 0
def zs32:List Int:=List.replicate 32 0
theorem zfm:zpc.length=336:=List.length_replicate ..
theorem yafx:zs32.length=32:=List.length_replicate ..
def ndW:List Int:=((zpc.set 0 7).set 48 2).set 50 1
def n336:Array Value:=(zcl zpc).toArray
def n32:Array Value:=(zcl zs32).toArray
theorem yaun:madeCells #[Value.I 0] (336*1)=n336:=by kernel_rfl
theorem ybac:madeCells #[Value.I 0] (32*1)=n32:=by kernel_rfl
theorem zys(w:World):(Instr.makeSlice 23 (.I 336) (.I 336)).run Tryz.prog w=.ok (.slice (some ⟨w.heap.size,0,none⟩) 336 336) (w.alloc (.cells n336 3)):=by
 rw[<- yaun];exact zmo (P:=Tryz.prog) 23 3 (.I 0) 1 8 Tryz.underlying23 zim .i64 .i64 336 (by decide) (by decide) w
theorem yaho(w:World):(Instr.makeSlice 23 (.I 32) (.I 32)).run Tryz.prog w=.ok (.slice (some ⟨w.heap.size,0,none⟩) 32 32) (w.alloc (.cells n32 3)):=by
 rw[<- ybac];exact zmo (P:=Tryz.prog) 23 3 (.I 0) 1 8 Tryz.underlying23 zim .i64 .i64 32 (by decide) (by decide) w
structure NDc(w0 wx:World)(bw bs bx:Nat)(vP vQ:Value)(W:List Int):Prop where
 hw:wx.heap[bw]?=some (.cells (zcl W).toArray 3 (0,0))
 hs:wx.heap[bs]?=some (.cells n32 3 (0,0))
 hx:wx.heap[bx]?=some (.cells #[.slice (some ⟨bw,0,none⟩) 336 336,vP,.slice (some ⟨bs,0,none⟩) 32 32,vQ] 31 (0,0))
 d1:¬ bw=bs
 d2:¬ bw=bx
 d3:¬ bs=bx
 l1:w0.heap.size<=bw
 l2:w0.heap.size<=bs
 l3:w0.heap.size<=bx
 b:zB w0 wx
theorem NDc.drew{w0 wx:World}{bw bs bx:Nat}{vP vQ:Value}{W:List Int}(h:NDc w0 wx bw bs bx vP vQ W):NDc w0 wx.drew bw bs bx vP vQ W :=
 ⟨h.hw,h.hs,h.hx,h.d1,h.d2,h.d3,h.l1,h.l2,h.l3,h.b.drew⟩
theorem NDc.mk0 {w0 wx:World} {bw bs bx:Nat} {vP vQ:Value} (hx:wx.heap[bx]?=some (.cells #[.slice (some ⟨bw,0,none⟩) 336 336,vP,.slice (some ⟨bs,0,none⟩) 32 32,vQ] 31 (0,0)))
  (hw:wx.heap[bw]?=some (.cells n336 3 (0,0))) (hs:wx.heap[bs]?=some (.cells n32 3 (0,0))) (d1:¬ bw=bs) (d2:¬ bw=bx) (d3:¬ bs=bx) (l1:w0.heap.size<=bw) (l2:w0.heap.size<=bs) (l3:w0.heap.size<=bx) (b:zB w0 wx):NDc w0 wx bw bs bx vP vQ zpc:=⟨hw,hs,hx,d1,d2,d3,l1,l2,l3,b⟩
theorem NDc.store{w0 wx:World}{bw bs bx:Nat}{vP vQ:Value}{W:List Int}(h:NDc w0 wx bw bs bx vP vQ W)(j:Nat)(x:Int):NDc w0 (wx.setCell ⟨bw,j,none⟩ (.I x)) bw bs bx vP vQ (W.set j x):=by
 have d1:=h.d1;have d2:=h.d2;refine⟨?_,(Below.heap_setCell _ _ _ _ (by simp only;omega)).trans h.hs,(Below.heap_setCell _ _ _ _ (by simp only;omega)).trans h.hx,h.d1,h.d2,h.d3,h.l1,h.l2,h.l3,h.b.setCell h.l1 _⟩;rw[<- zic];exact zcq h.hw j _
theorem NDc.at{w0 wx:World}{bw bs bx:Nat}{vP vQ:Value}{W:List Int}(h:NDc w0 wx bw bs bx vP vQ W)(j:Nat)(hj:j<W.length):wx.cell? ⟨bw,j,none⟩=some (.I W[j])/\wx.frozen? ⟨bw,j,none⟩=false:=by
 obtain⟨a,b⟩:=zak h.hw j;exact⟨a.trans (zde W j hj),b⟩
def NDr(w0:World)(s:Value)(wx:World):Prop:=∃ (bw bs bx:Nat) (aP aQ:Option Addr),s=.pointer (some ⟨bx,0,none⟩)/\NDc w0 wx bw bs bx (.slice aP 0 0) (.slice aQ 0 0) zpc
theorem NDr.mk{w0 wx:World}{bw bs bx:Nat}{aP aQ:Option Addr}(h:NDc w0 wx bw bs bx (.slice aP 0 0) (.slice aQ 0 0) zpc):NDr w0 (.pointer (some ⟨bx,0,none⟩)) wx:=⟨bw,bs,bx,aP,aQ,rfl,h⟩
theorem yadz{w:World}{b n:Nat}{zs:List Int}(h:w.heap[b]?=some (.cells (zcl zs).toArray 3 (0,0)))(hn:zs.length=n):RdI w (.slice (some ⟨b,0,none⟩) n n) zs:=by
 subst hn;refine⟨by rw[zgb,Nat.mul_one],some ⟨b,0,none⟩,zs.length,rfl,⟨Nat.le_refl _,fun e=>by cases e⟩,fun _=>⟨b,0,rfl,(Array.getElem?_eq_some_iff.1 h).1,fun j hj=>?_⟩⟩;rw[Nat.zero_add];exact(zak (xs:=zcl zs) h j).1
theorem yagl(w:World)(size:Nat)(a:Option Addr):Rd w size (.slice a 0 0) 0 []:=⟨by simp,a,0,rfl,⟨Nat.le_refl _,fun _=>rfl⟩,fun h=>absurd h (by omega)⟩
theorem yaxf:ndW.length=336:=by unfold ndW;rw[List.length_set,List.length_set,List.length_set,zfm]
def yarx(l:Array Bool):Nat:=(l.toList.filter fun b=>!b).length
theorem zzz{l:Array Bool}{i:Nat}(h:l.getD i true=false):yarx (l.setIfInBounds i true)+1=yarx l:=by
 have hi:i<l.size:=by
  rcases Nat.lt_or_ge i l.size with h1 | h1
  ·exact h1
  ·rw[Array.getD_eq_getD_getElem?,Array.getElem?_eq_none h1]at h;cases h
 have he:l[i]=false:=by
  rw[Array.getD_eq_getD_getElem?,Array.getElem?_eq_getElem hi]at h;exact h
 obtain⟨l⟩:=l;simp only[List.size_toArray]at hi;simp only[List.getElem_toArray]at he;unfold yarx;simp only[List.setIfInBounds_toArray]
 have e:l=l.take i++l[i]::l.drop (i+1):=by rw[List.getElem_cons_drop,List.take_append_drop]
 have e':l.set i true=l.take i++true::l.drop (i+1):=by rw[List.set_eq_take_append_cons_drop,if_pos hi]
 rw[e']
 conv=>rhs;rw[e]
 rw[he,List.filter_append,List.filter_append,List.length_append,List.length_append];simp;omega
theorem zvd{md:Region.Mode}{ops:Array Oper}{l:Array Bool}{i:Nat}(h:i∈Region.ready md ops l):i<ops.size/\l.getD i true=false/\∃ o,ops[i]?=some o/\∀ e∈o.after,Region.binds md e=true->l.getD e.on false=true:=by
 unfold Region.ready at h;rw[List.mem_filter,List.mem_range,Bool.and_eq_true]at h;obtain⟨h1,h2,h3⟩:=h;refine⟨h1,by simpa using h2,ops[i],Array.getElem?_eq_getElem h1,fun e he hb=>?_⟩;rw[Array.getElem?_eq_getElem h1]at h3;simp only[Option.map_some,Option.getD_some,Array.all_eq_true_iff_forall_mem]at h3;have:=h3 e he;rw[hb]at this;simpa using this
theorem zzt {P:Program} {md:Region.Mode} {ops:Array Oper} {Q:Exit->Act->World->Prop} (Inv:Array Bool->Act->World->Prop)
  (step:∀ l a w,Inv l a w->∀ i∈Region.ready md ops l,wpOp P ops Q i (Inv (l.setIfInBounds i true)) a w)
  (done:∀ l a w,Inv l a w->Region.ready md ops l=[]->Q .normal a w):∀ fuel l a w,yarx l<=fuel->Inv l a w->wpAny P md ops Q fuel l a w
 | 0,l,a,w,hf,h=>by
  have hr:Region.ready md ops l=[]:=by
   rw[List.eq_nil_iff_forall_not_mem];intro i hi;have:=zzz (zvd hi).2.1;omega
  exact⟨hr,done l a w h hr⟩
 | fuel+1,l,a,w,hf,h=>by
  refine⟨fun hr=>done l a w h hr,fun i hi=>?_⟩;refine wpOp_mono (fun a' w' h'=>zzt Inv step done fuel _ a' w' ?_ h') (step l a w h i hi);have:=zzz (zvd hi).2.1;omega
end Go.Proofs.YtdiaiejmoocpmaaGreatDoor
