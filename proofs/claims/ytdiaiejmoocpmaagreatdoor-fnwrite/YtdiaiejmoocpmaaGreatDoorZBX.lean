import Derived.Deep.MidRow
import Derived.Deep.WholeRow
import Derived.Test.YtdiaiejmoocpmaaGreatDoorZBW
import Derived.Test.YtdiaiejmoocpmaaGreatDoorZBD
set_option maxRecDepth 100000
set_option maxHeartbeats 8000000
namespace Go.Proofs.YtdiaiejmoocpmaaGreatDoor
open Go.RowKit
theorem zpg {P:Program} {ops:Array Oper} {rest:List Oper} {o:Oper} {a:Act} {w0:World} {Q:Exit->Act->World->Prop} (hgd:o.guard=none) (t:TypeId) (x y:Operand) (ho:o.op=.store t x y) (c c':Array Value)
  (hx:a.eval x=.pointer (some ⟨w0.heap.size,0,none⟩)) (hy:a.eval y=.agg c') (hi:(P.info? t).map (·.size)=some c'.size) (hold:c.size=c'.size) (h1:c'.all (·.oneCell')=true)
  (h:wpList P ops Q rest (a.put o.dst undef) (w0.alloc (.cells c' t))):wpList P ops Q (o::rest) a (w0.alloc (.cells c t)) :=
 wpList_plain hgd fun _ hK=>wp_store_row t x y ho w0.heap.size c' hx hy t c (heap_alloc_last w0 _) hi hold h1 (by rw[World.setRow_alloc_new];exact hK _ _ h)
theorem yahh{w:World}{b o:Nat}{zs:List Int}(h:∀ k (h:k<zs.length),w.cell? ⟨b,o+k,none⟩=some (.I zs[k])):w.rangeAt b o (zcl zs):=by
 intro j v hv
 have hj:j<zs.length:=by have:=(List.getElem?_eq_some_iff.1 hv).1;rwa [zgb]at this
 rw[zde zs j hj]at hv
 cases hv
 exact h j hj
def ziv:Array Value:=(List.replicate 32 (Value.I 0)).toArray
theorem zwj(w:World):(zeroValue 178).run Tryz.prog w=.ok (.agg ziv) w:=by kernel_rfl
theorem ztm:ziv.size=32:=by unfold ziv;rw[List.size_toArray,List.length_replicate]
theorem yavh:(Tryz.prog.info? 178).map (·.size)=some 32:=by kernel_rfl
theorem ybcs(w:World)(ws:List Int)(hl:ws.length=32):Row (w.alloc (.cells (zcl ws).toArray 178)) 178 1 w.heap.size (w.heap.size+1) (.slice (some ⟨w.heap.size,0,none⟩) 32 32) 32 (zcl ws):=by
 have:=World.ownsRow_lit (base:=w.heap.size) (e:=178) (size:=1) w (zcl ws).toArray 32 zL (by simp[maxLen]) (by simp[zcl,hl]);exact⟨by simpa using this,fun k hk=>by cases hk;exact Nat.lt_succ_self _⟩
theorem yacw(a:Option Addr)(n cap:Nat)(hn:32<=n)(w:World):(Instr.arrayAt 178 (.slice a n cap)).run Tryz.prog w=.ok (.pointer a) w:=by
 have h:¬ n<32:=by omega
 simp[Instr.arrayAt,run_underlying Tryz.underlying178,h,go_sem]
theorem yatu(zs:List Int):(zcl zs).toArray.all (·.oneCell')=true:=all_oneCell_toArray (zeg zs)
theorem zma(v:Value)(ws:List Int)(ps:List Se)(w:World)(h:RdBlk w v ws ps)(hw:ws.length<=1048576)(hp:ps.length<=1048576) :
  zC 80 #[v] w fun e w'=>∃ v',e=.returned (.tuple #[v',.I (barC ws ps)])/\RowBlk w' w.heap.size w'.heap.size v' (zkc ws ps) []/\zB w w':=by
 have HR:=zaa h;obtain⟨vW,vP,rfl,h1,h2⟩:=h;obtain⟨aW,cW,rfl,_,hcW⟩:=h1.shape;obtain⟨aP,cP,rfl,_,hcP⟩:=h2.shape;have HP:=zaa hcP;have HW:=zaa hcW;clear h1 h2 hcP hcW
 have hb0:zB w ((w.alloc (.cells #[.slice aW ws.length cW,.slice aP ps.length cP] 29)).alloc (.cells #[.N,.N] 29)):=by
  repeat (refine Below.alloc ?_ (by simp<;>omega) _)
  exact zR
 by_cases hc:zdk ws ps=true
 ·obtain⟨e1,e2⟩:=ybau hc;rw[e1,e2];have OK:=zaa (yawm hc);have L32:=zaa (zcj hc).1;obtain⟨bW,oW,rfl,hbW,hcellW⟩:=HW.o (by have:=L32.o;omega);have HCW:=zaa hcellW;have C:=zaa hc
  have hge32:¬ (ws.length:Int)<32:=by have:=L32.o;omega
  clear e1 e2 hc hcellW;go_enter Tryz.func80,Tryz.ntmps80;go_wp2_with fail;refine(zdd _ ws ps _ (HR.o.below hb0) hw hp).mono ?_;rw[C.o];rintro e w1 ⟨rfl,hb1⟩
  have hz1:w.heap.size+2<=w1.heap.size:=by have:=hb1.size;simp at this;omega
  have V0:=(hb1.block w.heap.size (by simp<;>omega)).trans (zaj (zaf rfl));have V1:=(hb1.block (w.heap.size+1) (by simp)).trans (zaf (by simp));have B1:=zaa (zab hb0 hb1 (by simp<;>omega));obtain⟨x1,x2,x3,x4⟩:=zac V0;obtain⟨z1,z2,z3,z4⟩:=zac (zaj (o:=.cells (zcl ws).toArray 178) V0);have VR:=zaa (zaj (o:=.cells (zcl ws).toArray 178) V1);have RNG:=zaa (yahh (w:=w1) (b:=bW) (o:=oW) (zs:=ws) (fun k hk=>(B1.o.cell (p:=⟨bW,oW+k,none⟩) hbW).trans (HCW.o k hk)));have SZ:=zaa (show(Tryz.prog.info? 178).map (·.size)=some (zcl ws).length by rw[zgb,L32.o];exact yavh);have SZ2:=zaa (show(Tryz.prog.info? 178).map (·.size)=some (zcl ws).toArray.size by rw[List.size_toArray,zgb,L32.o];exact yavh);have SZ3:=zaa (show ziv.size=(zcl ws).toArray.size by rw[ztm,List.size_toArray,zgb,L32.o]);have START:=zaa (ybcs w1 ws L32.o);have BS:=zaa (B1.o.alloc (by omega) (.cells (zcl ws).toArray 178));have hal:=zwj;have har:=yacw (some ⟨bW,oW,none⟩) ws.length cW (by have:=L32.o;omega);clear hb0 hb1 V0 V1
  go_wp2_with (first
   | (refine wpList_load_mid rfl 178 (.tmp 13) rfl bW oW rfl (zcl ws) _ RNG.o Tryz.underlying178 rfl SZ.o ?_)
   | (refine zpg rfl 178 (.tmp 4) (.tmp 14) rfl ziv (zcl ws).toArray rfl rfl SZ2.o SZ3.o (yatu ws) ?_))
  clear hal har
  go_loopw [6,18] (fun _ i wr=>∃ m:Nat,m<=ps.length/\i=.I m/\Row wr 178 1 w1.heap.size (w1.heap.size+1) (.slice (some ⟨w1.heap.size,0,none⟩) 32 32) 32 (zcl (zua ws (ps.take m)))/\(zB w wr/\wr.heap[w.heap.size+1]?=some (.cells #[.N,.N] 29 (0,0)))/\w1.heap.size+1<=wr.heap.size) (fun _ i _=>ps.length-(intOf i).toNat)
  case atStart=>exact⟨0,by omega,rfl,START.o,⟨BS.o,VR.o⟩,by simp⟩
  case round =>
   obtain⟨m,hm,rfl,hrow,⟨hb,hv⟩,hz⟩:=hrel
   by_cases hlt:m<ps.length
   ·obtain⟨b,o,rfl,hbl,hcell⟩:=HP.o (by omega);obtain⟨e0,e1⟩:=hcell m hlt;have d0:=(hb.cell (p:=⟨b,o+m*2,none⟩) hbl).trans e0;have d1:=(hb.cell (p:=⟨b,o+m*2+1,none⟩) hbl).trans e1;obtain⟨q0,q1⟩:=OK.o m hlt;have hl32:=L32.o
    obtain⟨_,_,_,_,hfrw,hclw⟩:=(hrow.alloc hz (.cells #[.I ps[m].at_,.I ps[m].val] 153)).at
    have hj:ps[m].at_.toNat<(zua ws (ps.take m)).length:=by rw[zjx];omega
    have g0:=hfrw ps[m].at_.toNat;have g1:=(hclw ps[m].at_.toNat (by omega)).trans (zde _ _ hj)
    have F:Hid (Row ((wr.alloc (.cells #[.I ps[m].at_,.I ps[m].val] 153)).setCell ⟨w1.heap.size,ps[m].at_.toNat,none⟩ (.I ps[m].val)) 178 1 w1.heap.size (w1.heap.size+1) (.slice (some ⟨w1.heap.size,0,none⟩) 32 32) 32 (zcl (zua ws (ps.take (m+1))))):=by
     rw[zdb ps m hlt,yaai,<- zic];exact(hrow.alloc hz _).stored _ _
    have G:=zaa ((hb.alloc (by omega) (.cells #[.I ps[m].at_,.I ps[m].val] 153)).setCell (p:=⟨w1.heap.size,ps[m].at_.toNat,none⟩) (by simp only;omega) (.I ps[m].val))
    have V:Hid (((wr.alloc (.cells #[.I ps[m].at_,.I ps[m].val] 153)).setCell ⟨w1.heap.size,ps[m].at_.toNat,none⟩ (.I ps[m].val)).heap[w.heap.size+1]?=some (.cells #[.N,.N] 29 (0,0))):=by
     rw[Below.heap_setCell _ _ _ _ (by simp only;omega)];exact zaj hv
    clear hrow hcell e0 e1 hfrw hclw hl32;go_wp2
    go_roundw
    case rel=>exact⟨m+1,by omega,by go_num,F.o,⟨G.o,V.o⟩,by simp;omega⟩
    case measure=>simp[intOf];omega
   ·have e:m=ps.length:=by omega
    subst e;have R:=zaa hrow;obtain⟨t1,t2,t3,t4⟩:=zac hv;clear hrow hv;go_wp2;refine bodyPost_ret (v:=.tuple #[.agg #[.slice (some ⟨w1.heap.size,0,none⟩) 32 32,.N],.I 0]) (by simp[results,Tryz.results80,go_sem,t1,t2]) rfl ?_;refine⟨_,rfl,⟨_,_,rfl,⟨178,by decide,?_⟩,Row.nil _ _ _ _ _⟩,(hb.setCell (by simp only;omega) _).setCell (by simp only;omega) _⟩;have:=R.o;rw[List.take_length]at this;rw[zjx,L32.o];refine(this.same fun b h1 h2=>?_).wide (by omega) (by simp;omega);rw[Below.heap_setCell _ _ _ _ (by simp only;omega),Below.heap_setCell _ _ _ _ (by simp only;omega)]
 ·have hc':zdk ws ps=false:=by simpa using hc
  clear hc;obtain⟨e1,e2⟩:=yayj hc';rw[e1,e2];have C:=zaa hc';clear e1 e2 hc';go_enter Tryz.func80,Tryz.ntmps80;go_wp2_with fail;refine(zdd _ ws ps _ (HR.o.below hb0) hw hp).mono ?_;rw[C.o];rintro e w1 ⟨rfl,hb1⟩;have V1:=(hb1.block (w.heap.size+1) (by simp)).trans (zaf (by simp));obtain⟨t1,t2,t3,t4⟩:=zac V1;have B1:=zaa (zab hb0 hb1 (by simp<;>omega));clear hb0 hb1 V1;go_wp2;refine bodyPost_ret (v:=.tuple #[.agg #[.N,.N],.I 1]) (by simp[results,Tryz.results80,go_sem,t1,t2]) rfl ?_;exact⟨_,rfl,RowBlk.zero _ _ _,(B1.o.setCell (by simp only;omega) _).setCell (by simp only;omega) _⟩
theorem RowBlk3.z{w:World}{lo hi:Nat}{v:Value}{ws:List Int}{ps:List Se}(h:RowBlk3 w lo hi v ws ps):RowBlk w lo hi v ws ps:=by
 obtain⟨vW,vP,e,h1,h2⟩:=h;exact⟨vW,vP,e,h1.z,h2⟩
theorem zmi(w:World)(bD bR i j:Nat)(h:bD<=bR)(x y a b c d:Value):Outside bD (bR+1) w (putD w bD bR i j x y a b c d):=by
 unfold putD
 repeat (refine Outside.setCell ?_ (by simp only;omega) (by simp only;omega) _)
 exact Outside.refl _ _ _
def RowDevB(w:World)(b lo hi:Nat)(v:Value)(ws:List Int)(ps:List St)(es:List Int)(qs:List Se):Prop :=
 ∃ vW vP vS vQ l1 h1 l2 h2,v=.agg #[vW,vP,vS,vQ]/\RowPm w l1 h1 (.agg #[vW,vP]) ws ps/\RowBlk w l2 h2 (.agg #[vS,vQ]) es qs/\(lo<=l1/\h1<=hi/\lo<=l2/\h2<=hi/\(h1<=l2\/h2<=l1))/\(h1<=b\/b<l1)/\(h2<=b\/b<l2)
theorem RowDevB.row{w:World}{b lo hi:Nat}{v:Value}{ws:List Int}{ps:List St}{es:List Int}{qs:List Se}(h:RowDevB w b lo hi v ws ps es qs):RowDev w lo hi v ws ps es qs:=by
 obtain⟨vW,vP,vS,vQ,l1,h1,l2,h2,e,r1,r2,c,_⟩:=h;exact⟨vW,vP,vS,vQ,l1,h1,l2,h2,e,r1,r2,c⟩
theorem RowDev.b{w:World}{lo hi:Nat}{v:Value}{ws:List Int}{ps:List St}{es:List Int}{qs:List Se}(h:RowDev w lo hi v ws ps es qs)(b:Nat)(hb:b<lo\/hi<=b):RowDevB w b lo hi v ws ps es qs:=by
 obtain⟨vW,vP,vS,vQ,l1,h1,l2,h2,e,r1,r2,c⟩:=h;exact⟨vW,vP,vS,vQ,l1,h1,l2,h2,e,r1,r2,c,by omega,by omega⟩
theorem RowDevB.below{w w':World}{b lo hi:Nat}{v:Value}{ws:List Int}{ps:List St}{es:List Int}{qs:List Se}(h:RowDevB w b lo hi v ws ps es qs){B:Nat}(hb:Below B w w')(hB:hi<=B):RowDevB w' b lo hi v ws ps es qs:=by
 obtain⟨vW,vP,vS,vQ,l1,h1,l2,h2,e,r1,r2,c,d⟩:=h;exact⟨vW,vP,vS,vQ,l1,h1,l2,h2,e,r1.below hb (by omega),r2.below hb (by omega),c,d⟩
theorem RowDevB.wide{w:World}{b lo hi:Nat}{v:Value}{ws:List Int}{ps:List St}{es:List Int}{qs:List Se}(h:RowDevB w b lo hi v ws ps es qs){lo' hi':Nat}(a:lo'<=lo)(a':hi<=hi'):RowDevB w b lo' hi' v ws ps es qs:=by
 obtain⟨vW,vP,vS,vQ,l1,h1,l2,h2,e,r1,r2,c,d⟩:=h;exact⟨vW,vP,vS,vQ,l1,h1,l2,h2,e,r1,r2,by omega,d⟩
theorem RowDevB.put{w w':World}{b lo hi:Nat}{v:Value}{ws:List Int}{ps:List St}{es:List Int}{qs:List Se}(h:RowDevB w b lo hi v ws ps es qs)(ho:Outside b (b+1) w w')(hz:hi<=w.heap.size):RowDevB w' b lo hi v ws ps es qs:=by
 obtain⟨vW,vP,vS,vQ,l1,h1,l2,h2,e,r1,r2,c,d⟩:=h;exact⟨vW,vP,vS,vQ,l1,h1,l2,h2,e,r1.outside ho (by omega) (by omega),r2.outside ho (by omega) (by omega),c,d⟩
def barL(_:List Int)(_:List Se):List Se:=[]
theorem zos(v:Value)(ws:List Int)(ps:List Se)(w:World)(h:RdBlk w v ws ps)(hw:ws.length<=1048576)(hp:ps.length<=1048576) :
  zC 80 #[v] w fun e w'=>∃ v',e=.returned (.tuple #[v',.I (barC ws ps)])/\RowBlk w' w.heap.size w'.heap.size v' (zkc ws ps) (barL ws ps)/\zB w w':=zma v ws ps w h hw hp
theorem yamz(v:Value)(ws:List Int)(ps:List Se)(w:World)(h:RdBlk w v ws ps)(hw:ws.length<=2147483648)(hp:ps.length<=2147483648) :
  zC 75 #[v] w fun e w'=>∃ v',e=.returned v'/\RowBlk w' w.heap.size w'.heap.size v' ws ps/\zB w w':=by
 refine(zkx v ws ps w h hw hp).mono ?_;rintro e w' ⟨v',rfl,hr,hb⟩;exact⟨v',rfl,hr.z,hb⟩
theorem zro(v:Value)(ws:List Int)(ps:List St)(es:List Int)(qs:List Se)(w:World)(h:RdDev w v ws ps es qs)(hw:ws.length<=1048576)(hp:ps.length<=1048576)(he:es.length<=1048576)(hq:qs.length<=1048576) :
  zC 32 #[v] w fun e w'=>∃ v',e=.returned v'/\RowDev w' w.heap.size w'.heap.size v' ws ps es qs/\zB w w':=by
 obtain⟨aW,cW,aP,cP,aS,cS,aQ,cQ,rfl,r1,r2⟩:=h.form;have R1:=zaa r1;have R2:=zaa r2;clear h r1 r2
 have hb0:zB w ((w.alloc (.cells #[.slice aW ws.length cW,.slice aP ps.length cP,.slice aS es.length cS,.slice aQ qs.length cQ] 31)).alloc (.cells #[.N,.N,.N,.N] 31)):=by
  repeat (refine Below.alloc ?_ (by simp<;>omega) _)
  exact zR
 go_enter Tryz.func32,Tryz.ntmps32;go_upto_region 1 with fail
 obtain⟨w0,hw0⟩:∃ w0:World,w0=(w.alloc (.cells #[.slice aW ws.length cW,.slice aP ps.length cP,.slice aS es.length cS,.slice aQ qs.length cQ] 31)).alloc (.cells #[.N,.N,.N,.N] 31):=⟨_,rfl⟩
 rw[<- hw0];rw[<- hw0]at hb0
 have hz0:w.heap.size+2<=w0.heap.size:=by rw[hw0];simp
 have V0:Hid (w0.heap[w.heap.size]?=some (.cells #[.slice aW ws.length cW,.slice aP ps.length cP,.slice aS es.length cS,.slice aQ qs.length cQ] 31 (0,0))):=by rw[hw0];exact zaj (zaf rfl)
 have V1:Hid (w0.heap[w.heap.size+1]?=some (.cells #[.N,.N,.N,.N] 31 (0,0))):=by rw[hw0];exact zaf (by simp)
 clear hw0;have B0:=zaa hb0;clear hb0;obtain⟨x0,x1,x2,x3,-,-,-,-⟩:=zai V0.o;obtain⟨y0,y1,y2,y3,y4,y5,y6,y7⟩:=zai V1.o
 go_region_with (first
  | (go_at_call 74;refine(zju _ ws ps _ (R1.o.below (by first | exact B0.o | exact B0.o.drew)) (by omega) (by omega)).mono ?_;rintro e w1 ⟨v1,rfl,hr1,hb1⟩;obtain⟨aW1,cW1,aP1,cP1,rfl⟩:=hr1.form;have hz1:w0.heap.size<=w1.heap.size:=hb1.size;have B1:Hid (zB w0 w1):=(by first | exact hb1 | exact zab (zR.drew) hb1 zL);have Q1:Hid (RowPm w1 w0.heap.size w1.heap.size (.agg #[.slice aW1 ws.length cW1,.slice aP1 ps.length cP1]) ws ps):=hr1;obtain⟨z0,z1,z2,z3,-,-,-,-⟩:=zai ((B1.o.block w.heap.size (by omega)).trans V0.o);clear hr1 hb1)
  | (go_at_call 75;refine(yamz _ es qs _ (R2.o.below (by first | exact zab B0.o B1.o (by omega) | exact(zab B0.o B1.o (by omega)).drew)) (by omega) (by omega)).mono ?_;rintro e w2 ⟨v2,rfl,hr2,hb2⟩;obtain⟨aS2,cS2,aQ2,cQ2,rfl⟩:=hr2.form;have hz2:w1.heap.size<=w2.heap.size:=hb2.size;have B2:Hid (zB w1 w2):=(by first | exact hb2 | exact zab (zR.drew) hb2 zL);have Q2:Hid (RowBlk w2 w1.heap.size w2.heap.size (.agg #[.slice aS2 es.length cS2,.slice aQ2 qs.length cQ2]) es qs):=hr2;have VR:=zaa ((B2.o.block (w.heap.size+1) (by omega)).trans ((B1.o.block (w.heap.size+1) (by omega)).trans V1.o));obtain⟨t0,t1,t2,t3,t4,t5,t6,t7⟩:=zai VR.o;clear hr2 hb2))
 all_goals
  go_wp2;refine bodyPost_ret (v:=.agg #[.slice aW1 ws.length cW1,.slice aP1 ps.length cP1,.slice aS2 es.length cS2,.slice aQ2 qs.length cQ2]) (by simp[results,Tryz.results32,go_sem,t0,t1,t2,t3]) rfl ?_;have O:=zdr w2 (w.heap.size+1) (.slice aW1 ws.length cW1) (.slice aP1 ps.length cP1) (.slice aS2 es.length cS2) (.slice aQ2 qs.length cQ2);have Z:=zdv w2 (w.heap.size+1) (.slice aW1 ws.length cW1) (.slice aP1 ps.length cP1) (.slice aS2 es.length cS2) (.slice aQ2 qs.length cQ2);refine⟨_,rfl,⟨_,_,_,_,w0.heap.size,w1.heap.size,w1.heap.size,w2.heap.size,rfl,?_,?_,by omega,Nat.le_trans hz2 (Nat.le_of_eq Z.symm),by omega,Nat.le_of_eq Z.symm,.inl zL⟩,?_⟩
  ·exact(Q1.o.below B2.o zL).outside O (by omega) (by omega)
  ·exact Q2.o.outside O (by omega) zL
  ·exact(zab (zab B0.o B1.o (by omega)) B2.o (by omega)).trans (O.below (by omega) (by omega))
theorem yaue{a x:Int}{ws:List Int}{ps:List St}{es:List Int}{qs:List Se}(hp:pmB ws ps=true)(hb:zdk es qs=true)(ha:0<=a/\a<336)(hx:0<=x/\x<1099511627776) :
  mdC ⟨1,a,x⟩ ws ps es qs=zex ws ps a x/\mdW ⟨1,a,x⟩ ws ps es qs=zdo ws ps a x/\mdP ⟨1,a,x⟩ ws ps es qs=zdp ws ps a x/\mdE ⟨1,a,x⟩ ws ps es qs=es/\mdQ ⟨1,a,x⟩ ws ps es qs=qs:=by
 have hm:miB ⟨1,a,x⟩=true:=zkj (by omega);have h0:=zwc hp (show zbn a=true from decide_eq_true ha);have h1:zat x=true:=decide_eq_true hx
 rcases zmf ⟨1,a,x⟩ ws ps es qs with ⟨c,_⟩ | ⟨_,c,_⟩ | ⟨_,_,f,c0,c1,c2,c3,c4⟩ | ⟨_,_,f,c0,c1,c2,c3,c4⟩
 ·rw[hp,hb]at c;cases c
 ·rw[hm]at c;cases c
 ·have hl:ps.length=400:=by have:=of_decide_eq_true f;simp at this;exact this
  rcases zlk ws ps a x with ⟨q,_⟩ | ⟨_,q,_⟩ | ⟨_,_,_,d0,d1,d2⟩ | ⟨_,_,q,_⟩
  ·omega
  ·rw[h1]at q;cases q
  ·exact⟨c0.trans d0.symm,c1.trans d1.symm,c2.trans d2.symm,c3,c4⟩
  ·exact absurd hl q
 ·have hl:¬ ps.length=400:=by have:=of_decide_eq_false f;simp at this;exact this
  rcases zlk ws ps a x with ⟨q,_⟩ | ⟨_,q,_⟩ | ⟨_,_,q,_⟩ | ⟨_,_,_,d0,d1,d2⟩
  ·omega
  ·rw[h1]at q;cases q
  ·exact absurd q hl
  ·exact⟨c0.trans d0.symm,c1.trans d1.symm,c2.trans d2.symm,c3,c4⟩
theorem yase{a x:Int}{ws:List Int}{ps:List St}{es:List Int}{qs:List Se}(hp:pmB ws ps=true)(hb:zdk es qs=true)(ha:0<=a/\a<32)(hx:0<=x/\x<1099511627776) :
  mdC ⟨4,a,x⟩ ws ps es qs=zeu es qs a x/\mdW ⟨4,a,x⟩ ws ps es qs=ws/\mdP ⟨4,a,x⟩ ws ps es qs=ps/\mdE ⟨4,a,x⟩ ws ps es qs=zdm es qs a x/\mdQ ⟨4,a,x⟩ ws ps es qs=zdn es qs a x:=by
 have hm:miB ⟨4,a,x⟩=true:=zkj (by omega);have h0:=yadj hb (show zmm a=true from decide_eq_true ha);have h1:zat x=true:=decide_eq_true hx
 rcases zmf ⟨4,a,x⟩ ws ps es qs with ⟨c,_⟩ | ⟨_,c,_⟩ | ⟨_,_,f,c0,c1,c2,c3,c4⟩ | ⟨_,_,f,c0,c1,c2,c3,c4⟩
 ·rw[hp,hb]at c;cases c
 ·rw[hm]at c;cases c
 ·have hl:qs.length=400:=by have:=of_decide_eq_true f;simp at this;exact this
  rcases zla es qs a x with ⟨q,_⟩ | ⟨_,q,_⟩ | ⟨_,_,_,d0,d1,d2⟩ | ⟨_,_,q,_⟩
  ·omega
  ·rw[h1]at q;cases q
  ·exact⟨c0.trans d0.symm,c1,c2,c3.trans d1.symm,c4.trans d2.symm⟩
  ·exact absurd hl q
 ·have hl:¬ qs.length=400:=by have:=of_decide_eq_false f;simp at this;exact this
  rcases zla es qs a x with ⟨q,_⟩ | ⟨_,q,_⟩ | ⟨_,_,q,_⟩ | ⟨_,_,_,d0,d1,d2⟩
  ·omega
  ·rw[h1]at q;cases q
  ·exact absurd q hl
  ·exact⟨c0.trans d0.symm,c1,c2,c3.trans d1.symm,c4.trans d2.symm⟩
theorem zvj{k a x:Int}{ws:List Int}{ps:List St}{es:List Int}{qs:List Se}(hp:pmB ws ps=true)(hb:zdk es qs=true)(hm:miB ⟨k,a,x⟩=true)(h1:¬ k=1)(h4:¬ k=4) :
  mdC ⟨k,a,x⟩ ws ps es qs=0/\mdW ⟨k,a,x⟩ ws ps es qs=doW ⟨k,a,x⟩ ws ps/\mdP ⟨k,a,x⟩ ws ps es qs=doP ⟨k,a,x⟩ ps/\mdE ⟨k,a,x⟩ ws ps es qs=doE ⟨k,a,x⟩ es qs/\mdQ ⟨k,a,x⟩ ws ps es qs=doQ ⟨k,a,x⟩ qs:=by
 have hf:zhb ⟨k,a,x⟩ ps qs=false:=decide_eq_false (fun h=>by simp at h;omega)
 rcases zmf ⟨k,a,x⟩ ws ps es qs with ⟨c,_⟩ | ⟨_,c,_⟩ | ⟨_,_,f,_⟩ | ⟨_,_,_,c⟩
 ·rw[hp,hb]at c;cases c
 ·rw[hm]at c;cases c
 ·rw[hf]at f;cases f
 ·exact c
theorem yark{a:Int}{ws:List Int}{ps:List St}{es:List Int}{qs:List Se}(hp:pmB ws ps=true)(hb:zdk es qs=true)(ha:0<=a/\a<336) :
  mdC ⟨2,a,0⟩ ws ps es qs=zij ws ps a/\mdW ⟨2,a,0⟩ ws ps es qs=zeh ws ps a/\mdP ⟨2,a,0⟩ ws ps es qs=zei ws ps a/\mdE ⟨2,a,0⟩ ws ps es qs=es/\mdQ ⟨2,a,0⟩ ws ps es qs=qs:=by
 have h0:=zwc hp (show zbn a=true from decide_eq_true ha);obtain⟨c0,c1,c2,c3,c4⟩:=zvj (x:=0) hp hb (zkj (k:=2) (a:=a) (x:=0) (by omega)) (by omega) (by omega);unfold zeh zei;rw[if_pos h0,if_pos h0,h0];exact⟨c0,c1,c2,c3,c4⟩
theorem yatz{ws:List Int}{ps:List St}{es:List Int}{qs:List Se}(hp:pmB ws ps=true)(hb:zdk es qs=true) :
  mdC ⟨3,0,0⟩ ws ps es qs=zor ws ps/\mdW ⟨3,0,0⟩ ws ps es qs=zel ws ps/\mdP ⟨3,0,0⟩ ws ps es qs=zek ws ps/\mdE ⟨3,0,0⟩ ws ps es qs=es/\mdQ ⟨3,0,0⟩ ws ps es qs=qs:=by
 obtain⟨c0,c1,c2,c3,c4⟩:=zvj (x:=0) hp hb (zkj (k:=3) (a:=0) (x:=0) (by omega)) (by omega) (by omega);unfold zor zel zek;rw[if_pos hp,if_pos hp,if_pos hp];exact⟨c0,c1,c2,c3,c4⟩
theorem yazg{ws:List Int}{ps:List St}{es:List Int}{qs:List Se}(hp:pmB ws ps=true)(hb:zdk es qs=true) :
  mdC ⟨5,0,0⟩ ws ps es qs=barC es qs/\mdW ⟨5,0,0⟩ ws ps es qs=ws/\mdP ⟨5,0,0⟩ ws ps es qs=ps/\mdE ⟨5,0,0⟩ ws ps es qs=zkc es qs/\mdQ ⟨5,0,0⟩ ws ps es qs=barL es qs:=by
 obtain⟨c0,c1,c2,c3,c4⟩:=zvj (x:=0) hp hb (zkj (k:=5) (a:=0) (x:=0) (by omega)) (by omega) (by omega);unfold barC zkc;rw[if_pos hb,if_pos hb];exact⟨c0,c1,c2,c3,c4⟩
theorem ztx(v:Value)(k a x:Int)(ws:List Int)(ps:List St)(es:List Int)(qs:List Se)(b lo:Nat)(w:World)(hbx:b<w.heap.size)(hlo:lo<=w.heap.size)(h:RowDevB w b lo w.heap.size v ws ps es qs)(hp1:pmB ws ps=true)(hb1:zdk es qs=true)(hm:miB ⟨k,a,x⟩=true) :
  zC 33 #[v,.agg #[.I k,.I a,.I x]] w fun e w'=>∃ v',e=.returned (.tuple #[v',.I (mdC ⟨k,a,x⟩ ws ps es qs)])/\RowDevB w' b lo w'.heap.size v' (mdW ⟨k,a,x⟩ ws ps es qs) (mdP ⟨k,a,x⟩ ws ps es qs) (mdE ⟨k,a,x⟩ ws ps es qs) (mdQ ⟨k,a,x⟩ ws ps es qs)/\zB w w':=by
 obtain⟨vW,vP,vS,vQ,l1,h1,l2,h2,rfl,r1,r2,⟨c1,c2,c3,c4,c5⟩,c6,c7⟩:=h;obtain⟨aW,cW,aP,cP,e1⟩:=r1.form;obtain⟨aS,cS,aQ,cQ,e2⟩:=r2.form
 cases e1
 cases e2
 have R1:=zaa r1;have R2:=zaa r2;have hwl:ws.length<=336:=Nat.le_of_eq (zfh hp1).1;have hpl:ps.length<=400:=(zfh hp1).2;have hel:es.length<=32:=Nat.le_of_eq (zcj hb1).1;have hql:qs.length<=400:=(zcj hb1).2;have HP:=zaa (And.intro hp1 hb1);have hk:=(zjk k a x).1 hm;clear r1 r2 hp1 hb1 hm
 have hb0:zB w (((w.alloc (.cells #[.slice aW ws.length cW,.slice aP ps.length cP,.slice aS es.length cS,.slice aQ qs.length cQ] 31)).alloc (.cells #[.I k,.I a,.I x] 84)).alloc (.cells #[.N,.N,.N,.N] 31)):=by
  repeat (refine Below.alloc ?_ (by simp<;>omega) _)
  exact zR
 rcases(show(k=1/\(0<=a/\a<336)/\0<=x/\x<1099511627776)\/(k=2/\(0<=a/\a<336)/\x=0)\/(k=3/\a=0/\x=0)\/(k=4/\(0<=a/\a<32)/\0<=x/\x<1099511627776)\/(k=5/\a=0/\x=0) by omega)with ⟨rfl,ha,hx⟩ | ⟨rfl,ha,rfl⟩ | ⟨rfl,rfl,rfl⟩ | ⟨rfl,ha,hx⟩ | ⟨rfl,rfl,rfl⟩
 ·clear hk;have D:=zaa (yaue HP.o.1 HP.o.2 ha hx);rw[D.o.1,D.o.2.1,D.o.2.2.1,D.o.2.2.2.1,D.o.2.2.2.2];clear D;go_enter Tryz.func33,Tryz.ntmps33;go_wp2_with fail;refine(zrv _ ws ps a x _ (R1.o.rd.below hb0) (by omega) (by omega)).mono ?_;rintro e w1 ⟨v1,rfl,hr,hb⟩;have hr':RdPm w1 v1 _ _:=hr.rd;obtain⟨vW1,vP1,rfl,hI,hS⟩:=hr';obtain⟨aW1,cW1,rfl⟩:=RdI.form hI (n:=(zdo ws ps a x).length) rfl;obtain⟨aP1,cP1,rfl⟩:=RdS.form hS (n:=(zdp ws ps a x).length) rfl
  have hz1:w.heap.size+3<=w1.heap.size:=by have:=hb.size;simp at this;omega
  have V0:=(hb.block w.heap.size (by simp<;>omega)).trans (zaj (zaj (zaf rfl)));have V2:=(hb.block (w.heap.size+1+1) (by simp<;>omega)).trans (zaf (by simp));have VM:=(hb.block (w.heap.size+1) (by simp<;>omega)).trans (zaj (zaf (by simp)))
  have hr:RowPm w1 (w.heap.size+1+1+1) w1.heap.size (.agg #[.slice aW1 (zdo ws ps a x).length cW1,.slice aP1 (zdp ws ps a x).length cP1]) (zdo ws ps a x) (zdp ws ps a x):=(by simpa using hr)
  have RN:=zaa hr;have B1:=zaa (zab hb0 hb (by simp<;>omega));have RO:=zaa (R2.o.below B1.o (by omega));obtain⟨x0,x1,x2,x3,x4,x5,x6,x7⟩:=zai V0;obtain⟨y0,y1,y2,y3,y4,y5,y6,y7⟩:=zai V2;obtain⟨m0,m1,m2⟩:=zay VM;clear hb0 hb hr hI hS V0 V2 VM;go_wp2;refine bodyPost_ret (v:=.tuple #[.agg #[.slice aW1 (zdo ws ps a x).length cW1,.slice aP1 (zdp ws ps a x).length cP1,.slice aS es.length cS,.slice aQ qs.length cQ],.I (zex ws ps a x)]) (by simp[results,Tryz.results33,go_sem,y0,y1,y2,y3]) rfl ?_;have O:=zmi w1 w.heap.size (w.heap.size+1+1) 0 1 (by omega) (.slice aW1 (zdo ws ps a x).length cW1) (.slice aP1 (zdp ws ps a x).length cP1) (.slice aW1 (zdo ws ps a x).length cW1) (.slice aP1 (zdp ws ps a x).length cP1) (.slice aS es.length cS) (.slice aQ qs.length cQ);have Z:=zgg w1 w.heap.size (w.heap.size+1+1) 0 1 (.slice aW1 (zdo ws ps a x).length cW1) (.slice aP1 (zdp ws ps a x).length cP1) (.slice aW1 (zdo ws ps a x).length cW1) (.slice aP1 (zdp ws ps a x).length cP1) (.slice aS es.length cS) (.slice aQ qs.length cQ);refine⟨_,rfl,?_,B1.o.trans (O.below (by omega) (by omega))⟩;refine RowDevB.wide (lo:=lo) (hi:=w1.heap.size) ⟨_,_,_,_,w.heap.size+1+1+1,w1.heap.size,l2,h2,rfl,(RN.o.outside O (by omega) (by omega)),(RO.o.outside O (by omega) (by omega)),⟨by omega,by omega,by omega,by omega,by omega⟩,by omega,by omega⟩ zL (Nat.le_of_eq Z.symm)
 ·clear hk;have D:=zaa (yark HP.o.1 HP.o.2 ha);rw[D.o.1,D.o.2.1,D.o.2.2.1,D.o.2.2.2.1,D.o.2.2.2.2];clear D;go_enter Tryz.func33,Tryz.ntmps33;go_wp2_with fail;refine(zrn _ ws ps a _ (R1.o.rd.below hb0) (by omega) (by omega)).mono ?_;rintro e w1 ⟨v1,rfl,hr,hb⟩;have hr':RdPm w1 v1 _ _:=hr.rd;obtain⟨vW1,vP1,rfl,hI,hS⟩:=hr';obtain⟨aW1,cW1,rfl⟩:=RdI.form hI (n:=(zeh ws ps a).length) rfl;obtain⟨aP1,cP1,rfl⟩:=RdS.form hS (n:=(zei ws ps a).length) rfl
  have hz1:w.heap.size+3<=w1.heap.size:=by have:=hb.size;simp at this;omega
  have V0:=(hb.block w.heap.size (by simp<;>omega)).trans (zaj (zaj (zaf rfl)));have V2:=(hb.block (w.heap.size+1+1) (by simp<;>omega)).trans (zaf (by simp));have VM:=(hb.block (w.heap.size+1) (by simp<;>omega)).trans (zaj (zaf (by simp)))
  have hr:RowPm w1 (w.heap.size+1+1+1) w1.heap.size (.agg #[.slice aW1 (zeh ws ps a).length cW1,.slice aP1 (zei ws ps a).length cP1]) (zeh ws ps a) (zei ws ps a):=(by simpa using hr)
  have RN:=zaa hr;have B1:=zaa (zab hb0 hb (by simp<;>omega));have RO:=zaa (R2.o.below B1.o (by omega));obtain⟨x0,x1,x2,x3,x4,x5,x6,x7⟩:=zai V0;obtain⟨y0,y1,y2,y3,y4,y5,y6,y7⟩:=zai V2;obtain⟨m0,m1,m2⟩:=zay VM;clear hb0 hb hr hI hS V0 V2 VM;go_wp2;refine bodyPost_ret (v:=.tuple #[.agg #[.slice aW1 (zeh ws ps a).length cW1,.slice aP1 (zei ws ps a).length cP1,.slice aS es.length cS,.slice aQ qs.length cQ],.I (zij ws ps a)]) (by simp[results,Tryz.results33,go_sem,y0,y1,y2,y3]) rfl ?_;have O:=zmi w1 w.heap.size (w.heap.size+1+1) 0 1 (by omega) (.slice aW1 (zeh ws ps a).length cW1) (.slice aP1 (zei ws ps a).length cP1) (.slice aW1 (zeh ws ps a).length cW1) (.slice aP1 (zei ws ps a).length cP1) (.slice aS es.length cS) (.slice aQ qs.length cQ);have Z:=zgg w1 w.heap.size (w.heap.size+1+1) 0 1 (.slice aW1 (zeh ws ps a).length cW1) (.slice aP1 (zei ws ps a).length cP1) (.slice aW1 (zeh ws ps a).length cW1) (.slice aP1 (zei ws ps a).length cP1) (.slice aS es.length cS) (.slice aQ qs.length cQ);refine⟨_,rfl,?_,B1.o.trans (O.below (by omega) (by omega))⟩;refine RowDevB.wide (lo:=lo) (hi:=w1.heap.size) ⟨_,_,_,_,w.heap.size+1+1+1,w1.heap.size,l2,h2,rfl,(RN.o.outside O (by omega) (by omega)),(RO.o.outside O (by omega) (by omega)),⟨by omega,by omega,by omega,by omega,by omega⟩,by omega,by omega⟩ zL (Nat.le_of_eq Z.symm)
 ·clear hk;have D:=zaa (yatz HP.o.1 HP.o.2);rw[D.o.1,D.o.2.1,D.o.2.2.1,D.o.2.2.2.1,D.o.2.2.2.2];clear D;go_enter Tryz.func33,Tryz.ntmps33;go_wp2_with fail;refine(zqu _ ws ps _ (R1.o.rd.below hb0) (by omega) (by omega)).mono ?_;rintro e w1 ⟨v1,rfl,hr,hb⟩;have hr':RdPm w1 v1 _ _:=hr.rd;obtain⟨vW1,vP1,rfl,hI,hS⟩:=hr';obtain⟨aW1,cW1,rfl⟩:=RdI.form hI (n:=(zel ws ps).length) rfl;obtain⟨aP1,cP1,rfl⟩:=RdS.form hS (n:=(zek ws ps).length) rfl
  have hz1:w.heap.size+3<=w1.heap.size:=by have:=hb.size;simp at this;omega
  have V0:=(hb.block w.heap.size (by simp<;>omega)).trans (zaj (zaj (zaf rfl)));have V2:=(hb.block (w.heap.size+1+1) (by simp<;>omega)).trans (zaf (by simp));have VM:=(hb.block (w.heap.size+1) (by simp<;>omega)).trans (zaj (zaf (by simp)))
  have hr:RowPm w1 (w.heap.size+1+1+1) w1.heap.size (.agg #[.slice aW1 (zel ws ps).length cW1,.slice aP1 (zek ws ps).length cP1]) (zel ws ps) (zek ws ps):=(by simpa using hr)
  have RN:=zaa hr;have B1:=zaa (zab hb0 hb (by simp<;>omega));have RO:=zaa (R2.o.below B1.o (by omega));obtain⟨x0,x1,x2,x3,x4,x5,x6,x7⟩:=zai V0;obtain⟨y0,y1,y2,y3,y4,y5,y6,y7⟩:=zai V2;obtain⟨m0,m1,m2⟩:=zay VM;clear hb0 hb hr hI hS V0 V2 VM;go_wp2;refine bodyPost_ret (v:=.tuple #[.agg #[.slice aW1 (zel ws ps).length cW1,.slice aP1 (zek ws ps).length cP1,.slice aS es.length cS,.slice aQ qs.length cQ],.I (zor ws ps)]) (by simp[results,Tryz.results33,go_sem,y0,y1,y2,y3]) rfl ?_;have O:=zmi w1 w.heap.size (w.heap.size+1+1) 0 1 (by omega) (.slice aW1 (zel ws ps).length cW1) (.slice aP1 (zek ws ps).length cP1) (.slice aW1 (zel ws ps).length cW1) (.slice aP1 (zek ws ps).length cP1) (.slice aS es.length cS) (.slice aQ qs.length cQ);have Z:=zgg w1 w.heap.size (w.heap.size+1+1) 0 1 (.slice aW1 (zel ws ps).length cW1) (.slice aP1 (zek ws ps).length cP1) (.slice aW1 (zel ws ps).length cW1) (.slice aP1 (zek ws ps).length cP1) (.slice aS es.length cS) (.slice aQ qs.length cQ);refine⟨_,rfl,?_,B1.o.trans (O.below (by omega) (by omega))⟩;refine RowDevB.wide (lo:=lo) (hi:=w1.heap.size) ⟨_,_,_,_,w.heap.size+1+1+1,w1.heap.size,l2,h2,rfl,(RN.o.outside O (by omega) (by omega)),(RO.o.outside O (by omega) (by omega)),⟨by omega,by omega,by omega,by omega,by omega⟩,by omega,by omega⟩ zL (Nat.le_of_eq Z.symm)
 ·clear hk;have D:=zaa (yase HP.o.1 HP.o.2 ha hx);rw[D.o.1,D.o.2.1,D.o.2.2.1,D.o.2.2.2.1,D.o.2.2.2.2];clear D;go_enter Tryz.func33,Tryz.ntmps33;go_wp2_with fail;refine(zow _ es qs a x _ (R2.o.rd.below hb0) (by omega) (by omega)).mono ?_;rintro e w1 ⟨v1,rfl,hr,hb⟩;have hr':RdBlk w1 v1 _ _:=hr.rd;obtain⟨vW1,vP1,rfl,hI,hS⟩:=hr';obtain⟨aW1,cW1,rfl⟩:=RdI.form hI (n:=(zdm es qs a x).length) rfl;obtain⟨aP1,cP1,rfl⟩:=RdE.form hS (n:=(zdn es qs a x).length) rfl
  have hz1:w.heap.size+3<=w1.heap.size:=by have:=hb.size;simp at this;omega
  have V0:=(hb.block w.heap.size (by simp<;>omega)).trans (zaj (zaj (zaf rfl)));have V2:=(hb.block (w.heap.size+1+1) (by simp<;>omega)).trans (zaf (by simp));have VM:=(hb.block (w.heap.size+1) (by simp<;>omega)).trans (zaj (zaf (by simp)))
  have hr:RowBlk w1 (w.heap.size+1+1+1) w1.heap.size (.agg #[.slice aW1 (zdm es qs a x).length cW1,.slice aP1 (zdn es qs a x).length cP1]) (zdm es qs a x) (zdn es qs a x):=(by simpa using hr)
  have RN:=zaa hr;have B1:=zaa (zab hb0 hb (by simp<;>omega));have RO:=zaa (R1.o.below B1.o (by omega));obtain⟨x0,x1,x2,x3,x4,x5,x6,x7⟩:=zai V0;obtain⟨y0,y1,y2,y3,y4,y5,y6,y7⟩:=zai V2;obtain⟨m0,m1,m2⟩:=zay VM;clear hb0 hb hr hI hS V0 V2 VM;go_wp2;refine bodyPost_ret (v:=.tuple #[.agg #[.slice aW ws.length cW,.slice aP ps.length cP,.slice aW1 (zdm es qs a x).length cW1,.slice aP1 (zdn es qs a x).length cP1],.I (zeu es qs a x)]) (by simp[results,Tryz.results33,go_sem,y0,y1,y2,y3]) rfl ?_;have O:=zmi w1 w.heap.size (w.heap.size+1+1) 2 3 (by omega) (.slice aW1 (zdm es qs a x).length cW1) (.slice aP1 (zdn es qs a x).length cP1) (.slice aW ws.length cW) (.slice aP ps.length cP) (.slice aW1 (zdm es qs a x).length cW1) (.slice aP1 (zdn es qs a x).length cP1);have Z:=zgg w1 w.heap.size (w.heap.size+1+1) 2 3 (.slice aW1 (zdm es qs a x).length cW1) (.slice aP1 (zdn es qs a x).length cP1) (.slice aW ws.length cW) (.slice aP ps.length cP) (.slice aW1 (zdm es qs a x).length cW1) (.slice aP1 (zdn es qs a x).length cP1);refine⟨_,rfl,?_,B1.o.trans (O.below (by omega) (by omega))⟩;refine RowDevB.wide (lo:=lo) (hi:=w1.heap.size) ⟨_,_,_,_,l1,h1,w.heap.size+1+1+1,w1.heap.size,rfl,(RO.o.outside O (by omega) (by omega)),(RN.o.outside O (by omega) (by omega)),⟨by omega,by omega,by omega,by omega,by omega⟩,by omega,by omega⟩ zL (Nat.le_of_eq Z.symm)
 ·clear hk;have D:=zaa (yazg HP.o.1 HP.o.2);rw[D.o.1,D.o.2.1,D.o.2.2.1,D.o.2.2.2.1,D.o.2.2.2.2];clear D;go_enter Tryz.func33,Tryz.ntmps33;go_wp2_with fail;refine(zos _ es qs _ (R2.o.rd.below hb0) (by omega) (by omega)).mono ?_;rintro e w1 ⟨v1,rfl,hr,hb⟩;have hr':RdBlk w1 v1 _ _:=hr.rd;obtain⟨vW1,vP1,rfl,hI,hS⟩:=hr';obtain⟨aW1,cW1,rfl⟩:=RdI.form hI (n:=(zkc es qs).length) rfl;obtain⟨aP1,cP1,rfl⟩:=RdE.form hS (n:=(barL es qs).length) rfl
  have hz1:w.heap.size+3<=w1.heap.size:=by have:=hb.size;simp at this;omega
  have V0:=(hb.block w.heap.size (by simp<;>omega)).trans (zaj (zaj (zaf rfl)));have V2:=(hb.block (w.heap.size+1+1) (by simp<;>omega)).trans (zaf (by simp));have VM:=(hb.block (w.heap.size+1) (by simp<;>omega)).trans (zaj (zaf (by simp)))
  have hr:RowBlk w1 (w.heap.size+1+1+1) w1.heap.size (.agg #[.slice aW1 (zkc es qs).length cW1,.slice aP1 (barL es qs).length cP1]) (zkc es qs) (barL es qs):=(by simpa using hr)
  have RN:=zaa hr;have B1:=zaa (zab hb0 hb (by simp<;>omega));have RO:=zaa (R1.o.below B1.o (by omega));obtain⟨x0,x1,x2,x3,x4,x5,x6,x7⟩:=zai V0;obtain⟨y0,y1,y2,y3,y4,y5,y6,y7⟩:=zai V2;obtain⟨m0,m1,m2⟩:=zay VM;clear hb0 hb hr hI hS V0 V2 VM;go_wp2;refine bodyPost_ret (v:=.tuple #[.agg #[.slice aW ws.length cW,.slice aP ps.length cP,.slice aW1 (zkc es qs).length cW1,.slice aP1 (barL es qs).length cP1],.I (barC es qs)]) (by simp[results,Tryz.results33,go_sem,y0,y1,y2,y3]) rfl ?_;have O:=zmi w1 w.heap.size (w.heap.size+1+1) 2 3 (by omega) (.slice aW1 (zkc es qs).length cW1) (.slice aP1 (barL es qs).length cP1) (.slice aW ws.length cW) (.slice aP ps.length cP) (.slice aW1 (zkc es qs).length cW1) (.slice aP1 (barL es qs).length cP1);have Z:=zgg w1 w.heap.size (w.heap.size+1+1) 2 3 (.slice aW1 (zkc es qs).length cW1) (.slice aP1 (barL es qs).length cP1) (.slice aW ws.length cW) (.slice aP ps.length cP) (.slice aW1 (zkc es qs).length cW1) (.slice aP1 (barL es qs).length cP1);refine⟨_,rfl,?_,B1.o.trans (O.below (by omega) (by omega))⟩;refine RowDevB.wide (lo:=lo) (hi:=w1.heap.size) ⟨_,_,_,_,l1,h1,w.heap.size+1+1+1,w1.heap.size,rfl,(RO.o.outside O (by omega) (by omega)),(RN.o.outside O (by omega) (by omega)),⟨by omega,by omega,by omega,by omega,by omega⟩,by omega,by omega⟩ zL (Nat.le_of_eq Z.symm)
end Go.Proofs.YtdiaiejmoocpmaaGreatDoor
