import Derived.Test.YtogcbbkhnpmgeaaGreatDoorZAR
set_option maxHeartbeats 4000000
namespace Go.Proofs.YtogcbbkhnpmgeaaGreatDoor
open Go.RowKit
theorem zqq(v:Value)(ws:List Int)(ps:List St)(w:World)(h:RdPm w v ws ps)(hw:ws.length<=2147483648)(hp:ps.length<=2147483648) :
  zC 165 #[v] w fun e w'=>∃ v',e=.returned v'/\RowPm w' w.heap.size w'.heap.size v' ws ps/\zB w w':=by
 obtain⟨vW,vP,rfl,h1,h2⟩:=h;have H1:=zaa h1;have H2:=zaa h2;obtain⟨aW,cW,rfl,_⟩:=h1.shape;obtain⟨aP,cP,rfl,_⟩:=h2.shape;clear h1 h2
 have hb0:zB w (((w.alloc (.cells #[.slice aW ws.length cW,.slice aP ps.length cP] 26)).alloc (.cells #[.N,.N] 26)).alloc (.cells #[] 3)):=by
  repeat (refine Below.alloc ?_ (by simp<;>omega) _)
  exact zR
 have ho0:(((w.alloc (.cells #[.slice aW ws.length cW,.slice aP ps.length cP] 26)).alloc (.cells #[.N,.N] 26)).alloc (.cells #[] 3)).ownsRow (w.heap.size+2) 3 1 (.slice (some ⟨w.heap.size+1+1,0,none⟩) 0 0) 0 []:=by
  simpa using World.ownsRow_lit (base:=w.heap.size+2) (e:=3) (size:=1) ((w.alloc (.cells #[.slice aW ws.length cW,.slice aP ps.length cP] 26)).alloc (.cells #[.N,.N] 26)) #[] 0 (by simp) (by simp) rfl
 have HO:=zaa ho0;have HB:=zaa hb0;clear ho0 hb0;go_enter Tryz.func165,Tryz.ntmps165;go_wp2_with (at_builtin;refine zae _ rfl (.tmp 3) (.tmp 5) 23 rfl (w.heap.size+2) 3 (.I 0) 1 8 Tryz.underlying23 zjs rfl (by decide) _ 0 [] rfl HO.o _ ws.length (zdb ws) rfl (Rd.below H1.o HB.o) (zfo ws) (by simp[maxLen];omega) (by omega) (by simp) ?_);intro v1 w1 hown1 hgr1
 have hown1:w1.ownsRow (w.heap.size+2) 3 1 v1 ws.length (zdb ws):=by simpa using hown1
 have R1:=zaa (zad hown1);obtain⟨_,a1,c1,rfl,_⟩:=(zad hown1).rd
 have hz1:w.heap.size+3<=w1.heap.size:=by have:=hgr1.size;simp at this;omega
 have V0:=(hgr1.block w.heap.size (by simp<;>omega) (by simp[Value.ownBlock]<;>omega)).trans (zal (zal (zah rfl)));have V1:=(hgr1.block (w.heap.size+1) (by simp<;>omega) (by simp[Value.ownBlock]<;>omega)).trans (zal (zah (by simp)));have B1:=HB.o.grown hgr1 (by simp<;>omega) (fun k hk=>by simp[Value.ownBlock]at hk;omega);have V0':=zal (o:=.cells #[] 138) (zje V0 (.slice a1 ws.length c1));have V1':=zal (o:=.cells #[] 138) ((Below.heap_setCell w1 ⟨w.heap.size,0,none⟩ (.slice a1 ws.length c1) (w.heap.size+1) (by simp)).trans V1);obtain⟨x1,x2,x3,x4⟩:=zac V0;obtain⟨x5,x6,x7,x8⟩:=zac V0';have HV:=zaa (And.intro V0' V1');have hB2:=(B1.setCell (p:=⟨w.heap.size,0,none⟩) zL (.slice a1 ws.length c1)).alloc (by simp;omega) (.cells #[] 138)
 have ho2:((w1.setCell ⟨w.heap.size,0,none⟩ (.slice a1 ws.length c1)).alloc (.cells #[] 138)).ownsRow w1.heap.size 138 3 (.slice (some ⟨w1.heap.size,0,none⟩) 0 0) 0 []:=by
  simpa using World.ownsRow_lit (base:=w1.heap.size) (e:=138) (size:=3) (w1.setCell ⟨w.heap.size,0,none⟩ (.slice a1 ws.length c1)) #[] 0 (by simp) (by simp) rfl
 have HB2:=zaa hB2;have HO2:=zaa ho2;clear hown1 hgr1 V0 V1 B1 V0' V1' hB2 ho2;go_wp2_with (at_builtin;refine zae _ rfl (.tmp 8) (.tmp 10) 24 rfl w1.heap.size 138 (.agg #[.I 0,.I 0,.bool false]) 3 24 Tryz.underlying24 zpy rfl (by decide) _ 0 [] rfl HO2.o _ ps.length (sts ps) rfl (Rd.below H2.o HB2.o) (zsw ps) (by simp[maxLen];omega) (by omega) (by simp) ?_);intro v2 w2 hown2 hgr2
 have hown2:w2.ownsRow w1.heap.size 138 3 v2 ps.length (sts ps):=by simpa using hown2
 have R2:=zaa (zad hown2);obtain⟨_,a2,c2,rfl,_⟩:=(zad hown2).rd
 have hz2:w1.heap.size+1<=w2.heap.size:=by have:=hgr2.size;simp at this;omega
 have V0:=(hgr2.block w.heap.size (by simp<;>omega) (by simp[Value.ownBlock];omega)).trans HV.o.1;have V1:=(hgr2.block (w.heap.size+1) (by simp<;>omega) (by simp[Value.ownBlock];omega)).trans HV.o.2;have B2:=zaa (HB2.o.grown hgr2 (by simp<;>omega) (fun k hk=>by simp[Value.ownBlock]at hk;omega))
 have K2:Hid (∀ b,w.heap.size+2<=b->b<w1.heap.size->w2.heap[b]?=w1.heap[b]?):=by
  intro b h1 h2;rw[hgr2.block b (by simp<;>omega) (by simp[Value.ownBlock];omega),zer,if_neg (by simp;omega),Below.heap_setCell _ _ _ _ (by simp only;omega)]
 obtain⟨z1,z2,z3,z4⟩:=zac V0;obtain⟨t1,t2,t3,t4⟩:=zac V1;clear hown2 hgr2 V0 V1;go_wp2;refine bodyPost_ret (v:=.agg #[.slice a1 ws.length c1,.slice a2 ps.length c2]) (by simp[results,Tryz.results165,go_sem,t1,t2]) rfl ?_;refine⟨_,rfl,⟨_,_,rfl,(R1.o.same fun b h1 h2=>?_).wide (by omega) (by simp;omega),(R2.o.same fun b h1 h2=>?_).wide (by omega) (by simp)⟩,?_⟩
 ·rw[Below.heap_setCell _ _ _ _ (by simp only;omega),Below.heap_setCell _ _ _ _ (by simp only;omega),Below.heap_setCell _ _ _ _ (by simp only;omega),K2.o b h1 h2]
 ·rw[Below.heap_setCell _ _ _ _ (by simp only;omega),Below.heap_setCell _ _ _ _ (by simp only;omega),Below.heap_setCell _ _ _ _ (by simp only;omega)]
 ·exact((B2.o.setCell (by simp only;omega) _).setCell (by simp only;omega) _).setCell (by simp only;omega) _
def CopyInv(w a:World)(x y:Value):Prop:=zB w a/\a.heap[w.heap.size]?=some (.cells #[x,y] 26 (0,0))/\a.heap[w.heap.size+1]?=some (.cells #[.N,.N] 26 (0,0))
theorem CopyInv.grown{w a b:World}{x y:Value}(h:CopyInv w a x y)(hg:a.grownBy b none):CopyInv w b x y:=by
 obtain⟨h1,h2,h3⟩:=h;have l2:=(Array.getElem?_eq_some_iff.1 h2).1;have l3:=(Array.getElem?_eq_some_iff.1 h3).1;exact⟨h1.grown hg h1.size (fun k hk=>by cases hk),(hg.block _ l2 (by simp)).trans h2,(hg.block _ l3 (by simp)).trans h3⟩
theorem CopyInv.rd{w a:World}{x y:Value}(h:CopyInv w a x y){size:Nat}{v:Value}{n:Nat}{xs:List Value}(hr:Rd w size v n xs):Rd a size v n xs:=hr.below h.1
theorem CopyInv.base{w a:World}{x y:Value}(h:CopyInv w a x y):w.heap.size+2<=a.heap.size:=(Array.getElem?_eq_some_iff.1 h.2.2).1
theorem Row.grownNone{a b:World}{e:TypeId}{size lo:Nat}{v:Value}{n:Nat}{xs:List Value}(h:Row a e size lo a.heap.size v n xs)(hg:a.grownBy b none):Row b e size lo b.heap.size v n xs :=
 (h.same (fun k _ hk=>hg.block k hk (by simp))).wide zL hg.size
theorem yabj{w b:World}{x y v1 v2:Value}{ws:List Int}{ps:List St}(hI:CopyInv w b x y)(r1:Row b 3 1 (w.heap.size+2) b.heap.size v1 ws.length (zdb ws))(r2:Row b 138 3 (w.heap.size+2) b.heap.size v2 ps.length (sts ps)) :
  RowPm ((b.setCell ⟨w.heap.size+1,0,none⟩ v1).setCell ⟨w.heap.size+1,1,none⟩ v2) w.heap.size ((b.setCell ⟨w.heap.size+1,0,none⟩ v1).setCell ⟨w.heap.size+1,1,none⟩ v2).heap.size (.agg #[v1,v2]) ws ps /\
   zB w ((b.setCell ⟨w.heap.size+1,0,none⟩ v1).setCell ⟨w.heap.size+1,1,none⟩ v2):=by
 refine⟨⟨_,_,rfl,(r1.same fun k h1 h2=>?_).wide (by omega) (by simp),(r2.same fun k h1 h2=>?_).wide (by omega) (by simp)⟩,(hI.1.setCell (by simp only;omega) _).setCell (by simp only;omega) _⟩
 ·rw[Below.heap_setCell _ _ _ _ (by simp only;omega),Below.heap_setCell _ _ _ _ (by simp only;omega)]
 ·rw[Below.heap_setCell _ _ _ _ (by simp only;omega),Below.heap_setCell _ _ _ _ (by simp only;omega)]
theorem yadg(v:Value)(ws:List Int)(ps:List St)(w:World)(h:RdPm w v ws ps)(hw:ws.length<=2147483648)(hp:ps.length<=2147483648) :
  zC 46 #[v] w fun e w'=>∃ v',e=.returned v'/\RowPm w' w.heap.size w'.heap.size v' ws ps/\zB w w':=by
 obtain⟨vW,vP,rfl,h1,h2⟩:=h;have H1:=zaa h1;have H2:=zaa h2;obtain⟨aW,cW,rfl,_⟩:=h1.shape;obtain⟨aP,cP,rfl,_⟩:=h2.shape;clear h1 h2
 have I0:CopyInv w ((w.alloc (.cells #[.slice aW ws.length cW,.slice aP ps.length cP] 26)).alloc (.cells #[.N,.N] 26)).drew (.slice aW ws.length cW) (.slice aP ps.length cP):=by
  refine⟨Below.drew ?_,zal (zah rfl),zah (by simp)⟩
  repeat (refine Below.alloc ?_ (by simp<;>omega) _)
  exact zR
 have HI:=zaa I0;clear I0;go_enter Tryz.func46,Tryz.ntmps46;go_wp2_with fail
 go_region_law (first
  | (refine zan rfl (.const (.N)) (.tmp 4) 23 rfl (w.heap.size+2) 3 (.I 0) 1 8 Tryz.underlying23 zjs rfl (by decide) (.N) 0 [] rfl (World.ownsRow_nil _ _ _ _) (.slice aW ws.length cW) ws.length (zdb ws) rfl (by first | exact HI.o.rd H1.o | exact CopyInv.rd (Hid.o ‹_›) H1.o) (zfo ws) (by simp[maxLen];omega) (by omega) (by first | exact HI.o.base | exact CopyInv.base (Hid.o ‹_›)) ?_;intro v1 w1 hown1 hgr1;have hown1:w1.ownsRow (w.heap.size+2) 3 1 v1 ws.length (zdb ws):=(by simpa using hown1);have I1:=zaa (CopyInv.grown (by first | exact HI.o | exact Hid.o ‹_›) hgr1);obtain⟨_,a1,c1,rfl,_⟩:=(zad hown1).rd;obtain⟨x1,x2,x3,x4⟩:=zac I1.o.2.1;obtain⟨y1,y2,y3,y4⟩:=zac I1.o.2.2)
  | (refine zan rfl (.const (.N)) (.tmp 7) 24 rfl (w.heap.size+2) 138 (.agg #[.I 0,.I 0,.bool false]) 3 24 Tryz.underlying24 zpy rfl (by decide) (.N) 0 [] rfl (World.ownsRow_nil _ _ _ _) (.slice aP ps.length cP) ps.length (sts ps) rfl (by first | exact HI.o.rd H2.o | exact CopyInv.rd (Hid.o ‹_›) H2.o) (zsw ps) (by simp[maxLen];omega) (by omega) (by first | exact HI.o.base | exact CopyInv.base (Hid.o ‹_›)) ?_;intro v2 w2 hown2 hgr2;have hown2:w2.ownsRow (w.heap.size+2) 138 3 v2 ps.length (sts ps):=(by simpa using hown2);have I2:=zaa (CopyInv.grown (by first | exact HI.o | exact Hid.o ‹_›) hgr2);obtain⟨_,a2,c2,rfl,_⟩:=(zad hown2).rd;obtain⟨z1,z2,z3,z4⟩:=zac I2.o.2.1;obtain⟨t1,t2,t3,t4⟩:=zac I2.o.2.2))
 all_goals
  go_wp2;refine bodyPost_ret (v:=.agg #[.slice a1 ws.length c1,.slice a2 ps.length c2]) (by first | (simp[results,Tryz.results46,go_sem,t1,t2];done) | (simp[results,Tryz.results46,go_sem,y1,y2];done)) rfl ?_;refine⟨_,rfl,?_⟩
  first
   | exact yabj I2.o (Row.grownNone (zad hown1) hgr2) (zad hown2)
   | exact yabj I1.o (zad hown1) (Row.grownNone (zad hown2) hgr1)
theorem zwe(v:Value)(ws:List Int)(ps:List St)(at_ x:Int)(w:World)(h:RdPm w v ws ps)(hp:ps.length<=1048576) :
  zC 207 #[v,.I at_,.I x] w fun e w'=>∃ v',e=.returned v'/\RdPm w' v' ws (ps++[⟨at_,x,false⟩])/\zB w w':=by
 obtain⟨vW,vP,rfl,h1,h2⟩:=h;have H1:=zaa h1;have H2:=zaa h2;obtain⟨aW,cW,rfl,_⟩:=h1.shape;obtain⟨aP,cP,rfl,_⟩:=h2.shape;clear h1 h2
 have hb0:zB w (((w.alloc (.cells #[.slice aW ws.length cW,.slice aP ps.length cP] 26)).alloc (.cells #[.N,.N] 26)).alloc (.cells #[] 138)):=by
  repeat (refine Below.alloc ?_ (by simp<;>omega) _)
  exact zR
 have ho0:(((w.alloc (.cells #[.slice aW ws.length cW,.slice aP ps.length cP] 26)).alloc (.cells #[.N,.N] 26)).alloc (.cells #[] 138)).ownsRow (w.heap.size+2) 138 3 (.slice (some ⟨w.heap.size+1+1,0,none⟩) 0 0) 0 []:=by
  simpa using World.ownsRow_lit (base:=w.heap.size+2) (e:=138) (size:=3) ((w.alloc (.cells #[.slice aW ws.length cW,.slice aP ps.length cP] 26)).alloc (.cells #[.N,.N] 26)) #[] 0 (by simp) (by simp) rfl
 have HO:=zaa ho0;have HB:=zaa hb0;clear ho0 hb0;go_enter Tryz.func207,Tryz.ntmps207;go_wp2_with (at_builtin;refine zae _ rfl (.tmp 7) (.tmp 9) 24 rfl (w.heap.size+2) 138 (.agg #[.I 0,.I 0,.bool false]) 3 24 Tryz.underlying24 zpy rfl (by decide) _ 0 [] rfl HO.o _ ps.length (sts ps) rfl (Rd.below H2.o HB.o) (zsw ps) (by simp[maxLen];omega) (by omega) (by simp) ?_);intro v1 w1 hown1 hgr1
 have hown1:w1.ownsRow (w.heap.size+2) 138 3 v1 ps.length (sts ps):=by simpa using hown1
 have hz1:w.heap.size+3<=w1.heap.size:=by have:=hgr1.size;simp at this;omega
 have V0:=(hgr1.block w.heap.size (by simp<;>omega) (by simp[Value.ownBlock]<;>omega)).trans (zal (zal (zah rfl)));have V1:=(hgr1.block (w.heap.size+1) (by simp<;>omega) (by simp[Value.ownBlock]<;>omega)).trans (zal (zah (by simp)));have B1:=HB.o.grown hgr1 (by simp<;>omega) (fun k hk=>by simp[Value.ownBlock]at hk;omega);have hB2:=B1.alloc (by omega) (.cells #[.I at_,.I x,.bool false] 138);have V0':=zal (o:=.cells #[.I at_,.I x,.bool false] 138) V0;have V1':=zal (o:=.cells #[.I at_,.I x,.bool false] 138) V1;have ho2:=hown1.alloc (.cells #[.I at_,.I x,.bool false] 138)
 have hr2:Rd (w1.alloc (.cells #[.I at_,.I x,.bool false] 138)) 3 (.slice (some ⟨w1.heap.size,0,none⟩) 1 1) 1 (St.cells ⟨at_,x,false⟩):=by
  refine⟨rfl,_,_,rfl,⟨Nat.le_refl _,fun e=>by cases e⟩,fun _=>⟨w1.heap.size,0,rfl,by simp,fun j hj=>?_⟩⟩;obtain⟨e0,e1,e2⟩:=zba (zah (w:=w1) (o:=.cells #[.I at_,.I x,.bool false] 138) rfl);rw[Nat.zero_add]
  rcases(show j=0\/j=1\/j=2 from by omega)with rfl|rfl|rfl
  ·exact e0
  ·exact e1
  ·exact e2
 have HV:=zaa (And.intro V0' V1');have HB2:=zaa hB2;have HO2:=zaa ho2;have HR2:=zaa hr2;clear hown1 hgr1 V0 V1 B1 V0' V1' hB2 ho2 hr2;go_wp2_with (at_builtin;refine zae _ rfl (.tmp 10) (.tmp 14) 24 rfl (w.heap.size+2) 138 (.agg #[.I 0,.I 0,.bool false]) 3 24 Tryz.underlying24 zpy rfl (by decide) _ ps.length (sts ps) rfl HO2.o _ 1 (St.cells ⟨at_,x,false⟩) rfl HR2.o (fun u hu=>by simp[St.cells]at hu;rcases hu with rfl|rfl|rfl<;>rfl) (by simp[maxLen];omega) (by omega) (by simp;omega) ?_);intro v2 w2 hown2 hgr2
 have hr3:RdS w2 v2 (ps++[⟨at_,x,false⟩]):=by
  have:=(zad hown2).rd;unfold RdS;rw[zzu,List.length_append];exact this
 have L3:=zaa (fun k hk=>(hown2.lt k hk).1);have R3:Hid (RdS w2 v2 (ps++[⟨at_,x,false⟩])):=hr3;obtain⟨_,a2,c2,e2,_⟩:=hr3;simp only[List.length_append,List.length_singleton]at e2;subst e2
 have hz2:w1.heap.size+1<=w2.heap.size:=by have:=hgr2.size;simp at this;omega
 have hne:∀ b,b<w.heap.size+2->¬ some b=Value.ownBlock v1:=by
  intro b hb e;have:=(HO2.o.lt b e.symm).1;omega
 have V0:=(hgr2.block w.heap.size (by simp<;>omega) (hne _ (by omega))).trans HV.o.1;have V1:=(hgr2.block (w.heap.size+1) (by simp<;>omega) (hne _ (by omega))).trans HV.o.2;have B2:=zaa (HB2.o.grown hgr2 (by simp<;>omega) (fun k hk=>by have:=(HO2.o.lt k hk).1;omega));obtain⟨z1,z2,z3,z4⟩:=zac V0;obtain⟨t1,t2,t3,t4⟩:=zac V1;clear hown2 hgr2 V0 V1;go_wp2;refine bodyPost_ret (v:=.agg #[.slice aW ws.length cW,.slice a2 (ps.length+1) c2]) (by simp[results,Tryz.results207,go_sem,t1,t2]) rfl ?_;have B3:=((B2.o.setCell (p:=⟨w.heap.size,1,none⟩) zL (.slice a2 (ps.length+1) c2)).setCell (p:=⟨w.heap.size+1,0,none⟩) (by simp only;omega) (.slice aW ws.length cW)).setCell (p:=⟨w.heap.size+1,1,none⟩) (by simp only;omega) (.slice a2 (ps.length+1) c2);refine⟨_,rfl,⟨_,_,rfl,Rd.below H1.o B3,Rd.same R3.o (by simp) (fun b _ hb=>?_)⟩,B3⟩;have:=L3.o b hb;rw[Below.heap_setCell _ _ _ _ (by simp only;omega),Below.heap_setCell _ _ _ _ (by simp only;omega),Below.heap_setCell _ _ _ _ (by simp only;omega)]
theorem yajz(l:List St)(j:Nat)(hj:j/3<l.length):(sts l)[j]?=(l[j/3]).cells[j%3]?:=by
 have:=zbh St.cells 3 St.cells_len l (j/3) (j%3) hj (Nat.mod_lt _ (by decide));rw[show j/3*3+j%3=j from by omega]at this;exact this
theorem yagy(l:List St)(m:Nat)(hm:m<l.length)(b:Bool):(sts l).set (m*3+2) (.bool b)=sts (l.set m ⟨l[m].at_,l[m].val,b⟩):=by
 apply List.ext_getElem?;intro j
 by_cases hj:j<l.length*3
 ·have h3:j/3<l.length:=by omega
  have h3':j/3<(l.set m ⟨l[m].at_,l[m].val,b⟩).length:=by simpa using h3
  rw[yagt (by rw[zwu];exact hj),yajz _ j h3',yajz l j h3,List.getElem_set]
  by_cases e:m=j/3
  ·rw[if_pos e];subst e
   rcases(show j%3=0\/j%3=1\/j%3=2 from by omega)with r | r | r
   ·rw[if_neg (by omega),r];rfl
   ·rw[if_neg (by omega),r];rfl
   ·rw[if_pos (by omega),r];rfl
  ·rw[if_neg e,if_neg (by omega)]
 ·rw[List.getElem?_eq_none (by rw[List.length_set,zwu];omega),List.getElem?_eq_none (by rw[zwu,List.length_set];omega)]
def fl1(k:Int)(p:St):St:=if p.at_/8=k/8 then⟨p.at_,p.val,true⟩else p
def mix(k:Int)(ps:List St)(m:Nat):List St:=(ps.take m).map (fl1 k)++ps.drop m
theorem zws(k:Int)(ps:List St)(m:Nat)(hm:m<=ps.length):(mix k ps m).length=ps.length:=by simp[mix];omega
theorem yalj(k:Int)(ps:List St):mix k ps 0=ps:=by simp[mix]
theorem yarv(k:Int)(ps:List St):mix k ps ps.length=ps.map (fl1 k):=by simp[mix]
theorem yail(k:Int)(ps:List St)(m:Nat)(hm:m<ps.length)(h:m<(mix k ps m).length):(mix k ps m)[m]=ps[m]:=by
 have e:(mix k ps m)[m]?=ps[m]?:=by
  unfold mix;rw[List.getElem?_append_right (by rw[List.length_map,List.length_take];omega)];simp[Nat.min_eq_left (Nat.le_of_lt hm)]
 rw[List.getElem?_eq_getElem h,List.getElem?_eq_getElem hm]at e;exact Option.some.inj e
theorem yabl(k:Int)(ps:List St)(m:Nat)(hm:m<ps.length):mix k ps (m+1)=(mix k ps m).set m (fl1 k ps[m]):=by
 unfold mix;rw[List.take_succ_eq_append_getElem hm,List.map_append,List.set_append_right _ _ (by rw[List.length_map,List.length_take];omega)];simp only[List.map_cons,List.map_nil,List.length_map,List.length_take,Nat.min_eq_left (Nat.le_of_lt hm),Nat.sub_self];rw[List.drop_eq_getElem_cons hm,List.set_cons_zero,List.append_assoc];rfl
theorem yarq{k:Int}{ps:List St}{m:Nat}(hm:m<ps.length)(h:ps[m].at_/8=k/8):(sts (mix k ps m)).set (m*3+2) (.bool true)=sts (mix k ps (m+1)):=by
 have hl:m<(mix k ps m).length:=by rw[zws _ _ _ (by omega)];exact hm
 rw[yagy _ m hl,yabl k ps m hm,yail k ps m hm hl];unfold fl1;rw[if_pos h]
theorem yall{k:Int}{ps:List St}{m:Nat}(hm:m<ps.length)(h:¬ ps[m].at_/8=k/8):mix k ps (m+1)=mix k ps m:=by
 have hl:m<(mix k ps m).length:=by rw[zws _ _ _ (by omega)];exact hm
 rw[yabl k ps m hm];unfold fl1;rw[if_neg h];have:=yail k ps m hm hl;rw[<- this,List.set_getElem_self]
theorem zuo(v:Value)(ws:List Int)(ps:List St)(k:Nat)(w:World)(h:RdPm w v ws ps)(hp:ps.length<=1048576)(hk:k<336)(hok:∀ j (h:j<ps.length),0<=ps[j].at_/\ps[j].at_<336) :
  zC 208 #[v,.I (k:Int)] w fun e w'=>∃ v',e=.returned v'/\RdPm w' v' ws (ps.map (fl1 (k:Int)))/\zB w w':=by
 obtain⟨vW,vP,rfl,h1,h2⟩:=h;have H1:=zaa h1;have H2:=zaa h2;have HOK:=zaa hok;obtain⟨aW,cW,rfl,_⟩:=h1.shape;obtain⟨aP,cP,rfl,_⟩:=h2.shape;clear h1 h2 hok
 have hb0:zB w (((w.alloc (.cells #[.slice aW ws.length cW,.slice aP ps.length cP] 26)).alloc (.cells #[.N,.N] 26)).alloc (.cells #[] 138)):=by
  repeat (refine Below.alloc ?_ (by simp<;>omega) _)
  exact zR
 have ho0:(((w.alloc (.cells #[.slice aW ws.length cW,.slice aP ps.length cP] 26)).alloc (.cells #[.N,.N] 26)).alloc (.cells #[] 138)).ownsRow (w.heap.size+2) 138 3 (.slice (some ⟨w.heap.size+1+1,0,none⟩) 0 0) 0 []:=by
  simpa using World.ownsRow_lit (base:=w.heap.size+2) (e:=138) (size:=3) ((w.alloc (.cells #[.slice aW ws.length cW,.slice aP ps.length cP] 26)).alloc (.cells #[.N,.N] 26)) #[] 0 (by simp) (by simp) rfl
 have HO:=zaa ho0;have HB:=zaa hb0;clear ho0 hb0;go_enter Tryz.func208,Tryz.ntmps208;go_wp2_with (at_builtin;refine zae _ rfl (.tmp 6) (.tmp 8) 24 rfl (w.heap.size+2) 138 (.agg #[.I 0,.I 0,.bool false]) 3 24 Tryz.underlying24 zpy rfl (by decide) _ 0 [] rfl HO.o _ ps.length (sts ps) rfl (Rd.below H2.o HB.o) (zsw ps) (by simp[maxLen];omega) (by omega) (by simp) ?_);intro v1 w1 hown1 hgr1
 have hown1:w1.ownsRow (w.heap.size+2) 138 3 v1 ps.length (sts ps):=by simpa using hown1
 obtain⟨a1,c1,rfl⟩:=RdS.form (zad hown1).rd rfl
 have hz1:w.heap.size+3<=w1.heap.size:=by have:=hgr1.size;simp at this;omega
 have V0:=(hgr1.block w.heap.size (by simp<;>omega) (by simp[Value.ownBlock]<;>omega)).trans (zal (zal (zah rfl)));have V1:=(hgr1.block (w.heap.size+1) (by simp<;>omega) (by simp[Value.ownBlock]<;>omega)).trans (zal (zah (by simp)));have B1:=HB.o.grown hgr1 (by simp<;>omega) (fun k hk=>by simp[Value.ownBlock]at hk;omega);obtain⟨x1,x2,x3,x4⟩:=zac V0;have RH:Hid (Row (w1.setCell ⟨w.heap.size,1,none⟩ (.slice a1 ps.length c1)) 138 3 (w.heap.size+2) w1.heap.size (.slice a1 ps.length c1) ps.length (sts ps)):=(zad hown1).same (fun b h1 _=>Below.heap_setCell _ _ _ _ (by simp only;omega));have VH:=zaa (And.intro (zmm V0 (.slice a1 ps.length c1)) ((Below.heap_setCell w1 ⟨w.heap.size,1,none⟩ (.slice a1 ps.length c1) (w.heap.size+1) (by simp)).trans V1));have BH:=zaa (B1.setCell (p:=⟨w.heap.size,1,none⟩) zL (.slice a1 ps.length c1));clear hown1 hgr1 V0 V1 B1;go_wp2
 go_loopw [5] (fun i wr=>∃ m:Nat,m<=ps.length/\i=.I m/\Row wr 138 3 (w.heap.size+2) w1.heap.size (.slice a1 ps.length c1) ps.length (sts (mix (k:Int) ps m))/\(wr.heap[w.heap.size]?=some (.cells #[.slice aW ws.length cW,.slice a1 ps.length c1] 26 (0,0))/\wr.heap[w.heap.size+1]?=some (.cells #[.N,.N] 26 (0,0)))/\zB w wr/\w1.heap.size<=wr.heap.size) (fun i _=>ps.length-(intOf i).toNat)
 case atStart=>exact⟨0,by omega,rfl,by rw[yalj];exact RH.o,VH.o,BH.o,by simp⟩
 case round =>
  obtain⟨m,hm,rfl,hrow,hv,hb,hz⟩:=hrel;obtain⟨y1,y2,y3,y4⟩:=zac hv.1
  by_cases hlt:m<ps.length
  ·have hl:=zws (k:Int) ps m hm;obtain⟨_,ao',cap',e',_,hc⟩:=hrow.rd
   cases e'
   obtain⟨b,o,rfl,hbl,_⟩:=hc (by omega)
   obtain⟨rfl,hb1,hb2,_,hfr,hcl⟩:=hrow.at
   have hml:m<(mix (k:Int) ps m).length:=by omega
   have e0:=(hcl (m*3) (by omega)).trans (zmx _ m hml);have e2:=(hcl (m*3+2) (by omega)).trans (zya _ m hml);rw[yail _ _ _ hlt hml]at e0 e2;have f2:=hfr (m*3+2);obtain⟨q0,q1⟩:=HOK.o m hlt;have ST:=zaa (hrow.stored (m*3+2) (.bool true));have BH2:=zaa (hb.setCell (p:=⟨b,m*3+2,none⟩) (by simp only;omega) (.bool true));have VH2:=zaa (And.intro ((Below.heap_setCell wr ⟨b,m*3+2,none⟩ (.bool true) w.heap.size (by simp only;omega)).trans hv.1) ((Below.heap_setCell wr ⟨b,m*3+2,none⟩ (.bool true) (w.heap.size+1) (by simp only;omega)).trans hv.2));have RM:=zaa hrow;have VM:=zaa hv;clear hrow hc hfr hcl hv hl
   by_cases c:ps[m].at_/8=(k:Int)/8
   ·have c':(ps[m].at_/8 == (k:Int)/8)=true:=by simpa using c
    have E:=zaa (yarq hlt c);clear c;go_wp2
    go_roundw
    case rel=>exact⟨m+1,by omega,by go_num,E.o ▸ ST.o,VH2.o,BH2.o,by simp;omega⟩
    case measure=>simp[intOf];omega
   ·have c':(ps[m].at_/8 == (k:Int)/8)=false:=by simpa using c
    have E:=zaa (yall hlt c);clear c;go_wp2
    go_roundw
    case rel=>exact⟨m+1,by omega,by go_num,E.o ▸ RM.o,VM.o,hb,hz⟩
    case measure=>simp[intOf];omega
  ·have e:m=ps.length:=by omega
   subst e;obtain⟨t1,t2,t3,t4⟩:=zac hv.2;have RM:=zaa hrow;clear hrow hv;go_wp2;refine bodyPost_ret (v:=.agg #[.slice aW ws.length cW,.slice a1 ps.length c1]) (by simp[results,Tryz.results208,go_sem,t1,t2]) rfl ?_;have B3:=(hb.setCell (p:=⟨w.heap.size+1,0,none⟩) (by simp only;omega) (.slice aW ws.length cW)).setCell (p:=⟨w.heap.size+1,1,none⟩) (by simp only;omega) (.slice a1 ps.length c1);refine⟨_,rfl,⟨_,_,rfl,Rd.below H1.o B3,?_⟩,B3⟩;have R3:=(RM.o.same (w':=(wr.setCell ⟨w.heap.size+1,0,none⟩ (.slice aW ws.length cW)).setCell ⟨w.heap.size+1,1,none⟩ (.slice a1 ps.length c1)) (fun b h1 h2=>by rw[Below.heap_setCell _ _ _ _ (by simp only;omega),Below.heap_setCell _ _ _ _ (by simp only;omega)])).rd;unfold RdS;rw[yarv]at R3;rw[List.length_map];exact R3
end Go.Proofs.YtogcbbkhnpmgeaaGreatDoor
