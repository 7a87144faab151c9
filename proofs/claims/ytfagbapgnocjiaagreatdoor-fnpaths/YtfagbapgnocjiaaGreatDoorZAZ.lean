import Derived.Test.YtfagbapgnocjiaaGreatDoorZAD
set_option maxHeartbeats 4000000
namespace Go.Proofs.YtfagbapgnocjiaaGreatDoor
open Go.RowKit
theorem zas{w:World}{b:Nat}{t:TypeId}{x y z u:Value}(h:w.heap[b]?=some (.cells #[x,y,z,u] t (0,0))) :
  w.cell? ⟨b,0,none⟩=some x/\w.cell? ⟨b,1,none⟩=some y/\w.cell? ⟨b,2,none⟩=some z/\w.cell? ⟨b,3,none⟩=some u/\w.frozen? ⟨b,0,none⟩=false/\w.frozen? ⟨b,1,none⟩=false/\w.frozen? ⟨b,2,none⟩=false/\w.frozen? ⟨b,3,none⟩=false:=by
 simp[World.cell?,World.frozen?,h]
def RdDev(w:World)(v:Value)(ws:List Int)(ps:List St)(es:List Int)(qs:List Se):Prop:=∃ vW vP vS vQ,v=.agg #[vW,vP,vS,vQ]/\RdPm w (.agg #[vW,vP]) ws ps/\RdBlk w (.agg #[vS,vQ]) es qs
def RowDev(w:World)(lo hi:Nat)(v:Value)(ws:List Int)(ps:List St)(es:List Int)(qs:List Se):Prop :=
 ∃ vW vP vS vQ l1 h1 l2 h2,v=.agg #[vW,vP,vS,vQ]/\RowPm w l1 h1 (.agg #[vW,vP]) ws ps/\RowBlk w l2 h2 (.agg #[vS,vQ]) es qs/\(lo<=l1/\h1<=hi/\lo<=l2/\h2<=hi/\(h1<=l2\/h2<=l1))
theorem RowDev.rd{w:World}{lo hi:Nat}{v:Value}{ws:List Int}{ps:List St}{es:List Int}{qs:List Se}(h:RowDev w lo hi v ws ps es qs):RdDev w v ws ps es qs:=by
 obtain⟨vW,vP,vS,vQ,_,_,_,_,e,h1,h2,_⟩:=h;exact⟨vW,vP,vS,vQ,e,h1.rd,h2.rd⟩
theorem RdDev.below{w w':World}{v:Value}{ws:List Int}{ps:List St}{es:List Int}{qs:List Se}(h:RdDev w v ws ps es qs)(hb:zB w w'):RdDev w' v ws ps es qs:=by
 obtain⟨vW,vP,vS,vQ,e,h1,h2⟩:=h;exact⟨vW,vP,vS,vQ,e,h1.below hb,h2.below hb⟩
theorem RdDev.form{w:World}{v:Value}{ws:List Int}{ps:List St}{es:List Int}{qs:List Se}(h:RdDev w v ws ps es qs):∃ aW cW aP cP aS cS aQ cQ,v=.agg #[.slice aW ws.length cW,.slice aP ps.length cP,.slice aS es.length cS,.slice aQ qs.length cQ]/\RdPm w (.agg #[.slice aW ws.length cW,.slice aP ps.length cP]) ws ps/\RdBlk w (.agg #[.slice aS es.length cS,.slice aQ qs.length cQ]) es qs:=by
 obtain⟨vW,vP,vS,vQ,rfl,⟨_,_,e1,h1,h2⟩,⟨_,_,e2,h3,h4⟩⟩:=h
 cases e1
 cases e2
 obtain⟨aW,cW,rfl,_⟩:=h1.shape;obtain⟨aP,cP,rfl,_⟩:=h2.shape;obtain⟨aS,cS,rfl,_⟩:=h3.shape;obtain⟨aQ,cQ,rfl,_⟩:=h4.shape;exact⟨aW,cW,aP,cP,aS,cS,aQ,cQ,rfl,⟨_,_,rfl,h1,h2⟩,⟨_,_,rfl,h3,h4⟩⟩
theorem RowPm.form{w:World}{lo hi:Nat}{v:Value}{ws:List Int}{ps:List St}(h:RowPm w lo hi v ws ps):∃ aW cW aP cP,v=.agg #[.slice aW ws.length cW,.slice aP ps.length cP]:=by
 obtain⟨vW,vP,rfl,h1,h2⟩:=h.rd;obtain⟨aW,cW,rfl,_⟩:=h1.shape;obtain⟨aP,cP,rfl,_⟩:=h2.shape;exact⟨aW,cW,aP,cP,rfl⟩
theorem RowBlk.form{w:World}{lo hi:Nat}{v:Value}{ws:List Int}{ps:List Se}(h:RowBlk w lo hi v ws ps):∃ aW cW aP cP,v=.agg #[.slice aW ws.length cW,.slice aP ps.length cP]:=by
 obtain⟨vW,vP,rfl,h1,h2⟩:=h.rd;obtain⟨aW,cW,rfl,_⟩:=h1.shape;obtain⟨aP,cP,rfl,_⟩:=h2.shape;exact⟨aW,cW,aP,cP,rfl⟩
theorem zpr(v:Value)(ws:List Int)(ps:List St)(w:World)(h:RdPm w v ws ps)(hw:ws.length<=2147483648)(hp:ps.length<=2147483648) :
  zC 149 #[v] w fun e w'=>∃ v',e=.returned v'/\RowPm w' w.heap.size w'.heap.size v' ws ps/\zB w w':=by
 obtain⟨vW,vP,rfl,h1,h2⟩:=h;have H1:=zaa h1;have H2:=zaa h2;obtain⟨aW,cW,rfl,_⟩:=h1.shape;obtain⟨aP,cP,rfl,_⟩:=h2.shape;clear h1 h2
 have hb0:zB w (((w.alloc (.cells #[.slice aW ws.length cW,.slice aP ps.length cP] 73)).alloc (.cells #[.N,.N] 73)).alloc (.cells #[] 3)):=by
  repeat (refine Below.alloc ?_ (by simp<;>omega) _)
  exact zR
 have ho0:(((w.alloc (.cells #[.slice aW ws.length cW,.slice aP ps.length cP] 73)).alloc (.cells #[.N,.N] 73)).alloc (.cells #[] 3)).ownsRow (w.heap.size+2) 3 1 (.slice (some ⟨w.heap.size+1+1,0,none⟩) 0 0) 0 []:=by
  simpa using World.ownsRow_lit (base:=w.heap.size+2) (e:=3) (size:=1) ((w.alloc (.cells #[.slice aW ws.length cW,.slice aP ps.length cP] 73)).alloc (.cells #[.N,.N] 73)) #[] 0 (by simp) (by simp) rfl
 have HO:=zaa ho0;have HB:=zaa hb0;clear ho0 hb0;go_enter Tryz.func149,Tryz.ntmps149;go_wp2_with (at_builtin;refine zaf _ rfl (.tmp 3) (.tmp 5) 70 rfl (w.heap.size+2) 3 (.I 0) 1 8 Tryz.underlying70 zmu rfl (by decide) _ 0 [] rfl HO.o _ ws.length (zeh ws) rfl (Rd.below H1.o HB.o) (zhg ws) (by simp[maxLen];omega) (by omega) (by simp) ?_);intro v1 w1 hown1 hgr1
 have hown1:w1.ownsRow (w.heap.size+2) 3 1 v1 ws.length (zeh ws):=by simpa using hown1
 have R1:=zaa (zac hown1);obtain⟨_,a1,c1,rfl,_⟩:=(zac hown1).rd
 have hz1:w.heap.size+3<=w1.heap.size:=by have:=hgr1.size;simp at this;omega
 have V0:=(hgr1.block w.heap.size (by simp<;>omega) (by simp[Value.ownBlock]<;>omega)).trans (zak (zak (zai rfl)));have V1:=(hgr1.block (w.heap.size+1) (by simp<;>omega) (by simp[Value.ownBlock]<;>omega)).trans (zak (zai (by simp)));have B1:=HB.o.grown hgr1 (by simp<;>omega) (fun k hk=>by simp[Value.ownBlock]at hk;omega);have V0':=zak (o:=.cells #[] 140) (zlt V0 (.slice a1 ws.length c1));have V1':=zak (o:=.cells #[] 140) ((Below.heap_setCell w1 ⟨w.heap.size,0,none⟩ (.slice a1 ws.length c1) (w.heap.size+1) (by simp)).trans V1);obtain⟨x1,x2,x3,x4⟩:=zad V0;obtain⟨x5,x6,x7,x8⟩:=zad V0';have HV:=zaa (And.intro V0' V1');have hB2:=(B1.setCell (p:=⟨w.heap.size,0,none⟩) zL (.slice a1 ws.length c1)).alloc (by simp;omega) (.cells #[] 140)
 have ho2:((w1.setCell ⟨w.heap.size,0,none⟩ (.slice a1 ws.length c1)).alloc (.cells #[] 140)).ownsRow w1.heap.size 140 3 (.slice (some ⟨w1.heap.size,0,none⟩) 0 0) 0 []:=by
  simpa using World.ownsRow_lit (base:=w1.heap.size) (e:=140) (size:=3) (w1.setCell ⟨w.heap.size,0,none⟩ (.slice a1 ws.length c1)) #[] 0 (by simp) (by simp) rfl
 have HB2:=zaa hB2;have HO2:=zaa ho2;clear hown1 hgr1 V0 V1 B1 V0' V1' hB2 ho2;go_wp2_with (at_builtin;refine zaf _ rfl (.tmp 8) (.tmp 10) 71 rfl w1.heap.size 140 (.agg #[.I 0,.I 0,.bool false]) 3 24 Tryz.underlying71 zuw rfl (by decide) _ 0 [] rfl HO2.o _ ps.length (sts ps) rfl (Rd.below H2.o HB2.o) (zxk ps) (by simp[maxLen];omega) (by omega) (by simp) ?_);intro v2 w2 hown2 hgr2
 have hown2:w2.ownsRow w1.heap.size 140 3 v2 ps.length (sts ps):=by simpa using hown2
 have R2:=zaa (zac hown2);obtain⟨_,a2,c2,rfl,_⟩:=(zac hown2).rd
 have hz2:w1.heap.size+1<=w2.heap.size:=by have:=hgr2.size;simp at this;omega
 have V0:=(hgr2.block w.heap.size (by simp<;>omega) (by simp[Value.ownBlock];omega)).trans HV.o.1;have V1:=(hgr2.block (w.heap.size+1) (by simp<;>omega) (by simp[Value.ownBlock];omega)).trans HV.o.2;have B2:=zaa (HB2.o.grown hgr2 (by simp<;>omega) (fun k hk=>by simp[Value.ownBlock]at hk;omega))
 have K2:Hid (∀ b,w.heap.size+2<=b->b<w1.heap.size->w2.heap[b]?=w1.heap[b]?):=by
  intro b h1 h2;rw[hgr2.block b (by simp<;>omega) (by simp[Value.ownBlock];omega),zev,if_neg (by simp;omega),Below.heap_setCell _ _ _ _ (by simp only;omega)]
 obtain⟨z1,z2,z3,z4⟩:=zad V0;obtain⟨t1,t2,t3,t4⟩:=zad V1;clear hown2 hgr2 V0 V1;go_wp2;refine bodyPost_ret (v:=.agg #[.slice a1 ws.length c1,.slice a2 ps.length c2]) (by simp[results,Tryz.results149,go_sem,t1,t2]) rfl ?_;refine⟨_,rfl,⟨_,_,rfl,(R1.o.same fun b h1 h2=>?_).wide (by omega) (by simp;omega),(R2.o.same fun b h1 h2=>?_).wide (by omega) (by simp)⟩,?_⟩
 ·rw[Below.heap_setCell _ _ _ _ (by simp only;omega),Below.heap_setCell _ _ _ _ (by simp only;omega),Below.heap_setCell _ _ _ _ (by simp only;omega),K2.o b h1 h2]
 ·rw[Below.heap_setCell _ _ _ _ (by simp only;omega),Below.heap_setCell _ _ _ _ (by simp only;omega),Below.heap_setCell _ _ _ _ (by simp only;omega)]
 ·exact((B2.o.setCell (by simp only;omega) _).setCell (by simp only;omega) _).setCell (by simp only;omega) _
theorem zvu(v:Value)(ws:List Int)(ps:List St)(at_ x:Int)(w:World)(h:RdPm w v ws ps)(hp:ps.length<=1048576) :
  zC 169 #[v,.I at_,.I x] w fun e w'=>∃ v',e=.returned v'/\RdPm w' v' ws (ps++[⟨at_,x,false⟩])/\zB w w':=by
 obtain⟨vW,vP,rfl,h1,h2⟩:=h;have H1:=zaa h1;have H2:=zaa h2;obtain⟨aW,cW,rfl,_⟩:=h1.shape;obtain⟨aP,cP,rfl,_⟩:=h2.shape;clear h1 h2
 have hb0:zB w (((w.alloc (.cells #[.slice aW ws.length cW,.slice aP ps.length cP] 73)).alloc (.cells #[.N,.N] 73)).alloc (.cells #[] 140)):=by
  repeat (refine Below.alloc ?_ (by simp<;>omega) _)
  exact zR
 have ho0:(((w.alloc (.cells #[.slice aW ws.length cW,.slice aP ps.length cP] 73)).alloc (.cells #[.N,.N] 73)).alloc (.cells #[] 140)).ownsRow (w.heap.size+2) 140 3 (.slice (some ⟨w.heap.size+1+1,0,none⟩) 0 0) 0 []:=by
  simpa using World.ownsRow_lit (base:=w.heap.size+2) (e:=140) (size:=3) ((w.alloc (.cells #[.slice aW ws.length cW,.slice aP ps.length cP] 73)).alloc (.cells #[.N,.N] 73)) #[] 0 (by simp) (by simp) rfl
 have HO:=zaa ho0;have HB:=zaa hb0;clear ho0 hb0;go_enter Tryz.func169,Tryz.ntmps169;go_wp2_with (at_builtin;refine zaf _ rfl (.tmp 7) (.tmp 9) 71 rfl (w.heap.size+2) 140 (.agg #[.I 0,.I 0,.bool false]) 3 24 Tryz.underlying71 zuw rfl (by decide) _ 0 [] rfl HO.o _ ps.length (sts ps) rfl (Rd.below H2.o HB.o) (zxk ps) (by simp[maxLen];omega) (by omega) (by simp) ?_);intro v1 w1 hown1 hgr1
 have hown1:w1.ownsRow (w.heap.size+2) 140 3 v1 ps.length (sts ps):=by simpa using hown1
 have hz1:w.heap.size+3<=w1.heap.size:=by have:=hgr1.size;simp at this;omega
 have V0:=(hgr1.block w.heap.size (by simp<;>omega) (by simp[Value.ownBlock]<;>omega)).trans (zak (zak (zai rfl)));have V1:=(hgr1.block (w.heap.size+1) (by simp<;>omega) (by simp[Value.ownBlock]<;>omega)).trans (zak (zai (by simp)));have B1:=HB.o.grown hgr1 (by simp<;>omega) (fun k hk=>by simp[Value.ownBlock]at hk;omega);have hB2:=B1.alloc (by omega) (.cells #[.I at_,.I x,.bool false] 140);have V0':=zak (o:=.cells #[.I at_,.I x,.bool false] 140) V0;have V1':=zak (o:=.cells #[.I at_,.I x,.bool false] 140) V1;have ho2:=hown1.alloc (.cells #[.I at_,.I x,.bool false] 140)
 have hr2:Rd (w1.alloc (.cells #[.I at_,.I x,.bool false] 140)) 3 (.slice (some ⟨w1.heap.size,0,none⟩) 1 1) 1 (St.cells ⟨at_,x,false⟩):=by
  refine⟨rfl,_,_,rfl,⟨Nat.le_refl _,fun e=>by cases e⟩,fun _=>⟨w1.heap.size,0,rfl,by simp,fun j hj=>?_⟩⟩;obtain⟨e0,e1,e2⟩:=zaz (zai (w:=w1) (o:=.cells #[.I at_,.I x,.bool false] 140) rfl);rw[Nat.zero_add]
  rcases(show j=0\/j=1\/j=2 from by omega)with rfl|rfl|rfl
  ·exact e0
  ·exact e1
  ·exact e2
 have HV:=zaa (And.intro V0' V1');have HB2:=zaa hB2;have HO2:=zaa ho2;have HR2:=zaa hr2;clear hown1 hgr1 V0 V1 B1 V0' V1' hB2 ho2 hr2;go_wp2_with (at_builtin;refine zaf _ rfl (.tmp 10) (.tmp 14) 71 rfl (w.heap.size+2) 140 (.agg #[.I 0,.I 0,.bool false]) 3 24 Tryz.underlying71 zuw rfl (by decide) _ ps.length (sts ps) rfl HO2.o _ 1 (St.cells ⟨at_,x,false⟩) rfl HR2.o (fun u hu=>by simp[St.cells]at hu;rcases hu with rfl|rfl|rfl<;>rfl) (by simp[maxLen];omega) (by omega) (by simp;omega) ?_);intro v2 w2 hown2 hgr2
 have hr3:RdS w2 v2 (ps++[⟨at_,x,false⟩]):=by
  have:=(zac hown2).rd;unfold RdS;rw[yaas,List.length_append];exact this
 have L3:=zaa (fun k hk=>(hown2.lt k hk).1);have R3:Hid (RdS w2 v2 (ps++[⟨at_,x,false⟩])):=hr3;obtain⟨_,a2,c2,e2,_⟩:=hr3;simp only[List.length_append,List.length_singleton]at e2;subst e2
 have hz2:w1.heap.size+1<=w2.heap.size:=by have:=hgr2.size;simp at this;omega
 have hne:∀ b,b<w.heap.size+2->¬ some b=Value.ownBlock v1:=by
  intro b hb e;have:=(HO2.o.lt b e.symm).1;omega
 have V0:=(hgr2.block w.heap.size (by simp<;>omega) (hne _ (by omega))).trans HV.o.1;have V1:=(hgr2.block (w.heap.size+1) (by simp<;>omega) (hne _ (by omega))).trans HV.o.2;have B2:=zaa (HB2.o.grown hgr2 (by simp<;>omega) (fun k hk=>by have:=(HO2.o.lt k hk).1;omega));obtain⟨z1,z2,z3,z4⟩:=zad V0;obtain⟨t1,t2,t3,t4⟩:=zad V1;clear hown2 hgr2 V0 V1;go_wp2;refine bodyPost_ret (v:=.agg #[.slice aW ws.length cW,.slice a2 (ps.length+1) c2]) (by simp[results,Tryz.results169,go_sem,t1,t2]) rfl ?_;have B3:=((B2.o.setCell (p:=⟨w.heap.size,1,none⟩) zL (.slice a2 (ps.length+1) c2)).setCell (p:=⟨w.heap.size+1,0,none⟩) (by simp only;omega) (.slice aW ws.length cW)).setCell (p:=⟨w.heap.size+1,1,none⟩) (by simp only;omega) (.slice a2 (ps.length+1) c2);refine⟨_,rfl,⟨_,_,rfl,Rd.below H1.o B3,Rd.same R3.o (by simp) (fun b _ hb=>?_)⟩,B3⟩;have:=L3.o b hb;rw[Below.heap_setCell _ _ _ _ (by simp only;omega),Below.heap_setCell _ _ _ _ (by simp only;omega),Below.heap_setCell _ _ _ _ (by simp only;omega)]
theorem yaex(l:List St)(j:Nat)(hj:j/3<l.length):(sts l)[j]?=(l[j/3]).cells[j%3]?:=by
 have:=zbe St.cells 3 St.cells_len l (j/3) (j%3) hj (Nat.mod_lt _ (by decide));rw[show j/3*3+j%3=j from by omega]at this;exact this
theorem yaeg(l:List St)(m:Nat)(hm:m<l.length)(b:Bool):(sts l).set (m*3+2) (.bool b)=sts (l.set m ⟨l[m].at_,l[m].val,b⟩):=by
 apply List.ext_getElem?;intro j
 by_cases hj:j<l.length*3
 ·have h3:j/3<l.length:=by omega
  have h3':j/3<(l.set m ⟨l[m].at_,l[m].val,b⟩).length:=by simpa using h3
  rw[yaeo (by rw[zwg];exact hj),yaex _ j h3',yaex l j h3,List.getElem_set]
  by_cases e:m=j/3
  ·rw[if_pos e];subst e
   rcases(show j%3=0\/j%3=1\/j%3=2 from by omega)with r | r | r
   ·rw[if_neg (by omega),r];rfl
   ·rw[if_neg (by omega),r];rfl
   ·rw[if_pos (by omega),r];rfl
  ·rw[if_neg e,if_neg (by omega)]
 ·rw[List.getElem?_eq_none (by rw[List.length_set,zwg];omega),List.getElem?_eq_none (by rw[zwg,List.length_set];omega)]
def fl1(k:Int)(p:St):St:=if p.at_/8=k/8 then⟨p.at_,p.val,true⟩else p
def mix(k:Int)(ps:List St)(m:Nat):List St:=(ps.take m).map (fl1 k)++ps.drop m
theorem zwi(k:Int)(ps:List St)(m:Nat)(hm:m<=ps.length):(mix k ps m).length=ps.length:=by simp[mix];omega
theorem yalm(k:Int)(ps:List St):mix k ps 0=ps:=by simp[mix]
theorem yaop(k:Int)(ps:List St):mix k ps ps.length=ps.map (fl1 k):=by simp[mix]
theorem yait(k:Int)(ps:List St)(m:Nat)(hm:m<ps.length)(h:m<(mix k ps m).length):(mix k ps m)[m]=ps[m]:=by
 have e:(mix k ps m)[m]?=ps[m]?:=by
  unfold mix;rw[List.getElem?_append_right (by rw[List.length_map,List.length_take];omega)];simp[Nat.min_eq_left (Nat.le_of_lt hm)]
 rw[List.getElem?_eq_getElem h,List.getElem?_eq_getElem hm]at e;exact Option.some.inj e
theorem yaao(k:Int)(ps:List St)(m:Nat)(hm:m<ps.length):mix k ps (m+1)=(mix k ps m).set m (fl1 k ps[m]):=by
 unfold mix;rw[List.take_succ_eq_append_getElem hm,List.map_append,List.set_append_right _ _ (by rw[List.length_map,List.length_take];omega)];simp only[List.map_cons,List.map_nil,List.length_map,List.length_take,Nat.min_eq_left (Nat.le_of_lt hm),Nat.sub_self];rw[List.drop_eq_getElem_cons hm,List.set_cons_zero,List.append_assoc];rfl
theorem yapt{k:Int}{ps:List St}{m:Nat}(hm:m<ps.length)(h:ps[m].at_/8=k/8):(sts (mix k ps m)).set (m*3+2) (.bool true)=sts (mix k ps (m+1)):=by
 have hl:m<(mix k ps m).length:=by rw[zwi _ _ _ (by omega)];exact hm
 rw[yaeg _ m hl,yaao k ps m hm,yait k ps m hm hl];unfold fl1;rw[if_pos h]
theorem yama{k:Int}{ps:List St}{m:Nat}(hm:m<ps.length)(h:¬ ps[m].at_/8=k/8):mix k ps (m+1)=mix k ps m:=by
 have hl:m<(mix k ps m).length:=by rw[zwi _ _ _ (by omega)];exact hm
 rw[yaao k ps m hm];unfold fl1;rw[if_neg h];have:=yait k ps m hm hl;rw[<- this,List.set_getElem_self]
theorem zta(v:Value)(ws:List Int)(ps:List St)(k:Nat)(w:World)(h:RdPm w v ws ps)(hp:ps.length<=1048576)(hk:k<336)(hok:∀ j (h:j<ps.length),0<=ps[j].at_/\ps[j].at_<336) :
  zC 170 #[v,.I (k:Int)] w fun e w'=>∃ v',e=.returned v'/\RdPm w' v' ws (ps.map (fl1 (k:Int)))/\zB w w':=by
 obtain⟨vW,vP,rfl,h1,h2⟩:=h;have H1:=zaa h1;have H2:=zaa h2;have HOK:=zaa hok;obtain⟨aW,cW,rfl,_⟩:=h1.shape;obtain⟨aP,cP,rfl,_⟩:=h2.shape;clear h1 h2 hok
 have hb0:zB w (((w.alloc (.cells #[.slice aW ws.length cW,.slice aP ps.length cP] 73)).alloc (.cells #[.N,.N] 73)).alloc (.cells #[] 140)):=by
  repeat (refine Below.alloc ?_ (by simp<;>omega) _)
  exact zR
 have ho0:(((w.alloc (.cells #[.slice aW ws.length cW,.slice aP ps.length cP] 73)).alloc (.cells #[.N,.N] 73)).alloc (.cells #[] 140)).ownsRow (w.heap.size+2) 140 3 (.slice (some ⟨w.heap.size+1+1,0,none⟩) 0 0) 0 []:=by
  simpa using World.ownsRow_lit (base:=w.heap.size+2) (e:=140) (size:=3) ((w.alloc (.cells #[.slice aW ws.length cW,.slice aP ps.length cP] 73)).alloc (.cells #[.N,.N] 73)) #[] 0 (by simp) (by simp) rfl
 have HO:=zaa ho0;have HB:=zaa hb0;clear ho0 hb0;go_enter Tryz.func170,Tryz.ntmps170;go_wp2_with (at_builtin;refine zaf _ rfl (.tmp 6) (.tmp 8) 71 rfl (w.heap.size+2) 140 (.agg #[.I 0,.I 0,.bool false]) 3 24 Tryz.underlying71 zuw rfl (by decide) _ 0 [] rfl HO.o _ ps.length (sts ps) rfl (Rd.below H2.o HB.o) (zxk ps) (by simp[maxLen];omega) (by omega) (by simp) ?_);intro v1 w1 hown1 hgr1
 have hown1:w1.ownsRow (w.heap.size+2) 140 3 v1 ps.length (sts ps):=by simpa using hown1
 obtain⟨a1,c1,rfl⟩:=RdS.form (zac hown1).rd rfl
 have hz1:w.heap.size+3<=w1.heap.size:=by have:=hgr1.size;simp at this;omega
 have V0:=(hgr1.block w.heap.size (by simp<;>omega) (by simp[Value.ownBlock]<;>omega)).trans (zak (zak (zai rfl)));have V1:=(hgr1.block (w.heap.size+1) (by simp<;>omega) (by simp[Value.ownBlock]<;>omega)).trans (zak (zai (by simp)));have B1:=HB.o.grown hgr1 (by simp<;>omega) (fun k hk=>by simp[Value.ownBlock]at hk;omega);obtain⟨x1,x2,x3,x4⟩:=zad V0;have RH:Hid (Row (w1.setCell ⟨w.heap.size,1,none⟩ (.slice a1 ps.length c1)) 140 3 (w.heap.size+2) w1.heap.size (.slice a1 ps.length c1) ps.length (sts ps)):=(zac hown1).same (fun b h1 _=>Below.heap_setCell _ _ _ _ (by simp only;omega));have VH:=zaa (And.intro (zsi V0 (.slice a1 ps.length c1)) ((Below.heap_setCell w1 ⟨w.heap.size,1,none⟩ (.slice a1 ps.length c1) (w.heap.size+1) (by simp)).trans V1));have BH:=zaa (B1.setCell (p:=⟨w.heap.size,1,none⟩) zL (.slice a1 ps.length c1));clear hown1 hgr1 V0 V1 B1;go_wp2
 go_loopw [5] (fun i wr=>∃ m:Nat,m<=ps.length/\i=.I m/\Row wr 140 3 (w.heap.size+2) w1.heap.size (.slice a1 ps.length c1) ps.length (sts (mix (k:Int) ps m))/\(wr.heap[w.heap.size]?=some (.cells #[.slice aW ws.length cW,.slice a1 ps.length c1] 73 (0,0))/\wr.heap[w.heap.size+1]?=some (.cells #[.N,.N] 73 (0,0)))/\zB w wr/\w1.heap.size<=wr.heap.size) (fun i _=>ps.length-(intOf i).toNat)
 case atStart=>exact⟨0,by omega,rfl,by rw[yalm];exact RH.o,VH.o,BH.o,by simp⟩
 case round =>
  obtain⟨m,hm,rfl,hrow,hv,hb,hz⟩:=hrel;obtain⟨y1,y2,y3,y4⟩:=zad hv.1
  by_cases hlt:m<ps.length
  ·have hl:=zwi (k:Int) ps m hm;obtain⟨_,ao',cap',e',_,hc⟩:=hrow.rd
   cases e'
   obtain⟨b,o,rfl,hbl,_⟩:=hc (by omega)
   obtain⟨rfl,hb1,hb2,_,hfr,hcl⟩:=hrow.at
   have hml:m<(mix (k:Int) ps m).length:=by omega
   have e0:=(hcl (m*3) (by omega)).trans (znn _ m hml);have e2:=(hcl (m*3+2) (by omega)).trans (zxm _ m hml);rw[yait _ _ _ hlt hml]at e0 e2;have f2:=hfr (m*3+2);obtain⟨q0,q1⟩:=HOK.o m hlt;have ST:=zaa (hrow.stored (m*3+2) (.bool true));have BH2:=zaa (hb.setCell (p:=⟨b,m*3+2,none⟩) (by simp only;omega) (.bool true));have VH2:=zaa (And.intro ((Below.heap_setCell wr ⟨b,m*3+2,none⟩ (.bool true) w.heap.size (by simp only;omega)).trans hv.1) ((Below.heap_setCell wr ⟨b,m*3+2,none⟩ (.bool true) (w.heap.size+1) (by simp only;omega)).trans hv.2));have RM:=zaa hrow;have VM:=zaa hv;clear hrow hc hfr hcl hv hl
   by_cases c:ps[m].at_/8=(k:Int)/8
   ·have c':(ps[m].at_/8 == (k:Int)/8)=true:=by simpa using c
    have E:=zaa (yapt hlt c);clear c;go_wp2
    go_roundw
    case rel=>exact⟨m+1,by omega,by go_num,E.o ▸ ST.o,VH2.o,BH2.o,by simp;omega⟩
    case measure=>simp[intOf];omega
   ·have c':(ps[m].at_/8 == (k:Int)/8)=false:=by simpa using c
    have E:=zaa (yama hlt c);clear c;go_wp2
    go_roundw
    case rel=>exact⟨m+1,by omega,by go_num,E.o ▸ RM.o,VM.o,hb,hz⟩
    case measure=>simp[intOf];omega
  ·have e:m=ps.length:=by omega
   subst e;obtain⟨t1,t2,t3,t4⟩:=zad hv.2;have RM:=zaa hrow;clear hrow hv;go_wp2;refine bodyPost_ret (v:=.agg #[.slice aW ws.length cW,.slice a1 ps.length c1]) (by simp[results,Tryz.results170,go_sem,t1,t2]) rfl ?_;have B3:=(hb.setCell (p:=⟨w.heap.size+1,0,none⟩) (by simp only;omega) (.slice aW ws.length cW)).setCell (p:=⟨w.heap.size+1,1,none⟩) (by simp only;omega) (.slice a1 ps.length c1);refine⟨_,rfl,⟨_,_,rfl,Rd.below H1.o B3,?_⟩,B3⟩;have R3:=(RM.o.same (w':=(wr.setCell ⟨w.heap.size+1,0,none⟩ (.slice aW ws.length cW)).setCell ⟨w.heap.size+1,1,none⟩ (.slice a1 ps.length c1)) (fun b h1 h2=>by rw[Below.heap_setCell _ _ _ _ (by simp only;omega),Below.heap_setCell _ _ _ _ (by simp only;omega)])).rd;unfold RdS;rw[yaop]at R3;rw[List.length_map];exact R3
def zmc(ws:List Int)(ps:List St):List Int:=ps.foldl (fun acc p=>if p.fl then acc.set p.at_.toNat p.val else acc) ws
def zkr(ps:List St):List St:=ps.filter (fun p=>!p.fl)
theorem zuh(ws:List Int)(ps:List St)(p:St):zmc ws (ps++[p])=if p.fl then(zmc ws ps).set p.at_.toNat p.val else zmc ws ps:=by simp[zmc]
theorem zma(ws:List Int):∀ ps:List St,(zmc ws ps).length=ws.length:=by
 intro ps;unfold zmc
 induction ps generalizing ws with
 | nil=>rfl
 | cons p ps ih =>
  rw[List.foldl_cons,ih]
  split<;>simp
theorem zus(ps:List St)(p:St):zkr (ps++[p])=if p.fl then zkr ps else zkr ps++[p]:=by
 unfold zkr;rw[List.filter_append]
 cases h:p.fl<;>simp[h]
theorem yaor(ps:List St):(zkr ps).length<=ps.length:=List.length_filter_le _ _
structure FenInv(w wr:World)(ws:List Int)(ps:List St)(lo hi:Nat)(vW vP vL:Value)(m:Nat):Prop where
 words:Row wr 3 1 lo hi vW ws.length (zeh (zmc ws (ps.take m)))
 left:wr.ownsRow hi 140 3 vL (zkr (ps.take m)).length (sts (zkr (ps.take m)))
 pend:Row wr 140 3 lo hi vP ps.length (sts ps)
 box:wr.heap[w.heap.size]?=some (.cells #[vW,vP] 73 (0,0))
 res:wr.heap[w.heap.size+1]?=some (.cells #[.N,.N] 73 (0,0))
 below:zB w wr
 size:hi<=wr.heap.size
theorem FenInv.hit{w wr:World}{ws:List Int}{ps:List St}{lo hi:Nat}{b n cap:Nat}{vP vL:Value}{m:Nat}(h:FenInv w wr ws ps lo hi (.slice (some ⟨b,0,none⟩) n cap) vP vL m)(hm:m<ps.length)(hf:ps[m].fl=true)(hlo:w.heap.size+2<=lo)(o:Obj)(hn:n=ws.length) :
  FenInv w ((wr.setCell ⟨b,ps[m].at_.toNat,none⟩ (.I ps[m].val)).alloc o) ws ps lo hi (.slice (some ⟨b,0,none⟩) n cap) vP vL (m+1):=by
 subst hn;obtain⟨h1,h2,h3,h4,h5,h6,h7⟩:=h
 obtain⟨_,hb1,hb2,_⟩:=h1.at
 have e1:zmc ws (ps.take (m+1))=(zmc ws (ps.take m)).set ps[m].at_.toNat ps[m].val:=by rw[zhb ps m hm,zuh,if_pos hf]
 have e2:zkr (ps.take (m+1))=zkr (ps.take m):=by rw[zhb ps m hm,zus,if_pos hf]
 refine⟨?_,?_,?_,?_,?_,?_,?_⟩
 ·rw[e1,<- zlk];exact(h1.stored _ _).alloc (by simp;omega) o
 ·rw[e2];exact((zac h2).same (w':=wr.setCell ⟨b,ps[m].at_.toNat,none⟩ (.I ps[m].val)) (fun k hk _=>Below.heap_setCell _ _ _ _ (by simp only;omega))).1.alloc o
 ·exact(h3.apart h1 (by decide) (World.ownsRow.stored h1.1 _ _).2).alloc (by simp;omega) o
 ·refine zak ?_;rw[Below.heap_setCell _ _ _ _ (by simp only;omega)];exact h4
 ·refine zak ?_;rw[Below.heap_setCell _ _ _ _ (by simp only;omega)];exact h5
 ·exact(h6.setCell (by simp only;omega) _).alloc (by simp;exact h6.size) o
 ·simp;omega
theorem FenInv.miss {w wr w':World} {ws:List Int} {ps:List St} {lo hi:Nat} {vW vP vL vL':Value} {m:Nat} (h:FenInv w wr ws ps lo hi vW vP vL m) (hm:m<ps.length) (hf:ps[m].fl=false) (hlo:w.heap.size+2<=lo) (hhi:lo<=hi) (o o':Obj)
  (ho:w'.ownsRow hi 140 3 vL' ((zkr (ps.take m)).length+1) (sts (zkr (ps.take m))++St.cells ps[m])) (hg:((wr.alloc o).alloc o').grownBy w' vL.ownBlock):FenInv w w' ws ps lo hi vW vP vL' (m+1):=by
 obtain⟨h1,h2,h3,h4,h5,h6,h7⟩:=h
 have hl:=fun k hk=>(((h2.alloc o).alloc o').lt k hk).1
 have e1:zmc ws (ps.take (m+1))=zmc ws (ps.take m):=by rw[zhb ps m hm,zuh,hf];rfl
 have e2:zkr (ps.take (m+1))=zkr (ps.take m)++[ps[m]]:=by rw[zhb ps m hm,zus,hf];rfl
 have keep:∀ k,k<hi->w'.heap[k]?=((wr.alloc o).alloc o').heap[k]?:=fun k hk=>hg.block k (by simp;omega) (fun e=>by have:=hl k e.symm;omega)
 have l4:=(Array.getElem?_eq_some_iff.1 h4).1;refine⟨?_,?_,?_,?_,?_,?_,?_⟩
 ·rw[e1];exact((h1.alloc h7 o).alloc (by simp;omega) o').same (fun k _ hk=>keep k hk)
 ·rw[e2,List.length_append,yaas];exact ho
 ·exact((h3.alloc h7 o).alloc (by simp;omega) o').same (fun k _ hk=>keep k hk)
 ·rw[keep _ (by omega)];exact zak (zak h4)
 ·rw[keep _ (by omega)];exact zak (zak h5)
 ·exact((h6.alloc h6.size o).alloc (by simp;have:=h6.size;omega) o').grown hg (by simp;have:=h6.size;omega) (fun k hk=>by have:=hl k hk;omega)
 ·have:=hg.size;simp at this;omega
theorem ztd(v:Value)(ws:List Int)(ps:List St)(w:World)(h:RdPm w v ws ps)(hw:ws.length<=1048576)(hp:ps.length<=1048576)(hok:∀ j (h:j<ps.length),0<=ps[j].at_/\ps[j].at_<ws.length) :
  zC 171 #[v] w fun e w'=>∃ v',e=.returned v'/\RowPm w' w.heap.size w'.heap.size v' (zmc ws ps) (zkr ps)/\zB w w':=by
 have HR:=zaa h;obtain⟨vW,vP,rfl,h1,h2⟩:=h;obtain⟨aW,cW,rfl,_⟩:=h1.shape;obtain⟨aP,cP,rfl,_⟩:=h2.shape;have HOK:=zaa hok;clear h1 h2 hok
 have hb0:zB w ((w.alloc (.cells #[.slice aW ws.length cW,.slice aP ps.length cP] 73)).alloc (.cells #[.N,.N] 73)):=by
  repeat (refine Below.alloc ?_ (by simp<;>omega) _)
  exact zR
 go_enter Tryz.func171,Tryz.ntmps171;go_wp2_with fail;refine(zpr _ ws ps _ (HR.o.below hb0) (by omega) (by omega)).mono ?_;rintro e w2 ⟨v2,rfl,hr2,hb2⟩;obtain⟨vW2,vP2,rfl,hI2,hS2⟩:=hr2;obtain⟨aW2,cW2,rfl⟩:=RdI.form hI2.rd rfl;obtain⟨aP2,cP2,rfl⟩:=RdS.form hS2.rd rfl;simp only[World.size_alloc]at hI2 hS2
 have hz2:w.heap.size+2<=w2.heap.size:=by have:=hb2.size;simp at this;omega
 have V0:=(hb2.block w.heap.size (by simp<;>omega)).trans (zak (zai rfl));have V1:=(hb2.block (w.heap.size+1) (by simp)).trans (zai (by simp));have B2:=zab hb0 hb2 (by simp<;>omega);obtain⟨x1,x2,x3,x4⟩:=zad V0
 have INV:Hid (FenInv w (((w2.setCell ⟨w.heap.size,0,none⟩ (.slice aW2 ws.length cW2)).setCell ⟨w.heap.size,1,none⟩ (.slice aP2 ps.length cP2)).alloc (.cells #[] 140)) ws ps (w.heap.size+1+1) w2.heap.size (.slice aW2 ws.length cW2) (.slice aP2 ps.length cP2) (.slice (some ⟨w2.heap.size,0,none⟩) 0 0) 0):=by
  refine⟨?_,?_,?_,?_,?_,?_,?_⟩
  ·refine((hI2.same fun b hb1 _=>?_).alloc (by simp) _);rw[Below.heap_setCell _ _ _ _ (by simp only;omega),Below.heap_setCell _ _ _ _ (by simp only;omega)]
  ·have:=World.ownsRow_lit (base:=w2.heap.size) (e:=140) (size:=3) ((w2.setCell ⟨w.heap.size,0,none⟩ (.slice aW2 ws.length cW2)).setCell ⟨w.heap.size,1,none⟩ (.slice aP2 ps.length cP2)) #[] 0 (by simp) (by simp) rfl;simpa[zkr,sts]using this
  ·refine((hS2.same fun b hb1 _=>?_).alloc (by simp) _);rw[Below.heap_setCell _ _ _ _ (by simp only;omega),Below.heap_setCell _ _ _ _ (by simp only;omega)]
  ·exact zak (zsi (zlt V0 _) _)
  ·refine zak ?_;rw[Below.heap_setCell _ _ _ _ (by simp only;omega),Below.heap_setCell _ _ _ _ (by simp only;omega)];exact V1
  ·exact((B2.setCell (by simp only;omega) _).setCell (by simp only;omega) _).alloc (by simp;omega) _
  ·simp
 clear hb0 hb2 hI2 hS2 V0 V1 B2;go_wp2
 go_loopw [3,4,5] (fun vL i _ wr=>∃ m:Nat,m<=ps.length/\i=.I m/\Hid (FenInv w wr ws ps (w.heap.size+1+1) w2.heap.size (.slice aW2 ws.length cW2) (.slice aP2 ps.length cP2) vL m)) (fun _ i _ _=>ps.length-(intOf i).toNat)
 case atStart=>exact⟨0,by omega,rfl,INV⟩
 case round =>
  obtain⟨m,hm,rfl,I⟩:=hrel;obtain⟨y1,y2,y3,y4⟩:=zad I.o.box
  by_cases hlt:m<ps.length
  ·obtain⟨_,ao',cap',e',_,hc⟩:=I.o.pend.rd
   cases e'
   obtain⟨b,o,rfl,hbl,_⟩:=hc (by omega)
   obtain⟨rfl,_,_,_,hfr,hcl⟩:=I.o.pend.at
   have e0:=(hcl (m*3) (by omega)).trans (znn _ m hlt);have e1:=(hcl (m*3+1) (by omega)).trans (yaes _ m hlt);have e2:=(hcl (m*3+2) (by omega)).trans (zxm _ m hlt);obtain⟨q0,q1⟩:=HOK.o m hlt;have hsz:=I.o.size;clear hc hfr hcl
   cases hf:ps[m].fl
   ·rw[hf]at e2
    have ec:St.cells ⟨ps[m].at_,ps[m].val,false⟩=St.cells ps[m]:=by simp[St.cells,hf]
    have hr:=yash (wr.alloc (.cells #[.I ps[m].at_,.I ps[m].val,.bool false] 140)) ps[m].at_ ps[m].val false;simp only[World.size_alloc]at hr;have HRD:=zaa hr;have HOW:=zaa ((I.o.left.alloc (.cells #[.I ps[m].at_,.I ps[m].val,.bool false] 140)).alloc (.cells #[.I ps[m].at_,.I ps[m].val,.bool false] 140));have hfl:=yaor (ps.take m);rw[List.length_take]at hfl;have EC:=zaa ec;have HF:=zaa hf;have HS:=zaa hsz;clear hr ec hf hsz;go_wp2_with (at_builtin;refine zaf _ rfl (.tmp 30) (.tmp 32) 71 rfl w2.heap.size 140 (.agg #[.I 0,.I 0,.bool false]) 3 24 Tryz.underlying71 zuw rfl (by decide) _ _ _ rfl HOW.o _ 1 (St.cells ⟨ps[m].at_,ps[m].val,false⟩) rfl HRD.o (yahr _) (by simp[maxLen];omega) (by omega) (by have:=HS.o;simp;omega) ?_);intro vN wN hownN hgrN;have I1:=zaa (I.o.miss hlt HF.o zL hz2 _ _ (by rw[<- EC.o];exact hownN) hgrN);clear hownN hgrN;go_wp2
    go_roundw
    case rel=>exact⟨m+1,by omega,by go_num,I1⟩
    case measure=>simp[intOf];omega
   ·rw[hf]at e2;obtain⟨_,aw',cw',ew',_,hcw⟩:=I.o.words.rd
    cases ew'
    obtain⟨bw,ow,rfl,hblw,_⟩:=hcw (by omega)
    obtain⟨rfl,_,_,_,hfrw,hclw⟩:=(I.o.words.alloc hsz (.cells #[.I ps[m].at_,.I ps[m].val,.bool true] 140)).at
    have hj:ps[m].at_.toNat<(zmc ws (ps.take m)).length:=by rw[zma];omega
    have g0:=hfrw ps[m].at_.toNat;have g1:=(hclw ps[m].at_.toNat (by omega)).trans (zen _ _ hj);have I1:=zaa (I.o.hit hlt hf zL (.cells #[.I ps[m].at_,.I ps[m].val,.bool true] 140) rfl);obtain⟨z1,z2,_,_⟩:=zad (zak (o:=.cells #[.I ps[m].at_,.I ps[m].val,.bool true] 140) I.o.box);clear hcw hfrw hclw;go_wp2
    go_roundw
    case rel=>exact⟨m+1,by omega,by go_num,I1⟩
    case measure=>simp[intOf];omega
  ·have e:m=ps.length:=by omega
   subst e;obtain⟨aL,cL,hvL⟩:=RdS.form (zac I.o.left).rd (n:=(zkr ps).length) (by rw[List.take_length]);subst hvL;obtain⟨t1,t2,t3,t4⟩:=zad I.o.res;have hsz:=I.o.size;go_wp2;have I2:=I.o;refine bodyPost_ret (v:=.agg #[.slice aW2 ws.length cW2,.slice aL (zkr ps).length cL]) (by simp[results,Tryz.results171,go_sem,t1,t2]) rfl ?_;refine⟨_,rfl,⟨_,_,rfl,?_,?_⟩,((I2.below.setCell (by simp only;omega) _).setCell (by simp only;omega) _).setCell (by simp only;omega) _⟩
   ·rw[zma];have:=I2.words;rw[List.take_length]at this;refine(this.same fun b h1 h2=>?_).wide (by omega) (by simp;omega);rw[Below.heap_setCell _ _ _ _ (by simp only;omega),Below.heap_setCell _ _ _ _ (by simp only;omega),Below.heap_setCell _ _ _ _ (by simp only;omega)]
   ·have:=zac I2.left;rw[List.take_length]at this;refine(this.same fun b h1 h2=>?_).wide (by omega) (by simp);rw[Below.heap_setCell _ _ _ _ (by simp only;omega),Below.heap_setCell _ _ _ _ (by simp only;omega),Below.heap_setCell _ _ _ _ (by simp only;omega)]
theorem zvs(vW vP:Value)(ws:List Int)(ps:List Se)(at_ x:Int)(w:World)(h:RdBlk w (.agg #[vW,vP]) ws ps)(hp:ps.length<=1048576) :
  zC 172 #[.agg #[vW,vP],.I at_,.I x] w fun e w'=>∃ vP',e=.returned (.agg #[vW,vP'])/\RdBlk w' (.agg #[vW,vP']) ws (ps++[⟨at_,x⟩])/\(∀ k,vP'.ownBlock=some k->w.heap.size<=k)/\zB w w':=by
 obtain⟨_,_,e0,h1,h2⟩:=h
 cases e0
 have H1:=zaa h1;have H2:=zaa h2;obtain⟨aW,cW,rfl,_⟩:=h1.shape;obtain⟨aP,cP,rfl,_⟩:=h2.shape;clear h1 h2
 have hb0:zB w (((w.alloc (.cells #[.slice aW ws.length cW,.slice aP ps.length cP] 76)).alloc (.cells #[.N,.N] 76)).alloc (.cells #[] 213)):=by
  repeat (refine Below.alloc ?_ (by simp<;>omega) _)
  exact zR
 have ho0:(((w.alloc (.cells #[.slice aW ws.length cW,.slice aP ps.length cP] 76)).alloc (.cells #[.N,.N] 76)).alloc (.cells #[] 213)).ownsRow (w.heap.size+2) 213 2 (.slice (some ⟨w.heap.size+1+1,0,none⟩) 0 0) 0 []:=by
  simpa using World.ownsRow_lit (base:=w.heap.size+2) (e:=213) (size:=2) ((w.alloc (.cells #[.slice aW ws.length cW,.slice aP ps.length cP] 76)).alloc (.cells #[.N,.N] 76)) #[] 0 (by simp) (by simp) rfl
 have HO:=zaa ho0;have HB:=zaa hb0;clear ho0 hb0;go_enter Tryz.func172,Tryz.ntmps172;go_wp2_with (at_builtin;refine zaf _ rfl (.tmp 7) (.tmp 9) 74 rfl (w.heap.size+2) 213 (.agg #[.I 0,.I 0]) 2 16 Tryz.underlying74 zxo rfl (by decide) _ 0 [] rfl HO.o _ ps.length (ses ps) rfl (Rd.below H2.o HB.o) (yafs ps) (by simp[maxLen];omega) (by omega) (by simp) ?_);intro v1 w1 hown1 hgr1
 have hown1:w1.ownsRow (w.heap.size+2) 213 2 v1 ps.length (ses ps):=by simpa using hown1
 have hz1:w.heap.size+3<=w1.heap.size:=by have:=hgr1.size;simp at this;omega
 have V0:=(hgr1.block w.heap.size (by simp<;>omega) (by simp[Value.ownBlock]<;>omega)).trans (zak (zak (zai rfl)));have V1:=(hgr1.block (w.heap.size+1) (by simp<;>omega) (by simp[Value.ownBlock]<;>omega)).trans (zak (zai (by simp)));have B1:=HB.o.grown hgr1 (by simp<;>omega) (fun k hk=>by simp[Value.ownBlock]at hk;omega);have hB2:=B1.alloc (by omega) (.cells #[.I at_,.I x] 213);have V0':=zak (o:=.cells #[.I at_,.I x] 213) V0;have V1':=zak (o:=.cells #[.I at_,.I x] 213) V1;have ho2:=hown1.alloc (.cells #[.I at_,.I x] 213);have hr2:=yata w1 at_ x;have HV:=zaa (And.intro V0' V1');have HB2:=zaa hB2;have HO2:=zaa ho2;have HR2:=zaa hr2;clear hown1 hgr1 V0 V1 B1 V0' V1' hB2 ho2 hr2;go_wp2_with (at_builtin;refine zaf _ rfl (.tmp 10) (.tmp 14) 74 rfl (w.heap.size+2) 213 (.agg #[.I 0,.I 0]) 2 16 Tryz.underlying74 zxo rfl (by decide) _ ps.length (ses ps) rfl HO2.o _ 1 (Se.cells ⟨at_,x⟩) rfl HR2.o (fun u hu=>by simp[Se.cells]at hu;rcases hu with rfl|rfl<;>rfl) (by simp[maxLen];omega) (by omega) (by simp;omega) ?_);intro v2 w2 hown2 hgr2
 have hr3:RdE w2 v2 (ps++[⟨at_,x⟩]):=by
  have:=(zac hown2).rd;unfold RdE;rw[yame,List.length_append];exact this
 have L3:=zaa (fun k hk=>(hown2.lt k hk).1);have R3:Hid (RdE w2 v2 (ps++[⟨at_,x⟩])):=hr3;obtain⟨_,a2,c2,e2,_⟩:=hr3;simp only[List.length_append,List.length_singleton]at e2;subst e2
 have hz2:w1.heap.size+1<=w2.heap.size:=by have:=hgr2.size;simp at this;omega
 have hne:∀ b,b<w.heap.size+2->¬ some b=Value.ownBlock v1:=by
  intro b hb e;have:=(HO2.o.lt b e.symm).1;omega
 have V0:=(hgr2.block w.heap.size (by simp<;>omega) (hne _ (by omega))).trans HV.o.1;have V1:=(hgr2.block (w.heap.size+1) (by simp<;>omega) (hne _ (by omega))).trans HV.o.2;have B2:=zaa (HB2.o.grown hgr2 (by simp<;>omega) (fun k hk=>by have:=(HO2.o.lt k hk).1;omega));obtain⟨z1,z2,z3,z4⟩:=zad V0;obtain⟨t1,t2,t3,t4⟩:=zad V1;clear hown2 hgr2 V0 V1;go_wp2;refine bodyPost_ret (v:=.agg #[.slice aW ws.length cW,.slice a2 (ps.length+1) c2]) (by simp[results,Tryz.results172,go_sem,t1,t2]) rfl ?_;have B3:=((B2.o.setCell (p:=⟨w.heap.size,1,none⟩) zL (.slice a2 (ps.length+1) c2)).setCell (p:=⟨w.heap.size+1,0,none⟩) (by simp only;omega) (.slice aW ws.length cW)).setCell (p:=⟨w.heap.size+1,1,none⟩) (by simp only;omega) (.slice a2 (ps.length+1) c2);refine⟨_,rfl,⟨_,_,rfl,Rd.below H1.o B3,Rd.same R3.o (by simp) (fun b _ hb=>?_)⟩,fun b hb=>by have:=L3.o b hb;omega,B3⟩;have:=L3.o b hb;rw[Below.heap_setCell _ _ _ _ (by simp only;omega),Below.heap_setCell _ _ _ _ (by simp only;omega),Below.heap_setCell _ _ _ _ (by simp only;omega)]
theorem zts(v:Value)(ws:List Int)(ps:List Se)(at_ x:Int)(w:World)(h:RdBlk w v ws ps)(hp:ps.length<=1048576) :
  zC 172 #[v,.I at_,.I x] w fun e w'=>∃ v',e=.returned v'/\RdBlk w' v' ws (ps++[⟨at_,x⟩])/\zB w w':=by
 obtain⟨vW,vP,rfl,h1,h2⟩:=h
 exact(zvs vW vP ws ps at_ x w ⟨_,_,rfl,h1,h2⟩ hp).mono fun _ _ ⟨vP',he,hr,_,hb⟩=>⟨_,he,hr,hb⟩
end Go.Proofs.YtfagbapgnocjiaaGreatDoor
