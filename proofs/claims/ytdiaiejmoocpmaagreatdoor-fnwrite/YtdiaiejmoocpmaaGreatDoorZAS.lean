import Derived.Test.YtdiaiejmoocpmaaGreatDoorZAR
set_option maxHeartbeats 4000000
namespace Go.Proofs.YtdiaiejmoocpmaaGreatDoor
open Go.RowKit
def zeh(ws:List Int)(ps:List St)(at_:Int):List Int:=if zij ws ps at_=0 then ws else[]
def zei(ws:List Int)(ps:List St)(at_:Int):List St:=if zij ws ps at_=0 then ps.map (fl1 at_) else[]
theorem yaob{ws:List Int}{ps:List St}{at_:Int}(h:¬ zij ws ps at_=0):zeh ws ps at_=[]/\zei ws ps at_=[]:=by
 unfold zeh zei;rw[if_neg h,if_neg h];exact⟨rfl,rfl⟩
theorem yarg{ws:List Int}{ps:List St}{at_:Int}(h:zij ws ps at_=0):zeh ws ps at_=ws/\zei ws ps at_=ps.map (fl1 at_):=by
 unfold zeh zei;rw[if_pos h,if_pos h];exact⟨rfl,rfl⟩
theorem zrn(v:Value)(ws:List Int)(ps:List St)(at_:Int)(w:World)(h:RdPm w v ws ps)(hw:ws.length<=1048576)(hp:ps.length<=1048576) :
  zC 77 #[v,.I at_] w fun e w'=>∃ v',e=.returned (.tuple #[v',.I (zij ws ps at_)])/\RowPm w' w.heap.size w'.heap.size v' (zeh ws ps at_) (zei ws ps at_)/\zB w w':=by
 have HR:=zaa h;obtain⟨vW,vP,rfl,h1,h2⟩:=h;obtain⟨aW,cW,rfl,_⟩:=h1.shape;obtain⟨aP,cP,rfl,_⟩:=h2.shape;clear h1 h2
 have hb0:zB w ((w.alloc (.cells #[.slice aW ws.length cW,.slice aP ps.length cP] 26)).alloc (.cells #[.N,.N] 26)):=by
  repeat (refine Below.alloc ?_ (by simp<;>omega) _)
  exact zR
 rcases znu ws ps at_ with hc | ⟨hc,hok,k,rfl,hk,hkl⟩
 ·obtain⟨e2,e3⟩:=yaob (ws:=ws) (ps:=ps) (at_:=at_) (by rcases hc with hc | hc<;>simp[hc]);rw[e2,e3];clear e2 e3
  have hne:(zij ws ps at_ != 0)=true:=by rcases hc with hc | hc<;>simp[hc]
  clear hc;go_enter Tryz.func77,Tryz.ntmps77;go_wp2_with fail;refine(zcd _ ws ps _ _ (HR.o.below hb0) hw hp).mono ?_;rintro e w1 ⟨rfl,hb1⟩;have V1:=(hb1.block (w.heap.size+1) (by simp)).trans (zaf (by simp));obtain⟨t1,t2,t3,t4⟩:=zac V1;have B1:=zaa (zab hb0 hb1 (by simp<;>omega));clear hb0 hb1 V1;go_wp2;refine bodyPost_ret (v:=.tuple #[.agg #[.N,.N],.I (zij ws ps at_)]) (by simp[results,Tryz.results77,go_sem,t1,t2]) rfl ?_;exact⟨_,rfl,RowPm.zero _ _ _,(B1.o.setCell (by simp only;omega) _).setCell (by simp only;omega) _⟩
 ·obtain⟨e2,e3⟩:=yarg hc;rw[e2,e3];clear e2 e3;have C:=zaa hc;have OK:=zaa (yali hok);clear hc hok;go_enter Tryz.func77,Tryz.ntmps77;go_wp2_with fail;refine(zcd _ ws ps _ _ (HR.o.below hb0) hw hp).mono ?_;rw[C.o];rintro e w1 ⟨rfl,hb1⟩
  have hz1:w.heap.size+2<=w1.heap.size:=by have:=hb1.size;simp at this;omega
  have V0:=(hb1.block w.heap.size (by simp<;>omega)).trans (zaj (zaf rfl));have V1:=(hb1.block (w.heap.size+1) (by simp)).trans (zaf (by simp));obtain⟨x1,x2,x3,x4⟩:=zac V0;have B1:=zaa (zab hb0 hb1 (by simp<;>omega));have VH:=zaa V1;clear hb0 hb1 V0 V1;go_wp2_with fail;refine(zju _ ws ps _ (HR.o.below B1.o) (by omega) (by omega)).mono ?_;rintro e w2 ⟨v2,rfl,hr2,hb2⟩;obtain⟨vW2,vP2,rfl,hI2,hS2⟩:=hr2;obtain⟨aW2,cW2,rfl⟩:=RdI.form hI2.rd rfl;obtain⟨aP2,cP2,rfl⟩:=RdS.form hS2.rd rfl;have hz2:=hb2.size;have B2:=zaa ((zab B1.o hb2 (by omega)).alloc (by omega) (.cells #[.slice aW2 ws.length cW2,.slice aP2 ps.length cP2] 26));have V2:=zaa (zaj (o:=.cells #[.slice aW2 ws.length cW2,.slice aP2 ps.length cP2] 26) ((hb2.block _ hz1).trans VH.o));have bb:zB w2 (w2.alloc (.cells #[.slice aW2 ws.length cW2,.slice aP2 ps.length cP2] 26)):=zR.alloc zL _;have RI:=zaa (hI2.below bb zL);have RS:=zaa (hS2.below bb zL);have V7:Hid ((w2.alloc (.cells #[.slice aW2 ws.length cW2,.slice aP2 ps.length cP2] 26)).heap[w2.heap.size]?=some (.cells #[.slice aW2 ws.length cW2,.slice aP2 ps.length cP2] 26 (0,0))):=zaf rfl;clear hb2 hI2 hS2 bb x1 x2 x3 x4;go_wp2
  go_loopw [8,21] (fun _ i wr=>∃ m:Nat,m<=ps.length/\i=.I m/\Row wr 175 3 w1.heap.size w2.heap.size (.slice aP2 ps.length cP2) ps.length (sts (mix (k:Int) ps m))/\Row wr 3 1 w1.heap.size w2.heap.size (.slice aW2 ws.length cW2) ws.length (zcl ws)/\(wr.heap[w2.heap.size]?=some (.cells #[.slice aW2 ws.length cW2,.slice aP2 ps.length cP2] 26 (0,0))/\wr.heap[w.heap.size+1]?=some (.cells #[.N,.N] 26 (0,0)))/\zB w wr/\w2.heap.size+1<=wr.heap.size) (fun _ i _=>ps.length-(intOf i).toNat)
  case atStart=>exact⟨0,by omega,rfl,by rw[yagq];exact RS.o,RI.o,⟨V7.o,V2.o⟩,B2.o,by simp⟩
  case round =>
   obtain⟨m,hm,rfl,hrow,hint,hv,hb,hz⟩:=hrel;obtain⟨y1,y2,y3,y4⟩:=zac hv.1
   by_cases hlt:m<ps.length
   ·have hl:=zvm (k:Int) ps m hm;obtain⟨_,ao',cap',e',_,hc⟩:=hrow.rd
    cases e'
    obtain⟨b,o,rfl,hbl,_⟩:=hc (by omega)
    obtain⟨rfl,hb1,hb2,_,hfr,hcl⟩:=hrow.at
    have hml:m<(mix (k:Int) ps m).length:=by omega
    have e0:=(hcl (m*3) (by omega)).trans (znv _ m hml);have e2:=(hcl (m*3+2) (by omega)).trans (zux _ m hml);rw[yaej _ _ _ hlt hml]at e0 e2;have f2:=hfr (m*3+2);obtain⟨q0,q1⟩:=OK.o m hlt;have ST:=zaa (hrow.stored (m*3+2) (.bool true));have IT:=zaa (hint.apart hrow (by decide) (World.ownsRow.stored hrow.1 (m*3+2) (.bool true)).2);have BH2:=zaa (hb.setCell (p:=⟨b,m*3+2,none⟩) (by simp only;omega) (.bool true));have VH2:=zaa (And.intro ((Below.heap_setCell wr ⟨b,m*3+2,none⟩ (.bool true) w2.heap.size (by simp only;omega)).trans hv.1) ((Below.heap_setCell wr ⟨b,m*3+2,none⟩ (.bool true) (w.heap.size+1) (by simp only;omega)).trans hv.2));have RM:=zaa hrow;have IM:=zaa hint;have VM:=zaa hv;clear hrow hint hc hfr hcl hv hl
    by_cases c:ps[m].at_/8=(k:Int)/8
    ·have c':(ps[m].at_/8 == (k:Int)/8)=true:=by simpa using c
     have E:=zaa (yanb hlt c);clear c;go_wp2
     go_roundw
     case rel=>exact⟨m+1,by omega,by go_num,E.o ▸ ST.o,IT.o,VH2.o,BH2.o,by simp;omega⟩
     case measure=>simp[intOf];omega
    ·have c':(ps[m].at_/8 == (k:Int)/8)=false:=by simpa using c
     have E:=zaa (yaeu hlt c);clear c;go_wp2
     go_roundw
     case rel=>exact⟨m+1,by omega,by go_num,E.o ▸ RM.o,IM.o,VM.o,hb,hz⟩
     case measure=>simp[intOf];omega
   ·have e:m=ps.length:=by omega
    subst e;obtain⟨t1,t2,t3,t4⟩:=zac hv.2;have RM:=zaa hrow;have IM:=zaa hint;clear hrow hint hv;go_wp2;rw[C.o];refine bodyPost_ret (v:=.tuple #[.agg #[.slice aW2 ws.length cW2,.slice aP2 ps.length cP2],.I 0]) (by simp[results,Tryz.results77,go_sem,t1,t2]) rfl ?_
    have hrow:RowPm wr w1.heap.size w2.heap.size (.agg #[.slice aW2 ws.length cW2,.slice aP2 ps.length cP2]) ws (ps.map (fl1 (k:Int))):=by
     refine⟨_,_,rfl,IM.o,?_⟩;rw[List.length_map,<- yams];exact RM.o
    exact⟨_,rfl,((hrow.setCell (by simp only;omega) _).setCell (by simp only;omega) _).wide (by omega) (by simp;omega),(hb.setCell (by simp only;omega) _).setCell (by simp only;omega) _⟩
def zor(ws:List Int)(ps:List St):Int:=if pmB ws ps=true then 0 else 1
def zel(ws:List Int)(ps:List St):List Int:=if pmB ws ps=true then zkn ws ps else[]
def zek(ws:List Int)(ps:List St):List St:=if pmB ws ps=true then zhy ps else[]
theorem yaqa{ws:List Int}{ps:List St}(h:pmB ws ps=false):zor ws ps=1/\zel ws ps=[]/\zek ws ps=[]:=by
 unfold zor zel zek;rw[h];exact⟨rfl,rfl,rfl⟩
theorem yaqv{ws:List Int}{ps:List St}(h:pmB ws ps=true):zor ws ps=0/\zel ws ps=zkn ws ps/\zek ws ps=zhy ps:=by
 unfold zor zel zek;rw[h];exact⟨rfl,rfl,rfl⟩
structure FenInvI(w wr:World)(ws:List Int)(ps:List St)(lo hi:Nat)(vW vL:Value)(m:Nat):Prop where
 words:Row wr 3 1 lo hi vW ws.length (zcl (zkn ws (ps.take m)))
 left:wr.ownsRow (hi+1) 175 3 vL (zhy (ps.take m)).length (sts (zhy (ps.take m)))
 aft:wr.heap[hi]?=some (.cells #[vW,vL] 26 (0,0))
 res:wr.heap[w.heap.size+1]?=some (.cells #[.N,.N] 26 (0,0))
 below:zB w wr
 size:hi+1<=wr.heap.size
theorem FenInvI.hit{w wr:World}{ws:List Int}{ps:List St}{lo hi:Nat}{b n cap:Nat}{vL:Value}{m:Nat}(h:FenInvI w wr ws ps lo hi (.slice (some ⟨b,0,none⟩) n cap) vL m)(hm:m<ps.length)(hf:ps[m].fl=true)(hlo:w.heap.size+2<=lo)(o:Obj)(hn:n=ws.length) :
  FenInvI w ((wr.setCell ⟨b,ps[m].at_.toNat,none⟩ (.I ps[m].val)).alloc o) ws ps lo hi (.slice (some ⟨b,0,none⟩) n cap) vL (m+1):=by
 subst hn;obtain⟨h1,h2,h4,h5,h6,h7⟩:=h
 obtain⟨_,hb1,hb2,_⟩:=h1.at
 have e1:zkn ws (ps.take (m+1))=(zkn ws (ps.take m)).set ps[m].at_.toNat ps[m].val:=by rw[zdb ps m hm,zmx,if_pos hf]
 have e2:zhy (ps.take (m+1))=zhy (ps.take m):=by rw[zdb ps m hm,zlx,if_pos hf]
 refine⟨?_,?_,?_,?_,?_,?_⟩
 ·rw[e1,<- zic];exact(h1.stored _ _).alloc (by simp;omega) o
 ·rw[e2];exact((zad h2).same (w':=wr.setCell ⟨b,ps[m].at_.toNat,none⟩ (.I ps[m].val)) (fun k hk _=>Below.heap_setCell _ _ _ _ (by simp only;omega))).1.alloc o
 ·refine zaj ?_;rw[Below.heap_setCell _ _ _ _ (by simp only;omega)];exact h4
 ·refine zaj ?_;rw[Below.heap_setCell _ _ _ _ (by simp only;omega)];exact h5
 ·exact(h6.setCell (by simp only;omega) _).alloc (by simp;exact h6.size) o
 ·simp;omega
theorem FenInvI.miss {w wr w':World} {ws:List Int} {ps:List St} {lo hi:Nat} {vW vL vL':Value} {m:Nat} (h:FenInvI w wr ws ps lo hi vW vL m) (hm:m<ps.length) (hf:ps[m].fl=false) (hlo:w.heap.size+2<=lo) (hhi:lo<=hi) (o o':Obj)
  (ho:w'.ownsRow (hi+1) 175 3 vL' ((zhy (ps.take m)).length+1) (sts (zhy (ps.take m))++St.cells ps[m])) (hg:((wr.alloc o).alloc o').grownBy w' vL.ownBlock) :
  FenInvI w (w'.setCell ⟨hi,1,none⟩ vL') ws ps lo hi vW vL' (m+1)/\w'.heap[hi]?=some (.cells #[vW,vL] 26 (0,0)):=by
 obtain⟨h1,h2,h4,h5,h6,h7⟩:=h
 have hl:=fun k hk=>(((h2.alloc o).alloc o').lt k hk).1
 have e1:zkn ws (ps.take (m+1))=zkn ws (ps.take m):=by rw[zdb ps m hm,zmx,hf];rfl
 have e2:zhy (ps.take (m+1))=zhy (ps.take m)++[ps[m]]:=by rw[zdb ps m hm,zlx,hf];rfl
 have keep:∀ k,k<hi+1->w'.heap[k]?=((wr.alloc o).alloc o').heap[k]?:=fun k hk=>hg.block k (by simp;omega) (fun e=>by have:=hl k e.symm;omega)
 have l5:=(Array.getElem?_eq_some_iff.1 h5).1
 have a4:w'.heap[hi]?=some (.cells #[vW,vL] 26 (0,0)):=by rw[keep _ (by omega)];exact zaj (zaj h4)
 refine⟨⟨?_,?_,?_,?_,?_,?_⟩,a4⟩
 ·rw[e1];refine((h1.alloc (by omega) o).alloc (by simp;omega) o').same (fun k hk1 hk=>?_);rw[Below.heap_setCell _ _ _ _ (by simp only;omega),keep k (by omega)]
 ·rw[e2,List.length_append,zpx];exact((zad ho).same (w':=w'.setCell ⟨hi,1,none⟩ vL') (fun k hk _=>Below.heap_setCell _ _ _ _ (by simp only;omega))).1
 ·exact zmw a4 vL'
 ·rw[Below.heap_setCell _ _ _ _ (by simp only;omega),keep _ (by omega)];exact zaj (zaj h5)
 ·exact(((h6.alloc h6.size o).alloc (by simp;have:=h6.size;omega) o').grown hg (by simp;have:=h6.size;omega) (fun k hk=>by have:=hl k hk;omega)).setCell (by simp only;omega) _
 ·have:=hg.size;simp at this;simp;omega
theorem RdS.head{w:World}{q:Value}{ps:List St}{m:Nat}(h:RdS w q (ps.drop m))(hm:m<ps.length):∃ b o cap,q=.slice (some ⟨b,o,none⟩) (ps.length-m) cap/\ps.length-m<=cap/\b<w.heap.size/\w.cell? ⟨b,o,none⟩=some (.I ps[m].at_)/\w.cell? ⟨b,o+1,none⟩=some (.I ps[m].val)/\w.cell? ⟨b,o+2,none⟩=some (.bool ps[m].fl):=by
 have hdl:(ps.drop m).length=ps.length-m:=by simp
 obtain⟨aq,cq,eq,hcq,hcells⟩:=h.shape;obtain⟨b,o,rfl,hbl,hcell⟩:=hcells (by omega);obtain⟨e0,e1,e2⟩:=hcell 0 (by omega);simp only[Nat.zero_mul,Nat.add_zero,List.getElem_drop]at e0 e1 e2;exact⟨b,o,cq,by rw[<- hdl];exact eq,by omega,hbl,e0,e1,e2⟩
theorem RdS.next{w:World}{ps:List St}{m:Nat}{b o cap:Nat}(h:RdS w (.slice (some ⟨b,o,none⟩) (ps.length-m) cap) (ps.drop m))(hm:m<ps.length){ao:Option Addr}(h1:¬ cap=1->ao=some ⟨b,o+3,none⟩)(h2:ao≠none){n c:Nat}(hn:n=ps.length-m-1)(hc:c=cap-1):RdS w (.slice ao n c) (ps.drop (m+1)):=by
 obtain⟨_,ao',cap',e,⟨hle,_⟩,hcell⟩:=h
 have hdl:(ps.drop m).length=ps.length-m:=by simp
 simp only[Value.slice.injEq]at e;obtain⟨rfl,e1,rfl⟩:=e
 have hdl':(ps.drop (m+1)).length=n:=by simp;omega
 refine⟨zwv _,ao,c,by rw[hdl'],⟨by rw[hdl'];omega,fun e=>absurd e h2⟩,fun hpos=>?_⟩;rw[hdl']at hpos;obtain⟨b',o',e2,hb,hcl⟩:=hcell (by omega)
 cases e2
 refine⟨b,o+3,h1 (by omega),hb,fun j hj=>?_⟩
 have hx:sts (ps.drop m)=St.cells ps[m]++sts (ps.drop (m+1)):=by
  show(ps.drop m).flatMap St.cells=St.cells ps[m]++(ps.drop (m+1)).flatMap St.cells
  rw[List.drop_eq_getElem_cons hm,List.flatMap_cons]
 have:=hcl (3+j) (by omega);rw[hx,List.getElem?_append_right (by rw[St.cells_len];omega),St.cells_len,Nat.add_sub_cancel_left]at this;rw[Nat.add_assoc];exact this
theorem zqu(v:Value)(ws:List Int)(ps:List St)(w:World)(h:RdPm w v ws ps)(hw:ws.length<=1048576)(hp:ps.length<=1048576) :
  zC 78 #[v] w fun e w'=>∃ v',e=.returned (.tuple #[v',.I (zor ws ps)])/\RowPm w' w.heap.size w'.heap.size v' (zel ws ps) (zek ws ps)/\zB w w':=by
 have HR:=zaa h;obtain⟨vW,vP,rfl,h1,h2⟩:=h;have H1:=zaa h1;have H2:=zaa h2;obtain⟨aW,cW,rfl,_⟩:=h1.shape;obtain⟨aP,cP,rfl,_⟩:=h2.shape;clear h1 h2
 have hb0:zB w ((w.alloc (.cells #[.slice aW ws.length cW,.slice aP ps.length cP] 26)).alloc (.cells #[.N,.N] 26)):=by
  repeat (refine Below.alloc ?_ (by simp<;>omega) _)
  exact zR
 by_cases hc:pmB ws ps=true
 ·obtain⟨e1,e2,e3⟩:=yaqv hc;rw[e1,e2,e3];clear e1 e2 e3;have OK:=zaa (yauw hc);go_enter Tryz.func78,Tryz.ntmps78;go_wp2_with fail;refine(zcr _ ws ps _ (HR.o.below hb0) hw hp).mono ?_;rintro e w1 ⟨rfl,hb1⟩
  have hz1:w.heap.size+2<=w1.heap.size:=by have:=hb1.size;simp at this;omega
  have V0:=(hb1.block w.heap.size (by simp<;>omega)).trans (zaj (zaf rfl));have V1:=(hb1.block (w.heap.size+1) (by simp)).trans (zaf (by simp));obtain⟨x1,x2,x3,x4⟩:=zac V0;have B1:=zaa (zab hb0 hb1 (by simp<;>omega));have VH:=zaa (And.intro V0 V1);clear hb0 hb1 V0 V1;go_wp2_with (at_builtin;refine zae _ rfl (.const (.N)) (.tmp 12) 23 rfl w1.heap.size 3 (.I 0) 1 8 Tryz.underlying23 zim rfl (by decide) _ 0 [] rfl (World.ownsRow_nil _ _ _ _) _ ws.length (zcl ws) rfl (Rd.below H1.o B1.o) (zeg ws) (by simp[maxLen];omega) (by omega) zL ?_);intro v2 w2 hown2 hgr2
  have hown2:w2.ownsRow w1.heap.size 3 1 v2 ws.length (zcl ws):=by simpa using hown2
  obtain⟨aW2,cW2,rfl⟩:=RdI.form (zad hown2).rd rfl;have hz2:w1.heap.size<=w2.heap.size:=hgr2.size;have B2:=B1.o.grown hgr2 (by omega) (fun k hk=>by cases hk);have V0:=(hgr2.block w.heap.size (by omega) (by simp[Value.ownBlock])).trans VH.o.1;have V1:=(hgr2.block (w.heap.size+1) (by omega) (by simp[Value.ownBlock])).trans VH.o.2
  have INV:Hid (FenInvI w (w2.alloc (.cells #[.slice aW2 ws.length cW2,.N] 26)) ws ps w1.heap.size w2.heap.size (.slice aW2 ws.length cW2) (.N) 0) :=
   ⟨(zad hown2).alloc zL _,World.ownsRow_nil _ _ _ _,zaf rfl,zaj V1,B2.alloc (by omega) _,by simp⟩
  obtain⟨z1,z2,z3,z4⟩:=zac (zaj (o:=.cells #[.slice aW2 ws.length cW2,.N] 26) V0);clear x1 x2 x3 x4 hown2 hgr2 B2 V0 V1;go_wp2
  go_loopw [5,6] (fun q _ wr=>∃ m:Nat,m<=ps.length/\RdS w q (ps.drop m)/\∃ vL,Hid (FenInvI w wr ws ps w1.heap.size w2.heap.size (.slice aW2 ws.length cW2) vL m)) (fun q _ _=>match q with | .slice _ n _=>n | _=>0)
  case atStart=>exact⟨0,by omega,by simpa using H2.o,_,INV⟩
  case round =>
   obtain⟨m,hm,hq,vL,I⟩:=hrel;obtain⟨y1,y2,y3,y4⟩:=zac I.o.aft
   by_cases hlt:m<ps.length
   ·obtain⟨b,o,cq,rfl,hcq,hbl,e0,e1,e2⟩:=hq.head hlt;have d0:=(I.o.below.cell (p:=⟨b,o,none⟩) hbl).trans e0;have d1:=(I.o.below.cell (p:=⟨b,o+1,none⟩) hbl).trans e1;have d2:=(I.o.below.cell (p:=⟨b,o+2,none⟩) hbl).trans e2;have Q:=zaa hq;have hsz:=I.o.size;obtain⟨q0,q1⟩:=OK.o m hlt;clear hq e0 e1 e2
    cases hf:ps[m].fl
    ·rw[hf]at d2
     have ec:St.cells ⟨ps[m].at_,ps[m].val,false⟩=St.cells ps[m]:=by simp[St.cells,hf]
     have hr:=yauq (wr.alloc (.cells #[.I ps[m].at_,.I ps[m].val,.bool false] 175)) ps[m].at_ ps[m].val false;simp only[World.size_alloc]at hr;have HRD:=zaa hr;have HOW:=zaa ((I.o.left.alloc (.cells #[.I ps[m].at_,.I ps[m].val,.bool false] 175)).alloc (.cells #[.I ps[m].at_,.I ps[m].val,.bool false] 175));have hfl:=yaoe (ps.take m);rw[List.length_take]at hfl;have EC:=zaa ec;have HF:=zaa hf;have HS:=zaa hsz;obtain⟨s1,s2,_,_⟩:=zac (zaj (o:=.cells #[.I ps[m].at_,.I ps[m].val,.bool false] 175) I.o.aft);obtain⟨aL,cL,hvL⟩:=RdS.form (zad I.o.left).rd rfl;subst hvL;clear hr ec hf hsz;go_wp2_with (at_builtin;refine zae _ rfl (.tmp 35) (.tmp 37) 24 rfl (w2.heap.size+1) 175 (.agg #[.I 0,.I 0,.bool false]) 3 24 Tryz.underlying24 zom rfl (by decide) _ _ _ rfl HOW.o _ 1 (St.cells ⟨ps[m].at_,ps[m].val,false⟩) rfl HRD.o (zzu _) (by simp[maxLen];omega) (by omega) (by have:=HS.o;simp;omega) ?_);intro vN wN hownN hgrN;obtain⟨iN,aN⟩:=I.o.miss hlt HF.o hz1 hz2 _ _ (by rw[<- EC.o];exact hownN) hgrN
     obtain⟨aN',cN',eN⟩:∃ ao cap,vN=.slice ao ((zhy (ps.take m)).length+1) cap:=by
      obtain⟨_,ao,cap,e,_⟩:=(zad hownN).rd;exact⟨ao,cap,e⟩
     subst eN;have I1:=zaa iN;obtain⟨n1,n2,n3,n4⟩:=zac aN;clear hownN hgrN iN aN;go_wp2
     go_roundw
     case rel=>exact⟨m+1,by omega,Q.o.next hlt (fun h=>if_neg h) (by split<;>simp) rfl rfl,_,I1⟩
     case measure=>show ps.length-m-1<ps.length-m;omega
    ·rw[hf]at d2;obtain⟨_,aw',cw',ew',_,hcw⟩:=I.o.words.rd
     cases ew'
     obtain⟨bw,ow,rfl,hblw,_⟩:=hcw (by omega)
     obtain⟨rfl,_,_,_,hfrw,hclw⟩:=(I.o.words.alloc (by omega) (.cells #[.I ps[m].at_,.I ps[m].val,.bool true] 175)).at
     have hj:ps[m].at_.toNat<(zkn ws (ps.take m)).length:=by rw[zjm];omega
     have g0:=hfrw ps[m].at_.toNat;have g1:=(hclw ps[m].at_.toNat (by omega)).trans (zde _ _ hj);have I1:=zaa (I.o.hit hlt hf hz1 (.cells #[.I ps[m].at_,.I ps[m].val,.bool true] 175) rfl);obtain⟨s1,s2,_,_⟩:=zac (zaj (o:=.cells #[.I ps[m].at_,.I ps[m].val,.bool true] 175) I.o.aft);clear hcw hfrw hclw;go_wp2
     go_roundw
     case rel=>exact⟨m+1,by omega,Q.o.next hlt (fun h=>if_neg h) (by split<;>simp) rfl rfl,_,I1⟩
     case measure=>show ps.length-m-1<ps.length-m;omega
   ·have e:m=ps.length:=by omega
    subst e;obtain⟨aq,cq,eq⟩:=hq.form (n:=0) (by simp);subst eq;obtain⟨aL,cL,hvL⟩:=RdS.form (zad I.o.left).rd (n:=(zhy ps).length) (by rw[List.take_length]);subst hvL;obtain⟨t1,t2,t3,t4⟩:=zac I.o.res;have hsz:=I.o.size;clear hq;go_wp2;have I2:=I.o;refine bodyPost_ret (v:=.tuple #[.agg #[.slice aW2 ws.length cW2,.slice aL (zhy ps).length cL],.I 0]) (by simp[results,Tryz.results78,go_sem,t1,t2]) rfl ?_;refine⟨_,rfl,⟨_,_,rfl,?_,?_⟩,(I2.below.setCell (by simp only;omega) _).setCell (by simp only;omega) _⟩
    ·rw[zjm];have:=I2.words;rw[List.take_length]at this;refine(this.same fun b h1 h2=>?_).wide (by omega) (by simp;omega);rw[Below.heap_setCell _ _ _ _ (by simp only;omega),Below.heap_setCell _ _ _ _ (by simp only;omega)]
    ·have:=zad I2.left;rw[List.take_length]at this;refine(this.same fun b h1 h2=>?_).wide (by omega) (by simp);rw[Below.heap_setCell _ _ _ _ (by simp only;omega),Below.heap_setCell _ _ _ _ (by simp only;omega)]
 ·have hc':pmB ws ps=false:=by simpa using hc
  clear hc;obtain⟨e1,e2,e3⟩:=yaqa hc';rw[e1,e2,e3];clear e1 e2 e3;go_enter Tryz.func78,Tryz.ntmps78;go_wp2_with fail;refine(zcr _ ws ps _ (HR.o.below hb0) hw hp).mono ?_;rintro e w1 ⟨rfl,hb1⟩;have V1:=(hb1.block (w.heap.size+1) (by simp)).trans (zaf (by simp));obtain⟨t1,t2,t3,t4⟩:=zac V1;have B1:=zaa (zab hb0 hb1 (by simp<;>omega));clear hb0 hb1 V1;go_wp2;refine bodyPost_ret (v:=.tuple #[.agg #[.N,.N],.I 1]) (by simp[results,Tryz.results78,go_sem,t1,t2]) rfl ?_;exact⟨_,rfl,RowPm.zero _ _ _,(B1.o.setCell (by simp only;omega) _).setCell (by simp only;omega) _⟩
structure Mi where
 kind:Int
 at_:Int
 val:Int
def Mi.v(m:Mi):Value:=.agg #[.I m.kind,.I m.at_,.I m.val]
def miB(m:Mi):Bool:=decide ((m.kind=1/\(0<=m.at_/\m.at_<336)/\0<=m.val/\m.val<1099511627776)\/(m.kind=2/\(0<=m.at_/\m.at_<336)/\m.val=0)\/(m.kind=4/\(0<=m.at_/\m.at_<32)/\0<=m.val/\m.val<1099511627776)\/((m.kind=3\/m.kind=5)/\m.at_=0/\m.val=0))
theorem yaxj{m:Mi}:miB m=true↔((m.kind=1/\(0<=m.at_/\m.at_<336)/\0<=m.val/\m.val<1099511627776)\/(m.kind=2/\(0<=m.at_/\m.at_<336)/\m.val=0)\/(m.kind=4/\(0<=m.at_/\m.at_<32)/\0<=m.val/\m.val<1099511627776)\/((m.kind=3\/m.kind=5)/\m.at_=0/\m.val=0)):=by unfold miB;exact decide_eq_true_iff
theorem zjk(k a v:Int):miB ⟨k,a,v⟩=true↔((k=1/\(0<=a/\a<336)/\0<=v/\v<1099511627776)\/(k=2/\(0<=a/\a<336)/\v=0)\/(k=4/\(0<=a/\a<32)/\0<=v/\v<1099511627776)\/((k=3\/k=5)/\a=0/\v=0)):=yaxj
end Go.Proofs.YtdiaiejmoocpmaaGreatDoor

namespace Go.Proofs.YtdiaiejmoocpmaaGreatDoor
def up(a v:Int):St:=⟨a,v,false⟩
def stM(p:St):Mi:=⟨1,p.at_,p.val⟩
def zrc(ks:List Int)(i:Nat):Bool:=(List.range i).any (fun k=>ks[k]?.getD 0/8 == ks[i]?.getD 0/8)
def nl(ks:List Int):Nat->List Mi
 | 0=>[]
 | i+1=>if zrc ks i=true then nl ks i else nl ks i++[⟨2,ks[i]?.getD 0,0⟩]
def zbb(ks:List Int):List Mi:=nl ks ks.length++[⟨3,0,0⟩]
def seg(S:List St):List Mi:=S.map stM++zbb (S.map (·.at_))
def jrn:Nat->List St->List St
 | _,[]=>[]
 | i,u::us=>⟨9+2*(i:Int),u.at_,false⟩::⟨9+2*(i:Int)+1,u.val,false⟩::jrn (i+1) us
def cnt(n:Int):List St:=[⟨8,n,false⟩]
def zis(us:List St):List Mi:=seg us++seg (cnt 0)
def zdc(us:List St):List Mi:=if us.length=0 then[]else seg (jrn 0 us)++seg (cnt (us.length:Int))++zis us
end Go.Proofs.YtdiaiejmoocpmaaGreatDoor

namespace Go.Proofs.YtdiaiejmoocpmaaGreatDoor
def zvw(s:List Int×List St)(m:Mi):List Int×List St :=
 if m.kind=1 then(s.1,s.2++[⟨m.at_,m.val,false⟩])else if m.kind=2 then(s.1,s.2.map (fl1 m.at_))else if m.kind=3 then(zkn s.1 s.2,zhy s.2)else s
def zot(s:List Int×List St)(l:List Mi):List Int×List St:=l.foldl zvw s
theorem yaqw(s:List Int×List St):zot s []=s:=rfl
theorem zly(s:List Int×List St)(m:Mi)(l:List Mi):zot s (m::l)=zot (zvw s m) l:=rfl
theorem zdi(s:List Int×List St)(l l':List Mi):zot s (l++l')=zot (zot s l) l':=by simp[zot]
theorem yabq(s:List Int×List St)(p:St):zvw s (stM p)=(s.1,s.2++[⟨p.at_,p.val,false⟩]):=if_pos rfl
theorem yach(s:List Int×List St)(a:Int):zvw s ⟨2,a,0⟩=(s.1,s.2.map (fl1 a)):=by
 unfold zvw;rw[if_neg (show ¬ (2:Int)=1 by decide),if_pos rfl]
theorem yabx(s:List Int×List St):zvw s ⟨3,0,0⟩=(zkn s.1 s.2,zhy s.2):=by
 unfold zvw;rw[if_neg (by decide),if_neg (by decide),if_pos rfl]
theorem zvi(ks:List Int):∀ i,∀ m∈nl ks i,m=⟨2,m.at_,0⟩
 | 0,m,h=>by cases h
 | i+1,m,h=>by
  rw[nl]at h
  split at h
  ·exact zvi ks i m h
  ·rcases List.mem_append.1 h with h | h
   ·exact zvi ks i m h
   ·rw[List.mem_singleton.1 h]
theorem yamh(ks:List Int):∀ i k,k<i->∃ m∈nl ks i,m.at_/8=ks[k]?.getD 0/8
 | 0,k,h=>absurd h (by omega)
 | i+1,k,h=>by
  rw[nl]
  by_cases e:k<i
  ·obtain⟨m,hm,e⟩:=yamh ks i k e
   split
   ·exact⟨m,hm,e⟩
   ·exact⟨m,List.mem_append_left _ hm,e⟩
  ·obtain rfl:k=i:=by omega
   split
   ·rename_i hk;simp only[zrc,List.any_eq_true,List.mem_range,beq_iff_eq]at hk;obtain⟨j,hj,e⟩:=hk;obtain⟨m,hm,e2⟩:=yamh ks k j hj;exact⟨m,hm,e2.trans e⟩
   ·exact⟨_,List.mem_append_right _ (List.mem_singleton.2 rfl),rfl⟩
theorem zse:∀ (l:List Mi) (s:List Int×List St),(∀ m∈l,m=⟨2,m.at_,0⟩)->∃ g:St->St,zot s l=(s.1,s.2.map g)/\(∀ p,(g p).at_=p.at_/\(g p).val=p.val/\(p.fl=true->(g p).fl=true))/\∀ p,(∃ m∈l,m.at_/8=p.at_/8)->(g p).fl=true
 | [],s,_=>⟨id,by simp[zot],fun p=>⟨rfl,rfl,id⟩,fun p h=>by obtain⟨m,hm,_⟩:=h;cases hm⟩
 | m::l,s,h=>by
  have hm:=h m (by simp);obtain⟨g,e,h1,h2⟩:=zse l (s.1,s.2.map (fl1 m.at_)) (fun x hx=>h x (by simp[hx]))
  have hf:∀ p:St,(fl1 m.at_ p).at_=p.at_/\(fl1 m.at_ p).val=p.val/\(p.fl=true->(fl1 m.at_ p).fl=true):=fun p=>by
   unfold fl1
   split
   ·exact⟨rfl,rfl,fun _=>rfl⟩
   ·exact⟨rfl,rfl,id⟩
  refine⟨fun p=>g (fl1 m.at_ p),?_,fun p=>?_,fun p hp=>?_⟩
  ·rw[zly,hm,yach]
   show zot (s.1,s.2.map (fl1 m.at_)) l=_
   rw[e,List.map_map];rfl
  ·have a:=h1 (fl1 m.at_ p);have b:=hf p;exact⟨a.1.trans b.1,a.2.1.trans b.2.1,fun x=>a.2.2 (b.2.2 x)⟩
  ·obtain⟨x,hx,e2⟩:=hp
   rcases List.mem_cons.1 hx with rfl | hx
   ·apply (h1 _).2.2;unfold fl1;rw[if_pos e2.symm]
   ·apply h2;exact⟨x,hx,by rw[(hf p).1];exact e2⟩
theorem yalb:∀ (ps:List St) (ws:List Int),(∀ p∈ps,p.fl=true)->zkn ws ps=zbs ws ps/\zhy ps=[]
 | [],_,_=>⟨rfl,rfl⟩
 | p::ps,ws,h=>by
  have hp:=h p (by simp);have ih:=yalb ps (ws.set p.at_.toNat p.val) (fun q hq=>h q (by simp[hq]));refine⟨?_,?_⟩
  ·show zkn (if p.fl then ws.set p.at_.toNat p.val else ws) ps=zbs (ws.set p.at_.toNat p.val) ps
   rw[hp];exact ih.1
  ·unfold zhy at ih ⊢;rw[List.filter_cons,hp];exact ih.2
theorem yagp(g:St->St)(hg:∀ p,(g p).at_=p.at_/\(g p).val=p.val):∀ (ps:List St) (ws:List Int),zbs ws (ps.map g)=zbs ws ps
 | [],_=>rfl
 | p::ps,ws=>by
  show zbs (ws.set (g p).at_.toNat (g p).val) (ps.map g)=zbs (ws.set p.at_.toNat p.val) ps
  rw[(hg p).1,(hg p).2];exact yagp g hg ps _
theorem zue:∀ (S:List St) (s:List Int×List St),zot s (S.map stM)=(s.1,s.2++S.map (fun p=>(⟨p.at_,p.val,false⟩:St)))
 | [],s=>by simp[zot]
 | p::S,s=>by
  rw[List.map_cons,zly,yabq,zue S];simp
theorem zjb(S:List St)(ws:List Int):zot (ws,[]) (seg S)=(zbs ws S,[]):=by
 have e0:zot (ws,[]) (S.map stM)=(ws,S.map (fun p=>(⟨p.at_,p.val,false⟩:St))):=by rw[zue];simp
 unfold seg zbb;rw[zdi,e0,zdi];obtain⟨g,e,h1,h2⟩:=zse (nl (S.map (·.at_)) (S.map (·.at_)).length) (ws,S.map (fun p=>(⟨p.at_,p.val,false⟩:St))) (zvi _ _);rw[e,zly,yaqw,yabx]
 have hall:∀ p∈(S.map (fun p=>(⟨p.at_,p.val,false⟩:St))).map g,p.fl=true:=by
  intro p hp;rw[List.map_map,List.mem_map]at hp;obtain⟨q,hq,rfl⟩:=hp;apply h2;obtain⟨i,hi,rfl⟩:=List.getElem_of_mem hq;obtain⟨m,hm,e2⟩:=yamh (S.map (·.at_)) (S.map (·.at_)).length i (by simpa using hi);refine⟨m,hm,?_⟩;rw[e2];simp[hi]
 have f:=yalb _ ws hall
 show(zkn ws ((S.map (fun p=>(⟨p.at_,p.val,false⟩:St))).map g),zhy _)=_
 rw[f.1,f.2,List.map_map,yagp (g ∘ fun p=>(⟨p.at_,p.val,false⟩:St)) (fun p=>⟨(h1 _).1,(h1 _).2.1⟩)]
theorem yapd:∀ (us:List St) (i:Nat),∀ p∈jrn i us,9+2*(i:Int)<=p.at_/\p.at_<9+2*((i+us.length:Nat):Int)
 | [],_,p,h=>by cases h
 | u::us,i,p,h=>by
  rw[jrn]at h;simp only[List.length_cons]
  rcases List.mem_cons.1 h with rfl | h
  ·exact⟨Int.le_refl _,by show 9+2*(i:Int)<_;omega⟩
  ·rcases List.mem_cons.1 h with rfl | h
   ·exact⟨by show _<=9+2*(i:Int)+1;omega,by show 9+2*(i:Int)+1<_;omega⟩
   ·have:=yapd us (i+1) p h;omega
end Go.Proofs.YtdiaiejmoocpmaaGreatDoor

namespace Go.Proofs.YtdiaiejmoocpmaaGreatDoor
open Go.RowKit
def Mi.cells(s:Mi):List Value:=[.I s.kind,.I s.at_,.I s.val]
def mis(ps:List Mi):List Value:=ps.flatMap Mi.cells
theorem Mi.cells_len(s:Mi):s.cells.length=3:=rfl
theorem yamd(ps:List Mi)(k:Nat)(h:k<ps.length):(mis ps)[k*3]?=some (.I ps[k].kind):=zbt _ 3 Mi.cells_len ps k 0 h (by omega)
theorem yajr(ps:List Mi)(k:Nat)(h:k<ps.length):(mis ps)[k*3+1]?=some (.I ps[k].at_):=zbt _ 3 Mi.cells_len ps k 1 h (by omega)
theorem yanw(ps:List Mi)(k:Nat)(h:k<ps.length):(mis ps)[k*3+2]?=some (.I ps[k].val):=zbt _ 3 Mi.cells_len ps k 2 h (by omega)
def RdM(w:World)(v:Value)(ps:List Mi):Prop:=Rd w 3 v ps.length (mis ps)
theorem RdM.shape{w:World}{v:Value}{ps:List Mi}(h:RdM w v ps):∃ ao cap,v=.slice ao ps.length cap/\ps.length<=cap/\(0<ps.length->∃ b o,ao=some ⟨b,o,none⟩/\b<w.heap.size /\
  ∀ k (h:k<ps.length),w.cell? ⟨b,o+k*3,none⟩=some (.I ps[k].kind)/\w.cell? ⟨b,o+k*3+1,none⟩=some (.I ps[k].at_)/\w.cell? ⟨b,o+k*3+2,none⟩=some (.I ps[k].val)):=by
 obtain⟨_,ao,cap,rfl,h2,h3⟩:=h;refine⟨ao,cap,rfl,h2.1,fun hn=>?_⟩;obtain⟨b,o,rfl,hb,hc⟩:=h3 hn;exact⟨b,o,rfl,hb,fun k hk=>⟨(hc (k*3) (by omega)).trans (yamd ps k hk),(hc (k*3+1) (by omega)).trans (yajr ps k hk),(hc (k*3+2) (by omega)).trans (yanw ps k hk)⟩⟩
theorem zbj:(Tryz.prog.info? 84).map (fun i=>(i.zero,i.size,i.bytes))=some (some (.agg #[.I 0,.I 0,.I 0]),3,24):=by kernel_rfl
end Go.Proofs.YtdiaiejmoocpmaaGreatDoor
