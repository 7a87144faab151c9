/- Several texts laid together: PmFenceI, CrashP, JrM. -/
import Derived.Test.YtahiphgmhndgaaaGreatDoorZAF
import Derived.Test.YtahiphgmhndgaaaGreatDoorZAV
import Derived.Test.YtahiphgmhndgaaaGreatDoorZAA
import Derived.Test.YtahiphgmhndgaaaGreatDoorZAE
import Derived.Test.YtahiphgmhndgaaaGreatDoorZAT
import Derived.Test.YtahiphgmhndgaaaGreatDoorZAN
import Derived.Deep.RegionWith
import Derived.BigRegion
import Derived.BigQuiet
import Derived.Deep.QuietTactic
set_option maxRecDepth 100000
set_option maxHeartbeats 8000000
namespace Go.Proofs.YtahiphgmhndgaaaGreatDoor
open Go.RowKit
def zmr (ws:List Int) (ps:List St):Int:=if pmB ws ps=true then 0 else 1
def zdo (ws:List Int) (ps:List St):List Int:=if pmB ws ps=true then zjm ws ps else []
def zdm (ws:List Int) (ps:List St):List St:=if pmB ws ps=true then zgs ps else []
theorem yajm {ws:List Int} {ps:List St} (h:pmB ws ps=false):zmr ws ps=1∧zdo ws ps=[]∧zdm ws ps=[]:=by
 unfold zmr zdo zdm;rw[h];exact ⟨rfl,rfl,rfl⟩
theorem yamm {ws:List Int} {ps:List St} (h:pmB ws ps=true):zmr ws ps=0∧zdo ws ps=zjm ws ps∧zdm ws ps=zgs ps:=by
 unfold zmr zdo zdm;rw[h];exact ⟨rfl,rfl,rfl⟩
structure FenInvI (w wr:World) (ws:List Int) (ps:List St) (lo hi:Nat) (vW vL:Value) (m:Nat):Prop where
 words:Row wr 3 1 lo hi vW ws.length (zav (zjm ws (ps.take m)))
 left:wr.ownsRow (hi+1) 147 3 vL (zgs (ps.take m)).length (sts (zgs (ps.take m)))
 aft:wr.heap[hi]?=some (.cells #[vW,vL] 40 (0,0))
 res:wr.heap[w.heap.size+1]?=some (.cells #[.slice none 0 0,.slice none 0 0] 40 (0,0))
 below:Below w.heap.size w wr
 size:hi+1≤wr.heap.size
theorem FenInvI.hit {w wr:World} {ws:List Int} {ps:List St} {lo hi:Nat} {b n cap:Nat} {vL:Value} {m:Nat} (h:FenInvI w wr ws ps lo hi (.slice (some ⟨b,0,none⟩) n cap) vL m) (hm:m < ps.length) (hf:ps[m].fl=true) (hlo:w.heap.size+2≤lo) (o:Obj) (hn:n=ws.length) :
  FenInvI w ((wr.setCell ⟨b,ps[m].at_.toNat,none⟩ (.int .i64 ps[m].val)).alloc o) ws ps lo hi (.slice (some ⟨b,0,none⟩) n cap) vL (m+1):=by
 subst hn;obtain ⟨h1,h2,h4,h5,h6,h7⟩:=h
 obtain ⟨_,hb1,hb2,_⟩:=h1.at
 have e1:zjm ws (ps.take (m+1))=(zjm ws (ps.take m)).set ps[m].at_.toNat ps[m].val:=by rw[zbd ps m hm,zke,if_pos hf]
 have e2:zgs (ps.take (m+1))=zgs (ps.take m):=by rw[zbd ps m hm,zki,if_pos hf]
 refine ⟨?_,?_,?_,?_,?_,?_⟩
 ·rw[e1,← zeo];exact (h1.stored _ _).alloc (by simp;omega) o
 ·rw[e2];exact ((zai h2).same (w':=wr.setCell ⟨b,ps[m].at_.toNat,none⟩ (.int .i64 ps[m].val)) (fun k hk _=>Below.heap_setCell _ _ _ _ (by simp only;omega))).1.alloc o
 ·refine zal ?_;rw[Below.heap_setCell _ _ _ _ (by simp only;omega)];exact h4
 ·refine zal ?_;rw[Below.heap_setCell _ _ _ _ (by simp only;omega)];exact h5
 ·exact (h6.setCell (by simp only;omega) _).alloc (by simp;exact h6.size) o
 ·simp;omega
theorem FenInvI.miss {w wr w':World} {ws:List Int} {ps:List St} {lo hi:Nat} {vW vL vL':Value} {m:Nat} (h:FenInvI w wr ws ps lo hi vW vL m) (hm:m < ps.length) (hf:ps[m].fl=false) (hlo:w.heap.size+2≤lo) (hhi:lo≤hi) (o o':Obj)
  (ho:w'.ownsRow (hi+1) 147 3 vL' ((zgs (ps.take m)).length+1) (sts (zgs (ps.take m)) ++ St.cells ps[m])) (hg:((wr.alloc o).alloc o').grownBy w' vL.ownBlock) :
  FenInvI w (w'.setCell ⟨hi,1,none⟩ vL') ws ps lo hi vW vL' (m+1)∧w'.heap[hi]?=some (.cells #[vW,vL] 40 (0,0)):=by
 obtain ⟨h1,h2,h4,h5,h6,h7⟩:=h
 have hl:=fun k hk=>(((h2.alloc o).alloc o').lt k hk).1
 have e1:zjm ws (ps.take (m+1))=zjm ws (ps.take m):=by rw[zbd ps m hm,zke,hf];rfl
 have e2:zgs (ps.take (m+1))=zgs (ps.take m) ++ [ps[m]]:=by rw[zbd ps m hm,zki,hf];rfl
 have keep:∀ k,k < hi+1→w'.heap[k]?=((wr.alloc o).alloc o').heap[k]?:=fun k hk=>hg.block k (by simp;omega) (fun e=>by have:=hl k e.symm;omega)
 have l5:=(Array.getElem?_eq_some_iff.1 h5).1
 have a4:w'.heap[hi]?=some (.cells #[vW,vL] 40 (0,0)):=by rw[keep _ (by omega)];exact zal (zal h4)
 refine ⟨⟨?_,?_,?_,?_,?_,?_⟩,a4⟩
 ·rw[e1];refine ((h1.alloc (by omega) o).alloc (by simp;omega) o').same (fun k hk1 hk=>?_);rw[Below.heap_setCell _ _ _ _ (by simp only;omega),keep k (by omega)]
 ·rw[e2,List.length_append,zod];exact ((zai ho).same (w':=w'.setCell ⟨hi,1,none⟩ vL') (fun k hk _=>Below.heap_setCell _ _ _ _ (by simp only;omega))).1
 ·exact zga a4 vL'
 ·rw[Below.heap_setCell _ _ _ _ (by simp only;omega),keep _ (by omega)];exact zal (zal h5)
 ·exact (((h6.alloc h6.size o).alloc (by simp;have:=h6.size;omega) o').grown hg (by simp;have:=h6.size;omega) (fun k hk=>by have:=hl k hk;omega)).setCell (by simp only;omega) _
 ·have:=hg.size;simp at this;simp;omega
theorem RdS.head {w:World} {q:Value} {ps:List St} {m:Nat} (h:RdS w q (ps.drop m)) (hm:m < ps.length):∃ b o cap,q=.slice (some ⟨b,o,none⟩) (ps.length - m) cap∧ps.length - m≤cap∧b < w.heap.size∧w.cell? ⟨b,o,none⟩=some (.int .i64 ps[m].at_)∧w.cell? ⟨b,o+1,none⟩=some (.int .i64 ps[m].val)∧w.cell? ⟨b,o+2,none⟩=some (.bool ps[m].fl):=by
 have hdl:(ps.drop m).length=ps.length - m:=by simp
 obtain ⟨aq,cq,eq,hcq,hcells⟩:=h.shape;obtain ⟨b,o,rfl,hbl,hcell⟩:=hcells (by omega);obtain ⟨e0,e1,e2⟩:=hcell 0 (by omega);simp only[Nat.zero_mul,Nat.add_zero,List.getElem_drop] at e0 e1 e2;exact ⟨b,o,cq,by rw[← hdl];exact eq,by omega,hbl,e0,e1,e2⟩
theorem RdS.next {w:World} {ps:List St} {m:Nat} {b o cap:Nat} (h:RdS w (.slice (some ⟨b,o,none⟩) (ps.length - m) cap) (ps.drop m)) (hm:m < ps.length) {ao:Option Addr} (h1:¬ cap=1→ao=some ⟨b,o+3,none⟩) (h2:ao≠none) {n c:Nat} (hn:n=ps.length - m - 1) (hc:c=cap - 1):RdS w (.slice ao n c) (ps.drop (m+1)):=by
 obtain ⟨_,ao',cap',e,⟨hle,_⟩,hcell⟩:=h
 have hdl:(ps.drop m).length=ps.length - m:=by simp
 simp only[Value.slice.injEq] at e;obtain ⟨rfl,e1,rfl⟩:=e
 have hdl':(ps.drop (m+1)).length=n:=by simp;omega
 refine ⟨zlr _,ao,c,by rw[hdl'],⟨by rw[hdl'];omega,fun e=>absurd e h2⟩,fun hpos=>?_⟩;rw[hdl'] at hpos;obtain ⟨b',o',e2,hb,hcl⟩:=hcell (by omega)
 cases e2
 refine ⟨b,o+3,h1 (by omega),hb,fun j hj=>?_⟩
 have hx:sts (ps.drop m)=St.cells ps[m] ++ sts (ps.drop (m+1)):=by
  show (ps.drop m).flatMap St.cells=St.cells ps[m] ++ (ps.drop (m+1)).flatMap St.cells
  rw[List.drop_eq_getElem_cons hm,List.flatMap_cons]
 have:=hcl (3+j) (by omega);rw[hx,List.getElem?_append_right (by rw[St.cells_len];omega),St.cells_len,Nat.add_sub_cancel_left] at this;rw[Nat.add_assoc];exact this
theorem zoz (v:Value) (ws:List Int) (ps:List St) (w:World) (h:RdPm w v ws ps) (hw:ws.length≤1048576) (hp:ps.length≤1048576) :
  Calls Tryz.prog 148 #[v] w fun e w'=>∃ v',e=.returned (.tuple #[v',.int .i64 (zmr ws ps)])∧RowPm w' w.heap.size w'.heap.size v' (zdo ws ps) (zdm ws ps)∧Below w.heap.size w w':=by
 have HR:=zaa h;obtain ⟨vW,vP,rfl,h1,h2⟩:=h;have H1:=zaa h1;have H2:=zaa h2;obtain ⟨aW,cW,rfl,_⟩:=h1.shape;obtain ⟨aP,cP,rfl,_⟩:=h2.shape;clear h1 h2
 have hb0:Below w.heap.size w ((w.alloc (.cells #[.slice aW ws.length cW,.slice aP ps.length cP] 40)).alloc (.cells #[.slice none 0 0,.slice none 0 0] 40)):=by
  repeat (refine Below.alloc ?_ (by simp <;> omega) _)
  exact Below.refl _ _
 by_cases hc:pmB ws ps=true
 ·obtain ⟨e1,e2,e3⟩:=yamm hc;rw[e1,e2,e3];clear e1 e2 e3;have OK:=zaa (yajr hc);go_enter Tryz.func148,Tryz.ntmps148;go_wp2_with fail;refine (zba _ ws ps _ (HR.o.below hb0) hw hp).mono ?_;rintro e w1 ⟨rfl,hb1⟩
  have hz1:w.heap.size+2≤w1.heap.size:=by have:=hb1.size;simp at this;omega
  have V0:=(hb1.block w.heap.size (by simp <;> omega)).trans (zal (zag rfl));have V1:=(hb1.block (w.heap.size+1) (by simp)).trans (zag (by simp));obtain ⟨x1,x2,x3,x4⟩:=zad V0;have B1:=zaa (zab hb0 hb1 (by simp <;> omega));have VH:=zaa (And.intro V0 V1);clear hb0 hb1 V0 V1;go_wp2_with (at_builtin;refine zak _ rfl (.const (.slice none 0 0)) (.tmp 12) 22 rfl w1.heap.size 3 (.int .i64 0) 1 8 Tryz.underlying22 zfz rfl (by decide) _ 0 [] rfl (World.ownsRow_nil _ _ _ _) _ ws.length (zav ws) rfl (Rd.below H1.o B1.o) (zdw ws) (by simp[maxLen];omega) (by omega) (Nat.le_refl _) ?_);intro v2 w2 hown2 hgr2
  have hown2:w2.ownsRow w1.heap.size 3 1 v2 ws.length (zav ws):=by simpa using hown2
  obtain ⟨aW2,cW2,rfl⟩:=RdI.form (zai hown2).rd rfl;have hz2:w1.heap.size≤w2.heap.size:=hgr2.size;have B2:=B1.o.grown hgr2 (by omega) (fun k hk=>by cases hk);have V0:=(hgr2.block w.heap.size (by omega) (by simp[Value.ownBlock])).trans VH.o.1;have V1:=(hgr2.block (w.heap.size+1) (by omega) (by simp[Value.ownBlock])).trans VH.o.2
  have INV:Hid (FenInvI w (w2.alloc (.cells #[.slice aW2 ws.length cW2,.slice none 0 0] 40)) ws ps w1.heap.size w2.heap.size (.slice aW2 ws.length cW2) (.slice none 0 0) 0) :=
   ⟨(zai hown2).alloc (Nat.le_refl _) _,World.ownsRow_nil _ _ _ _,zag rfl,zal V1,B2.alloc (by omega) _,by simp⟩
  obtain ⟨z1,z2,z3,z4⟩:=zad (zal (o:=.cells #[.slice aW2 ws.length cW2,.slice none 0 0] 40) V0);clear x1 x2 x3 x4 hown2 hgr2 B2 V0 V1;go_wp2
  go_loopw [5,6] (fun q _ wr=>∃ m:Nat,m≤ps.length∧RdS w q (ps.drop m)∧∃ vL,Hid (FenInvI w wr ws ps w1.heap.size w2.heap.size (.slice aW2 ws.length cW2) vL m)) (fun q _ _=>match q with | .slice _ n _=>n | _=>0)
  case atStart=>exact ⟨0,by omega,by simpa using H2.o,_,INV⟩
  case round =>
   obtain ⟨m,hm,hq,vL,I⟩:=hrel;obtain ⟨y1,y2,y3,y4⟩:=zad I.o.aft
   by_cases hlt:m < ps.length
   ·obtain ⟨b,o,cq,rfl,hcq,hbl,e0,e1,e2⟩:=hq.head hlt;have d0:=(I.o.below.cell (p:=⟨b,o,none⟩) hbl).trans e0;have d1:=(I.o.below.cell (p:=⟨b,o+1,none⟩) hbl).trans e1;have d2:=(I.o.below.cell (p:=⟨b,o+2,none⟩) hbl).trans e2;have Q:=zaa hq;have hsz:=I.o.size;obtain ⟨q0,q1⟩:=OK.o m hlt;clear hq e0 e1 e2
    cases hf:ps[m].fl
    ·rw[hf] at d2
     have ec:St.cells ⟨ps[m].at_,ps[m].val,false⟩=St.cells ps[m]:=by simp[St.cells,hf]
     have hr:=yaqx (wr.alloc (.cells #[.int .i64 ps[m].at_,.int .i64 ps[m].val,.bool false] 147)) ps[m].at_ ps[m].val false;simp only[World.size_alloc] at hr;have HRD:=zaa hr;have HOW:=zaa ((I.o.left.alloc (.cells #[.int .i64 ps[m].at_,.int .i64 ps[m].val,.bool false] 147)).alloc (.cells #[.int .i64 ps[m].at_,.int .i64 ps[m].val,.bool false] 147));have hfl:=yako (ps.take m);rw[List.length_take] at hfl;have EC:=zaa ec;have HF:=zaa hf;have HS:=zaa hsz;obtain ⟨s1,s2,_,_⟩:=zad (zal (o:=.cells #[.int .i64 ps[m].at_,.int .i64 ps[m].val,.bool false] 147) I.o.aft);obtain ⟨aL,cL,hvL⟩:=RdS.form (zai I.o.left).rd rfl;subst hvL;clear hr ec hf hsz;go_wp2_with (at_builtin;refine zak _ rfl (.tmp 35) (.tmp 37) 38 rfl (w2.heap.size+1) 147 (.agg #[.int .i64 0,.int .i64 0,.bool false]) 3 24 Tryz.underlying38 zkk rfl (by decide) _ _ _ rfl HOW.o _ 1 (St.cells ⟨ps[m].at_,ps[m].val,false⟩) rfl HRD.o (zvu _) (by simp[maxLen];omega) (by omega) (by have:=HS.o;simp;omega) ?_);intro vN wN hownN hgrN;obtain ⟨iN,aN⟩:=I.o.miss hlt HF.o hz1 hz2 _ _ (by rw[← EC.o];exact hownN) hgrN
     obtain ⟨aN',cN',eN⟩:∃ ao cap,vN=.slice ao ((zgs (ps.take m)).length+1) cap:=by
      obtain ⟨_,ao,cap,e,_⟩:=(zai hownN).rd;exact ⟨ao,cap,e⟩
     subst eN;have I1:=zaa iN;obtain ⟨n1,n2,n3,n4⟩:=zad aN;clear hownN hgrN iN aN;go_wp2
     go_roundw
     case rel=>exact ⟨m+1,by omega,Q.o.next hlt (fun h=>if_neg h) (by split <;> simp) rfl rfl,_,I1⟩
     case measure=>show ps.length - m - 1 < ps.length - m;omega
    ·rw[hf] at d2;obtain ⟨_,aw',cw',ew',_,hcw⟩:=I.o.words.rd
     cases ew'
     obtain ⟨bw,ow,rfl,hblw,_⟩:=hcw (by omega)
     obtain ⟨rfl,_,_,_,hfrw,hclw⟩:=(I.o.words.alloc (by omega) (.cells #[.int .i64 ps[m].at_,.int .i64 ps[m].val,.bool true] 147)).at
     have hj:ps[m].at_.toNat < (zjm ws (ps.take m)).length:=by rw[ziq];omega
     have g0:=hfrw ps[m].at_.toNat;have g1:=(hclw ps[m].at_.toNat (by omega)).trans (zay _ _ hj);have I1:=zaa (I.o.hit hlt hf hz1 (.cells #[.int .i64 ps[m].at_,.int .i64 ps[m].val,.bool true] 147) rfl);obtain ⟨s1,s2,_,_⟩:=zad (zal (o:=.cells #[.int .i64 ps[m].at_,.int .i64 ps[m].val,.bool true] 147) I.o.aft);clear hcw hfrw hclw;go_wp2
     go_roundw
     case rel=>exact ⟨m+1,by omega,Q.o.next hlt (fun h=>if_neg h) (by split <;> simp) rfl rfl,_,I1⟩
     case measure=>show ps.length - m - 1 < ps.length - m;omega
   ·have e:m=ps.length:=by omega
    subst e;obtain ⟨aq,cq,eq⟩:=hq.form (n:=0) (by simp);subst eq;obtain ⟨aL,cL,hvL⟩:=RdS.form (zai I.o.left).rd (n:=(zgs ps).length) (by rw[List.take_length]);subst hvL;obtain ⟨t1,t2,t3,t4⟩:=zad I.o.res;have hsz:=I.o.size;clear hq;go_wp2;have I2:=I.o;refine bodyPost_ret (v:=.tuple #[.agg #[.slice aW2 ws.length cW2,.slice aL (zgs ps).length cL],.int .i64 0]) (by simp[results,Tryz.results148,go_sem,t1,t2]) rfl ?_;refine ⟨_,rfl,⟨_,_,rfl,?_,?_⟩,(I2.below.setCell (by simp only;omega) _).setCell (by simp only;omega) _⟩
    ·rw[ziq];have:=I2.words;rw[List.take_length] at this;refine (this.same fun b h1 h2=>?_).wide (by omega) (by simp;omega);rw[Below.heap_setCell _ _ _ _ (by simp only;omega),Below.heap_setCell _ _ _ _ (by simp only;omega)]
    ·have:=zai I2.left;rw[List.take_length] at this;refine (this.same fun b h1 h2=>?_).wide (by omega) (by simp);rw[Below.heap_setCell _ _ _ _ (by simp only;omega),Below.heap_setCell _ _ _ _ (by simp only;omega)]
 ·have hc':pmB ws ps=false:=by simpa using hc
  clear hc;obtain ⟨e1,e2,e3⟩:=yajm hc';rw[e1,e2,e3];clear e1 e2 e3;go_enter Tryz.func148,Tryz.ntmps148;go_wp2_with fail;refine (zba _ ws ps _ (HR.o.below hb0) hw hp).mono ?_;rintro e w1 ⟨rfl,hb1⟩;have V1:=(hb1.block (w.heap.size+1) (by simp)).trans (zag (by simp));obtain ⟨t1,t2,t3,t4⟩:=zad V1;have B1:=zaa (zab hb0 hb1 (by simp <;> omega));clear hb0 hb1 V1;go_wp2;refine bodyPost_ret (v:=.tuple #[.agg #[.slice none 0 0,.slice none 0 0],.int .i64 1]) (by simp[results,Tryz.results148,go_sem,t1,t2]) rfl ?_;exact ⟨_,rfl,RowPm.zero _ _ _,(B1.o.setCell (by simp only;omega) _).setCell (by simp only;omega) _⟩
def zfc:Array Value:=(List.replicate 336 (Value.int .i64 0)).toArray
theorem yabi (w:World):(zeroValue 167).run Tryz.prog w=.ok (.agg zfc) w:=by kernel_rfl
theorem zmy:zfc.size=336:=by unfold zfc;rw[List.size_toArray,List.length_replicate]
theorem yaeu (k:Nat) (hk:k < 336):zfc[k]?=some (.int .i64 0):=by unfold zfc;rw[List.getElem?_toArray,List.getElem?_replicate,if_pos hk]
theorem yarh {us:List Nat} {zs:List Int} (hz:∀ i,0≤zck zs i∧zck zs i≤400):∀ (i a:Nat),0≤lfF us zs i a∧lfF us zs i a≤400
 | 0,_=>⟨Int.le_refl _,by show (0:Int)≤400;omega⟩
 | i+1,a=>by
  rw[lfF]
  split
  ·exact hz i
  ·exact yarh hz i a
theorem yauw {us:List Nat} {zs:List Int} {ps:List St} {ws:List Int} (hz:∀ i,0≤zck zs i∧zck zs i≤400) (h0:∀ p∈ps,0≤p.at_) (i a:Nat) (ha:a < ws.length):0≤(imS (ws,lfF us zs i) ps).2 a∧(imS (ws,lfF us zs i) ps).2 a≤400:=by
 have e:=congrArg Prod.snd (yakj ps (ws,lfF us zs i) h0 a ha);have hb:=yarh (us:=us) hz i a;have:=zhk (a:=a) ps (ws[a]?.getD 0,lfF us zs i a) hb.1;simp only at e this;omega
structure ImInv (w wr:World) (n:Nat) (S:List Int×(Nat→Int)) (bA lo hi:Nat) (vW:Value):Prop where
 words:Row wr 3 1 lo hi vW n (zav S.1)
 arr:wr.rowIs bA 167 336 (fun j=>.int .i64 (S.2 j))
 aft:wr.heap[hi]?=some (.cells #[vW,.slice none 0 0] 40 (0,0))
 res:wr.heap[w.heap.size+1]?=some (.cells #[.slice none 0 0,.slice none 0 0] 40 (0,0))
 below:Below w.heap.size w wr
 size:hi+1≤wr.heap.size
theorem ImInv.alloc {w wr:World} {n:Nat} {S:List Int×(Nat→Int)} {bA lo hi:Nat} {vW:Value} (h:ImInv w wr n S bA lo hi vW) (o:Obj):ImInv w (wr.alloc o) n S bA lo hi vW:=by
 obtain ⟨h1,h2,h3,h4,h5,h6⟩:=h;exact ⟨h1.alloc (by omega) o,h2.alloc o,zal h3,zal h4,h5.alloc h5.size o,by simp;omega⟩
theorem ImInv.hit {w wr:World} {n:Nat} {S:List Int×(Nat→Int)} {bA lo hi b cap:Nat} (h:ImInv w wr n S bA lo hi (.slice (some ⟨b,0,none⟩) n cap)) (p:St) (hp:0 < S.2 p.at_.toNat) (hA:w.heap.size+2≤bA) (hlo:bA < lo) (hhi:bA < hi) :
  ImInv w ((wr.setCell ⟨b,p.at_.toNat,none⟩ (.int .i64 p.val)).setCell ⟨bA,p.at_.toNat,none⟩ (.int .i64 (S.2 p.at_.toNat - 1))) n (zzn S p) bA lo hi (.slice (some ⟨b,0,none⟩) n cap):=by
 obtain ⟨h1,h2,h3,h4,h5,h6⟩:=h
 obtain ⟨_,hb1,hb2,_⟩:=h1.at
 have e:zzn S p=(S.1.set p.at_.toNat p.val,fun j=>if j=p.at_.toNat then S.2 j - 1 else S.2 j):=by unfold zzn;rw[if_pos hp]
 rw[e];refine ⟨?_,?_,?_,?_,(h5.setCell (by simp only;omega) _).setCell (by simp only;omega) _,by simp;omega⟩
 ·have:=h1.stored p.at_.toNat (.int .i64 p.val);rw[zeo] at this;exact this.same (fun k hk _=>Below.heap_setCell _ _ _ _ (by simp only;omega))
 ·refine ((h2.setOther (a:=⟨b,p.at_.toNat,none⟩) (by simp only;omega) (.int .i64 p.val)).set p.at_.toNat (.int .i64 (S.2 p.at_.toNat - 1))).congr (fun k hk=>?_)
  by_cases e:k=p.at_.toNat
  ·subst e;simp
  ·simp[e]
 ·rw[Below.heap_setCell _ _ _ _ (by simp only;omega),Below.heap_setCell _ _ _ _ (by simp only;omega)];exact h3
 ·rw[Below.heap_setCell _ _ _ _ (by simp only;omega),Below.heap_setCell _ _ _ _ (by simp only;omega)];exact h4
def kpC (ws:List Int) (ps:List St) (zs:List Int):Int:=if pmB ws ps=true then if zaw zs=true then 0 else 4 else 1
def kpW (ws:List Int) (ps:List St) (zs:List Int):List Int:=if kpC ws ps zs=0 then spW (zbg ps 336) zs ps ws (zbg ps 336).length else []
theorem yalt (ws:List Int) (ps:List St) (zs:List Int) :
  (pmB ws ps=false∧kpC ws ps zs=1∧kpW ws ps zs=[]) ∨
  (pmB ws ps=true∧zaw zs=false∧kpC ws ps zs=4∧kpW ws ps zs=[]) ∨
  (pmB ws ps=true∧zaw zs=true∧kpC ws ps zs=0∧kpW ws ps zs=spW (zbg ps 336) zs ps ws (zbg ps 336).length):=by
 by_cases c2:pmB ws ps=true
 ·by_cases c3:zaw zs=true
  ·have e:kpC ws ps zs=0:=by unfold kpC;rw[if_pos c2,if_pos c3]
   exact .inr (.inr ⟨c2,c3,e,by unfold kpW;rw[if_pos e]⟩)
  ·have e:kpC ws ps zs=4:=by unfold kpC;rw[if_pos c2,if_neg c3]
   exact .inr (.inl ⟨c2,by simpa using c3,e,by unfold kpW;rw[e];rfl⟩)
 ·have e:kpC ws ps zs=1:=by unfold kpC;rw[if_neg c2]
  exact .inl ⟨by simpa using c2,e,by unfold kpW;rw[e];rfl⟩
theorem zqj (v vZ:Value) (ws:List Int) (ps:List St) (zs:List Int) (w:World) (h:RdPm w v ws ps) (hz:RdI w vZ zs) (hw:ws.length≤1048576) (hp:ps.length≤1048576) (hzl:zs.length≤1048576) :
  Calls Tryz.prog 93 #[v,vZ] w fun e w'=>∃ v',e=.returned (.tuple #[v',.int .i64 (kpC ws ps zs)])∧RowPm w' w.heap.size w'.heap.size v' (kpW ws ps zs) []∧Below w.heap.size w w':=by
 have HR:=zaa h;have HZ:=zaa hz;obtain ⟨vW,vP,rfl,h1,h2⟩:=h;have H1:=zaa h1;have H2:=zaa h2;obtain ⟨aW,cW,rfl,_⟩:=h1.shape;obtain ⟨aP,cP,rfl,_⟩:=h2.shape;obtain ⟨aZ,cZ,rfl,_⟩:=hz.shape;clear h1 h2 hz
 have hb0:Below w.heap.size w ((w.alloc (.cells #[.slice aW ws.length cW,.slice aP ps.length cP] 40)).alloc (.cells #[.slice none 0 0,.slice none 0 0] 40)):=by
  repeat (refine Below.alloc ?_ (by simp <;> omega) _)
  exact Below.refl _ _
 rcases yalt ws ps zs with ⟨c2,e1,e2⟩ | ⟨c2,c3,e1,e2⟩ | ⟨c2,c3,e1,e2⟩
 ·rw[e1,e2];obtain ⟨s1,s2⟩:=yalw c2;have S1:=zaa s1;clear e1 e2 s1 s2;go_enter Tryz.func93,Tryz.ntmps93;go_wp2_with fail;refine (zfb _ ws ps _ (HR.o.below hb0) hw hp).mono ?_;rw[S1.o];rintro e w1 ⟨v1,rfl,hr1,hb1⟩;obtain ⟨aU,cU,rfl⟩:=RdI.form hr1.rd rfl;have V1:=(hb1.block (w.heap.size+1) (by simp)).trans (zag (by simp));obtain ⟨t1,t2,t3,t4⟩:=zad V1;have B1:=zaa (zab hb0 hb1 (by simp <;> omega));clear hb0 hb1 V1 hr1;go_wp2;refine bodyPost_ret (v:=.tuple #[.agg #[.slice none 0 0,.slice none 0 0],.int .i64 1]) (by simp[results,Tryz.results93,go_sem,t1,t2]) rfl ?_;exact ⟨_,rfl,RowPm.zero _ _ _,(B1.o.setCell (by simp only;omega) _).setCell (by simp only;omega) _⟩
 ·rw[e1,e2];obtain ⟨s1,s2⟩:=yahh c2;have S1:=zaa s1;clear e1 e2 s1 s2;go_enter Tryz.func93,Tryz.ntmps93;go_wp2_with fail;refine (zfb _ ws ps _ (HR.o.below hb0) hw hp).mono ?_;rw[S1.o];rintro e w1 ⟨v1,rfl,hr1,hb1⟩;obtain ⟨aU,cU,rfl⟩:=RdI.form hr1.rd rfl;have V1:=(hb1.block (w.heap.size+1) (by simp)).trans (zag (by simp));obtain ⟨t1,t2,t3,t4⟩:=zad V1;have B1:=zaa (zab hb0 hb1 (by simp <;> omega));clear hb0 hb1 V1 hr1;go_wp2_with (go_at_call 131;refine (zdz _ zs _ (Rd.below HZ.o B1.o) (by omega)).mono ?_;rintro e w1 ⟨rfl,rfl⟩);refine bodyPost_ret (v:=.tuple #[.agg #[.slice none 0 0,.slice none 0 0],.int .i64 4]) (by simp[results,Tryz.results93,go_sem,t1,t2]) rfl ?_;exact ⟨_,rfl,RowPm.zero _ _ _,(B1.o.setCell (by simp only;omega) _).setCell (by simp only;omega) _⟩
 ·rw[e1,e2];obtain ⟨s1,s2⟩:=yahh c2;have S1:=zaa s1;have OK:=zaa (yajr c2);have OKA:=zaa (zsz c2);have P0:=zaa (fun p (hp:p∈ps)=>show 0≤p.at_ by obtain ⟨i,hi,rfl⟩:=List.getElem_of_mem hp;exact (zsz c2 i hi).1);have L336:=zaa (zbz c2).1;have KB:=zaa (zoa c3);clear e1 e2 s1;go_enter Tryz.func93,Tryz.ntmps93;go_wp2_with fail;refine (zfb _ ws ps _ (HR.o.below hb0) hw hp).mono ?_;rw[S1.o,s2];rintro e w1 ⟨v1,rfl,hr1,hb1⟩;obtain ⟨aU,cU,rfl⟩:=RdI.form hr1.rd (n:=(zbg ps 336).length) (zdy ps 336)
  have hz1:w.heap.size+2≤w1.heap.size:=by have:=hb1.size;simp at this;omega
  have V0:=(hb1.block w.heap.size (by simp <;> omega)).trans (zal (zag rfl));have V1:=(hb1.block (w.heap.size+1) (by simp)).trans (zag (by simp));have B1:=zaa (zab hb0 hb1 (by simp <;> omega))
  have RU:Hid (Row w1 3 1 (w.heap.size+2) w1.heap.size (.slice aU (zbg ps 336).length cU) (zbg ps 336).length (zav (zhg ps 336))):=by
   have:=hr1.wide (lo':=w.heap.size+2) (hi':=w1.heap.size) (by simp only[World.size_alloc];omega) (Nat.le_refl _);rw[zdy] at this;exact this
  have START:Hid ((w1.alloc (.cells zfc 167)).rowIs w1.heap.size 167 336 (fun j=>.int .i64 (lfF (zbg ps 336) zs 0 j))):=by
   have:=World.rowIs_alloc w1 zfc 167 (fun j=>.int .i64 (lfF (zbg ps 336) zs 0 j)) (fun k hk=>by rw[zmy] at hk;rw[yaeu k hk];rfl);rw[zmy] at this;exact this
  have VH:=zaa (And.intro (zal (o:=.cells zfc 167) V0) (zal (o:=.cells zfc 167) V1));have BH:=zaa (B1.o.alloc (by omega) (.cells zfc 167))
  have hul:(zbg ps 336).length≤336:=by rw[← zdy];exact zuv ps 336
  have hno:=yabi;clear hb0 hb1 V0 V1 hr1 s2;go_wp2_with (go_at_call 131;refine (zdz _ zs _ (Rd.below HZ.o B1.o) (by omega)).mono ?_;rintro e w1 ⟨rfl,rfl⟩);clear hno
  go_loopw [9,10,29] (fun _ _ ii wr=>∃ i:Nat,i≤(zbg ps 336).length∧ii=.int .i64 i∧wr.rowIs w1.heap.size 167 336 (fun j=>.int .i64 (lfF (zbg ps 336) zs i j))∧(∀ b,¬ b=w1.heap.size→wr.heap[b]?=(w1.alloc (.cells zfc 167)).heap[b]?)∧Below w.heap.size w wr∧wr.heap.size=w1.heap.size+1) (fun _ _ ii _=>(zbg ps 336).length - (intOf ii).toNat)
  case atStart=>exact ⟨0,by omega,rfl,START.o,fun _ _=>rfl,BH.o,by simp⟩
  case round =>
   obtain ⟨i,hi,rfl,hrow,hsame,hb,hz⟩:=hrel
   by_cases hlt:i < (zbg ps 336).length
   ·obtain ⟨_,au',cu',eu',_,hcu⟩:=RU.o.rd
    cases eu'
    obtain ⟨bu,ou,rfl,hbu,_⟩:=hcu (by omega)
    obtain ⟨rfl,_,hbu2,_,_,hclu⟩:=RU.o.at
    have hil:i < (zhg ps 336).length:=by rw[zdy];exact hlt
    have u0:=(World.cell?_of_block (w:=w1) (a:=⟨bu,i,none⟩) ((hsame bu (by omega)).trans (by rw[zea,if_neg (by omega)]))).trans ((hclu i (by omega)).trans (zay _ i hil));rw[yaat] at u0;have hal:(zbg ps 336)[i]?.getD 0 < 336:=yajk ps 336 i hlt;have g0:=hrow.frozen ((zbg ps 336)[i]?.getD 0);have g1:=hrow.cell hal
    have F:Hid ((wr.setCell ⟨w1.heap.size,(zbg ps 336)[i]?.getD 0,none⟩ (.int .i64 (zck zs i))).rowIs w1.heap.size 167 336 (fun j=>.int .i64 (lfF (zbg ps 336) zs (i+1) j))):=by
     refine (hrow.set ((zbg ps 336)[i]?.getD 0) (.int .i64 (zck zs i))).congr (fun j hj=>?_)
     show (if j=(zbg ps 336)[i]?.getD 0 then _ else _)=Value.int .i64 (if j=(zbg ps 336)[i]?.getD 0 then _ else _)
     split <;> rfl
    have G:Hid ((∀ b,¬ b=w1.heap.size→(wr.setCell ⟨w1.heap.size,(zbg ps 336)[i]?.getD 0,none⟩ (.int .i64 (zck zs i))).heap[b]?=(w1.alloc (.cells zfc 167)).heap[b]?)∧Below w.heap.size w (wr.setCell ⟨w1.heap.size,(zbg ps 336)[i]?.getD 0,none⟩ (.int .i64 (zck zs i)))) :=
     ⟨fun b hb'=>(Below.heap_setCell _ _ _ _ (by simp only;exact hb')).trans (hsame b hb'),hb.setCell (by simp only;omega) _⟩
    clear hrow hsame hcu hclu;generalize ha:(zbg ps 336)[i]?.getD 0=a at *;clear ha
    have a0:(0:Int)≤(a:Int):=by omega
    have a1:(a:Int) < 336:=by omega
    go_wp2_with fail;refine (zmj _ zs i _ (Rd.below HZ.o hb) hzl (by omega)).mono ?_;rintro e wr ⟨rfl,rfl⟩;go_wp2
    go_roundw
    case rel=>exact ⟨i+1,by omega,by go_num,F.o,G.o.1,G.o.2,by simp;omega⟩
    case measure=>simp[intOf];omega
   ·have e:i=(zbg ps 336).length:=by omega
    subst e;have ARR:=zaa hrow;have VB:=(hsame w.heap.size (by omega)).trans VH.o.1;have VR:=(hsame (w.heap.size+1) (by omega)).trans VH.o.2;obtain ⟨y1,y2,y3,y4⟩:=zad VB;have VV:=zaa (And.intro VB VR);clear hrow hsame VB VR;go_wp2_with (at_builtin;refine zak _ rfl (.const (.slice none 0 0)) (.tmp 41) 22 rfl (w1.heap.size+1) 3 (.int .i64 0) 1 8 Tryz.underlying22 zfz rfl (by decide) _ 0 [] rfl (World.ownsRow_nil _ _ _ _) _ ws.length (zav ws) rfl (Rd.below H1.o hb) (zdw ws) (by simp[maxLen];omega) (by omega) (by omega) ?_);intro v2 w2 hown2 hgr2
    have hown2:w2.ownsRow (w1.heap.size+1) 3 1 v2 ws.length (zav ws):=by simpa using hown2
    obtain ⟨aW2,cW2,rfl⟩:=RdI.form (zai hown2).rd rfl
    have hz2:w1.heap.size+1≤w2.heap.size:=by have:=hgr2.size;omega
    have B2:=hb.grown hgr2 (by omega) (fun k hk=>by cases hk);have V0:=(hgr2.block w.heap.size (by omega) (by simp[Value.ownBlock])).trans VV.o.1;have V1:=(hgr2.block (w.heap.size+1) (by omega) (by simp[Value.ownBlock])).trans VV.o.2;have AR2:=ARR.o.of_block (hgr2.block w1.heap.size (by omega) (by simp[Value.ownBlock]))
    have INV:Hid (ImInv w (w2.alloc (.cells #[.slice aW2 ws.length cW2,.slice none 0 0] 40)) ws.length (imS (ws,lfF (zbg ps 336) zs (zbg ps 336).length) (ps.take 0)) w1.heap.size (w1.heap.size+1) w2.heap.size (.slice aW2 ws.length cW2)) :=
     ⟨(zai hown2).alloc (Nat.le_refl _) _,AR2.alloc _,zag rfl,zal V1,B2.alloc (by omega) _,by simp⟩
    obtain ⟨z1,z2,z3,z4⟩:=zad (zal (o:=.cells #[.slice aW2 ws.length cW2,.slice none 0 0] 40) V0);clear y1 y2 y3 y4 hown2 hgr2 B2 V0 V1 AR2;go_wp2
    go_loopw [12,13] (fun q _ wr=>∃ m:Nat,m≤ps.length∧RdS w q (ps.drop m)∧Hid (ImInv w wr ws.length (imS (ws,lfF (zbg ps 336) zs (zbg ps 336).length) (ps.take m)) w1.heap.size (w1.heap.size+1) w2.heap.size (.slice aW2 ws.length cW2))) (fun q _ _=>match q with | .slice _ n _=>n | _=>0)
    case atStart=>exact ⟨0,by omega,by simpa using H2.o,INV⟩
    case round =>
     obtain ⟨m,hm,hq,I⟩:=hrel;obtain ⟨y1,y2,y3,y4⟩:=zad I.o.aft
     by_cases hlt:m < ps.length
     ·obtain ⟨b,o,cq,rfl,hcq,hbl,e0,e1,e2⟩:=hq.head hlt;have d0:=(I.o.below.cell (p:=⟨b,o,none⟩) hbl).trans e0;have d1:=(I.o.below.cell (p:=⟨b,o+1,none⟩) hbl).trans e1;have d2:=(I.o.below.cell (p:=⟨b,o+2,none⟩) hbl).trans e2;have Q:=zaa hq;have hsz:=I.o.size;obtain ⟨q0,q1⟩:=OK.o m hlt;obtain ⟨_,q2⟩:=OKA.o m hlt;have BD:=yauw (us:=zbg ps 336) (ws:=ws) (ps:=ps.take m) KB.o (fun p hp=>P0.o p (List.mem_of_mem_take hp)) (zbg ps 336).length ps[m].at_.toNat (by omega);have IA:=zaa (I.o.alloc (.cells #[.int .i64 ps[m].at_,.int .i64 ps[m].val,.bool ps[m].fl] 147));have g0:=IA.o.arr.frozen ps[m].at_.toNat;have g1:=IA.o.arr.cell (i:=ps[m].at_.toNat) (by omega);clear hq e0 e1 e2
      by_cases c:0 < (imS (ws,lfF (zbg ps 336) zs (zbg ps 336).length) (ps.take m)).2 ps[m].at_.toNat
      ·obtain ⟨_,aw',cw',ew',_,hcw⟩:=IA.o.words.rd
       cases ew'
       obtain ⟨bw,ow,rfl,hblw,_⟩:=hcw (by omega)
       obtain ⟨rfl,hb1,_,_,hfrw,hclw⟩:=IA.o.words.at
       have hj:ps[m].at_.toNat < (imS (ws,lfF (zbg ps 336) zs (zbg ps 336).length) (ps.take m)).1.length:=by rw[ztr];show _ < ws.length;omega
       have k0:=hfrw ps[m].at_.toNat;have k1:=(hclw ps[m].at_.toNat (by omega)).trans (zay _ _ hj);have I1:=zaa (IA.o.hit ps[m] c hz1 (by omega) hz2);have E:=zaa (show imS (ws,lfF (zbg ps 336) zs (zbg ps 336).length) (ps.take (m+1))=zzn (imS (ws,lfF (zbg ps 336) zs (zbg ps 336).length) (ps.take m)) ps[m] by rw[zbd ps m hlt,yacn]);clear hcw hfrw hclw;obtain ⟨s1,s2,_,_⟩:=zad IA.o.aft;generalize hx:(imS (ws,lfF (zbg ps 336) zs (zbg ps 336).length) (ps.take m)).2 ps[m].at_.toNat=x at *;go_wp2
       go_roundw
       case rel=>exact ⟨m+1,by omega,Q.o.next hlt (fun h=>if_neg h) (by split <;> simp) rfl rfl,by rw[E.o];exact I1⟩
       case measure=>show ps.length - m - 1 < ps.length - m;omega
      ·have E:=zaa (show imS (ws,lfF (zbg ps 336) zs (zbg ps 336).length) (ps.take (m+1))=imS (ws,lfF (zbg ps 336) zs (zbg ps 336).length) (ps.take m) by rw[zbd ps m hlt,yacn];unfold zzn;rw[if_neg c]);obtain ⟨s1,s2,_,_⟩:=zad IA.o.aft;generalize hx:(imS (ws,lfF (zbg ps 336) zs (zbg ps 336).length) (ps.take m)).2 ps[m].at_.toNat=x at *;go_wp2
       go_roundw
       case rel=>exact ⟨m+1,by omega,Q.o.next hlt (fun h=>if_neg h) (by split <;> simp) rfl rfl,by rw[E.o];exact IA⟩
       case measure=>show ps.length - m - 1 < ps.length - m;omega
     ·have e:m=ps.length:=by omega
      subst e;obtain ⟨aq,cq,eq⟩:=hq.form (n:=0) (by simp);subst eq;obtain ⟨t1,t2,t3,t4⟩:=zad I.o.res;have hsz:=I.o.size;clear hq;go_wp2;have I2:=I.o;refine bodyPost_ret (v:=.tuple #[.agg #[.slice aW2 ws.length cW2,.slice none 0 0],.int .i64 0]) (by simp[results,Tryz.results93,go_sem,t1,t2]) rfl ?_;refine ⟨_,rfl,⟨_,_,rfl,?_,Row.nil _ _ _ _ _⟩,(I2.below.setCell (by simp only;omega) _).setCell (by simp only;omega) _⟩;rw[zhp];have:=I2.words;rw[List.take_length,yaen _ _ _ _ (yaew ps 336) P0.o] at this;refine (this.same fun b h1 h2=>?_).wide (by omega) (by simp;omega);rw[Below.heap_setCell _ _ _ _ (by simp only;omega),Below.heap_setCell _ _ _ _ (by simp only;omega)]
end Go.Proofs.YtahiphgmhndgaaaGreatDoor

namespace Go.Proofs.YtahiphgmhndgaaaGreatDoor
def zvf (s:List Int×List St) (m:Mi):List Int×List St :=
 if m.kind=1 then (s.1,s.2 ++ [⟨m.at_,m.val,false⟩]) else if m.kind=2 then (s.1,s.2.map (fl1 m.at_)) else if m.kind=3 then (zjm s.1 s.2,zgs s.2) else s
def zvs (s:List Int×List St) (l:List Mi):List Int×List St:=l.foldl zvf s
theorem yaoj (s:List Int×List St):zvs s []=s:=rfl
theorem zld (s:List Int×List St) (m:Mi) (l:List Mi):zvs s (m :: l)=zvs (zvf s m) l:=rfl
theorem zjp (s:List Int×List St) (l l':List Mi):zvs s (l ++ l')=zvs (zvs s l) l':=by simp[zvs]
theorem yaan (s:List Int×List St) (p:St):zvf s (stM p)=(s.1,s.2 ++ [⟨p.at_,p.val,false⟩]):=if_pos rfl
theorem yabs (s:List Int×List St) (a:Int):zvf s ⟨2,a,0⟩=(s.1,s.2.map (fl1 a)):=by
 unfold zvf;rw[if_neg (show ¬ (2:Int)=1 by decide),if_pos rfl]
theorem zzv (s:List Int×List St):zvf s ⟨3,0,0⟩=(zjm s.1 s.2,zgs s.2):=by
 unfold zvf;rw[if_neg (by decide),if_neg (by decide),if_pos rfl]
theorem zuj (ks:List Int):∀ i,∀ m∈nl ks i,m=⟨2,m.at_,0⟩
 | 0,m,h=>by cases h
 | i+1,m,h=>by
  rw[nl] at h
  split at h
  ·exact zuj ks i m h
  ·rcases List.mem_append.1 h with h | h
   ·exact zuj ks i m h
   ·rw[List.mem_singleton.1 h]
theorem yaht (ks:List Int):∀ i k,k < i→∃ m∈nl ks i,m.at_ / 8=ks[k]?.getD 0 / 8
 | 0,k,h=>absurd h (by omega)
 | i+1,k,h=>by
  rw[nl]
  by_cases e:k < i
  ·obtain ⟨m,hm,e⟩:=yaht ks i k e
   split
   ·exact ⟨m,hm,e⟩
   ·exact ⟨m,List.mem_append_left _ hm,e⟩
  ·obtain rfl:k=i:=by omega
   split
   ·rename_i hk;simp only[zpw,List.any_eq_true,List.mem_range,beq_iff_eq] at hk;obtain ⟨j,hj,e⟩:=hk;obtain ⟨m,hm,e2⟩:=yaht ks k j hj;exact ⟨m,hm,e2.trans e⟩
   ·exact ⟨_,List.mem_append_right _ (List.mem_singleton.2 rfl),rfl⟩
theorem zol:∀ (l:List Mi) (s:List Int×List St),(∀ m∈l,m=⟨2,m.at_,0⟩)→∃ g:St→St,zvs s l=(s.1,s.2.map g)∧(∀ p,(g p).at_=p.at_∧(g p).val=p.val∧(p.fl=true→(g p).fl=true))∧∀ p,(∃ m∈l,m.at_ / 8=p.at_ / 8)→(g p).fl=true
 | [],s,_=>⟨id,by simp[zvs],fun p=>⟨rfl,rfl,id⟩,fun p h=>by obtain ⟨m,hm,_⟩:=h;cases hm⟩
 | m :: l,s,h=>by
  have hm:=h m (by simp);obtain ⟨g,e,h1,h2⟩:=zol l (s.1,s.2.map (fl1 m.at_)) (fun x hx=>h x (by simp[hx]))
  have hf:∀ p:St,(fl1 m.at_ p).at_=p.at_∧(fl1 m.at_ p).val=p.val∧(p.fl=true→(fl1 m.at_ p).fl=true):=fun p=>by
   unfold fl1
   split
   ·exact ⟨rfl,rfl,fun _=>rfl⟩
   ·exact ⟨rfl,rfl,id⟩
  refine ⟨fun p=>g (fl1 m.at_ p),?_,fun p=>?_,fun p hp=>?_⟩
  ·rw[zld,hm,yabs]
   show zvs (s.1,s.2.map (fl1 m.at_)) l=_
   rw[e,List.map_map];rfl
  ·have a:=h1 (fl1 m.at_ p);have b:=hf p;exact ⟨a.1.trans b.1,a.2.1.trans b.2.1,fun x=>a.2.2 (b.2.2 x)⟩
  ·obtain ⟨x,hx,e2⟩:=hp
   rcases List.mem_cons.1 hx with rfl | hx
   ·apply (h1 _).2.2;unfold fl1;rw[if_pos e2.symm]
   ·apply h2;exact ⟨x,hx,by rw[(hf p).1];exact e2⟩
theorem yaig:∀ (ps:List St) (ws:List Int),(∀ p∈ps,p.fl=true)→zjm ws ps=zcq ws ps∧zgs ps=[]
 | [],_,_=>⟨rfl,rfl⟩
 | p :: ps,ws,h=>by
  have hp:=h p (by simp);have ih:=yaig ps (ws.set p.at_.toNat p.val) (fun q hq=>h q (by simp[hq]));refine ⟨?_,?_⟩
  ·show zjm (if p.fl then ws.set p.at_.toNat p.val else ws) ps=zcq (ws.set p.at_.toNat p.val) ps
   rw[hp];exact ih.1
  ·unfold zgs at ih ⊢;rw[List.filter_cons,hp];exact ih.2
theorem yadb (g:St→St) (hg:∀ p,(g p).at_=p.at_∧(g p).val=p.val):∀ (ps:List St) (ws:List Int),zcq ws (ps.map g)=zcq ws ps
 | [],_=>rfl
 | p :: ps,ws=>by
  show zcq (ws.set (g p).at_.toNat (g p).val) (ps.map g)=zcq (ws.set p.at_.toNat p.val) ps
  rw[(hg p).1,(hg p).2];exact yadb g hg ps _
theorem zst:∀ (S:List St) (s:List Int×List St),zvs s (S.map stM)=(s.1,s.2 ++ S.map (fun p=>(⟨p.at_,p.val,false⟩:St)))
 | [],s=>by simp[zvs]
 | p :: S,s=>by
  rw[List.map_cons,zld,yaan,zst S];simp
theorem yakf (S:List St) (ws:List Int):zvs (ws,[]) (seg S)=(zcq ws S,[]):=by
 have e0:zvs (ws,[]) (S.map stM)=(ws,S.map (fun p=>(⟨p.at_,p.val,false⟩:St))):=by rw[zst];simp
 unfold seg zcv;rw[zjp,e0,zjp];obtain ⟨g,e,h1,h2⟩:=zol (nl (S.map (·.at_)) (S.map (·.at_)).length) (ws,S.map (fun p=>(⟨p.at_,p.val,false⟩:St))) (zuj _ _);rw[e,zld,yaoj,zzv]
 have hall:∀ p∈(S.map (fun p=>(⟨p.at_,p.val,false⟩:St))).map g,p.fl=true:=by
  intro p hp;rw[List.map_map,List.mem_map] at hp;obtain ⟨q,hq,rfl⟩:=hp;apply h2;obtain ⟨i,hi,rfl⟩:=List.getElem_of_mem hq;obtain ⟨m,hm,e2⟩:=yaht (S.map (·.at_)) (S.map (·.at_)).length i (by simpa using hi);refine ⟨m,hm,?_⟩;rw[e2];simp[hi]
 have f:=yaig _ ws hall
 show (zjm ws ((S.map (fun p=>(⟨p.at_,p.val,false⟩:St))).map g),zgs _)=_
 rw[f.1,f.2,List.map_map,yadb (g ∘ fun p=>(⟨p.at_,p.val,false⟩:St)) (fun p=>⟨(h1 _).1,(h1 _).2.1⟩)]
end Go.Proofs.YtahiphgmhndgaaaGreatDoor
