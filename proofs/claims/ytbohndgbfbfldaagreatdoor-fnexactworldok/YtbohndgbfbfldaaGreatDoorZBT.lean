/- Several texts laid together: MdD, MdE. -/
import Derived.Test.YtbohndgbfbfldaaGreatDoorZAU
import Derived.Deep.LoopGhost
import Derived.Test.YtbohndgbfbfldaaGreatDoorZBH
import Derived.Test.YtbohndgbfbfldaaGreatDoorZAG
set_option maxRecDepth 100000
set_option maxHeartbeats 4000000
namespace Go.Proofs.YtbohndgbfbfldaaGreatDoor
open Go.RowKit
def imO (t:Th):Ino:=⟨t.kind,t.pages.length,t.links,0,0,0,0,0,0,0,0⟩
def zcy (ts:List Th):List Ino:=ts.map imO
theorem zcu (ts:List Th):(zcy ts).length=ts.length:=by simp[zcy]
theorem zmc {ts:List Th} {k:Nat} (h:k < ts.length):zcy (ts.take (k+1))=zcy (ts.take k) ++ [imO ts[k]]:=by
 unfold zcy;rw[List.take_add_one,List.getElem?_eq_getElem h,List.map_append];rfl
theorem znk {w:World} {base:Nat} {e t:TypeId} {size:Nat} {v:Value} {n:Nat} {xs:List Value} {b:Nat} {cs:Array Value} {fr:Nat×Nat} (h:w.ownsRow base e size v n xs) (hb:w.heap[b]?=some (.cells cs t fr)) (hne:e≠t):v.ownBlock≠some b:=by
 intro hv;obtain ⟨_,h1 | ⟨g,cap,cur,e1,_,hg,_⟩⟩:=h
 ·rw[h1.1] at hv;cases hv
 ·rw[e1] at hv
  have:g=b:=by simpa[Value.ownBlock] using hv
  subst this;rw[hg] at hb;injection hb with hb;injection hb with _ ht _;exact hne ht
theorem zqz:(149:Nat)≠123:=by decide
theorem zvj (l l':List Ino):zgq (l ++ l')=zgq l ++ zgq l':=by simp[zgq]
theorem zjn (l:List Ino):∀ u∈zgq l,u.oneCell'=true:=by
 intro u hu;simp only[zgq,List.mem_flatMap] at hu;obtain ⟨m,_,hm⟩:=hu;simp[Ino.cs] at hm
 rcases hm with rfl | rfl | rfl | rfl | rfl | rfl | rfl | rfl | rfl | rfl | rfl <;> rfl
theorem zwe (w1:World) (x:Ino):Rd (w1.alloc (.cells #[.int .i64 x.kind,.int .i64 x.size,.int .i64 x.links,.int .i64 x.m0,.int .i64 x.m1,.int .i64 x.m2,.int .i64 x.m3,.int .i64 x.m4,.int .i64 x.m5,.int .i64 x.m6,.int .i64 x.m7] 149)) 11 (.slice (some ⟨w1.heap.size,0,none⟩) 1 1) 1 (zgq [x]):=by
 refine ⟨rfl,_,_,rfl,⟨Nat.le_refl _,fun e=>by cases e⟩,fun _=>⟨w1.heap.size,0,rfl,by simp,fun j hj=>?_⟩⟩;rw[Nat.zero_add];exact (zat (xs:=x.cs) (zah rfl) j).1
structure RimO (W w:World) (bM:Nat) (vI vD:Value) (xs:List Ino):Prop where
 m:w.heap[bM]?=some (.cells #[vI,vD] 123 (0,0))
 i:w.ownsRow W.heap.size 149 11 vI xs.length (zgq xs)
 b:Below W.heap.size W w
 hb:W.heap.size≤bM
theorem RimO.lt {W w:World} {bM:Nat} {vI vD:Value} {xs:List Ino} (h:RimO W w bM vI vD xs):bM < w.heap.size:=(Array.getElem?_eq_some_iff.1 h.m).1
theorem RimO.z {W w:World} {bM:Nat} {vI vD:Value} {xs:List Ino} (h:RimO W w bM vI vD xs):W.heap.size≤w.heap.size:=h.b.size
theorem RimO.below {W w w':World} {bM:Nat} {vI vD:Value} {xs:List Ino} (h:RimO W w bM vI vD xs) (hb:Below w.heap.size w w'):RimO W w' bM vI vD xs :=
 ⟨(hb.block _ h.lt).trans h.m,((zai h.i).below hb (Nat.le_refl _)).1,zab h.b hb h.z,h.hb⟩
theorem RimO.grow {W w w':World} {bM:Nat} {vI vD v':Value} {xs:List Ino} (h:RimO W w bM vI vD xs) (x:Ino) (ho:w'.ownsRow W.heap.size 149 11 v' (xs.length+1) (zgq xs ++ zgq [x])) (hg:w.grownBy w' vI.ownBlock) :
  w'.heap[bM]?=some (.cells #[vI,vD] 123 (0,0))∧RimO W (w'.setCell ⟨bM,0,none⟩ v') bM v' vD (xs ++ [x]):=by
 have hm:w'.heap[bM]?=some (.cells #[vI,vD] 123 (0,0)):=(hg.block _ h.lt (znk h.i h.m zqz).symm).trans h.m;have hbw:=h.b.grown hg h.z (fun q hq=>(h.i.lt q hq).1);have hm2:(w'.setCell ⟨bM,0,none⟩ v').heap[bM]?=some (.cells #[v',vD] 123 (0,0)):=zcb (xs:=[vI,vD]) hm 0 v';refine ⟨hm,hm2,?_,hbw.setCell h.hb _,h.hb⟩;rw[zvj,List.length_append];exact ownsRow_setCell_other ho (znk ho hm zqz) _
theorem znx (v:Value) (ts:List Th) (ps:List Den) (w:World) (h:RdMd w v ts ps) (hn:ts.length≤1048576) :
  Calls Tryz.prog 79 #[v] w fun e w'=>∃ v',e=.returned v'∧RdIm w' v' (zcy ts) ps∧Below w.heap.size w w':=by
 obtain ⟨vW,vP,rfl,⟨us,rfl,r⟩,hD⟩:=h;have HR:=zaa r;have HD:=zaa hD;rw[List.length_map] at hn;obtain ⟨aW,cW,rfl,-,hc⟩:=r.shape;obtain ⟨aP,cP,rfl,-,-⟩:=hD.shape;have HC:=zaa hc;clear r hD hc
 obtain ⟨W1,hW1⟩:∃ W1,W1=(w.alloc (.cells #[.slice aW us.length cW,.slice aP ps.length cP] 40)).alloc (.cells #[.slice none 0 0,.slice none 0 0] 123):=⟨_,rfl⟩
 have hz1:W1.heap.size=w.heap.size+1+1:=by rw[hW1];simp
 have CA:Hid (∀ w',Below W1.heap.size W1 w'→w'.cell? ⟨w.heap.size,0,none⟩=some (.slice aW us.length cW)∧w'.cell? ⟨w.heap.size,1,none⟩=some (.slice aP ps.length cP)):=fun w' hb=>by
  have:w'.heap[w.heap.size]?=some (.cells #[.slice aW us.length cW,.slice aP ps.length cP] 40 (0,0)):=(hb.block _ (by omega)).trans (by rw[hW1];exact zas (zah rfl));exact ⟨(zae this).1,(zae this).2.1⟩
 have CR:Hid (∀ w',Below W1.heap.size W1 w'→w'.heap[w.heap.size+1]?=some (.cells #[.slice none 0 0,.slice none 0 0] 123 (0,0))):=fun w' hb=>(hb.block _ (by omega)).trans (by
  rw[hW1];have:=zah (w:=w.alloc (.cells #[.slice aW us.length cW,.slice aP ps.length cP] 40)) (o:=.cells #[.slice none 0 0,.slice none 0 0] 123) rfl;rw[World.size_alloc] at this
  exact this)
 have BW:Hid (Below w.heap.size w W1):=by rw[hW1];exact ((Below.refl _ _).alloc (Nat.le_refl _) _).alloc (by simp) _
 have START:Hid (RimO W1 ((W1.alloc (.cells #[] 149)).alloc (.cells #[.slice (some ⟨w.heap.size+1+1,0,none⟩) 0 0,.slice aP ps.length cP] 123)) (w.heap.size+1+1+1) (.slice (some ⟨w.heap.size+1+1,0,none⟩) 0 0) (.slice aP ps.length cP) []):=by
  have hs2:(W1.alloc (.cells #[] 149)).heap.size=w.heap.size+1+1+1:=by rw[World.size_alloc,hz1]
  refine ⟨?_,?_,?_,by omega⟩
  ·have:=zah (w:=W1.alloc (.cells #[] 149)) (o:=.cells #[.slice (some ⟨w.heap.size+1+1,0,none⟩) 0 0,.slice aP ps.length cP] 123) rfl;rw[hs2] at this;exact this
  ·have:=World.ownsRow_lit (e:=149) (size:=11) (base:=W1.heap.size) W1 #[] 0 (Nat.le_refl _) (by simp[maxLen]) (by simp);have r:=((zai this).below ((Below.refl _ (W1.alloc (.cells #[] 149))).alloc (Nat.le_refl _) (.cells #[.slice (some ⟨w.heap.size+1+1,0,none⟩) 0 0,.slice aP ps.length cP] 123)) (Nat.le_refl _)).1;rw[hz1] at r ⊢;exact r
  ·exact ((Below.refl _ _).alloc (Nat.le_refl _) _).alloc (by simp) _
 have hz1':w.heap.size < W1.heap.size:=by omega
 have hz2':w.heap.size+1 < W1.heap.size:=by omega
 obtain ⟨x0,x1⟩:=CA.o W1 (Below.refl _ _);go_enter Tryz.func79,Tryz.ntmps79;go_wp2;rw[← hW1];clear hW1;generalize hbM:w.heap.size+1+1+1=bM at *;clear hbM hz1 x0 x1
 go_loopg [4] us.length (fun g i wr=>∃ k:Nat,k+g=us.length∧i=.int .i64 k∧Hid (∃ vI,RimO W1 wr bM vI (.slice aP ps.length cP) (zcy ((us.map Prod.fst).take k))))
 case atStart=>exact ⟨0,by omega,rfl,_,START.o⟩
 case round =>
  obtain ⟨k,hk,rfl,J⟩:=hrel;obtain ⟨vI,I⟩:=J.o;have I:=zaa I;obtain ⟨x0,x1⟩:=CA.o wr I.o.b;clear J START
  by_cases hlt:k < us.length
  ·obtain ⟨b,o,rfl,hbl,hcell⟩:=HC.o (by omega);obtain ⟨c0,c1,c2⟩:=hcell k hlt;have BB:=zaa (zab BW.o I.o.b BW.o.size);have d0:=(BB.o.cell (p:=⟨b,o+k*3,none⟩) hbl).trans c0;have d1:=(BB.o.cell (p:=⟨b,o+k*3+1,none⟩) hbl).trans c1;have d2:=(BB.o.cell (p:=⟨b,o+k*3+2,none⟩) hbl).trans c2;obtain ⟨a1,y1,ev⟩:=HR.o.val k hlt
   have ML:Hid ((zcy ((us.map Prod.fst).take k)).length=k):=by unfold Hid;rw[zcu,List.length_take,List.length_map];omega
   have MN:Hid (zcy ((us.map Prod.fst).take (k+1))=zcy ((us.map Prod.fst).take k) ++ [imO us[k].1]):=by
    unfold Hid;rw[zmc (by rw[List.length_map];exact hlt),List.getElem_map]
   rw[ev] at d2;clear hcell c0 c1 c2 ev HR HC HD BB;generalize us[k].1=t at *;generalize zcy ((us.map Prod.fst).take k)=xs at *;obtain ⟨n0,n1,_,_⟩:=zae I.o.m;have nb:=I.o.lt;have IA:=zaa ((I.o.below ((Below.refl _ _).alloc (Nat.le_refl _) (.cells #[.int .i64 t.kind,.int .i64 t.links,.slice a1 t.pages.length y1] 128))).below ((Below.refl _ _).alloc (Nat.le_refl _) (.cells #[.int .i64 t.kind,.int .i64 t.pages.length,.int .i64 t.links,.int .i64 0,.int .i64 0,.int .i64 0,.int .i64 0,.int .i64 0,.int .i64 0,.int .i64 0,.int .i64 0] 149)))
   have RB:Hid (Rd ((wr.alloc (.cells #[.int .i64 t.kind,.int .i64 t.links,.slice a1 t.pages.length y1] 128)).alloc (.cells #[.int .i64 t.kind,.int .i64 t.pages.length,.int .i64 t.links,.int .i64 0,.int .i64 0,.int .i64 0,.int .i64 0,.int .i64 0,.int .i64 0,.int .i64 0,.int .i64 0] 149)) 11 (.slice (some ⟨wr.heap.size+1,0,none⟩) 1 1) 1 (zgq [imO t])):=by
    have q:=zwe (wr.alloc (.cells #[.int .i64 t.kind,.int .i64 t.links,.slice a1 t.pages.length y1] 128)) (imO t);rw[World.size_alloc] at q;exact q
   go_wp2_with (at_builtin;refine zao _ rfl (.tmp 23) (.tmp 32) 121 rfl W1.heap.size 149 (.agg #[.int .i64 0,.int .i64 0,.int .i64 0,.int .i64 0,.int .i64 0,.int .i64 0,.int .i64 0,.int .i64 0,.int .i64 0,.int .i64 0,.int .i64 0]) 11 88 Tryz.underlying121 zku rfl (by decide) _ _ _ rfl IA.o.i _ 1 _ rfl RB.o (zjn _) (by rw[ML.o];unfold maxLen;omega) (by rw[ML.o];omega) IA.o.z ?_);intro vN wN hownN hgrN
   rcases (zai hownN).shape with ⟨_,eN,_⟩ | ⟨bN,cN,rfl,_,_⟩
   ·omega
   obtain ⟨g1,g2⟩:=IA.o.grow (imO t) hownN hgrN;have G:=zaa g2;rw[← MN.o] at G;clear n0 n1 g2 d0 d1 d2 x0 x1 IA RB hownN hgrN ML MN I;obtain ⟨n0,n1,n2,n3⟩:=zae g1;clear g1;go_wp2
   go_roundg (us.length - (k+1))
   case measure=>omega
   case rel=>exact ⟨k+1,by omega,by go_num,_,G.o⟩
  ·obtain rfl:k=us.length:=by omega
   have RI:Hid (∀ u0 u1,RdN ((wr.setCell ⟨w.heap.size+1,0,none⟩ u0).setCell ⟨w.heap.size+1,1,none⟩ u1) vI (zcy (us.map Prod.fst))∧RdD ((wr.setCell ⟨w.heap.size+1,0,none⟩ u0).setCell ⟨w.heap.size+1,1,none⟩ u1) (.slice aP ps.length cP) ps):=fun u0 u1=>by
    have OF:Outside (w.heap.size+1) (w.heap.size+1+1) wr ((wr.setCell ⟨w.heap.size+1,0,none⟩ u0).setCell ⟨w.heap.size+1,1,none⟩ u1):=by
     repeat (refine Outside.setCell ?_ (by simp only;omega) (by simp only;omega) _)
     exact Outside.refl _ _ _
    have q:Row wr 149 11 W1.heap.size wr.heap.size vI _ _:=zai I.o.i;have q2:=(q.outside OF (.inr (by omega)) (Nat.le_refl _)).rd;rw[show us.length=(us.map Prod.fst).length by rw[List.length_map],List.take_length] at q2;refine ⟨q2,?_⟩;have B2:Below w.heap.size w ((wr.setCell ⟨w.heap.size+1,0,none⟩ u0).setCell ⟨w.heap.size+1,1,none⟩ u1):=((zab BW.o I.o.b BW.o.size).setCell (by simp only;omega) _).setCell (by simp only;omega) _;exact Rd.below HD.o B2
   have BB:=zaa (zab BW.o I.o.b BW.o.size);have R0:=zaa (CR.o wr I.o.b);obtain ⟨n0,n1,_,_⟩:=zae I.o.m;obtain ⟨r0,r1,r2,r3⟩:=zae R0.o;obtain ⟨-,aI,cI,rfl,-⟩:=id (zai I.o.i).rd;generalize (zcy ((us.map Prod.fst).take us.length)).length=nI at *;clear HR HC HD;go_wp2;have S1:=zfi R0.o (.slice aI nI cI);have S2:((wr.setCell ⟨w.heap.size+1,0,none⟩ (.slice aI nI cI)).setCell ⟨w.heap.size+1,1,none⟩ (.slice aP ps.length cP)).heap[w.heap.size+1]?=some (.cells #[.slice aI nI cI,.slice aP ps.length cP] 123 (0,0)):=zcb (xs:=[.slice aI nI cI,.slice none 0 0]) S1 1 _;obtain ⟨s0,s1,-,-⟩:=zae S2;refine bodyPost_ret (v:=.agg #[.slice aI nI cI,.slice aP ps.length cP]) (by simp[results,Tryz.results79,go_sem,s0,s1]) rfl ?_;refine ⟨_,rfl,?_,(BB.o.setCell (by simp only;omega) _).setCell (by simp only;omega) _⟩;exact ⟨_,_,rfl,(RI.o _ _).1,(RI.o _ _).2⟩
def pwB (l:List Int):Bool:=l.all zap
def thB (t:Th):Bool:=decide (t.pages.length≤8) && pwB t.pages
def zrm (ts:List Th):Bool:=ts.all thB
def zmn (ts:List Th) (ps:List Den):Bool:=decide (ts.length=16) && (zrm ts && zew (zcy ts) ps)
theorem zux {ts:List Th} {k:Nat} (h:k < ts.length) (e:zrm (ts.take k)=true):zrm (ts.take (k+1))=thB ts[k]:=by
 unfold zrm at *;rw[List.take_add_one,List.getElem?_eq_getElem h,List.all_append,e];simp
theorem zwm {ts:List Th} {k:Nat} (h:k < ts.length) (e:thB ts[k]=false):zrm ts=false:=by
 unfold zrm;rw[List.all_eq_false];exact ⟨_,List.getElem_mem h,by rw[e];simp⟩
theorem zzg {l:List Int} {k:Nat} (h:k < l.length) (e:pwB (l.take k)=true):pwB (l.take (k+1))=zap l[k]:=by
 unfold pwB at *;rw[List.take_add_one,List.getElem?_eq_getElem h,List.all_append,e];simp
theorem yacr {l:List Int} {k:Nat} (h:k < l.length) (e:zap l[k]=false):pwB l=false:=by
 unfold pwB;rw[List.all_eq_false];exact ⟨_,List.getElem_mem h,by rw[e];simp⟩
theorem yaei (t:Th):(imO t).R:=by
 intro z hz;simp[imO,Ino.map] at hz;omega
theorem zzo (ts:List Th):∀ k (h:k < (zcy ts).length),(zcy ts)[k].R:=fun k h=>by
 have q:(zcy ts)[k]=imO (ts[k]'(by rw[zcu] at h;exact h)):=by simp[zcy]
 rw[q];exact yaei _
theorem RdMd.below2 {w w':World} {v:Value} {ts:List Th} {ps:List Den} (h:RdMd w v ts ps) (hb:Below w.heap.size w w'):RdMd w' v ts ps:=by
 obtain ⟨vW,vP,rfl,a,b⟩:=h;exact ⟨vW,vP,rfl,a.below hb,Rd.below b hb⟩
theorem zhj (v:Value) (ts:List Th) (ps:List Den) (w:World) (h:RdMd w v ts ps) (hn:ts.length≤1048576) (hp:ps.length≤1048576) (hs:∀ k (h:k < ps.length),ps[k].name.size≤maxLen) :
  Calls Tryz.prog 32 #[v] w fun e w'=>e=.returned (.bool (zmn ts ps))∧Below w.heap.size w w':=by
 have LI:=zaa (fun w1 (hb:Below w.heap.size w w1)=>znx v ts ps w1 (h.below2 hb) hn);have LO:=zaa (fun v1 w1 (h1:RdIm w1 v1 (zcy ts) ps)=>zdn v1 (zcy ts) ps w1 h1 (by rw[zcu];exact hn) hp (zzo ts) hs);obtain ⟨vW,vP,rfl,⟨us,rfl,r⟩,hD⟩:=h;have HR:=zaa r;rw[List.length_map] at hn;obtain ⟨aW,cW,rfl,-,hc⟩:=r.shape;obtain ⟨aP,cP,rfl,-,-⟩:=hD.shape;have HC:=zaa hc;clear r hD hc hs hp
 have CA:Hid (∀ w',Below (w.alloc (.cells #[.slice aW us.length cW,.slice aP ps.length cP] 40)).heap.size (w.alloc (.cells #[.slice aW us.length cW,.slice aP ps.length cP] 40)) w'→w'.cell? ⟨w.heap.size,0,none⟩=some (.slice aW us.length cW)∧w'.cell? ⟨w.heap.size,1,none⟩=some (.slice aP ps.length cP)):=fun w' hb=>by
  have:w'.heap[w.heap.size]?=some (.cells #[.slice aW us.length cW,.slice aP ps.length cP] 40 (0,0)):=(hb.block _ (by simp)).trans (zah rfl);exact ⟨(zae this).1,(zae this).2.1⟩
 obtain ⟨W,hW⟩:∃ W,W=w.alloc (.cells #[.slice aW us.length cW,.slice aP ps.length cP] 40):=⟨_,rfl⟩
 have BW:Hid (Below w.heap.size w W):=by rw[hW];exact (Below.refl _ _).alloc (Nat.le_refl _) _
 rw[← hW] at CA;obtain ⟨x0,x1⟩:=CA.o W (Below.refl _ _)
 by_cases c16:us.length=16
 ·obtain ⟨R,ER⟩:∃ R,Hid (R=zmn (us.map Prod.fst) ps):=⟨_,rfl⟩
  rw[← ER.o]
  have E1:Hid (zrm (us.map Prod.fst)=true→zew (zcy (us.map Prod.fst)) ps=R):=fun a=>by rw[ER.o];unfold zmn;rw[List.length_map,c16,a];rfl
  have E0:Hid (∀ k (h:k < us.length),thB us[k].1=false→false=R):=fun k h a=>by
   rw[ER.o];unfold zmn;rw[zwm (ts:=us.map Prod.fst) (k:=k) (by rw[List.length_map];exact h) (by rw[List.getElem_map];exact a)];simp
  have TK:Hid (∀ k (h:k < us.length),zrm ((us.map Prod.fst).take k)=true→thB us[k].1=true→zrm ((us.map Prod.fst).take (k+1))=true):=fun k h a b=>by
   rw[zux (by rw[List.length_map];exact h) a,List.getElem_map];exact b
  have TL:Hid (zrm ((us.map Prod.fst).take us.length)=true→zrm (us.map Prod.fst)=true):=fun a=>by
   rw[show us.length=(us.map Prod.fst).length by rw[List.length_map],List.take_length] at a;exact a
  clear ER;rw[c16] at x0;rw[c16] at CA;go_enter Tryz.func32,Tryz.ntmps32;rw[c16];go_wp2;rw[c16] at hW;rw[← hW];clear hW
  go_loopg [3] 16 (fun g i wr=>∃ k:Nat,k+g=16∧i=.int .i64 k∧wr=W∧Hid (zrm ((us.map Prod.fst).take k)=true))
  case atStart=>exact ⟨0,rfl,rfl,rfl,rfl⟩
  case round =>
   obtain ⟨k,hk,rfl,rfl,J⟩:=hrel
   by_cases hlt:k < 16
   ·have hlt':k < us.length:=by omega
    obtain ⟨b,o,rfl,hbl,hcell⟩:=HC.o (by omega);obtain ⟨c0,c1,c2⟩:=hcell k hlt';have d2:=(BW.o.cell (p:=⟨b,o+k*3+2,none⟩) hbl).trans c2;have RP:=zaa (HR.o.2 k hlt');obtain ⟨a1,y1,ev,-,hq⟩:=RP.o.shape;rw[ev] at d2;have NO:=zaa (E0.o k hlt');have YES:=zaa (TK.o k hlt' J.o);clear hcell c0 c1 c2 ev HR HC RP TK J E0;generalize us[k].1=t at *
    by_cases c8:t.pages.length≤8
    ·have c8':¬ (t.pages.length:Int) > 8:=by omega
     go_wp2_with fail;generalize gk=G0 at *
     go_loopg [4] t.pages.length (fun g i wq=>∃ m:Nat,m+g=t.pages.length∧i=.int .i64 m∧wq=wr∧Hid (pwB (t.pages.take m)=true))
     case atStart=>exact ⟨0,by omega,rfl,rfl,rfl⟩
     case round =>
      rename_i wq;obtain ⟨m,hm,rfl,rfl,Jm⟩:=hrel
      by_cases hlm:m < t.pages.length
      ·obtain ⟨b',o',rfl,hbl',hcell'⟩:=hq (by omega);have p0:=(BW.o.cell (p:=⟨b',o'+m,none⟩) hbl').trans (hcell' m hlm)
       by_cases cw:zap t.pages[m]=true
       ·have JN:Hid (pwB (t.pages.take (m+1))=true):=(zzg hlm Jm.o).trans cw;clear hcell' Jm;go_wp2_with (go_at_call 77;refine (zau _ _).mono ?_;rw[cw];rintro e w1 ⟨rfl,rfl⟩)
        go_roundg (t.pages.length - (m+1))
        case measure=>omega
        case rel=>exact ⟨m+1,by omega,by go_num,rfl,JN.o⟩
       ·have cw:zap t.pages[m]=false:=by simpa using cw
        have N1:=zaa (NO.o (by unfold thB;rw[yacr hlm cw];simp));clear hcell' Jm;go_wp2_with (go_at_call 77;refine (zau _ _).mono ?_;rw[cw];rintro e w1 ⟨rfl,rfl⟩);go_ret;exact ⟨by show Ending.returned (.bool false)=_;rw[N1.o],BW.o⟩
      ·obtain rfl:m=t.pages.length:=by omega
       have Y1:=YES.o (by unfold thB;rw[List.take_length] at Jm;rw[Jm.o];simp[c8]);have Y1:=zaa Y1;clear Jm hq;go_wp2
       go_roundg (16 - (k+1))
       case measure=>omega
       case rel=>exact ⟨k+1,by omega,by go_num,rfl,Y1.o⟩
    ·have N1:=zaa (NO.o (by unfold thB;simp[c8]))
     have c8':(t.pages.length:Int) > 8:=by omega
     go_wp2;go_ret;exact ⟨by show Ending.returned (.bool false)=_;rw[N1.o],BW.o⟩
   ·obtain rfl:k=16:=by omega
    have F:=zaa (E1.o (TL.o (by rw[c16];exact J.o)));clear J HR HC TK E0 E1 TL;rw[c16] at LI;go_wp2_with fail;refine (LI.o wr BW.o).mono ?_;rintro e w1 ⟨v1,rfl,hr1,hb1⟩;go_wp2_with fail;refine (LO.o v1 w1 hr1).mono ?_;rw[F.o];rintro e w2 ⟨rfl,hb2⟩;go_wp2;go_ret;exact ⟨rfl,zab (zab BW.o hb1 BW.o.size) hb2 (Nat.le_trans BW.o.size hb1.size)⟩
 ·have E:zmn (us.map Prod.fst) ps=false:=by unfold zmn;rw[List.length_map];simp[c16]
  rw[E]
  have c16':¬ (us.length:Int)=16:=by omega
  clear LI LO HC HR E;go_enter Tryz.func32,Tryz.ntmps32;go_wp2;go_ret;rw[← hW];exact ⟨rfl,BW.o⟩
end Go.Proofs.YtbohndgbfbfldaaGreatDoor
