/- Several texts laid together: MeA, MeB. -/
import Derived.Test.YtbohndgbfbfldaaGreatDoorZBT
import Derived.Test.YtbohndgbfbfldaaGreatDoorZAN
import Derived.Test.YtbohndgbfbfldaaGreatDoorZBH
set_option maxRecDepth 100000
set_option maxHeartbeats 4000000
namespace Go.Proofs.YtbohndgbfbfldaaGreatDoor
open Go.RowKit
theorem zor (v:Value) (ts:List Th) (ps:List Den) (w:World) (h:RdMd w v ts ps) (hn:ts.length≤1048576) :
  Calls Tryz.prog 93 #[v] w fun e w'=>∃ v',e=.returned v'∧RdIm w' v' (zcy ts) ps∧Below w.heap.size w w':=by
 obtain ⟨vW,vP,rfl,⟨us,rfl,r⟩,hD⟩:=h;have HR:=zaa r;have HD:=zaa hD;rw[List.length_map] at hn;obtain ⟨aW,cW,rfl,-,hc⟩:=r.shape;obtain ⟨aP,cP,rfl,-,-⟩:=hD.shape;have HC:=zaa hc;clear r hD hc
 obtain ⟨W1,hW1⟩:∃ W1,W1=(w.alloc (.cells #[.slice aW us.length cW,.slice aP ps.length cP] 40)).alloc (.cells #[.slice none 0 0,.slice none 0 0] 123):=⟨_,rfl⟩
 have hz1:W1.heap.size=w.heap.size+1+1:=by rw[hW1];simp
 have CA:Hid (∀ w',Below W1.heap.size W1 w'→w'.cell? ⟨w.heap.size,0,none⟩=some (.slice aW us.length cW)∧w'.cell? ⟨w.heap.size,1,none⟩=some (.slice aP ps.length cP)):=fun w' hb=>by
  have:w'.heap[w.heap.size]?=some (.cells #[.slice aW us.length cW,.slice aP ps.length cP] 40 (0,0)):=(hb.block _ (by omega)).trans (by rw[hW1];exact zas (zah rfl));exact ⟨(zae this).1,(zae this).2.1⟩
 have CR:Hid (∀ w',Below W1.heap.size W1 w'→w'.heap[w.heap.size+1]?=some (.cells #[.slice none 0 0,.slice none 0 0] 123 (0,0))):=fun w' hb=>(hb.block _ (by omega)).trans (by
  rw[hW1];have:=zah (w:=w.alloc (.cells #[.slice aW us.length cW,.slice aP ps.length cP] 40)) (o:=.cells #[.slice none 0 0,.slice none 0 0] 123) rfl;rw[World.size_alloc] at this
  exact this)
 have BW:Hid (Below w.heap.size w W1):=by rw[hW1];exact ((Below.refl _ _).alloc (Nat.le_refl _) _).alloc (by simp) _
 have START:Hid (RimO W1 (W1.alloc (.cells #[.slice none 0 0,.slice aP ps.length cP] 123)) (w.heap.size+1+1) (.slice none 0 0) (.slice aP ps.length cP) []):=by
  refine ⟨?_,(Row.nil _ _ _ W1.heap.size (W1.heap.size+1)).1,?_,by omega⟩
  ·have:=zah (w:=W1) (o:=.cells #[.slice none 0 0,.slice aP ps.length cP] 123) rfl;rw[hz1] at this;exact this
  ·exact (Below.refl _ _).alloc (Nat.le_refl _) _
 have hz1':w.heap.size < W1.heap.size:=by omega
 have hz2':w.heap.size+1 < W1.heap.size:=by omega
 obtain ⟨x0,x1⟩:=CA.o W1 (Below.refl _ _);go_enter Tryz.func93,Tryz.ntmps93;go_wp2;rw[← hW1];clear hW1;generalize hbM:w.heap.size+1+1=bM at *;clear hbM hz1 x0 x1
 go_loopg [12] us.length (fun g i wr=>∃ k:Nat,k+g=us.length∧i=.int .i64 k∧Hid (∃ vI,RimO W1 wr bM vI (.slice aP ps.length cP) (zcy ((us.map Prod.fst).take k))))
 case atStart=>exact ⟨0,by omega,rfl,_,START.o⟩
 case round =>
  obtain ⟨k,hk,rfl,J⟩:=hrel;obtain ⟨vI,I⟩:=J.o;have I:=zaa I;obtain ⟨x0,x1⟩:=CA.o wr I.o.b;clear J START
  by_cases hlt:k < us.length
  ·obtain ⟨b,o,rfl,hbl,hcell⟩:=HC.o (by omega);obtain ⟨c0,c1,c2⟩:=hcell k hlt;have BB:=zaa (zab BW.o I.o.b BW.o.size);have d0:=(BB.o.cell (p:=⟨b,o+k*3,none⟩) hbl).trans c0;have d1:=(BB.o.cell (p:=⟨b,o+k*3+1,none⟩) hbl).trans c1;have d2:=(BB.o.cell (p:=⟨b,o+k*3+2,none⟩) hbl).trans c2;obtain ⟨a1,y1,ev⟩:=HR.o.val k hlt
   have ML:Hid ((zcy ((us.map Prod.fst).take k)).length=k):=by unfold Hid;rw[zcu,List.length_take,List.length_map];omega
   have MN:Hid (zcy ((us.map Prod.fst).take (k+1))=zcy ((us.map Prod.fst).take k) ++ [imO us[k].1]):=by
    unfold Hid;rw[zmc (by rw[List.length_map];exact hlt),List.getElem_map]
   rw[ev] at d2;clear hcell c0 c1 c2 ev HR HC HD BB;generalize us[k].1=t at *;generalize zcy ((us.map Prod.fst).take k)=xs at *;obtain ⟨n0,n1,_,_⟩:=zae I.o.m;have nb:=I.o.lt;have IA:=zaa ((I.o.below ((Below.refl _ _).alloc (Nat.le_refl _) (.cells #[.int .i64 t.kind,.int .i64 t.links,.slice a1 t.pages.length y1] 128))).below ((Below.refl _ _).alloc (Nat.le_refl _) (.cells #[.int .i64 t.kind,.int .i64 t.pages.length,.int .i64 t.links,.int .i64 0,.int .i64 0,.int .i64 0,.int .i64 0,.int .i64 0,.int .i64 0,.int .i64 0,.int .i64 0] 149)))
   have RB:Hid (Rd ((wr.alloc (.cells #[.int .i64 t.kind,.int .i64 t.links,.slice a1 t.pages.length y1] 128)).alloc (.cells #[.int .i64 t.kind,.int .i64 t.pages.length,.int .i64 t.links,.int .i64 0,.int .i64 0,.int .i64 0,.int .i64 0,.int .i64 0,.int .i64 0,.int .i64 0,.int .i64 0] 149)) 11 (.slice (some ⟨wr.heap.size+1,0,none⟩) 1 1) 1 (zgq [imO t])):=by
    have q:=zwe (wr.alloc (.cells #[.int .i64 t.kind,.int .i64 t.links,.slice a1 t.pages.length y1] 128)) (imO t);rw[World.size_alloc] at q;exact q
   go_wp2_with (at_builtin;refine zao _ rfl (.tmp 17) (.tmp 26) 121 rfl W1.heap.size 149 (.agg #[.int .i64 0,.int .i64 0,.int .i64 0,.int .i64 0,.int .i64 0,.int .i64 0,.int .i64 0,.int .i64 0,.int .i64 0,.int .i64 0,.int .i64 0]) 11 88 Tryz.underlying121 zku rfl (by decide) _ _ _ rfl IA.o.i _ 1 _ rfl RB.o (zjn _) (by rw[ML.o];unfold maxLen;omega) (by rw[ML.o];omega) IA.o.z ?_);intro vN wN hownN hgrN
   rcases (zai hownN).shape with ⟨_,eN,_⟩ | ⟨bN,cN,rfl,_,_⟩
   ·omega
   obtain ⟨g1,g2⟩:=IA.o.grow (imO t) hownN hgrN;have G:=zaa g2;rw[← MN.o] at G;clear n0 n1 g2 d0 d1 d2 x0 x1 IA RB hownN hgrN ML MN I;obtain ⟨n0,n1,n2,n3⟩:=zae g1;clear g1;go_wp2
   go_roundg (us.length - (k+1))
   case measure=>omega
   case rel=>exact ⟨k+1,by omega,by go_num,_,G.o⟩
  ·obtain rfl:k=us.length:=by omega
   have RI:Hid (∀ u0 u1,RdN ((wr.setCell ⟨w.heap.size+1,0,none⟩ u0).setCell ⟨w.heap.size+1,1,none⟩ u1) vI (zcy (us.map Prod.fst))∧RdD ((wr.setCell ⟨w.heap.size+1,0,none⟩ u0).setCell ⟨w.heap.size+1,1,none⟩ u1) (.slice aP ps.length cP) ps):=fun u0 u1=>by
    have OF:Outside (w.heap.size+1) (w.heap.size+1+1) wr ((wr.setCell ⟨w.heap.size+1,0,none⟩ u0).setCell ⟨w.heap.size+1,1,none⟩ u1):=by
     repeat (refine Outside.setCell ?_ (by simp only;omega) (by simp only;omega) _)
     exact Outside.refl _ _ _
    have q:Row wr 149 11 W1.heap.size wr.heap.size vI _ _:=zai I.o.i;have q2:=(q.outside OF (.inr (by omega)) (Nat.le_refl _)).rd;rw[show us.length=(us.map Prod.fst).length by rw[List.length_map],List.take_length] at q2;refine ⟨q2,?_⟩;have B2:Below w.heap.size w ((wr.setCell ⟨w.heap.size+1,0,none⟩ u0).setCell ⟨w.heap.size+1,1,none⟩ u1):=((zab BW.o I.o.b BW.o.size).setCell (by simp only;omega) _).setCell (by simp only;omega) _;exact Rd.below HD.o B2
   have BB:=zaa (zab BW.o I.o.b BW.o.size);have R0:=zaa (CR.o wr I.o.b);obtain ⟨n0,n1,_,_⟩:=zae I.o.m;obtain ⟨r0,r1,r2,r3⟩:=zae R0.o;obtain ⟨-,aI,cI,rfl,-⟩:=id (zai I.o.i).rd;generalize (zcy ((us.map Prod.fst).take us.length)).length=nI at *;clear HR HC HD;go_wp2;have S1:=zfi R0.o (.slice aI nI cI);have S2:((wr.setCell ⟨w.heap.size+1,0,none⟩ (.slice aI nI cI)).setCell ⟨w.heap.size+1,1,none⟩ (.slice aP ps.length cP)).heap[w.heap.size+1]?=some (.cells #[.slice aI nI cI,.slice aP ps.length cP] 123 (0,0)):=zcb (xs:=[.slice aI nI cI,.slice none 0 0]) S1 1 _;obtain ⟨s0,s1,-,-⟩:=zae S2;refine bodyPost_ret (v:=.agg #[.slice aI nI cI,.slice aP ps.length cP]) (by simp[results,Tryz.results93,go_sem,s0,s1]) rfl ?_;refine ⟨_,rfl,?_,(BB.o.setCell (by simp only;omega) _).setCell (by simp only;omega) _⟩;exact ⟨_,_,rfl,(RI.o _ _).1,(RI.o _ _).2⟩
theorem zyx (l:List Int):pwB l=zdh l:=by
 cases h:zdh l with
 | true =>
  unfold pwB;rw[List.all_eq_true];intro x hx;obtain ⟨k,hk,rfl⟩:=List.getElem_of_mem hx;exact zep h k hk
 | false =>
  have h':¬ ∀ k (h:k < l.length),zap l[k]=true:=of_decide_eq_false h
  cases q:pwB l with
  | false=>rfl
  | true =>
   unfold pwB at q;rw[List.all_eq_true] at q;exact absurd (fun k hk=>q _ (List.getElem_mem hk)) h'
def hwB (ts:List Th):Bool:=ts.all (fun t=>pwB t.pages)
theorem zxl {ts:List Th} {k:Nat} (h:k < ts.length) (e:hwB (ts.take k)=true):hwB (ts.take (k+1))=pwB ts[k].pages:=by
 unfold hwB at *;rw[List.take_add_one,List.getElem?_eq_getElem h,List.all_append,e];simp
theorem yacv {ts:List Th} {k:Nat} (h:k < ts.length) (e:pwB ts[k].pages=false):hwB ts=false:=by
 unfold hwB;rw[List.all_eq_false];exact ⟨_,List.getElem_mem h,by rw[e];simp⟩
theorem zne {ts:List Th} {ps:List Den} (h:zew (zcy ts) ps=true):ts.length=16∧∀ k (h:k < ts.length),ts[k].pages.length≤8:=by
 obtain ⟨l1,l2,-,o,-⟩:=zzd h;rw[zcu] at l1;refine ⟨l1,fun k hk=>?_⟩;have o':=(of_decide_eq_true o:∀ k (h:k < (zcy ts).length),zdt (zcy ts)[k]=true) k (by rw[zcu];exact hk)
 have e:(zcy ts)[k]'(by rw[zcu];exact hk)=imO ts[k]:=by simp[zcy]
 rw[e] at o';unfold zdt at o';simp only[Bool.and_eq_true,decide_eq_true_eq] at o';have q:=o'.2.1.2;simp only[imO] at q;omega
theorem zvs {ts:List Th} {ps:List Den} (h:zew (zcy ts) ps=true):zmn ts ps=hwB ts:=by
 obtain ⟨l1,l2⟩:=zne h;unfold zmn;rw[h,Bool.and_true,decide_eq_true l1,Bool.true_and];unfold zrm hwB;apply Bool.eq_iff_iff.2;rw[List.all_eq_true,List.all_eq_true];constructor
 ·intro a x hx;have:=a x hx;unfold thB at this;simp only[Bool.and_eq_true] at this;exact this.2
 ·intro a x hx;obtain ⟨k,hk,rfl⟩:=List.getElem_of_mem hx;unfold thB;rw[a _ hx,decide_eq_true (l2 k hk)];rfl
theorem yack {ts:List Th} {ps:List Den} (h:zew (zcy ts) ps=false):zmn ts ps=false:=by
 unfold zmn;rw[h,Bool.and_false,Bool.and_false]
theorem znd (t:Th) (v:Value) (w:World) (h:RdI w v t.pages) (hn:t.pages.length≤1048576) :
  Calls Tryz.prog 95 #[.agg #[.int .i64 t.kind,.int .i64 t.links,v]] w fun e w'=>e=.returned (.bool (pwB t.pages))∧Below w.heap.size w w':=by
 rw[zyx]
 obtain ⟨W,hW⟩:∃ W,W=w.alloc (.cells #[.int .i64 t.kind,.int .i64 t.links,v] 128):=⟨_,rfl⟩
 have BW:Hid (Below w.heap.size w W):=by rw[hW];exact (Below.refl _ _).alloc (Nat.le_refl _) _
 have RW:=zaa (Rd.below h BW.o);obtain ⟨ao,cap,rfl,-,-⟩:=id h.shape
 have c2:W.cell? ⟨w.heap.size,2,none⟩=some (.slice ao t.pages.length cap):=by
  rw[hW];exact (zat (xs:=[.int .i64 t.kind,.int .i64 t.links,.slice ao t.pages.length cap]) (zah rfl) 2).1
 clear h;go_enter Tryz.func95,Tryz.ntmps95;go_wp2_with fail;rw[← hW];clear hW;refine (zbh _ t.pages W RW.o (by omega)).mono ?_;rintro e w1 ⟨rfl,rfl⟩;go_wp2;go_ret;exact ⟨rfl,BW.o⟩
theorem zjj (v:Value) (ts:List Th) (w:World) (h:RdTh w v ts) (hn:ts.length≤1048576) (hg:∀ k (hk:k < ts.length),ts[k].pages.length≤1048576) :
  Calls Tryz.prog 94 #[v,.func (.func 95) #[] #[]] w fun e w'=>e=.returned (.bool (hwB ts))∧Below w.heap.size w w':=by
 obtain ⟨us,rfl,r⟩:=h;have HR:=zaa r;rw[List.length_map] at hn;obtain ⟨aW,cW,rfl,-,hc⟩:=r.shape;have HC:=zaa hc
 have HG:Hid (∀ k (h:k < us.length),us[k].1.pages.length≤1048576):=fun k h=>by
  have:=hg k (by rw[List.length_map];exact h);rw[List.getElem_map] at this;exact this
 have TK:Hid (∀ k (h:k < us.length),hwB ((us.map Prod.fst).take k)=true→hwB ((us.map Prod.fst).take (k+1))=pwB us[k].1.pages):=fun k h a=>by
  rw[zxl (by rw[List.length_map];exact h) a,List.getElem_map]
 have TN:Hid (∀ k (h:k < us.length),pwB us[k].1.pages=false→hwB (us.map Prod.fst)=false):=fun k h a=>yacv (k:=k) (by rw[List.length_map];exact h) (by rw[List.getElem_map];exact a)
 have TL:Hid (hwB ((us.map Prod.fst).take us.length)=hwB (us.map Prod.fst)):=by
  unfold Hid;rw[show us.length=(us.map Prod.fst).length by rw[List.length_map],List.take_length]
 clear r hc hg;generalize hwB (us.map Prod.fst)=R at *;go_enter Tryz.func94,Tryz.ntmps94;go_wp2
 go_loopg [6,9] us.length (fun g _ i wr=>∃ k:Nat,k+g=us.length∧i=.int .i64 k∧Hid (Below w.heap.size w wr∧hwB ((us.map Prod.fst).take k)=true))
 case atStart=>exact ⟨0,by omega,rfl,Below.refl _ _,rfl⟩
 case round =>
  obtain ⟨k,hk,rfl,J⟩:=hrel;have H1:=zaa J.o.1;have J2:Hid (hwB ((us.map Prod.fst).take k)=true):=J.o.2;clear J
  by_cases hlt:k < us.length
  ·obtain ⟨b,o,rfl,hbl,hcell⟩:=HC.o (by omega);obtain ⟨c0,c1,c2⟩:=hcell k hlt;have d0:=(H1.o.cell (p:=⟨b,o+k*3,none⟩) hbl).trans c0;have d1:=(H1.o.cell (p:=⟨b,o+k*3+1,none⟩) hbl).trans c1;have d2:=(H1.o.cell (p:=⟨b,o+k*3+2,none⟩) hbl).trans c2;obtain ⟨a1,y1,ev⟩:=HR.o.val k hlt;have RP:=zaa (HR.o.2 k hlt);have hg:=HG.o k hlt;rw[ev] at d2 RP;have T1:=zaa (TK.o k hlt J2.o);have T0:=zaa (TN.o k hlt);clear hcell c0 c1 c2 ev HR HC HG TK TN TL J2;generalize us[k].1=t at *;have B2:=zaa (H1.o.alloc H1.o.size (.cells #[.int .i64 t.kind,.int .i64 t.links,.slice a1 t.pages.length y1] 128));have LW:=zaa (znd t (.slice a1 t.pages.length y1) _ (Rd.below RP.o B2.o) hg);clear RP
   cases q:pwB t.pages with
   | true =>
    rw[q] at LW T1;clear q T0;go_wp2_with fail;refine LW.o.mono ?_;rintro e w1 ⟨rfl,hb1⟩;have B3:=zaa (zab B2.o hb1 B2.o.size);clear hb1 d0 d1 d2 LW B2;go_wp2
    go_roundg (us.length - (k+1))
    case measure=>omega
    case rel=>exact ⟨k+1,by omega,by go_num,B3.o,T1.o⟩
   | false =>
    rw[q] at LW;have E:=zaa (T0.o q);clear q T0 T1;go_wp2_with fail;refine LW.o.mono ?_;rintro e w1 ⟨rfl,hb1⟩;have B3:=zaa (zab B2.o hb1 B2.o.size);clear hb1 d0 d1 d2 LW B2;go_wp2;go_ret;exact ⟨zac E.o.symm,B3.o⟩
  ·obtain rfl:k=us.length:=by omega
   have E:Hid (R=true):=by rw[← TL.o];exact J2.o
   clear HR HC HG TK TN TL J2;go_wp2;go_ret;exact ⟨zac E.o.symm,H1.o⟩
theorem zhx (v:Value) (ts:List Th) (ps:List Den) (w:World) (h:RdMd w v ts ps) (hn:ts.length≤1048576) (hp:ps.length≤1048576) (hs:∀ k (h:k < ps.length),ps[k].name.size≤maxLen) (hT:TS w) (hE:ED w) (hF:FD w) :
  Calls Tryz.prog 39 #[v] w fun e w'=>e=.returned (.bool (zmn ts ps))∧Below w.heap.size w w':=by
 have LS:=zaa (fun w1 (hb:Below w.heap.size w w1)=>zor v ts ps w1 (h.below2 hb) hn);have LI:=zaa (fun v1 w1 (hb:Below w.heap.size w w1) (h1:RdIm w1 v1 (zcy ts) ps)=>zcn v1 (zcy ts) ps w1 h1 (by rw[zcu];exact hn) hp (hT.below hb) (hE.below hb) (hF.below hb) (zzo ts) hs);obtain ⟨vW,vP,rfl,hI,hD⟩:=h;have LE:=zaa (fun w1 (hb:Below w.heap.size w w1) (hg:∀ k (hk:k < ts.length),ts[k].pages.length≤1048576)=>zjj vW ts w1 (hI.below hb) hn hg);obtain ⟨aW,cW,rfl⟩:=hI.form;obtain ⟨aP,cP,rfl,-,-⟩:=hD.shape
 have MT:Hid (zew (zcy ts) ps=true→zmn ts ps=hwB ts∧∀ k (hk:k < ts.length),ts[k].pages.length≤1048576):=fun a=>⟨zvs a,fun k hk=>Nat.le_trans ((zne a).2 k hk) (by decide)⟩
 have MF:Hid (zew (zcy ts) ps=false→zmn ts ps=false):=yack;clear hI hD hs hT hE hF
 obtain ⟨W,hW⟩:∃ W,W=w.alloc (.cells #[.slice aW ts.length cW,.slice aP ps.length cP] 40):=⟨_,rfl⟩
 have BW:Hid (Below w.heap.size w W):=by rw[hW];exact (Below.refl _ _).alloc (Nat.le_refl _) _
 have hz:w.heap.size < W.heap.size:=by rw[hW];simp
 have CA:Hid (∀ w',Below W.heap.size W w'→w'.cell? ⟨w.heap.size,0,none⟩=some (.slice aW ts.length cW)∧w'.cell? ⟨w.heap.size,1,none⟩=some (.slice aP ps.length cP)):=fun w' hb=>by
  have:w'.heap[w.heap.size]?=some (.cells #[.slice aW ts.length cW,.slice aP ps.length cP] 40 (0,0)):=(hb.block _ hz).trans (by rw[hW];exact zah rfl);exact ⟨(zae this).1,(zae this).2.1⟩
 obtain ⟨x0,x1⟩:=CA.o W (Below.refl _ _);generalize hR:zmn ts ps=R at *;clear hR;go_enter Tryz.func39,Tryz.ntmps39;go_wp2_with fail;rw[← hW];clear hW;refine (LS.o W BW.o).mono ?_;rintro e w1 ⟨v1,rfl,hr1,hb1⟩;have R1:=zaa hr1;have B1:=zaa (zab BW.o hb1 BW.o.size);have C1:=zaa (show Below W.heap.size W w1 from hb1);clear hr1 hb1 x0 x1;have LI1:=zaa (LI.o v1 w1 B1.o R1.o);clear LI LS R1
 cases q:zew (zcy ts) ps with
 | false =>
  have E:=zaa (MF.o q);rw[q] at LI1;clear q MT MF LE;go_wp2_with fail;refine LI1.o.mono ?_;rintro e w2 ⟨rfl,hb2⟩;have B2:=zaa (zab B1.o hb2 B1.o.size);clear hb2;go_wp2;go_ret;exact ⟨zac E.o.symm,B2.o⟩
 | true =>
  have E:=zaa (MT.o q);rw[q] at LI1;clear q MT MF;go_wp2_with fail;refine LI1.o.mono ?_;rintro e w2 ⟨rfl,hb2⟩;have B2:=zaa (zab B1.o hb2 B1.o.size);have C2:=zaa (zab C1.o hb2 C1.o.size);obtain ⟨x0,x1⟩:=CA.o w2 C2.o;have LE2:=zaa (LE.o w2 B2.o E.o.2);clear hb2 LE LI1;go_wp2_with fail;refine LE2.o.mono ?_;rintro e w3 ⟨rfl,hb3⟩;have B3:=zaa (zab B2.o hb3 B2.o.size);have E1:=zaa E.o.1;clear hb3 E;generalize hwB ts=R2 at *;go_wp2;go_ret;exact ⟨zac E1.o.symm,B3.o⟩
end Go.Proofs.YtbohndgbfbfldaaGreatDoor
