/- The plan to make: by the program. -/
import Derived.Test.YtehnphoeplmpdaaGreatDoorZBI
import Derived.Test.YtehnphoeplmpdaaGreatDoorZBA
import Derived.Deep.RegionHeld3
set_option maxRecDepth 100000
set_option maxHeartbeats 16000000
namespace Go.Proofs.YtehnphoeplmpdaaGreatDoor
open Go.RowKit Go.Maps
theorem yarl {ws:List Ino} {ps:List Den} {s:ByteArray}:pfC ws ps [s]=if 65536 < s.size then 2 else if zay ws ps=true then 0 else 1:=by
 unfold pfC
 by_cases c:65536 < s.size <;> simp[c]
theorem yanm {ws:List Ino} {ps:List Den} {s t:ByteArray}:pfC ws ps [s,t]=if 65536 < s.size then 2 else if 65536 < t.size then 2 else if zay ws ps=true then 0 else 1:=by
 unfold pfC
 by_cases c:65536 < s.size <;> by_cases c':65536 < t.size <;> simp[c,c']
theorem zku {ws:List Ino} {ps:List Den} {s:ByteArray} (h:¬ 65536 < s.size) (hi:zay ws ps=true):paR ws ps s=paI ws ps s:=by
 unfold paR;rw[if_neg h,if_pos hi]
theorem yamr {k:Int} {x:Den} (hk:0≤k∧k≤23) (hx:x.okB=true):duC k x=0∧duL k x=enL k x:=by
 unfold duC duL;exact ⟨by rw[if_pos hk,if_pos hx],by rw[if_pos hk,if_pos hx]⟩
theorem zyt {d c:Int} {nm:ByteArray} (hd:0≤d∧d≤15) (hn:nmB nm=true) (hc:1≤c∧c≤15):(Den.mk d nm c).okB=true:=by
 unfold Den.okB;rw[decide_eq_true hd,decide_eq_true hc,hn];simp
theorem yafg:freeD.okB=true:=by decide
theorem ztt {w:World}:Mp (w.alloc (.map #[] 0)) w.heap.size (.map []):=(World.ownsMap_made w _ _ _).mono (by omega)
theorem zdr {W a w':World} {b:Nat} (h:Below W.heap.size W a) (hg:a.grownBy w' (some b)) (hb:W.heap.size≤b):Below W.heap.size W w':=h.grown hg h.size (fun j hj=>by cases hj;exact hb)
theorem zut {w:World} {b:Nat} {x y z u:Value} (t0:w.cell? ⟨b,0,none⟩=some x) (t1:w.cell? ⟨b,1,none⟩=some y) (t2:w.cell? ⟨b,2,none⟩=some z):(w.setCell ⟨b,2,none⟩ u).cell? ⟨b,0,none⟩=some x∧(w.setCell ⟨b,2,none⟩ u).cell? ⟨b,1,none⟩=some y∧(w.setCell ⟨b,2,none⟩ u).cell? ⟨b,2,none⟩=some u :=
 ⟨(World.cell?_setCell_other _ _ _ _ (by simp)).trans t0,(World.cell?_setCell_other _ _ _ _ (by simp)).trans t1,World.cell?_setCell_same _ _ _ t2⟩
theorem zgz (v:Value) (ws:List Ino) (ps:List Den) (s:ByteArray) (kind:Int) (w:World) (h:RdIm w v ws ps) (hw:ws.length≤1048576) (hp:ps.length≤1048576) (hT:TS w) (hE:ED w) (hF:FD w) (hr:∀ k (h:k < ws.length),ws[k].R) (hs:∀ k (h:k < ps.length),ps[k].name.size≤maxLen) :
  Calls Tryz.prog 183 #[v,.string s,.int .i64 kind] w fun e w'=>zfa w w' e (mkR ws ps s kind):=by
 have LF:=zaa (fun vL w1 (hb:Below w.heap.size w w1) hL=>zgj v vL ws ps [s] w1 (h.below hb) hL (by simp) hw hp (hT.below hb) (hE.below hb) (hF.below hb) hr hs);have LN:=zaa (fun b D w1 (hb:Below w.heap.size w w1) hm=>zjn v ws ps s b D w1 (h.below hb) hw hp (hT.below hb) (hE.below hb) (hF.below hb) hr hs hm);have LI:=zaa (fun w1 (hb:Below w.heap.size w w1)=>zly v ws ps w1 (h.below hb) hw hp (hT.below hb) (hE.below hb) (hF.below hb) hr hs);have LK:=zaa (fun w1 (hb:Below w.heap.size w w1) hi=>zkr v ws ps w1 (h.below hb) hi (hF.below hb));have LD:=zaa (fun k x w1 (hb:Below w.heap.size w w1) hs=>zbx k x w1 (hF.below hb) hs);rw[yarl] at LF;rw[show zas (fun i=>decide (1≤i) && zai ws (i:Int) == 0) ws.length=fiI ws from rfl] at LI;have EL:=zaa (show mkR ws ps s kind=if 65536 < s.size then ([],2) else if zay ws ps=true then (if 1≤kind∧kind≤2 then mkI ws ps s kind else ([],4)) else ([],1) from rfl);have EI:=zaa (show mkI ws ps s kind=if (paI ws ps s).2.2=0 then mkN ws ps kind (paI ws ps s).1 (paI ws ps s).2.1 else ([],(paI ws ps s).2.2) from rfl);have EN:=zaa (fun d nm=>show mkN ws ps kind d nm=if 0≤zky ps d nm then ([],8) else if fiI ws < 0 then ([],7) else if feI ps < 0 then ([],7) else (mkU (fiI ws) (feI ps) kind d nm,0) from rfl);have ER:=zaa (show nnR ws ps s=if (paR ws ps s).2.2=0 then nnN ps (paR ws ps s).1 (paR ws ps s).2.1 else (zqw,(paR ws ps s).2.2) from rfl);have EM:=zaa (fun d nm=>show nnN ps d nm=match zbd ps d nm with | none=>(⟨d,nm,0⟩,0) | some _=>(zqw,8) from rfl);have PR:=zaa (@zku ws ps s);have PO:=zaa (fun hi c=>zic (ws:=ws) (ps:=ps) (s:=s) hi c);have FR:=zaa (fun hi=>And.intro (yaad (ws:=ws) (ps:=ps) hi) (zno (ws:=ws) (ps:=ps) hi));have FP:=zaa (@yang ws);have ENO:=zaa (fun d nm=>@zpy ps d nm);obtain ⟨vW,vP,rfl,h1,h2⟩:=h;obtain ⟨aW,cW,rfl,_,_⟩:=h1.shape;obtain ⟨aP,cP,rfl,_,_⟩:=h2.shape;clear h1 h2 hr hs hT hE hF
 have CA:Hid (∀ w',Below (w.alloc (.cells #[.slice aW ws.length cW,.slice aP ps.length cP] 79)).heap.size (w.alloc (.cells #[.slice aW ws.length cW,.slice aP ps.length cP] 79)) w'→w'.cell? ⟨w.heap.size,0,none⟩=some (.slice aW ws.length cW)∧w'.cell? ⟨w.heap.size,1,none⟩=some (.slice aP ps.length cP)):=fun w' hb=>by
  have:w'.heap[w.heap.size]?=some (.cells #[.slice aW ws.length cW,.slice aP ps.length cP] 79 (0,0)):=(hb.block _ (by simp)).trans (zah rfl);exact ⟨(zac this).1,(zac this).2.1⟩
 have BW:Hid (Below w.heap.size w (w.alloc (.cells #[.slice aW ws.length cW,.slice aP ps.length cP] 79))):=(Below.refl _ _).alloc (Nat.le_refl _) _;obtain ⟨x0,x1⟩:=CA.o _ (Below.refl _ _);generalize hmr:mkR ws ps s kind=res at *;clear hmr
 obtain ⟨W,hW⟩:∃ W,W=w.alloc (.cells #[.slice aW ws.length cW,.slice aP ps.length cP] 79):=⟨_,rfl⟩
 have RS:Hid (RdT (W.alloc (.cells #[.string s] 9)) (.slice (some ⟨W.heap.size,0,none⟩) 1 1) [s]):=by
  refine ⟨rfl,_,_,rfl,⟨Nat.le_refl _,fun e=>by cases e⟩,fun _=>⟨W.heap.size,0,rfl,by simp,fun j hj=>?_⟩⟩;have e0:=(zae (xs:=[.string s]) (zah (w:=W) (o:=.cells #[.string s] 9) rfl) 0).1
  obtain rfl:j=0:=by simp at hj;omega
  exact e0
 have hz:w.heap.size < W.heap.size:=by rw[hW];simp
 have BS:Hid (Below W.heap.size W (W.alloc (.cells #[.string s] 9))):=(Below.refl _ _).alloc (Nat.le_refl _) _
 have hWs:W.heap.size=w.heap.size+1:=by rw[hW];simp
 rw[hWs] at RS;rw[← hW] at CA BW;have hmm:=@run_makeMap Tryz.prog;go_enter Tryz.func183,Tryz.ntmps183;go_wp2_with fail;rw[← hW];clear hW x0 x1 hWs;refine (LF.o _ _ (zab BW.o BS.o (by omega)) RS.o).mono ?_;rintro e w1 ⟨rfl,hb1⟩;have A1:=zaa (zab BS.o hb1 BS.o.size);have B1:=zaa (zab BW.o A1.o (by omega));clear hb1 BS RS LF
 by_cases c1:65536 < s.size
 ·rw[if_pos c1];rw[if_pos c1] at EL;obtain rfl:=EL.o;go_wp2;go_ret2;exact zcb B1.o
 rw[if_neg c1];rw[if_neg c1] at EL
 cases hi:zay ws ps with
 | false =>
  rw[hi] at EL;obtain rfl:=EL.o;go_wp2;go_ret2;exact zcb B1.o
 | true =>
 rw[if_pos rfl];rw[hi,if_pos rfl] at EL;rw[hi] at LI;have PE:=PR.o c1 hi;have PO2:=zaa (PO.o hi);obtain ⟨f1,f2⟩:=FR.o hi;have LK2:=zaa (fun w1 hb=>LK.o w1 hb hi);rw[PE] at ER;clear PE PR PO FR LK hi c1
 by_cases c2:1≤kind∧kind≤2
 case neg =>
  rw[if_neg c2] at EL;obtain rfl:=EL.o
  have q1:(kind != 1)=true:=by rw[bne_iff_ne];omega
  have q2:(kind != 2)=true:=by rw[bne_iff_ne];omega
  clear c2 EL;go_wp2;go_ret2;exact zcb B1.o
 rw[if_pos c2,EI.o] at EL;clear EI
 have q:(kind != 1)=false∨(kind != 1)=true∧(kind != 2)=false:=by
  rcases (show kind=1∨kind=2 by omega) with rfl | rfl
  ·exact .inl rfl
  ·exact .inr ⟨rfl,rfl⟩
 clear c2;have M1:Hid (Mp (w1.alloc (.map #[] 0)) w1.heap.size (.map [])):=ztt;have A1m:=zaa (A1.o.alloc A1.o.size (.map #[] 0));have B1m:=zaa (B1.o.alloc B1.o.size (.map #[] 0));have z1:W.heap.size≤w1.heap.size:=A1.o.size;obtain ⟨x0,x1⟩:=CA.o _ A1m.o;generalize hpr:paI ws ps s=pr at *;clear hpr;obtain ⟨pd,pn,pc⟩:=pr;simp only at EL PO2 ER;generalize nnR ws ps s=nn at *;obtain ⟨⟨nd,nname,nch⟩,nc⟩:=nn;simp only at LN;generalize fiI ws=fi at *;generalize feI ps=fe at *;rw[show fpV true fi=zgb fi from rfl,show fpC true fi=zfq fi from rfl] at LI
 rcases q with q1 | ⟨q1,q2⟩
 all_goals
  go_wp2_with fail;refine (LN.o _ _ _ B1m.o M1.o).mono ?_;rintro e w2 ⟨rfl,-,hg2⟩;have A2:=zaa (zdr A1m.o hg2 z1);have B2:=zaa (zab BW.o A2.o (by omega));have z2:W.heap.size≤w2.heap.size:=A2.o.size;clear x0 x1;clear hg2 LN M1 A1 B1 A1m B1m hmm;have AX:=zaa (A2.o.alloc A2.o.size (.cells #[.int .i64 nd,.string nname,.int .i64 nch] 185));have BX:=zaa (B2.o.alloc B2.o.size (.cells #[.int .i64 nd,.string nname,.int .i64 nch] 185));obtain ⟨x0,x1⟩:=CA.o _ AX.o
  by_cases c:pc=0
  case neg =>
   rw[if_neg c] at EL ER;obtain rfl:=EL.o;have e2:=ER.o;simp only[Prod.mk.injEq] at e2;obtain ⟨-,rfl⟩:=e2
   have q:(nc != 0)=true:=by rw[bne_iff_ne];exact c
   clear c EL ER;go_wp2;go_ret2;exact zcb BX.o
  rw[if_pos c] at EL ER;subst c;rw[EM.o] at ER;rw[EN.o] at EL;obtain ⟨p1,-,p3⟩:=PO2.o rfl;have NM:=zaa p3;have EO:=ENO.o pd pn;clear PO2 p3 EM EN ENO
  cases he:zbd ps pd pn with
  | some k =>
   have e8:0≤zky ps pd pn:=by rw[zib he];omega
   rw[if_pos e8] at EL;rw[he] at ER;obtain rfl:=EL.o;have e2:=ER.o;simp only[Prod.mk.injEq] at e2;obtain ⟨-,rfl⟩:=e2;clear e8 EL ER he EO;go_wp2;go_ret2;exact zcb BX.o
  | none =>
  have e8:=EO.1 he;rw[if_neg (by omega)] at EL;rw[he] at ER;have e2:=ER.o;simp only[Prod.mk.injEq,Den.mk.injEq] at e2;obtain ⟨⟨rfl,rfl,rfl⟩,rfl⟩:=e2;clear e8 ER he EO;go_wp2_with fail;refine (LI.o _ BX.o).mono ?_;rintro e w3 ⟨rfl,hb3⟩;have V3:Hid (w3.heap[w2.heap.size]?=some (.cells #[.int .i64 nd,.string nname,.int .i64 0] 185 (0,0))):=(hb3.block _ (by simp)).trans (zah rfl);have A3:=zaa (zab AX.o hb3 AX.o.size);have B3:=zaa (zab BX.o hb3 BX.o.size);clear hb3 LI AX BX A2 B2 x0 x1;obtain ⟨t0,t1,t2⟩:=zaz V3.o;have u2:=(zae (xs:=[.int .i64 nd,.string nname,.int .i64 0]) V3.o 2).2;have wz:w2.heap.size < w3.heap.size:=(Array.getElem?_eq_some_iff.1 V3.o).1
  by_cases c2:fi < 0
  ·rw[show zgb fi=0 from if_pos c2,show zfq fi=7 from if_pos c2];rw[if_pos c2] at EL;obtain rfl:=EL.o;clear EL c2;go_wp2;go_ret2;exact zcb (B3.o.setCell (by simp only;omega) _)
  rw[show zgb fi=fi from if_neg c2,show zfq fi=0 from if_neg c2];rw[if_neg c2] at EL;have fp:=FP.o (by omega);have S:=zaa (zut (u:=.int .i64 fi) t0 t1 t2);have A4:Hid (Below W.heap.size W (w3.setCell ⟨w2.heap.size,2,none⟩ (.int .i64 fi))):=A3.o.setCell (by simp only;omega) _
  have z4:w3.heap.size≤(w3.setCell ⟨w2.heap.size,2,none⟩ (.int .i64 fi)).heap.size:=by simp[World.setCell]
  obtain ⟨x0,x1⟩:=CA.o _ A4.o;go_wp2_with fail
  obtain ⟨w4,hw4⟩:∃ w4,w4=w3.setCell ⟨w2.heap.size,2,none⟩ (.int .i64 fi):=⟨_,rfl⟩
  rw[← hw4];rw[← hw4] at S A4 z4 x0 x1;clear hw4 t0 t1 t2 u2 A3 B3 V3;have B4:=zaa (zab BW.o A4.o (by omega));refine (LK2.o _ B4.o).mono ?_;rintro e w5 ⟨rfl,hb5⟩
  have S5:Hid (∀ w',Below w5.heap.size w5 w'→w'.cell? ⟨w2.heap.size,0,none⟩=some (.int .i64 nd)∧w'.cell? ⟨w2.heap.size,1,none⟩=some (.string nname)∧w'.cell? ⟨w2.heap.size,2,none⟩=some (.int .i64 fi)):=fun w' hb=>by
   have hb':=zab hb5 hb hb5.size;exact ⟨(hb'.cell (p:=⟨w2.heap.size,0,none⟩) (by simp only;omega)).trans S.o.1,(hb'.cell (p:=⟨w2.heap.size,1,none⟩) (by simp only;omega)).trans S.o.2.1,(hb'.cell (p:=⟨w2.heap.size,2,none⟩) (by simp only;omega)).trans S.o.2.2⟩
  have B5:=zaa (zab B4.o hb5 B4.o.size);clear hb5 LK2 x0 x1 S A4 B4 CA
  by_cases c3:fe < 0
  ·rw[show zgb fe=0 from if_pos c3,show zfq fe=7 from if_pos c3];rw[if_pos c3] at EL;obtain rfl:=EL.o;clear EL c3;go_wp2;go_ret2;exact zcb B5.o
  rw[show zgb fe=fe from if_neg c3,show zfq fe=0 from if_neg c3];rw[if_neg c3] at EL;obtain ⟨d1,d2⟩:=yamr (k:=fe) (x:=⟨nd,nname,fi⟩) (by omega) (zyt p1 NM.o (by omega));have LD2:=zaa (LD.o fe ⟨nd,nname,fi⟩ w5 B5.o (by show nname.size≤maxLen;have:=(zdc NM.o).2.1;unfold maxLen;omega));rw[d1,d2,show (Den.mk nd nname fi).v=.agg #[.int .i64 nd,.string nname,.int .i64 fi] from rfl] at LD2;have l3:(enL fe ⟨nd,nname,fi⟩).length≤3:=Nat.le_refl _;have EU:=zaa (show mkU fi fe kind nd nname=[⟨48+12*fi,kind⟩,⟨48+12*fi+2,1⟩] ++ enL fe ⟨nd,nname,fi⟩ from rfl);generalize enL fe ⟨nd,nname,fi⟩=L at *;obtain ⟨s0,s1,s2⟩:=S5.o _ (Below.refl _ _);clear d1 d2 LD;have LU:=zaa (fun f x w1 hf=>zcr fi f x w1 (by omega) hf);go_wp2_with fail;refine LD2.o.mono ?_;rintro e w6 ⟨v6,rfl,hr6,hb6⟩;obtain ⟨-,aL,cL,hvL,-⟩:=hr6.rd;subst hvL;have R6:=zaa hr6.rd;have B6:=zaa (zab B5.o hb6 B5.o.size)
  have S6:Hid (∀ w',Below w6.heap.size w6 w'→w'.cell? ⟨w2.heap.size,2,none⟩=some (.int .i64 fi)):=fun w' hb=>(S5.o _ (zab hb6 hb hb6.size)).2.2
  have y2:=S6.o _ (Below.refl _ _);clear hb6 hr6 LD2 s0 s1 s2 S5;go_wp2_with fail
  go_region_held3 (fun w'=>w'.cell? ⟨w2.heap.size,2,none⟩=some (.int .i64 fi))
   (exact S6.o _ (by repeat (first | with_reducible exact BF.o | with_reducible exact BE.o | with_reducible exact Below.refl _ _ | with_reducible refine Below.drew ?_ | with_reducible refine zso ?_ _)))
   (first
    | (go_at_call 255;have BQ:=BE;refine (LU.o _ _ _ (by omega)).mono ?_;rintro e wB ⟨rfl,hbB⟩;have BF:Hid (Below w6.heap.size w6 wB):=zab (by repeat (first | with_reducible exact BE.o | with_reducible refine Below.drew ?_)) hbB (by have:=BE.o.size;simp <;> omega);clear hbB BQ)
    | (go_at_call 255;refine (LU.o _ _ _ (by omega)).mono ?_;rintro e wA ⟨rfl,hbA⟩;have BE:Hid (Below w6.heap.size w6 wA):=zab (by repeat (first | with_reducible exact Below.refl _ _ | with_reducible refine Below.drew ?_)) hbA (by simp);clear hbA))
  all_goals
   have B7:=zaa (zab B6.o BF.o B6.o.size);have R7:=zaa (Rd.below R6.o BF.o)
   have J7:Hid (UpI w (wB.alloc (.cells #[.int .i64 (48+12*fi),.int .i64 kind,.int .i64 (48+12*fi+2),.int .i64 1] 180)) (.slice (some ⟨wB.heap.size,0,none⟩) 2 2) [⟨48+12*fi,kind⟩,⟨48+12*fi+2,1⟩]):=⟨World.ownsRow_lit wB _ 2 B7.o.size (by simp[maxLen]) rfl,B7.o.alloc B7.o.size _⟩
   have R8:Hid (Rd (wB.alloc (.cells #[.int .i64 (48+12*fi),.int .i64 kind,.int .i64 (48+12*fi+2),.int .i64 1] 180)) 2 (.slice aL L.length cL) L.length (ses L)):=Rd.below R7.o (zso (Below.refl _ _) _);have z8:w.heap.size≤(wB.alloc (.cells #[.int .i64 (48+12*fi),.int .i64 kind,.int .i64 (48+12*fi+2),.int .i64 1] 180)).heap.size:=J7.o.z;clear R6 R7 B6 BF BE S6 y2 LU B7;go_wp2_with (at_builtin;refine zag _ rfl (.tmp 71) (.tmp 72) 135 rfl w.heap.size 180 (.agg #[.int .i64 0,.int .i64 0]) 2 16 Tryz.underlying135 zfg rfl (by decide) _ _ _ rfl J7.o.l _ _ _ rfl R8.o (zcm _) (by simp[maxLen];omega) (by simp;omega) z8 ?_);intro vN wN hownN hgrN;have G:=zaa (J7.o.grow L hownN hgrN);rw[← EU.o] at G;obtain ⟨-,aN,cN,hvN,-⟩:=(zad hownN).rd;subst hvN;obtain rfl:=EL.o;clear hownN hgrN J7 R8 EL;go_wp2;go_ret2;exact zpi 0 G.o
end Go.Proofs.YtehnphoeplmpdaaGreatDoor
