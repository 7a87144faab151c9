/- Several texts laid together: ImP, PaA, PmSeen. -/
import Derived.Test.YtbohndgbfbfldaaGreatDoorZBG
import Derived.Test.YtbohndgbfbfldaaGreatDoorZAN
set_option maxRecDepth 100000
set_option maxHeartbeats 8000000
namespace Go.Proofs.YtbohndgbfbfldaaGreatDoor
open Go.RowKit
theorem zcn (v:Value) (ws:List Ino) (ps:List Den) (w:World) (h:RdIm w v ws ps) (hw:ws.length≤1048576) (hp:ps.length≤1048576) (hT:TS w) (hE:ED w) (hF:FD w) (hr:∀ k (h:k < ws.length),ws[k].R) (hs:∀ k (h:k < ps.length),ps[k].name.size≤maxLen) :
  Calls Tryz.prog 92 #[v] w fun e w'=>e=.returned (.bool (zew ws ps))∧Below w.heap.size w w':=by
 rw[← yaao];exact zsz v ws ps w h hw hp hT hE hF hr hs
theorem zdn (v:Value) (ws:List Ino) (ps:List Den) (w:World) (h:RdIm w v ws ps) (hw:ws.length≤1048576) (hp:ps.length≤1048576) (hr:∀ k (h:k < ws.length),ws[k].R) (hs:∀ k (h:k < ps.length),ps[k].name.size≤maxLen) :
  Calls Tryz.prog 78 #[v] w fun e w'=>e=.returned (.bool (zew ws ps))∧Below w.heap.size w w':=by
 have HRD:=zaa h;have HR:=zaa hr;have L1:=zaa (fun w1 h=>zoa v ws ps w1 h hw hp);have L2:=zaa (fun w1 h (hl:ws.length=16)=>zit v ws ps w1 h hl hp hs);have L3:=zaa (fun w1 h (hl:ws.length=16) (o:zon ws=true)=>zlj v ws ps w1 h hl (fun k hk z hz=>zue (zmx o k hk z hz)));obtain ⟨vW,vP,rfl,h1,h2⟩:=h;obtain ⟨aW,cW,rfl,_,hcW⟩:=h1.shape;obtain ⟨aP,cP,rfl,_,_⟩:=h2.shape;have HW:=zaa hcW;clear h1 h2 hr hs hcW
 have CA:Hid (∀ w',Below (w.alloc (.cells #[.slice aW ws.length cW,.slice aP ps.length cP] 123)).heap.size (w.alloc (.cells #[.slice aW ws.length cW,.slice aP ps.length cP] 123)) w'→w'.cell? ⟨w.heap.size,0,none⟩=some (.slice aW ws.length cW)∧w'.cell? ⟨w.heap.size,1,none⟩=some (.slice aP ps.length cP)):=fun w' hb=>by
  have:w'.heap[w.heap.size]?=some (.cells #[.slice aW ws.length cW,.slice aP ps.length cP] 123 (0,0)):=(hb.block _ (by simp)).trans (zah rfl);exact ⟨(zae this).1,(zae this).2.1⟩
 have BW:Hid (Below w.heap.size w (w.alloc (.cells #[.slice aW ws.length cW,.slice aP ps.length cP] 123))):=(Below.refl _ _).alloc (Nat.le_refl _) _;obtain ⟨x0,x1⟩:=CA.o _ (Below.refl _ _);have EI:=zaa (show zew ws ps=(decide (ws.length=16) && (decide (ps.length=24) && (zbf ws 0 == 2 && (zon ws && (zen ws ps && (zdj ws ps && zgw ws)))))) from rfl)
 by_cases c1:ws.length=16
 case neg =>
  have E:=zaa (show zew ws ps=false by rw[EI.o,decide_eq_false c1];rfl)
  have q:((ws.length:Int) != 16)=true:=by rw[bne_iff_ne];omega
  clear c1;go_enter Tryz.func78,Tryz.ntmps78;go_wp2;go_ret;exact ⟨zac E.o.symm,BW.o⟩
 have q:((ws.length:Int) != 16)=false:=by rw[c1];rfl
 by_cases c2:ps.length=24
 case neg =>
  have E:=zaa (show zew ws ps=false by rw[EI.o,decide_eq_false c2,Bool.false_and,Bool.and_false])
  have q2:((ps.length:Int) != 24)=true:=by rw[bne_iff_ne];omega
  clear c1 c2;go_enter Tryz.func78,Tryz.ntmps78;go_wp2;go_ret;exact ⟨zac E.o.symm,BW.o⟩
 have q2:((ps.length:Int) != 24)=false:=by rw[c2];rfl
 obtain ⟨bW,oW,rfl,hblW,hcellW⟩:=HW.o (by omega);have HK:=(hcellW 0 (by omega)).1;rw[show ws[0].kind=zbf ws 0 from (zcc (i:=0) (by omega)).symm] at HK;simp only[Nat.zero_mul,Nat.add_zero] at HK;have kk:=(BW.o.cell (p:=⟨bW,oW,none⟩) hblW).trans HK
 have len16:(0:Int) < (ws.length:Int):=by omega
 have C1:=zaa c1;have E1:=zaa (show zew ws ps=(zbf ws 0 == 2 && (zon ws && (zen ws ps && (zdj ws ps && zgw ws)))) by rw[EI.o,decide_eq_true c1,decide_eq_true c2];rfl);have HC:=zaa hcellW;clear c1 c2 EI HK hcellW HW;generalize zbf ws 0=k0 at *
 by_cases c3:k0=2
 case neg =>
  have q3:(k0 != 2)=true:=by rw[bne_iff_ne];exact c3
  have E:=zaa (show zew ws ps=false by rw[E1.o,show (k0 == 2)=false by rw[beq_eq_false_iff_ne];exact c3];rfl);clear c3;go_enter Tryz.func78,Tryz.ntmps78;go_wp2;go_ret;exact ⟨zac E.o.symm,BW.o⟩
 have q3:(k0 != 2)=false:=by rw[c3];rfl
 have E2:=zaa (show zew ws ps=(zon ws && (zen ws ps && (zdj ws ps && zgw ws))) by rw[E1.o,c3];rfl);clear c3 E1;go_enter Tryz.func78,Tryz.ntmps78;go_wp2;clear x0 x1 kk q q2 q3;generalize w.alloc (.cells #[.slice (some ⟨bW,oW,none⟩) ws.length cW,.slice aP ps.length cP] 123)=W at *;have hz:w.heap.size≤W.heap.size:=BW.o.size
 go_loopw [3] (fun i wr=>∃ k:Nat,k≤ws.length∧i=.int .i64 k∧Hid (Below W.heap.size W wr∧∀ j (h:j < ws.length),j < k→zdt ws[j]=true)) (fun i _=>ws.length - (intOf i).toNat)
 case atStart=>exact ⟨0,by omega,rfl,Below.refl _ _,fun j h a=>absurd a (by omega)⟩
 case round =>
  obtain ⟨k,hk,rfl,H⟩:=hrel;have H1:=zaa H.o.1;have HF:=zaa (zab BW.o H.o.1 hz);obtain ⟨x0,x1⟩:=CA.o wr H.o.1
  by_cases hlt:k < ws.length
  ·obtain ⟨a0,a1,a2,a3,a4,a5,a6,a7,a8,a9,a10⟩:=HC.o k hlt;have d0:=(HF.o.cell (p:=⟨bW,oW+k*11,none⟩) hblW).trans a0;have d1:=(HF.o.cell (p:=⟨bW,oW+k*11+1,none⟩) hblW).trans a1;have d2:=(HF.o.cell (p:=⟨bW,oW+k*11+2,none⟩) hblW).trans a2;have d3:=(HF.o.cell (p:=⟨bW,oW+k*11+3,none⟩) hblW).trans a3;have d4:=(HF.o.cell (p:=⟨bW,oW+k*11+4,none⟩) hblW).trans a4;have d5:=(HF.o.cell (p:=⟨bW,oW+k*11+5,none⟩) hblW).trans a5;have d6:=(HF.o.cell (p:=⟨bW,oW+k*11+6,none⟩) hblW).trans a6;have d7:=(HF.o.cell (p:=⟨bW,oW+k*11+7,none⟩) hblW).trans a7;have d8:=(HF.o.cell (p:=⟨bW,oW+k*11+8,none⟩) hblW).trans a8;have d9:=(HF.o.cell (p:=⟨bW,oW+k*11+9,none⟩) hblW).trans a9;have d10:=(HF.o.cell (p:=⟨bW,oW+k*11+10,none⟩) hblW).trans a10
   have k0':(0:Int)≤(k:Int):=by omega
   have k1:(k:Int) < (ws.length:Int):=by omega
   have LI:=zaa (fun w1=>zmv ws[k] w1 (HR.o k hlt))
   have H2:Hid (zdt ws[k]=true→∀ j (h:j < ws.length),j < k+1→zdt ws[j]=true):=fun q j h a=>by
    by_cases e:j=k
    ·subst e;exact q
    ·exact H.o.2 j h (by omega)
   have H3:=zaa (fun q=>zqu hlt q);clear a0 a1 a2 a3 a4 a5 a6 a7 a8 a9 a10 H;generalize ws[k]=x at d0 d1 d2 d3 d4 d5 d6 d7 d8 d9 d10 LI H2 H3
   cases qq:zdt x with
   | true =>
    rw[qq] at LI;have E:=zaa (H2.o qq);clear H2 H3 qq;go_wp2_with fail;refine (LI.o _).mono ?_;rintro e w1 ⟨rfl,hb1⟩;have B3:=zaa (zab H1.o hb1 H1.o.size);clear hb1 d0 d1 d2 d3 d4 d5 d6 d7 d8 d9 d10 x0 x1;go_wp2
    go_roundw
    case rel=>exact ⟨k+1,by omega,by go_num,B3.o,E.o⟩
    case measure=>simp[intOf];omega
   | false =>
    rw[qq] at LI;have E:=zaa (show zew ws ps=false by rw[E2.o,H3.o qq];rfl);clear H2 H3 qq;go_wp2_with fail;refine (LI.o _).mono ?_;rintro e w1 ⟨rfl,hb1⟩;have B3:=zaa (zab HF.o hb1 HF.o.size);clear hb1 d0 d1 d2 d3 d4 d5 d6 d7 d8 d9 d10 x0 x1;go_wp2;go_ret;exact ⟨zac E.o.symm,B3.o⟩
  ·have O:=zaa (ztm (fun j h=>H.o.2 j h (by omega)));have E3:=zaa (show zew ws ps=(zen ws ps && (zdj ws ps && zgw ws)) by rw[E2.o,O.o];rfl);clear H;generalize zen ws ps=f1 at *;generalize zdj ws ps=f2 at *;generalize zgw ws=f3 at *;go_wp2_with fail;refine (L2.o _ (HRD.o.below HF.o) C1.o).mono ?_;rintro e w1 ⟨rfl,hb1⟩;have B1:=zaa (zab HF.o hb1 HF.o.size);have BA:=zaa (zab H1.o hb1 H1.o.size);clear hb1 x0 x1
   cases f1 with
   | false =>
    go_wp2;go_ret;exact ⟨zac (by rw[E3.o];rfl),B1.o⟩
   | true =>
   obtain ⟨x0,x1⟩:=CA.o _ BA.o;go_wp2_with fail;refine (L1.o _ (HRD.o.below B1.o)).mono ?_;rintro e w2 ⟨rfl,hb2⟩;have B2:=zaa (zab B1.o hb2 B1.o.size);have BB:=zaa (zab BA.o hb2 BA.o.size);clear hb2 x0 x1
   cases f2 with
   | false =>
    go_wp2;go_ret;exact ⟨zac (by rw[E3.o];rfl),B2.o⟩
   | true =>
   obtain ⟨x0,x1⟩:=CA.o _ BB.o;go_wp2_with fail;refine (L3.o _ (HRD.o.below B2.o) C1.o O.o).mono ?_;rintro e w3 ⟨rfl,hb3⟩;have B3:=zaa (zab B2.o hb3 B2.o.size);clear hb3 x0 x1;go_wp2;go_ret;exact ⟨zac (by rw[E3.o];rfl),B3.o⟩
theorem zzd {ws:List Ino} {ps:List Den} (h:zew ws ps=true):ws.length=16∧ps.length=24∧zbf ws 0=2∧zon ws=true∧zen ws ps=true∧zdj ws ps=true∧zgw ws=true:=by
 unfold zew at h;simp only[Bool.and_eq_true,decide_eq_true_eq,beq_iff_eq] at h;exact h
def zbk (ws:List Int) (ps:List St):List Int:=ps.foldl (fun acc p=>acc.set p.at_.toNat p.val) ws
theorem ztb (ws:List Int) (ps:List St) (p:St):zbk ws (ps ++ [p])=(zbk ws ps).set p.at_.toNat p.val:=by simp[zbk]
theorem zhc (ws:List Int):∀ ps:List St,(zbk ws ps).length=ws.length:=by
 intro ps;unfold zbk
 induction ps generalizing ws with
 | nil=>rfl
 | cons p ps ih=>rw[List.foldl_cons,ih];simp
theorem zua:∀ (ps:List St) (ws:List Int) (k:Nat) (hk:k < ws.length) (_:∀ p∈ps,0≤p.at_) (hk':k < (zbk ws ps).length),(zbk ws ps)[k]=zga (k:Int) ws[k] ps
 | [],ws,k,hk,_,_=>rfl
 | p :: ps,ws,k,hk,h0,hk'=>by
  have hk2:k < (ws.set p.at_.toNat p.val).length:=by simpa using hk
  have:=zua ps (ws.set p.at_.toNat p.val) k hk2 (fun q hq=>h0 q (by simp[hq])) hk'
  show (zbk (ws.set p.at_.toNat p.val) ps)[k]=zga (k:Int) (if p.at_=(k:Int) then p.val else ws[k]) ps
  rw[this,List.getElem_set];have hp:=h0 p (by simp)
  by_cases e:p.at_=(k:Int)
  ·rw[if_pos (by omega),if_pos e]
  ·rw[if_neg (by omega),if_neg e]
def zve (ws:List Int) (ps:List St):Int:=if pmB ws ps=true then 0 else 1
def zso (ws:List Int) (ps:List St):List Int:=if pmB ws ps=true then zbk ws ps else []
theorem zra {ws:List Int} {ps:List St} (h:pmB ws ps=false):zve ws ps=1∧zso ws ps=[]:=by
 unfold zve zso;rw[h];exact ⟨rfl,rfl⟩
theorem zsw {ws:List Int} {ps:List St} (h:pmB ws ps=true):zve ws ps=0∧zso ws ps=zbk ws ps:=by
 unfold zve zso;rw[h];exact ⟨rfl,rfl⟩
theorem ziu (v:Value) (ws:List Int) (ps:List St) (w:World) (h:RdPm w v ws ps) (hw:ws.length≤1048576) (hp:ps.length≤1048576) :
  Calls Tryz.prog 192 #[v] w fun e w'=>∃ v',e=.returned (.tuple #[v',.int .i64 (zve ws ps)])∧Row w' 3 1 w.heap.size w'.heap.size v' (zso ws ps).length (zdi (zso ws ps))∧Below w.heap.size w w':=by
 have HR:=zaa h;obtain ⟨vW,vP,rfl,h1,h2⟩:=h;have H1:=zaa h1;obtain ⟨aW,cW,rfl,_⟩:=h1.shape;obtain ⟨aP,cP,rfl,_,hcP⟩:=h2.shape;have HP:=zaa hcP;clear h1 h2 hcP;have hb0:Below w.heap.size w (w.alloc (.cells #[.slice aW ws.length cW,.slice aP ps.length cP] 25)):=(Below.refl _ _).alloc (Nat.le_refl _) _
 by_cases hc:pmB ws ps=true
 ·obtain ⟨e1,e2⟩:=zsw hc;rw[e1,e2];clear e1 e2;have OK:=zaa (yadk hc);go_enter Tryz.func192,Tryz.ntmps192;go_wp2_with fail;refine (zcd _ ws ps _ (HR.o.below hb0) hw hp).mono ?_;rintro e w1 ⟨rfl,hb1⟩
  have hz1:w.heap.size+1≤w1.heap.size:=by have:=hb1.size;simp at this;omega
  have V0:=(hb1.block w.heap.size (by simp <;> omega)).trans (zah rfl);obtain ⟨x1,x2,x3,x4⟩:=zae V0;have B1:=zaa (zab hb0 hb1 (by simp <;> omega));have VH:=zaa V0;clear hb0 hb1 V0;go_wp2_with (at_builtin;refine zao _ rfl (.const (.slice none 0 0)) (.tmp 11) 22 rfl w1.heap.size 3 (.int .i64 0) 1 8 Tryz.underlying22 zyo rfl (by decide) _ 0 [] rfl (World.ownsRow_nil _ _ _ _) _ ws.length (zdi ws) rfl (Rd.below H1.o B1.o) (zyd ws) (by simp[maxLen];omega) (by omega) (Nat.le_refl _) ?_);intro v2 w2 hown2 hgr2
  have hown2:w2.ownsRow w1.heap.size 3 1 v2 ws.length (zdi ws):=by simpa using hown2
  obtain ⟨aW2,cW2,rfl⟩:=RdI.form (zai hown2).rd rfl;have hz2:w1.heap.size≤w2.heap.size:=hgr2.size;have B2:=B1.o.grown hgr2 (by omega) (fun k hk=>by cases hk);have V0:=(hgr2.block w.heap.size (by omega) (by simp[Value.ownBlock])).trans VH.o;obtain ⟨z1,z2,z3,z4⟩:=zae V0;have START:=zaa (And.intro (zai hown2) B2);clear x1 x2 x3 x4 hown2 hgr2 B2 V0;go_wp2
  go_loopw [6,16] (fun _ i wr=>∃ m:Nat,m≤ps.length∧i=.int .i64 m∧Row wr 3 1 w1.heap.size w2.heap.size (.slice aW2 ws.length cW2) ws.length (zdi (zbk ws (ps.take m)))∧Below w.heap.size w wr∧w2.heap.size≤wr.heap.size) (fun _ i _=>ps.length - (intOf i).toNat)
  case atStart=>exact ⟨0,by omega,rfl,START.o.1,START.o.2,Nat.le_refl _⟩
  case round =>
   obtain ⟨m,hm,rfl,hrow,hb,hz⟩:=hrel
   by_cases hlt:m < ps.length
   ·obtain ⟨b,o,rfl,hbl,hcell⟩:=HP.o (by omega);obtain ⟨e0,e1,e2⟩:=hcell m hlt;have d0:=(hb.cell (p:=⟨b,o+m*3,none⟩) hbl).trans e0;have d1:=(hb.cell (p:=⟨b,o+m*3+1,none⟩) hbl).trans e1;have d2:=(hb.cell (p:=⟨b,o+m*3+2,none⟩) hbl).trans e2;obtain ⟨q0,q1⟩:=OK.o m hlt;obtain ⟨_,aw',cw',ew',_,hcw⟩:=hrow.rd
    cases ew'
    obtain ⟨bw,ow,rfl,hblw,_⟩:=hcw (by omega)
    obtain ⟨rfl,hb1,_,_,hfrw,hclw⟩:=(hrow.alloc hz (.cells #[.int .i64 ps[m].at_,.int .i64 ps[m].val,.bool ps[m].fl] 207)).at
    have hj:ps[m].at_.toNat < (zbk ws (ps.take m)).length:=by rw[zhc];omega
    have g0:=hfrw ps[m].at_.toNat;have g1:=(hclw ps[m].at_.toNat (by omega)).trans (zde _ _ hj)
    have F:Hid (Row ((wr.setCell ⟨bw,ps[m].at_.toNat,none⟩ (.int .i64 ps[m].val)).alloc (.cells #[.int .i64 ps[m].at_,.int .i64 ps[m].val,.bool ps[m].fl] 207)) 3 1 w1.heap.size w2.heap.size (.slice (some ⟨bw,0,none⟩) ws.length cW2) ws.length (zdi (zbk ws (ps.take (m+1))))):=by
     rw[zuh ps m hlt,ztb,← zxp];exact (hrow.stored _ _).alloc (by simp;omega) _
    have G:=zaa ((hb.setCell (p:=⟨bw,ps[m].at_.toNat,none⟩) (by simp only;omega) (.int .i64 ps[m].val)).alloc (by simp;omega) (.cells #[.int .i64 ps[m].at_,.int .i64 ps[m].val,.bool ps[m].fl] 207));clear hrow hcell e0 e1 e2 hcw hfrw hclw;go_wp2
    go_roundw
    case rel=>exact ⟨m+1,by omega,by go_num,F.o,G.o,by simp;omega⟩
    case measure=>simp[intOf];omega
   ·have e:m=ps.length:=by omega
    subst e;have R:=zaa hrow;clear hrow;go_wp2;go_ret2;refine ⟨_,rfl,?_,hb⟩;have:=R.o;rw[List.take_length] at this;rw[zhc];exact this.wide (by omega) hz
 ·have hc':pmB ws ps=false:=by simpa using hc
  clear hc;obtain ⟨e1,e2⟩:=zra hc';rw[e1,e2];clear e1 e2;go_enter Tryz.func192,Tryz.ntmps192;go_wp2_with fail;refine (zcd _ ws ps _ (HR.o.below hb0) hw hp).mono ?_;rintro e w1 ⟨rfl,hb1⟩;have B1:=zaa (zab hb0 hb1 (by simp <;> omega));clear hb0 hb1;go_wp2;go_ret2;exact ⟨_,rfl,Row.nil _ _ _ _ _,B1.o⟩
end Go.Proofs.YtbohndgbfbfldaaGreatDoor
