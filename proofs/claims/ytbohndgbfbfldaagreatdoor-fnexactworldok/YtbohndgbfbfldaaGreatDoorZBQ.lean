/- Several texts laid together: DuA, TrD, DevI. -/
import Derived.Test.YtbohndgbfbfldaaGreatDoorZBN
import Derived.Test.YtbohndgbfbfldaaGreatDoorRdF
import Derived.Test.YtbohndgbfbfldaaGreatDoorZAO
import Derived.Test.YtbohndgbfbfldaaGreatDoorZAY
import Derived.Laws.CopyOwn
import Derived.Laws.Cover3
import Derived.Test.YtbohndgbfbfldaaGreatDoorDev
import Derived.Test.YtbohndgbfbfldaaGreatDoorZAN
set_option maxRecDepth 100000
set_option maxHeartbeats 4000000
namespace Go.Proofs.YtbohndgbfbfldaaGreatDoor
open Go.RowKit
theorem yadd {ws:List Int} {ps:List St} {es:List Int} {qs:List Se} (h:zir es qs=false):dvN ws ps es qs=[]∧dvD ws ps es qs=[]:=(yaac (by rw[h,Bool.and_false])).2
theorem yaef {ws:List Int} {ps:List St} {es:List Int} {qs:List Se} (h:zir es qs=true):dvN ws ps es qs=riN ws ps∧dvD ws ps es qs=riD ws ps:=by
 cases p:pmB ws ps with
 | true=>exact (zvk (by rw[p,h];rfl)).2
 | false =>
  obtain ⟨-,a,b⟩:=zti p;obtain ⟨-,c,d⟩:=yaac (ws:=ws) (ps:=ps) (es:=es) (qs:=qs) (by rw[p];rfl);exact ⟨by rw[a,c],by rw[b,d]⟩
theorem zfr {ws:List Int} {ps:List St} {es:List Int} {qs:List Se} (h:¬ dvB ws ps es qs=true):dvN ws ps es qs=[]∧dvD ws ps es qs=[]:=⟨by unfold dvN;rw[if_neg h],by unfold dvD;rw[if_neg h]⟩
theorem dv_R {ws:List Int} {ps:List St} {es:List Int} {qs:List Se}:∀ k (h:k < (dvN ws ps es qs).length),(dvN ws ps es qs)[k].R:=by
 by_cases c:dvB ws ps es qs=true
 ·obtain ⟨p,-,e,-,-⟩:=zqo c;rw[e];exact zky p 16
 ·rw[(zfr c).1];intro k h
  cases h
theorem yacu {ws:List Int} {ps:List St} {es:List Int} {qs:List Se}:∀ k (h:k < (dvD ws ps es qs).length),(dvD ws ps es qs)[k].name.size≤maxLen:=by
 by_cases c:dvB ws ps es qs=true
 ·obtain ⟨p,-,-,e,-⟩:=zqo c;rw[e];exact zeq _ 24
 ·rw[(zfr c).2];intro k h
  cases h
theorem zzu (ws:List Int) (ps:List St) (es:List Int) (qs:List Se):(dvN ws ps es qs).length≤1048576∧(dvD ws ps es qs).length≤1048576:=by
 by_cases c:dvB ws ps es qs=true
 ·obtain ⟨-,-,e1,e2,-⟩:=zqo c;rw[e1,e2,zba,zaw];omega
 ·rw[(zfr c).1,(zfr c).2];exact ⟨by simp,by simp⟩
theorem zyr:zew [] []=false:=by decide
theorem yade (ws:List Int) (ps:List St) (es:List Int) (qs:List Se):zew (dvN ws ps es qs) (dvD ws ps es qs)=dvB ws ps es qs:=by
 by_cases c:dvB ws ps es qs=true
 ·obtain ⟨-,-,e1,e2,h⟩:=zqo c;rw[e1,e2,h,c]
 ·rw[(zfr c).1,(zfr c).2,zyr];exact ((Bool.not_eq_true _).mp c).symm
theorem zko (v:Value) (ws:List Int) (ps:List St) (es:List Int) (qs:List Se) (w:World) (h:RdDev w v ws ps es qs) (hw:ws.length≤1048576) (hp:ps.length≤1048576) (he:es.length≤1048576) (hq:qs.length≤1048576) (hT:TS w) (hE:ED w) (hF:FD w) :
  Calls Tryz.prog 101 #[v] w fun e w'=>∃ v',e=.returned v'∧RowIm w' w.heap.size w'.heap.size v' (dvN ws ps es qs) (dvD ws ps es qs)∧Below w.heap.size w w':=by
 obtain ⟨aW,cW,aP,cP,aS,cS,aQ,cQ,rfl,h1,h2⟩:=h.form;have LO:=zaa (fun w1 (hb:Below w.heap.size w w1)=>zfh _ es qs w1 (h2.below hb) he hq);have LR:=zaa (fun w1 (hb:Below w.heap.size w w1)=>zfu _ ws ps w1 (h1.below hb) hw hp (hT.below hb) (hE.below hb) (hF.below hb));have NO:=zaa (fun q=>yadd (ws:=ws) (ps:=ps) (es:=es) (qs:=qs) q);have YES:=zaa (fun q=>yaef (ws:=ws) (ps:=ps) (es:=es) (qs:=qs) q);clear h h1 h2 hT hE hF
 obtain ⟨W1,hW1⟩:∃ W1,W1=(w.alloc (.cells #[.slice aW ws.length cW,.slice aP ps.length cP,.slice aS es.length cS,.slice aQ qs.length cQ] 30)).alloc (.cells #[.slice none 0 0,.slice none 0 0] 123):=⟨_,rfl⟩
 have hz1:W1.heap.size=w.heap.size+1+1:=by rw[hW1];simp
 have CA:Hid (∀ w',Below W1.heap.size W1 w'→w'.cell? ⟨w.heap.size,0,none⟩=some (.slice aW ws.length cW)∧w'.cell? ⟨w.heap.size,1,none⟩=some (.slice aP ps.length cP)∧w'.cell? ⟨w.heap.size,2,none⟩=some (.slice aS es.length cS)∧w'.cell? ⟨w.heap.size,3,none⟩=some (.slice aQ qs.length cQ)):=fun w' hb=>by
  have:w'.heap[w.heap.size]?=some (.cells #[.slice aW ws.length cW,.slice aP ps.length cP,.slice aS es.length cS,.slice aQ qs.length cQ] 30 (0,0)):=(hb.block _ (by omega)).trans (by rw[hW1];exact zas (zah rfl));obtain ⟨x0,x1,x2,x3,-,-,-,-⟩:=zav this;exact ⟨x0,x1,x2,x3⟩
 have CR:Hid (∀ w',Below W1.heap.size W1 w'→w'.heap[w.heap.size+1]?=some (.cells #[.slice none 0 0,.slice none 0 0] 123 (0,0))):=fun w' hb=>(hb.block _ (by omega)).trans (by
  rw[hW1];have:=zah (w:=w.alloc (.cells #[.slice aW ws.length cW,.slice aP ps.length cP,.slice aS es.length cS,.slice aQ qs.length cQ] 30)) (o:=.cells #[.slice none 0 0,.slice none 0 0] 123) rfl;rw[World.size_alloc] at this
  exact this)
 have BW:Hid (Below w.heap.size w W1):=by rw[hW1];exact ((Below.refl _ _).alloc (Nat.le_refl _) _).alloc (by simp) _
 have hz0:w.heap.size+1 < W1.heap.size:=by omega
 clear hz1;obtain ⟨x0,x1,x2,x3⟩:=CA.o W1 (Below.refl _ _);generalize riC ws ps=rc at *;generalize riN ws ps=rn at *;generalize riD ws ps=rd at *;generalize dvN ws ps es qs=dn at *;generalize dvD ws ps es qs=dd at *;generalize zir es qs=ok at *;go_enter Tryz.func101,Tryz.ntmps101;go_wp2_with fail;rw[← hW1];clear hW1;refine (LO.o _ BW.o).mono ?_;rintro e w1 ⟨rfl,hb1⟩;have B1:=zaa hb1;have B1w:=zaa (zab BW.o B1.o BW.o.size);clear x0 x1 x2 x3 hb1;obtain ⟨x0,x1,x2,x3⟩:=CA.o w1 B1.o
 cases ok with
 | false =>
  obtain ⟨rfl,rfl⟩:=NO.o rfl;have CB:=zaa (CR.o _ B1.o);obtain ⟨p0,p1,p2,p3⟩:=zae CB.o;have BR:Hid (Below w.heap.size w ((w1.setCell ⟨w.heap.size+1,0,none⟩ (.slice none 0 0)).setCell ⟨w.heap.size+1,1,none⟩ (.slice none 0 0))):=(B1w.o.setCell (by simp only;omega) _).setCell (by simp only;omega) _;clear NO YES;go_wp2;refine bodyPost_ret (v:=.agg #[.slice none 0 0,.slice none 0 0]) (by simp[results,Tryz.results101,go_sem,p0,p1]) rfl ?_;exact ⟨_,rfl,zbo _ _ _,BR.o⟩
 | true =>
  obtain ⟨rfl,rfl⟩:=YES.o rfl;clear NO YES;go_wp2_with fail;refine (LR.o _ B1w.o).mono ?_;rintro e w2 ⟨v2,rfl,⟨vI,vD,rfl,hI,hD⟩,hb2⟩;obtain ⟨-,a1,c1,hv1,-⟩:=hI.rd;obtain ⟨-,a2,c2,hv2,-⟩:=hD.rd;subst hv1;subst hv2;have HI:=zaa hI;have HD:=zaa hD;have B2:=zaa (zel B1.o hb2);have B3:Hid (Below W1.heap.size W1 (w2.alloc (.cells #[.slice a1 dn.length c1,.slice a2 dd.length c2] 123))):=zaj B2.o _;have hz12:W1.heap.size≤w1.heap.size:=B1.o.size;have hz2:w1.heap.size≤w2.heap.size:=hb2.size;have hzw:w.heap.size≤w1.heap.size:=B1w.o.size;clear x0 x1 x2 x3 hb2 hI hD;obtain ⟨y0,y1,_,_⟩:=zae (zah (w:=w2) (o:=.cells #[.slice a1 dn.length c1,.slice a2 dd.length c2] 123) rfl)
  obtain ⟨w3,hw3⟩:∃ w3,w3=w2.alloc (.cells #[.slice a1 dn.length c1,.slice a2 dd.length c2] 123):=⟨_,rfl⟩
  have BC:Hid (Below w2.heap.size w2 w3):=by rw[hw3];exact (Below.refl _ _).alloc (Nat.le_refl _) _
  rw[← hw3] at B3 y0 y1;have HI3:=zaa (HI.o.below BC.o (Nat.le_refl _));have HD3:=zaa (HD.o.below BC.o (Nat.le_refl _));have hz3:w2.heap.size≤w3.heap.size:=BC.o.size;have CB:=zaa (CR.o _ B3.o);obtain ⟨p0,p1,p2,p3⟩:=zae CB.o;have BR:Hid (Below w.heap.size w ((w3.setCell ⟨w.heap.size+1,0,none⟩ (.slice a1 dn.length c1)).setCell ⟨w.heap.size+1,1,none⟩ (.slice a2 dd.length c2))):=((zab BW.o B3.o BW.o.size).setCell (by simp only;omega) _).setCell (by simp only;omega) _;have RF:=zaa (zfs (ztf HI3.o HD3.o CB.o (.slice a1 dn.length c1) (.slice a2 dd.length c2)) (lo':=w.heap.size) (hi':=((w3.setCell ⟨w.heap.size+1,0,none⟩ (.slice a1 dn.length c1)).setCell ⟨w.heap.size+1,1,none⟩ (.slice a2 dd.length c2)).heap.size) (by omega) (by simp;omega));clear CB HI HD HI3 HD3 BC B3 B2 LR LO CA CR;subst hw3;go_wp2;refine bodyPost_ret (v:=.agg #[.slice a1 dn.length c1,.slice a2 dd.length c2]) (by simp[results,Tryz.results101,go_sem,p0,p1]) rfl ?_;exact ⟨_,rfl,RF.o,BR.o⟩
def isH (n:Int):Bool:=decide (0≤n∧n < 65)
def zjx (zs:List Int):Bool:=decide (∀ k (h:k < zs.length),isH zs[k]=true)
theorem zuo {zs:List Int} (h:∀ k (h:k < zs.length),isH zs[k]=true):zjx zs=true:=decide_eq_true h
theorem zrq {zs:List Int} {k:Nat} (hk:k < zs.length) (h:isH zs[k]=false):zjx zs=false:=decide_eq_false (fun x=>by have:=x k hk;rw[h] at this;cases this)
theorem zsd {hs:List Int}:zgu hs=(decide (hs.length=128) && zjx hs):=by
 unfold zgu zjx isH;rw[Bool.eq_iff_iff,Bool.and_eq_true];simp only[decide_eq_true_eq];constructor
 ·exact fun h=>⟨h.1,fun k hk=>⟨(h.2 k hk).1,by have:=(h.2 k hk).2;omega⟩⟩
 ·exact fun h=>⟨h.1,fun k hk=>⟨(h.2 k hk).1,by have:=(h.2 k hk).2;omega⟩⟩
theorem zjt (n:Int) (w:World):Calls Tryz.prog 138 #[.int .i64 n] w fun e w'=>e=.returned (.bool (isH n))∧w'=w:=by
 by_cases h:0≤n∧n < 65
 ·have e:isH n=true:=decide_eq_true h;rw[e];clear e;go_enter Tryz.func138,Tryz.ntmps138;go_wp2_with fail;refine (zam _ _ _ h).mono ?_;rintro e w' ⟨rfl,hw'⟩;subst w';go_wp2;go_ret;exact ⟨rfl,rfl⟩
 ·have e:isH n=false:=decide_eq_false h;rw[e];clear e;go_enter Tryz.func138,Tryz.ntmps138;go_wp2_with fail;refine (zar _ _ _ h).mono ?_;rintro e w' ⟨rfl,hw'⟩;subst w';go_wp2;go_ret;exact ⟨rfl,rfl⟩
theorem zkp (v:Value) (zs:List Int) (w:World) (h:RdI w v zs) (hn:zs.length≤2147483648) :
  Calls Tryz.prog 137 #[v,.func (.func 138) #[] #[]] w fun e w'=>e=.returned (.bool (zjx zs))∧w'=w:=by
 obtain ⟨ao,cap,rfl,_,hc⟩:=h.shape;clear h;go_enter Tryz.func137,Tryz.ntmps137;go_wp2
 go_loop [6,9] (fun _ i=>∃ k:Nat,k≤zs.length∧i=.int .i64 k∧Hid (∀ j (h:j < zs.length),j < k→isH zs[j]=true)) (fun _ i=>zs.length - (intOf i).toNat)
 case atStart=>exact ⟨0,by omega,rfl,fun j h a=>absurd a (by omega)⟩
 case round =>
  obtain ⟨k,hk,rfl,H⟩:=hrel
  by_cases hlt:k < zs.length
  ·obtain ⟨b,o,rfl,hbl,hcell⟩:=hc (by omega);have hck:=hcell k hlt;clear hcell hc
   by_cases q:isH zs[k]=true
   ·go_wp2_with (go_at_call 138;refine (zjt _ _).mono ?_;rintro e w' ⟨rfl,rfl⟩)
    go_round
    case rel =>
     refine ⟨k+1,by omega,by go_num,fun j h a=>?_⟩
     by_cases e:j=k
     ·subst e;exact q
     ·exact H.o j h (by omega)
    case measure=>simp[intOf];omega
   ·have q':isH zs[k]=false:=by simpa using q
    have E:=zaa (zrq hlt q');go_wp2_with (go_at_call 138;refine (zjt _ _).mono ?_;rintro e w' ⟨rfl,rfl⟩);go_ret;exact ⟨zac E.o.symm,rfl⟩
  ·have E:=zaa (zuo (fun j h=>H.o j h (by omega)));clear H;go_wp2;go_ret;exact ⟨zac E.o.symm,rfl⟩
theorem ziw (v:Value) (hs:List Int) (w:World) (h:RdI w v hs) (hn:hs.length≤1048576):Calls Tryz.prog 88 #[v] w fun e w'=>e=.returned (.bool (zgu hs))∧w'=w:=by
 have LE:=zaa (zkp v hs w h (by omega));obtain ⟨ao,cap,rfl,-,-⟩:=h.shape;rw[zsd];clear h;generalize zjx hs=b at *
 by_cases c:hs.length=128
 ·rw[decide_eq_true c,Bool.true_and]
  have q:((hs.length:Int) == 128)=true:=by rw[beq_iff_eq];omega
  clear c;go_enter Tryz.func88,Tryz.ntmps88;go_wp2_with fail;refine LE.o.mono ?_;rintro e w' ⟨rfl,hw'⟩;subst w';go_wp2;go_ret;exact ⟨rfl,rfl⟩
 ·rw[decide_eq_false c,Bool.false_and]
  have q:((hs.length:Int) == 128)=false:=by rw[beq_eq_false_iff_ne];omega
  clear c LE;go_enter Tryz.func88,Tryz.ntmps88;go_wp2;go_ret;exact ⟨rfl,rfl⟩
@[go_sem] theorem yadx (a:Option Addr) (l c:Nat) (w:World):(binOp .eql 22 (.slice a l c) (.slice none 0 0)).run Tryz.prog w=.ok (.bool a.isNone) w:=by
 simp only[binOp];simp[run_equal_slice_nil w 22 3 a l c Tryz.underlying22]
theorem zfq (v:Value) (ws:List Int) (ps:List St) (es:List Int) (qs:List Se) (w:World) (h:RdDev w v ws ps es qs) (hw:ws.length≤1048576) (hp:ps.length≤1048576) (he:es.length≤1048576) (hq:qs.length≤1048576) :
  Calls Tryz.prog 87 #[v] w fun e w'=>e=.returned (.bool (pmB ws ps && zir es qs))∧Below w.heap.size w w':=by
 obtain ⟨aW,cW,aP,cP,aS,cS,aQ,cQ,rfl,h1,h2⟩:=h.form;have H1:=zaa h1;have H2:=zaa h2;clear h h1 h2;have hb0:Below w.heap.size w (w.alloc (.cells #[.slice aW ws.length cW,.slice aP ps.length cP,.slice aS es.length cS,.slice aQ qs.length cQ] 30)):=(Below.refl _ _).alloc (Nat.le_refl _) _
 by_cases c:pmB ws ps=true
 ·have C:=zaa c;rw[c];clear c;go_enter Tryz.func87,Tryz.ntmps87;go_wp2_with fail;refine (zcd _ ws ps _ (H1.o.below hb0) hw hp).mono ?_;rw[C.o];rintro e w1 ⟨rfl,hb1⟩;obtain ⟨x0,x1,x2,x3,-,-,-,-⟩:=zav ((hb1.block w.heap.size (by simp)).trans (zah rfl));have B1:=zaa (zab hb0 hb1 (by simp));clear hb0 hb1;go_wp2_with fail;refine (zfh _ es qs _ (H2.o.below B1.o) he hq).mono ?_;rintro e w2 ⟨rfl,hb2⟩;have B2:=zaa (zab B1.o hb2 B1.o.size);clear hb2;go_wp2;go_ret;exact ⟨rfl,B2.o⟩
 ·have c':pmB ws ps=false:=by simpa using c
  have C:=zaa c';rw[c'];clear c c';go_enter Tryz.func87,Tryz.ntmps87;go_wp2_with fail;refine (zcd _ ws ps _ (H1.o.below hb0) hw hp).mono ?_;rw[C.o];rintro e w1 ⟨rfl,hb1⟩;have B1:=zaa (zab hb0 hb1 (by simp));clear hb0 hb1;go_wp2;go_ret;exact ⟨rfl,B1.o⟩
end Go.Proofs.YtbohndgbfbfldaaGreatDoor
