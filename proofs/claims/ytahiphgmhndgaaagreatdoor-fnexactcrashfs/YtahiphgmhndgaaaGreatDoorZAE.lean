/- Several texts laid together: Ev, PmOKI, PmLoad, Small, PmOwn, PmCopy. -/
import Derived.Test.YtahiphgmhndgaaaGreatDoorZAD
import Derived.Test.YtahiphgmhndgaaaGreatDoorZAC
import Derived.Deep.RegionLaw
set_option maxHeartbeats 4000000
namespace Go.Proofs.YtahiphgmhndgaaaGreatDoor
open Go.RowKit
def zto (n:Int):Bool:=decide (0≤n∧n≤400)
theorem yafb {zs:List Int} (h:∀ k (h:k < zs.length),zto zs[k]=true):zaw zs=true:=zyi (fun k hk=>of_decide_eq_true (h k hk))
theorem yabl {zs:List Int} {k:Nat} (hk:k < zs.length) (h:zto zs[k]=false):zaw zs=false:=ztf hk (of_decide_eq_false h)
def zqk (zs:List Int):Bool:=decide (∀ k (h:k < zs.length),zbk zs[k]=true)
theorem yaft {zs:List Int} (h:∀ k (h:k < zs.length),zbk zs[k]=true):zqk zs=true:=decide_eq_true h
theorem yabq {zs:List Int} {k:Nat} (hk:k < zs.length) (h:zbk zs[k]=false):zqk zs=false:=decide_eq_false (fun x=>by have:=x k hk;rw[h] at this;cases this)
theorem zsp (n:Int) (w:World):Calls Tryz.prog 132 #[.int .i64 n] w fun e w'=>e=.returned (.bool (zto n))∧w'=w:=by
 by_cases h0:0≤n
 ·by_cases h1:n≤400
  ·have e:zto n=true:=decide_eq_true ⟨h0,h1⟩;rw[e];clear e;go_enter Tryz.func132,Tryz.ntmps132;go_wp2;go_ret;exact ⟨rfl,rfl⟩
  ·have e:zto n=false:=decide_eq_false (fun h=>h1 h.2);rw[e];clear e;go_enter Tryz.func132,Tryz.ntmps132;go_wp2;go_ret;exact ⟨rfl,rfl⟩
 ·have e:zto n=false:=decide_eq_false (fun h=>h0 h.1);rw[e];clear e;go_enter Tryz.func132,Tryz.ntmps132;go_wp2;go_ret;exact ⟨rfl,rfl⟩
theorem zdf (v:Value) (zs:List Int) (w:World) (h:RdI w v zs) (hn:zs.length≤2147483648) :
  Calls Tryz.prog 131 #[v,.func (.func 166) #[] #[]] w fun e w'=>e=.returned (.bool (zjd zs))∧w'=w:=by
 obtain ⟨ao,cap,rfl,_,hc⟩:=h.shape;clear h;go_enter Tryz.func131,Tryz.ntmps131;go_wp2
 go_loop [6,9] (fun _ i=>∃ k:Nat,k≤zs.length∧i=.int .i64 k∧Hid (∀ j (h:j < zs.length),j < k→zao zs[j]=true)) (fun _ i=>zs.length - (intOf i).toNat)
 case atStart=>exact ⟨0,by omega,rfl,fun j h a=>absurd a (by omega)⟩
 case round =>
  obtain ⟨k,hk,rfl,H⟩:=hrel
  by_cases hlt:k < zs.length
  ·obtain ⟨b,o,rfl,hbl,hcell⟩:=hc (by omega);have hck:=hcell k hlt;clear hcell hc
   by_cases q:zao zs[k]=true
   ·go_wp2_with (go_at_call 166;refine (zcm _ _).mono ?_;rintro e w' ⟨rfl,rfl⟩)
    go_round
    case rel =>
     refine ⟨k+1,by omega,by go_num,fun j h a=>?_⟩
     by_cases e:j=k
     ·subst e;exact q
     ·exact H.o j h (by omega)
    case measure=>simp[intOf];omega
   ·have q':zao zs[k]=false:=by simpa using q
    have E:=zaa (yags hlt q');go_wp2_with (go_at_call 166;refine (zcm _ _).mono ?_;rintro e w' ⟨rfl,rfl⟩);go_ret;exact ⟨zae E.o.symm,rfl⟩
  ·have E:=zaa (zyj (fun j h=>H.o j h (by omega)));clear H;go_wp2;go_ret;exact ⟨zae E.o.symm,rfl⟩
theorem zdz (v:Value) (zs:List Int) (w:World) (h:RdI w v zs) (hn:zs.length≤2147483648) :
  Calls Tryz.prog 131 #[v,.func (.func 132) #[] #[]] w fun e w'=>e=.returned (.bool (zaw zs))∧w'=w:=by
 obtain ⟨ao,cap,rfl,_,hc⟩:=h.shape;clear h;go_enter Tryz.func131,Tryz.ntmps131;go_wp2
 go_loop [6,9] (fun _ i=>∃ k:Nat,k≤zs.length∧i=.int .i64 k∧Hid (∀ j (h:j < zs.length),j < k→zto zs[j]=true)) (fun _ i=>zs.length - (intOf i).toNat)
 case atStart=>exact ⟨0,by omega,rfl,fun j h a=>absurd a (by omega)⟩
 case round =>
  obtain ⟨k,hk,rfl,H⟩:=hrel
  by_cases hlt:k < zs.length
  ·obtain ⟨b,o,rfl,hbl,hcell⟩:=hc (by omega);have hck:=hcell k hlt;clear hcell hc
   by_cases q:zto zs[k]=true
   ·go_wp2_with (go_at_call 132;refine (zsp _ _).mono ?_;rintro e w' ⟨rfl,rfl⟩)
    go_round
    case rel =>
     refine ⟨k+1,by omega,by go_num,fun j h a=>?_⟩
     by_cases e:j=k
     ·subst e;exact q
     ·exact H.o j h (by omega)
    case measure=>simp[intOf];omega
   ·have q':zto zs[k]=false:=by simpa using q
    have E:=zaa (yabl hlt q');go_wp2_with (go_at_call 132;refine (zsp _ _).mono ?_;rintro e w' ⟨rfl,rfl⟩);go_ret;exact ⟨zae E.o.symm,rfl⟩
  ·have E:=zaa (yafb (fun j h=>H.o j h (by omega)));clear H;go_wp2;go_ret;exact ⟨zae E.o.symm,rfl⟩
theorem zjc (v:Value) (zs:List Int) (w:World) (h:RdI w v zs) (hn:zs.length≤2147483648) :
  Calls Tryz.prog 131 #[v,.func (.func 171) #[] #[]] w fun e w'=>e=.returned (.bool (zqk zs))∧w'=w:=by
 obtain ⟨ao,cap,rfl,_,hc⟩:=h.shape;clear h;go_enter Tryz.func131,Tryz.ntmps131;go_wp2
 go_loop [6,9] (fun _ i=>∃ k:Nat,k≤zs.length∧i=.int .i64 k∧Hid (∀ j (h:j < zs.length),j < k→zbk zs[j]=true)) (fun _ i=>zs.length - (intOf i).toNat)
 case atStart=>exact ⟨0,by omega,rfl,fun j h a=>absurd a (by omega)⟩
 case round =>
  obtain ⟨k,hk,rfl,H⟩:=hrel
  by_cases hlt:k < zs.length
  ·obtain ⟨b,o,rfl,hbl,hcell⟩:=hc (by omega);have hck:=hcell k hlt;clear hcell hc
   by_cases q:zbk zs[k]=true
   ·go_wp2_with (go_at_call 171;refine (zcs _ _).mono ?_;rintro e w' ⟨rfl,rfl⟩)
    go_round
    case rel =>
     refine ⟨k+1,by omega,by go_num,fun j h a=>?_⟩
     by_cases e:j=k
     ·subst e;exact q
     ·exact H.o j h (by omega)
    case measure=>simp[intOf];omega
   ·have q':zbk zs[k]=false:=by simpa using q
    have E:=zaa (yabq hlt q');go_wp2_with (go_at_call 171;refine (zcs _ _).mono ?_;rintro e w' ⟨rfl,rfl⟩);go_ret;exact ⟨zae E.o.symm,rfl⟩
  ·have E:=zaa (yaft (fun j h=>H.o j h (by omega)));clear H;go_wp2;go_ret;exact ⟨zae E.o.symm,rfl⟩
def stB (s:St):Bool:=zbk s.at_ && zao s.val
theorem yans {s:St} (h:stB s=true):zbk s.at_=true∧zao s.val=true:=by unfold stB at h;simpa using h
theorem yaif {s:St} {p:Prop} (h:stB s=false) (h1:zbk s.at_=false→p) (h2:zao s.val=false→p):p:=by
 unfold stB at h;rw[Bool.and_eq_false_iff] at h;exact h.elim h1 h2
def stsB (ps:List St):Bool:=decide (∀ k (h:k < ps.length),stB ps[k]=true)
theorem yaiw {ps:List St} (h:stsB ps=true):∀ k (h:k < ps.length),stB ps[k]=true:=of_decide_eq_true h
theorem yale {ps:List St} (h:∀ k (h:k < ps.length),stB ps[k]=true):stsB ps=true:=decide_eq_true h
theorem yaqe {ps:List St} {k:Nat} (hk:k < ps.length) (h:stB ps[k]=false):stsB ps=false:=decide_eq_false (fun x=>by have:=x k hk;rw[h] at this;cases this)
theorem yatn {ps:List St} (h:stsB ps=false):∃ k,∃ h:k < ps.length,stB ps[k]=false:=by
 apply Classical.byContradiction;intro hn
 have:stsB ps=true:=yale (fun k hk=>by
  cases e:stB ps[k] with
  | true=>rfl
  | false=>exact absurd ⟨k,hk,e⟩ hn)
 rw[h] at this
 cases this
theorem zos (s:St) (w:World):Calls Tryz.prog 168 #[.agg #[.int .i64 s.at_,.int .i64 s.val,.bool s.fl]] w fun e w'=>e=.returned (.bool (stB s))∧Below w.heap.size w w':=by
 have hb0:Below w.heap.size w (w.alloc (.cells #[.int .i64 s.at_,.int .i64 s.val,.bool s.fl] 147)):=(Below.refl _ _).alloc (Nat.le_refl _) _
 by_cases q:zbk s.at_=true
 ·have E:=zaa (show stB s=zao s.val by unfold stB;rw[q];rfl);have Q:=zaa q;clear q;go_enter Tryz.func168,Tryz.ntmps168;go_wp2_with (first | (go_at_call 171;refine (zcs _ _).mono ?_;rw[Q.o];rintro e w' ⟨rfl,rfl⟩) | (go_at_call 166;refine (zcm _ _).mono ?_;rintro e w' ⟨rfl,rfl⟩));go_ret;exact ⟨zae E.o.symm,hb0⟩
 ·have q':zbk s.at_=false:=by simpa using q
  have E:=zaa (show stB s=false by unfold stB;rw[q'];rfl);have Q:=zaa q';clear q q';go_enter Tryz.func168,Tryz.ntmps168;go_wp2_with (go_at_call 171;refine (zcs _ _).mono ?_;rw[Q.o];rintro e w' ⟨rfl,rfl⟩);go_ret;exact ⟨zae E.o.symm,hb0⟩
theorem zjg (v:Value) (ps:List St) (w:World) (h:RdS w v ps) (hn:ps.length≤1048576) :
  Calls Tryz.prog 167 #[v,.func (.func 168) #[] #[]] w fun e w'=>e=.returned (.bool (stsB ps))∧Below w.heap.size w w':=by
 obtain ⟨aP,cP,rfl,_,hcP⟩:=h.shape;clear h;go_enter Tryz.func167,Tryz.ntmps167;go_wp2
 go_loopw [6,9] (fun _ i wr=>∃ k:Nat,k≤ps.length∧i=.int .i64 k∧Hid (∀ j (h:j < ps.length),j < k→stB ps[j]=true)∧Below w.heap.size w wr) (fun _ i _=>ps.length - (intOf i).toNat)
 case atStart=>exact ⟨0,by omega,rfl,fun j h a=>absurd a (by omega),Below.refl _ _⟩
 case round =>
  obtain ⟨m,hm,rfl,H,hbw⟩:=hrel;have hz:=hbw.size
  by_cases hlt2:m < ps.length
  ·obtain ⟨b2,o2,rfl,hbl2,hcell2⟩:=hcP (by omega);obtain ⟨d0,d1,d2⟩:=hcell2 m hlt2;have e0:=(hbw.cell (p:=⟨b2,o2+m*3,none⟩) hbl2).trans d0;have e1:=(hbw.cell (p:=⟨b2,o2+m*3+1,none⟩) hbl2).trans d1;have e2:=(hbw.cell (p:=⟨b2,o2+m*3+2,none⟩) hbl2).trans d2;have hb1:=zaa (hbw.alloc hz (.cells #[.int .i64 ps[m].at_,.int .i64 ps[m].val,.bool ps[m].fl] 147));clear d0 d1 d2 hcell2 hcP
   by_cases q:stB ps[m]=true
   ·have Q:=zaa q;clear q;go_wp2_with (go_at_call 168;refine (zos ps[m] _).mono ?_;rw[Q.o];rintro e w' ⟨rfl,hw'⟩);have hw2:=hb1.o.trans (hw'.mono (by simp;omega));clear hb1 hw'
    go_roundw
    case rel =>
     refine ⟨m+1,by omega,by go_num,fun j h a=>?_,hw2⟩
     by_cases e:j=m
     ·subst e;exact Q.o
     ·exact H.o j h (by omega)
    case measure=>simp[intOf];omega
   ·have Q:=zaa (show stB ps[m]=false by simpa using q);have E:=zaa (yaqe hlt2 Q.o);clear q;go_wp2_with (go_at_call 168;refine (zos ps[m] _).mono ?_;rw[Q.o];rintro e w' ⟨rfl,hw'⟩);have hw2:=hb1.o.trans (hw'.mono (by simp;omega));go_ret;exact ⟨zae E.o.symm,hw2⟩
  ·have E:=zaa (yale (fun j h=>H.o j h (by omega)));go_wp2;go_ret;exact ⟨zae E.o.symm,hbw⟩
theorem zba (v:Value) (ws:List Int) (ps:List St) (w:World) (h:RdPm w v ws ps) (hw:ws.length≤1048576) (hp:ps.length≤1048576) :
  Calls Tryz.prog 137 #[v] w fun e w'=>e=.returned (.bool (pmB ws ps))∧Below w.heap.size w w':=by
 obtain ⟨vW,vP,rfl,h1,h2⟩:=h;obtain ⟨aW,cW,rfl,_,hcW⟩:=h1.shape;obtain ⟨aP,cP,rfl,_,hcP⟩:=h2.shape;have H1:=zaa h1;have H2:=zaa h2;clear h1 h2 hcW hcP;have hb0:Below w.heap.size w (w.alloc (.cells #[.slice aW ws.length cW,.slice aP ps.length cP] 40)):=(Below.refl _ _).alloc (Nat.le_refl _) _;have HB:=zaa hb0
 by_cases c1:ws.length=336
 case neg =>
  have E:=zaa (yaee (ps:=ps) c1)
  have c1':((ws.length:Int) == 336)=false:=by rw[beq_eq_false_iff_ne];omega
  clear c1;go_enter Tryz.func137,Tryz.ntmps137;go_wp2;go_ret;exact ⟨zae E.o.symm,HB.o⟩
 have c1n:((ws.length:Int) == 336)=true:=by simp;omega
 have C1:=zaa c1;clear c1
 by_cases c2:400 < ps.length
 ·have E:=zaa (yadr (ws:=ws) c2)
  have c2':decide ((ps.length:Int)≤400)=false:=by simp;omega
  go_enter Tryz.func137,Tryz.ntmps137;go_wp2;go_ret;exact ⟨zae E.o.symm,HB.o⟩
 by_cases c3:zjd ws=true
 case neg =>
  have c3':zjd ws=false:=by simpa using c3
  obtain ⟨k,hk,hkf⟩:=zym c3';have E:=zaa (yavm (ps:=ps) hk hkf);have W0:=zaa c3';clear c3 c3' hkf hk;go_enter Tryz.func137,Tryz.ntmps137;go_wp2_with (go_at_call 131;refine (zdf _ ws _ (Rd.below H1.o HB.o) (by omega)).mono ?_;rw[W0.o];rintro e w' ⟨rfl,rfl⟩);go_ret;exact ⟨zae E.o.symm,HB.o⟩
 have HW:=zaa (zpm c3);have W1:=zaa c3;clear c3
 cases c4:stsB ps with
 | true =>
  have E:=zaa (yaly C1.o (by omega) HW.o (fun j h=>yans (yaiw c4 j h)));have W2:=zaa c4;clear c4;go_enter Tryz.func137,Tryz.ntmps137;go_wp2_with (first | (go_at_call 131;refine (zdf _ ws _ (Rd.below H1.o HB.o) (by omega)).mono ?_;rw[W1.o];rintro e w' ⟨rfl,rfl⟩) | (go_at_call 167;refine (zjg _ ps _ (Rd.below H2.o HB.o) (by omega)).mono ?_;rw[W2.o];rintro e w' ⟨rfl,hw'⟩));go_ret;exact ⟨zae E.o.symm,HB.o.trans (hw'.mono (by simp))⟩
 | false =>
  obtain ⟨k,hk,hkf⟩:=yatn c4;have E:=zaa (show pmB ws ps=false from yaif hkf (yauu (ws:=ws) hk) (yavn (ws:=ws) hk));have W2:=zaa c4;clear c4 hk hkf;go_enter Tryz.func137,Tryz.ntmps137;go_wp2_with (first | (go_at_call 131;refine (zdf _ ws _ (Rd.below H1.o HB.o) (by omega)).mono ?_;rw[W1.o];rintro e w' ⟨rfl,rfl⟩) | (go_at_call 167;refine (zjg _ ps _ (Rd.below H2.o HB.o) (by omega)).mono ?_;rw[W2.o];rintro e w' ⟨rfl,hw'⟩));go_ret;exact ⟨zae E.o.symm,HB.o.trans (hw'.mono (by simp))⟩
def zjw (ws:List Int) (ps:List St) (at_:Int):Int:=if pmB ws ps=false then 1 else if zbk at_=false then 14 else 0
theorem yach {ws:List Int} {ps:List St} {at_:Int} (h:pmB ws ps=false):zjw ws ps at_=1:=by unfold zjw;rw[if_pos h]
theorem zsk {ws:List Int} {ps:List St} {at_:Int} (h:pmB ws ps=true) (h2:zbk at_=false):zjw ws ps at_=14:=by unfold zjw;rw[if_neg (by rw[h];simp),if_pos h2]
theorem zui {ws:List Int} {ps:List St} {at_:Int} (h:pmB ws ps=true) (h2:zbk at_=true):zjw ws ps at_=0:=by unfold zjw;rw[if_neg (by rw[h];simp),if_neg (by rw[h2];simp)]
theorem zcx (v:Value) (ws:List Int) (ps:List St) (at_:Int) (w:World) (h:RdPm w v ws ps) (hw:ws.length≤1048576) (hp:ps.length≤1048576) :
  Calls Tryz.prog 176 #[v,.int .i64 at_] w fun e w'=>e=.returned (.int .i64 (zjw ws ps at_))∧Below w.heap.size w w':=by
 have HR:=zaa h;obtain ⟨vW,vP,rfl,h1,h2⟩:=h;obtain ⟨aW,cW,rfl,_⟩:=h1.shape;obtain ⟨aP,cP,rfl,_⟩:=h2.shape;clear h1 h2;have hb0:Below w.heap.size w (w.alloc (.cells #[.slice aW ws.length cW,.slice aP ps.length cP] 40)):=(Below.refl _ _).alloc (Nat.le_refl _) _
 by_cases c1:pmB ws ps=true
 ·by_cases c2:zbk at_=true
  ·rw[zui c1 c2];go_enter Tryz.func176,Tryz.ntmps176;go_wp2_with (first | (go_at_call 137;refine (zba _ ws ps _ (HR.o.below hb0) hw hp).mono ?_;rintro e w1 ⟨rfl,hb1⟩) | (go_at_call 171;refine (zcs _ _).mono ?_;rintro e w2 ⟨rfl,rfl⟩));go_ret;exact ⟨rfl,zab hb0 hb1 (by simp)⟩
  ·have c2':zbk at_=false:=by simpa using c2
   rw[zsk c1 c2'];clear c2;go_enter Tryz.func176,Tryz.ntmps176;go_wp2_with (first | (go_at_call 137;refine (zba _ ws ps _ (HR.o.below hb0) hw hp).mono ?_;rintro e w1 ⟨rfl,hb1⟩) | (go_at_call 171;refine (zcs _ _).mono ?_;rintro e w2 ⟨rfl,rfl⟩));go_ret;exact ⟨rfl,zab hb0 hb1 (by simp)⟩
 ·have c1':pmB ws ps=false:=by simpa using c1
  rw[yach c1'];clear c1;go_enter Tryz.func176,Tryz.ntmps176;go_wp2_with (first | (go_at_call 137;refine (zba _ ws ps _ (HR.o.below hb0) hw hp).mono ?_;rintro e w1 ⟨rfl,hb1⟩) | (go_at_call 171;refine (zcs _ _).mono ?_;rintro e w2 ⟨rfl,rfl⟩));go_ret;exact ⟨rfl,zab hb0 hb1 (by simp)⟩
def ziv (at_ d:Int) (ps:List St):Int:=ps.foldl (fun acc p=>if p.at_=at_ then p.val else acc) d
theorem zlo {at_ d:Int}:∀ {ps:List St},(∀ p∈ps,¬ p.at_=at_)→ziv at_ d ps=d
 | [],_=>rfl
 | p :: ps,h=>by
  show ziv at_ (if p.at_=at_ then p.val else d) ps=d
  rw[if_neg (h p (by simp))];exact zlo (fun q hq=>h q (by simp[hq]))
theorem zzc (at_ d:Int) (ps qs:List St):ziv at_ d (ps ++ qs)=ziv at_ (ziv at_ d ps) qs:=by simp[ziv]
theorem yakz {at_ d:Int} {ps:List St} {k:Nat} (hk:k < ps.length) (h:ps[k].at_=at_) (ha:∀ j (hj:j < ps.length),k < j→¬ ps[j].at_=at_):ziv at_ d ps=ps[k].val:=by
 have e:ps=ps.take k ++ (ps[k] :: ps.drop (k+1)):=by rw[← List.drop_eq_getElem_cons hk,List.take_append_drop]
 conv=>lhs;rw[e]
 rw[zzc]
 show ziv at_ (if ps[k].at_=at_ then ps[k].val else _) (ps.drop (k+1))=_
 rw[if_pos h];apply zlo;intro p hp;obtain ⟨i,hi,rfl⟩:=List.getElem_of_mem hp;rw[List.getElem_drop];exact ha _ _ (by omega)
theorem zji (v:Value) (ws:List Int) (ps:List St) (at_:Nat) (w:World) (h:RdPm w v ws ps) (hw:ws.length≤1048576) (hp:ps.length≤1048576) (ha:at_ < ws.length) :
  Calls Tryz.prog 110 #[v,.int .i64 (at_:Int)] w fun e w'=>e=.returned (.int .i64 (ziv (at_:Int) ws[at_] ps))∧Below w.heap.size w w':=by
 obtain ⟨vW,vP,rfl,h1,h2⟩:=h;obtain ⟨aW,cW,rfl,_,hcW⟩:=h1.shape;obtain ⟨aP,cP,rfl,_,hcP⟩:=h2.shape;clear h1 h2;obtain ⟨bW,oW,rfl,hbW,hcellW⟩:=hcW (by omega);have hb0:Below w.heap.size w (w.alloc (.cells #[.slice (some ⟨bW,oW,none⟩) ws.length cW,.slice aP ps.length cP] 40)):=(Below.refl _ _).alloc (Nat.le_refl _) _;have hcw:=(hb0.cell (p:=⟨bW,oW+at_,none⟩) hbW).trans (hcellW at_ ha);clear hcW hcellW;go_enter Tryz.func110,Tryz.ntmps110;go_wp2
 go_loop [5] (fun i=>∃ k:Nat,k≤ps.length∧i=.int .i64 ((k:Int) - 1)∧Hid (∀ j (h:j < ps.length),k≤j→¬ ps[j].at_=(at_:Int))) (fun i=>(intOf i+1).toNat)
 case atStart=>exact ⟨ps.length,Nat.le_refl _,rfl,fun j h a=>absurd h (by omega)⟩
 case round =>
  obtain ⟨k,hk,rfl,H⟩:=hrel
  cases k with
  | zero =>
   have E:=zaa (zlo (d:=ws[at_]) (fun p hp=>by obtain ⟨i,hi,rfl⟩:=List.getElem_of_mem hp;exact H.o i hi (by omega)));clear H hcP;go_wp2;go_ret;exact ⟨zhn E.o.symm,hb0⟩
  | succ m =>
   have em:(((m+1:Nat):Int) - 1)=(m:Int):=by omega
   rw[em];clear em;obtain ⟨b,o,rfl,hbl,hcell⟩:=hcP (by omega);obtain ⟨d0,d1,_⟩:=hcell m (by omega);have e0:=(hb0.cell (p:=⟨b,o+m*3,none⟩) hbl).trans d0;have e1:=(hb0.cell (p:=⟨b,o+m*3+1,none⟩) hbl).trans d1;clear d0 d1 hcell hcP
   have hm:m < ps.length:=by omega
   by_cases c:ps[m].at_=(at_:Int)
   ·have c':(ps[m].at_ == (at_:Int))=true:=by simpa using c
    have E:=zaa (yakz (d:=ws[at_]) hm c (fun j hj hlt=>H.o j hj (by omega)));clear H c;go_wp2;go_ret;exact ⟨zhn E.o.symm,hb0⟩
   ·have c':(ps[m].at_ == (at_:Int))=false:=by simpa using c
    have C:=zaa c;clear c;go_wp2
    go_round
    case rel =>
     refine ⟨m,by omega,by go_num,fun j hj hle=>?_⟩
     by_cases e:j=m
     ·subst e;exact C.o
     ·exact H.o j hj (by omega)
    case measure=>simp[intOf] <;> omega
theorem ztc (ws:List Int) (ps:List St) (at_:Int):(zjw ws ps at_=1∨zjw ws ps at_=14)∨(zjw ws ps at_=0∧pmB ws ps=true∧∃ k:Nat,at_=(k:Int)∧k < 336∧k < ws.length):=by
 by_cases c1:pmB ws ps=true
 ·by_cases c2:zbk at_=true
  ·have:=zfq c2;have hl:=(zbz c1).1;exact .inr ⟨zui c1 c2,c1,at_.toNat,by omega,by omega,by omega⟩
  ·exact .inl (.inr (zsk c1 (by simpa using c2)))
 ·exact .inl (.inl (yach (by simpa using c1)))
theorem ztq (ps:List St):∀ u∈sts ps,u.oneCell'=true:=by
 intro u hu;simp only[sts,List.mem_flatMap,St.cells] at hu;obtain ⟨s,_,hs⟩:=hu;simp at hs
 rcases hs with rfl | rfl | rfl <;> rfl
theorem RowPm.setCell {w:World} {lo hi:Nat} {v:Value} {ws:List Int} {ps:List St} (h:RowPm w lo hi v ws ps) {a:Addr} (ha:a.block < lo) (u:Value):RowPm (w.setCell a u) lo hi v ws ps:=by
 obtain ⟨vW,vP,rfl,h1,h2⟩:=h;exact ⟨vW,vP,rfl,h1.same (fun b hb _=>Below.heap_setCell _ _ _ _ (by omega)),h2.same (fun b hb _=>Below.heap_setCell _ _ _ _ (by omega))⟩
theorem RowPm.alloc {w:World} {lo hi:Nat} {v:Value} {ws:List Int} {ps:List St} (h:RowPm w lo hi v ws ps) (hi1:hi≤w.heap.size) (o:Obj):RowPm (w.alloc o) lo hi v ws ps :=
 h.below ((Below.refl _ _).alloc (Nat.le_refl _) o) hi1
theorem RowPm.zero (w:World) (lo hi:Nat):RowPm w lo hi (.agg #[.slice none 0 0,.slice none 0 0]) [] []:=⟨_,_,rfl,Row.nil _ _ _ _ _,Row.nil _ _ _ _ _⟩
theorem zod (ps:List St) (s:St):sts (ps ++ [s])=sts ps ++ s.cells:=by simp[sts]
theorem RdS.form {w:World} {v:Value} {ps:List St} (h:RdS w v ps) {n:Nat} (hn:ps.length=n):∃ ao cap,v=.slice ao n cap:=by
 obtain ⟨ao,cap,e,_⟩:=h.shape;exact ⟨ao,cap,by rw[← hn];exact e⟩
theorem zsz {ws:List Int} {ps:List St} (h:pmB ws ps=true):∀ j (hj:j < ps.length),0≤ps[j].at_∧ps[j].at_ < 336:=fun j hj=>zfq (zhj h j hj).1
theorem yajr {ws:List Int} {ps:List St} (h:pmB ws ps=true):∀ j (hj:j < ps.length),0≤ps[j].at_∧ps[j].at_ < ws.length:=fun j hj=>by
 have h1:=zsz h j hj;have h2:=(zbz h).1;omega
theorem yaqx (w1:World) (a x:Int) (f:Bool):Rd (w1.alloc (.cells #[.int .i64 a,.int .i64 x,.bool f] 147)) 3 (.slice (some ⟨w1.heap.size,0,none⟩) 1 1) 1 (St.cells ⟨a,x,f⟩):=by
 refine ⟨rfl,_,_,rfl,⟨Nat.le_refl _,fun e=>by cases e⟩,fun _=>⟨w1.heap.size,0,rfl,by simp,fun j hj=>?_⟩⟩;obtain ⟨e0,e1,e2⟩:=zas (zag (w:=w1) (o:=.cells #[.int .i64 a,.int .i64 x,.bool f] 147) rfl);rw[Nat.zero_add]
 rcases (show j=0∨j=1∨j=2 from by omega) with rfl | rfl | rfl
 ·exact e0
 ·exact e1
 ·exact e2
theorem zvu (p:St):∀ u∈St.cells p,u.oneCell'=true:=by
 intro u hu;simp[St.cells] at hu
 rcases hu with rfl | rfl | rfl <;> rfl
theorem zma (v:Value) (ws:List Int) (ps:List St) (w:World) (h:RdPm w v ws ps) (hw:ws.length≤2147483648) (hp:ps.length≤2147483648) :
  Calls Tryz.prog 64 #[v] w fun e w'=>∃ v',e=.returned v'∧RowPm w' w.heap.size w'.heap.size v' ws ps∧Below w.heap.size w w':=by
 obtain ⟨vW,vP,rfl,h1,h2⟩:=h;have H1:=zaa h1;have H2:=zaa h2;obtain ⟨aW,cW,rfl,_⟩:=h1.shape;obtain ⟨aP,cP,rfl,_⟩:=h2.shape;clear h1 h2
 have hb0:Below w.heap.size w (((w.alloc (.cells #[.slice aW ws.length cW,.slice aP ps.length cP] 40)).alloc (.cells #[.slice none 0 0,.slice none 0 0] 40)).alloc (.cells #[] 3)):=by
  repeat (refine Below.alloc ?_ (by simp <;> omega) _)
  exact Below.refl _ _
 have ho0:(((w.alloc (.cells #[.slice aW ws.length cW,.slice aP ps.length cP] 40)).alloc (.cells #[.slice none 0 0,.slice none 0 0] 40)).alloc (.cells #[] 3)).ownsRow (w.heap.size+2) 3 1 (.slice (some ⟨w.heap.size+1+1,0,none⟩) 0 0) 0 []:=by
  simpa using World.ownsRow_lit (base:=w.heap.size+2) (e:=3) (size:=1) ((w.alloc (.cells #[.slice aW ws.length cW,.slice aP ps.length cP] 40)).alloc (.cells #[.slice none 0 0,.slice none 0 0] 40)) #[] 0 (by simp) (by simp) rfl
 have HO:=zaa ho0;have HB:=zaa hb0;clear ho0 hb0;go_enter Tryz.func64,Tryz.ntmps64;go_wp2_with (at_builtin;refine zak _ rfl (.tmp 3) (.tmp 5) 22 rfl (w.heap.size+2) 3 (.int .i64 0) 1 8 Tryz.underlying22 zfz rfl (by decide) _ 0 [] rfl HO.o _ ws.length (zav ws) rfl (Rd.below H1.o HB.o) (zdw ws) (by simp[maxLen];omega) (by omega) (by simp) ?_);intro v1 w1 hown1 hgr1
 have hown1:w1.ownsRow (w.heap.size+2) 3 1 v1 ws.length (zav ws):=by simpa using hown1
 have R1:=zaa (zai hown1);obtain ⟨_,a1,c1,rfl,_⟩:=(zai hown1).rd
 have hz1:w.heap.size+3≤w1.heap.size:=by have:=hgr1.size;simp at this;omega
 have V0:=(hgr1.block w.heap.size (by simp <;> omega) (by simp[Value.ownBlock] <;> omega)).trans (zal (zal (zag rfl)));have V1:=(hgr1.block (w.heap.size+1) (by simp <;> omega) (by simp[Value.ownBlock] <;> omega)).trans (zal (zag (by simp)));have B1:=HB.o.grown hgr1 (by simp <;> omega) (fun k hk=>by simp[Value.ownBlock] at hk;omega);have V0':=zal (o:=.cells #[] 147) (zep V0 (.slice a1 ws.length c1));have V1':=zal (o:=.cells #[] 147) ((Below.heap_setCell w1 ⟨w.heap.size,0,none⟩ (.slice a1 ws.length c1) (w.heap.size+1) (by simp)).trans V1);obtain ⟨x1,x2,x3,x4⟩:=zad V0;obtain ⟨x5,x6,x7,x8⟩:=zad V0';have HV:=zaa (And.intro V0' V1');have hB2:=(B1.setCell (p:=⟨w.heap.size,0,none⟩) (Nat.le_refl _) (.slice a1 ws.length c1)).alloc (by simp;omega) (.cells #[] 147)
 have ho2:((w1.setCell ⟨w.heap.size,0,none⟩ (.slice a1 ws.length c1)).alloc (.cells #[] 147)).ownsRow w1.heap.size 147 3 (.slice (some ⟨w1.heap.size,0,none⟩) 0 0) 0 []:=by
  simpa using World.ownsRow_lit (base:=w1.heap.size) (e:=147) (size:=3) (w1.setCell ⟨w.heap.size,0,none⟩ (.slice a1 ws.length c1)) #[] 0 (by simp) (by simp) rfl
 have HB2:=zaa hB2;have HO2:=zaa ho2;clear hown1 hgr1 V0 V1 B1 V0' V1' hB2 ho2;go_wp2_with (at_builtin;refine zak _ rfl (.tmp 8) (.tmp 10) 38 rfl w1.heap.size 147 (.agg #[.int .i64 0,.int .i64 0,.bool false]) 3 24 Tryz.underlying38 zkk rfl (by decide) _ 0 [] rfl HO2.o _ ps.length (sts ps) rfl (Rd.below H2.o HB2.o) (ztq ps) (by simp[maxLen];omega) (by omega) (by simp) ?_);intro v2 w2 hown2 hgr2
 have hown2:w2.ownsRow w1.heap.size 147 3 v2 ps.length (sts ps):=by simpa using hown2
 have R2:=zaa (zai hown2);obtain ⟨_,a2,c2,rfl,_⟩:=(zai hown2).rd
 have hz2:w1.heap.size+1≤w2.heap.size:=by have:=hgr2.size;simp at this;omega
 have V0:=(hgr2.block w.heap.size (by simp <;> omega) (by simp[Value.ownBlock];omega)).trans HV.o.1;have V1:=(hgr2.block (w.heap.size+1) (by simp <;> omega) (by simp[Value.ownBlock];omega)).trans HV.o.2;have B2:=zaa (HB2.o.grown hgr2 (by simp <;> omega) (fun k hk=>by simp[Value.ownBlock] at hk;omega))
 have K2:Hid (∀ b,w.heap.size+2≤b→b < w1.heap.size→w2.heap[b]?=w1.heap[b]?):=by
  intro b h1 h2;rw[hgr2.block b (by simp <;> omega) (by simp[Value.ownBlock];omega),zea,if_neg (by simp;omega),Below.heap_setCell _ _ _ _ (by simp only;omega)]
 obtain ⟨z1,z2,z3,z4⟩:=zad V0;obtain ⟨t1,t2,t3,t4⟩:=zad V1;clear hown2 hgr2 V0 V1;go_wp2;refine bodyPost_ret (v:=.agg #[.slice a1 ws.length c1,.slice a2 ps.length c2]) (by simp[results,Tryz.results64,go_sem,t1,t2]) rfl ?_;refine ⟨_,rfl,⟨_,_,rfl,(R1.o.same fun b h1 h2=>?_).wide (by omega) (by simp;omega),(R2.o.same fun b h1 h2=>?_).wide (by omega) (by simp)⟩,?_⟩
 ·rw[Below.heap_setCell _ _ _ _ (by simp only;omega),Below.heap_setCell _ _ _ _ (by simp only;omega),Below.heap_setCell _ _ _ _ (by simp only;omega),K2.o b h1 h2]
 ·rw[Below.heap_setCell _ _ _ _ (by simp only;omega),Below.heap_setCell _ _ _ _ (by simp only;omega),Below.heap_setCell _ _ _ _ (by simp only;omega)]
 ·exact ((B2.o.setCell (by simp only;omega) _).setCell (by simp only;omega) _).setCell (by simp only;omega) _
def CopyInv (w a:World) (x y:Value):Prop:=Below w.heap.size w a∧a.heap[w.heap.size]?=some (.cells #[x,y] 40 (0,0))∧a.heap[w.heap.size+1]?=some (.cells #[.slice none 0 0,.slice none 0 0] 40 (0,0))
theorem CopyInv.grown {w a b:World} {x y:Value} (h:CopyInv w a x y) (hg:a.grownBy b none):CopyInv w b x y:=by
 obtain ⟨h1,h2,h3⟩:=h;have l2:=(Array.getElem?_eq_some_iff.1 h2).1;have l3:=(Array.getElem?_eq_some_iff.1 h3).1;exact ⟨h1.grown hg h1.size (fun k hk=>by cases hk),(hg.block _ l2 (by simp)).trans h2,(hg.block _ l3 (by simp)).trans h3⟩
theorem CopyInv.rd {w a:World} {x y:Value} (h:CopyInv w a x y) {size:Nat} {v:Value} {n:Nat} {xs:List Value} (hr:Rd w size v n xs):Rd a size v n xs:=hr.below h.1
theorem CopyInv.base {w a:World} {x y:Value} (h:CopyInv w a x y):w.heap.size+2≤a.heap.size:=(Array.getElem?_eq_some_iff.1 h.2.2).1
theorem Row.grownNone {a b:World} {e:TypeId} {size lo:Nat} {v:Value} {n:Nat} {xs:List Value} (h:Row a e size lo a.heap.size v n xs) (hg:a.grownBy b none):Row b e size lo b.heap.size v n xs :=
 (h.same (fun k _ hk=>hg.block k hk (by simp))).wide (Nat.le_refl _) hg.size
theorem yadd {w b:World} {x y v1 v2:Value} {ws:List Int} {ps:List St} (hI:CopyInv w b x y) (r1:Row b 3 1 (w.heap.size+2) b.heap.size v1 ws.length (zav ws)) (r2:Row b 147 3 (w.heap.size+2) b.heap.size v2 ps.length (sts ps)) :
  RowPm ((b.setCell ⟨w.heap.size+1,0,none⟩ v1).setCell ⟨w.heap.size+1,1,none⟩ v2) w.heap.size ((b.setCell ⟨w.heap.size+1,0,none⟩ v1).setCell ⟨w.heap.size+1,1,none⟩ v2).heap.size (.agg #[v1,v2]) ws ps ∧
   Below w.heap.size w ((b.setCell ⟨w.heap.size+1,0,none⟩ v1).setCell ⟨w.heap.size+1,1,none⟩ v2):=by
 refine ⟨⟨_,_,rfl,(r1.same fun k h1 h2=>?_).wide (by omega) (by simp),(r2.same fun k h1 h2=>?_).wide (by omega) (by simp)⟩,(hI.1.setCell (by simp only;omega) _).setCell (by simp only;omega) _⟩
 ·rw[Below.heap_setCell _ _ _ _ (by simp only;omega),Below.heap_setCell _ _ _ _ (by simp only;omega)]
 ·rw[Below.heap_setCell _ _ _ _ (by simp only;omega),Below.heap_setCell _ _ _ _ (by simp only;omega)]
theorem zik (v:Value) (ws:List Int) (ps:List St) (w:World) (h:RdPm w v ws ps) (hw:ws.length≤2147483648) (hp:ps.length≤2147483648) :
  Calls Tryz.prog 144 #[v] w fun e w'=>∃ v',e=.returned v'∧RowPm w' w.heap.size w'.heap.size v' ws ps∧Below w.heap.size w w':=by
 obtain ⟨vW,vP,rfl,h1,h2⟩:=h;have H1:=zaa h1;have H2:=zaa h2;obtain ⟨aW,cW,rfl,_⟩:=h1.shape;obtain ⟨aP,cP,rfl,_⟩:=h2.shape;clear h1 h2
 have I0:CopyInv w ((w.alloc (.cells #[.slice aW ws.length cW,.slice aP ps.length cP] 40)).alloc (.cells #[.slice none 0 0,.slice none 0 0] 40)).drew (.slice aW ws.length cW) (.slice aP ps.length cP):=by
  refine ⟨Below.drew ?_,zal (zag rfl),zag (by simp)⟩
  repeat (refine Below.alloc ?_ (by simp <;> omega) _)
  exact Below.refl _ _
 have HI:=zaa I0;clear I0;go_enter Tryz.func144,Tryz.ntmps144;go_wp2_with fail
 go_region_law (first
  | (refine zbx rfl (.const (.slice none 0 0)) (.tmp 4) 22 rfl (w.heap.size+2) 3 (.int .i64 0) 1 8 Tryz.underlying22 zfz rfl (by decide) (.slice none 0 0) 0 [] rfl (World.ownsRow_nil _ _ _ _) (.slice aW ws.length cW) ws.length (zav ws) rfl (by first | exact HI.o.rd H1.o | exact CopyInv.rd (Hid.o ‹_›) H1.o) (zdw ws) (by simp[maxLen];omega) (by omega) (by first | exact HI.o.base | exact CopyInv.base (Hid.o ‹_›)) ?_;intro v1 w1 hown1 hgr1;have hown1:w1.ownsRow (w.heap.size+2) 3 1 v1 ws.length (zav ws):=(by simpa using hown1);have I1:=zaa (CopyInv.grown (by first | exact HI.o | exact Hid.o ‹_›) hgr1);obtain ⟨_,a1,c1,rfl,_⟩:=(zai hown1).rd;obtain ⟨x1,x2,x3,x4⟩:=zad I1.o.2.1;obtain ⟨y1,y2,y3,y4⟩:=zad I1.o.2.2)
  | (refine zbx rfl (.const (.slice none 0 0)) (.tmp 7) 38 rfl (w.heap.size+2) 147 (.agg #[.int .i64 0,.int .i64 0,.bool false]) 3 24 Tryz.underlying38 zkk rfl (by decide) (.slice none 0 0) 0 [] rfl (World.ownsRow_nil _ _ _ _) (.slice aP ps.length cP) ps.length (sts ps) rfl (by first | exact HI.o.rd H2.o | exact CopyInv.rd (Hid.o ‹_›) H2.o) (ztq ps) (by simp[maxLen];omega) (by omega) (by first | exact HI.o.base | exact CopyInv.base (Hid.o ‹_›)) ?_;intro v2 w2 hown2 hgr2;have hown2:w2.ownsRow (w.heap.size+2) 147 3 v2 ps.length (sts ps):=(by simpa using hown2);have I2:=zaa (CopyInv.grown (by first | exact HI.o | exact Hid.o ‹_›) hgr2);obtain ⟨_,a2,c2,rfl,_⟩:=(zai hown2).rd;obtain ⟨z1,z2,z3,z4⟩:=zad I2.o.2.1;obtain ⟨t1,t2,t3,t4⟩:=zad I2.o.2.2))
 all_goals
  go_wp2;refine bodyPost_ret (v:=.agg #[.slice a1 ws.length c1,.slice a2 ps.length c2]) (by first | (simp[results,Tryz.results144,go_sem,t1,t2];done) | (simp[results,Tryz.results144,go_sem,y1,y2];done)) rfl ?_;refine ⟨_,rfl,?_⟩
  first
   | exact yadd I2.o (Row.grownNone (zai hown1) hgr2) (zai hown2)
   | exact yadd I1.o (zai hown1) (Row.grownNone (zai hown2) hgr1)
end Go.Proofs.YtahiphgmhndgaaaGreatDoor
