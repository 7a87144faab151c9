/- Several texts laid together: MiS, Ev, PmOKI, PmLoad, Small. -/
import Derived.Test.YtbohndgbfbfldaaGreatDoorZAG
import Derived.Test.YtbohndgbfbfldaaGreatDoorZAD
import Derived.Test.YtbohndgbfbfldaaGreatDoorZAL
set_option maxRecDepth 100000
set_option maxHeartbeats 4000000
namespace Go.Proofs.YtbohndgbfbfldaaGreatDoor
open Go.RowKit
structure Mi where
 kind:Int
 at_:Int
 val:Int
def Mi.v (m:Mi):Value:=.agg #[.int .i64 m.kind,.int .i64 m.at_,.int .i64 m.val]
def miB (m:Mi):Bool:=decide ((m.kind=1∧(0≤m.at_∧m.at_ < 336)∧0≤m.val∧m.val < 1099511627776)∨(m.kind=2∧(0≤m.at_∧m.at_ < 336)∧m.val=0)∨(m.kind=4∧(0≤m.at_∧m.at_ < 32)∧0≤m.val∧m.val < 1099511627776)∨((m.kind=3∨m.kind=5)∧m.at_=0∧m.val=0))
theorem yabu {m:Mi}:miB m=true↔((m.kind=1∧(0≤m.at_∧m.at_ < 336)∧0≤m.val∧m.val < 1099511627776)∨(m.kind=2∧(0≤m.at_∧m.at_ < 336)∧m.val=0)∨(m.kind=4∧(0≤m.at_∧m.at_ < 32)∧0≤m.val∧m.val < 1099511627776)∨((m.kind=3∨m.kind=5)∧m.at_=0∧m.val=0)):=by unfold miB;exact decide_eq_true_iff
theorem zwa (k a v:Int):miB ⟨k,a,v⟩=true↔((k=1∧(0≤a∧a < 336)∧0≤v∧v < 1099511627776)∨(k=2∧(0≤a∧a < 336)∧v=0)∨(k=4∧(0≤a∧a < 32)∧0≤v∧v < 1099511627776)∨((k=3∨k=5)∧a=0∧v=0)):=yabu
theorem znt (m:Mi) (w:World):Calls Tryz.prog 74 #[m.v] w fun e w'=>e=.returned (.bool (miB m))∧Below w.heap.size w w':=by
 obtain ⟨k,a,v⟩:=m;have hb0:Below w.heap.size w (w.alloc (.cells #[.int .i64 k,.int .i64 a,.int .i64 v] 120)):=(Below.refl _ _).alloc (Nat.le_refl _) _;have E:=zaa (zwa k a v);unfold Mi.v;simp only;have WE:=zaa (show zap v=decide (0≤v∧v < 1099511627776) from rfl)
 rcases (show k=1∨k=2∨k=3∨k=4∨k=5∨(¬ k=1∧¬ k=2∧¬ k=3∧¬ k=4∧¬ k=5) by omega) with rfl | rfl | rfl | rfl | rfl | ⟨n1,n2,n3,n4,n5⟩
 ·by_cases ca:0≤a∧a≤335
  ·go_enter Tryz.func74,Tryz.ntmps74;go_wp2_with (first | (go_at_call 80;refine (zak _ _ _ _ ca).mono ?_;rintro e w' ⟨rfl,rfl⟩) | (go_at_call 77;refine (zau _ _).mono ?_;rintro e w' ⟨rfl,rfl⟩));go_ret;refine ⟨zac ?_,hb0⟩;rw[WE.o,Bool.eq_iff_iff,E.o,decide_eq_true_iff]
   first | omega | (simp only[true_and];omega) | (simp only[true_and,true_or];omega) | (simp only[true_and,or_true];omega)
  ·have C:=zaa ca;clear ca;go_enter Tryz.func74,Tryz.ntmps74;go_wp2_with (go_at_call 80;refine (zbg _ _ _ _ C.o).mono ?_;rintro e w' ⟨rfl,rfl⟩);go_ret;have:=C.o;refine ⟨zac ?_,hb0⟩;rw[Bool.eq_iff_iff,E.o];simp;omega
 ·by_cases ca:0≤a∧a≤335
  ·go_enter Tryz.func74,Tryz.ntmps74;go_wp2_with (go_at_call 80;refine (zak _ _ _ _ ca).mono ?_;rintro e w' ⟨rfl,rfl⟩);go_ret;refine ⟨zac ?_,hb0⟩;rw[Bool.eq_iff_iff,E.o,beq_iff_eq]
   first | omega | (simp only[true_and];omega) | (simp only[true_and,true_or];omega) | (simp only[true_and,or_true];omega)
  ·have C:=zaa ca;clear ca;go_enter Tryz.func74,Tryz.ntmps74;go_wp2_with (go_at_call 80;refine (zbg _ _ _ _ C.o).mono ?_;rintro e w' ⟨rfl,rfl⟩);go_ret;have:=C.o;refine ⟨zac ?_,hb0⟩;rw[Bool.eq_iff_iff,E.o];simp;omega
 ·by_cases ca:(a == 0)=true
  ·go_enter Tryz.func74,Tryz.ntmps74;go_wp2;go_ret;have:=beq_iff_eq.1 ca;refine ⟨zac ?_,hb0⟩;rw[Bool.eq_iff_iff,E.o,beq_iff_eq]
   first | omega | (simp only[true_and];omega) | (simp only[true_and,true_or];omega) | (simp only[true_and,or_true];omega)
  ·have ca':(a == 0)=false:=by simpa using ca
   clear ca;go_enter Tryz.func74,Tryz.ntmps74;go_wp2;go_ret;have:=beq_eq_false_iff_ne.1 ca';refine ⟨zac ?_,hb0⟩;rw[Bool.eq_iff_iff,E.o];simp;omega
 ·by_cases ca:0≤a∧a≤31
  ·go_enter Tryz.func74,Tryz.ntmps74;go_wp2_with (first | (go_at_call 80;refine (zak _ _ _ _ ca).mono ?_;rintro e w' ⟨rfl,rfl⟩) | (go_at_call 77;refine (zau _ _).mono ?_;rintro e w' ⟨rfl,rfl⟩));go_ret;refine ⟨zac ?_,hb0⟩;rw[WE.o,Bool.eq_iff_iff,E.o,decide_eq_true_iff]
   first | omega | (simp only[true_and];omega) | (simp only[true_and,true_or];omega) | (simp only[true_and,or_true];omega)
  ·have C:=zaa ca;clear ca;go_enter Tryz.func74,Tryz.ntmps74;go_wp2_with (go_at_call 80;refine (zbg _ _ _ _ C.o).mono ?_;rintro e w' ⟨rfl,rfl⟩);go_ret;have:=C.o;refine ⟨zac ?_,hb0⟩;rw[Bool.eq_iff_iff,E.o];simp;omega
 ·by_cases ca:(a == 0)=true
  ·go_enter Tryz.func74,Tryz.ntmps74;go_wp2;go_ret;have:=beq_iff_eq.1 ca;refine ⟨zac ?_,hb0⟩;rw[Bool.eq_iff_iff,E.o,beq_iff_eq]
   first | omega | (simp only[true_and];omega) | (simp only[true_and,true_or];omega) | (simp only[true_and,or_true];omega)
  ·have ca':(a == 0)=false:=by simpa using ca
   clear ca;go_enter Tryz.func74,Tryz.ntmps74;go_wp2;go_ret;have:=beq_eq_false_iff_ne.1 ca';refine ⟨zac ?_,hb0⟩;rw[Bool.eq_iff_iff,E.o];simp;omega
 ·have q1:(k == 1)=false:=by simpa using n1
  have q2:(k == 2)=false:=by simpa using n2
  have q3:(k == 3)=false:=by simpa using n3
  have q4:(k == 4)=false:=by simpa using n4
  have q5:(k == 5)=false:=by simpa using n5
  have N:=zaa (And.intro n1 (And.intro n2 (And.intro n3 (And.intro n4 n5))));clear n1 n2 n3 n4 n5;go_enter Tryz.func74,Tryz.ntmps74;go_wp2;go_ret;have:=N.o;refine ⟨zac ?_,hb0⟩;rw[Bool.eq_iff_iff,E.o];simp;omega
theorem zbh (v:Value) (zs:List Int) (w:World) (h:RdI w v zs) (hn:zs.length≤2147483648) :
  Calls Tryz.prog 137 #[v,.func (.func 151) #[] #[]] w fun e w'=>e=.returned (.bool (zdh zs))∧w'=w:=by
 obtain ⟨ao,cap,rfl,_,hc⟩:=h.shape;clear h;go_enter Tryz.func137,Tryz.ntmps137;go_wp2
 go_loop [6,9] (fun _ i=>∃ k:Nat,k≤zs.length∧i=.int .i64 k∧Hid (∀ j (h:j < zs.length),j < k→zap zs[j]=true)) (fun _ i=>zs.length - (intOf i).toNat)
 case atStart=>exact ⟨0,by omega,rfl,fun j h a=>absurd a (by omega)⟩
 case round =>
  obtain ⟨k,hk,rfl,H⟩:=hrel
  by_cases hlt:k < zs.length
  ·obtain ⟨b,o,rfl,hbl,hcell⟩:=hc (by omega);have hck:=hcell k hlt;clear hcell hc
   by_cases q:zap zs[k]=true
   ·go_wp2_with (go_at_call 151;refine (zeb _ _).mono ?_;rintro e w' ⟨rfl,rfl⟩)
    go_round
    case rel =>
     refine ⟨k+1,by omega,by go_num,fun j h a=>?_⟩
     by_cases e:j=k
     ·subst e;exact q
     ·exact H.o j h (by omega)
    case measure=>simp[intOf];omega
   ·have q':zap zs[k]=false:=by simpa using q
    have E:=zaa (zrs hlt q');go_wp2_with (go_at_call 151;refine (zeb _ _).mono ?_;rintro e w' ⟨rfl,rfl⟩);go_ret;exact ⟨zac E.o.symm,rfl⟩
  ·have E:=zaa (zmy (fun j h=>H.o j h (by omega)));clear H;go_wp2;go_ret;exact ⟨zac E.o.symm,rfl⟩
def stB (s:St):Bool:=zbu s.at_ && zap s.val
theorem zxr {s:St} (h:stB s=true):zbu s.at_=true∧zap s.val=true:=by unfold stB at h;simpa using h
theorem zvy {s:St} {p:Prop} (h:stB s=false) (h1:zbu s.at_=false→p) (h2:zap s.val=false→p):p:=by
 unfold stB at h;rw[Bool.and_eq_false_iff] at h;exact h.elim h1 h2
def stsB (ps:List St):Bool:=decide (∀ k (h:k < ps.length),stB ps[k]=true)
theorem zsx {ps:List St} (h:stsB ps=true):∀ k (h:k < ps.length),stB ps[k]=true:=of_decide_eq_true h
theorem zvz {ps:List St} (h:∀ k (h:k < ps.length),stB ps[k]=true):stsB ps=true:=decide_eq_true h
theorem zzi {ps:List St} {k:Nat} (hk:k < ps.length) (h:stB ps[k]=false):stsB ps=false:=decide_eq_false (fun x=>by have:=x k hk;rw[h] at this;cases this)
theorem yabs {ps:List St} (h:stsB ps=false):∃ k,∃ h:k < ps.length,stB ps[k]=false:=by
 apply Classical.byContradiction;intro hn
 have:stsB ps=true:=zvz (fun k hk=>by
  cases e:stB ps[k] with
  | true=>rfl
  | false=>exact absurd ⟨k,hk,e⟩ hn)
 rw[h] at this
 cases this
theorem zho (s:St) (w:World):Calls Tryz.prog 179 #[.agg #[.int .i64 s.at_,.int .i64 s.val,.bool s.fl]] w fun e w'=>e=.returned (.bool (stB s))∧Below w.heap.size w w':=by
 have hb0:Below w.heap.size w (w.alloc (.cells #[.int .i64 s.at_,.int .i64 s.val,.bool s.fl] 207)):=(Below.refl _ _).alloc (Nat.le_refl _) _
 by_cases q:zbu s.at_=true
 ·have E:=zaa (show stB s=zap s.val by unfold stB;rw[q];rfl);have Q:=zaa q;clear q;go_enter Tryz.func179,Tryz.ntmps179;go_wp2_with (first | (go_at_call 204;refine (zia _ _).mono ?_;rw[Q.o];rintro e w' ⟨rfl,rfl⟩) | (go_at_call 151;refine (zeb _ _).mono ?_;rintro e w' ⟨rfl,rfl⟩));go_ret;exact ⟨zac E.o.symm,hb0⟩
 ·have q':zbu s.at_=false:=by simpa using q
  have E:=zaa (show stB s=false by unfold stB;rw[q'];rfl);have Q:=zaa q';clear q q';go_enter Tryz.func179,Tryz.ntmps179;go_wp2_with (go_at_call 204;refine (zia _ _).mono ?_;rw[Q.o];rintro e w' ⟨rfl,rfl⟩);go_ret;exact ⟨zac E.o.symm,hb0⟩
theorem zeg (v:Value) (ps:List St) (w:World) (h:RdS w v ps) (hn:ps.length≤1048576) :
  Calls Tryz.prog 178 #[v,.func (.func 179) #[] #[]] w fun e w'=>e=.returned (.bool (stsB ps))∧Below w.heap.size w w':=by
 obtain ⟨aP,cP,rfl,_,hcP⟩:=h.shape;clear h;go_enter Tryz.func178,Tryz.ntmps178;go_wp2
 go_loopw [6,9] (fun _ i wr=>∃ k:Nat,k≤ps.length∧i=.int .i64 k∧Hid (∀ j (h:j < ps.length),j < k→stB ps[j]=true)∧Below w.heap.size w wr) (fun _ i _=>ps.length - (intOf i).toNat)
 case atStart=>exact ⟨0,by omega,rfl,fun j h a=>absurd a (by omega),Below.refl _ _⟩
 case round =>
  obtain ⟨m,hm,rfl,H,hbw⟩:=hrel;have hz:=hbw.size
  by_cases hlt2:m < ps.length
  ·obtain ⟨b2,o2,rfl,hbl2,hcell2⟩:=hcP (by omega);obtain ⟨d0,d1,d2⟩:=hcell2 m hlt2;have e0:=(hbw.cell (p:=⟨b2,o2+m*3,none⟩) hbl2).trans d0;have e1:=(hbw.cell (p:=⟨b2,o2+m*3+1,none⟩) hbl2).trans d1;have e2:=(hbw.cell (p:=⟨b2,o2+m*3+2,none⟩) hbl2).trans d2;have hb1:=zaa (hbw.alloc hz (.cells #[.int .i64 ps[m].at_,.int .i64 ps[m].val,.bool ps[m].fl] 207));clear d0 d1 d2 hcell2 hcP
   by_cases q:stB ps[m]=true
   ·have Q:=zaa q;clear q;go_wp2_with (go_at_call 179;refine (zho ps[m] _).mono ?_;rw[Q.o];rintro e w' ⟨rfl,hw'⟩);have hw2:=hb1.o.trans (hw'.mono (by simp;omega));clear hb1 hw'
    go_roundw
    case rel =>
     refine ⟨m+1,by omega,by go_num,fun j h a=>?_,hw2⟩
     by_cases e:j=m
     ·subst e;exact Q.o
     ·exact H.o j h (by omega)
    case measure=>simp[intOf];omega
   ·have Q:=zaa (show stB ps[m]=false by simpa using q);have E:=zaa (zzi hlt2 Q.o);clear q;go_wp2_with (go_at_call 179;refine (zho ps[m] _).mono ?_;rw[Q.o];rintro e w' ⟨rfl,hw'⟩);have hw2:=hb1.o.trans (hw'.mono (by simp;omega));go_ret;exact ⟨zac E.o.symm,hw2⟩
  ·have E:=zaa (zvz (fun j h=>H.o j h (by omega)));go_wp2;go_ret;exact ⟨zac E.o.symm,hbw⟩
theorem zcd (v:Value) (ws:List Int) (ps:List St) (w:World) (h:RdPm w v ws ps) (hw:ws.length≤1048576) (hp:ps.length≤1048576) :
  Calls Tryz.prog 135 #[v] w fun e w'=>e=.returned (.bool (pmB ws ps))∧Below w.heap.size w w':=by
 obtain ⟨vW,vP,rfl,h1,h2⟩:=h;obtain ⟨aW,cW,rfl,_,hcW⟩:=h1.shape;obtain ⟨aP,cP,rfl,_,hcP⟩:=h2.shape;have H1:=zaa h1;have H2:=zaa h2;clear h1 h2 hcW hcP;have hb0:Below w.heap.size w (w.alloc (.cells #[.slice aW ws.length cW,.slice aP ps.length cP] 25)):=(Below.refl _ _).alloc (Nat.le_refl _) _;have HB:=zaa hb0
 by_cases c1:ws.length=336
 case neg =>
  have E:=zaa (zqx (ps:=ps) c1)
  have c1':((ws.length:Int) == 336)=false:=by rw[beq_eq_false_iff_ne];omega
  clear c1;go_enter Tryz.func135,Tryz.ntmps135;go_wp2;go_ret;exact ⟨zac E.o.symm,HB.o⟩
 have c1n:((ws.length:Int) == 336)=true:=by simp;omega
 have C1:=zaa c1;clear c1
 by_cases c2:400 < ps.length
 ·have E:=zaa (zqp (ws:=ws) c2)
  have c2':decide ((ps.length:Int)≤400)=false:=by simp;omega
  go_enter Tryz.func135,Tryz.ntmps135;go_wp2;go_ret;exact ⟨zac E.o.symm,HB.o⟩
 by_cases c3:zdh ws=true
 case neg =>
  have c3':zdh ws=false:=by simpa using c3
  obtain ⟨k,hk,hkf⟩:=zni c3';have E:=zaa (yadf (ps:=ps) hk hkf);have W0:=zaa c3';clear c3 c3' hkf hk;go_enter Tryz.func135,Tryz.ntmps135;go_wp2_with (go_at_call 137;refine (zbh _ ws _ (Rd.below H1.o HB.o) (by omega)).mono ?_;rw[W0.o];rintro e w' ⟨rfl,rfl⟩);go_ret;exact ⟨zac E.o.symm,HB.o⟩
 have HW:=zaa (zep c3);have W1:=zaa c3;clear c3
 cases c4:stsB ps with
 | true =>
  have E:=zaa (zzq C1.o (by omega) HW.o (fun j h=>zxr (zsx c4 j h)));have W2:=zaa c4;clear c4;go_enter Tryz.func135,Tryz.ntmps135;go_wp2_with (first | (go_at_call 137;refine (zbh _ ws _ (Rd.below H1.o HB.o) (by omega)).mono ?_;rw[W1.o];rintro e w' ⟨rfl,rfl⟩) | (go_at_call 178;refine (zeg _ ps _ (Rd.below H2.o HB.o) (by omega)).mono ?_;rw[W2.o];rintro e w' ⟨rfl,hw'⟩));go_ret;exact ⟨zac E.o.symm,HB.o.trans (hw'.mono (by simp))⟩
 | false =>
  obtain ⟨k,hk,hkf⟩:=yabs c4;have E:=zaa (show pmB ws ps=false from zvy hkf (yadu (ws:=ws) hk) (yadz (ws:=ws) hk));have W2:=zaa c4;clear c4 hk hkf;go_enter Tryz.func135,Tryz.ntmps135;go_wp2_with (first | (go_at_call 137;refine (zbh _ ws _ (Rd.below H1.o HB.o) (by omega)).mono ?_;rw[W1.o];rintro e w' ⟨rfl,rfl⟩) | (go_at_call 178;refine (zeg _ ps _ (Rd.below H2.o HB.o) (by omega)).mono ?_;rw[W2.o];rintro e w' ⟨rfl,hw'⟩));go_ret;exact ⟨zac E.o.symm,HB.o.trans (hw'.mono (by simp))⟩
def zga (at_ d:Int) (ps:List St):Int:=ps.foldl (fun acc p=>if p.at_=at_ then p.val else acc) d
theorem zfn {at_ d:Int}:∀ {ps:List St},(∀ p∈ps,¬ p.at_=at_)→zga at_ d ps=d
 | [],_=>rfl
 | p :: ps,h=>by
  show zga at_ (if p.at_=at_ then p.val else d) ps=d
  rw[if_neg (h p (by simp))];exact zfn (fun q hq=>h q (by simp[hq]))
theorem zlu (at_ d:Int) (ps qs:List St):zga at_ d (ps ++ qs)=zga at_ (zga at_ d ps) qs:=by simp[zga]
theorem zum {at_ d:Int} {ps:List St} {k:Nat} (hk:k < ps.length) (h:ps[k].at_=at_) (ha:∀ j (hj:j < ps.length),k < j→¬ ps[j].at_=at_):zga at_ d ps=ps[k].val:=by
 have e:ps=ps.take k ++ (ps[k] :: ps.drop (k+1)):=by rw[← List.drop_eq_getElem_cons hk,List.take_append_drop]
 conv=>lhs;rw[e]
 rw[zlu]
 show zga at_ (if ps[k].at_=at_ then ps[k].val else _) (ps.drop (k+1))=_
 rw[if_pos h];apply zfn;intro p hp;obtain ⟨i,hi,rfl⟩:=List.getElem_of_mem hp;rw[List.getElem_drop];exact ha _ _ (by omega)
theorem zib (v:Value) (ws:List Int) (ps:List St) (at_:Nat) (w:World) (h:RdPm w v ws ps) (hw:ws.length≤1048576) (hp:ps.length≤1048576) (ha:at_ < ws.length) :
  Calls Tryz.prog 124 #[v,.int .i64 (at_:Int)] w fun e w'=>e=.returned (.int .i64 (zga (at_:Int) ws[at_] ps))∧Below w.heap.size w w':=by
 obtain ⟨vW,vP,rfl,h1,h2⟩:=h;obtain ⟨aW,cW,rfl,_,hcW⟩:=h1.shape;obtain ⟨aP,cP,rfl,_,hcP⟩:=h2.shape;clear h1 h2;obtain ⟨bW,oW,rfl,hbW,hcellW⟩:=hcW (by omega);have hb0:Below w.heap.size w (w.alloc (.cells #[.slice (some ⟨bW,oW,none⟩) ws.length cW,.slice aP ps.length cP] 25)):=(Below.refl _ _).alloc (Nat.le_refl _) _;have hcw:=(hb0.cell (p:=⟨bW,oW+at_,none⟩) hbW).trans (hcellW at_ ha);clear hcW hcellW;go_enter Tryz.func124,Tryz.ntmps124;go_wp2
 go_loop [5] (fun i=>∃ k:Nat,k≤ps.length∧i=.int .i64 ((k:Int) - 1)∧Hid (∀ j (h:j < ps.length),k≤j→¬ ps[j].at_=(at_:Int))) (fun i=>(intOf i+1).toNat)
 case atStart=>exact ⟨ps.length,Nat.le_refl _,rfl,fun j h a=>absurd h (by omega)⟩
 case round =>
  obtain ⟨k,hk,rfl,H⟩:=hrel
  cases k with
  | zero =>
   have E:=zaa (zfn (d:=ws[at_]) (fun p hp=>by obtain ⟨i,hi,rfl⟩:=List.getElem_of_mem hp;exact H.o i hi (by omega)));clear H hcP;go_wp2;go_ret;exact ⟨zem E.o.symm,hb0⟩
  | succ m =>
   have em:(((m+1:Nat):Int) - 1)=(m:Int):=by omega
   rw[em];clear em;obtain ⟨b,o,rfl,hbl,hcell⟩:=hcP (by omega);obtain ⟨d0,d1,_⟩:=hcell m (by omega);have e0:=(hb0.cell (p:=⟨b,o+m*3,none⟩) hbl).trans d0;have e1:=(hb0.cell (p:=⟨b,o+m*3+1,none⟩) hbl).trans d1;clear d0 d1 hcell hcP
   have hm:m < ps.length:=by omega
   by_cases c:ps[m].at_=(at_:Int)
   ·have c':(ps[m].at_ == (at_:Int))=true:=by simpa using c
    have E:=zaa (zum (d:=ws[at_]) hm c (fun j hj hlt=>H.o j hj (by omega)));clear H c;go_wp2;go_ret;exact ⟨zem E.o.symm,hb0⟩
   ·have c':(ps[m].at_ == (at_:Int))=false:=by simpa using c
    have C:=zaa c;clear c;go_wp2
    go_round
    case rel =>
     refine ⟨m,by omega,by go_num,fun j hj hle=>?_⟩
     by_cases e:j=m
     ·subst e;exact C.o
     ·exact H.o j hj (by omega)
    case measure=>simp[intOf] <;> omega
theorem zzv {ws:List Int} {ps:List St} (h:pmB ws ps=true):∀ j (hj:j < ps.length),0≤ps[j].at_∧ps[j].at_ < 336:=fun j hj=>zph (zna h j hj).1
theorem yadk {ws:List Int} {ps:List St} (h:pmB ws ps=true):∀ j (hj:j < ps.length),0≤ps[j].at_∧ps[j].at_ < ws.length:=fun j hj=>by
 have h1:=zzv h j hj;have h2:=(zll h).1;omega
end Go.Proofs.YtbohndgbfbfldaaGreatDoor
