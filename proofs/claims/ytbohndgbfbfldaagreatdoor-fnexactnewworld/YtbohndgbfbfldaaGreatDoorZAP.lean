/- Several texts laid together: MiS, Ev, PmOKI, PmLoad, Small. -/
import Derived.Test.YtbohndgbfbfldaaGreatDoorZAG
import Derived.Test.YtbohndgbfbfldaaGreatDoorZAE
import Derived.Test.YtbohndgbfbfldaaGreatDoorZAN
set_option maxHeartbeats 4000000
namespace Go.Proofs.YtbohndgbfbfldaaGreatDoor
open Go.RowKit
structure Mi where
 kind:Int
 at_:Int
 val:Int
theorem zbi (v:Value) (zs:List Int) (w:World) (h:RdI w v zs) (hn:zs.length≤2147483648) :
  Calls Tryz.prog 137 #[v,.func (.func 151) #[] #[]] w fun e w'=>e=.returned (.bool (zep zs))∧w'=w:=by
 obtain ⟨ao,cap,rfl,_,hc⟩:=h.shape;clear h;go_enter Tryz.func137,Tryz.ntmps137;go_wp2
 go_loop [6,9] (fun _ i=>∃ k:Nat,k≤zs.length∧i=.int .i64 k∧Hid (∀ j (h:j < zs.length),j < k→zar zs[j]=true)) (fun _ i=>zs.length - (intOf i).toNat)
 case atStart=>exact ⟨0,by omega,rfl,fun j h a=>absurd a (by omega)⟩
 case round =>
  obtain ⟨k,hk,rfl,H⟩:=hrel
  by_cases hlt:k < zs.length
  ·obtain ⟨b,o,rfl,hbl,hcell⟩:=hc (by omega);have hck:=hcell k hlt;clear hcell hc
   by_cases q:zar zs[k]=true
   ·go_wp2_with (go_at_call 151;refine (zed _ _).mono ?_;rintro e w' ⟨rfl,rfl⟩)
    go_round
    case rel =>
     refine ⟨k+1,by omega,by go_num,fun j h a=>?_⟩
     by_cases e:j=k
     ·subst e;exact q
     ·exact H.o j h (by omega)
    case measure=>simp[intOf];omega
   ·have q':zar zs[k]=false:=by simpa using q
    have E:=zaa (zrm hlt q');go_wp2_with (go_at_call 151;refine (zed _ _).mono ?_;rintro e w' ⟨rfl,rfl⟩);go_ret;exact ⟨zad E.o.symm,rfl⟩
  ·have E:=zaa (zoc (fun j h=>H.o j h (by omega)));clear H;go_wp2;go_ret;exact ⟨zad E.o.symm,rfl⟩
def stB (s:St):Bool:=zaz s.at_ && zar s.val
theorem zzy {s:St} (h:stB s=true):zaz s.at_=true∧zar s.val=true:=by unfold stB at h;simpa using h
theorem zvw {s:St} {p:Prop} (h:stB s=false) (h1:zaz s.at_=false→p) (h2:zar s.val=false→p):p:=by
 unfold stB at h;rw[Bool.and_eq_false_iff] at h;exact h.elim h1 h2
def stsB (ps:List St):Bool:=decide (∀ k (h:k < ps.length),stB ps[k]=true)
theorem zvq {ps:List St} (h:stsB ps=true):∀ k (h:k < ps.length),stB ps[k]=true:=of_decide_eq_true h
theorem zww {ps:List St} (h:∀ k (h:k < ps.length),stB ps[k]=true):stsB ps=true:=decide_eq_true h
theorem zym {ps:List St} {k:Nat} (hk:k < ps.length) (h:stB ps[k]=false):stsB ps=false:=decide_eq_false (fun x=>by have:=x k hk;rw[h] at this;cases this)
theorem yabz {ps:List St} (h:stsB ps=false):∃ k,∃ h:k < ps.length,stB ps[k]=false:=by
 apply Classical.byContradiction;intro hn
 have:stsB ps=true:=zww (fun k hk=>by
  cases e:stB ps[k] with
  | true=>rfl
  | false=>exact absurd ⟨k,hk,e⟩ hn)
 rw[h] at this
 cases this
theorem zhu (s:St) (w:World):Calls Tryz.prog 179 #[.agg #[.int .i64 s.at_,.int .i64 s.val,.bool s.fl]] w fun e w'=>e=.returned (.bool (stB s))∧Below w.heap.size w w':=by
 have hb0:Below w.heap.size w (w.alloc (.cells #[.int .i64 s.at_,.int .i64 s.val,.bool s.fl] 207)):=(Below.refl _ _).alloc (Nat.le_refl _) _
 by_cases q:zaz s.at_=true
 ·have E:=zaa (show stB s=zar s.val by unfold stB;rw[q];rfl);have Q:=zaa q;clear q;go_enter Tryz.func179,Tryz.ntmps179;go_wp2_with (first | (go_at_call 204;refine (zcs _ _).mono ?_;rw[Q.o];rintro e w' ⟨rfl,rfl⟩) | (go_at_call 151;refine (zed _ _).mono ?_;rintro e w' ⟨rfl,rfl⟩));go_ret;exact ⟨zad E.o.symm,hb0⟩
 ·have q':zaz s.at_=false:=by simpa using q
  have E:=zaa (show stB s=false by unfold stB;rw[q'];rfl);have Q:=zaa q';clear q q';go_enter Tryz.func179,Tryz.ntmps179;go_wp2_with (go_at_call 204;refine (zcs _ _).mono ?_;rw[Q.o];rintro e w' ⟨rfl,rfl⟩);go_ret;exact ⟨zad E.o.symm,hb0⟩
theorem zen (v:Value) (ps:List St) (w:World) (h:RdS w v ps) (hn:ps.length≤1048576) :
  Calls Tryz.prog 178 #[v,.func (.func 179) #[] #[]] w fun e w'=>e=.returned (.bool (stsB ps))∧Below w.heap.size w w':=by
 obtain ⟨aP,cP,rfl,_,hcP⟩:=h.shape;clear h;go_enter Tryz.func178,Tryz.ntmps178;go_wp2
 go_loopw [6,9] (fun _ i wr=>∃ k:Nat,k≤ps.length∧i=.int .i64 k∧Hid (∀ j (h:j < ps.length),j < k→stB ps[j]=true)∧Below w.heap.size w wr) (fun _ i _=>ps.length - (intOf i).toNat)
 case atStart=>exact ⟨0,by omega,rfl,fun j h a=>absurd a (by omega),Below.refl _ _⟩
 case round =>
  obtain ⟨m,hm,rfl,H,hbw⟩:=hrel;have hz:=hbw.size
  by_cases hlt2:m < ps.length
  ·obtain ⟨b2,o2,rfl,hbl2,hcell2⟩:=hcP (by omega);obtain ⟨d0,d1,d2⟩:=hcell2 m hlt2;have e0:=(hbw.cell (p:=⟨b2,o2+m*3,none⟩) hbl2).trans d0;have e1:=(hbw.cell (p:=⟨b2,o2+m*3+1,none⟩) hbl2).trans d1;have e2:=(hbw.cell (p:=⟨b2,o2+m*3+2,none⟩) hbl2).trans d2;have hb1:=zaa (hbw.alloc hz (.cells #[.int .i64 ps[m].at_,.int .i64 ps[m].val,.bool ps[m].fl] 207));clear d0 d1 d2 hcell2 hcP
   by_cases q:stB ps[m]=true
   ·have Q:=zaa q;clear q;go_wp2_with (go_at_call 179;refine (zhu ps[m] _).mono ?_;rw[Q.o];rintro e w' ⟨rfl,hw'⟩);have hw2:=hb1.o.trans (hw'.mono (by simp;omega));clear hb1 hw'
    go_roundw
    case rel =>
     refine ⟨m+1,by omega,by go_num,fun j h a=>?_,hw2⟩
     by_cases e:j=m
     ·subst e;exact Q.o
     ·exact H.o j h (by omega)
    case measure=>simp[intOf];omega
   ·have Q:=zaa (show stB ps[m]=false by simpa using q);have E:=zaa (zym hlt2 Q.o);clear q;go_wp2_with (go_at_call 179;refine (zhu ps[m] _).mono ?_;rw[Q.o];rintro e w' ⟨rfl,hw'⟩);have hw2:=hb1.o.trans (hw'.mono (by simp;omega));go_ret;exact ⟨zad E.o.symm,hw2⟩
  ·have E:=zaa (zww (fun j h=>H.o j h (by omega)));go_wp2;go_ret;exact ⟨zad E.o.symm,hbw⟩
theorem zce (v:Value) (ws:List Int) (ps:List St) (w:World) (h:RdPm w v ws ps) (hw:ws.length≤1048576) (hp:ps.length≤1048576) :
  Calls Tryz.prog 135 #[v] w fun e w'=>e=.returned (.bool (pmB ws ps))∧Below w.heap.size w w':=by
 obtain ⟨vW,vP,rfl,h1,h2⟩:=h;obtain ⟨aW,cW,rfl,_,hcW⟩:=h1.shape;obtain ⟨aP,cP,rfl,_,hcP⟩:=h2.shape;have H1:=zaa h1;have H2:=zaa h2;clear h1 h2 hcW hcP;have hb0:Below w.heap.size w (w.alloc (.cells #[.slice aW ws.length cW,.slice aP ps.length cP] 25)):=(Below.refl _ _).alloc (Nat.le_refl _) _;have HB:=zaa hb0
 by_cases c1:ws.length=336
 case neg =>
  have E:=zaa (zqm (ps:=ps) c1)
  have c1':((ws.length:Int) == 336)=false:=by rw[beq_eq_false_iff_ne];omega
  clear c1;go_enter Tryz.func135,Tryz.ntmps135;go_wp2;go_ret;exact ⟨zad E.o.symm,HB.o⟩
 have c1n:((ws.length:Int) == 336)=true:=by simp;omega
 have C1:=zaa c1;clear c1
 by_cases c2:400 < ps.length
 ·have E:=zaa (zqi (ws:=ws) c2)
  have c2':decide ((ps.length:Int)≤400)=false:=by simp;omega
  go_enter Tryz.func135,Tryz.ntmps135;go_wp2;go_ret;exact ⟨zad E.o.symm,HB.o⟩
 by_cases c3:zep ws=true
 case neg =>
  have c3':zep ws=false:=by simpa using c3
  obtain ⟨k,hk,hkf⟩:=zni c3';have E:=zaa (yaep (ps:=ps) hk hkf);have W0:=zaa c3';clear c3 c3' hkf hk;go_enter Tryz.func135,Tryz.ntmps135;go_wp2_with (go_at_call 137;refine (zbi _ ws _ (Rd.below H1.o HB.o) (by omega)).mono ?_;rw[W0.o];rintro e w' ⟨rfl,rfl⟩);go_ret;exact ⟨zad E.o.symm,HB.o⟩
 have HW:=zaa (zio c3);have W1:=zaa c3;clear c3
 cases c4:stsB ps with
 | true =>
  have E:=zaa (yaaz C1.o (by omega) HW.o (fun j h=>zzy (zvq c4 j h)));have W2:=zaa c4;clear c4;go_enter Tryz.func135,Tryz.ntmps135;go_wp2_with (first | (go_at_call 137;refine (zbi _ ws _ (Rd.below H1.o HB.o) (by omega)).mono ?_;rw[W1.o];rintro e w' ⟨rfl,rfl⟩) | (go_at_call 178;refine (zen _ ps _ (Rd.below H2.o HB.o) (by omega)).mono ?_;rw[W2.o];rintro e w' ⟨rfl,hw'⟩));go_ret;exact ⟨zad E.o.symm,HB.o.trans (hw'.mono (by simp))⟩
 | false =>
  obtain ⟨k,hk,hkf⟩:=yabz c4;have E:=zaa (show pmB ws ps=false from zvw hkf (yadx (ws:=ws) hk) (yaew (ws:=ws) hk));have W2:=zaa c4;clear c4 hk hkf;go_enter Tryz.func135,Tryz.ntmps135;go_wp2_with (first | (go_at_call 137;refine (zbi _ ws _ (Rd.below H1.o HB.o) (by omega)).mono ?_;rw[W1.o];rintro e w' ⟨rfl,rfl⟩) | (go_at_call 178;refine (zen _ ps _ (Rd.below H2.o HB.o) (by omega)).mono ?_;rw[W2.o];rintro e w' ⟨rfl,hw'⟩));go_ret;exact ⟨zad E.o.symm,HB.o.trans (hw'.mono (by simp))⟩
def zma (ws:List Int) (ps:List St) (at_:Int):Int:=if pmB ws ps=false then 1 else if zaz at_=false then 14 else 0
theorem zrc {ws:List Int} {ps:List St} {at_:Int} (h:pmB ws ps=false):zma ws ps at_=1:=by unfold zma;rw[if_pos h]
theorem zju {ws:List Int} {ps:List St} {at_:Int} (h:pmB ws ps=true) (h2:zaz at_=false):zma ws ps at_=14:=by unfold zma;rw[if_neg (by rw[h];simp),if_pos h2]
theorem zwo {ws:List Int} {ps:List St} {at_:Int} (h:pmB ws ps=true) (h2:zaz at_=true):zma ws ps at_=0:=by unfold zma;rw[if_neg (by rw[h];simp),if_neg (by rw[h2];simp)]
theorem zej (v:Value) (ws:List Int) (ps:List St) (at_:Int) (w:World) (h:RdPm w v ws ps) (hw:ws.length≤1048576) (hp:ps.length≤1048576) :
  Calls Tryz.prog 213 #[v,.int .i64 at_] w fun e w'=>e=.returned (.int .i64 (zma ws ps at_))∧Below w.heap.size w w':=by
 have HR:=zaa h;obtain ⟨vW,vP,rfl,h1,h2⟩:=h;obtain ⟨aW,cW,rfl,_⟩:=h1.shape;obtain ⟨aP,cP,rfl,_⟩:=h2.shape;clear h1 h2;have hb0:Below w.heap.size w (w.alloc (.cells #[.slice aW ws.length cW,.slice aP ps.length cP] 25)):=(Below.refl _ _).alloc (Nat.le_refl _) _
 by_cases c1:pmB ws ps=true
 ·by_cases c2:zaz at_=true
  ·rw[zwo c1 c2];go_enter Tryz.func213,Tryz.ntmps213;go_wp2_with (first | (go_at_call 135;refine (zce _ ws ps _ (HR.o.below hb0) hw hp).mono ?_;rintro e w1 ⟨rfl,hb1⟩) | (go_at_call 204;refine (zcs _ _).mono ?_;rintro e w2 ⟨rfl,rfl⟩));go_ret;exact ⟨rfl,zab hb0 hb1 (by simp)⟩
  ·have c2':zaz at_=false:=by simpa using c2
   rw[zju c1 c2'];clear c2;go_enter Tryz.func213,Tryz.ntmps213;go_wp2_with (first | (go_at_call 135;refine (zce _ ws ps _ (HR.o.below hb0) hw hp).mono ?_;rintro e w1 ⟨rfl,hb1⟩) | (go_at_call 204;refine (zcs _ _).mono ?_;rintro e w2 ⟨rfl,rfl⟩));go_ret;exact ⟨rfl,zab hb0 hb1 (by simp)⟩
 ·have c1':pmB ws ps=false:=by simpa using c1
  rw[zrc c1'];clear c1;go_enter Tryz.func213,Tryz.ntmps213;go_wp2_with (first | (go_at_call 135;refine (zce _ ws ps _ (HR.o.below hb0) hw hp).mono ?_;rintro e w1 ⟨rfl,hb1⟩) | (go_at_call 204;refine (zcs _ _).mono ?_;rintro e w2 ⟨rfl,rfl⟩));go_ret;exact ⟨rfl,zab hb0 hb1 (by simp)⟩
def zhl (at_ d:Int) (ps:List St):Int:=ps.foldl (fun acc p=>if p.at_=at_ then p.val else acc) d
theorem zfw {at_ d:Int}:∀ {ps:List St},(∀ p∈ps,¬ p.at_=at_)→zhl at_ d ps=d
 | [],_=>rfl
 | p :: ps,h=>by
  show zhl at_ (if p.at_=at_ then p.val else d) ps=d
  rw[if_neg (h p (by simp))];exact zfw (fun q hq=>h q (by simp[hq]))
theorem znt (at_ d:Int) (ps qs:List St):zhl at_ d (ps ++ qs)=zhl at_ (zhl at_ d ps) qs:=by simp[zhl]
theorem zuy {at_ d:Int} {ps:List St} {k:Nat} (hk:k < ps.length) (h:ps[k].at_=at_) (ha:∀ j (hj:j < ps.length),k < j→¬ ps[j].at_=at_):zhl at_ d ps=ps[k].val:=by
 have e:ps=ps.take k ++ (ps[k] :: ps.drop (k+1)):=by rw[← List.drop_eq_getElem_cons hk,List.take_append_drop]
 conv=>lhs;rw[e]
 rw[znt]
 show zhl at_ (if ps[k].at_=at_ then ps[k].val else _) (ps.drop (k+1))=_
 rw[if_pos h];apply zfw;intro p hp;obtain ⟨i,hi,rfl⟩:=List.getElem_of_mem hp;rw[List.getElem_drop];exact ha _ _ (by omega)
def zpc (ws:List Int) (ps:List St) (at_:Int):Int:=if zma ws ps at_=0 then zhl at_ (ws[at_.toNat]?.getD 0) ps else 0
theorem zvt {ws:List Int} {ps:List St} {at_:Int} (h:¬ zma ws ps at_=0):zpc ws ps at_=0:=by unfold zpc;rw[if_neg h]
theorem zzx {ws:List Int} {ps:List St} {k:Nat} (h:zma ws ps (k:Int)=0) (hk:k < ws.length):zpc ws ps (k:Int)=zhl (k:Int) ws[k] ps:=by
 unfold zpc;rw[if_pos h];simp[hk]
theorem zrx (ws:List Int) (ps:List St) (at_:Int):(zma ws ps at_=1∨zma ws ps at_=14)∨(zma ws ps at_=0∧pmB ws ps=true∧∃ k:Nat,at_=(k:Int)∧k < 336∧k < ws.length):=by
 by_cases c1:pmB ws ps=true
 ·by_cases c2:zaz at_=true
  ·have:=zhd c2;have hl:=(zlv c1).1;exact .inr ⟨zwo c1 c2,c1,at_.toNat,by omega,by omega,by omega⟩
  ·exact .inl (.inr (zju c1 (by simpa using c2)))
 ·exact .inl (.inl (zrc (by simpa using c1)))
theorem zjj (v:Value) (ws:List Int) (ps:List St) (at_:Int) (w:World) (h:RdPm w v ws ps) (hw:ws.length≤1048576) (hp:ps.length≤1048576) :
  Calls Tryz.prog 196 #[v,.int .i64 at_] w fun e w'=>e=.returned (.tuple #[.int .i64 (zpc ws ps at_),.int .i64 (zma ws ps at_)])∧Below w.heap.size w w':=by
 have HR:=zaa h;obtain ⟨vW,vP,rfl,h1,h2⟩:=h;obtain ⟨aW,cW,rfl,_,hcW⟩:=h1.shape;obtain ⟨aP,cP,rfl,_,hcP⟩:=h2.shape;clear h1 h2;have hb0:Below w.heap.size w (w.alloc (.cells #[.slice aW ws.length cW,.slice aP ps.length cP] 25)):=(Below.refl _ _).alloc (Nat.le_refl _) _
 rcases zrx ws ps at_ with hc | ⟨hc,hok,k,rfl,hk,hkl⟩
 ·have hne:(zma ws ps at_ != 0)=true:=by rcases hc with hc | hc <;> simp[hc]
  have E:=zaa (zvt (ws:=ws) (ps:=ps) (at_:=at_) (by rcases hc with hc | hc <;> simp[hc]));clear hc hcW hcP;go_enter Tryz.func196,Tryz.ntmps196;go_wp2_with (go_at_call 213;refine (zej _ ws ps _ _ (HR.o.below hb0) hw hp).mono ?_;rintro e w1 ⟨rfl,hb1⟩);go_ret2;exact ⟨zbn E.o.symm rfl,zab hb0 hb1 (by simp)⟩
 ·have E:=zaa (zzx hc hkl);have C:=zaa hc;obtain ⟨bW,oW,rfl,hbW,hcellW⟩:=hcW (by omega);have hcw:=zaa (hcellW k hkl);have HP:=zaa hcP;clear hc hcW hcellW hcP;go_enter Tryz.func196,Tryz.ntmps196;go_wp2_with fail;refine (zej _ ws ps _ _ (HR.o.below hb0) hw hp).mono ?_;rw[C.o];rintro e w1 ⟨rfl,hb1⟩;have V1:=(hb1.block w.heap.size (by simp)).trans (zae rfl);obtain ⟨x1,x2,_,_⟩:=zac V1;have B1:=zaa (zab hb0 hb1 (by simp));have hcw1:=(B1.o.cell (p:=⟨bW,oW+k,none⟩) hbW).trans hcw.o;clear V1 hb1 hb0;go_wp2
  go_loop [7] (fun i=>∃ m:Nat,m≤ps.length∧i=.int .i64 ((m:Int) - 1)∧Hid (∀ j (h:j < ps.length),m≤j→¬ ps[j].at_=(k:Int))) (fun i=>(intOf i+1).toNat)
  case atStart=>exact ⟨ps.length,Nat.le_refl _,rfl,fun j h a=>absurd h (by omega)⟩
  case round =>
   obtain ⟨m,hm,rfl,H⟩:=hrel
   cases m with
   | zero =>
    have E2:=zaa (zfw (d:=ws[k]) (fun p hp=>by obtain ⟨i,hi,rfl⟩:=List.getElem_of_mem hp;exact H.o i hi (by omega)));clear H;go_wp2;go_ret2;exact ⟨zbn (E.o.trans E2.o).symm C.o.symm,B1.o⟩
   | succ m =>
    have em:(((m+1:Nat):Int) - 1)=(m:Int):=by omega
    rw[em];clear em;obtain ⟨b,o,rfl,hbl,hcell⟩:=HP.o (by omega);obtain ⟨d0,d1,_⟩:=hcell m (by omega);have e0:=(B1.o.cell (p:=⟨b,o+m*3,none⟩) hbl).trans d0;have e1:=(B1.o.cell (p:=⟨b,o+m*3+1,none⟩) hbl).trans d1;clear d0 d1 hcell
    have hml:m < ps.length:=by omega
    by_cases c:ps[m].at_=(k:Int)
    ·have c':(ps[m].at_ == (k:Int))=true:=by simpa using c
     have E2:=zaa (zuy (d:=ws[k]) hml c (fun j hj hlt=>H.o j hj (by omega)));clear H c;go_wp2;go_ret2;exact ⟨zbn (E.o.trans E2.o).symm C.o.symm,B1.o⟩
    ·have c':(ps[m].at_ == (k:Int))=false:=by simpa using c
     have C2:=zaa c;clear c;go_wp2
     go_round
     case rel =>
      refine ⟨m,by omega,by go_num,fun j hj hle=>?_⟩
      by_cases e:j=m
      ·subst e;exact C2.o
      ·exact H.o j hj (by omega)
     case measure=>simp[intOf] <;> omega
theorem yafi {ws:List Int} {ps:List St} (h:pmB ws ps=true):∀ j (hj:j < ps.length),0≤ps[j].at_∧ps[j].at_ < 336:=fun j hj=>zhd (znv h j hj).1
theorem yadq {ws:List Int} {ps:List St} (h:pmB ws ps=true):∀ j (hj:j < ps.length),0≤ps[j].at_∧ps[j].at_ < ws.length:=fun j hj=>by
 have h1:=yafi h j hj;have h2:=(zlv h).1;omega
end Go.Proofs.YtbohndgbfbfldaaGreatDoor
