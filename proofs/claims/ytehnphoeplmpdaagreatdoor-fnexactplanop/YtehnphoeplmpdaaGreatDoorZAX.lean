/- Several texts laid together: BlkT, BlkOK, BlkOKI, BlkRead, DtA. -/
import Derived.Test.YtehnphoeplmpdaaGreatDoorZAW
import Derived.Test.YtehnphoeplmpdaaGreatDoorZAE
import Derived.Test.YtehnphoeplmpdaaGreatDoorZAT
import Derived.Test.YtehnphoeplmpdaaGreatDoorZAV
import Derived.Test.YtehnphoeplmpdaaGreatDoorZAA
import Derived.Test.YtehnphoeplmpdaaGreatDoorZAU
import Derived.Deep.RegionWith
import Derived.BigRegion
import Derived.BigQuiet
import Derived.Deep.QuietTactic
import Derived.Deep.DeepCutAuto
import Derived.Deep.RegionLaw
set_option maxHeartbeats 4000000
namespace Go.Proofs.YtehnphoeplmpdaaGreatDoor
open Go.RowKit
theorem yaci (va vb:Value) (ws:List Int) (ps:List Se) (w:World) (ha:RdBlk w va ws ps) (hb:RdBlk w vb ws ps) (hw:ws.length≤2147483648) (hp:ps.length≤2147483648) :
  Calls Tryz.prog 46 #[va,vb] w fun e w'=>e=.returned (.bool true)∧Below w.heap.size w w':=by
 obtain ⟨vW,vP,rfl,h1,h2⟩:=ha;obtain ⟨uW,uP,rfl,h3,h4⟩:=hb;obtain ⟨aW,cW,rfl,_⟩:=h1.shape;obtain ⟨aP,cP,rfl,_⟩:=h2.shape;obtain ⟨bW,dW,rfl,_⟩:=h3.shape;obtain ⟨bP,dP,rfl,_⟩:=h4.shape;have H1:=zaa h1;have H2:=zaa h2;have H3:=zaa h3;have H4:=zaa h4;clear h1 h2 h3 h4;go_enter Tryz.func46,Tryz.ntmps46;go_wp2_with fail
 have hb0:Below w.heap.size w ((w.alloc (.cells #[.slice aW ws.length cW,.slice aP ps.length cP] 46)).alloc (.cells #[.slice bW ws.length dW,.slice bP ps.length dP] 46)):=by
  repeat (refine Below.alloc ?_ (by simp <;> omega) _)
  exact Below.refl _ _
 refine (znv _ _ ws _ (Rd.below H1.o hb0) (Rd.below H3.o hb0) hw).mono ?_;rintro e w1 ⟨rfl,hb1⟩
 have hz1:w.heap.size+2≤w1.heap.size:=by have:=hb1.size;simp at this;omega
 have V0:=(hb1.block w.heap.size (by simp <;> omega)).trans (zat (zah rfl));have V1:=(hb1.block (w.heap.size+1) (by simp <;> omega)).trans (zah (by simp));have B1:=hb0.trans (hb1.mono (by simp <;> omega));obtain ⟨x1,x2,_,_⟩:=zac V0;obtain ⟨y1,y2,_,_⟩:=zac V1;clear hb0 hb1 V0 V1;go_wp2_with fail;refine (zrb _ _ ps _ (Rd.below H2.o B1) (Rd.below H4.o B1) hp).mono ?_;rintro e w2 ⟨rfl,hb2⟩;go_wp2;go_ret;exact ⟨rfl,B1.trans (hb2.mono (by omega))⟩
theorem zyo (v:Value) (ws:List Int) (ps:List Se) (k0:Int) (lo hi:Nat) (w:World) (h:RowBlk w lo hi v ws ps) (hi1:hi≤w.heap.size) (hw:ws.length≤2147483648) (hp:ps.length≤2147483648) (h0:0≤k0) (h1:k0≤1073741824) :
  Calls Tryz.prog 48 #[v,.int .i64 k0] w fun e w'=>e=.returned (.int .i64 (k0+ws.length+2*ps.length))∧RowBlk w' lo hi v (zis k0 ws.length) (zeh (k0+ws.length) ps.length)∧Outside lo hi w w':=by
 obtain ⟨vW,vP,rfl,h1,h2⟩:=h;obtain ⟨_,aW,cW,rfl,_⟩:=h1.rd;obtain ⟨_,aP,cP,rfl,_⟩:=h2.rd;obtain ⟨e1,he1,h1⟩:=h1;have HE:=zaa he1;have H1:=zaa h1;have H2:=zaa h2;clear h1 h2 he1;go_enter Tryz.func48,Tryz.ntmps48;go_wp2_with fail;have hb0:Below w.heap.size w (w.alloc (.cells #[.slice aW ws.length cW,.slice aP ps.length cP] 46)):=(Below.refl _ _).alloc (Nat.le_refl _) _;refine (zmo _ _ (zeg ws) k0 lo hi _ (H1.o.below hb0 hi1) (fun u hu=>by simp only[zeg,List.mem_map] at hu;obtain ⟨z,_,rfl⟩:=hu;exact ⟨z,rfl⟩) hw h0 (by omega)).mono ?_;rintro e w1 ⟨rfl,hr1,hg1,hz1⟩;simp only[World.size_alloc] at hz1;have ho1:=Row.grown_outside H1.o hg1;have V0:=(ho1.block w.heap.size (by simp) (.inr hi1)).trans (zah rfl);obtain ⟨x1,x2,_,_⟩:=zac V0;have O1:=zaa ((Outside.of_below (lo:=lo) (hi:=hi) hb0).trans ho1);have R1:=zaa hr1;have R2:=zaa ((H2.o.below hb0 hi1).apart (H1.o.below hb0 hi1) (Ne.symm HE.o) hg1);clear hr1 hg1 ho1 V0;go_wp2_with fail;refine (zos _ _ (ses ps) (k0+ws.length) lo hi _ R2.o (yath ps) hp (by omega) (by omega)).mono ?_;rintro e w2 ⟨rfl,hr2,hg2,hz2⟩;have O2:=zaa (O1.o.trans (Row.grown_outside R2.o hg2));have R3:=zaa (R1.o.apart R2.o HE.o hg2);have R4:=zaa hr2;clear hr2 hg2;go_wp2;go_ret;refine ⟨rfl,⟨_,_,rfl,?_,?_⟩,O2.o⟩
 ·rw[zcq];exact ⟨e1,HE.o,R3.o⟩
 ·rw[zcx];exact R4.o
theorem yaac (v:Value) (n m:Nat) (k0:Int) (w:World) (h:RdBlk w v (zis k0 n) (zeh (k0+n) m)) (hw:n≤2147483648) (hp:m≤2147483648) (h0:0≤k0) (h1:k0≤1073741824) :
  Calls Tryz.prog 128 #[v,.int .i64 k0] w fun e w'=>e=.returned (.int .i64 (k0+n+2*m))∧Below w.heap.size w w':=by
 obtain ⟨vW,vP,rfl,h1,h2⟩:=h;obtain ⟨aW,cW,rfl,_⟩:=h1.shape;obtain ⟨aP,cP,rfl,_⟩:=h2.shape;simp only[zcq,zcx] at *;have H1:=zaa h1;have H2:=zaa h2;clear h1 h2;have hb0:Below w.heap.size w (w.alloc (.cells #[.slice aW n cW,.slice aP m cP] 46)):=(Below.refl _ _).alloc (Nat.le_refl _) _;go_enter Tryz.func128,Tryz.ntmps128;go_wp2_with fail;refine (zmi _ n k0 _ (Rd.below H1.o hb0) hw h0 (by omega)).mono ?_;rintro e w1 ⟨rfl,rfl⟩;go_wp2_with fail;refine (zof _ m (k0+n) _ (Rd.below H2.o hb0) hp (by omega) (by omega)).mono ?_;rintro e w2 ⟨rfl,rfl⟩;go_wp2;go_ret;exact ⟨rfl,hb0⟩
def zin (ws:List Int) (ps:List Se):Bool:=decide (ws.length=32∧ps.length≤400∧(∀ k (h:k < ws.length),zbb ws[k]=true)∧∀ k (h:k < ps.length),zmh ps[k].at_=true∧zbb ps[k].val=true)
theorem yaio {ws:List Int} {ps:List Se} (h1:ws.length=32) (h2:ps.length≤400) (h3:∀ k (h:k < ws.length),zbb ws[k]=true) (h4:∀ k (h:k < ps.length),zmh ps[k].at_=true∧zbb ps[k].val=true):zin ws ps=true:=decide_eq_true ⟨h1,h2,h3,h4⟩
theorem znd {ws:List Int} {ps:List Se} (h:zin ws ps=true):ws.length=32∧ps.length≤400:=⟨(of_decide_eq_true h).1,(of_decide_eq_true h).2.1⟩
theorem zvp {ws:List Int} {ps:List Se} (h:¬ ws.length=32):zin ws ps=false:=decide_eq_false (fun x=>h x.1)
theorem zwp {ws:List Int} {ps:List Se} (h:400 < ps.length):zin ws ps=false:=decide_eq_false (fun x=>absurd x.2.1 (by omega))
theorem yanr {ws:List Int} {ps:List Se} {k:Nat} (hk:k < ws.length) (h:zbb ws[k]=false):zin ws ps=false:=decide_eq_false (fun x=>by have:=x.2.2.1 k hk;rw[h] at this;cases this)
theorem yani {ws:List Int} {ps:List Se} {k:Nat} (hk:k < ps.length) (h:zmh ps[k].at_=false):zin ws ps=false:=decide_eq_false (fun x=>by have:=(x.2.2.2 k hk).1;rw[h] at this;cases this)
theorem yanw {ws:List Int} {ps:List Se} {k:Nat} (hk:k < ps.length) (h:zbb ps[k].val=false):zin ws ps=false:=decide_eq_false (fun x=>by have:=(x.2.2.2 k hk).2;rw[h] at this;cases this)
theorem zsy (v:Value) (ws:List Int) (ps:List Se) (w:World) (h:RdBlk w v ws ps) (hw:ws.length≤1048576) (hp:ps.length≤1048576) :
  Calls Tryz.prog 134 #[v] w fun e w'=>e=.returned (.bool (zin ws ps))∧Below w.heap.size w w':=by
 obtain ⟨vW,vP,rfl,h1,h2⟩:=h;obtain ⟨aW,cW,rfl,_,hcW⟩:=h1.shape;obtain ⟨aP,cP,rfl,_,hcP⟩:=h2.shape;clear h1 h2;have hb0:Below w.heap.size w (w.alloc (.cells #[.slice aW ws.length cW,.slice aP ps.length cP] 46)):=(Below.refl _ _).alloc (Nat.le_refl _) _
 by_cases c1:ws.length=32
 case neg =>
  have E:=zaa (zvp (ps:=ps) c1)
  have c1':((ws.length:Int) != 32)=true:=by simp;omega
  clear c1;go_enter Tryz.func134,Tryz.ntmps134;go_wp2;go_ret;exact ⟨zaf E.o.symm,hb0⟩
 have c1n:((ws.length:Int) != 32)=false:=by simp;omega
 have hpos:0 < ws.length:=by omega
 have C1:=zaa c1;clear c1
 by_cases c2:400 < ps.length
 ·have E:=zaa (zwp (ws:=ws) c2);go_enter Tryz.func134,Tryz.ntmps134;go_wp2;go_ret;exact ⟨zaf E.o.symm,hb0⟩
 obtain ⟨b,o,rfl,hbl,hcell⟩:=hcW hpos;clear hcW hpos;go_enter Tryz.func134,Tryz.ntmps134;go_wp2
 go_loop [3] (fun i=>∃ k:Nat,k≤ws.length∧i=.int .i64 k∧Hid (∀ j (h:j < ws.length),j < k→zbb ws[j]=true)) (fun i=>ws.length - (intOf i).toNat)
 case atStart=>exact ⟨0,by omega,rfl,fun j h a=>absurd a (by omega)⟩
 case round =>
  obtain ⟨k,hk,rfl,H⟩:=hrel
  by_cases hlt:k < ws.length
  ·have hck:=(hb0.cell (p:=⟨b,o+k,none⟩) hbl).trans (hcell k hlt);clear hcell hcP
   by_cases q:zbb ws[k]=true
   ·go_wp2_with (go_at_call 138;refine (zbv _ _).mono ?_;rintro e w' ⟨rfl,rfl⟩)
    go_round
    case rel =>
     refine ⟨k+1,by omega,by go_num,fun j h a=>?_⟩
     by_cases e:j=k
     ·subst e;exact q
     ·exact H.o j h (by omega)
    case measure=>simp[intOf];omega
   ·have q':zbb ws[k]=false:=by simpa using q
    have E:=zaa (yanr (ps:=ps) hlt q');go_wp2_with (go_at_call 138;refine (zbv _ _).mono ?_;rintro e w' ⟨rfl,rfl⟩);go_ret;exact ⟨zaf E.o.symm,hb0⟩
  ·have HW:=zaa (fun j (h:j < ws.length)=>H.o j h (by omega));clear H hcell;go_wp2
   go_loop [4] (fun i=>∃ k:Nat,k≤ps.length∧i=.int .i64 k∧Hid (∀ j (h:j < ps.length),j < k→zmh ps[j].at_=true∧zbb ps[j].val=true)) (fun i=>ps.length - (intOf i).toNat)
   case atStart=>exact ⟨0,by omega,rfl,fun j h a=>absurd a (by omega)⟩
   case round =>
    obtain ⟨m,hm,rfl,H⟩:=hrel
    by_cases hlt2:m < ps.length
    ·obtain ⟨b2,o2,rfl,hbl2,hcell2⟩:=hcP (by omega);obtain ⟨d0,d1⟩:=hcell2 m hlt2;have e0:=(hb0.cell (p:=⟨b2,o2+m*2,none⟩) hbl2).trans d0;have e1:=(hb0.cell (p:=⟨b2,o2+m*2+1,none⟩) hbl2).trans d1;clear d0 d1 hcell2 hcP
     by_cases q:zmh ps[m].at_=true
     ·by_cases q2:zbb ps[m].val=true
      ·go_wp2_with (first | (go_at_call 78;refine (zia _ _).mono ?_;rintro e w' ⟨rfl,rfl⟩) | (go_at_call 138;refine (zbv _ _).mono ?_;rintro e w' ⟨rfl,rfl⟩))
       go_round
       case rel =>
        refine ⟨m+1,by omega,by go_num,fun j h a=>?_⟩
        by_cases e:j=m
        ·subst e;exact ⟨q,q2⟩
        ·exact H.o j h (by omega)
       case measure=>simp[intOf];omega
      ·have q2':zbb ps[m].val=false:=by simpa using q2
       have E:=zaa (yanw (ws:=ws) hlt2 q2');go_wp2_with (first | (go_at_call 78;refine (zia _ _).mono ?_;rintro e w' ⟨rfl,rfl⟩) | (go_at_call 138;refine (zbv _ _).mono ?_;rintro e w' ⟨rfl,rfl⟩));go_ret;exact ⟨zaf E.o.symm,hb0⟩
     ·have q':zmh ps[m].at_=false:=by simpa using q
      have E:=zaa (yani (ws:=ws) hlt2 q');go_wp2_with (first | (go_at_call 78;refine (zia _ _).mono ?_;rintro e w' ⟨rfl,rfl⟩) | (go_at_call 138;refine (zbv _ _).mono ?_;rintro e w' ⟨rfl,rfl⟩));go_ret;exact ⟨zaf E.o.symm,hb0⟩
    ·have E:=zaa (yaio C1.o (by omega) HW.o (fun j h=>H.o j h (by omega)));go_wp2;go_ret;exact ⟨zaf E.o.symm,hb0⟩
def seB (s:Se):Bool:=zmh s.at_ && zbb s.val
theorem yakk {s:Se} (h:seB s=true):zmh s.at_=true∧zbb s.val=true:=by unfold seB at h;simpa using h
theorem yafh {s:Se} {p:Prop} (h:seB s=false) (h1:zmh s.at_=false→p) (h2:zbb s.val=false→p):p:=by
 unfold seB at h;rw[Bool.and_eq_false_iff] at h;exact h.elim h1 h2
def sesB (ps:List Se):Bool:=decide (∀ k (h:k < ps.length),seB ps[k]=true)
theorem yagl {ps:List Se} (h:sesB ps=true):∀ k (h:k < ps.length),seB ps[k]=true:=of_decide_eq_true h
theorem yaji {ps:List Se} (h:∀ k (h:k < ps.length),seB ps[k]=true):sesB ps=true:=decide_eq_true h
theorem yakm {ps:List Se} {k:Nat} (hk:k < ps.length) (h:seB ps[k]=false):sesB ps=false:=decide_eq_false (fun x=>by have:=x k hk;rw[h] at this;cases this)
theorem yaqd {ps:List Se} (h:sesB ps=false):∃ k,∃ h:k < ps.length,seB ps[k]=false:=by
 apply Classical.byContradiction;intro hn
 have:sesB ps=true:=yaji (fun k hk=>by
  cases e:seB ps[k] with
  | true=>rfl
  | false=>exact absurd ⟨k,hk,e⟩ hn)
 rw[h] at this
 cases this
theorem zpo (s:Se) (w:World):Calls Tryz.prog 158 #[.agg #[.int .i64 s.at_,.int .i64 s.val]] w fun e w'=>e=.returned (.bool (seB s))∧Below w.heap.size w w':=by
 have hb0:Below w.heap.size w (w.alloc (.cells #[.int .i64 s.at_,.int .i64 s.val] 193)):=(Below.refl _ _).alloc (Nat.le_refl _) _
 by_cases q:zmh s.at_=true
 ·have E:=zaa (show seB s=zbb s.val by unfold seB;rw[q];rfl);have Q:=zaa q;clear q;go_enter Tryz.func158,Tryz.ntmps158;go_wp2_with (first | (go_at_call 231;refine (zdz _ _).mono ?_;rw[Q.o];rintro e w' ⟨rfl,rfl⟩) | (go_at_call 156;refine (zdo _ _).mono ?_;rintro e w' ⟨rfl,rfl⟩));go_ret;exact ⟨zaf E.o.symm,hb0⟩
 ·have q':zmh s.at_=false:=by simpa using q
  have E:=zaa (show seB s=false by unfold seB;rw[q'];rfl);have Q:=zaa q';clear q q';go_enter Tryz.func158,Tryz.ntmps158;go_wp2_with (go_at_call 231;refine (zdz _ _).mono ?_;rw[Q.o];rintro e w' ⟨rfl,rfl⟩);go_ret;exact ⟨zaf E.o.symm,hb0⟩
theorem ziv (v:Value) (ps:List Se) (w:World) (h:RdE w v ps) (hn:ps.length≤1048576) :
  Calls Tryz.prog 157 #[v,.func (.func 158) #[] #[]] w fun e w'=>e=.returned (.bool (sesB ps))∧Below w.heap.size w w':=by
 obtain ⟨aP,cP,rfl,_,hcP⟩:=h.shape;clear h;go_enter Tryz.func157,Tryz.ntmps157;go_wp2
 go_loopw [6,9] (fun _ i wr=>∃ k:Nat,k≤ps.length∧i=.int .i64 k∧Hid (∀ j (h:j < ps.length),j < k→seB ps[j]=true)∧Below w.heap.size w wr) (fun _ i _=>ps.length - (intOf i).toNat)
 case atStart=>exact ⟨0,by omega,rfl,fun j h a=>absurd a (by omega),Below.refl _ _⟩
 case round =>
  obtain ⟨m,hm,rfl,H,hbw⟩:=hrel;have hz:=hbw.size
  by_cases hlt2:m < ps.length
  ·obtain ⟨b2,o2,rfl,hbl2,hcell2⟩:=hcP (by omega);obtain ⟨d0,d1⟩:=hcell2 m hlt2;have e0:=(hbw.cell (p:=⟨b2,o2+m*2,none⟩) hbl2).trans d0;have e1:=(hbw.cell (p:=⟨b2,o2+m*2+1,none⟩) hbl2).trans d1;have hb1:=zaa (hbw.alloc hz (.cells #[.int .i64 ps[m].at_,.int .i64 ps[m].val] 193));clear d0 d1 hcell2 hcP
   by_cases q:seB ps[m]=true
   ·have Q:=zaa q;clear q;go_wp2_with (go_at_call 158;refine (zpo ps[m] _).mono ?_;rw[Q.o];rintro e w' ⟨rfl,hw'⟩);have hw2:=hb1.o.trans (hw'.mono (by simp;omega));clear hb1 hw'
    go_roundw
    case rel =>
     refine ⟨m+1,by omega,by go_num,fun j h a=>?_,hw2⟩
     by_cases e:j=m
     ·subst e;exact Q.o
     ·exact H.o j h (by omega)
    case measure=>simp[intOf];omega
   ·have Q:=zaa (show seB ps[m]=false by simpa using q);have E:=zaa (yakm hlt2 Q.o);clear q;go_wp2_with (go_at_call 158;refine (zpo ps[m] _).mono ?_;rw[Q.o];rintro e w' ⟨rfl,hw'⟩);have hw2:=hb1.o.trans (hw'.mono (by simp;omega));go_ret;exact ⟨zaf E.o.symm,hw2⟩
  ·have E:=zaa (yaji (fun j h=>H.o j h (by omega)));go_wp2;go_ret;exact ⟨zaf E.o.symm,hbw⟩
theorem zem (v:Value) (ws:List Int) (ps:List Se) (w:World) (h:RdBlk w v ws ps) (hw:ws.length≤1048576) (hp:ps.length≤1048576) :
  Calls Tryz.prog 87 #[v] w fun e w'=>e=.returned (.bool (zin ws ps))∧Below w.heap.size w w':=by
 obtain ⟨vW,vP,rfl,h1,h2⟩:=h;obtain ⟨aW,cW,rfl,_,hcW⟩:=h1.shape;obtain ⟨aP,cP,rfl,_,hcP⟩:=h2.shape;have H1:=zaa h1;have H2:=zaa h2;clear h1 h2 hcW hcP;have hb0:Below w.heap.size w (w.alloc (.cells #[.slice aW ws.length cW,.slice aP ps.length cP] 46)):=(Below.refl _ _).alloc (Nat.le_refl _) _;have HB:=zaa hb0
 by_cases c1:ws.length=32
 case neg =>
  have E:=zaa (zvp (ps:=ps) c1)
  have c1':((ws.length:Int) == 32)=false:=by rw[beq_eq_false_iff_ne];omega
  clear c1;go_enter Tryz.func87,Tryz.ntmps87;go_wp2;go_ret;exact ⟨zaf E.o.symm,HB.o⟩
 have c1n:((ws.length:Int) == 32)=true:=by simp;omega
 have C1:=zaa c1;clear c1
 by_cases c2:400 < ps.length
 ·have E:=zaa (zwp (ws:=ws) c2)
  have c2':decide ((ps.length:Int)≤400)=false:=by simp;omega
  go_enter Tryz.func87,Tryz.ntmps87;go_wp2;go_ret;exact ⟨zaf E.o.symm,HB.o⟩
 by_cases c3:ziu ws=true
 case neg =>
  have c3':ziu ws=false:=by simpa using c3
  obtain ⟨k,hk,hkf⟩:=zvk c3';have E:=zaa (yanr (ps:=ps) hk hkf);have W0:=zaa c3';clear c3 c3' hkf hk;go_enter Tryz.func87,Tryz.ntmps87;go_wp2_with (go_at_call 155;refine (zcw _ ws _ (Rd.below H1.o HB.o) (by omega)).mono ?_;rw[W0.o];rintro e w' ⟨rfl,rfl⟩);go_ret;exact ⟨zaf E.o.symm,HB.o⟩
 have HW:=zaa (zob c3);have W1:=zaa c3;clear c3
 cases c4:sesB ps with
 | true =>
  have E:=zaa (yaio C1.o (by omega) HW.o (fun j h=>yakk (yagl c4 j h)));have W2:=zaa c4;clear c4;go_enter Tryz.func87,Tryz.ntmps87;go_wp2_with (first | (go_at_call 155;refine (zcw _ ws _ (Rd.below H1.o HB.o) (by omega)).mono ?_;rw[W1.o];rintro e w' ⟨rfl,rfl⟩) | (go_at_call 157;refine (ziv _ ps _ (Rd.below H2.o HB.o) (by omega)).mono ?_;rw[W2.o];rintro e w' ⟨rfl,hw'⟩));go_ret;exact ⟨zaf E.o.symm,HB.o.trans (hw'.mono (by simp))⟩
 | false =>
  obtain ⟨k,hk,hkf⟩:=yaqd c4;have E:=zaa (show zin ws ps=false from yafh hkf (yani (ws:=ws) hk) (yanw (ws:=ws) hk));have W2:=zaa c4;clear c4 hk hkf;go_enter Tryz.func87,Tryz.ntmps87;go_wp2_with (first | (go_at_call 155;refine (zcw _ ws _ (Rd.below H1.o HB.o) (by omega)).mono ?_;rw[W1.o];rintro e w' ⟨rfl,rfl⟩) | (go_at_call 157;refine (ziv _ ps _ (Rd.below H2.o HB.o) (by omega)).mono ?_;rw[W2.o];rintro e w' ⟨rfl,hw'⟩));go_ret;exact ⟨zaf E.o.symm,HB.o.trans (hw'.mono (by simp))⟩
def zuc (ws:List Int) (ps:List Se) (at_:Int):Int:=if zin ws ps=false then 1 else if zmh at_=false then 14 else 0
theorem yaae {ws:List Int} {ps:List Se} {at_:Int} (h:zin ws ps=false):zuc ws ps at_=1:=by unfold zuc;rw[if_pos h]
theorem zru {ws:List Int} {ps:List Se} {at_:Int} (h:zin ws ps=true) (h2:zmh at_=false):zuc ws ps at_=14:=by unfold zuc;rw[if_neg (by rw[h];simp),if_pos h2]
theorem yagr {ws:List Int} {ps:List Se} {at_:Int} (h:zin ws ps=true) (h2:zmh at_=true):zuc ws ps at_=0:=by unfold zuc;rw[if_neg (by rw[h];simp),if_neg (by rw[h2];simp)]
theorem zhx (v:Value) (ws:List Int) (ps:List Se) (at_:Int) (w:World) (h:RdBlk w v ws ps) (hw:ws.length≤1048576) (hp:ps.length≤1048576) :
  Calls Tryz.prog 240 #[v,.int .i64 at_] w fun e w'=>e=.returned (.int .i64 (zuc ws ps at_))∧Below w.heap.size w w':=by
 have HR:=zaa h;obtain ⟨vW,vP,rfl,h1,h2⟩:=h;obtain ⟨aW,cW,rfl,_⟩:=h1.shape;obtain ⟨aP,cP,rfl,_⟩:=h2.shape;clear h1 h2;have hb0:Below w.heap.size w (w.alloc (.cells #[.slice aW ws.length cW,.slice aP ps.length cP] 46)):=(Below.refl _ _).alloc (Nat.le_refl _) _
 by_cases c1:zin ws ps=true
 ·by_cases c2:zmh at_=true
  ·rw[yagr c1 c2];go_enter Tryz.func240,Tryz.ntmps240;go_wp2_with (first | (go_at_call 87;refine (zem _ ws ps _ (HR.o.below hb0) hw hp).mono ?_;rintro e w1 ⟨rfl,hb1⟩) | (go_at_call 231;refine (zdz _ _).mono ?_;rintro e w2 ⟨rfl,rfl⟩));go_ret;exact ⟨rfl,zab hb0 hb1 (by simp)⟩
  ·have c2':zmh at_=false:=by simpa using c2
   rw[zru c1 c2'];clear c2;go_enter Tryz.func240,Tryz.ntmps240;go_wp2_with (first | (go_at_call 87;refine (zem _ ws ps _ (HR.o.below hb0) hw hp).mono ?_;rintro e w1 ⟨rfl,hb1⟩) | (go_at_call 231;refine (zdz _ _).mono ?_;rintro e w2 ⟨rfl,rfl⟩));go_ret;exact ⟨rfl,zab hb0 hb1 (by simp)⟩
 ·have c1':zin ws ps=false:=by simpa using c1
  rw[yaae c1'];clear c1;go_enter Tryz.func240,Tryz.ntmps240;go_wp2_with (first | (go_at_call 87;refine (zem _ ws ps _ (HR.o.below hb0) hw hp).mono ?_;rintro e w1 ⟨rfl,hb1⟩) | (go_at_call 231;refine (zdz _ _).mono ?_;rintro e w2 ⟨rfl,rfl⟩));go_ret;exact ⟨rfl,zab hb0 hb1 (by simp)⟩
def zgc (at_ d:Int) (ps:List Se):Int:=ps.foldl (fun acc p=>if p.at_=at_ then p.val else acc) d
theorem zfw {at_ d:Int}:∀ {ps:List Se},(∀ p∈ps,¬ p.at_=at_)→zgc at_ d ps=d
 | [],_=>rfl
 | p :: ps,h=>by
  show zgc at_ (if p.at_=at_ then p.val else d) ps=d
  rw[if_neg (h p (by simp))];exact zfw (fun q hq=>h q (by simp[hq]))
theorem zvm (at_ d:Int) (ps qs:List Se):zgc at_ d (ps ++ qs)=zgc at_ (zgc at_ d ps) qs:=by simp[zgc]
theorem yahj {at_ d:Int} {ps:List Se} {k:Nat} (hk:k < ps.length) (h:ps[k].at_=at_) (ha:∀ j (hj:j < ps.length),k < j→¬ ps[j].at_=at_):zgc at_ d ps=ps[k].val:=by
 have e:ps=ps.take k ++ (ps[k] :: ps.drop (k+1)):=by rw[← List.drop_eq_getElem_cons hk,List.take_append_drop]
 conv=>lhs;rw[e]
 rw[zvm]
 show zgc at_ (if ps[k].at_=at_ then ps[k].val else _) (ps.drop (k+1))=_
 rw[if_pos h];apply zfw;intro p hp;obtain ⟨i,hi,rfl⟩:=List.getElem_of_mem hp;rw[List.getElem_drop];exact ha _ _ (by omega)
theorem zxm (v:Value) (ws:List Int) (ps:List Se) (at_:Nat) (w:World) (h:RdBlk w v ws ps) (hw:ws.length≤1048576) (hp:ps.length≤1048576) (ha:at_ < ws.length) :
  Calls Tryz.prog 221 #[v,.int .i64 (at_:Int)] w fun e w'=>e=.returned (.int .i64 (zgc (at_:Int) ws[at_] ps))∧Below w.heap.size w w':=by
 obtain ⟨vW,vP,rfl,h1,h2⟩:=h;obtain ⟨aW,cW,rfl,_,hcW⟩:=h1.shape;obtain ⟨aP,cP,rfl,_,hcP⟩:=h2.shape;clear h1 h2;obtain ⟨bW,oW,rfl,hbW,hcellW⟩:=hcW (by omega);have hb0:Below w.heap.size w (w.alloc (.cells #[.slice (some ⟨bW,oW,none⟩) ws.length cW,.slice aP ps.length cP] 46)):=(Below.refl _ _).alloc (Nat.le_refl _) _;have hcw:=(hb0.cell (p:=⟨bW,oW+at_,none⟩) hbW).trans (hcellW at_ ha);clear hcW hcellW;go_enter Tryz.func221,Tryz.ntmps221;go_wp2
 go_loop [5] (fun i=>∃ k:Nat,k≤ps.length∧i=.int .i64 ((k:Int) - 1)∧Hid (∀ j (h:j < ps.length),k≤j→¬ ps[j].at_=(at_:Int))) (fun i=>(intOf i+1).toNat)
 case atStart=>exact ⟨ps.length,Nat.le_refl _,rfl,fun j h a=>absurd h (by omega)⟩
 case round =>
  obtain ⟨k,hk,rfl,H⟩:=hrel
  cases k with
  | zero =>
   have E:=zaa (zfw (d:=ws[at_]) (fun p hp=>by obtain ⟨i,hi,rfl⟩:=List.getElem_of_mem hp;exact H.o i hi (by omega)));clear H hcP;go_wp2;go_ret;exact ⟨zcd E.o.symm,hb0⟩
  | succ m =>
   have em:(((m+1:Nat):Int) - 1)=(m:Int):=by omega
   rw[em];clear em;obtain ⟨b,o,rfl,hbl,hcell⟩:=hcP (by omega);obtain ⟨d0,d1⟩:=hcell m (by omega);have e0:=(hb0.cell (p:=⟨b,o+m*2,none⟩) hbl).trans d0;have e1:=(hb0.cell (p:=⟨b,o+m*2+1,none⟩) hbl).trans d1;clear d0 d1 hcell hcP
   have hm:m < ps.length:=by omega
   by_cases c:ps[m].at_=(at_:Int)
   ·have c':(ps[m].at_ == (at_:Int))=true:=by simpa using c
    have E:=zaa (yahj (d:=ws[at_]) hm c (fun j hj hlt=>H.o j hj (by omega)));clear H c;go_wp2;go_ret;exact ⟨zcd E.o.symm,hb0⟩
   ·have c':(ps[m].at_ == (at_:Int))=false:=by simpa using c
    have C:=zaa c;clear c;go_wp2
    go_round
    case rel =>
     refine ⟨m,by omega,by go_num,fun j hj hle=>?_⟩
     by_cases e:j=m
     ·subst e;exact C.o
     ·exact H.o j hj (by omega)
    case measure=>simp[intOf] <;> omega
def zyu (ws:List Int) (ps:List Se) (at_:Int):Int:=if zuc ws ps at_=0 then zgc at_ (ws[at_.toNat]?.getD 0) ps else 0
theorem yahw {ws:List Int} {ps:List Se} {at_:Int} (h:¬ zuc ws ps at_=0):zyu ws ps at_=0:=by unfold zyu;rw[if_neg h]
theorem yaks {ws:List Int} {ps:List Se} {k:Nat} (h:zuc ws ps (k:Int)=0) (hk:k < ws.length):zyu ws ps (k:Int)=zgc (k:Int) ws[k] ps:=by
 unfold zyu;rw[if_pos h];simp[hk]
theorem yact (ws:List Int) (ps:List Se) (at_:Int):(zuc ws ps at_=1∨zuc ws ps at_=14)∨(zuc ws ps at_=0∧zin ws ps=true∧∃ k:Nat,at_=(k:Int)∧k < 32∧k < ws.length):=by
 by_cases c1:zin ws ps=true
 ·by_cases c2:zmh at_=true
  ·have:=yaga c2;have hl:=(znd c1).1;exact .inr ⟨yagr c1 c2,c1,at_.toNat,by omega,by omega,by omega⟩
  ·exact .inl (.inr (zru c1 (by simpa using c2)))
 ·exact .inl (.inl (yaae (by simpa using c1)))
def pgV (ws:List Int) (ps:List St) (es:List Int) (qs:List Se) (e:Int):Int:=if e % 4=1 then ldW ws ps (312+e / 4).toNat else if e % 4=2 then zgc (e / 4) (es[(e / 4).toNat]?.getD 0) qs else 0
def flI (ns:List Ino) (ds:List Den) (s:ByteArray):Int×Int:=if (lkI ns ds s).2=0 then (if zai ns (lkI ns ds s).1=1 then ((lkI ns ds s).1,0) else (0,9)) else (0,(lkI ns ds s).2)
def zff (ns:List Ino) (z:Int):Int:=(zci ns z.toNat).size
def zop (ns:List Ino) (z:Int) (p:Int):Int:=(zci ns z.toNat).map.getD p.toNat 0
def rpF (ws:List Int) (ps:List St) (es:List Int) (qs:List Se) (ns:List Ino) (i page:Int):Int×Int:=if 0≤page∧page < zff ns i then (pgV ws ps es qs (zop ns i page),0) else (0,4)
def rpI (ws:List Int) (ps:List St) (es:List Int) (qs:List Se) (ns:List Ino) (ds:List Den) (s:ByteArray) (page:Int):Int×Int:=if (flI ns ds s).2=0 then rpF ws ps es qs ns (flI ns ds s).1 page else (0,(flI ns ds s).2)
def dvB (ws:List Int) (ps:List St) (es:List Int) (qs:List Se):Bool:=(pmB ws ps && zin es qs) && riB (zcj ws ps)
def rpR (ws:List Int) (ps:List St) (es:List Int) (qs:List Se) (s:ByteArray) (page:Int):Int×Int:=if 65536 < s.size then (0,2) else if dvB ws ps es qs=true then rpI ws ps es qs (zbk (zcj ws ps) 16) (zbq (zcj ws ps) 24) s page else (0,1)
def fpI (ns:List Ino):Int:=zas (fun i=>!zeq (zaw (zam ns) 1) (i:Int)) 24
def fsI (ns:List Ino):Int:=zas (fun i=>!zeq (zaw (zam ns) 2) (i:Int)) 32
def wrS (ns:List Ino) (x:Int):List Mi:=if 0≤fpI ns then ⟨1,312+fpI ns,x⟩ :: zbf [312+fpI ns] else [⟨4,fsI ns,x⟩,⟨5,0,0⟩]
def wrE (ns:List Ino):Int:=if 0≤fpI ns then 4*fpI ns+1 else 4*fsI ns+2
def wrU (i page size e:Int):List Se:=⟨48+12*i+(3+page),e⟩ :: (if size≤page then [⟨48+12*i+1,page+1⟩] else [])
def wrF (ns:List Ino) (i page x:Int):List Mi×Int:=if (0≤page∧page < 8)∧zbb x=true then (if fpI ns < 0∧fsI ns < 0 then ([],7) else (wrS ns x ++ zdg (zdx (wrU i page (zff ns i) (wrE ns))),0)) else ([],4)
def wrI (ns:List Ino) (ds:List Den) (s:ByteArray) (page x:Int):List Mi×Int:=if (flI ns ds s).2=0 then wrF ns (flI ns ds s).1 page x else ([],(flI ns ds s).2)
def wrR (ws:List Int) (ps:List St) (es:List Int) (qs:List Se) (s:ByteArray) (page x:Int):List Mi×Int:=if 65536 < s.size then ([],2) else if dvB ws ps es qs=true then wrI (zbk (zcj ws ps) 16) (zbq (zcj ws ps) 24) s page x else ([],1)
def cuT (zs:List Int) (i:Int) (n k:Nat):List Se:=((List.range k).filter fun j=>decide (n≤j) && !(zs.getD j 0 == 0)).map fun (j:Nat)=>⟨48+12*i+(3+(j:Int)),0⟩
def cuU (zs:List Int) (i:Int) (n k:Nat):List Se:=⟨48+12*i+1,(n:Int)⟩ :: cuT zs i n k
def cuF (ns:List Ino) (i size:Int):List Se×Int:=if 0≤size∧size≤8 then (cuU (zci ns i.toNat).map i size.toNat 8,0) else ([],4)
def cuI (ns:List Ino) (ds:List Den) (s:ByteArray) (size:Int):List Se×Int:=if (flI ns ds s).2=0 then cuF ns (flI ns ds s).1 size else ([],(flI ns ds s).2)
def cuR (ns:List Ino) (ds:List Den) (s:ByteArray) (size:Int):List Se×Int:=if 65536 < s.size then ([],2) else if zay ns ds=true then cuI ns ds s size else ([],1)
theorem yafd {zs:List Int} {i:Int} {n k:Nat} (h:n≤k) (e:¬ zs.getD k 0=0):cuT zs i n (k+1)=cuT zs i n k ++ [⟨48+12*i+(3+(k:Int)),0⟩]:=by
 unfold cuT;rw[List.range_succ,List.filter_append,List.map_append]
 congr 1
 rw[List.filter_cons_of_pos (by rw[decide_eq_true h];simpa using e)];rfl
theorem yanj {zs:List Int} {i:Int} {n k:Nat} (e:zs.getD k 0=0):cuT zs i n (k+1)=cuT zs i n k:=by
 unfold cuT;rw[List.range_succ,List.filter_append,List.map_append,List.filter_cons_of_neg (by rw[e];simp)];simp
theorem zvf (zs:List Int) (i:Int) (n:Nat):cuT zs i n n=[]:=by
 unfold cuT;rw[List.filter_eq_nil_iff.2 (fun j hj=>by have:=List.mem_range.1 hj;simp;omega)];rfl
theorem zxz (zs:List Int) (i:Int) (n k:Nat):(cuT zs i n k).length≤k:=by
 unfold cuT;rw[List.length_map];refine Nat.le_trans (List.length_filter_le _ _) ?_;rw[List.length_range];exact Nat.le_refl _
theorem yarg {zs:List Int} {i n k:Nat} (hi:i < 16) (hk:k≤8):UpIn (cuT zs (i:Int) n k):=fun u hu=>by
 unfold cuT at hu;obtain ⟨j,hm,rfl⟩:=List.mem_map.1 hu;have:=List.mem_range.1 (List.mem_filter.1 hm).1;exact ⟨by show 48≤48+12*(i:Int)+(3+(j:Int));omega,by show 48+12*(i:Int)+(3+(j:Int)) < 312;omega⟩
theorem zlh {ns:List Ino} {ds:List Den} {s:ByteArray} (I:Img ns ds) (h:(flI ns ds s).2=0):∃ i:Nat,i < 16∧(flI ns ds s).1=(i:Int)∧(zci ns i).kind=1:=by
 unfold flI at h ⊢
 by_cases c:(lkI ns ds s).2=0
 ·rw[if_pos c] at h ⊢
  by_cases d:zai ns (lkI ns ds s).1=1
  ·rw[if_pos d];obtain ⟨i,e,hi,_,k⟩:=zne I c (by rw[d];omega);exact ⟨i,hi,e,k⟩
  ·rw[if_neg d] at h;simp at h
 ·rw[if_neg c] at h;exact absurd h c
end Go.Proofs.YtehnphoeplmpdaaGreatDoor
