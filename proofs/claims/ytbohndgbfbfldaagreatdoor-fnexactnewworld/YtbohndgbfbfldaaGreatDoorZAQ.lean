/- Several texts laid together: BlkOKI, BlkRead. -/
import Derived.Test.YtbohndgbfbfldaaGreatDoorZAN
import Derived.Test.YtbohndgbfbfldaaGreatDoorZAP
set_option maxHeartbeats 4000000
namespace Go.Proofs.YtbohndgbfbfldaaGreatDoor
open Go.RowKit
def seB (s:Se):Bool:=zgi s.at_ && zar s.val
theorem zzr {s:Se} (h:seB s=true):zgi s.at_=true∧zar s.val=true:=by unfold seB at h;simpa using h
theorem zte {s:Se} {p:Prop} (h:seB s=false) (h1:zgi s.at_=false→p) (h2:zar s.val=false→p):p:=by
 unfold seB at h;rw[Bool.and_eq_false_iff] at h;exact h.elim h1 h2
def sesB (ps:List Se):Bool:=decide (∀ k (h:k < ps.length),seB ps[k]=true)
theorem zws {ps:List Se} (h:sesB ps=true):∀ k (h:k < ps.length),seB ps[k]=true:=of_decide_eq_true h
theorem ztk {ps:List Se} (h:∀ k (h:k < ps.length),seB ps[k]=true):sesB ps=true:=decide_eq_true h
theorem zze {ps:List Se} {k:Nat} (hk:k < ps.length) (h:seB ps[k]=false):sesB ps=false:=decide_eq_false (fun x=>by have:=x k hk;rw[h] at this;cases this)
theorem yact {ps:List Se} (h:sesB ps=false):∃ k,∃ h:k < ps.length,seB ps[k]=false:=by
 apply Classical.byContradiction;intro hn
 have:sesB ps=true:=ztk (fun k hk=>by
  cases e:seB ps[k] with
  | true=>rfl
  | false=>exact absurd ⟨k,hk,e⟩ hn)
 rw[h] at this
 cases this
theorem zij (s:Se) (w:World):Calls Tryz.prog 181 #[.agg #[.int .i64 s.at_,.int .i64 s.val]] w fun e w'=>e=.returned (.bool (seB s))∧Below w.heap.size w w':=by
 have hb0:Below w.heap.size w (w.alloc (.cells #[.int .i64 s.at_,.int .i64 s.val] 208)):=(Below.refl _ _).alloc (Nat.le_refl _) _
 by_cases q:zgi s.at_=true
 ·have E:=zaa (show seB s=zar s.val by unfold seB;rw[q];rfl);have Q:=zaa q;clear q;go_enter Tryz.func181,Tryz.ntmps181;go_wp2_with (first | (go_at_call 205;refine (zcf _ _).mono ?_;rw[Q.o];rintro e w' ⟨rfl,rfl⟩) | (go_at_call 151;refine (zed _ _).mono ?_;rintro e w' ⟨rfl,rfl⟩));go_ret;exact ⟨zad E.o.symm,hb0⟩
 ·have q':zgi s.at_=false:=by simpa using q
  have E:=zaa (show seB s=false by unfold seB;rw[q'];rfl);have Q:=zaa q';clear q q';go_enter Tryz.func181,Tryz.ntmps181;go_wp2_with (go_at_call 205;refine (zcf _ _).mono ?_;rw[Q.o];rintro e w' ⟨rfl,rfl⟩);go_ret;exact ⟨zad E.o.symm,hb0⟩
theorem zel (v:Value) (ps:List Se) (w:World) (h:RdE w v ps) (hn:ps.length≤1048576) :
  Calls Tryz.prog 180 #[v,.func (.func 181) #[] #[]] w fun e w'=>e=.returned (.bool (sesB ps))∧Below w.heap.size w w':=by
 obtain ⟨aP,cP,rfl,_,hcP⟩:=h.shape;clear h;go_enter Tryz.func180,Tryz.ntmps180;go_wp2
 go_loopw [6,9] (fun _ i wr=>∃ k:Nat,k≤ps.length∧i=.int .i64 k∧Hid (∀ j (h:j < ps.length),j < k→seB ps[j]=true)∧Below w.heap.size w wr) (fun _ i _=>ps.length - (intOf i).toNat)
 case atStart=>exact ⟨0,by omega,rfl,fun j h a=>absurd a (by omega),Below.refl _ _⟩
 case round =>
  obtain ⟨m,hm,rfl,H,hbw⟩:=hrel;have hz:=hbw.size
  by_cases hlt2:m < ps.length
  ·obtain ⟨b2,o2,rfl,hbl2,hcell2⟩:=hcP (by omega);obtain ⟨d0,d1⟩:=hcell2 m hlt2;have e0:=(hbw.cell (p:=⟨b2,o2+m*2,none⟩) hbl2).trans d0;have e1:=(hbw.cell (p:=⟨b2,o2+m*2+1,none⟩) hbl2).trans d1;have hb1:=zaa (hbw.alloc hz (.cells #[.int .i64 ps[m].at_,.int .i64 ps[m].val] 208));clear d0 d1 hcell2 hcP
   by_cases q:seB ps[m]=true
   ·have Q:=zaa q;clear q;go_wp2_with (go_at_call 181;refine (zij ps[m] _).mono ?_;rw[Q.o];rintro e w' ⟨rfl,hw'⟩);have hw2:=hb1.o.trans (hw'.mono (by simp;omega));clear hb1 hw'
    go_roundw
    case rel =>
     refine ⟨m+1,by omega,by go_num,fun j h a=>?_,hw2⟩
     by_cases e:j=m
     ·subst e;exact Q.o
     ·exact H.o j h (by omega)
    case measure=>simp[intOf];omega
   ·have Q:=zaa (show seB ps[m]=false by simpa using q);have E:=zaa (zze hlt2 Q.o);clear q;go_wp2_with (go_at_call 181;refine (zij ps[m] _).mono ?_;rw[Q.o];rintro e w' ⟨rfl,hw'⟩);have hw2:=hb1.o.trans (hw'.mono (by simp;omega));go_ret;exact ⟨zad E.o.symm,hw2⟩
  ·have E:=zaa (ztk (fun j h=>H.o j h (by omega)));go_wp2;go_ret;exact ⟨zad E.o.symm,hbw⟩
theorem zcm (v:Value) (ws:List Int) (ps:List Se) (w:World) (h:RdBlk w v ws ps) (hw:ws.length≤1048576) (hp:ps.length≤1048576) :
  Calls Tryz.prog 136 #[v] w fun e w'=>e=.returned (.bool (zfa ws ps))∧Below w.heap.size w w':=by
 obtain ⟨vW,vP,rfl,h1,h2⟩:=h;obtain ⟨aW,cW,rfl,_,hcW⟩:=h1.shape;obtain ⟨aP,cP,rfl,_,hcP⟩:=h2.shape;have H1:=zaa h1;have H2:=zaa h2;clear h1 h2 hcW hcP;have hb0:Below w.heap.size w (w.alloc (.cells #[.slice aW ws.length cW,.slice aP ps.length cP] 28)):=(Below.refl _ _).alloc (Nat.le_refl _) _;have HB:=zaa hb0
 by_cases c1:ws.length=32
 case neg =>
  have E:=zaa (znc (ps:=ps) c1)
  have c1':((ws.length:Int) == 32)=false:=by rw[beq_eq_false_iff_ne];omega
  clear c1;go_enter Tryz.func136,Tryz.ntmps136;go_wp2;go_ret;exact ⟨zad E.o.symm,HB.o⟩
 have c1n:((ws.length:Int) == 32)=true:=by simp;omega
 have C1:=zaa c1;clear c1
 by_cases c2:400 < ps.length
 ·have E:=zaa (zmz (ws:=ws) c2)
  have c2':decide ((ps.length:Int)≤400)=false:=by simp;omega
  go_enter Tryz.func136,Tryz.ntmps136;go_wp2;go_ret;exact ⟨zad E.o.symm,HB.o⟩
 by_cases c3:zep ws=true
 case neg =>
  have c3':zep ws=false:=by simpa using c3
  obtain ⟨k,hk,hkf⟩:=zni c3';have E:=zaa (yaak (ps:=ps) hk hkf);have W0:=zaa c3';clear c3 c3' hkf hk;go_enter Tryz.func136,Tryz.ntmps136;go_wp2_with (go_at_call 137;refine (zbi _ ws _ (Rd.below H1.o HB.o) (by omega)).mono ?_;rw[W0.o];rintro e w' ⟨rfl,rfl⟩);go_ret;exact ⟨zad E.o.symm,HB.o⟩
 have HW:=zaa (zio c3);have W1:=zaa c3;clear c3
 cases c4:sesB ps with
 | true =>
  have E:=zaa (zwv C1.o (by omega) HW.o (fun j h=>zzr (zws c4 j h)));have W2:=zaa c4;clear c4;go_enter Tryz.func136,Tryz.ntmps136;go_wp2_with (first | (go_at_call 137;refine (zbi _ ws _ (Rd.below H1.o HB.o) (by omega)).mono ?_;rw[W1.o];rintro e w' ⟨rfl,rfl⟩) | (go_at_call 180;refine (zel _ ps _ (Rd.below H2.o HB.o) (by omega)).mono ?_;rw[W2.o];rintro e w' ⟨rfl,hw'⟩));go_ret;exact ⟨zad E.o.symm,HB.o.trans (hw'.mono (by simp))⟩
 | false =>
  obtain ⟨k,hk,hkf⟩:=yact c4;have E:=zaa (show zfa ws ps=false from zte hkf (yaal (ws:=ws) hk) (yaaj (ws:=ws) hk));have W2:=zaa c4;clear c4 hk hkf;go_enter Tryz.func136,Tryz.ntmps136;go_wp2_with (first | (go_at_call 137;refine (zbi _ ws _ (Rd.below H1.o HB.o) (by omega)).mono ?_;rw[W1.o];rintro e w' ⟨rfl,rfl⟩) | (go_at_call 180;refine (zel _ ps _ (Rd.below H2.o HB.o) (by omega)).mono ?_;rw[W2.o];rintro e w' ⟨rfl,hw'⟩));go_ret;exact ⟨zad E.o.symm,HB.o.trans (hw'.mono (by simp))⟩
def zmb (ws:List Int) (ps:List Se) (at_:Int):Int:=if zfa ws ps=false then 1 else if zgi at_=false then 14 else 0
theorem zqp {ws:List Int} {ps:List Se} {at_:Int} (h:zfa ws ps=false):zmb ws ps at_=1:=by unfold zmb;rw[if_pos h]
theorem zkh {ws:List Int} {ps:List Se} {at_:Int} (h:zfa ws ps=true) (h2:zgi at_=false):zmb ws ps at_=14:=by unfold zmb;rw[if_neg (by rw[h];simp),if_pos h2]
theorem zwx {ws:List Int} {ps:List Se} {at_:Int} (h:zfa ws ps=true) (h2:zgi at_=true):zmb ws ps at_=0:=by unfold zmb;rw[if_neg (by rw[h];simp),if_neg (by rw[h2];simp)]
theorem zdz (v:Value) (ws:List Int) (ps:List Se) (at_:Int) (w:World) (h:RdBlk w v ws ps) (hw:ws.length≤1048576) (hp:ps.length≤1048576) :
  Calls Tryz.prog 214 #[v,.int .i64 at_] w fun e w'=>e=.returned (.int .i64 (zmb ws ps at_))∧Below w.heap.size w w':=by
 have HR:=zaa h;obtain ⟨vW,vP,rfl,h1,h2⟩:=h;obtain ⟨aW,cW,rfl,_⟩:=h1.shape;obtain ⟨aP,cP,rfl,_⟩:=h2.shape;clear h1 h2;have hb0:Below w.heap.size w (w.alloc (.cells #[.slice aW ws.length cW,.slice aP ps.length cP] 28)):=(Below.refl _ _).alloc (Nat.le_refl _) _
 by_cases c1:zfa ws ps=true
 ·by_cases c2:zgi at_=true
  ·rw[zwx c1 c2];go_enter Tryz.func214,Tryz.ntmps214;go_wp2_with (first | (go_at_call 136;refine (zcm _ ws ps _ (HR.o.below hb0) hw hp).mono ?_;rintro e w1 ⟨rfl,hb1⟩) | (go_at_call 205;refine (zcf _ _).mono ?_;rintro e w2 ⟨rfl,rfl⟩));go_ret;exact ⟨rfl,zab hb0 hb1 (by simp)⟩
  ·have c2':zgi at_=false:=by simpa using c2
   rw[zkh c1 c2'];clear c2;go_enter Tryz.func214,Tryz.ntmps214;go_wp2_with (first | (go_at_call 136;refine (zcm _ ws ps _ (HR.o.below hb0) hw hp).mono ?_;rintro e w1 ⟨rfl,hb1⟩) | (go_at_call 205;refine (zcf _ _).mono ?_;rintro e w2 ⟨rfl,rfl⟩));go_ret;exact ⟨rfl,zab hb0 hb1 (by simp)⟩
 ·have c1':zfa ws ps=false:=by simpa using c1
  rw[zqp c1'];clear c1;go_enter Tryz.func214,Tryz.ntmps214;go_wp2_with (first | (go_at_call 136;refine (zcm _ ws ps _ (HR.o.below hb0) hw hp).mono ?_;rintro e w1 ⟨rfl,hb1⟩) | (go_at_call 205;refine (zcf _ _).mono ?_;rintro e w2 ⟨rfl,rfl⟩));go_ret;exact ⟨rfl,zab hb0 hb1 (by simp)⟩
def zhf (at_ d:Int) (ps:List Se):Int:=ps.foldl (fun acc p=>if p.at_=at_ then p.val else acc) d
theorem zfx {at_ d:Int}:∀ {ps:List Se},(∀ p∈ps,¬ p.at_=at_)→zhf at_ d ps=d
 | [],_=>rfl
 | p :: ps,h=>by
  show zhf at_ (if p.at_=at_ then p.val else d) ps=d
  rw[if_neg (h p (by simp))];exact zfx (fun q hq=>h q (by simp[hq]))
def zow (ws:List Int) (ps:List Se) (at_:Int):Int:=if zmb ws ps at_=0 then zhf at_ (ws[at_.toNat]?.getD 0) ps else 0
theorem zti {ws:List Int} {ps:List Se} {at_:Int} (h:¬ zmb ws ps at_=0):zow ws ps at_=0:=by unfold zow;rw[if_neg h]
theorem zzh {ws:List Int} {ps:List Se} {k:Nat} (h:zmb ws ps (k:Int)=0) (hk:k < ws.length):zow ws ps (k:Int)=zhf (k:Int) ws[k] ps:=by
 unfold zow;rw[if_pos h];simp[hk]
theorem zrl (ws:List Int) (ps:List Se) (at_:Int):(zmb ws ps at_=1∨zmb ws ps at_=14)∨(zmb ws ps at_=0∧zfa ws ps=true∧∃ k:Nat,at_=(k:Int)∧k < 32∧k < ws.length):=by
 by_cases c1:zfa ws ps=true
 ·by_cases c2:zgi at_=true
  ·have:=zue c2;have hl:=(zkq c1).1;exact .inr ⟨zwx c1 c2,c1,at_.toNat,by omega,by omega,by omega⟩
  ·exact .inl (.inr (zkh c1 (by simpa using c2)))
 ·exact .inl (.inl (zqp (by simpa using c1)))
end Go.Proofs.YtbohndgbfbfldaaGreatDoor
