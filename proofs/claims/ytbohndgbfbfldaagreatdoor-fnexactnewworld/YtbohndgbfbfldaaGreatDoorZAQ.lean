/- Several texts laid together: BlkOKI, BlkRead, MiL. -/
import Derived.Test.YtbohndgbfbfldaaGreatDoorZAN
import Derived.Test.YtbohndgbfbfldaaGreatDoorZAP
import Derived.Test.YtbohndgbfbfldaaGreatDoorZAC
set_option maxHeartbeats 4000000
namespace Go.Proofs.YtbohndgbfbfldaaGreatDoor
open Go.RowKit
def seB (s:Se):Bool:=zgm s.at_ && zas s.val
theorem zyu {s:Se} (h:seB s=true):zgm s.at_=true∧zas s.val=true:=by unfold seB at h;simpa using h
theorem zvd {s:Se} {p:Prop} (h:seB s=false) (h1:zgm s.at_=false→p) (h2:zas s.val=false→p):p:=by
 unfold seB at h;rw[Bool.and_eq_false_iff] at h;exact h.elim h1 h2
def sesB (ps:List Se):Bool:=decide (∀ k (h:k < ps.length),seB ps[k]=true)
theorem zvb {ps:List Se} (h:sesB ps=true):∀ k (h:k < ps.length),seB ps[k]=true:=of_decide_eq_true h
theorem zvo {ps:List Se} (h:∀ k (h:k < ps.length),seB ps[k]=true):sesB ps=true:=decide_eq_true h
theorem zxz {ps:List Se} {k:Nat} (hk:k < ps.length) (h:seB ps[k]=false):sesB ps=false:=decide_eq_false (fun x=>by have:=x k hk;rw[h] at this;cases this)
theorem yadc {ps:List Se} (h:sesB ps=false):∃ k,∃ h:k < ps.length,seB ps[k]=false:=by
 apply Classical.byContradiction;intro hn
 have:sesB ps=true:=zvo (fun k hk=>by
  cases e:seB ps[k] with
  | true=>rfl
  | false=>exact absurd ⟨k,hk,e⟩ hn)
 rw[h] at this
 cases this
theorem zht (s:Se) (w:World):Calls Tryz.prog 181 #[.agg #[.int .i64 s.at_,.int .i64 s.val]] w fun e w'=>e=.returned (.bool (seB s))∧Below w.heap.size w w':=by
 have hb0:Below w.heap.size w (w.alloc (.cells #[.int .i64 s.at_,.int .i64 s.val] 208)):=(Below.refl _ _).alloc (Nat.le_refl _) _
 by_cases q:zgm s.at_=true
 ·have E:=zaa (show seB s=zas s.val by unfold seB;rw[q];rfl);have Q:=zaa q;clear q;go_enter Tryz.func181,Tryz.ntmps181;go_wp2_with (first | (go_at_call 205;refine (zca _ _).mono ?_;rw[Q.o];rintro e w' ⟨rfl,rfl⟩) | (go_at_call 151;refine (zeg _ _).mono ?_;rintro e w' ⟨rfl,rfl⟩));go_ret;exact ⟨zad E.o.symm,hb0⟩
 ·have q':zgm s.at_=false:=by simpa using q
  have E:=zaa (show seB s=false by unfold seB;rw[q'];rfl);have Q:=zaa q';clear q q';go_enter Tryz.func181,Tryz.ntmps181;go_wp2_with (go_at_call 205;refine (zca _ _).mono ?_;rw[Q.o];rintro e w' ⟨rfl,rfl⟩);go_ret;exact ⟨zad E.o.symm,hb0⟩
theorem zen (v:Value) (ps:List Se) (w:World) (h:RdE w v ps) (hn:ps.length≤1048576) :
  Calls Tryz.prog 180 #[v,.func (.func 181) #[] #[]] w fun e w'=>e=.returned (.bool (sesB ps))∧Below w.heap.size w w':=by
 obtain ⟨aP,cP,rfl,_,hcP⟩:=h.shape;clear h;go_enter Tryz.func180,Tryz.ntmps180;go_wp2
 go_loopw [6,9] (fun _ i wr=>∃ k:Nat,k≤ps.length∧i=.int .i64 k∧Hid (∀ j (h:j < ps.length),j < k→seB ps[j]=true)∧Below w.heap.size w wr) (fun _ i _=>ps.length - (intOf i).toNat)
 case atStart=>exact ⟨0,by omega,rfl,fun j h a=>absurd a (by omega),Below.refl _ _⟩
 case round =>
  obtain ⟨m,hm,rfl,H,hbw⟩:=hrel;have hz:=hbw.size
  by_cases hlt2:m < ps.length
  ·obtain ⟨b2,o2,rfl,hbl2,hcell2⟩:=hcP (by omega);obtain ⟨d0,d1⟩:=hcell2 m hlt2;have e0:=(hbw.cell (p:=⟨b2,o2+m*2,none⟩) hbl2).trans d0;have e1:=(hbw.cell (p:=⟨b2,o2+m*2+1,none⟩) hbl2).trans d1;have hb1:=zaa (hbw.alloc hz (.cells #[.int .i64 ps[m].at_,.int .i64 ps[m].val] 208));clear d0 d1 hcell2 hcP
   by_cases q:seB ps[m]=true
   ·have Q:=zaa q;clear q;go_wp2_with (go_at_call 181;refine (zht ps[m] _).mono ?_;rw[Q.o];rintro e w' ⟨rfl,hw'⟩);have hw2:=hb1.o.trans (hw'.mono (by simp;omega));clear hb1 hw'
    go_roundw
    case rel =>
     refine ⟨m+1,by omega,by go_num,fun j h a=>?_,hw2⟩
     by_cases e:j=m
     ·subst e;exact Q.o
     ·exact H.o j h (by omega)
    case measure=>simp[intOf];omega
   ·have Q:=zaa (show seB ps[m]=false by simpa using q);have E:=zaa (zxz hlt2 Q.o);clear q;go_wp2_with (go_at_call 181;refine (zht ps[m] _).mono ?_;rw[Q.o];rintro e w' ⟨rfl,hw'⟩);have hw2:=hb1.o.trans (hw'.mono (by simp;omega));go_ret;exact ⟨zad E.o.symm,hw2⟩
  ·have E:=zaa (zvo (fun j h=>H.o j h (by omega)));go_wp2;go_ret;exact ⟨zad E.o.symm,hbw⟩
theorem zcm (v:Value) (ws:List Int) (ps:List Se) (w:World) (h:RdBlk w v ws ps) (hw:ws.length≤1048576) (hp:ps.length≤1048576) :
  Calls Tryz.prog 136 #[v] w fun e w'=>e=.returned (.bool (zfa ws ps))∧Below w.heap.size w w':=by
 obtain ⟨vW,vP,rfl,h1,h2⟩:=h;obtain ⟨aW,cW,rfl,_,hcW⟩:=h1.shape;obtain ⟨aP,cP,rfl,_,hcP⟩:=h2.shape;have H1:=zaa h1;have H2:=zaa h2;clear h1 h2 hcW hcP;have hb0:Below w.heap.size w (w.alloc (.cells #[.slice aW ws.length cW,.slice aP ps.length cP] 28)):=(Below.refl _ _).alloc (Nat.le_refl _) _;have HB:=zaa hb0
 by_cases c1:ws.length=32
 case neg =>
  have E:=zaa (zob (ps:=ps) c1)
  have c1':((ws.length:Int) == 32)=false:=by rw[beq_eq_false_iff_ne];omega
  clear c1;go_enter Tryz.func136,Tryz.ntmps136;go_wp2;go_ret;exact ⟨zad E.o.symm,HB.o⟩
 have c1n:((ws.length:Int) == 32)=true:=by simp;omega
 have C1:=zaa c1;clear c1
 by_cases c2:400 < ps.length
 ·have E:=zaa (znw (ws:=ws) c2)
  have c2':decide ((ps.length:Int)≤400)=false:=by simp;omega
  go_enter Tryz.func136,Tryz.ntmps136;go_wp2;go_ret;exact ⟨zad E.o.symm,HB.o⟩
 by_cases c3:zel ws=true
 case neg =>
  have c3':zel ws=false:=by simpa using c3
  obtain ⟨k,hk,hkf⟩:=zmz c3';have E:=zaa (yaar (ps:=ps) hk hkf);have W0:=zaa c3';clear c3 c3' hkf hk;go_enter Tryz.func136,Tryz.ntmps136;go_wp2_with (go_at_call 137;refine (zbi _ ws _ (Rd.below H1.o HB.o) (by omega)).mono ?_;rw[W0.o];rintro e w' ⟨rfl,rfl⟩);go_ret;exact ⟨zad E.o.symm,HB.o⟩
 have HW:=zaa (ziq c3);have W1:=zaa c3;clear c3
 cases c4:sesB ps with
 | true =>
  have E:=zaa (zwv C1.o (by omega) HW.o (fun j h=>zyu (zvb c4 j h)));have W2:=zaa c4;clear c4;go_enter Tryz.func136,Tryz.ntmps136;go_wp2_with (first | (go_at_call 137;refine (zbi _ ws _ (Rd.below H1.o HB.o) (by omega)).mono ?_;rw[W1.o];rintro e w' ⟨rfl,rfl⟩) | (go_at_call 180;refine (zen _ ps _ (Rd.below H2.o HB.o) (by omega)).mono ?_;rw[W2.o];rintro e w' ⟨rfl,hw'⟩));go_ret;exact ⟨zad E.o.symm,HB.o.trans (hw'.mono (by simp))⟩
 | false =>
  obtain ⟨k,hk,hkf⟩:=yadc c4;have E:=zaa (show zfa ws ps=false from zvd hkf (yaas (ws:=ws) hk) (yaap (ws:=ws) hk));have W2:=zaa c4;clear c4 hk hkf;go_enter Tryz.func136,Tryz.ntmps136;go_wp2_with (first | (go_at_call 137;refine (zbi _ ws _ (Rd.below H1.o HB.o) (by omega)).mono ?_;rw[W1.o];rintro e w' ⟨rfl,rfl⟩) | (go_at_call 180;refine (zen _ ps _ (Rd.below H2.o HB.o) (by omega)).mono ?_;rw[W2.o];rintro e w' ⟨rfl,hw'⟩));go_ret;exact ⟨zad E.o.symm,HB.o.trans (hw'.mono (by simp))⟩
def zlx (ws:List Int) (ps:List Se) (at_:Int):Int:=if zfa ws ps=false then 1 else if zgm at_=false then 14 else 0
theorem zqz {ws:List Int} {ps:List Se} {at_:Int} (h:zfa ws ps=false):zlx ws ps at_=1:=by unfold zlx;rw[if_pos h]
theorem zju {ws:List Int} {ps:List Se} {at_:Int} (h:zfa ws ps=true) (h2:zgm at_=false):zlx ws ps at_=14:=by unfold zlx;rw[if_neg (by rw[h];simp),if_pos h2]
theorem zun {ws:List Int} {ps:List Se} {at_:Int} (h:zfa ws ps=true) (h2:zgm at_=true):zlx ws ps at_=0:=by unfold zlx;rw[if_neg (by rw[h];simp),if_neg (by rw[h2];simp)]
theorem zeb (v:Value) (ws:List Int) (ps:List Se) (at_:Int) (w:World) (h:RdBlk w v ws ps) (hw:ws.length≤1048576) (hp:ps.length≤1048576) :
  Calls Tryz.prog 214 #[v,.int .i64 at_] w fun e w'=>e=.returned (.int .i64 (zlx ws ps at_))∧Below w.heap.size w w':=by
 have HR:=zaa h;obtain ⟨vW,vP,rfl,h1,h2⟩:=h;obtain ⟨aW,cW,rfl,_⟩:=h1.shape;obtain ⟨aP,cP,rfl,_⟩:=h2.shape;clear h1 h2;have hb0:Below w.heap.size w (w.alloc (.cells #[.slice aW ws.length cW,.slice aP ps.length cP] 28)):=(Below.refl _ _).alloc (Nat.le_refl _) _
 by_cases c1:zfa ws ps=true
 ·by_cases c2:zgm at_=true
  ·rw[zun c1 c2];go_enter Tryz.func214,Tryz.ntmps214;go_wp2_with (first | (go_at_call 136;refine (zcm _ ws ps _ (HR.o.below hb0) hw hp).mono ?_;rintro e w1 ⟨rfl,hb1⟩) | (go_at_call 205;refine (zca _ _).mono ?_;rintro e w2 ⟨rfl,rfl⟩));go_ret;exact ⟨rfl,zab hb0 hb1 (by simp)⟩
  ·have c2':zgm at_=false:=by simpa using c2
   rw[zju c1 c2'];clear c2;go_enter Tryz.func214,Tryz.ntmps214;go_wp2_with (first | (go_at_call 136;refine (zcm _ ws ps _ (HR.o.below hb0) hw hp).mono ?_;rintro e w1 ⟨rfl,hb1⟩) | (go_at_call 205;refine (zca _ _).mono ?_;rintro e w2 ⟨rfl,rfl⟩));go_ret;exact ⟨rfl,zab hb0 hb1 (by simp)⟩
 ·have c1':zfa ws ps=false:=by simpa using c1
  rw[zqz c1'];clear c1;go_enter Tryz.func214,Tryz.ntmps214;go_wp2_with (first | (go_at_call 136;refine (zcm _ ws ps _ (HR.o.below hb0) hw hp).mono ?_;rintro e w1 ⟨rfl,hb1⟩) | (go_at_call 205;refine (zca _ _).mono ?_;rintro e w2 ⟨rfl,rfl⟩));go_ret;exact ⟨rfl,zab hb0 hb1 (by simp)⟩
def zhr (at_ d:Int) (ps:List Se):Int:=ps.foldl (fun acc p=>if p.at_=at_ then p.val else acc) d
theorem zft {at_ d:Int}:∀ {ps:List Se},(∀ p∈ps,¬ p.at_=at_)→zhr at_ d ps=d
 | [],_=>rfl
 | p :: ps,h=>by
  show zhr at_ (if p.at_=at_ then p.val else d) ps=d
  rw[if_neg (h p (by simp))];exact zft (fun q hq=>h q (by simp[hq]))
def zpp (ws:List Int) (ps:List Se) (at_:Int):Int:=if zlx ws ps at_=0 then zhr at_ (ws[at_.toNat]?.getD 0) ps else 0
theorem zuf {ws:List Int} {ps:List Se} {at_:Int} (h:¬ zlx ws ps at_=0):zpp ws ps at_=0:=by unfold zpp;rw[if_neg h]
theorem zzn {ws:List Int} {ps:List Se} {k:Nat} (h:zlx ws ps (k:Int)=0) (hk:k < ws.length):zpp ws ps (k:Int)=zhr (k:Int) ws[k] ps:=by
 unfold zpp;rw[if_pos h];simp[hk]
theorem zrz (ws:List Int) (ps:List Se) (at_:Int):(zlx ws ps at_=1∨zlx ws ps at_=14)∨(zlx ws ps at_=0∧zfa ws ps=true∧∃ k:Nat,at_=(k:Int)∧k < 32∧k < ws.length):=by
 by_cases c1:zfa ws ps=true
 ·by_cases c2:zgm at_=true
  ·have:=zvn c2;have hl:=(zle c1).1;exact .inr ⟨zun c1 c2,c1,at_.toNat,by omega,by omega,by omega⟩
  ·exact .inl (.inr (zju c1 (by simpa using c2)))
 ·exact .inl (.inl (zqz (by simpa using c1)))
def Mi.cells (s:Mi):List Value:=[.int .i64 s.kind,.int .i64 s.at_,.int .i64 s.val]
def mis (ps:List Mi):List Value:=ps.flatMap Mi.cells
theorem Mi.cells_len (s:Mi):s.cells.length=3:=rfl
theorem zwn (ps:List Mi):(mis ps).length=ps.length*3:=zct _ 3 Mi.cells_len ps
theorem zps (ps:List Mi) (k:Nat) (h:k < ps.length):(mis ps)[k*3]?=some (.int .i64 ps[k].kind):=zam _ 3 Mi.cells_len ps k 0 h (by omega)
theorem zpj (ps:List Mi) (k:Nat) (h:k < ps.length):(mis ps)[k*3+1]?=some (.int .i64 ps[k].at_):=zam _ 3 Mi.cells_len ps k 1 h (by omega)
theorem zpl (ps:List Mi) (k:Nat) (h:k < ps.length):(mis ps)[k*3+2]?=some (.int .i64 ps[k].val):=zam _ 3 Mi.cells_len ps k 2 h (by omega)
def RdM (w:World) (v:Value) (ps:List Mi):Prop:=Rd w 3 v ps.length (mis ps)
theorem RdM.shape {w:World} {v:Value} {ps:List Mi} (h:RdM w v ps):∃ ao cap,v=.slice ao ps.length cap∧ps.length≤cap∧(0 < ps.length→∃ b o,ao=some ⟨b,o,none⟩∧b < w.heap.size ∧
  ∀ k (h:k < ps.length),w.cell? ⟨b,o+k*3,none⟩=some (.int .i64 ps[k].kind)∧w.cell? ⟨b,o+k*3+1,none⟩=some (.int .i64 ps[k].at_)∧w.cell? ⟨b,o+k*3+2,none⟩=some (.int .i64 ps[k].val)):=by
 obtain ⟨_,ao,cap,rfl,h2,h3⟩:=h;refine ⟨ao,cap,rfl,h2.1,fun hn=>?_⟩;obtain ⟨b,o,rfl,hb,hc⟩:=h3 hn;exact ⟨b,o,rfl,hb,fun k hk=>⟨(hc (k*3) (by omega)).trans (zps ps k hk),(hc (k*3+1) (by omega)).trans (zpj ps k hk),(hc (k*3+2) (by omega)).trans (zpl ps k hk)⟩⟩
theorem zsq {ys:List Value} {ps:List Mi} {k:Nat} (hk:k < ps.length) (hl:ys.length=ps.length*3) (h:∀ j,j < k*3→ys[j]?=(mis ps)[j]?) :
  ∀ j,j < (k+1)*3→(put3 ys k (.int .i64 ps[k].kind) (.int .i64 ps[k].at_) (.int .i64 ps[k].val))[j]?=(mis ps)[j]?:=by
 intro j hj;rw[zdn (by omega)]
 split
 ·rename_i e;rw[e,zpl ps k hk]
 ·split
  ·rename_i e;rw[e,zpj ps k hk]
  ·split
   ·rename_i e;rw[e,zps ps k hk]
   ·exact h j (by omega)
theorem yach {ys:List Value} {ps:List Mi} (hl:ys.length=ps.length*3) (h:∀ j,j < ps.length*3→ys[j]?=(mis ps)[j]?):ys=mis ps:=by
 apply List.ext_getElem?;intro j
 by_cases hj:j < ps.length*3
 ·exact h j hj
 ·rw[List.getElem?_eq_none (by omega),List.getElem?_eq_none (by rw[zwn];omega)]
theorem zny (ao:Option Addr) (n cap:Nat) (left:Int) (w:World) (hn:n≤maxLen) (h0:0≤left) (h1:left≤1048576) :
  Calls Tryz.prog 68 #[.slice ao n cap,.int .i64 left] w fun e w'=>e=.returned (.int .i64 (zdr left n))∧w'=w:=by
 unfold maxLen at hn
 by_cases h:left < n
 ·have e:zdr left n=-1:=by unfold zdr;rw[if_pos h]
  rw[e];clear e;go_enter Tryz.func68,Tryz.ntmps68;go_wp2;go_ret;exact ⟨rfl,rfl⟩
 ·have e:zdr left n=left - n:=by unfold zdr;rw[if_neg h]
  rw[e];clear e;go_enter Tryz.func68,Tryz.ntmps68;go_wp2;go_ret;exact ⟨rfl,rfl⟩
theorem zsc (a v:Int) (f:Int) (w:World):Calls Tryz.prog 107 #[.agg #[.int .i64 a,.int .i64 v,.int .i64 f],.agg #[.int .i64 a,.int .i64 v,.int .i64 f]] w fun e w'=>e=.returned (.bool true)∧Below w.heap.size w w':=by
 go_enter Tryz.func107,Tryz.ntmps107;go_wp2;go_ret;refine ⟨rfl,?_⟩
 repeat (refine Below.alloc ?_ (by simp <;> omega) _)
 exact Below.refl _ _
end Go.Proofs.YtbohndgbfbfldaaGreatDoor
