/- Several texts laid together: BlkOKI, MicO, MiL. -/
import Derived.Test.YtbohndgbfbfldaaGreatDoorZAL
import Derived.Test.YtbohndgbfbfldaaGreatDoorZAN
import Derived.Test.YtbohndgbfbfldaaGreatDoorDev
import Derived.Deep.RegionWith
import Derived.Deep.DeepCutAuto
import Derived.Deep.RegionLaw
import Derived.Test.YtbohndgbfbfldaaGreatDoorZAB
set_option maxHeartbeats 4000000
namespace Go.Proofs.YtbohndgbfbfldaaGreatDoor
open Go.RowKit
def seB (s:Se):Bool:=zlq s.at_ && zap s.val
theorem zwz {s:Se} (h:seB s=true):zlq s.at_=true∧zap s.val=true:=by unfold seB at h;simpa using h
theorem zsy {s:Se} {p:Prop} (h:seB s=false) (h1:zlq s.at_=false→p) (h2:zap s.val=false→p):p:=by
 unfold seB at h;rw[Bool.and_eq_false_iff] at h;exact h.elim h1 h2
def sesB (ps:List Se):Bool:=decide (∀ k (h:k < ps.length),seB ps[k]=true)
theorem ztx {ps:List Se} (h:sesB ps=true):∀ k (h:k < ps.length),seB ps[k]=true:=of_decide_eq_true h
theorem zvi {ps:List Se} (h:∀ k (h:k < ps.length),seB ps[k]=true):sesB ps=true:=decide_eq_true h
theorem zwn {ps:List Se} {k:Nat} (hk:k < ps.length) (h:seB ps[k]=false):sesB ps=false:=decide_eq_false (fun x=>by have:=x k hk;rw[h] at this;cases this)
theorem yacd {ps:List Se} (h:sesB ps=false):∃ k,∃ h:k < ps.length,seB ps[k]=false:=by
 apply Classical.byContradiction;intro hn
 have:sesB ps=true:=zvi (fun k hk=>by
  cases e:seB ps[k] with
  | true=>rfl
  | false=>exact absurd ⟨k,hk,e⟩ hn)
 rw[h] at this
 cases this
theorem zik (s:Se) (w:World):Calls Tryz.prog 181 #[.agg #[.int .i64 s.at_,.int .i64 s.val]] w fun e w'=>e=.returned (.bool (seB s))∧Below w.heap.size w w':=by
 have hb0:Below w.heap.size w (w.alloc (.cells #[.int .i64 s.at_,.int .i64 s.val] 208)):=(Below.refl _ _).alloc (Nat.le_refl _) _
 by_cases q:zlq s.at_=true
 ·have E:=zaa (show seB s=zap s.val by unfold seB;rw[q];rfl);have Q:=zaa q;clear q;go_enter Tryz.func181,Tryz.ntmps181;go_wp2_with (first | (go_at_call 205;refine (zgj _ _).mono ?_;rw[Q.o];rintro e w' ⟨rfl,rfl⟩) | (go_at_call 151;refine (zeb _ _).mono ?_;rintro e w' ⟨rfl,rfl⟩));go_ret;exact ⟨zac E.o.symm,hb0⟩
 ·have q':zlq s.at_=false:=by simpa using q
  have E:=zaa (show seB s=false by unfold seB;rw[q'];rfl);have Q:=zaa q';clear q q';go_enter Tryz.func181,Tryz.ntmps181;go_wp2_with (go_at_call 205;refine (zgj _ _).mono ?_;rw[Q.o];rintro e w' ⟨rfl,rfl⟩);go_ret;exact ⟨zac E.o.symm,hb0⟩
theorem zef (v:Value) (ps:List Se) (w:World) (h:RdE w v ps) (hn:ps.length≤1048576) :
  Calls Tryz.prog 180 #[v,.func (.func 181) #[] #[]] w fun e w'=>e=.returned (.bool (sesB ps))∧Below w.heap.size w w':=by
 obtain ⟨aP,cP,rfl,_,hcP⟩:=h.shape;clear h;go_enter Tryz.func180,Tryz.ntmps180;go_wp2
 go_loopw [6,9] (fun _ i wr=>∃ k:Nat,k≤ps.length∧i=.int .i64 k∧Hid (∀ j (h:j < ps.length),j < k→seB ps[j]=true)∧Below w.heap.size w wr) (fun _ i _=>ps.length - (intOf i).toNat)
 case atStart=>exact ⟨0,by omega,rfl,fun j h a=>absurd a (by omega),Below.refl _ _⟩
 case round =>
  obtain ⟨m,hm,rfl,H,hbw⟩:=hrel;have hz:=hbw.size
  by_cases hlt2:m < ps.length
  ·obtain ⟨b2,o2,rfl,hbl2,hcell2⟩:=hcP (by omega);obtain ⟨d0,d1⟩:=hcell2 m hlt2;have e0:=(hbw.cell (p:=⟨b2,o2+m*2,none⟩) hbl2).trans d0;have e1:=(hbw.cell (p:=⟨b2,o2+m*2+1,none⟩) hbl2).trans d1;have hb1:=zaa (hbw.alloc hz (.cells #[.int .i64 ps[m].at_,.int .i64 ps[m].val] 208));clear d0 d1 hcell2 hcP
   by_cases q:seB ps[m]=true
   ·have Q:=zaa q;clear q;go_wp2_with (go_at_call 181;refine (zik ps[m] _).mono ?_;rw[Q.o];rintro e w' ⟨rfl,hw'⟩);have hw2:=hb1.o.trans (hw'.mono (by simp;omega));clear hb1 hw'
    go_roundw
    case rel =>
     refine ⟨m+1,by omega,by go_num,fun j h a=>?_,hw2⟩
     by_cases e:j=m
     ·subst e;exact Q.o
     ·exact H.o j h (by omega)
    case measure=>simp[intOf];omega
   ·have Q:=zaa (show seB ps[m]=false by simpa using q);have E:=zaa (zwn hlt2 Q.o);clear q;go_wp2_with (go_at_call 181;refine (zik ps[m] _).mono ?_;rw[Q.o];rintro e w' ⟨rfl,hw'⟩);have hw2:=hb1.o.trans (hw'.mono (by simp;omega));go_ret;exact ⟨zac E.o.symm,hw2⟩
  ·have E:=zaa (zvi (fun j h=>H.o j h (by omega)));go_wp2;go_ret;exact ⟨zac E.o.symm,hbw⟩
theorem zfh (v:Value) (ws:List Int) (ps:List Se) (w:World) (h:RdBlk w v ws ps) (hw:ws.length≤1048576) (hp:ps.length≤1048576) :
  Calls Tryz.prog 136 #[v] w fun e w'=>e=.returned (.bool (zir ws ps))∧Below w.heap.size w w':=by
 obtain ⟨vW,vP,rfl,h1,h2⟩:=h;obtain ⟨aW,cW,rfl,_,hcW⟩:=h1.shape;obtain ⟨aP,cP,rfl,_,hcP⟩:=h2.shape;have H1:=zaa h1;have H2:=zaa h2;clear h1 h2 hcW hcP;have hb0:Below w.heap.size w (w.alloc (.cells #[.slice aW ws.length cW,.slice aP ps.length cP] 28)):=(Below.refl _ _).alloc (Nat.le_refl _) _;have HB:=zaa hb0
 by_cases c1:ws.length=32
 case neg =>
  have E:=zaa (zmj (ps:=ps) c1)
  have c1':((ws.length:Int) == 32)=false:=by rw[beq_eq_false_iff_ne];omega
  clear c1;go_enter Tryz.func136,Tryz.ntmps136;go_wp2;go_ret;exact ⟨zac E.o.symm,HB.o⟩
 have c1n:((ws.length:Int) == 32)=true:=by simp;omega
 have C1:=zaa c1;clear c1
 by_cases c2:400 < ps.length
 ·have E:=zaa (zod (ws:=ws) c2)
  have c2':decide ((ps.length:Int)≤400)=false:=by simp;omega
  go_enter Tryz.func136,Tryz.ntmps136;go_wp2;go_ret;exact ⟨zac E.o.symm,HB.o⟩
 by_cases c3:zdh ws=true
 case neg =>
  have c3':zdh ws=false:=by simpa using c3
  obtain ⟨k,hk,hkf⟩:=zni c3';have E:=zaa (yaah (ps:=ps) hk hkf);have W0:=zaa c3';clear c3 c3' hkf hk;go_enter Tryz.func136,Tryz.ntmps136;go_wp2_with (go_at_call 137;refine (zbh _ ws _ (Rd.below H1.o HB.o) (by omega)).mono ?_;rw[W0.o];rintro e w' ⟨rfl,rfl⟩);go_ret;exact ⟨zac E.o.symm,HB.o⟩
 have HW:=zaa (zep c3);have W1:=zaa c3;clear c3
 cases c4:sesB ps with
 | true =>
  have E:=zaa (zsv C1.o (by omega) HW.o (fun j h=>zwz (ztx c4 j h)));have W2:=zaa c4;clear c4;go_enter Tryz.func136,Tryz.ntmps136;go_wp2_with (first | (go_at_call 137;refine (zbh _ ws _ (Rd.below H1.o HB.o) (by omega)).mono ?_;rw[W1.o];rintro e w' ⟨rfl,rfl⟩) | (go_at_call 180;refine (zef _ ps _ (Rd.below H2.o HB.o) (by omega)).mono ?_;rw[W2.o];rintro e w' ⟨rfl,hw'⟩));go_ret;exact ⟨zac E.o.symm,HB.o.trans (hw'.mono (by simp))⟩
 | false =>
  obtain ⟨k,hk,hkf⟩:=yacd c4;have E:=zaa (show zir ws ps=false from zsy hkf (yaak (ws:=ws) hk) (yaag (ws:=ws) hk));have W2:=zaa c4;clear c4 hk hkf;go_enter Tryz.func136,Tryz.ntmps136;go_wp2_with (first | (go_at_call 137;refine (zbh _ ws _ (Rd.below H1.o HB.o) (by omega)).mono ?_;rw[W1.o];rintro e w' ⟨rfl,rfl⟩) | (go_at_call 180;refine (zef _ ps _ (Rd.below H2.o HB.o) (by omega)).mono ?_;rw[W2.o];rintro e w' ⟨rfl,hw'⟩));go_ret;exact ⟨zac E.o.symm,HB.o.trans (hw'.mono (by simp))⟩
def putR (w:World) (bR:Nat) (a b c d:Value):World:=(((w.setCell ⟨bR,0,none⟩ a).setCell ⟨bR,1,none⟩ b).setCell ⟨bR,2,none⟩ c).setCell ⟨bR,3,none⟩ d
def Mi.cells (s:Mi):List Value:=[.int .i64 s.kind,.int .i64 s.at_,.int .i64 s.val]
def mis (ps:List Mi):List Value:=ps.flatMap Mi.cells
theorem Mi.cells_len (s:Mi):s.cells.length=3:=rfl
theorem ztq (ps:List Mi):(mis ps).length=ps.length*3:=zby _ 3 Mi.cells_len ps
theorem zkv (ps:List Mi) (k:Nat) (h:k < ps.length):(mis ps)[k*3]?=some (.int .i64 ps[k].kind):=zan _ 3 Mi.cells_len ps k 0 h (by omega)
theorem zkk (ps:List Mi) (k:Nat) (h:k < ps.length):(mis ps)[k*3+1]?=some (.int .i64 ps[k].at_):=zan _ 3 Mi.cells_len ps k 1 h (by omega)
theorem zlc (ps:List Mi) (k:Nat) (h:k < ps.length):(mis ps)[k*3+2]?=some (.int .i64 ps[k].val):=zan _ 3 Mi.cells_len ps k 2 h (by omega)
def RdM (w:World) (v:Value) (ps:List Mi):Prop:=Rd w 3 v ps.length (mis ps)
theorem RdM.shape {w:World} {v:Value} {ps:List Mi} (h:RdM w v ps):∃ ao cap,v=.slice ao ps.length cap∧ps.length≤cap∧(0 < ps.length→∃ b o,ao=some ⟨b,o,none⟩∧b < w.heap.size ∧
  ∀ k (h:k < ps.length),w.cell? ⟨b,o+k*3,none⟩=some (.int .i64 ps[k].kind)∧w.cell? ⟨b,o+k*3+1,none⟩=some (.int .i64 ps[k].at_)∧w.cell? ⟨b,o+k*3+2,none⟩=some (.int .i64 ps[k].val)):=by
 obtain ⟨_,ao,cap,rfl,h2,h3⟩:=h;refine ⟨ao,cap,rfl,h2.1,fun hn=>?_⟩;obtain ⟨b,o,rfl,hb,hc⟩:=h3 hn;exact ⟨b,o,rfl,hb,fun k hk=>⟨(hc (k*3) (by omega)).trans (zkv ps k hk),(hc (k*3+1) (by omega)).trans (zkk ps k hk),(hc (k*3+2) (by omega)).trans (zlc ps k hk)⟩⟩
theorem yacf:(Tryz.prog.info? 120).map (fun i=>(i.zero,i.size,i.bytes))=some (some (.agg #[.int .i64 0,.int .i64 0,.int .i64 0]),3,24):=by kernel_rfl
theorem zuq (a v:Int) (f:Int) (w:World):Calls Tryz.prog 131 #[.agg #[.int .i64 a,.int .i64 v,.int .i64 f]] w fun e w'=>e=.returned (.agg #[.int .i64 a,.int .i64 v,.int .i64 f])∧Below w.heap.size w w':=by
 go_enter Tryz.func131,Tryz.ntmps131;go_wp2;refine bodyPost_ret (v:=.agg #[.int .i64 a,.int .i64 v,.int .i64 f]) (by simp[results,Tryz.results131,go_sem]) rfl ⟨rfl,?_⟩
 repeat (refine Below.alloc ?_ (by simp <;> omega) _)
 exact Below.refl _ _
theorem zsi {ys:List Value} {ps:List Mi} {k:Nat} (hk:k < ps.length) (hl:ys.length=ps.length*3) (h:∀ j,j < k*3→ys[j]?=(mis ps)[j]?) :
  ∀ j,j < (k+1)*3→(put3 ys k (.int .i64 ps[k].kind) (.int .i64 ps[k].at_) (.int .i64 ps[k].val))[j]?=(mis ps)[j]?:=by
 intro j hj;rw[zhm (by omega)]
 split
 ·rename_i e;rw[e,zlc ps k hk]
 ·split
  ·rename_i e;rw[e,zkk ps k hk]
  ·split
   ·rename_i e;rw[e,zkv ps k hk]
   ·exact h j (by omega)
theorem yabo {ys:List Value} {ps:List Mi} (hl:ys.length=ps.length*3) (h:∀ j,j < ps.length*3→ys[j]?=(mis ps)[j]?):ys=mis ps:=by
 apply List.ext_getElem?;intro j
 by_cases hj:j < ps.length*3
 ·exact h j hj
 ·rw[List.getElem?_eq_none (by omega),List.getElem?_eq_none (by rw[ztq];omega)]
theorem zno (v:Value) (ps:List Mi) (w:World) (h:RdM w v ps) (hn:ps.length≤1048576) :
  Calls Tryz.prog 83 #[v] w fun e w'=>∃ v',e=.returned v'∧Row w' 120 3 w.heap.size w'.heap.size v' ps.length (mis ps)∧Below w.heap.size w w':=by
 obtain ⟨ao,cap,rfl,hcap,hc⟩:=h.shape;clear h;have hmk:=zbm (P:=Tryz.prog) 31 120 (.agg #[.int .i64 0,.int .i64 0,.int .i64 0]) 3 24 Tryz.underlying31 yacf .i64 .i64 ps.length (by omega) (by omega);go_enter Tryz.func83,Tryz.ntmps83;go_wp2
 go_loopw [4] (fun i wr=>∃ k:Nat,k≤ps.length∧i=.int .i64 k∧(∃ ys,Row wr 120 3 w.heap.size (w.heap.size+1) (.slice (some ⟨w.heap.size,0,none⟩) ps.length ps.length) ps.length ys∧∀ j,j < k*3→ys[j]?=(mis ps)[j]?)∧Below w.heap.size w wr∧w.heap.size+1≤wr.heap.size) (fun i _=>ps.length - (intOf i).toNat)
 case atStart =>
  refine ⟨0,by omega,rfl,⟨_,zdy w (.agg #[.int .i64 0,.int .i64 0,.int .i64 0]) 3 ps.length 120 (by simp[maxLen];omega),fun j hj=>absurd hj (by omega)⟩,(Below.refl _ _).alloc (Nat.le_refl _) _,by simp⟩
 case round =>
  obtain ⟨k,hk,rfl,⟨ys,hrow,hys⟩,hb,hz⟩:=hrel
  by_cases hlt:k < ps.length
  ·obtain ⟨b,o,rfl,hbl,hcell⟩:=hc (by omega);obtain ⟨c0,c1,c2⟩:=hcell k hlt;have d0:=(hb.cell (p:=⟨b,o+k*3,none⟩) hbl).trans c0;have d1:=(hb.cell (p:=⟨b,o+k*3+1,none⟩) hbl).trans c1;have d2:=(hb.cell (p:=⟨b,o+k*3+2,none⟩) hbl).trans c2;have RH:=zaa hrow;have YH:=zaa hys;clear hcell hc c0 c1 c2 hrow hys;go_wp2_with fail;refine (zuq _ _ _ _).mono ?_;rintro e w1 ⟨rfl,hb1⟩;have R1:=zaa (RH.o.below hb1 (by omega))
   obtain ⟨_,_,_,hsz,hfr,hcl⟩:=R1.o.at
   have hl:=RH.o.len;have f0:=hfr (k*3);have f1:=hfr (k*3+1);have f2:=hfr (k*3+2)
   have e0:w1.cell? ⟨w.heap.size,k*3,none⟩=some (ys[k*3]'(by omega)):=by rw[hcl _ (by omega)];simp
   have e1:w1.cell? ⟨w.heap.size,k*3+1,none⟩=some (ys[k*3+1]'(by omega)):=by rw[hcl _ (by omega)];simp
   have e2:w1.cell? ⟨w.heap.size,k*3+2,none⟩=some (ys[k*3+2]'(by omega)):=by rw[hcl _ (by omega)];simp
   have BH:=zaa (hb.trans (hb1.mono (show w.heap.size≤wr.heap.size by omega)));have hz1:=hb1.size;clear hfr hcl hb1 hb d0 d1 d2;have P1:=zaa (R1.o.put3 k (.int .i64 ps[k].kind) (.int .i64 ps[k].at_) (.int .i64 ps[k].val));have B1:=zaa (((BH.o.setCell (p:=⟨w.heap.size,k*3,none⟩) (Nat.le_refl _) (.int .i64 ps[k].kind)).setCell (p:=⟨w.heap.size,k*3+1,none⟩) (Nat.le_refl _) (.int .i64 ps[k].at_)).setCell (p:=⟨w.heap.size,k*3+2,none⟩) (Nat.le_refl _) (.int .i64 ps[k].val));go_wp2
   go_roundw
   case rel=>exact ⟨k+1,by omega,by go_num,⟨_,P1.o,zsi hlt hl YH.o⟩,B1.o,by simp;omega⟩
   case measure=>simp[intOf];omega
  ·have e:k=ps.length:=by omega
   subst e;have hl:=hrow.len;have RH:=zaa hrow;have YH:=zaa hys;clear hrow hys hc;go_wp2;go_ret;have e:=yabo hl YH.o;refine ⟨_,rfl,?_,hb⟩;rw[← e];exact RH.o.wide (Nat.le_refl _) hz
theorem zmw (ao:Option Addr) (n cap:Nat) (left:Int) (w:World) (hn:n≤maxLen) (h0:0≤left) (h1:left≤1048576) :
  Calls Tryz.prog 68 #[.slice ao n cap,.int .i64 left] w fun e w'=>e=.returned (.int .i64 (zcs left n))∧w'=w:=by
 unfold maxLen at hn
 by_cases h:left < n
 ·have e:zcs left n=-1:=by unfold zcs;rw[if_pos h]
  rw[e];clear e;go_enter Tryz.func68,Tryz.ntmps68;go_wp2;go_ret;exact ⟨rfl,rfl⟩
 ·have e:zcs left n=left - n:=by unfold zcs;rw[if_neg h]
  rw[e];clear e;go_enter Tryz.func68,Tryz.ntmps68;go_wp2;go_ret;exact ⟨rfl,rfl⟩
theorem zrn (a v:Int) (f:Int) (w:World):Calls Tryz.prog 107 #[.agg #[.int .i64 a,.int .i64 v,.int .i64 f],.agg #[.int .i64 a,.int .i64 v,.int .i64 f]] w fun e w'=>e=.returned (.bool true)∧Below w.heap.size w w':=by
 go_enter Tryz.func107,Tryz.ntmps107;go_wp2;go_ret;refine ⟨rfl,?_⟩
 repeat (refine Below.alloc ?_ (by simp <;> omega) _)
 exact Below.refl _ _
end Go.Proofs.YtbohndgbfbfldaaGreatDoor
