/- Several texts laid together: IntS, StoreS. -/
import Derived.Test.YtbohndgbfbfldaaGreatDoorMem
import Derived.Deep.OwnRows
import Derived.Deep.QuietTactic
import Derived.BigQuiet
set_option maxHeartbeats 1000000
namespace Go.Proofs.YtbohndgbfbfldaaGreatDoor
open Go.RowKit
theorem zyo:(Tryz.prog.info? 3).map (fun i=>(i.zero,i.size,i.bytes))=some (some (.int .i64 0),1,8):=by kernel_rfl
theorem zmk {w:World} {g:Nat} {zs:List Int} {f:Nat→Value} {lo hi:Nat} (h:w.rowIs g 3 zs.length f) (hf:∀ i (h:i < zs.length),f i=.int .i64 zs[i]) (h1:lo≤g) (h2:g < hi) (hm:zs.length≤maxLen) :
  Row w 3 1 lo hi (.slice (some ⟨g,0,none⟩) zs.length zs.length) zs.length (zdi zs):=by
 obtain ⟨c,hb,hn,hc⟩:=h;refine ⟨⟨by simp[zdi],.inr ⟨g,zs.length,c,rfl,h1,hb,Nat.le_refl _,hm,by omega,?_⟩⟩,fun k hk=>by cases hk;exact h2⟩;apply List.ext_getElem?;intro i
 by_cases hi:i < zs.length
 ·rw[List.getElem?_take,if_pos (by omega),zde zs i hi,Array.getElem?_toList,hc i hi,hf i hi]
 ·rw[List.getElem?_eq_none (by simp;omega),List.getElem?_eq_none (by simp[zdi];omega)]
theorem zed (v:Value) (zs:List Int) (w:World) (h:RdI w v zs) (hn:zs.length≤1048576) :
  Calls Tryz.prog 82 #[v] w fun e w'=>∃ v',e=.returned v'∧Row w' 3 1 w.heap.size w'.heap.size v' zs.length (zdi zs)∧Below w.heap.size w w':=by
 obtain ⟨ao,cap,rfl,hcap,hc⟩:=h.shape;have hmk:=run_make_row' (P:=Tryz.prog) 22 3 (.int .i64 0) 8 Tryz.underlying22 zyo rfl .i64 .i64 zs.length (by omega) (by omega);go_enter Tryz.func82,Tryz.ntmps82;go_wp2
 go_loopw [4] (fun i wr=>∃ k:Nat,k≤zs.length∧i=.int .i64 k∧wr.rowIs w.heap.size 3 zs.length (fun j=>if h:j < k∧j < zs.length then .int .i64 zs[j] else .int .i64 0)∧Below w.heap.size w wr∧wr.heap.size=w.heap.size+1) (fun i _=>zs.length - (intOf i).toNat)
 case atStart =>
  refine ⟨0,by omega,rfl,?_,(Below.refl _ _).alloc (Nat.le_refl _) _,by simp⟩;exact (World.rowIs_made w (.int .i64 0) zs.length 3).congr (fun i hi=>by simp)
 case round =>
  obtain ⟨k,hk,rfl,hrow,hb,hz⟩:=hrel
  by_cases hlt:k < zs.length
  ·obtain ⟨b,o,rfl,hbl,hcell⟩:=hc (by omega);have hck:wr.cell? ⟨b,o+k,none⟩=some (.int .i64 zs[k]):=(hb.cell (p:=⟨b,o+k,none⟩) hbl).trans (hcell k hlt);have hfr:=hrow.frozen k;have hce:=hrow.cell hlt;have R:=hrow.set k (.int .i64 zs[k]);have B:=hb.setCell (p:=⟨w.heap.size,k,none⟩) (Nat.le_refl _) (.int .i64 zs[k]);have RH:=zaa R;have BH:=zaa B;clear R B hrow hcell hc;go_wp2
   go_roundw
   case rel =>
    refine ⟨k+1,by omega,by go_num,RH.o.congr (fun j hj=>?_),BH.o,by simp[hz]⟩
    by_cases e:j=k
    ·subst e;simp[hj]
    ·by_cases e2:j < k
     ·simp[e,e2,hj,show j < k+1 by omega]
     ·simp[e,e2,show ¬ j < k+1 by omega]
   case measure=>simp[intOf];omega
  ·have e:k=zs.length:=by omega
   subst e;go_wp2;go_ret;refine ⟨_,rfl,zmk hrow (fun i hi=>by simp[hi]) (Nat.le_refl _) (by omega) (by simp[maxLen];omega),hb⟩
theorem zdd (va vb:Value) (zs:List Int) (w:World) (ha:RdI w va zs) (hb:RdI w vb zs) (hn:zs.length≤2147483648) :
  Calls Tryz.prog 47 #[va,vb] w fun e w'=>e=.returned (.bool true)∧Below w.heap.size w w':=by
 obtain ⟨ao,cap,rfl,hcap,hc⟩:=ha.shape;obtain ⟨ao2,cap2,rfl,hcap2,hc2⟩:=hb.shape;clear ha hb;go_enter Tryz.func47,Tryz.ntmps47;go_wp2
 go_loopw [5] (fun i wr=>∃ k:Nat,k≤zs.length∧i=.int .i64 k∧Below w.heap.size w wr) (fun i _=>zs.length - (intOf i).toNat)
 case atStart=>exact ⟨0,by omega,rfl,Below.refl _ _⟩
 case round =>
  obtain ⟨k,hk,rfl,hbw⟩:=hrel
  by_cases hlt:k < zs.length
  ·obtain ⟨b,o,rfl,hbl,hcell⟩:=hc (by omega);obtain ⟨b2,o2,rfl,hbl2,hcell2⟩:=hc2 (by omega);have hck:wr.cell? ⟨b,o+k,none⟩=some (.int .i64 zs[k]):=(hbw.cell (p:=⟨b,o+k,none⟩) hbl).trans (hcell k hlt);have hck2:wr.cell? ⟨b2,o2+k,none⟩=some (.int .i64 zs[k]):=(hbw.cell (p:=⟨b2,o2+k,none⟩) hbl2).trans (hcell2 k hlt)
   have hlt':(k:Int) < (zs.length:Int):=by omega
   have hge:(0:Int)≤(k:Int):=by omega
   clear hcell hcell2 hc hc2;go_wp2
   go_quiet (fail)
   go_wp2
   go_roundw
   case rel=>exact ⟨k+1,by omega,by go_num,below_drewN hbw _⟩
   case measure=>simp[intOf];omega
  ·go_wp2;go_ret;exact ⟨rfl,hbw⟩
def zjb (k:Int) (n:Nat):List Int:=(List.range n).map (fun (i:Nat)=>k+(i:Int))
theorem zcm (k:Int) (n:Nat):(zjb k n).length=n:=by simp[zjb]
theorem zyv (k:Int) (n i:Nat) (h:i < (zjb k n).length):(zjb k n)[i]=k+(i:Int):=by simp[zjb]
theorem zgi (v:Value) (n:Nat) (k0:Int) (w:World) (h:RdI w v (zjb k0 n)) (hn:n≤2147483648) (h0:0≤k0) (h1:k0≤1099511627776) :
  Calls Tryz.prog 60 #[v,.int .i64 k0] w fun e w'=>e=.returned (.int .i64 (k0+n))∧w'=w:=by
 obtain ⟨ao,cap,rfl,hcap,hc⟩:=h.shape;simp only[zcm] at hcap hc ⊢;clear h;go_enter Tryz.func60,Tryz.ntmps60;go_wp2
 go_loop [1,5] (fun c i=>∃ k:Nat,k≤n∧i=.int .i64 k∧c=.int .i64 (k0+k)) (fun _ i=>n - (intOf i).toNat)
 case atStart=>exact ⟨0,by omega,rfl,by simp⟩
 case round =>
  obtain ⟨k,hk,rfl,rfl⟩:=hrel
  by_cases hlt:k < n
  ·obtain ⟨b,o,rfl,hbl,hcell⟩:=hc (by omega)
   have hck:w.cell? ⟨b,o+k,none⟩=some (.int .i64 (k0+k)):=by rw[hcell k hlt,zyv]
   clear hcell hc;go_wp2
   go_round
   case rel=>exact ⟨k+1,by omega,by go_num,by go_num⟩
   case measure=>simp[intOf];omega
  ·have e:k=n:=by omega
   subst e;go_wp2;go_ret;exact ⟨rfl,rfl⟩
def zcs (left:Int) (n:Nat):Int:=if left < n then -1 else left - n
theorem zbr (ao:Option Addr) (n cap:Nat) (left:Int) (w:World) (hn:n≤maxLen) (h0:0≤left) (h1:left≤1048576) :
  Calls Tryz.prog 67 #[.slice ao n cap,.int .i64 left] w fun e w'=>e=.returned (.int .i64 (zcs left n))∧w'=w:=by
 unfold maxLen at hn
 by_cases h:left < n
 ·have e:zcs left n=-1:=by unfold zcs;rw[if_pos h]
  rw[e];clear e;go_enter Tryz.func67,Tryz.ntmps67;go_wp2;go_ret;exact ⟨rfl,rfl⟩
 ·have e:zcs left n=left - n:=by unfold zcs;rw[if_neg h]
  rw[e];clear e;go_enter Tryz.func67,Tryz.ntmps67;go_wp2;go_ret;exact ⟨rfl,rfl⟩
theorem zyd (zs:List Int):∀ u∈zdi zs,u.oneCell'=true:=ints_oneCell _ zs
theorem RdI.form {w:World} {v:Value} {zs:List Int} (h:RdI w v zs) {n:Nat} (hn:zs.length=n):∃ ao cap,v=.slice ao n cap:=by
 obtain ⟨ao,cap,e,_⟩:=h.shape;exact ⟨ao,cap,by rw[← hn];exact e⟩
theorem zxp (zs:List Int) (j:Nat) (x:Int):(zdi zs).set j (.int .i64 x)=zdi (zs.set j x):=by simp[zdi,List.map_set]
theorem zwc (zs:List Int) (x:Int):zdi (zs ++ [x])=zdi zs ++ [.int .i64 x]:=by simp[zdi]
theorem yaae (w1:World) (x:Int):Rd (w1.alloc (.cells #[.int .i64 x] 3)) 1 (.slice (some ⟨w1.heap.size,0,none⟩) 1 1) 1 [.int .i64 x]:=by
 refine ⟨rfl,_,_,rfl,⟨Nat.le_refl _,fun e=>by cases e⟩,fun _=>⟨w1.heap.size,0,rfl,by simp,fun j hj=>?_⟩⟩
 have hj0:j=0:=by omega
 subst hj0;have e:=zah (w:=w1) (o:=.cells #[.int .i64 x] 3) rfl;simp only[World.cell?,Nat.add_zero];rw[e];rfl
structure St where
 at_:Int
 val:Int
 fl:Bool
deriving DecidableEq
def St.cells (s:St):List Value:=[.int .i64 s.at_,.int .i64 s.val,.bool s.fl]
def sts (ps:List St):List Value:=ps.flatMap St.cells
theorem St.cells_len (s:St):s.cells.length=3:=rfl
theorem zvd (ps:List St):(sts ps).length=ps.length*3:=zby _ 3 St.cells_len ps
theorem zqd (ps:List St) (k:Nat) (h:k < ps.length):(sts ps)[k*3]?=some (.int .i64 ps[k].at_):=zan _ 3 St.cells_len ps k 0 h (by omega)
theorem zpd (ps:List St) (k:Nat) (h:k < ps.length):(sts ps)[k*3+1]?=some (.int .i64 ps[k].val):=zan _ 3 St.cells_len ps k 1 h (by omega)
theorem zpu (ps:List St) (k:Nat) (h:k < ps.length):(sts ps)[k*3+2]?=some (.bool ps[k].fl):=zan _ 3 St.cells_len ps k 2 h (by omega)
def RdS (w:World) (v:Value) (ps:List St):Prop:=Rd w 3 v ps.length (sts ps)
theorem RdS.shape {w:World} {v:Value} {ps:List St} (h:RdS w v ps):∃ ao cap,v=.slice ao ps.length cap∧ps.length≤cap∧(0 < ps.length→∃ b o,ao=some ⟨b,o,none⟩∧b < w.heap.size ∧
  ∀ k (h:k < ps.length),w.cell? ⟨b,o+k*3,none⟩=some (.int .i64 ps[k].at_)∧w.cell? ⟨b,o+k*3+1,none⟩=some (.int .i64 ps[k].val)∧w.cell? ⟨b,o+k*3+2,none⟩=some (.bool ps[k].fl)):=by
 obtain ⟨_,ao,cap,rfl,h2,h3⟩:=h;refine ⟨ao,cap,rfl,h2.1,fun hn=>?_⟩;obtain ⟨b,o,rfl,hb,hc⟩:=h3 hn;exact ⟨b,o,rfl,hb,fun k hk=>⟨(hc (k*3) (by omega)).trans (zqd ps k hk),(hc (k*3+1) (by omega)).trans (zpd ps k hk),(hc (k*3+2) (by omega)).trans (zpu ps k hk)⟩⟩
theorem yaeb:(Tryz.prog.info? 207).map (fun i=>(i.zero,i.size,i.bytes))=some (some (.agg #[.int .i64 0,.int .i64 0,.bool false]),3,24):=by kernel_rfl
theorem zou (a v:Int) (f:Bool) (w:World):Calls Tryz.prog 202 #[.agg #[.int .i64 a,.int .i64 v,.bool f]] w fun e w'=>e=.returned (.agg #[.int .i64 a,.int .i64 v,.bool f])∧Below w.heap.size w w':=by
 go_enter Tryz.func202,Tryz.ntmps202;go_wp2;refine bodyPost_ret (v:=.agg #[.int .i64 a,.int .i64 v,.bool f]) (by simp[results,Tryz.results202,go_sem]) rfl ⟨rfl,?_⟩
 repeat (refine Below.alloc ?_ (by simp <;> omega) _)
 exact Below.refl _ _
def put3 (ys:List Value) (k:Nat) (a b c:Value):List Value:=((ys.set (k*3) a).set (k*3+1) b).set (k*3+2) c
theorem zhm {ys:List Value} {k:Nat} {a b c:Value} {j:Nat} (hj:j < ys.length):(put3 ys k a b c)[j]?=if j=k*3+2 then some c else if j=k*3+1 then some b else if j=k*3 then some a else ys[j]?:=by
 unfold put3;rw[zhk (by simpa using hj),zhk (by simpa using hj),zhk hj]
theorem zwf {ys:List Value} {ps:List St} {k:Nat} (hk:k < ps.length) (hl:ys.length=ps.length*3) (h:∀ j,j < k*3→ys[j]?=(sts ps)[j]?) :
  ∀ j,j < (k+1)*3→(put3 ys k (.int .i64 ps[k].at_) (.int .i64 ps[k].val) (.bool ps[k].fl))[j]?=(sts ps)[j]?:=by
 intro j hj;rw[zhm (by omega)]
 split
 ·rename_i e;rw[e,zpu ps k hk]
 ·split
  ·rename_i e;rw[e,zpd ps k hk]
  ·split
   ·rename_i e;rw[e,zqd ps k hk]
   ·exact h j (by omega)
theorem yaco {ys:List Value} {ps:List St} (hl:ys.length=ps.length*3) (h:∀ j,j < ps.length*3→ys[j]?=(sts ps)[j]?):ys=sts ps:=by
 apply List.ext_getElem?;intro j
 by_cases hj:j < ps.length*3
 ·exact h j hj
 ·rw[List.getElem?_eq_none (by omega),List.getElem?_eq_none (by rw[zvd];omega)]
theorem Row.put3 {w:World} {e:TypeId} {lo hi:Nat} {b n cap:Nat} {ys:List Value} (h:Row w e 3 lo hi (.slice (some ⟨b,0,none⟩) n cap) n ys) (k:Nat) (x y z:Value) :
  Row (((w.setCell ⟨b,k*3,none⟩ x).setCell ⟨b,k*3+1,none⟩ y).setCell ⟨b,k*3+2,none⟩ z) e 3 lo hi (.slice (some ⟨b,0,none⟩) n cap) n (put3 ys k x y z) :=
 ((h.stored (k*3) x).stored (k*3+1) y).stored (k*3+2) z
theorem znc (v:Value) (ps:List St) (w:World) (h:RdS w v ps) (hn:ps.length≤1048576) :
  Calls Tryz.prog 176 #[v] w fun e w'=>∃ v',e=.returned v'∧Row w' 207 3 w.heap.size w'.heap.size v' ps.length (sts ps)∧Below w.heap.size w w':=by
 obtain ⟨ao,cap,rfl,hcap,hc⟩:=h.shape;clear h;have hmk:=zbm (P:=Tryz.prog) 23 207 (.agg #[.int .i64 0,.int .i64 0,.bool false]) 3 24 Tryz.underlying23 yaeb .i64 .i64 ps.length (by omega) (by omega);go_enter Tryz.func176,Tryz.ntmps176;go_wp2
 go_loopw [4] (fun i wr=>∃ k:Nat,k≤ps.length∧i=.int .i64 k∧(∃ ys,Row wr 207 3 w.heap.size (w.heap.size+1) (.slice (some ⟨w.heap.size,0,none⟩) ps.length ps.length) ps.length ys∧∀ j,j < k*3→ys[j]?=(sts ps)[j]?)∧Below w.heap.size w wr∧w.heap.size+1≤wr.heap.size) (fun i _=>ps.length - (intOf i).toNat)
 case atStart =>
  refine ⟨0,by omega,rfl,⟨_,zdy w (.agg #[.int .i64 0,.int .i64 0,.bool false]) 3 ps.length 207 (by simp[maxLen];omega),fun j hj=>absurd hj (by omega)⟩,(Below.refl _ _).alloc (Nat.le_refl _) _,by simp⟩
 case round =>
  obtain ⟨k,hk,rfl,⟨ys,hrow,hys⟩,hb,hz⟩:=hrel
  by_cases hlt:k < ps.length
  ·obtain ⟨b,o,rfl,hbl,hcell⟩:=hc (by omega);obtain ⟨c0,c1,c2⟩:=hcell k hlt;have d0:=(hb.cell (p:=⟨b,o+k*3,none⟩) hbl).trans c0;have d1:=(hb.cell (p:=⟨b,o+k*3+1,none⟩) hbl).trans c1;have d2:=(hb.cell (p:=⟨b,o+k*3+2,none⟩) hbl).trans c2;have RH:=zaa hrow;have YH:=zaa hys;clear hcell hc c0 c1 c2 hrow hys;go_wp2_with fail;refine (zou _ _ _ _).mono ?_;rintro e w1 ⟨rfl,hb1⟩;have R1:=zaa (RH.o.below hb1 (by omega))
   obtain ⟨_,_,_,hsz,hfr,hcl⟩:=R1.o.at
   have hl:=RH.o.len;have f0:=hfr (k*3);have f1:=hfr (k*3+1);have f2:=hfr (k*3+2)
   have e0:w1.cell? ⟨w.heap.size,k*3,none⟩=some (ys[k*3]'(by omega)):=by rw[hcl _ (by omega)];simp
   have e1:w1.cell? ⟨w.heap.size,k*3+1,none⟩=some (ys[k*3+1]'(by omega)):=by rw[hcl _ (by omega)];simp
   have e2:w1.cell? ⟨w.heap.size,k*3+2,none⟩=some (ys[k*3+2]'(by omega)):=by rw[hcl _ (by omega)];simp
   have BH:=zaa (hb.trans (hb1.mono (show w.heap.size≤wr.heap.size by omega)));have hz1:=hb1.size;clear hfr hcl hb1 hb d0 d1 d2;have P1:=zaa (R1.o.put3 k (.int .i64 ps[k].at_) (.int .i64 ps[k].val) (.bool ps[k].fl));have B1:=zaa (((BH.o.setCell (p:=⟨w.heap.size,k*3,none⟩) (Nat.le_refl _) (.int .i64 ps[k].at_)).setCell (p:=⟨w.heap.size,k*3+1,none⟩) (Nat.le_refl _) (.int .i64 ps[k].val)).setCell (p:=⟨w.heap.size,k*3+2,none⟩) (Nat.le_refl _) (.bool ps[k].fl));go_wp2
   go_roundw
   case rel=>exact ⟨k+1,by omega,by go_num,⟨_,P1.o,zwf hlt hl YH.o⟩,B1.o,by simp;omega⟩
   case measure=>simp[intOf];omega
  ·have e:k=ps.length:=by omega
   subst e;have hl:=hrow.len;have RH:=zaa hrow;have YH:=zaa hys;clear hrow hys hc;go_wp2;go_ret;have e:=yaco hl YH.o;refine ⟨_,rfl,?_,hb⟩;rw[← e];exact RH.o.wide (Nat.le_refl _) hz
theorem zgr (ao:Option Addr) (n cap:Nat) (left:Int) (w:World) (hn:n≤maxLen) (h0:0≤left) (h1:left≤1048576) :
  Calls Tryz.prog 166 #[.slice ao n cap,.int .i64 left] w fun e w'=>e=.returned (.int .i64 (zcs left n))∧w'=w:=by
 unfold maxLen at hn
 by_cases h:left < n
 ·have e:zcs left n=-1:=by unfold zcs;rw[if_pos h]
  rw[e];clear e;go_enter Tryz.func166,Tryz.ntmps166;go_wp2;go_ret;exact ⟨rfl,rfl⟩
 ·have e:zcs left n=left - n:=by unfold zcs;rw[if_neg h]
  rw[e];clear e;go_enter Tryz.func166,Tryz.ntmps166;go_wp2;go_ret;exact ⟨rfl,rfl⟩
theorem znh (a v:Int) (f:Bool) (w:World):Calls Tryz.prog 198 #[.agg #[.int .i64 a,.int .i64 v,.bool f],.agg #[.int .i64 a,.int .i64 v,.bool f]] w fun e w'=>e=.returned (.bool true)∧Below w.heap.size w w':=by
 go_enter Tryz.func198,Tryz.ntmps198;go_wp2;go_ret;refine ⟨rfl,?_⟩
 repeat (refine Below.alloc ?_ (by simp <;> omega) _)
 exact Below.refl _ _
end Go.Proofs.YtbohndgbfbfldaaGreatDoor
