/- Several texts laid together: SecS, SecT, UpL, ImC, WdM. -/
import Derived.Test.YtehnphoeplmpdaaGreatDoorZAA
import Derived.Deep.RegionWith
import Derived.Test.YtehnphoeplmpdaaGreatDoorZAB
import Derived.Deep.RegionHeld3
import Derived.Laws.OwnMore
import Derived.WalkKit
set_option maxRecDepth 100000
set_option maxHeartbeats 2000000
namespace Go.Proofs.YtehnphoeplmpdaaGreatDoor
open Go.RowKit
structure Se where
 at_:Int
 val:Int
deriving DecidableEq
def Se.cells (s:Se):List Value:=[.int .i64 s.at_,.int .i64 s.val]
def ses (ps:List Se):List Value:=ps.flatMap Se.cells
theorem Se.cells_len (s:Se):s.cells.length=2:=rfl
theorem yain (ps:List Se):(ses ps).length=ps.length*2:=zgn _ 2 Se.cells_len ps
theorem zts (ps:List Se) (k:Nat) (h:k < ps.length):(ses ps)[k*2]?=some (.int .i64 ps[k].at_):=zbr _ 2 Se.cells_len ps k 0 h (by omega)
theorem zsd (ps:List Se) (k:Nat) (h:k < ps.length):(ses ps)[k*2+1]?=some (.int .i64 ps[k].val):=zbr _ 2 Se.cells_len ps k 1 h (by omega)
def RdE (w:World) (v:Value) (ps:List Se):Prop:=Rd w 2 v ps.length (ses ps)
theorem RdE.shape {w:World} {v:Value} {ps:List Se} (h:RdE w v ps):∃ ao cap,v=.slice ao ps.length cap∧ps.length≤cap∧(0 < ps.length→∃ b o,ao=some ⟨b,o,none⟩∧b < w.heap.size ∧
  ∀ k (h:k < ps.length),w.cell? ⟨b,o+k*2,none⟩=some (.int .i64 ps[k].at_)∧w.cell? ⟨b,o+k*2+1,none⟩=some (.int .i64 ps[k].val)):=by
 obtain ⟨_,ao,cap,rfl,h2,h3⟩:=h;refine ⟨ao,cap,rfl,h2.1,fun hn=>?_⟩;obtain ⟨b,o,rfl,hb,hc⟩:=h3 hn;exact ⟨b,o,rfl,hb,fun k hk=>⟨(hc (k*2) (by omega)).trans (zts ps k hk),(hc (k*2+1) (by omega)).trans (zsd ps k hk)⟩⟩
theorem yaol:(Tryz.prog.info? 193).map (fun i=>(i.zero,i.size,i.bytes))=some (some (.agg #[.int .i64 0,.int .i64 0]),2,16):=by kernel_rfl
theorem zvi (a v:Int) (w:World):Calls Tryz.prog 154 #[.agg #[.int .i64 a,.int .i64 v]] w fun e w'=>e=.returned (.agg #[.int .i64 a,.int .i64 v])∧Below w.heap.size w w':=by
 go_enter Tryz.func154,Tryz.ntmps154;go_wp2;refine bodyPost_ret (v:=.agg #[.int .i64 a,.int .i64 v]) (by simp[results,Tryz.results154,go_sem]) rfl ⟨rfl,?_⟩
 repeat (refine Below.alloc ?_ (by simp <;> omega) _)
 exact Below.refl _ _
def put2 (ys:List Value) (k:Nat) (a b:Value):List Value:=(ys.set (k*2) a).set (k*2+1) b
theorem zxo {ys:List Value} {k:Nat} {a b:Value} {j:Nat} (hj:j < ys.length):(put2 ys k a b)[j]?=if j=k*2+1 then some b else if j=k*2 then some a else ys[j]?:=by
 unfold put2;rw[zpg (by simpa using hj),zpg hj]
theorem zup {ys:List Value} {ps:List Se} {k:Nat} (hk:k < ps.length) (hl:ys.length=ps.length*2) (h:∀ j,j < k*2→ys[j]?=(ses ps)[j]?) :
  ∀ j,j < (k+1)*2→(put2 ys k (.int .i64 ps[k].at_) (.int .i64 ps[k].val))[j]?=(ses ps)[j]?:=by
 intro j hj;rw[zxo (by omega)]
 split
 ·rename_i e;rw[e,zsd ps k hk]
 ·split
  ·rename_i e;rw[e,zts ps k hk]
  ·exact h j (by omega)
theorem yaje {ys:List Value} {ps:List Se} (hl:ys.length=ps.length*2) (h:∀ j,j < ps.length*2→ys[j]?=(ses ps)[j]?):ys=ses ps:=by
 apply List.ext_getElem?;intro j
 by_cases hj:j < ps.length*2
 ·exact h j hj
 ·rw[List.getElem?_eq_none (by omega),List.getElem?_eq_none (by rw[yain];omega)]
theorem Row.put2 {w:World} {e:TypeId} {lo hi:Nat} {b n cap:Nat} {ys:List Value} (h:Row w e 2 lo hi (.slice (some ⟨b,0,none⟩) n cap) n ys) (k:Nat) (x y:Value) :
  Row ((w.setCell ⟨b,k*2,none⟩ x).setCell ⟨b,k*2+1,none⟩ y) e 2 lo hi (.slice (some ⟨b,0,none⟩) n cap) n (put2 ys k x y) :=
 (h.stored (k*2) x).stored (k*2+1) y
theorem ztj (v:Value) (ps:List Se) (w:World) (h:RdE w v ps) (hn:ps.length≤1048576) :
  Calls Tryz.prog 86 #[v] w fun e w'=>∃ v',e=.returned v'∧Row w' 193 2 w.heap.size w'.heap.size v' ps.length (ses ps)∧Below w.heap.size w w':=by
 obtain ⟨ao,cap,rfl,hcap,hc⟩:=h.shape;clear h;have hmk:=zkv (P:=Tryz.prog) 44 193 (.agg #[.int .i64 0,.int .i64 0]) 2 16 Tryz.underlying44 yaol .i64 .i64 ps.length (by omega) (by omega);go_enter Tryz.func86,Tryz.ntmps86;go_wp2
 go_loopw [4] (fun i wr=>∃ k:Nat,k≤ps.length∧i=.int .i64 k∧(∃ ys,Row wr 193 2 w.heap.size (w.heap.size+1) (.slice (some ⟨w.heap.size,0,none⟩) ps.length ps.length) ps.length ys∧∀ j,j < k*2→ys[j]?=(ses ps)[j]?)∧Below w.heap.size w wr∧w.heap.size+1≤wr.heap.size) (fun i _=>ps.length - (intOf i).toNat)
 case atStart =>
  refine ⟨0,by omega,rfl,⟨_,yaca w (.agg #[.int .i64 0,.int .i64 0]) 2 ps.length 193 (by simp[maxLen];omega),fun j hj=>absurd hj (by omega)⟩,(Below.refl _ _).alloc (Nat.le_refl _) _,by simp⟩
 case round =>
  obtain ⟨k,hk,rfl,⟨ys,hrow,hys⟩,hb,hz⟩:=hrel
  by_cases hlt:k < ps.length
  ·obtain ⟨b,o,rfl,hbl,hcell⟩:=hc (by omega);obtain ⟨c0,c1⟩:=hcell k hlt;have d0:=(hb.cell (p:=⟨b,o+k*2,none⟩) hbl).trans c0;have d1:=(hb.cell (p:=⟨b,o+k*2+1,none⟩) hbl).trans c1;have RH:=zaa hrow;have YH:=zaa hys;clear hcell hc c0 c1 hrow hys;go_wp2_with fail;refine (zvi _ _ _).mono ?_;rintro e w1 ⟨rfl,hb1⟩;have R1:=zaa (RH.o.below hb1 (by omega))
   obtain ⟨_,_,_,hsz,hfr,hcl⟩:=R1.o.at
   have hl:=RH.o.len;have f0:=hfr (k*2);have f1:=hfr (k*2+1)
   have e0:w1.cell? ⟨w.heap.size,k*2,none⟩=some (ys[k*2]'(by omega)):=by rw[hcl _ (by omega)];simp
   have e1:w1.cell? ⟨w.heap.size,k*2+1,none⟩=some (ys[k*2+1]'(by omega)):=by rw[hcl _ (by omega)];simp
   have BH:=zaa (hb.trans (hb1.mono (show w.heap.size≤wr.heap.size by omega)));have hz1:=hb1.size;clear hfr hcl hb1 hb d0 d1;have P1:=zaa (R1.o.put2 k (.int .i64 ps[k].at_) (.int .i64 ps[k].val));have B1:=zaa ((BH.o.setCell (p:=⟨w.heap.size,k*2,none⟩) (Nat.le_refl _) (.int .i64 ps[k].at_)).setCell (p:=⟨w.heap.size,k*2+1,none⟩) (Nat.le_refl _) (.int .i64 ps[k].val));go_wp2
   go_roundw
   case rel=>exact ⟨k+1,by omega,by go_num,⟨_,P1.o,zup hlt hl YH.o⟩,B1.o,by simp;omega⟩
   case measure=>simp[intOf];omega
  ·have e:k=ps.length:=by omega
   subst e;have hl:=hrow.len;have RH:=zaa hrow;have YH:=zaa hys;clear hrow hys hc;go_wp2;go_ret;have e:=yaje hl YH.o;refine ⟨_,rfl,?_,hb⟩;rw[← e];exact RH.o.wide (Nat.le_refl _) hz
theorem zkq (ao:Option Addr) (n cap:Nat) (left:Int) (w:World) (hn:n≤maxLen) (h0:0≤left) (h1:left≤1048576) :
  Calls Tryz.prog 75 #[.slice ao n cap,.int .i64 left] w fun e w'=>e=.returned (.int .i64 (zjg left n))∧w'=w:=by
 unfold maxLen at hn
 by_cases h:left < n
 ·have e:zjg left n=-1:=by unfold zjg;rw[if_pos h]
  rw[e];clear e;go_enter Tryz.func75,Tryz.ntmps75;go_wp2;go_ret;exact ⟨rfl,rfl⟩
 ·have e:zjg left n=left - n:=by unfold zjg;rw[if_neg h]
  rw[e];clear e;go_enter Tryz.func75,Tryz.ntmps75;go_wp2;go_ret;exact ⟨rfl,rfl⟩
theorem zsg (a v:Int) (w:World):Calls Tryz.prog 193 #[.agg #[.int .i64 a,.int .i64 v],.agg #[.int .i64 a,.int .i64 v]] w fun e w'=>e=.returned (.bool true)∧Below w.heap.size w w':=by
 go_enter Tryz.func193,Tryz.ntmps193;go_wp2;go_ret;refine ⟨rfl,?_⟩
 repeat (refine Below.alloc ?_ (by simp <;> omega) _)
 exact Below.refl _ _
theorem zrb (va vb:Value) (ps:List Se) (w:World) (ha:RdE w va ps) (hb:RdE w vb ps) (hn:ps.length≤2147483648) :
  Calls Tryz.prog 105 #[va,vb] w fun e w'=>e=.returned (.bool true)∧Below w.heap.size w w':=by
 obtain ⟨ao,cap,rfl,hcap,hc⟩:=ha.shape;obtain ⟨ao2,cap2,rfl,hcap2,hc2⟩:=hb.shape;clear ha hb;go_enter Tryz.func105,Tryz.ntmps105;go_wp2
 go_loopw [5] (fun i wr=>∃ k:Nat,k≤ps.length∧i=.int .i64 k∧Below w.heap.size w wr) (fun i _=>ps.length - (intOf i).toNat)
 case atStart=>exact ⟨0,by omega,rfl,Below.refl _ _⟩
 case round =>
  obtain ⟨k,hk,rfl,hbw⟩:=hrel
  by_cases hlt:k < ps.length
  ·obtain ⟨b,o,rfl,hbl,hcell⟩:=hc (by omega);obtain ⟨b2,o2,rfl,hbl2,hcell2⟩:=hc2 (by omega);obtain ⟨c0,c1⟩:=hcell k hlt;obtain ⟨c3,c4⟩:=hcell2 k hlt;have d0:=(hbw.cell (p:=⟨b,o+k*2,none⟩) hbl).trans c0;have d1:=(hbw.cell (p:=⟨b,o+k*2+1,none⟩) hbl).trans c1;have d3:=(hbw.cell (p:=⟨b2,o2+k*2,none⟩) hbl2).trans c3;have d4:=(hbw.cell (p:=⟨b2,o2+k*2+1,none⟩) hbl2).trans c4
   have hlt':(k:Int) < (ps.length:Int):=by omega
   have hge:(0:Int)≤(k:Int):=by omega
   have hz:=hbw.size;clear hcell hcell2 hc hc2 c0 c1 c3 c4;go_wp2_with fail
   go_region_with (go_at_call 193;refine (zsg _ _ _).mono ?_;rintro e w1 ⟨rfl,hb1⟩)
   all_goals
    go_wp2
    go_roundw
    case rel=>exact ⟨k+1,by omega,by go_num,hbw.trans (Below.mono (Below.trans ((Below.refl _ _).drew) ‹_›) hz)⟩
    case measure=>simp[intOf];omega
  ·go_wp2;go_ret;exact ⟨rfl,hbw⟩
def yaos (k:Int) (i:Nat):Se:=⟨k+2*(i:Int),k+2*(i:Int)+1⟩
def zeh (k:Int) (n:Nat):List Se:=(List.range n).map (yaos k)
theorem zcx (k:Int) (n:Nat):(zeh k n).length=n:=by simp[zeh]
theorem zwv (k:Int) (n i:Nat) (h:i < (zeh k n).length):(zeh k n)[i]=yaos k i:=by simp[zeh]
def IsSes (xs:List Value) (n:Nat):Prop:=∀ k,k < n→∃ a b,xs[k*2]?=some (.int .i64 a)∧xs[k*2+1]?=some (.int .i64 b)
theorem yath (ps:List Se):IsSes (ses ps) ps.length:=fun k hk=>⟨_,_,zts ps k hk,zsd ps k hk⟩
theorem IsSes.put2 {ys:List Value} {n:Nat} (h:IsSes ys n) (hl:ys.length=n*2) (k:Nat) (a b:Int):IsSes (put2 ys k (.int .i64 a) (.int .i64 b)) n:=by
 intro j hj;rw[zxo (by omega),zxo (by omega)]
 by_cases e:j=k
 ·subst e;exact ⟨a,b,by simp,by simp⟩
 ·obtain ⟨x,y,h0,h1⟩:=h j hj;refine ⟨x,y,?_,?_⟩
  ·rw[if_neg (by omega),if_neg (by omega)];exact h0
  ·rw[if_neg (by omega),if_neg (by omega)];exact h1
theorem zos (v:Value) (n:Nat) (xs:List Value) (k0:Int) (lo hi:Nat) (w:World) (h:Row w 193 2 lo hi v n xs) (hx:IsSes xs n) (hn:n≤2147483648) (h0:0≤k0) (h1:k0≤1099511627776) :
  Calls Tryz.prog 107 #[v,.int .i64 k0] w fun e w'=>e=.returned (.int .i64 (k0+2*n))∧Row w' 193 2 lo hi v n (ses (zeh k0 n))∧w.grownBy w' v.ownBlock∧w'.heap.size=w.heap.size:=by
 obtain ⟨hlen,ao,cap,rfl,hcap,hc⟩:=h.rd;go_enter Tryz.func107,Tryz.ntmps107;go_wp2
 go_loopw [1,5] (fun c i wr=>∃ k:Nat,k≤n∧i=.int .i64 k∧c=.int .i64 (k0+2*k)∧(∃ ys:List Value,Row wr 193 2 lo hi (.slice ao n cap) n ys∧IsSes ys n∧∀ j,j < k*2→ys[j]?=(ses (zeh k0 n))[j]?)∧w.grownBy wr (Value.slice ao n cap).ownBlock∧wr.heap.size=w.heap.size) (fun _ i _=>n - (intOf i).toNat)
 case atStart=>exact ⟨0,by omega,rfl,by simp,⟨xs,h,hx,fun j hj=>absurd hj (by omega)⟩,World.grownBy.refl _ _,rfl⟩
 case round =>
  obtain ⟨k,hk,rfl,rfl,⟨ys,hrow,hys,hd⟩,hout,hz⟩:=hrel;clear h hx hc hlen
  by_cases hlt:k < n
  ·obtain ⟨hlen,ao',cap',e',_,hc⟩:=hrow.rd
   cases e'
   obtain ⟨b,o,rfl,hbl,_⟩:=hc (by omega)
   obtain ⟨rfl,hb1,hb2,_,hfr,hcl⟩:=hrow.at
   obtain ⟨x,y,q0,q1⟩:=hys k hlt;have f0:=hfr (k*2);have f1:=hfr (k*2+1);have e0:=(hcl (k*2) (by omega)).trans q0;have e1:=(hcl (k*2+1) (by omega)).trans q1;have PH:=zaa (hrow.put2 k (.int .i64 (k0+2*k)) (.int .i64 (k0+2*k+1)));have OH:=zaa (zbm (zbm hout (a:=⟨b,k*2,none⟩) rfl (.int .i64 (k0+2*k))) (a:=⟨b,k*2+1,none⟩) rfl (.int .i64 (k0+2*k+1)));have IH:=zaa (hys.put2 hlen k (k0+2*k) (k0+2*k+1))
   have DH:Hid (∀ j,j < (k+1)*2→(put2 ys k (.int .i64 (k0+2*k)) (.int .i64 (k0+2*k+1)))[j]?=(ses (zeh k0 n))[j]?):=by
    have hk':k < (zeh k0 n).length:=by rw[zcx];exact hlt
    have:=zup (ps:=zeh k0 n) hk' (by rw[zcx];exact hlen) hd;rw[zwv] at this;exact this
   clear hrow hys hd hc hfr hcl q0 q1;go_wp2
   go_roundw
   case rel=>exact ⟨k+1,by omega,by go_num,by go_num,⟨_,PH.o,IH.o,DH.o⟩,OH.o,by simp[hz]⟩
   case measure=>simp[intOf];omega
  ·have e:k=n:=by omega
   subst e;have hl:=hrow.len;have RH:=zaa hrow;have DH:=zaa hd;clear hrow hys hd;go_wp2;go_ret;have e:=yaje (ps:=zeh k0 k) (by rw[zcx];exact hl) (by rw[zcx];exact DH.o);exact ⟨rfl,e ▸ RH.o,hout,hz⟩
theorem zof (v:Value) (n:Nat) (k0:Int) (w:World) (h:RdE w v (zeh k0 n)) (hn:n≤2147483648) (h0:0≤k0) (h1:k0≤1099511627776) :
  Calls Tryz.prog 211 #[v,.int .i64 k0] w fun e w'=>e=.returned (.int .i64 (k0+2*n))∧w'=w:=by
 obtain ⟨ao,cap,rfl,hcap,hc⟩:=h.shape;simp only[zcx] at hcap hc ⊢;clear h;go_enter Tryz.func211,Tryz.ntmps211;go_wp2
 go_loop [1,5] (fun c i=>∃ k:Nat,k≤n∧i=.int .i64 k∧c=.int .i64 (k0+2*k)) (fun _ i=>n - (intOf i).toNat)
 case atStart=>exact ⟨0,by omega,rfl,by simp⟩
 case round =>
  obtain ⟨k,hk,rfl,rfl⟩:=hrel
  by_cases hlt:k < n
  ·obtain ⟨b,o,rfl,hbl,hcell⟩:=hc (by omega);obtain ⟨c0,c1⟩:=hcell k hlt;rw[zwv] at c0 c1;simp only[yaos] at c0 c1;clear hcell hc;go_wp2
   go_round
   case rel=>exact ⟨k+1,by omega,by go_num,by go_num⟩
   case measure=>simp[intOf];omega
  ·have e:k=n:=by omega
   subst e;go_wp2;go_ret;exact ⟨rfl,rfl⟩
theorem zfg:(Tryz.prog.info? 180).map (fun i=>(i.zero,i.size,i.bytes))=some (some (.agg #[.int .i64 0,.int .i64 0]),2,16):=by kernel_rfl
theorem zfs (w1:World) (x y:Int):Rd (w1.alloc (.cells #[.int .i64 x,.int .i64 y] 180)) 2 (.slice (some ⟨w1.heap.size,0,none⟩) 1 1) 1 (ses [⟨x,y⟩]):=by
 refine ⟨rfl,_,_,rfl,⟨Nat.le_refl _,fun e=>by cases e⟩,fun _=>⟨w1.heap.size,0,rfl,by simp,fun j hj=>?_⟩⟩;obtain ⟨e0,e1,_,_⟩:=zac (zah (w:=w1) (o:=.cells #[.int .i64 x,.int .i64 y] 180) rfl)
 rcases (show j=0∨j=1 by omega) with rfl | rfl
 ·exact e0
 ·exact e1
theorem zcm (l:List Se):∀ u∈ses l,u.oneCell'=true:=by
 intro u hu;simp only[ses,List.mem_flatMap] at hu;obtain ⟨m,_,hm⟩:=hu;simp[Se.cells] at hm
 rcases hm with rfl | rfl <;> rfl
theorem yahp (l l':List Se):ses (l ++ l')=ses l ++ ses l':=by simp[ses]
structure UpI (W w:World) (vL:Value) (ls:List Se):Prop where
 l:w.ownsRow W.heap.size 180 2 vL ls.length (ses ls)
 b:Below W.heap.size W w
theorem UpI.z {W w:World} {vL:Value} {ls:List Se} (h:UpI W w vL ls):W.heap.size≤w.heap.size:=h.b.size
theorem UpI.below {W w w':World} {vL:Value} {ls:List Se} (h:UpI W w vL ls) (hb:Below w.heap.size w w'):UpI W w' vL ls :=
 ⟨((zad h.l).below hb (Nat.le_refl _)).1,zab h.b hb h.z⟩
theorem UpI.grow {W w w':World} {vL v':Value} {ls:List Se} (h:UpI W w vL ls) (ms:List Se) (ho:w'.ownsRow W.heap.size 180 2 v' (ls.length+ms.length) (ses ls ++ ses ms)) (hg:w.grownBy w' vL.ownBlock):UpI W w' v' (ls ++ ms) :=
 ⟨by rw[yahp,List.length_append];exact ho,h.b.grown hg h.z (fun q hq=>(h.l.lt q hq).1)⟩
def wrL (i:Int) (x:Ino) (k:Nat):List Se:=[⟨48+12*i,x.kind⟩,⟨48+12*i+1,x.size⟩,⟨48+12*i+2,x.links⟩] ++ (List.range k).map (fun j=>⟨48+12*i+(3+(j:Int)),x.map.getD j 0⟩)
theorem ztd (i:Int) (x:Ino) (k:Nat):(wrL i x k).length=3+k:=by simp[wrL];omega
theorem yale (i:Int) (x:Ino) (k:Nat):wrL i x (k+1)=wrL i x k ++ [⟨48+12*i+(3+(k:Int)),x.map.getD k 0⟩]:=by
 unfold wrL;rw[List.range_succ,List.map_append,List.append_assoc];rfl
theorem zuz (i:Int) (x:Ino) (w:World) (hi:0≤i∧i < 16) :
  Calls Tryz.prog 229 #[.int .i64 i,x.v] w fun e w'=>∃ v',e=.returned v'∧Row w' 180 2 w.heap.size w'.heap.size v' (wrL i x 8).length (ses (wrL i x 8))∧Below w.heap.size w w':=by
 have hv:x.v=.agg x.cs.toArray:=rfl
 obtain ⟨W,hW⟩:∃ W,W=w.alloc (.cells x.cs.toArray 133):=⟨_,rfl⟩
 have CA:Hid (∀ w',Below W.heap.size W w'→∀ j,w'.cell? ⟨w.heap.size,j,none⟩=x.cs[j]?):=fun w' hb j=>by
  have:w'.heap[w.heap.size]?=some (.cells x.cs.toArray 133 (0,0)):=(hb.block _ (by rw[hW];simp)).trans (by rw[hW];exact zah rfl);exact (zae (xs:=x.cs) this j).1
 have BW:Hid (Below w.heap.size w W):=by rw[hW];exact (Below.refl _ _).alloc (Nat.le_refl _) _
 have c0:W.cell? ⟨w.heap.size,0,none⟩=some (.int .i64 x.kind):=CA.o W (Below.refl _ _) 0;have c1:W.cell? ⟨w.heap.size,1,none⟩=some (.int .i64 x.size):=CA.o W (Below.refl _ _) 1;have c2:W.cell? ⟨w.heap.size,2,none⟩=some (.int .i64 x.links):=CA.o W (Below.refl _ _) 2
 have hWz:w.heap.size < W.heap.size:=by rw[hW];simp
 rw[hv];go_enter Tryz.func229,Tryz.ntmps229
 have SK:Hid (∀ w',Below W.heap.size W w'→w'.cell? ⟨w.heap.size,0,none⟩=some (.int .i64 x.kind)∧w'.cell? ⟨w.heap.size,1,none⟩=some (.int .i64 x.size)∧w'.cell? ⟨w.heap.size,2,none⟩=some (.int .i64 x.links)):=fun w' hb=>⟨CA.o w' hb 0,CA.o w' hb 1,CA.o w' hb 2⟩
 go_wp2_with fail;rw[← hW];clear hW c0 c1 c2
 go_region_held3 (fun w'=>w'.cell? ⟨w.heap.size,0,none⟩=some (.int .i64 x.kind)∧w'.cell? ⟨w.heap.size,1,none⟩=some (.int .i64 x.size)∧w'.cell? ⟨w.heap.size,2,none⟩=some (.int .i64 x.links))
  (exact SK.o _ (by repeat (first | exact Below.refl _ _ | refine Below.drew ?_ | refine Below.alloc ?_ (by simp) _)))
  (first | (go_at_call 143;refine (zbe _ _ _ hi (by omega)).mono ?_;rintro e w' ⟨rfl,hw'⟩;subst w'))
 have START:Hid (UpI W (W.alloc (.cells #[.int .i64 (48+12*i),.int .i64 x.kind,.int .i64 (48+12*i+1),.int .i64 x.size,.int .i64 (48+12*i+2),.int .i64 x.links] 180)).drew (.slice (some ⟨W.heap.size,0,none⟩) 3 3) (wrL i x 0)) :=
  UpI.below (w:=W.alloc (.cells #[.int .i64 (48+12*i),.int .i64 x.kind,.int .i64 (48+12*i+1),.int .i64 x.size,.int .i64 (48+12*i+2),.int .i64 x.links] 180)) ⟨World.ownsRow_lit W _ 3 (Nat.le_refl _) (by simp[maxLen]) rfl,(Below.refl _ _).alloc (Nat.le_refl _) _⟩ ((Below.refl _ _).drew)
 clear SK;go_wp2
 go_loopw [5,6] (fun vL i' wr=>∃ m:Nat,m≤8∧i'=.int .i64 m∧Hid (UpI W wr vL (wrL i x m))) (fun _ i' _=>8 - (intOf i').toNat)
 case atStart=>exact ⟨0,by omega,rfl,START⟩
 case round =>
  obtain ⟨m,hm,rfl,J⟩:=hrel;clear START
  have m0:(0:Int)≤(m:Int):=by omega
  by_cases hlt:m < 8
  ·have m1:(m:Int) < 8:=by omega
   have SK:Hid (∀ w',Below W.heap.size W w'→w'.cell? ⟨w.heap.size,3+m,none⟩=some (.int .i64 (x.map.getD m 0))):=fun w' hb=>(CA.o w' hb (3+m)).trans (x.at m hlt)
   have x1:=SK.o wr J.o.b;have EM:=zaa (yale i x m);have l1:=ztd i x m
   have l2:(wrL i x m).length≤11:=by omega
   have li:=hi.1;have lj:=hi.2
   have wp1:IntKind.i64.wrap (3+(m:Int))=3+(m:Int):=by rw[IntKind.wrap_i64];omega
   generalize x.map.getD m 0=y at *;have J4:=zaa (J.o.below ((Below.refl _ _).alloc (Nat.le_refl _) (.cells #[.int .i64 (48+12*i+(3+(m:Int))),.int .i64 y] 180)));have J4d:=zaa ((J.o.below ((Below.refl wr.heap.size wr).drew)).below ((Below.refl _ _).alloc (Nat.le_refl _) (.cells #[.int .i64 (48+12*i+(3+(m:Int))),.int .i64 y] 180)));have HRD:=zaa (zfs wr (48+12*i+(3+(m:Int))) y);have HRDd:=zaa (zfs wr.drew (48+12*i+(3+(m:Int))) y);clear l1;go_wp2_with fail
   go_region_held3 (fun w'=>w'.cell? ⟨w.heap.size,3+m,none⟩=some (.int .i64 y))
    (first | exact SK.o _ G.o.b | exact SK.o _ J.o.b | exact SK.o _ J.o.b.drew | exact SK.o _ J4.o.b | exact SK.o _ J4d.o.b)
    (first
     | (go_at_call 143;refine (zbe _ _ _ hi (by omega)).mono ?_;rintro e w' ⟨rfl,hw'⟩;subst w')
     | (refine zal rfl (.tmp 27) (.tmp 37) 135 rfl W.heap.size 180 (.agg #[.int .i64 0,.int .i64 0]) 2 16 Tryz.underlying135 zfg rfl (by decide) _ (wrL i x m).length (ses (wrL i x m)) rfl (by first | exact J4.o.l | exact J4d.o.l) _ 1 (ses [⟨48+12*i+(3+(m:Int)),y⟩]) rfl (by first | exact HRD.o | exact HRDd.o) (zcm _) (by simp[maxLen];omega) (by omega) (by first | exact J4.o.z | exact J4d.o.z) ?_;intro vN wN hownN hgrN;have G:=(by first | exact zaa (J4.o.grow [⟨48+12*i+(3+(m:Int)),y⟩] hownN hgrN) | exact zaa (J4d.o.grow [⟨48+12*i+(3+(m:Int)),y⟩] hownN hgrN):Hid (UpI W wN vN (wrL i x m ++ [⟨48+12*i+(3+(m:Int)),y⟩])));clear hownN hgrN))
   all_goals
    rw[← EM.o] at G;clear J J4 J4d HRD HRDd x1 SK;go_wp2
    go_roundw
    case rel=>exact ⟨m+1,by omega,by go_num,G⟩
    case measure=>simp[intOf];omega
  ·obtain rfl:m=8:=by omega
   obtain ⟨-,aL,cL,hvL,-⟩:=(zad J.o.l).rd;subst hvL;go_wp2;go_ret;exact ⟨_,rfl,(zad J.o.l).wide (by omega) (Nat.le_refl _),zab BW.o (J.o.b) (by omega)⟩
end Go.Proofs.YtehnphoeplmpdaaGreatDoor

namespace Go.Proofs.YtehnphoeplmpdaaGreatDoor
def ztq (n:Nat):List Nat:=if _h:n=0 then [] else ztq (n / 27) ++ [n % 27]
termination_by n
decreasing_by omega
theorem zpu:ztq 0=[]:=by rw[ztq];simp
theorem zkt {n:Nat} (h:0 < n):ztq n=ztq (n / 27) ++ [n % 27]:=by rw[ztq];simp[show n≠0 by omega]
def val (ds:List Nat):Nat:=ds.foldl (fun a d=>27*a+d) 0
theorem yaan (ds:List Nat) (d:Nat):val (ds ++ [d])=27*val ds+d:=by simp[val]
theorem yahx {n:Nat} (h:0 < n):1≤(ztq n).length:=by rw[zkt h];simp
theorem yakd {α:Type} {P:List α→Prop} (h0:P []) (h1:∀ l x,P l→P (l ++ [x])):∀ l,P l:=by
 intro l
 have:∀ n (l:List α),l.length=n→P l:=by
  intro n
  induction n with
  | zero=>intro l hl;rw[List.length_eq_zero_iff.1 hl];exact h0
  | succ n ih =>
   intro l hl
   have hne:l≠[]:=by intro h;subst h;simp at hl
   rw[← List.dropLast_concat_getLast hne];exact h1 _ _ (ih _ (by simp[hl]))
 exact this _ l rfl
theorem yaqo (ds:List Nat):(∀ d∈ds,d < 27)→val ds < 27 ^ ds.length:=by
 refine yakd (P:=fun ds=>(∀ d∈ds,d < 27)→val ds < 27 ^ ds.length) (fun _=>by simp[val]) (fun l x ih h=>?_) ds;have hx:=h x (by simp);have:=ih (fun d hd=>h d (by simp[hd]));rw[yaan,List.length_append,List.length_singleton,Nat.pow_succ];omega
theorem yall (k:Nat):∀ n,n < 27 ^ k→(ztq n).length≤k:=by
 induction k with
 | zero =>
  intro n h
  have:n=0:=by simpa using h
  subst this;rw[zpu];simp
 | succ k ih =>
  intro n h
  by_cases h0:n=0
  ·subst h0;rw[zpu];simp
  ·rw[zkt (by omega),List.length_append,List.length_singleton];have:=ih (n / 27) (by rw[Nat.pow_succ] at h;omega);omega
structure Dg (n m:Nat) (ds:List Nat):Prop where
 eq:ztq n=ztq m ++ ds
 ok:∀ d∈ds,1≤d∧d < 27
theorem Dg.start (n:Nat):Dg n n []:=⟨by simp,fun d h=>by cases h⟩
theorem Dg.step {n m:Nat} {ds:List Nat} (h:Dg n m ds) (hm:0 < m) (h1:m % 27≠0):Dg n (m / 27) (m % 27 :: ds) :=
 ⟨by rw[h.eq,zkt hm];simp,fun d hd=>by
  rcases List.mem_cons.1 hd with rfl | hd
  ·omega
  ·exact h.ok d hd⟩
theorem Dg.zero {n m:Nat} {ds:List Nat} (h:Dg n m ds) (hm:0 < m) (h0:m % 27=0):¬ ∀ d∈ztq n,1≤d:=fun x=>by
 have:=x (m % 27) (by rw[h.eq,zkt hm];simp);omega
theorem Dg.many {n m:Nat} {ds:List Nat} (h:Dg n m ds) (hm:0 < m):ds.length < (ztq n).length:=by
 rw[h.eq,zkt hm];simp;omega
theorem Dg.len {n m:Nat} {ds:List Nat} (h:Dg n m ds):ds.length≤(ztq n).length:=by rw[h.eq];simp
theorem Dg.done {n:Nat} {ds:List Nat} (h:Dg n 0 ds):ztq n=ds:=by rw[h.eq,zpu];simp
def nmB (s:ByteArray):Bool:=decide (1≤s.size∧s.size≤6∧∀ j (h:j < s.size),97≤s[j].toNat∧s[j].toNat≤122)
theorem zuj {s:ByteArray} (h:s.size < 1):nmB s=false:=decide_eq_false (fun x=>by omega)
theorem zsc {s:ByteArray} (h:6 < s.size):nmB s=false:=decide_eq_false (fun x=>by omega)
theorem zpm {s:ByteArray} {k:Nat} (h:k < s.size) (hb:¬ (97≤s[k].toNat∧s[k].toNat≤122)):nmB s=false:=decide_eq_false (fun x=>hb (x.2.2 k h))
theorem zys {s:ByteArray} (h0:1≤s.size) (h6:s.size≤6) (h:∀ j (h:j < s.size),97≤s[j].toNat∧s[j].toNat≤122):nmB s=true:=decide_eq_true ⟨h0,h6,h⟩
theorem zdc {s:ByteArray} (h:nmB s=true):1≤s.size∧s.size≤6∧∀ j (h:j < s.size),97≤s[j].toNat∧s[j].toNat≤122:=of_decide_eq_true h
def letD (b:UInt8):Nat:=b.toNat - 96
def ltrs (s:ByteArray):List Nat:=s.data.toList.map letD
def pk (s:ByteArray) (k:Nat):Nat:=val ((ltrs s).take k)
theorem zsv (s:ByteArray):(ltrs s).length=s.size:=by unfold ltrs;rw[List.length_map,Array.length_toList];rfl
theorem yahc (s:ByteArray) (j:Nat) (h:j < s.size):(ltrs s)[j]'(by rw[zsv];exact h)=s[j].toNat - 96:=by
 simp only[ltrs,List.getElem_map,letD,Array.getElem_toList];rfl
theorem zyy (s:ByteArray):pk s 0=0:=by simp[pk,val]
theorem yagd (s:ByteArray) (k:Nat) (h:k < s.size):pk s (k+1)=27*pk s k+(s[k].toNat - 96):=by
 unfold pk;rw[List.take_succ_eq_append_getElem (by rw[zsv];exact h),yaan,yahc s k h]
theorem yaoz {s:ByteArray} {k:Nat} (hl:∀ j (h:j < s.size),j < k→97≤s[j].toNat∧s[j].toNat≤122) (h6:k≤6):pk s k < 387420489:=by
 have h1:pk s k < 27 ^ ((ltrs s).take k).length:=by
  unfold pk;apply yaqo;intro d hd;obtain ⟨i,hi,rfl⟩:=List.getElem_of_mem hd;simp only[List.length_take,zsv] at hi;rw[List.getElem_take,yahc s i (by omega)];have:=hl i (by omega) (by omega);omega
 have h2:((ltrs s).take k).length≤6:=by simp only[List.length_take];omega
 have h3:27 ^ ((ltrs s).take k).length≤27 ^ 6:=Nat.pow_le_pow_right (by omega) h2;omega
def zce (ds:List Nat):ByteArray:=⟨(ds.map fun d=>UInt8.ofNat (96+d)).toArray⟩
theorem zby (ds:List Nat):(zce ds).size=ds.length:=by simp[zce,ByteArray.size]
theorem yacn (ds:List Nat) (j:Nat) (h:j < (zce ds).size) (hd:∀ d∈ds,d < 27):(zce ds)[j].toNat=96+ds[j]'(by rw[zby] at h;exact h):=by
 have hj:j < ds.length:=by rw[zby] at h;exact h
 have:=hd _ (List.getElem_mem hj)
 have e:(zce ds)[j]=UInt8.ofNat (96+ds[j]):=by
  have e1:(zce ds)[j]=((ds.map fun d=>UInt8.ofNat (96+d)).toArray)[j]'(by simpa using hj):=rfl;rw[e1,List.getElem_toArray,List.getElem_map]
 rw[e,UInt8.toNat_ofNat'];omega
theorem zwl (d:Nat) (ds:List Nat):(⟨#[UInt8.ofNat (96+d)]⟩:ByteArray) ++ zce ds=zce (d :: ds):=by
 apply ByteArray.ext;simp[zce]
theorem zzs {ds:List Nat} (hd:∀ d∈ds,1≤d∧d < 27) (h1:1≤ds.length) (h6:ds.length≤6):nmB (zce ds)=true:=by
 refine zys (by rw[zby];exact h1) (by rw[zby];exact h6) (fun j h=>?_);rw[yacn ds j h (fun d x=>(hd d x).2)];have:=hd _ (List.getElem_mem (by rw[zby] at h;exact h));omega
def zgk (n:Int):Bool:=decide (0 < n∧(∀ d∈ztq n.toNat,1≤d)∧(ztq n.toNat).length≤6)
def zxk (n:Int):ByteArray:=if zgk n=true then zce (ztq n.toNat) else ⟨#[]⟩
def unpC (n:Int):Int:=if zgk n=true then 0 else 3
def zqk (s:ByteArray):Int:=if nmB s=true then (pk s s.size:Nat) else 0
def zqm (s:ByteArray):Int:=if 65536 < s.size then 2 else if nmB s=true then 0 else 12
theorem zyw {n:Int} (h:zgk n=false):zxk n=⟨#[]⟩∧unpC n=3:=by unfold zxk unpC;rw[h];exact ⟨rfl,rfl⟩
theorem zzt {n:Int} (h:¬ 0 < n):zgk n=false:=decide_eq_false (fun x=>h x.1)
theorem yaay {n:Nat} {m:Nat} {ds:List Nat} (h:Dg n m ds) (hm:0 < m) (h0:m % 27=0):zgk (n:Int)=false:=decide_eq_false (fun x=>h.zero hm h0 x.2.1)
theorem yakf {n:Nat} {m:Nat} {ds:List Nat} (h:Dg n m ds) (hm:0 < m) (h6:6≤ds.length):zgk (n:Int)=false:=decide_eq_false (fun x=>by have:=h.many hm;have:=x.2.2;simp only[Int.toNat_natCast] at this;omega)
theorem yakp {n:Nat} {ds:List Nat} (h:Dg n 0 ds) (hn:0 < n) (h6:ds.length≤6):zxk (n:Int)=zce ds∧unpC (n:Int)=0:=by
 have g:zgk (n:Int)=true:=decide_eq_true ⟨by omega,by rw[Int.toNat_natCast,h.done];exact fun d x=>(h.ok d x).1,by rw[Int.toNat_natCast,h.done];exact h6⟩;unfold zxk unpC;rw[if_pos g,if_pos g,Int.toNat_natCast,h.done];exact ⟨rfl,rfl⟩
end Go.Proofs.YtehnphoeplmpdaaGreatDoor
