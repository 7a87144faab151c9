/- Several texts laid together: SecS, SecT, UpL, ImC, ImD. -/
import Derived.Test.YtbohndgbfbfldaaGreatDoorIntS
import Derived.Deep.RegionWith
import Derived.Test.YtbohndgbfbfldaaGreatDoorZAE
import Derived.Deep.RegionHeld3
import Derived.Laws.OwnMore
import Derived.Test.YtbohndgbfbfldaaGreatDoorZAD
set_option maxHeartbeats 2000000
namespace Go.Proofs.YtbohndgbfbfldaaGreatDoor
open Go.RowKit
structure Se where
 at_:Int
 val:Int
deriving DecidableEq
def Se.cells (s:Se):List Value:=[.int .i64 s.at_,.int .i64 s.val]
def ses (ps:List Se):List Value:=ps.flatMap Se.cells
theorem Se.cells_len (s:Se):s.cells.length=2:=rfl
theorem yabc (ps:List Se):(ses ps).length=ps.length*2:=zcu _ 2 Se.cells_len ps
theorem zpl (ps:List Se) (k:Nat) (h:k < ps.length):(ses ps)[k*2]?=some (.int .i64 ps[k].at_):=zam _ 2 Se.cells_len ps k 0 h (by omega)
theorem zpm (ps:List Se) (k:Nat) (h:k < ps.length):(ses ps)[k*2+1]?=some (.int .i64 ps[k].val):=zam _ 2 Se.cells_len ps k 1 h (by omega)
def RdE (w:World) (v:Value) (ps:List Se):Prop:=Rd w 2 v ps.length (ses ps)
theorem RdE.shape {w:World} {v:Value} {ps:List Se} (h:RdE w v ps):∃ ao cap,v=.slice ao ps.length cap∧ps.length≤cap∧(0 < ps.length→∃ b o,ao=some ⟨b,o,none⟩∧b < w.heap.size ∧
  ∀ k (h:k < ps.length),w.cell? ⟨b,o+k*2,none⟩=some (.int .i64 ps[k].at_)∧w.cell? ⟨b,o+k*2+1,none⟩=some (.int .i64 ps[k].val)):=by
 obtain ⟨_,ao,cap,rfl,h2,h3⟩:=h;refine ⟨ao,cap,rfl,h2.1,fun hn=>?_⟩;obtain ⟨b,o,rfl,hb,hc⟩:=h3 hn;exact ⟨b,o,rfl,hb,fun k hk=>⟨(hc (k*2) (by omega)).trans (zpl ps k hk),(hc (k*2+1) (by omega)).trans (zpm ps k hk)⟩⟩
theorem yadh:(Tryz.prog.info? 208).map (fun i=>(i.zero,i.size,i.bytes))=some (some (.agg #[.int .i64 0,.int .i64 0]),2,16):=by kernel_rfl
theorem zms (a v:Int) (w:World):Calls Tryz.prog 203 #[.agg #[.int .i64 a,.int .i64 v]] w fun e w'=>e=.returned (.agg #[.int .i64 a,.int .i64 v])∧Below w.heap.size w w':=by
 go_enter Tryz.func203,Tryz.ntmps203;go_wp2;refine bodyPost_ret (v:=.agg #[.int .i64 a,.int .i64 v]) (by simp[results,Tryz.results203,go_sem]) rfl ⟨rfl,?_⟩
 repeat (refine Below.alloc ?_ (by simp <;> omega) _)
 exact Below.refl _ _
def put2 (ys:List Value) (k:Nat) (a b:Value):List Value:=(ys.set (k*2) a).set (k*2+1) b
theorem zoz {ys:List Value} {k:Nat} {a b:Value} {j:Nat} (hj:j < ys.length):(put2 ys k a b)[j]?=if j=k*2+1 then some b else if j=k*2 then some a else ys[j]?:=by
 unfold put2;rw[zdv (by simpa using hj),zdv hj]
theorem znd {ys:List Value} {ps:List Se} {k:Nat} (hk:k < ps.length) (hl:ys.length=ps.length*2) (h:∀ j,j < k*2→ys[j]?=(ses ps)[j]?) :
  ∀ j,j < (k+1)*2→(put2 ys k (.int .i64 ps[k].at_) (.int .i64 ps[k].val))[j]?=(ses ps)[j]?:=by
 intro j hj;rw[zoz (by omega)]
 split
 ·rename_i e;rw[e,zpm ps k hk]
 ·split
  ·rename_i e;rw[e,zpl ps k hk]
  ·exact h j (by omega)
theorem zuq {ys:List Value} {ps:List Se} (hl:ys.length=ps.length*2) (h:∀ j,j < ps.length*2→ys[j]?=(ses ps)[j]?):ys=ses ps:=by
 apply List.ext_getElem?;intro j
 by_cases hj:j < ps.length*2
 ·exact h j hj
 ·rw[List.getElem?_eq_none (by omega),List.getElem?_eq_none (by rw[yabc];omega)]
theorem Row.put2 {w:World} {e:TypeId} {lo hi:Nat} {b n cap:Nat} {ys:List Value} (h:Row w e 2 lo hi (.slice (some ⟨b,0,none⟩) n cap) n ys) (k:Nat) (x y:Value) :
  Row ((w.setCell ⟨b,k*2,none⟩ x).setCell ⟨b,k*2+1,none⟩ y) e 2 lo hi (.slice (some ⟨b,0,none⟩) n cap) n (put2 ys k x y) :=
 (h.stored (k*2) x).stored (k*2+1) y
theorem zlm (v:Value) (ps:List Se) (w:World) (h:RdE w v ps) (hn:ps.length≤1048576) :
  Calls Tryz.prog 177 #[v] w fun e w'=>∃ v',e=.returned v'∧Row w' 208 2 w.heap.size w'.heap.size v' ps.length (ses ps)∧Below w.heap.size w w':=by
 obtain ⟨ao,cap,rfl,hcap,hc⟩:=h.shape;clear h;have hmk:=zbc (P:=Tryz.prog) 26 208 (.agg #[.int .i64 0,.int .i64 0]) 2 16 Tryz.underlying26 yadh .i64 .i64 ps.length (by omega) (by omega);go_enter Tryz.func177,Tryz.ntmps177;go_wp2
 go_loopw [4] (fun i wr=>∃ k:Nat,k≤ps.length∧i=.int .i64 k∧(∃ ys,Row wr 208 2 w.heap.size (w.heap.size+1) (.slice (some ⟨w.heap.size,0,none⟩) ps.length ps.length) ps.length ys∧∀ j,j < k*2→ys[j]?=(ses ps)[j]?)∧Below w.heap.size w wr∧w.heap.size+1≤wr.heap.size) (fun i _=>ps.length - (intOf i).toNat)
 case atStart =>
  refine ⟨0,by omega,rfl,⟨_,zlk w (.agg #[.int .i64 0,.int .i64 0]) 2 ps.length 208 (by simp[maxLen];omega),fun j hj=>absurd hj (by omega)⟩,(Below.refl _ _).alloc (Nat.le_refl _) _,by simp⟩
 case round =>
  obtain ⟨k,hk,rfl,⟨ys,hrow,hys⟩,hb,hz⟩:=hrel
  by_cases hlt:k < ps.length
  ·obtain ⟨b,o,rfl,hbl,hcell⟩:=hc (by omega);obtain ⟨c0,c1⟩:=hcell k hlt;have d0:=(hb.cell (p:=⟨b,o+k*2,none⟩) hbl).trans c0;have d1:=(hb.cell (p:=⟨b,o+k*2+1,none⟩) hbl).trans c1;have RH:=zaa hrow;have YH:=zaa hys;clear hcell hc c0 c1 hrow hys;go_wp2_with fail;refine (zms _ _ _).mono ?_;rintro e w1 ⟨rfl,hb1⟩;have R1:=zaa (RH.o.below hb1 (by omega))
   obtain ⟨_,_,_,hsz,hfr,hcl⟩:=R1.o.at
   have hl:=RH.o.len;have f0:=hfr (k*2);have f1:=hfr (k*2+1)
   have e0:w1.cell? ⟨w.heap.size,k*2,none⟩=some (ys[k*2]'(by omega)):=by rw[hcl _ (by omega)];simp
   have e1:w1.cell? ⟨w.heap.size,k*2+1,none⟩=some (ys[k*2+1]'(by omega)):=by rw[hcl _ (by omega)];simp
   have BH:=zaa (hb.trans (hb1.mono (show w.heap.size≤wr.heap.size by omega)));have hz1:=hb1.size;clear hfr hcl hb1 hb d0 d1;have P1:=zaa (R1.o.put2 k (.int .i64 ps[k].at_) (.int .i64 ps[k].val));have B1:=zaa ((BH.o.setCell (p:=⟨w.heap.size,k*2,none⟩) (Nat.le_refl _) (.int .i64 ps[k].at_)).setCell (p:=⟨w.heap.size,k*2+1,none⟩) (Nat.le_refl _) (.int .i64 ps[k].val));go_wp2
   go_roundw
   case rel=>exact ⟨k+1,by omega,by go_num,⟨_,P1.o,znd hlt hl YH.o⟩,B1.o,by simp;omega⟩
   case measure=>simp[intOf];omega
  ·have e:k=ps.length:=by omega
   subst e;have hl:=hrow.len;have RH:=zaa hrow;have YH:=zaa hys;clear hrow hys hc;go_wp2;go_ret;have e:=zuq hl YH.o;refine ⟨_,rfl,?_,hb⟩;rw[← e];exact RH.o.wide (Nat.le_refl _) hz
theorem zfd (ao:Option Addr) (n cap:Nat) (left:Int) (w:World) (hn:n≤maxLen) (h0:0≤left) (h1:left≤1048576) :
  Calls Tryz.prog 167 #[.slice ao n cap,.int .i64 left] w fun e w'=>e=.returned (.int .i64 (zdr left n))∧w'=w:=by
 unfold maxLen at hn
 by_cases h:left < n
 ·have e:zdr left n=-1:=by unfold zdr;rw[if_pos h]
  rw[e];clear e;go_enter Tryz.func167,Tryz.ntmps167;go_wp2;go_ret;exact ⟨rfl,rfl⟩
 ·have e:zdr left n=left - n:=by unfold zdr;rw[if_neg h]
  rw[e];clear e;go_enter Tryz.func167,Tryz.ntmps167;go_wp2;go_ret;exact ⟨rfl,rfl⟩
theorem zlx (a v:Int) (w:World):Calls Tryz.prog 199 #[.agg #[.int .i64 a,.int .i64 v],.agg #[.int .i64 a,.int .i64 v]] w fun e w'=>e=.returned (.bool true)∧Below w.heap.size w w':=by
 go_enter Tryz.func199,Tryz.ntmps199;go_wp2;go_ret;refine ⟨rfl,?_⟩
 repeat (refine Below.alloc ?_ (by simp <;> omega) _)
 exact Below.refl _ _
theorem zjm (va vb:Value) (ps:List Se) (w:World) (ha:RdE w va ps) (hb:RdE w vb ps) (hn:ps.length≤2147483648) :
  Calls Tryz.prog 161 #[va,vb] w fun e w'=>e=.returned (.bool true)∧Below w.heap.size w w':=by
 obtain ⟨ao,cap,rfl,hcap,hc⟩:=ha.shape;obtain ⟨ao2,cap2,rfl,hcap2,hc2⟩:=hb.shape;clear ha hb;go_enter Tryz.func161,Tryz.ntmps161;go_wp2
 go_loopw [5] (fun i wr=>∃ k:Nat,k≤ps.length∧i=.int .i64 k∧Below w.heap.size w wr) (fun i _=>ps.length - (intOf i).toNat)
 case atStart=>exact ⟨0,by omega,rfl,Below.refl _ _⟩
 case round =>
  obtain ⟨k,hk,rfl,hbw⟩:=hrel
  by_cases hlt:k < ps.length
  ·obtain ⟨b,o,rfl,hbl,hcell⟩:=hc (by omega);obtain ⟨b2,o2,rfl,hbl2,hcell2⟩:=hc2 (by omega);obtain ⟨c0,c1⟩:=hcell k hlt;obtain ⟨c3,c4⟩:=hcell2 k hlt;have d0:=(hbw.cell (p:=⟨b,o+k*2,none⟩) hbl).trans c0;have d1:=(hbw.cell (p:=⟨b,o+k*2+1,none⟩) hbl).trans c1;have d3:=(hbw.cell (p:=⟨b2,o2+k*2,none⟩) hbl2).trans c3;have d4:=(hbw.cell (p:=⟨b2,o2+k*2+1,none⟩) hbl2).trans c4
   have hlt':(k:Int) < (ps.length:Int):=by omega
   have hge:(0:Int)≤(k:Int):=by omega
   have hz:=hbw.size;clear hcell hcell2 hc hc2 c0 c1 c3 c4;go_wp2_with fail
   go_region_with (go_at_call 199;refine (zlx _ _ _).mono ?_;rintro e w1 ⟨rfl,hb1⟩)
   all_goals
    go_wp2
    go_roundw
    case rel=>exact ⟨k+1,by omega,by go_num,hbw.trans (Below.mono (Below.trans ((Below.refl _ _).drew) ‹_›) hz)⟩
    case measure=>simp[intOf];omega
  ·go_wp2;go_ret;exact ⟨rfl,hbw⟩
def yabn (k:Int) (i:Nat):Se:=⟨k+2*(i:Int),k+2*(i:Int)+1⟩
def zcc (k:Int) (n:Nat):List Se:=(List.range n).map (yabn k)
theorem zaw (k:Int) (n:Nat):(zcc k n).length=n:=by simp[zcc]
theorem zmn (k:Int) (n i:Nat) (h:i < (zcc k n).length):(zcc k n)[i]=yabn k i:=by simp[zcc]
def IsSes (xs:List Value) (n:Nat):Prop:=∀ k,k < n→∃ a b,xs[k*2]?=some (.int .i64 a)∧xs[k*2+1]?=some (.int .i64 b)
theorem yafp (ps:List Se):IsSes (ses ps) ps.length:=fun k hk=>⟨_,_,zpl ps k hk,zpm ps k hk⟩
theorem IsSes.put2 {ys:List Value} {n:Nat} (h:IsSes ys n) (hl:ys.length=n*2) (k:Nat) (a b:Int):IsSes (put2 ys k (.int .i64 a) (.int .i64 b)) n:=by
 intro j hj;rw[zoz (by omega),zoz (by omega)]
 by_cases e:j=k
 ·subst e;exact ⟨a,b,by simp,by simp⟩
 ·obtain ⟨x,y,h0,h1⟩:=h j hj;refine ⟨x,y,?_,?_⟩
  ·rw[if_neg (by omega),if_neg (by omega)];exact h0
  ·rw[if_neg (by omega),if_neg (by omega)];exact h1
theorem zit (v:Value) (n:Nat) (xs:List Value) (k0:Int) (lo hi:Nat) (w:World) (h:Row w 208 2 lo hi v n xs) (hx:IsSes xs n) (hn:n≤2147483648) (h0:0≤k0) (h1:k0≤1099511627776) :
  Calls Tryz.prog 163 #[v,.int .i64 k0] w fun e w'=>e=.returned (.int .i64 (k0+2*n))∧Row w' 208 2 lo hi v n (ses (zcc k0 n))∧w.grownBy w' v.ownBlock∧w'.heap.size=w.heap.size:=by
 obtain ⟨hlen,ao,cap,rfl,hcap,hc⟩:=h.rd;go_enter Tryz.func163,Tryz.ntmps163;go_wp2
 go_loopw [1,5] (fun c i wr=>∃ k:Nat,k≤n∧i=.int .i64 k∧c=.int .i64 (k0+2*k)∧(∃ ys:List Value,Row wr 208 2 lo hi (.slice ao n cap) n ys∧IsSes ys n∧∀ j,j < k*2→ys[j]?=(ses (zcc k0 n))[j]?)∧w.grownBy wr (Value.slice ao n cap).ownBlock∧wr.heap.size=w.heap.size) (fun _ i _=>n - (intOf i).toNat)
 case atStart=>exact ⟨0,by omega,rfl,by simp,⟨xs,h,hx,fun j hj=>absurd hj (by omega)⟩,World.grownBy.refl _ _,rfl⟩
 case round =>
  obtain ⟨k,hk,rfl,rfl,⟨ys,hrow,hys,hd⟩,hout,hz⟩:=hrel;clear h hx hc hlen
  by_cases hlt:k < n
  ·obtain ⟨hlen,ao',cap',e',_,hc⟩:=hrow.rd
   cases e'
   obtain ⟨b,o,rfl,hbl,_⟩:=hc (by omega)
   obtain ⟨rfl,hb1,hb2,_,hfr,hcl⟩:=hrow.at
   obtain ⟨x,y,q0,q1⟩:=hys k hlt;have f0:=hfr (k*2);have f1:=hfr (k*2+1);have e0:=(hcl (k*2) (by omega)).trans q0;have e1:=(hcl (k*2+1) (by omega)).trans q1;have PH:=zaa (hrow.put2 k (.int .i64 (k0+2*k)) (.int .i64 (k0+2*k+1)));have OH:=zaa (zat (zat hout (a:=⟨b,k*2,none⟩) rfl (.int .i64 (k0+2*k))) (a:=⟨b,k*2+1,none⟩) rfl (.int .i64 (k0+2*k+1)));have IH:=zaa (hys.put2 hlen k (k0+2*k) (k0+2*k+1))
   have DH:Hid (∀ j,j < (k+1)*2→(put2 ys k (.int .i64 (k0+2*k)) (.int .i64 (k0+2*k+1)))[j]?=(ses (zcc k0 n))[j]?):=by
    have hk':k < (zcc k0 n).length:=by rw[zaw];exact hlt
    have:=znd (ps:=zcc k0 n) hk' (by rw[zaw];exact hlen) hd;rw[zmn] at this;exact this
   clear hrow hys hd hc hfr hcl q0 q1;go_wp2
   go_roundw
   case rel=>exact ⟨k+1,by omega,by go_num,by go_num,⟨_,PH.o,IH.o,DH.o⟩,OH.o,by simp[hz]⟩
   case measure=>simp[intOf];omega
  ·have e:k=n:=by omega
   subst e;have hl:=hrow.len;have RH:=zaa hrow;have DH:=zaa hd;clear hrow hys hd;go_wp2;go_ret;have e:=zuq (ps:=zcc k0 k) (by rw[zaw];exact hl) (by rw[zaw];exact DH.o);exact ⟨rfl,e ▸ RH.o,hout,hz⟩
theorem zid (v:Value) (n:Nat) (k0:Int) (w:World) (h:RdE w v (zcc k0 n)) (hn:n≤2147483648) (h0:0≤k0) (h1:k0≤1099511627776) :
  Calls Tryz.prog 165 #[v,.int .i64 k0] w fun e w'=>e=.returned (.int .i64 (k0+2*n))∧w'=w:=by
 obtain ⟨ao,cap,rfl,hcap,hc⟩:=h.shape;simp only[zaw] at hcap hc ⊢;clear h;go_enter Tryz.func165,Tryz.ntmps165;go_wp2
 go_loop [1,5] (fun c i=>∃ k:Nat,k≤n∧i=.int .i64 k∧c=.int .i64 (k0+2*k)) (fun _ i=>n - (intOf i).toNat)
 case atStart=>exact ⟨0,by omega,rfl,by simp⟩
 case round =>
  obtain ⟨k,hk,rfl,rfl⟩:=hrel
  by_cases hlt:k < n
  ·obtain ⟨b,o,rfl,hbl,hcell⟩:=hc (by omega);obtain ⟨c0,c1⟩:=hcell k hlt;rw[zmn] at c0 c1;simp only[yabn] at c0 c1;clear hcell hc;go_wp2
   go_round
   case rel=>exact ⟨k+1,by omega,by go_num,by go_num⟩
   case measure=>simp[intOf];omega
  ·have e:k=n:=by omega
   subst e;go_wp2;go_ret;exact ⟨rfl,rfl⟩
theorem yaeo:(Tryz.prog.info? 151).map (fun i=>(i.zero,i.size,i.bytes))=some (some (.agg #[.int .i64 0,.int .i64 0]),2,16):=by kernel_rfl
theorem yafc (w1:World) (x y:Int):Rd (w1.alloc (.cells #[.int .i64 x,.int .i64 y] 151)) 2 (.slice (some ⟨w1.heap.size,0,none⟩) 1 1) 1 (ses [⟨x,y⟩]):=by
 refine ⟨rfl,_,_,rfl,⟨Nat.le_refl _,fun e=>by cases e⟩,fun _=>⟨w1.heap.size,0,rfl,by simp,fun j hj=>?_⟩⟩;obtain ⟨e0,e1,_,_⟩:=zac (zae (w:=w1) (o:=.cells #[.int .i64 x,.int .i64 y] 151) rfl)
 rcases (show j=0∨j=1 by omega) with rfl | rfl
 ·exact e0
 ·exact e1
theorem zyi (l:List Se):∀ u∈ses l,u.oneCell'=true:=by
 intro u hu;simp only[ses,List.mem_flatMap] at hu;obtain ⟨m,_,hm⟩:=hu;simp[Se.cells] at hm
 rcases hm with rfl | rfl <;> rfl
theorem yacw (l l':List Se):ses (l ++ l')=ses l ++ ses l':=by simp[ses]
structure UpI (W w:World) (vL:Value) (ls:List Se):Prop where
 l:w.ownsRow W.heap.size 151 2 vL ls.length (ses ls)
 b:Below W.heap.size W w
theorem UpI.z {W w:World} {vL:Value} {ls:List Se} (h:UpI W w vL ls):W.heap.size≤w.heap.size:=h.b.size
theorem UpI.below {W w w':World} {vL:Value} {ls:List Se} (h:UpI W w vL ls) (hb:Below w.heap.size w w'):UpI W w' vL ls :=
 ⟨((zai h.l).below hb (Nat.le_refl _)).1,zab h.b hb h.z⟩
theorem UpI.grow {W w w':World} {vL v':Value} {ls:List Se} (h:UpI W w vL ls) (ms:List Se) (ho:w'.ownsRow W.heap.size 151 2 v' (ls.length+ms.length) (ses ls ++ ses ms)) (hg:w.grownBy w' vL.ownBlock):UpI W w' v' (ls ++ ms) :=
 ⟨by rw[yacw,List.length_append];exact ho,h.b.grown hg h.z (fun q hq=>(h.l.lt q hq).1)⟩
def wrL (i:Int) (x:Ino) (k:Nat):List Se:=[⟨48+12*i,x.kind⟩,⟨48+12*i+1,x.size⟩,⟨48+12*i+2,x.links⟩] ++ (List.range k).map (fun j=>⟨48+12*i+(3+(j:Int)),x.map.getD j 0⟩)
def iuC (i:Int) (x:Ino):Int:=if 0≤i∧i≤15 then (if zga x=true then 0 else 1) else 4
def iuL (i:Int) (x:Ino):List Se:=if 0≤i∧i≤15 then (if zga x=true then wrL i x 8 else []) else []
theorem zyq (i:Int) (x:Ino):(¬ (0≤i∧i≤15)∧iuC i x=4∧iuL i x=[])∨((0≤i∧i≤15)∧zga x=false∧iuC i x=1∧iuL i x=[])∨((0≤i∧i≤15)∧zga x=true∧iuC i x=0∧iuL i x=wrL i x 8):=by
 unfold iuC iuL
 by_cases h:0≤i∧i≤15
 ·cases q:zga x
  ·exact .inr (.inl ⟨h,rfl,by rw[if_pos h,if_neg (by decide)],by rw[if_pos h,if_neg (by decide)]⟩)
  ·exact .inr (.inr ⟨h,rfl,by rw[if_pos h,if_pos rfl],by rw[if_pos h,if_pos rfl]⟩)
 ·exact .inl ⟨h,by rw[if_neg h],by rw[if_neg h]⟩
theorem Ino.all {x:Ino} {w':World} {b:Nat} (h:∀ j,w'.cell? ⟨b,j,none⟩=x.cs[j]?):w'.cell? ⟨b,0,none⟩=some (.int .i64 x.kind)∧w'.cell? ⟨b,1,none⟩=some (.int .i64 x.size)∧w'.cell? ⟨b,2,none⟩=some (.int .i64 x.links)∧w'.cell? ⟨b,3,none⟩=some (.int .i64 x.m0)∧w'.cell? ⟨b,4,none⟩=some (.int .i64 x.m1)∧w'.cell? ⟨b,5,none⟩=some (.int .i64 x.m2)∧w'.cell? ⟨b,6,none⟩=some (.int .i64 x.m3)∧w'.cell? ⟨b,7,none⟩=some (.int .i64 x.m4)∧w'.cell? ⟨b,8,none⟩=some (.int .i64 x.m5)∧w'.cell? ⟨b,9,none⟩=some (.int .i64 x.m6)∧w'.cell? ⟨b,10,none⟩=some (.int .i64 x.m7):=⟨h 0,h 1,h 2,h 3,h 4,h 5,h 6,h 7,h 8,h 9,h 10⟩
end Go.Proofs.YtbohndgbfbfldaaGreatDoor
