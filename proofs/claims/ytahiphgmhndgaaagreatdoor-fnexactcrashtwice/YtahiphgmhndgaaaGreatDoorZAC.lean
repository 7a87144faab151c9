/- Several texts laid together: Blk, BlkT, Word, PmOK, BlkOK. -/
import Derived.Test.YtahiphgmhndgaaaGreatDoorZAB
import Derived.Test.YtahiphgmhndgaaaGreatDoorZAA
set_option maxHeartbeats 4000000
namespace Go.Proofs.YtahiphgmhndgaaaGreatDoor
open Go.RowKit
def RdBlk (w:World) (v:Value) (ws:List Int) (ps:List Se):Prop:=∃ vW vP,v=.agg #[vW,vP]∧RdI w vW ws∧RdE w vP ps
def RowZ (w:World) (lo hi:Nat) (v:Value) (n:Nat) (xs:List Value):Prop:=∃ e,e≠150∧Row w e 1 lo hi v n xs
theorem RowZ.rd {w:World} {lo hi:Nat} {v:Value} {n:Nat} {xs:List Value} (h:RowZ w lo hi v n xs):Rd w 1 v n xs:=by
 obtain ⟨_,_,h⟩:=h;exact h.rd
theorem RowZ.same {w w':World} {lo hi:Nat} {v:Value} {n:Nat} {xs:List Value} (h:RowZ w lo hi v n xs) (hs:∀ b,lo≤b→b < hi→w'.heap[b]?=w.heap[b]?):RowZ w' lo hi v n xs:=by
 obtain ⟨e,he,h⟩:=h;exact ⟨e,he,h.same hs⟩
theorem RowZ.below {w w':World} {lo hi:Nat} {v:Value} {n:Nat} {xs:List Value} (h:RowZ w lo hi v n xs) {B:Nat} (hb:Below B w w') (hB:hi≤B):RowZ w' lo hi v n xs:=by
 obtain ⟨e,he,h⟩:=h;exact ⟨e,he,h.below hb hB⟩
theorem RowZ.outside {w w':World} {lo hi:Nat} {v:Value} {n:Nat} {xs:List Value} (h:RowZ w lo hi v n xs) {lo' hi':Nat} (ho:Outside lo' hi' w w') (hd:hi≤lo'∨hi'≤lo) (hz:hi≤w.heap.size):RowZ w' lo hi v n xs:=by
 obtain ⟨e,he,h⟩:=h;exact ⟨e,he,h.outside ho hd hz⟩
theorem RowZ.wide {w:World} {lo hi:Nat} {v:Value} {n:Nat} {xs:List Value} (h:RowZ w lo hi v n xs) {lo' hi':Nat} (h1:lo'≤lo) (h2:hi≤hi'):RowZ w lo' hi' v n xs:=by
 obtain ⟨e,he,h⟩:=h;exact ⟨e,he,h.wide h1 h2⟩
theorem RowZ.nil (w:World) (lo hi:Nat):RowZ w lo hi (.slice none 0 0) 0 []:=⟨3,by decide,Row.nil _ _ _ _ _⟩
theorem Row.z {w:World} {lo hi:Nat} {v:Value} {n:Nat} {xs:List Value} (h:Row w 3 1 lo hi v n xs):RowZ w lo hi v n xs:=⟨3,by decide,h⟩
def RowBlk (w:World) (lo hi:Nat) (v:Value) (ws:List Int) (ps:List Se):Prop:=∃ vW vP,v=.agg #[vW,vP]∧RowZ w lo hi vW ws.length (zav ws)∧Row w 150 2 lo hi vP ps.length (ses ps)
theorem RowBlk.rd {w:World} {lo hi:Nat} {v:Value} {ws:List Int} {ps:List Se} (h:RowBlk w lo hi v ws ps):RdBlk w v ws ps:=by
 obtain ⟨vW,vP,rfl,h1,h2⟩:=h;exact ⟨vW,vP,rfl,h1.rd,h2.rd⟩
theorem RdBlk.below {w w':World} {v:Value} {ws:List Int} {ps:List Se} (h:RdBlk w v ws ps) (hb:Below w.heap.size w w'):RdBlk w' v ws ps:=by
 obtain ⟨vW,vP,rfl,h1,h2⟩:=h;exact ⟨vW,vP,rfl,Rd.below h1 hb,Rd.below h2 hb⟩
theorem RowBlk.below {w w':World} {lo hi:Nat} {v:Value} {ws:List Int} {ps:List Se} (h:RowBlk w lo hi v ws ps) {B:Nat} (hb:Below B w w') (hB:hi≤B):RowBlk w' lo hi v ws ps:=by
 obtain ⟨vW,vP,rfl,h1,h2⟩:=h;exact ⟨vW,vP,rfl,h1.below hb hB,h2.below hb hB⟩
theorem RowBlk.outside {w w':World} {lo hi:Nat} {v:Value} {ws:List Int} {ps:List Se} (h:RowBlk w lo hi v ws ps) {lo' hi':Nat} (ho:Outside lo' hi' w w') (hd:hi≤lo'∨hi'≤lo) (hz:hi≤w.heap.size):RowBlk w' lo hi v ws ps:=by
 obtain ⟨vW,vP,rfl,h1,h2⟩:=h;exact ⟨vW,vP,rfl,h1.outside ho hd hz,h2.outside ho hd hz⟩
theorem RowBlk.wide {w:World} {lo hi:Nat} {v:Value} {ws:List Int} {ps:List Se} (h:RowBlk w lo hi v ws ps) {lo' hi':Nat} (h1:lo'≤lo) (h2:hi≤hi'):RowBlk w lo' hi' v ws ps:=by
 obtain ⟨vW,vP,rfl,a,b⟩:=h;exact ⟨vW,vP,rfl,a.wide h1 h2,b.wide h1 h2⟩
theorem yahi (v:Value) (ws:List Int) (ps:List Se) (w:World) (h:RdBlk w v ws ps) (hw:ws.length≤1048576) (hp:ps.length≤1048576) :
  Calls Tryz.prog 69 #[v] w fun e w'=>∃ v',e=.returned v'∧RowBlk w' w.heap.size w'.heap.size v' ws ps∧Below w.heap.size w w':=by
 obtain ⟨vW,vP,rfl,h1,h2⟩:=h;have H1:=zaa h1;have H2:=zaa h2;obtain ⟨aW,cW,eW,_⟩:=h1.shape;obtain ⟨aP,cP,eP,_⟩:=h2.shape;clear h1 h2;subst eW eP;go_enter Tryz.func69,Tryz.ntmps69;go_wp2_with fail
 have hb0:Below w.heap.size w (((w.alloc (.cells #[.slice aW ws.length cW,.slice aP ps.length cP] 28)).alloc (.cells #[.slice none 0 0,.slice none 0 0] 43)).alloc (.cells #[.slice none 0 0,.slice none 0 0] 43)):=by
  repeat (refine Below.alloc ?_ (by simp <;> omega) _)
  exact Below.refl _ _
 refine (zcn _ ws _ (Rd.below H1.o hb0) hw).mono ?_;rintro e w1 ⟨v1,rfl,hr1,hb1⟩;obtain ⟨_,a1,c1,rfl,_⟩:=hr1.rd
 have hz1:w.heap.size+3≤w1.heap.size:=by have:=hb1.size;simp at this;omega
 have V0:=(hb1.block w.heap.size (by simp <;> omega)).trans (zal (zal (zag rfl)));have V1:=(hb1.block (w.heap.size+1) (by simp <;> omega)).trans (zal (zag (by simp)));have V2:=(hb1.block (w.heap.size+1+1) (by simp <;> omega)).trans (zag (by simp));have B1:=zaa (hb0.trans (hb1.mono (by simp <;> omega)));have R1:=zaa hr1;obtain ⟨x1,x2,_,_⟩:=zad V0;obtain ⟨y1,y2,y3,y4⟩:=zad V2;have V2':=zep V2 (.slice a1 ws.length c1);have V1':=(Below.heap_setCell w1 ⟨w.heap.size+1+1,0,none⟩ (.slice a1 ws.length c1) (w.heap.size+1) (by simp)).trans V1;have VH:=zaa (And.intro V1' V2');clear hb0 hb1 hr1 V0 V1 V2 V1' V2';go_wp2_with fail;have hb2:=B1.o.setCell (p:=⟨w.heap.size+1+1,0,none⟩) (by simp;omega) (.slice a1 ws.length c1);refine (zvp _ ps _ (Rd.below H2.o hb2) hp).mono ?_;rintro e w2 ⟨v2,rfl,hr2,hb3⟩;obtain ⟨_,a2,c2,rfl,_⟩:=hr2.rd
 have hz2:w1.heap.size≤w2.heap.size:=by have:=hb3.size;simpa using this
 have V1:=(hb3.block _ (by simp;omega)).trans VH.o.1;have V2:=(hb3.block _ (by simp;omega)).trans VH.o.2;have B2:=zaa (hb2.trans (hb3.mono (by simp;omega)));have K2:=zaa hb3;have R2:=zaa hr2;clear hb2 hb3 hr2;obtain ⟨z1,z2,z3,z4⟩:=zad V2;obtain ⟨t1,t2,t3,t4⟩:=zad V1;clear V1 V2;go_wp2;refine bodyPost_ret (v:=.agg #[.slice a1 ws.length c1,.slice a2 ps.length c2]) (by simp[results,Tryz.results69,go_sem,t1,t2]) rfl ?_;refine ⟨_,rfl,⟨_,_,rfl,((R1.o.same fun b h1 h2=>?_).wide (by simp;omega) (by simp;omega)).z,(R2.o.same fun b h1 h2=>?_).wide (by simp;omega) (by simp)⟩,?_⟩
 ·simp only[World.size_alloc] at h1;rw[Below.heap_setCell _ _ _ _ (by simp only;omega),Below.heap_setCell _ _ _ _ (by simp only;omega),Below.heap_setCell _ _ _ _ (by simp only;omega),K2.o.block b (by simp;omega),Below.heap_setCell _ _ _ _ (by simp only;omega)]
 ·simp at h1;rw[Below.heap_setCell _ _ _ _ (by simp only;omega),Below.heap_setCell _ _ _ _ (by simp only;omega),Below.heap_setCell _ _ _ _ (by simp only;omega)]
 ·exact ((B2.o.setCell (by simp only;omega) _).setCell (by simp only;omega) _).setCell (by simp only;omega) _
theorem yaey (va vb:Value) (ws:List Int) (ps:List Se) (w:World) (ha:RdBlk w va ws ps) (hb:RdBlk w vb ws ps) (hw:ws.length≤2147483648) (hp:ps.length≤2147483648) :
  Calls Tryz.prog 34 #[va,vb] w fun e w'=>e=.returned (.bool true)∧Below w.heap.size w w':=by
 obtain ⟨vW,vP,rfl,h1,h2⟩:=ha;obtain ⟨uW,uP,rfl,h3,h4⟩:=hb;obtain ⟨aW,cW,rfl,_⟩:=h1.shape;obtain ⟨aP,cP,rfl,_⟩:=h2.shape;obtain ⟨bW,dW,rfl,_⟩:=h3.shape;obtain ⟨bP,dP,rfl,_⟩:=h4.shape;have H1:=zaa h1;have H2:=zaa h2;have H3:=zaa h3;have H4:=zaa h4;clear h1 h2 h3 h4;go_enter Tryz.func34,Tryz.ntmps34;go_wp2_with fail
 have hb0:Below w.heap.size w ((w.alloc (.cells #[.slice aW ws.length cW,.slice aP ps.length cP] 43)).alloc (.cells #[.slice bW ws.length dW,.slice bP ps.length dP] 43)):=by
  repeat (refine Below.alloc ?_ (by simp <;> omega) _)
  exact Below.refl _ _
 refine (zfu _ _ ws _ (Rd.below H1.o hb0) (Rd.below H3.o hb0) hw).mono ?_;rintro e w1 ⟨rfl,hb1⟩
 have hz1:w.heap.size+2≤w1.heap.size:=by have:=hb1.size;simp at this;omega
 have V0:=(hb1.block w.heap.size (by simp <;> omega)).trans (zal (zag rfl));have V1:=(hb1.block (w.heap.size+1) (by simp <;> omega)).trans (zag (by simp));have B1:=hb0.trans (hb1.mono (by simp <;> omega));obtain ⟨x1,x2,_,_⟩:=zad V0;obtain ⟨y1,y2,_,_⟩:=zad V1;clear hb0 hb1 V0 V1;go_wp2_with fail;refine (zqz _ _ ps _ (Rd.below H2.o B1) (Rd.below H4.o B1) hp).mono ?_;rintro e w2 ⟨rfl,hb2⟩;go_wp2;go_ret;exact ⟨rfl,B1.trans (hb2.mono (by omega))⟩
theorem yabp (v:Value) (ws:List Int) (ps:List Se) (k0:Int) (lo hi:Nat) (w:World) (h:RowBlk w lo hi v ws ps) (hi1:hi≤w.heap.size) (hw:ws.length≤2147483648) (hp:ps.length≤2147483648) (h0:0≤k0) (h1:k0≤1073741824) :
  Calls Tryz.prog 40 #[v,.int .i64 k0] w fun e w'=>e=.returned (.int .i64 (k0+ws.length+2*ps.length))∧RowBlk w' lo hi v (zgu k0 ws.length) (zew (k0+ws.length) ps.length)∧Outside lo hi w w':=by
 obtain ⟨vW,vP,rfl,h1,h2⟩:=h;obtain ⟨_,aW,cW,rfl,_⟩:=h1.rd;obtain ⟨_,aP,cP,rfl,_⟩:=h2.rd;obtain ⟨e1,he1,h1⟩:=h1;have HE:=zaa he1;have H1:=zaa h1;have H2:=zaa h2;clear h1 h2 he1;go_enter Tryz.func40,Tryz.ntmps40;go_wp2_with fail;have hb0:Below w.heap.size w (w.alloc (.cells #[.slice aW ws.length cW,.slice aP ps.length cP] 43)):=(Below.refl _ _).alloc (Nat.le_refl _) _;refine (zeq _ _ (zav ws) k0 lo hi _ (H1.o.below hb0 hi1) (fun u hu=>by simp only[zav,List.mem_map] at hu;obtain ⟨z,_,rfl⟩:=hu;exact ⟨z,rfl⟩) hw h0 (by omega)).mono ?_;rintro e w1 ⟨rfl,hr1,hg1,hz1⟩;simp only[World.size_alloc] at hz1;have ho1:=Row.grown_outside H1.o hg1;have V0:=(ho1.block w.heap.size (by simp) (.inr hi1)).trans (zag rfl);obtain ⟨x1,x2,_,_⟩:=zad V0;have O1:=zaa ((Outside.of_below (lo:=lo) (hi:=hi) hb0).trans ho1);have R1:=zaa hr1;have R2:=zaa ((H2.o.below hb0 hi1).apart (H1.o.below hb0 hi1) (Ne.symm HE.o) hg1);clear hr1 hg1 ho1 V0;go_wp2_with fail;refine (zqm _ _ (ses ps) (k0+ws.length) lo hi _ R2.o (yawb ps) hp (by omega) (by omega)).mono ?_;rintro e w2 ⟨rfl,hr2,hg2,hz2⟩;have O2:=zaa (O1.o.trans (Row.grown_outside R2.o hg2));have R3:=zaa (R1.o.apart R2.o HE.o hg2);have R4:=zaa hr2;clear hr2 hg2;go_wp2;go_ret;refine ⟨rfl,⟨_,_,rfl,?_,?_⟩,O2.o⟩
 ·rw[zbo];exact ⟨e1,HE.o,R3.o⟩
 ·rw[zce];exact R4.o
theorem yaaj (v:Value) (n m:Nat) (k0:Int) (w:World) (h:RdBlk w v (zgu k0 n) (zew (k0+n) m)) (hw:n≤2147483648) (hp:m≤2147483648) (h0:0≤k0) (h1:k0≤1073741824) :
  Calls Tryz.prog 42 #[v,.int .i64 k0] w fun e w'=>e=.returned (.int .i64 (k0+n+2*m))∧Below w.heap.size w w':=by
 obtain ⟨vW,vP,rfl,h1,h2⟩:=h;obtain ⟨aW,cW,rfl,_⟩:=h1.shape;obtain ⟨aP,cP,rfl,_⟩:=h2.shape;simp only[zbo,zce] at *;have H1:=zaa h1;have H2:=zaa h2;clear h1 h2;have hb0:Below w.heap.size w (w.alloc (.cells #[.slice aW n cW,.slice aP m cP] 43)):=(Below.refl _ _).alloc (Nat.le_refl _) _;go_enter Tryz.func42,Tryz.ntmps42;go_wp2_with fail;refine (zhz _ n k0 _ (Rd.below H1.o hb0) hw h0 (by omega)).mono ?_;rintro e w1 ⟨rfl,rfl⟩;go_wp2_with fail;refine (zpv _ m (k0+n) _ (Rd.below H2.o hb0) hp (by omega) (by omega)).mono ?_;rintro e w2 ⟨rfl,rfl⟩;go_wp2;go_ret;exact ⟨rfl,hb0⟩
def zao (n:Int):Bool:=decide (0≤n∧n < 1099511627776)
def zbk (n:Int):Bool:=decide (0≤n∧n < 336)
def zlg (n:Int):Bool:=decide (0≤n∧n < 32)
theorem zqe {n:Int} (h:zlg n=true):0≤n∧n < 32:=of_decide_eq_true h
theorem zlw {n:Int} (h:zao n=true):0≤n∧n < 1099511627776:=of_decide_eq_true h
theorem zfq {n:Int} (h:zbk n=true):0≤n∧n < 336:=of_decide_eq_true h
theorem zcm (n:Int) (w:World):Calls Tryz.prog 166 #[.int .i64 n] w fun e w'=>e=.returned (.bool (zao n))∧w'=w:=by
 by_cases h0:0≤n
 ·by_cases h1:n < 1099511627776
  ·have e:zao n=true:=decide_eq_true ⟨h0,h1⟩;rw[e];clear e;go_enter Tryz.func166,Tryz.ntmps166;go_wp2;go_ret;exact ⟨rfl,rfl⟩
  ·have e:zao n=false:=decide_eq_false (fun h=>h1 h.2);rw[e];clear e;go_enter Tryz.func166,Tryz.ntmps166;go_wp2;go_ret;exact ⟨rfl,rfl⟩
 ·have e:zao n=false:=decide_eq_false (fun h=>h0 h.1);rw[e];clear e;go_enter Tryz.func166,Tryz.ntmps166;go_wp2;go_ret;exact ⟨rfl,rfl⟩
theorem zcs (n:Int) (w:World):Calls Tryz.prog 171 #[.int .i64 n] w fun e w'=>e=.returned (.bool (zbk n))∧w'=w:=by
 by_cases h0:0≤n
 ·by_cases h1:n < 336
  ·have e:zbk n=true:=decide_eq_true ⟨h0,h1⟩;rw[e];clear e;go_enter Tryz.func171,Tryz.ntmps171;go_wp2;go_ret;exact ⟨rfl,rfl⟩
  ·have e:zbk n=false:=decide_eq_false (fun h=>h1 h.2);rw[e];clear e;go_enter Tryz.func171,Tryz.ntmps171;go_wp2;go_ret;exact ⟨rfl,rfl⟩
 ·have e:zbk n=false:=decide_eq_false (fun h=>h0 h.1);rw[e];clear e;go_enter Tryz.func171,Tryz.ntmps171;go_wp2;go_ret;exact ⟨rfl,rfl⟩
theorem zer (n:Int) (w:World):Calls Tryz.prog 194 #[.int .i64 n] w fun e w'=>e=.returned (.bool (zlg n))∧w'=w:=by
 by_cases h0:0≤n
 ·by_cases h1:n < 32
  ·have e:zlg n=true:=decide_eq_true ⟨h0,h1⟩;rw[e];clear e;go_enter Tryz.func194,Tryz.ntmps194;go_wp2;go_ret;exact ⟨rfl,rfl⟩
  ·have e:zlg n=false:=decide_eq_false (fun h=>h1 h.2);rw[e];clear e;go_enter Tryz.func194,Tryz.ntmps194;go_wp2;go_ret;exact ⟨rfl,rfl⟩
 ·have e:zlg n=false:=decide_eq_false (fun h=>h0 h.1);rw[e];clear e;go_enter Tryz.func194,Tryz.ntmps194;go_wp2;go_ret;exact ⟨rfl,rfl⟩
def inB (n lo hi:Int):Bool:=decide (lo≤n∧n≤hi)
theorem zhv (n lo hi:Int) (w:World):Calls Tryz.prog 43 #[.int .i64 n,.int .i64 lo,.int .i64 hi] w fun e w'=>e=.returned (.bool (inB n lo hi))∧w'=w:=by
 by_cases h0:lo≤n
 ·by_cases h1:n≤hi
  ·have e:inB n lo hi=true:=decide_eq_true ⟨h0,h1⟩;rw[e];clear e;go_enter Tryz.func43,Tryz.ntmps43;go_wp2;go_ret;exact ⟨rfl,rfl⟩
  ·have e:inB n lo hi=false:=decide_eq_false (fun h=>h1 h.2);rw[e];clear e;go_enter Tryz.func43,Tryz.ntmps43;go_wp2;go_ret;exact ⟨rfl,rfl⟩
 ·have e:inB n lo hi=false:=decide_eq_false (fun h=>h0 h.1);rw[e];clear e;go_enter Tryz.func43,Tryz.ntmps43;go_wp2;go_ret;exact ⟨rfl,rfl⟩
theorem yaop (n:Int):inB n 0 1099511627775=zao n:=by
 unfold inB zao;rw[decide_eq_decide];omega
theorem yaka (n:Int):inB n 0 335=zbk n:=by
 unfold inB zbk;rw[decide_eq_decide];omega
theorem yasn (n:Int):inB n 0 31=zlg n:=by
 unfold inB zlg;rw[decide_eq_decide];omega
theorem zii (n:Int) (w:World):Calls Tryz.prog 43 #[.int .i64 n,.int .i64 0,.int .i64 31] w fun e w'=>e=.returned (.bool (zlg n))∧w'=w:=by
 rw[← yasn];exact zhv n 0 31 w
theorem zge (n:Int) (w:World):Calls Tryz.prog 43 #[.int .i64 n,.int .i64 0,.int .i64 335] w fun e w'=>e=.returned (.bool (zbk n))∧w'=w:=by
 rw[← yaka];exact zhv n 0 335 w
theorem zbf (n:Int) (w:World):Calls Tryz.prog 108 #[.int .i64 n] w fun e w'=>e=.returned (.bool (zao n))∧w'=w:=by
 have E:=zaa (yaop n);go_enter Tryz.func108,Tryz.ntmps108;go_wp2_with fail;refine (zhv n 0 1099511627775 _).mono ?_;rw[E.o];rintro e w' ⟨rfl,rfl⟩;go_wp2;go_ret;exact ⟨rfl,rfl⟩
def zjd (zs:List Int):Bool:=decide (∀ k (h:k < zs.length),zao zs[k]=true)
theorem zpm {zs:List Int} (h:zjd zs=true):∀ k (h:k < zs.length),zao zs[k]=true:=of_decide_eq_true h
theorem zyj {zs:List Int} (h:∀ k (h:k < zs.length),zao zs[k]=true):zjd zs=true:=decide_eq_true h
theorem yags {zs:List Int} {k:Nat} (hk:k < zs.length) (h:zao zs[k]=false):zjd zs=false:=decide_eq_false (fun x=>by have:=x k hk;rw[h] at this;cases this)
theorem zym {zs:List Int} (h:zjd zs=false):∃ k,∃ h:k < zs.length,zao zs[k]=false:=by
 apply Classical.byContradiction;intro hn
 have:zjd zs=true:=zyj (fun k hk=>by
  cases e:zao zs[k] with
  | true=>rfl
  | false=>exact absurd ⟨k,hk,e⟩ hn)
 rw[h] at this
 cases this
def pmB (ws:List Int) (ps:List St):Bool:=decide (ws.length=336∧ps.length≤400∧(∀ k (h:k < ws.length),zao ws[k]=true)∧∀ k (h:k < ps.length),zbk ps[k].at_=true∧zao ps[k].val=true)
theorem yaly {ws:List Int} {ps:List St} (h1:ws.length=336) (h2:ps.length≤400) (h3:∀ k (h:k < ws.length),zao ws[k]=true) (h4:∀ k (h:k < ps.length),zbk ps[k].at_=true∧zao ps[k].val=true):pmB ws ps=true:=decide_eq_true ⟨h1,h2,h3,h4⟩
theorem zbz {ws:List Int} {ps:List St} (h:pmB ws ps=true):ws.length=336∧ps.length≤400:=⟨(of_decide_eq_true h).1,(of_decide_eq_true h).2.1⟩
theorem ztk {ws:List Int} {ps:List St} (h:pmB ws ps=true) (k:Nat) (hk:k < ws.length):zao ws[k]=true:=(of_decide_eq_true h).2.2.1 k hk
theorem zhj {ws:List Int} {ps:List St} (h:pmB ws ps=true) (k:Nat) (hk:k < ps.length):zbk ps[k].at_=true∧zao ps[k].val=true:=(of_decide_eq_true h).2.2.2 k hk
theorem yaee {ws:List Int} {ps:List St} (h:¬ ws.length=336):pmB ws ps=false:=decide_eq_false (fun x=>h x.1)
theorem yadr {ws:List Int} {ps:List St} (h:400 < ps.length):pmB ws ps=false:=decide_eq_false (fun x=>absurd x.2.1 (by omega))
theorem yavm {ws:List Int} {ps:List St} {k:Nat} (hk:k < ws.length) (h:zao ws[k]=false):pmB ws ps=false:=decide_eq_false (fun x=>by have:=x.2.2.1 k hk;rw[h] at this;cases this)
theorem yauu {ws:List Int} {ps:List St} {k:Nat} (hk:k < ps.length) (h:zbk ps[k].at_=false):pmB ws ps=false:=decide_eq_false (fun x=>by have:=(x.2.2.2 k hk).1;rw[h] at this;cases this)
theorem yavn {ws:List Int} {ps:List St} {k:Nat} (hk:k < ps.length) (h:zao ps[k].val=false):pmB ws ps=false:=decide_eq_false (fun x=>by have:=(x.2.2.2 k hk).2;rw[h] at this;cases this)
theorem zde (v:Value) (ws:List Int) (ps:List St) (w:World) (h:RdPm w v ws ps) (hw:ws.length≤1048576) (hp:ps.length≤1048576) :
  Calls Tryz.prog 81 #[v] w fun e w'=>e=.returned (.bool (pmB ws ps))∧Below w.heap.size w w':=by
 obtain ⟨vW,vP,rfl,h1,h2⟩:=h;obtain ⟨aW,cW,rfl,_,hcW⟩:=h1.shape;obtain ⟨aP,cP,rfl,_,hcP⟩:=h2.shape;clear h1 h2;have hb0:Below w.heap.size w (w.alloc (.cells #[.slice aW ws.length cW,.slice aP ps.length cP] 40)):=(Below.refl _ _).alloc (Nat.le_refl _) _
 by_cases c1:ws.length=336
 case neg =>
  have E:=zaa (yaee (ps:=ps) c1)
  have c1':((ws.length:Int) != 336)=true:=by simp;omega
  clear c1;go_enter Tryz.func81,Tryz.ntmps81;go_wp2;go_ret;exact ⟨zae E.o.symm,hb0⟩
 have c1n:((ws.length:Int) != 336)=false:=by simp;omega
 have hpos:0 < ws.length:=by omega
 have C1:=zaa c1;clear c1
 by_cases c2:400 < ps.length
 ·have E:=zaa (yadr (ws:=ws) c2);go_enter Tryz.func81,Tryz.ntmps81;go_wp2;go_ret;exact ⟨zae E.o.symm,hb0⟩
 obtain ⟨b,o,rfl,hbl,hcell⟩:=hcW hpos;clear hcW hpos;go_enter Tryz.func81,Tryz.ntmps81;go_wp2
 go_loop [3] (fun i=>∃ k:Nat,k≤ws.length∧i=.int .i64 k∧Hid (∀ j (h:j < ws.length),j < k→zao ws[j]=true)) (fun i=>ws.length - (intOf i).toNat)
 case atStart=>exact ⟨0,by omega,rfl,fun j h a=>absurd a (by omega)⟩
 case round =>
  obtain ⟨k,hk,rfl,H⟩:=hrel
  by_cases hlt:k < ws.length
  ·have hck:=(hb0.cell (p:=⟨b,o+k,none⟩) hbl).trans (hcell k hlt);clear hcell hcP
   by_cases q:zao ws[k]=true
   ·go_wp2_with (go_at_call 108;refine (zbf _ _).mono ?_;rintro e w' ⟨rfl,rfl⟩)
    go_round
    case rel =>
     refine ⟨k+1,by omega,by go_num,fun j h a=>?_⟩
     by_cases e:j=k
     ·subst e;exact q
     ·exact H.o j h (by omega)
    case measure=>simp[intOf];omega
   ·have q':zao ws[k]=false:=by simpa using q
    have E:=zaa (yavm (ps:=ps) hlt q');go_wp2_with (go_at_call 108;refine (zbf _ _).mono ?_;rintro e w' ⟨rfl,rfl⟩);go_ret;exact ⟨zae E.o.symm,hb0⟩
  ·have HW:=zaa (fun j (h:j < ws.length)=>H.o j h (by omega));clear H hcell;go_wp2
   go_loop [4] (fun i=>∃ k:Nat,k≤ps.length∧i=.int .i64 k∧Hid (∀ j (h:j < ps.length),j < k→zbk ps[j].at_=true∧zao ps[j].val=true)) (fun i=>ps.length - (intOf i).toNat)
   case atStart=>exact ⟨0,by omega,rfl,fun j h a=>absurd a (by omega)⟩
   case round =>
    obtain ⟨m,hm,rfl,H⟩:=hrel
    by_cases hlt2:m < ps.length
    ·obtain ⟨b2,o2,rfl,hbl2,hcell2⟩:=hcP (by omega);obtain ⟨d0,d1,_⟩:=hcell2 m hlt2;have e0:=(hb0.cell (p:=⟨b2,o2+m*3,none⟩) hbl2).trans d0;have e1:=(hb0.cell (p:=⟨b2,o2+m*3+1,none⟩) hbl2).trans d1;clear d0 d1 hcell2 hcP
     by_cases q:zbk ps[m].at_=true
     ·by_cases q2:zao ps[m].val=true
      ·go_wp2_with (first | (go_at_call 43;refine (zge _ _).mono ?_;rintro e w' ⟨rfl,rfl⟩) | (go_at_call 108;refine (zbf _ _).mono ?_;rintro e w' ⟨rfl,rfl⟩))
       go_round
       case rel =>
        refine ⟨m+1,by omega,by go_num,fun j h a=>?_⟩
        by_cases e:j=m
        ·subst e;exact ⟨q,q2⟩
        ·exact H.o j h (by omega)
       case measure=>simp[intOf];omega
      ·have q2':zao ps[m].val=false:=by simpa using q2
       have E:=zaa (yavn (ws:=ws) hlt2 q2');go_wp2_with (first | (go_at_call 43;refine (zge _ _).mono ?_;rintro e w' ⟨rfl,rfl⟩) | (go_at_call 108;refine (zbf _ _).mono ?_;rintro e w' ⟨rfl,rfl⟩));go_ret;exact ⟨zae E.o.symm,hb0⟩
     ·have q':zbk ps[m].at_=false:=by simpa using q
      have E:=zaa (yauu (ws:=ws) hlt2 q');go_wp2_with (first | (go_at_call 43;refine (zge _ _).mono ?_;rintro e w' ⟨rfl,rfl⟩) | (go_at_call 108;refine (zbf _ _).mono ?_;rintro e w' ⟨rfl,rfl⟩));go_ret;exact ⟨zae E.o.symm,hb0⟩
    ·have E:=zaa (yaly C1.o (by omega) HW.o (fun j h=>H.o j h (by omega)));go_wp2;go_ret;exact ⟨zae E.o.symm,hb0⟩
def zbp (ws:List Int) (ps:List Se):Bool:=decide (ws.length=32∧ps.length≤400∧(∀ k (h:k < ws.length),zao ws[k]=true)∧∀ k (h:k < ps.length),zlg ps[k].at_=true∧zao ps[k].val=true)
theorem zzt {ws:List Int} {ps:List Se} (h1:ws.length=32) (h2:ps.length≤400) (h3:∀ k (h:k < ws.length),zao ws[k]=true) (h4:∀ k (h:k < ps.length),zlg ps[k].at_=true∧zao ps[k].val=true):zbp ws ps=true:=decide_eq_true ⟨h1,h2,h3,h4⟩
theorem zbt {ws:List Int} {ps:List Se} (h:zbp ws ps=true):ws.length=32∧ps.length≤400:=⟨(of_decide_eq_true h).1,(of_decide_eq_true h).2.1⟩
theorem yakx {ws:List Int} {ps:List Se} (h:zbp ws ps=true) (k:Nat) (hk:k < ws.length):zao ws[k]=true:=(of_decide_eq_true h).2.2.1 k hk
theorem zli {ws:List Int} {ps:List Se} (h:zbp ws ps=true) (k:Nat) (hk:k < ps.length):zlg ps[k].at_=true∧zao ps[k].val=true:=(of_decide_eq_true h).2.2.2 k hk
theorem zxm {ws:List Int} {ps:List Se} (h:¬ ws.length=32):zbp ws ps=false:=decide_eq_false (fun x=>h x.1)
theorem zvx {ws:List Int} {ps:List Se} (h:400 < ps.length):zbp ws ps=false:=decide_eq_false (fun x=>absurd x.2.1 (by omega))
theorem yara {ws:List Int} {ps:List Se} {k:Nat} (hk:k < ws.length) (h:zao ws[k]=false):zbp ws ps=false:=decide_eq_false (fun x=>by have:=x.2.2.1 k hk;rw[h] at this;cases this)
theorem yaqy {ws:List Int} {ps:List Se} {k:Nat} (hk:k < ps.length) (h:zlg ps[k].at_=false):zbp ws ps=false:=decide_eq_false (fun x=>by have:=(x.2.2.2 k hk).1;rw[h] at this;cases this)
theorem yaqs {ws:List Int} {ps:List Se} {k:Nat} (hk:k < ps.length) (h:zao ps[k].val=false):zbp ws ps=false:=decide_eq_false (fun x=>by have:=(x.2.2.2 k hk).2;rw[h] at this;cases this)
theorem zvl (v:Value) (ws:List Int) (ps:List Se) (w:World) (h:RdBlk w v ws ps) (hw:ws.length≤1048576) (hp:ps.length≤1048576) :
  Calls Tryz.prog 107 #[v] w fun e w'=>e=.returned (.bool (zbp ws ps))∧Below w.heap.size w w':=by
 obtain ⟨vW,vP,rfl,h1,h2⟩:=h;obtain ⟨aW,cW,rfl,_,hcW⟩:=h1.shape;obtain ⟨aP,cP,rfl,_,hcP⟩:=h2.shape;clear h1 h2;have hb0:Below w.heap.size w (w.alloc (.cells #[.slice aW ws.length cW,.slice aP ps.length cP] 43)):=(Below.refl _ _).alloc (Nat.le_refl _) _
 by_cases c1:ws.length=32
 case neg =>
  have E:=zaa (zxm (ps:=ps) c1)
  have c1':((ws.length:Int) != 32)=true:=by simp;omega
  clear c1;go_enter Tryz.func107,Tryz.ntmps107;go_wp2;go_ret;exact ⟨zae E.o.symm,hb0⟩
 have c1n:((ws.length:Int) != 32)=false:=by simp;omega
 have hpos:0 < ws.length:=by omega
 have C1:=zaa c1;clear c1
 by_cases c2:400 < ps.length
 ·have E:=zaa (zvx (ws:=ws) c2);go_enter Tryz.func107,Tryz.ntmps107;go_wp2;go_ret;exact ⟨zae E.o.symm,hb0⟩
 obtain ⟨b,o,rfl,hbl,hcell⟩:=hcW hpos;clear hcW hpos;go_enter Tryz.func107,Tryz.ntmps107;go_wp2
 go_loop [3] (fun i=>∃ k:Nat,k≤ws.length∧i=.int .i64 k∧Hid (∀ j (h:j < ws.length),j < k→zao ws[j]=true)) (fun i=>ws.length - (intOf i).toNat)
 case atStart=>exact ⟨0,by omega,rfl,fun j h a=>absurd a (by omega)⟩
 case round =>
  obtain ⟨k,hk,rfl,H⟩:=hrel
  by_cases hlt:k < ws.length
  ·have hck:=(hb0.cell (p:=⟨b,o+k,none⟩) hbl).trans (hcell k hlt);clear hcell hcP
   by_cases q:zao ws[k]=true
   ·go_wp2_with (go_at_call 108;refine (zbf _ _).mono ?_;rintro e w' ⟨rfl,rfl⟩)
    go_round
    case rel =>
     refine ⟨k+1,by omega,by go_num,fun j h a=>?_⟩
     by_cases e:j=k
     ·subst e;exact q
     ·exact H.o j h (by omega)
    case measure=>simp[intOf];omega
   ·have q':zao ws[k]=false:=by simpa using q
    have E:=zaa (yara (ps:=ps) hlt q');go_wp2_with (go_at_call 108;refine (zbf _ _).mono ?_;rintro e w' ⟨rfl,rfl⟩);go_ret;exact ⟨zae E.o.symm,hb0⟩
  ·have HW:=zaa (fun j (h:j < ws.length)=>H.o j h (by omega));clear H hcell;go_wp2
   go_loop [4] (fun i=>∃ k:Nat,k≤ps.length∧i=.int .i64 k∧Hid (∀ j (h:j < ps.length),j < k→zlg ps[j].at_=true∧zao ps[j].val=true)) (fun i=>ps.length - (intOf i).toNat)
   case atStart=>exact ⟨0,by omega,rfl,fun j h a=>absurd a (by omega)⟩
   case round =>
    obtain ⟨m,hm,rfl,H⟩:=hrel
    by_cases hlt2:m < ps.length
    ·obtain ⟨b2,o2,rfl,hbl2,hcell2⟩:=hcP (by omega);obtain ⟨d0,d1⟩:=hcell2 m hlt2;have e0:=(hb0.cell (p:=⟨b2,o2+m*2,none⟩) hbl2).trans d0;have e1:=(hb0.cell (p:=⟨b2,o2+m*2+1,none⟩) hbl2).trans d1;clear d0 d1 hcell2 hcP
     by_cases q:zlg ps[m].at_=true
     ·by_cases q2:zao ps[m].val=true
      ·go_wp2_with (first | (go_at_call 43;refine (zii _ _).mono ?_;rintro e w' ⟨rfl,rfl⟩) | (go_at_call 108;refine (zbf _ _).mono ?_;rintro e w' ⟨rfl,rfl⟩))
       go_round
       case rel =>
        refine ⟨m+1,by omega,by go_num,fun j h a=>?_⟩
        by_cases e:j=m
        ·subst e;exact ⟨q,q2⟩
        ·exact H.o j h (by omega)
       case measure=>simp[intOf];omega
      ·have q2':zao ps[m].val=false:=by simpa using q2
       have E:=zaa (yaqs (ws:=ws) hlt2 q2');go_wp2_with (first | (go_at_call 43;refine (zii _ _).mono ?_;rintro e w' ⟨rfl,rfl⟩) | (go_at_call 108;refine (zbf _ _).mono ?_;rintro e w' ⟨rfl,rfl⟩));go_ret;exact ⟨zae E.o.symm,hb0⟩
     ·have q':zlg ps[m].at_=false:=by simpa using q
      have E:=zaa (yaqy (ws:=ws) hlt2 q');go_wp2_with (first | (go_at_call 43;refine (zii _ _).mono ?_;rintro e w' ⟨rfl,rfl⟩) | (go_at_call 108;refine (zbf _ _).mono ?_;rintro e w' ⟨rfl,rfl⟩));go_ret;exact ⟨zae E.o.symm,hb0⟩
    ·have E:=zaa (zzt C1.o (by omega) HW.o (fun j h=>H.o j h (by omega)));go_wp2;go_ret;exact ⟨zae E.o.symm,hb0⟩
end Go.Proofs.YtahiphgmhndgaaaGreatDoor
