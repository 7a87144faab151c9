/- Several texts laid together: JrF, JrP, JrQ, JrC, Blk. -/
import Derived.Test.YtehnphoeplmpdaaGreatDoorZAV
import Derived.BigRegion
import Derived.BigQuiet
import Derived.Deep.QuietTactic
import Derived.Deep.DeepCutAuto
import Derived.Test.YtehnphoeplmpdaaGreatDoorZAC
import Derived.Deep.RegionHeld3
import Derived.Test.YtehnphoeplmpdaaGreatDoorZAU
set_option maxRecDepth 100000
set_option maxHeartbeats 4000000
namespace Go.Proofs.YtehnphoeplmpdaaGreatDoor
open Go.RowKit
theorem zni (l:List Mi) (m:Mi):mis (l ++ [m])=mis l ++ m.cells:=by simp[mis]
theorem zgh (l l':List Mi):mis (l ++ l')=mis l ++ mis l':=by simp[mis]
theorem zgi (m:Mi):∀ u∈m.cells,u.oneCell'=true:=by
 intro u hu;simp[Mi.cells] at hu
 rcases hu with rfl | rfl | rfl <;> rfl
theorem zcl (l:List Mi):∀ u∈mis l,u.oneCell'=true:=by
 intro u hu;simp only[mis,List.mem_flatMap] at hu;obtain ⟨m,_,hm⟩:=hu;exact zgi m u hm
theorem zht (w1:World) (k a x:Int):Rd (w1.alloc (.cells #[.int .i64 k,.int .i64 a,.int .i64 x] 98)) 3 (.slice (some ⟨w1.heap.size,0,none⟩) 1 1) 1 (Mi.cells ⟨k,a,x⟩):=by
 refine ⟨rfl,_,_,rfl,⟨Nat.le_refl _,fun e=>by cases e⟩,fun _=>⟨w1.heap.size,0,rfl,by simp,fun j hj=>?_⟩⟩;obtain ⟨e0,e1,e2⟩:=zaz (zah (w:=w1) (o:=.cells #[.int .i64 k,.int .i64 a,.int .i64 x] 98) rfl);rw[Nat.zero_add]
 rcases (show j=0∨j=1∨j=2 from by omega) with rfl | rfl | rfl
 ·exact e0
 ·exact e1
 ·exact e2
theorem RdM.form {w:World} {v:Value} {ps:List Mi} (h:RdM w v ps) {n:Nat} (hn:ps.length=n):∃ ao cap,v=.slice ao n cap:=by
 obtain ⟨ao,cap,e,_⟩:=h.shape;exact ⟨ao,cap,hn ▸ e⟩
theorem yacd {w:World} {base:Nat} {e:TypeId} {size:Nat} {v:Value} {n:Nat} {xs:List Value} (h:w.ownsRow base e size v n xs) (k:Nat):(w.drewN k).ownsRow base e size v n xs:=by
 induction k with
 | zero=>exact h
 | succ k ih=>exact ih
theorem zza {B:Nat} {a w:World} (h:Below B a w) (n:Nat):Below B a (w.drewN n):=by
 induction n with
 | zero=>exact h
 | succ n ih=>exact ⟨ih.os,ih.tape,ih.output,ih.size,ih.block⟩
theorem yadn (w:World) (n:Nat):(w.drewN n).heap.size=w.heap.size:=by
 induction n with
 | zero=>rfl
 | succ n ih=>exact ih
def zkf (ks:List Int) (i k:Nat):Bool:=(List.range k).any (fun j=>ks[j]?.getD 0 / 8 == ks[i]?.getD 0 / 8)
theorem zyh (ks:List Int) (i k:Nat):zkf ks i (k+1)=(zkf ks i k || (ks[k]?.getD 0 / 8 == ks[i]?.getD 0 / 8)):=by
 unfold zkf;rw[List.range_succ,List.any_append];simp
theorem zyd (ks:List Int):∀ i,(nl ks i).length≤i
 | 0=>Nat.le_refl _
 | i+1=>by
  rw[nl]
  split
  ·have:=zyd ks i;omega
  ·have:=zyd ks i;simp;omega
theorem zea (v:Value) (zs:List Int) (w:World) (h:RdI w v zs) (hn:zs.length≤4096) (hz0:∀ k (h:k < zs.length),0≤zs[k]∧zs[k] < 336) :
  Calls Tryz.prog 141 #[v] w fun e w'=>∃ v',e=.returned v'∧Row w' 98 3 w.heap.size w'.heap.size v' (zbf zs).length (mis (zbf zs))∧Below w.heap.size w w':=by
 obtain ⟨aZ,cZ,rfl,_,hcZ⟩:=h.shape;have HZ:=zaa hcZ;have Z0:=zaa hz0;clear h hcZ hz0
 have ho:(w.alloc (.cells #[] 98)).ownsRow w.heap.size 98 3 (.slice (some ⟨w.heap.size,0,none⟩) 0 0) 0 []:=by
  simpa using World.ownsRow_lit (base:=w.heap.size) (e:=98) (size:=3) w #[] 0 (by simp) (by simp) rfl
 have START:=zaa (And.intro ho ((Below.refl w.heap.size w).alloc (Nat.le_refl _) (.cells #[] 98)));clear ho;go_enter Tryz.func141,Tryz.ntmps141;go_wp2
 go_loopw [3,4,5,6] (fun vL i _ _ wr=>∃ m:Nat,m≤zs.length∧i=.int .i64 m∧Hid (wr.ownsRow w.heap.size 98 3 vL (nl zs m).length (mis (nl zs m))∧Below w.heap.size w wr)∧w.heap.size≤wr.heap.size) (fun _ i _ _ _=>zs.length - (intOf i).toNat)
 case atStart=>exact ⟨0,by omega,rfl,⟨by simpa[nl,mis] using START.o.1,START.o.2⟩,by simp⟩
 case round =>
  obtain ⟨m,hm,rfl,I,hz⟩:=hrel
  by_cases hlt:m < zs.length
  ·obtain ⟨b,o,rfl,hbl,hcell⟩:=HZ.o (by omega);have CELL:=zaa hcell;clear hcell
   have m0:(0:Int)≤(m:Int):=by omega
   have m1:(m:Int) < (zs.length:Int):=by omega
   go_wp2
   go_loopw [5,6] (fun f kk wr2=>∃ k:Nat,k≤m∧kk=.int .i64 k∧f=.bool (zkf zs m k)∧Hid (wr2.ownsRow w.heap.size 98 3 u3 (nl zs m).length (mis (nl zs m))∧Below w.heap.size w wr2)∧w.heap.size≤wr2.heap.size) (fun _ kk _=>m - (intOf kk).toNat)
   case atStart=>exact ⟨0,by omega,rfl,rfl,I,hz⟩
   case round =>
    obtain ⟨k,hk,rfl,rfl,J,hz2⟩:=hrel
    by_cases hlk:k < m
    ·have k0:(0:Int)≤(k:Int):=by omega
     have k1:(k:Int) < (m:Int):=by omega
     have k2:(k:Int) < (zs.length:Int):=by omega
     have hkz:k < zs.length:=by omega
     have d0:=(J.o.2.cell (p:=⟨b,o+k,none⟩) hbl).trans (CELL.o k hkz);have d1:=(J.o.2.cell (p:=⟨b,o+m,none⟩) hbl).trans (CELL.o m hlt);have p0:=Z0.o k hkz;have p1:=Z0.o m hlt;have SU:=zaa (show zkf zs m (k+1)=(zkf zs m k || (zs[k] / 8 == zs[m] / 8)) by rw[zyh,List.getElem?_eq_getElem hkz,List.getElem?_eq_getElem hlt];rfl);generalize zs[k]=x at *;generalize zs[m]=y at *;generalize zkf zs m k=fb at *
     rcases (show fb=true∨(fb=false∧(x / 8 == y / 8)=true)∨(fb=false∧(x / 8 == y / 8)=false) by cases fb <;> cases (x / 8 == y / 8) <;> simp) with rfl | ⟨rfl,q⟩ | ⟨rfl,q⟩
     all_goals
      go_wp2
      go_quiet (fail)
      go_wp2
      go_roundw
      case rel=>exact ⟨k+1,by omega,by go_num,by rw[SU.o];first | rfl | (rw[q];rfl),⟨yacd J.o.1 _,zza J.o.2 _⟩,by rw[yadn];exact hz2⟩
      case measure=>simp[intOf];omega
    ·obtain rfl:k=m:=by omega
     by_cases c:zkf zs k k=true
     ·have E:=zaa (show nl zs (k+1)=nl zs k by rw[nl];exact if_pos c);rw[c];clear c;go_wp2
      go_roundw
      case rel=>exact ⟨k+1,by omega,by go_num,by rw[E.o];exact J,hz2⟩
      case measure=>simp[intOf];omega
     ·have c':zkf zs k k=false:=by simpa using c
      have d1:=(J.o.2.cell (p:=⟨b,o+k,none⟩) hbl).trans (CELL.o k hlt)
      have E:=zaa (show nl zs (k+1)=nl zs k ++ [⟨2,zs[k],0⟩] by
       rw[nl]
       have:¬ zrv zs k=true:=fun x=>c x
       rw[if_neg this,List.getElem?_eq_getElem hlt]
       rfl)
      rw[c'];clear c c';generalize zs[k]=y at *;have O2:=zaa (J.o.1.alloc (.cells #[.int .i64 2,.int .i64 y,.int .i64 0] 98));have HRD:=zaa (zht wr 2 y 0);have hle:=zyd zs k;go_wp2_with (at_builtin;refine zag _ rfl (.tmp 35) (.tmp 41) 35 rfl w.heap.size 98 (.agg #[.int .i64 0,.int .i64 0,.int .i64 0]) 3 24 Tryz.underlying35 zbo rfl (by decide) _ _ _ rfl O2.o _ 1 _ rfl HRD.o (zgi _) (by simp[maxLen];omega) (by omega) (by simp;omega) ?_);intro vN wN hownN hgrN
      have hl:=fun q hq=>(O2.o.lt q hq).1
      have hzN:=hgrN.size;simp only[World.size_alloc] at hzN
      have G:Hid (wN.ownsRow w.heap.size 98 3 vN (nl zs (k+1)).length (mis (nl zs (k+1)))∧Below w.heap.size w wN):=by
       refine ⟨?_,(J.o.2.alloc (by omega) (.cells #[.int .i64 2,.int .i64 y,.int .i64 0] 98)).grown hgrN (by simp;omega) (fun q hq=>hl q hq)⟩;rw[E.o,zni,List.length_append];exact hownN
      clear hownN hgrN hl;go_wp2
      go_roundw
      case rel=>exact ⟨k+1,by omega,by go_num,G,by omega⟩
      case measure=>simp[intOf];omega
  ·obtain rfl:m=zs.length:=by omega
   have E:=zaa (show zbf zs=nl zs zs.length ++ [⟨3,0,0⟩] from rfl);have O2:=zaa (I.o.1.alloc (.cells #[.int .i64 3,.int .i64 0,.int .i64 0] 98));have HRD:=zaa (zht wr 3 0 0);have hle:=zyd zs zs.length;go_wp2_with (at_builtin;refine zag _ rfl (.tmp 43) (.tmp 45) 35 rfl w.heap.size 98 (.agg #[.int .i64 0,.int .i64 0,.int .i64 0]) 3 24 Tryz.underlying35 zbo rfl (by decide) _ _ _ rfl O2.o _ 1 _ rfl HRD.o (zgi _) (by simp[maxLen];omega) (by omega) (by simp;omega) ?_);intro vN wN hownN hgrN
   have hl:=fun q hq=>(O2.o.lt q hq).1
   have G:Hid (wN.ownsRow w.heap.size 98 3 vN (zbf zs).length (mis (zbf zs))∧Below w.heap.size w wN):=by
    refine ⟨?_,(I.o.2.alloc (by omega) (.cells #[.int .i64 3,.int .i64 0,.int .i64 0] 98)).grown hgrN (by simp;omega) (fun q hq=>hl q hq)⟩;rw[E.o,zni,List.length_append];exact hownN
   clear hownN hgrN hl;obtain ⟨aL,cL,hvL⟩:=RdM.form (zad G.o.1).rd rfl;subst hvL;go_wp2;go_ret;exact ⟨_,rfl,zad G.o.1,G.o.2⟩
def allP (zs:List Int):Bool:=decide (∀ k (h:k < zs.length),0≤zs[k]∧zs[k] < 336)
def flC (zs:List Int):Int:=if 4096 < zs.length then 2 else if 50 < zs.length then 6 else if allP zs=true then 0 else 14
def fpL (zs:List Int):List Mi:=if flC zs=0 then zbf zs else []
theorem yabf (zs:List Int):(4096 < zs.length∧flC zs=2∧fpL zs=[])∨(¬ 4096 < zs.length∧50 < zs.length∧flC zs=6∧fpL zs=[])∨(¬ 4096 < zs.length∧¬ 50 < zs.length∧allP zs=false∧flC zs=14∧fpL zs=[])∨(¬ 4096 < zs.length∧¬ 50 < zs.length∧allP zs=true∧flC zs=0∧fpL zs=zbf zs):=by
 by_cases c1:4096 < zs.length
 ·have e:flC zs=2:=by unfold flC;rw[if_pos c1]
  exact .inl ⟨c1,e,by unfold fpL;rw[e];rfl⟩
 ·by_cases c2:50 < zs.length
  ·have e:flC zs=6:=by unfold flC;rw[if_neg c1,if_pos c2]
   exact .inr (.inl ⟨c1,c2,e,by unfold fpL;rw[e];rfl⟩)
  ·by_cases c3:allP zs=true
   ·have e:flC zs=0:=by unfold flC;rw[if_neg c1,if_neg c2,if_pos c3]
    exact .inr (.inr (.inr ⟨c1,c2,c3,e,by unfold fpL;rw[e];rfl⟩))
   ·have c3':allP zs=false:=by simpa using c3
    have e:flC zs=14:=by unfold flC;rw[if_neg c1,if_neg c2,c3'];rfl
    exact .inr (.inr (.inl ⟨c1,c2,c3',e,by unfold fpL;rw[e];rfl⟩))
theorem zbl (zs:List Int):(zbf zs).length≤zs.length+1:=by
 unfold zbf;have:=zyd zs zs.length;simp;omega
theorem zus {w:World} {lo hi:Nat} {v:Value} {k:Int} {n:Nat} (h:Row w 98 3 lo hi v n (mis (zfj k n))):RdM w v (zfj k n):=by
 have:=h.rd;unfold RdM;rw[zeu];exact this
theorem zpp (w:World) (t:TypeId) (size:Nat):Row (w.alloc (.cells #[] t)) t size w.heap.size (w.alloc (.cells #[] t)).heap.size (.slice (some ⟨w.heap.size,0,none⟩) 0 0) 0 [] :=
 zad (by simpa using World.ownsRow_lit (base:=w.heap.size) (e:=t) (size:=size) w #[] 0 (by simp) (by simp) (by simp))
theorem zdy (a x:Int) (w:World):Calls Tryz.prog 140 #[.int .i64 a,.int .i64 x] w fun e w'=>e=.returned (.agg #[.int .i64 1,.int .i64 a,.int .i64 x])∧Below w.heap.size w w':=by
 go_enter Tryz.func140,Tryz.ntmps140;go_wp2;refine bodyPost_ret (v:=.agg #[.int .i64 1,.int .i64 a,.int .i64 x]) (by simp[results,Tryz.results140,go_sem]) rfl ⟨rfl,?_⟩
 repeat (refine Below.alloc ?_ (by simp <;> omega) _)
 exact Below.refl _ _
def upsB (us:List Se):Bool:=decide (∀ k (h:k < us.length),(48≤us[k].at_∧us[k].at_ < 336)∧0≤us[k].val∧us[k].val < 1099511627776)
def zdx (us:List Se):List St:=us.map (fun s=>up s.at_ s.val)
theorem zbw (us:List Se):(zdx us).length=us.length:=by simp[zdx]
theorem zsr (us:List Se) (k:Nat) (h:k < us.length):(zdx us)[k]?=some (up us[k].at_ us[k].val):=by simp[zdx,h]
def apM (us:List Se) (m:Nat):List Mi:=((zdx us).take m).map stM
def apP (us:List Se) (m:Nat):List Int:=((zdx us).take m).map (·.at_)
theorem zxl (us:List Se) (m:Nat):(apM us m).length≤m:=by simp[apM];omega
theorem yafp (us:List Se) (m:Nat):(apP us m).length≤m:=by simp[apP];omega
theorem zkz {α:Type} (l:List α) (m:Nat) (x:α) (h:l[m]?=some x):l.take (m+1)=l.take m ++ [x]:=by
 rw[List.take_add_one,h];rfl
theorem yabs (us:List Se) (m:Nat) (h:m < us.length):apM us (m+1)=apM us m ++ [⟨1,us[m].at_,us[m].val⟩]:=by
 unfold apM;rw[zkz _ _ _ (zsr us m h),List.map_append];rfl
theorem yami (us:List Se) (m:Nat) (h:m < us.length):apP us (m+1)=apP us m ++ [us[m].at_]:=by
 unfold apP;rw[zkz _ _ _ (zsr us m h),List.map_append];rfl
theorem zzb (us:List Se):apM us us.length=(zdx us).map stM:=by unfold apM;rw[List.take_of_length_le (by rw[zbw];omega)]
theorem yaqh (us:List Se):apP us us.length=(zdx us).map (·.at_):=by unfold apP;rw[List.take_of_length_le (by rw[zbw];omega)]
theorem yahy (us:List Se) (m:Nat) (hz:∀ k (h:k < us.length),0≤us[k].at_∧us[k].at_ < 336):∀ k (h:k < (apP us m).length),0≤(apP us m)[k]∧(apP us m)[k] < 336:=by
 intro k h;have h':=h;simp only[apP,List.length_map,List.length_take,zbw] at h';have:=hz k (by omega);simpa[apP,zdx,up] using this
structure PlI (w0 w:World) (vL vP:Value) (ls:List Mi) (ps:List Int):Prop where
 l:w.ownsRow w0.heap.size 98 3 vL ls.length (mis ls)
 p:w.ownsRow w0.heap.size 3 1 vP ps.length (zeg ps)
 b:Below w0.heap.size w0 w
 z:w0.heap.size≤w.heap.size
theorem yaql:(3:Nat)≠98:=by decide
theorem PlI.below {w0 w w':World} {vL vP:Value} {ls:List Mi} {ps:List Int} (h:PlI w0 w vL vP ls ps) (hb:Below w.heap.size w w'):PlI w0 w' vL vP ls ps :=
 ⟨((zad h.l).below hb (Nat.le_refl _)).1,((zad h.p).below hb (Nat.le_refl _)).1,zab h.b hb h.z,Nat.le_trans h.z hb.size⟩
theorem PlI.growL {w0 w w':World} {vL vP v':Value} {ls:List Mi} {ps:List Int} (h:PlI w0 w vL vP ls ps) (ms:List Mi) (ho:w'.ownsRow w0.heap.size 98 3 v' (ls.length+ms.length) (mis ls ++ mis ms)) (hg:w.grownBy w' vL.ownBlock):PlI w0 w' v' vP (ls ++ ms) ps :=
 ⟨by rw[zgh,List.length_append];exact ho,(Row.apart (zad h.p) (zad h.l) yaql hg).1,h.b.grown hg h.z (fun q hq=>(h.l.lt q hq).1),Nat.le_trans h.z hg.size⟩
theorem PlI.growP {w0 w w':World} {vL vP v':Value} {ls:List Mi} {ps:List Int} (h:PlI w0 w vL vP ls ps) (ks:List Int) (ho:w'.ownsRow w0.heap.size 3 1 v' (ps.length+ks.length) (zeg ps ++ zeg ks)) (hg:w.grownBy w' vP.ownBlock):PlI w0 w' vL v' ls (ps ++ ks) :=
 ⟨(Row.apart (zad h.l) (zad h.p) (Ne.symm yaql) hg).1,by rw[List.length_append,show zeg (ps ++ ks)=zeg ps ++ zeg ks by simp[zeg]];exact ho,h.b.grown hg h.z (fun q hq=>(h.p.lt q hq).1),Nat.le_trans h.z hg.size⟩
theorem zcu {w w':World} (h:Below w.drew.heap.size w.drew w'):Below w.heap.size w w':=zab ((Below.refl w.heap.size w).drew) h (Nat.le_refl _)
theorem zpf (w1:World) (x:Int):RdI (w1.alloc (.cells #[.int .i64 x] 3)) (.slice (some ⟨w1.heap.size,0,none⟩) 1 1) [x]:=by
 refine ⟨rfl,_,_,rfl,⟨Nat.le_refl _,fun e=>by cases e⟩,fun _=>⟨w1.heap.size,0,rfl,by simp,fun j hj=>?_⟩⟩
 obtain rfl:j=0:=by simp at hj;omega
 have e:=zah (w:=w1) (o:=.cells #[.int .i64 x] 3) rfl;unfold World.cell?;simp only[e];rfl
theorem zif (m:Mi):mis [m]=m.cells:=by simp[mis]
theorem zvh (v:Value) (us:List Se) (w:World) (h:RdE w v us) (hn:us.length≤64) (hz0:∀ k (h:k < us.length),0≤us[k].at_∧us[k].at_ < 336) :
  Calls Tryz.prog 152 #[v] w fun e w'=>∃ v',e=.returned v'∧Row w' 98 3 w.heap.size w'.heap.size v' (zkd (zdx us)).length (mis (zkd (zdx us)))∧Below w.heap.size w w':=by
 obtain ⟨aZ,cZ,rfl,_,hcZ⟩:=h.shape;have HZ:=zaa hcZ;have Z0:=zaa hz0;clear h hcZ hz0
 have START:Hid (PlI w ((w.alloc (.cells #[] 98)).alloc (.cells #[] 3)) (.slice (some ⟨w.heap.size,0,none⟩) 0 0) (.slice (some ⟨w.heap.size+1,0,none⟩) 0 0) [] []):=by
  refine ⟨?_,?_,((Below.refl w.heap.size w).alloc (Nat.le_refl _) _).alloc (by simp) _,by simp <;> omega⟩
  ·exact ((zpp w 98 3).alloc (Nat.le_refl _) _).1
  ·simpa[zeg] using World.ownsRow_lit (base:=w.heap.size) (e:=3) (size:=1) (w.alloc (.cells #[] 98)) #[] 0 (by simp) (by simp) (by simp)
 go_enter Tryz.func152,Tryz.ntmps152;go_wp2
 go_loopw [3,4,5] (fun vL vP i wr=>∃ m:Nat,m≤us.length∧i=.int .i64 m∧Hid (PlI w wr vL vP (apM us m) (apP us m))∧w.heap.size≤wr.heap.size) (fun _ _ i _=>us.length - (intOf i).toNat)
 case atStart=>exact ⟨0,by omega,rfl,by simpa[apM,apP] using START,by simp <;> omega⟩
 case round =>
  obtain ⟨m,hm,rfl,J,hz⟩:=hrel
  by_cases hlt:m < us.length
  ·obtain ⟨b,o,rfl,hbl,hcell⟩:=HZ.o (by omega);have C0:=(J.o.b.cell (p:=⟨b,o+m*2,none⟩) hbl).trans (hcell m hlt).1;have C1:=(J.o.b.cell (p:=⟨b,o+m*2+1,none⟩) hbl).trans (hcell m hlt).2;have EM:=zaa (yabs us m hlt);have EP:=zaa (yami us m hlt);have l1:=zxl us m;have l2:=yafp us m
   have hbr:b < wr.heap.size:=by omega
   have DW:=zaa (hcell m hlt);clear hcell
   have m0:(0:Int)≤(m:Int):=by omega
   have m1:(m:Int) < (us.length:Int):=by omega
   generalize us[m].at_=x at *;generalize us[m].val=y at *;go_wp2_with fail
   go_region_held3 (fun w'=>w'.cell? ⟨b,o+m*2,none⟩=some (.int .i64 x)∧w'.cell? ⟨b,o+m*2+1,none⟩=some (.int .i64 y)) (first | exact ⟨C0,C1⟩ | exact ⟨s0,s1⟩ | exact ⟨r0,r1⟩ | exact ⟨q0,q1⟩)
    (first
     | (go_at_call 140;refine (zdy _ _ _).mono ?_;rintro e w1 ⟨rfl,hb1⟩;have hb1':=zcu hb1;have q0:=(hb1'.cell (p:=⟨b,o+m*2,none⟩) hbr).trans C0;have q1:=(hb1'.cell (p:=⟨b,o+m*2+1,none⟩) hbr).trans C1;have P1:=zaa ((J.o.below hb1').below ((Below.refl _ _).alloc (Nat.le_refl _) (.cells #[.int .i64 1,.int .i64 x,.int .i64 y] 98)));have HRD:=zaa (zht w1 1 x y);have r0:=(P1.o.b.cell (p:=⟨b,o+m*2,none⟩) hbl).trans DW.o.1;have r1:=(P1.o.b.cell (p:=⟨b,o+m*2+1,none⟩) hbl).trans DW.o.2;have hz1:=P1.o.z;clear hb1 hb1')
     | (refine zal rfl (.tmp 14) (.tmp 26) 35 rfl w.heap.size 98 (.agg #[.int .i64 0,.int .i64 0,.int .i64 0]) 3 24 Tryz.underlying35 zbo rfl (by decide) _ _ _ rfl P1.o.l _ 1 _ rfl HRD.o (zgi _) (by simp[maxLen];omega) (by omega) hz1 ?_;intro vN wN hownN hgrN;have G:=zaa (P1.o.growL [⟨1,x,y⟩] (by rw[zif];exact hownN) hgrN);have s0:=(G.o.b.cell (p:=⟨b,o+m*2,none⟩) hbl).trans DW.o.1;have s1:=(G.o.b.cell (p:=⟨b,o+m*2+1,none⟩) hbl).trans DW.o.2;clear hownN hgrN))
   all_goals
    have hzG:=G.o.z;clear C0 C1 q0 q1 r0 r1 P1 HRD J;have P2:=zaa (G.o.below ((Below.refl _ _).alloc (Nat.le_refl _) (.cells #[.int .i64 x] 3)));have HR2:=zaa (zpf wN x);have hz2:=P2.o.z;clear G;go_wp2_with (at_builtin;refine zag _ rfl (.tmp 28) (.tmp 34) 22 rfl w.heap.size 3 (.int .i64 0) 1 8 Tryz.underlying22 zwz rfl (by decide) _ _ _ rfl P2.o.p _ 1 _ rfl HR2.o (znf _) (by simp[maxLen];omega) (by omega) hz2 ?_);intro vQ wQ hownQ hgrQ;have G2:=zaa (P2.o.growP [x] hownQ hgrQ);rw[← EM.o,← EP.o] at G2;have hz3:=G2.o.z;clear hownQ hgrQ P2 HR2;go_wp2
    go_roundw
    case rel=>exact ⟨m+1,by omega,by go_num,G2,hz3⟩
    case measure=>simp[intOf];omega
  ·obtain rfl:m=us.length:=by omega
   have PL:=zaa (yahy us us.length Z0.o);have l1:=zxl us us.length;have l2:=yafp us us.length
   have EE:=zaa (show zkd (zdx us)=apM us us.length ++ zbf (apP us us.length) ++ [⟨1,8,0⟩] ++ zbf [8] by
    rw[zzb,yaqh];simp[zkd,seg,cnt,stM])
   have l3:=zbl (apP us us.length);have l4:=zbl [8];simp only[List.length_cons,List.length_nil] at l4;generalize apM us us.length=A at *;generalize apP us us.length=B at *;go_wp2_with fail;refine (zea _ B _ (zad J.o.p).rd (by omega) PL.o).mono ?_;rintro e w1 ⟨v1,rfl,hr1,hb1⟩;have P1:=zaa (J.o.below hb1);have R1:=zaa hr1.rd;have hz1:=P1.o.z;clear hr1 hb1 J;go_wp2_with (at_builtin;refine zag _ rfl (.tmp 36) (.tmp 38) 35 rfl w.heap.size 98 (.agg #[.int .i64 0,.int .i64 0,.int .i64 0]) 3 24 Tryz.underlying35 zbo rfl (by decide) _ _ _ rfl P1.o.l _ _ _ rfl R1.o (zcl _) (by simp[maxLen];omega) (by omega) hz1 ?_);intro v2 w2 hown2 hgr2;have P2:=zaa (P1.o.growL _ hown2 hgr2);have hz2:=P2.o.z
   have l5:(A ++ zbf B).length≤200:=by simp;omega
   generalize A ++ zbf B=C at *;clear hown2 hgr2 P1 R1;go_wp2_with fail;refine (zdy _ _ _).mono ?_;rintro e w3 ⟨rfl,hb3⟩;have P3:=zaa ((P2.o.below hb3).below ((Below.refl _ _).alloc (Nat.le_refl _) (.cells #[.int .i64 1,.int .i64 8,.int .i64 0] 98)));have R3:=zaa (zht w3 1 8 0);have hz3:=P3.o.z;clear hb3 P2;go_wp2_with (at_builtin;refine zag _ rfl (.tmp 40) (.tmp 42) 35 rfl w.heap.size 98 (.agg #[.int .i64 0,.int .i64 0,.int .i64 0]) 3 24 Tryz.underlying35 zbo rfl (by decide) _ _ _ rfl P3.o.l _ 1 _ rfl R3.o (zgi _) (by simp[maxLen];omega) (by omega) hz3 ?_);intro v4 w4 hown4 hgr4;have P4:=zaa (P3.o.growL [⟨1,8,0⟩] (by rw[zif];exact hown4) hgr4)
   have l6:(C ++ [(⟨1,8,0⟩:Mi)]).length≤201:=by simp;omega
   generalize C ++ [(⟨1,8,0⟩:Mi)]=D at *;have P5:=zaa (P4.o.below ((Below.refl _ _).alloc (Nat.le_refl _) (.cells #[.int .i64 8] 3)));have R5:=zaa (zpf w4 8);clear hown4 hgr4 P3 R3 P4;go_wp2_with fail;refine (zea _ [8] _ R5.o (by simp) (by intro k h;simp at h;subst h;simp)).mono ?_;rintro e w6 ⟨v6,rfl,hr6,hb6⟩;have P6:=zaa (P5.o.below hb6);have R6:=zaa hr6.rd;have hz6:=P6.o.z;clear hr6 hb6 P5 R5;go_wp2_with (at_builtin;refine zag _ rfl (.tmp 44) (.tmp 46) 35 rfl w.heap.size 98 (.agg #[.int .i64 0,.int .i64 0,.int .i64 0]) 3 24 Tryz.underlying35 zbo rfl (by decide) _ _ _ rfl P6.o.l _ _ _ rfl R6.o (zcl _) (by simp[maxLen];omega) (by omega) hz6 ?_);intro v7 w7 hown7 hgr7;have P7:=zaa (P6.o.growL _ hown7 hgr7);rw[← EE.o] at P7;obtain ⟨aL,cL,hvL⟩:=RdM.form (zad P7.o.l).rd rfl;subst hvL;clear hown7 hgr7 P6 R6;go_wp2;go_ret;exact ⟨_,rfl,zad P7.o.l,P7.o.b⟩
def ldW (ws:List Int) (ps:List St) (k:Nat):Int:=zjf (k:Int) (ws[k]?.getD 0) ps
theorem yasn {ws:List Int} {ps:List St} {k:Nat} (h:k < ws.length):ldW ws ps k=zjf (k:Int) ws[k] ps:=by unfold ldW;simp[h]
def RdBlk (w:World) (v:Value) (ws:List Int) (ps:List Se):Prop:=∃ vW vP,v=.agg #[vW,vP]∧RdI w vW ws∧RdE w vP ps
def RowZ (w:World) (lo hi:Nat) (v:Value) (n:Nat) (xs:List Value):Prop:=∃ e,e≠193∧Row w e 1 lo hi v n xs
theorem RowZ.rd {w:World} {lo hi:Nat} {v:Value} {n:Nat} {xs:List Value} (h:RowZ w lo hi v n xs):Rd w 1 v n xs:=by
 obtain ⟨_,_,h⟩:=h;exact h.rd
theorem RowZ.below {w w':World} {lo hi:Nat} {v:Value} {n:Nat} {xs:List Value} (h:RowZ w lo hi v n xs) {B:Nat} (hb:Below B w w') (hB:hi≤B):RowZ w' lo hi v n xs:=by
 obtain ⟨e,he,h⟩:=h;exact ⟨e,he,h.below hb hB⟩
theorem RowZ.outside {w w':World} {lo hi:Nat} {v:Value} {n:Nat} {xs:List Value} (h:RowZ w lo hi v n xs) {lo' hi':Nat} (ho:Outside lo' hi' w w') (hd:hi≤lo'∨hi'≤lo) (hz:hi≤w.heap.size):RowZ w' lo hi v n xs:=by
 obtain ⟨e,he,h⟩:=h;exact ⟨e,he,h.outside ho hd hz⟩
theorem RowZ.wide {w:World} {lo hi:Nat} {v:Value} {n:Nat} {xs:List Value} (h:RowZ w lo hi v n xs) {lo' hi':Nat} (h1:lo'≤lo) (h2:hi≤hi'):RowZ w lo' hi' v n xs:=by
 obtain ⟨e,he,h⟩:=h;exact ⟨e,he,h.wide h1 h2⟩
theorem Row.z {w:World} {lo hi:Nat} {v:Value} {n:Nat} {xs:List Value} (h:Row w 3 1 lo hi v n xs):RowZ w lo hi v n xs:=⟨3,by decide,h⟩
def RowBlk (w:World) (lo hi:Nat) (v:Value) (ws:List Int) (ps:List Se):Prop:=∃ vW vP,v=.agg #[vW,vP]∧RowZ w lo hi vW ws.length (zeg ws)∧Row w 193 2 lo hi vP ps.length (ses ps)
theorem RowBlk.rd {w:World} {lo hi:Nat} {v:Value} {ws:List Int} {ps:List Se} (h:RowBlk w lo hi v ws ps):RdBlk w v ws ps:=by
 obtain ⟨vW,vP,rfl,h1,h2⟩:=h;exact ⟨vW,vP,rfl,h1.rd,h2.rd⟩
theorem RdBlk.below {w w':World} {v:Value} {ws:List Int} {ps:List Se} (h:RdBlk w v ws ps) (hb:Below w.heap.size w w'):RdBlk w' v ws ps:=by
 obtain ⟨vW,vP,rfl,h1,h2⟩:=h;exact ⟨vW,vP,rfl,Rd.below h1 hb,Rd.below h2 hb⟩
theorem RowBlk.below {w w':World} {lo hi:Nat} {v:Value} {ws:List Int} {ps:List Se} (h:RowBlk w lo hi v ws ps) {B:Nat} (hb:Below B w w') (hB:hi≤B):RowBlk w' lo hi v ws ps:=by
 obtain ⟨vW,vP,rfl,h1,h2⟩:=h;exact ⟨vW,vP,rfl,h1.below hb hB,h2.below hb hB⟩
theorem RowBlk.outside {w w':World} {lo hi:Nat} {v:Value} {ws:List Int} {ps:List Se} (h:RowBlk w lo hi v ws ps) {lo' hi':Nat} (ho:Outside lo' hi' w w') (hd:hi≤lo'∨hi'≤lo) (hz:hi≤w.heap.size):RowBlk w' lo hi v ws ps:=by
 obtain ⟨vW,vP,rfl,h1,h2⟩:=h;exact ⟨vW,vP,rfl,h1.outside ho hd hz,h2.outside ho hd hz⟩
theorem RowBlk.wide {w:World} {lo hi:Nat} {v:Value} {ws:List Int} {ps:List Se} (h:RowBlk w lo hi v ws ps) {lo' hi':Nat} (h1:lo'≤lo) (h2:hi≤hi'):RowBlk w lo' hi' v ws ps:=by
 obtain ⟨vW,vP,rfl,a,b⟩:=h;exact ⟨vW,vP,rfl,a.wide h1 h2,b.wide h1 h2⟩
theorem yahf (v:Value) (ws:List Int) (ps:List Se) (w:World) (h:RdBlk w v ws ps) (hw:ws.length≤1048576) (hp:ps.length≤1048576) :
  Calls Tryz.prog 35 #[v] w fun e w'=>∃ v',e=.returned v'∧RowBlk w' w.heap.size w'.heap.size v' ws ps∧Below w.heap.size w w':=by
 obtain ⟨vW,vP,rfl,h1,h2⟩:=h;have H1:=zaa h1;have H2:=zaa h2;obtain ⟨aW,cW,eW,_⟩:=h1.shape;obtain ⟨aP,cP,eP,_⟩:=h2.shape;clear h1 h2;subst eW eP;go_enter Tryz.func35,Tryz.ntmps35;go_wp2_with fail
 have hb0:Below w.heap.size w (((w.alloc (.cells #[.slice aW ws.length cW,.slice aP ps.length cP] 28)).alloc (.cells #[.slice none 0 0,.slice none 0 0] 46)).alloc (.cells #[.slice none 0 0,.slice none 0 0] 46)):=by
  repeat (refine Below.alloc ?_ (by simp <;> omega) _)
  exact Below.refl _ _
 refine (zre _ ws _ (Rd.below H1.o hb0) hw).mono ?_;rintro e w1 ⟨v1,rfl,hr1,hb1⟩;obtain ⟨_,a1,c1,rfl,_⟩:=hr1.rd
 have hz1:w.heap.size+3≤w1.heap.size:=by have:=hb1.size;simp at this;omega
 have V0:=(hb1.block w.heap.size (by simp <;> omega)).trans (zat (zat (zah rfl)));have V1:=(hb1.block (w.heap.size+1) (by simp <;> omega)).trans (zat (zah (by simp)));have V2:=(hb1.block (w.heap.size+1+1) (by simp <;> omega)).trans (zah (by simp));have B1:=zaa (hb0.trans (hb1.mono (by simp <;> omega)));have R1:=zaa hr1;obtain ⟨x1,x2,_,_⟩:=zac V0;obtain ⟨y1,y2,y3,y4⟩:=zac V2;have V2':=zte V2 (.slice a1 ws.length c1);have V1':=(Below.heap_setCell w1 ⟨w.heap.size+1+1,0,none⟩ (.slice a1 ws.length c1) (w.heap.size+1) (by simp)).trans V1;have VH:=zaa (And.intro V1' V2');clear hb0 hb1 hr1 V0 V1 V2 V1' V2';go_wp2_with fail;have hb2:=B1.o.setCell (p:=⟨w.heap.size+1+1,0,none⟩) (by simp;omega) (.slice a1 ws.length c1);refine (ztj _ ps _ (Rd.below H2.o hb2) hp).mono ?_;rintro e w2 ⟨v2,rfl,hr2,hb3⟩;obtain ⟨_,a2,c2,rfl,_⟩:=hr2.rd
 have hz2:w1.heap.size≤w2.heap.size:=by have:=hb3.size;simpa using this
 have V1:=(hb3.block _ (by simp;omega)).trans VH.o.1;have V2:=(hb3.block _ (by simp;omega)).trans VH.o.2;have B2:=zaa (hb2.trans (hb3.mono (by simp;omega)));have K2:=zaa hb3;have R2:=zaa hr2;clear hb2 hb3 hr2;obtain ⟨z1,z2,z3,z4⟩:=zac V2;obtain ⟨t1,t2,t3,t4⟩:=zac V1;clear V1 V2;go_wp2;refine bodyPost_ret (v:=.agg #[.slice a1 ws.length c1,.slice a2 ps.length c2]) (by simp[results,Tryz.results35,go_sem,t1,t2]) rfl ?_;refine ⟨_,rfl,⟨_,_,rfl,((R1.o.same fun b h1 h2=>?_).wide (by simp;omega) (by simp;omega)).z,(R2.o.same fun b h1 h2=>?_).wide (by simp;omega) (by simp)⟩,?_⟩
 ·simp only[World.size_alloc] at h1;rw[Below.heap_setCell _ _ _ _ (by simp only;omega),Below.heap_setCell _ _ _ _ (by simp only;omega),Below.heap_setCell _ _ _ _ (by simp only;omega),K2.o.block b (by simp;omega),Below.heap_setCell _ _ _ _ (by simp only;omega)]
 ·simp at h1;rw[Below.heap_setCell _ _ _ _ (by simp only;omega),Below.heap_setCell _ _ _ _ (by simp only;omega),Below.heap_setCell _ _ _ _ (by simp only;omega)]
 ·exact ((B2.o.setCell (by simp only;omega) _).setCell (by simp only;omega) _).setCell (by simp only;omega) _
end Go.Proofs.YtehnphoeplmpdaaGreatDoor
