/- Several texts laid together: JrF, JrP, JrQ, IgI, JrC, Blk, BlkOK, BlkOKI. -/
import Derived.Test.YtkdjfhkalelafaaGreatDoorZAQ
import Derived.BigRegion
import Derived.BigQuiet
import Derived.Deep.QuietTactic
import Derived.Deep.DeepCutAuto
import Derived.Deep.RegionWith
import Derived.Test.YtkdjfhkalelafaaGreatDoorZAB
import Derived.Deep.RegionHeld3
import Derived.Test.YtkdjfhkalelafaaGreatDoorZAO
import Derived.Test.YtkdjfhkalelafaaGreatDoorZAN
import Derived.Test.YtkdjfhkalelafaaGreatDoorZAC
import Derived.Test.YtkdjfhkalelafaaGreatDoorZAM
namespace Go.Proofs.YtkdjfhkalelafaaGreatDoor
open Go.RowKit
theorem zzw (l:List Mi) (m:Mi):mis (l ++ [m]) = mis l ++ m.cells:=by simp [mis]
theorem zqn (l l':List Mi):mis (l ++ l') = mis l ++ mis l':=by simp [mis]
theorem ziy (m:Mi):∀ u ∈ m.cells,u.oneCell' = true:=by
 intro u hu
 simp [Mi.cells] at hu
 rcases hu with rfl | rfl | rfl <;> rfl
theorem zcw (l:List Mi):∀ u ∈ mis l,u.oneCell' = true:=by
 intro u hu
 simp only [mis,List.mem_flatMap] at hu
 obtain ⟨m,_,hm⟩:=hu
 exact ziy m u hm
theorem zqo (w1:World) (k a x:Int):Rd (w1.alloc (.cells #[.int .i64 k,.int .i64 a,.int .i64 x] 192)) 3 (.slice (some ⟨w1.heap.size,0,none⟩) 1 1) 1 (Mi.cells ⟨k,a,x⟩):=by
 refine ⟨rfl,_,_,rfl,⟨Nat.le_refl _,fun e => by cases e⟩,fun _ => ⟨w1.heap.size,0,rfl,by simp,fun j hj => ?_⟩⟩
 obtain ⟨e0,e1,e2⟩:=zay (zah (w:=w1) (o:=.cells #[.int .i64 k,.int .i64 a,.int .i64 x] 192) rfl)
 rw [Nat.zero_add]
 rcases (show j = 0 ∨ j = 1 ∨ j = 2 from by omega) with rfl | rfl | rfl
 ·exact e0
 ·exact e1
 ·exact e2
theorem RdM.form {w:World} {v:Value} {ps:List Mi} (h:RdM w v ps) {n:Nat} (hn:ps.length = n):∃ ao cap,v = .slice ao n cap:=by
 obtain ⟨ao,cap,e,_⟩:=h.shape
 exact ⟨ao,cap,hn ▸ e⟩
theorem yadw {w:World} {base:Nat} {e:TypeId} {size:Nat} {v:Value} {n:Nat} {xs:List Value} (h:w.ownsRow base e size v n xs) (k:Nat):(w.drewN k).ownsRow base e size v n xs:=by
 induction k with
 | zero => exact h
 | succ k ih => exact ih
theorem zyw {B:Nat} {a w:World} (h:Below B a w) (n:Nat):Below B a (w.drewN n):=by
 induction n with
 | zero => exact h
 | succ n ih => exact ⟨ih.os,ih.tape,ih.output,ih.size,ih.block⟩
theorem yadd (w:World) (n:Nat):(w.drewN n).heap.size = w.heap.size:=by
 induction n with
 | zero => rfl
 | succ n ih => exact ih
def zkc (ks:List Int) (i k:Nat):Bool:=(List.range k).any (fun j => ks[j]?.getD 0 / 8 == ks[i]?.getD 0 / 8)
theorem zwz (ks:List Int) (i k:Nat):zkc ks i (k + 1) = (zkc ks i k || (ks[k]?.getD 0 / 8 == ks[i]?.getD 0 / 8)):=by
 unfold zkc
 rw [List.range_succ,List.any_append]
 simp
theorem yafm (ks:List Int):∀ i,(nl ks i).length ≤ i
 | 0 => Nat.le_refl _
 | i + 1 => by
  rw [nl]
  split
  ·have:=yafm ks i; omega
  ·have:=yafm ks i; simp; omega
set_option maxRecDepth 100000 in
set_option maxHeartbeats 4000000 in
theorem zcy (v:Value) (zs:List Int) (w:World) (h:RdI w v zs) (hn:zs.length ≤ 4096) (hz0:∀ k (h:k < zs.length),0 ≤ zs[k] ∧ zs[k] < 336) :
  Calls Tryz.prog 144 #[v] w fun e w' => ∃ v',e = .returned v' ∧ Row w' 192 3 w.heap.size w'.heap.size v' (zbl zs).length (mis (zbl zs)) ∧ Below w.heap.size w w':=by
 obtain ⟨aZ,cZ,rfl,_,hcZ⟩:=h.shape
 have HZ:=zaa hcZ
 have Z0:=zaa hz0
 clear h hcZ hz0
 have ho:(w.alloc (.cells #[] 192)).ownsRow w.heap.size 192 3 (.slice (some ⟨w.heap.size,0,none⟩) 0 0) 0 []:=by
  simpa using World.ownsRow_lit (base:=w.heap.size) (e:=192) (size:=3) w #[] 0 (by simp) (by simp) rfl
 have START:=zaa (And.intro ho ((Below.refl w.heap.size w).alloc (Nat.le_refl _) (.cells #[] 192)))
 clear ho
 go_enter Tryz.func144,Tryz.ntmps144
 go_wp2
 go_loopw [3,4,5,6] (fun vL i _ _ wr => ∃ m:Nat,m ≤ zs.length ∧ i = .int .i64 m ∧ Hid (wr.ownsRow w.heap.size 192 3 vL (nl zs m).length (mis (nl zs m)) ∧ Below w.heap.size w wr) ∧ w.heap.size ≤ wr.heap.size) (fun _ i _ _ _ => zs.length - (intOf i).toNat)
 case atStart => exact ⟨0,by omega,rfl,⟨by simpa [nl,mis] using START.out.1,START.out.2⟩,by simp⟩
 case round =>
  obtain ⟨m,hm,rfl,I,hz⟩:=hrel
  by_cases hlt:m < zs.length
  ·obtain ⟨b,o,rfl,hbl,hcell⟩:=HZ.out (by omega)
   have CELL:=zaa hcell
   clear hcell
   have m0:(0:Int) ≤ (m:Int):=by omega
   have m1:(m:Int) < (zs.length:Int):=by omega
   go_wp2
   go_loopw [5,6] (fun f kk wr2 => ∃ k:Nat,k ≤ m ∧ kk = .int .i64 k ∧ f = .bool (zkc zs m k) ∧ Hid (wr2.ownsRow w.heap.size 192 3 u3 (nl zs m).length (mis (nl zs m)) ∧ Below w.heap.size w wr2) ∧ w.heap.size ≤ wr2.heap.size) (fun _ kk _ => m - (intOf kk).toNat)
   case atStart => exact ⟨0,by omega,rfl,rfl,I,hz⟩
   case round =>
    obtain ⟨k,hk,rfl,rfl,J,hz2⟩:=hrel
    by_cases hlk:k < m
    ·have k0:(0:Int) ≤ (k:Int):=by omega
     have k1:(k:Int) < (m:Int):=by omega
     have k2:(k:Int) < (zs.length:Int):=by omega
     have hkz:k < zs.length:=by omega
     have d0:=(J.out.2.cell (p:=⟨b,o + k,none⟩) hbl).trans (CELL.out k hkz)
     have d1:=(J.out.2.cell (p:=⟨b,o + m,none⟩) hbl).trans (CELL.out m hlt)
     have p0:=Z0.out k hkz
     have p1:=Z0.out m hlt
     have SU:=zaa (show zkc zs m (k + 1) = (zkc zs m k || (zs[k] / 8 == zs[m] / 8)) by rw [zwz,List.getElem?_eq_getElem hkz,List.getElem?_eq_getElem hlt]; rfl)
     generalize zs[k] = x at *
     generalize zs[m] = y at *
     generalize zkc zs m k = fb at *
     rcases (show fb = true ∨ (fb = false ∧ (x / 8 == y / 8) = true) ∨ (fb = false ∧ (x / 8 == y / 8) = false) by cases fb <;> cases (x / 8 == y / 8) <;> simp) with rfl | ⟨rfl,q⟩ | ⟨rfl,q⟩
     all_goals
      go_wp2
      go_quiet (fail)
      go_wp2
      go_roundw
      case rel => exact ⟨k + 1,by omega,by go_num,by rw [SU.out]; first | rfl | (rw [q]; rfl),⟨yadw J.out.1 _,zyw J.out.2 _⟩,by rw [yadd]; exact hz2⟩
      case measure => simp [intOf]; omega
    ·obtain rfl:k = m:=by omega
     by_cases c:zkc zs k k = true
     ·have E:=zaa (show nl zs (k + 1) = nl zs k by rw [nl]; exact if_pos c)
      rw [c]
      clear c
      go_wp2
      go_roundw
      case rel => exact ⟨k + 1,by omega,by go_num,by rw [E.out]; exact J,hz2⟩
      case measure => simp [intOf]; omega
     ·have c':zkc zs k k = false:=by simpa using c
      have d1:=(J.out.2.cell (p:=⟨b,o + k,none⟩) hbl).trans (CELL.out k hlt)
      have E:=zaa (show nl zs (k + 1) = nl zs k ++ [⟨2,zs[k],0⟩] by
       rw [nl]
       have:¬ yalb zs k = true:=fun x => c x
       rw [if_neg this,List.getElem?_eq_getElem hlt]
       rfl)
      rw [c']
      clear c c'
      generalize zs[k] = y at *
      have O2:=zaa (J.out.1.alloc (.cells #[.int .i64 2,.int .i64 y,.int .i64 0] 192))
      have HRD:=zaa (zqo wr 2 y 0)
      have hle:=yafm zs k
      go_wp2_with (at_builtin; refine zae _ rfl (.tmp 35) (.tmp 41) 32 rfl w.heap.size 192 (.agg #[.int .i64 0,.int .i64 0,.int .i64 0]) 3 24 Tryz.underlying32 zbx rfl (by decide) _ _ _ rfl O2.out _ 1 _ rfl HRD.out (ziy _) (by simp [maxLen]; omega) (by omega) (by simp; omega) ?_)
      intro vN wN hownN hgrN
      have hl:=fun q hq => (O2.out.lt q hq).1
      have hzN:=hgrN.size
      simp only [World.size_alloc] at hzN
      have G:Hid (wN.ownsRow w.heap.size 192 3 vN (nl zs (k + 1)).length (mis (nl zs (k + 1))) ∧ Below w.heap.size w wN):=by
       refine ⟨?_,(J.out.2.alloc (by omega) (.cells #[.int .i64 2,.int .i64 y,.int .i64 0] 192)).grown hgrN (by simp; omega) (fun q hq => hl q hq)⟩
       rw [E.out,zzw,List.length_append]
       exact hownN
      clear hownN hgrN hl
      go_wp2
      go_roundw
      case rel => exact ⟨k + 1,by omega,by go_num,G,by omega⟩
      case measure => simp [intOf]; omega
  ·obtain rfl:m = zs.length:=by omega
   have E:=zaa (show zbl zs = nl zs zs.length ++ [⟨3,0,0⟩] from rfl)
   have O2:=zaa (I.out.1.alloc (.cells #[.int .i64 3,.int .i64 0,.int .i64 0] 192))
   have HRD:=zaa (zqo wr 3 0 0)
   have hle:=yafm zs zs.length
   go_wp2_with (at_builtin; refine zae _ rfl (.tmp 43) (.tmp 45) 32 rfl w.heap.size 192 (.agg #[.int .i64 0,.int .i64 0,.int .i64 0]) 3 24 Tryz.underlying32 zbx rfl (by decide) _ _ _ rfl O2.out _ 1 _ rfl HRD.out (ziy _) (by simp [maxLen]; omega) (by omega) (by simp; omega) ?_)
   intro vN wN hownN hgrN
   have hl:=fun q hq => (O2.out.lt q hq).1
   have G:Hid (wN.ownsRow w.heap.size 192 3 vN (zbl zs).length (mis (zbl zs)) ∧ Below w.heap.size w wN):=by
    refine ⟨?_,(I.out.2.alloc (by omega) (.cells #[.int .i64 3,.int .i64 0,.int .i64 0] 192)).grown hgrN (by simp; omega) (fun q hq => hl q hq)⟩
    rw [E.out,zzw,List.length_append]
    exact hownN
   clear hownN hgrN hl
   obtain ⟨aL,cL,hvL⟩:=RdM.form (zad G.out.1).rd rfl
   subst hvL
   go_wp2
   go_ret
   exact ⟨_,rfl,zad G.out.1,G.out.2⟩
theorem zbv (zs:List Int):(zbl zs).length ≤ zs.length + 1:=by
 unfold zbl
 have:=yafm zs zs.length
 simp
 omega
theorem zph (w:World) (t:TypeId) (size:Nat):Row (w.alloc (.cells #[] t)) t size w.heap.size (w.alloc (.cells #[] t)).heap.size (.slice (some ⟨w.heap.size,0,none⟩) 0 0) 0 [] :=
 zad (by simpa using World.ownsRow_lit (base:=w.heap.size) (e:=t) (size:=size) w #[] 0 (by simp) (by simp) (by simp))
theorem zcz (a x:Int) (w:World):Calls Tryz.prog 142 #[.int .i64 a,.int .i64 x] w fun e w' => e = .returned (.agg #[.int .i64 1,.int .i64 a,.int .i64 x]) ∧ Below w.heap.size w w':=by
 go_enter Tryz.func142,Tryz.ntmps142
 go_wp2
 refine bodyPost_ret (v:=.agg #[.int .i64 1,.int .i64 a,.int .i64 x]) (by simp [results,Tryz.results142,go_sem]) rfl ⟨rfl,?_⟩
 repeat (refine Below.alloc ?_ (by simp <;> omega) _)
 exact Below.refl _ _
def upsB (us:List Se):Bool:=decide (∀ k (h:k < us.length),(48 ≤ us[k].at_ ∧ us[k].at_ < 336) ∧ 0 ≤ us[k].val ∧ us[k].val < 1099511627776)
def zdx (us:List Se):List St:=us.map (fun s => up s.at_ s.val)
theorem zcj (us:List Se):(zdx us).length = us.length:=by simp [zdx]
theorem zri (us:List Se) (k:Nat) (h:k < us.length):(zdx us)[k]? = some (up us[k].at_ us[k].val):=by simp [zdx,h]
def apM (us:List Se) (m:Nat):List Mi:=((zdx us).take m).map stM
def apP (us:List Se) (m:Nat):List Int:=((zdx us).take m).map (·.at_)
theorem yafq (us:List Se) (m:Nat):(apM us m).length ≤ m:=by simp [apM]; omega
theorem yaes (us:List Se) (m:Nat):(apP us m).length ≤ m:=by simp [apP]; omega
theorem zkk {α:Type} (l:List α) (m:Nat) (x:α) (h:l[m]? = some x):l.take (m + 1) = l.take m ++ [x]:=by
 rw [List.take_add_one,h]; rfl
theorem yama (us:List Se) (m:Nat) (h:m < us.length):apM us (m + 1) = apM us m ++ [⟨1,us[m].at_,us[m].val⟩]:=by
 unfold apM; rw [zkk _ _ _ (zri us m h),List.map_append]; rfl
theorem yanv (us:List Se) (m:Nat) (h:m < us.length):apP us (m + 1) = apP us m ++ [us[m].at_]:=by
 unfold apP; rw [zkk _ _ _ (zri us m h),List.map_append]; rfl
theorem yarc (us:List Se):apM us us.length = (zdx us).map stM:=by unfold apM; rw [List.take_of_length_le (by rw [zcj]; omega)]
theorem yasu (us:List Se):apP us us.length = (zdx us).map (·.at_):=by unfold apP; rw [List.take_of_length_le (by rw [zcj]; omega)]
theorem yakv (us:List Se) (m:Nat) (hz:∀ k (h:k < us.length),0 ≤ us[k].at_ ∧ us[k].at_ < 336):∀ k (h:k < (apP us m).length),0 ≤ (apP us m)[k] ∧ (apP us m)[k] < 336:=by
 intro k h
 have h':=h
 simp only [apP,List.length_map,List.length_take,zcj] at h'
 have:=hz k (by omega)
 simpa [apP,zdx,up] using this
structure PlI (w0 w:World) (vL vP:Value) (ls:List Mi) (ps:List Int):Prop where
 l:w.ownsRow w0.heap.size 192 3 vL ls.length (mis ls)
 p:w.ownsRow w0.heap.size 3 1 vP ps.length (zdh ps)
 b:Below w0.heap.size w0 w
 z:w0.heap.size ≤ w.heap.size
theorem yauu:(3:Nat) ≠ 192:=by decide
theorem PlI.below {w0 w w':World} {vL vP:Value} {ls:List Mi} {ps:List Int} (h:PlI w0 w vL vP ls ps) (hb:Below w.heap.size w w'):PlI w0 w' vL vP ls ps :=
 ⟨((zad h.l).below hb (Nat.le_refl _)).1,((zad h.p).below hb (Nat.le_refl _)).1,zab h.b hb h.z,Nat.le_trans h.z hb.size⟩
theorem PlI.growL {w0 w w':World} {vL vP v':Value} {ls:List Mi} {ps:List Int} (h:PlI w0 w vL vP ls ps) (ms:List Mi) (ho:w'.ownsRow w0.heap.size 192 3 v' (ls.length + ms.length) (mis ls ++ mis ms)) (hg:w.grownBy w' vL.ownBlock):PlI w0 w' v' vP (ls ++ ms) ps :=
 ⟨by rw [zqn,List.length_append]; exact ho,(Row.apart (zad h.p) (zad h.l) yauu hg).1,h.b.grown hg h.z (fun q hq => (h.l.lt q hq).1),Nat.le_trans h.z hg.size⟩
theorem PlI.growP {w0 w w':World} {vL vP v':Value} {ls:List Mi} {ps:List Int} (h:PlI w0 w vL vP ls ps) (ks:List Int) (ho:w'.ownsRow w0.heap.size 3 1 v' (ps.length + ks.length) (zdh ps ++ zdh ks)) (hg:w.grownBy w' vP.ownBlock):PlI w0 w' vL v' ls (ps ++ ks) :=
 ⟨(Row.apart (zad h.l) (zad h.p) (Ne.symm yauu) hg).1,by rw [List.length_append,show zdh (ps ++ ks) = zdh ps ++ zdh ks by simp [zdh]]; exact ho,h.b.grown hg h.z (fun q hq => (h.p.lt q hq).1),Nat.le_trans h.z hg.size⟩
theorem zdv {w w':World} (h:Below w.drew.heap.size w.drew w'):Below w.heap.size w w':=zab ((Below.refl w.heap.size w).drew) h (Nat.le_refl _)
theorem zky (w1:World) (x:Int):RdI (w1.alloc (.cells #[.int .i64 x] 3)) (.slice (some ⟨w1.heap.size,0,none⟩) 1 1) [x]:=by
 refine ⟨rfl,_,_,rfl,⟨Nat.le_refl _,fun e => by cases e⟩,fun _ => ⟨w1.heap.size,0,rfl,by simp,fun j hj => ?_⟩⟩
 obtain rfl:j = 0:=by simp at hj; omega
 have e:=zah (w:=w1) (o:=.cells #[.int .i64 x] 3) rfl
 unfold World.cell?
 simp only [e]
 rfl
theorem zmy (m:Mi):mis [m] = m.cells:=by simp [mis]
set_option maxRecDepth 100000 in
set_option maxHeartbeats 4000000 in
theorem zuu (v:Value) (us:List Se) (w:World) (h:RdE w v us) (hn:us.length ≤ 64) (hz0:∀ k (h:k < us.length),0 ≤ us[k].at_ ∧ us[k].at_ < 336) :
  Calls Tryz.prog 180 #[v] w fun e w' => ∃ v',e = .returned v' ∧ Row w' 192 3 w.heap.size w'.heap.size v' (zin (zdx us)).length (mis (zin (zdx us))) ∧ Below w.heap.size w w':=by
 obtain ⟨aZ,cZ,rfl,_,hcZ⟩:=h.shape
 have HZ:=zaa hcZ
 have Z0:=zaa hz0
 clear h hcZ hz0
 have START:Hid (PlI w ((w.alloc (.cells #[] 192)).alloc (.cells #[] 3)) (.slice (some ⟨w.heap.size,0,none⟩) 0 0) (.slice (some ⟨w.heap.size + 1,0,none⟩) 0 0) [] []):=by
  refine ⟨?_,?_,((Below.refl w.heap.size w).alloc (Nat.le_refl _) _).alloc (by simp) _,by simp <;> omega⟩
  ·exact ((zph w 192 3).alloc (Nat.le_refl _) _).1
  ·simpa [zdh] using World.ownsRow_lit (base:=w.heap.size) (e:=3) (size:=1) (w.alloc (.cells #[] 192)) #[] 0 (by simp) (by simp) (by simp)
 go_enter Tryz.func180,Tryz.ntmps180
 go_wp2
 go_loopw [3,4,5] (fun vL vP i wr => ∃ m:Nat,m ≤ us.length ∧ i = .int .i64 m ∧ Hid (PlI w wr vL vP (apM us m) (apP us m)) ∧ w.heap.size ≤ wr.heap.size) (fun _ _ i _ => us.length - (intOf i).toNat)
 case atStart => exact ⟨0,by omega,rfl,by simpa [apM,apP] using START,by simp <;> omega⟩
 case round =>
  obtain ⟨m,hm,rfl,J,hz⟩:=hrel
  by_cases hlt:m < us.length
  ·obtain ⟨b,o,rfl,hbl,hcell⟩:=HZ.out (by omega)
   have C0:=(J.out.b.cell (p:=⟨b,o + m * 2,none⟩) hbl).trans (hcell m hlt).1
   have C1:=(J.out.b.cell (p:=⟨b,o + m * 2 + 1,none⟩) hbl).trans (hcell m hlt).2
   have EM:=zaa (yama us m hlt)
   have EP:=zaa (yanv us m hlt)
   have l1:=yafq us m
   have l2:=yaes us m
   have hbr:b < wr.heap.size:=by omega
   have DW:=zaa (hcell m hlt)
   clear hcell
   have m0:(0:Int) ≤ (m:Int):=by omega
   have m1:(m:Int) < (us.length:Int):=by omega
   generalize us[m].at_ = x at *
   generalize us[m].val = y at *
   go_wp2_with fail
   go_region_held3 (fun w' => w'.cell? ⟨b,o + m * 2,none⟩ = some (.int .i64 x) ∧ w'.cell? ⟨b,o + m * 2 + 1,none⟩ = some (.int .i64 y)) (first | exact ⟨C0,C1⟩ | exact ⟨s0,s1⟩ | exact ⟨r0,r1⟩ | exact ⟨q0,q1⟩)
    (first
     | (go_at_call 142; refine (zcz _ _ _).mono ?_; rintro e w1 ⟨rfl,hb1⟩; have hb1':=zdv hb1; have q0:=(hb1'.cell (p:=⟨b,o + m * 2,none⟩) hbr).trans C0; have q1:=(hb1'.cell (p:=⟨b,o + m * 2 + 1,none⟩) hbr).trans C1; have P1:=zaa ((J.out.below hb1').below ((Below.refl _ _).alloc (Nat.le_refl _) (.cells #[.int .i64 1,.int .i64 x,.int .i64 y] 192))); have HRD:=zaa (zqo w1 1 x y); have r0:=(P1.out.b.cell (p:=⟨b,o + m * 2,none⟩) hbl).trans DW.out.1; have r1:=(P1.out.b.cell (p:=⟨b,o + m * 2 + 1,none⟩) hbl).trans DW.out.2; have hz1:=P1.out.z; clear hb1 hb1')
     | (refine zam rfl (.tmp 14) (.tmp 26) 32 rfl w.heap.size 192 (.agg #[.int .i64 0,.int .i64 0,.int .i64 0]) 3 24 Tryz.underlying32 zbx rfl (by decide) _ _ _ rfl P1.out.l _ 1 _ rfl HRD.out (ziy _) (by simp [maxLen]; omega) (by omega) hz1 ?_; intro vN wN hownN hgrN; have G:=zaa (P1.out.growL [⟨1,x,y⟩] (by rw [zmy]; exact hownN) hgrN); have s0:=(G.out.b.cell (p:=⟨b,o + m * 2,none⟩) hbl).trans DW.out.1; have s1:=(G.out.b.cell (p:=⟨b,o + m * 2 + 1,none⟩) hbl).trans DW.out.2; clear hownN hgrN))
   all_goals
    have hzG:=G.out.z
    clear C0 C1 q0 q1 r0 r1 P1 HRD J
    have P2:=zaa (G.out.below ((Below.refl _ _).alloc (Nat.le_refl _) (.cells #[.int .i64 x] 3)))
    have HR2:=zaa (zky wN x)
    have hz2:=P2.out.z
    clear G
    go_wp2_with (at_builtin; refine zae _ rfl (.tmp 28) (.tmp 34) 23 rfl w.heap.size 3 (.int .i64 0) 1 8 Tryz.underlying23 zld rfl (by decide) _ _ _ rfl P2.out.p _ 1 _ rfl HR2.out (zfm _) (by simp [maxLen]; omega) (by omega) hz2 ?_)
    intro vQ wQ hownQ hgrQ
    have G2:=zaa (P2.out.growP [x] hownQ hgrQ)
    rw [← EM.out,← EP.out] at G2
    have hz3:=G2.out.z
    clear hownQ hgrQ P2 HR2
    go_wp2
    go_roundw
    case rel => exact ⟨m + 1,by omega,by go_num,G2,hz3⟩
    case measure => simp [intOf]; omega
  ·obtain rfl:m = us.length:=by omega
   have PL:=zaa (yakv us us.length Z0.out)
   have l1:=yafq us us.length
   have l2:=yaes us us.length
   have EE:=zaa (show zin (zdx us) = apM us us.length ++ zbl (apP us us.length) ++ [⟨1,8,0⟩] ++ zbl [8] by
    rw [yarc,yasu]; simp [zin,seg,cnt,stM])
   have l3:=zbv (apP us us.length)
   have l4:=zbv [8]
   simp only [List.length_cons,List.length_nil] at l4
   generalize apM us us.length = A at *
   generalize apP us us.length = B at *
   go_wp2_with fail
   refine (zcy _ B _ (zad J.out.p).rd (by omega) PL.out).mono ?_
   rintro e w1 ⟨v1,rfl,hr1,hb1⟩
   have P1:=zaa (J.out.below hb1)
   have R1:=zaa hr1.rd
   have hz1:=P1.out.z
   clear hr1 hb1 J
   go_wp2_with (at_builtin; refine zae _ rfl (.tmp 36) (.tmp 38) 32 rfl w.heap.size 192 (.agg #[.int .i64 0,.int .i64 0,.int .i64 0]) 3 24 Tryz.underlying32 zbx rfl (by decide) _ _ _ rfl P1.out.l _ _ _ rfl R1.out (zcw _) (by simp [maxLen]; omega) (by omega) hz1 ?_)
   intro v2 w2 hown2 hgr2
   have P2:=zaa (P1.out.growL _ hown2 hgr2)
   have hz2:=P2.out.z
   have l5:(A ++ zbl B).length ≤ 200:=by simp; omega
   generalize A ++ zbl B = C at *
   clear hown2 hgr2 P1 R1
   go_wp2_with fail
   refine (zcz _ _ _).mono ?_
   rintro e w3 ⟨rfl,hb3⟩
   have P3:=zaa ((P2.out.below hb3).below ((Below.refl _ _).alloc (Nat.le_refl _) (.cells #[.int .i64 1,.int .i64 8,.int .i64 0] 192)))
   have R3:=zaa (zqo w3 1 8 0)
   have hz3:=P3.out.z
   clear hb3 P2
   go_wp2_with (at_builtin; refine zae _ rfl (.tmp 40) (.tmp 42) 32 rfl w.heap.size 192 (.agg #[.int .i64 0,.int .i64 0,.int .i64 0]) 3 24 Tryz.underlying32 zbx rfl (by decide) _ _ _ rfl P3.out.l _ 1 _ rfl R3.out (ziy _) (by simp [maxLen]; omega) (by omega) hz3 ?_)
   intro v4 w4 hown4 hgr4
   have P4:=zaa (P3.out.growL [⟨1,8,0⟩] (by rw [zmy]; exact hown4) hgr4)
   have l6:(C ++ [(⟨1,8,0⟩:Mi)]).length ≤ 201:=by simp; omega
   generalize C ++ [(⟨1,8,0⟩:Mi)] = D at *
   have P5:=zaa (P4.out.below ((Below.refl _ _).alloc (Nat.le_refl _) (.cells #[.int .i64 8] 3)))
   have R5:=zaa (zky w4 8)
   clear hown4 hgr4 P3 R3 P4
   go_wp2_with fail
   refine (zcy _ [8] _ R5.out (by simp) (by intro k h; simp at h; subst h; simp)).mono ?_
   rintro e w6 ⟨v6,rfl,hr6,hb6⟩
   have P6:=zaa (P5.out.below hb6)
   have R6:=zaa hr6.rd
   have hz6:=P6.out.z
   clear hr6 hb6 P5 R5
   go_wp2_with (at_builtin; refine zae _ rfl (.tmp 44) (.tmp 46) 32 rfl w.heap.size 192 (.agg #[.int .i64 0,.int .i64 0,.int .i64 0]) 3 24 Tryz.underlying32 zbx rfl (by decide) _ _ _ rfl P6.out.l _ _ _ rfl R6.out (zcw _) (by simp [maxLen]; omega) (by omega) hz6 ?_)
   intro v7 w7 hown7 hgr7
   have P7:=zaa (P6.out.growL _ hown7 hgr7)
   rw [← EE.out] at P7
   obtain ⟨aL,cL,hvL⟩:=RdM.form (zad P7.out.l).rd rfl
   subst hvL
   clear hown7 hgr7 P6 R6
   go_wp2
   go_ret
   exact ⟨_,rfl,zad P7.out.l,P7.out.b⟩
theorem zsn {ls ls':List Int} {ws:List Ino} {ps:List Den} (h:Wi ls ws ps) (hl:ls'.length = 336) (ag:∀ z:Int,z = 0 ∨ (48 ≤ z ∧ z < 312) → wdI ls' z = wdI ls z):Wi ls' ws ps:=by
 refine ⟨hl,?_,?_,?_,?_,h.img⟩
 ·rw [ag 0 (.inl rfl)]; exact h.mark
 ·have g:=h.good
  unfold zcm at g ⊢
  rw [List.all_eq_true] at g ⊢
  intro k hk
  have q:=g k hk
  have:=List.mem_range.1 hk
  unfold zbs at q ⊢
  rw [ag _ (.inr (by omega)),ag _ (.inr (by omega)),ag _ (.inr (by omega))]
  exact q
 ·rw [← h.inos]
  unfold zbe
  apply List.map_congr_left
  intro i hi
  have:=List.mem_range.1 hi
  unfold zdm
  rw [ag _ (.inr (by omega)),ag _ (.inr (by omega)),ag _ (.inr (by omega)),ag _ (.inr (by omega)),ag _ (.inr (by omega)),ag _ (.inr (by omega)),ag _ (.inr (by omega)),ag _ (.inr (by omega)),ag _ (.inr (by omega)),ag _ (.inr (by omega)),ag _ (.inr (by omega))]
 ·rw [← h.dens]
  unfold zbi
  apply List.map_congr_left
  intro i hi
  have:=List.mem_range.1 hi
  unfold zfi
  rw [ag _ (.inr (by omega)),ag _ (.inr (by omega)),ag _ (.inr (by omega))]
theorem yarn (us:List Se):∀ ls:List Int,zcg ls (zdx us) = zbk ls us:=by
 induction us with
 | nil => intro ls; rfl
 | cons u us ih => intro ls; exact ih _
theorem zyu {z:Int} (hz:0 ≤ z):∀ (S:List St) (ls:List Int),(∀ p ∈ S,0 ≤ p.at_ ∧ p.at_ < (ls.length:Int) ∧ ¬ p.at_ = z) → wdI (zcg ls S) z = wdI ls z:=by
 intro S
 induction S with
 | nil => intro ls _; rfl
 | cons p S ih =>
  intro ls h
  show wdI (zcg (ls.set p.at_.toNat p.val) S) z = _
  rw [ih _ (fun q hq => by rw [List.length_set]; exact h q (List.mem_cons_of_mem _ hq))]
  obtain ⟨a,b,c⟩:=h p (List.mem_cons_self ..)
  rw [zee a b hz,if_neg (fun e => c e.symm)]
def zov (ls:List Int) (us:List Se):List Int:=if us.length = 0 then ls else zcg (zcg (zcg (zcg ls (jrn 0 (zdx us))) (cnt (us.length:Int))) (zdx us)) (cnt 0)
theorem zvk (ls:List Int) (us:List Se):zno (ls,[]) (zdr (zdx us)) = (zov ls us,[]):=by
 unfold zdr zov zin
 rw [zcj]
 by_cases h:us.length = 0
 ·rw [if_pos h,if_pos h]; rfl
 ·rw [if_neg h,if_neg h,zdj,zdj,zdj,zjm,zjm,zjm,zjm]
theorem yajp (ls:List Int) (us:List Se):(zov ls us).length = ls.length:=by
 unfold zov
 split
 ·rfl
 ·rw [zck,zck,zck,zck]
theorem yana {ls:List Int} {us:List Se} (hl:ls.length = 336) (h16:us.length ≤ 16) (ui:UpIn us) {z:Int} (hz:z = 0 ∨ (48 ≤ z ∧ z < 336)):wdI (zov ls us) z = wdI (zbk ls us) z:=by
 have hz0:0 ≤ z:=by omega
 unfold zov
 by_cases h:us.length = 0
 ·rw [if_pos h,List.eq_nil_of_length_eq_zero h]; rfl
 ·rw [if_neg h,zyu hz0 (cnt 0) _ (fun p hp => by
   rw [List.mem_singleton.1 hp,zck,zck,zck,hl]
   exact ⟨by show (0:Int) ≤ 8; omega,by show (8:Int) < 336; omega,by show ¬ (8:Int) = z; omega⟩),yarn]
  have same:∀ (us:List Se) (a b:List Int),a.length = 336 → b.length = 336 → UpIn us → wdI a z = wdI b z → wdI (zbk a us) z = wdI (zbk b us) z:=by
   intro us
   induction us with
   | nil => intro a b _ _ _ e; exact e
   | cons u us ih =>
    intro a b ha hb ui e
    have q:=ui u (List.mem_cons_self ..)
    refine ih _ _ (by rw [List.length_set]; exact ha) (by rw [List.length_set]; exact hb) (fun v hv => ui v (List.mem_cons_of_mem _ hv)) ?_
    rw [zee (by omega) (by omega) hz0,zee (by omega) (by omega) hz0,e]
  refine same us _ _ (by rw [zck,zck]; exact hl) hl ui ?_
  rw [zyu hz0 (cnt (us.length:Int)) _ (fun p hp => by
   rw [List.mem_singleton.1 hp,zck,hl]
   exact ⟨by show (0:Int) ≤ 8; omega,by show (8:Int) < 336; omega,by show ¬ (8:Int) = z; omega⟩)]
  rw [zyu hz0 (jrn 0 (zdx us)) _ (fun p hp => by
   have:=yaff (zdx us) 0 p hp
   rw [zcj] at this
   rw [hl]
   exact ⟨by omega,by omega,by omega⟩)]
theorem znv {ls:List Int} {us:List Se} (hl:ls.length = 336) (c:wdI ls 8 = 0):wdI (zov ls us) 8 = 0:=by
 unfold zov
 by_cases h:us.length = 0
 ·rw [if_pos h]; exact c
 ·rw [if_neg h]
  show wdI ((zcg (zcg (zcg ls (jrn 0 (zdx us))) (cnt (us.length:Int))) (zdx us)).set (8:Int).toNat 0) 8 = 0
  rw [zee (by omega) (by rw [zck,zck,zck,hl]; omega) (by omega),if_pos rfl]
theorem yaix {ls:List Int} {us:List Se} {ws:List Ino} {ps:List Den} (hl:ls.length = 336) (h16:us.length ≤ 16) (ui:UpIn us) (h:Wi (zbk ls us) ws ps):Wi (zov ls us) ws ps :=
 zsn h (by rw [yajp]; exact hl) (fun z hz => yana hl h16 ui (by omega))
def ldW (ws:List Int) (ps:List St) (k:Nat):Int:=zjk (k:Int) (ws[k]?.getD 0) ps
theorem yauj {ws:List Int} {ps:List St} {k:Nat} (h:k < ws.length):ldW ws ps k = zjk (k:Int) ws[k] ps:=by unfold ldW; simp [h]
def RdBlk (w:World) (v:Value) (ws:List Int) (ps:List Se):Prop:=∃ vW vP,v = .agg #[vW,vP] ∧ RdI w vW ws ∧ RdE w vP ps
def RowZ (w:World) (lo hi:Nat) (v:Value) (n:Nat) (xs:List Value):Prop:=∃ e,e ≠ 180 ∧ Row w e 1 lo hi v n xs
theorem RowZ.rd {w:World} {lo hi:Nat} {v:Value} {n:Nat} {xs:List Value} (h:RowZ w lo hi v n xs):Rd w 1 v n xs:=by
 obtain ⟨_,_,h⟩:=h
 exact h.rd
theorem RowZ.outside {w w':World} {lo hi:Nat} {v:Value} {n:Nat} {xs:List Value} (h:RowZ w lo hi v n xs) {lo' hi':Nat} (ho:Outside lo' hi' w w') (hd:hi ≤ lo' ∨ hi' ≤ lo) (hz:hi ≤ w.heap.size):RowZ w' lo hi v n xs:=by
 obtain ⟨e,he,h⟩:=h
 exact ⟨e,he,h.outside ho hd hz⟩
theorem Row.z {w:World} {lo hi:Nat} {v:Value} {n:Nat} {xs:List Value} (h:Row w 3 1 lo hi v n xs):RowZ w lo hi v n xs:=⟨3,by decide,h⟩
def RowBlk (w:World) (lo hi:Nat) (v:Value) (ws:List Int) (ps:List Se):Prop:=∃ vW vP,v = .agg #[vW,vP] ∧ RowZ w lo hi vW ws.length (zdh ws) ∧ Row w 180 2 lo hi vP ps.length (ses ps)
theorem RowBlk.rd {w:World} {lo hi:Nat} {v:Value} {ws:List Int} {ps:List Se} (h:RowBlk w lo hi v ws ps):RdBlk w v ws ps:=by
 obtain ⟨vW,vP,rfl,h1,h2⟩:=h
 exact ⟨vW,vP,rfl,h1.rd,h2.rd⟩
theorem RdBlk.below {w w':World} {v:Value} {ws:List Int} {ps:List Se} (h:RdBlk w v ws ps) (hb:Below w.heap.size w w'):RdBlk w' v ws ps:=by
 obtain ⟨vW,vP,rfl,h1,h2⟩:=h
 exact ⟨vW,vP,rfl,Rd.below h1 hb,Rd.below h2 hb⟩
theorem RowBlk.outside {w w':World} {lo hi:Nat} {v:Value} {ws:List Int} {ps:List Se} (h:RowBlk w lo hi v ws ps) {lo' hi':Nat} (ho:Outside lo' hi' w w') (hd:hi ≤ lo' ∨ hi' ≤ lo) (hz:hi ≤ w.heap.size):RowBlk w' lo hi v ws ps:=by
 obtain ⟨vW,vP,rfl,h1,h2⟩:=h
 exact ⟨vW,vP,rfl,h1.outside ho hd hz,h2.outside ho hd hz⟩
def zgk (ws:List Int) (ps:List Se):Bool:=decide (ws.length = 32 ∧ ps.length ≤ 400 ∧ (∀ k (h:k < ws.length),zbd ws[k] = true) ∧ ∀ k (h:k < ps.length),zpr ps[k].at_ = true ∧ zbd ps[k].val = true)
theorem yahr {ws:List Int} {ps:List Se} (h1:ws.length = 32) (h2:ps.length ≤ 400) (h3:∀ k (h:k < ws.length),zbd ws[k] = true) (h4:∀ k (h:k < ps.length),zpr ps[k].at_ = true ∧ zbd ps[k].val = true):zgk ws ps = true:=decide_eq_true ⟨h1,h2,h3,h4⟩
theorem zej {ws:List Int} {ps:List Se} (h:zgk ws ps = true):ws.length = 32 ∧ ps.length ≤ 400:=⟨(of_decide_eq_true h).1,(of_decide_eq_true h).2.1⟩
theorem yaji {ws:List Int} {ps:List Se} (h:zgk ws ps = true) (k:Nat) (hk:k < ws.length):zbd ws[k] = true:=(of_decide_eq_true h).2.2.1 k hk
theorem zqw {ws:List Int} {ps:List Se} (h:zgk ws ps = true) (k:Nat) (hk:k < ps.length):zpr ps[k].at_ = true ∧ zbd ps[k].val = true:=(of_decide_eq_true h).2.2.2 k hk
theorem yagv {ws:List Int} {ps:List Se} (h:¬ ws.length = 32):zgk ws ps = false:=decide_eq_false (fun x => h x.1)
theorem yalc {ws:List Int} {ps:List Se} (h:400 < ps.length):zgk ws ps = false:=decide_eq_false (fun x => absurd x.2.1 (by omega))
theorem yavs {ws:List Int} {ps:List Se} {k:Nat} (hk:k < ws.length) (h:zbd ws[k] = false):zgk ws ps = false:=decide_eq_false (fun x => by have:=x.2.2.1 k hk; rw [h] at this; cases this)
theorem yavy {ws:List Int} {ps:List Se} {k:Nat} (hk:k < ps.length) (h:zpr ps[k].at_ = false):zgk ws ps = false:=decide_eq_false (fun x => by have:=(x.2.2.2 k hk).1; rw [h] at this; cases this)
theorem yauq {ws:List Int} {ps:List Se} {k:Nat} (hk:k < ps.length) (h:zbd ps[k].val = false):zgk ws ps = false:=decide_eq_false (fun x => by have:=(x.2.2.2 k hk).2; rw [h] at this; cases this)
def seB (s:Se):Bool:=zpr s.at_ && zbd s.val
theorem yanp {s:Se} (h:seB s = true):zpr s.at_ = true ∧ zbd s.val = true:=by unfold seB at h; simpa using h
theorem yagm {s:Se} {p:Prop} (h:seB s = false) (h1:zpr s.at_ = false → p) (h2:zbd s.val = false → p):p:=by
 unfold seB at h
 rw [Bool.and_eq_false_iff] at h
 exact h.elim h1 h2
def sesB (ps:List Se):Bool:=decide (∀ k (h:k < ps.length),seB ps[k] = true)
theorem yaid {ps:List Se} (h:sesB ps = true):∀ k (h:k < ps.length),seB ps[k] = true:=of_decide_eq_true h
theorem yajd {ps:List Se} (h:∀ k (h:k < ps.length),seB ps[k] = true):sesB ps = true:=decide_eq_true h
theorem yalx {ps:List Se} {k:Nat} (hk:k < ps.length) (h:seB ps[k] = false):sesB ps = false:=decide_eq_false (fun x => by have:=x k hk; rw [h] at this; cases this)
theorem yaqt {ps:List Se} (h:sesB ps = false):∃ k,∃ h:k < ps.length,seB ps[k] = false:=by
 apply Classical.byContradiction
 intro hn
 have:sesB ps = true:=yajd (fun k hk => by
  cases e:seB ps[k] with
  | true => rfl
  | false => exact absurd ⟨k,hk,e⟩ hn)
 rw [h] at this
 cases this
set_option maxHeartbeats 1000000 in
theorem znh (s:Se) (w:World):Calls Tryz.prog 130 #[.agg #[.int .i64 s.at_,.int .i64 s.val]] w fun e w' => e = .returned (.bool (seB s)) ∧ Below w.heap.size w w':=by
 have hb0:Below w.heap.size w (w.alloc (.cells #[.int .i64 s.at_,.int .i64 s.val] 180)):=(Below.refl _ _).alloc (Nat.le_refl _) _
 by_cases q:zpr s.at_ = true
 ·have E:=zaa (show seB s = zbd s.val by unfold seB; rw [q]; rfl)
  have Q:=zaa q
  clear q
  go_enter Tryz.func130,Tryz.ntmps130
  go_wp2_with (first | (go_at_call 157; refine (zeq _ _).mono ?_; rw [Q.out]; rintro e w' ⟨rfl,rfl⟩) | (go_at_call 80; refine (zgd _ _).mono ?_; rintro e w' ⟨rfl,rfl⟩))
  go_ret
  exact ⟨zag E.out.symm,hb0⟩
 ·have q':zpr s.at_ = false:=by simpa using q
  have E:=zaa (show seB s = false by unfold seB; rw [q']; rfl)
  have Q:=zaa q'
  clear q q'
  go_enter Tryz.func130,Tryz.ntmps130
  go_wp2_with (go_at_call 157; refine (zeq _ _).mono ?_; rw [Q.out]; rintro e w' ⟨rfl,rfl⟩)
  go_ret
  exact ⟨zag E.out.symm,hb0⟩
set_option maxHeartbeats 4000000 in
theorem ziu (v:Value) (ps:List Se) (w:World) (h:RdE w v ps) (hn:ps.length ≤ 1048576) :
  Calls Tryz.prog 129 #[v,.func (.func 130) #[] #[]] w fun e w' => e = .returned (.bool (sesB ps)) ∧ Below w.heap.size w w':=by
 obtain ⟨aP,cP,rfl,_,hcP⟩:=h.shape
 clear h
 go_enter Tryz.func129,Tryz.ntmps129
 go_wp2
 go_loopw [6,9] (fun _ i wr => ∃ k:Nat,k ≤ ps.length ∧ i = .int .i64 k ∧ Hid (∀ j (h:j < ps.length),j < k → seB ps[j] = true) ∧ Below w.heap.size w wr) (fun _ i _ => ps.length - (intOf i).toNat)
 case atStart => exact ⟨0,by omega,rfl,fun j h a => absurd a (by omega),Below.refl _ _⟩
 case round =>
  obtain ⟨m,hm,rfl,H,hbw⟩:=hrel
  have hz:=hbw.size
  by_cases hlt2:m < ps.length
  ·obtain ⟨b2,o2,rfl,hbl2,hcell2⟩:=hcP (by omega)
   obtain ⟨d0,d1⟩:=hcell2 m hlt2
   have e0:=(hbw.cell (p:=⟨b2,o2 + m * 2,none⟩) hbl2).trans d0
   have e1:=(hbw.cell (p:=⟨b2,o2 + m * 2 + 1,none⟩) hbl2).trans d1
   have hb1:=zaa (hbw.alloc hz (.cells #[.int .i64 ps[m].at_,.int .i64 ps[m].val] 180))
   clear d0 d1 hcell2 hcP
   by_cases q:seB ps[m] = true
   ·have Q:=zaa q
    clear q
    go_wp2_with (go_at_call 130; refine (znh ps[m] _).mono ?_; rw [Q.out]; rintro e w' ⟨rfl,hw'⟩)
    have hw2:=hb1.out.trans (hw'.mono (by simp; omega))
    clear hb1 hw'
    go_roundw
    case rel =>
     refine ⟨m + 1,by omega,by go_num,fun j h a => ?_,hw2⟩
     by_cases e:j = m
     ·subst e; exact Q.out
     ·exact H.out j h (by omega)
    case measure => simp [intOf]; omega
   ·have Q:=zaa (show seB ps[m] = false by simpa using q)
    have E:=zaa (yalx hlt2 Q.out)
    clear q
    go_wp2_with (go_at_call 130; refine (znh ps[m] _).mono ?_; rw [Q.out]; rintro e w' ⟨rfl,hw'⟩)
    have hw2:=hb1.out.trans (hw'.mono (by simp; omega))
    go_ret
    exact ⟨zag E.out.symm,hw2⟩
  ·have E:=zaa (yajd (fun j h => H.out j h (by omega)))
   go_wp2
   go_ret
   exact ⟨zag E.out.symm,hbw⟩
set_option maxHeartbeats 4000000 in
theorem zgx (v:Value) (ws:List Int) (ps:List Se) (w:World) (h:RdBlk w v ws ps) (hw:ws.length ≤ 1048576) (hp:ps.length ≤ 1048576) :
  Calls Tryz.prog 84 #[v] w fun e w' => e = .returned (.bool (zgk ws ps)) ∧ Below w.heap.size w w':=by
 obtain ⟨vW,vP,rfl,h1,h2⟩:=h
 obtain ⟨aW,cW,rfl,_,hcW⟩:=h1.shape
 obtain ⟨aP,cP,rfl,_,hcP⟩:=h2.shape
 have H1:=zaa h1
 have H2:=zaa h2
 clear h1 h2 hcW hcP
 have hb0:Below w.heap.size w (w.alloc (.cells #[.slice aW ws.length cW,.slice aP ps.length cP] 29)):=(Below.refl _ _).alloc (Nat.le_refl _) _
 have HB:=zaa hb0
 by_cases c1:ws.length = 32
 case neg =>
  have E:=zaa (yagv (ps:=ps) c1)
  have c1':((ws.length:Int) == 32) = false:=by rw [beq_eq_false_iff_ne]; omega
  clear c1
  go_enter Tryz.func84,Tryz.ntmps84
  go_wp2
  go_ret
  exact ⟨zag E.out.symm,HB.out⟩
 have c1n:((ws.length:Int) == 32) = true:=by simp; omega
 have C1:=zaa c1
 clear c1
 by_cases c2:400 < ps.length
 ·have E:=zaa (yalc (ws:=ws) c2)
  have c2':decide ((ps.length:Int) ≤ 400) = false:=by simp; omega
  go_enter Tryz.func84,Tryz.ntmps84
  go_wp2
  go_ret
  exact ⟨zag E.out.symm,HB.out⟩
 by_cases c3:zis ws = true
 case neg =>
  have c3':zis ws = false:=by simpa using c3
  obtain ⟨k,hk,hkf⟩:=zvd c3'
  have E:=zaa (yavs (ps:=ps) hk hkf)
  have W0:=zaa c3'
  clear c3 c3' hkf hk
  go_enter Tryz.func84,Tryz.ntmps84
  go_wp2_with (go_at_call 79; refine (zda _ ws _ (Rd.below H1.out HB.out) (by omega)).mono ?_; rw [W0.out]; rintro e w' ⟨rfl,rfl⟩)
  go_ret
  exact ⟨zag E.out.symm,HB.out⟩
 have HW:=zaa (znu c3)
 have W1:=zaa c3
 clear c3
 cases c4:sesB ps with
 | true =>
  have E:=zaa (yahr C1.out (by omega) HW.out (fun j h => yanp (yaid c4 j h)))
  have W2:=zaa c4
  clear c4
  go_enter Tryz.func84,Tryz.ntmps84
  go_wp2_with (first | (go_at_call 79; refine (zda _ ws _ (Rd.below H1.out HB.out) (by omega)).mono ?_; rw [W1.out]; rintro e w' ⟨rfl,rfl⟩) | (go_at_call 129; refine (ziu _ ps _ (Rd.below H2.out HB.out) (by omega)).mono ?_; rw [W2.out]; rintro e w' ⟨rfl,hw'⟩))
  go_ret
  exact ⟨zag E.out.symm,HB.out.trans (hw'.mono (by simp))⟩
 | false =>
  obtain ⟨k,hk,hkf⟩:=yaqt c4
  have E:=zaa (show zgk ws ps = false from yagm hkf (yavy (ws:=ws) hk) (yauq (ws:=ws) hk))
  have W2:=zaa c4
  clear c4 hk hkf
  go_enter Tryz.func84,Tryz.ntmps84
  go_wp2_with (first | (go_at_call 79; refine (zda _ ws _ (Rd.below H1.out HB.out) (by omega)).mono ?_; rw [W1.out]; rintro e w' ⟨rfl,rfl⟩) | (go_at_call 129; refine (ziu _ ps _ (Rd.below H2.out HB.out) (by omega)).mono ?_; rw [W2.out]; rintro e w' ⟨rfl,hw'⟩))
  go_ret
  exact ⟨zag E.out.symm,HB.out.trans (hw'.mono (by simp))⟩
end Go.Proofs.YtkdjfhkalelafaaGreatDoor
