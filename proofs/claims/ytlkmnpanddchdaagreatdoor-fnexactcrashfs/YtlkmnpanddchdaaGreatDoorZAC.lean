/- Several texts laid together: BlkT, Word, PmOK, BlkOK. -/
import Derived.Test.YtlkmnpanddchdaaGreatDoorZAB
import Derived.Test.YtlkmnpanddchdaaGreatDoorZAA
namespace Go.Proofs.YtlkmnpanddchdaaGreatDoor
open Go.RowKit
set_option maxHeartbeats 2000000 in
theorem yafu (va vb:Value) (ws:List Int) (ps:List Se) (w:World) (ha:RdBlk w va ws ps) (hb:RdBlk w vb ws ps) (hw:ws.length ≤ 2147483648) (hp:ps.length ≤ 2147483648) :
  Calls Tryz.prog 37 #[va,vb] w fun e w' => e = .returned (.bool true) ∧ Below w.heap.size w w':=by
 obtain ⟨vW,vP,rfl,h1,h2⟩:=ha
 obtain ⟨uW,uP,rfl,h3,h4⟩:=hb
 obtain ⟨aW,cW,rfl,_⟩:=h1.shape
 obtain ⟨aP,cP,rfl,_⟩:=h2.shape
 obtain ⟨bW,dW,rfl,_⟩:=h3.shape
 obtain ⟨bP,dP,rfl,_⟩:=h4.shape
 have H1:=zaa h1
 have H2:=zaa h2
 have H3:=zaa h3
 have H4:=zaa h4
 clear h1 h2 h3 h4
 go_enter Tryz.func37,Tryz.ntmps37
 go_wp2_with fail
 have hb0:Below w.heap.size w ((w.alloc (.cells #[.slice aW ws.length cW,.slice aP ps.length cP] 43)).alloc (.cells #[.slice bW ws.length dW,.slice bP ps.length dP] 43)):=by
  repeat (refine Below.alloc ?_ (by simp <;> omega) _)
  exact Below.refl _ _
 refine (zft _ _ ws _ (Rd.below H1.out hb0) (Rd.below H3.out hb0) hw).mono ?_
 rintro e w1 ⟨rfl,hb1⟩
 have hz1:w.heap.size + 2 ≤ w1.heap.size:=by have:=hb1.size; simp at this; omega
 have V0:=(hb1.block w.heap.size (by simp <;> omega)).trans (zal (zag rfl))
 have V1:=(hb1.block (w.heap.size + 1) (by simp <;> omega)).trans (zag (by simp))
 have B1:=hb0.trans (hb1.mono (by simp <;> omega))
 obtain ⟨x1,x2,_,_⟩:=zad V0
 obtain ⟨y1,y2,_,_⟩:=zad V1
 clear hb0 hb1 V0 V1
 go_wp2_with fail
 refine (zrg _ _ ps _ (Rd.below H2.out B1) (Rd.below H4.out B1) hp).mono ?_
 rintro e w2 ⟨rfl,hb2⟩
 go_wp2
 go_ret
 exact ⟨rfl,B1.trans (hb2.mono (by omega))⟩
set_option maxHeartbeats 2000000 in
theorem yacf (v:Value) (ws:List Int) (ps:List Se) (k0:Int) (lo hi:Nat) (w:World) (h:RowBlk w lo hi v ws ps) (hi1:hi ≤ w.heap.size) (hw:ws.length ≤ 2147483648) (hp:ps.length ≤ 2147483648) (h0:0 ≤ k0) (h1:k0 ≤ 1073741824) :
  Calls Tryz.prog 43 #[v,.int .i64 k0] w fun e w' => e = .returned (.int .i64 (k0 + ws.length + 2 * ps.length)) ∧ RowBlk w' lo hi v (zgv k0 ws.length) (zeq (k0 + ws.length) ps.length) ∧ Outside lo hi w w':=by
 obtain ⟨vW,vP,rfl,h1,h2⟩:=h
 obtain ⟨_,aW,cW,rfl,_⟩:=h1.rd
 obtain ⟨_,aP,cP,rfl,_⟩:=h2.rd
 obtain ⟨e1,he1,h1⟩:=h1
 have HE:=zaa he1
 have H1:=zaa h1
 have H2:=zaa h2
 clear h1 h2 he1
 go_enter Tryz.func43,Tryz.ntmps43
 go_wp2_with fail
 have hb0:Below w.heap.size w (w.alloc (.cells #[.slice aW ws.length cW,.slice aP ps.length cP] 43)):=(Below.refl _ _).alloc (Nat.le_refl _) _
 refine (zeu _ _ (zav ws) k0 lo hi _ (H1.out.below hb0 hi1) (fun u hu => by simp only [zav,List.mem_map] at hu; obtain ⟨z,_,rfl⟩:=hu; exact ⟨z,rfl⟩) hw h0 (by omega)).mono ?_
 rintro e w1 ⟨rfl,hr1,hg1,hz1⟩
 simp only [World.size_alloc] at hz1
 have ho1:=Row.grown_outside H1.out hg1
 have V0:=(ho1.block w.heap.size (by simp) (.inr hi1)).trans (zag rfl)
 obtain ⟨x1,x2,_,_⟩:=zad V0
 have O1:=zaa ((Outside.of_below (lo:=lo) (hi:=hi) hb0).trans ho1)
 have R1:=zaa hr1
 have R2:=zaa ((H2.out.below hb0 hi1).apart (H1.out.below hb0 hi1) (Ne.symm HE.out) hg1)
 clear hr1 hg1 ho1 V0
 go_wp2_with fail
 refine (zqd _ _ (ses ps) (k0 + ws.length) lo hi _ R2.out (yawk ps) hp (by omega) (by omega)).mono ?_
 rintro e w2 ⟨rfl,hr2,hg2,hz2⟩
 have O2:=zaa (O1.out.trans (Row.grown_outside R2.out hg2))
 have R3:=zaa (R1.out.apart R2.out HE.out hg2)
 have R4:=zaa hr2
 clear hr2 hg2
 go_wp2
 go_ret
 refine ⟨rfl,⟨_,_,rfl,?_,?_⟩,O2.out⟩
 ·rw [zbo]; exact ⟨e1,HE.out,R3.out⟩
 ·rw [zcf]; exact R4.out
set_option maxHeartbeats 2000000 in
theorem yace (v:Value) (n m:Nat) (k0:Int) (w:World) (h:RdBlk w v (zgv k0 n) (zeq (k0 + n) m)) (hw:n ≤ 2147483648) (hp:m ≤ 2147483648) (h0:0 ≤ k0) (h1:k0 ≤ 1073741824) :
  Calls Tryz.prog 45 #[v,.int .i64 k0] w fun e w' => e = .returned (.int .i64 (k0 + n + 2 * m)) ∧ Below w.heap.size w w':=by
 obtain ⟨vW,vP,rfl,h1,h2⟩:=h
 obtain ⟨aW,cW,rfl,_⟩:=h1.shape
 obtain ⟨aP,cP,rfl,_⟩:=h2.shape
 simp only [zbo,zcf] at *
 have H1:=zaa h1
 have H2:=zaa h2
 clear h1 h2
 have hb0:Below w.heap.size w (w.alloc (.cells #[.slice aW n cW,.slice aP m cP] 43)):=(Below.refl _ _).alloc (Nat.le_refl _) _
 go_enter Tryz.func45,Tryz.ntmps45
 go_wp2_with fail
 refine (zhy _ n k0 _ (Rd.below H1.out hb0) hw h0 (by omega)).mono ?_
 rintro e w1 ⟨rfl,rfl⟩
 go_wp2_with fail
 refine (zqp _ m (k0 + n) _ (Rd.below H2.out hb0) hp (by omega) (by omega)).mono ?_
 rintro e w2 ⟨rfl,rfl⟩
 go_wp2
 go_ret
 exact ⟨rfl,hb0⟩
def zao (n:Int):Bool:=decide (0 ≤ n ∧ n < 1099511627776)
def zbj (n:Int):Bool:=decide (0 ≤ n ∧ n < 336)
def zlk (n:Int):Bool:=decide (0 ≤ n ∧ n < 32)
theorem zpp {n:Int} (h:zlk n = true):0 ≤ n ∧ n < 32:=of_decide_eq_true h
theorem zlt {n:Int} (h:zao n = true):0 ≤ n ∧ n < 1099511627776:=of_decide_eq_true h
theorem zfv {n:Int} (h:zbj n = true):0 ≤ n ∧ n < 336:=of_decide_eq_true h
theorem zcp (n:Int) (w:World):Calls Tryz.prog 167 #[.int .i64 n] w fun e w' => e = .returned (.bool (zao n)) ∧ w' = w:=by
 by_cases h0:0 ≤ n
 ·by_cases h1:n < 1099511627776
  ·have e:zao n = true:=decide_eq_true ⟨h0,h1⟩
   rw [e]; clear e
   go_enter Tryz.func167,Tryz.ntmps167
   go_wp2
   go_ret
   exact ⟨rfl,rfl⟩
  ·have e:zao n = false:=decide_eq_false (fun h => h1 h.2)
   rw [e]; clear e
   go_enter Tryz.func167,Tryz.ntmps167
   go_wp2
   go_ret
   exact ⟨rfl,rfl⟩
 ·have e:zao n = false:=decide_eq_false (fun h => h0 h.1)
  rw [e]; clear e
  go_enter Tryz.func167,Tryz.ntmps167
  go_wp2
  go_ret
  exact ⟨rfl,rfl⟩
theorem zcu (n:Int) (w:World):Calls Tryz.prog 181 #[.int .i64 n] w fun e w' => e = .returned (.bool (zbj n)) ∧ w' = w:=by
 by_cases h0:0 ≤ n
 ·by_cases h1:n < 336
  ·have e:zbj n = true:=decide_eq_true ⟨h0,h1⟩
   rw [e]; clear e
   go_enter Tryz.func181,Tryz.ntmps181
   go_wp2
   go_ret
   exact ⟨rfl,rfl⟩
  ·have e:zbj n = false:=decide_eq_false (fun h => h1 h.2)
   rw [e]; clear e
   go_enter Tryz.func181,Tryz.ntmps181
   go_wp2
   go_ret
   exact ⟨rfl,rfl⟩
 ·have e:zbj n = false:=decide_eq_false (fun h => h0 h.1)
  rw [e]; clear e
  go_enter Tryz.func181,Tryz.ntmps181
  go_wp2
  go_ret
  exact ⟨rfl,rfl⟩
theorem zes (n:Int) (w:World):Calls Tryz.prog 196 #[.int .i64 n] w fun e w' => e = .returned (.bool (zlk n)) ∧ w' = w:=by
 by_cases h0:0 ≤ n
 ·by_cases h1:n < 32
  ·have e:zlk n = true:=decide_eq_true ⟨h0,h1⟩
   rw [e]; clear e
   go_enter Tryz.func196,Tryz.ntmps196
   go_wp2
   go_ret
   exact ⟨rfl,rfl⟩
  ·have e:zlk n = false:=decide_eq_false (fun h => h1 h.2)
   rw [e]; clear e
   go_enter Tryz.func196,Tryz.ntmps196
   go_wp2
   go_ret
   exact ⟨rfl,rfl⟩
 ·have e:zlk n = false:=decide_eq_false (fun h => h0 h.1)
  rw [e]; clear e
  go_enter Tryz.func196,Tryz.ntmps196
  go_wp2
  go_ret
  exact ⟨rfl,rfl⟩
def inB (n lo hi:Int):Bool:=decide (lo ≤ n ∧ n ≤ hi)
theorem zhw (n lo hi:Int) (w:World):Calls Tryz.prog 61 #[.int .i64 n,.int .i64 lo,.int .i64 hi] w fun e w' => e = .returned (.bool (inB n lo hi)) ∧ w' = w:=by
 by_cases h0:lo ≤ n
 ·by_cases h1:n ≤ hi
  ·have e:inB n lo hi = true:=decide_eq_true ⟨h0,h1⟩
   rw [e]; clear e
   go_enter Tryz.func61,Tryz.ntmps61
   go_wp2
   go_ret
   exact ⟨rfl,rfl⟩
  ·have e:inB n lo hi = false:=decide_eq_false (fun h => h1 h.2)
   rw [e]; clear e
   go_enter Tryz.func61,Tryz.ntmps61
   go_wp2
   go_ret
   exact ⟨rfl,rfl⟩
 ·have e:inB n lo hi = false:=decide_eq_false (fun h => h0 h.1)
  rw [e]; clear e
  go_enter Tryz.func61,Tryz.ntmps61
  go_wp2
  go_ret
  exact ⟨rfl,rfl⟩
theorem yana (n:Int):inB n 0 1099511627775 = zao n:=by
 unfold inB zao
 rw [decide_eq_decide]
 omega
theorem yako (n:Int):inB n 0 335 = zbj n:=by
 unfold inB zbj
 rw [decide_eq_decide]
 omega
theorem yary (n:Int):inB n 0 31 = zlk n:=by
 unfold inB zlk
 rw [decide_eq_decide]
 omega
theorem zhq (n:Int) (w:World):Calls Tryz.prog 61 #[.int .i64 n,.int .i64 0,.int .i64 31] w fun e w' => e = .returned (.bool (zlk n)) ∧ w' = w:=by
 rw [← yary]
 exact zhw n 0 31 w
theorem zgg (n:Int) (w:World):Calls Tryz.prog 61 #[.int .i64 n,.int .i64 0,.int .i64 335] w fun e w' => e = .returned (.bool (zbj n)) ∧ w' = w:=by
 rw [← yako]
 exact zhw n 0 335 w
theorem zbf (n:Int) (w:World):Calls Tryz.prog 116 #[.int .i64 n] w fun e w' => e = .returned (.bool (zao n)) ∧ w' = w:=by
 have E:=zaa (yana n)
 go_enter Tryz.func116,Tryz.ntmps116
 go_wp2_with fail
 refine (zhw n 0 1099511627775 _).mono ?_
 rw [E.out]
 rintro e w' ⟨rfl,rfl⟩
 go_wp2
 go_ret
 exact ⟨rfl,rfl⟩
def zjc (zs:List Int):Bool:=decide (∀ k (h:k < zs.length),zao zs[k] = true)
theorem zou {zs:List Int} (h:zjc zs = true):∀ k (h:k < zs.length),zao zs[k] = true:=of_decide_eq_true h
theorem zxf {zs:List Int} (h:∀ k (h:k < zs.length),zao zs[k] = true):zjc zs = true:=decide_eq_true h
theorem yagm {zs:List Int} {k:Nat} (hk:k < zs.length) (h:zao zs[k] = false):zjc zs = false:=decide_eq_false (fun x => by have:=x k hk; rw [h] at this; cases this)
theorem zyv {zs:List Int} (h:zjc zs = false):∃ k,∃ h:k < zs.length,zao zs[k] = false:=by
 apply Classical.byContradiction
 intro hn
 have:zjc zs = true:=zxf (fun k hk => by
  cases e:zao zs[k] with
  | true => rfl
  | false => exact absurd ⟨k,hk,e⟩ hn)
 rw [h] at this
 cases this
def pmB (ws:List Int) (ps:List St):Bool:=decide (ws.length = 336 ∧ ps.length ≤ 400 ∧ (∀ k (h:k < ws.length),zao ws[k] = true) ∧ ∀ k (h:k < ps.length),zbj ps[k].at_ = true ∧ zao ps[k].val = true)
theorem yahv {ws:List Int} {ps:List St} (h1:ws.length = 336) (h2:ps.length ≤ 400) (h3:∀ k (h:k < ws.length),zao ws[k] = true) (h4:∀ k (h:k < ps.length),zbj ps[k].at_ = true ∧ zao ps[k].val = true):pmB ws ps = true:=decide_eq_true ⟨h1,h2,h3,h4⟩
theorem zbz {ws:List Int} {ps:List St} (h:pmB ws ps = true):ws.length = 336 ∧ ps.length ≤ 400:=⟨(of_decide_eq_true h).1,(of_decide_eq_true h).2.1⟩
theorem zuj {ws:List Int} {ps:List St} (h:pmB ws ps = true) (k:Nat) (hk:k < ws.length):zao ws[k] = true:=(of_decide_eq_true h).2.2.1 k hk
theorem zhs {ws:List Int} {ps:List St} (h:pmB ws ps = true) (k:Nat) (hk:k < ps.length):zbj ps[k].at_ = true ∧ zao ps[k].val = true:=(of_decide_eq_true h).2.2.2 k hk
theorem yadq {ws:List Int} {ps:List St} (h:¬ ws.length = 336):pmB ws ps = false:=decide_eq_false (fun x => h x.1)
theorem yadn {ws:List Int} {ps:List St} (h:400 < ps.length):pmB ws ps = false:=decide_eq_false (fun x => absurd x.2.1 (by omega))
theorem yavl {ws:List Int} {ps:List St} {k:Nat} (hk:k < ws.length) (h:zao ws[k] = false):pmB ws ps = false:=decide_eq_false (fun x => by have:=x.2.2.1 k hk; rw [h] at this; cases this)
theorem yatz {ws:List Int} {ps:List St} {k:Nat} (hk:k < ps.length) (h:zbj ps[k].at_ = false):pmB ws ps = false:=decide_eq_false (fun x => by have:=(x.2.2.2 k hk).1; rw [h] at this; cases this)
theorem yaug {ws:List Int} {ps:List St} {k:Nat} (hk:k < ps.length) (h:zao ps[k].val = false):pmB ws ps = false:=decide_eq_false (fun x => by have:=(x.2.2.2 k hk).2; rw [h] at this; cases this)
set_option maxHeartbeats 4000000 in
theorem zdd (v:Value) (ws:List Int) (ps:List St) (w:World) (h:RdPm w v ws ps) (hw:ws.length ≤ 1048576) (hp:ps.length ≤ 1048576) :
  Calls Tryz.prog 110 #[v] w fun e w' => e = .returned (.bool (pmB ws ps)) ∧ Below w.heap.size w w':=by
 obtain ⟨vW,vP,rfl,h1,h2⟩:=h
 obtain ⟨aW,cW,rfl,_,hcW⟩:=h1.shape
 obtain ⟨aP,cP,rfl,_,hcP⟩:=h2.shape
 clear h1 h2
 have hb0:Below w.heap.size w (w.alloc (.cells #[.slice aW ws.length cW,.slice aP ps.length cP] 40)):=(Below.refl _ _).alloc (Nat.le_refl _) _
 by_cases c1:ws.length = 336
 case neg =>
  have E:=zaa (yadq (ps:=ps) c1)
  have c1':((ws.length:Int) != 336) = true:=by simp; omega
  clear c1
  go_enter Tryz.func110,Tryz.ntmps110
  go_wp2
  go_ret
  exact ⟨zae E.out.symm,hb0⟩
 have c1n:((ws.length:Int) != 336) = false:=by simp; omega
 have hpos:0 < ws.length:=by omega
 have C1:=zaa c1
 clear c1
 by_cases c2:400 < ps.length
 ·have E:=zaa (yadn (ws:=ws) c2)
  go_enter Tryz.func110,Tryz.ntmps110
  go_wp2
  go_ret
  exact ⟨zae E.out.symm,hb0⟩
 obtain ⟨b,o,rfl,hbl,hcell⟩:=hcW hpos
 clear hcW hpos
 go_enter Tryz.func110,Tryz.ntmps110
 go_wp2
 go_loop [3] (fun i => ∃ k:Nat,k ≤ ws.length ∧ i = .int .i64 k ∧ Hid (∀ j (h:j < ws.length),j < k → zao ws[j] = true)) (fun i => ws.length - (intOf i).toNat)
 case atStart => exact ⟨0,by omega,rfl,fun j h a => absurd a (by omega)⟩
 case round =>
  obtain ⟨k,hk,rfl,H⟩:=hrel
  by_cases hlt:k < ws.length
  ·have hck:=(hb0.cell (p:=⟨b,o + k,none⟩) hbl).trans (hcell k hlt)
   clear hcell hcP
   by_cases q:zao ws[k] = true
   ·go_wp2_with (go_at_call 116; refine (zbf _ _).mono ?_; rintro e w' ⟨rfl,rfl⟩)
    go_round
    case rel =>
     refine ⟨k + 1,by omega,by go_num,fun j h a => ?_⟩
     by_cases e:j = k
     ·subst e; exact q
     ·exact H.out j h (by omega)
    case measure => simp [intOf]; omega
   ·have q':zao ws[k] = false:=by simpa using q
    have E:=zaa (yavl (ps:=ps) hlt q')
    go_wp2_with (go_at_call 116; refine (zbf _ _).mono ?_; rintro e w' ⟨rfl,rfl⟩)
    go_ret
    exact ⟨zae E.out.symm,hb0⟩
  ·have HW:=zaa (fun j (h:j < ws.length) => H.out j h (by omega))
   clear H hcell
   go_wp2
   go_loop [4] (fun i => ∃ k:Nat,k ≤ ps.length ∧ i = .int .i64 k ∧ Hid (∀ j (h:j < ps.length),j < k → zbj ps[j].at_ = true ∧ zao ps[j].val = true)) (fun i => ps.length - (intOf i).toNat)
   case atStart => exact ⟨0,by omega,rfl,fun j h a => absurd a (by omega)⟩
   case round =>
    obtain ⟨m,hm,rfl,H⟩:=hrel
    by_cases hlt2:m < ps.length
    ·obtain ⟨b2,o2,rfl,hbl2,hcell2⟩:=hcP (by omega)
     obtain ⟨d0,d1,_⟩:=hcell2 m hlt2
     have e0:=(hb0.cell (p:=⟨b2,o2 + m * 3,none⟩) hbl2).trans d0
     have e1:=(hb0.cell (p:=⟨b2,o2 + m * 3 + 1,none⟩) hbl2).trans d1
     clear d0 d1 hcell2 hcP
     by_cases q:zbj ps[m].at_ = true
     ·by_cases q2:zao ps[m].val = true
      ·go_wp2_with (first | (go_at_call 61; refine (zgg _ _).mono ?_; rintro e w' ⟨rfl,rfl⟩) | (go_at_call 116; refine (zbf _ _).mono ?_; rintro e w' ⟨rfl,rfl⟩))
       go_round
       case rel =>
        refine ⟨m + 1,by omega,by go_num,fun j h a => ?_⟩
        by_cases e:j = m
        ·subst e; exact ⟨q,q2⟩
        ·exact H.out j h (by omega)
       case measure => simp [intOf]; omega
      ·have q2':zao ps[m].val = false:=by simpa using q2
       have E:=zaa (yaug (ws:=ws) hlt2 q2')
       go_wp2_with (first | (go_at_call 61; refine (zgg _ _).mono ?_; rintro e w' ⟨rfl,rfl⟩) | (go_at_call 116; refine (zbf _ _).mono ?_; rintro e w' ⟨rfl,rfl⟩))
       go_ret
       exact ⟨zae E.out.symm,hb0⟩
     ·have q':zbj ps[m].at_ = false:=by simpa using q
      have E:=zaa (yatz (ws:=ws) hlt2 q')
      go_wp2_with (first | (go_at_call 61; refine (zgg _ _).mono ?_; rintro e w' ⟨rfl,rfl⟩) | (go_at_call 116; refine (zbf _ _).mono ?_; rintro e w' ⟨rfl,rfl⟩))
      go_ret
      exact ⟨zae E.out.symm,hb0⟩
    ·have E:=zaa (yahv C1.out (by omega) HW.out (fun j h => H.out j h (by omega)))
     go_wp2
     go_ret
     exact ⟨zae E.out.symm,hb0⟩
def zbp (ws:List Int) (ps:List Se):Bool:=decide (ws.length = 32 ∧ ps.length ≤ 400 ∧ (∀ k (h:k < ws.length),zao ws[k] = true) ∧ ∀ k (h:k < ps.length),zlk ps[k].at_ = true ∧ zao ps[k].val = true)
theorem yaai {ws:List Int} {ps:List Se} (h1:ws.length = 32) (h2:ps.length ≤ 400) (h3:∀ k (h:k < ws.length),zao ws[k] = true) (h4:∀ k (h:k < ps.length),zlk ps[k].at_ = true ∧ zao ps[k].val = true):zbp ws ps = true:=decide_eq_true ⟨h1,h2,h3,h4⟩
theorem zbs {ws:List Int} {ps:List Se} (h:zbp ws ps = true):ws.length = 32 ∧ ps.length ≤ 400:=⟨(of_decide_eq_true h).1,(of_decide_eq_true h).2.1⟩
theorem yahs {ws:List Int} {ps:List Se} (h:zbp ws ps = true) (k:Nat) (hk:k < ws.length):zao ws[k] = true:=(of_decide_eq_true h).2.2.1 k hk
theorem zmc {ws:List Int} {ps:List Se} (h:zbp ws ps = true) (k:Nat) (hk:k < ps.length):zlk ps[k].at_ = true ∧ zao ps[k].val = true:=(of_decide_eq_true h).2.2.2 k hk
theorem zzj {ws:List Int} {ps:List Se} (h:¬ ws.length = 32):zbp ws ps = false:=decide_eq_false (fun x => h x.1)
theorem zym {ws:List Int} {ps:List Se} (h:400 < ps.length):zbp ws ps = false:=decide_eq_false (fun x => absurd x.2.1 (by omega))
theorem yard {ws:List Int} {ps:List Se} {k:Nat} (hk:k < ws.length) (h:zao ws[k] = false):zbp ws ps = false:=decide_eq_false (fun x => by have:=x.2.2.1 k hk; rw [h] at this; cases this)
theorem yarf {ws:List Int} {ps:List Se} {k:Nat} (hk:k < ps.length) (h:zlk ps[k].at_ = false):zbp ws ps = false:=decide_eq_false (fun x => by have:=(x.2.2.2 k hk).1; rw [h] at this; cases this)
theorem yaqm {ws:List Int} {ps:List Se} {k:Nat} (hk:k < ps.length) (h:zao ps[k].val = false):zbp ws ps = false:=decide_eq_false (fun x => by have:=(x.2.2.2 k hk).2; rw [h] at this; cases this)
set_option maxHeartbeats 4000000 in
theorem zuv (v:Value) (ws:List Int) (ps:List Se) (w:World) (h:RdBlk w v ws ps) (hw:ws.length ≤ 1048576) (hp:ps.length ≤ 1048576) :
  Calls Tryz.prog 115 #[v] w fun e w' => e = .returned (.bool (zbp ws ps)) ∧ Below w.heap.size w w':=by
 obtain ⟨vW,vP,rfl,h1,h2⟩:=h
 obtain ⟨aW,cW,rfl,_,hcW⟩:=h1.shape
 obtain ⟨aP,cP,rfl,_,hcP⟩:=h2.shape
 clear h1 h2
 have hb0:Below w.heap.size w (w.alloc (.cells #[.slice aW ws.length cW,.slice aP ps.length cP] 43)):=(Below.refl _ _).alloc (Nat.le_refl _) _
 by_cases c1:ws.length = 32
 case neg =>
  have E:=zaa (zzj (ps:=ps) c1)
  have c1':((ws.length:Int) != 32) = true:=by simp; omega
  clear c1
  go_enter Tryz.func115,Tryz.ntmps115
  go_wp2
  go_ret
  exact ⟨zae E.out.symm,hb0⟩
 have c1n:((ws.length:Int) != 32) = false:=by simp; omega
 have hpos:0 < ws.length:=by omega
 have C1:=zaa c1
 clear c1
 by_cases c2:400 < ps.length
 ·have E:=zaa (zym (ws:=ws) c2)
  go_enter Tryz.func115,Tryz.ntmps115
  go_wp2
  go_ret
  exact ⟨zae E.out.symm,hb0⟩
 obtain ⟨b,o,rfl,hbl,hcell⟩:=hcW hpos
 clear hcW hpos
 go_enter Tryz.func115,Tryz.ntmps115
 go_wp2
 go_loop [3] (fun i => ∃ k:Nat,k ≤ ws.length ∧ i = .int .i64 k ∧ Hid (∀ j (h:j < ws.length),j < k → zao ws[j] = true)) (fun i => ws.length - (intOf i).toNat)
 case atStart => exact ⟨0,by omega,rfl,fun j h a => absurd a (by omega)⟩
 case round =>
  obtain ⟨k,hk,rfl,H⟩:=hrel
  by_cases hlt:k < ws.length
  ·have hck:=(hb0.cell (p:=⟨b,o + k,none⟩) hbl).trans (hcell k hlt)
   clear hcell hcP
   by_cases q:zao ws[k] = true
   ·go_wp2_with (go_at_call 116; refine (zbf _ _).mono ?_; rintro e w' ⟨rfl,rfl⟩)
    go_round
    case rel =>
     refine ⟨k + 1,by omega,by go_num,fun j h a => ?_⟩
     by_cases e:j = k
     ·subst e; exact q
     ·exact H.out j h (by omega)
    case measure => simp [intOf]; omega
   ·have q':zao ws[k] = false:=by simpa using q
    have E:=zaa (yard (ps:=ps) hlt q')
    go_wp2_with (go_at_call 116; refine (zbf _ _).mono ?_; rintro e w' ⟨rfl,rfl⟩)
    go_ret
    exact ⟨zae E.out.symm,hb0⟩
  ·have HW:=zaa (fun j (h:j < ws.length) => H.out j h (by omega))
   clear H hcell
   go_wp2
   go_loop [4] (fun i => ∃ k:Nat,k ≤ ps.length ∧ i = .int .i64 k ∧ Hid (∀ j (h:j < ps.length),j < k → zlk ps[j].at_ = true ∧ zao ps[j].val = true)) (fun i => ps.length - (intOf i).toNat)
   case atStart => exact ⟨0,by omega,rfl,fun j h a => absurd a (by omega)⟩
   case round =>
    obtain ⟨m,hm,rfl,H⟩:=hrel
    by_cases hlt2:m < ps.length
    ·obtain ⟨b2,o2,rfl,hbl2,hcell2⟩:=hcP (by omega)
     obtain ⟨d0,d1⟩:=hcell2 m hlt2
     have e0:=(hb0.cell (p:=⟨b2,o2 + m * 2,none⟩) hbl2).trans d0
     have e1:=(hb0.cell (p:=⟨b2,o2 + m * 2 + 1,none⟩) hbl2).trans d1
     clear d0 d1 hcell2 hcP
     by_cases q:zlk ps[m].at_ = true
     ·by_cases q2:zao ps[m].val = true
      ·go_wp2_with (first | (go_at_call 61; refine (zhq _ _).mono ?_; rintro e w' ⟨rfl,rfl⟩) | (go_at_call 116; refine (zbf _ _).mono ?_; rintro e w' ⟨rfl,rfl⟩))
       go_round
       case rel =>
        refine ⟨m + 1,by omega,by go_num,fun j h a => ?_⟩
        by_cases e:j = m
        ·subst e; exact ⟨q,q2⟩
        ·exact H.out j h (by omega)
       case measure => simp [intOf]; omega
      ·have q2':zao ps[m].val = false:=by simpa using q2
       have E:=zaa (yaqm (ws:=ws) hlt2 q2')
       go_wp2_with (first | (go_at_call 61; refine (zhq _ _).mono ?_; rintro e w' ⟨rfl,rfl⟩) | (go_at_call 116; refine (zbf _ _).mono ?_; rintro e w' ⟨rfl,rfl⟩))
       go_ret
       exact ⟨zae E.out.symm,hb0⟩
     ·have q':zlk ps[m].at_ = false:=by simpa using q
      have E:=zaa (yarf (ws:=ws) hlt2 q')
      go_wp2_with (first | (go_at_call 61; refine (zhq _ _).mono ?_; rintro e w' ⟨rfl,rfl⟩) | (go_at_call 116; refine (zbf _ _).mono ?_; rintro e w' ⟨rfl,rfl⟩))
      go_ret
      exact ⟨zae E.out.symm,hb0⟩
    ·have E:=zaa (yaai C1.out (by omega) HW.out (fun j h => H.out j h (by omega)))
     go_wp2
     go_ret
     exact ⟨zae E.out.symm,hb0⟩
end Go.Proofs.YtlkmnpanddchdaaGreatDoor
