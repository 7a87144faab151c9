/- Several texts laid together: Ev, PmOKI, PmLoad, Small, PmOwn, PmCopy. -/
import Derived.Test.YtlkmnpanddchdaaGreatDoorZAD
import Derived.Test.YtlkmnpanddchdaaGreatDoorZAC
import Derived.Deep.RegionLaw
namespace Go.Proofs.YtlkmnpanddchdaaGreatDoor
open Go.RowKit
def zvh (n:Int):Bool:=decide (0 ≤ n ∧ n ≤ 400)
theorem yagd {zs:List Int} (h:∀ k (h:k < zs.length),zvh zs[k] = true):zaw zs = true:=zxq (fun k hk => of_decide_eq_true (h k hk))
theorem yabh {zs:List Int} {k:Nat} (hk:k < zs.length) (h:zvh zs[k] = false):zaw zs = false:=zse hk (of_decide_eq_false h)
def zpo (zs:List Int):Bool:=decide (∀ k (h:k < zs.length),zbj zs[k] = true)
theorem yafc {zs:List Int} (h:∀ k (h:k < zs.length),zbj zs[k] = true):zpo zs = true:=decide_eq_true h
theorem yaca {zs:List Int} {k:Nat} (hk:k < zs.length) (h:zbj zs[k] = false):zpo zs = false:=decide_eq_false (fun x => by have:=x k hk; rw [h] at this; cases this)
theorem ztk (n:Int) (w:World):Calls Tryz.prog 123 #[.int .i64 n] w fun e w' => e = .returned (.bool (zvh n)) ∧ w' = w:=by
 by_cases h0:0 ≤ n
 ·by_cases h1:n ≤ 400
  ·have e:zvh n = true:=decide_eq_true ⟨h0,h1⟩
   rw [e]; clear e
   go_enter Tryz.func123,Tryz.ntmps123
   go_wp2
   go_ret
   exact ⟨rfl,rfl⟩
  ·have e:zvh n = false:=decide_eq_false (fun h => h1 h.2)
   rw [e]; clear e
   go_enter Tryz.func123,Tryz.ntmps123
   go_wp2
   go_ret
   exact ⟨rfl,rfl⟩
 ·have e:zvh n = false:=decide_eq_false (fun h => h0 h.1)
  rw [e]; clear e
  go_enter Tryz.func123,Tryz.ntmps123
  go_wp2
  go_ret
  exact ⟨rfl,rfl⟩
set_option maxHeartbeats 2000000 in
theorem zdh (v:Value) (zs:List Int) (w:World) (h:RdI w v zs) (hn:zs.length ≤ 2147483648) :
  Calls Tryz.prog 122 #[v,.func (.func 167) #[] #[]] w fun e w' => e = .returned (.bool (zjc zs)) ∧ w' = w:=by
 obtain ⟨ao,cap,rfl,_,hc⟩:=h.shape
 clear h
 go_enter Tryz.func122,Tryz.ntmps122
 go_wp2
 go_loop [6,9] (fun _ i => ∃ k:Nat,k ≤ zs.length ∧ i = .int .i64 k ∧ Hid (∀ j (h:j < zs.length),j < k → zao zs[j] = true)) (fun _ i => zs.length - (intOf i).toNat)
 case atStart => exact ⟨0,by omega,rfl,fun j h a => absurd a (by omega)⟩
 case round =>
  obtain ⟨k,hk,rfl,H⟩:=hrel
  by_cases hlt:k < zs.length
  ·obtain ⟨b,o,rfl,hbl,hcell⟩:=hc (by omega)
   have hck:=hcell k hlt
   clear hcell hc
   by_cases q:zao zs[k] = true
   ·go_wp2_with (go_at_call 167; refine (zcp _ _).mono ?_; rintro e w' ⟨rfl,rfl⟩)
    go_round
    case rel =>
     refine ⟨k + 1,by omega,by go_num,fun j h a => ?_⟩
     by_cases e:j = k
     ·subst e; exact q
     ·exact H.out j h (by omega)
    case measure => simp [intOf]; omega
   ·have q':zao zs[k] = false:=by simpa using q
    have E:=zaa (yagm hlt q')
    go_wp2_with (go_at_call 167; refine (zcp _ _).mono ?_; rintro e w' ⟨rfl,rfl⟩)
    go_ret
    exact ⟨zae E.out.symm,rfl⟩
  ·have E:=zaa (zxf (fun j h => H.out j h (by omega)))
   clear H
   go_wp2
   go_ret
   exact ⟨zae E.out.symm,rfl⟩
set_option maxHeartbeats 2000000 in
theorem zdy (v:Value) (zs:List Int) (w:World) (h:RdI w v zs) (hn:zs.length ≤ 2147483648) :
  Calls Tryz.prog 122 #[v,.func (.func 123) #[] #[]] w fun e w' => e = .returned (.bool (zaw zs)) ∧ w' = w:=by
 obtain ⟨ao,cap,rfl,_,hc⟩:=h.shape
 clear h
 go_enter Tryz.func122,Tryz.ntmps122
 go_wp2
 go_loop [6,9] (fun _ i => ∃ k:Nat,k ≤ zs.length ∧ i = .int .i64 k ∧ Hid (∀ j (h:j < zs.length),j < k → zvh zs[j] = true)) (fun _ i => zs.length - (intOf i).toNat)
 case atStart => exact ⟨0,by omega,rfl,fun j h a => absurd a (by omega)⟩
 case round =>
  obtain ⟨k,hk,rfl,H⟩:=hrel
  by_cases hlt:k < zs.length
  ·obtain ⟨b,o,rfl,hbl,hcell⟩:=hc (by omega)
   have hck:=hcell k hlt
   clear hcell hc
   by_cases q:zvh zs[k] = true
   ·go_wp2_with (go_at_call 123; refine (ztk _ _).mono ?_; rintro e w' ⟨rfl,rfl⟩)
    go_round
    case rel =>
     refine ⟨k + 1,by omega,by go_num,fun j h a => ?_⟩
     by_cases e:j = k
     ·subst e; exact q
     ·exact H.out j h (by omega)
    case measure => simp [intOf]; omega
   ·have q':zvh zs[k] = false:=by simpa using q
    have E:=zaa (yabh hlt q')
    go_wp2_with (go_at_call 123; refine (ztk _ _).mono ?_; rintro e w' ⟨rfl,rfl⟩)
    go_ret
    exact ⟨zae E.out.symm,rfl⟩
  ·have E:=zaa (yagd (fun j h => H.out j h (by omega)))
   clear H
   go_wp2
   go_ret
   exact ⟨zae E.out.symm,rfl⟩
set_option maxHeartbeats 2000000 in
theorem zji (v:Value) (zs:List Int) (w:World) (h:RdI w v zs) (hn:zs.length ≤ 2147483648) :
  Calls Tryz.prog 122 #[v,.func (.func 181) #[] #[]] w fun e w' => e = .returned (.bool (zpo zs)) ∧ w' = w:=by
 obtain ⟨ao,cap,rfl,_,hc⟩:=h.shape
 clear h
 go_enter Tryz.func122,Tryz.ntmps122
 go_wp2
 go_loop [6,9] (fun _ i => ∃ k:Nat,k ≤ zs.length ∧ i = .int .i64 k ∧ Hid (∀ j (h:j < zs.length),j < k → zbj zs[j] = true)) (fun _ i => zs.length - (intOf i).toNat)
 case atStart => exact ⟨0,by omega,rfl,fun j h a => absurd a (by omega)⟩
 case round =>
  obtain ⟨k,hk,rfl,H⟩:=hrel
  by_cases hlt:k < zs.length
  ·obtain ⟨b,o,rfl,hbl,hcell⟩:=hc (by omega)
   have hck:=hcell k hlt
   clear hcell hc
   by_cases q:zbj zs[k] = true
   ·go_wp2_with (go_at_call 181; refine (zcu _ _).mono ?_; rintro e w' ⟨rfl,rfl⟩)
    go_round
    case rel =>
     refine ⟨k + 1,by omega,by go_num,fun j h a => ?_⟩
     by_cases e:j = k
     ·subst e; exact q
     ·exact H.out j h (by omega)
    case measure => simp [intOf]; omega
   ·have q':zbj zs[k] = false:=by simpa using q
    have E:=zaa (yaca hlt q')
    go_wp2_with (go_at_call 181; refine (zcu _ _).mono ?_; rintro e w' ⟨rfl,rfl⟩)
    go_ret
    exact ⟨zae E.out.symm,rfl⟩
  ·have E:=zaa (yafc (fun j h => H.out j h (by omega)))
   clear H
   go_wp2
   go_ret
   exact ⟨zae E.out.symm,rfl⟩
def stB (s:St):Bool:=zbj s.at_ && zao s.val
theorem yaqd {s:St} (h:stB s = true):zbj s.at_ = true ∧ zao s.val = true:=by unfold stB at h; simpa using h
theorem yaiu {s:St} {p:Prop} (h:stB s = false) (h1:zbj s.at_ = false → p) (h2:zao s.val = false → p):p:=by
 unfold stB at h
 rw [Bool.and_eq_false_iff] at h
 exact h.elim h1 h2
def stsB (ps:List St):Bool:=decide (∀ k (h:k < ps.length),stB ps[k] = true)
theorem yajq {ps:List St} (h:stsB ps = true):∀ k (h:k < ps.length),stB ps[k] = true:=of_decide_eq_true h
theorem yakf {ps:List St} (h:∀ k (h:k < ps.length),stB ps[k] = true):stsB ps = true:=decide_eq_true h
theorem yanm {ps:List St} {k:Nat} (hk:k < ps.length) (h:stB ps[k] = false):stsB ps = false:=decide_eq_false (fun x => by have:=x k hk; rw [h] at this; cases this)
theorem yatb {ps:List St} (h:stsB ps = false):∃ k,∃ h:k < ps.length,stB ps[k] = false:=by
 apply Classical.byContradiction
 intro hn
 have:stsB ps = true:=yakf (fun k hk => by
  cases e:stB ps[k] with
  | true => rfl
  | false => exact absurd ⟨k,hk,e⟩ hn)
 rw [h] at this
 cases this
set_option maxHeartbeats 1000000 in
theorem zql (s:St) (w:World):Calls Tryz.prog 169 #[.agg #[.int .i64 s.at_,.int .i64 s.val,.bool s.fl]] w fun e w' => e = .returned (.bool (stB s)) ∧ Below w.heap.size w w':=by
 have hb0:Below w.heap.size w (w.alloc (.cells #[.int .i64 s.at_,.int .i64 s.val,.bool s.fl] 153)):=(Below.refl _ _).alloc (Nat.le_refl _) _
 by_cases q:zbj s.at_ = true
 ·have E:=zaa (show stB s = zao s.val by unfold stB; rw [q]; rfl)
  have Q:=zaa q
  clear q
  go_enter Tryz.func169,Tryz.ntmps169
  go_wp2_with (first | (go_at_call 181; refine (zcu _ _).mono ?_; rw [Q.out]; rintro e w' ⟨rfl,rfl⟩) | (go_at_call 167; refine (zcp _ _).mono ?_; rintro e w' ⟨rfl,rfl⟩))
  go_ret
  exact ⟨zae E.out.symm,hb0⟩
 ·have q':zbj s.at_ = false:=by simpa using q
  have E:=zaa (show stB s = false by unfold stB; rw [q']; rfl)
  have Q:=zaa q'
  clear q q'
  go_enter Tryz.func169,Tryz.ntmps169
  go_wp2_with (go_at_call 181; refine (zcu _ _).mono ?_; rw [Q.out]; rintro e w' ⟨rfl,rfl⟩)
  go_ret
  exact ⟨zae E.out.symm,hb0⟩
set_option maxHeartbeats 4000000 in
theorem zjg (v:Value) (ps:List St) (w:World) (h:RdS w v ps) (hn:ps.length ≤ 1048576) :
  Calls Tryz.prog 168 #[v,.func (.func 169) #[] #[]] w fun e w' => e = .returned (.bool (stsB ps)) ∧ Below w.heap.size w w':=by
 obtain ⟨aP,cP,rfl,_,hcP⟩:=h.shape
 clear h
 go_enter Tryz.func168,Tryz.ntmps168
 go_wp2
 go_loopw [6,9] (fun _ i wr => ∃ k:Nat,k ≤ ps.length ∧ i = .int .i64 k ∧ Hid (∀ j (h:j < ps.length),j < k → stB ps[j] = true) ∧ Below w.heap.size w wr) (fun _ i _ => ps.length - (intOf i).toNat)
 case atStart => exact ⟨0,by omega,rfl,fun j h a => absurd a (by omega),Below.refl _ _⟩
 case round =>
  obtain ⟨m,hm,rfl,H,hbw⟩:=hrel
  have hz:=hbw.size
  by_cases hlt2:m < ps.length
  ·obtain ⟨b2,o2,rfl,hbl2,hcell2⟩:=hcP (by omega)
   obtain ⟨d0,d1,d2⟩:=hcell2 m hlt2
   have e0:=(hbw.cell (p:=⟨b2,o2 + m * 3,none⟩) hbl2).trans d0
   have e1:=(hbw.cell (p:=⟨b2,o2 + m * 3 + 1,none⟩) hbl2).trans d1
   have e2:=(hbw.cell (p:=⟨b2,o2 + m * 3 + 2,none⟩) hbl2).trans d2
   have hb1:=zaa (hbw.alloc hz (.cells #[.int .i64 ps[m].at_,.int .i64 ps[m].val,.bool ps[m].fl] 153))
   clear d0 d1 d2 hcell2 hcP
   by_cases q:stB ps[m] = true
   ·have Q:=zaa q
    clear q
    go_wp2_with (go_at_call 169; refine (zql ps[m] _).mono ?_; rw [Q.out]; rintro e w' ⟨rfl,hw'⟩)
    have hw2:=hb1.out.trans (hw'.mono (by simp; omega))
    clear hb1 hw'
    go_roundw
    case rel =>
     refine ⟨m + 1,by omega,by go_num,fun j h a => ?_,hw2⟩
     by_cases e:j = m
     ·subst e; exact Q.out
     ·exact H.out j h (by omega)
    case measure => simp [intOf]; omega
   ·have Q:=zaa (show stB ps[m] = false by simpa using q)
    have E:=zaa (yanm hlt2 Q.out)
    clear q
    go_wp2_with (go_at_call 169; refine (zql ps[m] _).mono ?_; rw [Q.out]; rintro e w' ⟨rfl,hw'⟩)
    have hw2:=hb1.out.trans (hw'.mono (by simp; omega))
    go_ret
    exact ⟨zae E.out.symm,hw2⟩
  ·have E:=zaa (yakf (fun j h => H.out j h (by omega)))
   go_wp2
   go_ret
   exact ⟨zae E.out.symm,hbw⟩
set_option maxHeartbeats 4000000 in
theorem zaz (v:Value) (ws:List Int) (ps:List St) (w:World) (h:RdPm w v ws ps) (hw:ws.length ≤ 1048576) (hp:ps.length ≤ 1048576) :
  Calls Tryz.prog 135 #[v] w fun e w' => e = .returned (.bool (pmB ws ps)) ∧ Below w.heap.size w w':=by
 obtain ⟨vW,vP,rfl,h1,h2⟩:=h
 obtain ⟨aW,cW,rfl,_,hcW⟩:=h1.shape
 obtain ⟨aP,cP,rfl,_,hcP⟩:=h2.shape
 have H1:=zaa h1
 have H2:=zaa h2
 clear h1 h2 hcW hcP
 have hb0:Below w.heap.size w (w.alloc (.cells #[.slice aW ws.length cW,.slice aP ps.length cP] 40)):=(Below.refl _ _).alloc (Nat.le_refl _) _
 have HB:=zaa hb0
 by_cases c1:ws.length = 336
 case neg =>
  have E:=zaa (yadq (ps:=ps) c1)
  have c1':((ws.length:Int) == 336) = false:=by rw [beq_eq_false_iff_ne]; omega
  clear c1
  go_enter Tryz.func135,Tryz.ntmps135
  go_wp2
  go_ret
  exact ⟨zae E.out.symm,HB.out⟩
 have c1n:((ws.length:Int) == 336) = true:=by simp; omega
 have C1:=zaa c1
 clear c1
 by_cases c2:400 < ps.length
 ·have E:=zaa (yadn (ws:=ws) c2)
  have c2':decide ((ps.length:Int) ≤ 400) = false:=by simp; omega
  go_enter Tryz.func135,Tryz.ntmps135
  go_wp2
  go_ret
  exact ⟨zae E.out.symm,HB.out⟩
 by_cases c3:zjc ws = true
 case neg =>
  have c3':zjc ws = false:=by simpa using c3
  obtain ⟨k,hk,hkf⟩:=zyv c3'
  have E:=zaa (yavl (ps:=ps) hk hkf)
  have W0:=zaa c3'
  clear c3 c3' hkf hk
  go_enter Tryz.func135,Tryz.ntmps135
  go_wp2_with (go_at_call 122; refine (zdh _ ws _ (Rd.below H1.out HB.out) (by omega)).mono ?_; rw [W0.out]; rintro e w' ⟨rfl,rfl⟩)
  go_ret
  exact ⟨zae E.out.symm,HB.out⟩
 have HW:=zaa (zou c3)
 have W1:=zaa c3
 clear c3
 cases c4:stsB ps with
 | true =>
  have E:=zaa (yahv C1.out (by omega) HW.out (fun j h => yaqd (yajq c4 j h)))
  have W2:=zaa c4
  clear c4
  go_enter Tryz.func135,Tryz.ntmps135
  go_wp2_with (first | (go_at_call 122; refine (zdh _ ws _ (Rd.below H1.out HB.out) (by omega)).mono ?_; rw [W1.out]; rintro e w' ⟨rfl,rfl⟩) | (go_at_call 168; refine (zjg _ ps _ (Rd.below H2.out HB.out) (by omega)).mono ?_; rw [W2.out]; rintro e w' ⟨rfl,hw'⟩))
  go_ret
  exact ⟨zae E.out.symm,HB.out.trans (hw'.mono (by simp))⟩
 | false =>
  obtain ⟨k,hk,hkf⟩:=yatb c4
  have E:=zaa (show pmB ws ps = false from yaiu hkf (yatz (ws:=ws) hk) (yaug (ws:=ws) hk))
  have W2:=zaa c4
  clear c4 hk hkf
  go_enter Tryz.func135,Tryz.ntmps135
  go_wp2_with (first | (go_at_call 122; refine (zdh _ ws _ (Rd.below H1.out HB.out) (by omega)).mono ?_; rw [W1.out]; rintro e w' ⟨rfl,rfl⟩) | (go_at_call 168; refine (zjg _ ps _ (Rd.below H2.out HB.out) (by omega)).mono ?_; rw [W2.out]; rintro e w' ⟨rfl,hw'⟩))
  go_ret
  exact ⟨zae E.out.symm,HB.out.trans (hw'.mono (by simp))⟩
def zka (ws:List Int) (ps:List St) (at_:Int):Int:=if pmB ws ps = false then 1 else if zbj at_ = false then 14 else 0
theorem yadw {ws:List Int} {ps:List St} {at_:Int} (h:pmB ws ps = false):zka ws ps at_ = 1:=by unfold zka; rw [if_pos h]
theorem zte {ws:List Int} {ps:List St} {at_:Int} (h:pmB ws ps = true) (h2:zbj at_ = false):zka ws ps at_ = 14:=by unfold zka; rw [if_neg (by rw [h]; simp),if_pos h2]
theorem zvk {ws:List Int} {ps:List St} {at_:Int} (h:pmB ws ps = true) (h2:zbj at_ = true):zka ws ps at_ = 0:=by unfold zka; rw [if_neg (by rw [h]; simp),if_neg (by rw [h2]; simp)]
set_option maxHeartbeats 1000000 in
theorem zcw (v:Value) (ws:List Int) (ps:List St) (at_:Int) (w:World) (h:RdPm w v ws ps) (hw:ws.length ≤ 1048576) (hp:ps.length ≤ 1048576) :
  Calls Tryz.prog 186 #[v,.int .i64 at_] w fun e w' => e = .returned (.int .i64 (zka ws ps at_)) ∧ Below w.heap.size w w':=by
 have HR:=zaa h
 obtain ⟨vW,vP,rfl,h1,h2⟩:=h
 obtain ⟨aW,cW,rfl,_⟩:=h1.shape
 obtain ⟨aP,cP,rfl,_⟩:=h2.shape
 clear h1 h2
 have hb0:Below w.heap.size w (w.alloc (.cells #[.slice aW ws.length cW,.slice aP ps.length cP] 40)):=(Below.refl _ _).alloc (Nat.le_refl _) _
 by_cases c1:pmB ws ps = true
 ·by_cases c2:zbj at_ = true
  ·rw [zvk c1 c2]
   go_enter Tryz.func186,Tryz.ntmps186
   go_wp2_with (first | (go_at_call 135; refine (zaz _ ws ps _ (HR.out.below hb0) hw hp).mono ?_; rintro e w1 ⟨rfl,hb1⟩) | (go_at_call 181; refine (zcu _ _).mono ?_; rintro e w2 ⟨rfl,rfl⟩))
   go_ret
   exact ⟨rfl,zab hb0 hb1 (by simp)⟩
  ·have c2':zbj at_ = false:=by simpa using c2
   rw [zte c1 c2']
   clear c2
   go_enter Tryz.func186,Tryz.ntmps186
   go_wp2_with (first | (go_at_call 135; refine (zaz _ ws ps _ (HR.out.below hb0) hw hp).mono ?_; rintro e w1 ⟨rfl,hb1⟩) | (go_at_call 181; refine (zcu _ _).mono ?_; rintro e w2 ⟨rfl,rfl⟩))
   go_ret
   exact ⟨rfl,zab hb0 hb1 (by simp)⟩
 ·have c1':pmB ws ps = false:=by simpa using c1
  rw [yadw c1']
  clear c1
  go_enter Tryz.func186,Tryz.ntmps186
  go_wp2_with (first | (go_at_call 135; refine (zaz _ ws ps _ (HR.out.below hb0) hw hp).mono ?_; rintro e w1 ⟨rfl,hb1⟩) | (go_at_call 181; refine (zcu _ _).mono ?_; rintro e w2 ⟨rfl,rfl⟩))
  go_ret
  exact ⟨rfl,zab hb0 hb1 (by simp)⟩
def zja (at_ d:Int) (ps:List St):Int:=ps.foldl (fun acc p => if p.at_ = at_ then p.val else acc) d
theorem zlr {at_ d:Int}:∀ {ps:List St},(∀ p ∈ ps,¬ p.at_ = at_) → zja at_ d ps = d
 | [],_ => rfl
 | p :: ps,h => by
  show zja at_ (if p.at_ = at_ then p.val else d) ps = d
  rw [if_neg (h p (by simp))]
  exact zlr (fun q hq => h q (by simp [hq]))
theorem zyc (at_ d:Int) (ps qs:List St):zja at_ d (ps ++ qs) = zja at_ (zja at_ d ps) qs:=by simp [zja]
theorem yahr {at_ d:Int} {ps:List St} {k:Nat} (hk:k < ps.length) (h:ps[k].at_ = at_) (ha:∀ j (hj:j < ps.length),k < j → ¬ ps[j].at_ = at_):zja at_ d ps = ps[k].val:=by
 have e:ps = ps.take k ++ (ps[k] :: ps.drop (k + 1)):=by rw [← List.drop_eq_getElem_cons hk,List.take_append_drop]
 conv => lhs; rw [e]
 rw [zyc]
 show zja at_ (if ps[k].at_ = at_ then ps[k].val else _) (ps.drop (k + 1)) = _
 rw [if_pos h]
 apply zlr
 intro p hp
 obtain ⟨i,hi,rfl⟩:=List.getElem_of_mem hp
 rw [List.getElem_drop]
 exact ha _ _ (by omega)
set_option maxHeartbeats 2000000 in
theorem zjz (v:Value) (ws:List Int) (ps:List St) (at_:Nat) (w:World) (h:RdPm w v ws ps) (hw:ws.length ≤ 1048576) (hp:ps.length ≤ 1048576) (ha:at_ < ws.length) :
  Calls Tryz.prog 118 #[v,.int .i64 (at_:Int)] w fun e w' => e = .returned (.int .i64 (zja (at_:Int) ws[at_] ps)) ∧ Below w.heap.size w w':=by
 obtain ⟨vW,vP,rfl,h1,h2⟩:=h
 obtain ⟨aW,cW,rfl,_,hcW⟩:=h1.shape
 obtain ⟨aP,cP,rfl,_,hcP⟩:=h2.shape
 clear h1 h2
 obtain ⟨bW,oW,rfl,hbW,hcellW⟩:=hcW (by omega)
 have hb0:Below w.heap.size w (w.alloc (.cells #[.slice (some ⟨bW,oW,none⟩) ws.length cW,.slice aP ps.length cP] 40)):=(Below.refl _ _).alloc (Nat.le_refl _) _
 have hcw:=(hb0.cell (p:=⟨bW,oW + at_,none⟩) hbW).trans (hcellW at_ ha)
 clear hcW hcellW
 go_enter Tryz.func118,Tryz.ntmps118
 go_wp2
 go_loop [5] (fun i => ∃ k:Nat,k ≤ ps.length ∧ i = .int .i64 ((k:Int) - 1) ∧ Hid (∀ j (h:j < ps.length),k ≤ j → ¬ ps[j].at_ = (at_:Int))) (fun i => (intOf i + 1).toNat)
 case atStart => exact ⟨ps.length,Nat.le_refl _,rfl,fun j h a => absurd h (by omega)⟩
 case round =>
  obtain ⟨k,hk,rfl,H⟩:=hrel
  cases k with
  | zero =>
   have E:=zaa (zlr (d:=ws[at_]) (fun p hp => by obtain ⟨i,hi,rfl⟩:=List.getElem_of_mem hp; exact H.out i hi (by omega)))
   clear H hcP
   go_wp2
   go_ret
   exact ⟨zid E.out.symm,hb0⟩
  | succ m =>
   have em:(((m + 1:Nat):Int) - 1) = (m:Int):=by omega
   rw [em]
   clear em
   obtain ⟨b,o,rfl,hbl,hcell⟩:=hcP (by omega)
   obtain ⟨d0,d1,_⟩:=hcell m (by omega)
   have e0:=(hb0.cell (p:=⟨b,o + m * 3,none⟩) hbl).trans d0
   have e1:=(hb0.cell (p:=⟨b,o + m * 3 + 1,none⟩) hbl).trans d1
   clear d0 d1 hcell hcP
   have hm:m < ps.length:=by omega
   by_cases c:ps[m].at_ = (at_:Int)
   ·have c':(ps[m].at_ == (at_:Int)) = true:=by simpa using c
    have E:=zaa (yahr (d:=ws[at_]) hm c (fun j hj hlt => H.out j hj (by omega)))
    clear H c
    go_wp2
    go_ret
    exact ⟨zid E.out.symm,hb0⟩
   ·have c':(ps[m].at_ == (at_:Int)) = false:=by simpa using c
    have C:=zaa c
    clear c
    go_wp2
    go_round
    case rel =>
     refine ⟨m,by omega,by go_num,fun j hj hle => ?_⟩
     by_cases e:j = m
     ·subst e; exact C.out
     ·exact H.out j hj (by omega)
    case measure => simp [intOf] <;> omega
theorem zrz (ws:List Int) (ps:List St) (at_:Int):(zka ws ps at_ = 1 ∨ zka ws ps at_ = 14) ∨ (zka ws ps at_ = 0 ∧ pmB ws ps = true ∧ ∃ k:Nat,at_ = (k:Int) ∧ k < 336 ∧ k < ws.length):=by
 by_cases c1:pmB ws ps = true
 ·by_cases c2:zbj at_ = true
  ·have:=zfv c2
   have hl:=(zbz c1).1
   exact .inr ⟨zvk c1 c2,c1,at_.toNat,by omega,by omega,by omega⟩
  ·exact .inl (.inr (zte c1 (by simpa using c2)))
 ·exact .inl (.inl (yadw (by simpa using c1)))
theorem zvn (ps:List St):∀ u ∈ sts ps,u.oneCell' = true:=by
 intro u hu
 simp only [sts,List.mem_flatMap,St.cells] at hu
 obtain ⟨s,_,hs⟩:=hu
 simp at hs
 rcases hs with rfl | rfl | rfl <;> rfl
theorem RowPm.setCell {w:World} {lo hi:Nat} {v:Value} {ws:List Int} {ps:List St} (h:RowPm w lo hi v ws ps) {a:Addr} (ha:a.block < lo) (u:Value):RowPm (w.setCell a u) lo hi v ws ps:=by
 obtain ⟨vW,vP,rfl,h1,h2⟩:=h
 exact ⟨vW,vP,rfl,h1.same (fun b hb _ => Below.heap_setCell _ _ _ _ (by omega)),h2.same (fun b hb _ => Below.heap_setCell _ _ _ _ (by omega))⟩
theorem RowPm.alloc {w:World} {lo hi:Nat} {v:Value} {ws:List Int} {ps:List St} (h:RowPm w lo hi v ws ps) (hi1:hi ≤ w.heap.size) (o:Obj):RowPm (w.alloc o) lo hi v ws ps :=
 h.below ((Below.refl _ _).alloc (Nat.le_refl _) o) hi1
theorem RowPm.zero (w:World) (lo hi:Nat):RowPm w lo hi (.agg #[.slice none 0 0,.slice none 0 0]) [] []:=⟨_,_,rfl,Row.nil _ _ _ _ _,Row.nil _ _ _ _ _⟩
theorem zoo (ps:List St) (s:St):sts (ps ++ [s]) = sts ps ++ s.cells:=by simp [sts]
theorem RdS.form {w:World} {v:Value} {ps:List St} (h:RdS w v ps) {n:Nat} (hn:ps.length = n):∃ ao cap,v = .slice ao n cap:=by
 obtain ⟨ao,cap,e,_⟩:=h.shape
 exact ⟨ao,cap,by rw [← hn]; exact e⟩
theorem zsk {ws:List Int} {ps:List St} (h:pmB ws ps = true):∀ j (hj:j < ps.length),0 ≤ ps[j].at_ ∧ ps[j].at_ < 336:=fun j hj => zfv (zhs h j hj).1
theorem yakv {ws:List Int} {ps:List St} (h:pmB ws ps = true):∀ j (hj:j < ps.length),0 ≤ ps[j].at_ ∧ ps[j].at_ < ws.length:=fun j hj => by
 have h1:=zsk h j hj
 have h2:=(zbz h).1
 omega
theorem yaql (w1:World) (a x:Int) (f:Bool):Rd (w1.alloc (.cells #[.int .i64 a,.int .i64 x,.bool f] 153)) 3 (.slice (some ⟨w1.heap.size,0,none⟩) 1 1) 1 (St.cells ⟨a,x,f⟩):=by
 refine ⟨rfl,_,_,rfl,⟨Nat.le_refl _,fun e => by cases e⟩,fun _ => ⟨w1.heap.size,0,rfl,by simp,fun j hj => ?_⟩⟩
 obtain ⟨e0,e1,e2⟩:=zas (zag (w:=w1) (o:=.cells #[.int .i64 a,.int .i64 x,.bool f] 153) rfl)
 rw [Nat.zero_add]
 rcases (show j = 0 ∨ j = 1 ∨ j = 2 from by omega) with rfl | rfl | rfl
 ·exact e0
 ·exact e1
 ·exact e2
theorem zxs (p:St):∀ u ∈ St.cells p,u.oneCell' = true:=by
 intro u hu
 simp [St.cells] at hu
 rcases hu with rfl | rfl | rfl <;> rfl
set_option maxHeartbeats 2000000 in
theorem zly (v:Value) (ws:List Int) (ps:List St) (w:World) (h:RdPm w v ws ps) (hw:ws.length ≤ 2147483648) (hp:ps.length ≤ 2147483648) :
  Calls Tryz.prog 71 #[v] w fun e w' => ∃ v',e = .returned v' ∧ RowPm w' w.heap.size w'.heap.size v' ws ps ∧ Below w.heap.size w w':=by
 obtain ⟨vW,vP,rfl,h1,h2⟩:=h
 have H1:=zaa h1
 have H2:=zaa h2
 obtain ⟨aW,cW,rfl,_⟩:=h1.shape
 obtain ⟨aP,cP,rfl,_⟩:=h2.shape
 clear h1 h2
 have hb0:Below w.heap.size w (((w.alloc (.cells #[.slice aW ws.length cW,.slice aP ps.length cP] 40)).alloc (.cells #[.slice none 0 0,.slice none 0 0] 40)).alloc (.cells #[] 3)):=by
  repeat (refine Below.alloc ?_ (by simp <;> omega) _)
  exact Below.refl _ _
 have ho0:(((w.alloc (.cells #[.slice aW ws.length cW,.slice aP ps.length cP] 40)).alloc (.cells #[.slice none 0 0,.slice none 0 0] 40)).alloc (.cells #[] 3)).ownsRow (w.heap.size + 2) 3 1 (.slice (some ⟨w.heap.size + 1 + 1,0,none⟩) 0 0) 0 []:=by
  simpa using World.ownsRow_lit (base:=w.heap.size + 2) (e:=3) (size:=1) ((w.alloc (.cells #[.slice aW ws.length cW,.slice aP ps.length cP] 40)).alloc (.cells #[.slice none 0 0,.slice none 0 0] 40)) #[] 0 (by simp) (by simp) rfl
 have HO:=zaa ho0
 have HB:=zaa hb0
 clear ho0 hb0
 go_enter Tryz.func71,Tryz.ntmps71
 go_wp2_with (at_builtin; refine zak _ rfl (.tmp 3) (.tmp 5) 22 rfl (w.heap.size + 2) 3 (.int .i64 0) 1 8 Tryz.underlying22 zga rfl (by decide) _ 0 [] rfl HO.out _ ws.length (zav ws) rfl (Rd.below H1.out HB.out) (zed ws) (by simp [maxLen]; omega) (by omega) (by simp) ?_)
 intro v1 w1 hown1 hgr1
 have hown1:w1.ownsRow (w.heap.size + 2) 3 1 v1 ws.length (zav ws):=by simpa using hown1
 have R1:=zaa (zai hown1)
 obtain ⟨_,a1,c1,rfl,_⟩:=(zai hown1).rd
 have hz1:w.heap.size + 3 ≤ w1.heap.size:=by have:=hgr1.size; simp at this; omega
 have V0:=(hgr1.block w.heap.size (by simp <;> omega) (by simp [Value.ownBlock] <;> omega)).trans (zal (zal (zag rfl)))
 have V1:=(hgr1.block (w.heap.size + 1) (by simp <;> omega) (by simp [Value.ownBlock] <;> omega)).trans (zal (zag (by simp)))
 have B1:=HB.out.grown hgr1 (by simp <;> omega) (fun k hk => by simp [Value.ownBlock] at hk; omega)
 have V0':=zal (o:=.cells #[] 153) (zeo V0 (.slice a1 ws.length c1))
 have V1':=zal (o:=.cells #[] 153) ((Below.heap_setCell w1 ⟨w.heap.size,0,none⟩ (.slice a1 ws.length c1) (w.heap.size + 1) (by simp)).trans V1)
 obtain ⟨x1,x2,x3,x4⟩:=zad V0
 obtain ⟨x5,x6,x7,x8⟩:=zad V0'
 have HV:=zaa (And.intro V0' V1')
 have hB2:=(B1.setCell (p:=⟨w.heap.size,0,none⟩) (Nat.le_refl _) (.slice a1 ws.length c1)).alloc (by simp; omega) (.cells #[] 153)
 have ho2:((w1.setCell ⟨w.heap.size,0,none⟩ (.slice a1 ws.length c1)).alloc (.cells #[] 153)).ownsRow w1.heap.size 153 3 (.slice (some ⟨w1.heap.size,0,none⟩) 0 0) 0 []:=by
  simpa using World.ownsRow_lit (base:=w1.heap.size) (e:=153) (size:=3) (w1.setCell ⟨w.heap.size,0,none⟩ (.slice a1 ws.length c1)) #[] 0 (by simp) (by simp) rfl
 have HB2:=zaa hB2
 have HO2:=zaa ho2
 clear hown1 hgr1 V0 V1 B1 V0' V1' hB2 ho2
 go_wp2_with (at_builtin; refine zak _ rfl (.tmp 8) (.tmp 10) 38 rfl w1.heap.size 153 (.agg #[.int .i64 0,.int .i64 0,.bool false]) 3 24 Tryz.underlying38 zky rfl (by decide) _ 0 [] rfl HO2.out _ ps.length (sts ps) rfl (Rd.below H2.out HB2.out) (zvn ps) (by simp [maxLen]; omega) (by omega) (by simp) ?_)
 intro v2 w2 hown2 hgr2
 have hown2:w2.ownsRow w1.heap.size 153 3 v2 ps.length (sts ps):=by simpa using hown2
 have R2:=zaa (zai hown2)
 obtain ⟨_,a2,c2,rfl,_⟩:=(zai hown2).rd
 have hz2:w1.heap.size + 1 ≤ w2.heap.size:=by have:=hgr2.size; simp at this; omega
 have V0:=(hgr2.block w.heap.size (by simp <;> omega) (by simp [Value.ownBlock]; omega)).trans HV.out.1
 have V1:=(hgr2.block (w.heap.size + 1) (by simp <;> omega) (by simp [Value.ownBlock]; omega)).trans HV.out.2
 have B2:=zaa (HB2.out.grown hgr2 (by simp <;> omega) (fun k hk => by simp [Value.ownBlock] at hk; omega))
 have K2:Hid (∀ b,w.heap.size + 2 ≤ b → b < w1.heap.size → w2.heap[b]? = w1.heap[b]?):=by
  intro b h1 h2
  rw [hgr2.block b (by simp <;> omega) (by simp [Value.ownBlock]; omega),zdz,if_neg (by simp; omega),Below.heap_setCell _ _ _ _ (by simp only; omega)]
 obtain ⟨z1,z2,z3,z4⟩:=zad V0
 obtain ⟨t1,t2,t3,t4⟩:=zad V1
 clear hown2 hgr2 V0 V1
 go_wp2
 refine bodyPost_ret (v:=.agg #[.slice a1 ws.length c1,.slice a2 ps.length c2]) (by simp [results,Tryz.results71,go_sem,t1,t2]) rfl ?_
 refine ⟨_,rfl,⟨_,_,rfl,(R1.out.same fun b h1 h2 => ?_).wide (by omega) (by simp; omega),(R2.out.same fun b h1 h2 => ?_).wide (by omega) (by simp)⟩,?_⟩
 ·rw [Below.heap_setCell _ _ _ _ (by simp only; omega),Below.heap_setCell _ _ _ _ (by simp only; omega),Below.heap_setCell _ _ _ _ (by simp only; omega),K2.out b h1 h2]
 ·rw [Below.heap_setCell _ _ _ _ (by simp only; omega),Below.heap_setCell _ _ _ _ (by simp only; omega),Below.heap_setCell _ _ _ _ (by simp only; omega)]
 ·exact ((B2.out.setCell (by simp only; omega) _).setCell (by simp only; omega) _).setCell (by simp only; omega) _
def CopyInv (w a:World) (x y:Value):Prop:=Below w.heap.size w a ∧ a.heap[w.heap.size]? = some (.cells #[x,y] 40 (0,0)) ∧ a.heap[w.heap.size + 1]? = some (.cells #[.slice none 0 0,.slice none 0 0] 40 (0,0))
theorem CopyInv.grown {w a b:World} {x y:Value} (h:CopyInv w a x y) (hg:a.grownBy b none):CopyInv w b x y:=by
 obtain ⟨h1,h2,h3⟩:=h
 have l2:=(Array.getElem?_eq_some_iff.1 h2).1
 have l3:=(Array.getElem?_eq_some_iff.1 h3).1
 exact ⟨h1.grown hg h1.size (fun k hk => by cases hk),(hg.block _ l2 (by simp)).trans h2,(hg.block _ l3 (by simp)).trans h3⟩
theorem CopyInv.rd {w a:World} {x y:Value} (h:CopyInv w a x y) {size:Nat} {v:Value} {n:Nat} {xs:List Value} (hr:Rd w size v n xs):Rd a size v n xs:=hr.below h.1
theorem CopyInv.base {w a:World} {x y:Value} (h:CopyInv w a x y):w.heap.size + 2 ≤ a.heap.size:=(Array.getElem?_eq_some_iff.1 h.2.2).1
theorem Row.grownNone {a b:World} {e:TypeId} {size lo:Nat} {v:Value} {n:Nat} {xs:List Value} (h:Row a e size lo a.heap.size v n xs) (hg:a.grownBy b none):Row b e size lo b.heap.size v n xs :=
 (h.same (fun k _ hk => hg.block k hk (by simp))).wide (Nat.le_refl _) hg.size
theorem yady {w b:World} {x y v1 v2:Value} {ws:List Int} {ps:List St} (hI:CopyInv w b x y) (r1:Row b 3 1 (w.heap.size + 2) b.heap.size v1 ws.length (zav ws)) (r2:Row b 153 3 (w.heap.size + 2) b.heap.size v2 ps.length (sts ps)) :
  RowPm ((b.setCell ⟨w.heap.size + 1,0,none⟩ v1).setCell ⟨w.heap.size + 1,1,none⟩ v2) w.heap.size ((b.setCell ⟨w.heap.size + 1,0,none⟩ v1).setCell ⟨w.heap.size + 1,1,none⟩ v2).heap.size (.agg #[v1,v2]) ws ps ∧
   Below w.heap.size w ((b.setCell ⟨w.heap.size + 1,0,none⟩ v1).setCell ⟨w.heap.size + 1,1,none⟩ v2):=by
 refine ⟨⟨_,_,rfl,(r1.same fun k h1 h2 => ?_).wide (by omega) (by simp),(r2.same fun k h1 h2 => ?_).wide (by omega) (by simp)⟩,(hI.1.setCell (by simp only; omega) _).setCell (by simp only; omega) _⟩
 ·rw [Below.heap_setCell _ _ _ _ (by simp only; omega),Below.heap_setCell _ _ _ _ (by simp only; omega)]
 ·rw [Below.heap_setCell _ _ _ _ (by simp only; omega),Below.heap_setCell _ _ _ _ (by simp only; omega)]
set_option maxHeartbeats 4000000 in
theorem ziw (v:Value) (ws:List Int) (ps:List St) (w:World) (h:RdPm w v ws ps) (hw:ws.length ≤ 2147483648) (hp:ps.length ≤ 2147483648) :
  Calls Tryz.prog 145 #[v] w fun e w' => ∃ v',e = .returned v' ∧ RowPm w' w.heap.size w'.heap.size v' ws ps ∧ Below w.heap.size w w':=by
 obtain ⟨vW,vP,rfl,h1,h2⟩:=h
 have H1:=zaa h1
 have H2:=zaa h2
 obtain ⟨aW,cW,rfl,_⟩:=h1.shape
 obtain ⟨aP,cP,rfl,_⟩:=h2.shape
 clear h1 h2
 have I0:CopyInv w ((w.alloc (.cells #[.slice aW ws.length cW,.slice aP ps.length cP] 40)).alloc (.cells #[.slice none 0 0,.slice none 0 0] 40)).drew (.slice aW ws.length cW) (.slice aP ps.length cP):=by
  refine ⟨Below.drew ?_,zal (zag rfl),zag (by simp)⟩
  repeat (refine Below.alloc ?_ (by simp <;> omega) _)
  exact Below.refl _ _
 have HI:=zaa I0
 clear I0
 go_enter Tryz.func145,Tryz.ntmps145
 go_wp2_with fail
 go_region_law (first
  | (refine zbw rfl (.const (.slice none 0 0)) (.tmp 4) 22 rfl (w.heap.size + 2) 3 (.int .i64 0) 1 8 Tryz.underlying22 zga rfl (by decide) (.slice none 0 0) 0 [] rfl (World.ownsRow_nil _ _ _ _) (.slice aW ws.length cW) ws.length (zav ws) rfl (by first | exact HI.out.rd H1.out | exact CopyInv.rd (Hid.out ‹_›) H1.out) (zed ws) (by simp [maxLen]; omega) (by omega) (by first | exact HI.out.base | exact CopyInv.base (Hid.out ‹_›)) ?_; intro v1 w1 hown1 hgr1; have hown1:w1.ownsRow (w.heap.size + 2) 3 1 v1 ws.length (zav ws):=(by simpa using hown1); have I1:=zaa (CopyInv.grown (by first | exact HI.out | exact Hid.out ‹_›) hgr1); obtain ⟨_,a1,c1,rfl,_⟩:=(zai hown1).rd; obtain ⟨x1,x2,x3,x4⟩:=zad I1.out.2.1; obtain ⟨y1,y2,y3,y4⟩:=zad I1.out.2.2)
  | (refine zbw rfl (.const (.slice none 0 0)) (.tmp 7) 38 rfl (w.heap.size + 2) 153 (.agg #[.int .i64 0,.int .i64 0,.bool false]) 3 24 Tryz.underlying38 zky rfl (by decide) (.slice none 0 0) 0 [] rfl (World.ownsRow_nil _ _ _ _) (.slice aP ps.length cP) ps.length (sts ps) rfl (by first | exact HI.out.rd H2.out | exact CopyInv.rd (Hid.out ‹_›) H2.out) (zvn ps) (by simp [maxLen]; omega) (by omega) (by first | exact HI.out.base | exact CopyInv.base (Hid.out ‹_›)) ?_; intro v2 w2 hown2 hgr2; have hown2:w2.ownsRow (w.heap.size + 2) 153 3 v2 ps.length (sts ps):=(by simpa using hown2); have I2:=zaa (CopyInv.grown (by first | exact HI.out | exact Hid.out ‹_›) hgr2); obtain ⟨_,a2,c2,rfl,_⟩:=(zai hown2).rd; obtain ⟨z1,z2,z3,z4⟩:=zad I2.out.2.1; obtain ⟨t1,t2,t3,t4⟩:=zad I2.out.2.2))
 all_goals
  go_wp2
  refine bodyPost_ret (v:=.agg #[.slice a1 ws.length c1,.slice a2 ps.length c2]) (by first | (simp [results,Tryz.results145,go_sem,t1,t2]; done) | (simp [results,Tryz.results145,go_sem,y1,y2]; done)) rfl ?_
  refine ⟨_,rfl,?_⟩
  first
   | exact yady I2.out (Row.grownNone (zai hown1) hgr2) (zai hown2)
   | exact yady I1.out (zai hown1) (Row.grownNone (zai hown2) hgr1)
end Go.Proofs.YtlkmnpanddchdaaGreatDoor
