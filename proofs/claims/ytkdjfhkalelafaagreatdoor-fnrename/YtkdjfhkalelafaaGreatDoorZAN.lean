/- Several texts laid together: PmLoad, Small, PmSeen, NmU, RdA. -/
import Derived.Test.YtkdjfhkalelafaaGreatDoorZAM
import Derived.Test.YtkdjfhkalelafaaGreatDoorZAB
import Derived.Test.YtkdjfhkalelafaaGreatDoorZAA
import Derived.Test.YtkdjfhkalelafaaGreatDoorZAI
namespace Go.Proofs.YtkdjfhkalelafaaGreatDoor
open Go.RowKit
def zzg (ws:List Int) (ps:List St) (at_:Int):Int:=if pmB ws ps = false then 1 else if zcx at_ = false then 14 else 0
theorem zzo {ws:List Int} {ps:List St} {at_:Int} (h:pmB ws ps = false):zzg ws ps at_ = 1:=by unfold zzg; rw [if_pos h]
theorem zqi {ws:List Int} {ps:List St} {at_:Int} (h:pmB ws ps = true) (h2:zcx at_ = false):zzg ws ps at_ = 14:=by unfold zzg; rw [if_neg (by rw [h]; simp),if_pos h2]
theorem yait {ws:List Int} {ps:List St} {at_:Int} (h:pmB ws ps = true) (h2:zcx at_ = true):zzg ws ps at_ = 0:=by unfold zzg; rw [if_neg (by rw [h]; simp),if_neg (by rw [h2]; simp)]
set_option maxHeartbeats 1000000 in
theorem zip (v:Value) (ws:List Int) (ps:List St) (at_:Int) (w:World) (h:RdPm w v ws ps) (hw:ws.length ≤ 1048576) (hp:ps.length ≤ 1048576) :
  Calls Tryz.prog 132 #[v,.int .i64 at_] w fun e w' => e = .returned (.int .i64 (zzg ws ps at_)) ∧ Below w.heap.size w w':=by
 have HR:=zaa h
 obtain ⟨vW,vP,rfl,h1,h2⟩:=h
 obtain ⟨aW,cW,rfl,_⟩:=h1.shape
 obtain ⟨aP,cP,rfl,_⟩:=h2.shape
 clear h1 h2
 have hb0:Below w.heap.size w (w.alloc (.cells #[.slice aW ws.length cW,.slice aP ps.length cP] 26)):=(Below.refl _ _).alloc (Nat.le_refl _) _
 by_cases c1:pmB ws ps = true
 ·by_cases c2:zcx at_ = true
  ·rw [yait c1 c2]
   go_enter Tryz.func132,Tryz.ntmps132
   go_wp2_with (first | (go_at_call 34; refine (zdn _ ws ps _ (HR.out.below hb0) hw hp).mono ?_; rintro e w1 ⟨rfl,hb1⟩) | (go_at_call 83; refine (zdl _ _).mono ?_; rintro e w2 ⟨rfl,rfl⟩))
   go_ret
   exact ⟨rfl,zab hb0 hb1 (by simp)⟩
  ·have c2':zcx at_ = false:=by simpa using c2
   rw [zqi c1 c2']
   clear c2
   go_enter Tryz.func132,Tryz.ntmps132
   go_wp2_with (first | (go_at_call 34; refine (zdn _ ws ps _ (HR.out.below hb0) hw hp).mono ?_; rintro e w1 ⟨rfl,hb1⟩) | (go_at_call 83; refine (zdl _ _).mono ?_; rintro e w2 ⟨rfl,rfl⟩))
   go_ret
   exact ⟨rfl,zab hb0 hb1 (by simp)⟩
 ·have c1':pmB ws ps = false:=by simpa using c1
  rw [zzo c1']
  clear c1
  go_enter Tryz.func132,Tryz.ntmps132
  go_wp2_with (first | (go_at_call 34; refine (zdn _ ws ps _ (HR.out.below hb0) hw hp).mono ?_; rintro e w1 ⟨rfl,hb1⟩) | (go_at_call 83; refine (zdl _ _).mono ?_; rintro e w2 ⟨rfl,rfl⟩))
  go_ret
  exact ⟨rfl,zab hb0 hb1 (by simp)⟩
def zjk (at_ d:Int) (ps:List St):Int:=ps.foldl (fun acc p => if p.at_ = at_ then p.val else acc) d
theorem zig {at_ d:Int}:∀ {ps:List St},(∀ p ∈ ps,¬ p.at_ = at_) → zjk at_ d ps = d
 | [],_ => rfl
 | p :: ps,h => by
  show zjk at_ (if p.at_ = at_ then p.val else d) ps = d
  rw [if_neg (h p (by simp))]
  exact zig (fun q hq => h q (by simp [hq]))
theorem zut (at_ d:Int) (ps qs:List St):zjk at_ d (ps ++ qs) = zjk at_ (zjk at_ d ps) qs:=by simp [zjk]
theorem zvf {at_ d:Int} {ps:List St} {k:Nat} (hk:k < ps.length) (h:ps[k].at_ = at_) (ha:∀ j (hj:j < ps.length),k < j → ¬ ps[j].at_ = at_):zjk at_ d ps = ps[k].val:=by
 have e:ps = ps.take k ++ (ps[k] :: ps.drop (k + 1)):=by rw [← List.drop_eq_getElem_cons hk,List.take_append_drop]
 conv => lhs; rw [e]
 rw [zut]
 show zjk at_ (if ps[k].at_ = at_ then ps[k].val else _) (ps.drop (k + 1)) = _
 rw [if_pos h]
 apply zig
 intro p hp
 obtain ⟨i,hi,rfl⟩:=List.getElem_of_mem hp
 rw [List.getElem_drop]
 exact ha _ _ (by omega)
set_option maxHeartbeats 2000000 in
theorem zpa (v:Value) (ws:List Int) (ps:List St) (at_:Nat) (w:World) (h:RdPm w v ws ps) (hw:ws.length ≤ 1048576) (hp:ps.length ≤ 1048576) (ha:at_ < ws.length) :
  Calls Tryz.prog 139 #[v,.int .i64 (at_:Int)] w fun e w' => e = .returned (.int .i64 (zjk (at_:Int) ws[at_] ps)) ∧ Below w.heap.size w w':=by
 obtain ⟨vW,vP,rfl,h1,h2⟩:=h
 obtain ⟨aW,cW,rfl,_,hcW⟩:=h1.shape
 obtain ⟨aP,cP,rfl,_,hcP⟩:=h2.shape
 clear h1 h2
 obtain ⟨bW,oW,rfl,hbW,hcellW⟩:=hcW (by omega)
 have hb0:Below w.heap.size w (w.alloc (.cells #[.slice (some ⟨bW,oW,none⟩) ws.length cW,.slice aP ps.length cP] 26)):=(Below.refl _ _).alloc (Nat.le_refl _) _
 have hcw:=(hb0.cell (p:=⟨bW,oW + at_,none⟩) hbW).trans (hcellW at_ ha)
 clear hcW hcellW
 go_enter Tryz.func139,Tryz.ntmps139
 go_wp2
 go_loop [5] (fun i => ∃ k:Nat,k ≤ ps.length ∧ i = .int .i64 ((k:Int) - 1) ∧ Hid (∀ j (h:j < ps.length),k ≤ j → ¬ ps[j].at_ = (at_:Int))) (fun i => (intOf i + 1).toNat)
 case atStart => exact ⟨ps.length,Nat.le_refl _,rfl,fun j h a => absurd h (by omega)⟩
 case round =>
  obtain ⟨k,hk,rfl,H⟩:=hrel
  cases k with
  | zero =>
   have E:=zaa (zig (d:=ws[at_]) (fun p hp => by obtain ⟨i,hi,rfl⟩:=List.getElem_of_mem hp; exact H.out i hi (by omega)))
   clear H hcP
   go_wp2
   go_ret
   exact ⟨zct E.out.symm,hb0⟩
  | succ m =>
   have em:(((m + 1:Nat):Int) - 1) = (m:Int):=by omega
   rw [em]
   clear em
   obtain ⟨b,o,rfl,hbl,hcell⟩:=hcP (by omega)
   obtain ⟨d0,d1,_⟩:=hcell m (by omega)
   have e0:=(hb0.cell (p:=⟨b,o + m * 3,none⟩) hbl).trans d0
   have e1:=(hb0.cell (p:=⟨b,o + m * 3 + 1,none⟩) hbl).trans d1
   clear d0 d1 hcell hcP
   have hm:m < ps.length:=by omega
   by_cases c:ps[m].at_ = (at_:Int)
   ·have c':(ps[m].at_ == (at_:Int)) = true:=by simpa using c
    have E:=zaa (zvf (d:=ws[at_]) hm c (fun j hj hlt => H.out j hj (by omega)))
    clear H c
    go_wp2
    go_ret
    exact ⟨zct E.out.symm,hb0⟩
   ·have c':(ps[m].at_ == (at_:Int)) = false:=by simpa using c
    have C:=zaa c
    clear c
    go_wp2
    go_round
    case rel =>
     refine ⟨m,by omega,by go_num,fun j hj hle => ?_⟩
     by_cases e:j = m
     ·subst e; exact C.out
     ·exact H.out j hj (by omega)
    case measure => simp [intOf] <;> omega
def yafc (ws:List Int) (ps:List St) (at_:Int):Int:=if zzg ws ps at_ = 0 then zjk at_ (ws[at_.toNat]?.getD 0) ps else 0
theorem yafu {ws:List Int} {ps:List St} {at_:Int} (h:¬ zzg ws ps at_ = 0):yafc ws ps at_ = 0:=by unfold yafc; rw [if_neg h]
theorem yamz {ws:List Int} {ps:List St} {k:Nat} (h:zzg ws ps (k:Int) = 0) (hk:k < ws.length):yafc ws ps (k:Int) = zjk (k:Int) ws[k] ps:=by
 unfold yafc; rw [if_pos h]; simp [hk]
theorem yaci (ws:List Int) (ps:List St) (at_:Int):(zzg ws ps at_ = 1 ∨ zzg ws ps at_ = 14) ∨ (zzg ws ps at_ = 0 ∧ pmB ws ps = true ∧ ∃ k:Nat,at_ = (k:Int) ∧ k < 336 ∧ k < ws.length):=by
 by_cases c1:pmB ws ps = true
 ·by_cases c2:zcx at_ = true
  ·have:=zha c2
   have hl:=(zes c1).1
   exact .inr ⟨yait c1 c2,c1,at_.toNat,by omega,by omega,by omega⟩
  ·exact .inl (.inr (zqi c1 (by simpa using c2)))
 ·exact .inl (.inl (zzo (by simpa using c1)))
set_option maxHeartbeats 2000000 in
theorem yali (v:Value) (ws:List Int) (ps:List St) (at_:Int) (w:World) (h:RdPm w v ws ps) (hw:ws.length ≤ 1048576) (hp:ps.length ≤ 1048576) :
  Calls Tryz.prog 86 #[v,.int .i64 at_] w fun e w' => e = .returned (.tuple #[.int .i64 (yafc ws ps at_),.int .i64 (zzg ws ps at_)]) ∧ Below w.heap.size w w':=by
 have HR:=zaa h
 obtain ⟨vW,vP,rfl,h1,h2⟩:=h
 obtain ⟨aW,cW,rfl,_,hcW⟩:=h1.shape
 obtain ⟨aP,cP,rfl,_,hcP⟩:=h2.shape
 clear h1 h2
 have hb0:Below w.heap.size w (w.alloc (.cells #[.slice aW ws.length cW,.slice aP ps.length cP] 26)):=(Below.refl _ _).alloc (Nat.le_refl _) _
 rcases yaci ws ps at_ with hc | ⟨hc,hok,k,rfl,hk,hkl⟩
 ·have hne:(zzg ws ps at_ != 0) = true:=by rcases hc with hc | hc <;> simp [hc]
  have E:=zaa (yafu (ws:=ws) (ps:=ps) (at_:=at_) (by rcases hc with hc | hc <;> simp [hc]))
  clear hc hcW hcP
  go_enter Tryz.func86,Tryz.ntmps86
  go_wp2_with (go_at_call 132; refine (zip _ ws ps _ _ (HR.out.below hb0) hw hp).mono ?_; rintro e w1 ⟨rfl,hb1⟩)
  go_ret2
  exact ⟨zdk E.out.symm rfl,zab hb0 hb1 (by simp)⟩
 ·have E:=zaa (yamz hc hkl)
  have C:=zaa hc
  obtain ⟨bW,oW,rfl,hbW,hcellW⟩:=hcW (by omega)
  have hcw:=zaa (hcellW k hkl)
  have HP:=zaa hcP
  clear hc hcW hcellW hcP
  go_enter Tryz.func86,Tryz.ntmps86
  go_wp2_with fail
  refine (zip _ ws ps _ _ (HR.out.below hb0) hw hp).mono ?_
  rw [C.out]
  rintro e w1 ⟨rfl,hb1⟩
  have V1:=(hb1.block w.heap.size (by simp)).trans (zah rfl)
  obtain ⟨x1,x2,_,_⟩:=zac V1
  have B1:=zaa (zab hb0 hb1 (by simp))
  have hcw1:=(B1.out.cell (p:=⟨bW,oW + k,none⟩) hbW).trans hcw.out
  clear V1 hb1 hb0
  go_wp2
  go_loop [7] (fun i => ∃ m:Nat,m ≤ ps.length ∧ i = .int .i64 ((m:Int) - 1) ∧ Hid (∀ j (h:j < ps.length),m ≤ j → ¬ ps[j].at_ = (k:Int))) (fun i => (intOf i + 1).toNat)
  case atStart => exact ⟨ps.length,Nat.le_refl _,rfl,fun j h a => absurd h (by omega)⟩
  case round =>
   obtain ⟨m,hm,rfl,H⟩:=hrel
   cases m with
   | zero =>
    have E2:=zaa (zig (d:=ws[k]) (fun p hp => by obtain ⟨i,hi,rfl⟩:=List.getElem_of_mem hp; exact H.out i hi (by omega)))
    clear H
    go_wp2
    go_ret2
    exact ⟨zdk (E.out.trans E2.out).symm C.out.symm,B1.out⟩
   | succ m =>
    have em:(((m + 1:Nat):Int) - 1) = (m:Int):=by omega
    rw [em]
    clear em
    obtain ⟨b,o,rfl,hbl,hcell⟩:=HP.out (by omega)
    obtain ⟨d0,d1,_⟩:=hcell m (by omega)
    have e0:=(B1.out.cell (p:=⟨b,o + m * 3,none⟩) hbl).trans d0
    have e1:=(B1.out.cell (p:=⟨b,o + m * 3 + 1,none⟩) hbl).trans d1
    clear d0 d1 hcell
    have hml:m < ps.length:=by omega
    by_cases c:ps[m].at_ = (k:Int)
    ·have c':(ps[m].at_ == (k:Int)) = true:=by simpa using c
     have E2:=zaa (zvf (d:=ws[k]) hml c (fun j hj hlt => H.out j hj (by omega)))
     clear H c
     go_wp2
     go_ret2
     exact ⟨zdk (E.out.trans E2.out).symm C.out.symm,B1.out⟩
    ·have c':(ps[m].at_ == (k:Int)) = false:=by simpa using c
     have C2:=zaa c
     clear c
     go_wp2
     go_round
     case rel =>
      refine ⟨m,by omega,by go_num,fun j hj hle => ?_⟩
      by_cases e:j = m
      ·subst e; exact C2.out
      ·exact H.out j hj (by omega)
     case measure => simp [intOf] <;> omega
theorem zrj (ps:List St):∀ u ∈ sts ps,u.oneCell' = true:=by
 intro u hu
 simp only [sts,List.mem_flatMap,St.cells] at hu
 obtain ⟨s,_,hs⟩:=hu
 simp at hs
 rcases hs with rfl | rfl | rfl <;> rfl
theorem RowPm.zero (w:World) (lo hi:Nat):RowPm w lo hi (.agg #[.slice none 0 0,.slice none 0 0]) [] []:=⟨_,_,rfl,Row.nil _ _ _ _ _,Row.nil _ _ _ _ _⟩
theorem zzs (ps:List St) (s:St):sts (ps ++ [s]) = sts ps ++ s.cells:=by simp [sts]
theorem RdS.form {w:World} {v:Value} {ps:List St} (h:RdS w v ps) {n:Nat} (hn:ps.length = n):∃ ao cap,v = .slice ao n cap:=by
 obtain ⟨ao,cap,e,_⟩:=h.shape
 exact ⟨ao,cap,by rw [← hn]; exact e⟩
theorem yaqn {ws:List Int} {ps:List St} (h:pmB ws ps = true):∀ j (hj:j < ps.length),0 ≤ ps[j].at_ ∧ ps[j].at_ < 336:=fun j hj => zha (zkj h j hj).1
theorem yauw {ws:List Int} {ps:List St} (h:pmB ws ps = true):∀ j (hj:j < ps.length),0 ≤ ps[j].at_ ∧ ps[j].at_ < ws.length:=fun j hj => by
 have h1:=yaqn h j hj
 have h2:=(zes h).1
 omega
theorem yatu (w1:World) (a x:Int) (f:Bool):Rd (w1.alloc (.cells #[.int .i64 a,.int .i64 x,.bool f] 114)) 3 (.slice (some ⟨w1.heap.size,0,none⟩) 1 1) 1 (St.cells ⟨a,x,f⟩):=by
 refine ⟨rfl,_,_,rfl,⟨Nat.le_refl _,fun e => by cases e⟩,fun _ => ⟨w1.heap.size,0,rfl,by simp,fun j hj => ?_⟩⟩
 obtain ⟨e0,e1,e2⟩:=zay (zah (w:=w1) (o:=.cells #[.int .i64 a,.int .i64 x,.bool f] 114) rfl)
 rw [Nat.zero_add]
 rcases (show j = 0 ∨ j = 1 ∨ j = 2 from by omega) with rfl | rfl | rfl
 ·exact e0
 ·exact e1
 ·exact e2
theorem yagr (p:St):∀ u ∈ St.cells p,u.oneCell' = true:=by
 intro u hu
 simp [St.cells] at hu
 rcases hu with rfl | rfl | rfl <;> rfl
def zcg (ws:List Int) (ps:List St):List Int:=ps.foldl (fun acc p => acc.set p.at_.toNat p.val) ws
theorem yafa (ws:List Int) (ps:List St) (p:St):zcg ws (ps ++ [p]) = (zcg ws ps).set p.at_.toNat p.val:=by simp [zcg]
theorem zck (ws:List Int):∀ ps:List St,(zcg ws ps).length = ws.length:=by
 intro ps
 unfold zcg
 induction ps generalizing ws with
 | nil => rfl
 | cons p ps ih => rw [List.foldl_cons,ih]; simp
theorem yaef:∀ (ps:List St) (ws:List Int) (k:Nat) (hk:k < ws.length) (_:∀ p ∈ ps,0 ≤ p.at_) (hk':k < (zcg ws ps).length),(zcg ws ps)[k] = zjk (k:Int) ws[k] ps
 | [],ws,k,hk,_,_ => rfl
 | p :: ps,ws,k,hk,h0,hk' => by
  have hk2:k < (ws.set p.at_.toNat p.val).length:=by simpa using hk
  have:=yaef ps (ws.set p.at_.toNat p.val) k hk2 (fun q hq => h0 q (by simp [hq])) hk'
  show (zcg (ws.set p.at_.toNat p.val) ps)[k] = zjk (k:Int) (if p.at_ = (k:Int) then p.val else ws[k]) ps
  rw [this,List.getElem_set]
  have hp:=h0 p (by simp)
  by_cases e:p.at_ = (k:Int)
  ·rw [if_pos (by omega),if_pos e]
  ·rw [if_neg (by omega),if_neg e]
def yajj (ws:List Int) (ps:List St):Int:=if pmB ws ps = true then 0 else 1
def yadi (ws:List Int) (ps:List St):List Int:=if pmB ws ps = true then zcg ws ps else []
theorem zzv {ws:List Int} {ps:List St} (h:pmB ws ps = false):yajj ws ps = 1 ∧ yadi ws ps = []:=by
 unfold yajj yadi
 rw [h]
 exact ⟨rfl,rfl⟩
theorem yakx {ws:List Int} {ps:List St} (h:pmB ws ps = true):yajj ws ps = 0 ∧ yadi ws ps = zcg ws ps:=by
 unfold yajj yadi
 rw [h]
 exact ⟨rfl,rfl⟩
set_option maxRecDepth 100000 in
set_option maxHeartbeats 4000000 in
theorem zpv (v:Value) (ws:List Int) (ps:List St) (w:World) (h:RdPm w v ws ps) (hw:ws.length ≤ 1048576) (hp:ps.length ≤ 1048576) :
  Calls Tryz.prog 20 #[v] w fun e w' => ∃ v',e = .returned (.tuple #[v',.int .i64 (yajj ws ps)]) ∧ Row w' 3 1 w.heap.size w'.heap.size v' (yadi ws ps).length (zdh (yadi ws ps)) ∧ Below w.heap.size w w':=by
 have HR:=zaa h
 obtain ⟨vW,vP,rfl,h1,h2⟩:=h
 have H1:=zaa h1
 obtain ⟨aW,cW,rfl,_⟩:=h1.shape
 obtain ⟨aP,cP,rfl,_,hcP⟩:=h2.shape
 have HP:=zaa hcP
 clear h1 h2 hcP
 have hb0:Below w.heap.size w (w.alloc (.cells #[.slice aW ws.length cW,.slice aP ps.length cP] 26)):=(Below.refl _ _).alloc (Nat.le_refl _) _
 by_cases hc:pmB ws ps = true
 ·obtain ⟨e1,e2⟩:=yakx hc
  rw [e1,e2]
  clear e1 e2
  have OK:=zaa (yauw hc)
  go_enter Tryz.func20,Tryz.ntmps20
  go_wp2_with fail
  refine (zdn _ ws ps _ (HR.out.below hb0) hw hp).mono ?_
  rintro e w1 ⟨rfl,hb1⟩
  have hz1:w.heap.size + 1 ≤ w1.heap.size:=by have:=hb1.size; simp at this; omega
  have V0:=(hb1.block w.heap.size (by simp <;> omega)).trans (zah rfl)
  obtain ⟨x1,x2,x3,x4⟩:=zac V0
  have B1:=zaa (zab hb0 hb1 (by simp <;> omega))
  have VH:=zaa V0
  clear hb0 hb1 V0
  go_wp2_with (at_builtin; refine zae _ rfl (.const (.slice none 0 0)) (.tmp 11) 23 rfl w1.heap.size 3 (.int .i64 0) 1 8 Tryz.underlying23 zld rfl (by decide) _ 0 [] rfl (World.ownsRow_nil _ _ _ _) _ ws.length (zdh ws) rfl (Rd.below H1.out B1.out) (zfm ws) (by simp [maxLen]; omega) (by omega) (Nat.le_refl _) ?_)
  intro v2 w2 hown2 hgr2
  have hown2:w2.ownsRow w1.heap.size 3 1 v2 ws.length (zdh ws):=by simpa using hown2
  obtain ⟨aW2,cW2,rfl⟩:=RdI.form (zad hown2).rd rfl
  have hz2:w1.heap.size ≤ w2.heap.size:=hgr2.size
  have B2:=B1.out.grown hgr2 (by omega) (fun k hk => by cases hk)
  have V0:=(hgr2.block w.heap.size (by omega) (by simp [Value.ownBlock])).trans VH.out
  obtain ⟨z1,z2,z3,z4⟩:=zac V0
  have START:=zaa (And.intro (zad hown2) B2)
  clear x1 x2 x3 x4 hown2 hgr2 B2 V0
  go_wp2
  go_loopw [6,16] (fun _ i wr => ∃ m:Nat,m ≤ ps.length ∧ i = .int .i64 m ∧ Row wr 3 1 w1.heap.size w2.heap.size (.slice aW2 ws.length cW2) ws.length (zdh (zcg ws (ps.take m))) ∧ Below w.heap.size w wr ∧ w2.heap.size ≤ wr.heap.size) (fun _ i _ => ps.length - (intOf i).toNat)
  case atStart => exact ⟨0,by omega,rfl,START.out.1,START.out.2,Nat.le_refl _⟩
  case round =>
   obtain ⟨m,hm,rfl,hrow,hb,hz⟩:=hrel
   by_cases hlt:m < ps.length
   ·obtain ⟨b,o,rfl,hbl,hcell⟩:=HP.out (by omega)
    obtain ⟨e0,e1,e2⟩:=hcell m hlt
    have d0:=(hb.cell (p:=⟨b,o + m * 3,none⟩) hbl).trans e0
    have d1:=(hb.cell (p:=⟨b,o + m * 3 + 1,none⟩) hbl).trans e1
    have d2:=(hb.cell (p:=⟨b,o + m * 3 + 2,none⟩) hbl).trans e2
    obtain ⟨q0,q1⟩:=OK.out m hlt
    obtain ⟨_,aw',cw',ew',_,hcw⟩:=hrow.rd
    cases ew'
    obtain ⟨bw,ow,rfl,hblw,_⟩:=hcw (by omega)
    obtain ⟨rfl,hb1,_,_,hfrw,hclw⟩:=(hrow.alloc hz (.cells #[.int .i64 ps[m].at_,.int .i64 ps[m].val,.bool ps[m].fl] 114)).at
    have hj:ps[m].at_.toNat < (zcg ws (ps.take m)).length:=by rw [zck]; omega
    have g0:=hfrw ps[m].at_.toNat
    have g1:=(hclw ps[m].at_.toNat (by omega)).trans (zcu _ _ hj)
    have F:Hid (Row ((wr.setCell ⟨bw,ps[m].at_.toNat,none⟩ (.int .i64 ps[m].val)).alloc (.cells #[.int .i64 ps[m].at_,.int .i64 ps[m].val,.bool ps[m].fl] 114)) 3 1 w1.heap.size w2.heap.size (.slice (some ⟨bw,0,none⟩) ws.length cW2) ws.length (zdh (zcg ws (ps.take (m + 1))))):=by
     rw [zge ps m hlt,yafa,← zif]
     exact (hrow.stored _ _).alloc (by simp; omega) _
    have G:=zaa ((hb.setCell (p:=⟨bw,ps[m].at_.toNat,none⟩) (by simp only; omega) (.int .i64 ps[m].val)).alloc (by simp; omega) (.cells #[.int .i64 ps[m].at_,.int .i64 ps[m].val,.bool ps[m].fl] 114))
    clear hrow hcell e0 e1 e2 hcw hfrw hclw
    go_wp2
    go_roundw
    case rel => exact ⟨m + 1,by omega,by go_num,F.out,G.out,by simp; omega⟩
    case measure => simp [intOf]; omega
   ·have e:m = ps.length:=by omega
    subst e
    have R:=zaa hrow
    clear hrow
    go_wp2
    go_ret2
    refine ⟨_,rfl,?_,hb⟩
    have:=R.out
    rw [List.take_length] at this
    rw [zck]
    exact this.wide (by omega) hz
 ·have hc':pmB ws ps = false:=by simpa using hc
  clear hc
  obtain ⟨e1,e2⟩:=zzv hc'
  rw [e1,e2]
  clear e1 e2
  go_enter Tryz.func20,Tryz.ntmps20
  go_wp2_with fail
  refine (zdn _ ws ps _ (HR.out.below hb0) hw hp).mono ?_
  rintro e w1 ⟨rfl,hb1⟩
  have B1:=zaa (zab hb0 hb1 (by simp <;> omega))
  clear hb0 hb1
  go_wp2
  go_ret2
  exact ⟨_,rfl,Row.nil _ _ _ _ _,B1.out⟩
def arrD (ds:List Nat) (j:Nat):Value:=if j < 6 - ds.length then .int .u8 0 else .int .u8 (96 + ((ds[j - (6 - ds.length)]?.getD 0:Nat):Int))
theorem yaml (j:Nat) (h:j < 6):arrD [] j = .int .u8 0:=by unfold arrD; rw [if_pos (by simpa using h)]
theorem yagd (d:Nat) (ds:List Nat) (h:ds.length < 6) (j:Nat):(if j = 6 - ds.length - 1 then Value.int .u8 (96 + (d:Int)) else arrD ds j) = arrD (d :: ds) j:=by
 unfold arrD
 by_cases e:j = 6 - ds.length - 1
 ·subst e
  rw [if_pos rfl,if_neg (by simp only [List.length_cons]; omega)]
  simp only [List.length_cons]
  rw [show 6 - ds.length - 1 - (6 - (ds.length + 1)) = 0 by omega]
  rfl
 ·rw [if_neg e]
  simp only [List.length_cons]
  by_cases e2:j < 6 - ds.length
  ·rw [if_pos e2,if_pos (by omega)]
  ·rw [if_neg e2,if_neg (by omega),show j - (6 - (ds.length + 1)) = (j - (6 - ds.length)) + 1 by omega]
   rfl
theorem yacw (ds:List Nat):strOfNums (ds.map fun d => (96:Int) + (d:Nat)) = zcl ds:=by
 unfold strOfNums zcl
 rw [List.map_map]
 congr 2
theorem yatw (w:World) (b l:Nat) (h1:1 ≤ l) (h6:l ≤ 6):(Instr.sliceAt 162 (.pointer (some ⟨b,0,none⟩)) (some (.int .i64 (6 - (l:Int)))) none none).run Tryz.prog w = .ok (.slice (some ⟨b,6 - l,none⟩) l l) w:=by
 have al:Tryz.prog.arrayLen 162 = 6:=by kernel_rfl
 rw [run_sliceAt_array_l w 162 ⟨b,0,none⟩ (by kernel_rfl) .i64 (6 - (l:Int)) (by omega) (by rw [al]; omega),al]
 have sz:(sizeOf (Tryz.prog.elem 162)).run Tryz.prog w = .ok 1 w:=by kernel_rfl
 rw [sz]
 simp only [Result.andThen,slicedAt]
 rw [if_neg (by omega),show (6 - (l:Int)).toNat = 6 - l by omega,show 6 - (6 - l) = l by omega,Nat.mul_one]
 simp [Addr.add]
 omega
set_option maxRecDepth 100000 in
set_option maxHeartbeats 4000000 in
theorem zjw (n:Int) (w:World) (hn:n ≤ 9223372036854775807):Calls Tryz.prog 53 #[.int .i64 n] w fun e w' => e = .returned (.tuple #[.string (zto n),.int .i64 (unpC n)]) ∧ Below w.heap.size w w':=by
 by_cases c0:n < 1
 ·have E:=zaa (zxu (zyn (n:=n) (by omega)))
  go_enter Tryz.func53,Tryz.ntmps53
  go_wp2
  go_ret2
  exact ⟨zzq E.out.1.symm E.out.2.symm,Below.refl _ _⟩
 obtain ⟨N,rfl⟩:=Int.eq_ofNat_of_zero_le (show 0 ≤ n by omega)
 have START:Hid ((w.alloc (.cells #[.int .u8 0,.int .u8 0,.int .u8 0,.int .u8 0,.int .u8 0,.int .u8 0] 162)).rowIs w.heap.size 162 6 (arrD [])):=by
  refine World.rowIs_alloc w #[.int .u8 0,.int .u8 0,.int .u8 0,.int .u8 0,.int .u8 0,.int .u8 0] 162 (arrD []) (fun i hi => ?_)
  have hi':i < 6:=hi
  rw [yaml i hi']
  rcases (show i = 0 ∨ i = 1 ∨ i = 2 ∨ i = 3 ∨ i = 4 ∨ i = 5 by omega) with rfl | rfl | rfl | rfl | rfl | rfl <;> rfl
 have BH:Hid (Below w.heap.size w (w.alloc (.cells #[.int .u8 0,.int .u8 0,.int .u8 0,.int .u8 0,.int .u8 0,.int .u8 0] 162))):=(Below.refl _ _).alloc (Nat.le_refl _) _
 go_enter Tryz.func53,Tryz.ntmps53
 go_wp2
 go_loopw [0,5,6] (fun x f _ wr => ∃ (m:Nat) (ds:List Nat),x = .int .i64 (m:Int) ∧ f = .int .i64 (6 - (ds.length:Int)) ∧ m ≤ N ∧ ds.length ≤ 6 ∧ Hid (Dg N m ds) ∧ Hid (wr.rowIs w.heap.size 162 6 (arrD ds)) ∧ Hid (Below w.heap.size w wr)) (fun x _ _ _ => (intOf x).toNat)
 case atStart => exact ⟨N,[],rfl,rfl,Nat.le_refl _,by simp,Dg.start N,START.out,BH.out⟩
 case round =>
  obtain ⟨m,ds,rfl,rfl,hm,hl,D,R,B⟩:=hrel
  by_cases c1:0 < m
  ·have m0:(0:Int) < (m:Int):=by omega
   by_cases c2:m % 27 = 0
   ·have E:=zaa (zxu (yabf D.out c1 c2))
    have c2':((m:Int) % 27 == 0) = true:=by rw [beq_iff_eq]; omega
    go_wp2
    go_ret2
    exact ⟨zzq E.out.1.symm E.out.2.symm,B.out⟩
   ·have c2':((m:Int) % 27 == 0) = false:=by rw [beq_eq_false_iff_ne]; omega
    by_cases c3:6 ≤ ds.length
    ·have E:=zaa (zxu (yaol D.out c1 c3))
     have c3':((6:Int) - (ds.length:Int) == 0) = true:=by rw [beq_iff_eq]; omega
     go_wp2
     go_ret2
     exact ⟨zzq E.out.1.symm E.out.2.symm,B.out⟩
    ·have c3':((6:Int) - (ds.length:Int) == 0) = false:=by rw [beq_eq_false_iff_ne]; omega
     have D2:=zaa (D.out.step c1 c2)
     have g0:=R.out.frozen (6 - ds.length - 1)
     have g1:=R.out.cell (show 6 - ds.length - 1 < 6 by omega)
     generalize hv:arrD ds (6 - ds.length - 1) = v0 at g1
     have ev:(97 + (m:Int) % 27 - 1) = 96 + ((m % 27:Nat):Int):=by omega
     have R2:Hid ((wr.setCell ⟨w.heap.size,6 - ds.length - 1,none⟩ (.int .u8 (97 + (m:Int) % 27 - 1))).rowIs w.heap.size 162 6 (arrD (m % 27 :: ds))):=by
      rw [ev]
      exact (R.out.set (6 - ds.length - 1) (.int .u8 (96 + ((m % 27:Nat):Int)))).congr (fun j _ => yagd (m % 27) ds (by omega) j)
     have B2:Hid (Below w.heap.size w (wr.setCell ⟨w.heap.size,6 - ds.length - 1,none⟩ (.int .u8 (97 + (m:Int) % 27 - 1)))):=B.out.setCell (by simp only; omega) _
     clear ev
     clear hv
     go_wp2
     go_roundw
     case rel => exact ⟨m / 27,m % 27 :: ds,by go_num,by go_num,by omega,by simp; omega,D2.out,R2.out,B2.out⟩
     case measure => simp [intOf]; omega
  ·obtain rfl:m = 0:=by omega
   have E:=zaa (yapd D.out (by omega) hl)
   have hconv:=fun cap => run_convert_bytes_arg (P:=Tryz.prog) wr 22 5 Tryz.underlying22 Tryz.underlying5 w.heap.size (6 - ds.length) ds.length cap (ds.map fun d => (96:Int) + (d:Nat)) (by simp) (fun i hi => by
    rw [R.out.cell (show 6 - ds.length + i < 6 by omega)]
    unfold arrD
    rw [if_neg (by omega),show 6 - ds.length + i - (6 - ds.length) = i by omega]
    simp [List.getD,hi]) 9 Tryz.underlying9
   rw [yacw] at hconv
   have l1:1 ≤ ds.length:=by
    have:=yaht (n:=N) (by omega)
    rw [D.out.done] at this
    exact this
   have hsl:=yatw wr w.heap.size ds.length l1 hl
   have hcv:=hconv ds.length
   clear hconv
   go_wp2
   go_ret2
   exact ⟨zzq E.out.1.symm E.out.2.symm,B.out⟩
set_option maxRecDepth 100000 in
set_option maxHeartbeats 4000000 in
theorem zrg (n:Int) (w:World) (hn:n ≤ 9223372036854775807):Calls Tryz.prog 140 #[.int .i64 n] w fun e w' => (∃ s,e = .returned (.tuple #[.string s,.bool (zfx n)]) ∧ (zfx n = true → s = zto n)) ∧ Below w.heap.size w w':=by
 obtain ⟨N,hN,hN2,hN3⟩:∃ N:Nat,(0 < n → n = (N:Int)) ∧ (¬ 0 < n → N = 0) ∧ N ≤ 9223372036854775807:=⟨n.toNat,fun h => by omega,fun h => by omega,by omega⟩
 have hdl:(zpl N).length ≤ 14:=yals 14 N (by omega)
 go_enter Tryz.func140,Tryz.ntmps140
 go_wp2
 go_loopw [0,4,5] (fun x o _ wr => ∃ (y:Int) (ds:List Nat),x = .int .i64 y ∧ o = .string (zcl ds) ∧ y ≤ 9223372036854775807 ∧ Hid ((0 < n → ∃ m:Nat,y = (m:Int) ∧ Dg N m ds) ∧ (¬ 0 < n → ¬ 0 < y ∧ ds = [])) ∧ Hid (Below w.heap.size w wr)) (fun x _ _ _ => (intOf x).toNat)
 case atStart => exact ⟨n,[],rfl,rfl,hn,⟨fun h => ⟨N,hN h,Dg.start N⟩,fun h => ⟨h,rfl⟩⟩,Below.refl _ _⟩
 case round =>
  obtain ⟨y,ds,rfl,rfl,hy,D,B⟩:=hrel
  by_cases c1:0 < y
  ·have hp:0 < n:=by
    rcases Decidable.em (0 < n) with h | h
    ·exact h
    ·exact absurd c1 (D.out.2 h).1
   obtain ⟨m,rfl,D1⟩:=D.out.1 hp
   have D0:=zaa D1
   clear D D1
   by_cases c2:m % 27 = 0
   ·have E:Hid (zfx n = false):=by
     rw [hN hp]
     exact yabf D0.out (by omega) c2
    have c2':((m:Int) % 27 == 0) = true:=by rw [beq_iff_eq]; omega
    go_wp2
    go_ret2
    exact ⟨⟨_,yapy rfl E.out.symm,fun h => by rw [E.out] at h; cases h⟩,B.out⟩
   ·have c2':((m:Int) % 27 == 0) = false:=by rw [beq_eq_false_iff_ne]; omega
    have D2:=zaa (D0.out.step (by omega) c2)
    have hl14:ds.length ≤ 14:=Nat.le_trans D0.out.len hdl
    have hcv:=run_convert_bytes_arg (P:=Tryz.prog) (wr.alloc (.cells #[.int .u8 (97 + (m:Int) % 27 - 1)] 5)) 22 5 Tryz.underlying22 Tryz.underlying5 wr.heap.size 0 1 1 [97 + (m:Int) % 27 - 1] rfl (fun i hi => by
     obtain rfl:i = 0:=by omega
     exact World.cell?_alloc_mark wr #[.int .u8 (97 + (m:Int) % 27 - 1)] 5 (0,0) 0) 9 Tryz.underlying9
    have eb:strOfNums [97 + (m:Int) % 27 - 1] = ⟨#[UInt8.ofNat (96 + m % 27)]⟩:=by
     unfold strOfNums
     simp only [List.map_cons,List.map_nil]
     rw [show (97 + (m:Int) % 27 - 1).toNat = 96 + m % 27 by omega]
    rw [eb] at hcv
    have had:=run_string_add_sum (P:=Tryz.prog) (wr.alloc (.cells #[.int .u8 (97 + (m:Int) % 27 - 1)] 5)) ⟨#[UInt8.ofNat (96 + m % 27)]⟩ (zcl ds) (by rw [zci]; show 1 + _ ≤ _; omega)
    rw [zvo] at had
    have B2:Hid (Below w.heap.size w (wr.alloc (.cells #[.int .u8 (97 + (m:Int) % 27 - 1)] 5))):=B.out.alloc B.out.size _
    clear eb
    generalize hbb:(⟨#[UInt8.ofNat (96 + m % 27)]⟩:ByteArray) = bb at hcv had
    clear hbb
    go_wp2
    go_roundw
    case rel => exact ⟨(m:Int) / 27,m % 27 :: ds,rfl,rfl,by omega,⟨fun _ => ⟨m / 27,by omega,D2.out⟩,fun h => absurd hp h⟩,B2.out⟩
    case measure => simp [intOf]; omega
  ·have LEN:Hid (ds.length ≤ 14 ∧ nmB (zcl ds) = zfx n ∧ (zfx n = true → zcl ds = zto n)):=by
    rcases Decidable.em (0 < n) with hp | hp
    ·obtain ⟨m,em,D1⟩:=D.out.1 hp
     obtain rfl:m = 0:=by omega
     have en:=hN hp
     have hl:=D1.len
     have hd:=D1.done
     refine ⟨by omega,?_,fun h => ?_⟩
     ·by_cases c6:ds.length ≤ 6
      ·have h1:1 ≤ ds.length:=by rw [← hd]; exact yaht (by omega)
       rw [zys D1.ok h1 c6,en]
       exact (decide_eq_true ⟨by omega,by rw [Int.toNat_natCast,hd]; exact fun d x => (D1.ok d x).1,by rw [Int.toNat_natCast,hd]; exact c6⟩).symm
      ·rw [ztg (by rw [zci]; omega),en]
       exact (decide_eq_false (fun x => by have:=x.2.2; rw [Int.toNat_natCast,hd] at this; omega)).symm
     ·unfold zto
      rw [if_pos h,en,Int.toNat_natCast,hd]
    ·obtain ⟨_,rfl⟩:=D.out.2 hp
     refine ⟨by simp,?_,fun h => ?_⟩
     ·rw [zwi (by rw [zci]; simp),zyn hp]
     ·rw [zyn hp] at h; cases h
   have hsz:(zcl ds).size ≤ maxLen:=by
    have:=LEN.out.1
    rw [zci]
    unfold maxLen
    omega
   go_wp2_with (go_at_call 116; refine (zeg _ _ hsz).mono ?_; rintro e w' ⟨rfl,rfl⟩)
   go_ret2
   exact ⟨⟨_,yapy rfl LEN.out.2.1,LEN.out.2.2⟩,B.out⟩
def wdI (ls:List Int) (z:Int):Int:=ls.getD z.toNat 0
theorem yapo {ls:List Int} {n:Nat} (h:n < ls.length):wdI ls (n:Int) = ls[n]:=by
 unfold wdI
 rw [Int.toNat_natCast,List.getD_eq_getElem?_getD,List.getElem?_eq_getElem h]; rfl
def zdm (ls:List Int) (i:Nat):Ino:=⟨wdI ls (48 + 12 * (i:Int)),wdI ls (48 + 12 * (i:Int) + 1),wdI ls (48 + 12 * (i:Int) + 2),wdI ls (48 + 12 * (i:Int) + 3),wdI ls (48 + 12 * (i:Int) + 4),wdI ls (48 + 12 * (i:Int) + 5),wdI ls (48 + 12 * (i:Int) + 6),wdI ls (48 + 12 * (i:Int) + 7),wdI ls (48 + 12 * (i:Int) + 8),wdI ls (48 + 12 * (i:Int) + 9),wdI ls (48 + 12 * (i:Int) + 10)⟩
def zfi (ls:List Int) (k:Nat):Den:=if wdI ls (240 + 3 * (k:Int) + 2) = 0 then ⟨0,⟨#[]⟩,-1⟩ else ⟨wdI ls (240 + 3 * (k:Int)),zto (wdI ls (240 + 3 * (k:Int) + 1)),wdI ls (240 + 3 * (k:Int) + 2) - 1⟩
def zbs (ls:List Int) (k:Nat):Bool:=if wdI ls (240 + 3 * (k:Int) + 2) = 0 then wdI ls (240 + 3 * (k:Int)) == 0 && wdI ls (240 + 3 * (k:Int) + 1) == 0 else zfx (wdI ls (240 + 3 * (k:Int) + 1))
def zbe (ls:List Int) (n:Nat):List Ino:=(List.range n).map (zdm ls)
def zbi (ls:List Int) (n:Nat):List Den:=(List.range n).map (zfi ls)
def zcm (ls:List Int) (n:Nat):Bool:=(List.range n).all (zbs ls)
theorem zpj (ls:List Int) (n:Nat):zbe ls (n + 1) = zbe ls n ++ [zdm ls n]:=by unfold zbe; rw [List.range_succ,List.map_append]; rfl
theorem zjl (ls:List Int) (n:Nat):zbi ls (n + 1) = zbi ls n ++ [zfi ls n]:=by unfold zbi; rw [List.range_succ,List.map_append]; rfl
theorem zco (ls:List Int) (n:Nat):(zbe ls n).length = n:=by simp [zbe]
theorem zbw (ls:List Int) (n:Nat):(zbi ls n).length = n:=by simp [zbi]
theorem zih {ls:List Int} {n k:Nat} (hk:k < n) (h:zbs ls k = false):zcm ls n = false:=by
 unfold zcm
 rw [List.all_eq_false]
 exact ⟨k,List.mem_range.2 hk,by rw [h]; simp⟩
theorem zhc {ls:List Int} {n:Nat} (h:∀ k,k < n → zbs ls k = true):zcm ls n = true:=by
 unfold zcm
 rw [List.all_eq_true]
 intro k hk
 exact h k (List.mem_range.1 hk)
def riB (ls:List Int):Bool:=wdI ls 0 == 7 && (zcm ls 24 && zcb (zbe ls 16) (zbi ls 24))
def riC (ws:List Int) (ps:List St):Int:=if pmB ws ps = true then (if riB (zcg ws ps) = true then 0 else 3) else 1
def riN (ws:List Int) (ps:List St):List Ino:=if riC ws ps = 0 then zbe (zcg ws ps) 16 else []
def riD (ws:List Int) (ps:List St):List Den:=if riC ws ps = 0 then zbi (zcg ws ps) 24 else []
theorem yamw {ws:List Int} {ps:List St} (h:pmB ws ps = true):∀ k (h:k < (zcg ws ps).length),zbd (zcg ws ps)[k] = true:=by
 have h1:=yabr h
 have h2:∀ p ∈ ps,zbd p.val = true:=fun p hp => by
  obtain ⟨i,hi,rfl⟩:=List.getElem_of_mem hp
  exact (zkj h i hi).2
 clear h
 have gen:∀ (ps:List St) (ws:List Int),(∀ x ∈ ws,zbd x = true) → (∀ p ∈ ps,zbd p.val = true) → ∀ x ∈ zcg ws ps,zbd x = true:=by
  intro ps
  induction ps with
  | nil => intro ws h _ x hx; exact h x hx
  | cons p ps ih =>
   intro ws h1 h2 x hx
   refine ih (ws.set p.at_.toNat p.val) (fun y hy => ?_) (fun q hq => h2 q (List.mem_cons_of_mem _ hq)) x hx
   rcases List.mem_or_eq_of_mem_set hy with hy | hy
   ·exact h1 y hy
   ·rw [hy]; exact h2 p (List.mem_cons_self ..)
 intro k hk
 exact gen ps ws (fun x hx => by obtain ⟨i,hi,rfl⟩:=List.getElem_of_mem hx; exact h1 i hi) h2 _ (List.getElem_mem hk)
theorem zop {ws:List Int} {ps:List St} (h:pmB ws ps = true) (z:Int):0 ≤ wdI (zcg ws ps) z ∧ wdI (zcg ws ps) z < 1099511627776:=by
 unfold wdI
 rw [List.getD_eq_getElem?_getD]
 by_cases c:z.toNat < (zcg ws ps).length
 ·rw [List.getElem?_eq_getElem c]
  have:=yamw h _ c
  unfold zbd at this
  simp at this
  simpa using this
 ·rw [List.getElem?_eq_none (by omega)]
  exact ⟨by simp,by simp⟩
theorem yarw {ws:List Int} {ps:List St} (h:pmB ws ps = true) (i:Nat):(zdm (zcg ws ps) i).R:=by
 intro z hz
 have all:∀ y,-9223372036854775808 ≤ wdI (zcg ws ps) y ∧ wdI (zcg ws ps) y ≤ 9223372036854775807:=fun y => by have:=zop h y; omega
 simp only [Ino.map,zdm,List.mem_cons,List.not_mem_nil,or_false] at hz
 rcases hz with rfl | rfl | rfl | rfl | rfl | rfl | rfl | rfl <;> exact all _
theorem yame (n:Int):(zto n).size ≤ 6:=by
 unfold zto
 split
 ·rename_i h
  have:=(of_decide_eq_true h).2.2
  show ((zpl n.toNat).map fun d => UInt8.ofNat (96 + d)).toArray.size ≤ 6
  simpa using this
 ·exact Nat.zero_le _
theorem yacs (ls:List Int) (k:Nat):(zfi ls k).name.size ≤ maxLen:=by
 unfold zfi
 split
 ·exact Nat.zero_le _
 ·have:=yame (wdI ls (240 + 3 * (k:Int) + 1))
  show (zto _).size ≤ maxLen
  unfold maxLen
  omega
theorem yavp (v:Value) (ws:List Int) (ps:List St) (z:Int) (w:World) (h:RdPm w v ws ps) (hp:pmB ws ps = true) (h0:0 ≤ z ∧ z < 336) :
  Calls Tryz.prog 139 #[v,.int .i64 z] w fun e w' => e = .returned (.int .i64 (wdI (zcg ws ps) z)) ∧ Below w.heap.size w w':=by
 obtain ⟨n,rfl⟩:∃ n:Nat,z = (n:Int):=⟨z.toNat,by omega⟩
 obtain ⟨l1,l2⟩:=zes hp
 have hn:n < ws.length:=by omega
 rw [yapo (by rw [zck]; exact hn),yaef ps ws n hn (fun p hq => by obtain ⟨i,hi,rfl⟩:=List.getElem_of_mem hq; exact (yaqn hp i hi).1)]
 exact zpa v ws ps n w h (by omega) (by omega) hn
end Go.Proofs.YtkdjfhkalelafaaGreatDoor
