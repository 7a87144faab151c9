/- Several texts laid together: StA, FsC, FsD, FsE, MiT. -/
import Derived.Test.YtlkmnpanddchdaaGreatDoorZAI
import Derived.Test.YtlkmnpanddchdaaGreatDoorZAJ
import Derived.Deep.DeepCutAuto
import Derived.Deep.RegionWith
import Derived.Deep.RegionHeld3
import Derived.Lib.Strings
import Derived.Test.YtlkmnpanddchdaaGreatDoorZAD
import Derived.Test.YtlkmnpanddchdaaGreatDoorZAH
import Derived.Deep.RegionLaw
namespace Go.Proofs.YtlkmnpanddchdaaGreatDoor
open Go.RowKit
def zlj (ss:List ByteArray):List Value:=ss.map Value.string
theorem yacr (ss:List ByteArray):(zlj ss).length = ss.length:=by simp [zlj]
theorem zts (ss:List ByteArray) (k:Nat) (h:k < ss.length):(zlj ss)[k]? = some (.string ss[k]):=by simp [zlj,h]
theorem yano (ss:List ByteArray):∀ u ∈ zlj ss,u.oneCell' = true:=by
 intro u hu
 simp only [zlj,List.mem_map] at hu
 obtain ⟨s,_,rfl⟩:=hu
 rfl
def RdT (w:World) (v:Value) (ss:List ByteArray):Prop:=Rd w 1 v ss.length (zlj ss)
theorem RdT.shape {w:World} {v:Value} {ss:List ByteArray} (h:RdT w v ss):∃ ao cap,v = .slice ao ss.length cap ∧ ss.length ≤ cap ∧ (0 < ss.length → ∃ b o,ao = some ⟨b,o,none⟩ ∧ b < w.heap.size ∧ ∀ k (h:k < ss.length),w.cell? ⟨b,o + k,none⟩ = some (.string ss[k])):=by
 obtain ⟨_,ao,cap,rfl,h2,h3⟩:=h
 refine ⟨ao,cap,rfl,h2.1,fun hn => ?_⟩
 obtain ⟨b,o,e,hb,hc⟩:=h3 hn
 exact ⟨b,o,e,hb,fun k hk => (hc k (by omega)).trans (zts ss k hk)⟩
theorem yauq:(Tryz.prog.info? 9).map (fun i => (i.zero,i.size,i.bytes)) = some (some (.string ⟨#[]⟩),1,16):=by kernel_rfl
theorem yaao {B:Nat} {a w:World} (h:Below B a w) (n:Nat):Below B a (w.drewN n):=by
 induction n with
 | zero => exact h
 | succ n ih => exact ⟨ih.os,ih.tape,ih.output,ih.size,ih.block⟩
set_option maxRecDepth 100000 in
set_option maxHeartbeats 2000000 in
theorem zrh (va vb:Value) (ss:List ByteArray) (w:World) (ha:RdT w va ss) (hb:RdT w vb ss) (hn:ss.length ≤ 2147483648) :
  Calls Tryz.prog 86 #[va,vb] w fun e w' => e = .returned (.bool true) ∧ Below w.heap.size w w':=by
 obtain ⟨ao,cap,rfl,hcap,hc⟩:=ha.shape
 obtain ⟨ao2,cap2,rfl,hcap2,hc2⟩:=hb.shape
 clear ha hb
 go_enter Tryz.func86,Tryz.ntmps86
 go_wp2
 go_loopw [5] (fun i wr => ∃ k:Nat,k ≤ ss.length ∧ i = .int .i64 k ∧ Below w.heap.size w wr) (fun i _ => ss.length - (intOf i).toNat)
 case atStart => exact ⟨0,by omega,rfl,Below.refl _ _⟩
 case round =>
  obtain ⟨k,hk,rfl,hbw⟩:=hrel
  by_cases hlt:k < ss.length
  ·obtain ⟨b,o,rfl,hbl,hcell⟩:=hc (by omega)
   obtain ⟨b2,o2,rfl,hbl2,hcell2⟩:=hc2 (by omega)
   have hck:wr.cell? ⟨b,o + k,none⟩ = some (.string ss[k]):=(hbw.cell (p:=⟨b,o + k,none⟩) hbl).trans (hcell k hlt)
   have hck2:wr.cell? ⟨b2,o2 + k,none⟩ = some (.string ss[k]):=(hbw.cell (p:=⟨b2,o2 + k,none⟩) hbl2).trans (hcell2 k hlt)
   have hlt':(k:Int) < (ss.length:Int):=by omega
   have hge:(0:Int) ≤ (k:Int):=by omega
   clear hcell hcell2 hc hc2
   generalize ss[k] = x at hck hck2
   go_wp2
   go_quiet (fail)
   go_wp2
   go_roundw
   case rel => exact ⟨k + 1,by omega,by go_num,yaao hbw _⟩
   case measure => simp [intOf]; omega
  ·go_wp2
   go_ret
   exact ⟨rfl,hbw⟩
def zev (k:Int) (n:Nat):List ByteArray:=(List.range n).map fun i:Nat => mtx (k + (i:Int)).toNat
theorem zcx (k:Int) (n:Nat):(zev k n).length = n:=by simp [zev]
theorem yamf (k:Int) (n i:Nat) (h:i < (zev k n).length):(zev k n)[i] = mtx (k + (i:Int)).toNat:=by simp [zev]
theorem zzz (k:Int) (n:Nat):zev k (n + 1) = zev k n ++ [mtx (k + (n:Int)).toNat]:=by unfold zev; rw [List.range_succ,List.map_append]; rfl
def zmi (k0:Int) (k:Nat) (ss:List ByteArray):List ByteArray:=zev k0 k ++ ss.drop k
theorem yaks {k0:Int} {k:Nat} {ss:List ByteArray} (h:k ≤ ss.length):(zmi k0 k ss).length = ss.length:=by unfold zmi; rw [List.length_append,zcx,List.length_drop]; omega
theorem yagb {k0:Int} {ss:List ByteArray} {k:Nat} (h:k < ss.length):(zlj (zmi k0 k ss)).set k (.string (mtx (k0 + (k:Int)).toNat)) = zlj (zmi k0 (k + 1) ss):=by
 have l1:(zlj (zev k0 k)).length = k:=by rw [yacr,zcx]
 unfold zmi
 rw [List.drop_eq_getElem_cons h,zzz]
 unfold zlj at *
 rw [List.map_append,List.map_append,List.map_append,List.set_append_right _ _ (by omega),l1,Nat.sub_self,List.append_assoc]
 rfl
set_option maxRecDepth 100000 in
set_option maxHeartbeats 2000000 in
theorem zqc (v:Value) (ss:List ByteArray) (k0:Int) (lo hi:Nat) (w:World) (h:Row w 9 1 lo hi v ss.length (zlj ss)) (hz:hi ≤ w.heap.size) (hn:ss.length ≤ 16777216) (h0:0 ≤ k0) (h1:k0 ≤ 1099511627776) :
  Calls Tryz.prog 87 #[v,.int .i64 k0] w fun e w' => e = .returned (.int .i64 (k0 + ss.length)) ∧ Row w' 9 1 lo hi v ss.length (zlj (zev k0 ss.length)) ∧ w.grownBy w' v.ownBlock ∧ True:=by
 obtain ⟨_,ao,cap,rfl,hcap,hc⟩:=h.rd
 go_enter Tryz.func87,Tryz.ntmps87
 go_wp2
 go_loopw [1,5] (fun c i wr => ∃ k:Nat,k ≤ ss.length ∧ i = .int .i64 k ∧ c = .int .i64 (k0 + k) ∧ Hid (Row wr 9 1 lo hi (.slice ao ss.length cap) ss.length (zlj (zmi k0 k ss)) ∧ w.grownBy wr (Value.slice ao ss.length cap).ownBlock) ∧ w.heap.size ≤ wr.heap.size) (fun _ i _ => ss.length - (intOf i).toNat)
 case atStart => exact ⟨0,by omega,rfl,by simp,⟨by rw [show zmi k0 0 ss = ss by simp [zmi,zev]]; exact h,World.grownBy.refl _ _⟩,Nat.le_refl _⟩
 case round =>
  obtain ⟨k,hk,rfl,rfl,I,hzr⟩:=hrel
  clear h hc
  have k0':(0:Int) ≤ (k:Int):=by omega
  by_cases hlt:k < ss.length
  ·have k1:(k:Int) < (ss.length:Int):=by omega
   have MS:=zaa (yagb (k0:=k0) hlt)
   have ML:=yaks (k0:=k0) hk
   have LM:=zaa (fun w1 => zms (k0 + (k:Int)).toNat w1 (by omega))
   rw [show (((k0 + (k:Int)).toNat:Nat):Int) = k0 + (k:Int) by omega] at LM
   generalize mtx (k0 + (k:Int)).toNat = tx at *
   go_wp2_with fail
   refine (LM.out _).mono ?_
   rintro e w2 ⟨rfl,hb⟩
   have R2:=zaa (I.out.1.below hb (by omega))
   have G2:=zaa (zop I.out.2 (yabc (row:=(Value.slice ao ss.length cap).ownBlock) hb))
   have hz2:wr.heap.size ≤ w2.heap.size:=hb.size
   clear I hb LM
   obtain ⟨_,ao',cap',e',_,hc⟩:=R2.out.rd
   cases e'
   obtain ⟨b,o,rfl,hbl,_⟩:=hc (by omega)
   obtain ⟨rfl,hb1,hb2,_,hfr,hcl⟩:=R2.out.at
   have f0:=hfr k
   have e0:=(hcl k (by omega)).trans (zts (zmi k0 k ss) k (by omega))
   have R3:Hid (Row (w2.setCell ⟨b,k,none⟩ (.string tx)) 9 1 lo hi (.slice (some ⟨b,0,none⟩) ss.length cap) ss.length (zlj (zmi k0 (k + 1) ss)) ∧ w.grownBy (w2.setCell ⟨b,k,none⟩ (.string tx)) (Value.slice (some ⟨b,0,none⟩) ss.length cap).ownBlock):=by
    refine ⟨?_,zcs G2.out (a:=⟨b,k,none⟩) rfl _⟩
    rw [← MS.out]
    exact R2.out.stored _ _
   generalize (zmi k0 k ss)[k]'(by omega) = y at e0
   clear R2 G2 hc hfr hcl
   go_wp2
   go_roundw
   case rel => exact ⟨k + 1,by omega,by go_num,by go_num,R3,by simp; omega⟩
   case measure => simp [intOf]; omega
  ·obtain rfl:k = ss.length:=by omega
   have E:=zaa (show zmi k0 ss.length ss = zev k0 ss.length by simp [zmi])
   go_wp2
   go_ret
   exact ⟨rfl,by have:=I.out.1; rw [E.out] at this; exact this,I.out.2,trivial⟩
set_option maxRecDepth 100000 in
set_option maxHeartbeats 2000000 in
theorem zqh (v:Value) (n:Nat) (k0:Int) (w:World) (h:RdT w v (zev k0 n)) (hn:n ≤ 16777216) (h0:0 ≤ k0) (h1:k0 ≤ 1099511627776) :
  Calls Tryz.prog 109 #[v,.int .i64 k0] w fun e w' => e = .returned (.int .i64 (k0 + n)) ∧ Below w.heap.size w w':=by
 obtain ⟨ao,cap,hv,hcap,hc⟩:=h.shape
 rw [zcx] at hv hcap
 subst hv
 have HC:=zaa hc
 clear h hc
 go_enter Tryz.func109,Tryz.ntmps109
 go_wp2
 go_loopw [1,5] (fun c i wr => ∃ k:Nat,k ≤ n ∧ i = .int .i64 k ∧ c = .int .i64 (k0 + k) ∧ Hid (Below w.heap.size w wr)) (fun _ i _ => n - (intOf i).toNat)
 case atStart => exact ⟨0,by omega,rfl,by simp,Below.refl _ _⟩
 case round =>
  obtain ⟨k,hk,rfl,rfl,B⟩:=hrel
  have k0':(0:Int) ≤ (k:Int):=by omega
  by_cases hlt:k < n
  ·obtain ⟨b,o,rfl,hbl,hcell⟩:=HC.out (by rw [zcx]; omega)
   have k1:(k:Int) < (n:Int):=by omega
   have c0:=hcell k (by rw [zcx]; exact hlt)
   rw [yamf] at c0
   have LM:=zaa (fun w1 => zms (k0 + (k:Int)).toNat w1 (by omega))
   rw [show (((k0 + (k:Int)).toNat:Nat):Int) = k0 + (k:Int) by omega] at LM
   generalize mtx (k0 + (k:Int)).toNat = tx at *
   have hblr:b < wr.heap.size:=by have:=B.out.size; omega
   have d0:=(B.out.cell (p:=⟨b,o + k,none⟩) hbl).trans c0
   have SK:Hid (∀ w',Below wr.heap.size wr w' → w'.cell? ⟨b,o + k,none⟩ = some (.string tx)):=fun w' hb => (hb.cell (p:=⟨b,o + k,none⟩) hblr).trans d0
   have hzr:w.heap.size ≤ wr.heap.size:=B.out.size
   clear hcell c0
   go_wp2_with fail
   go_region_held3 (fun w' => w'.cell? ⟨b,o + k,none⟩ = some (.string tx))
    (exact SK.out _ (by repeat (first | exact BF.out | exact Below.refl _ _ | refine Below.drew ?_)))
    (first
     | (go_at_call 130; refine (LM.out _).mono ?_; rintro e w1 ⟨rfl,hb1⟩; have BF:Hid (Below wr.heap.size wr w1):=(by first | exact hb1 | exact zab (by repeat (first | exact Below.refl _ _ | refine Below.drew ?_)) hb1 (Nat.le_refl _)); clear hb1))
   all_goals
    have B3:=zaa (zab B.out BF.out hzr)
    clear SK d0
    go_wp2
    go_roundw
    case rel => exact ⟨k + 1,by omega,by go_num,by go_num,(by repeat (first | exact B3.out | refine Below.drew ?_))⟩
    case measure => simp [intOf]; omega
  ·obtain rfl:k = n:=by omega
   go_wp2
   go_ret
   exact ⟨rfl,B.out⟩
def isIB:Value → Bool
 | .int _ _ => true
 | _ => false
def isSB:Value → Bool
 | .string _ => true
 | _ => false
def zlm:List Value → Bool
 | [] => true
 | [a] => !isSB a
 | [a,b] => !isSB a && !isSB b
 | a :: b :: c :: t => !isSB a && !(isIB a && isIB b && isIB c) && zlm (b :: c :: t)
theorem zpx {a:Value} {l:List Value} (h:zlm (a :: l) = true):isSB a = false ∧ zlm l = true:=by
 match l with
 | [] => simp [zlm] at h; exact ⟨h,rfl⟩
 | [b] => simp [zlm] at h; exact ⟨h.1,by simp [zlm,h.2]⟩
 | b :: c :: t =>
  simp only [zlm,Bool.and_eq_true,Bool.not_eq_true'] at h
  exact ⟨h.1.1,h.2⟩
theorem zxj:∀ {l:List Value},zlm l = true → ∀ (j:Nat) (v:Value),l[j]? = some v → isSB v = false
 | [],_,j,v,e => by cases e
 | a :: l,h,0,v,e => by
  simp only [List.getElem?_cons_zero,Option.some.injEq] at e
  rw [← e]
  exact (zpx h).1
 | a :: l,h,j + 1,v,e => zxj (zpx h).2 j v (by simpa using e)
theorem zsn:∀ {l:List Value},zlm l = true → ∀ (j:Nat) (a b c:Value),l[j]? = some a → l[j + 1]? = some b → l[j + 2]? = some c → ¬ (isIB a = true ∧ isIB b = true ∧ isIB c = true)
 | [],_,j,_,_,_,e,_,_ => by cases e
 | x :: l,h,0,a,b,c,e1,e2,e3 => by
  match l,h,e2,e3 with
  | [],_,e2,_ => simp at e2
  | [y],_,_,e3 => simp at e3
  | y :: z :: t,h,e2,e3 =>
   simp only [List.getElem?_cons_zero,List.getElem?_cons_succ,Option.some.injEq] at e1 e2 e3
   subst e1 e2 e3
   simp only [zlm,Bool.and_eq_true,Bool.not_eq_true'] at h
   intro q
   have:=h.1.2
   rw [q.1,q.2.1,q.2.2] at this
   cases this
 | x :: l,h,j + 1,a,b,c,e1,e2,e3 => zsn (zpx h).2 j a b c (by simpa using e1) (by simpa using e2) (by simpa using e3)
def Hard (xs:List Value):Prop:=(∃ (j:Nat) (v:Value),xs[j]? = some v ∧ isSB v = true) ∨ ∃ (j:Nat) (a b c:Value),xs[j]? = some a ∧ xs[j + 1]? = some b ∧ xs[j + 2]? = some c ∧ isIB a = true ∧ isIB b = true ∧ isIB c = true
structure Soft (w w':World):Prop where
 size:w.heap.size ≤ w'.heap.size
 blk:∀ j,j < w.heap.size → w'.heap[j]? = w.heap[j]? ∨ ∃ cs t fr,w.heap[j]? = some (.cells cs t fr) ∧ zlm cs.toList = true
theorem Soft.trans {a b c:World} (h:Soft a b) (k:Soft b c):Soft a c :=
 ⟨Nat.le_trans h.size k.size,fun j hj => by
  rcases h.blk j hj with e | e
  ·rcases k.blk j (Nat.lt_of_lt_of_le hj h.size) with f | f
   ·exact .inl (f.trans e)
   ·rw [e] at f
    exact .inr f
  ·exact .inr e⟩
theorem Soft.of_below {w w':World} (h:Below w.heap.size w w'):Soft w w':=⟨h.size,fun j hj => .inl (h.block j hj)⟩
theorem Soft.outside {w w':World} {b:Nat} {cs:Array Value} {t:TypeId} {fr:Nat × Nat} (h:Outside b (b + 1) w w') (hb:w.heap[b]? = some (.cells cs t fr)) (hs:zlm cs.toList = true):Soft w w' :=
 ⟨h.size,fun k hk => by
  by_cases e:k = b
  ·subst e
   exact .inr ⟨cs,t,fr,hb,hs⟩
  ·exact .inl (h.block k hk (by omega))⟩
theorem Rd.soft {w w':World} {size:Nat} {v:Value} {n:Nat} {xs:List Value} (h:Rd w size v n xs) (hs:Soft w w') (hd:0 < n * size → Hard xs):Rd w' size v n xs:=by
 by_cases hn:0 < n * size
 ·refine h.same hs.size (fun j hj he => ?_)
  rcases hs.blk j hj with e | ⟨cs,t,fr,hb,sf⟩
  ·exact e
  ·exfalso
   obtain ⟨hl,ao,cap,rfl,_,hc⟩:=h
   have hn':0 < n:=by
    rcases Nat.eq_zero_or_pos n with e | e
    ·subst e; simp at hn
    ·exact e
   obtain ⟨b',o,rfl,_,hc⟩:=hc hn'
   simp only [Value.ownBlock,Option.some.injEq] at he
   subst he
   have C:∀ k u,xs[k]? = some u → cs.toList[o + k]? = some u:=fun k u e => by
    have hk:k < n * size:=by
     have:=(List.getElem?_eq_some_iff.1 e).1
     omega
    have:=hc k hk
    rw [e] at this
    simp only [World.cell?,hb] at this
    simpa using this
   rcases hd hn with ⟨k,u,e,f⟩ | ⟨k,a,b,c,e1,e2,e3,f1,f2,f3⟩
   ·have:=zxj sf _ _ (C k u e)
    rw [f] at this
    cases this
   ·exact zsn sf (o + k) a b c (C k a e1) (C (k + 1) b e2) (C (k + 2) c e3) ⟨f1,f2,f3⟩
 ·obtain ⟨h3,ao,cap,rfl,h4,h5⟩:=h
  refine ⟨h3,ao,cap,rfl,h4,fun hp => ?_⟩
  obtain ⟨b',o,e,hlt,hc⟩:=h5 hp
  exact ⟨b',o,e,Nat.lt_of_lt_of_le hlt hs.size,fun j hj => absurd (Nat.lt_of_le_of_lt (Nat.zero_le _) hj) hn⟩
theorem yamk {zs:List Int} (h:3 ≤ zs.length):Hard (zav zs):=.inr ⟨0,_,_,_,zax zs 0 (by omega),zax zs 1 (by omega),zax zs 2 (by omega),rfl,rfl,rfl⟩
theorem RdI.soft {w w':World} {v:Value} {zs:List Int} (h:RdI w v zs) (hs:Soft w w') (h3:3 ≤ zs.length):RdI w' v zs:=Rd.soft h hs (fun _ => yamk h3)
theorem Rd.softNil {w w':World} {size:Nat} {v:Value} (h:Rd w size v 0 []) (hs:Soft w w'):Rd w' size v 0 []:=Rd.soft h hs (fun hn => by simp at hn)
theorem RdDev.soft {w w':World} {v:Value} {ws es:List Int} (h:RdDev w v ws [] es []) (hs:Soft w w') (h1:3 ≤ ws.length) (h2:3 ≤ es.length):RdDev w' v ws [] es []:=by
 obtain ⟨vW,vP,vS,vQ,rfl,⟨_,_,e1,a,b⟩,⟨_,_,e2,c,d⟩⟩:=h
 cases e1
 cases e2
 exact ⟨_,_,_,_,rfl,⟨_,_,rfl,RdI.soft a hs h1,Rd.softNil b hs⟩,⟨_,_,rfl,RdI.soft c hs h2,Rd.softNil d hs⟩⟩
theorem yaox {w:World} {b:Nat} {t:TypeId} {x y z u a b' c d:Value} (h:w.heap[b]? = some (.cells #[x,y,z,u] t (0,0))):(zlf w b a b' c d).heap[b]? = some (.cells #[a,b',c,d] t (0,0)):=by
 simp [zlf,World.setCell,Array.getElem?_modify,h]
theorem belY {a b c:World} (h1:Below a.heap.size a b) (h2:Below b.heap.size b c):Below a.heap.size a c:=zab h1 h2 h1.size
theorem RdDev.put {w:World} {b:Nat} {ws:List Int} {ps:List St} {es:List Int} {qs:List Se} {v:Value} {x y z u:Value} {t:TypeId} {fr:Nat × Nat} (h:RdDev w v ws ps es qs) (hb:w.heap[b]? = some (.cells #[x,y,z,u] t fr)) (hx:∀ n,¬ x = .int .i64 n) (hy:∀ n,¬ y = .int .i64 n) (hz:∀ n,¬ z = .int .i64 n) (hu:∀ n,¬ u = .int .i64 n) (p q r s:Value):RdDev (zlf w b p q r s) v ws ps es qs:=by
 obtain ⟨vW,vP,vS,vQ,rfl,h1,h2⟩:=h
 have O:=zbd w b p q r s
 have N:=zdj hx hy hz hu
 exact ⟨_,_,_,_,rfl,h1.boxless hb N O.size (fun j hj hn => O.block j hj (by omega)),h2.boxless hb N O.size (fun j hj hn => O.block j hj (by omega))⟩
theorem yanc {l:List Mi} {ws:List Int} {ps:List St} {es:List Int} {qs:List Se} (h:(mr l ws ps es qs).c = 0) {k:Nat} (hk:k < l.length) {W:List Int} {P:List St} {E:List Int} {Q:List Se} (r:mr (l.take k) ws ps es qs = ⟨0,W,P,E,Q⟩):zgo l[k] P Q = false:=by
 cases f:zgo l[k] P Q with
 | false => rfl
 | true =>
  rw [yahy hk r f] at h
  cases h
def RdFs (w:World) (v:Value) (ws es hs:List Int) (td:List Mi) (cd vl:Int) (nm:List ByteArray) (fr:Bool):Prop :=
 ∃ aW cW aP cP aS cS aQ cQ aH cH aT cT aN cN,v = .agg #[.slice aW ws.length cW,.slice aP 0 cP,.slice aS es.length cS,.slice aQ 0 cQ,.slice aH hs.length cH,.slice aT td.length cT,.int .i64 cd,.int .i64 vl,.slice aN nm.length cN,.bool fr] ∧ RdDev w (.agg #[.slice aW ws.length cW,.slice aP 0 cP,.slice aS es.length cS,.slice aQ 0 cQ]) ws [] es [] ∧ RdI w (.slice aH hs.length cH) hs ∧ RdM w (.slice aT td.length cT) td ∧ RdT w (.slice aN nm.length cN) nm
theorem zam {w:World} {b:Nat} {t:TypeId} {x0 x1 x2 x3 x4 x5 x6 x7 x8 x9:Value} (h:w.heap[b]? = some (.cells #[x0,x1,x2,x3,x4,x5,x6,x7,x8,x9] t (0,0))):w.cell? ⟨b,0,none⟩ = some x0 ∧ w.cell? ⟨b,1,none⟩ = some x1 ∧ w.cell? ⟨b,2,none⟩ = some x2 ∧ w.cell? ⟨b,3,none⟩ = some x3 ∧ w.cell? ⟨b,4,none⟩ = some x4 ∧ w.cell? ⟨b,5,none⟩ = some x5 ∧ w.cell? ⟨b,6,none⟩ = some x6 ∧ w.cell? ⟨b,7,none⟩ = some x7 ∧ w.cell? ⟨b,8,none⟩ = some x8 ∧ w.cell? ⟨b,9,none⟩ = some x9 ∧ w.frozen? ⟨b,0,none⟩ = false ∧ w.frozen? ⟨b,1,none⟩ = false ∧ w.frozen? ⟨b,2,none⟩ = false ∧ w.frozen? ⟨b,3,none⟩ = false ∧ w.frozen? ⟨b,4,none⟩ = false ∧ w.frozen? ⟨b,5,none⟩ = false ∧ w.frozen? ⟨b,6,none⟩ = false ∧ w.frozen? ⟨b,7,none⟩ = false ∧ w.frozen? ⟨b,8,none⟩ = false ∧ w.frozen? ⟨b,9,none⟩ = false:=by
 simp [World.cell?,World.frozen?,h]
theorem zbr {w:World} {b:Nat} {t:TypeId} {x0 x1 x2 x3 x4 x5 x6 x7 x8 x9:Value} (h:w.heap[b]? = some (.cells #[x0,x1,x2,x3,x4,x5,x6,x7,x8,x9] t (0,0))) (u:Value):(w.setCell ⟨b,0,none⟩ u).heap[b]? = some (.cells #[u,x1,x2,x3,x4,x5,x6,x7,x8,x9] t (0,0)):=by simp [World.setCell,Array.getElem?_modify,h]
theorem zbv {w:World} {b:Nat} {t:TypeId} {x0 x1 x2 x3 x4 x5 x6 x7 x8 x9:Value} (h:w.heap[b]? = some (.cells #[x0,x1,x2,x3,x4,x5,x6,x7,x8,x9] t (0,0))) (u:Value):(w.setCell ⟨b,1,none⟩ u).heap[b]? = some (.cells #[x0,u,x2,x3,x4,x5,x6,x7,x8,x9] t (0,0)):=by simp [World.setCell,Array.getElem?_modify,h]
theorem zbt {w:World} {b:Nat} {t:TypeId} {x0 x1 x2 x3 x4 x5 x6 x7 x8 x9:Value} (h:w.heap[b]? = some (.cells #[x0,x1,x2,x3,x4,x5,x6,x7,x8,x9] t (0,0))) (u:Value):(w.setCell ⟨b,2,none⟩ u).heap[b]? = some (.cells #[x0,x1,u,x3,x4,x5,x6,x7,x8,x9] t (0,0)):=by simp [World.setCell,Array.getElem?_modify,h]
theorem zbq {w:World} {b:Nat} {t:TypeId} {x0 x1 x2 x3 x4 x5 x6 x7 x8 x9:Value} (h:w.heap[b]? = some (.cells #[x0,x1,x2,x3,x4,x5,x6,x7,x8,x9] t (0,0))) (u:Value):(w.setCell ⟨b,3,none⟩ u).heap[b]? = some (.cells #[x0,x1,x2,u,x4,x5,x6,x7,x8,x9] t (0,0)):=by simp [World.setCell,Array.getElem?_modify,h]
theorem zcd {w:World} {b:Nat} {t:TypeId} {x0 x1 x2 x3 x4 x5 x6 x7 x8 x9:Value} (h:w.heap[b]? = some (.cells #[x0,x1,x2,x3,x4,x5,x6,x7,x8,x9] t (0,0))) (u:Value):(w.setCell ⟨b,4,none⟩ u).heap[b]? = some (.cells #[x0,x1,x2,x3,u,x5,x6,x7,x8,x9] t (0,0)):=by simp [World.setCell,Array.getElem?_modify,h]
theorem zcb {w:World} {b:Nat} {t:TypeId} {x0 x1 x2 x3 x4 x5 x6 x7 x8 x9:Value} (h:w.heap[b]? = some (.cells #[x0,x1,x2,x3,x4,x5,x6,x7,x8,x9] t (0,0))) (u:Value):(w.setCell ⟨b,5,none⟩ u).heap[b]? = some (.cells #[x0,x1,x2,x3,x4,u,x6,x7,x8,x9] t (0,0)):=by simp [World.setCell,Array.getElem?_modify,h]
theorem zcj {w:World} {b:Nat} {t:TypeId} {x0 x1 x2 x3 x4 x5 x6 x7 x8 x9:Value} (h:w.heap[b]? = some (.cells #[x0,x1,x2,x3,x4,x5,x6,x7,x8,x9] t (0,0))) (u:Value):(w.setCell ⟨b,6,none⟩ u).heap[b]? = some (.cells #[x0,x1,x2,x3,x4,x5,u,x7,x8,x9] t (0,0)):=by simp [World.setCell,Array.getElem?_modify,h]
theorem zch {w:World} {b:Nat} {t:TypeId} {x0 x1 x2 x3 x4 x5 x6 x7 x8 x9:Value} (h:w.heap[b]? = some (.cells #[x0,x1,x2,x3,x4,x5,x6,x7,x8,x9] t (0,0))) (u:Value):(w.setCell ⟨b,7,none⟩ u).heap[b]? = some (.cells #[x0,x1,x2,x3,x4,x5,x6,u,x8,x9] t (0,0)):=by simp [World.setCell,Array.getElem?_modify,h]
theorem zca {w:World} {b:Nat} {t:TypeId} {x0 x1 x2 x3 x4 x5 x6 x7 x8 x9:Value} (h:w.heap[b]? = some (.cells #[x0,x1,x2,x3,x4,x5,x6,x7,x8,x9] t (0,0))) (u:Value):(w.setCell ⟨b,8,none⟩ u).heap[b]? = some (.cells #[x0,x1,x2,x3,x4,x5,x6,x7,u,x9] t (0,0)):=by simp [World.setCell,Array.getElem?_modify,h]
theorem zcl {w:World} {b:Nat} {t:TypeId} {x0 x1 x2 x3 x4 x5 x6 x7 x8 x9:Value} (h:w.heap[b]? = some (.cells #[x0,x1,x2,x3,x4,x5,x6,x7,x8,x9] t (0,0))) (u:Value):(w.setCell ⟨b,9,none⟩ u).heap[b]? = some (.cells #[x0,x1,x2,x3,x4,x5,x6,x7,x8,u] t (0,0)):=by simp [World.setCell,Array.getElem?_modify,h]
theorem yart {w:World} {b:Nat} {t:TypeId} {x0 x1 x2 x3 x4 x5 x6 x7 x8 x9:Value} (h:w.heap[b]? = some (.cells #[x0,x1,x2,x3,x4,x5,x6,x7,x8,x9] t (0,0))) (p q r s:Value):(zlf w b p q r s).heap[b]? = some (.cells #[p,q,r,s,x4,x5,x6,x7,x8,x9] t (0,0)):=zbq (zbt (zbv (zbr h p) q) r) s
def zet (w:World) (b:Nat) (x0 x1 x2 x3 x4 x5 x6 x7 x8 x9:Value):World:=((((((((((w.setCell ⟨b,0,none⟩ x0).setCell ⟨b,1,none⟩ x1).setCell ⟨b,2,none⟩ x2).setCell ⟨b,3,none⟩ x3).setCell ⟨b,4,none⟩ x4).setCell ⟨b,5,none⟩ x5).setCell ⟨b,6,none⟩ x6).setCell ⟨b,7,none⟩ x7).setCell ⟨b,8,none⟩ x8).setCell ⟨b,9,none⟩ x9)
theorem zfn (w:World) (b:Nat) (x0 x1 x2 x3 x4 x5 x6 x7 x8 x9:Value):Outside b (b + 1) w (zet w b x0 x1 x2 x3 x4 x5 x6 x7 x8 x9):=by
 unfold zet
 repeat (refine Outside.setCell ?_ (by simp only; omega) (by simp only; omega) _)
 exact Outside.refl _ _ _
theorem zgp (w:World) (b:Nat) (x0 x1 x2 x3 x4 x5 x6 x7 x8 x9:Value):(zet w b x0 x1 x2 x3 x4 x5 x6 x7 x8 x9).heap.size = w.heap.size:=by simp [zet,World.setCell]
theorem tri3 {w:World} {b:Nat} {t:TypeId} {x y z:Value} (h:w.heap[b]? = some (.cells #[x,y,z] t (0,0))):w.cell? ⟨b,0,none⟩ = some x ∧ w.cell? ⟨b,1,none⟩ = some y ∧ w.cell? ⟨b,2,none⟩ = some z ∧ w.frozen? ⟨b,0,none⟩ = false ∧ w.frozen? ⟨b,1,none⟩ = false ∧ w.frozen? ⟨b,2,none⟩ = false:=by simp [World.cell?,World.frozen?,h]
def yaqh:List Value:=[.slice none 0 0,.slice none 0 0,.slice none 0 0,.slice none 0 0,.slice none 0 0,.slice none 0 0,.int .i64 0,.int .i64 0,.slice none 0 0,.bool false]
set_option maxHeartbeats 2000000 in
theorem zuo (va vb:Value) (ps:List Mi) (w:World) (ha:RdM w va ps) (hb:RdM w vb ps) (hn:ps.length ≤ 2147483648) :
  Calls Tryz.prog 38 #[va,vb] w fun e w' => e = .returned (.bool true) ∧ Below w.heap.size w w':=by
 obtain ⟨ao,cap,rfl,hcap,hc⟩:=ha.shape
 obtain ⟨ao2,cap2,rfl,hcap2,hc2⟩:=hb.shape
 clear ha hb
 go_enter Tryz.func38,Tryz.ntmps38
 go_wp2
 go_loopw [5] (fun i wr => ∃ k:Nat,k ≤ ps.length ∧ i = .int .i64 k ∧ Below w.heap.size w wr) (fun i _ => ps.length - (intOf i).toNat)
 case atStart => exact ⟨0,by omega,rfl,Below.refl _ _⟩
 case round =>
  obtain ⟨k,hk,rfl,hbw⟩:=hrel
  by_cases hlt:k < ps.length
  ·obtain ⟨b,o,rfl,hbl,hcell⟩:=hc (by omega)
   obtain ⟨b2,o2,rfl,hbl2,hcell2⟩:=hc2 (by omega)
   obtain ⟨c0,c1,c2⟩:=hcell k hlt
   obtain ⟨c3,c4,c5⟩:=hcell2 k hlt
   have d0:=(hbw.cell (p:=⟨b,o + k * 3,none⟩) hbl).trans c0
   have d1:=(hbw.cell (p:=⟨b,o + k * 3 + 1,none⟩) hbl).trans c1
   have d2:=(hbw.cell (p:=⟨b,o + k * 3 + 2,none⟩) hbl).trans c2
   have d3:=(hbw.cell (p:=⟨b2,o2 + k * 3,none⟩) hbl2).trans c3
   have d4:=(hbw.cell (p:=⟨b2,o2 + k * 3 + 1,none⟩) hbl2).trans c4
   have d5:=(hbw.cell (p:=⟨b2,o2 + k * 3 + 2,none⟩) hbl2).trans c5
   have hlt':(k:Int) < (ps.length:Int):=by omega
   have hge:(0:Int) ≤ (k:Int):=by omega
   have hz:=hbw.size
   clear hcell hcell2 hc hc2 c0 c1 c2 c3 c4 c5
   go_wp2_with fail
   go_region_with (go_at_call 85; refine (yafx _ _ _ _).mono ?_; rintro e w1 ⟨rfl,hb1⟩)
   all_goals
    go_wp2
    go_roundw
    case rel => exact ⟨k + 1,by omega,by go_num,hbw.trans (Below.mono (Below.trans ((Below.refl _ _).drew) ‹_›) hz)⟩
    case measure => simp [intOf]; omega
  ·go_wp2
   go_ret
   exact ⟨rfl,hbw⟩
def yarz (k:Int) (i:Nat):Mi:=⟨k + 3 * (i:Int),k + 3 * (i:Int) + 1,k + 3 * (i:Int) + 1 + 1⟩
def zgf (k:Int) (n:Nat):List Mi:=(List.range n).map (yarz k)
theorem zby (k:Int) (n:Nat):(zgf k n).length = n:=by simp [zgf]
theorem zyn (k:Int) (n i:Nat) (h:i < (zgf k n).length):(zgf k n)[i] = yarz k i:=by simp [zgf]
def IsMis (xs:List Value) (n:Nat):Prop:=∀ k,k < n → ∃ a b c,xs[k * 3]? = some (.int .i64 a) ∧ xs[k * 3 + 1]? = some (.int .i64 b) ∧ xs[k * 3 + 2]? = some (.int .i64 c)
theorem yawm (ps:List Mi):IsMis (mis ps) ps.length:=fun k hk => ⟨_,_,_,zps ps k hk,zpm ps k hk,zpj ps k hk⟩
theorem IsMis.put3 {ys:List Value} {n:Nat} (h:IsMis ys n) (hl:ys.length = n * 3) (k:Nat) (a b:Int) (c:Int):IsMis (put3 ys k (.int .i64 a) (.int .i64 b) (.int .i64 c)) n:=by
 intro j hj
 rw [zgt (by omega),zgt (by omega),zgt (by omega)]
 by_cases e:j = k
 ·subst e
  exact ⟨a,b,c,by simp,by simp,by simp⟩
 ·obtain ⟨x,y,z,h0,h1,h2⟩:=h j hj
  refine ⟨x,y,z,?_,?_,?_⟩
  ·rw [if_neg (by omega),if_neg (by omega),if_neg (by omega)]; exact h0
  ·rw [if_neg (by omega),if_neg (by omega),if_neg (by omega)]; exact h1
  ·rw [if_neg (by omega),if_neg (by omega),if_neg (by omega)]; exact h2
set_option maxHeartbeats 2000000 in
theorem zrc (v:Value) (n:Nat) (k0:Int) (w:World) (h:RdM w v (zgf k0 n)) (hn:n ≤ 2147483648) (h0:0 ≤ k0) (h1:k0 ≤ 1099511627776) :
  Calls Tryz.prog 59 #[v,.int .i64 k0] w fun e w' => e = .returned (.int .i64 (k0 + 3 * n)) ∧ w' = w:=by
 obtain ⟨ao,cap,rfl,hcap,hc⟩:=h.shape
 simp only [zby] at hcap hc ⊢
 clear h
 go_enter Tryz.func59,Tryz.ntmps59
 go_wp2
 go_loop [1,5] (fun c i => ∃ k:Nat,k ≤ n ∧ i = .int .i64 k ∧ c = .int .i64 (k0 + 3 * k)) (fun _ i => n - (intOf i).toNat)
 case atStart => exact ⟨0,by omega,rfl,by simp⟩
 case round =>
  obtain ⟨k,hk,rfl,rfl⟩:=hrel
  by_cases hlt:k < n
  ·obtain ⟨b,o,rfl,hbl,hcell⟩:=hc (by omega)
   obtain ⟨c0,c1,c2⟩:=hcell k hlt
   rw [zyn] at c0 c1 c2
   simp only [yarz] at c0 c1 c2
   clear hcell hc
   go_wp2
   go_round
   case rel => exact ⟨k + 1,by omega,by go_num,by go_num⟩
   case measure => simp [intOf]; omega
  ·have e:k = n:=by omega
   subst e
   go_wp2
   go_ret
   exact ⟨rfl,rfl⟩
end Go.Proofs.YtlkmnpanddchdaaGreatDoor
