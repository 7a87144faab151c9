/- Several texts laid together: TrD, JiF, JiG, JiH, JrE. -/
import Derived.Test.YtipklbnfobckaaaGreatDoorZBF
import Derived.Laws.CopyOwn
import Derived.Laws.Cover3
import Derived.Test.YtipklbnfobckaaaGreatDoorZAQ
import Derived.Test.YtipklbnfobckaaaGreatDoorZAF
import Derived.Test.YtipklbnfobckaaaGreatDoorZBB
import Derived.Test.YtipklbnfobckaaaGreatDoorZBA
import Derived.Test.YtipklbnfobckaaaGreatDoorZAC
namespace Go.Proofs.YtipklbnfobckaaaGreatDoor
open Go.RowKit

/-- A number of heat. -/
def isH (n : Int) : Bool := decide (0 ≤ n ∧ n < 65)
def zoq (zs : List Int) : Bool := decide (∀ k (h : k < zs.length), isH zs[k] = true)
theorem heatsB_mk {zs : List Int} (h : ∀ k (h : k < zs.length), isH zs[k] = true) : zoq zs = true := decide_eq_true h
theorem heatsB_not {zs : List Int} {k : Nat} (hk : k < zs.length) (h : isH zs[k] = false) : zoq zs = false := decide_eq_false (fun x => by have := x k hk; rw [h] at this; cases this)
theorem heat_every {hs : List Int} : zcn hs = (decide (hs.length = 128) && zoq hs) := by
 unfold zcn zoq isH
 rw [Bool.eq_iff_iff, Bool.and_eq_true]
 simp only [decide_eq_true_eq]
 constructor
 ·exact fun h => ⟨h.1, fun k hk => ⟨(h.2 k hk).1, by have := (h.2 k hk).2; omega⟩⟩
 ·exact fun h => ⟨h.1, fun k hk => ⟨(h.2 k hk).1, by have := (h.2 k hk).2; omega⟩⟩

theorem zoi (n : Int) (w : World) : Calls Tryz.prog 106 #[.int .i64 n] w fun e w' => e = .returned (.bool (isH n)) ∧ w' = w := by
 by_cases h : 0 ≤ n ∧ n < 65
 ·have e : isH n = true := decide_eq_true h
  rw [e]; clear e
  go_enter Tryz.func106, Tryz.ntmps106
  go_wp2_with fail
  refine (zal _ _ _ h).mono ?_
  rintro e w' ⟨rfl, hw'⟩
  subst w'
  go_wp2
  go_ret
  exact ⟨rfl, rfl⟩
 ·have e : isH n = false := decide_eq_false h
  rw [e]; clear e
  go_enter Tryz.func106, Tryz.ntmps106
  go_wp2_with fail
  refine (zaq _ _ _ h).mono ?_
  rintro e w' ⟨rfl, hw'⟩
  subst w'
  go_wp2
  go_ret
  exact ⟨rfl, rfl⟩

set_option maxHeartbeats 2000000 in
theorem zpf (v : Value) (zs : List Int) (w : World) (h : RdI w v zs) (hn : zs.length ≤ 2147483648) :
  Calls Tryz.prog 105 #[v, .func (.func 106) #[] #[]] w fun e w' => e = .returned (.bool (zoq zs)) ∧ w' = w := by
 obtain ⟨ao, cap, rfl, _, hc⟩ := h.shape
 clear h
 go_enter Tryz.func105, Tryz.ntmps105
 go_wp2
 go_loop [6, 9] (fun _ i => ∃ k : Nat, k ≤ zs.length ∧ i = .int .i64 k ∧ Hid (∀ j (h : j < zs.length), j < k → isH zs[j] = true)) (fun _ i => zs.length - (intOf i).toNat)
 case atStart => exact ⟨0, by omega, rfl, fun j h a => absurd a (by omega)⟩
 case round =>
  obtain ⟨k, hk, rfl, H⟩ := hrel
  by_cases hlt : k < zs.length
  ·obtain ⟨b, o, rfl, hbl, hcell⟩ := hc (by omega)
   have hck := hcell k hlt
   clear hcell hc
   by_cases q : isH zs[k] = true
   ·go_wp2_with (go_at_call 106; refine (zoi _ _).mono ?_; rintro e w' ⟨rfl, rfl⟩)
    go_round
    case rel =>
     refine ⟨k + 1, by omega, by go_num, fun j h a => ?_⟩
     by_cases e : j = k
     ·subst e; exact q
     ·exact H.out j h (by omega)
    case measure => simp [intOf]; omega
   ·have q' : isH zs[k] = false := by simpa using q
    have E := zaa (heatsB_not hlt q')
    go_wp2_with (go_at_call 106; refine (zoi _ _).mono ?_; rintro e w' ⟨rfl, rfl⟩)
    go_ret
    exact ⟨zac E.out.symm, rfl⟩
  ·have E := zaa (heatsB_mk (fun j h => H.out j h (by omega)))
   clear H
   go_wp2
   go_ret
   exact ⟨zac E.out.symm, rfl⟩

set_option maxRecDepth 100000 in
set_option maxHeartbeats 4000000 in
theorem zgq (v : Value) (hs : List Int) (w : World) (h : RdI w v hs) (hn : hs.length ≤ 1048576) : Calls Tryz.prog 51 #[v] w fun e w' => e = .returned (.bool (zcn hs)) ∧ w' = w := by
 have LE := zaa (zpf v hs w h (by omega))
 obtain ⟨ao, cap, rfl, -, -⟩ := h.shape
 rw [heat_every]
 clear h
 generalize zoq hs = b at *
 by_cases c : hs.length = 128
 ·rw [decide_eq_true c, Bool.true_and]
  have q : ((hs.length : Int) == 128) = true := by rw [beq_iff_eq]; omega
  clear c
  go_enter Tryz.func51, Tryz.ntmps51
  go_wp2_with fail
  refine LE.out.mono ?_
  rintro e w' ⟨rfl, hw'⟩
  subst w'
  go_wp2
  go_ret
  exact ⟨rfl, rfl⟩
 ·rw [decide_eq_false c, Bool.false_and]
  have q : ((hs.length : Int) == 128) = false := by rw [beq_eq_false_iff_ne]; omega
  clear c LE
  go_enter Tryz.func51, Tryz.ntmps51
  go_wp2
  go_ret
  exact ⟨rfl, rfl⟩

/-- What is wrong about heat. -/
def hfI (hs : List Int) : Int := if 4096 < hs.length then 2 else if zcn hs = true then 0 else 1
set_option maxRecDepth 100000 in
set_option maxHeartbeats 4000000 in
theorem zhy (v : Value) (hs : List Int) (w : World) (h : RdI w v hs) (hn : hs.length ≤ 1048576) : Calls Tryz.prog 143 #[v] w fun e w' => e = .returned (.int .i64 (hfI hs)) ∧ w' = w := by
 have LE := zaa (zgq v hs w h hn)
 have EO := zaa (show hfI hs = if 4096 < hs.length then 2 else if zcn hs = true then 0 else 1 from rfl)
 obtain ⟨ao, cap, rfl, -, -⟩ := h.shape
 generalize hfI hs = r at *
 generalize zcn hs = b at *
 clear h
 by_cases c1 : 4096 < hs.length
 ·rw [if_pos c1] at EO
  obtain rfl := EO.out
  have c2 : (hs.length : Int) > 4096 := by omega
  clear EO c1 LE
  go_enter Tryz.func143, Tryz.ntmps143
  go_wp2
  go_ret
  exact ⟨rfl, rfl⟩
 rw [if_neg c1] at EO
 have c2 : ¬ (hs.length : Int) > 4096 := by omega
 clear c1
 cases b
 all_goals
  simp only [if_true, Bool.false_eq_true, if_false] at EO
  obtain rfl := EO.out
  clear EO
  go_enter Tryz.func143, Tryz.ntmps143
  go_wp2_with fail
  refine LE.out.mono ?_
  rintro e w' ⟨rfl, hw'⟩
  subst w'
  go_wp2
  go_ret
  exact ⟨rfl, rfl⟩

@[go_sem] theorem eqlNilInt (a : Option Addr) (l c : Nat) (w : World) : (binOp .eql 22 (.slice a l c) (.slice none 0 0)).run Tryz.prog w = .ok (.bool a.isNone) w := by
 simp only [binOp]
 simp [run_equal_slice_nil w 22 3 a l c Tryz.underlying22]

end Go.Proofs.YtipklbnfobckaaaGreatDoor

namespace Go.Proofs.YtipklbnfobckaaaGreatDoor
open Go.RowKit

theorem zjx (zs : List Int) : zkr zs = allP zs := by
 unfold zkr allP
 rw [decide_eq_decide]
 exact ⟨fun h k hk => zhf (h k hk), fun h k hk => decide_eq_true (h k hk)⟩
/-- As many times 'false' as there are lines. -/
def zkb : Array Value := (List.replicate 42 (Value.bool false)).toArray
theorem run_fals42 (w : World) : (zeroValue 341).run Tryz.prog w = .ok (.agg zkb) w := by kernel_rfl
theorem zku : zkb.size = 42 := by unfold zkb; rw [List.size_toArray, List.length_replicate]
theorem fals42_at (k : Nat) (hk : k < 42) : zkb[k]? = some (.bool false) := by unfold zkb; rw [List.getElem?_toArray, List.getElem?_replicate, if_pos hk]
/-- A place ahead has this line. -/
def zgc (zs : List Int) (m j : Nat) : Bool := (List.range m).any (fun i => zs[i]?.getD 0 / 8 == (j : Int))
theorem lineB_succ (zs : List Int) (m j : Nat) : zgc zs (m + 1) j = (zgc zs m j || (zs[m]?.getD 0 / 8 == (j : Int))) := by
 unfold zgc
 rw [List.range_succ, List.any_append]
 simp
theorem zut (zs : List Int) (m : Nat) (hm : m < zs.length) (h0 : 0 ≤ zs[m]) : zgc zs m (zs[m] / 8).toNat = zmm zs m := by
 have e : (((zs[m] / 8).toNat : Nat) : Int) = zs[m] / 8 := by omega
 unfold zgc zmm
 rw [e, List.getElem?_eq_getElem hm]
 rfl

set_option maxRecDepth 100000 in
set_option maxHeartbeats 4000000 in
theorem ziw (v : Value) (zs : List Int) (w : World) (h : RdI w v zs) (hn : zs.length ≤ 1048576) :
  Calls Tryz.prog 319 #[v] w fun e w' => ∃ v', e = .returned (.tuple #[v', .int .i64 (flC zs)]) ∧ Row w' 79 3 w.heap.size w'.heap.size v' (fpL zs).length (mis (fpL zs)) ∧ Below w.heap.size w w' := by
 have HR := zaa h
 obtain ⟨aZ, cZ, rfl, _, hcZ⟩ := h.shape
 have HZ := zaa hcZ
 clear h hcZ
 rcases fp_cases zs with ⟨c1, e1, e2⟩ | ⟨c1, c2, e1, e2⟩ | ⟨c1, c2, c3, e1, e2⟩ | ⟨c1, c2, c3, e1, e2⟩
 ·rw [e1, e2]
  clear e1 e2
  go_enter Tryz.func319, Tryz.ntmps319
  go_wp2
  go_ret2
  exact ⟨_, rfl, Row.nil _ _ _ _ _, Below.refl _ _⟩
 ·rw [e1, e2]
  clear e1 e2
  go_enter Tryz.func319, Tryz.ntmps319
  go_wp2
  go_ret2
  exact ⟨_, rfl, Row.nil _ _ _ _ _, Below.refl _ _⟩
 ·rw [e1, e2]
  have C3 := zaa ((zjx zs).trans c3)
  clear c3 e1 e2
  go_enter Tryz.func319, Tryz.ntmps319
  go_wp2_with (go_at_call 105; refine (zgs _ zs _ HR.out (by omega)).mono ?_; rw [C3.out]; rintro e w' ⟨rfl, hw'⟩; subst w')
  go_ret2
  exact ⟨_, rfl, Row.nil _ _ _ _ _, Below.refl _ _⟩
 ·rw [e1, e2]
  have C3 := zaa ((zjx zs).trans c3)
  have Z0 := zaa (of_decide_eq_true c3 : ∀ k (h : k < zs.length), 0 ≤ zs[k] ∧ zs[k] < 336)
  clear c3 e1 e2
  have hal := run_fals42
  have START : Hid ((w.alloc (.cells zkb 341)).rowIs w.heap.size 341 42 (fun k => .bool (zgc zs 0 k))) := by
   have := World.rowIs_alloc w zkb 341 (fun k => .bool (zgc zs 0 k)) (fun k hk => by rw [zku] at hk; rw [fals42_at k hk]; rfl)
   rw [zku] at this
   exact this
  have BS := zaa ((Below.refl w.heap.size w).alloc (Nat.le_refl _) (.cells zkb 341))
  go_enter Tryz.func319, Tryz.ntmps319
  go_wp2_with (go_at_call 105; refine (zgs _ zs _ HR.out (by omega)).mono ?_; rw [C3.out]; rintro e w' ⟨rfl, hw'⟩; subst w')
  clear hal
  go_loopw [5, 7, 8, 20] (fun vL _ _ i wr => ∃ m : Nat, m ≤ zs.length ∧ i = .int .i64 m ∧ Hid (wr.ownsRow (w.heap.size + 1) 79 3 vL (nl zs m).length (mis (nl zs m)) ∧ Below w.heap.size w wr ∧ wr.rowIs w.heap.size 341 42 (fun k => .bool (zgc zs m k))) ∧ w.heap.size + 1 ≤ wr.heap.size) (fun _ _ _ i _ => zs.length - (intOf i).toNat)
  case atStart => exact ⟨0, by omega, rfl, ⟨World.ownsRow_nil _ _ _ _, BS.out, START.out⟩, by simp⟩
  case round =>
   obtain ⟨m, hm, rfl, I, hz⟩ := hrel
   by_cases hlt : m < zs.length
   ·obtain ⟨b, o, rfl, hbl, hcell⟩ := HZ.out (by omega)
    have d0 := (I.out.2.1.cell (p := ⟨b, o + m, none⟩) hbl).trans (hcell m hlt)
    have p0 := Z0.out m hlt
    have KN := zaa (zut zs m hlt p0.1)
    have SU := zaa (fun j => (lineB_succ zs m j).trans (by rw [List.getElem?_eq_getElem hlt]; rfl) : ∀ j, zgc zs (m + 1) j = (zgc zs m j || (zs[m] / 8 == (j : Int))))
    have NX := zaa (show nl zs (m + 1) = if zmm zs m = true then nl zs m else nl zs m ++ [⟨2, zs[m], 0⟩] by rw [nl, List.getElem?_eq_getElem hlt]; rfl)
    have g0 := I.out.2.2.frozen (zs[m] / 8).toNat
    have g1 := I.out.2.2.cell (i := (zs[m] / 8).toNat) (by omega)
    have m0 : (0 : Int) ≤ (m : Int) := by omega
    have m1 : (m : Int) < (zs.length : Int) := by omega
    clear hcell
    generalize zs[m] = y at *
    obtain ⟨y0, y1⟩ := p0
    have t0 : 0 ≤ y / 8 := by omega
    have t1 : y / 8 < 42 := by omega
    have yt : Hid (((y / 8).toNat : Int) = y / 8) := by show (((y / 8).toNat : Nat) : Int) = y / 8; omega
    cases hk : zmm zs m
    ·rw [KN.out, hk] at g1
     have E := zaa (NX.out.trans (by rw [hk]; rfl) : nl zs (m + 1) = nl zs m ++ [⟨2, y, 0⟩])
     have F := zaa (I.out.2.2.set (y / 8).toNat (.bool true))
     have B2 := zaa (I.out.2.1.setCell (p := ⟨w.heap.size, (y / 8).toNat, none⟩) (Nat.le_refl _) (.bool true))
     have O1 : (wr.setCell ⟨w.heap.size, (y / 8).toNat, none⟩ (.bool true)).ownsRow (w.heap.size + 1) 79 3 u5 (nl zs m).length (mis (nl zs m)) := ownsRow_setCell_below I.out.1 (by simp only; omega) _
     have hle := zws zs m
     have FR := zaa (fun k (_ : k < 42) => show (if k = (y / 8).toNat then Value.bool true else Value.bool (zgc zs m k)) = Value.bool (zgc zs (m + 1) k) by
      rw [SU.out]
      by_cases e : k = (y / 8).toNat
      ·rw [if_pos e, e, yt.out]; simp
      ·rw [if_neg e]
       have : (y / 8 == (k : Int)) = false := by rw [beq_eq_false_iff_ne]; omega
       rw [this, Bool.or_false])
     obtain ⟨wb, hwb⟩ : ∃ wb : World, wb = wr.setCell ⟨w.heap.size, (y / 8).toNat, none⟩ (.bool true) := ⟨_, rfl⟩
     have hzb : wb.heap.size = wr.heap.size := by rw [hwb]; simp [World.setCell]
     have O2 : Hid ((wb.alloc (.cells #[.int .i64 2, .int .i64 y, .int .i64 0] 79)).ownsRow (w.heap.size + 1) 79 3 u5 (nl zs m).length (mis (nl zs m))) := by rw [hwb]; exact O1.alloc _
     have HRD : Hid (Rd (wb.alloc (.cells #[.int .i64 2, .int .i64 y, .int .i64 0] 79)) 3 (.slice (some ⟨wr.heap.size, 0, none⟩) 1 1) 1 (Mi.cells ⟨2, y, 0⟩)) := by rw [← hzb]; exact zoa wb 2 y 0
     have BB : Hid (Below w.heap.size w wb) := by rw [hwb]; exact B2.out
     have FF : Hid (wb.rowIs w.heap.size 341 42 (fun k => .bool (zgc zs (m + 1) k))) := by rw [hwb]; exact F.out.congr FR.out
     clear hk O1 B2 F FR
     go_wp2_with (at_builtin; rw [← hwb]; refine zai _ rfl (.tmp 32) (.tmp 35) 47 rfl (w.heap.size + 1) 79 (.agg #[.int .i64 0, .int .i64 0, .int .i64 0]) 3 24 Tryz.underlying47 zcb rfl (by decide) _ _ _ rfl O2.out _ 1 _ rfl HRD.out (zlg _) (by simp [maxLen]; omega) (by omega) (by simp; omega) ?_)
     intro vN wN hownN hgrN
     rw [← hwb] at hgrN
     have hl := fun q hq => (O2.out.lt q hq).1
     have hzN := hgrN.size
     simp only [World.size_alloc] at hzN
     have G : Hid (wN.ownsRow (w.heap.size + 1) 79 3 vN (nl zs (m + 1)).length (mis (nl zs (m + 1))) ∧ Below w.heap.size w wN ∧ wN.rowIs w.heap.size 341 42 (fun k => .bool (zgc zs (m + 1) k))) := by
      refine ⟨?_, (BB.out.alloc (by omega) (.cells #[.int .i64 2, .int .i64 y, .int .i64 0] 79)).grown hgrN (by simp; omega) (fun q hq => by have := hl q hq; omega), ?_⟩
      ·rw [E.out, zkm, List.length_append]
       exact hownN
      ·obtain ⟨cs, hh, h1, h2⟩ := FF.out.alloc (.cells #[.int .i64 2, .int .i64 y, .int .i64 0] 79)
       exact ⟨cs, (hgrN.block w.heap.size (by simp; omega) (fun e => by have := hl _ e.symm; omega)).trans hh, h1, h2⟩
     clear hownN hgrN hl
     go_wp2
     go_roundw
     case rel => exact ⟨m + 1, by omega, by go_num, G, by omega⟩
     case measure => simp [intOf]; omega
    ·rw [KN.out, hk] at g1
     have E := zaa (NX.out.trans (by rw [hk]; rfl) : nl zs (m + 1) = nl zs m)
     have HK := zaa hk
     clear hk
     go_wp2
     go_roundw
     case rel =>
      refine ⟨m + 1, by omega, by go_num, ⟨by rw [E.out]; exact I.out.1, I.out.2.1, I.out.2.2.congr (fun k hk => ?_)⟩, hz⟩
      show Value.bool (zgc zs m k) = Value.bool (zgc zs (m + 1) k)
      rw [SU.out]
      by_cases e : y / 8 = (k : Int)
      ·have : zgc zs m k = true := by rw [show k = (y / 8).toNat by omega, KN.out]; exact HK.out
       rw [this]; rfl
      ·rw [show (y / 8 == (k : Int)) = false by rw [beq_eq_false_iff_ne]; exact e, Bool.or_false]
     case measure => simp [intOf]; omega
   ·obtain rfl : m = zs.length := by omega
    have E := zaa (show zaw zs = nl zs zs.length ++ [⟨3, 0, 0⟩] from rfl)
    have O2 := zaa (I.out.1.alloc (.cells #[.int .i64 3, .int .i64 0, .int .i64 0] 79))
    have HRD := zaa (zoa wr 3 0 0)
    have hle := zws zs zs.length
    go_wp2_with (at_builtin; refine zai _ rfl (.tmp 38) (.tmp 40) 47 rfl (w.heap.size + 1) 79 (.agg #[.int .i64 0, .int .i64 0, .int .i64 0]) 3 24 Tryz.underlying47 zcb rfl (by decide) _ _ _ rfl O2.out _ 1 _ rfl HRD.out (zlg _) (by simp [maxLen]; omega) (by omega) (by simp; omega) ?_)
    intro vN wN hownN hgrN
    have hl := fun q hq => (O2.out.lt q hq).1
    have G : Hid (wN.ownsRow (w.heap.size + 1) 79 3 vN (zaw zs).length (mis (zaw zs)) ∧ Below w.heap.size w wN) := by
     refine ⟨?_, (I.out.2.1.alloc (by omega) (.cells #[.int .i64 3, .int .i64 0, .int .i64 0] 79)).grown hgrN (by simp; omega) (fun q hq => by have := hl q hq; omega)⟩
     rw [E.out, zkm, List.length_append]
     exact hownN
    clear hownN hgrN hl
    obtain ⟨aL, cL, hvL⟩ := RdM.form (zaf G.out.1).rd rfl
    subst hvL
    go_wp2
    go_ret2
    exact ⟨_, rfl, (zaf G.out.1).wide (by omega) (Nat.le_refl _), G.out.2⟩
end Go.Proofs.YtipklbnfobckaaaGreatDoor

namespace Go.Proofs.YtipklbnfobckaaaGreatDoor
open Go.RowKit

theorem zvl (i : Nat) (a x : Int) (w : World) : Calls Tryz.prog 274 #[.int .i64 (i : Int), .agg #[.int .i64 a, .int .i64 x]] w fun e w' => ∃ v', e = .returned v' ∧ RdM w' v' [⟨1, a, x⟩] ∧ Below w.heap.size w w' := by
 have R := zaa (zoa (w.alloc (.cells #[.int .i64 a, .int .i64 x] 244)) 1 a x)
 have B : Hid (Below w.heap.size w ((w.alloc (.cells #[.int .i64 a, .int .i64 x] 244)).alloc (.cells #[.int .i64 1, .int .i64 a, .int .i64 x] 79))) := ((Below.refl _ _).alloc (Nat.le_refl _) _).alloc (by simp) _
 go_enter Tryz.func274, Tryz.ntmps274
 go_wp2
 go_ret
 exact ⟨_, rfl, by unfold RdM; rw [mis_one_]; simpa using R.out, B.out⟩

theorem World.ownsRow.below {w w' : World} {base : Nat} {e : TypeId} {size : Nat} {v : Value} {n : Nat} {xs : List Value} (h : w.ownsRow base e size v n xs) (hb : Below w.heap.size w w') : w'.ownsRow base e size v n xs := by
 obtain ⟨hl, h⟩ := h
 refine ⟨hl, ?_⟩
 rcases h with h | ⟨g, cap, cur, h1, h2, h3, h4⟩
 ·exact .inl h
 ·exact .inr ⟨g, cap, cur, h1, h2, (hb.block g (Array.getElem?_eq_some_iff.1 h3).1).trans h3, h4⟩

set_option maxRecDepth 100000 in
set_option maxHeartbeats 4000000 in
theorem zop (v : Value) (us : List Se) (w : World) (h : RdE w v us) (hn : us.length ≤ 64) :
  Calls Tryz.prog 273 #[v, .func (.func 274) #[] #[]] w fun e w' => ∃ v', e = .returned v' ∧ Row w' 79 3 w.heap.size w'.heap.size v' (apM us us.length).length (mis (apM us us.length)) ∧ Below w.heap.size w w' := by
 obtain ⟨aU, cU, rfl, _, hcU⟩ := h.shape
 have HU := zaa hcU
 clear h hcU
 go_enter Tryz.func273, Tryz.ntmps273
 go_wp2
 go_loopw [5, 6, 7, 10] (fun vL _ _ i wr => ∃ m : Nat, m ≤ us.length ∧ i = .int .i64 m ∧ Hid (wr.ownsRow w.heap.size 79 3 vL (apM us m).length (mis (apM us m)) ∧ Below w.heap.size w wr) ∧ w.heap.size ≤ wr.heap.size) (fun _ _ _ i _ => us.length - (intOf i).toNat)
 case atStart => exact ⟨0, by omega, rfl, ⟨World.ownsRow_nil _ _ _ _, Below.refl _ _⟩, Nat.le_refl _⟩
 case round =>
  obtain ⟨m, hm, rfl, I, hz⟩ := hrel
  by_cases hlt : m < us.length
  ·obtain ⟨b, o, rfl, hbl, hcell⟩ := HU.out (by omega)
   obtain ⟨d0, d1⟩ := hcell m hlt
   have e0 := (I.out.2.cell (p := ⟨b, o + m * 2, none⟩) hbl).trans d0
   have e1 := (I.out.2.cell (p := ⟨b, o + m * 2 + 1, none⟩) hbl).trans d1
   have m0 : (0 : Int) ≤ (m : Int) := by omega
   have m1 : (m : Int) < (us.length : Int) := by omega
   have NX := zaa (apM_succ us m hlt)
   have hle := apM_len us m
   clear d0 d1 hcell
   generalize us[m].at_ = a at *
   generalize us[m].val = x at *
   obtain ⟨wb, hwb⟩ : ∃ wb : World, wb = wr.alloc (.cells #[.int .i64 a, .int .i64 x] 244) := ⟨_, rfl⟩
   have BB : Hid (Below wr.heap.size wr wb) := by rw [hwb]; exact (Below.refl _ _).alloc (Nat.le_refl _) _
   have hzb : wr.heap.size ≤ wb.heap.size := BB.out.size
   have OB : Hid (wb.ownsRow w.heap.size 79 3 u5 (apM us m).length (mis (apM us m))) := by rw [hwb]; exact I.out.1.alloc _
   go_wp2_with (first
    | (go_at_call 274; rw [← hwb]; refine (zvl m a x wb).mono ?_; rintro e w1 ⟨v1, rfl, hr1, hb1⟩; have O1 := zaa (World.ownsRow.below OB.out hb1); have R1 := zaa hr1; have B1 := zaa hb1; have hz1 : wb.heap.size ≤ w1.heap.size := hb1.size; obtain ⟨a1, c1, rfl, -, -⟩ := hr1.shape; clear hr1 hb1)
    | (at_builtin; refine zai _ rfl (.tmp 15) (.tmp 19) 47 rfl w.heap.size 79 (.agg #[.int .i64 0, .int .i64 0, .int .i64 0]) 3 24 Tryz.underlying47 zcb rfl (by decide) _ _ _ rfl O1.out _ 1 _ rfl R1.out (zdn _) (by simp [maxLen]; omega) (by omega) (by omega) ?_))
   intro vN wN hownN hgrN
   have hl := fun q hq => (O1.out.lt q hq).1
   have hzN := hgrN.size
   have G : Hid (wN.ownsRow w.heap.size 79 3 vN (apM us (m + 1)).length (mis (apM us (m + 1))) ∧ Below w.heap.size w wN) := by
    refine ⟨?_, ((I.out.2.trans (BB.out.mono hz)).trans (B1.out.mono (by omega))).grown hgrN (by omega) (fun q hq => hl q hq)⟩
    rw [NX.out, zjd, List.length_append]
    exact hownN
   clear hownN hgrN hl
   go_wp2
   go_roundw
   case rel => exact ⟨m + 1, by omega, by go_num, G, by omega⟩
   case measure => simp [intOf]; omega
  ·obtain rfl : m = us.length := by omega
   obtain ⟨aL, cL, hvL⟩ := RdM.form (zaf I.out.1).rd rfl
   subst hvL
   go_wp2
   go_ret
   exact ⟨_, rfl, zaf I.out.1, I.out.2⟩
end Go.Proofs.YtipklbnfobckaaaGreatDoor

namespace Go.Proofs.YtipklbnfobckaaaGreatDoor
open Go.RowKit

/-- The places of steps. -/
def atsM (S : List Mi) (j : Nat) : List Int := (S.take j).map (·.at_)
def zmy (S : List Mi) : List Int := S.map (·.at_)
theorem atsM_len (S : List Mi) (j : Nat) : (atsM S j).length ≤ j := by simp [atsM]; omega
theorem atsM_succ (S : List Mi) (j : Nat) (h : j < S.length) : atsM S (j + 1) = atsM S j ++ [S[j].at_] := by unfold atsM; rw [List.take_succ_eq_append_getElem h, List.map_append]; rfl
theorem atsM_all (S : List Mi) (j : Nat) (h : S.length ≤ j) : atsM S j = zmy S := by unfold atsM zmy; rw [List.take_of_length_le h]
theorem zqv (S : List Mi) : (zmy S).length = S.length := by simp [zmy]
/-- A part: its steps, their lines flushed, a fence. -/
def segM (S : List Mi) : List Mi := S ++ zaw (zmy S)
def zci : List (List Mi) → Nat → List Mi
 | [], _ => []
 | _ :: _, 0 => []
 | P :: Ps, k + 1 => segM P ++ zci Ps k
theorem zol (Ps : List (List Mi)) : zci Ps 0 = [] := by cases Ps <;> rfl
theorem znx : ∀ (Ps : List (List Mi)) (k : Nat) (h : k < Ps.length), zci Ps (k + 1) = zci Ps k ++ Ps[k] ++ zaw (zmy Ps[k])
 | [], k, h => absurd h (by simp)
 | P :: Ps, 0, h => by simp [zci, zol, segM]
 | P :: Ps, k + 1, h => by
   have := znx Ps k (by simpa using h)
   simp only [zci, List.getElem_cons_succ]
   rw [this]
   simp
/-- A part that can be planned. -/
def PartOK (S : List Mi) : Prop := S.length ≤ 50 ∧ ∀ k (h : k < S.length), 0 ≤ S[k].at_ ∧ S[k].at_ < 336
theorem part_fp {S : List Mi} (h : PartOK S) : flC (zmy S) = 0 ∧ fpL (zmy S) = zaw (zmy S) := by
 have hl : (zmy S).length = S.length := zqv S
 rcases fp_cases (zmy S) with ⟨c, _⟩ | ⟨_, c, _⟩ | ⟨_, _, c, _⟩ | ⟨_, _, _, c⟩
 ·have := h.1; omega
 ·have := h.1; omega
 ·have : allP (zmy S) = true := decide_eq_true (fun k hk => by simp only [zmy, List.getElem_map]; exact h.2 k (by omega))
  rw [this] at c; cases c
 ·exact c
theorem ztj : ∀ (Ps : List (List Mi)) (k : Nat), (∀ P ∈ Ps, P.length ≤ 50) → (zci Ps k).length ≤ 102 * k
 | [], k, _ => by simp [zci]
 | _ :: _, 0, _ => by simp [zci]
 | P :: Ps, k + 1, h => by
   have h1 := ztj Ps k (fun Q hQ => h Q (List.mem_cons_of_mem _ hQ))
   have h2 := h P List.mem_cons_self
   have h3 := zcy (zmy P)
   simp only [zci, segM, List.length_append]
   rw [zqv] at h3
   omega
theorem rd_grown {a b : World} {size : Nat} {v r : Value} {n : Nat} {xs : List Value} (h : Rd a size v n xs) (hg : a.grownBy b r.ownBlock) (hne : ∀ q, v.ownBlock = some q → r.ownBlock = some q → False) : Rd b size v n xs :=
 h.same hg.size (fun q hq e => hg.block q hq (fun e' => hne q e e'.symm))
set_option maxRecDepth 100000 in
set_option maxHeartbeats 8000000 in
theorem zfo (b o cap : Nat) (Ps : List (List Mi)) (w : World) (hb : b < w.heap.size) (hn : Ps.length ≤ 1000)
  (hP : ∀ k (h : k < Ps.length), ∃ a c, w.cell? ⟨b, o + k, none⟩ = some (.slice a Ps[k].length c) ∧ RdM w (.slice a Ps[k].length c) Ps[k]) (hok : ∀ k (h : k < Ps.length), PartOK Ps[k]) :
  Calls Tryz.prog 272 #[.slice (some ⟨b, o, none⟩) Ps.length cap] w fun e w' => ∃ v', e = .returned v' ∧ Row w' 79 3 w.heap.size w'.heap.size v' (zci Ps Ps.length).length (mis (zci Ps Ps.length)) ∧ Below w.heap.size w w' := by
 have HP := zaa hP
 have OK := zaa hok
 have LE := zaa (fun k => ztj Ps k (fun P hP => by obtain ⟨i, hi, rfl⟩ := List.getElem_of_mem hP; exact (hok i hi).1))
 clear hP hok
 go_enter Tryz.func272, Tryz.ntmps272
 go_wp2
 go_loopw [3, 5, 6, 8, 9, 10, 13] (fun vL _ _ _ _ _ i wr => ∃ k : Nat, k ≤ Ps.length ∧ i = .int .i64 k ∧ Hid (wr.ownsRow w.heap.size 79 3 vL (zci Ps k).length (mis (zci Ps k)) ∧ Below w.heap.size w wr) ∧ w.heap.size ≤ wr.heap.size) (fun _ _ _ _ _ _ i _ => Ps.length - (intOf i).toNat)
 case atStart => exact ⟨0, by omega, rfl, ⟨by rw [zol]; exact World.ownsRow_nil _ _ _ _, Below.refl _ _⟩, Nat.le_refl _⟩
 case round =>
  obtain ⟨k, hk, rfl, I, hz⟩ := hrel
  by_cases hlt : k < Ps.length
  ·obtain ⟨aS, cS, hcell, hrd⟩ := HP.out k hlt
   have d0 := (I.out.2.cell (p := ⟨b, o + k, none⟩) hb).trans hcell
   have RS := zaa hrd
   have PO := zaa (OK.out k hlt)
   have NX := zaa (znx Ps k hlt)
   have hle := LE.out k
   have hsl : Ps[k].length ≤ 50 := PO.out.1
   have k0 : (0 : Int) ≤ (k : Int) := by omega
   have k1 : (k : Int) < (Ps.length : Int) := by omega
   obtain ⟨aS', cS', e', -, hcS⟩ := hrd.shape
   cases e'
   have CS := zaa hcS
   clear hcell hrd hcS
   generalize Ps[k] = S at *
   have J0 : Hid (PlI w wr u3 (.slice none 0 0) (zci Ps k) (atsM S 0)) := ⟨I.out.1, World.ownsRow_nil _ _ _ _, I.out.2, hz⟩
   go_wp2
   go_loopw [6, 8, 19] (fun vP _ i wq => ∃ j : Nat, j ≤ S.length ∧ i = .int .i64 j ∧ Hid (PlI w wq u3 vP (zci Ps k) (atsM S j))) (fun _ _ i _ => S.length - (intOf i).toNat)
   case atStart => exact ⟨0, by omega, rfl, J0⟩
   case round =>
    obtain ⟨j, hj, rfl, J⟩ := hrel
    clear J0
    have hzq := J.out.z
    have hpl := atsM_len S j
    by_cases hlj : j < S.length
    ·obtain ⟨bS, oS, rfl, hbS, hcS⟩ := CS.out (by omega)
     obtain ⟨g0, g1, g2⟩ := hcS j hlj
     have e0 := (J.out.b.cell (p := ⟨bS, oS + j * 3, none⟩) hbS).trans g0
     have e1 := (J.out.b.cell (p := ⟨bS, oS + j * 3 + 1, none⟩) hbS).trans g1
     have e2 := (J.out.b.cell (p := ⟨bS, oS + j * 3 + 2, none⟩) hbS).trans g2
     have TN := zaa (atsM_succ S j hlj)
     have j0 : (0 : Int) ≤ (j : Int) := by omega
     have j1 : (j : Int) < (S.length : Int) := by omega
     clear g0 g1 g2 hcS
     generalize S[j].kind = mk at *
     generalize S[j].at_ = ma at *
     generalize S[j].val = mv at *
     have J1 := zaa (J.out.below ((Below.refl wr.heap.size wr).alloc (Nat.le_refl _) (.cells #[.int .i64 mk, .int .i64 ma, .int .i64 mv] 79)))
     have J2 := zaa (J1.out.below ((Below.refl _ _).alloc (Nat.le_refl _) (.cells #[.int .i64 ma] 3)))
     have RD := zaa (zvs (wr.alloc (.cells #[.int .i64 mk, .int .i64 ma, .int .i64 mv] 79)) ma)
     have RD' : RdI ((wr.alloc (.cells #[.int .i64 mk, .int .i64 ma, .int .i64 mv] 79)).alloc (.cells #[.int .i64 ma] 3)) (.slice (some ⟨wr.heap.size + 1, 0, none⟩) 1 1) [ma] := by simpa using RD.out
     have RD' := zaa RD'
     clear RD J1
     go_wp2_with (at_builtin; refine zai _ rfl (.tmp 23) (.tmp 26) 22 rfl w.heap.size 3 (.int .i64 0) 1 8 Tryz.underlying22 zkh rfl (by decide) _ _ _ rfl J2.out.p _ 1 _ rfl RD'.out (zem _) (by simp [maxLen]; omega) (by omega) (by simp; omega) ?_)
     intro vN wN hownN hgrN
     have G := zaa (J2.out.growP [ma] hownN hgrN)
     clear hownN hgrN J2 RD'
     go_wp2
     go_roundw
     case rel => exact ⟨j + 1, by omega, by go_num, by rw [TN.out]; exact G⟩
     case measure => simp [intOf]; omega
    ·have ej := atsM_all S j (by omega)
     rw [ej] at J
     have FP := zaa (part_fp PO.out)
     have hfl := zcy (zmy S)
     have hml : (zmy S).length ≤ 50 := by rw [zqv]; exact hsl
     obtain ⟨aP, cP, hvP⟩ := RdI.form (zaf J.out.p).rd rfl
     subst hvP
     have RSr := zaa (Rd.below RS.out J.out.b)
     clear ej
     go_wp2_with fail
     refine (ziw _ (zmy S) _ (zaf J.out.p).rd (by omega)).mono ?_
     rw [FP.out.1, FP.out.2]
     rintro e w1 ⟨v1, rfl, hr1, hb1⟩
     have J1 := zaa (J.out.below hb1)
     have R1 := zaa hr1
     have RS1 := zaa (Rd.below RSr.out hb1)
     obtain ⟨a1, c1, rfl⟩ := RdM.form hr1.rd rfl
     have hz1 : wr.heap.size ≤ w1.heap.size := hb1.size
     clear hr1 hb1
     go_wp2_with (at_builtin; refine zai _ rfl (.tmp 34) (.tmp 35) 47 rfl w.heap.size 79 (.agg #[.int .i64 0, .int .i64 0, .int .i64 0]) 3 24 Tryz.underlying47 zcb rfl (by decide) _ (zci Ps k).length (mis (zci Ps k)) rfl J1.out.l _ S.length (mis S) rfl RS1.out (zdn _) (by simp [maxLen]; omega) (by omega) (by omega) ?_)
     intro vA wA hownA hgrA
     have JA := zaa (J1.out.growL S hownA hgrA)
     have RA := zaa (rd_grown R1.out.rd hgrA (fun q e1 e2 => by have h1 := (R1.out.1.lt q e1).1; have h2 := (zaf J.out.l).2 q e2; omega))
     obtain ⟨aA, cA, hvA⟩ := RdM.form (zaf JA.out.l).rd (n := (zci Ps k).length + S.length) (by simp)
     subst hvA
     have OA : Hid (wA.ownsRow w.heap.size 79 3 (.slice aA ((zci Ps k).length + S.length) cA) ((zci Ps k).length + S.length) (mis (zci Ps k ++ S))) := by have := JA.out.l; rw [List.length_append] at this; exact this
     clear hownA hgrA
     go_wp2_with (at_builtin; refine zai _ rfl (.tmp 37) (.tmp 38) 47 rfl w.heap.size 79 (.agg #[.int .i64 0, .int .i64 0, .int .i64 0]) 3 24 Tryz.underlying47 zcb rfl (by decide) _ ((zci Ps k).length + S.length) (mis (zci Ps k ++ S)) rfl OA.out _ (zaw (zmy S)).length (mis (zaw (zmy S))) rfl RA.out (zdn _) (by simp [maxLen]; omega) (by omega) (by have := JA.out.z; omega) ?_)
     intro vB wB hownB hgrB
     have JB := zaa (JA.out.growL (zaw (zmy S)) (by rw [List.length_append]; exact hownB) hgrB)
     clear hownB hgrB
     go_wp2
     go_roundw
     case rel => exact ⟨k + 1, by omega, by go_num, ⟨by rw [NX.out]; exact JB.out.l, JB.out.b⟩, JB.out.z⟩
     case measure => simp [intOf]; omega
  ·obtain rfl : k = Ps.length := by omega
   obtain ⟨aL, cL, hvL⟩ := RdM.form (zaf I.out.1).rd rfl
   subst hvL
   go_wp2
   go_ret
   exact ⟨_, rfl, zaf I.out.1, I.out.2⟩
end Go.Proofs.YtipklbnfobckaaaGreatDoor

namespace Go.Proofs.YtipklbnfobckaaaGreatDoor
open Go.RowKit

structure ReI (W w : World) (vL : Value) (ls : List Se) : Prop where
 l : w.ownsRow W.heap.size 244 2 vL ls.length (ses ls)
 b : Below W.heap.size W w
theorem ReI.z {W w : World} {vL : Value} {ls : List Se} (h : ReI W w vL ls) : W.heap.size ≤ w.heap.size := h.b.size
theorem ReI.below {W w w' : World} {vL : Value} {ls : List Se} (h : ReI W w vL ls) (hb : Below w.heap.size w w') : ReI W w' vL ls :=
 ⟨((zaf h.l).below hb (Nat.le_refl _)).1, zab h.b hb h.z⟩
end Go.Proofs.YtipklbnfobckaaaGreatDoor
