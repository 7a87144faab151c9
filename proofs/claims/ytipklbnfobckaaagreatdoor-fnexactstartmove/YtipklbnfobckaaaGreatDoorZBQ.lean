/- Several texts laid together: DuC, DuF. -/
import Derived.Test.YtipklbnfobckaaaGreatDoorZBH
import Derived.Test.YtipklbnfobckaaaGreatDoorZAX
import Derived.Test.YtipklbnfobckaaaGreatDoorRows
import Derived.Test.YtipklbnfobckaaaGreatDoorZAL
import Derived.Test.YtipklbnfobckaaaGreatDoorZBP
import Derived.Test.YtipklbnfobckaaaGreatDoorZBB
import Derived.Test.YtipklbnfobckaaaGreatDoorZAF
import Derived.Test.YtipklbnfobckaaaGreatDoorZAJ
import Derived.Test.YtipklbnfobckaaaGreatDoorZAE
import Derived.Deep.RegionHeld3
import Derived.Deep.LoopGhost
import Derived.WalkMore
import Derived.Shelf.Small.Strs
import Derived.Shelf.Small.Wraps
import Derived.Shelf.Strings.Search3
import Derived.Shelf.Strings.Count
import Derived.Shelf.Strings.Split
import Derived.Laws.OwnMore
import Derived.Test.YtipklbnfobckaaaGreatDoorZBE
import Derived.Test.YtipklbnfobckaaaGreatDoorZBI
namespace Go.Proofs.YtipklbnfobckaaaGreatDoor
open Go.RowKit

theorem zru {ws : List Int} {ps : List St} (h : pmB ws ps = true) {k : Nat} (hk : k < 24) : zwk ws ps (312 + (k : Int)) = ldW ws ps (312 + k) ∧ zqw ws ps (312 + (k : Int)) = 0 := by
 have p : zbb (312 + (k : Int)) = true := decide_eq_true (by omega)
 have a : zqw ws ps (312 + (k : Int)) = 0 := by unfold zqw; rw [h, p]; rfl
 refine ⟨?_, a⟩
 unfold zwk ldW
 rw [if_pos a, show (312 + (k : Int)).toNat = 312 + k by omega, show ((312 + k : Nat) : Int) = 312 + (k : Int) by omega]
theorem ztl {es : List Int} {qs : List Se} (h : zeh es qs = true) {k : Nat} (hk : k < 32) : zwi es qs (k : Int) = zer (k : Int) (es[k]?.getD 0) qs ∧ zqy es qs (k : Int) = 0 := by
 have p : zij (k : Int) = true := decide_eq_true (by omega)
 have a : zqy es qs (k : Int) = 0 := by unfold zqy; rw [h, p]; rfl
 refine ⟨?_, a⟩
 unfold zwi
 rw [if_pos a, Int.toNat_natCast]

set_option maxRecDepth 100000 in
set_option maxHeartbeats 4000000 in
theorem zle (v : Value) (ws : List Int) (ps : List St) (es : List Int) (qs : List Se) (e : Int) (w : World) (h : RdDev w v ws ps es qs) (hP : pmB ws ps = true) (hB : zeh es qs = true) (te : zdl e = true) (hT : TS w) (hN : NW w) :
  Calls Tryz.prog 185 #[v, .int .i64 e] w fun r w' => r = .returned (.int .i64 (pgV ws ps es qs e)) ∧ Below w.heap.size w w' := by
 obtain ⟨aW, cW, aP, cP, aS, cS, aQ, cQ, rfl, h1, h2⟩ := h.form
 have te' : 0 ≤ e ∧ ((e % 4 = 0 ∧ e / 4 = 0) ∨ (e % 4 = 1 ∧ 0 ≤ e / 4 ∧ e / 4 < 24) ∨ (e % 4 = 2 ∧ 0 ≤ e / 4 ∧ e / 4 < 32)) := by
  unfold zdl zdx at te
  rw [Bool.and_eq_true, decide_eq_true_eq, decide_eq_true_eq] at te
  exact te
 have wl := zee hP
 have el := zff hB
 have BW : Hid (Below w.heap.size w (w.alloc (.cells #[.slice aW ws.length cW, .slice aP ps.length cP, .slice aS es.length cS, .slice aQ qs.length cQ] 46))) := (Below.refl _ _).alloc (Nat.le_refl _) _
 have LT : Hid (∀ w1, Below w.heap.size w w1 → Calls Tryz.prog 247 #[.int .i64 e] w1 fun r w' => r = .returned (.tuple #[.int .i64 (e % 4), .int .i64 (e / 4), .int .i64 0]) ∧ w' = w1) := fun w1 hb => by
  have q := zbm e w1 (hT.below hb) (by omega) (by omega)
  rw [(zoc te).1, (zoc te).2.1, (zoc te).2.2] at q
  exact q
 have EV := zaa (show pgV ws ps es qs e = if e % 4 = 1 then ldW ws ps (312 + e / 4).toNat else if e % 4 = 2 then zer (e / 4) (es[(e / 4).toNat]?.getD 0) qs else 0 from rfl)
 have L1 : Hid (∀ (k : Nat), k < 24 → ∀ w1, Below w.heap.size w w1 → Calls Tryz.prog 248 #[.agg #[.slice aW ws.length cW, .slice aP ps.length cP], .int .i64 (312 + (k : Int))] w1 fun r w' => r = .returned (.tuple #[.int .i64 (ldW ws ps (312 + k)), .int .i64 0]) ∧ Below w1.heap.size w1 w') := fun k hk w1 hb => by
  have := znb _ ws ps (312 + (k : Int)) w1 (h1.below hb) (by omega) (by omega)
  rw [(zru hP hk).1, (zru hP hk).2] at this
  exact this
 have L2 : Hid (∀ (k : Nat), k < 32 → ∀ w1, Below w.heap.size w w1 → Calls Tryz.prog 249 #[.agg #[.slice aS es.length cS, .slice aQ qs.length cQ], .int .i64 (k : Int)] w1 fun r w' => r = .returned (.tuple #[.int .i64 (zer (k : Int) (es[k]?.getD 0) qs), .int .i64 0]) ∧ Below w1.heap.size w1 w') := fun k hk w1 hb => by
  have := zlf _ es qs (k : Int) w1 (h2.below hb) (hN.below hb) (by omega) (by omega)
  rw [(ztl hB hk).1, (ztl hB hk).2] at this
  exact this
 clear h h1 h2 te hP hB wl el hT hN
 generalize pgV ws ps es qs e = r at *
 generalize e % 4 = t at *
 generalize e / 4 = a at *
 rcases te'.2 with ⟨rfl, rfl⟩ | ⟨rfl, a0, a1⟩ | ⟨rfl, a0, a1⟩
 ·rw [if_neg (by omega), if_neg (by omega)] at EV
  obtain rfl := EV.out
  clear te' L1 L2 EV
  go_enter Tryz.func185, Tryz.ntmps185
  go_wp2_with fail
  refine (LT.out _ BW.out).mono ?_
  rintro r w1 ⟨rfl, hw1⟩
  subst w1
  go_wp2
  go_ret
  exact ⟨rfl, BW.out⟩
 ·obtain ⟨k, rfl⟩ : ∃ k : Nat, a = (k : Int) := ⟨a.toNat, by omega⟩
  rw [if_pos rfl, show (312 + (k : Int)).toNat = 312 + k by omega] at EV
  obtain rfl := EV.out
  have k24 : k < 24 := by omega
  have Q := zaa (L1.out k k24)
  clear te' L1 L2 EV a0 a1
  go_enter Tryz.func185, Tryz.ntmps185
  go_wp2_with fail
  refine (LT.out _ BW.out).mono ?_
  rintro r w1 ⟨rfl, hw1⟩
  subst w1
  go_wp2_with fail
  refine (Q.out _ BW.out).mono ?_
  rintro r w2 ⟨rfl, hb2⟩
  have B2 := zaa (zab BW.out hb2 BW.out.size)
  clear hb2
  go_wp2
  go_ret
  exact ⟨rfl, B2.out⟩
 ·obtain ⟨k, rfl⟩ : ∃ k : Nat, a = (k : Int) := ⟨a.toNat, by omega⟩
  rw [if_neg (by omega), if_pos rfl, Int.toNat_natCast] at EV
  obtain rfl := EV.out
  have k32 : k < 32 := by omega
  have Q := zaa (L2.out k k32)
  clear te' L1 L2 EV a0 a1
  go_enter Tryz.func185, Tryz.ntmps185
  go_wp2_with fail
  refine (LT.out _ BW.out).mono ?_
  rintro r w1 ⟨rfl, hw1⟩
  subst w1
  go_wp2_with fail
  refine (Q.out _ BW.out).mono ?_
  rintro r w2 ⟨rfl, hb2⟩
  have B2 := zaa (zab BW.out hb2 BW.out.size)
  clear hb2
  go_wp2
  go_ret
  exact ⟨rfl, B2.out⟩


end Go.Proofs.YtipklbnfobckaaaGreatDoor

namespace Go.Proofs.YtipklbnfobckaaaGreatDoor
open Go.RowKit

theorem fp_bound (ns : List Ino) : fpI ns < 24 := by
 have := (zmh (fun i => !zep (zas (zak ns) 1) (i : Int)) 24).2
 unfold fpI
 omega
theorem fs_bound (ns : List Ino) : fsI ns < 32 := by
 have := (zmh (fun i => !zep (zas (zak ns) 2) (i : Int)) 32).2
 unfold fsI
 omega
theorem zpm (m : Mi) : zci [[m]] 1 = m :: zaw [m.at_] := by simp [zci, segM, zmy]
set_option maxRecDepth 100000 in
set_option maxHeartbeats 4000000 in
theorem zrb (a x : Int) (w : World) (ha : 0 ≤ a ∧ a < 24) :
  Calls Tryz.prog 254 #[.int .i64 1, .int .i64 a, .int .i64 x] w fun e w' => ∃ v', e = .returned v' ∧ Row w' 79 3 w.heap.size w'.heap.size v' (⟨1, 312 + a, x⟩ :: zaw [312 + a] : List Mi).length (mis (⟨1, 312 + a, x⟩ :: zaw [312 + a])) ∧ Below w.heap.size w w' := by
 have ES : Hid (zci [[⟨1, 312 + a, x⟩]] 1 = (⟨1, 312 + a, x⟩ :: zaw [312 + a] : List Mi)) := zpm _
 have wp : IntKind.i64.wrap (312 + a) = 312 + a := by rw [IntKind.wrap_i64]; omega
 obtain ⟨W, hW⟩ : ∃ W, W = (w.alloc (.cells #[.int .i64 1, .int .i64 (312 + a), .int .i64 x] 79)).alloc (.cells #[.slice (some ⟨w.heap.size, 0, none⟩) 1 1] 47) := ⟨_, rfl⟩
 have hzW : W.heap.size = w.heap.size + 1 + 1 := by rw [hW]; simp
 have BW : Hid (Below w.heap.size w W) := by rw [hW]; exact ((Below.refl _ _).alloc (Nat.le_refl _) _).alloc (by simp) _
 have BI : Hid (Below (w.alloc (.cells #[.int .i64 1, .int .i64 (312 + a), .int .i64 x] 79)).heap.size (w.alloc (.cells #[.int .i64 1, .int .i64 (312 + a), .int .i64 x] 79)) W) := by rw [hW]; exact (Below.refl _ _).alloc (Nat.le_refl _) _
 have LS := zaa (zfo (w.heap.size + 1) 0 1 [[⟨1, 312 + a, x⟩]] W (by omega) (by simp) (fun k hk => by
   obtain rfl : k = 0 := by simp at hk; omega
   refine ⟨some ⟨w.heap.size, 0, none⟩, 1, ?_, ?_⟩
   ·have q : W.heap[w.heap.size + 1]? = some (.cells ([.slice (some ⟨w.heap.size, 0, none⟩) 1 1] : List Value).toArray 47 (0, 0)) := by
     rw [hW]
     have := zah (w := w.alloc (.cells #[.int .i64 1, .int .i64 (312 + a), .int .i64 x] 79)) (o := .cells #[.slice (some ⟨w.heap.size, 0, none⟩) 1 1] 47) rfl
     rw [World.size_alloc] at this
     exact this
    exact (zay q 0).1
   ·exact Rd.below (zoa w 1 (312 + a) x) BI.out) (fun k hk => by
   obtain rfl : k = 0 := by simp at hk; omega
   refine ⟨by simp, fun j hj => ?_⟩
   obtain rfl : j = 0 := by simp at hj; omega
   exact ⟨by show 0 ≤ 312 + a; omega, by show 312 + a < 336; omega⟩))
 rw [show ([[⟨1, 312 + a, x⟩]] : List (List Mi)).length = 1 from rfl, ES.out] at LS
 clear ES hzW BI ha
 generalize (⟨1, 312 + a, x⟩ :: zaw [312 + a] : List Mi) = L at *
 go_enter Tryz.func254, Tryz.ntmps254
 go_wp2_with fail
 rw [← hW]
 clear hW
 refine LS.out.mono ?_
 rintro e w1 ⟨v1, rfl, hr1, hb1⟩
 have B1 := zaa (zab BW.out hb1 BW.out.size)
 have R1 := zaa (hr1.wide (lo' := w.heap.size) (hi' := w1.heap.size) BW.out.size (Nat.le_refl _))
 obtain ⟨-, a1, c1, hv1, -⟩ := hr1.rd
 subst hv1
 clear hr1 hb1 LS
 go_wp2
 go_ret
 exact ⟨_, rfl, R1.out, B1.out⟩
set_option maxRecDepth 100000 in
set_option maxHeartbeats 4000000 in
theorem zta (a x : Int) (w : World) :
  Calls Tryz.prog 254 #[.int .i64 2, .int .i64 a, .int .i64 x] w fun e w' => ∃ v', e = .returned v' ∧ Row w' 79 3 w.heap.size w'.heap.size v' ([⟨4, a, x⟩, ⟨5, 0, 0⟩] : List Mi).length (mis [⟨4, a, x⟩, ⟨5, 0, 0⟩]) ∧ Below w.heap.size w w' := by
 go_enter Tryz.func254, Tryz.ntmps254
 go_wp2
 go_ret
 exact ⟨_, rfl, zaf (World.ownsRow_lit w _ 2 (Nat.le_refl _) (by simp [maxLen]) rfl), (Below.refl _ _).alloc (Nat.le_refl _) _⟩
theorem zka {w w1 : World} {c : Int} (B : Below w.heap.size w w1) : zqn w w1 (.returned (.tuple #[.slice none 0 0, .int .i64 c])) ([], c) := ⟨_, rfl, Row.nil _ _ _ _ _, B⟩

end Go.Proofs.YtipklbnfobckaaaGreatDoor
