/- Several texts laid together: PmSeen, NmU, RdA. -/
import Derived.Test.YtbbmljakfbhnpaaGreatDoorZAQ
import Derived.Test.YtbbmljakfbhnpaaGreatDoorZAC
import Derived.Test.YtbbmljakfbhnpaaGreatDoorZAB
import Derived.Test.YtbbmljakfbhnpaaGreatDoorZAK
import Derived.Test.YtbbmljakfbhnpaaGreatDoorZAA
namespace Go.Proofs.YtbbmljakfbhnpaaGreatDoor
open Go.RowKit


/-- The words with the stores laid one after the other. -/
def zck (ws : List Int) (ps : List St) : List Int := ps.foldl (fun acc p => acc.set p.at_.toNat p.val) ws
theorem layW_snoc (ws : List Int) (ps : List St) (p : St) : zck ws (ps ++ [p]) = (zck ws ps).set p.at_.toNat p.val := by simp [zck]
theorem zcf (ws : List Int) : ∀ ps : List St, (zck ws ps).length = ws.length := by
 intro ps
 unfold zck
 induction ps generalizing ws with
 | nil => rfl
 | cons p ps ih => rw [List.foldl_cons, ih]; simp
theorem layW_at : ∀ (ps : List St) (ws : List Int) (k : Nat) (hk : k < ws.length) (_ : ∀ p ∈ ps, 0 ≤ p.at_) (hk' : k < (zck ws ps).length), (zck ws ps)[k] = zjo (k : Int) ws[k] ps
 | [], ws, k, hk, _, _ => rfl
 | p :: ps, ws, k, hk, h0, hk' => by
  have hk2 : k < (ws.set p.at_.toNat p.val).length := by simpa using hk
  have := layW_at ps (ws.set p.at_.toNat p.val) k hk2 (fun q hq => h0 q (by simp [hq])) hk'
  show (zck (ws.set p.at_.toNat p.val) ps)[k] = zjo (k : Int) (if p.at_ = (k : Int) then p.val else ws[k]) ps
  rw [this, List.getElem_set]
  have hp := h0 p (by simp)
  by_cases e : p.at_ = (k : Int)
  ·rw [if_pos (by omega), if_pos e]
  ·rw [if_neg (by omega), if_neg e]

def seenC (ws : List Int) (ps : List St) : Int := if pmB ws ps = true then 0 else 1
def seenZ (ws : List Int) (ps : List St) : List Int := if pmB ws ps = true then zck ws ps else []
theorem seen_not {ws : List Int} {ps : List St} (h : pmB ws ps = false) : seenC ws ps = 1 ∧ seenZ ws ps = [] := by
 unfold seenC seenZ
 rw [h]
 exact ⟨rfl, rfl⟩
theorem seen_ok {ws : List Int} {ps : List St} (h : pmB ws ps = true) : seenC ws ps = 0 ∧ seenZ ws ps = zck ws ps := by
 unfold seenC seenZ
 rw [h]
 exact ⟨rfl, rfl⟩

set_option maxRecDepth 100000 in
set_option maxHeartbeats 4000000 in
theorem zot (v : Value) (ws : List Int) (ps : List St) (w : World) (h : RdPm w v ws ps) (hw : ws.length ≤ 1048576) (hp : ps.length ≤ 1048576) :
  Calls Tryz.prog 53 #[v] w fun e w' => ∃ v', e = .returned (.tuple #[v', .int .i64 (seenC ws ps)]) ∧ Row w' 3 1 w.heap.size w'.heap.size v' (seenZ ws ps).length (zco (seenZ ws ps)) ∧ Below w.heap.size w w' := by
 have HR := zaa h
 obtain ⟨vW, vP, rfl, h1, h2⟩ := h
 have H1 := zaa h1
 obtain ⟨aW, cW, rfl, _⟩ := h1.shape
 obtain ⟨aP, cP, rfl, _, hcP⟩ := h2.shape
 have HP := zaa hcP
 clear h1 h2 hcP
 have hb0 : Below w.heap.size w (w.alloc (.cells #[.slice aW ws.length cW, .slice aP ps.length cP] 31)) := (Below.refl _ _).alloc (Nat.le_refl _) _
 by_cases hc : pmB ws ps = true
 ·obtain ⟨e1, e2⟩ := seen_ok hc
  rw [e1, e2]
  clear e1 e2
  have OK := zaa (pmB_in hc)
  go_enter Tryz.func53, Tryz.ntmps53
  go_wp2_with fail
  refine (zkj _ ws ps _ (HR.out.below hb0) hw hp).mono ?_
  rintro e w1 ⟨rfl, hb1⟩
  have hz1 : w.heap.size + 1 ≤ w1.heap.size := by have := hb1.size; simp at this; omega
  have V0 := (hb1.block w.heap.size (by simp <;> omega)).trans (zag rfl)
  obtain ⟨x1, x2, x3, x4⟩ := zad V0
  have B1 := zaa (zab hb0 hb1 (by simp <;> omega))
  have VH := zaa V0
  clear hb0 hb1 V0
  go_wp2_with (at_builtin; refine zae _ rfl (.const (.slice none 0 0)) (.tmp 11) 28 rfl w1.heap.size 3 (.int .i64 0) 1 8 Tryz.underlying28 zjk rfl (by decide) _ 0 [] rfl (World.ownsRow_nil _ _ _ _) _ ws.length (zco ws) rfl (Rd.below H1.out B1.out) (zev ws) (by simp [maxLen]; omega) (by omega) (Nat.le_refl _) ?_)
  intro v2 w2 hown2 hgr2
  have hown2 : w2.ownsRow w1.heap.size 3 1 v2 ws.length (zco ws) := by simpa using hown2
  obtain ⟨aW2, cW2, rfl⟩ := RdI.form (zac hown2).rd rfl
  have hz2 : w1.heap.size ≤ w2.heap.size := hgr2.size
  have B2 := B1.out.grown hgr2 (by omega) (fun k hk => by cases hk)
  have V0 := (hgr2.block w.heap.size (by omega) (by simp [Value.ownBlock])).trans VH.out
  obtain ⟨z1, z2, z3, z4⟩ := zad V0
  have START := zaa (And.intro (zac hown2) B2)
  clear x1 x2 x3 x4 hown2 hgr2 B2 V0
  go_wp2
  go_loopw [6, 16] (fun _ i wr => ∃ m : Nat, m ≤ ps.length ∧ i = .int .i64 m ∧ Row wr 3 1 w1.heap.size w2.heap.size (.slice aW2 ws.length cW2) ws.length (zco (zck ws (ps.take m))) ∧ Below w.heap.size w wr ∧ w2.heap.size ≤ wr.heap.size) (fun _ i _ => ps.length - (intOf i).toNat)
  case atStart => exact ⟨0, by omega, rfl, START.out.1, START.out.2, Nat.le_refl _⟩
  case round =>
   obtain ⟨m, hm, rfl, hrow, hb, hz⟩ := hrel
   by_cases hlt : m < ps.length
   ·obtain ⟨b, o, rfl, hbl, hcell⟩ := HP.out (by omega)
    obtain ⟨e0, e1, e2⟩ := hcell m hlt
    have d0 := (hb.cell (p := ⟨b, o + m * 3, none⟩) hbl).trans e0
    have d1 := (hb.cell (p := ⟨b, o + m * 3 + 1, none⟩) hbl).trans e1
    have d2 := (hb.cell (p := ⟨b, o + m * 3 + 2, none⟩) hbl).trans e2
    obtain ⟨q0, q1⟩ := OK.out m hlt
    obtain ⟨_, aw', cw', ew', _, hcw⟩ := hrow.rd
    cases ew'
    obtain ⟨bw, ow, rfl, hblw, _⟩ := hcw (by omega)
    obtain ⟨rfl, hb1, _, _, hfrw, hclw⟩ := (hrow.alloc hz (.cells #[.int .i64 ps[m].at_, .int .i64 ps[m].val, .bool ps[m].fl] 136)).at
    have hj : ps[m].at_.toNat < (zck ws (ps.take m)).length := by rw [zcf]; omega
    have g0 := hfrw ps[m].at_.toNat
    have g1 := (hclw ps[m].at_.toNat (by omega)).trans (zcq _ _ hj)
    have F : Hid (Row ((wr.setCell ⟨bw, ps[m].at_.toNat, none⟩ (.int .i64 ps[m].val)).alloc (.cells #[.int .i64 ps[m].at_, .int .i64 ps[m].val, .bool ps[m].fl] 136)) 3 1 w1.heap.size w2.heap.size (.slice (some ⟨bw, 0, none⟩) ws.length cW2) ws.length (zco (zck ws (ps.take (m + 1))))) := by
     rw [zfk ps m hlt, layW_snoc, ← zft]
     exact (hrow.stored _ _).alloc (by simp; omega) _
    have G := zaa ((hb.setCell (p := ⟨bw, ps[m].at_.toNat, none⟩) (by simp only; omega) (.int .i64 ps[m].val)).alloc (by simp; omega) (.cells #[.int .i64 ps[m].at_, .int .i64 ps[m].val, .bool ps[m].fl] 136))
    clear hrow hcell e0 e1 e2 hcw hfrw hclw
    go_wp2
    go_roundw
    case rel => exact ⟨m + 1, by omega, by go_num, F.out, G.out, by simp; omega⟩
    case measure => simp [intOf]; omega
   ·have e : m = ps.length := by omega
    subst e
    have R := zaa hrow
    clear hrow
    go_wp2
    go_ret2
    refine ⟨_, rfl, ?_, hb⟩
    have := R.out
    rw [List.take_length] at this
    rw [zcf]
    exact this.wide (by omega) hz
 ·have hc' : pmB ws ps = false := by simpa using hc
  clear hc
  obtain ⟨e1, e2⟩ := seen_not hc'
  rw [e1, e2]
  clear e1 e2
  go_enter Tryz.func53, Tryz.ntmps53
  go_wp2_with fail
  refine (zkj _ ws ps _ (HR.out.below hb0) hw hp).mono ?_
  rintro e w1 ⟨rfl, hb1⟩
  have B1 := zaa (zab hb0 hb1 (by simp <;> omega))
  clear hb0 hb1
  go_wp2
  go_ret2
  exact ⟨_, rfl, Row.nil _ _ _ _ _, B1.out⟩
end Go.Proofs.YtbbmljakfbhnpaaGreatDoor

namespace Go.Proofs.YtbbmljakfbhnpaaGreatDoor
open Go.RowKit

/-- What the array holds when ds are read. -/
def arrD (ds : List Nat) (j : Nat) : Value := if j < 6 - ds.length then .int .u8 0 else .int .u8 (96 + ((ds[j - (6 - ds.length)]?.getD 0 : Nat) : Int))
theorem arrD_nil (j : Nat) (h : j < 6) : arrD [] j = .int .u8 0 := by unfold arrD; rw [if_pos (by simpa using h)]
theorem arrD_cons (d : Nat) (ds : List Nat) (h : ds.length < 6) (j : Nat) : (if j = 6 - ds.length - 1 then Value.int .u8 (96 + (d : Int)) else arrD ds j) = arrD (d :: ds) j := by
 unfold arrD
 by_cases e : j = 6 - ds.length - 1
 ·subst e
  rw [if_pos rfl, if_neg (by simp only [List.length_cons]; omega)]
  simp only [List.length_cons]
  rw [show 6 - ds.length - 1 - (6 - (ds.length + 1)) = 0 by omega]
  rfl
 ·rw [if_neg e]
  simp only [List.length_cons]
  by_cases e2 : j < 6 - ds.length
  ·rw [if_pos e2, if_pos (by omega)]
  ·rw [if_neg e2, if_neg (by omega), show j - (6 - (ds.length + 1)) = (j - (6 - ds.length)) + 1 by omega]
   rfl
theorem strOf_digs (ds : List Nat) : strOfNums (ds.map fun d => (96 : Int) + (d : Nat)) = zcg ds := by
 unfold strOfNums zcg
 rw [List.map_map]
 congr 2

theorem slice6 (w : World) (b l : Nat) (h1 : 1 ≤ l) (h6 : l ≤ 6) : (Instr.sliceAt 166 (.pointer (some ⟨b, 0, none⟩)) (some (.int .i64 (6 - (l : Int)))) none none).run Tryz.prog w = .ok (.slice (some ⟨b, 6 - l, none⟩) l l) w := by
 have al : Tryz.prog.arrayLen 166 = 6 := by kernel_rfl
 rw [run_sliceAt_array_l w 166 ⟨b, 0, none⟩ (by kernel_rfl) .i64 (6 - (l : Int)) (by omega) (by rw [al]; omega), al]
 have sz : (sizeOf (Tryz.prog.elem 166)).run Tryz.prog w = .ok 1 w := by kernel_rfl
 rw [sz]
 simp only [Result.andThen, slicedAt]
 rw [if_neg (by omega), show (6 - (l : Int)).toNat = 6 - l by omega, show 6 - (6 - l) = l by omega, Nat.mul_one]
 simp [Addr.add]
 omega

set_option maxRecDepth 100000 in
set_option maxHeartbeats 4000000 in
theorem zim (n : Int) (w : World) (hn : n ≤ 9223372036854775807) : Calls Tryz.prog 90 #[.int .i64 n] w fun e w' => e = .returned (.tuple #[.string (zrt n), .int .i64 (unpC n)]) ∧ Below w.heap.size w w' := by
 by_cases c0 : n < 1
 ·have E := zaa (zvk (zvb (n := n) (by omega)))
  go_enter Tryz.func90, Tryz.ntmps90
  go_wp2
  go_ret2
  exact ⟨ret_si E.out.1.symm E.out.2.symm, Below.refl _ _⟩
 obtain ⟨N, rfl⟩ := Int.eq_ofNat_of_zero_le (show 0 ≤ n by omega)
 have START : Hid ((w.alloc (.cells #[.int .u8 0, .int .u8 0, .int .u8 0, .int .u8 0, .int .u8 0, .int .u8 0] 166)).rowIs w.heap.size 166 6 (arrD [])) := by
  refine World.rowIs_alloc w #[.int .u8 0, .int .u8 0, .int .u8 0, .int .u8 0, .int .u8 0, .int .u8 0] 166 (arrD []) (fun i hi => ?_)
  have hi' : i < 6 := hi
  rw [arrD_nil i hi']
  rcases (show i = 0 ∨ i = 1 ∨ i = 2 ∨ i = 3 ∨ i = 4 ∨ i = 5 by omega) with rfl | rfl | rfl | rfl | rfl | rfl <;> rfl
 have BH : Hid (Below w.heap.size w (w.alloc (.cells #[.int .u8 0, .int .u8 0, .int .u8 0, .int .u8 0, .int .u8 0, .int .u8 0] 166))) := (Below.refl _ _).alloc (Nat.le_refl _) _
 go_enter Tryz.func90, Tryz.ntmps90
 go_wp2
 go_loopw [0, 5, 6] (fun x f _ wr => ∃ (m : Nat) (ds : List Nat), x = .int .i64 (m : Int) ∧ f = .int .i64 (6 - (ds.length : Int)) ∧ m ≤ N ∧ ds.length ≤ 6 ∧ Hid (Dg N m ds) ∧ Hid (wr.rowIs w.heap.size 166 6 (arrD ds)) ∧ Hid (Below w.heap.size w wr)) (fun x _ _ _ => (intOf x).toNat)
 case atStart => exact ⟨N, [], rfl, rfl, Nat.le_refl _, by simp, Dg.start N, START.out, BH.out⟩
 case round =>
  obtain ⟨m, ds, rfl, rfl, hm, hl, D, R, B⟩ := hrel
  by_cases c1 : 0 < m
  ·have m0 : (0 : Int) < (m : Int) := by omega
   by_cases c2 : m % 27 = 0
   ·have E := zaa (zvk (unp_zero D.out c1 c2))
    have c2' : ((m : Int) % 27 == 0) = true := by rw [beq_iff_eq]; omega
    go_wp2
    go_ret2
    exact ⟨ret_si E.out.1.symm E.out.2.symm, B.out⟩
   ·have c2' : ((m : Int) % 27 == 0) = false := by rw [beq_eq_false_iff_ne]; omega
    by_cases c3 : 6 ≤ ds.length
    ·have E := zaa (zvk (unp_many D.out c1 c3))
     have c3' : ((6 : Int) - (ds.length : Int) == 0) = true := by rw [beq_iff_eq]; omega
     go_wp2
     go_ret2
     exact ⟨ret_si E.out.1.symm E.out.2.symm, B.out⟩
    ·have c3' : ((6 : Int) - (ds.length : Int) == 0) = false := by rw [beq_eq_false_iff_ne]; omega
     have D2 := zaa (D.out.step c1 c2)
     have g0 := R.out.frozen (6 - ds.length - 1)
     have g1 := R.out.cell (show 6 - ds.length - 1 < 6 by omega)
     generalize hv : arrD ds (6 - ds.length - 1) = v0 at g1
     have ev : (97 + (m : Int) % 27 - 1) = 96 + ((m % 27 : Nat) : Int) := by omega
     have R2 : Hid ((wr.setCell ⟨w.heap.size, 6 - ds.length - 1, none⟩ (.int .u8 (97 + (m : Int) % 27 - 1))).rowIs w.heap.size 166 6 (arrD (m % 27 :: ds))) := by
      rw [ev]
      exact (R.out.set (6 - ds.length - 1) (.int .u8 (96 + ((m % 27 : Nat) : Int)))).congr (fun j _ => arrD_cons (m % 27) ds (by omega) j)
     have B2 : Hid (Below w.heap.size w (wr.setCell ⟨w.heap.size, 6 - ds.length - 1, none⟩ (.int .u8 (97 + (m : Int) % 27 - 1)))) := B.out.setCell (by simp only; omega) _
     clear ev
     clear hv
     go_wp2
     go_roundw
     case rel => exact ⟨m / 27, m % 27 :: ds, by go_num, by go_num, by omega, by simp; omega, D2.out, R2.out, B2.out⟩
     case measure => simp [intOf]; omega
  ·obtain rfl : m = 0 := by omega
   have E := zaa (unp_done D.out (by omega) hl)
   have hconv := fun cap => run_convert_bytes_arg (P := Tryz.prog) wr 22 5 Tryz.underlying22 Tryz.underlying5 w.heap.size (6 - ds.length) ds.length cap (ds.map fun d => (96 : Int) + (d : Nat)) (by simp) (fun i hi => by
    rw [R.out.cell (show 6 - ds.length + i < 6 by omega)]
    unfold arrD
    rw [if_neg (by omega), show 6 - ds.length + i - (6 - ds.length) = i by omega]
    simp [List.getD, hi]) 9 Tryz.underlying9
   rw [strOf_digs] at hconv
   have l1 : 1 ≤ ds.length := by
    have := digs_ne (n := N) (by omega)
    rw [D.out.done] at this
    exact this
   have hsl := slice6 wr w.heap.size ds.length l1 hl
   have hcv := hconv ds.length
   clear hconv
   go_wp2
   go_ret2
   exact ⟨ret_si E.out.1.symm E.out.2.symm, B.out⟩

set_option maxRecDepth 100000 in
set_option maxHeartbeats 4000000 in
theorem zri (n : Int) (w : World) (hn : n ≤ 9223372036854775807) : Calls Tryz.prog 110 #[.int .i64 n] w fun e w' => (∃ s, e = .returned (.tuple #[.string s, .bool (zfb n)]) ∧ (zfb n = true → s = zrt n)) ∧ Below w.heap.size w w' := by
 obtain ⟨N, hN, hN2, hN3⟩ : ∃ N : Nat, (0 < n → n = (N : Int)) ∧ (¬ 0 < n → N = 0) ∧ N ≤ 9223372036854775807 := ⟨n.toNat, fun h => by omega, fun h => by omega, by omega⟩
 have hdl : (zof N).length ≤ 14 := digs_len 14 N (by omega)
 go_enter Tryz.func110, Tryz.ntmps110
 go_wp2
 go_loopw [0, 4, 5] (fun x o _ wr => ∃ (y : Int) (ds : List Nat), x = .int .i64 y ∧ o = .string (zcg ds) ∧ y ≤ 9223372036854775807 ∧ Hid ((0 < n → ∃ m : Nat, y = (m : Int) ∧ Dg N m ds) ∧ (¬ 0 < n → ¬ 0 < y ∧ ds = [])) ∧ Hid (Below w.heap.size w wr)) (fun x _ _ _ => (intOf x).toNat)
 case atStart => exact ⟨n, [], rfl, rfl, hn, ⟨fun h => ⟨N, hN h, Dg.start N⟩, fun h => ⟨h, rfl⟩⟩, Below.refl _ _⟩
 case round =>
  obtain ⟨y, ds, rfl, rfl, hy, D, B⟩ := hrel
  by_cases c1 : 0 < y
  ·have hp : 0 < n := by
    rcases Decidable.em (0 < n) with h | h
    ·exact h
    ·exact absurd c1 (D.out.2 h).1
   obtain ⟨m, rfl, D1⟩ := D.out.1 hp
   have D0 := zaa D1
   clear D D1
   by_cases c2 : m % 27 = 0
   ·have E : Hid (zfb n = false) := by
     rw [hN hp]
     exact unp_zero D0.out (by omega) c2
    have c2' : ((m : Int) % 27 == 0) = true := by rw [beq_iff_eq]; omega
    go_wp2
    go_ret2
    exact ⟨⟨_, ret_sb rfl E.out.symm, fun h => by rw [E.out] at h; cases h⟩, B.out⟩
   ·have c2' : ((m : Int) % 27 == 0) = false := by rw [beq_eq_false_iff_ne]; omega
    have D2 := zaa (D0.out.step (by omega) c2)
    have hl14 : ds.length ≤ 14 := Nat.le_trans D0.out.len hdl
    have hcv := run_convert_bytes_arg (P := Tryz.prog) (wr.alloc (.cells #[.int .u8 (97 + (m : Int) % 27 - 1)] 5)) 22 5 Tryz.underlying22 Tryz.underlying5 wr.heap.size 0 1 1 [97 + (m : Int) % 27 - 1] rfl (fun i hi => by
     obtain rfl : i = 0 := by omega
     exact World.cell?_alloc_mark wr #[.int .u8 (97 + (m : Int) % 27 - 1)] 5 (0, 0) 0) 9 Tryz.underlying9
    have eb : strOfNums [97 + (m : Int) % 27 - 1] = ⟨#[UInt8.ofNat (96 + m % 27)]⟩ := by
     unfold strOfNums
     simp only [List.map_cons, List.map_nil]
     rw [show (97 + (m : Int) % 27 - 1).toNat = 96 + m % 27 by omega]
    rw [eb] at hcv
    have had := run_string_add_sum (P := Tryz.prog) (wr.alloc (.cells #[.int .u8 (97 + (m : Int) % 27 - 1)] 5)) ⟨#[UInt8.ofNat (96 + m % 27)]⟩ (zcg ds) (by rw [zcd]; show 1 + _ ≤ _; omega)
    rw [zsb] at had
    have B2 : Hid (Below w.heap.size w (wr.alloc (.cells #[.int .u8 (97 + (m : Int) % 27 - 1)] 5))) := B.out.alloc B.out.size _
    clear eb
    generalize hbb : (⟨#[UInt8.ofNat (96 + m % 27)]⟩ : ByteArray) = bb at hcv had
    clear hbb
    go_wp2
    go_roundw
    case rel => exact ⟨(m : Int) / 27, m % 27 :: ds, rfl, rfl, by omega, ⟨fun _ => ⟨m / 27, by omega, D2.out⟩, fun h => absurd hp h⟩, B2.out⟩
    case measure => simp [intOf]; omega
  ·have LEN : Hid (ds.length ≤ 14 ∧ nmB (zcg ds) = zfb n ∧ (zfb n = true → zcg ds = zrt n)) := by
    rcases Decidable.em (0 < n) with hp | hp
    ·obtain ⟨m, em, D1⟩ := D.out.1 hp
     obtain rfl : m = 0 := by omega
     have en := hN hp
     have hl := D1.len
     have hd := D1.done
     refine ⟨by omega, ?_, fun h => ?_⟩
     ·by_cases c6 : ds.length ≤ 6
      ·have h1 : 1 ≤ ds.length := by rw [← hd]; exact digs_ne (by omega)
       rw [zvr D1.ok h1 c6, en]
       exact (decide_eq_true ⟨by omega, by rw [Int.toNat_natCast, hd]; exact fun d x => (D1.ok d x).1, by rw [Int.toNat_natCast, hd]; exact c6⟩).symm
      ·rw [zrf (by rw [zcd]; omega), en]
       exact (decide_eq_false (fun x => by have := x.2.2; rw [Int.toNat_natCast, hd] at this; omega)).symm
     ·unfold zrt
      rw [if_pos h, en, Int.toNat_natCast, hd]
    ·obtain ⟨_, rfl⟩ := D.out.2 hp
     refine ⟨by simp, ?_, fun h => ?_⟩
     ·rw [zue (by rw [zcd]; simp), zvb hp]
     ·rw [zvb hp] at h; cases h
   have hsz : (zcg ds).size ≤ maxLen := by
    have := LEN.out.1
    rw [zcd]
    unfold maxLen
    omega
   go_wp2_with (go_at_call 51; refine (zhy _ _ hsz).mono ?_; rintro e w' ⟨rfl, rfl⟩)
   go_ret2
   exact ⟨⟨_, ret_sb rfl LEN.out.2.1, LEN.out.2.2⟩, B.out⟩

end Go.Proofs.YtbbmljakfbhnpaaGreatDoor

namespace Go.Proofs.YtbbmljakfbhnpaaGreatDoor
open Go.RowKit

/-- A word, by its place. -/
def wdI (ls : List Int) (z : Int) : Int := ls.getD z.toNat 0
theorem wdI_of {ls : List Int} {n : Nat} (h : n < ls.length) : wdI ls (n : Int) = ls[n] := by
 unfold wdI
 rw [Int.toNat_natCast, List.getD_eq_getElem?_getD, List.getElem?_eq_getElem h]; rfl
/-- An inode's words, an entry's. -/
def zdc (ls : List Int) (i : Nat) : Ino := ⟨wdI ls (48 + 12 * (i : Int)), wdI ls (48 + 12 * (i : Int) + 1), wdI ls (48 + 12 * (i : Int) + 2), wdI ls (48 + 12 * (i : Int) + 3), wdI ls (48 + 12 * (i : Int) + 4), wdI ls (48 + 12 * (i : Int) + 5), wdI ls (48 + 12 * (i : Int) + 6), wdI ls (48 + 12 * (i : Int) + 7), wdI ls (48 + 12 * (i : Int) + 8), wdI ls (48 + 12 * (i : Int) + 9), wdI ls (48 + 12 * (i : Int) + 10)⟩
def zem (ls : List Int) (k : Nat) : Den := if wdI ls (240 + 3 * (k : Int) + 2) = 0 then ⟨0, ⟨#[]⟩, -1⟩ else ⟨wdI ls (240 + 3 * (k : Int)), zrt (wdI ls (240 + 3 * (k : Int) + 1)), wdI ls (240 + 3 * (k : Int) + 2) - 1⟩
def zbm (ls : List Int) (k : Nat) : Bool := if wdI ls (240 + 3 * (k : Int) + 2) = 0 then wdI ls (240 + 3 * (k : Int)) == 0 && wdI ls (240 + 3 * (k : Int) + 1) == 0 else zfb (wdI ls (240 + 3 * (k : Int) + 1))
def zbc (ls : List Int) (n : Nat) : List Ino := (List.range n).map (zdc ls)
def zbe (ls : List Int) (n : Nat) : List Den := (List.range n).map (zem ls)
def zbu (ls : List Int) (n : Nat) : Bool := (List.range n).all (zbm ls)
theorem zmk (ls : List Int) (n : Nat) : zbc ls (n + 1) = zbc ls n ++ [zdc ls n] := by unfold zbc; rw [List.range_succ, List.map_append]; rfl
theorem zib (ls : List Int) (n : Nat) : zbe ls (n + 1) = zbe ls n ++ [zem ls n] := by unfold zbe; rw [List.range_succ, List.map_append]; rfl
theorem zca (ls : List Int) (n : Nat) : (zbc ls n).length = n := by simp [zbc]
theorem zbl (ls : List Int) (n : Nat) : (zbe ls n).length = n := by simp [zbe]
theorem zha {ls : List Int} {n k : Nat} (hk : k < n) (h : zbm ls k = false) : zbu ls n = false := by
 unfold zbu
 rw [List.all_eq_false]
 exact ⟨k, List.mem_range.2 hk, by rw [h]; simp⟩
theorem zfz {ls : List Int} {n : Nat} (h : ∀ k, k < n → zbm ls k = true) : zbu ls n = true := by
 unfold zbu
 rw [List.all_eq_true]
 intro k hk
 exact h k (List.mem_range.1 hk)
/-- The words say a right image. -/
def riB (ls : List Int) : Bool := wdI ls 0 == 7 && (zbu ls 24 && zfm (zbc ls 16) (zbe ls 24))
def riC (ws : List Int) (ps : List St) : Int := if pmB ws ps = true then (if riB (zck ws ps) = true then 0 else 3) else 1
def riN (ws : List Int) (ps : List St) : List Ino := if riC ws ps = 0 then zbc (zck ws ps) 16 else []
def riD (ws : List Int) (ps : List St) : List Den := if riC ws ps = 0 then zbe (zck ws ps) 24 else []
/-- The words of a right memory, as they are loaded. -/
theorem lay_word {ws : List Int} {ps : List St} (h : pmB ws ps = true) : ∀ k (h : k < (zck ws ps).length), zbb (zck ws ps)[k] = true := by
 have h1 := pmB_word h
 have h2 : ∀ p ∈ ps, zbb p.val = true := fun p hp => by
  obtain ⟨i, hi, rfl⟩ := List.getElem_of_mem hp
  exact (zit h i hi).2
 clear h
 have gen : ∀ (ps : List St) (ws : List Int), (∀ x ∈ ws, zbb x = true) → (∀ p ∈ ps, zbb p.val = true) → ∀ x ∈ zck ws ps, zbb x = true := by
  intro ps
  induction ps with
  | nil => intro ws h _ x hx; exact h x hx
  | cons p ps ih =>
   intro ws h1 h2 x hx
   refine ih (ws.set p.at_.toNat p.val) (fun y hy => ?_) (fun q hq => h2 q (List.mem_cons_of_mem _ hq)) x hx
   rcases List.mem_or_eq_of_mem_set hy with hy | hy
   ·exact h1 y hy
   ·rw [hy]; exact h2 p (List.mem_cons_self ..)
 intro k hk
 exact gen ps ws (fun x hx => by obtain ⟨i, hi, rfl⟩ := List.getElem_of_mem hx; exact h1 i hi) h2 _ (List.getElem_mem hk)
theorem zmn {ws : List Int} {ps : List St} (h : pmB ws ps = true) (z : Int) : 0 ≤ wdI (zck ws ps) z ∧ wdI (zck ws ps) z < 1099511627776 := by
 unfold wdI
 rw [List.getD_eq_getElem?_getD]
 by_cases c : z.toNat < (zck ws ps).length
 ·rw [List.getElem?_eq_getElem c]
  have := lay_word h _ c
  unfold zbb at this
  simp at this
  simpa using this
 ·rw [List.getElem?_eq_none (by omega)]
  exact ⟨by simp, by simp⟩
theorem inoOf_R {ws : List Int} {ps : List St} (h : pmB ws ps = true) (i : Nat) : (zdc (zck ws ps) i).R := by
 intro z hz
 have all : ∀ y, -9223372036854775808 ≤ wdI (zck ws ps) y ∧ wdI (zck ws ps) y ≤ 9223372036854775807 := fun y => by have := zmn h y; omega
 simp only [Ino.map, zdc, List.mem_cons, List.not_mem_nil, or_false] at hz
 rcases hz with rfl | rfl | rfl | rfl | rfl | rfl | rfl | rfl <;> exact all _
theorem unpS_len (n : Int) : (zrt n).size ≤ 6 := by
 unfold zrt
 split
 ·rename_i h
  have := (of_decide_eq_true h).2.2
  show ((zof n.toNat).map fun d => UInt8.ofNat (96 + d)).toArray.size ≤ 6
  simpa using this
 ·exact Nat.zero_le _
theorem denOf_name (ls : List Int) (k : Nat) : (zem ls k).name.size ≤ maxLen := by
 unfold zem
 split
 ·exact Nat.zero_le _
 ·have := unpS_len (wdI ls (240 + 3 * (k : Int) + 1))
  show (zrt _).size ≤ maxLen
  unfold maxLen
  omega

theorem ld_any (v : Value) (ws : List Int) (ps : List St) (z : Int) (w : World) (h : RdPm w v ws ps) (hp : pmB ws ps = true) (h0 : 0 ≤ z ∧ z < 336) :
  Calls Tryz.prog 109 #[v, .int .i64 z] w fun e w' => e = .returned (.int .i64 (wdI (zck ws ps) z)) ∧ Below w.heap.size w w' := by
 obtain ⟨n, rfl⟩ : ∃ n : Nat, z = (n : Int) := ⟨z.toNat, by omega⟩
 obtain ⟨l1, l2⟩ := zgc hp
 have hn : n < ws.length := by omega
 rw [wdI_of (by rw [zcf]; exact hn), layW_at ps ws n hn (fun p hq => by obtain ⟨i, hi, rfl⟩ := List.getElem_of_mem hq; exact (pmB_at hp i hi).1)]
 exact zod v ws ps n w h (by omega) (by omega) hn
end Go.Proofs.YtbbmljakfbhnpaaGreatDoor
