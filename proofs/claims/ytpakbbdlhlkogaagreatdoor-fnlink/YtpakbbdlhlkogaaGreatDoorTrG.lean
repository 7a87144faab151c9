/- The page of a tier with the least or the most heat: by the model. -/
import Derived.Test.YtpakbbdlhlkogaaGreatDoorZBD
import Derived.Test.YtpakbbdlhlkogaaGreatDoorZAJ
import Derived.BigQuiet
import Derived.Deep.DeepCutAuto
namespace Go.Proofs.YtpakbbdlhlkogaaGreatDoor
open Go.RowKit
theorem zfl {B : Nat} {a w : World} (h : Below B a w) (q : Nat) : Below B a (w.drewN q) := ⟨h.os, h.tape, h.output, h.size, h.block⟩
theorem yauh {ns : List Ino} {hs : List Int} {t : Int} {hot : Bool} {b : Int} {i : Nat} (h : pgE ns i = 0 ∨ ¬ pgE ns i % 4 = t) : pkS ns hs t hot b i = b := by unfold pkS; rw [if_pos h]
theorem yamb {ns : List Ino} {hs : List Int} {t : Int} {hot : Bool} {b : Int} {i : Nat} (h : ¬ (pgE ns i = 0 ∨ ¬ pgE ns i % 4 = t)) (c : b < 0 ∨ (hot = true ∧ hs.getD b.toNat 0 < hs.getD i 0) ∨ (hot = false ∧ hs.getD i 0 < hs.getD b.toNat 0)) : pkS ns hs t hot b i = (i : Int) := by unfold pkS; rw [if_neg h, if_pos c]
theorem yapz {ns : List Ino} {hs : List Int} {t : Int} {hot : Bool} {b : Int} {i : Nat} (h : ¬ (pgE ns i = 0 ∨ ¬ pgE ns i % 4 = t)) (c : ¬ (b < 0 ∨ (hot = true ∧ hs.getD b.toNat 0 < hs.getD i 0) ∨ (hot = false ∧ hs.getD i 0 < hs.getD b.toNat 0))) : pkS ns hs t hot b i = b := by unfold pkS; rw [if_neg h, if_neg c]
set_option maxRecDepth 100000 in
set_option maxHeartbeats 16000000 in
theorem zyt (v vh : Value) (ns : List Ino) (ds : List Den) (hs : List Int) (t : Int) (hot : Bool) (w : World) (h : RdIm w v ns ds) (hi : zcb ns ds = true) (hh : RdI w vh hs) (hb : ziz hs = true) :
  Calls Tryz.prog 101 #[v, vh, .int .i64 t, .bool hot] w fun e w' => e = .returned (.int .i64 (pkN ns hs t hot 128)) ∧ Below w.heap.size w w' := by
 have TI := zaa (fun k (hk : k < 16) j => yafl hi hk j)
 obtain ⟨l16, l24, _⟩ := zau hi
 have L16 := zaa l16
 have L128 := zaa (zbt hb).1
 obtain ⟨vW, vP, rfl, h1, h2⟩ := h
 obtain ⟨aW, cW, rfl, _, hcW⟩ := h1.shape
 obtain ⟨aP, cP, rfl, _, hcP⟩ := h2.shape
 obtain ⟨aH, cH, rfl, _, hcH⟩ := hh.shape
 obtain ⟨bW, oW, rfl, hblW, hcellW⟩ := hcW (by omega)
 obtain ⟨bH, oH, rfl, hblH, hcellH⟩ := hcH (by have := L128.out; omega)
 have HM : Hid (∀ k, k < 16 → ∀ w', Below w.heap.size w w' → ∀ j, j < 8 → w'.cell? ⟨bW, oW + k * 11 + 3 + j, none⟩ = some (.int .i64 ((zal ns k).map.getD j 0))) := fun k hk w' hb j hj => by
  rw [zbn (by have := L16.out; omega : k < ns.length)]
  obtain ⟨a0, a1, a2, a3, a4, a5, a6, a7, a8, a9, a10⟩ := hcellW k (by omega)
  rcases (show j = 0 ∨ j = 1 ∨ j = 2 ∨ j = 3 ∨ j = 4 ∨ j = 5 ∨ j = 6 ∨ j = 7 by omega) with rfl | rfl | rfl | rfl | rfl | rfl | rfl | rfl
  ·exact (hb.cell (p := ⟨bW, oW + k * 11 + 3, none⟩) hblW).trans a3
  ·exact (hb.cell (p := ⟨bW, oW + k * 11 + 4, none⟩) hblW).trans a4
  ·exact (hb.cell (p := ⟨bW, oW + k * 11 + 5, none⟩) hblW).trans a5
  ·exact (hb.cell (p := ⟨bW, oW + k * 11 + 6, none⟩) hblW).trans a6
  ·exact (hb.cell (p := ⟨bW, oW + k * 11 + 7, none⟩) hblW).trans a7
  ·exact (hb.cell (p := ⟨bW, oW + k * 11 + 8, none⟩) hblW).trans a8
  ·exact (hb.cell (p := ⟨bW, oW + k * 11 + 9, none⟩) hblW).trans a9
  ·exact (hb.cell (p := ⟨bW, oW + k * 11 + 10, none⟩) hblW).trans a10
 have HH : Hid (∀ k, k < 128 → ∀ w', Below w.heap.size w w' → w'.cell? ⟨bH, oH + k, none⟩ = some (.int .i64 (hs.getD k 0))) := fun k hk w' hb => by
  have q : k < hs.length := by have := L128.out; omega
  rw [List.getD_eq_getElem?_getD, List.getElem?_eq_getElem q]
  exact (hb.cell (p := ⟨bH, oH + k, none⟩) hblH).trans (hcellH k q)
 clear h1 h2 hi hcW hcP hcellW hcH hcellH l16 l24 hh hb
 obtain ⟨W, hW⟩ : ∃ W, W = w.alloc (.cells #[.slice (some ⟨bW, oW, none⟩) ns.length cW, .slice aP ds.length cP] 42) := ⟨_, rfl⟩
 have CA : Hid (∀ w', Below W.heap.size W w' → w'.cell? ⟨w.heap.size, 0, none⟩ = some (.slice (some ⟨bW, oW, none⟩) ns.length cW) ∧ w'.cell? ⟨w.heap.size, 1, none⟩ = some (.slice aP ds.length cP)) := fun w' hb => by
  have : w'.heap[w.heap.size]? = some (.cells #[.slice (some ⟨bW, oW, none⟩) ns.length cW, .slice aP ds.length cP] 42 (0, 0)) := (hb.block _ (by rw [hW]; simp)).trans (by rw [hW]; exact zah rfl)
  exact ⟨(zac this).1, (zac this).2.1⟩
 have BW : Hid (Below w.heap.size w W) := by rw [hW]; exact (Below.refl _ _).alloc (Nat.le_refl _) _
 have PK := zaa (fun m => zuo ns hs t hot m)
 have PN := zaa (fun m => show pkN ns hs t hot (m + 1) = pkS ns hs t hot (pkN ns hs t hot m) m from rfl)
 have P0 := zaa (show pkN ns hs t hot 0 = -1 from rfl)
 have PG := zaa (fun a b (_ : b < 8) => show pgE ns (8 * a + b) = (zal ns a).map.getD b 0 by
  unfold pgE
  rw [show (8 * a + b) / 8 = a by omega, show (8 * a + b) % 8 = b by omega])
 go_enter Tryz.func101, Tryz.ntmps101
 go_upto_region 2 with fail
 rw [← hW]
 clear hW
 go_wp2_with fail
 go_loopw [9, 10] (fun b i wr => ∃ m : Nat, m ≤ 128 ∧ i = .int .i64 (m : Int) ∧ b = .int .i64 (pkN ns hs t hot m) ∧ Hid (Below W.heap.size W wr)) (fun _ i _ => 128 - (intOf i).toNat)
 case atStart => exact ⟨0, by omega, rfl, by rw [P0.out], Below.refl _ _⟩
 case round =>
  obtain ⟨m, hm, rfl, rfl, J⟩ := hrel
  obtain ⟨x0, x1⟩ := CA.out _ J.out
  have JW := zaa (zab BW.out J.out BW.out.size)
  have m0 : (0 : Int) ≤ (m : Int) := by omega
  by_cases hlt : m < 128
  case neg =>
   obtain rfl : m = 128 := by omega
   go_wp2
   go_ret
   exact ⟨rfl, JW.out⟩
  have m1 : (m : Int) < 128 := by omega
  obtain ⟨a, b, ha, hb8, hab⟩ : ∃ a b : Nat, a < 16 ∧ b < 8 ∧ m = 8 * a + b := ⟨m / 8, m % 8, by omega, by omega, by omega⟩
  have PE : Hid (pgE ns m = (zal ns a).map.getD b 0) := by unfold Hid; rw [hab]; exact PG.out a b hb8
  have e0 := HM.out a ha wr JW.out b hb8
  rw [← PE.out] at e0
  have hm0 := HH.out m hlt wr JW.out
  obtain ⟨z0, z1⟩ := zeq (by have := TI.out a ha b; rw [← PE.out] at this; exact this)
  obtain ⟨r0, r1⟩ := PK.out m
  have SN : Hid (pgE ns m = 0 ∨ ¬ pgE ns m % 4 = t → pkN ns hs t hot (m + 1) = pkN ns hs t hot m) := fun h => (PN.out m).trans (yauh h)
  have ST : Hid (¬ (pgE ns m = 0 ∨ ¬ pgE ns m % 4 = t) → (pkN ns hs t hot m < 0 ∨ (hot = true ∧ hs.getD (pkN ns hs t hot m).toNat 0 < hs.getD m 0) ∨ (hot = false ∧ hs.getD m 0 < hs.getD (pkN ns hs t hot m).toNat 0)) → pkN ns hs t hot (m + 1) = (m : Int)) := fun h c => (PN.out m).trans (yamb h c)
  have SX : Hid (¬ (pgE ns m = 0 ∨ ¬ pgE ns m % 4 = t) → ¬ (pkN ns hs t hot m < 0 ∨ (hot = true ∧ hs.getD (pkN ns hs t hot m).toNat 0 < hs.getD m 0) ∨ (hot = false ∧ hs.getD m 0 < hs.getD (pkN ns hs t hot m).toNat 0)) → pkN ns hs t hot (m + 1) = pkN ns hs t hot m) := fun h c => (PN.out m).trans (yapz h c)
  have tq : Int.tdiv (m : Int) 8 = (a : Int) := by rw [Int.tdiv_eq_ediv_of_nonneg (by omega)]; omega
  have tr : Int.tmod (m : Int) 8 = (b : Int) := by rw [Int.tmod_eq_emod_of_nonneg (by omega)]; omega
  have a0 : (0 : Int) ≤ (a : Int) := by omega
  have a1 : (a : Int) < (ns.length : Int) := by have := L16.out; omega
  have b0 : (0 : Int) ≤ (b : Int) := by omega
  have b1 : (b : Int) < 8 := by omega
  have mh : (m : Int) < (hs.length : Int) := by have := L128.out; omega
  have te : Int.tmod (pgE ns m) 4 = pgE ns m % 4 := Int.tmod_eq_emod_of_nonneg z0
  have HB : Hid (∀ q : Nat, q < 128 → wr.cell? ⟨bH, oH + q, none⟩ = some (.int .i64 (hs.getD q 0))) := fun q hq => HH.out q hq wr JW.out
  have hl : hs.length ≤ 128 := by have := L128.out; omega
  have HL := zaa (show 128 ≤ hs.length by have := L128.out; omega)
  clear HM TI PG PN PK P0 PE HH L16 L128 hab CA BW
  generalize pgE ns m = e at *
  generalize pkN ns hs t hot m = pb at *
  obtain ⟨nx, hnx⟩ : ∃ nx, pkN ns hs t hot (m + 1) = nx := ⟨_, rfl⟩
  have HN := zaa hnx
  rw [hnx] at SN ST SX
  clear hnx
  by_cases c1 : e = 0
  ·subst c1
   obtain rfl := SN.out (.inl rfl)
   clear SN ST SX HB hm0 JW
   go_wp2
   go_roundw
   case rel => exact ⟨m + 1, by omega, by go_num, by rw [HN.out], J⟩
   case measure => simp [intOf]; omega
  have q1 : (e == 0) = false := by rw [beq_eq_false_iff_ne]; exact c1
  by_cases c2 : e % 4 = t
  case neg =>
   obtain rfl := SN.out (.inr c2)
   have q2 : (e % 4 != t) = true := by rw [bne_iff_ne]; exact c2
   clear SN ST SX HB hm0 JW
   go_wp2
   go_roundw
   case rel => exact ⟨m + 1, by omega, by go_num, by rw [HN.out], J⟩
   case measure => simp [intOf]; omega
  have q2 : (e % 4 != t) = false := by rw [bne_eq_false_iff_eq]; exact c2
  have cc : ¬ (e = 0 ∨ ¬ e % 4 = t) := fun h => h.elim c1 (fun h => h c2)
  have ST2 := zaa (ST.out cc)
  have SX2 := zaa (SX.out cc)
  clear SN ST SX cc c1 c2
  by_cases c3 : pb < 0
  ·obtain rfl := ST2.out (.inl c3)
   have d3 : decide (pb < 0) = true := decide_eq_true c3
   clear ST2 SX2 HB JW
   go_wp2_with fail
   go_quiet (fail)
   go_wp2
   go_roundw
   case rel => exact ⟨m + 1, by omega, by go_num, by rw [HN.out], zfl J.out _⟩
   case measure => simp [intOf]; omega
  obtain ⟨q, rfl⟩ : ∃ q : Nat, pb = (q : Int) := ⟨pb.toNat, by omega⟩
  have q128 : q < 128 := by omega
  have hq0 := HB.out q q128
  rw [Int.toNat_natCast] at ST2 SX2
  have d3 : decide ((q : Int) < 0) = false := decide_eq_false (by omega)
  have qh0 : (0 : Int) ≤ (q : Int) := by omega
  have qh : (q : Int) < (hs.length : Int) := by have := HL.out; omega
  generalize hs.getD q 0 = zq at *
  generalize hs.getD m 0 = zm at *
  clear HB c3 JW
  cases hot with
  | true =>
   by_cases c4 : zq < zm
   ·obtain rfl := ST2.out (.inr (.inl ⟨rfl, c4⟩))
    have d4 : decide (zm > zq) = true := decide_eq_true c4
    clear ST2 SX2
    go_wp2_with fail
    go_quiet (fail)
    go_wp2
    go_roundw
    case rel => exact ⟨m + 1, by omega, by go_num, by rw [HN.out], zfl J.out _⟩
    case measure => simp [intOf]; omega
   ·obtain rfl := SX2.out (fun h => by rcases h with h | h | h <;> first | omega | cases h.1)
    have d4 : decide (zm > zq) = false := decide_eq_false c4
    clear ST2 SX2
    go_wp2_with fail
    go_quiet (fail)
    go_wp2
    go_roundw
    case rel => exact ⟨m + 1, by omega, by go_num, by rw [HN.out], zfl J.out _⟩
    case measure => simp [intOf]; omega
  | false =>
   by_cases c4 : zm < zq
   ·obtain rfl := ST2.out (.inr (.inr ⟨rfl, c4⟩))
    have d4 : decide (zm < zq) = true := decide_eq_true c4
    clear ST2 SX2
    go_wp2_with fail
    go_quiet (fail)
    go_wp2
    go_roundw
    case rel => exact ⟨m + 1, by omega, by go_num, by rw [HN.out], zfl J.out _⟩
    case measure => simp [intOf]; omega
   ·obtain rfl := SX2.out (fun h => by rcases h with h | h | h <;> first | omega | cases h.1)
    have d4 : decide (zm < zq) = false := decide_eq_false c4
    clear ST2 SX2
    go_wp2_with fail
    go_quiet (fail)
    go_wp2
    go_roundw
    case rel => exact ⟨m + 1, by omega, by go_num, by rw [HN.out], zfl J.out _⟩
    case measure => simp [intOf]; omega
end Go.Proofs.YtpakbbdlhlkogaaGreatDoor
