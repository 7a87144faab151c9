/- Several texts laid together: PeF, PeG, RdB, PeH. -/
import Derived.Test.YtmeiionabonhnaaGreatDoorZBK
import Derived.Test.YtmeiionabonhnaaGreatDoorZAX
import Derived.Test.YtmeiionabonhnaaGreatDoorZAE
import Derived.Test.YtmeiionabonhnaaGreatDoorZAF
import Derived.Test.YtmeiionabonhnaaGreatDoorZBJ
import Derived.Test.YtmeiionabonhnaaGreatDoorZAB
import Derived.Test.YtmeiionabonhnaaGreatDoorWt
import Derived.Test.YtmeiionabonhnaaGreatDoorZAT
import Derived.Test.YtmeiionabonhnaaGreatDoorZAC
import Derived.Test.YtmeiionabonhnaaGreatDoorZAH
import Derived.Deep.LoopGhost
import Derived.Deep.RegionHeld3
import Derived.Deep.DeepCutAuto
import Derived.Deep.RegionWith
namespace Go.Proofs.YtmeiionabonhnaaGreatDoor
open Go.RowKit
theorem name_size {ws : List Ino} {ps : List Den} (h : imgB ws ps = true) {j : Nat} (hj : j < ps.length) (hc : 1 ≤ ps[j].child) : ps[j].name.size ≤ 6 := by
  rcases pimg_ent h j hj with r | r
  · omega
  · have := r.2.2.1
    unfold nmB at this
    exact (of_decide_eq_true this).2.1
theorem pthK_take (ws : List Ino) (ps : List Den) (n : Nat) (d : Int) (hd : ByteArray) (ns : List ByteArray) (m : Nat) : (pthK ws ps n d hd (ns.take m)).length ≤ (pthK ws ps n d hd ns).length := by
  have e : pthK ws ps n d hd ns = pthK ws ps n d hd (ns.take m) ++ pthK ws ps n d hd (ns.drop m) := by
    unfold pthK
    rw [← List.flatMap_append, List.take_append_drop]
  rw [e, List.length_append]
  omega
theorem OutI.row {W w : World} {b0 lo : Nat} {v : Value} {ss : List ByteArray} (h : OutI W w b0 v ss) (hr : Row w 9 1 lo w.heap.size (.slice (some ⟨b0, 0, none⟩) 0 0) 0 []) (hl : lo ≤ W.heap.size) : Row w 9 1 lo w.heap.size v ss.length (strs ss) := by
  rcases h with ⟨rfl, rfl, _⟩ | ⟨h, _⟩
  · exact hr
  · exact (own_block h.l).wide hl (Nat.le_refl _)
theorem path_size (a b : ByteArray) : (a ++ ⟨#[47]⟩ ++ b).size = a.size + 1 + b.size := by
  rw [ByteArray.size_append, ByteArray.size_append]
  rfl
set_option maxRecDepth 100000 in
set_option maxHeartbeats 8000000 in
theorem l06Paths_any {ws : List Ino} {ps : List Den} (hi : imgB ws ps = true) : ∀ (n kd : Nat) (d : Int) (hd : ByteArray) (v : Value) (w : World), kd + n = 16 → dep ps kd d → (0 ≤ d ∧ d ≤ 15) → kindAt ws d = 2 → hd.size ≤ 7 * kd → RdIm w v ws ps →
    Calls Tryz.prog 70 #[v, .int .i64 d, .string hd] w fun e w' => ∃ v', e = .returned v' ∧ Row w' 9 1 w.heap.size w'.heap.size v' (pthN ws ps n d hd).length (strs (pthN ws ps n d hd)) ∧ Below w.heap.size w w' := by
  intro n
  induction n with
  | zero => intro kd d hd v w hkn hdep h0 hk; exact absurd (dep_small hi h0 hk hdep) (by omega)
  | succ n IH =>
  intro kd d hd v w hkn hdep hd0 hkd hhd h
  have HR := hideIt h
  have LE := hideIt (fun nm w1 h => l06Entry_any v ws ps d nm w1 h (by have := (pimg_all hi).2.1; omega))
  have LN := hideIt (fun w1 h => l05Names_any v ws ps d w1 h (by have := (pimg_all hi).2.1; omega))
  have LP := hideIt (fun (j : Nat) (hj : j < ps.length) (e : ps[j].dir = d) (c : 1 ≤ ps[j].child ∧ ps[j].child ≤ 15) (q : kindAt ws ps[j].child = 2) s w1 (hs : s.size ≤ 7 * (kd + 1)) h => IH (kd + 1) ps[j].child s v w1 (by omega) (dep_down hi hj c q (by rw [e]; exact hdep)) (by omega) q hs h)
  have NE := hideIt (fun nm (hm : nm ∈ sorted (namesD ps d)) => name_ent hi hm)
  have LEN := hideIt (fun (m : Nat) (hm : m ≤ (sorted (namesD ps d)).length) => show (pthK ws ps n d hd ((sorted (namesD ps d)).take m)).length ≤ 24 from by
    refine Nat.le_trans ?_ (pthN_len hi (n + 1) kd d hd hdep)
    rw [pthK_all]
    exact pthK_take ws ps n d hd _ m)
  have SUCC := hideIt (fun (m : Nat) (hm : m < (sorted (namesD ps d)).length) => pthK_succ ws ps n d hd hm)
  have ALL := hideIt (pthK_all ws ps n d hd)
  have Z0 := hideIt (pthK_zero ws ps n d hd (sorted (namesD ps d)))
  have NSZ := hideIt (fun (j : Nat) (hj : j < ps.length) (c : 1 ≤ ps[j].child) => name_size hi hj c)
  have PL := hideIt (fun (j : Nat) (hj : j < ps.length) (e : ps[j].dir = d) (c : 1 ≤ ps[j].child ∧ ps[j].child ≤ 15) (q : kindAt ws ps[j].child = 2) s => pthN_len hi n (kd + 1) ps[j].child s (dep_down hi hj c q (by rw [e]; exact hdep)))
  clear IH
  obtain ⟨vW, vP, rfl, h1, h2⟩ := h
  obtain ⟨aW, cW, rfl, _, hcW⟩ := h1.shape
  obtain ⟨aP, cP, rfl, _, hcP⟩ := h2.shape
  have L16 := hideIt (pimg_all hi).1
  have L24 := hideIt (pimg_all hi).2.1
  obtain ⟨bW, oW, rfl, hblW, hcellW⟩ := hcW (by have := L16.out; omega)
  obtain ⟨bP, oP, rfl, hblP, hcellP⟩ := hcP (by have := L24.out; omega)
  have HW : Hid (∀ w', Below w.heap.size w w' → ∀ n : Nat, n < 16 → w'.cell? ⟨bW, oW + n * 11, none⟩ = some (.int .i64 (kindAt ws n))) := fun w' hb n hn => by
    have hnl : n < ws.length := by have := L16.out; omega
    rw [kindAt_of hnl]
    exact (hb.cell (p := ⟨bW, oW + n * 11, none⟩) hblW).trans (hcellW n hnl).1
  have HP : Hid (∀ w', Below w.heap.size w w' → ∀ k (h : k < ps.length), w'.cell? ⟨bP, oP + k * 3 + 2, none⟩ = some (.int .i64 ps[k].child)) := fun w' hb k hk => (hb.cell (p := ⟨bP, oP + k * 3 + 2, none⟩) hblP).trans (hcellP k hk).2.2
  clear h1 h2 hcW hcP hcellW hcellP hi hdep hkd
  obtain ⟨W, hW⟩ : ∃ W, W = (w.alloc (.cells #[.slice (some ⟨bW, oW, none⟩) ws.length cW, .slice (some ⟨bP, oP, none⟩) ps.length cP] 98)).alloc (.cells #[] 9) := ⟨_, rfl⟩
  have hz1 : W.heap.size = w.heap.size + 1 + 1 := by rw [hW]; simp
  have CA : Hid (∀ w', Below W.heap.size W w' → w'.cell? ⟨w.heap.size, 0, none⟩ = some (.slice (some ⟨bW, oW, none⟩) ws.length cW) ∧ w'.cell? ⟨w.heap.size, 1, none⟩ = some (.slice (some ⟨bP, oP, none⟩) ps.length cP)) := fun w' hb => by
    have : w'.heap[w.heap.size]? = some (.cells #[.slice (some ⟨bW, oW, none⟩) ws.length cW, .slice (some ⟨bP, oP, none⟩) ps.length cP] 98 (0, 0)) := (hb.block _ (by omega)).trans (by rw [hW]; exact at_old (at_new rfl))
    exact ⟨(two_cells this).1, (two_cells this).2.1⟩
  have R0 : Hid (Row W 9 1 w.heap.size W.heap.size (.slice (some ⟨w.heap.size + 1, 0, none⟩) 0 0) 0 []) := by
    have := row_none9 (w.alloc (.cells #[.slice (some ⟨bW, oW, none⟩) ws.length cW, .slice (some ⟨bP, oP, none⟩) ps.length cP] 98))
    rw [← hW, World.size_alloc] at this
    exact this.wide (by omega) (Nat.le_refl _)
  have BW : Hid (Below w.heap.size w W) := by rw [hW]; exact ((Below.refl _ _).alloc (Nat.le_refl _) _).alloc (by simp) _
  have hz : w.heap.size ≤ W.heap.size := BW.out.size
  obtain ⟨x0, x1⟩ := CA.out W (Below.refl _ _)
  go_enter Tryz.func70, Tryz.ntmps70
  go_wp2_with fail
  rw [← hW]
  clear hW hz1
  refine (LN.out _ (HR.out.below BW.out)).mono ?_
  rintro e w1 ⟨vN, rfl, hrN, hbN⟩
  have hNS : (sorted (namesD ps d)).length ≤ 24 := by
    rw [sorted_len, ← L24.out]
    exact names_len ps d
  generalize sorted (namesD ps d) = NS at *
  have RN : Hid (RdT w1 vN NS) := hrN.rd
  have BN := hideIt hbN
  obtain ⟨aN, cN, rfl, _, hcN⟩ := RN.out.shape
  have HN := hideIt hcN
  have hzN : W.heap.size ≤ w1.heap.size := hbN.size
  clear hrN hbN hcN LN x0 x1
  have START : Hid (OutI w1 w1 (w.heap.size + 1) (.slice (some ⟨w.heap.size + 1, 0, none⟩) 0 0) (pthK ws ps n d hd (NS.take 0))) := .inl ⟨rfl, Z0.out, Below.refl _ _⟩
  clear Z0
  go_wp2_with fail
  go_loopg [7, 9] NS.length (fun g o i wr => ∃ k : Nat, k + g = NS.length ∧ i = .int .i64 k ∧ Hid (OutI w1 wr (w.heap.size + 1) o (pthK ws ps n d hd (NS.take k))))
  case atStart => exact ⟨0, by omega, rfl, START.out⟩
  case round =>
    obtain ⟨k, hk, rfl, J⟩ := hrel
    clear START
    have k0 : (0 : Int) ≤ (k : Int) := by omega
    have B1 := hideIt J.out.b
    have BB := hideIt (below_trans BW.out (below_trans BN.out B1.out hzN) hz)
    by_cases hlt : k < NS.length
    · have k1 : (k : Int) < (NS.length : Int) := by omega
      obtain ⟨bN, oN, rfl, hblN, hcell⟩ := HN.out (by omega)
      have CN : Hid (∀ w', Below w1.heap.size w1 w' → w'.cell? ⟨bN, oN + k, none⟩ = some (.string NS[k])) := fun w' hb => (hb.cell (p := ⟨bN, oN + k, none⟩) hblN).trans (hcell k hlt)
      obtain ⟨j, hj, ej, ed, en, ec, c1, c2⟩ := NE.out NS[k] (List.getElem_mem hlt)
      have SU := hideIt (SUCC.out k hlt)
      rw [ec] at SU
      have nsz := NSZ.out j hj c1
      rw [en] at nsz
      have EI : Hid (entI ps d NS[k] = (j : Int)) := by unfold Hid entI; rw [ej]
      have LE2 := hideIt (fun w2 (hb : Below w.heap.size w w2) => LE.out NS[k] w2 (HR.out.below hb))
      rw [EI.out] at LE2
      have HJ := hideIt (fun w' (hb : Below w.heap.size w w') => HP.out w' hb j hj)
      have LP2 := hideIt (fun (q : kindAt ws ps[j].child = 2) s w2 hs (hb : Below w.heap.size w w2) => LP.out j hj ed ⟨c1, c2⟩ q s w2 hs (HR.out.below hb))
      have PL2 := hideIt (fun (q : kindAt ws ps[j].child = 2) s => PL.out j hj ed ⟨c1, c2⟩ q s)
      have l1 := LEN.out k (by omega)
      clear hcell NE LE LP PL NSZ LEN SUCC EI ej ed en ec HP
      have j0 : (0 : Int) ≤ (j : Int) := by omega
      have j1 : (j : Int) < (ps.length : Int) := by omega
      obtain ⟨y, hy⟩ : ∃ y : Nat, ps[j].child = (y : Int) := ⟨ps[j].child.toNat, by omega⟩
      rw [hy] at SU HJ LP2 PL2 c1 c2
      clear hy
      have y0 : (0 : Int) ≤ (y : Int) := by omega
      have y1 : (y : Int) < (ws.length : Int) := by have := L16.out; omega
      have HK := hideIt (fun w' (hb : Below w.heap.size w w') => HW.out w' hb y (by omega))
      clear HW
      generalize NS[k] = nm at *
      obtain ⟨p, hp⟩ : ∃ p, p = hd ++ ⟨#[47]⟩ ++ nm := ⟨_, rfl⟩
      have psz : p.size ≤ 7 * (kd + 1) := by rw [hp, path_size]; omega
      have SP := hideIt hp
      rw [← hp] at SU
      generalize pthK ws ps n d hd (NS.take k) = P at *
      obtain ⟨bO, cO, rfl⟩ := J.out.form
      have JB := hideIt (J.out.below ((Below.refl _ _).alloc (Nat.le_refl _) (.cells #[.string p] 9)))
      have RB := hideIt (rd_str wr p)
      have n0 := CN.out wr B1.out
      subst hp
      go_wp2_with (at_builtin; refine wpList_append_out rfl (.tmp 29) (.tmp 31) rfl rfl JB.out rfl RB.out (.inr (by simp)) (by simp; omega) ?_)
      intro vA wA OA0
      have OA := hideIt OA0
      clear OA0 SP
      generalize hd ++ ⟨#[47]⟩ ++ nm = p at *
      obtain ⟨bA, cA, rfl⟩ := OA.out.form
      have hl : (P ++ [p]).length = P.length + 1 := by simp
      rw [hl] at OA
      clear hl
      have A1 := hideIt OA.out.b
      have AB := hideIt (below_trans BW.out (below_trans BN.out A1.out hzN) hz)
      have SK : Hid (∀ w', Below wA.heap.size wA w' → ((w'.cell? ⟨w.heap.size, 0, none⟩ = some (.slice (some ⟨bW, oW, none⟩) ws.length cW) ∧ w'.cell? ⟨w.heap.size, 1, none⟩ = some (.slice (some ⟨bP, oP, none⟩) ps.length cP)) ∧ w'.cell? ⟨bN, oN + k, none⟩ = some (.string nm)) ∧ w'.cell? ⟨bP, oP + j * 3 + 2, none⟩ = some (.int .i64 (y : Int))) := fun w' hb => ⟨⟨CA.out w' (below_trans BN.out (below_trans A1.out hb A1.out.size) hzN), CN.out w' (below_trans A1.out hb A1.out.size)⟩, HJ.out w' (below_trans AB.out hb AB.out.size)⟩
      have LE3 := hideIt (fun w2 (hb : Below wA.heap.size wA w2) => LE2.out w2 (below_trans AB.out hb AB.out.size))
      clear n0 JB RB J LE2 HJ
      obtain ⟨⟨⟨x0, x1⟩, n1⟩, m0⟩ := SK.out wA (Below.refl _ _)
      go_wp2_with fail
      go_region_held3 (fun w' => ((w'.cell? ⟨w.heap.size, 0, none⟩ = some (.slice (some ⟨bW, oW, none⟩) ws.length cW) ∧ w'.cell? ⟨w.heap.size, 1, none⟩ = some (.slice (some ⟨bP, oP, none⟩) ps.length cP)) ∧ w'.cell? ⟨bN, oN + k, none⟩ = some (.string nm)) ∧ w'.cell? ⟨bP, oP + j * 3 + 2, none⟩ = some (.int .i64 (y : Int)))
        (exact SK.out _ (by repeat (first | with_reducible exact BF.out | with_reducible exact Below.refl _ _ | with_reducible refine Below.drew ?_)))
        (first
          | (go_at_call 131; refine (LE3.out _ (by repeat (first | with_reducible exact BF.out | with_reducible exact Below.refl _ _ | with_reducible refine Below.drew ?_))).mono ?_; rintro e w2 ⟨rfl, hb1⟩; have BF : Hid (Below wA.heap.size wA w2) := (by first | exact hb1 | exact below_trans (by repeat (first | with_reducible exact BF.out | with_reducible exact Below.refl _ _ | with_reducible refine Below.drew ?_)) hb1 (Nat.le_refl _)); clear hb1))
      all_goals
        have B3 := hideIt (below_trans AB.out BF.out AB.out.size)
        have ky := HK.out _ B3.out
        obtain ⟨⟨⟨y2, y3⟩, _⟩, _⟩ := SK.out _ BF.out
        have O2 := hideIt (OA.out.below BF.out)
        clear SK x0 x1 n1 m0 OA LE3 HK
        by_cases q : kindAt ws (y : Int) = 2
        · rw [if_pos q] at SU
          rw [q] at ky
          have LP3 := hideIt (LP2.out q p _ psz B3.out)
          have l2 := PL2.out q p
          clear LP2 PL2 q
          go_wp2_with fail
          refine LP3.out.mono ?_
          rintro e w3 ⟨v3, rfl, hr3, hb3⟩
          have O3 := hideIt (O2.out.below hb3)
          have R3 : Hid (RdT w3 v3 (pthN ws ps n (y : Int) p)) := hr3.rd
          obtain ⟨a3, c3, rfl, _⟩ := R3.out.shape
          clear O2 hr3 hb3 LP3 ky y2 y3 B3 BF
          generalize pthN ws ps n (y : Int) p = L at *
          go_wp2_with (at_builtin; refine wpList_append_out rfl (.tmp 52) (.tmp 56) rfl rfl O3.out rfl R3.out (.inl (by simp)) (by simp; omega) ?_)
          intro vB wB OB0
          have OB : Hid (OutI w1 wB (w.heap.size + 1) vB (pthK ws ps n d hd (NS.take (k + 1)))) := by unfold Hid; rw [SU.out, List.append_assoc]; exact OB0
          clear OB0 O3 R3 SU
          go_wp2
          go_roundg (NS.length - (k + 1))
          case measure => omega
          case rel => exact ⟨k + 1, by omega, by go_num, OB.out⟩
        · rw [if_neg q, List.append_nil] at SU
          have OB : Hid (OutI w1 w2 (w.heap.size + 1) (.slice (some ⟨bA, 0, none⟩) (P.length + 1) cA) (pthK ws ps n d hd (NS.take (k + 1)))) := by unfold Hid; rw [SU.out]; exact O2.out
          have q1 : (kindAt ws (y : Int) == 2) = false := by rw [beq_eq_false_iff_ne]; exact q
          clear O2 SU LP2 PL2
          go_wp2
          go_roundg (NS.length - (k + 1))
          case measure => omega
          case rel => exact ⟨k + 1, by omega, by go_num, OB.out⟩
    · obtain rfl : k = NS.length := by omega
      rw [List.take_length, ← ALL.out] at J
      have RF := hideIt (J.out.row (R0.out.below (below_trans BN.out B1.out hzN) (Nat.le_refl _) |>.wide (Nat.le_refl _) (by have := B1.out.size; omega)) (by omega))
      clear J ALL SUCC LEN NE LE LP PL NSZ HW HP HN CA
      go_wp2
      go_ret
      exact ⟨_, rfl, RF.out, BB.out⟩
end Go.Proofs.YtmeiionabonhnaaGreatDoor

namespace Go.Proofs.YtmeiionabonhnaaGreatDoor
open Go.RowKit
def poC (ws : List Ino) (ps : List Den) : Int := if imgB ws ps = true then 0 else 1
def poL (ws : List Ino) (ps : List Den) : List ByteArray := if imgB ws ps = true then pthN ws ps 16 0 ⟨#[]⟩ else []
theorem poL_len (ws : List Ino) (ps : List Den) : (poL ws ps).length ≤ 24 := by
  unfold poL
  split
  · rename_i h; exact pthN_len h 16 0 0 _ rfl
  · exact Nat.zero_le _
end Go.Proofs.YtmeiionabonhnaaGreatDoor

namespace Go.Proofs.YtmeiionabonhnaaGreatDoor
open Go.RowKit
theorem own_type {w : World} {base : Nat} {e t : TypeId} {size : Nat} {v : Value} {n : Nat} {xs : List Value} {b : Nat} {cs : Array Value} {fr : Nat × Nat} (h : w.ownsRow base e size v n xs) (hb : w.heap[b]? = some (.cells cs t fr)) (hne : e ≠ t) : v.ownBlock ≠ some b := by
  intro hv
  obtain ⟨_, h1 | ⟨g, cap, cur, e1, _, hg, _⟩⟩ := h
  · rw [h1.1] at hv; cases hv
  · rw [e1] at hv
    have : g = b := by simpa [Value.ownBlock] using hv
    subst this
    rw [hg] at hb
    injection hb with hb
    injection hb with _ ht _
    exact hne ht
end Go.Proofs.YtmeiionabonhnaaGreatDoor

namespace Go.Proofs.YtmeiionabonhnaaGreatDoor
open Go.RowKit
def wkF (bR bS bF : Nat) : Value := .func (.func 80) #[] #[.pointer (some ⟨bR, 0, none⟩), .pointer (some ⟨bS, 0, none⟩), .pointer (some ⟨bF, 0, none⟩)]
structure WkI (tF : TypeId) (W w : World) (bR bS bF : Nat) (vS : Value) (ss : List ByteArray) : Prop where
  s : w.heap[bS]? = some (.cells #[vS] 27 (0, 0))
  f : w.heap[bF]? = some (.cells #[wkF bR bS bF] tF (0, 0))
  i : SnI W w vS ss
  hs : W.heap.size ≤ bS
  ne : ¬ bF = bS
theorem WkI.below {tF : TypeId} {W w w' : World} {bR bS bF : Nat} {vS : Value} {ss : List ByteArray} (h : WkI tF W w bR bS bF vS ss) (hb : Below w.heap.size w w') : WkI tF W w' bR bS bF vS ss :=
  ⟨(hb.block _ (Array.getElem?_eq_some_iff.1 h.s).1).trans h.s, (hb.block _ (Array.getElem?_eq_some_iff.1 h.f).1).trans h.f, h.i.below hb, h.hs, h.ne⟩
theorem WkI.grow {tF : TypeId} {W w w' : World} {bR bS bF : Nat} {vS v' : Value} {ss : List ByteArray} (h : WkI tF W w bR bS bF vS ss) (hF : (9 : Nat) ≠ tF) (l : List ByteArray) {m : Nat} (hm : m = l.length) (ho : w'.ownsRow W.heap.size 9 1 v' (ss.length + m) (strs ss ++ strs l)) (hg : w.grownBy w' vS.ownBlock) :
    w'.heap[bS]? = some (.cells #[vS] 27 (0, 0)) ∧ WkI tF W (w'.setCell ⟨bS, 0, none⟩ v') bR bS bF v' (ss ++ l) := by
  have hs : w'.heap[bS]? = some (.cells #[vS] 27 (0, 0)) := (hg.block _ (Array.getElem?_eq_some_iff.1 h.s).1 (own_type h.i.l h.s (by decide)).symm).trans h.s
  have hf : w'.heap[bF]? = some (.cells #[wkF bR bS bF] tF (0, 0)) := (hg.block _ (Array.getElem?_eq_some_iff.1 h.f).1 (own_type h.i.l h.f hF).symm).trans h.f
  have g := h.i.grow l hm ho hg
  refine ⟨hs, eight_set (xs := [vS]) hs 0 v', ?_, ⟨?_, g.b.setCell h.hs _⟩, h.hs, h.ne⟩
  · rw [Below.heap_setCell _ _ _ _ (by exact h.ne)]; exact hf
  · exact ownsRow_setCell_other g.l (own_type g.l hs (by decide)) _
theorem one_cells {w : World} {b : Nat} {t : TypeId} {x : Value} (h : w.heap[b]? = some (.cells #[x] t (0, 0))) : w.cell? ⟨b, 0, none⟩ = some x ∧ w.frozen? ⟨b, 0, none⟩ = false := eight_at (xs := [x]) h 0
def wkK (rs : List Den) (m : Nat) (d : Int) (hd : ByteArray) (l : List Den) : List ByteArray := (l.filter fun x => x.dir == d).flatMap fun x => (hd ++ ⟨#[47]⟩ ++ x.name) :: pthR rs m x.child (hd ++ ⟨#[47]⟩ ++ x.name)
theorem wkK_succ (rs : List Den) (m : Nat) (d : Int) (hd : ByteArray) {l : List Den} {k : Nat} (hk : k < l.length) : wkK rs m d hd (l.take (k + 1)) = if l[k].dir = d then (wkK rs m d hd (l.take k) ++ [hd ++ ⟨#[47]⟩ ++ l[k].name]) ++ pthR rs m l[k].child (hd ++ ⟨#[47]⟩ ++ l[k].name) else wkK rs m d hd (l.take k) := by
  unfold wkK
  rw [List.take_succ_eq_append_getElem hk, List.filter_append, List.flatMap_append]
  by_cases c : l[k].dir = d
  · rw [if_pos c]; simp [c]
  · rw [if_neg c]; simp [c]
theorem wkK_none {rs l : List Den} {d : Int} (h : ∀ x ∈ l, ¬ x.dir = d) (m : Nat) (hd : ByteArray) : wkK rs m d hd l = [] := by
  unfold wkK
  rw [List.filter_eq_nil_iff.2 (fun x hx => by simp [h x hx])]
  rfl
theorem wkK_take (rs : List Den) (m : Nat) (d : Int) (hd : ByteArray) (l : List Den) (j : Nat) : (wkK rs m d hd (l.take j)).length ≤ (wkK rs m d hd l).length := by
  have e : wkK rs m d hd l = wkK rs m d hd (l.take j) ++ wkK rs m d hd (l.drop j) := by
    unfold wkK
    rw [← List.flatMap_append, ← List.filter_append, List.take_append_drop]
  rw [e, List.length_append]
  omega
end Go.Proofs.YtmeiionabonhnaaGreatDoor
