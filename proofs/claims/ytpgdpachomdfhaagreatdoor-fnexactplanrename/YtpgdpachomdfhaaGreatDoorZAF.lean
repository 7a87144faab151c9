/- Several texts laid together: UpL, ImC. -/
import Derived.Test.YtpgdpachomdfhaaGreatDoorZAE
import Derived.Deep.RegionHeld3
import Derived.Laws.OwnMore
namespace Go.Proofs.YtpgdpachomdfhaaGreatDoor
open Go.RowKit

theorem infoUp : (Tryz.prog.info? 61).map (fun i => (i.zero, i.size, i.bytes)) = some (some (.agg #[.int .i64 0, .int .i64 0]), 2, 16) := by kernel_rfl

set_option maxHeartbeats 1000000 in
theorem eqUpdate_same (a v : Int) (w : World) : Calls Tryz.prog 35 #[.agg #[.int .i64 a, .int .i64 v], .agg #[.int .i64 a, .int .i64 v]] w fun e w' => e = .returned (.bool true) ∧ Below w.heap.size w w' := by
  go_enter Tryz.func35, Tryz.ntmps35
  go_wp2
  go_ret
  refine ⟨rfl, ?_⟩
  repeat (refine Below.alloc ?_ (by simp <;> omega) _)
  exact Below.refl _ _

set_option maxHeartbeats 2000000 in
/-- Two slices of writes that read alike are found alike. -/
theorem eqUpdateS_same (va vb : Value) (ps : List Se) (w : World) (ha : RdE w va ps) (hb : RdE w vb ps) (hn : ps.length ≤ 2147483648) :
    Calls Tryz.prog 11 #[va, vb] w fun e w' => e = .returned (.bool true) ∧ Below w.heap.size w w' := by
  obtain ⟨ao, cap, rfl, hcap, hc⟩ := ha.shape
  obtain ⟨ao2, cap2, rfl, hcap2, hc2⟩ := hb.shape
  clear ha hb
  go_enter Tryz.func11, Tryz.ntmps11
  go_wp2
  go_loopw [5] (fun i wr => ∃ k : Nat, k ≤ ps.length ∧ i = .int .i64 k ∧ Below w.heap.size w wr) (fun i _ => ps.length - (intOf i).toNat)
  case atStart => exact ⟨0, by omega, rfl, Below.refl _ _⟩
  case round =>
    obtain ⟨k, hk, rfl, hbw⟩ := hrel
    by_cases hlt : k < ps.length
    · obtain ⟨b, o, rfl, hbl, hcell⟩ := hc (by omega)
      obtain ⟨b2, o2, rfl, hbl2, hcell2⟩ := hc2 (by omega)
      obtain ⟨c0, c1⟩ := hcell k hlt
      obtain ⟨c3, c4⟩ := hcell2 k hlt
      have d0 := (hbw.cell (p := ⟨b, o + k * 2, none⟩) hbl).trans c0
      have d1 := (hbw.cell (p := ⟨b, o + k * 2 + 1, none⟩) hbl).trans c1
      have d3 := (hbw.cell (p := ⟨b2, o2 + k * 2, none⟩) hbl2).trans c3
      have d4 := (hbw.cell (p := ⟨b2, o2 + k * 2 + 1, none⟩) hbl2).trans c4
      have hlt' : (k : Int) < (ps.length : Int) := by omega
      have hge : (0 : Int) ≤ (k : Int) := by omega
      have hz := hbw.size
      clear hcell hcell2 hc hc2 c0 c1 c3 c4
      go_wp2_with fail
      go_region_with (go_at_call 35; refine (eqUpdate_same _ _ _).mono ?_; rintro e w1 ⟨rfl, hb1⟩)
      all_goals
        go_wp2
        go_roundw
        case rel => exact ⟨k + 1, by omega, by go_num, hbw.trans (Below.mono (Below.trans ((Below.refl _ _).drew) ‹_›) hz)⟩
        case measure => simp [intOf]; omega
    · go_wp2
      go_ret
      exact ⟨rfl, hbw⟩

set_option maxHeartbeats 2000000 in
/-- A slice of writes of the call's own is marked, and nothing else is written. -/
theorem markUpdateS_any (v : Value) (n : Nat) (xs : List Value) (k0 : Int) (lo hi : Nat) (w : World) (h : Row w 61 2 lo hi v n xs) (hx : IsSes xs n) (hn : n ≤ 2147483648) (h0 : 0 ≤ k0) (h1 : k0 ≤ 1099511627776) :
    Calls Tryz.prog 14 #[v, .int .i64 k0] w fun e w' => e = .returned (.int .i64 (k0 + 2 * n)) ∧ Row w' 61 2 lo hi v n (ses (marksE k0 n)) ∧ w.grownBy w' v.ownBlock ∧ w'.heap.size = w.heap.size := by
  obtain ⟨hlen, ao, cap, rfl, hcap, hc⟩ := h.rd
  go_enter Tryz.func14, Tryz.ntmps14
  go_wp2
  go_loopw [1, 5] (fun c i wr => ∃ k : Nat, k ≤ n ∧ i = .int .i64 k ∧ c = .int .i64 (k0 + 2 * k) ∧ (∃ ys : List Value, Row wr 61 2 lo hi (.slice ao n cap) n ys ∧ IsSes ys n ∧ ∀ j, j < k * 2 → ys[j]? = (ses (marksE k0 n))[j]?) ∧ w.grownBy wr (Value.slice ao n cap).ownBlock ∧ wr.heap.size = w.heap.size) (fun _ i _ => n - (intOf i).toNat)
  case atStart => exact ⟨0, by omega, rfl, by simp, ⟨xs, h, hx, fun j hj => absurd hj (by omega)⟩, World.grownBy.refl _ _, rfl⟩
  case round =>
    obtain ⟨k, hk, rfl, rfl, ⟨ys, hrow, hys, hd⟩, hout, hz⟩ := hrel
    clear h hx hc hlen
    by_cases hlt : k < n
    · obtain ⟨hlen, ao', cap', e', _, hc⟩ := hrow.rd
      cases e'
      obtain ⟨b, o, rfl, hbl, _⟩ := hc (by omega)
      obtain ⟨rfl, hb1, hb2, _, hfr, hcl⟩ := hrow.at
      obtain ⟨x, y, q0, q1⟩ := hys k hlt
      have f0 := hfr (k * 2)
      have f1 := hfr (k * 2 + 1)
      have e0 := (hcl (k * 2) (by omega)).trans q0
      have e1 := (hcl (k * 2 + 1) (by omega)).trans q1
      have PH := hideIt (hrow.put2 k (.int .i64 (k0 + 2 * k)) (.int .i64 (k0 + 2 * k + 1)))
      have OH := hideIt (grown_setCell (grown_setCell hout (a := ⟨b, k * 2, none⟩) rfl (.int .i64 (k0 + 2 * k))) (a := ⟨b, k * 2 + 1, none⟩) rfl (.int .i64 (k0 + 2 * k + 1)))
      have IH := hideIt (hys.put2 hlen k (k0 + 2 * k) (k0 + 2 * k + 1))
      have DH : Hid (∀ j, j < (k + 1) * 2 → (put2 ys k (.int .i64 (k0 + 2 * k)) (.int .i64 (k0 + 2 * k + 1)))[j]? = (ses (marksE k0 n))[j]?) := by
        have hk' : k < (marksE k0 n).length := by rw [marksE_len]; exact hlt
        have := put2_step (ps := marksE k0 n) hk' (by rw [marksE_len]; exact hlen) hd
        rw [marksE_at] at this
        exact this
      clear hrow hys hd hc hfr hcl q0 q1
      go_wp2
      go_roundw
      case rel => exact ⟨k + 1, by omega, by go_num, by go_num, ⟨_, PH.out, IH.out, DH.out⟩, OH.out, by simp [hz]⟩
      case measure => simp [intOf]; omega
    · have e : k = n := by omega
      subst e
      have hl := hrow.len
      have RH := hideIt hrow
      have DH := hideIt hd
      clear hrow hys hd
      go_wp2
      go_ret
      have e := ses_all (ps := marksE k0 k) (by rw [marksE_len]; exact hl) (by rw [marksE_len]; exact DH.out)
      exact ⟨rfl, e ▸ RH.out, hout, hz⟩

set_option maxHeartbeats 2000000 in
theorem heldUpdateS_any (v : Value) (n : Nat) (k0 : Int) (w : World) (h : RdE w v (marksE k0 n)) (hn : n ≤ 2147483648) (h0 : 0 ≤ k0) (h1 : k0 ≤ 1099511627776) :
    Calls Tryz.prog 15 #[v, .int .i64 k0] w fun e w' => e = .returned (.int .i64 (k0 + 2 * n)) ∧ w' = w := by
  obtain ⟨ao, cap, rfl, hcap, hc⟩ := h.shape
  simp only [marksE_len] at hcap hc ⊢
  clear h
  go_enter Tryz.func15, Tryz.ntmps15
  go_wp2
  go_loop [1, 5] (fun c i => ∃ k : Nat, k ≤ n ∧ i = .int .i64 k ∧ c = .int .i64 (k0 + 2 * k)) (fun _ i => n - (intOf i).toNat)
  case atStart => exact ⟨0, by omega, rfl, by simp⟩
  case round =>
    obtain ⟨k, hk, rfl, rfl⟩ := hrel
    by_cases hlt : k < n
    · obtain ⟨b, o, rfl, hbl, hcell⟩ := hc (by omega)
      obtain ⟨c0, c1⟩ := hcell k hlt
      rw [marksE_at] at c0 c1
      simp only [markE] at c0 c1
      clear hcell hc
      go_wp2
      go_round
      case rel => exact ⟨k + 1, by omega, by go_num, by go_num⟩
      case measure => simp [intOf]; omega
    · have e : k = n := by omega
      subst e
      go_wp2
      go_ret
      exact ⟨rfl, rfl⟩

end Go.Proofs.YtpgdpachomdfhaaGreatDoor

namespace Go.Proofs.YtpgdpachomdfhaaGreatDoor
open Go.RowKit

theorem rd_upd (w1 : World) (x y : Int) : Rd (w1.alloc (.cells #[.int .i64 x, .int .i64 y] 61)) 2 (.slice (some ⟨w1.heap.size, 0, none⟩) 1 1) 1 (ses [⟨x, y⟩]) := by
  refine ⟨rfl, _, _, rfl, ⟨Nat.le_refl _, fun e => by cases e⟩, fun _ => ⟨w1.heap.size, 0, rfl, by simp, fun j hj => ?_⟩⟩
  obtain ⟨e0, e1, _, _⟩ := two_cells (at_new (w := w1) (o := .cells #[.int .i64 x, .int .i64 y] 61) rfl)
  rcases (show j = 0 ∨ j = 1 by omega) with rfl | rfl
  · exact e0
  · exact e1
theorem ses_ones (l : List Se) : ∀ u ∈ ses l, u.oneCell' = true := by
  intro u hu
  simp only [ses, List.mem_flatMap] at hu
  obtain ⟨m, _, hm⟩ := hu
  simp [Se.cells] at hm
  rcases hm with rfl | rfl <;> rfl
theorem ses_app (l l' : List Se) : ses (l ++ l') = ses l ++ ses l' := by simp [ses]
/-- A row of updates that grows. -/
structure UpI (W w : World) (vL : Value) (ls : List Se) : Prop where
  l : w.ownsRow W.heap.size 61 2 vL ls.length (ses ls)
  b : Below W.heap.size W w
theorem UpI.z {W w : World} {vL : Value} {ls : List Se} (h : UpI W w vL ls) : W.heap.size ≤ w.heap.size := h.b.size
theorem UpI.below {W w w' : World} {vL : Value} {ls : List Se} (h : UpI W w vL ls) (hb : Below w.heap.size w w') : UpI W w' vL ls :=
  ⟨((own_block h.l).below hb (Nat.le_refl _)).1, below_trans h.b hb h.z⟩
theorem UpI.grow {W w w' : World} {vL v' : Value} {ls : List Se} (h : UpI W w vL ls) (ms : List Se) (ho : w'.ownsRow W.heap.size 61 2 v' (ls.length + ms.length) (ses ls ++ ses ms)) (hg : w.grownBy w' vL.ownBlock) : UpI W w' v' (ls ++ ms) :=
  ⟨by rw [ses_app, List.length_append]; exact ho, h.b.grown hg h.z (fun q hq => (h.l.lt q hq).1)⟩
/-- The first words of an inode: three, and k of its map. -/
def wrL (i : Int) (x : Ino) (k : Nat) : List Se := [⟨48 + 12 * i, x.kind⟩, ⟨48 + 12 * i + 1, x.size⟩, ⟨48 + 12 * i + 2, x.links⟩] ++ (List.range k).map (fun j => ⟨48 + 12 * i + (3 + (j : Int)), x.map.getD j 0⟩)
theorem wrL_len (i : Int) (x : Ino) (k : Nat) : (wrL i x k).length = 3 + k := by simp [wrL]; omega
theorem wrL_succ (i : Int) (x : Ino) (k : Nat) : wrL i x (k + 1) = wrL i x k ++ [⟨48 + 12 * i + (3 + (k : Int)), x.map.getD k 0⟩] := by
  unfold wrL; rw [List.range_succ, List.map_append, List.append_assoc]; rfl

set_option maxRecDepth 100000 in
set_option maxHeartbeats 2000000 in
theorem l05Write_any (i : Int) (x : Ino) (w : World) (hi : 0 ≤ i ∧ i < 16) :
    Calls Tryz.prog 75 #[.int .i64 i, x.v] w fun e w' => ∃ v', e = .returned v' ∧ Row w' 61 2 w.heap.size w'.heap.size v' (wrL i x 8).length (ses (wrL i x 8)) ∧ Below w.heap.size w w' := by
  have hv : x.v = .agg x.cs.toArray := rfl
  obtain ⟨W, hW⟩ : ∃ W, W = w.alloc (.cells x.cs.toArray 73) := ⟨_, rfl⟩
  have CA : Hid (∀ w', Below W.heap.size W w' → ∀ j, w'.cell? ⟨w.heap.size, j, none⟩ = x.cs[j]?) := fun w' hb j => by
    have : w'.heap[w.heap.size]? = some (.cells x.cs.toArray 73 (0, 0)) := (hb.block _ (by rw [hW]; simp)).trans (by rw [hW]; exact at_new rfl)
    exact (eight_at (xs := x.cs) this j).1
  have BW : Hid (Below w.heap.size w W) := by rw [hW]; exact (Below.refl _ _).alloc (Nat.le_refl _) _
  have c0 : W.cell? ⟨w.heap.size, 0, none⟩ = some (.int .i64 x.kind) := CA.out W (Below.refl _ _) 0
  have c1 : W.cell? ⟨w.heap.size, 1, none⟩ = some (.int .i64 x.size) := CA.out W (Below.refl _ _) 1
  have c2 : W.cell? ⟨w.heap.size, 2, none⟩ = some (.int .i64 x.links) := CA.out W (Below.refl _ _) 2
  have hWz : w.heap.size < W.heap.size := by rw [hW]; simp
  rw [hv]
  go_enter Tryz.func75, Tryz.ntmps75
  have SK : Hid (∀ w', Below W.heap.size W w' → w'.cell? ⟨w.heap.size, 0, none⟩ = some (.int .i64 x.kind) ∧ w'.cell? ⟨w.heap.size, 1, none⟩ = some (.int .i64 x.size) ∧ w'.cell? ⟨w.heap.size, 2, none⟩ = some (.int .i64 x.links)) := fun w' hb => ⟨CA.out w' hb 0, CA.out w' hb 1, CA.out w' hb 2⟩
  go_wp2_with fail
  rw [← hW]
  clear hW c0 c1 c2
  go_region_held3 (fun w' => w'.cell? ⟨w.heap.size, 0, none⟩ = some (.int .i64 x.kind) ∧ w'.cell? ⟨w.heap.size, 1, none⟩ = some (.int .i64 x.size) ∧ w'.cell? ⟨w.heap.size, 2, none⟩ = some (.int .i64 x.links))
    (exact SK.out _ (by repeat (first | exact Below.refl _ _ | refine Below.drew ?_ | refine Below.alloc ?_ (by simp) _)))
    (first | (go_at_call 58; refine (l03Inode_any _ _ _ hi (by omega)).mono ?_; rintro e w' ⟨rfl, hw'⟩; subst w'))
  have START : Hid (UpI W (W.alloc (.cells #[.int .i64 (48 + 12 * i), .int .i64 x.kind, .int .i64 (48 + 12 * i + 1), .int .i64 x.size, .int .i64 (48 + 12 * i + 2), .int .i64 x.links] 61)).drew (.slice (some ⟨W.heap.size, 0, none⟩) 3 3) (wrL i x 0)) :=
    UpI.below (w := W.alloc (.cells #[.int .i64 (48 + 12 * i), .int .i64 x.kind, .int .i64 (48 + 12 * i + 1), .int .i64 x.size, .int .i64 (48 + 12 * i + 2), .int .i64 x.links] 61)) ⟨World.ownsRow_lit W _ 3 (Nat.le_refl _) (by simp [maxLen]) rfl, (Below.refl _ _).alloc (Nat.le_refl _) _⟩ ((Below.refl _ _).drew)
  clear SK
  go_wp2
  go_loopw [5, 6] (fun vL i' wr => ∃ m : Nat, m ≤ 8 ∧ i' = .int .i64 m ∧ Hid (UpI W wr vL (wrL i x m))) (fun _ i' _ => 8 - (intOf i').toNat)
  case atStart => exact ⟨0, by omega, rfl, START⟩
  case round =>
    obtain ⟨m, hm, rfl, J⟩ := hrel
    clear START
    have m0 : (0 : Int) ≤ (m : Int) := by omega
    by_cases hlt : m < 8
    · have m1 : (m : Int) < 8 := by omega
      have SK : Hid (∀ w', Below W.heap.size W w' → w'.cell? ⟨w.heap.size, 3 + m, none⟩ = some (.int .i64 (x.map.getD m 0))) := fun w' hb => (CA.out w' hb (3 + m)).trans (x.at m hlt)
      have x1 := SK.out wr J.out.b
      have EM := hideIt (wrL_succ i x m)
      have l1 := wrL_len i x m
      have l2 : (wrL i x m).length ≤ 11 := by omega
      have li := hi.1
      have lj := hi.2
      have wp1 : IntKind.i64.wrap (3 + (m : Int)) = 3 + (m : Int) := by rw [IntKind.wrap_i64]; omega
      generalize x.map.getD m 0 = y at *
      have J4 := hideIt (J.out.below ((Below.refl _ _).alloc (Nat.le_refl _) (.cells #[.int .i64 (48 + 12 * i + (3 + (m : Int))), .int .i64 y] 61)))
      have J4d := hideIt ((J.out.below ((Below.refl wr.heap.size wr).drew)).below ((Below.refl _ _).alloc (Nat.le_refl _) (.cells #[.int .i64 (48 + 12 * i + (3 + (m : Int))), .int .i64 y] 61)))
      have HRD := hideIt (rd_upd wr (48 + 12 * i + (3 + (m : Int))) y)
      have HRDd := hideIt (rd_upd wr.drew (48 + 12 * i + (3 + (m : Int))) y)
      clear l1
      go_wp2_with fail
      go_region_held3 (fun w' => w'.cell? ⟨w.heap.size, 3 + m, none⟩ = some (.int .i64 y))
        (first | exact SK.out _ G.out.b | exact SK.out _ J.out.b | exact SK.out _ J.out.b.drew | exact SK.out _ J4.out.b | exact SK.out _ J4d.out.b)
        (first
          | (go_at_call 58; refine (l03Inode_any _ _ _ hi (by omega)).mono ?_; rintro e w' ⟨rfl, hw'⟩; subst w')
          | (refine step_append_rd rfl (.tmp 27) (.tmp 37) 27 rfl W.heap.size 61 (.agg #[.int .i64 0, .int .i64 0]) 2 16 Tryz.underlying27 infoUp rfl (by decide) _ (wrL i x m).length (ses (wrL i x m)) rfl (by first | exact J4.out.l | exact J4d.out.l) _ 1 (ses [⟨48 + 12 * i + (3 + (m : Int)), y⟩]) rfl (by first | exact HRD.out | exact HRDd.out) (ses_ones _) (by simp [maxLen]; omega) (by omega) (by first | exact J4.out.z | exact J4d.out.z) ?_; intro vN wN hownN hgrN; have G := (by first | exact hideIt (J4.out.grow [⟨48 + 12 * i + (3 + (m : Int)), y⟩] hownN hgrN) | exact hideIt (J4d.out.grow [⟨48 + 12 * i + (3 + (m : Int)), y⟩] hownN hgrN) : Hid (UpI W wN vN (wrL i x m ++ [⟨48 + 12 * i + (3 + (m : Int)), y⟩]))); clear hownN hgrN))
      all_goals
        rw [← EM.out] at G
        clear J J4 J4d HRD HRDd x1 SK
        go_wp2
        go_roundw
        case rel => exact ⟨m + 1, by omega, by go_num, G⟩
        case measure => simp [intOf]; omega
    · obtain rfl : m = 8 := by omega
      obtain ⟨-, aL, cL, hvL, -⟩ := (own_block J.out.l).rd
      subst hvL
      go_wp2
      go_ret
      exact ⟨_, rfl, (own_block J.out.l).wide (by omega) (Nat.le_refl _), below_trans BW.out (J.out.b) (by omega)⟩
end Go.Proofs.YtpgdpachomdfhaaGreatDoor
