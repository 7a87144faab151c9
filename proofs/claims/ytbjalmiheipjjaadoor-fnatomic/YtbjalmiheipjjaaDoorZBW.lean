/- Several texts laid together: JlN, LawJournal. -/
import Derived.Test.YtbjalmiheipjjaaDoorJlM
import Derived.BigQuiet
import Derived.Deep.QuietTactic
import Derived.Deep.DeepCutAuto
namespace Go.Proofs.YtbjalmiheipjjaaDoor
open Go.RowKit
theorem at_one (v : Value) (i : Int) (w : World) : Calls Tryd.prog 9 #[v, .int .i64 i, .int .i64 1] w fun e w' => e = .returned (.int .i64 0) ∧ Below w.heap.size w w' := by
  go_enter Tryd.func9, Tryd.ntmps9
  go_wp2
  go_ret
  exact ⟨rfl, Below.refl _ _⟩
theorem at_some (v : Value) (bs : List Int) (i n : Int) (w : World) (h : RdB w v bs) (hl : bs.length ≤ 1048576) (h0 : 0 ≤ i) (h1 : i ≤ 9) (hn : 1 ≤ n) (hn2 : n ≤ 100000) :
    Calls Tryd.prog 9 #[v, .int .i64 i, .int .i64 n] w fun e w' => ∃ x : Nat, e = .returned (.int .i64 (x : Int)) ∧ (x : Int) < n ∧ Below w.heap.size w w' := by
  by_cases c : n = 1
  · subst c
    refine (at_one v i w).mono ?_
    rintro e w' ⟨rfl, hb⟩
    exact ⟨0, rfl, by omega, hb⟩
  · refine (at_exact v bs i n w h hl h0 h1 (by omega) hn2).mono ?_
    rintro e w' ⟨rfl, hb⟩
    have := atV_bd bs i n (by omega)
    exact ⟨(atV bs i n).toNat, by rw [Int.toNat_of_nonneg this.1], by omega, hb⟩
theorem mis_take (l : List Mi) (m j : Nat) (hj : j < m * 3) (hm : m ≤ l.length) : (mis l)[j]? = (mis (l.take m))[j]? := by
  have e : mis l = mis (l.take m) ++ mis (l.drop m) := by rw [← mis_append, List.take_append_drop]
  rw [e, List.getElem?_append_left (by rw [mis_len, List.length_take]; omega)]
theorem rd_take {w : World} {ao : Option Addr} {n c : Nat} {l : List Mi} {m : Nat} (h : RdM w (.slice ao n c) l) (hn : l.length = n) (hm : m ≤ n) : RdM w (.slice ao m c) (l.take m) := by
  subst hn
  obtain ⟨_, ao', cap, e, h2, h3⟩ := h
  injection e with e1 _ e3
  subst e1 e3
  have hl : (l.take m).length = m := by rw [List.length_take]; omega
  refine ⟨by rw [mis_len], ao, c, by rw [hl], ⟨by rw [hl]; omega, h2.2⟩, fun hp => ?_⟩
  rw [hl] at hp
  obtain ⟨b, o, rfl, hb, hcl⟩ := h3 (by omega)
  refine ⟨b, o, rfl, hb, fun j hj => ?_⟩
  rw [hl] at hj
  rw [hcl j (by omega)]
  exact mis_take l m j hj hm
set_option maxRecDepth 100000 in
set_option maxHeartbeats 1000000 in
theorem sameInts_bool (va vb : Value) (xs ys : List Int) (n : Nat) (w : World) (hx : RdI w va xs) (hy : RdI w vb ys) (hxl : xs.length = n) (hyl : ys.length = n) (hn : n ≤ 100000) :
    Calls Tryd.prog 16 #[va, vb] w fun e w' => ∃ b : Bool, e = .returned (.bool b) ∧ (xs = ys → b = true) ∧ Below w.heap.size w w' := by
  by_cases c : xs = ys
  · subst c
    refine (sameIntsE_same va vb xs w hx hy (by omega)).mono ?_
    rintro e w' ⟨rfl, hb⟩
    exact ⟨true, rfl, fun _ => rfl, hb⟩
  · have C := hideIt c
    obtain ⟨ao, cap, e1, _, hc⟩ := hx.shape
    obtain ⟨ao2, cap2, e2, _, hc2⟩ := hy.shape
    rw [hxl] at e1
    rw [hyl] at e2
    subst e1 e2
    have XC : Hid (0 < n → ∃ b o, ao = some ⟨b, o, none⟩ ∧ b < w.heap.size ∧ ∀ k, k < n → w.cell? ⟨b, o + k, none⟩ = some (.int .i64 (xs[k]?.getD 0))) := fun h => by
      obtain ⟨b, o, e, hb, hh⟩ := hc (by omega)
      exact ⟨b, o, e, hb, fun k hk => by rw [hh k (by omega), List.getElem?_eq_getElem (by omega)]; rfl⟩
    have YC : Hid (0 < n → ∃ b o, ao2 = some ⟨b, o, none⟩ ∧ b < w.heap.size ∧ ∀ k, k < n → w.cell? ⟨b, o + k, none⟩ = some (.int .i64 (ys[k]?.getD 0))) := fun h => by
      obtain ⟨b, o, e, hb, hh⟩ := hc2 (by omega)
      exact ⟨b, o, e, hb, fun k hk => by rw [hh k (by omega), List.getElem?_eq_getElem (by omega)]; rfl⟩
    clear hx hy c hc hc2 hxl hyl
    go_enter Tryd.func16, Tryd.ntmps16
    go_wp2
    go_loopw [5] (fun i wr => ∃ k : Nat, k ≤ n ∧ i = .int .i64 k ∧ Below w.heap.size w wr) (fun i _ => n - (intOf i).toNat)
    case atStart => exact ⟨0, by omega, rfl, Below.refl _ _⟩
    case round =>
      obtain ⟨k, hk, rfl, hbw⟩ := hrel
      by_cases hlt : k < n
      · obtain ⟨b, o, rfl, hbl, hcell⟩ := XC.out (by omega)
        obtain ⟨b2, o2, rfl, hbl2, hcell2⟩ := YC.out (by omega)
        have hck := (hbw.cell (p := ⟨b, o + k, none⟩) hbl).trans (hcell k hlt)
        have hck2 := (hbw.cell (p := ⟨b2, o2 + k, none⟩) hbl2).trans (hcell2 k hlt)
        have hlt' : (k : Int) < (n : Int) := by omega
        have hge : (0 : Int) ≤ (k : Int) := by omega
        clear hcell hcell2
        generalize xs[k]?.getD 0 = x at *
        generalize ys[k]?.getD 0 = y at *
        by_cases q : (x != y) = true
        · go_wp2
          go_quiet (fail)
          go_wp2
          go_ret
          exact ⟨_, rfl, fun h => absurd h C.out, Below.drewN'' hbw _⟩
        · have q' : (x != y) = false := by simpa using q
          clear q
          go_wp2
          go_quiet (fail)
          go_wp2
          go_roundw
          case rel => exact ⟨k + 1, by omega, by go_num, Below.drewN'' hbw _⟩
          case measure => simp [intOf]; omega
      · go_wp2
        go_ret
        exact ⟨_, rfl, fun h => absurd h C.out, hbw⟩
theorem zero_drop {X : List Int} (hX : X.length = 336) (hz : Zero X) : X.drop 48 = zs336.drop 48 := drop_eq hX zs336_len (fun a h1 h2 => by rw [zs336_at a h2]; exact hz.2 a h1 h2)
theorem atomic_math {us : List Se} (h : DrOK us) (hl : us.length ≤ 5) (m : Nat) (zs : List Int) :
    ∃ W P rl F, ms ((planL (upsL us)).take m) zs336 [] zs32 [] = ⟨0, W, P, zs32, []⟩ ∧ pmB W P = true ∧ pmB (crW W P zs) [] = true ∧ rpC (crW W P zs) [] = 0 ∧ rpL (crW W P zs) [] = rl ∧ rl.length ≤ 100 ∧
      ms rl (crW W P zs) [] zs32 [] = ⟨0, F, [], zs32, []⟩ ∧ pmB F [] = true ∧ F[8]?.getD 0 = 0 ∧ (F.drop 48 = zs336.drop 48 ∨ F.drop 48 = (layE zs336 us).drop 48) := by
  obtain ⟨W, P, e1, h1, h2, hc⟩ := plan_crash h hl m zs
  rcases hc with ⟨r1, r2, hx⟩ | ⟨r1, r2, hw⟩
  · refine ⟨W, P, [], crW W P zs, e1, h1, h2, r1, r2, by simp, none_done h2, h2, ?_, ?_⟩
    · rcases hx with hx | hx
      · exact hx.1
      · exact hx.1
    · rcases hx with hx | hx
      · exact .inl (zero_drop (pmB_iff.1 h2).1 hx)
      · exact .inr (done_due h (pmB_iff.1 h2).1 hx)
  · obtain ⟨F, e2, h3, hd⟩ := apply_done h hl h2 hw
    exact ⟨W, P, _, F, e1, h1, h2, r1, r2, by have := applyL_len us; omega, e2, h3, hd.1, .inr (done_due h (pmB_iff.1 h3).1 hd)⟩
end Go.Proofs.YtbjalmiheipjjaaDoor

namespace Go.Proofs.YtbjalmiheipjjaaDoor
open Go.RowKit
theorem rd_drop {w : World} {b o n c : Nat} {zs : List Int} {m : Nat} (h : RdI w (.slice (some ⟨b, o, none⟩) n c) zs) (hn : zs.length = n) (hm : m < n) : RdI w (.slice (some ⟨b, o + m, none⟩) (n - m) (c - m)) (zs.drop m) := by
  subst hn
  obtain ⟨ao, cap, e, hc, hcell⟩ := h.shape
  cases e
  obtain ⟨b', o', e', hb, hcl⟩ := hcell (by omega)
  cases e'
  refine ⟨by rw [ints_len, Nat.mul_one], some ⟨b, o + m, none⟩, c - m, by rw [List.length_drop], ⟨by rw [List.length_drop]; omega, fun e => by cases e⟩, fun _ => ⟨b, o + m, rfl, hb, fun j hj => ?_⟩⟩
  rw [List.length_drop, Nat.mul_one] at hj
  rw [ints_at _ j (by rw [List.length_drop]; omega), List.getElem_drop]
  have := hcl (m + j) (by omega)
  rw [← Nat.add_assoc] at this
  exact this
theorem rd_some {w : World} {ao : Option Addr} {n c : Nat} {zs : List Int} (h : RdI w (.slice ao n c) zs) (hn : 0 < n) : ∃ b o, ao = some ⟨b, o, none⟩ ∧ n ≤ c := by
  obtain ⟨_, ao', cap, e, h2, h3⟩ := h
  injection e with e1 e2 e3
  subst e1 e2 e3
  obtain ⟨b, o, rfl, _⟩ := h3 (by omega)
  exact ⟨b, o, rfl, h2.1⟩
theorem row_drew {w : World} {e : TypeId} {size lo hi : Nat} {v : Value} {n : Nat} {xs : List Value} (h : Row w e size lo hi v n xs) : Row w.drew e size lo hi v n xs := h.same (fun _ _ _ => rfl)
theorem layE_take (us : List Se) (k : Nat) (hk : k < us.length) (ws : List Int) : layE ws (us.take (k + 1)) = (layE ws (us.take k)).set us[k].at_.toNat us[k].val := by
  rw [List.take_succ_eq_append_getElem hk, layE_snoc]
end Go.Proofs.YtbjalmiheipjjaaDoor
