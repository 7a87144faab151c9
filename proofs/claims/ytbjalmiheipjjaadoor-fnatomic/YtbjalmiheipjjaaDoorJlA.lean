/- Helpers of the journal's laws: devices that are blank, lists of steps that are alike, updates that are drawn. -/
import Derived.Test.YtbjalmiheipjjaaDoorJiM
import Derived.Test.YtbjalmiheipjjaaDoorJiD
import Derived.Test.YtbjalmiheipjjaaDoorZAQ
import Derived.Test.YtbjalmiheipjjaaDoorZAU
import Derived.Test.YtbjalmiheipjjaaDoorZBI
import Derived.Test.YtbjalmiheipjjaaDoorJrE
import Derived.Test.YtbjalmiheipjjaaDoorJrX
import Derived.Deep.RegionWith
namespace Go.Proofs.YtbjalmiheipjjaaDoor
open Go.RowKit
def zs336 : List Int := List.replicate 336 0
def zs32 : List Int := List.replicate 32 0
theorem zs336_len : zs336.length = 336 := len336
theorem zs32_len : zs32.length = 32 := len32
theorem row_n336 {w : World} {b lo : Nat} (h : w.heap[b]? = some (.cells nought336 3 (0, 0))) (hlo : lo ≤ b) : Row w 3 1 lo (b + 1) (.slice (some ⟨b, 0, none⟩) zs336.length 336) zs336.length (ints zs336) := by
  refine ⟨⟨by rw [ints_len, Nat.mul_one], .inr ⟨b, 336, nought336, rfl, hlo, h, Nat.le_of_eq zs336_len, by simp [maxLen], ?_, ?_⟩⟩, fun k hk => by cases hk; exact Nat.lt_succ_self _⟩
  · unfold nought336; rw [List.size_toArray, List.length_replicate]
  · unfold nought336 ints zs336
    rw [List.length_replicate, Nat.mul_one, List.map_replicate, List.take_of_length_le (by rw [List.length_replicate]; exact Nat.le_refl _)]
theorem row_n32 {w : World} {b lo : Nat} (h : w.heap[b]? = some (.cells nought32 3 (0, 0))) (hlo : lo ≤ b) : Row w 3 1 lo (b + 1) (.slice (some ⟨b, 0, none⟩) zs32.length 32) zs32.length (ints zs32) := by
  refine ⟨⟨by rw [ints_len, Nat.mul_one], .inr ⟨b, 32, nought32, rfl, hlo, h, Nat.le_of_eq zs32_len, by simp [maxLen], ?_, ?_⟩⟩, fun k hk => by cases hk; exact Nat.lt_succ_self _⟩
  · unfold nought32; rw [List.size_toArray, List.length_replicate]
  · unfold nought32 ints zs32
    rw [List.length_replicate, Nat.mul_one, List.map_replicate, List.take_of_length_le (by rw [List.length_replicate]; exact Nat.le_refl _)]
theorem row_blank {w : World} {b1 b2 lo hi : Nat} (h1 : w.heap[b1]? = some (.cells nought336 3 (0, 0))) (h2 : w.heap[b2]? = some (.cells nought32 3 (0, 0))) (hb : ¬ b1 = b2) (l1 : lo ≤ b1) (l2 : lo ≤ b2) (u1 : b1 < hi) (u2 : b2 < hi) :
    RowDev w lo hi (.agg #[.slice (some ⟨b1, 0, none⟩) 336 336, .slice none 0 0, .slice (some ⟨b2, 0, none⟩) 32 32, .slice none 0 0]) zs336 [] zs32 [] := by
  have r1 := row_n336 h1 (Nat.le_refl b1)
  have r2 := row_n32 h2 (Nat.le_refl b2)
  rw [zs336_len] at r1
  rw [zs32_len] at r2
  exact ⟨_, _, _, _, b1, b1 + 1, b2, b2 + 1, rfl, ⟨_, _, rfl, by rw [zs336_len]; exact r1, Row.nil _ _ _ _ _⟩, ⟨_, _, rfl, by rw [zs32_len]; exact r2.z, Row.nil _ _ _ _ _⟩, l1, u1, l2, u2, by omega⟩
set_option maxRecDepth 100000 in
set_option maxHeartbeats 2000000 in
theorem blank_any (w : World) : Calls Tryd.prog 8 #[] w fun e w' => ∃ v', e = .returned v' ∧ RowDev w' w.heap.size w'.heap.size v' zs336 [] zs32 [] ∧ Below w.heap.size w w' := by
  have k1 := run_make336
  have k2 := run_make32
  obtain ⟨y0, y1, y2, y3, y4, y5, y6, y7⟩ := four_cells (at_new (w := w) (o := .cells #[.slice none 0 0, .slice none 0 0, .slice none 0 0, .slice none 0 0] 36) rfl)
  go_enter Tryd.func8, Tryd.ntmps8
  go_upto_region 1 with fail
  obtain ⟨w0, hw0⟩ : ∃ w0 : World, w0 = w.alloc (.cells #[.slice none 0 0, .slice none 0 0, .slice none 0 0, .slice none 0 0] 36) := ⟨_, rfl⟩
  rw [← hw0]
  rw [← hw0] at y0 y1 y2 y3 y4 y5 y6 y7
  have hz0 : w0.heap.size = w.heap.size + 1 := by rw [hw0]; simp
  have V0 : Hid (w0.heap[w.heap.size]? = some (.cells #[.slice none 0 0, .slice none 0 0, .slice none 0 0, .slice none 0 0] 36 (0, 0))) := by rw [hw0]; exact at_new rfl
  have B0 : Hid (Below w.heap.size w w0) := by rw [hw0]; exact (Below.refl _ _).alloc (Nat.le_refl _) _
  clear hw0
  have PA := hideIt (fun (a b : Value) => putR_box (a := a) (b' := .slice none 0 0) (c := b) (d := .slice none 0 0) V0.out)
  have PZ := hideIt (fun (a b : Value) => putR_size w0 w.heap.size a (.slice none 0 0) b (.slice none 0 0))
  have PO := hideIt (fun (a b : Value) => putR_out w0 w.heap.size a (.slice none 0 0) b (.slice none 0 0))
  go_region
  all_goals go_wp2
  · have Q := at_old (o := .cells nought32 3) (at_old (o := .cells nought336 3) (PA.out (.slice (some ⟨w.heap.size + 1, 0, none⟩) 336 336) (.slice (some ⟨w.heap.size + 1 + 1, 0, none⟩) 32 32)))
    obtain ⟨t0, t1, t2, t3, -, -, -, -⟩ := four_cells Q
    have Z := PZ.out (.slice (some ⟨w.heap.size + 1, 0, none⟩) 336 336) (.slice (some ⟨w.heap.size + 1 + 1, 0, none⟩) 32 32)
    have O := PO.out (.slice (some ⟨w.heap.size + 1, 0, none⟩) 336 336) (.slice (some ⟨w.heap.size + 1 + 1, 0, none⟩) 32 32)
    generalize hP : putR w0 w.heap.size (.slice (some ⟨w.heap.size + 1, 0, none⟩) 336 336) (.slice none 0 0) (.slice (some ⟨w.heap.size + 1 + 1, 0, none⟩) 32 32) (.slice none 0 0) = wp at *
    have H1 : ((wp.alloc (.cells nought336 3)).alloc (.cells nought32 3)).heap[w.heap.size + 1]? = some (.cells nought336 3 (0, 0)) := at_old (at_new (by omega))
    have H2 : ((wp.alloc (.cells nought336 3)).alloc (.cells nought32 3)).heap[w.heap.size + 1 + 1]? = some (.cells nought32 3 (0, 0)) := at_new (by simp; omega)
    rw [show ((((w0.setCell ⟨w.heap.size, 0, none⟩ (.slice (some ⟨w.heap.size + 1, 0, none⟩) 336 336)).setCell ⟨w.heap.size, 1, none⟩ (.slice none 0 0)).setCell ⟨w.heap.size, 2, none⟩ (.slice (some ⟨w.heap.size + 1 + 1, 0, none⟩) 32 32)).setCell ⟨w.heap.size, 3, none⟩ (.slice none 0 0)) = wp from hP]
    refine bodyPost_ret (v := .agg #[.slice (some ⟨w.heap.size + 1, 0, none⟩) 336 336, .slice none 0 0, .slice (some ⟨w.heap.size + 1 + 1, 0, none⟩) 32 32, .slice none 0 0]) (by simp [results, Tryd.results8, go_sem, t0, t1, t2, t3]) rfl ?_
    refine ⟨_, rfl, row_blank (w := ((wp.alloc (.cells nought336 3)).alloc (.cells nought32 3)).drew) H1 H2 (by omega) (by omega) (by omega) ?_ ?_, ?_⟩
    · show _ < ((wp.alloc (.cells nought336 3)).alloc (.cells nought32 3)).heap.size; simp; omega
    · show _ < ((wp.alloc (.cells nought336 3)).alloc (.cells nought32 3)).heap.size; simp; omega
    · exact Below.drew (((B0.out.trans (O.below (Nat.le_refl _) (by omega))).alloc (by omega) _).alloc (by simp; omega) _)
  · have Q := at_old (o := .cells nought336 3) (at_old (o := .cells nought32 3) (PA.out (.slice (some ⟨w.heap.size + 1 + 1, 0, none⟩) 336 336) (.slice (some ⟨w.heap.size + 1, 0, none⟩) 32 32)))
    obtain ⟨t0, t1, t2, t3, -, -, -, -⟩ := four_cells Q
    have Z := PZ.out (.slice (some ⟨w.heap.size + 1 + 1, 0, none⟩) 336 336) (.slice (some ⟨w.heap.size + 1, 0, none⟩) 32 32)
    have O := PO.out (.slice (some ⟨w.heap.size + 1 + 1, 0, none⟩) 336 336) (.slice (some ⟨w.heap.size + 1, 0, none⟩) 32 32)
    generalize hP : putR w0 w.heap.size (.slice (some ⟨w.heap.size + 1 + 1, 0, none⟩) 336 336) (.slice none 0 0) (.slice (some ⟨w.heap.size + 1, 0, none⟩) 32 32) (.slice none 0 0) = wp at *
    have H1 : ((wp.alloc (.cells nought32 3)).alloc (.cells nought336 3)).heap[w.heap.size + 1]? = some (.cells nought32 3 (0, 0)) := at_old (at_new (by omega))
    have H2 : ((wp.alloc (.cells nought32 3)).alloc (.cells nought336 3)).heap[w.heap.size + 1 + 1]? = some (.cells nought336 3 (0, 0)) := at_new (by simp; omega)
    rw [show ((((w0.setCell ⟨w.heap.size, 0, none⟩ (.slice (some ⟨w.heap.size + 1 + 1, 0, none⟩) 336 336)).setCell ⟨w.heap.size, 1, none⟩ (.slice none 0 0)).setCell ⟨w.heap.size, 2, none⟩ (.slice (some ⟨w.heap.size + 1, 0, none⟩) 32 32)).setCell ⟨w.heap.size, 3, none⟩ (.slice none 0 0)) = wp from hP]
    refine bodyPost_ret (v := .agg #[.slice (some ⟨w.heap.size + 1 + 1, 0, none⟩) 336 336, .slice none 0 0, .slice (some ⟨w.heap.size + 1, 0, none⟩) 32 32, .slice none 0 0]) (by simp [results, Tryd.results8, go_sem, t0, t1, t2, t3]) rfl ?_
    refine ⟨_, rfl, row_blank (w := ((wp.alloc (.cells nought32 3)).alloc (.cells nought336 3)).drew) H2 H1 (by omega) (by omega) (by omega) ?_ ?_, ?_⟩
    · show _ < ((wp.alloc (.cells nought32 3)).alloc (.cells nought336 3)).heap.size; simp; omega
    · show _ < ((wp.alloc (.cells nought32 3)).alloc (.cells nought336 3)).heap.size; simp; omega
    · exact Below.drew (((B0.out.trans (O.below (Nat.le_refl _) (by omega))).alloc (by omega) _).alloc (by simp; omega) _)
set_option maxHeartbeats 1000000 in
theorem sameMicros_same (va vb : Value) (l : List Mi) (w : World) (ha : RdM w va l) (hb : RdM w vb l) (hn : l.length ≤ 2147483648) :
    Calls Tryd.prog 14 #[va, vb] w fun e w' => e = .returned (.bool true) ∧ Below w.heap.size w w' := by
  obtain ⟨ao, cap, rfl, hcap, hc⟩ := ha.shape
  obtain ⟨ao2, cap2, rfl, hcap2, hc2⟩ := hb.shape
  clear ha hb
  go_enter Tryd.func14, Tryd.ntmps14
  go_wp2
  go_loopw [5] (fun i wr => ∃ k : Nat, k ≤ l.length ∧ i = .int .i64 k ∧ Below w.heap.size w wr) (fun i _ => l.length - (intOf i).toNat)
  case atStart => exact ⟨0, by omega, rfl, Below.refl _ _⟩
  case round =>
    obtain ⟨k, hk, rfl, hbw⟩ := hrel
    by_cases hlt : k < l.length
    · obtain ⟨b, o, rfl, hbl, hcell⟩ := hc (by omega)
      obtain ⟨b2, o2, rfl, hbl2, hcell2⟩ := hc2 (by omega)
      obtain ⟨c0, c1, c2⟩ := hcell k hlt
      obtain ⟨d0, d1, d2⟩ := hcell2 k hlt
      have e0 := (hbw.cell (p := ⟨b, o + k * 3, none⟩) hbl).trans c0
      have e1 := (hbw.cell (p := ⟨b, o + k * 3 + 1, none⟩) hbl).trans c1
      have e2 := (hbw.cell (p := ⟨b, o + k * 3 + 2, none⟩) hbl).trans c2
      have f0 := (hbw.cell (p := ⟨b2, o2 + k * 3, none⟩) hbl2).trans d0
      have f1 := (hbw.cell (p := ⟨b2, o2 + k * 3 + 1, none⟩) hbl2).trans d1
      have f2 := (hbw.cell (p := ⟨b2, o2 + k * 3 + 2, none⟩) hbl2).trans d2
      have hlt' : (k : Int) < (l.length : Int) := by omega
      have hge : (0 : Int) ≤ (k : Int) := by omega
      clear hcell hcell2 hc hc2 c0 c1 c2 d0 d1 d2
      go_wp2
      go_quiet (fail)
      go_wp2
      go_roundw
      case rel => exact ⟨k + 1, by omega, by go_num, Below.drewN'' hbw _⟩
      case measure => simp [intOf]; omega
    · go_wp2
      go_ret
      exact ⟨rfl, hbw⟩
def DrOK (us : List Se) : Prop := ∀ u ∈ us, (48 ≤ u.at_ ∧ u.at_ < 336) ∧ 0 ≤ u.val ∧ u.val < 1099511627776
set_option maxRecDepth 100000 in
set_option maxHeartbeats 4000000 in
theorem srcUpdates_any (w0 w : World) (b : Nat) (vC : Value) (bs : List Int) (h : Src w0 w b vC bs 0) :
    Calls Tryd.prog 18 #[.pointer (some ⟨b, 0, none⟩)] w fun e w' => ∃ v' us, e = .returned v' ∧ us.length ≤ 5 ∧ DrOK us ∧ Row w' 50 2 w.heap.size w'.heap.size v' us.length (ses us) ∧ Outside b (b + 1) w w' := by
  have hsz := h.size
  have hold := h.old
  have HS := hideIt (h.newer ((Below.refl _ _).alloc (Nat.le_refl _) (.cells #[] 50)))
  have O0 := hideIt (Outside.of_below (lo := b) (hi := b + 1) ((Below.refl w.heap.size w).alloc (Nat.le_refl _) (.cells #[] 50)))
  have ho : (w.alloc (.cells #[] 50)).ownsRow w.heap.size 50 2 (.slice (some ⟨w.heap.size, 0, none⟩) 0 0) 0 [] := by
    simpa using World.ownsRow_lit (base := w.heap.size) (e := 50) (size := 2) w #[] 0 (by simp) (by simp) rfl
  have OW := hideIt ho
  clear h ho
  go_enter Tryd.func18, Tryd.ntmps18
  go_wp2_with fail
  refine (srcNext_any 6 (by omega) w0 _ b 0 vC bs HS.out (by omega)).mono ?_
  rintro e w1 ⟨r, rfl, r0, r1, hs, ho, hz⟩
  have S1 := hideIt hs
  have O1 := hideIt (O0.out.trans ho)
  have OW1 := hideIt ((own_block OW.out).outside ho (.inr (by omega)) (by simp))
  have hz1 : w.heap.size + 1 = w1.heap.size := by rw [hz]; simp
  obtain ⟨N, rfl⟩ : ∃ N : Nat, r = N := ⟨r.toNat, by omega⟩
  clear hs ho hz HS O0 OW
  go_wp2
  go_loopw [3, 4] (fun vL i wr => ∃ (n : Nat) (us : List Se), i = .int .i64 n ∧ n + us.length ≤ 5 ∧ Hid (DrOK us ∧ wr.ownsRow w.heap.size 50 2 vL us.length (ses us) ∧ Src w0 wr b vC bs (3 + 12 * us.length) ∧ Outside b (b + 1) w wr) ∧ w.heap.size < wr.heap.size) (fun _ i _ => (intOf i).toNat)
  case atStart => exact ⟨N, [], rfl, by simp; omega, ⟨(fun u hu => by cases hu), (by simpa [ses] using OW1.out.1), S1.out, O1.out⟩, by omega⟩
  case round =>
    obtain ⟨n, us, rfl, hnm, I, hzr⟩ := hrel
    clear S1 O1 OW1
    have hul : us.length ≤ 5 := by omega
    by_cases hn : 0 < n
    · have hn' : (0 : Int) < (n : Int) := by omega
      go_wp2_with fail
      refine (srcNext_any 30 (by omega) w0 _ b (3 + 12 * us.length) vC bs I.out.2.2.1 (by omega)).mono ?_
      rintro e w2 ⟨r, rfl, r0, r1, hs, ho, hz⟩
      have O2 := hideIt ((own_block I.out.2.1).outside ho (.inr (by omega)) (by omega)).1
      have S2 := hideIt hs
      have T2 := hideIt (I.out.2.2.2.trans ho)
      have hz2 : w.heap.size < w2.heap.size := by omega
      clear hs ho hz
      go_wp2_with fail
      refine (srcWord_any w0 _ b (3 + 12 * us.length + 3) vC bs S2.out (by omega)).mono ?_
      rintro e w3 ⟨x, rfl, x0, x1, hs, ho⟩
      have hz3 : w2.heap.size ≤ w3.heap.size := ho.size
      have O3 := hideIt (((own_block O2.out).outside ho (.inr (by omega)) (by omega)).1.alloc (.cells #[.int .i64 (48 + r), .int .i64 x] 50))
      have S3 := hideIt (hs.newer ((Below.refl _ _).alloc (Nat.le_refl _) (.cells #[.int .i64 (48 + r), .int .i64 x] 50)))
      have T3 := hideIt ((T2.out.trans ho).trans (Outside.of_below ((Below.refl w3.heap.size w3).alloc (Nat.le_refl _) (.cells #[.int .i64 (48 + r), .int .i64 x] 50))))
      have HRD := hideIt (rd_up w3 (48 + r) x)
      clear hs ho O2 S2 T2
      go_wp2_with (at_builtin; refine wpList_append_rd _ rfl (.tmp 12) (.tmp 19) 23 rfl w.heap.size 50 (.agg #[.int .i64 0, .int .i64 0]) 2 16 Tryd.underlying23 infoUp rfl (by decide) _ _ _ rfl O3.out _ 1 _ rfl HRD.out (ses_one_ _) (by simp [maxLen]; omega) (by omega) (by simp; omega) ?_)
      intro vN wN hownN hgrN
      have hl := fun k hk => (O3.out.lt k hk).1
      have hzN := hgrN.size
      simp only [World.size_alloc] at hzN
      have ON : Outside w.heap.size wN.heap.size (w3.alloc (.cells #[.int .i64 (48 + r), .int .i64 x] 50)) wN := ⟨hgrN.os, hgrN.tape, hgrN.output, hgrN.size, fun j hj ho => hgrN.block j hj (fun e => by have := hl _ e.symm; simp only [World.size_alloc] at hj; omega)⟩
      have G : Hid (DrOK (us ++ [⟨48 + r, x⟩]) ∧ wN.ownsRow w.heap.size 50 2 vN (us ++ [(⟨48 + r, x⟩ : Se)]).length (ses (us ++ [⟨48 + r, x⟩])) ∧ Src w0 wN b vC bs (3 + 12 * (us ++ [(⟨48 + r, x⟩ : Se)]).length) ∧ Outside b (b + 1) w wN) := by
        refine ⟨fun u hu => ?_, ?_, ?_, ?_⟩
        · rcases List.mem_append.1 hu with hu | hu
          · exact I.out.1 u hu
          · rw [List.mem_singleton.1 hu]; exact ⟨by constructor <;> simp only <;> omega, x0, x1⟩
        · rw [ses_append_, List.length_append]
          exact hownN
        · exact (S3.out.outside ON (.inl hsz) (by have := S3.out.old; omega)).more (by rw [List.length_append]; simp; omega)
        · refine ⟨ON.os.trans T3.out.os, ON.tape.trans T3.out.tape, ON.output.trans T3.out.output, Nat.le_trans T3.out.size ON.size, fun j hj hjo => (ON.block j ?_ (.inl hj)).trans (T3.out.block j hj hjo)⟩
          simp only [World.size_alloc]; omega
      clear hownN hgrN hl ON
      go_wp2
      go_roundw
      case rel => exact ⟨n - 1, us ++ [⟨48 + r, x⟩], by go_num, by rw [List.length_append]; simp; omega, G, by omega⟩
      case measure => simp [intOf]; omega
    · obtain rfl : n = 0 := by omega
      obtain ⟨aL, cL, hvL⟩ := RdE.form (own_block I.out.2.1).rd rfl
      subst hvL
      go_wp2
      go_ret
      exact ⟨_, us, rfl, hul, I.out.1, own_block I.out.2.1, I.out.2.2.2⟩
set_option maxRecDepth 100000 in
theorem updatesOf_any (v : Value) (bs : List Int) (w : World) (h : RdB w v bs) (hl : bs.length ≤ 1048576) :
    Calls Tryd.prog 5 #[v] w fun e w' => ∃ v' us, e = .returned v' ∧ us.length ≤ 5 ∧ DrOK us ∧ Row w' 50 2 w.heap.size w'.heap.size v' us.length (ses us) ∧ Below w.heap.size w w' := by
  have H := hideIt h
  obtain ⟨aC, cC, rfl, _⟩ := h.shape
  clear h
  go_enter Tryd.func5, Tryd.ntmps5
  go_wp2_with fail
  refine (l00Source_any _ bs w H.out hl).mono ?_
  rintro e w1 ⟨rfl, S, hb⟩
  have S1 := hideIt S.src
  have B1 := hideIt hb
  clear S hb
  go_wp2_with fail
  refine (srcUpdates_any w w1 _ _ bs S1.out).mono ?_
  rintro e w2 ⟨v', us, rfl, hul, hd, hr, ho⟩
  have B2 := hideIt (B1.out.trans (ho.below (Nat.le_refl _) B1.out.size))
  have R2 := hideIt (hr.wide (lo' := w.heap.size) (hi' := w2.heap.size) B1.out.size (Nat.le_refl _))
  obtain ⟨aL, cL, hvL⟩ := RdE.form hr.rd rfl
  subst hvL
  have D2 := hideIt hd
  clear hr ho hd
  go_wp2
  go_ret
  exact ⟨_, us, rfl, hul, D2.out, R2.out, B2.out⟩
end Go.Proofs.YtbjalmiheipjjaaDoor
