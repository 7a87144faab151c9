/- Several texts laid together: JlA, JlM. -/
import Derived.Test.YtjkdmhdehihcbaaGreatDoorZBR
import Derived.Test.YtjkdmhdehihcbaaGreatDoorJiA
import Derived.Test.YtjkdmhdehihcbaaGreatDoorZAD
import Derived.Test.YtjkdmhdehihcbaaGreatDoorZAS
import Derived.Test.YtjkdmhdehihcbaaGreatDoorZBT
import Derived.Deep.RegionWith
import Derived.Deep.RegionLaw
import Derived.Deep.MidRow
import Derived.Deep.WholeRow
import Derived.BigRegion
import Derived.Deep.DeepCutAuto
import Derived.Test.YtjkdmhdehihcbaaGreatDoorJiI
import Derived.Deep.RegionHeld3
namespace Go.Proofs.YtjkdmhdehihcbaaGreatDoor
open Go.RowKit
def DrOK (us : List Se) : Prop := ∀ u ∈ us, (48 ≤ u.at_ ∧ u.at_ < 336) ∧ 0 ≤ u.val ∧ u.val < 1099511627776
set_option maxRecDepth 100000 in
set_option maxHeartbeats 4000000 in
theorem srcUpdates_any (w0 w : World) (b : Nat) (vC : Value) (bs : List Int) (h : Src w0 w b vC bs 0) :
    Calls Tryz.prog 37 #[.pointer (some ⟨b, 0, none⟩)] w fun e w' => ∃ v' us, e = .returned v' ∧ us.length ≤ 5 ∧ DrOK us ∧ Row w' 87 2 w.heap.size w'.heap.size v' us.length (ses us) ∧ Outside b (b + 1) w w' := by
  have hsz := h.size
  have hold := h.old
  have HS := hideIt (h.newer ((Below.refl _ _).alloc (Nat.le_refl _) (.cells #[] 87)))
  have O0 := hideIt (Outside.of_below (lo := b) (hi := b + 1) ((Below.refl w.heap.size w).alloc (Nat.le_refl _) (.cells #[] 87)))
  have ho : (w.alloc (.cells #[] 87)).ownsRow w.heap.size 87 2 (.slice (some ⟨w.heap.size, 0, none⟩) 0 0) 0 [] := by
    simpa using World.ownsRow_lit (base := w.heap.size) (e := 87) (size := 2) w #[] 0 (by simp) (by simp) rfl
  have OW := hideIt ho
  clear h ho
  go_enter Tryz.func37, Tryz.ntmps37
  go_wp2_with fail
  refine (srcNext_any 6 (by omega) w0 _ b 0 vC bs HS.out (by omega)).mono ?_
  rintro e w1 ⟨r, rfl, r0, r1, hs, ho, hz⟩
  have S1 := hideIt hs
  have O1 := hideIt (O0.out.trans ho)
  have OW1 := hideIt ((own_block OW.out).outside ho (.inr (by omega)) (by simp))
  have hz1 : w.heap.size + 1 = w1.heap.size := by rw [hz]; simp
  obtain ⟨N, rfl⟩ : ∃ N : Nat, r = N := ⟨r.toNat, by omega⟩
  clear hs ho hz HS O0 OW
  go_wp2
  go_loopw [3, 4] (fun vL i wr => ∃ (n : Nat) (us : List Se), i = .int .i64 n ∧ n + us.length ≤ 5 ∧ Hid (DrOK us ∧ wr.ownsRow w.heap.size 87 2 vL us.length (ses us) ∧ Src w0 wr b vC bs (3 + 12 * us.length) ∧ Outside b (b + 1) w wr) ∧ w.heap.size < wr.heap.size) (fun _ i _ => (intOf i).toNat)
  case atStart => exact ⟨N, [], rfl, by simp; omega, ⟨(fun u hu => by cases hu), (by simpa [ses] using OW1.out.1), S1.out, O1.out⟩, by omega⟩
  case round =>
    obtain ⟨n, us, rfl, hnm, I, hzr⟩ := hrel
    clear S1 O1 OW1
    have hul : us.length ≤ 5 := by omega
    by_cases hn : 0 < n
    · have hn' : (0 : Int) < (n : Int) := by omega
      go_wp2_with fail
      refine (srcNext_any 30 (by omega) w0 _ b (3 + 12 * us.length) vC bs I.out.2.2.1 (by omega)).mono ?_
      rintro e w2 ⟨r, rfl, r0, r1, hs, ho, hz⟩
      have O2 := hideIt ((own_block I.out.2.1).outside ho (.inr (by omega)) (by omega)).1
      have S2 := hideIt hs
      have T2 := hideIt (I.out.2.2.2.trans ho)
      have hz2 : w.heap.size < w2.heap.size := by omega
      clear hs ho hz
      go_wp2_with fail
      refine (srcWord_any w0 _ b (3 + 12 * us.length + 3) vC bs S2.out (by omega)).mono ?_
      rintro e w3 ⟨x, rfl, x0, x1, hs, ho⟩
      have hz3 : w2.heap.size ≤ w3.heap.size := ho.size
      have O3 := hideIt (((own_block O2.out).outside ho (.inr (by omega)) (by omega)).1.alloc (.cells #[.int .i64 (48 + r), .int .i64 x] 87))
      have S3 := hideIt (hs.newer ((Below.refl _ _).alloc (Nat.le_refl _) (.cells #[.int .i64 (48 + r), .int .i64 x] 87)))
      have T3 := hideIt ((T2.out.trans ho).trans (Outside.of_below ((Below.refl w3.heap.size w3).alloc (Nat.le_refl _) (.cells #[.int .i64 (48 + r), .int .i64 x] 87))))
      have HRD := hideIt (rd_up w3 (48 + r) x)
      clear hs ho O2 S2 T2
      go_wp2_with (at_builtin; refine wpList_append_rd _ rfl (.tmp 12) (.tmp 19) 33 rfl w.heap.size 87 (.agg #[.int .i64 0, .int .i64 0]) 2 16 Tryz.underlying33 infoUp rfl (by decide) _ _ _ rfl O3.out _ 1 _ rfl HRD.out (ses_one_ _) (by simp [maxLen]; omega) (by omega) (by simp; omega) ?_)
      intro vN wN hownN hgrN
      have hl := fun k hk => (O3.out.lt k hk).1
      have hzN := hgrN.size
      simp only [World.size_alloc] at hzN
      have ON : Outside w.heap.size wN.heap.size (w3.alloc (.cells #[.int .i64 (48 + r), .int .i64 x] 87)) wN := ⟨hgrN.os, hgrN.tape, hgrN.output, hgrN.size, fun j hj ho => hgrN.block j hj (fun e => by have := hl _ e.symm; simp only [World.size_alloc] at hj; omega)⟩
      have G : Hid (DrOK (us ++ [⟨48 + r, x⟩]) ∧ wN.ownsRow w.heap.size 87 2 vN (us ++ [(⟨48 + r, x⟩ : Se)]).length (ses (us ++ [⟨48 + r, x⟩])) ∧ Src w0 wN b vC bs (3 + 12 * (us ++ [(⟨48 + r, x⟩ : Se)]).length) ∧ Outside b (b + 1) w wN) := by
        refine ⟨fun u hu => ?_, ?_, ?_, ?_⟩
        · rcases List.mem_append.1 hu with hu | hu
          · exact I.out.1 u hu
          · rw [List.mem_singleton.1 hu]; exact ⟨by constructor <;> simp only <;> omega, x0, x1⟩
        · rw [ses_append_, List.length_append]
          exact hownN
        · exact (S3.out.outside ON (.inl hsz) (by have := S3.out.old; omega)).more (by rw [List.length_append]; simp; omega)
        · refine ⟨ON.os.trans T3.out.os, ON.tape.trans T3.out.tape, ON.output.trans T3.out.output, Nat.le_trans T3.out.size ON.size, fun j hj hjo => (ON.block j ?_ (.inl hj)).trans (T3.out.block j hj hjo)⟩
          simp only [World.size_alloc]; omega
      clear hownN hgrN hl ON
      go_wp2
      go_roundw
      case rel => exact ⟨n - 1, us ++ [⟨48 + r, x⟩], by go_num, by rw [List.length_append]; simp; omega, G, by omega⟩
      case measure => simp [intOf]; omega
    · obtain rfl : n = 0 := by omega
      obtain ⟨aL, cL, hvL⟩ := RdE.form (own_block I.out.2.1).rd rfl
      subst hvL
      go_wp2
      go_ret
      exact ⟨_, us, rfl, hul, I.out.1, own_block I.out.2.1, I.out.2.2.2⟩
set_option maxRecDepth 100000 in
theorem updatesOf_any (v : Value) (bs : List Int) (w : World) (h : RdB w v bs) (hl : bs.length ≤ 1048576) :
    Calls Tryz.prog 10 #[v] w fun e w' => ∃ v' us, e = .returned v' ∧ us.length ≤ 5 ∧ DrOK us ∧ Row w' 87 2 w.heap.size w'.heap.size v' us.length (ses us) ∧ Below w.heap.size w w' := by
  have H := hideIt h
  obtain ⟨aC, cC, rfl, _⟩ := h.shape
  clear h
  go_enter Tryz.func10, Tryz.ntmps10
  go_wp2_with fail
  refine (l00Source_any _ bs w H.out hl).mono ?_
  rintro e w1 ⟨rfl, S, hb⟩
  have S1 := hideIt S.src
  have B1 := hideIt hb
  clear S hb
  go_wp2_with fail
  refine (srcUpdates_any w w1 _ _ bs S1.out).mono ?_
  rintro e w2 ⟨v', us, rfl, hul, hd, hr, ho⟩
  have B2 := hideIt (B1.out.trans (ho.below (Nat.le_refl _) B1.out.size))
  have R2 := hideIt (hr.wide (lo' := w.heap.size) (hi' := w2.heap.size) B1.out.size (Nat.le_refl _))
  obtain ⟨aL, cL, hvL⟩ := RdE.form hr.rd rfl
  subst hvL
  have D2 := hideIt hd
  clear hr ho hd
  go_wp2
  go_ret
  exact ⟨_, us, rfl, hul, D2.out, R2.out, B2.out⟩
end Go.Proofs.YtjkdmhdehihcbaaGreatDoor

namespace Go.Proofs.YtjkdmhdehihcbaaGreatDoor
open Go.RowKit
theorem drOK_up {us : List Se} (h : DrOK us) : ∀ p ∈ upsL us, (48 ≤ p.at_ ∧ p.at_ < 336) ∧ 0 ≤ p.val ∧ p.val < 1099511627776 := by
  intro p hp
  obtain ⟨u, hu, rfl⟩ := List.mem_map.1 (show p ∈ us.map (fun s => up s.at_ s.val) from hp)
  exact h u hu
theorem drOK_upsB {us : List Se} (h : DrOK us) : upsB us = true := decide_eq_true (fun _ hk => h _ (List.getElem_mem hk))
theorem ok_apply {us : List Se} (h : DrOK us) : ∀ m ∈ applyL (upsL us), StOK m := by
  intro m hm
  unfold applyL at hm
  rcases List.mem_append.1 hm with hm | hm
  · exact ok_seg (fun p hp => by have := drOK_up h p hp; omega) m hm
  · exact ok_seg (cnt_ok 0 (by omega)) m hm
theorem ok_plan {us : List Se} (h : DrOK us) (hl : us.length ≤ 5) : ∀ m ∈ planL (upsL us), StOK m := by
  intro m hm
  unfold planL at hm
  split at hm
  · cases hm
  · rcases List.mem_append.1 hm with hm | hm
    · rcases List.mem_append.1 hm with hm | hm
      · refine ok_seg (fun p hp => ?_) m hm
        have h1 := jrn_at (upsL us) 0 p hp
        have h2 := jrn_val (upsL us) 0 (drOK_up h) p hp
        rw [upsL_len] at h1
        omega
      · refine ok_seg (cnt_ok _ ?_) m hm
        rw [upsL_len]
        omega
    · exact ok_apply h m hm
theorem jp_ok {us : List Se} (h : DrOK us) (hl : us.length ≤ 5) : jpC us = 0 ∧ jpL us = planL (upsL us) := by
  rcases jp_cases us with ⟨c, _⟩ | ⟨_, c, _⟩ | ⟨_, _, c, _⟩ | ⟨_, _, _, c⟩
  · omega
  · omega
  · rw [drOK_upsB h] at c; cases c
  · exact c
theorem plan_short {us : List Se} (hl : us.length ≤ 5) : (planL (upsL us)).length ≤ 38 := by have := planL_len us; omega
end Go.Proofs.YtjkdmhdehihcbaaGreatDoor
