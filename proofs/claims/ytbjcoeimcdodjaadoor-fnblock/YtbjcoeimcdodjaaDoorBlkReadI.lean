/- A sector as it is read: by the program. -/
import Derived.Test.YtbjcoeimcdodjaaDoorLastW
namespace Go.Proofs.YtbjcoeimcdodjaaDoor
open Go.RowKit
theorem lwFold_full (at_ : Int) : ∀ (ps : List Se) (s : Se) (mo : Int), (ps.length : Int) ≤ mo → ((∀ p ∈ ps, ¬ p.at_ = at_) ∧ (ps.foldl (lwStep at_) (s, mo)).1 = s) ∨ ((ps.foldl (lwStep at_) (s, mo)).1.at_ = at_ ∧ ∀ d, lastE at_ d ps = (ps.foldl (lwStep at_) (s, mo)).1.val)
  | [], s, mo, _ => .inl ⟨by simp, rfl⟩
  | p :: ps, s, mo, h => by
    have h' : (ps.length : Int) + 1 ≤ mo := by simpa using h
    by_cases c : p.at_ = at_
    · have e : lwStep at_ (s, mo) p = (p, mo - 1) := if_pos ⟨c, by show 0 < mo; omega⟩
      rw [List.foldl_cons, e]
      rcases lwFold_full at_ ps p (mo - 1) (by omega) with ⟨h1, h2⟩ | ⟨h1, h2⟩
      · right
        rw [h2]
        refine ⟨c, fun d => ?_⟩
        show lastE at_ (if p.at_ = at_ then p.val else d) ps = p.val
        rw [if_pos c]
        exact lastE_none h1
      · exact .inr ⟨h1, fun d => h2 _⟩
    · have e : lwStep at_ (s, mo) p = (s, mo) := if_neg (fun x => c x.1)
      rw [List.foldl_cons, e]
      rcases lwFold_full at_ ps s mo (by omega) with ⟨h1, h2⟩ | ⟨h1, h2⟩
      · left
        refine ⟨fun q hq => ?_, h2⟩
        rcases List.mem_cons.1 hq with rfl | hq
        · exact c
        · exact h1 q hq
      · exact .inr ⟨h1, fun d => h2 _⟩
theorem lastM_full {at_ : Int} {ps : List Se} (h : ps.length ≤ 400) : ((∀ p ∈ ps, ¬ p.at_ = at_) ∧ lastM at_ 400 ps = ⟨-1, 0⟩) ∨ ((lastM at_ 400 ps).at_ = at_ ∧ ∀ d, lastE at_ d ps = (lastM at_ 400 ps).val) :=
  lwFold_full at_ ps ⟨-1, 0⟩ 400 (by omega)
set_option maxHeartbeats 4000000 in
theorem implBlkRead_any (v : Value) (ws : List Int) (ps : List Se) (at_ : Int) (w : World) (h : RdBlk w v ws ps) (hG : NW w) (hw : ws.length ≤ 1048576) (hp : ps.length ≤ 1048576) :
    Calls Tryd.prog 9 #[v, .int .i64 at_] w fun e w' => e = .returned (.tuple #[.int .i64 (readV ws ps at_), .int .i64 (askE ws ps at_)]) ∧ Below w.heap.size w w' := by
  have HR := hideIt h
  obtain ⟨vW, vP, rfl, h1, h2⟩ := h
  have H2 := hideIt h2
  obtain ⟨aW, cW, rfl, _, hcW⟩ := h1.shape
  obtain ⟨aP, cP, rfl, _⟩ := h2.shape
  clear h1 h2
  have hb0 : Below w.heap.size w (w.alloc (.cells #[.slice aW ws.length cW, .slice aP ps.length cP] 26)) := (Below.refl _ _).alloc (Nat.le_refl _) _
  rcases askE_cases ws ps at_ with hc | ⟨hc, hok, k, rfl, hk, hkl⟩
  · have hne : (askE ws ps at_ != 0) = true := by rcases hc with hc | hc <;> simp [hc]
    have E := hideIt (readV_not (ws := ws) (ps := ps) (at_ := at_) (by rcases hc with hc | hc <;> simp [hc]))
    clear hc hcW
    go_enter Tryd.func9, Tryd.ntmps9
    go_wp2_with (go_at_call 30; refine (sectorFault_any _ ws ps _ _ (HR.out.below hb0) hw hp).mono ?_; rintro e w1 ⟨rfl, hb1⟩)
    go_ret2
    exact ⟨ret_two E.out.symm rfl, below_trans hb0 hb1 (by simp)⟩
  · have E := hideIt (readV_ok hc hkl)
    have C := hideIt hc
    obtain ⟨bW, oW, rfl, hbW, hcellW⟩ := hcW (by omega)
    have hcw := hideIt (hcellW k hkl)
    have LF := hideIt (lastM_full (at_ := (k : Int)) (ps := ps) (blkB_len hok).2)
    clear hc hcW hcellW
    go_enter Tryd.func9, Tryd.ntmps9
    go_wp2_with fail
    refine (sectorFault_any _ ws ps _ _ (HR.out.below hb0) hw hp).mono ?_
    rw [C.out]
    rintro e w1 ⟨rfl, hb1⟩
    have V1 := (hb1.block w.heap.size (by simp)).trans (at_new rfl)
    obtain ⟨x1, x2, _, _⟩ := two_cells V1
    have B1 := hideIt (below_trans hb0 hb1 (by simp))
    have hz1 : w.heap.size + 1 ≤ w1.heap.size := by have := hb1.size; simp at this; omega
    have VH := hideIt V1
    have G1 := hideIt (hG.below B1.out)
    clear V1 hb1 hb0
    go_wp2_with fail
    refine (lastWrite_any _ ps _ _ _ (Rd.below H2.out B1.out) G1.out hp (by omega) (by omega)).mono ?_
    rcases LF.out with ⟨hn, hl⟩ | ⟨ha, hl⟩
    · rw [hl]
      rintro e w2 ⟨rfl, hb2⟩
      have hz2 := hb2.size
      have B2 := hideIt (below_trans B1.out hb2 (by omega))
      have hb3 := below_trans B1.out hb2 (by omega) |>.alloc (by omega) (.cells #[.int .i64 (-1), .int .i64 0] 59)
      obtain ⟨g0, g1⟩ := ((G1.out.below hb2).below ((Below.refl _ _).alloc (Nat.le_refl _) (.cells #[.int .i64 (-1), .int .i64 0] 59))).cells
      obtain ⟨x1', x2', _, _⟩ := two_cells (at_old (o := .cells #[.int .i64 (-1), .int .i64 0] 59) ((hb2.block w.heap.size (by omega)).trans VH.out))
      have hcw1 := (hb3.cell (p := ⟨bW, oW + k, none⟩) hbW).trans hcw.out
      have B3 := hideIt hb3
      have E2 := hideIt (lastE_none (d := ws[k]) hn)
      clear hb2 hb3 hn hl x1 x2
      go_wp2
      go_ret2
      exact ⟨ret_two (E.out.trans E2.out).symm C.out.symm, B3.out⟩
    · rw [ha]
      rintro e w2 ⟨rfl, hb2⟩
      have hz2 := hb2.size
      have hb3 := below_trans B1.out hb2 (by omega) |>.alloc (by omega) (.cells #[.int .i64 (k : Int), .int .i64 (lastM (k : Int) 400 ps).val] 59)
      obtain ⟨g0, g1⟩ := ((G1.out.below hb2).below ((Below.refl _ _).alloc (Nat.le_refl _) (.cells #[.int .i64 (k : Int), .int .i64 (lastM (k : Int) 400 ps).val] 59))).cells
      have B3 := hideIt hb3
      have E2 := hideIt (hl ws[k])
      have kn : ((k : Int) == -1) = false := by first | (simp; done) | (simp; omega)
      clear hb2 hb3 ha hl x1 x2
      generalize (lastM (k : Int) 400 ps).val = y at *
      go_wp2
      go_ret2
      exact ⟨ret_two (E.out.trans E2.out).symm C.out.symm, B3.out⟩
end Go.Proofs.YtbjcoeimcdodjaaDoor
