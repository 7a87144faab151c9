/- Which models are right. -/
import Derived.Test.YtihmihkhkmadmaaDoorMdD
import Derived.Test.YtihmihkhkmadmaaDoorImP
import Derived.Test.YtihmihkhkmadmaaDoorWord
namespace Go.Proofs.YtihmihkhkmadmaaDoor
open Go.RowKit
def pwB (l : List Int) : Bool := l.all wordB
def thB (t : Th) : Bool := decide (t.pages.length ≤ 8) && pwB t.pages
def thsB (ts : List Th) : Bool := ts.all thB
def modB (ts : List Th) (ps : List Den) : Bool := decide (ts.length = 16) && (thsB ts && imgB (imgM ts) ps)
theorem thsB_take {ts : List Th} {k : Nat} (h : k < ts.length) (e : thsB (ts.take k) = true) : thsB (ts.take (k + 1)) = thB ts[k] := by
  unfold thsB at *
  rw [List.take_add_one, List.getElem?_eq_getElem h, List.all_append, e]
  simp
theorem thsB_not {ts : List Th} {k : Nat} (h : k < ts.length) (e : thB ts[k] = false) : thsB ts = false := by
  unfold thsB
  rw [List.all_eq_false]
  exact ⟨_, List.getElem_mem h, by rw [e]; simp⟩
theorem pwB_take {l : List Int} {k : Nat} (h : k < l.length) (e : pwB (l.take k) = true) : pwB (l.take (k + 1)) = wordB l[k] := by
  unfold pwB at *
  rw [List.take_add_one, List.getElem?_eq_getElem h, List.all_append, e]
  simp
theorem pwB_not {l : List Int} {k : Nat} (h : k < l.length) (e : wordB l[k] = false) : pwB l = false := by
  unfold pwB
  rw [List.all_eq_false]
  exact ⟨_, List.getElem_mem h, by rw [e]; simp⟩
theorem imO_R (t : Th) : (imO t).R := by
  intro z hz
  simp [imO, Ino.map] at hz
  omega
theorem imgM_R (ts : List Th) : ∀ k (h : k < (imgM ts).length), (imgM ts)[k].R := fun k h => by
  have q : (imgM ts)[k] = imO (ts[k]'(by rw [imgM_len] at h; exact h)) := by simp [imgM]
  rw [q]
  exact imO_R _
theorem RdMd.below2 {w w' : World} {v : Value} {ts : List Th} {ps : List Den} (h : RdMd w v ts ps) (hb : Below w.heap.size w w') : RdMd w' v ts ps := by
  obtain ⟨vW, vP, rfl, a, b⟩ := h
  exact ⟨vW, vP, rfl, a.below hb, Rd.below b hb⟩
set_option maxRecDepth 100000 in
set_option maxHeartbeats 4000000 in
theorem specModelOK_any (v : Value) (ts : List Th) (ps : List Den) (w : World) (h : RdMd w v ts ps) (hn : ts.length ≤ 1048576) (hp : ps.length ≤ 1048576) (hs : ∀ k (h : k < ps.length), ps[k].name.size ≤ maxLen) :
    Calls Tryd.prog 11 #[v] w fun e w' => e = .returned (.bool (modB ts ps)) ∧ Below w.heap.size w w' := by
  have LI := hideIt (fun w1 (hb : Below w.heap.size w w1) => l12Image_any v ts ps w1 (h.below2 hb) hn)
  have LO := hideIt (fun v1 w1 (h1 : RdIm w1 v1 (imgM ts) ps) => specImageOK_any v1 (imgM ts) ps w1 h1 (by rw [imgM_len]; exact hn) hp (imgM_R ts) hs)
  obtain ⟨vW, vP, rfl, ⟨us, rfl, r⟩, hD⟩ := h
  have HR := hideIt r
  rw [List.length_map] at hn
  obtain ⟨aW, cW, rfl, -, hc⟩ := r.shape
  obtain ⟨aP, cP, rfl, -, -⟩ := hD.shape
  have HC := hideIt hc
  clear r hD hc hs hp
  have CA : Hid (∀ w', Below (w.alloc (.cells #[.slice aW us.length cW, .slice aP ps.length cP] 25)).heap.size (w.alloc (.cells #[.slice aW us.length cW, .slice aP ps.length cP] 25)) w' → w'.cell? ⟨w.heap.size, 0, none⟩ = some (.slice aW us.length cW) ∧ w'.cell? ⟨w.heap.size, 1, none⟩ = some (.slice aP ps.length cP)) := fun w' hb => by
    have : w'.heap[w.heap.size]? = some (.cells #[.slice aW us.length cW, .slice aP ps.length cP] 25 (0, 0)) := (hb.block _ (by simp)).trans (at_new rfl)
    exact ⟨(two_cells this).1, (two_cells this).2.1⟩
  obtain ⟨W, hW⟩ : ∃ W, W = w.alloc (.cells #[.slice aW us.length cW, .slice aP ps.length cP] 25) := ⟨_, rfl⟩
  have BW : Hid (Below w.heap.size w W) := by rw [hW]; exact (Below.refl _ _).alloc (Nat.le_refl _) _
  rw [← hW] at CA
  obtain ⟨x0, x1⟩ := CA.out W (Below.refl _ _)
  by_cases c16 : us.length = 16
  · obtain ⟨R, ER⟩ : ∃ R, Hid (R = modB (us.map Prod.fst) ps) := ⟨_, rfl⟩
    rw [← ER.out]
    have E1 : Hid (thsB (us.map Prod.fst) = true → imgB (imgM (us.map Prod.fst)) ps = R) := fun a => by rw [ER.out]; unfold modB; rw [List.length_map, c16, a]; rfl
    have E0 : Hid (∀ k (h : k < us.length), thB us[k].1 = false → false = R) := fun k h a => by
      rw [ER.out]; unfold modB
      rw [thsB_not (ts := us.map Prod.fst) (k := k) (by rw [List.length_map]; exact h) (by rw [List.getElem_map]; exact a)]
      simp
    have TK : Hid (∀ k (h : k < us.length), thsB ((us.map Prod.fst).take k) = true → thB us[k].1 = true → thsB ((us.map Prod.fst).take (k + 1)) = true) := fun k h a b => by
      rw [thsB_take (by rw [List.length_map]; exact h) a, List.getElem_map]
      exact b
    have TL : Hid (thsB ((us.map Prod.fst).take us.length) = true → thsB (us.map Prod.fst) = true) := fun a => by
      rw [show us.length = (us.map Prod.fst).length by rw [List.length_map], List.take_length] at a
      exact a
    clear ER
    rw [c16] at x0
    rw [c16] at CA
    go_enter Tryd.func11, Tryd.ntmps11
    rw [c16]
    go_wp2
    rw [c16] at hW
    rw [← hW]
    clear hW
    go_loopg [3] 16 (fun g i wr => ∃ k : Nat, k + g = 16 ∧ i = .int .i64 k ∧ wr = W ∧ Hid (thsB ((us.map Prod.fst).take k) = true))
    case atStart => exact ⟨0, rfl, rfl, rfl, rfl⟩
    case round =>
      obtain ⟨k, hk, rfl, rfl, J⟩ := hrel
      by_cases hlt : k < 16
      · have hlt' : k < us.length := by omega
        obtain ⟨b, o, rfl, hbl, hcell⟩ := HC.out (by omega)
        obtain ⟨c0, c1, c2⟩ := hcell k hlt'
        have d2 := (BW.out.cell (p := ⟨b, o + k * 3 + 2, none⟩) hbl).trans c2
        have RP := hideIt (HR.out.2 k hlt')
        obtain ⟨a1, y1, ev, -, hq⟩ := RP.out.shape
        rw [ev] at d2
        have NO := hideIt (E0.out k hlt')
        have YES := hideIt (TK.out k hlt' J.out)
        clear hcell c0 c1 c2 ev HR HC RP TK J E0
        generalize us[k].1 = t at *
        by_cases c8 : t.pages.length ≤ 8
        · have c8' : ¬ (t.pages.length : Int) > 8 := by omega
          go_wp2_with fail
          generalize gk = G0 at *
          go_loopg [4] t.pages.length (fun g i wq => ∃ m : Nat, m + g = t.pages.length ∧ i = .int .i64 m ∧ wq = wr ∧ Hid (pwB (t.pages.take m) = true))
          case atStart => exact ⟨0, by omega, rfl, rfl, rfl⟩
          case round =>
            rename_i wq
            obtain ⟨m, hm, rfl, rfl, Jm⟩ := hrel
            by_cases hlm : m < t.pages.length
            · obtain ⟨b', o', rfl, hbl', hcell'⟩ := hq (by omega)
              have p0 := (BW.out.cell (p := ⟨b', o' + m, none⟩) hbl').trans (hcell' m hlm)
              by_cases cw : wordB t.pages[m] = true
              · have JN : Hid (pwB (t.pages.take (m + 1)) = true) := (pwB_take hlm Jm.out).trans cw
                clear hcell' Jm
                go_wp2_with (go_at_call 25; refine (l01Word_any _ _).mono ?_; rw [cw]; rintro e w1 ⟨rfl, rfl⟩)
                go_roundg (t.pages.length - (m + 1))
                case measure => omega
                case rel => exact ⟨m + 1, by omega, by go_num, rfl, JN.out⟩
              · have cw : wordB t.pages[m] = false := by simpa using cw
                have N1 := hideIt (NO.out (by unfold thB; rw [pwB_not hlm cw]; simp))
                clear hcell' Jm
                go_wp2_with (go_at_call 25; refine (l01Word_any _ _).mono ?_; rw [cw]; rintro e w1 ⟨rfl, rfl⟩)
                go_ret
                exact ⟨by show Ending.returned (.bool false) = _; rw [N1.out], BW.out⟩
            · obtain rfl : m = t.pages.length := by omega
              have Y1 := YES.out (by unfold thB; rw [List.take_length] at Jm; rw [Jm.out]; simp [c8])
              have Y1 := hideIt Y1
              clear Jm hq
              go_wp2
              go_roundg (16 - (k + 1))
              case measure => omega
              case rel => exact ⟨k + 1, by omega, by go_num, rfl, Y1.out⟩
        · have N1 := hideIt (NO.out (by unfold thB; simp [c8]))
          have c8' : (t.pages.length : Int) > 8 := by omega
          go_wp2
          go_ret
          exact ⟨by show Ending.returned (.bool false) = _; rw [N1.out], BW.out⟩
      · obtain rfl : k = 16 := by omega
        have F := hideIt (E1.out (TL.out (by rw [c16]; exact J.out)))
        clear J HR HC TK E0 E1 TL
        rw [c16] at LI
        go_wp2_with fail
        refine (LI.out wr BW.out).mono ?_
        rintro e w1 ⟨v1, rfl, hr1, hb1⟩
        go_wp2_with fail
        refine (LO.out v1 w1 hr1).mono ?_
        rw [F.out]
        rintro e w2 ⟨rfl, hb2⟩
        go_wp2
        go_ret
        exact ⟨rfl, below_trans (below_trans BW.out hb1 BW.out.size) hb2 (Nat.le_trans BW.out.size hb1.size)⟩
  · have E : modB (us.map Prod.fst) ps = false := by unfold modB; rw [List.length_map]; simp [c16]
    rw [E]
    have c16' : ¬ (us.length : Int) = 16 := by omega
    clear LI LO HC HR E
    go_enter Tryd.func11, Tryd.ntmps11
    go_wp2
    go_ret
    rw [← hW]
    exact ⟨rfl, BW.out⟩
end Go.Proofs.YtihmihkhkmadmaaDoor
