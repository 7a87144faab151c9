/- ModelText: by the model. -/
import Derived.Test.YtmeiionabonhnaaGreatDoorTqB
import Derived.Test.YtmeiionabonhnaaGreatDoorZBJ
namespace Go.Proofs.YtmeiionabonhnaaGreatDoor
open Go.RowKit
set_option maxRecDepth 100000 in
set_option maxHeartbeats 4000000 in
theorem specModelText_any (v : Value) (ts : List Th) (ps : List Den) (w : World) (h : RdMd w v ts ps) (hn : ts.length ≤ 1048576) (hp : ps.length ≤ 1048576) (hs : ∀ k (h : k < ps.length), ps[k].name.size ≤ maxLen) :
    Calls Tryz.prog 8 #[v] w fun e w' => ∃ vL, e = .returned (.tuple #[vL, .int .i64 (mtC ts ps)]) ∧ Row w' 9 1 w.heap.size w'.heap.size vL (mtL ts ps).length (strs (mtL ts ps)) ∧ Below w.heap.size w w' := by
  have LO := hideIt (fun w1 (hb : Below w.heap.size w w1) => specModelOK_any v ts ps w1 (h.below hb) hn hp hs)
  have LT := hideIt (fun (hm : modB ts ps = true) w1 (hb : Below w.heap.size w w1) => l12Text_any v ts ps w1 (h.below hb) hn hm)
  have RE := hideIt (fun w1 : World => And.intro (row_none9 w1) ((Below.refl w1.heap.size w1).alloc (Nat.le_refl _) (.cells #[] 9)))
  obtain ⟨aT, cT, aP, cP, rfl⟩ := h.form
  clear h hs hp hn
  obtain ⟨V, hV⟩ : ∃ V, V = w.alloc (.cells #[.slice aT ts.length cT, .slice aP ps.length cP] 33) := ⟨_, rfl⟩
  have BV : Hid (Below w.heap.size w V) := by rw [hV]; exact (Below.refl _ _).alloc (Nat.le_refl _) _
  have XV : Hid (V.heap[w.heap.size]? = some (.cells #[.slice aT ts.length cT, .slice aP ps.length cP] 33 (0, 0))) := by rw [hV]; exact at_new rfl
  have zV : w.heap.size < V.heap.size := (Array.getElem?_eq_some_iff.1 XV.out).1
  obtain ⟨x0, x1, -⟩ := two_cells XV.out
  cases c1 : modB ts ps with
  | false =>
    rw [c1] at LO
    rw [show mtL ts ps = [] from if_neg (by rw [c1]; decide), show mtC ts ps = 1 from if_neg (by rw [c1]; decide)]
    clear c1 LT
    go_enter Tryz.func8, Tryz.ntmps8
    go_upto_region 1 with fail
    rw [← hV]
    clear hV
    go_wp2_with fail
    refine (LO.out V BV.out).mono ?_
    rintro e w1 ⟨rfl, hb1⟩
    have B1 := hideIt (below_trans BV.out hb1 BV.out.size)
    clear hb1 x0 x1 LO
    go_wp2
    go_ret2
    exact ⟨_, rfl, (RE.out _).1.wide B1.out.size (Nat.le_refl _), below_trans B1.out (RE.out _).2 B1.out.size⟩
  | true =>
    have LT2 := hideIt (LT.out c1)
    rw [c1] at LO
    rw [show mtL ts ps = (pthN (imgM ts) ps 16 0 ⟨#[]⟩).map (lnT ts ps) from if_pos c1, show mtC ts ps = 0 from if_pos c1]
    clear c1 LT
    generalize (pthN (imgM ts) ps 16 0 ⟨#[]⟩).map (lnT ts ps) = L at *
    go_enter Tryz.func8, Tryz.ntmps8
    go_upto_region 1 with fail
    rw [← hV]
    clear hV
    go_wp2_with fail
    refine (LO.out V BV.out).mono ?_
    rintro e w1 ⟨rfl, hb1⟩
    have B1 := hideIt (below_trans BV.out hb1 BV.out.size)
    obtain ⟨x0, x1, -⟩ := two_cells ((hb1.block w.heap.size zV).trans XV.out)
    clear hb1 LO
    go_wp2_with fail
    refine (LT2.out w1 B1.out).mono ?_
    rintro e w2 ⟨v2, rfl, hr2, hb2⟩
    have B2 := hideIt (below_trans B1.out hb2 B1.out.size)
    have R2 := hideIt (hr2.wide (lo' := w.heap.size) (hi' := w2.heap.size) B1.out.size (Nat.le_refl _))
    obtain ⟨_, a2, c2, rfl, _⟩ := R2.out.rd
    clear hr2 hb2 x0 x1
    go_wp2
    go_ret2
    exact ⟨_, rfl, R2.out, B2.out⟩
end Go.Proofs.YtmeiionabonhnaaGreatDoor
