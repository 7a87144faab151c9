/- Which models are right: by the program. -/
import Derived.Test.YtmeiionabonhnaaGreatDoorZBH
import Derived.Test.YtmeiionabonhnaaGreatDoorZAI
import Derived.Test.YtmeiionabonhnaaGreatDoorZAW
namespace Go.Proofs.YtmeiionabonhnaaGreatDoor
open Go.RowKit
theorem pw_words (l : List Int) : pwB l = wordsB l := by
  cases h : wordsB l with
  | true =>
    unfold pwB
    rw [List.all_eq_true]
    intro x hx
    obtain ⟨k, hk, rfl⟩ := List.getElem_of_mem hx
    exact wordsB_true h k hk
  | false =>
    have h' : ¬ ∀ k (h : k < l.length), wordB l[k] = true := of_decide_eq_false h
    cases q : pwB l with
    | false => rfl
    | true =>
      unfold pwB at q
      rw [List.all_eq_true] at q
      exact absurd (fun k hk => q _ (List.getElem_mem hk)) h'
def hwB (ts : List Th) : Bool := ts.all (fun t => pwB t.pages)
theorem hwB_take {ts : List Th} {k : Nat} (h : k < ts.length) (e : hwB (ts.take k) = true) : hwB (ts.take (k + 1)) = pwB ts[k].pages := by
  unfold hwB at *
  rw [List.take_add_one, List.getElem?_eq_getElem h, List.all_append, e]
  simp
theorem hwB_not {ts : List Th} {k : Nat} (h : k < ts.length) (e : pwB ts[k].pages = false) : hwB ts = false := by
  unfold hwB
  rw [List.all_eq_false]
  exact ⟨_, List.getElem_mem h, by rw [e]; simp⟩
theorem img_pages {ts : List Th} {ps : List Den} (h : imgB (imgM ts) ps = true) : ts.length = 16 ∧ ∀ k (h : k < ts.length), ts[k].pages.length ≤ 8 := by
  obtain ⟨l1, l2, -, o, -⟩ := pimg_all h
  rw [imgM_len] at l1
  refine ⟨l1, fun k hk => ?_⟩
  have o' := (of_decide_eq_true o : ∀ k (h : k < (imgM ts).length), inoB (imgM ts)[k] = true) k (by rw [imgM_len]; exact hk)
  have e : (imgM ts)[k]'(by rw [imgM_len]; exact hk) = imO ts[k] := by simp [imgM]
  rw [e] at o'
  unfold inoB at o'
  simp only [Bool.and_eq_true, decide_eq_true_eq] at o'
  have q := o'.2.1.2
  simp only [imO] at q
  omega
theorem mod_parts {ts : List Th} {ps : List Den} (h : imgB (imgM ts) ps = true) : modB ts ps = hwB ts := by
  obtain ⟨l1, l2⟩ := img_pages h
  unfold modB
  rw [h, Bool.and_true, decide_eq_true l1, Bool.true_and]
  unfold thsB hwB
  apply Bool.eq_iff_iff.2
  rw [List.all_eq_true, List.all_eq_true]
  constructor
  · intro a x hx
    have := a x hx
    unfold thB at this
    simp only [Bool.and_eq_true] at this
    exact this.2
  · intro a x hx
    obtain ⟨k, hk, rfl⟩ := List.getElem_of_mem hx
    unfold thB
    rw [a _ hx, decide_eq_true (l2 k hk)]
    rfl
theorem mod_not {ts : List Th} {ps : List Den} (h : imgB (imgM ts) ps = false) : modB ts ps = false := by
  unfold modB
  rw [h, Bool.and_false, Bool.and_false]
set_option maxRecDepth 100000 in
set_option maxHeartbeats 2000000 in
theorem hasWords_any (t : Th) (v : Value) (w : World) (h : RdI w v t.pages) (hn : t.pages.length ≤ 1048576) :
    Calls Tryz.prog 64 #[.agg #[.int .i64 t.kind, .int .i64 t.links, v]] w fun e w' => e = .returned (.bool (pwB t.pages)) ∧ Below w.heap.size w w' := by
  rw [pw_words]
  obtain ⟨W, hW⟩ : ∃ W, W = w.alloc (.cells #[.int .i64 t.kind, .int .i64 t.links, v] 102) := ⟨_, rfl⟩
  have BW : Hid (Below w.heap.size w W) := by rw [hW]; exact (Below.refl _ _).alloc (Nat.le_refl _) _
  have RW := hideIt (Rd.below h BW.out)
  obtain ⟨ao, cap, rfl, -, -⟩ := id h.shape
  have c2 : W.cell? ⟨w.heap.size, 2, none⟩ = some (.slice ao t.pages.length cap) := by
    rw [hW]
    exact (eight_at (xs := [.int .i64 t.kind, .int .i64 t.links, .slice ao t.pages.length cap]) (at_new rfl) 2).1
  clear h
  go_enter Tryz.func64, Tryz.ntmps64
  go_wp2_with fail
  rw [← hW]
  clear hW
  refine (everyWord_any _ t.pages W RW.out (by omega)).mono ?_
  rintro e w1 ⟨rfl, rfl⟩
  go_wp2
  go_ret
  exact ⟨rfl, BW.out⟩
set_option maxRecDepth 100000 in
set_option maxHeartbeats 4000000 in
theorem everyThing_any (v : Value) (ts : List Th) (w : World) (h : RdTh w v ts) (hn : ts.length ≤ 1048576) (hg : ∀ k (hk : k < ts.length), ts[k].pages.length ≤ 1048576) :
    Calls Tryz.prog 63 #[v, .func (.func 64) #[] #[]] w fun e w' => e = .returned (.bool (hwB ts)) ∧ Below w.heap.size w w' := by
  obtain ⟨us, rfl, r⟩ := h
  have HR := hideIt r
  rw [List.length_map] at hn
  obtain ⟨aW, cW, rfl, -, hc⟩ := r.shape
  have HC := hideIt hc
  have HG : Hid (∀ k (h : k < us.length), us[k].1.pages.length ≤ 1048576) := fun k h => by
    have := hg k (by rw [List.length_map]; exact h)
    rw [List.getElem_map] at this
    exact this
  have TK : Hid (∀ k (h : k < us.length), hwB ((us.map Prod.fst).take k) = true → hwB ((us.map Prod.fst).take (k + 1)) = pwB us[k].1.pages) := fun k h a => by
    rw [hwB_take (by rw [List.length_map]; exact h) a, List.getElem_map]
  have TN : Hid (∀ k (h : k < us.length), pwB us[k].1.pages = false → hwB (us.map Prod.fst) = false) := fun k h a => hwB_not (k := k) (by rw [List.length_map]; exact h) (by rw [List.getElem_map]; exact a)
  have TL : Hid (hwB ((us.map Prod.fst).take us.length) = hwB (us.map Prod.fst)) := by
    unfold Hid
    rw [show us.length = (us.map Prod.fst).length by rw [List.length_map], List.take_length]
  clear r hc hg
  generalize hwB (us.map Prod.fst) = R at *
  go_enter Tryz.func63, Tryz.ntmps63
  go_wp2
  go_loopg [6, 9] us.length (fun g _ i wr => ∃ k : Nat, k + g = us.length ∧ i = .int .i64 k ∧ Hid (Below w.heap.size w wr ∧ hwB ((us.map Prod.fst).take k) = true))
  case atStart => exact ⟨0, by omega, rfl, Below.refl _ _, rfl⟩
  case round =>
    obtain ⟨k, hk, rfl, J⟩ := hrel
    have H1 := hideIt J.out.1
    have J2 : Hid (hwB ((us.map Prod.fst).take k) = true) := J.out.2
    clear J
    by_cases hlt : k < us.length
    · obtain ⟨b, o, rfl, hbl, hcell⟩ := HC.out (by omega)
      obtain ⟨c0, c1, c2⟩ := hcell k hlt
      have d0 := (H1.out.cell (p := ⟨b, o + k * 3, none⟩) hbl).trans c0
      have d1 := (H1.out.cell (p := ⟨b, o + k * 3 + 1, none⟩) hbl).trans c1
      have d2 := (H1.out.cell (p := ⟨b, o + k * 3 + 2, none⟩) hbl).trans c2
      obtain ⟨a1, y1, ev⟩ := HR.out.val k hlt
      have RP := hideIt (HR.out.2 k hlt)
      have hg := HG.out k hlt
      rw [ev] at d2 RP
      have T1 := hideIt (TK.out k hlt J2.out)
      have T0 := hideIt (TN.out k hlt)
      clear hcell c0 c1 c2 ev HR HC HG TK TN TL J2
      generalize us[k].1 = t at *
      have B2 := hideIt (H1.out.alloc H1.out.size (.cells #[.int .i64 t.kind, .int .i64 t.links, .slice a1 t.pages.length y1] 102))
      have LW := hideIt (hasWords_any t (.slice a1 t.pages.length y1) _ (Rd.below RP.out B2.out) hg)
      clear RP
      cases q : pwB t.pages with
      | true =>
        rw [q] at LW T1
        clear q T0
        go_wp2_with fail
        refine LW.out.mono ?_
        rintro e w1 ⟨rfl, hb1⟩
        have B3 := hideIt (below_trans B2.out hb1 B2.out.size)
        clear hb1 d0 d1 d2 LW B2
        go_wp2
        go_roundg (us.length - (k + 1))
        case measure => omega
        case rel => exact ⟨k + 1, by omega, by go_num, B3.out, T1.out⟩
      | false =>
        rw [q] at LW
        have E := hideIt (T0.out q)
        clear q T0 T1
        go_wp2_with fail
        refine LW.out.mono ?_
        rintro e w1 ⟨rfl, hb1⟩
        have B3 := hideIt (below_trans B2.out hb1 B2.out.size)
        clear hb1 d0 d1 d2 LW B2
        go_wp2
        go_ret
        exact ⟨ret_bool E.out.symm, B3.out⟩
    · obtain rfl : k = us.length := by omega
      have E : Hid (R = true) := by rw [← TL.out]; exact J2.out
      clear HR HC HG TK TN TL J2
      go_wp2
      go_ret
      exact ⟨ret_bool E.out.symm, H1.out⟩
set_option maxRecDepth 100000 in
set_option maxHeartbeats 4000000 in
theorem implModelOK_any (v : Value) (ts : List Th) (ps : List Den) (w : World) (h : RdMd w v ts ps) (hn : ts.length ≤ 1048576) (hp : ps.length ≤ 1048576) (hs : ∀ k (h : k < ps.length), ps[k].name.size ≤ maxLen) (hT : TS w) (hE : ED w) (hF : FD w) :
    Calls Tryz.prog 26 #[v] w fun e w' => e = .returned (.bool (modB ts ps)) ∧ Below w.heap.size w w' := by
  have LS := hideIt (fun w1 (hb : Below w.heap.size w w1) => shapeOf_any v ts ps w1 (h.below2 hb) hn)
  have LI := hideIt (fun v1 w1 (hb : Below w.heap.size w w1) (h1 : RdIm w1 v1 (imgM ts) ps) => implImageOK_any v1 (imgM ts) ps w1 h1 (by rw [imgM_len]; exact hn) hp (hT.below hb) (hE.below hb) (hF.below hb) (imgM_R ts) hs)
  obtain ⟨vW, vP, rfl, hI, hD⟩ := h
  have LE := hideIt (fun w1 (hb : Below w.heap.size w w1) (hg : ∀ k (hk : k < ts.length), ts[k].pages.length ≤ 1048576) => everyThing_any vW ts w1 (hI.below hb) hn hg)
  obtain ⟨aW, cW, rfl⟩ := hI.form
  obtain ⟨aP, cP, rfl, -, -⟩ := hD.shape
  have MT : Hid (imgB (imgM ts) ps = true → modB ts ps = hwB ts ∧ ∀ k (hk : k < ts.length), ts[k].pages.length ≤ 1048576) := fun a => ⟨mod_parts a, fun k hk => Nat.le_trans ((img_pages a).2 k hk) (by decide)⟩
  have MF : Hid (imgB (imgM ts) ps = false → modB ts ps = false) := mod_not
  clear hI hD hs hT hE hF
  obtain ⟨W, hW⟩ : ∃ W, W = w.alloc (.cells #[.slice aW ts.length cW, .slice aP ps.length cP] 33) := ⟨_, rfl⟩
  have BW : Hid (Below w.heap.size w W) := by rw [hW]; exact (Below.refl _ _).alloc (Nat.le_refl _) _
  have hz : w.heap.size < W.heap.size := by rw [hW]; simp
  have CA : Hid (∀ w', Below W.heap.size W w' → w'.cell? ⟨w.heap.size, 0, none⟩ = some (.slice aW ts.length cW) ∧ w'.cell? ⟨w.heap.size, 1, none⟩ = some (.slice aP ps.length cP)) := fun w' hb => by
    have : w'.heap[w.heap.size]? = some (.cells #[.slice aW ts.length cW, .slice aP ps.length cP] 33 (0, 0)) := (hb.block _ hz).trans (by rw [hW]; exact at_new rfl)
    exact ⟨(two_cells this).1, (two_cells this).2.1⟩
  obtain ⟨x0, x1⟩ := CA.out W (Below.refl _ _)
  generalize hR : modB ts ps = R at *
  clear hR
  go_enter Tryz.func26, Tryz.ntmps26
  go_wp2_with fail
  rw [← hW]
  clear hW
  refine (LS.out W BW.out).mono ?_
  rintro e w1 ⟨v1, rfl, hr1, hb1⟩
  have R1 := hideIt hr1
  have B1 := hideIt (below_trans BW.out hb1 BW.out.size)
  have C1 := hideIt (show Below W.heap.size W w1 from hb1)
  clear hr1 hb1 x0 x1
  have LI1 := hideIt (LI.out v1 w1 B1.out R1.out)
  clear LI LS R1
  cases q : imgB (imgM ts) ps with
  | false =>
    have E := hideIt (MF.out q)
    rw [q] at LI1
    clear q MT MF LE
    go_wp2_with fail
    refine LI1.out.mono ?_
    rintro e w2 ⟨rfl, hb2⟩
    have B2 := hideIt (below_trans B1.out hb2 B1.out.size)
    clear hb2
    go_wp2
    go_ret
    exact ⟨ret_bool E.out.symm, B2.out⟩
  | true =>
    have E := hideIt (MT.out q)
    rw [q] at LI1
    clear q MT MF
    go_wp2_with fail
    refine LI1.out.mono ?_
    rintro e w2 ⟨rfl, hb2⟩
    have B2 := hideIt (below_trans B1.out hb2 B1.out.size)
    have C2 := hideIt (below_trans C1.out hb2 C1.out.size)
    obtain ⟨x0, x1⟩ := CA.out w2 C2.out
    have LE2 := hideIt (LE.out w2 B2.out E.out.2)
    clear hb2 LE LI1
    go_wp2_with fail
    refine LE2.out.mono ?_
    rintro e w3 ⟨rfl, hb3⟩
    have B3 := hideIt (below_trans B2.out hb3 B2.out.size)
    have E1 := hideIt E.out.1
    clear hb3 E
    generalize hwB ts = R2 at *
    go_wp2
    go_ret
    exact ⟨ret_bool E1.out.symm, B3.out⟩
end Go.Proofs.YtmeiionabonhnaaGreatDoor
