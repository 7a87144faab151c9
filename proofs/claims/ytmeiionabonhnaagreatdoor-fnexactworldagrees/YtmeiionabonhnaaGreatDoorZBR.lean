/- Several texts laid together: TqB, TrSa. -/
import Derived.Test.YtmeiionabonhnaaGreatDoorZBN
import Derived.Test.YtmeiionabonhnaaGreatDoorZBQ
import Derived.Test.YtmeiionabonhnaaGreatDoorZBH
import Derived.Test.YtmeiionabonhnaaGreatDoorZBP
namespace Go.Proofs.YtmeiionabonhnaaGreatDoor
open Go.RowKit Go.Maps Go.MapKept Go.ChangeMaps Go.WideShapes
open Go.WideElems (Fit rd rg pl rd_val elemAt)
theorem told_text {us : List (Th × Value)} {ts : List Th} {ps : List Den} (eu : us.map Prod.fst = ts) (hm : modB ts ps = true) {s : ByteArray} (hs : s ∈ pthN (imgM ts) ps 16 0 ⟨#[]⟩) :
    2 ≤ (pcs s).length ∧ s.size ≤ 1000 ∧ ∃ c, ∃ hc : c < us.length, wk (imgM ts) ps 0 (pcs s).tail = ((c : Int), 0) ∧ lnT ts ps s = s ++ ⟨#[32]⟩ ++ thT us[c].1.kind us[c].1.links us[c].1.pages ∧
      (0 ≤ us[c].1.links ∧ us[c].1.links ≤ 9223372036854775807) ∧ us[c].1.pages.length ≤ 8 ∧ ∀ z ∈ us[c].1.pages, 0 ≤ z ∧ z ≤ 9223372036854775807 := by
  have hi : imgB (imgM ts) ps = true := by
    cases q : imgB (imgM ts) ps with
    | true => rfl
    | false => rw [mod_not q] at hm; cases hm
  have ul : us.length = 16 := by rw [map_fst_len eu]; exact (img_pages hi).1
  obtain ⟨-, -, a3, a4, a5, a6⟩ := told eu hm hs
  obtain ⟨c, hc, b1, -⟩ := (told_at hi ul hs (.held thZV)).2
  have ct : c < ts.length := by rw [← map_fst_len eu]; exact hc
  have e2 : thOf ts ps s = us[c].1 := by
    unfold thOf
    rw [b1, List.getD_eq_getElem?_getD]
    simp only [Int.toNat_natCast]
    rw [List.getElem?_eq_getElem ct, map_fst_at eu c hc]
    rfl
  rw [e2] at a4 a5 a6
  refine ⟨told_two hi hs, a3, c, hc, b1, ?_, a4, a5, a6⟩
  unfold lnT
  rw [e2]
theorem nat_of {z : Int} (h0 : 0 ≤ z) (h1 : z ≤ 9223372036854775807) : ∃ n : Nat, z = (n : Int) ∧ n ≤ 9223372036854775807 := ⟨z.toNat, by omega, by omega⟩
theorem l00Digits_it {z : Int} (h0 : 0 ≤ z) (h1 : z ≤ 9223372036854775807) (w : World) : Calls Tryz.prog 72 #[.int .i64 z] w fun e w' => e = .returned (.string (itT z)) ∧ Below w.heap.size w w' := by
  obtain ⟨n, rfl, hn⟩ := nat_of h0 h1
  rw [it_nat]
  exact l00Digits_nat 19 n w (by omega) hn (by omega)
set_option maxRecDepth 100000 in
set_option maxHeartbeats 16000000 in
theorem l12Text_any (v : Value) (ts : List Th) (ps : List Den) (w : World) (h : RdMd w v ts ps) (hn : ts.length ≤ 1048576) (hm : modB ts ps = true) :
    Calls Tryz.prog 30 #[v] w fun e w' => ∃ vL, e = .returned vL ∧ Row w' 9 1 w.heap.size w'.heap.size vL ((pthN (imgM ts) ps 16 0 ⟨#[]⟩).map (lnT ts ps)).length (strs ((pthN (imgM ts) ps 16 0 ⟨#[]⟩).map (lnT ts ps))) ∧ Below w.heap.size w w' := by
  have hi : imgB (imgM ts) ps = true := by
    cases q : imgB (imgM ts) ps with
    | true => rfl
    | false => rw [mod_not q] at hm; cases hm
  have LI := hideIt (fun w1 (hb : Below w.heap.size w w1) => l12Image_any v ts ps w1 (h.below hb) hn)
  have LP := hideIt (fun v1 w1 (h1 : RdIm w1 v1 (imgM ts) ps) => l06Paths_any hi 16 0 0 ⟨#[]⟩ v1 w1 (by omega) rfl (by omega) (pimg_all hi).2.2.1 (by decide) h1)
  have LL := hideIt (fun v1 s w1 (h1 : RdIm w1 v1 (imgM ts) ps) (h2 : 2 ≤ (pcs s).length) (h3 : s.size ≤ 1000) => l06Lookup2_any v1 (imgM ts) ps s w1 h1 hi (by omega) h2)
  have PL := pthN_len hi 16 0 0 ⟨#[]⟩ rfl
  obtain ⟨vT, vP, rfl, ⟨us, eu, hU⟩, hD⟩ := h
  have FACT := hideIt (fun s (hs : s ∈ pthN (imgM ts) ps 16 0 ⟨#[]⟩) => told_text eu hm hs)
  obtain ⟨aT, cT, rfl, -, hC⟩ := hU.shape
  obtain ⟨aP, cP, rfl, -, -⟩ := hD.shape
  have HV := hideIt (fun k hk => hU.val k hk)
  have HPG := hideIt (hU.2)
  have HC := hideIt hC
  clear hD hU hn hm hi eu hC
  generalize pthN (imgM ts) ps 16 0 ⟨#[]⟩ = P at *
  generalize lnT ts ps = ln at *
  obtain ⟨V, hV⟩ : ∃ V, V = w.alloc (.cells #[.slice aT us.length cT, .slice aP ps.length cP] 33) := ⟨_, rfl⟩
  have BV : Hid (Below w.heap.size w V) := by rw [hV]; exact (Below.refl _ _).alloc (Nat.le_refl _) _
  have XV : Hid (V.heap[w.heap.size]? = some (.cells #[.slice aT us.length cT, .slice aP ps.length cP] 33 (0, 0))) := by rw [hV]; exact at_new rfl
  have zV : w.heap.size < V.heap.size := (Array.getElem?_eq_some_iff.1 XV.out).1
  go_enter Tryz.func30, Tryz.ntmps30
  go_upto_region 1 with fail
  rw [← hV]
  clear hV
  obtain ⟨x0, x1, -⟩ := two_cells XV.out
  go_wp2_with fail
  refine (LI.out V BV.out).mono ?_
  rintro e w1 ⟨v1, rfl, hr1, hb⟩
  have B1 := hideIt (below_trans BV.out hb BV.out.size)
  have X1 := hideIt ((hb.block w.heap.size zV).trans XV.out)
  have z1 : w.heap.size < w1.heap.size := by have := hb.size; omega
  obtain ⟨vA, vB, rfl, ⟨-, iA, jA, rfl, -⟩, ⟨-, iB, jB, rfl, -⟩⟩ := id hr1
  have R1 := hideIt hr1
  clear hr1 hb BV XV zV x0 x1 LI
  obtain ⟨W2, hW2⟩ : ∃ W2, W2 = (w1.alloc (.cells #[.slice iA (imgM ts).length jA, .slice iB ps.length jB] 98)).alloc (.cells #[] 9) := ⟨_, rfl⟩
  have z2 : W2.heap.size = w1.heap.size + 1 + 1 := by rw [hW2]; simp
  have BB2 : Hid (Below w1.heap.size w1 W2) := by rw [hW2]; exact ((Below.refl _ _).alloc (Nat.le_refl _) _).alloc (by simp) _
  have XI2 : Hid (W2.heap[w1.heap.size]? = some (.cells #[.slice iA (imgM ts).length jA, .slice iB ps.length jB] 98 (0, 0))) := by rw [hW2]; exact at_old (at_new rfl)
  have RW2 : Hid (Row W2 9 1 w.heap.size W2.heap.size (.slice (some ⟨w1.heap.size + 1, 0, none⟩) 0 0) 0 []) := by
    have := row_none9 (w1.alloc (.cells #[.slice iA (imgM ts).length jA, .slice iB ps.length jB] 98))
    rw [← hW2, World.size_alloc] at this
    exact this.wide (by omega) (Nat.le_refl _)
  have X2 := hideIt ((BB2.out.block w.heap.size z1).trans X1.out)
  have B2 := hideIt (below_trans B1.out BB2.out B1.out.size)
  have R2 := hideIt (RdIm.below R1.out BB2.out)
  obtain ⟨x0, x1, -⟩ := two_cells X1.out
  go_upto_region 3 with fail
  rw [← hW2]
  clear hW2 x0 x1 X1 B1 R1 BB2
  obtain ⟨x0, x1, -⟩ := two_cells XI2.out
  go_wp2_with fail
  refine (LP.out _ W2 R2.out).mono ?_
  rintro e w3 ⟨v3, rfl, hr3, hb⟩
  have B3 := hideIt (below_trans B2.out hb B2.out.size)
  have z3 : W2.heap.size ≤ w3.heap.size := hb.size
  have X3 := hideIt ((hb.block w.heap.size (by omega)).trans X2.out)
  have XI3 := hideIt ((hb.block w1.heap.size (by omega)).trans XI2.out)
  have RW3 := hideIt ((RW2.out.below hb (Nat.le_refl _)).wide (lo' := w.heap.size) (hi' := w3.heap.size) (Nat.le_refl _) z3)
  have R3 := hideIt (RdIm.below R2.out hb)
  have RP : Hid (RdT w3 v3 P) := hr3.rd
  obtain ⟨aL, cL, rfl, hcL, hcP⟩ := RP.out.shape
  have HP := hideIt hcP
  clear hb hr3 B2 X2 XI2 RW2 R2 RP hcP x0 x1 LP hcL
  have LT0 : Hid ((P.map ln).take 0 = []) := rfl
  have LTE : Hid ((P.map ln).take P.length = P.map ln) := by unfold Hid; rw [← List.length_map (f := ln), List.take_length]
  have LTS : Hid (∀ k (hk : k < P.length), (P.map ln).take (k + 1) = (P.map ln).take k ++ [ln P[k]]) := fun k hk => by
    rw [List.take_succ_eq_append_getElem (by rw [List.length_map]; exact hk), List.getElem_map]
  have LTL : Hid (∀ k, k ≤ P.length → ((P.map ln).take k).length = k) := fun k hk => by rw [List.length_take, List.length_map]; omega
  have START : Hid (OutI w3 w3 (w1.heap.size + 1) (.slice (some ⟨w1.heap.size + 1, 0, none⟩) 0 0) ((P.map ln).take 0)) := .inl ⟨rfl, LT0.out, Below.refl _ _⟩
  go_wp2_with fail
  go_loopg [4, 6] P.length (fun g o i wr => ∃ k : Nat, k + g = P.length ∧ i = .int .i64 k ∧ Hid (OutI w3 wr (w1.heap.size + 1) o ((P.map ln).take k)))
  case atStart => exact ⟨0, by omega, rfl, START.out⟩
  case round =>
    obtain ⟨k, hk, rfl, J⟩ := hrel
    clear START
    have k0 : (0 : Int) ≤ (k : Int) := by omega
    have BR := hideIt J.out.b
    by_cases hlt : k < P.length
    · have k1 : (k : Int) < (P.length : Int) := by omega
      obtain ⟨f1, f2, c, hc, f3, f4, ⟨f5, f6⟩, f7, f8⟩ := FACT.out _ (List.getElem_mem hlt)
      obtain ⟨bL, oL, rfl, hbl, hcell⟩ := HP.out (by omega)
      have SU := hideIt (LTS.out k hlt)
      have ll : ((P.map ln).take k).length ≤ 24 := by rw [LTL.out k (by omega)]; omega
      have zr : w3.heap.size ≤ wr.heap.size := BR.out.size
      have XR := hideIt ((BR.out.block w1.heap.size (by omega)).trans XI3.out)
      have e0 := (BR.out.cell (p := ⟨bL, oL + k, none⟩) hbl).trans (hcell k hlt)
      have RI := hideIt (RdIm.below R3.out BR.out)
      have LK := hideIt (fun v1 w1 h => LL.out v1 _ w1 h f1 f2)
      rw [f3] at LK
      obtain ⟨bT, oT, rfl, hbT, hct⟩ := HC.out (by omega)
      have HT := hideIt (hct c hc)
      have HG := hideIt (HPG.out c hc)
      obtain ⟨aG, cG, ev⟩ := HV.out c hc
      rw [ev] at HT HG
      have c1 : (c : Int) < (us.length : Int) := by omega
      have c0 : (0 : Int) ≤ (c : Int) := by omega
      rw [f4] at SU
      clear f1 f3 f4 FACT HPG HV HC hct LTS LTL LTE LT0 hcell HP ev RW3 LL
      generalize us[c].1 = t at *
      generalize P[k] = s at *
      generalize (P.map ln).take k = L at *
      obtain ⟨L', eL⟩ : ∃ L', L' = (P.map ln).take (k + 1) := ⟨_, rfl⟩
      rw [← eL] at SU
      have EL := hideIt eL
      clear eL
      generalize us.length = n at *
      go_upto_region 7 with fail
      refine wp_region_T 10 (fun w' => w'.heap[w1.heap.size]? = some (.cells #[.slice iA (imgM ts).length jA, .slice iB ps.length jB] 98 (0, 0)) ∧ w'.cell? ⟨bL, oL + k, none⟩ = some (.string s)) (by kernel_rfl) ⟨XR.out, e0⟩ (fun hS => ?_)
      refine wpAnyT_take (i := 0) (v := .agg #[.slice iA (imgM ts).length jA, .slice iB ps.length jB]) [0] rfl (by kernel_rfl) (fun _ _ _ h => h) hS rfl (fun w' hSw => by obtain ⟨x0, x1, -⟩ := two_cells hSw.1; go_simp) ?_
      try simp only [Act.put]
      refine wpAnyT_take (i := 1) (v := .slice (some ⟨bL, oL, none⟩) P.length cL) [1] rfl (by kernel_rfl) (fun _ _ _ h => h) hS rfl (fun w' hSw => by go_simp) ?_
      try simp only [Act.put]
      refine wpAnyT_take (i := 2) (v := .int .i64 k) [2] rfl (by kernel_rfl) (fun _ _ _ h => h) hS rfl (fun w' hSw => by go_simp) ?_
      try simp only [Act.put]
      refine wpAnyT_take (i := 3) (v := .pointer (some ⟨bL, oL + k, none⟩)) [3] rfl (by kernel_rfl) (fun _ _ _ h => h) hS rfl (fun w' hSw => by go_simp) ?_
      try simp only [Act.put]
      refine wpAnyT_take (i := 4) (v := .string s) [4] rfl (by kernel_rfl) (fun _ _ _ h => h) hS rfl (fun w' hSw => by have h1 := hSw.2; go_simp) ?_
      try simp only [Act.put]
      refine wpAnyT_one (i := 5) rfl (by kernel_rfl) (fun K hK => ?_)
      go_simp
      go_at_call 71
      refine (LK.out _ _ (RdIm.below RI.out ((Below.refl _ _).drew))).mono ?_
      rintro e w4 ⟨rfl, hb⟩
      have B4 : Hid (Below w3.heap.size w3 w4) := below_trans BR.out.drew hb BR.out.size
      have X4 : Hid (w4.heap[w1.heap.size]? = some (.cells #[.slice iA (imgM ts).length jA, .slice iB ps.length jB] 98 (0, 0)) ∧ w4.cell? ⟨bL, oL + k, none⟩ = some (.string s)) :=
        ⟨(hb.block w1.heap.size (by show _ < wr.heap.size; omega)).trans hS.1, (hb.cell (p := ⟨bL, oL + k, none⟩) (by show bL < wr.heap.size; omega)).trans hS.2⟩
      have J4 := hideIt (J.out.below (below_trans ((Below.refl _ _).drew) hb (Nat.le_refl _)))
      refine hK.out _ _ (fun _ => X4.out) ?_
      clear hK K hb hS XR e0 RI LK J
      try simp only
      refine wpAnyT_one (i := 6) rfl (by kernel_rfl) (fun K hK => ?_)
      go_simp
      refine hK.out _ _ (fun _ => X4.out) ?_
      clear hK K
      try simp only [Act.put]
      refine wpAnyT_take (i := 7) (v := .int .i64 c) [7] rfl (by kernel_rfl) (fun _ _ _ h => h) X4.out rfl (fun w' hSw => by go_simp) ?_
      try simp only [Act.put]
      refine wpAnyT_take (i := 8) (v := .int .i64 0) [8] rfl (by kernel_rfl) (fun _ _ _ h => h) X4.out rfl (fun w' hSw => by go_simp) ?_
      try simp only [Act.put]
      refine wpAnyT_one (i := 9) rfl (by kernel_rfl) (fun K hK => ?_)
      go_simp
      refine hK.out _ _ (fun _ => X4.out) ?_
      clear hK K
      try simp only [Act.put]
      refine wpAnyT_one (i := 10) rfl (by kernel_rfl) (fun K hK => ?_)
      go_simp
      refine hK.out _ _ (fun h => absurd rfl h) ?_
      clear hK K
      try simp only [Act.put]
      refine wpAnyT_done (by kernel_rfl) ?_ _
      have XM := hideIt ((B4.out.block w.heap.size (by omega)).trans X3.out)
      obtain ⟨x0, x1, -⟩ := two_cells XM.out
      have Bw4 := hideIt (below_trans B3.out B4.out B3.out.size)
      obtain ⟨t0, t1, t2⟩ := HT.out
      have d0 := (Bw4.out.cell (p := ⟨bT, oT + c * 3, none⟩) hbT).trans t0
      have d1 := (Bw4.out.cell (p := ⟨bT, oT + c * 3 + 1, none⟩) hbT).trans t1
      have d2 := (Bw4.out.cell (p := ⟨bT, oT + c * 3 + 2, none⟩) hbT).trans t2
      have HG4 := hideIt (Rd.below HG.out Bw4.out)
      have z4 : w3.heap.size ≤ w4.heap.size := B4.out.size
      obtain ⟨V5, hV5⟩ : ∃ V5, V5 = w4.alloc (.cells #[.int .i64 t.kind, .int .i64 t.links, .slice aG t.pages.length cG] 102) := ⟨_, rfl⟩
      have BA : Hid (Below w4.heap.size w4 V5) := by rw [hV5]; exact (Below.refl _ _).alloc (Nat.le_refl _) _
      have XT : Hid (V5.heap[w4.heap.size]? = some (.cells #[.int .i64 t.kind, .int .i64 t.links, .slice aG t.pages.length cG] 102 (0, 0))) := by rw [hV5]; exact at_new rfl
      have z5 : w4.heap.size < V5.heap.size := (Array.getElem?_eq_some_iff.1 XT.out).1
      have e5 := (BA.out.cell (p := ⟨bL, oL + k, none⟩) (by show bL < _; omega)).trans X4.out.2
      have J5 := hideIt (J4.out.below BA.out)
      have HG5 := hideIt (Rd.below HG4.out BA.out)
      have k2 : P.length - (k + 1) < P.length - k := by omega
      have k3 : P.length - k = gk := by omega
      clear HT t0 t1 t2 HG HG4 J4 B4 Bw4 X4
      go_upto_region 9 with fail
      rw [← hV5]
      clear hV5 x0 x1 d0 d1 d2 BA XM c0 c1 hc
      obtain ⟨x0, x1, x2⟩ := tc3 XT.out
      by_cases c2 : t.kind = 2
      · have ET : Hid (L' = L ++ [s ++ ⟨#[32, 100, 105, 114]⟩]) := by
          unfold Hid
          rw [SU.out, show thT t.kind t.links t.pages = ⟨#[100, 105, 114]⟩ from if_pos c2]
          congr 2
          apply ByteArray.ext
          simp
        have A1 := fun (w1 : World) => run_string_add_sum (P := Tryz.prog) w1 s ⟨#[32, 100, 105, 114]⟩ (by show _ + 4 ≤ _; omega)
        rw [c2] at x0
        have a1 := A1 V5
        clear SU HG5 XT A1 x1 x2
        generalize (s ++ ⟨#[32, 100, 105, 114]⟩ : ByteArray) = p at *
        have JB := hideIt (J5.out.below ((Below.refl _ _).alloc (Nat.le_refl _) (.cells #[.string p] 9)))
        have RB := hideIt (rd_str V5 p)
        obtain ⟨bO, cO, rfl⟩ := J5.out.form
        clear J5
        go_wp2_with (at_builtin; refine wpList_append_out rfl (.tmp 40) (.tmp 46) rfl rfl JB.out rfl RB.out (.inr (by simp)) (by simp; omega) ?_)
        intro vA wA OA0
        have OA := hideIt OA0
        rw [← ET.out] at OA
        clear OA0 ET JB RB
        go_wp2
        go_roundg (P.length - (k + 1))
        case measure => omega
        case rel => exact ⟨k + 1, by omega, by go_num, by unfold Hid; rw [← EL.out]; exact OA.out⟩
      have c3 : (t.kind == 2) = false := beq_eq_false_iff_ne.2 c2
      have ET : Hid (L' = L ++ [s ++ ⟨#[32]⟩ ++ flT t.links ++ pgT t.pages]) := by
        unfold Hid
        rw [SU.out, show thT t.kind t.links t.pages = flT t.links ++ pgT t.pages from if_neg c2]
        congr 2
        apply ByteArray.ext
        simp
      have is := it_size f5 f6
      have A1 := fun (w1 : World) => run_string_add_sum (P := Tryz.prog) w1 s ⟨#[32, 102, 105, 108, 101, 32]⟩ (by show _ + 6 ≤ _; omega)
      have s1 : (s ++ ⟨#[32, 102, 105, 108, 101, 32]⟩ : ByteArray).size = s.size + 6 := ByteArray.size_append
      have A2 := fun (w1 : World) => run_string_add_sum (P := Tryz.prog) w1 (s ++ ⟨#[32, 102, 105, 108, 101, 32]⟩) (itT t.links) (by omega)
      have s2 : (s ++ ⟨#[32, 102, 105, 108, 101, 32]⟩ ++ itT t.links : ByteArray).size = s.size + 6 + (itT t.links).size := by rw [ByteArray.size_append, s1]
      have A3 := fun (w1 : World) => run_string_add_sum (P := Tryz.prog) w1 (s ++ ⟨#[32, 102, 105, 108, 101, 32]⟩ ++ itT t.links) ⟨#[58]⟩ (by show _ + 1 ≤ _; omega)
      have s3 : (s ++ ⟨#[32, 102, 105, 108, 101, 32]⟩ ++ itT t.links ++ ⟨#[58]⟩ : ByteArray).size = s.size + 6 + (itT t.links).size + 1 := by rw [ByteArray.size_append, s2]; rfl
      have EF : Hid (s ++ ⟨#[32]⟩ ++ flT t.links = s ++ ⟨#[32, 102, 105, 108, 101, 32]⟩ ++ itT t.links ++ ⟨#[58]⟩) := by
        unfold Hid flT
        have e : (⟨#[32, 102, 105, 108, 101, 32]⟩ : ByteArray) = ⟨#[32]⟩ ++ ⟨#[102, 105, 108, 101, 32]⟩ := by apply ByteArray.ext; simp
        rw [e]
        simp only [ByteArray.append_assoc]
      rw [EF.out] at ET
      have LD := hideIt (fun w1 => l00Digits_it f5 f6 w1)
      have PS : Hid (∀ j, j ≤ t.pages.length → (pgT (t.pages.take j)).size ≤ 21 * j) := fun j hj => by
        have := pgT_size (t.pages.take j) (fun z hz => f8 z (List.mem_of_mem_take hz))
        rw [List.length_take] at this
        omega
      have PN : Hid (∀ j (hj : j < t.pages.length), pgT (t.pages.take (j + 1)) = pgT (t.pages.take j) ++ (⟨#[32]⟩ ++ itT t.pages[j])) := fun j hj => by
        rw [List.take_succ_eq_append_getElem hj, pgT_snoc]
      have P0 : Hid (pgT (t.pages.take 0) = ⟨#[]⟩) := rfl
      have PE : Hid (pgT (t.pages.take t.pages.length) = pgT t.pages) := by unfold Hid; rw [List.take_length]
      have IS : Hid (∀ j (hj : j < t.pages.length), (0 ≤ t.pages[j] ∧ t.pages[j] ≤ 9223372036854775807) ∧ (itT t.pages[j]).size ≤ 20) := fun j hj => by
        have q := f8 _ (List.getElem_mem hj)
        exact ⟨q, it_size q.1 q.2⟩
      obtain ⟨aG', cG', eG, -, hcG⟩ := RdI.shape HG5.out
      cases eG
      have HGC := hideIt hcG
      have fsz : s.size + 6 + (itT t.links).size + 1 ≤ 1030 := by omega
      rw [← s3] at fsz
      clear SU EF c2 f8 hcG HG5 s3
      generalize t.kind = tk at *
      generalize t.pages = zs at *
      generalize (s ++ ⟨#[32, 102, 105, 108, 101, 32]⟩ ++ itT t.links ++ ⟨#[58]⟩ : ByteArray) = fl at *
      generalize (s ++ ⟨#[32, 102, 105, 108, 101, 32]⟩ ++ itT t.links : ByteArray) = q2 at *
      generalize (s ++ ⟨#[32, 102, 105, 108, 101, 32]⟩ : ByteArray) = q1 at *
      generalize itT t.links = q0 at *
      generalize t.links = tl at *
      clear s1 s2 is
      go_upto_region 11 with fail
      clear x0 x1 x2 c3
      refine wp_region_T 10 (fun w' => w'.cell? ⟨w4.heap.size, 1, none⟩ = some (.int .i64 tl) ∧ w'.cell? ⟨bL, oL + k, none⟩ = some (.string s)) (by kernel_rfl) ⟨(tc3 XT.out).2.1, e5⟩ (fun hS => ?_)
      refine wpAnyT_take (i := 0) (v := .slice (some ⟨bL, oL, none⟩) P.length cL) [0] rfl (by kernel_rfl) (fun _ _ _ h => h) hS rfl (fun w' hSw => by go_simp) ?_
      try simp only [Act.put]
      refine wpAnyT_take (i := 1) (v := .int .i64 k) [1] rfl (by kernel_rfl) (fun _ _ _ h => h) hS rfl (fun w' hSw => by go_simp) ?_
      try simp only [Act.put]
      refine wpAnyT_take (i := 2) (v := .pointer (some ⟨bL, oL + k, none⟩)) [2] rfl (by kernel_rfl) (fun _ _ _ h => h) hS rfl (fun w' hSw => by go_simp) ?_
      try simp only [Act.put]
      refine wpAnyT_take (i := 3) (v := .string s) [3] rfl (by kernel_rfl) (fun _ _ _ h => h) hS rfl (fun w' hSw => by have h1 := hSw.2; go_simp) ?_
      try simp only [Act.put]
      refine wpAnyT_take (i := 4) (v := .string q1) [4] rfl (by kernel_rfl) (fun _ _ _ h => h) hS rfl (fun w' hSw => by have a1 := A1 w'; go_simp) ?_
      try simp only [Act.put]
      refine wpAnyT_take (i := 5) (v := .pointer (some ⟨w4.heap.size, 1, none⟩)) [5] rfl (by kernel_rfl) (fun _ _ _ h => h) hS rfl (fun w' hSw => by go_simp) ?_
      try simp only [Act.put]
      refine wpAnyT_take (i := 6) (v := .int .i64 tl) [6] rfl (by kernel_rfl) (fun _ _ _ h => h) hS rfl (fun w' hSw => by have h1 := hSw.1; go_simp) ?_
      try simp only [Act.put]
      refine wpAnyT_one (i := 7) rfl (by kernel_rfl) (fun K hK => ?_)
      go_simp
      go_at_call 72
      refine (LD.out _).mono ?_
      rintro e w6 ⟨rfl, hb⟩
      have B6 : Hid (Below V5.heap.size V5 w6) := below_trans ((Below.refl _ _).drew) hb (Nat.le_refl _)
      have X6 : Hid (w6.cell? ⟨w4.heap.size, 1, none⟩ = some (.int .i64 tl) ∧ w6.cell? ⟨bL, oL + k, none⟩ = some (.string s)) :=
        ⟨(hb.cell (p := ⟨w4.heap.size, 1, none⟩) (by show _ < V5.heap.size; omega)).trans hS.1, (hb.cell (p := ⟨bL, oL + k, none⟩) (by show bL < V5.heap.size; omega)).trans hS.2⟩
      have a2 := A2 w6
      have a3 := A3 w6
      refine hK.out _ _ (fun _ => X6.out) ?_
      clear hK K hb hS LD A1 A2 A3
      try simp only
      refine wpAnyT_one (i := 8) rfl (by kernel_rfl) (fun K hK => ?_)
      go_simp
      refine hK.out _ _ (fun _ => X6.out) ?_
      clear hK K
      try simp only [Act.put]
      refine wpAnyT_one (i := 9) rfl (by kernel_rfl) (fun K hK => ?_)
      go_simp
      refine hK.out _ _ (fun _ => X6.out) ?_
      clear hK K
      try simp only [Act.put]
      refine wpAnyT_one (i := 10) rfl (by kernel_rfl) (fun K hK => ?_)
      go_simp
      refine hK.out _ _ (fun h => absurd rfl h) ?_
      clear hK K a2 a3 e5 X6
      try simp only [Act.put]
      refine wpAnyT_done (by kernel_rfl) ?_ _
      have START2 : Hid (fl = fl ++ pgT (zs.take 0)) := by unfold Hid; rw [P0.out]; apply ByteArray.ext; simp
      obtain ⟨bO, cO, rfl⟩ := J5.out.form
      go_wp2_with fail
      go_loopw [10, 11] (fun t i wq => ∃ j : Nat, j ≤ zs.length ∧ i = .int .i64 j ∧ (∃ acc : ByteArray, t = .string acc ∧ acc.size ≤ 1030 + 21 * j ∧ Hid (acc = fl ++ pgT (zs.take j))) ∧ Hid (Below V5.heap.size V5 wq)) (fun _ i _ => zs.length - (intOf i).toNat)
      case atStart => exact ⟨0, by omega, rfl, ⟨fl, rfl, by omega, START2.out⟩, B6.out⟩
      case round =>
        obtain ⟨j, hj, rfl, ⟨acc, rfl, ha, E⟩, B⟩ := hrel
        clear B6 START2
        have j0 : (0 : Int) ≤ (j : Int) := by omega
        by_cases jlt : j < zs.length
        · obtain ⟨b0, o0, rfl, hbl0, hcz⟩ := HGC.out (by omega)
          have d0 := (B.out.cell (p := ⟨b0, o0 + j, none⟩) hbl0).trans (hcz j jlt)
          have x2 := (tc3 ((B.out.block w4.heap.size z5).trans XT.out)).2.2
          have j1 : (j : Int) < (zs.length : Int) := by omega
          obtain ⟨⟨g0, g1⟩, g2⟩ := IS.out j jlt
          have E2 : Hid (acc ++ (⟨#[32]⟩ ++ itT zs[j]) = fl ++ pgT (zs.take (j + 1))) := by
            unfold Hid
            rw [PN.out j jlt, E.out]
            simp only [ByteArray.append_assoc]
          clear E hcz PS PN PE P0 HGC IS XT J5 ET EL
          generalize zs[j] = z at *
          have LZ := hideIt (fun w1 => l00Digits_it g0 g1 w1)
          have A1 := fun (w1 : World) => run_string_add_sum (P := Tryz.prog) w1 ⟨#[32]⟩ (itT z) (by show 1 + _ ≤ _; omega)
          have s1 : ((⟨#[32]⟩ : ByteArray) ++ itT z).size = 1 + (itT z).size := ByteArray.size_append
          have A2 := fun (w1 : World) => run_string_add_sum (P := Tryz.prog) w1 acc (⟨#[32]⟩ ++ itT z) (by omega)
          have s2 : (acc ++ (⟨#[32]⟩ ++ itT z)).size = acc.size + (1 + (itT z).size) := by rw [ByteArray.size_append, s1]
          generalize (acc ++ (⟨#[32]⟩ ++ itT z) : ByteArray) = r2 at *
          generalize (⟨#[32]⟩ ++ itT z : ByteArray) = r1 at *
          generalize itT z = r0 at *
          clear s1
          go_wp2_with fail
          refine (LZ.out wr).mono ?_
          rintro e w7 ⟨rfl, hb⟩
          have B7 := hideIt (below_trans B.out hb B.out.size)
          have a1 := A1 w7
          have a2 := A2 w7
          clear hb A1 A2 LZ B d0 x2
          go_wp2
          go_roundw
          case rel => exact ⟨j + 1, by omega, by go_num, ⟨r2, rfl, by omega, E2.out⟩, B7.out⟩
          case measure => simp [intOf]; omega
        · obtain rfl : j = zs.length := by omega
          have E2 : Hid (acc = fl ++ pgT zs) := by unfold Hid; rw [E.out, PE.out]
          rw [← E2.out] at ET
          have x2 := (tc3 ((B.out.block w4.heap.size z5).trans XT.out)).2.2
          have JQ := hideIt (J5.out.below B.out)
          have JB := hideIt (JQ.out.below ((Below.refl _ _).alloc (Nat.le_refl _) (.cells #[.string acc] 9)))
          have RB := hideIt (rd_str wr acc)
          clear E E2 PE PS PN P0 IS HGC J5 JQ B XT
          go_wp2_with (at_builtin; refine wpList_append_out rfl (.tmp 74) (.tmp 76) rfl rfl JB.out rfl RB.out (.inr (by simp)) (by simp; omega) ?_)
          intro vA wA OA0
          have OA := hideIt OA0
          rw [← ET.out] at OA
          clear OA0 ET JB RB x2
          go_wp2
          go_roundg (P.length - (k + 1))
          case measure => omega
          case rel => exact ⟨k + 1, by omega, by go_num, by unfold Hid; rw [← EL.out]; exact OA.out⟩
    · obtain rfl : k = P.length := by omega
      rw [LTE.out] at J
      have RR := hideIt (J.out.row (lo := w.heap.size) ((RW3.out.below BR.out (Nat.le_refl _)).wide (Nat.le_refl _) BR.out.size) (by omega))
      have BE := hideIt (below_trans B3.out BR.out B3.out.size)
      obtain ⟨bq, cq, rfl⟩ := J.out.form
      clear J
      go_wp2
      go_ret
      exact ⟨_, rfl, RR.out, BE.out⟩
end Go.Proofs.YtmeiionabonhnaaGreatDoor

namespace Go.Proofs.YtmeiionabonhnaaGreatDoor
open Go.RowKit
def liL (ts : List Th) (ps : List Den) : List ByteArray := (pthN (imgM ts) ps 16 0 ⟨#[]⟩).map (lnT ts ps)
theorem liL_len {ts : List Th} {ps : List Den} (hm : modB ts ps = true) : (liL ts ps).length ≤ 24 := by
  have hi : imgB (imgM ts) ps = true := by
    cases q : imgB (imgM ts) ps with
    | true => rfl
    | false => rw [mod_not q] at hm; cases hm
  unfold liL
  rw [List.length_map]
  exact pthN_len hi 16 0 0 ⟨#[]⟩ rfl
set_option maxRecDepth 100000 in
set_option maxHeartbeats 4000000 in
theorem l12Same_any (va vb : Value) (ta tb : List Th) (pa pb : List Den) (w : World) (ha : RdMd w va ta pa) (hb : RdMd w vb tb pb) (hna : ta.length ≤ 1048576) (hnb : tb.length ≤ 1048576) (hma : modB ta pa = true) (hmb : modB tb pb = true) :
    Calls Tryz.prog 42 #[va, vb] w fun e w' => e = .returned (.bool (decide (liL ta pa = liL tb pb))) ∧ Below w.heap.size w w' := by
  have LA := hideIt (fun w1 (h1 : Below w.heap.size w w1) => l12Text_any va ta pa w1 (ha.below h1) hna hma)
  have LB := hideIt (fun w1 (h1 : Below w.heap.size w w1) => l12Text_any vb tb pb w1 (hb.below h1) hnb hmb)
  obtain ⟨aA, cA, dA, eA, rfl⟩ := ha.form
  obtain ⟨aB, cB, dB, eB, rfl⟩ := hb.form
  have PL := liL_len hma
  clear ha hb hna hnb hma hmb
  rw [show (pthN (imgM ta) pa 16 0 ⟨#[]⟩).map (lnT ta pa) = liL ta pa from rfl] at LA
  rw [show (pthN (imgM tb) pb 16 0 ⟨#[]⟩).map (lnT tb pb) = liL tb pb from rfl] at LB
  generalize liL ta pa = P at *
  generalize liL tb pb = R at *
  obtain ⟨ans, ea⟩ : ∃ ans, ans = decide (P = R) := ⟨_, rfl⟩
  rw [← ea]
  have EA := hideIt ea
  clear ea
  obtain ⟨V, hV⟩ : ∃ V, V = (w.alloc (.cells #[.slice aA ta.length cA, .slice dA pa.length eA] 33)).alloc (.cells #[.slice aB tb.length cB, .slice dB pb.length eB] 33) := ⟨_, rfl⟩
  have BV : Hid (Below w.heap.size w V) := by rw [hV]; exact ((Below.refl _ _).alloc (Nat.le_refl _) _).alloc (by simp) _
  have XA : Hid (V.heap[w.heap.size]? = some (.cells #[.slice aA ta.length cA, .slice dA pa.length eA] 33 (0, 0))) := by rw [hV]; exact at_old (at_new rfl)
  have XB : Hid (V.heap[w.heap.size + 1]? = some (.cells #[.slice aB tb.length cB, .slice dB pb.length eB] 33 (0, 0))) := by
    rw [hV]
    have := at_new (w := w.alloc (.cells #[.slice aA ta.length cA, .slice dA pa.length eA] 33)) (o := .cells #[.slice aB tb.length cB, .slice dB pb.length eB] 33) rfl
    rw [World.size_alloc] at this
    exact this
  have zB : w.heap.size + 1 < V.heap.size := (Array.getElem?_eq_some_iff.1 XB.out).1
  go_enter Tryz.func42, Tryz.ntmps42
  go_upto_region 1 with fail
  rw [← hV]
  clear hV
  obtain ⟨x0, x1, -⟩ := two_cells XA.out
  go_wp2_with fail
  refine (LA.out V BV.out).mono ?_
  rintro e w1 ⟨v1, rfl, hr1, hb1⟩
  have B1 := hideIt (below_trans BV.out hb1 BV.out.size)
  have XB1 := hideIt ((hb1.block (w.heap.size + 1) zB).trans XB.out)
  have RP1 : Hid (RdT w1 v1 P) := hr1.rd
  clear hr1 hb1 x0 x1 XA XB LA BV zB
  obtain ⟨aP, cP, rfl, -, -⟩ := RP1.out.shape
  obtain ⟨x0, x1, -⟩ := two_cells XB1.out
  go_wp2_with fail
  refine (LB.out w1 B1.out).mono ?_
  rintro e w2 ⟨v2, rfl, hr2, hb2⟩
  have B2 := hideIt (below_trans B1.out hb2 B1.out.size)
  have RP2 : Hid (RdT w2 (.slice aP P.length cP) P) := Rd.below RP1.out hb2
  have RR2 : Hid (RdT w2 v2 R) := hr2.rd
  clear hr2 hb2 x0 x1 XB1 RP1 LB B1
  obtain ⟨aP', cP', eq, -, hcP⟩ := RP2.out.shape
  cases eq
  obtain ⟨aR, cR, rfl, -, hcR⟩ := RR2.out.shape
  have HP := hideIt hcP
  have HR := hideIt hcR
  clear hcP hcR RP2 RR2
  by_cases c : P.length = R.length
  rotate_left
  · have c1 : ¬ (P.length : Int) = (R.length : Int) := by omega
    have c2 : ((P.length : Int) == (R.length : Int)) = false := beq_eq_false_iff_ne.2 c1
    obtain rfl : ans = false := EA.out.trans (decide_eq_false (show ¬ P = R from fun e => c (by rw [e])))
    clear c HP HR EA
    go_wp2
    go_ret
    exact ⟨rfl, B2.out⟩
  have c1 : (P.length : Int) = (R.length : Int) := by omega
  have c2 : ((P.length : Int) == (R.length : Int)) = true := beq_iff_eq.2 c1
  have CL := hideIt c
  clear c
  have YES : Hid ((∀ j (h : j < P.length) (h' : j < R.length), P[j] = R[j]) → ans = true) := fun h => EA.out.trans (decide_eq_true (List.ext_getElem CL.out h))
  have NO : Hid (∀ j (h : j < P.length) (h' : j < R.length), P[j] ≠ R[j] → ans = false) := fun j h h' n => EA.out.trans (decide_eq_false (fun e => n (by subst e; rfl)))
  clear EA
  go_upto_region 5 with fail
  clear c1 c2
  go_wp2_with fail
  go_loopg [7] P.length (fun g i wr => ∃ k : Nat, k + g = P.length ∧ i = .int .i64 k ∧ Hid (Below w2.heap.size w2 wr) ∧ Hid (∀ j (h : j < P.length) (h' : j < R.length), j < k → P[j] = R[j]))
  case atStart => exact ⟨0, by omega, rfl, Below.refl _ _, fun j h h' q => absurd q (by omega)⟩
  case round =>
    obtain ⟨k, hk, rfl, BQ, H⟩ := hrel
    have BW := hideIt (below_trans B2.out BQ.out B2.out.size)
    have k0 : (0 : Int) ≤ (k : Int) := by omega
    by_cases hlt : k < P.length
    · have hlr : k < R.length := by have := CL.out; omega
      have k1 : (k : Int) < (P.length : Int) := by omega
      have k2 : (k : Int) < (R.length : Int) := by omega
      obtain ⟨bP, oP, rfl, lP, hcP⟩ := HP.out (by omega)
      obtain ⟨bR, oR, rfl, lR, hcR⟩ := HR.out (by omega)
      have d0 := (BQ.out.cell (p := ⟨bP, oP + k, none⟩) lP).trans (hcP k hlt)
      have d1 := (BQ.out.cell (p := ⟨bR, oR + k, none⟩) lR).trans (hcR k hlr)
      by_cases c : P[k] = R[k]
      · have H2 : Hid (∀ j (h : j < P.length) (h' : j < R.length), j < k + 1 → P[j] = R[j]) := fun j h h' q => by
          by_cases e : j = k
          · subst e; exact c
          · exact H.out j h h' (by omega)
        rw [← c] at d1
        have hk2 : Hid ((k + 1) + (P.length - (k + 1)) = P.length) := by unfold Hid; omega
        have hg2 : P.length - (k + 1) < gk := by omega
        clear H YES NO c hcP hcR
        have CL2 : P.length ≤ R.length := by have := CL.out; omega
        clear CL
        generalize P[k] = x at *
        go_upto_region 8 with fail
        go_quiet (fail)
        go_wp2
        go_roundg (P.length - (k + 1))
        case measure => exact hg2
        case rel => exact ⟨k + 1, hk2.out, by go_num, below_drewS BQ.out _, H2.out⟩
      · obtain rfl : ans = false := NO.out k hlt hlr c
        have c3 : (P[k].toList == R[k].toList) = false := by
          rw [beq_eq_false_iff_ne]
          intro e
          exact c (ByteArray.ext (Array.ext' (by rw [← Lib.toList_data, ← Lib.toList_data]; exact e)))
        clear H YES NO hcP hcR CL
        generalize P[k] = x at *
        generalize R[k] = y at *
        go_upto_region 8 with fail
        go_quiet (fail)
        go_wp2
        go_ret
        exact ⟨rfl, below_drewS BW.out _⟩
    · obtain rfl : k = P.length := by omega
      obtain rfl : ans = true := YES.out (fun j h h' => H.out j h h' h)
      clear H YES NO CL HP HR
      go_wp2
      go_ret
      exact ⟨rfl, BW.out⟩
end Go.Proofs.YtmeiionabonhnaaGreatDoor
