/- Models filled by the program, whatever function gives the pages. -/
import Derived.Test.YtmeiionabonhnaaGreatDoorZBK
import Derived.Test.YtmeiionabonhnaaGreatDoorZAU
namespace Go.Proofs.YtmeiionabonhnaaGreatDoor
open Go.RowKit
structure RimV (W w : World) (lo bM : Nat) (vT vD : Value) (us : List (Th × Value)) (ds : List Den) : Prop where
  m : w.heap[bM]? = some (.cells #[vT, vD] 33 (0, 0))
  t : w.ownsRow W.heap.size 102 3 vT us.length (thv us)
  p : ∀ k (h : k < us.length), w.ownsRow W.heap.size 3 1 us[k].2 us[k].1.pages.length (ints us[k].1.pages)
  ap : ∀ j k (hj : j < us.length) (hk : k < us.length), ¬ j = k → Apt us[j].2 us[k].2
  d : Row w 140 3 lo W.heap.size vD ds.length (dens ds)
  b : Below W.heap.size W w
  hb : W.heap.size ≤ bM
theorem RimV.lt {W w : World} {lo bM : Nat} {vT vD : Value} {us : List (Th × Value)} {ds : List Den} (h : RimV W w lo bM vT vD us ds) : bM < w.heap.size := (Array.getElem?_eq_some_iff.1 h.m).1
theorem RimV.z {W w : World} {lo bM : Nat} {vT vD : Value} {us : List (Th × Value)} {ds : List Den} (h : RimV W w lo bM vT vD us ds) : W.heap.size ≤ w.heap.size := h.b.size
theorem RimV.below {W w w' : World} {lo bM : Nat} {vT vD : Value} {us : List (Th × Value)} {ds : List Den} (h : RimV W w lo bM vT vD us ds) (hb : Below w.heap.size w w') : RimV W w' lo bM vT vD us ds :=
  ⟨(hb.block _ h.lt).trans h.m, ((own_block h.t).below hb (Nat.le_refl _)).1, fun k hk => ((own_block (h.p k hk)).below hb (Nat.le_refl _)).1, h.ap, h.d.below hb h.z, below_trans h.b hb h.z, h.hb⟩
theorem RimV.grow {W w w' : World} {lo bM : Nat} {vT vD v' : Value} {us : List (Th × Value)} {ds : List Den} (h : RimV W w lo bM vT vD us ds) (x : Th × Value) (hx : w.ownsRow W.heap.size 3 1 x.2 x.1.pages.length (ints x.1.pages)) (ha : ∀ k (hk : k < us.length), Apt us[k].2 x.2) (ho : w'.ownsRow W.heap.size 102 3 v' (us.length + 1) (thv us ++ thv [x])) (hg : w.grownBy w' vT.ownBlock) :
    w'.heap[bM]? = some (.cells #[vT, vD] 33 (0, 0)) ∧ RimV W (w'.setCell ⟨bM, 0, none⟩ v') lo bM v' vD (us ++ [x]) ds := by
  have hm : w'.heap[bM]? = some (.cells #[vT, vD] 33 (0, 0)) := (hg.block _ h.lt (own_type h.t h.m th_mdT).symm).trans h.m
  have hbw := h.b.grown hg h.z (fun q hq => (h.t.lt q hq).1)
  have hm2 : (w'.setCell ⟨bM, 0, none⟩ v').heap[bM]? = some (.cells #[v', vD] 33 (0, 0)) := eight_set (xs := [vT, vD]) hm 0 v'
  have hd : Row (w'.setCell ⟨bM, 0, none⟩ v') 140 3 lo W.heap.size vD ds.length (dens ds) := by
    refine h.d.same (fun b h1 h2 => ?_)
    rw [Below.heap_setCell _ _ _ _ (by simp only; have := h.hb; omega)]
    refine hg.block _ (Nat.lt_of_lt_of_le h2 h.z) (fun e => ?_)
    have q := (h.t.lt b e.symm).1
    omega
  have keep : ∀ {v : Value} {n : Nat} {xs : List Value}, w.ownsRow W.heap.size 3 1 v n xs → (w'.setCell ⟨bM, 0, none⟩ v').ownsRow W.heap.size 3 1 v n xs := fun r => by
    have q := (Row.apart (own_block r) (own_block h.t) in_thT hg).1
    exact ownsRow_setCell_other q (own_type q hm in_mdT) _
  have L : (us ++ [x]).length = us.length + 1 := by simp
  refine ⟨hm, hm2, ?_, fun k hk => ?_, fun j k hj hk ne => ?_, hd, hbw.setCell h.hb _, h.hb⟩
  · rw [thv_app, List.length_append]
    exact ownsRow_setCell_other ho (own_type ho hm th_mdT) _
  · by_cases e : k < us.length
    · rw [List.getElem_append_left e]
      exact keep (h.p k e)
    · have ek : k = us.length := by omega
      subst ek
      rw [List.getElem_append_right (Nat.le_refl _)]
      simp only [Nat.sub_self, List.getElem_cons_zero]
      exact keep hx
  · by_cases ej : j < us.length
    · rw [List.getElem_append_left ej]
      by_cases ek : k < us.length
      · rw [List.getElem_append_left ek]
        exact h.ap j k ej ek ne
      · have e2 : k = us.length := by omega
        subst e2
        rw [List.getElem_append_right (Nat.le_refl _)]
        simp only [Nat.sub_self, List.getElem_cons_zero]
        exact ha j ej
    · have e2 : j = us.length := by omega
      subst e2
      have ek : k < us.length := by omega
      rw [List.getElem_append_right (Nat.le_refl _), List.getElem_append_left ek]
      simp only [Nat.sub_self, List.getElem_cons_zero]
      exact (ha k ek).symm
theorem RimV.boxes {W w w' : World} {lo bM : Nat} {vT vD : Value} {us : List (Th × Value)} {ds : List Den} (h : RimV W w lo bM vT vD us ds) (hg : w.grownBy w' vT.ownBlock) : Below W.heap.size W w' ∧ ∀ (b : Nat) (cs : Array Value) (t : TypeId) (fr : Nat × Nat), w.heap[b]? = some (Obj.cells cs t fr) → (102 : Nat) ≠ t → w'.heap[b]? = some (Obj.cells cs t fr) :=
  ⟨h.b.grown hg h.z (fun q hq => (h.t.lt q hq).1), fun _ _ _ _ hb ne => (hg.block _ (Array.getElem?_eq_some_iff.1 hb).1 (own_type h.t hb ne).symm).trans hb⟩
theorem ino_eleven {w : World} {b : Nat} {x : Ino} (a : w.heap[b]? = some (.cells x.cs.toArray 150 (0, 0))) : w.cell? ⟨b, 0, none⟩ = some (.int .i64 x.kind) ∧ w.cell? ⟨b, 1, none⟩ = some (.int .i64 x.size) ∧ w.cell? ⟨b, 2, none⟩ = some (.int .i64 x.links) ∧ w.cell? ⟨b, 3, none⟩ = some (.int .i64 x.m0) ∧ w.cell? ⟨b, 4, none⟩ = some (.int .i64 x.m1) ∧ w.cell? ⟨b, 5, none⟩ = some (.int .i64 x.m2) ∧ w.cell? ⟨b, 6, none⟩ = some (.int .i64 x.m3) ∧ w.cell? ⟨b, 7, none⟩ = some (.int .i64 x.m4) ∧ w.cell? ⟨b, 8, none⟩ = some (.int .i64 x.m5) ∧ w.cell? ⟨b, 9, none⟩ = some (.int .i64 x.m6) ∧ w.cell? ⟨b, 10, none⟩ = some (.int .i64 x.m7) := ⟨(eight_at (xs := x.cs) a 0).1, (eight_at (xs := x.cs) a 1).1, (eight_at (xs := x.cs) a 2).1, (eight_at (xs := x.cs) a 3).1, (eight_at (xs := x.cs) a 4).1, (eight_at (xs := x.cs) a 5).1, (eight_at (xs := x.cs) a 6).1, (eight_at (xs := x.cs) a 7).1, (eight_at (xs := x.cs) a 8).1, (eight_at (xs := x.cs) a 9).1, (eight_at (xs := x.cs) a 10).1⟩
set_option maxRecDepth 100000 in
set_option maxHeartbeats 16000000 in
theorem filled_any (fv : Nat) (cap : Array Value) (HCF : ∀ (args : Array Value) (w : World), (callFunc fv args).run Tryz.prog w = .ok (.enter fv args) w) (vm : Value) (ns : List Ino) (ds : List Den) (ts : List Th) (w : World) (hm : RdIm w vm ns ds) (hn : ns.length ≤ 1048576) (hl : ds.length ≤ 4096) (hts : ts.length = ns.length)
    (hk : ∀ k (h : k < ts.length) (h2 : k < ns.length), ts[k].kind = ns[k].kind ∧ ts[k].links = ns[k].links)
    (LP : ∀ w1, Below w.heap.size w w1 → ∀ k (h : k < ts.length) (h2 : k < ns.length), ∀ x, x = ns[k] → Calls Tryz.prog fv (#[.int .i64 (k : Int), .agg #[.int .i64 x.kind, .int .i64 x.size, .int .i64 x.links, .int .i64 x.m0, .int .i64 x.m1, .int .i64 x.m2, .int .i64 x.m3, .int .i64 x.m4, .int .i64 x.m5, .int .i64 x.m6, .int .i64 x.m7]] ++ cap) w1 fun e w' => ∃ v', e = .returned v' ∧ Row w' 3 1 w1.heap.size w'.heap.size v' ts[k].pages.length (ints ts[k].pages) ∧ Below w1.heap.size w1 w') :
    Calls Tryz.prog 112 #[vm, .func (.func fv) #[] cap] w fun e w' => ∃ v', e = .returned v' ∧ RowMd w' w.heap.size w'.heap.size v' ts ds ∧ Below w.heap.size w w' := by
  obtain ⟨vI, vD, rfl, hI, hD⟩ := hm
  obtain ⟨aI, cI, rfl, -, hc⟩ := hI.shape
  obtain ⟨aD, cD, rfl, -, -⟩ := hD.shape
  have LPH := hideIt LP
  have HK := hideIt hk
  have HT := hideIt hts
  have HC := hideIt hc
  have HD := hideIt hD
  clear LP hk hc hD hI hts
  obtain ⟨W0, hW⟩ : ∃ W0, W0 = (w.alloc (.cells #[.slice aI ns.length cI, .slice aD ds.length cD] 98)).alloc (.cells #[.slice none 0 0, .slice none 0 0] 33) := ⟨_, rfl⟩
  have hzW : W0.heap.size = w.heap.size + 1 + 1 := by rw [hW]; simp
  have CI : Hid (∀ w', Below W0.heap.size W0 w' → w'.cell? ⟨w.heap.size, 0, none⟩ = some (.slice aI ns.length cI) ∧ w'.cell? ⟨w.heap.size, 1, none⟩ = some (.slice aD ds.length cD)) := fun w' hb => by
    have : w'.heap[w.heap.size]? = some (.cells #[.slice aI ns.length cI, .slice aD ds.length cD] 98 (0, 0)) := (hb.block _ (by omega)).trans (by rw [hW]; exact at_old (at_new rfl))
    exact ⟨(two_cells this).1, (two_cells this).2.1⟩
  have CR : Hid (∀ w', Below W0.heap.size W0 w' → w'.heap[w.heap.size + 1]? = some (.cells #[.slice none 0 0, .slice none 0 0] 33 (0, 0))) := fun w' hb => (hb.block _ (by omega)).trans (by
    rw [hW]
    have := at_new (w := w.alloc (.cells #[.slice aI ns.length cI, .slice aD ds.length cD] 98)) (o := .cells #[.slice none 0 0, .slice none 0 0] 33) rfl
    rw [World.size_alloc] at this
    exact this)
  have BW : Hid (Below w.heap.size w W0) := by rw [hW]; exact ((Below.refl _ _).alloc (Nat.le_refl _) _).alloc (by simp) _
  have hz1 : w.heap.size < W0.heap.size := by omega
  have hz2 : w.heap.size + 1 < W0.heap.size := by omega
  clear hzW
  obtain ⟨x0, x1⟩ := CI.out W0 (Below.refl _ _)
  have RD := hideIt (Rd.below HD.out BW.out)
  go_enter Tryz.func112, Tryz.ntmps112
  go_wp2_with fail
  rw [← hW]
  clear hW
  refine (cloneDen_any _ ds W0 RD.out hl).mono ?_
  rintro e W ⟨vN, rfl, hrN, hbN⟩
  obtain ⟨-, aN, cN, rfl, -⟩ := id hrN.rd
  have B0 := hideIt hbN
  have BWW := hideIt (below_trans BW.out hbN BW.out.size)
  have hz3 := hbN.size
  have START : Hid (RimV W (W.alloc (.cells #[.slice none 0 0, .slice aN ds.length cN] 33)) W0.heap.size W.heap.size (.slice none 0 0) (.slice aN ds.length cN) [] ds) := by
    have B : Below W.heap.size W (W.alloc (.cells #[.slice none 0 0, .slice aN ds.length cN] 33)) := (Below.refl _ _).alloc (Nat.le_refl _) _
    exact ⟨at_new rfl, World.ownsRow_nil _ _ _ _, fun k hk => absurd hk (by simp), fun j k hj => absurd hj (by simp), hrN.below B (Nat.le_refl _), B, Nat.le_refl _⟩
  have KI : Hid (∀ w', Below W.heap.size W w' → w'.cell? ⟨w.heap.size, 0, none⟩ = some (.slice aI ns.length cI) ∧ w'.cell? ⟨w.heap.size, 1, none⟩ = some (.slice aD ds.length cD)) := fun w' hb => CI.out w' (below_trans B0.out hb B0.out.size)
  have KR : Hid (∀ w', Below W.heap.size W w' → w'.heap[w.heap.size + 1]? = some (.cells #[.slice none 0 0, .slice none 0 0] 33 (0, 0))) := fun w' hb => CR.out w' (below_trans B0.out hb B0.out.size)
  clear hbN hrN x0 x1 RD HD CI CR
  obtain ⟨x0, x1⟩ := KI.out _ START.out.b
  go_wp2
  clear x0 x1
  obtain ⟨bM, hbM⟩ : ∃ bM, bM = W.heap.size := ⟨_, rfl⟩
  rw [← hbM] at START ⊢
  clear hbM
  go_loopg [15] ns.length (fun g i wr => ∃ k : Nat, k + g = ns.length ∧ i = .int .i64 k ∧ Hid (∃ vT us, us.map Prod.fst = ts.take k ∧ RimV W wr W0.heap.size bM vT (.slice aN ds.length cN) us ds))
  case atStart => exact ⟨0, by omega, rfl, _, [], rfl, START.out⟩
  case round =>
    obtain ⟨k, hk, rfl, J⟩ := hrel
    obtain ⟨vT, us, jm, ii⟩ := J.out
    have I := hideIt ii
    have JM := hideIt jm
    have JL : Hid (us.length = k) := by
      unfold Hid
      have q := congrArg List.length jm
      simp only [List.length_map, List.length_take] at q
      have := HT.out
      omega
    clear jm ii J START
    by_cases hlt : k < ns.length
    · obtain ⟨b, o, rfl, hbl, hcell⟩ := HC.out (by omega)
      obtain ⟨c0, c1, c2, c3, c4, c5, c6, c7, c8, c9, c10⟩ := hcell k hlt
      have BB := hideIt (below_trans BWW.out I.out.b BWW.out.size)
      have d0 := (BB.out.cell (p := ⟨b, o + k * 11, none⟩) hbl).trans c0
      have d1 := (BB.out.cell (p := ⟨b, o + k * 11 + 1, none⟩) hbl).trans c1
      have d2 := (BB.out.cell (p := ⟨b, o + k * 11 + 2, none⟩) hbl).trans c2
      have d3 := (BB.out.cell (p := ⟨b, o + k * 11 + 3, none⟩) hbl).trans c3
      have d4 := (BB.out.cell (p := ⟨b, o + k * 11 + 4, none⟩) hbl).trans c4
      have d5 := (BB.out.cell (p := ⟨b, o + k * 11 + 5, none⟩) hbl).trans c5
      have d6 := (BB.out.cell (p := ⟨b, o + k * 11 + 6, none⟩) hbl).trans c6
      have d7 := (BB.out.cell (p := ⟨b, o + k * 11 + 7, none⟩) hbl).trans c7
      have d8 := (BB.out.cell (p := ⟨b, o + k * 11 + 8, none⟩) hbl).trans c8
      have d9 := (BB.out.cell (p := ⟨b, o + k * 11 + 9, none⟩) hbl).trans c9
      have d10 := (BB.out.cell (p := ⟨b, o + k * 11 + 10, none⟩) hbl).trans c10
      have hlt2 : k < ts.length := by have := HT.out; omega
      have xk := HK.out k hlt2 hlt
      have LX0 := hideIt (fun w1 hb => LPH.out w1 hb k hlt2 hlt _ rfl)
      have TK : Hid (ts.take (k + 1) = ts.take k ++ [⟨ns[k].kind, ns[k].links, ts[k].pages⟩]) := by
        unfold Hid
        rw [List.take_add_one, List.getElem?_eq_getElem hlt2, ← xk.1, ← xk.2]
        rfl
      clear hcell c0 c1 c2 c3 c4 c5 c6 c7 c8 c9 c10 HC HK LPH
      clear xk
      generalize ts[k].pages = tp at *
      generalize ns[k] = x at *
      clear hlt2
      obtain ⟨X, hX⟩ : ∃ X, X = wr.alloc (.cells #[.int .i64 x.kind, .int .i64 x.size, .int .i64 x.links, .int .i64 x.m0, .int .i64 x.m1, .int .i64 x.m2, .int .i64 x.m3, .int .i64 x.m4, .int .i64 x.m5, .int .i64 x.m6, .int .i64 x.m7] 150) := ⟨_, rfl⟩
      have BX : Hid (Below wr.heap.size wr X) := by rw [hX]; exact (Below.refl _ _).alloc (Nat.le_refl _) _
      have MX : Hid (∀ w', Below X.heap.size X w' → w'.heap[wr.heap.size]? = some (.cells x.cs.toArray 150 (0, 0))) := fun w' hb => (hb.block _ (by rw [hX]; simp)).trans (by rw [hX]; exact at_new rfl)
      have IX := hideIt (I.out.below BX.out)
      have LX := hideIt (fun w1 (hb : Below X.heap.size X w1) => LX0.out w1 (below_trans BB.out (below_trans BX.out hb BX.out.size) BB.out.size))
      clear LX0
      have zX := IX.out.z
      have FAR : Hid (∀ w1 w2 v n l, Below X.heap.size X w1 → Row w2 3 1 w1.heap.size w2.heap.size v n (ints l) → ∀ u ∈ us, Apt u.2 v) := fun w1 w2 v n l hb hr u hu => by
        obtain ⟨j, hj, rfl⟩ := List.getElem_of_mem hu
        exact apt_far (own_block (IX.out.p j hj)) hr (.inl hb.size)
      obtain ⟨-, aT, cT, rfl, -⟩ := id (own_block I.out.t).rd
      generalize hnT : us.length = nT at *
      have LT : Hid (nT = k) := JL.out
      have LU := hideIt hnT
      clear hnT JL
      have KS : Hid (∀ w', Below X.heap.size X w' → w'.cell? ⟨bM, 0, none⟩ = some (.slice aT nT cT) ∧ w'.cell? ⟨wr.heap.size, 0, none⟩ = some (.int .i64 x.kind) ∧ w'.cell? ⟨wr.heap.size, 1, none⟩ = some (.int .i64 x.size) ∧ w'.cell? ⟨wr.heap.size, 2, none⟩ = some (.int .i64 x.links) ∧ w'.cell? ⟨wr.heap.size, 3, none⟩ = some (.int .i64 x.m0) ∧ w'.cell? ⟨wr.heap.size, 4, none⟩ = some (.int .i64 x.m1) ∧ w'.cell? ⟨wr.heap.size, 5, none⟩ = some (.int .i64 x.m2) ∧ w'.cell? ⟨wr.heap.size, 6, none⟩ = some (.int .i64 x.m3) ∧ w'.cell? ⟨wr.heap.size, 7, none⟩ = some (.int .i64 x.m4) ∧ w'.cell? ⟨wr.heap.size, 8, none⟩ = some (.int .i64 x.m5) ∧ w'.cell? ⟨wr.heap.size, 9, none⟩ = some (.int .i64 x.m6) ∧ w'.cell? ⟨wr.heap.size, 10, none⟩ = some (.int .i64 x.m7)) := fun w' hb => ⟨(two_cells (IX.out.below hb).m).1, ino_eleven (MX.out w' hb)⟩
      go_upto_region 5 with fail
      rw [← hX]
      clear hX d0 d1 d2 d3 d4 d5 d6 d7 d8 d9 d10
      refine wp_region_T 14 (fun w' => w'.cell? ⟨bM, 0, none⟩ = some (.slice aT nT cT) ∧ w'.cell? ⟨wr.heap.size, 0, none⟩ = some (.int .i64 x.kind) ∧ w'.cell? ⟨wr.heap.size, 1, none⟩ = some (.int .i64 x.size) ∧ w'.cell? ⟨wr.heap.size, 2, none⟩ = some (.int .i64 x.links) ∧ w'.cell? ⟨wr.heap.size, 3, none⟩ = some (.int .i64 x.m0) ∧ w'.cell? ⟨wr.heap.size, 4, none⟩ = some (.int .i64 x.m1) ∧ w'.cell? ⟨wr.heap.size, 5, none⟩ = some (.int .i64 x.m2) ∧ w'.cell? ⟨wr.heap.size, 6, none⟩ = some (.int .i64 x.m3) ∧ w'.cell? ⟨wr.heap.size, 7, none⟩ = some (.int .i64 x.m4) ∧ w'.cell? ⟨wr.heap.size, 8, none⟩ = some (.int .i64 x.m5) ∧ w'.cell? ⟨wr.heap.size, 9, none⟩ = some (.int .i64 x.m6) ∧ w'.cell? ⟨wr.heap.size, 10, none⟩ = some (.int .i64 x.m7)) (by kernel_rfl) (KS.out _ (Below.drew (Below.refl _ _))) (fun hS => ?_)
      refine wpAnyT_take (i := 0) (v := .pointer (some ⟨bM, 0, none⟩)) [0] rfl (by kernel_rfl) (fun _ _ _ h => h) hS rfl (fun w' hSw => by (try dsimp only at hSw); go_simp) ?_
      try simp only [Act.put]
      refine wpAnyT_take (i := 1) (v := .slice aT nT cT) [1] rfl (by kernel_rfl) (fun _ _ _ h => h) hS rfl (fun w' hSw => by (try dsimp only at hSw); go_simp) ?_
      try simp only [Act.put]
      refine wpAnyT_take (i := 2) (v := .pointer (some ⟨wr.heap.size, 0, none⟩)) [2] rfl (by kernel_rfl) (fun _ _ _ h => h) hS rfl (fun w' hSw => by (try dsimp only at hSw); go_simp) ?_
      try simp only [Act.put]
      refine wpAnyT_take (i := 3) (v := .int .i64 x.kind) [3] rfl (by kernel_rfl) (fun _ _ _ h => h) hS rfl (fun w' hSw => by (try dsimp only at hSw); go_simp) ?_
      try simp only [Act.put]
      refine wpAnyT_take (i := 4) (v := .pointer (some ⟨wr.heap.size, 2, none⟩)) [4] rfl (by kernel_rfl) (fun _ _ _ h => h) hS rfl (fun w' hSw => by (try dsimp only at hSw); go_simp) ?_
      try simp only [Act.put]
      refine wpAnyT_take (i := 5) (v := .int .i64 x.links) [5] rfl (by kernel_rfl) (fun _ _ _ h => h) hS rfl (fun w' hSw => by (try dsimp only at hSw); go_simp) ?_
      try simp only [Act.put]
      refine wpAnyT_take (i := 6) (v := .func (.func fv) #[] cap) [6] rfl (by kernel_rfl) (fun _ _ _ h => h) hS rfl (fun w' hSw => by (try dsimp only at hSw); go_simp) ?_
      try simp only [Act.put]
      refine wpAnyT_take (i := 7) (v := .int .i64 (k : Int)) [7] rfl (by kernel_rfl) (fun _ _ _ h => h) hS rfl (fun w' hSw => by (try dsimp only at hSw); go_simp) ?_
      try simp only [Act.put]
      refine wpAnyT_take (i := 8) (v := .agg #[.int .i64 x.kind, .int .i64 x.size, .int .i64 x.links, .int .i64 x.m0, .int .i64 x.m1, .int .i64 x.m2, .int .i64 x.m3, .int .i64 x.m4, .int .i64 x.m5, .int .i64 x.m6, .int .i64 x.m7]) [8] rfl (by kernel_rfl) (fun _ _ _ h => h) hS rfl (fun w' hSw => by (try dsimp only at hSw); go_simp) ?_
      try simp only [Act.put]
      clear hS
      refine wpAnyT_one (i := 9) rfl (by kernel_rfl) (fun K hK => ?_)
      go_simp
      refine (LX.out _ (Below.drew (Below.refl _ _))).mono ?_
      rintro e w3 ⟨v3, rfl, hr3, hb3⟩
      have B3 : Hid (Below X.heap.size X w3) := bel2 (Below.drew (Below.refl _ _)) hb3
      obtain ⟨-, a3, c3, rfl, -⟩ := id hr3.rd
      refine hK.out _ _ (fun _ => KS.out w3 B3.out) ?_
      clear hK K
      try simp only [Act.put]
      have B4 : Hid (Below X.heap.size X (w3.alloc (.cells #[.int .i64 x.kind, .int .i64 x.links, .slice a3 tp.length c3] 102))) := B3.out.alloc B3.out.size _
      have J4 := hideIt (IX.out.below B4.out)
      have AP := hideIt (FAR.out _ _ _ _ _ (Below.drew (Below.refl _ _)) hr3)
      have RB := hideIt (rd_thing w3 ⟨x.kind, x.links, tp⟩ (.slice a3 tp.length c3))
      have PG := hideIt (((hr3.below ((Below.refl _ _).alloc (Nat.le_refl _) (.cells #[.int .i64 x.kind, .int .i64 x.links, .slice a3 tp.length c3] 102)) (Nat.le_refl _)).wide zX (Nat.le_refl _)).1)
      clear hr3 hb3 FAR
      refine wpAnyT_one (i := 10) rfl (by kernel_rfl) (fun K hK => ?_)
      go_simp
      refine hK.out _ _ (fun _ => KS.out w3 B3.out) ?_
      clear hK K
      try simp only [Act.put]
      refine wpAnyT_one (i := 11) rfl (by kernel_rfl) (fun K hK => ?_)
      go_simp
      refine hK.out _ _ (fun _ => KS.out _ B4.out) ?_
      clear hK K
      try simp only [Act.put]
      refine wpAnyT_one (i := 12) rfl (by kernel_rfl) (fun K hK => ?_)
      refine step_append_rd rfl (.tmp 21) (.tmp 31) 30 rfl W.heap.size 102 (.agg #[.int .i64 0, .int .i64 0, .slice none 0 0]) 3 40 Tryz.underlying30 infoThing rfl (by decide) _ _ _ rfl J4.out.t _ 1 _ rfl RB.out (thv_ones _ _ _ _) (by rw [LU.out, LT.out]; unfold maxLen; omega) (by rw [LU.out, LT.out]; omega) J4.out.z ?_
      intro vM wM hownM hgrM
      obtain ⟨-, aM, cM, rfl, -⟩ := id (own_block hownM).rd
      obtain ⟨BO1, BO2⟩ := J4.out.boxes hgrM
      obtain ⟨m0, m1, m2, m3⟩ := two_cells (BO2 _ _ _ _ J4.out.m th_mdT)
      have KM : Hid (wM.cell? ⟨bM, 0, none⟩ = some (.slice aT nT cT) ∧ wM.cell? ⟨wr.heap.size, 0, none⟩ = some (.int .i64 x.kind) ∧ wM.cell? ⟨wr.heap.size, 1, none⟩ = some (.int .i64 x.size) ∧ wM.cell? ⟨wr.heap.size, 2, none⟩ = some (.int .i64 x.links) ∧ wM.cell? ⟨wr.heap.size, 3, none⟩ = some (.int .i64 x.m0) ∧ wM.cell? ⟨wr.heap.size, 4, none⟩ = some (.int .i64 x.m1) ∧ wM.cell? ⟨wr.heap.size, 5, none⟩ = some (.int .i64 x.m2) ∧ wM.cell? ⟨wr.heap.size, 6, none⟩ = some (.int .i64 x.m3) ∧ wM.cell? ⟨wr.heap.size, 7, none⟩ = some (.int .i64 x.m4) ∧ wM.cell? ⟨wr.heap.size, 8, none⟩ = some (.int .i64 x.m5) ∧ wM.cell? ⟨wr.heap.size, 9, none⟩ = some (.int .i64 x.m6) ∧ wM.cell? ⟨wr.heap.size, 10, none⟩ = some (.int .i64 x.m7)) := ⟨m0, ino_eleven (BO2 _ _ _ _ (MX.out _ B4.out) th_inT)⟩
      have G := hideIt (J4.out.grow (⟨x.kind, x.links, tp⟩, .slice a3 tp.length c3) PG.out (fun j hj => AP.out _ (List.getElem_mem hj)) hownM hgrM).2
      refine hK.out _ _ (fun _ => KM.out) ?_
      clear hK K hownM hgrM BO1 BO2 KS
      try simp only [Act.put]
      refine wpAnyT_one (i := 13) rfl (by kernel_rfl) (fun K hK => ?_)
      go_simp
      refine hK.out _ _ (fun _ => KM.out) ?_
      clear hK K
      try simp only [Act.put]
      refine wpAnyT_one (i := 14) rfl (by kernel_rfl) (fun K hK => ?_)
      go_simp
      refine hK.out _ _ (fun h => absurd rfl h) ?_
      clear hK K
      try simp only [Act.put]
      refine wpAnyT_done (by kernel_rfl) ?_ _
      go_wp2
      go_roundg (ns.length - (k + 1))
      case measure => omega
      case rel => exact ⟨k + 1, by omega, by go_num, _, _, by rw [List.map_append, JM.out, TK.out]; rfl, G.out⟩
    · obtain rfl : k = ns.length := by omega
      have JM2 : Hid (us.map Prod.fst = ts) := by
        have q := JM.out
        rw [← HT.out, List.take_length] at q
        exact q
      have BB := hideIt (below_trans BWW.out I.out.b BWW.out.size)
      have R0 := hideIt (KR.out wr I.out.b)
      have hzr := I.out.z
      obtain ⟨n0, n1, _, _⟩ := two_cells I.out.m
      obtain ⟨r0, r1, r2, r3⟩ := two_cells R0.out
      obtain ⟨-, aT, cT, rfl, -⟩ := id (own_block I.out.t).rd
      have RI : Hid (∀ u0 u1, RowMd ((wr.setCell ⟨w.heap.size + 1, 0, none⟩ u0).setCell ⟨w.heap.size + 1, 1, none⟩ u1) w.heap.size ((wr.setCell ⟨w.heap.size + 1, 0, none⟩ u0).setCell ⟨w.heap.size + 1, 1, none⟩ u1).heap.size (.agg #[.slice aT us.length cT, .slice aN ds.length cN]) ts ds) := fun u0 u1 => by
        have OF : Outside (w.heap.size + 1) (w.heap.size + 1 + 1) wr ((wr.setCell ⟨w.heap.size + 1, 0, none⟩ u0).setCell ⟨w.heap.size + 1, 1, none⟩ u1) := by
          repeat (refine Outside.setCell ?_ (by simp only; omega) (by simp only; omega) _)
          exact Outside.refl _ _ _
        have q := OF.size
        have OU : OwU wr W.heap.size wr.heap.size (.slice aT us.length cT) us := ⟨own_block I.out.t, fun k hk => own_block (I.out.p k hk), I.out.ap⟩
        exact ⟨_, _, W.heap.size, wr.heap.size, W0.heap.size, W.heap.size, rfl, ⟨us, JM2.out, OU.outside OF (.inr (by omega)) (Nat.le_refl _)⟩, I.out.d.outside OF (.inr (by omega)) hzr, by omega, by omega, by omega, by omega, .inr (Nat.le_refl _)⟩
      generalize us.length = nT at *
      clear HC JM JL I HK LPH HT JM2
      go_wp2
      have S1 := two_set0 R0.out (.slice aT nT cT)
      have S2 : ((wr.setCell ⟨w.heap.size + 1, 0, none⟩ (.slice aT nT cT)).setCell ⟨w.heap.size + 1, 1, none⟩ (.slice aN ds.length cN)).heap[w.heap.size + 1]? = some (.cells #[.slice aT nT cT, .slice aN ds.length cN] 33 (0, 0)) := eight_set (xs := [.slice aT nT cT, .slice none 0 0]) S1 1 _
      obtain ⟨s0, s1, -, -⟩ := two_cells S2
      refine bodyPost_ret (v := .agg #[.slice aT nT cT, .slice aN ds.length cN]) (by simp [results, Tryz.results112, go_sem, s0, s1]) rfl ?_
      exact ⟨_, rfl, RI.out _ _, (BB.out.setCell (by simp only; omega) _).setCell (by simp only; omega) _⟩
end Go.Proofs.YtmeiionabonhnaaGreatDoor
