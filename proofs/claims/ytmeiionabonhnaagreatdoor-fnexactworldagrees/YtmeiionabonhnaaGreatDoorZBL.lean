/- Several texts laid together: MdG, MdJ, PeA. -/
import Derived.Test.YtmeiionabonhnaaGreatDoorZBK
import Derived.Test.YtmeiionabonhnaaGreatDoorZBD
import Derived.Test.YtmeiionabonhnaaGreatDoorZAF
import Derived.Test.YtmeiionabonhnaaGreatDoorZAX
namespace Go.Proofs.YtmeiionabonhnaaGreatDoor
open Go.RowKit
set_option maxRecDepth 100000 in
set_option maxHeartbeats 16000000 in
theorem l12Of_any (v vm : Value) (ws : List Int) (ps : List St) (es : List Int) (qs : List Se) (ns : List Ino) (ds : List Den) (w : World) (hd : RdDev w v ws ps es qs) (hP : pmB ws ps = true) (hB : blkB es qs = true) (hm : RdIm w vm ns ds) (hn : ns.length ≤ 1048576) (hl : ds.length ≤ 1048576) (hx : ∀ k (h : k < ns.length), inoB ns[k] = true) :
    Calls Tryz.prog 49 #[v, vm] w fun e w' => ∃ v', e = .returned v' ∧ OwMd w' w.heap.size w'.heap.size v' (ofL ws ps es qs ns) ds ∧ Below w.heap.size w w' := by
  have LP := hideIt (fun w1 (hb : Below w.heap.size w w1) x (h : inoB x = true) => l08Pages_any v ws ps es qs x w1 (hd.below hb) hP hB h)
  obtain ⟨dW, eW, dP, eP, dS, eS, dQ, eQ, rfl, -, -⟩ := hd.form
  obtain ⟨vI, vD, rfl, hI, hD⟩ := hm
  obtain ⟨aI, cI, rfl, -, hc⟩ := hI.shape
  obtain ⟨aD, cD, rfl, -, -⟩ := hD.shape
  have HX := hideIt hx
  have HC := hideIt hc
  have HD := hideIt hD
  clear hd hP hB hx hc hD hI
  obtain ⟨W, hW⟩ : ∃ W, W = ((w.alloc (.cells #[.slice dW ws.length eW, .slice dP ps.length eP, .slice dS es.length eS, .slice dQ qs.length eQ] 71)).alloc (.cells #[.slice aI ns.length cI, .slice aD ds.length cD] 98)).alloc (.cells #[.slice none 0 0, .slice none 0 0] 33) := ⟨_, rfl⟩
  have hzW : W.heap.size = w.heap.size + 1 + 1 + 1 := by rw [hW]; simp
  have CD : Hid (∀ w', Below W.heap.size W w' → w'.cell? ⟨w.heap.size, 0, none⟩ = some (.slice dW ws.length eW) ∧ w'.cell? ⟨w.heap.size, 1, none⟩ = some (.slice dP ps.length eP) ∧ w'.cell? ⟨w.heap.size, 2, none⟩ = some (.slice dS es.length eS) ∧ w'.cell? ⟨w.heap.size, 3, none⟩ = some (.slice dQ qs.length eQ)) := fun w' hb => by
    have : w'.heap[w.heap.size]? = some (.cells #[.slice dW ws.length eW, .slice dP ps.length eP, .slice dS es.length eS, .slice dQ qs.length eQ] 71 (0, 0)) := (hb.block _ (by omega)).trans (by rw [hW]; exact at_old (at_old (at_new rfl)))
    obtain ⟨x0, x1, x2, x3, -, -, -, -⟩ := four_cells this
    exact ⟨x0, x1, x2, x3⟩
  have CI : Hid (∀ w', Below W.heap.size W w' → w'.cell? ⟨w.heap.size + 1, 0, none⟩ = some (.slice aI ns.length cI) ∧ w'.cell? ⟨w.heap.size + 1, 1, none⟩ = some (.slice aD ds.length cD)) := fun w' hb => by
    have : w'.heap[w.heap.size + 1]? = some (.cells #[.slice aI ns.length cI, .slice aD ds.length cD] 98 (0, 0)) := (hb.block _ (by omega)).trans (by
      rw [hW]
      have := at_new (w := w.alloc (.cells #[.slice dW ws.length eW, .slice dP ps.length eP, .slice dS es.length eS, .slice dQ qs.length eQ] 71)) (o := .cells #[.slice aI ns.length cI, .slice aD ds.length cD] 98) rfl
      rw [World.size_alloc] at this
      exact at_old this)
    exact ⟨(two_cells this).1, (two_cells this).2.1⟩
  have CR : Hid (∀ w', Below W.heap.size W w' → w'.heap[w.heap.size + 1 + 1]? = some (.cells #[.slice none 0 0, .slice none 0 0] 33 (0, 0))) := fun w' hb => (hb.block _ (by omega)).trans (by
    rw [hW]
    have := at_new (w := (w.alloc (.cells #[.slice dW ws.length eW, .slice dP ps.length eP, .slice dS es.length eS, .slice dQ qs.length eQ] 71)).alloc (.cells #[.slice aI ns.length cI, .slice aD ds.length cD] 98)) (o := .cells #[.slice none 0 0, .slice none 0 0] 33) rfl
    simp only [World.size_alloc] at this
    exact this)
  have BW : Hid (Below w.heap.size w W) := by rw [hW]; exact (((Below.refl _ _).alloc (Nat.le_refl _) _).alloc (by simp) _).alloc (by simp; omega) _
  obtain ⟨x0, x1⟩ := CI.out W (Below.refl _ _)
  obtain ⟨V, hV⟩ : ∃ V, V = (W.alloc (.cells #[] 102)).alloc (.cells #[] 140) := ⟨_, rfl⟩
  have hzV : V.heap.size = W.heap.size + 1 + 1 := by rw [hV]; simp
  have BV : Hid (Below W.heap.size W V) := by rw [hV]; exact ((Below.refl _ _).alloc (Nat.le_refl _) _).alloc (by simp) _
  have OT : Hid (V.ownsRow W.heap.size 102 3 (.slice (some ⟨W.heap.size, 0, none⟩) 0 0) 0 []) := by
    have q := World.ownsRow_lit (e := 102) (size := 3) (base := W.heap.size) W #[] 0 (Nat.le_refl _) (by simp [maxLen]) (by simp)
    rw [hV]
    exact ((own_block q).below ((Below.refl _ (W.alloc (.cells #[] 102))).alloc (Nat.le_refl _) (.cells #[] 140)) (Nat.le_refl _)).1
  have OD : Hid (V.ownsRow W.heap.size 140 3 (.slice (some ⟨W.heap.size + 1, 0, none⟩) 0 0) 0 []) := by
    have q := World.ownsRow_lit (e := 140) (size := 3) (base := W.heap.size) (W.alloc (.cells #[] 102)) #[] 0 (by simp) (by simp [maxLen]) (by simp)
    rw [World.size_alloc] at q
    rw [hV]
    exact q
  have RD := hideIt (Rd.below HD.out (below_trans BW.out BV.out BW.out.size))
  obtain ⟨y0, y1⟩ := CI.out V BV.out
  have zz : W.heap.size ≤ V.heap.size := by omega
  have OT2 : Hid (V.ownsRow W.heap.size 102 3 (.slice (some ⟨w.heap.size + 1 + 1 + 1, 0, none⟩) 0 0) 0 []) := by rw [← hzW]; exact OT.out
  have OD2 : Hid (V.ownsRow W.heap.size 140 3 (.slice (some ⟨w.heap.size + 1 + 1 + 1 + 1, 0, none⟩) 0 0) 0 []) := by rw [← hzW]; exact OD.out
  have hd0 : 0 + ds.length ≤ 1048576 := by omega
  clear OT OD hzV
  have hz1 : w.heap.size < W.heap.size := by omega
  have hz2 : w.heap.size + 1 < W.heap.size := by omega
  have hz3 : w.heap.size + 1 + 1 < W.heap.size := by omega
  clear hzW
  go_enter Tryz.func49, Tryz.ntmps49
  go_wp2_with (at_builtin; rw [← hW, ← hV]; refine wpList_append_rd _ rfl (.tmp 9) (.tmp 11) 31 rfl W.heap.size 140 (.agg #[.int .i64 0, .string ⟨#[]⟩, .int .i64 0]) 3 32 Tryz.underlying31 infoDen rfl (by decide) _ _ _ rfl OD2.out _ ds.length _ rfl RD.out (dens_ones _) (by unfold maxLen; omega) (by omega) zz ?_; intro vN wN hownN hgrN; have PB : Hid (Below W.heap.size W wN) := (BV.out.grown hgrN zz (fun q hq => (OD2.out.lt q hq).1)); have PD := hideIt (show wN.ownsRow W.heap.size 140 3 vN ds.length (dens ds) from (by simpa using hownN)); have PT := hideIt (Row.apart (own_block OT2.out) (own_block OD2.out) (Ne.symm de_thT) hgrN).1; obtain ⟨-, aN, cN, rfl, -⟩ := id (own_block PD.out).rd; clear hownN hgrN)
  have START := hideIt (RimT.startE PD.out PT.out PB.out)
  clear PD PT PB OT2 OD2 RD x0 x1 y0 y1 hd0 hV BV zz
  generalize w.heap.size + 1 + 1 + 1 = bT at *
  generalize wN.heap.size = bM at *
  go_loopg [6] ns.length (fun g i wr => ∃ k : Nat, k + g = ns.length ∧ i = .int .i64 k ∧ Hid (∃ vT us, us.map Prod.fst = ofL ws ps es qs (ns.take k) ∧ RimT W wr bM vT (.slice aN ds.length cN) us ds))
  case atStart => exact ⟨0, by omega, rfl, _, [], rfl, START.out⟩
  case round =>
    obtain ⟨k, hk, rfl, J⟩ := hrel
    obtain ⟨vT, us, jm, ii⟩ := J.out
    have I := hideIt ii
    have JM := hideIt jm
    have JL : Hid (us.length = k) := by
      unfold Hid
      have q := congrArg List.length jm
      simp only [List.length_map, ofL, List.length_take] at q
      omega
    clear jm ii J START
    obtain ⟨x0, x1⟩ := CI.out wr I.out.b
    by_cases hlt : k < ns.length
    · obtain ⟨b, o, rfl, hbl, hcell⟩ := HC.out (by omega)
      obtain ⟨c0, c1, c2, c3, c4, c5, c6, c7, c8, c9, c10⟩ := hcell k hlt
      have BB := hideIt (below_trans BW.out I.out.b BW.out.size)
      have d0 := (BB.out.cell (p := ⟨b, o + k * 11, none⟩) hbl).trans c0
      have d1 := (BB.out.cell (p := ⟨b, o + k * 11 + 1, none⟩) hbl).trans c1
      have d2 := (BB.out.cell (p := ⟨b, o + k * 11 + 2, none⟩) hbl).trans c2
      have d3 := (BB.out.cell (p := ⟨b, o + k * 11 + 3, none⟩) hbl).trans c3
      have d4 := (BB.out.cell (p := ⟨b, o + k * 11 + 4, none⟩) hbl).trans c4
      have d5 := (BB.out.cell (p := ⟨b, o + k * 11 + 5, none⟩) hbl).trans c5
      have d6 := (BB.out.cell (p := ⟨b, o + k * 11 + 6, none⟩) hbl).trans c6
      have d7 := (BB.out.cell (p := ⟨b, o + k * 11 + 7, none⟩) hbl).trans c7
      have d8 := (BB.out.cell (p := ⟨b, o + k * 11 + 8, none⟩) hbl).trans c8
      have d9 := (BB.out.cell (p := ⟨b, o + k * 11 + 9, none⟩) hbl).trans c9
      have d10 := (BB.out.cell (p := ⟨b, o + k * 11 + 10, none⟩) hbl).trans c10
      have xk := HX.out k hlt
      have TK := hideIt (ofL_take (ws := ws) (ps := ps) (es := es) (qs := qs) hlt)
      clear hcell c0 c1 c2 c3 c4 c5 c6 c7 c8 c9 c10 HC HX HD
      generalize ns[k] = x at *
      obtain ⟨X, hX⟩ : ∃ X, X = wr.alloc (.cells #[.int .i64 x.kind, .int .i64 x.size, .int .i64 x.links, .int .i64 x.m0, .int .i64 x.m1, .int .i64 x.m2, .int .i64 x.m3, .int .i64 x.m4, .int .i64 x.m5, .int .i64 x.m6, .int .i64 x.m7] 150) := ⟨_, rfl⟩
      have BX : Hid (Below wr.heap.size wr X) := by rw [hX]; exact (Below.refl _ _).alloc (Nat.le_refl _) _
      have MX : Hid (∀ w', Below X.heap.size X w' → w'.heap[wr.heap.size]? = some (.cells x.cs.toArray 150 (0, 0))) := fun w' hb => (hb.block _ (by rw [hX]; simp)).trans (by rw [hX]; exact at_new rfl)
      have IX := hideIt (I.out.below BX.out)
      have LX : Hid (∀ w1, Below X.heap.size X w1 → Calls Tryz.prog 95 #[.agg #[.slice dW ws.length eW, .slice dP ps.length eP, .slice dS es.length eS, .slice dQ qs.length eQ], .agg #[.int .i64 x.kind, .int .i64 x.size, .int .i64 x.links, .int .i64 x.m0, .int .i64 x.m1, .int .i64 x.m2, .int .i64 x.m3, .int .i64 x.m4, .int .i64 x.m5, .int .i64 x.m6, .int .i64 x.m7]] w1 fun e w' => ∃ v', e = .returned v' ∧ Row w' 3 1 w1.heap.size w'.heap.size v' (pgL ws ps es qs x x.size.toNat).length (ints (pgL ws ps es qs x x.size.toNat)) ∧ Below w1.heap.size w1 w') := fun w1 hb => LP.out w1 (below_trans BB.out (below_trans BX.out hb BX.out.size) BB.out.size) x xk
      have zX := IX.out.z
      obtain ⟨-, aT, cT, rfl, -⟩ := id (own_block I.out.t).rd
      generalize hnT : us.length = nT at *
      have LT : Hid (nT = k) := JL.out
      have LU := hideIt hnT
      clear hnT JL
      have KA : Hid (∀ w', w'.heap[wr.heap.size]? = some (.cells x.cs.toArray 150 (0, 0)) → Below W.heap.size W w' → w'.cell? ⟨w.heap.size, 0, none⟩ = some (.slice dW ws.length eW) ∧ w'.cell? ⟨w.heap.size, 1, none⟩ = some (.slice dP ps.length eP) ∧ w'.cell? ⟨w.heap.size, 2, none⟩ = some (.slice dS es.length eS) ∧ w'.cell? ⟨w.heap.size, 3, none⟩ = some (.slice dQ qs.length eQ) ∧ w'.cell? ⟨wr.heap.size, 0, none⟩ = some (.int .i64 x.kind) ∧ w'.cell? ⟨wr.heap.size, 1, none⟩ = some (.int .i64 x.size) ∧ w'.cell? ⟨wr.heap.size, 2, none⟩ = some (.int .i64 x.links) ∧ w'.cell? ⟨wr.heap.size, 3, none⟩ = some (.int .i64 x.m0) ∧ w'.cell? ⟨wr.heap.size, 4, none⟩ = some (.int .i64 x.m1) ∧ w'.cell? ⟨wr.heap.size, 5, none⟩ = some (.int .i64 x.m2) ∧ w'.cell? ⟨wr.heap.size, 6, none⟩ = some (.int .i64 x.m3) ∧ w'.cell? ⟨wr.heap.size, 7, none⟩ = some (.int .i64 x.m4) ∧ w'.cell? ⟨wr.heap.size, 8, none⟩ = some (.int .i64 x.m5) ∧ w'.cell? ⟨wr.heap.size, 9, none⟩ = some (.int .i64 x.m6) ∧ w'.cell? ⟨wr.heap.size, 10, none⟩ = some (.int .i64 x.m7)) := fun w' a d => ⟨(CD.out w' d).1, (CD.out w' d).2.1, (CD.out w' d).2.2.1, (CD.out w' d).2.2.2, (eight_at (xs := x.cs) a 0).1, (eight_at (xs := x.cs) a 1).1, (eight_at (xs := x.cs) a 2).1, (eight_at (xs := x.cs) a 3).1, (eight_at (xs := x.cs) a 4).1, (eight_at (xs := x.cs) a 5).1, (eight_at (xs := x.cs) a 6).1, (eight_at (xs := x.cs) a 7).1, (eight_at (xs := x.cs) a 8).1, (eight_at (xs := x.cs) a 9).1, (eight_at (xs := x.cs) a 10).1⟩
      have KP : Hid (∀ w', Below X.heap.size X w' → w'.cell? ⟨w.heap.size, 0, none⟩ = some (.slice dW ws.length eW) ∧ w'.cell? ⟨w.heap.size, 1, none⟩ = some (.slice dP ps.length eP) ∧ w'.cell? ⟨w.heap.size, 2, none⟩ = some (.slice dS es.length eS) ∧ w'.cell? ⟨w.heap.size, 3, none⟩ = some (.slice dQ qs.length eQ) ∧ w'.cell? ⟨wr.heap.size, 0, none⟩ = some (.int .i64 x.kind) ∧ w'.cell? ⟨wr.heap.size, 1, none⟩ = some (.int .i64 x.size) ∧ w'.cell? ⟨wr.heap.size, 2, none⟩ = some (.int .i64 x.links) ∧ w'.cell? ⟨wr.heap.size, 3, none⟩ = some (.int .i64 x.m0) ∧ w'.cell? ⟨wr.heap.size, 4, none⟩ = some (.int .i64 x.m1) ∧ w'.cell? ⟨wr.heap.size, 5, none⟩ = some (.int .i64 x.m2) ∧ w'.cell? ⟨wr.heap.size, 6, none⟩ = some (.int .i64 x.m3) ∧ w'.cell? ⟨wr.heap.size, 7, none⟩ = some (.int .i64 x.m4) ∧ w'.cell? ⟨wr.heap.size, 8, none⟩ = some (.int .i64 x.m5) ∧ w'.cell? ⟨wr.heap.size, 9, none⟩ = some (.int .i64 x.m6) ∧ w'.cell? ⟨wr.heap.size, 10, none⟩ = some (.int .i64 x.m7)) := fun w' hb => KA.out w' (MX.out w' hb) (IX.out.below hb).b
      have nb : ¬ wr.heap.size = bM := by have := I.out.lt; omega
      have L9 : nT + 1 ≤ 1048577 := by have := LT.out; omega
      obtain ⟨n0, n1, n2, n3⟩ := two_cells IX.out.m
      obtain ⟨p0, p1, p2, p3, e0, e1, e2, e3, e4, e5, e6, e7, e8, e9, e10⟩ := KP.out X (Below.refl _ _)
      have KS : Hid (∀ w', Below X.heap.size X w' → (w'.cell? ⟨bM, 0, none⟩ = some (.slice aT nT cT)) ∧ w'.cell? ⟨w.heap.size, 0, none⟩ = some (.slice dW ws.length eW) ∧ w'.cell? ⟨w.heap.size, 1, none⟩ = some (.slice dP ps.length eP) ∧ w'.cell? ⟨w.heap.size, 2, none⟩ = some (.slice dS es.length eS) ∧ w'.cell? ⟨w.heap.size, 3, none⟩ = some (.slice dQ qs.length eQ) ∧ w'.cell? ⟨wr.heap.size, 0, none⟩ = some (.int .i64 x.kind) ∧ w'.cell? ⟨wr.heap.size, 1, none⟩ = some (.int .i64 x.size) ∧ w'.cell? ⟨wr.heap.size, 2, none⟩ = some (.int .i64 x.links) ∧ w'.cell? ⟨wr.heap.size, 3, none⟩ = some (.int .i64 x.m0) ∧ w'.cell? ⟨wr.heap.size, 4, none⟩ = some (.int .i64 x.m1) ∧ w'.cell? ⟨wr.heap.size, 5, none⟩ = some (.int .i64 x.m2) ∧ w'.cell? ⟨wr.heap.size, 6, none⟩ = some (.int .i64 x.m3) ∧ w'.cell? ⟨wr.heap.size, 7, none⟩ = some (.int .i64 x.m4) ∧ w'.cell? ⟨wr.heap.size, 8, none⟩ = some (.int .i64 x.m5) ∧ w'.cell? ⟨wr.heap.size, 9, none⟩ = some (.int .i64 x.m6) ∧ w'.cell? ⟨wr.heap.size, 10, none⟩ = some (.int .i64 x.m7)) := fun w' hb => ⟨(two_cells (IX.out.below hb).m).1, KP.out w' hb⟩
      go_upto_region 6 with fail
      rw [← hX]
      clear hX d0 d1 d2 d3 d4 d5 d6 d7 d8 d9 d10 x0 x1 p0 p1 p2 p3 e0 e1 e2 e3 e4 e5 e6 e7 e8 e9 e10 n0 n1 n2 n3
      refine wp_region_T 13 (fun w' => (w'.cell? ⟨bM, 0, none⟩ = some (.slice aT nT cT)) ∧ w'.cell? ⟨w.heap.size, 0, none⟩ = some (.slice dW ws.length eW) ∧ w'.cell? ⟨w.heap.size, 1, none⟩ = some (.slice dP ps.length eP) ∧ w'.cell? ⟨w.heap.size, 2, none⟩ = some (.slice dS es.length eS) ∧ w'.cell? ⟨w.heap.size, 3, none⟩ = some (.slice dQ qs.length eQ) ∧ w'.cell? ⟨wr.heap.size, 0, none⟩ = some (.int .i64 x.kind) ∧ w'.cell? ⟨wr.heap.size, 1, none⟩ = some (.int .i64 x.size) ∧ w'.cell? ⟨wr.heap.size, 2, none⟩ = some (.int .i64 x.links) ∧ w'.cell? ⟨wr.heap.size, 3, none⟩ = some (.int .i64 x.m0) ∧ w'.cell? ⟨wr.heap.size, 4, none⟩ = some (.int .i64 x.m1) ∧ w'.cell? ⟨wr.heap.size, 5, none⟩ = some (.int .i64 x.m2) ∧ w'.cell? ⟨wr.heap.size, 6, none⟩ = some (.int .i64 x.m3) ∧ w'.cell? ⟨wr.heap.size, 7, none⟩ = some (.int .i64 x.m4) ∧ w'.cell? ⟨wr.heap.size, 8, none⟩ = some (.int .i64 x.m5) ∧ w'.cell? ⟨wr.heap.size, 9, none⟩ = some (.int .i64 x.m6) ∧ w'.cell? ⟨wr.heap.size, 10, none⟩ = some (.int .i64 x.m7)) (by kernel_rfl) (KS.out _ (Below.drew (Below.refl _ _))) (fun hS => ?_)
      refine wpAnyT_take (i := 0) (v := .pointer (some ⟨bM, 0, none⟩)) [0] rfl (by kernel_rfl) (fun _ _ _ h => h) hS rfl (fun w' hSw => by (try dsimp only at hSw); go_simp) ?_
      try simp only [Act.put]
      refine wpAnyT_take (i := 1) (v := .slice aT nT cT) [1] rfl (by kernel_rfl) (fun _ _ _ h => h) hS rfl (fun w' hSw => by (try dsimp only at hSw); go_simp) ?_
      try simp only [Act.put]
      refine wpAnyT_take (i := 2) (v := .pointer (some ⟨wr.heap.size, 0, none⟩)) [2] rfl (by kernel_rfl) (fun _ _ _ h => h) hS rfl (fun w' hSw => by (try dsimp only at hSw); go_simp) ?_
      try simp only [Act.put]
      refine wpAnyT_take (i := 3) (v := .int .i64 x.kind) [3] rfl (by kernel_rfl) (fun _ _ _ h => h) hS rfl (fun w' hSw => by (try dsimp only at hSw); go_simp) ?_
      try simp only [Act.put]
      refine wpAnyT_take (i := 4) (v := .pointer (some ⟨wr.heap.size, 2, none⟩)) [4] rfl (by kernel_rfl) (fun _ _ _ h => h) hS rfl (fun w' hSw => by (try dsimp only at hSw); go_simp) ?_
      try simp only [Act.put]
      refine wpAnyT_take (i := 5) (v := .int .i64 x.links) [5] rfl (by kernel_rfl) (fun _ _ _ h => h) hS rfl (fun w' hSw => by (try dsimp only at hSw); go_simp) ?_
      try simp only [Act.put]
      refine wpAnyT_take (i := 6) (v := .agg #[.slice dW ws.length eW, .slice dP ps.length eP, .slice dS es.length eS, .slice dQ qs.length eQ]) [6] rfl (by kernel_rfl) (fun _ _ _ h => h) hS rfl (fun w' hSw => by (try dsimp only at hSw); go_simp) ?_
      try simp only [Act.put]
      refine wpAnyT_take (i := 7) (v := .agg #[.int .i64 x.kind, .int .i64 x.size, .int .i64 x.links, .int .i64 x.m0, .int .i64 x.m1, .int .i64 x.m2, .int .i64 x.m3, .int .i64 x.m4, .int .i64 x.m5, .int .i64 x.m6, .int .i64 x.m7]) [7] rfl (by kernel_rfl) (fun _ _ _ h => h) hS rfl (fun w' hSw => by (try dsimp only at hSw); go_simp) ?_
      try simp only [Act.put]
      clear hS
      refine wpAnyT_one (i := 8) rfl (by kernel_rfl) (fun K hK => ?_)
      go_simp
      go_at_call 95
      refine (LX.out _ (Below.drew (Below.refl _ _))).mono ?_
      rintro e w3 ⟨v3, rfl, hr3, hb3⟩
      have B3 : Hid (Below X.heap.size X w3) := bel2 (Below.drew (Below.refl _ _)) hb3
      obtain ⟨-, a3, c3, rfl, -⟩ := id hr3.rd
      refine hK.out _ _ (fun _ => KS.out w3 B3.out) ?_
      clear hK K
      try simp only [Act.put]
      have B4 : Hid (Below X.heap.size X (w3.alloc (.cells #[.int .i64 x.kind, .int .i64 x.links, .slice a3 (pgL ws ps es qs x x.size.toNat).length c3] 102))) := B3.out.alloc B3.out.size _
      have J4 := hideIt (IX.out.below B4.out)
      have RB := hideIt (rd_thing w3 (ofT ws ps es qs x) (.slice a3 (pgL ws ps es qs x x.size.toNat).length c3))
      have PG := hideIt (((hr3.below ((Below.refl _ _).alloc (Nat.le_refl _) (.cells #[.int .i64 x.kind, .int .i64 x.links, .slice a3 (pgL ws ps es qs x x.size.toNat).length c3] 102)) (Nat.le_refl _)).wide zX (Nat.le_refl _)).1)
      clear hr3 hb3
      refine wpAnyT_one (i := 9) rfl (by kernel_rfl) (fun K hK => ?_)
      go_simp
      refine hK.out _ _ (fun _ => KS.out w3 B3.out) ?_
      clear hK K
      try simp only [Act.put]
      refine wpAnyT_one (i := 10) rfl (by kernel_rfl) (fun K hK => ?_)
      go_simp
      refine hK.out _ _ (fun _ => KS.out _ B4.out) ?_
      clear hK K
      try simp only [Act.put]
      refine wpAnyT_one (i := 11) rfl (by kernel_rfl) (fun K hK => ?_)
      refine step_append_rd rfl (.tmp 27) (.tmp 36) 30 rfl W.heap.size 102 (.agg #[.int .i64 0, .int .i64 0, .slice none 0 0]) 3 40 Tryz.underlying30 infoThing rfl (by decide) _ _ _ rfl J4.out.t _ 1 _ rfl RB.out (thv_ones _ _ _ _) (by rw [LU.out]; unfold maxLen; omega) (by rw [LU.out]; omega) J4.out.z ?_
      intro vM wM hownM hgrM
      obtain ⟨-, aM, cM, rfl, -⟩ := id (own_block hownM).rd
      obtain ⟨BO1, BO2⟩ := J4.out.boxes hgrM
      have MM := BO2 _ _ _ _ J4.out.m th_mdT
      obtain ⟨m0, m1, m2, m3⟩ := two_cells MM
      have KM : Hid ((wM.cell? ⟨bM, 0, none⟩ = some (.slice aT nT cT)) ∧ wM.cell? ⟨w.heap.size, 0, none⟩ = some (.slice dW ws.length eW) ∧ wM.cell? ⟨w.heap.size, 1, none⟩ = some (.slice dP ps.length eP) ∧ wM.cell? ⟨w.heap.size, 2, none⟩ = some (.slice dS es.length eS) ∧ wM.cell? ⟨w.heap.size, 3, none⟩ = some (.slice dQ qs.length eQ) ∧ wM.cell? ⟨wr.heap.size, 0, none⟩ = some (.int .i64 x.kind) ∧ wM.cell? ⟨wr.heap.size, 1, none⟩ = some (.int .i64 x.size) ∧ wM.cell? ⟨wr.heap.size, 2, none⟩ = some (.int .i64 x.links) ∧ wM.cell? ⟨wr.heap.size, 3, none⟩ = some (.int .i64 x.m0) ∧ wM.cell? ⟨wr.heap.size, 4, none⟩ = some (.int .i64 x.m1) ∧ wM.cell? ⟨wr.heap.size, 5, none⟩ = some (.int .i64 x.m2) ∧ wM.cell? ⟨wr.heap.size, 6, none⟩ = some (.int .i64 x.m3) ∧ wM.cell? ⟨wr.heap.size, 7, none⟩ = some (.int .i64 x.m4) ∧ wM.cell? ⟨wr.heap.size, 8, none⟩ = some (.int .i64 x.m5) ∧ wM.cell? ⟨wr.heap.size, 9, none⟩ = some (.int .i64 x.m6) ∧ wM.cell? ⟨wr.heap.size, 10, none⟩ = some (.int .i64 x.m7)) := ⟨m0, KA.out wM (BO2 _ _ _ _ (MX.out _ B4.out) th_inT) BO1⟩
      have G := hideIt (J4.out.grow (ofT ws ps es qs x, .slice a3 (pgL ws ps es qs x x.size.toNat).length c3) PG.out hownM hgrM).2
      refine hK.out _ _ (fun _ => KM.out) ?_
      clear hK K hownM hgrM MM BO1 BO2 KA KP KS
      try simp only [Act.put]
      refine wpAnyT_one (i := 12) rfl (by kernel_rfl) (fun K hK => ?_)
      go_simp
      refine hK.out _ _ (fun _ => KM.out) ?_
      clear hK K
      try simp only [Act.put]
      refine wpAnyT_one (i := 13) rfl (by kernel_rfl) (fun K hK => ?_)
      go_simp
      refine hK.out _ _ (fun h => absurd rfl h) ?_
      clear hK K
      try simp only [Act.put]
      refine wpAnyT_done (by kernel_rfl) ?_ _
      go_wp2
      go_roundg (ns.length - (k + 1))
      case measure => omega
      case rel => exact ⟨k + 1, by omega, by go_num, _, _, by rw [List.map_append, JM.out, TK.out]; rfl, G.out⟩
    · obtain rfl : k = ns.length := by omega
      have JM2 : Hid (us.map Prod.fst = ofL ws ps es qs ns) := by
        have q := JM.out
        rw [List.take_length] at q
        exact q
      have BB := hideIt (below_trans BW.out I.out.b BW.out.size)
      have R0 := hideIt (CR.out wr I.out.b)
      have hzr := I.out.z
      obtain ⟨n0, n1, _, _⟩ := two_cells I.out.m
      obtain ⟨r0, r1, r2, r3⟩ := two_cells R0.out
      obtain ⟨-, aT, cT, rfl, -⟩ := id (own_block I.out.t).rd
      have RI : Hid (∀ u0 u1, OwMd ((wr.setCell ⟨w.heap.size + 1 + 1, 0, none⟩ u0).setCell ⟨w.heap.size + 1 + 1, 1, none⟩ u1) w.heap.size ((wr.setCell ⟨w.heap.size + 1 + 1, 0, none⟩ u0).setCell ⟨w.heap.size + 1 + 1, 1, none⟩ u1).heap.size (.agg #[.slice aT us.length cT, .slice aN ds.length cN]) (us.map Prod.fst) ds) := fun u0 u1 => by
        have OF : Outside (w.heap.size + 1 + 1) (w.heap.size + 1 + 1 + 1) wr ((wr.setCell ⟨w.heap.size + 1 + 1, 0, none⟩ u0).setCell ⟨w.heap.size + 1 + 1, 1, none⟩ u1) := by
          repeat (refine Outside.setCell ?_ (by simp only; omega) (by simp only; omega) _)
          exact Outside.refl _ _ _
        have q : OwMd wr W.heap.size wr.heap.size (.agg #[.slice aT us.length cT, .slice aN ds.length cN]) (us.map Prod.fst) ds := ⟨_, _, us, rfl, rfl, own_block I.out.t, fun k hk => own_block (I.out.p k hk), own_block I.out.d⟩
        exact (q.outside OF (.inr (by omega)) (Nat.le_refl _)).wide (by omega) OF.size
      rw [JM2.out] at RI
      generalize us.length = nT at *
      clear HX HC HD JM JL I CI CD
      go_wp2
      have S1 := two_set0 R0.out (.slice aT nT cT)
      have S2 : ((wr.setCell ⟨w.heap.size + 1 + 1, 0, none⟩ (.slice aT nT cT)).setCell ⟨w.heap.size + 1 + 1, 1, none⟩ (.slice aN ds.length cN)).heap[w.heap.size + 1 + 1]? = some (.cells #[.slice aT nT cT, .slice aN ds.length cN] 33 (0, 0)) := eight_set (xs := [.slice aT nT cT, .slice none 0 0]) S1 1 _
      obtain ⟨s0, s1, -, -⟩ := two_cells S2
      refine bodyPost_ret (v := .agg #[.slice aT nT cT, .slice aN ds.length cN]) (by simp [results, Tryz.results49, go_sem, s0, s1]) rfl ?_
      exact ⟨_, rfl, RI.out _ _, (BB.out.setCell (by simp only; omega) _).setCell (by simp only; omega) _⟩
end Go.Proofs.YtmeiionabonhnaaGreatDoor

namespace Go.Proofs.YtmeiionabonhnaaGreatDoor
open Go.RowKit
def moT (ws : List Int) (ps : List St) (es : List Int) (qs : List Se) : List Th := if dvB ws ps es qs = true then ofL ws ps es qs (dvN ws ps es qs) else []
def moD (ws : List Int) (ps : List St) (es : List Int) (qs : List Se) : List Den := if dvB ws ps es qs = true then dvD ws ps es qs else []
def moC (ws : List Int) (ps : List St) (es : List Int) (qs : List Se) : Int := if dvB ws ps es qs = true then 0 else 1
theorem dvI {ws : List Int} {ps : List St} {es : List Int} {qs : List Se} (d : dvB ws ps es qs = true) : imgB (dvN ws ps es qs) (dvD ws ps es qs) = true := by rw [(dv_yes d).2.2.1, (dv_yes d).2.2.2.1]; exact (dv_yes d).2.2.2.2
theorem dvL {ws : List Int} {ps : List St} {es : List Int} {qs : List Se} (d : dvB ws ps es qs = true) : (dvN ws ps es qs).length = 16 ∧ (dvD ws ps es qs).length = 24 ∧ ∀ k (h : k < (dvN ws ps es qs).length), inoB (dvN ws ps es qs)[k] = true := by
  obtain ⟨a, b, -, o, -⟩ := pimg_all (dvI d)
  exact ⟨a, b, of_decide_eq_true o⟩
end Go.Proofs.YtmeiionabonhnaaGreatDoor

namespace Go.Proofs.YtmeiionabonhnaaGreatDoor
open Go.RowKit
def dep (ps : List Den) : Nat → Int → Prop
  | 0, d => d = 0
  | k + 1, d => ¬ d = 0 ∧ dep ps k (upD ps d)
theorem dep_hangs {ps : List Den} : ∀ (k j : Nat) (d : Int), dep ps k d → hangs ps j d = true → k < j
  | _, 0, d, _, h => by rw [hangs_none] at h; cases h
  | 0, j + 1, _, _, _ => by omega
  | k + 1, j + 1, d, h1, h => by
    have := dep_hangs k j _ h1.2 (hang_step h h1.1).2
    omega
theorem cnt_mono {ds : List Den} {c : Int} {a : Nat} : ∀ (b : Nat), a ≤ b → b ≤ ds.length → cntD ds c a ≤ cntD ds c b
  | 0, h, _ => by
    obtain rfl : a = 0 := by omega
    exact Nat.le_refl _
  | b + 1, h, hb => by
    by_cases q : a = b + 1
    · subst q; exact Nat.le_refl _
    · have := cnt_mono (ds := ds) (c := c) (a := a) b (by omega) (by omega)
      rw [cntD_succ (by omega)]
      omega
theorem cnt_hit {ds : List Den} {c : Int} {k : Nat} (h : k < ds.length) (e : ds[k].child = c) : cntD ds c (k + 1) = cntD ds c k + 1 := by
  rw [cntD_succ h, if_pos (beq_iff_eq.2 e)]
theorem dir_cnt1 {ws : List Ino} {ps : List Den} (h : imgB ws ps = true) {c : Int} (hc : 1 ≤ c ∧ c ≤ 15) (hk : kindAt ws c = 2) : cntD ps c ps.length = 1 := by
  obtain ⟨hl, _, _, hN, _, hL, _⟩ := pimg_all h
  obtain ⟨n, rfl⟩ : ∃ n : Nat, c = (n : Int) := ⟨c.toNat, by omega⟩
  have hn : n < ws.length := by omega
  have a := (of_decide_eq_true hL : ∀ i (h : i < ws.length), linkB ps i ws[i] = true) n hn
  have b := (of_decide_eq_true hN : ∀ k (h : k < ws.length), inoB ws[k] = true) n hn
  rw [kindAt_of hn] at hk
  unfold linkB at a
  unfold inoB kindB at b
  rw [if_neg (show ¬ ws[n].kind = 0 by omega), if_pos hk] at b
  simp only [Bool.and_eq_true, decide_eq_true_eq, beq_iff_eq] at a b
  have e1 := a.1
  have e2 := b.2.2.2.2.2
  rw [if_neg (show ¬ n = 0 by omega)] at e1
  omega
theorem one_lt {ws : List Ino} {ps : List Den} (h : imgB ws ps = true) {i k : Nat} (hik : i < k) (hk : k < ps.length) {c : Int} (hc : 1 ≤ c ∧ c ≤ 15) (q : kindAt ws c = 2) (ei : ps[i].child = c) (ek : ps[k].child = c) : False := by
  have a := dir_cnt1 h hc q
  have b := cnt_hit (show i < ps.length by omega) ei
  have d := cnt_hit hk ek
  have e := cnt_mono (ds := ps) (c := c) (a := i + 1) k (by omega) (by omega)
  have f := cnt_mono (ds := ps) (c := c) (a := k + 1) ps.length (by omega) (Nat.le_refl _)
  omega
theorem up_of1 {ws : List Ino} {ps : List Den} (h : imgB ws ps = true) {k : Nat} (hk : k < ps.length) (hc : 1 ≤ ps[k].child ∧ ps[k].child ≤ 15) (q : kindAt ws ps[k].child = 2) : upD ps ps[k].child = ps[k].dir :=
  upD_yes hk (fun _ _ hjk e => one_lt h hjk hk hc q e rfl) rfl
theorem dep_down {ws : List Ino} {ps : List Den} (h : imgB ws ps = true) {n k : Nat} (hk : k < ps.length) (hc : 1 ≤ ps[k].child ∧ ps[k].child ≤ 15) (q : kindAt ws ps[k].child = 2) (hd : dep ps n ps[k].dir) : dep ps (n + 1) ps[k].child :=
  ⟨by omega, by rw [up_of1 h hk hc q]; exact hd⟩
theorem dep_small {ws : List Ino} {ps : List Den} (h : imgB ws ps = true) {n : Nat} {d : Int} (h0 : 0 ≤ d ∧ d ≤ 15) (q : kindAt ws d = 2) (hd : dep ps n d) : n < 16 := dep_hangs n 16 d hd (pimg_hangs h h0 q)
def childOf (ps : List Den) (d : Int) (nm : ByteArray) : Int := match entAt ps d nm with | none => 0 | some k => childAt ps k
def pthN (ws : List Ino) (ps : List Den) : Nat → Int → ByteArray → List ByteArray
  | 0, _, _ => []
  | n + 1, d, hd => (sorted (namesD ps d)).flatMap fun nm => (hd ++ ⟨#[47]⟩ ++ nm) :: (if kindAt ws (childOf ps d nm) = 2 then pthN ws ps n (childOf ps d nm) (hd ++ ⟨#[47]⟩ ++ nm) else [])
def pthR (rs : List Den) : Nat → Int → ByteArray → List ByteArray
  | 0, _, _ => []
  | n + 1, d, hd => (rs.filter fun x => x.dir == d).flatMap fun x => (hd ++ ⟨#[47]⟩ ++ x.name) :: pthR rs n x.child (hd ++ ⟨#[47]⟩ ++ x.name)
theorem pthR_none {rs : List Den} {d : Int} (h : ∀ x ∈ rs, ¬ x.dir = d) (n : Nat) (hd : ByteArray) : pthR rs n d hd = [] := by
  cases n with
  | zero => rfl
  | succ n =>
    unfold pthR
    rw [List.filter_eq_nil_iff.2 (fun x hx => by simp [h x hx])]
    rfl
theorem ent_lt {ws : List Ino} {ps : List Den} (h : imgB ws ps = true) {d : Int} {nm : ByteArray} {i k : Nat} (hik : i < k) (hk : k < ps.length) (e1 : entHit d nm ps[i] = true) (e2 : entHit d nm ps[k] = true) : False := by
  obtain ⟨_, _, _, _, he, _, _⟩ := pimg_all h
  have e := (of_decide_eq_true he : ∀ i (h : i < ps.length), entOne ws ps i ps[i] = true) k hk
  unfold entHit at e1 e2
  simp only [Bool.and_eq_true, decide_eq_true_eq, beq_iff_eq] at e1 e2
  unfold entOne at e
  rw [if_neg (by omega)] at e
  simp only [Bool.and_eq_true, List.all_eq_true] at e
  have c := e.2.2.2.2.2 ps[i] (List.mem_take_iff_getElem.2 ⟨i, by omega, rfl⟩)
  unfold clashB at c
  rw [e1.2.1, e1.2.2, e2.2.1, e2.2.2, decide_eq_true e1.1] at c
  simp at c
theorem childOf_at {ws : List Ino} {ps : List Den} (h : imgB ws ps = true) {k : Nat} (hk : k < ps.length) (hc : 0 ≤ ps[k].child) : childOf ps ps[k].dir ps[k].name = ps[k].child := by
  have e : entHit ps[k].dir ps[k].name ps[k] = true := by unfold entHit; rw [decide_eq_true hc]; simp
  have a : entAt ps ps[k].dir ps[k].name = some k := ent_yes hk (fun j hj hjk => by
    cases q : entHit ps[k].dir ps[k].name ps[j] with
    | false => rfl
    | true => exact (ent_lt h hjk hk q e).elim) e
  unfold childOf
  rw [a]
  exact childAt_of hk
theorem flat_same {α β γ : Type} {f : α → β} {g : β → List γ} {F : α → List γ} : ∀ (l : List α), (∀ x ∈ l, F x = g (f x)) → l.flatMap F = (l.map f).flatMap g
  | [], _ => rfl
  | x :: l, h => by
    rw [List.flatMap_cons, List.map_cons, List.flatMap_cons, h x List.mem_cons_self, flat_same l fun y hy => h y (List.mem_cons_of_mem _ hy)]
theorem pth_same {ws : List Ino} {ps rs : List Den} (h : imgB ws ps = true) (hm : ∀ x ∈ rs, ∃ (k : Nat) (hk : k < ps.length), ps[k] = x ∧ 0 ≤ x.child) (hN : ∀ d, (rs.filter fun x => x.dir == d).map Den.name = sorted (namesD ps d)) : ∀ (n : Nat) (d : Int) (hd : ByteArray), pthR rs n d hd = pthN ws ps n d hd
  | 0, _, _ => rfl
  | n + 1, d, hd => by
    unfold pthR pthN
    rw [← hN d]
    refine flat_same _ fun x hx => ?_
    rw [List.mem_filter, beq_iff_eq] at hx
    obtain ⟨k, hk, rfl, hc⟩ := hm x hx.1
    have e := childOf_at h hk hc
    rw [hx.2] at e
    rw [e]
    by_cases q : kindAt ws ps[k].child = 2
    · rw [if_pos q, pth_same h hm hN n]
    · rw [if_neg q, pthR_none]
      intro y hy ey
      obtain ⟨j, hj, rfl, hcj⟩ := hm y hy
      rcases pimg_ent h j hj with r | r
      · omega
      · rw [ey] at r
        exact q r.2.2.2.2
end Go.Proofs.YtmeiionabonhnaaGreatDoor
