/- The image of a model: the same names, files of the same sizes. -/
import Derived.Test.YtmeiionabonhnaaGreatDoorZBG
import Derived.Deep.LoopGhost
namespace Go.Proofs.YtmeiionabonhnaaGreatDoor
open Go.RowKit
def imO (t : Th) : Ino := ⟨t.kind, t.pages.length, t.links, 0, 0, 0, 0, 0, 0, 0, 0⟩
def imgM (ts : List Th) : List Ino := ts.map imO
theorem imgM_len (ts : List Th) : (imgM ts).length = ts.length := by simp [imgM]
theorem imgM_take {ts : List Th} {k : Nat} (h : k < ts.length) : imgM (ts.take (k + 1)) = imgM (ts.take k) ++ [imO ts[k]] := by
  unfold imgM
  rw [List.take_add_one, List.getElem?_eq_getElem h, List.map_append]
  rfl
theorem own_typeM {w : World} {base : Nat} {e t : TypeId} {size : Nat} {v : Value} {n : Nat} {xs : List Value} {b : Nat} {cs : Array Value} {fr : Nat × Nat} (h : w.ownsRow base e size v n xs) (hb : w.heap[b]? = some (.cells cs t fr)) (hne : e ≠ t) : v.ownBlock ≠ some b := by
  intro hv
  obtain ⟨_, h1 | ⟨g, cap, cur, e1, _, hg, _⟩⟩ := h
  · rw [h1.1] at hv; cases hv
  · rw [e1] at hv
    have : g = b := by simpa [Value.ownBlock] using hv
    subst this
    rw [hg] at hb
    injection hb with hb
    injection hb with _ ht _
    exact hne ht
theorem ino_imgM : (150 : Nat) ≠ 98 := by decide
theorem inos_appM (l l' : List Ino) : inos (l ++ l') = inos l ++ inos l' := by simp [inos]
theorem inos_onesM (l : List Ino) : ∀ u ∈ inos l, u.oneCell' = true := by
  intro u hu
  simp only [inos, List.mem_flatMap] at hu
  obtain ⟨m, _, hm⟩ := hu
  simp [Ino.cs] at hm
  rcases hm with rfl | rfl | rfl | rfl | rfl | rfl | rfl | rfl | rfl | rfl | rfl <;> rfl
theorem rd_inoM (w1 : World) (x : Ino) : Rd (w1.alloc (.cells #[.int .i64 x.kind, .int .i64 x.size, .int .i64 x.links, .int .i64 x.m0, .int .i64 x.m1, .int .i64 x.m2, .int .i64 x.m3, .int .i64 x.m4, .int .i64 x.m5, .int .i64 x.m6, .int .i64 x.m7] 150)) 11 (.slice (some ⟨w1.heap.size, 0, none⟩) 1 1) 1 (inos [x]) := by
  refine ⟨rfl, _, _, rfl, ⟨Nat.le_refl _, fun e => by cases e⟩, fun _ => ⟨w1.heap.size, 0, rfl, by simp, fun j hj => ?_⟩⟩
  rw [Nat.zero_add]
  exact (eight_at (xs := x.cs) (at_new rfl) j).1
structure RimO (W w : World) (bM : Nat) (vI vD : Value) (xs : List Ino) : Prop where
  m : w.heap[bM]? = some (.cells #[vI, vD] 98 (0, 0))
  i : w.ownsRow W.heap.size 150 11 vI xs.length (inos xs)
  b : Below W.heap.size W w
  hb : W.heap.size ≤ bM
theorem RimO.lt {W w : World} {bM : Nat} {vI vD : Value} {xs : List Ino} (h : RimO W w bM vI vD xs) : bM < w.heap.size := (Array.getElem?_eq_some_iff.1 h.m).1
theorem RimO.z {W w : World} {bM : Nat} {vI vD : Value} {xs : List Ino} (h : RimO W w bM vI vD xs) : W.heap.size ≤ w.heap.size := h.b.size
theorem RimO.below {W w w' : World} {bM : Nat} {vI vD : Value} {xs : List Ino} (h : RimO W w bM vI vD xs) (hb : Below w.heap.size w w') : RimO W w' bM vI vD xs :=
  ⟨(hb.block _ h.lt).trans h.m, ((own_block h.i).below hb (Nat.le_refl _)).1, below_trans h.b hb h.z, h.hb⟩
theorem RimO.grow {W w w' : World} {bM : Nat} {vI vD v' : Value} {xs : List Ino} (h : RimO W w bM vI vD xs) (x : Ino) (ho : w'.ownsRow W.heap.size 150 11 v' (xs.length + 1) (inos xs ++ inos [x])) (hg : w.grownBy w' vI.ownBlock) :
    w'.heap[bM]? = some (.cells #[vI, vD] 98 (0, 0)) ∧ RimO W (w'.setCell ⟨bM, 0, none⟩ v') bM v' vD (xs ++ [x]) := by
  have hm : w'.heap[bM]? = some (.cells #[vI, vD] 98 (0, 0)) := (hg.block _ h.lt (own_typeM h.i h.m ino_imgM).symm).trans h.m
  have hbw := h.b.grown hg h.z (fun q hq => (h.i.lt q hq).1)
  have hm2 : (w'.setCell ⟨bM, 0, none⟩ v').heap[bM]? = some (.cells #[v', vD] 98 (0, 0)) := eight_set (xs := [vI, vD]) hm 0 v'
  refine ⟨hm, hm2, ?_, hbw.setCell h.hb _, h.hb⟩
  rw [inos_appM, List.length_append]
  exact ownsRow_setCell_other ho (own_typeM ho hm ino_imgM) _
set_option maxRecDepth 100000 in
set_option maxHeartbeats 4000000 in
theorem l12Image_any (v : Value) (ts : List Th) (ps : List Den) (w : World) (h : RdMd w v ts ps) (hn : ts.length ≤ 1048576) :
    Calls Tryz.prog 69 #[v] w fun e w' => ∃ v', e = .returned v' ∧ RdIm w' v' (imgM ts) ps ∧ Below w.heap.size w w' := by
  obtain ⟨vW, vP, rfl, ⟨us, rfl, r⟩, hD⟩ := h
  have HR := hideIt r
  have HD := hideIt hD
  rw [List.length_map] at hn
  obtain ⟨aW, cW, rfl, -, hc⟩ := r.shape
  obtain ⟨aP, cP, rfl, -, -⟩ := hD.shape
  have HC := hideIt hc
  clear r hD hc
  obtain ⟨W1, hW1⟩ : ∃ W1, W1 = (w.alloc (.cells #[.slice aW us.length cW, .slice aP ps.length cP] 33)).alloc (.cells #[.slice none 0 0, .slice none 0 0] 98) := ⟨_, rfl⟩
  have hz1 : W1.heap.size = w.heap.size + 1 + 1 := by rw [hW1]; simp
  have CA : Hid (∀ w', Below W1.heap.size W1 w' → w'.cell? ⟨w.heap.size, 0, none⟩ = some (.slice aW us.length cW) ∧ w'.cell? ⟨w.heap.size, 1, none⟩ = some (.slice aP ps.length cP)) := fun w' hb => by
    have : w'.heap[w.heap.size]? = some (.cells #[.slice aW us.length cW, .slice aP ps.length cP] 33 (0, 0)) := (hb.block _ (by omega)).trans (by rw [hW1]; exact at_old (at_new rfl))
    exact ⟨(two_cells this).1, (two_cells this).2.1⟩
  have CR : Hid (∀ w', Below W1.heap.size W1 w' → w'.heap[w.heap.size + 1]? = some (.cells #[.slice none 0 0, .slice none 0 0] 98 (0, 0))) := fun w' hb => (hb.block _ (by omega)).trans (by
    rw [hW1]
    have := at_new (w := w.alloc (.cells #[.slice aW us.length cW, .slice aP ps.length cP] 33)) (o := .cells #[.slice none 0 0, .slice none 0 0] 98) rfl
    rw [World.size_alloc] at this
    exact this)
  have BW : Hid (Below w.heap.size w W1) := by rw [hW1]; exact ((Below.refl _ _).alloc (Nat.le_refl _) _).alloc (by simp) _
  have START : Hid (RimO W1 ((W1.alloc (.cells #[] 150)).alloc (.cells #[.slice (some ⟨w.heap.size + 1 + 1, 0, none⟩) 0 0, .slice aP ps.length cP] 98)) (w.heap.size + 1 + 1 + 1) (.slice (some ⟨w.heap.size + 1 + 1, 0, none⟩) 0 0) (.slice aP ps.length cP) []) := by
    have hs2 : (W1.alloc (.cells #[] 150)).heap.size = w.heap.size + 1 + 1 + 1 := by rw [World.size_alloc, hz1]
    refine ⟨?_, ?_, ?_, by omega⟩
    · have := at_new (w := W1.alloc (.cells #[] 150)) (o := .cells #[.slice (some ⟨w.heap.size + 1 + 1, 0, none⟩) 0 0, .slice aP ps.length cP] 98) rfl
      rw [hs2] at this
      exact this
    · have := World.ownsRow_lit (e := 150) (size := 11) (base := W1.heap.size) W1 #[] 0 (Nat.le_refl _) (by simp [maxLen]) (by simp)
      have r := ((own_block this).below ((Below.refl _ (W1.alloc (.cells #[] 150))).alloc (Nat.le_refl _) (.cells #[.slice (some ⟨w.heap.size + 1 + 1, 0, none⟩) 0 0, .slice aP ps.length cP] 98)) (Nat.le_refl _)).1
      rw [hz1] at r ⊢
      exact r
    · exact ((Below.refl _ _).alloc (Nat.le_refl _) _).alloc (by simp) _
  have hz1' : w.heap.size < W1.heap.size := by omega
  have hz2' : w.heap.size + 1 < W1.heap.size := by omega
  obtain ⟨x0, x1⟩ := CA.out W1 (Below.refl _ _)
  go_enter Tryz.func69, Tryz.ntmps69
  go_wp2
  rw [← hW1]
  clear hW1
  generalize hbM : w.heap.size + 1 + 1 + 1 = bM at *
  clear hbM hz1 x0 x1
  go_loopg [4] us.length (fun g i wr => ∃ k : Nat, k + g = us.length ∧ i = .int .i64 k ∧ Hid (∃ vI, RimO W1 wr bM vI (.slice aP ps.length cP) (imgM ((us.map Prod.fst).take k))))
  case atStart => exact ⟨0, by omega, rfl, _, START.out⟩
  case round =>
    obtain ⟨k, hk, rfl, J⟩ := hrel
    obtain ⟨vI, I⟩ := J.out
    have I := hideIt I
    obtain ⟨x0, x1⟩ := CA.out wr I.out.b
    clear J START
    by_cases hlt : k < us.length
    · obtain ⟨b, o, rfl, hbl, hcell⟩ := HC.out (by omega)
      obtain ⟨c0, c1, c2⟩ := hcell k hlt
      have BB := hideIt (below_trans BW.out I.out.b BW.out.size)
      have d0 := (BB.out.cell (p := ⟨b, o + k * 3, none⟩) hbl).trans c0
      have d1 := (BB.out.cell (p := ⟨b, o + k * 3 + 1, none⟩) hbl).trans c1
      have d2 := (BB.out.cell (p := ⟨b, o + k * 3 + 2, none⟩) hbl).trans c2
      obtain ⟨a1, y1, ev⟩ := HR.out.val k hlt
      have ML : Hid ((imgM ((us.map Prod.fst).take k)).length = k) := by unfold Hid; rw [imgM_len, List.length_take, List.length_map]; omega
      have MN : Hid (imgM ((us.map Prod.fst).take (k + 1)) = imgM ((us.map Prod.fst).take k) ++ [imO us[k].1]) := by
        unfold Hid
        rw [imgM_take (by rw [List.length_map]; exact hlt), List.getElem_map]
      rw [ev] at d2
      clear hcell c0 c1 c2 ev HR HC HD BB
      generalize us[k].1 = t at *
      generalize imgM ((us.map Prod.fst).take k) = xs at *
      obtain ⟨n0, n1, _, _⟩ := two_cells I.out.m
      have nb := I.out.lt
      have IA := hideIt ((I.out.below ((Below.refl _ _).alloc (Nat.le_refl _) (.cells #[.int .i64 t.kind, .int .i64 t.links, .slice a1 t.pages.length y1] 102))).below ((Below.refl _ _).alloc (Nat.le_refl _) (.cells #[.int .i64 t.kind, .int .i64 t.pages.length, .int .i64 t.links, .int .i64 0, .int .i64 0, .int .i64 0, .int .i64 0, .int .i64 0, .int .i64 0, .int .i64 0, .int .i64 0] 150)))
      have RB : Hid (Rd ((wr.alloc (.cells #[.int .i64 t.kind, .int .i64 t.links, .slice a1 t.pages.length y1] 102)).alloc (.cells #[.int .i64 t.kind, .int .i64 t.pages.length, .int .i64 t.links, .int .i64 0, .int .i64 0, .int .i64 0, .int .i64 0, .int .i64 0, .int .i64 0, .int .i64 0, .int .i64 0] 150)) 11 (.slice (some ⟨wr.heap.size + 1, 0, none⟩) 1 1) 1 (inos [imO t])) := by
        have q := rd_inoM (wr.alloc (.cells #[.int .i64 t.kind, .int .i64 t.links, .slice a1 t.pages.length y1] 102)) (imO t)
        rw [World.size_alloc] at q
        exact q
      go_wp2_with (at_builtin; refine wpList_append_rd _ rfl (.tmp 23) (.tmp 32) 96 rfl W1.heap.size 150 (.agg #[.int .i64 0, .int .i64 0, .int .i64 0, .int .i64 0, .int .i64 0, .int .i64 0, .int .i64 0, .int .i64 0, .int .i64 0, .int .i64 0, .int .i64 0]) 11 88 Tryz.underlying96 infoIno rfl (by decide) _ _ _ rfl IA.out.i _ 1 _ rfl RB.out (inos_onesM _) (by rw [ML.out]; unfold maxLen; omega) (by rw [ML.out]; omega) IA.out.z ?_)
      intro vN wN hownN hgrN
      rcases (own_block hownN).shape with ⟨_, eN, _⟩ | ⟨bN, cN, rfl, _, _⟩
      · omega
      obtain ⟨g1, g2⟩ := IA.out.grow (imO t) hownN hgrN
      have G := hideIt g2
      rw [← MN.out] at G
      clear n0 n1 g2 d0 d1 d2 x0 x1 IA RB hownN hgrN ML MN I
      obtain ⟨n0, n1, n2, n3⟩ := two_cells g1
      clear g1
      go_wp2
      go_roundg (us.length - (k + 1))
      case measure => omega
      case rel => exact ⟨k + 1, by omega, by go_num, _, G.out⟩
    · obtain rfl : k = us.length := by omega
      have RI : Hid (∀ u0 u1, RdN ((wr.setCell ⟨w.heap.size + 1, 0, none⟩ u0).setCell ⟨w.heap.size + 1, 1, none⟩ u1) vI (imgM (us.map Prod.fst)) ∧ RdD ((wr.setCell ⟨w.heap.size + 1, 0, none⟩ u0).setCell ⟨w.heap.size + 1, 1, none⟩ u1) (.slice aP ps.length cP) ps) := fun u0 u1 => by
        have OF : Outside (w.heap.size + 1) (w.heap.size + 1 + 1) wr ((wr.setCell ⟨w.heap.size + 1, 0, none⟩ u0).setCell ⟨w.heap.size + 1, 1, none⟩ u1) := by
          repeat (refine Outside.setCell ?_ (by simp only; omega) (by simp only; omega) _)
          exact Outside.refl _ _ _
        have q : Row wr 150 11 W1.heap.size wr.heap.size vI _ _ := own_block I.out.i
        have q2 := (q.outside OF (.inr (by omega)) (Nat.le_refl _)).rd
        rw [show us.length = (us.map Prod.fst).length by rw [List.length_map], List.take_length] at q2
        refine ⟨q2, ?_⟩
        have B2 : Below w.heap.size w ((wr.setCell ⟨w.heap.size + 1, 0, none⟩ u0).setCell ⟨w.heap.size + 1, 1, none⟩ u1) := ((below_trans BW.out I.out.b BW.out.size).setCell (by simp only; omega) _).setCell (by simp only; omega) _
        exact Rd.below HD.out B2
      have BB := hideIt (below_trans BW.out I.out.b BW.out.size)
      have R0 := hideIt (CR.out wr I.out.b)
      obtain ⟨n0, n1, _, _⟩ := two_cells I.out.m
      obtain ⟨r0, r1, r2, r3⟩ := two_cells R0.out
      obtain ⟨-, aI, cI, rfl, -⟩ := id (own_block I.out.i).rd
      generalize (imgM ((us.map Prod.fst).take us.length)).length = nI at *
      clear HR HC HD
      go_wp2
      have S1 := two_set0 R0.out (.slice aI nI cI)
      have S2 : ((wr.setCell ⟨w.heap.size + 1, 0, none⟩ (.slice aI nI cI)).setCell ⟨w.heap.size + 1, 1, none⟩ (.slice aP ps.length cP)).heap[w.heap.size + 1]? = some (.cells #[.slice aI nI cI, .slice aP ps.length cP] 98 (0, 0)) := eight_set (xs := [.slice aI nI cI, .slice none 0 0]) S1 1 _
      obtain ⟨s0, s1, -, -⟩ := two_cells S2
      refine bodyPost_ret (v := .agg #[.slice aI nI cI, .slice aP ps.length cP]) (by simp [results, Tryz.results69, go_sem, s0, s1]) rfl ?_
      refine ⟨_, rfl, ?_, (BB.out.setCell (by simp only; omega) _).setCell (by simp only; omega) _⟩
      exact ⟨_, _, rfl, (RI.out _ _).1, (RI.out _ _).2⟩
end Go.Proofs.YtmeiionabonhnaaGreatDoor
