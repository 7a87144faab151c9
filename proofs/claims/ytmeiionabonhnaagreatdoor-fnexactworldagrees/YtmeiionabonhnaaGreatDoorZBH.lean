/- Several texts laid together: MdD, MdE, MeA. -/
import Derived.Test.YtmeiionabonhnaaGreatDoorZAO
import Derived.Deep.LoopGhost
import Derived.Test.YtmeiionabonhnaaGreatDoorZAW
import Derived.Test.YtmeiionabonhnaaGreatDoorZAE
namespace Go.Proofs.YtmeiionabonhnaaGreatDoor
open Go.RowKit
def imO (t : Th) : Ino := ⟨t.kind, t.pages.length, t.links, 0, 0, 0, 0, 0, 0, 0, 0⟩
def imgM (ts : List Th) : List Ino := ts.map imO
theorem imgM_len (ts : List Th) : (imgM ts).length = ts.length := by simp [imgM]
theorem imgM_take {ts : List Th} {k : Nat} (h : k < ts.length) : imgM (ts.take (k + 1)) = imgM (ts.take k) ++ [imO ts[k]] := by
  unfold imgM
  rw [List.take_add_one, List.getElem?_eq_getElem h, List.map_append]
  rfl
theorem own_typeM {w : World} {base : Nat} {e t : TypeId} {size : Nat} {v : Value} {n : Nat} {xs : List Value} {b : Nat} {cs : Array Value} {fr : Nat × Nat} (h : w.ownsRow base e size v n xs) (hb : w.heap[b]? = some (.cells cs t fr)) (hne : e ≠ t) : v.ownBlock ≠ some b := by
  intro hv
  obtain ⟨_, h1 | ⟨g, cap, cur, e1, _, hg, _⟩⟩ := h
  · rw [h1.1] at hv; cases hv
  · rw [e1] at hv
    have : g = b := by simpa [Value.ownBlock] using hv
    subst this
    rw [hg] at hb
    injection hb with hb
    injection hb with _ ht _
    exact hne ht
theorem ino_imgM : (150 : Nat) ≠ 98 := by decide
theorem inos_appM (l l' : List Ino) : inos (l ++ l') = inos l ++ inos l' := by simp [inos]
theorem inos_onesM (l : List Ino) : ∀ u ∈ inos l, u.oneCell' = true := by
  intro u hu
  simp only [inos, List.mem_flatMap] at hu
  obtain ⟨m, _, hm⟩ := hu
  simp [Ino.cs] at hm
  rcases hm with rfl | rfl | rfl | rfl | rfl | rfl | rfl | rfl | rfl | rfl | rfl <;> rfl
theorem rd_inoM (w1 : World) (x : Ino) : Rd (w1.alloc (.cells #[.int .i64 x.kind, .int .i64 x.size, .int .i64 x.links, .int .i64 x.m0, .int .i64 x.m1, .int .i64 x.m2, .int .i64 x.m3, .int .i64 x.m4, .int .i64 x.m5, .int .i64 x.m6, .int .i64 x.m7] 150)) 11 (.slice (some ⟨w1.heap.size, 0, none⟩) 1 1) 1 (inos [x]) := by
  refine ⟨rfl, _, _, rfl, ⟨Nat.le_refl _, fun e => by cases e⟩, fun _ => ⟨w1.heap.size, 0, rfl, by simp, fun j hj => ?_⟩⟩
  rw [Nat.zero_add]
  exact (eight_at (xs := x.cs) (at_new rfl) j).1
structure RimO (W w : World) (bM : Nat) (vI vD : Value) (xs : List Ino) : Prop where
  m : w.heap[bM]? = some (.cells #[vI, vD] 98 (0, 0))
  i : w.ownsRow W.heap.size 150 11 vI xs.length (inos xs)
  b : Below W.heap.size W w
  hb : W.heap.size ≤ bM
theorem RimO.lt {W w : World} {bM : Nat} {vI vD : Value} {xs : List Ino} (h : RimO W w bM vI vD xs) : bM < w.heap.size := (Array.getElem?_eq_some_iff.1 h.m).1
theorem RimO.z {W w : World} {bM : Nat} {vI vD : Value} {xs : List Ino} (h : RimO W w bM vI vD xs) : W.heap.size ≤ w.heap.size := h.b.size
theorem RimO.below {W w w' : World} {bM : Nat} {vI vD : Value} {xs : List Ino} (h : RimO W w bM vI vD xs) (hb : Below w.heap.size w w') : RimO W w' bM vI vD xs :=
  ⟨(hb.block _ h.lt).trans h.m, ((own_block h.i).below hb (Nat.le_refl _)).1, below_trans h.b hb h.z, h.hb⟩
theorem RimO.grow {W w w' : World} {bM : Nat} {vI vD v' : Value} {xs : List Ino} (h : RimO W w bM vI vD xs) (x : Ino) (ho : w'.ownsRow W.heap.size 150 11 v' (xs.length + 1) (inos xs ++ inos [x])) (hg : w.grownBy w' vI.ownBlock) :
    w'.heap[bM]? = some (.cells #[vI, vD] 98 (0, 0)) ∧ RimO W (w'.setCell ⟨bM, 0, none⟩ v') bM v' vD (xs ++ [x]) := by
  have hm : w'.heap[bM]? = some (.cells #[vI, vD] 98 (0, 0)) := (hg.block _ h.lt (own_typeM h.i h.m ino_imgM).symm).trans h.m
  have hbw := h.b.grown hg h.z (fun q hq => (h.i.lt q hq).1)
  have hm2 : (w'.setCell ⟨bM, 0, none⟩ v').heap[bM]? = some (.cells #[v', vD] 98 (0, 0)) := eight_set (xs := [vI, vD]) hm 0 v'
  refine ⟨hm, hm2, ?_, hbw.setCell h.hb _, h.hb⟩
  rw [inos_appM, List.length_append]
  exact ownsRow_setCell_other ho (own_typeM ho hm ino_imgM) _
set_option maxRecDepth 100000 in
set_option maxHeartbeats 4000000 in
theorem l12Image_any (v : Value) (ts : List Th) (ps : List Den) (w : World) (h : RdMd w v ts ps) (hn : ts.length ≤ 1048576) :
    Calls Tryz.prog 69 #[v] w fun e w' => ∃ v', e = .returned v' ∧ RdIm w' v' (imgM ts) ps ∧ Below w.heap.size w w' := by
  obtain ⟨vW, vP, rfl, ⟨us, rfl, r⟩, hD⟩ := h
  have HR := hideIt r
  have HD := hideIt hD
  rw [List.length_map] at hn
  obtain ⟨aW, cW, rfl, -, hc⟩ := r.shape
  obtain ⟨aP, cP, rfl, -, -⟩ := hD.shape
  have HC := hideIt hc
  clear r hD hc
  obtain ⟨W1, hW1⟩ : ∃ W1, W1 = (w.alloc (.cells #[.slice aW us.length cW, .slice aP ps.length cP] 33)).alloc (.cells #[.slice none 0 0, .slice none 0 0] 98) := ⟨_, rfl⟩
  have hz1 : W1.heap.size = w.heap.size + 1 + 1 := by rw [hW1]; simp
  have CA : Hid (∀ w', Below W1.heap.size W1 w' → w'.cell? ⟨w.heap.size, 0, none⟩ = some (.slice aW us.length cW) ∧ w'.cell? ⟨w.heap.size, 1, none⟩ = some (.slice aP ps.length cP)) := fun w' hb => by
    have : w'.heap[w.heap.size]? = some (.cells #[.slice aW us.length cW, .slice aP ps.length cP] 33 (0, 0)) := (hb.block _ (by omega)).trans (by rw [hW1]; exact at_old (at_new rfl))
    exact ⟨(two_cells this).1, (two_cells this).2.1⟩
  have CR : Hid (∀ w', Below W1.heap.size W1 w' → w'.heap[w.heap.size + 1]? = some (.cells #[.slice none 0 0, .slice none 0 0] 98 (0, 0))) := fun w' hb => (hb.block _ (by omega)).trans (by
    rw [hW1]
    have := at_new (w := w.alloc (.cells #[.slice aW us.length cW, .slice aP ps.length cP] 33)) (o := .cells #[.slice none 0 0, .slice none 0 0] 98) rfl
    rw [World.size_alloc] at this
    exact this)
  have BW : Hid (Below w.heap.size w W1) := by rw [hW1]; exact ((Below.refl _ _).alloc (Nat.le_refl _) _).alloc (by simp) _
  have START : Hid (RimO W1 ((W1.alloc (.cells #[] 150)).alloc (.cells #[.slice (some ⟨w.heap.size + 1 + 1, 0, none⟩) 0 0, .slice aP ps.length cP] 98)) (w.heap.size + 1 + 1 + 1) (.slice (some ⟨w.heap.size + 1 + 1, 0, none⟩) 0 0) (.slice aP ps.length cP) []) := by
    have hs2 : (W1.alloc (.cells #[] 150)).heap.size = w.heap.size + 1 + 1 + 1 := by rw [World.size_alloc, hz1]
    refine ⟨?_, ?_, ?_, by omega⟩
    · have := at_new (w := W1.alloc (.cells #[] 150)) (o := .cells #[.slice (some ⟨w.heap.size + 1 + 1, 0, none⟩) 0 0, .slice aP ps.length cP] 98) rfl
      rw [hs2] at this
      exact this
    · have := World.ownsRow_lit (e := 150) (size := 11) (base := W1.heap.size) W1 #[] 0 (Nat.le_refl _) (by simp [maxLen]) (by simp)
      have r := ((own_block this).below ((Below.refl _ (W1.alloc (.cells #[] 150))).alloc (Nat.le_refl _) (.cells #[.slice (some ⟨w.heap.size + 1 + 1, 0, none⟩) 0 0, .slice aP ps.length cP] 98)) (Nat.le_refl _)).1
      rw [hz1] at r ⊢
      exact r
    · exact ((Below.refl _ _).alloc (Nat.le_refl _) _).alloc (by simp) _
  have hz1' : w.heap.size < W1.heap.size := by omega
  have hz2' : w.heap.size + 1 < W1.heap.size := by omega
  obtain ⟨x0, x1⟩ := CA.out W1 (Below.refl _ _)
  go_enter Tryz.func69, Tryz.ntmps69
  go_wp2
  rw [← hW1]
  clear hW1
  generalize hbM : w.heap.size + 1 + 1 + 1 = bM at *
  clear hbM hz1 x0 x1
  go_loopg [4] us.length (fun g i wr => ∃ k : Nat, k + g = us.length ∧ i = .int .i64 k ∧ Hid (∃ vI, RimO W1 wr bM vI (.slice aP ps.length cP) (imgM ((us.map Prod.fst).take k))))
  case atStart => exact ⟨0, by omega, rfl, _, START.out⟩
  case round =>
    obtain ⟨k, hk, rfl, J⟩ := hrel
    obtain ⟨vI, I⟩ := J.out
    have I := hideIt I
    obtain ⟨x0, x1⟩ := CA.out wr I.out.b
    clear J START
    by_cases hlt : k < us.length
    · obtain ⟨b, o, rfl, hbl, hcell⟩ := HC.out (by omega)
      obtain ⟨c0, c1, c2⟩ := hcell k hlt
      have BB := hideIt (below_trans BW.out I.out.b BW.out.size)
      have d0 := (BB.out.cell (p := ⟨b, o + k * 3, none⟩) hbl).trans c0
      have d1 := (BB.out.cell (p := ⟨b, o + k * 3 + 1, none⟩) hbl).trans c1
      have d2 := (BB.out.cell (p := ⟨b, o + k * 3 + 2, none⟩) hbl).trans c2
      obtain ⟨a1, y1, ev⟩ := HR.out.val k hlt
      have ML : Hid ((imgM ((us.map Prod.fst).take k)).length = k) := by unfold Hid; rw [imgM_len, List.length_take, List.length_map]; omega
      have MN : Hid (imgM ((us.map Prod.fst).take (k + 1)) = imgM ((us.map Prod.fst).take k) ++ [imO us[k].1]) := by
        unfold Hid
        rw [imgM_take (by rw [List.length_map]; exact hlt), List.getElem_map]
      rw [ev] at d2
      clear hcell c0 c1 c2 ev HR HC HD BB
      generalize us[k].1 = t at *
      generalize imgM ((us.map Prod.fst).take k) = xs at *
      obtain ⟨n0, n1, _, _⟩ := two_cells I.out.m
      have nb := I.out.lt
      have IA := hideIt ((I.out.below ((Below.refl _ _).alloc (Nat.le_refl _) (.cells #[.int .i64 t.kind, .int .i64 t.links, .slice a1 t.pages.length y1] 102))).below ((Below.refl _ _).alloc (Nat.le_refl _) (.cells #[.int .i64 t.kind, .int .i64 t.pages.length, .int .i64 t.links, .int .i64 0, .int .i64 0, .int .i64 0, .int .i64 0, .int .i64 0, .int .i64 0, .int .i64 0, .int .i64 0] 150)))
      have RB : Hid (Rd ((wr.alloc (.cells #[.int .i64 t.kind, .int .i64 t.links, .slice a1 t.pages.length y1] 102)).alloc (.cells #[.int .i64 t.kind, .int .i64 t.pages.length, .int .i64 t.links, .int .i64 0, .int .i64 0, .int .i64 0, .int .i64 0, .int .i64 0, .int .i64 0, .int .i64 0, .int .i64 0] 150)) 11 (.slice (some ⟨wr.heap.size + 1, 0, none⟩) 1 1) 1 (inos [imO t])) := by
        have q := rd_inoM (wr.alloc (.cells #[.int .i64 t.kind, .int .i64 t.links, .slice a1 t.pages.length y1] 102)) (imO t)
        rw [World.size_alloc] at q
        exact q
      go_wp2_with (at_builtin; refine wpList_append_rd _ rfl (.tmp 23) (.tmp 32) 96 rfl W1.heap.size 150 (.agg #[.int .i64 0, .int .i64 0, .int .i64 0, .int .i64 0, .int .i64 0, .int .i64 0, .int .i64 0, .int .i64 0, .int .i64 0, .int .i64 0, .int .i64 0]) 11 88 Tryz.underlying96 infoIno rfl (by decide) _ _ _ rfl IA.out.i _ 1 _ rfl RB.out (inos_onesM _) (by rw [ML.out]; unfold maxLen; omega) (by rw [ML.out]; omega) IA.out.z ?_)
      intro vN wN hownN hgrN
      rcases (own_block hownN).shape with ⟨_, eN, _⟩ | ⟨bN, cN, rfl, _, _⟩
      · omega
      obtain ⟨g1, g2⟩ := IA.out.grow (imO t) hownN hgrN
      have G := hideIt g2
      rw [← MN.out] at G
      clear n0 n1 g2 d0 d1 d2 x0 x1 IA RB hownN hgrN ML MN I
      obtain ⟨n0, n1, n2, n3⟩ := two_cells g1
      clear g1
      go_wp2
      go_roundg (us.length - (k + 1))
      case measure => omega
      case rel => exact ⟨k + 1, by omega, by go_num, _, G.out⟩
    · obtain rfl : k = us.length := by omega
      have RI : Hid (∀ u0 u1, RdN ((wr.setCell ⟨w.heap.size + 1, 0, none⟩ u0).setCell ⟨w.heap.size + 1, 1, none⟩ u1) vI (imgM (us.map Prod.fst)) ∧ RdD ((wr.setCell ⟨w.heap.size + 1, 0, none⟩ u0).setCell ⟨w.heap.size + 1, 1, none⟩ u1) (.slice aP ps.length cP) ps) := fun u0 u1 => by
        have OF : Outside (w.heap.size + 1) (w.heap.size + 1 + 1) wr ((wr.setCell ⟨w.heap.size + 1, 0, none⟩ u0).setCell ⟨w.heap.size + 1, 1, none⟩ u1) := by
          repeat (refine Outside.setCell ?_ (by simp only; omega) (by simp only; omega) _)
          exact Outside.refl _ _ _
        have q : Row wr 150 11 W1.heap.size wr.heap.size vI _ _ := own_block I.out.i
        have q2 := (q.outside OF (.inr (by omega)) (Nat.le_refl _)).rd
        rw [show us.length = (us.map Prod.fst).length by rw [List.length_map], List.take_length] at q2
        refine ⟨q2, ?_⟩
        have B2 : Below w.heap.size w ((wr.setCell ⟨w.heap.size + 1, 0, none⟩ u0).setCell ⟨w.heap.size + 1, 1, none⟩ u1) := ((below_trans BW.out I.out.b BW.out.size).setCell (by simp only; omega) _).setCell (by simp only; omega) _
        exact Rd.below HD.out B2
      have BB := hideIt (below_trans BW.out I.out.b BW.out.size)
      have R0 := hideIt (CR.out wr I.out.b)
      obtain ⟨n0, n1, _, _⟩ := two_cells I.out.m
      obtain ⟨r0, r1, r2, r3⟩ := two_cells R0.out
      obtain ⟨-, aI, cI, rfl, -⟩ := id (own_block I.out.i).rd
      generalize (imgM ((us.map Prod.fst).take us.length)).length = nI at *
      clear HR HC HD
      go_wp2
      have S1 := two_set0 R0.out (.slice aI nI cI)
      have S2 : ((wr.setCell ⟨w.heap.size + 1, 0, none⟩ (.slice aI nI cI)).setCell ⟨w.heap.size + 1, 1, none⟩ (.slice aP ps.length cP)).heap[w.heap.size + 1]? = some (.cells #[.slice aI nI cI, .slice aP ps.length cP] 98 (0, 0)) := eight_set (xs := [.slice aI nI cI, .slice none 0 0]) S1 1 _
      obtain ⟨s0, s1, -, -⟩ := two_cells S2
      refine bodyPost_ret (v := .agg #[.slice aI nI cI, .slice aP ps.length cP]) (by simp [results, Tryz.results69, go_sem, s0, s1]) rfl ?_
      refine ⟨_, rfl, ?_, (BB.out.setCell (by simp only; omega) _).setCell (by simp only; omega) _⟩
      exact ⟨_, _, rfl, (RI.out _ _).1, (RI.out _ _).2⟩
end Go.Proofs.YtmeiionabonhnaaGreatDoor

namespace Go.Proofs.YtmeiionabonhnaaGreatDoor
open Go.RowKit
def pwB (l : List Int) : Bool := l.all wordB
def thB (t : Th) : Bool := decide (t.pages.length ≤ 8) && pwB t.pages
def thsB (ts : List Th) : Bool := ts.all thB
def modB (ts : List Th) (ps : List Den) : Bool := decide (ts.length = 16) && (thsB ts && imgB (imgM ts) ps)
theorem thsB_take {ts : List Th} {k : Nat} (h : k < ts.length) (e : thsB (ts.take k) = true) : thsB (ts.take (k + 1)) = thB ts[k] := by
  unfold thsB at *
  rw [List.take_add_one, List.getElem?_eq_getElem h, List.all_append, e]
  simp
theorem thsB_not {ts : List Th} {k : Nat} (h : k < ts.length) (e : thB ts[k] = false) : thsB ts = false := by
  unfold thsB
  rw [List.all_eq_false]
  exact ⟨_, List.getElem_mem h, by rw [e]; simp⟩
theorem pwB_take {l : List Int} {k : Nat} (h : k < l.length) (e : pwB (l.take k) = true) : pwB (l.take (k + 1)) = wordB l[k] := by
  unfold pwB at *
  rw [List.take_add_one, List.getElem?_eq_getElem h, List.all_append, e]
  simp
theorem pwB_not {l : List Int} {k : Nat} (h : k < l.length) (e : wordB l[k] = false) : pwB l = false := by
  unfold pwB
  rw [List.all_eq_false]
  exact ⟨_, List.getElem_mem h, by rw [e]; simp⟩
theorem imO_R (t : Th) : (imO t).R := by
  intro z hz
  simp [imO, Ino.map] at hz
  omega
theorem imgM_R (ts : List Th) : ∀ k (h : k < (imgM ts).length), (imgM ts)[k].R := fun k h => by
  have q : (imgM ts)[k] = imO (ts[k]'(by rw [imgM_len] at h; exact h)) := by simp [imgM]
  rw [q]
  exact imO_R _
theorem RdMd.below2 {w w' : World} {v : Value} {ts : List Th} {ps : List Den} (h : RdMd w v ts ps) (hb : Below w.heap.size w w') : RdMd w' v ts ps := by
  obtain ⟨vW, vP, rfl, a, b⟩ := h
  exact ⟨vW, vP, rfl, a.below hb, Rd.below b hb⟩
set_option maxRecDepth 100000 in
set_option maxHeartbeats 4000000 in
theorem specModelOK_any (v : Value) (ts : List Th) (ps : List Den) (w : World) (h : RdMd w v ts ps) (hn : ts.length ≤ 1048576) (hp : ps.length ≤ 1048576) (hs : ∀ k (h : k < ps.length), ps[k].name.size ≤ maxLen) :
    Calls Tryz.prog 29 #[v] w fun e w' => e = .returned (.bool (modB ts ps)) ∧ Below w.heap.size w w' := by
  have LI := hideIt (fun w1 (hb : Below w.heap.size w w1) => l12Image_any v ts ps w1 (h.below2 hb) hn)
  have LO := hideIt (fun v1 w1 (h1 : RdIm w1 v1 (imgM ts) ps) => specImageOK_any v1 (imgM ts) ps w1 h1 (by rw [imgM_len]; exact hn) hp (imgM_R ts) hs)
  obtain ⟨vW, vP, rfl, ⟨us, rfl, r⟩, hD⟩ := h
  have HR := hideIt r
  rw [List.length_map] at hn
  obtain ⟨aW, cW, rfl, -, hc⟩ := r.shape
  obtain ⟨aP, cP, rfl, -, -⟩ := hD.shape
  have HC := hideIt hc
  clear r hD hc hs hp
  have CA : Hid (∀ w', Below (w.alloc (.cells #[.slice aW us.length cW, .slice aP ps.length cP] 33)).heap.size (w.alloc (.cells #[.slice aW us.length cW, .slice aP ps.length cP] 33)) w' → w'.cell? ⟨w.heap.size, 0, none⟩ = some (.slice aW us.length cW) ∧ w'.cell? ⟨w.heap.size, 1, none⟩ = some (.slice aP ps.length cP)) := fun w' hb => by
    have : w'.heap[w.heap.size]? = some (.cells #[.slice aW us.length cW, .slice aP ps.length cP] 33 (0, 0)) := (hb.block _ (by simp)).trans (at_new rfl)
    exact ⟨(two_cells this).1, (two_cells this).2.1⟩
  obtain ⟨W, hW⟩ : ∃ W, W = w.alloc (.cells #[.slice aW us.length cW, .slice aP ps.length cP] 33) := ⟨_, rfl⟩
  have BW : Hid (Below w.heap.size w W) := by rw [hW]; exact (Below.refl _ _).alloc (Nat.le_refl _) _
  rw [← hW] at CA
  obtain ⟨x0, x1⟩ := CA.out W (Below.refl _ _)
  by_cases c16 : us.length = 16
  · obtain ⟨R, ER⟩ : ∃ R, Hid (R = modB (us.map Prod.fst) ps) := ⟨_, rfl⟩
    rw [← ER.out]
    have E1 : Hid (thsB (us.map Prod.fst) = true → imgB (imgM (us.map Prod.fst)) ps = R) := fun a => by rw [ER.out]; unfold modB; rw [List.length_map, c16, a]; rfl
    have E0 : Hid (∀ k (h : k < us.length), thB us[k].1 = false → false = R) := fun k h a => by
      rw [ER.out]; unfold modB
      rw [thsB_not (ts := us.map Prod.fst) (k := k) (by rw [List.length_map]; exact h) (by rw [List.getElem_map]; exact a)]
      simp
    have TK : Hid (∀ k (h : k < us.length), thsB ((us.map Prod.fst).take k) = true → thB us[k].1 = true → thsB ((us.map Prod.fst).take (k + 1)) = true) := fun k h a b => by
      rw [thsB_take (by rw [List.length_map]; exact h) a, List.getElem_map]
      exact b
    have TL : Hid (thsB ((us.map Prod.fst).take us.length) = true → thsB (us.map Prod.fst) = true) := fun a => by
      rw [show us.length = (us.map Prod.fst).length by rw [List.length_map], List.take_length] at a
      exact a
    clear ER
    rw [c16] at x0
    rw [c16] at CA
    go_enter Tryz.func29, Tryz.ntmps29
    rw [c16]
    go_wp2
    rw [c16] at hW
    rw [← hW]
    clear hW
    go_loopg [3] 16 (fun g i wr => ∃ k : Nat, k + g = 16 ∧ i = .int .i64 k ∧ wr = W ∧ Hid (thsB ((us.map Prod.fst).take k) = true))
    case atStart => exact ⟨0, rfl, rfl, rfl, rfl⟩
    case round =>
      obtain ⟨k, hk, rfl, rfl, J⟩ := hrel
      by_cases hlt : k < 16
      · have hlt' : k < us.length := by omega
        obtain ⟨b, o, rfl, hbl, hcell⟩ := HC.out (by omega)
        obtain ⟨c0, c1, c2⟩ := hcell k hlt'
        have d2 := (BW.out.cell (p := ⟨b, o + k * 3 + 2, none⟩) hbl).trans c2
        have RP := hideIt (HR.out.2 k hlt')
        obtain ⟨a1, y1, ev, -, hq⟩ := RP.out.shape
        rw [ev] at d2
        have NO := hideIt (E0.out k hlt')
        have YES := hideIt (TK.out k hlt' J.out)
        clear hcell c0 c1 c2 ev HR HC RP TK J E0
        generalize us[k].1 = t at *
        by_cases c8 : t.pages.length ≤ 8
        · have c8' : ¬ (t.pages.length : Int) > 8 := by omega
          go_wp2_with fail
          generalize gk = G0 at *
          go_loopg [4] t.pages.length (fun g i wq => ∃ m : Nat, m + g = t.pages.length ∧ i = .int .i64 m ∧ wq = wr ∧ Hid (pwB (t.pages.take m) = true))
          case atStart => exact ⟨0, by omega, rfl, rfl, rfl⟩
          case round =>
            rename_i wq
            obtain ⟨m, hm, rfl, rfl, Jm⟩ := hrel
            by_cases hlm : m < t.pages.length
            · obtain ⟨b', o', rfl, hbl', hcell'⟩ := hq (by omega)
              have p0 := (BW.out.cell (p := ⟨b', o' + m, none⟩) hbl').trans (hcell' m hlm)
              by_cases cw : wordB t.pages[m] = true
              · have JN : Hid (pwB (t.pages.take (m + 1)) = true) := (pwB_take hlm Jm.out).trans cw
                clear hcell' Jm
                go_wp2_with (go_at_call 67; refine (l01Word_any _ _).mono ?_; rw [cw]; rintro e w1 ⟨rfl, rfl⟩)
                go_roundg (t.pages.length - (m + 1))
                case measure => omega
                case rel => exact ⟨m + 1, by omega, by go_num, rfl, JN.out⟩
              · have cw : wordB t.pages[m] = false := by simpa using cw
                have N1 := hideIt (NO.out (by unfold thB; rw [pwB_not hlm cw]; simp))
                clear hcell' Jm
                go_wp2_with (go_at_call 67; refine (l01Word_any _ _).mono ?_; rw [cw]; rintro e w1 ⟨rfl, rfl⟩)
                go_ret
                exact ⟨by show Ending.returned (.bool false) = _; rw [N1.out], BW.out⟩
            · obtain rfl : m = t.pages.length := by omega
              have Y1 := YES.out (by unfold thB; rw [List.take_length] at Jm; rw [Jm.out]; simp [c8])
              have Y1 := hideIt Y1
              clear Jm hq
              go_wp2
              go_roundg (16 - (k + 1))
              case measure => omega
              case rel => exact ⟨k + 1, by omega, by go_num, rfl, Y1.out⟩
        · have N1 := hideIt (NO.out (by unfold thB; simp [c8]))
          have c8' : (t.pages.length : Int) > 8 := by omega
          go_wp2
          go_ret
          exact ⟨by show Ending.returned (.bool false) = _; rw [N1.out], BW.out⟩
      · obtain rfl : k = 16 := by omega
        have F := hideIt (E1.out (TL.out (by rw [c16]; exact J.out)))
        clear J HR HC TK E0 E1 TL
        rw [c16] at LI
        go_wp2_with fail
        refine (LI.out wr BW.out).mono ?_
        rintro e w1 ⟨v1, rfl, hr1, hb1⟩
        go_wp2_with fail
        refine (LO.out v1 w1 hr1).mono ?_
        rw [F.out]
        rintro e w2 ⟨rfl, hb2⟩
        go_wp2
        go_ret
        exact ⟨rfl, below_trans (below_trans BW.out hb1 BW.out.size) hb2 (Nat.le_trans BW.out.size hb1.size)⟩
  · have E : modB (us.map Prod.fst) ps = false := by unfold modB; rw [List.length_map]; simp [c16]
    rw [E]
    have c16' : ¬ (us.length : Int) = 16 := by omega
    clear LI LO HC HR E
    go_enter Tryz.func29, Tryz.ntmps29
    go_wp2
    go_ret
    rw [← hW]
    exact ⟨rfl, BW.out⟩
end Go.Proofs.YtmeiionabonhnaaGreatDoor

namespace Go.Proofs.YtmeiionabonhnaaGreatDoor
open Go.RowKit
set_option maxRecDepth 100000 in
set_option maxHeartbeats 4000000 in
theorem shapeOf_any (v : Value) (ts : List Th) (ps : List Den) (w : World) (h : RdMd w v ts ps) (hn : ts.length ≤ 1048576) :
    Calls Tryz.prog 35 #[v] w fun e w' => ∃ v', e = .returned v' ∧ RdIm w' v' (imgM ts) ps ∧ Below w.heap.size w w' := by
  obtain ⟨vW, vP, rfl, ⟨us, rfl, r⟩, hD⟩ := h
  have HR := hideIt r
  have HD := hideIt hD
  rw [List.length_map] at hn
  obtain ⟨aW, cW, rfl, -, hc⟩ := r.shape
  obtain ⟨aP, cP, rfl, -, -⟩ := hD.shape
  have HC := hideIt hc
  clear r hD hc
  obtain ⟨W1, hW1⟩ : ∃ W1, W1 = (w.alloc (.cells #[.slice aW us.length cW, .slice aP ps.length cP] 33)).alloc (.cells #[.slice none 0 0, .slice none 0 0] 98) := ⟨_, rfl⟩
  have hz1 : W1.heap.size = w.heap.size + 1 + 1 := by rw [hW1]; simp
  have CA : Hid (∀ w', Below W1.heap.size W1 w' → w'.cell? ⟨w.heap.size, 0, none⟩ = some (.slice aW us.length cW) ∧ w'.cell? ⟨w.heap.size, 1, none⟩ = some (.slice aP ps.length cP)) := fun w' hb => by
    have : w'.heap[w.heap.size]? = some (.cells #[.slice aW us.length cW, .slice aP ps.length cP] 33 (0, 0)) := (hb.block _ (by omega)).trans (by rw [hW1]; exact at_old (at_new rfl))
    exact ⟨(two_cells this).1, (two_cells this).2.1⟩
  have CR : Hid (∀ w', Below W1.heap.size W1 w' → w'.heap[w.heap.size + 1]? = some (.cells #[.slice none 0 0, .slice none 0 0] 98 (0, 0))) := fun w' hb => (hb.block _ (by omega)).trans (by
    rw [hW1]
    have := at_new (w := w.alloc (.cells #[.slice aW us.length cW, .slice aP ps.length cP] 33)) (o := .cells #[.slice none 0 0, .slice none 0 0] 98) rfl
    rw [World.size_alloc] at this
    exact this)
  have BW : Hid (Below w.heap.size w W1) := by rw [hW1]; exact ((Below.refl _ _).alloc (Nat.le_refl _) _).alloc (by simp) _
  have START : Hid (RimO W1 (W1.alloc (.cells #[.slice none 0 0, .slice aP ps.length cP] 98)) (w.heap.size + 1 + 1) (.slice none 0 0) (.slice aP ps.length cP) []) := by
    refine ⟨?_, (Row.nil _ _ _ W1.heap.size (W1.heap.size + 1)).1, ?_, by omega⟩
    · have := at_new (w := W1) (o := .cells #[.slice none 0 0, .slice aP ps.length cP] 98) rfl
      rw [hz1] at this
      exact this
    · exact (Below.refl _ _).alloc (Nat.le_refl _) _
  have hz1' : w.heap.size < W1.heap.size := by omega
  have hz2' : w.heap.size + 1 < W1.heap.size := by omega
  obtain ⟨x0, x1⟩ := CA.out W1 (Below.refl _ _)
  go_enter Tryz.func35, Tryz.ntmps35
  go_wp2
  rw [← hW1]
  clear hW1
  generalize hbM : w.heap.size + 1 + 1 = bM at *
  clear hbM hz1 x0 x1
  go_loopg [12] us.length (fun g i wr => ∃ k : Nat, k + g = us.length ∧ i = .int .i64 k ∧ Hid (∃ vI, RimO W1 wr bM vI (.slice aP ps.length cP) (imgM ((us.map Prod.fst).take k))))
  case atStart => exact ⟨0, by omega, rfl, _, START.out⟩
  case round =>
    obtain ⟨k, hk, rfl, J⟩ := hrel
    obtain ⟨vI, I⟩ := J.out
    have I := hideIt I
    obtain ⟨x0, x1⟩ := CA.out wr I.out.b
    clear J START
    by_cases hlt : k < us.length
    · obtain ⟨b, o, rfl, hbl, hcell⟩ := HC.out (by omega)
      obtain ⟨c0, c1, c2⟩ := hcell k hlt
      have BB := hideIt (below_trans BW.out I.out.b BW.out.size)
      have d0 := (BB.out.cell (p := ⟨b, o + k * 3, none⟩) hbl).trans c0
      have d1 := (BB.out.cell (p := ⟨b, o + k * 3 + 1, none⟩) hbl).trans c1
      have d2 := (BB.out.cell (p := ⟨b, o + k * 3 + 2, none⟩) hbl).trans c2
      obtain ⟨a1, y1, ev⟩ := HR.out.val k hlt
      have ML : Hid ((imgM ((us.map Prod.fst).take k)).length = k) := by unfold Hid; rw [imgM_len, List.length_take, List.length_map]; omega
      have MN : Hid (imgM ((us.map Prod.fst).take (k + 1)) = imgM ((us.map Prod.fst).take k) ++ [imO us[k].1]) := by
        unfold Hid
        rw [imgM_take (by rw [List.length_map]; exact hlt), List.getElem_map]
      rw [ev] at d2
      clear hcell c0 c1 c2 ev HR HC HD BB
      generalize us[k].1 = t at *
      generalize imgM ((us.map Prod.fst).take k) = xs at *
      obtain ⟨n0, n1, _, _⟩ := two_cells I.out.m
      have nb := I.out.lt
      have IA := hideIt ((I.out.below ((Below.refl _ _).alloc (Nat.le_refl _) (.cells #[.int .i64 t.kind, .int .i64 t.links, .slice a1 t.pages.length y1] 102))).below ((Below.refl _ _).alloc (Nat.le_refl _) (.cells #[.int .i64 t.kind, .int .i64 t.pages.length, .int .i64 t.links, .int .i64 0, .int .i64 0, .int .i64 0, .int .i64 0, .int .i64 0, .int .i64 0, .int .i64 0, .int .i64 0] 150)))
      have RB : Hid (Rd ((wr.alloc (.cells #[.int .i64 t.kind, .int .i64 t.links, .slice a1 t.pages.length y1] 102)).alloc (.cells #[.int .i64 t.kind, .int .i64 t.pages.length, .int .i64 t.links, .int .i64 0, .int .i64 0, .int .i64 0, .int .i64 0, .int .i64 0, .int .i64 0, .int .i64 0, .int .i64 0] 150)) 11 (.slice (some ⟨wr.heap.size + 1, 0, none⟩) 1 1) 1 (inos [imO t])) := by
        have q := rd_inoM (wr.alloc (.cells #[.int .i64 t.kind, .int .i64 t.links, .slice a1 t.pages.length y1] 102)) (imO t)
        rw [World.size_alloc] at q
        exact q
      go_wp2_with (at_builtin; refine wpList_append_rd _ rfl (.tmp 17) (.tmp 26) 96 rfl W1.heap.size 150 (.agg #[.int .i64 0, .int .i64 0, .int .i64 0, .int .i64 0, .int .i64 0, .int .i64 0, .int .i64 0, .int .i64 0, .int .i64 0, .int .i64 0, .int .i64 0]) 11 88 Tryz.underlying96 infoIno rfl (by decide) _ _ _ rfl IA.out.i _ 1 _ rfl RB.out (inos_onesM _) (by rw [ML.out]; unfold maxLen; omega) (by rw [ML.out]; omega) IA.out.z ?_)
      intro vN wN hownN hgrN
      rcases (own_block hownN).shape with ⟨_, eN, _⟩ | ⟨bN, cN, rfl, _, _⟩
      · omega
      obtain ⟨g1, g2⟩ := IA.out.grow (imO t) hownN hgrN
      have G := hideIt g2
      rw [← MN.out] at G
      clear n0 n1 g2 d0 d1 d2 x0 x1 IA RB hownN hgrN ML MN I
      obtain ⟨n0, n1, n2, n3⟩ := two_cells g1
      clear g1
      go_wp2
      go_roundg (us.length - (k + 1))
      case measure => omega
      case rel => exact ⟨k + 1, by omega, by go_num, _, G.out⟩
    · obtain rfl : k = us.length := by omega
      have RI : Hid (∀ u0 u1, RdN ((wr.setCell ⟨w.heap.size + 1, 0, none⟩ u0).setCell ⟨w.heap.size + 1, 1, none⟩ u1) vI (imgM (us.map Prod.fst)) ∧ RdD ((wr.setCell ⟨w.heap.size + 1, 0, none⟩ u0).setCell ⟨w.heap.size + 1, 1, none⟩ u1) (.slice aP ps.length cP) ps) := fun u0 u1 => by
        have OF : Outside (w.heap.size + 1) (w.heap.size + 1 + 1) wr ((wr.setCell ⟨w.heap.size + 1, 0, none⟩ u0).setCell ⟨w.heap.size + 1, 1, none⟩ u1) := by
          repeat (refine Outside.setCell ?_ (by simp only; omega) (by simp only; omega) _)
          exact Outside.refl _ _ _
        have q : Row wr 150 11 W1.heap.size wr.heap.size vI _ _ := own_block I.out.i
        have q2 := (q.outside OF (.inr (by omega)) (Nat.le_refl _)).rd
        rw [show us.length = (us.map Prod.fst).length by rw [List.length_map], List.take_length] at q2
        refine ⟨q2, ?_⟩
        have B2 : Below w.heap.size w ((wr.setCell ⟨w.heap.size + 1, 0, none⟩ u0).setCell ⟨w.heap.size + 1, 1, none⟩ u1) := ((below_trans BW.out I.out.b BW.out.size).setCell (by simp only; omega) _).setCell (by simp only; omega) _
        exact Rd.below HD.out B2
      have BB := hideIt (below_trans BW.out I.out.b BW.out.size)
      have R0 := hideIt (CR.out wr I.out.b)
      obtain ⟨n0, n1, _, _⟩ := two_cells I.out.m
      obtain ⟨r0, r1, r2, r3⟩ := two_cells R0.out
      obtain ⟨-, aI, cI, rfl, -⟩ := id (own_block I.out.i).rd
      generalize (imgM ((us.map Prod.fst).take us.length)).length = nI at *
      clear HR HC HD
      go_wp2
      have S1 := two_set0 R0.out (.slice aI nI cI)
      have S2 : ((wr.setCell ⟨w.heap.size + 1, 0, none⟩ (.slice aI nI cI)).setCell ⟨w.heap.size + 1, 1, none⟩ (.slice aP ps.length cP)).heap[w.heap.size + 1]? = some (.cells #[.slice aI nI cI, .slice aP ps.length cP] 98 (0, 0)) := eight_set (xs := [.slice aI nI cI, .slice none 0 0]) S1 1 _
      obtain ⟨s0, s1, -, -⟩ := two_cells S2
      refine bodyPost_ret (v := .agg #[.slice aI nI cI, .slice aP ps.length cP]) (by simp [results, Tryz.results35, go_sem, s0, s1]) rfl ?_
      refine ⟨_, rfl, ?_, (BB.out.setCell (by simp only; omega) _).setCell (by simp only; omega) _⟩
      exact ⟨_, _, rfl, (RI.out _ _).1, (RI.out _ _).2⟩
end Go.Proofs.YtmeiionabonhnaaGreatDoor
