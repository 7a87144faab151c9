/- Paths are looked up as the document says, or it is told why not: the walk of the law. -/
import Derived.Test.YtlgghookekokaaaGreatDoorYB
namespace Go.Proofs.YtlgghookekokaaaGreatDoor
open Go.RowKit

/-- Texts, each behind a slash. -/
def joinB (l : List ByteArray) : ByteArray := l.foldl (fun a s => a ++ (slB ++ s)) ⟨#[]⟩
theorem joinB_take {l : List ByteArray} {m : Nat} (h : m < l.length) : joinB (l.take (m + 1)) = joinB (l.take m) ++ (slB ++ l[m]) := by
  unfold joinB
  rw [List.take_add_one, List.getElem?_eq_getElem h, List.foldl_append]
  rfl
theorem join_size : ∀ (l : List ByteArray) (a : ByteArray), (∀ s ∈ l, s.size ≤ 10) → (l.foldl (fun a s => a ++ (slB ++ s)) a).size ≤ a.size + 11 * l.length
  | [], a, _ => Nat.le_refl _
  | s :: l, a, h => by
    have q := join_size l (a ++ (slB ++ s)) (fun t ht => h t (List.mem_cons_of_mem _ ht))
    have z := h s List.mem_cons_self
    have e : (a ++ (slB ++ s)).size = a.size + (1 + s.size) := by rw [ByteArray.size_append, ByteArray.size_append]; rfl
    rw [e] at q
    rw [List.foldl_cons, List.length_cons]
    omega
theorem paths_cut : (oneP ++ twoP).all (fun p => spC p == 0 && (decide ((spR p).length ≤ 2) && ((spR p).all (fun s => decide (s.size ≤ 10)) && decide (joinB (spR p) = p)))) = true := by kernel_rfl
theorem PathD.cut {p : ByteArray} (h : PathD p) : spC p = 0 ∧ (spR p).length ≤ 2 ∧ (∀ s ∈ spR p, s.size ≤ 10) ∧ joinB (spR p) = p := by
  have q := List.all_eq_true.1 paths_cut p (List.mem_append.2 h)
  simp only [Bool.and_eq_true, beq_iff_eq, decide_eq_true_eq, List.all_eq_true] at q
  exact q

set_option maxRecDepth 100000 in
set_option maxHeartbeats 4000000 in
theorem pathDrawn_any (v : Value) (bs : List Int) (w : World) (h : RdB w v bs) (hl : bs.length ≤ 1048576) :
    Calls Tryz.prog 34 #[v] w fun e w' => ∃ p, e = .returned (.string p) ∧ PathD p ∧ Below w.heap.size w w' := by
  have H := hideIt h
  obtain ⟨aC, cC, rfl, _⟩ := h.shape
  clear h
  go_enter Tryz.func34, Tryz.ntmps34
  go_wp2_with fail
  refine (l00Source_any _ bs w H.out hl).mono ?_
  rintro e w1 ⟨rfl, S, hb⟩
  have S1 := hideIt S.src
  clear S hb
  go_wp2_with fail
  refine (srcPath_any w w1 _ _ _ bs S1.out (by omega)).mono ?_
  rintro e w2 ⟨s, rfl, hs, S, -⟩
  have E := hideIt hs
  have B := hideIt S.below
  clear hs S
  go_wp2
  go_ret
  exact ⟨_, rfl, E.out, B.out⟩

theorem idle_RL {ws es : List Int} {ns : List Ino} {ds : List Den} (h : Idle ws es ns ds) : (∀ k (h : k < ns.length), ns[k].R) ∧ ∀ k (h : k < ds.length), ds[k].name.size ≤ maxLen := by
  have q := inosOf_R h.pm 16
  have r := densOf_name (layW ws []) 24
  rw [show inosOf (layW ws []) 16 = ns from h.wi.inos] at q
  rw [show densOf (layW ws []) 24 = ds from h.wi.dens] at r
  exact ⟨q, r⟩

set_option maxRecDepth 100000 in
set_option maxHeartbeats 32000000 in
theorem fnLookup_law (vA vB : Value) (cs bs : List Int) (w : World) (hA : RdB w vA cs) (hB : RdB w vB bs) (hT : TS w) (hE : ED w) (hF : FD w) :
    Calls Tryz.prog 6 #[vA, vB] w fun e w' => e = .returned (.bool true) ∧ Below w.heap.size w w' := by
  obtain ⟨aA, cA, rfl, _⟩ := hA.shape
  obtain ⟨aB, cB, rfl, _⟩ := hB.shape
  have HA := hideIt hA
  have HB := hideIt hB
  have GT := hideIt (And.intro hT (And.intro hE hF))
  clear hA hB hT hE hF
  by_cases c1 : 1048576 < cs.length
  · go_enter Tryz.func6, Tryz.ntmps6
    go_wp2
    go_ret
    exact ⟨rfl, Below.refl _ _⟩
  by_cases c2 : 1048576 < bs.length
  · go_enter Tryz.func6, Tryz.ntmps6
    go_wp2
    go_ret
    exact ⟨rfl, Below.refl _ _⟩
  go_enter Tryz.func6, Tryz.ntmps6
  go_wp2_with fail
  refine (imageOf_any _ cs w HA.out (by omega)).mono ?_
  rintro e w1 ⟨v1, ws, es, ns, ds, rfl, hi, hr1, hb1⟩
  have R1 := hideIt hr1
  obtain ⟨vI, vD, rfl, h1, h2⟩ := hr1
  obtain ⟨l16, l24, _⟩ := pimg_all hi.img
  have L16 := hideIt l16
  have L24 := hideIt l24
  obtain ⟨-, aW, cW, hvI, -⟩ := h1
  obtain ⟨-, aP, cP, hvD, -⟩ := h2
  subst hvI
  subst hvD
  obtain ⟨W1, hW1⟩ : ∃ W1, W1 = w1.alloc (.cells #[.slice aW ns.length cW, .slice aP ds.length cP] 26) := ⟨_, rfl⟩
  have A1 : Hid (Below w1.heap.size w1 W1) := by rw [hW1]; exact (Below.refl _ _).alloc (Nat.le_refl _) _
  have B1 := hideIt (below_trans hb1 A1.out hb1.size)
  have M1 : Hid (W1.heap[w1.heap.size]? = some (.cells #[.slice aW ns.length cW, .slice aP ds.length cP] 26 (0, 0))) := by rw [hW1]; exact at_new rfl
  have R1' := hideIt (R1.out.below A1.out)
  have GR := hideIt (idle_RL hi)
  clear l16 l24 hi hb1 R1
  go_upto_region 4 with fail
  rw [← hW1]
  clear hW1
  generalize w1.heap.size = mb at *
  go_wp2_with fail
  refine (pathDrawn_any _ bs W1 (HB.out.below B1.out) (by omega)).mono ?_
  rintro e w2 ⟨p, rfl, hp, hb2⟩
  obtain ⟨p0, p1, p2, p3⟩ := hp.cut
  have PQ := hideIt (And.intro p1 (And.intro p2 p3))
  have M2 := hideIt ((hb2.block _ (Array.getElem?_eq_some_iff.1 M1.out).1).trans M1.out)
  have R2 := hideIt (R1'.out.below hb2)
  have Bw := hideIt (below_trans B1.out hb2 B1.out.size)
  have B2 := hideIt (Below.refl w2.heap.size w2)
  have GW : Hid (TS w2 ∧ ED w2 ∧ FD w2) := ⟨GT.out.1.below Bw.out, GT.out.2.1.below Bw.out, GT.out.2.2.below Bw.out⟩
  have K3 := hideIt (fun w' (hb : Below w2.heap.size w2 w') => implLookup_any _ ns ds p w' (R2.out.below hb) (by have := L16.out; omega) (by have := L24.out; omega) (GW.out.1.below hb) (GW.out.2.1.below hb) (GW.out.2.2.below hb) GR.out.1 GR.out.2)
  have K4 := hideIt (fun w' (hb : Below w2.heap.size w2 w') => specLookup_any _ ns ds p w' (R2.out.below hb) (by have := L16.out; omega) (by have := L24.out; omega) GR.out.1 GR.out.2)
  have K5 := hideIt (fun w' (hb : Below w2.heap.size w2 w') => implParent_any _ ns ds p w' (R2.out.below hb) (by have := L16.out; omega) (by have := L24.out; omega) (GW.out.1.below hb) (GW.out.2.1.below hb) (GW.out.2.2.below hb) GR.out.1 GR.out.2)
  have K6 := hideIt (fun w' (hb : Below w2.heap.size w2 w') => specParent_any _ ns ds p w' (R2.out.below hb) (by have := L16.out; omega) (by have := L24.out; omega) GR.out.1 GR.out.2)
  have K7 := hideIt (fun w' => implSplitPath_any p w')
  have K8 := hideIt (fun w' => implPathOK_any p w')
  rw [p0] at K7 K8
  generalize lkR ns ds p = LK at *
  generalize paR ns ds p = PR at *
  obtain ⟨i, a⟩ := LK
  obtain ⟨x, nm, b⟩ := PR
  simp only at K3 K4 K5 K6
  clear hb2 hp p0 p1 p2 p3 M1 R1' A1 B1 GT GW HA HB R2
  obtain ⟨x0, x1, -, -⟩ := two_cells M2.out
  go_wp2_with fail
  refine (K3.out _ B2.out).mono ?_
  rintro e w3 ⟨rfl, hb3⟩
  have B3 := hideIt (below_trans B2.out hb3 B2.out.size)
  have M3 := hideIt ((hb3.block _ (Array.getElem?_eq_some_iff.1 M2.out).1).trans M2.out)
  clear x0 x1 hb3 B2 M2 K3
  obtain ⟨x0, x1, -, -⟩ := two_cells M3.out
  go_wp2_with fail
  refine (K4.out _ B3.out).mono ?_
  rintro e w4 ⟨rfl, hb4⟩
  have B4 := hideIt (below_trans B3.out hb4 B3.out.size)
  have M4 := hideIt ((hb4.block _ (Array.getElem?_eq_some_iff.1 M3.out).1).trans M3.out)
  clear x0 x1 hb4 B3 M3 K4
  obtain ⟨x0, x1, -, -⟩ := two_cells M4.out
  go_wp2_with fail
  refine (K5.out _ B4.out).mono ?_
  rintro e w5 ⟨rfl, hb5⟩
  have B5 := hideIt (below_trans B4.out hb5 B4.out.size)
  have M5 := hideIt ((hb5.block _ (Array.getElem?_eq_some_iff.1 M4.out).1).trans M4.out)
  clear x0 x1 hb5 B4 M4 K5
  obtain ⟨x0, x1, -, -⟩ := two_cells M5.out
  go_wp2_with fail
  refine (K6.out _ B5.out).mono ?_
  rintro e w6 ⟨rfl, hb6⟩
  have B6 := hideIt (below_trans B5.out hb6 B5.out.size)
  have M6 := hideIt ((hb6.block _ (Array.getElem?_eq_some_iff.1 M5.out).1).trans M5.out)
  clear x0 x1 hb6 B5 M5 K6
  go_wp2_with fail
  refine (K7.out _).mono ?_
  rintro e w7 ⟨v7, rfl, hr7, hb7⟩
  have B7 := hideIt (below_trans B6.out hb7 B6.out.size)
  have R7 : Hid (RdT w7 v7 (spR p)) := hr7.rd
  obtain ⟨-, aS, cS, hv7, -⟩ := hr7.rd
  subst hv7
  clear hr7 hb7 B6 M6 K7
  go_wp2_with fail
  refine (K8.out _).mono ?_
  rintro e w8 ⟨rfl, hb8⟩
  have B8 := hideIt (below_trans B7.out hb8 B7.out.size)
  have R8 : Hid (RdT w8 (.slice aS (spR p).length cS) (spR p)) := Rd.below R7.out hb8
  clear hb8 R7 B7 K8
  generalize spR p = l at *
  obtain ⟨_, _, hsh, _, hcS⟩ := RdT.shape R8.out
  simp only [Value.slice.injEq, true_and] at hsh
  obtain ⟨rfl, rfl⟩ := hsh
  have HC : Hid (∀ k (h : k < l.length), ∃ b o, aS = some ⟨b, o, none⟩ ∧ ∀ w', Below w8.heap.size w8 w' → w'.cell? ⟨b, o + k, none⟩ = some (.string l[k])) := fun k h => by
    obtain ⟨b, o, e1, hbl, hc⟩ := hcS (by omega)
    exact ⟨b, o, e1, fun w' hb => (hb.cell (p := ⟨b, o + k, none⟩) hbl).trans (hc k h)⟩
  clear hcS R8
  have ll : l.length ≤ 2 := PQ.out.1
  go_wp2_with fail
  go_loopw [19, 20] (fun vJ n wr => ∃ m : Nat, m ≤ l.length ∧ n = .int .i64 (m : Int) ∧ vJ = .string (joinB (l.take m)) ∧ Hid (Below w8.heap.size w8 wr)) (fun _ n _ => l.length - (intOf n).toNat)
  case atStart => exact ⟨0, Nat.zero_le _, rfl, rfl, Below.refl _ _⟩
  case round =>
    obtain ⟨m, hm, rfl, rfl, J⟩ := hrel
    have m0 : (0 : Int) ≤ (m : Int) := by omega
    by_cases hlt : m < l.length
    case neg =>
      obtain rfl : m = l.length := by omega
      have EJ : joinB (l.take l.length) = p := by rw [List.take_length]; exact PQ.out.2.2
      rw [EJ]
      have BF := hideIt (below_trans (below_trans Bw.out B8.out Bw.out.size) J.out (Nat.le_trans Bw.out.size B8.out.size))
      clear HC EJ
      go_wp2
      go_ret
      exact ⟨by simp, BF.out⟩
    have mh : (m : Int) < (l.length : Int) := by omega
    obtain ⟨b, o, rfl, hc⟩ := HC.out m hlt
    have x0 := hc wr J.out
    have s1 : l[m].size ≤ 10 := PQ.out.2.1 _ (List.getElem_mem hlt)
    have q1 : (joinB (l.take m)).size ≤ 100 := by
      have := join_size (l.take m) ⟨#[]⟩ (fun s hs => PQ.out.2.1 s (List.mem_of_mem_take hs))
      have e : (l.take m).length ≤ 2 := by rw [List.length_take]; omega
      have z : (⟨#[]⟩ : ByteArray).size = 0 := rfl
      unfold joinB
      omega
    have EJ := hideIt (joinB_take hlt)
    generalize l[m] = s at *
    generalize joinB (l.take m) = jn at *
    clear hc HC
    go_wp2
    go_roundw
    case rel => exact ⟨m + 1, by omega, by go_num, by rw [EJ.out]; rfl, J⟩
    case measure => simp [intOf]; omega
end Go.Proofs.YtlgghookekokaaaGreatDoor
