/- No name twice; kinds that fit: by the program. -/
import Derived.Test.YtmeiionabonhnaaGreatDoorImX
import Derived.Test.YtmeiionabonhnaaGreatDoorZAH
import Derived.Laws.Cover3
namespace Go.Proofs.YtmeiionabonhnaaGreatDoor
open Go.RowKit
@[go_sem] theorem eqlNilDen (a : Option Addr) (l c : Nat) (w : World) : (binOp .eql 31 (.slice a l c) (.slice none 0 0)).run Tryz.prog w = .ok (.bool a.isNone) w := by
  simp only [binOp]
  simp [run_equal_slice_nil w 31 140 a l c Tryz.underlying31]
set_option maxRecDepth 100000 in
set_option maxHeartbeats 4000000 in
theorem cloneDen_any (v : Value) (ps : List Den) (w : World) (h : RdD w v ps) (hn : ps.length ≤ 4096) :
    Calls Tryz.prog 173 #[v] w fun e w' => ∃ v', e = .returned v' ∧ Row w' 140 3 w.heap.size w'.heap.size v' ps.length (dens ps) ∧ Below w.heap.size w w' := by
  have HR := hideIt h
  obtain ⟨ao, cap, rfl, _, hc⟩ := h.shape
  clear h
  cases ao with
  | none =>
    have hl : ps.length = 0 := by
      rcases Nat.eq_zero_or_pos ps.length with e | e
      · exact e
      · obtain ⟨b, o, e1, _⟩ := hc e
        cases e1
    have hps : ps = [] := List.eq_nil_of_length_eq_zero hl
    subst hps
    clear hc hl
    go_enter Tryz.func173, Tryz.ntmps173
    go_wp2
    go_ret
    exact ⟨_, rfl, Row.nil _ _ _ _ _, Below.refl _ _⟩
  | some a =>
    have BB := hideIt ((Below.refl w.heap.size w).alloc (Nat.le_refl _) (.cells #[] 140))
    have OB := hideIt (World.ownsRow_lit (e := 140) (size := 3) w #[] 0 (Nat.le_refl _) (by simp [maxLen]) (by simp))
    have RB : Hid (Rd (w.alloc (.cells #[] 140)) 3 (.slice (some a) ps.length cap) ps.length (dens ps)) := Rd.below HR.out BB.out
    have hz : w.heap.size ≤ (w.alloc (.cells #[] 140)).heap.size := BB.out.size
    clear hc
    go_enter Tryz.func173, Tryz.ntmps173
    go_wp2_with (at_builtin; refine wpList_append_rd _ rfl (.tmp 5) (.tmp 6) 31 rfl w.heap.size 140 (.agg #[.int .i64 0, .string ⟨#[]⟩, .int .i64 0]) 3 32 Tryz.underlying31 infoDen rfl (by decide) _ 0 [] rfl OB.out _ ps.length (dens ps) rfl RB.out (dens_ones _) (by simp [maxLen]; omega) (by omega) hz ?_)
    intro vN wN hownN hgrN
    have ON := hideIt hownN
    have BN := hideIt (BB.out.grown hgrN hz (fun q hq => (OB.out.lt q hq).1))
    clear hownN hgrN
    obtain ⟨-, aL, cL, hvL, -⟩ := (own_block ON.out).rd
    subst hvL
    go_wp2
    go_ret
    exact ⟨_, rfl, own_block ON.out, BN.out⟩
def anonTo (ds : List Den) (k : Nat) : List Den := (ds.take k).map anonD ++ ds.drop k
theorem anonTo_len (ds : List Den) (k : Nat) : (anonTo ds k).length = ds.length := by
  unfold anonTo
  rw [List.length_append, List.length_map, List.length_take, List.length_drop]
  omega
theorem anonTo_zero (ds : List Den) : anonTo ds 0 = ds := by simp [anonTo]
theorem anonTo_all (ds : List Den) : anonTo ds ds.length = ds.map anonD := by simp [anonTo]
theorem anonTo_succ {ds : List Den} {k : Nat} (h : k < ds.length) : (dens (anonTo ds k)).set (k * 3 + 2) (.int .i64 (-1)) = dens (anonTo ds (k + 1)) := by
  have e1 : ds.drop k = ds[k] :: ds.drop (k + 1) := List.drop_eq_getElem_cons h
  have l1 : (dens ((ds.take k).map anonD)).length = k * 3 := by rw [dens_len, List.length_map, List.length_take]; congr 1; omega
  unfold anonTo
  rw [e1, List.take_succ_eq_append_getElem h, List.map_append, dens_app, dens_app, dens_app, List.set_append_right _ _ (by omega), l1, List.append_assoc]
  congr 1
  rw [show k * 3 + 2 - k * 3 = 2 by omega]
  rfl
theorem dens_at2' (ps : List Den) (k : Nat) (h : k < ps.length) : (dens ps)[k * 3 + 2]? = some (.int .i64 ps[k].child) := flatMap_at _ 3 Den.cells_len ps k 2 h (by omega)
set_option maxRecDepth 100000 in
set_option maxHeartbeats 4000000 in
theorem namesOnce_any (v : Value) (ds : List Den) (w : World) (h : RdD w v ds) (hn : ds.length ≤ 4096) :
    Calls Tryz.prog 118 #[v] w fun e w' => e = .returned (.bool (onceD (ds.map anonD))) ∧ Below w.heap.size w w' := by
  have HR := hideIt h
  obtain ⟨ao, cap, rfl, _, _⟩ := h.shape
  clear h
  go_enter Tryz.func118, Tryz.ntmps118
  go_wp2_with fail
  refine (cloneDen_any _ ds _ HR.out hn).mono ?_
  rintro e w1 ⟨vN, rfl, hr1, hb1⟩
  obtain ⟨-, aN, cN, hvN, -⟩ := hr1.rd
  subst hvN
  have R1 := hideIt hr1
  have B1 := hideIt hb1
  have hz1 : w.heap.size ≤ w1.heap.size := hb1.size
  clear hr1 hb1
  go_wp2
  go_loopw [4, 9] (fun _ i wr => ∃ k : Nat, k ≤ ds.length ∧ i = .int .i64 k ∧ Hid (Row wr 140 3 w.heap.size w1.heap.size (.slice aN ds.length cN) ds.length (dens (anonTo ds k)) ∧ Below w.heap.size w wr)) (fun _ i _ => ds.length - (intOf i).toNat)
  case atStart => exact ⟨0, by omega, rfl, by rw [anonTo_zero]; exact R1.out, B1.out⟩
  case round =>
    obtain ⟨k, hk, rfl, H⟩ := hrel
    by_cases hlt : k < ds.length
    · rcases Row.shape H.out.1 with ⟨_, e, _⟩ | ⟨b, cap', e, _, _⟩
      · exact absurd e (by omega)
      obtain ⟨rfl, rfl⟩ : aN = some ⟨b, 0, none⟩ ∧ cN = cap' := by cases e; exact ⟨rfl, rfl⟩
      obtain ⟨_, l1, l2, l3, fr, ce⟩ := Row.at H.out.1
      have f0 := fr (k * 3 + 2)
      have c0 := (ce (k * 3 + 2) (by omega)).trans (dens_at2' (anonTo ds k) k (by rw [anonTo_len]; exact hlt))
      have k0 : (0 : Int) ≤ (k : Int) := by omega
      have k1 : (k : Int) < (ds.length : Int) := by omega
      have G : Hid (Row (wr.setCell ⟨b, k * 3 + 2, none⟩ (.int .i64 (-1))) 140 3 w.heap.size w1.heap.size (.slice (some ⟨b, 0, none⟩) ds.length cN) ds.length (dens (anonTo ds (k + 1))) ∧ Below w.heap.size w (wr.setCell ⟨b, k * 3 + 2, none⟩ (.int .i64 (-1)))) := by
        refine ⟨?_, H.out.2.setCell l1 _⟩
        rw [← anonTo_succ hlt]
        exact Row.stored H.out.1 _ _
      clear H fr ce R1 e
      generalize ((anonTo ds k)[k]'(by rw [anonTo_len]; exact hlt)).child = z at c0
      go_wp2
      go_roundw
      case rel => exact ⟨k + 1, by omega, by go_num, G⟩
      case measure => simp [intOf]; omega
    · obtain rfl : k = ds.length := by omega
      have LA := hideIt (anonTo_all ds)
      rw [LA.out] at H
      have R2 : Hid (RdD wr (.slice aN ds.length cN) (ds.map anonD)) := by
        unfold Hid RdD
        rw [List.length_map]
        exact H.out.1.rd
      have B2 := hideIt H.out.2
      have hl : (ds.map anonD).length ≤ 1048576 := by rw [List.length_map]; omega
      have HL := hideIt hl
      clear H hl
      go_wp2_with fail
      refine (noneTwiceDen_any _ (ds.map anonD) _ R2.out HL.out).mono ?_
      rintro e w2 ⟨rfl, hb2⟩
      have B3 := hideIt (below_trans B2.out hb2 B2.out.size)
      clear hb2
      go_wp2
      go_ret
      exact ⟨rfl, B3.out⟩
theorem fitsB_mk {ws : List Ino} {ts : List Den} (h : ∀ k (h : k < ts.length), fitB ws ts[k] = true) : fitsB ws ts = true := decide_eq_true h
theorem fitsB_not {ws : List Ino} {ts : List Den} {k : Nat} (hk : k < ts.length) (h : fitB ws ts[k] = false) : fitsB ws ts = false := decide_eq_false (fun x => by have := x k hk; rw [h] at this; cases this)
set_option maxRecDepth 100000 in
set_option maxHeartbeats 4000000 in
theorem kindsFit_any (vW v : Value) (ws : List Ino) (ts : List Den) (w : World) (hw : RdN w vW ws) (h : RdD w v ts) (hl : ws.length = 16) (hn : ts.length ≤ 4096) (hT : ∀ k (h : k < ts.length), (0 ≤ ts[k].child ∧ ts[k].child ≤ 15) ∧ (0 ≤ ts[k].dir ∧ ts[k].dir ≤ 15)) :
    Calls Tryz.prog 117 #[vW, v] w fun e w' => e = .returned (.bool (fitsB ws ts)) ∧ Below w.heap.size w w' := by
  obtain ⟨aW, cW, rfl, _, hcW⟩ := hw.shape
  obtain ⟨aP, cP, rfl, _, hcP⟩ := h.shape
  have HW := hideIt hcW
  have HP := hideIt hcP
  have HT := hideIt hT
  have HL := hideIt hl
  have hl' : (16 : Int) ≤ (ws.length : Int) := by omega
  clear h hw hcW hcP hT hl
  go_enter Tryz.func117, Tryz.ntmps117
  go_wp2
  go_loopw [6, 9] (fun _ i wr => ∃ k : Nat, k ≤ ts.length ∧ i = .int .i64 k ∧ Hid (Below w.heap.size w wr ∧ ∀ j (h : j < ts.length), j < k → fitB ws ts[j] = true)) (fun _ i _ => ts.length - (intOf i).toNat)
  case atStart => exact ⟨0, by omega, rfl, Below.refl _ _, fun j h a => absurd a (by omega)⟩
  case round =>
    obtain ⟨k, hk, rfl, H⟩ := hrel
    have H1 := hideIt H.out.1
    have hz : w.heap.size ≤ wr.heap.size := H.out.1.size
    by_cases hlt : k < ts.length
    · obtain ⟨b, o, rfl, hbl, hcell⟩ := HP.out (by omega)
      obtain ⟨bW, oW, rfl, hblW, hcellW⟩ := HW.out (by have := HL.out; omega)
      obtain ⟨a0, a1, a2⟩ := hcell k hlt
      have d0 := (H1.out.cell (p := ⟨b, o + k * 3, none⟩) hbl).trans a0
      have d1 := (H1.out.cell (p := ⟨b, o + k * 3 + 1, none⟩) hbl).trans a1
      have d2 := (H1.out.cell (p := ⟨b, o + k * 3 + 2, none⟩) hbl).trans a2
      have k0 : (0 : Int) ≤ (k : Int) := by omega
      have k1 : (k : Int) < (ts.length : Int) := by omega
      obtain ⟨⟨c1, c2⟩, c3, c4⟩ := HT.out k hlt
      have H2 : Hid (fitB ws ts[k] = true → ∀ j (h : j < ts.length), j < k + 1 → fitB ws ts[j] = true) := fun q j h a => by
        by_cases e : j = k
        · subst e; exact q
        · exact H.out.2 j h (by omega)
      have H3 := hideIt (fun q => fitsB_not (ws := ws) hlt q)
      clear a0 a1 a2 hcell H
      generalize ts[k] = x at *
      obtain ⟨xd, xs, xc⟩ := x
      simp only at d0 d1 d2 c1 c2 c3 c4
      obtain ⟨d, rfl⟩ : ∃ d : Nat, xd = (d : Int) := ⟨xd.toNat, by omega⟩
      obtain ⟨c, rfl⟩ : ∃ c : Nat, xc = (c : Int) := ⟨xc.toNat, by omega⟩
      have hd : d < ws.length := by omega
      have hc : c < ws.length := by omega
      have B2 := hideIt (H1.out.alloc hz (.cells #[.int .i64 (d : Int), .string xs, .int .i64 (c : Int)] 140))
      have g0 := (B2.out.cell (p := ⟨bW, oW + d * 11, none⟩) hblW).trans (hcellW d hd).1
      have g1 := (B2.out.cell (p := ⟨bW, oW + c * 11, none⟩) hblW).trans (hcellW c hc).1
      have FB := hideIt (show fitB ws ⟨(d : Int), xs, (c : Int)⟩ = (ws[d].kind == 2 && !(ws[c].kind == 0)) by unfold fitB; rw [kindAt_of hd, kindAt_of hc])
      have d5 : (d : Int) < (ws.length : Int) := by omega
      have c5 : (c : Int) < (ws.length : Int) := by omega
      clear hcellW
      generalize ws[d].kind = kd at g0 FB
      generalize ws[c].kind = kc at g1 FB
      by_cases q : kd = 2
      · have q1 : (kd != 2) = false := by rw [q]; rfl
        by_cases r : kc = 0
        · have r1 : (kc == 0) = true := by rw [r]; rfl
          have E := hideIt (H3.out (by rw [FB.out, r1]; simp))
          clear q r H2 H3 FB
          go_wp2
          go_ret
          exact ⟨ret_bool E.out.symm, B2.out⟩
        · have r1 : (kc == 0) = false := by rw [beq_eq_false_iff_ne]; exact r
          have E := hideIt (H2.out (by rw [FB.out, r1, q]; rfl))
          clear q r H2 H3 FB
          go_wp2
          go_roundw
          case rel => exact ⟨k + 1, by omega, by go_num, B2.out, E.out⟩
          case measure => simp [intOf]; omega
      · have q1 : (kd != 2) = true := by rw [bne_iff_ne]; exact q
        have E := hideIt (H3.out (by rw [FB.out, show (kd == 2) = false by rw [beq_eq_false_iff_ne]; exact q]; rfl))
        clear q H2 H3 FB
        go_wp2
        go_ret
        exact ⟨ret_bool E.out.symm, B2.out⟩
    · have E := hideIt (fitsB_mk (ws := ws) (fun j h => H.out.2 j h (by omega)))
      clear H
      go_wp2
      go_ret
      exact ⟨ret_bool E.out.symm, H1.out⟩
end Go.Proofs.YtmeiionabonhnaaGreatDoor
