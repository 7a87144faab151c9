/- Several texts laid together: PiK, PiL, PiM. -/
import Derived.Test.YtmeiionabonhnaaGreatDoorImX
import Derived.Test.YtmeiionabonhnaaGreatDoorZAD
import Derived.Test.YtmeiionabonhnaaGreatDoorZAF
import Derived.Laws.Cover3
namespace Go.Proofs.YtmeiionabonhnaaGreatDoor
open Go.RowKit
def okNs (ws : List Ino) : Bool := decide (∀ k (h : k < ws.length), inoB ws[k] = true)
theorem okNs_mk {ws : List Ino} (h : ∀ k (h : k < ws.length), inoB ws[k] = true) : okNs ws = true := decide_eq_true h
theorem okNs_not {ws : List Ino} {k : Nat} (hk : k < ws.length) (h : inoB ws[k] = false) : okNs ws = false := decide_eq_false (fun x => by have := x k hk; rw [h] at this; cases this)
theorem okDs_mk {ps : List Den} (h : ∀ k (h : k < ps.length), ps[k].okB = true) : okDs ps = true := decide_eq_true h
theorem okDs_not {ps : List Den} {k : Nat} (hk : k < ps.length) (h : ps[k].okB = false) : okDs ps = false := decide_eq_false (fun x => by have := x k hk; rw [h] at this; cases this)
set_option maxRecDepth 100000 in
set_option maxHeartbeats 4000000 in
theorem everyInode_any (v : Value) (ws : List Ino) (w : World) (h : RdN w v ws) (hn : ws.length ≤ 1048576) (hT : TS w) (hE : ED w) (hr : ∀ k (h : k < ws.length), ws[k].R) :
    Calls Tryz.prog 178 #[v, .func (.func 176) #[] #[]] w fun e w' => e = .returned (.bool (okNs ws)) ∧ Below w.heap.size w w' := by
  obtain ⟨aW, cW, rfl, _, hcW⟩ := h.shape
  have HW := hideIt hcW
  have T := hideIt hT
  have E0 := hideIt hE
  have HR := hideIt hr
  clear h hcW hT hE hr
  go_enter Tryz.func178, Tryz.ntmps178
  go_wp2
  go_loopw [6, 9] (fun _ i wr => ∃ k : Nat, k ≤ ws.length ∧ i = .int .i64 k ∧ Hid (Below w.heap.size w wr ∧ ∀ j (h : j < ws.length), j < k → inoB ws[j] = true)) (fun _ i _ => ws.length - (intOf i).toNat)
  case atStart => exact ⟨0, by omega, rfl, Below.refl _ _, fun j h a => absurd a (by omega)⟩
  case round =>
    obtain ⟨k, hk, rfl, H⟩ := hrel
    have H1 := hideIt H.out.1
    have hz : w.heap.size ≤ wr.heap.size := H.out.1.size
    by_cases hlt : k < ws.length
    · obtain ⟨b, o, rfl, hbl, hcell⟩ := HW.out (by omega)
      obtain ⟨a0, a1, a2, a3, a4, a5, a6, a7, a8, a9, a10⟩ := hcell k hlt
      have d0 := (H1.out.cell (p := ⟨b, o + k * 11, none⟩) hbl).trans a0
      have d1 := (H1.out.cell (p := ⟨b, o + k * 11 + 1, none⟩) hbl).trans a1
      have d2 := (H1.out.cell (p := ⟨b, o + k * 11 + 2, none⟩) hbl).trans a2
      have d3 := (H1.out.cell (p := ⟨b, o + k * 11 + 3, none⟩) hbl).trans a3
      have d4 := (H1.out.cell (p := ⟨b, o + k * 11 + 4, none⟩) hbl).trans a4
      have d5 := (H1.out.cell (p := ⟨b, o + k * 11 + 5, none⟩) hbl).trans a5
      have d6 := (H1.out.cell (p := ⟨b, o + k * 11 + 6, none⟩) hbl).trans a6
      have d7 := (H1.out.cell (p := ⟨b, o + k * 11 + 7, none⟩) hbl).trans a7
      have d8 := (H1.out.cell (p := ⟨b, o + k * 11 + 8, none⟩) hbl).trans a8
      have d9 := (H1.out.cell (p := ⟨b, o + k * 11 + 9, none⟩) hbl).trans a9
      have d10 := (H1.out.cell (p := ⟨b, o + k * 11 + 10, none⟩) hbl).trans a10
      have k0 : (0 : Int) ≤ (k : Int) := by omega
      have k1 : (k : Int) < (ws.length : Int) := by omega
      have B2 := hideIt (H1.out.alloc hz (.cells ws[k].cs.toArray 150))
      have LI := hideIt (fun w1 (h : Below w.heap.size w w1) => isInode_any ws[k] w1 (T.out.below h) (E0.out.below h) (HR.out k hlt))
      have H2 : Hid (∀ j (h : j < ws.length), j < k → inoB ws[j] = true) := H.out.2
      clear a0 a1 a2 a3 a4 a5 a6 a7 a8 a9 a10 hcell H
      cases q : inoB ws[k] with
      | true =>
        have H' : Hid (∀ j (h : j < ws.length), j < k + 1 → inoB ws[j] = true) := fun j h a => by
          by_cases e : j = k
          · subst e; exact q
          · exact H2.out j h (by omega)
        rw [q] at LI
        clear q H2
        generalize ws[k] = x at d0 d1 d2 d3 d4 d5 d6 d7 d8 d9 d10 B2 LI
        go_wp2_with fail
        refine (LI.out _ B2.out).mono ?_
        rintro e w1 ⟨rfl, hb1⟩
        have B3 := hideIt (below_trans B2.out hb1 B2.out.size)
        clear hb1 d0 d1 d2 d3 d4 d5 d6 d7 d8 d9 d10
        go_wp2
        go_roundw
        case rel => exact ⟨k + 1, by omega, by go_num, B3.out, H'.out⟩
        case measure => simp [intOf]; omega
      | false =>
        have E := hideIt (okNs_not hlt q)
        rw [q] at LI
        clear q H2
        generalize ws[k] = x at d0 d1 d2 d3 d4 d5 d6 d7 d8 d9 d10 B2 LI
        go_wp2_with fail
        refine (LI.out _ B2.out).mono ?_
        rintro e w1 ⟨rfl, hb1⟩
        have B3 := hideIt (below_trans B2.out hb1 B2.out.size)
        clear hb1 d0 d1 d2 d3 d4 d5 d6 d7 d8 d9 d10
        go_wp2
        go_ret
        exact ⟨ret_bool E.out.symm, B3.out⟩
    · have E := hideIt (okNs_mk (fun j h => H.out.2 j h (by omega)))
      clear H
      go_wp2
      go_ret
      exact ⟨ret_bool E.out.symm, H1.out⟩
set_option maxRecDepth 100000 in
set_option maxHeartbeats 4000000 in
theorem everyDirent_any (v : Value) (ps : List Den) (w : World) (h : RdD w v ps) (hn : ps.length ≤ 1048576) (hF : FD w) (hs : ∀ k (h : k < ps.length), ps[k].name.size ≤ maxLen) :
    Calls Tryz.prog 179 #[v, .func (.func 180) #[] #[]] w fun e w' => e = .returned (.bool (okDs ps)) ∧ Below w.heap.size w w' := by
  obtain ⟨aP, cP, rfl, _, hcP⟩ := h.shape
  have HP := hideIt hcP
  have F := hideIt hF
  have HS := hideIt hs
  clear h hcP hF hs
  go_enter Tryz.func179, Tryz.ntmps179
  go_wp2
  go_loopw [6, 9] (fun _ i wr => ∃ k : Nat, k ≤ ps.length ∧ i = .int .i64 k ∧ Hid (Below w.heap.size w wr ∧ ∀ j (h : j < ps.length), j < k → ps[j].okB = true)) (fun _ i _ => ps.length - (intOf i).toNat)
  case atStart => exact ⟨0, by omega, rfl, Below.refl _ _, fun j h a => absurd a (by omega)⟩
  case round =>
    obtain ⟨k, hk, rfl, H⟩ := hrel
    have H1 := hideIt H.out.1
    have hz : w.heap.size ≤ wr.heap.size := H.out.1.size
    by_cases hlt : k < ps.length
    · obtain ⟨b, o, rfl, hbl, hcell⟩ := HP.out (by omega)
      obtain ⟨a0, a1, a2⟩ := hcell k hlt
      have d0 := (H1.out.cell (p := ⟨b, o + k * 3, none⟩) hbl).trans a0
      have d1 := (H1.out.cell (p := ⟨b, o + k * 3 + 1, none⟩) hbl).trans a1
      have d2 := (H1.out.cell (p := ⟨b, o + k * 3 + 2, none⟩) hbl).trans a2
      have k0 : (0 : Int) ≤ (k : Int) := by omega
      have k1 : (k : Int) < (ps.length : Int) := by omega
      have B2 := hideIt (H1.out.alloc hz (.cells #[.int .i64 ps[k].dir, .string ps[k].name, .int .i64 ps[k].child] 140))
      have LI := hideIt (fun w1 (h : Below w.heap.size w w1) => isDirent_any ps[k] w1 (F.out.below h) (HS.out k hlt))
      have H2 : Hid (∀ j (h : j < ps.length), j < k → ps[j].okB = true) := H.out.2
      clear a0 a1 a2 hcell H
      cases q : ps[k].okB with
      | true =>
        have H' : Hid (∀ j (h : j < ps.length), j < k + 1 → ps[j].okB = true) := fun j h a => by
          by_cases e : j = k
          · subst e; exact q
          · exact H2.out j h (by omega)
        rw [q] at LI
        clear q H2
        generalize ps[k] = x at d0 d1 d2 B2 LI
        go_wp2_with fail
        refine (LI.out _ B2.out).mono ?_
        rintro e w1 ⟨rfl, hb1⟩
        have B3 := hideIt (below_trans B2.out hb1 B2.out.size)
        clear hb1 d0 d1 d2
        go_wp2
        go_roundw
        case rel => exact ⟨k + 1, by omega, by go_num, B3.out, H'.out⟩
        case measure => simp [intOf]; omega
      | false =>
        have E := hideIt (okDs_not hlt q)
        rw [q] at LI
        clear q H2
        generalize ps[k] = x at d0 d1 d2 B2 LI
        go_wp2_with fail
        refine (LI.out _ B2.out).mono ?_
        rintro e w1 ⟨rfl, hb1⟩
        have B3 := hideIt (below_trans B2.out hb1 B2.out.size)
        clear hb1 d0 d1 d2
        go_wp2
        go_ret
        exact ⟨ret_bool E.out.symm, B3.out⟩
    · have E := hideIt (okDs_mk (fun j h => H.out.2 j h (by omega)))
      clear H
      go_wp2
      go_ret
      exact ⟨ret_bool E.out.symm, H1.out⟩
def partsB (ws : List Ino) (ps : List Den) : Bool := decide (ws.length = 16) && (decide (ps.length = 24) && (okNs ws && okDs ps))
set_option maxRecDepth 100000 in
set_option maxHeartbeats 4000000 in
theorem partsOK_any (v : Value) (ws : List Ino) (ps : List Den) (w : World) (h : RdIm w v ws ps) (hw : ws.length ≤ 1048576) (hp : ps.length ≤ 1048576) (hT : TS w) (hE : ED w) (hF : FD w) (hr : ∀ k (h : k < ws.length), ws[k].R) (hs : ∀ k (h : k < ps.length), ps[k].name.size ≤ maxLen) :
    Calls Tryz.prog 116 #[v] w fun e w' => e = .returned (.bool (partsB ws ps)) ∧ Below w.heap.size w w' := by
  obtain ⟨vW, vP, rfl, h1, h2⟩ := h
  have RW := hideIt h1
  have RP := hideIt h2
  obtain ⟨aW, cW, rfl, _, _⟩ := h1.shape
  obtain ⟨aP, cP, rfl, _, _⟩ := h2.shape
  have BW := hideIt ((Below.refl w.heap.size w).alloc (Nat.le_refl _) (.cells #[.slice aW ws.length cW, .slice aP ps.length cP] 98))
  have CA : Hid (∀ w', Below (w.alloc (.cells #[.slice aW ws.length cW, .slice aP ps.length cP] 98)).heap.size (w.alloc (.cells #[.slice aW ws.length cW, .slice aP ps.length cP] 98)) w' → w'.cell? ⟨w.heap.size, 0, none⟩ = some (.slice aW ws.length cW) ∧ w'.cell? ⟨w.heap.size, 1, none⟩ = some (.slice aP ps.length cP)) := fun w' hb => by
    have : w'.heap[w.heap.size]? = some (.cells #[.slice aW ws.length cW, .slice aP ps.length cP] 98 (0, 0)) := (hb.block _ (by simp)).trans (at_new rfl)
    exact ⟨(two_cells this).1, (two_cells this).2.1⟩
  have LN := hideIt (fun w1 (hb : Below w.heap.size w w1) => everyInode_any (.slice aW ws.length cW) ws w1 (Rd.below RW.out hb) hw (hT.below hb) (hE.below hb) hr)
  have LD := hideIt (fun w1 (hb : Below w.heap.size w w1) => everyDirent_any (.slice aP ps.length cP) ps w1 (Rd.below RP.out hb) hp (hF.below hb) hs)
  obtain ⟨x0, x1⟩ := CA.out _ (Below.refl _ _)
  clear h1 h2 hT hE hF hr hs
  by_cases c1 : ws.length = 16
  case neg =>
    have E := hideIt (show partsB ws ps = false by unfold partsB; rw [decide_eq_false c1]; rfl)
    have q : ((ws.length : Int) == 16) = false := by rw [beq_eq_false_iff_ne]; omega
    clear c1
    go_enter Tryz.func116, Tryz.ntmps116
    go_wp2
    go_ret
    exact ⟨ret_bool E.out.symm, BW.out⟩
  have q : ((ws.length : Int) == 16) = true := by rw [beq_iff_eq]; omega
  by_cases c2 : ps.length = 24
  case neg =>
    have E := hideIt (show partsB ws ps = false by unfold partsB; rw [decide_eq_false c2, Bool.false_and, Bool.and_false])
    have q2 : ((ps.length : Int) == 24) = false := by rw [beq_eq_false_iff_ne]; omega
    clear c1 c2
    go_enter Tryz.func116, Tryz.ntmps116
    go_wp2
    go_ret
    exact ⟨ret_bool E.out.symm, BW.out⟩
  have q2 : ((ps.length : Int) == 24) = true := by rw [beq_iff_eq]; omega
  have E := hideIt (show partsB ws ps = (okNs ws && okDs ps) by unfold partsB; rw [decide_eq_true c1, decide_eq_true c2]; rfl)
  clear c1 c2
  cases q3 : okNs ws with
  | false =>
    rw [q3] at E LN
    clear q3
    go_enter Tryz.func116, Tryz.ntmps116
    go_wp2_with fail
    refine (LN.out _ BW.out).mono ?_
    rintro e w1 ⟨rfl, hb1⟩
    have B1 := hideIt (below_trans BW.out hb1 BW.out.size)
    clear hb1 x0 x1
    go_wp2
    go_ret
    exact ⟨ret_bool (by rw [E.out]; rfl), B1.out⟩
  | true =>
    rw [q3] at E LN
    clear q3
    go_enter Tryz.func116, Tryz.ntmps116
    go_wp2_with fail
    refine (LN.out _ BW.out).mono ?_
    rintro e w1 ⟨rfl, hb1⟩
    have B1 := hideIt (below_trans BW.out hb1 BW.out.size)
    clear x0 x1
    obtain ⟨x0, x1⟩ := CA.out _ hb1
    clear hb1
    go_wp2_with fail
    refine (LD.out _ B1.out).mono ?_
    rintro e w2 ⟨rfl, hb2⟩
    have B2 := hideIt (below_trans B1.out hb2 B1.out.size)
    clear hb2 x0 x1
    go_wp2
    go_ret
    exact ⟨ret_bool (by rw [E.out]; rfl), B2.out⟩
end Go.Proofs.YtmeiionabonhnaaGreatDoor

namespace Go.Proofs.YtmeiionabonhnaaGreatDoor
open Go.RowKit
@[go_sem] theorem eqlNilDen (a : Option Addr) (l c : Nat) (w : World) : (binOp .eql 31 (.slice a l c) (.slice none 0 0)).run Tryz.prog w = .ok (.bool a.isNone) w := by
  simp only [binOp]
  simp [run_equal_slice_nil w 31 140 a l c Tryz.underlying31]
set_option maxRecDepth 100000 in
set_option maxHeartbeats 4000000 in
theorem cloneDen_any (v : Value) (ps : List Den) (w : World) (h : RdD w v ps) (hn : ps.length ≤ 4096) :
    Calls Tryz.prog 173 #[v] w fun e w' => ∃ v', e = .returned v' ∧ Row w' 140 3 w.heap.size w'.heap.size v' ps.length (dens ps) ∧ Below w.heap.size w w' := by
  have HR := hideIt h
  obtain ⟨ao, cap, rfl, _, hc⟩ := h.shape
  clear h
  cases ao with
  | none =>
    have hl : ps.length = 0 := by
      rcases Nat.eq_zero_or_pos ps.length with e | e
      · exact e
      · obtain ⟨b, o, e1, _⟩ := hc e
        cases e1
    have hps : ps = [] := List.eq_nil_of_length_eq_zero hl
    subst hps
    clear hc hl
    go_enter Tryz.func173, Tryz.ntmps173
    go_wp2
    go_ret
    exact ⟨_, rfl, Row.nil _ _ _ _ _, Below.refl _ _⟩
  | some a =>
    have BB := hideIt ((Below.refl w.heap.size w).alloc (Nat.le_refl _) (.cells #[] 140))
    have OB := hideIt (World.ownsRow_lit (e := 140) (size := 3) w #[] 0 (Nat.le_refl _) (by simp [maxLen]) (by simp))
    have RB : Hid (Rd (w.alloc (.cells #[] 140)) 3 (.slice (some a) ps.length cap) ps.length (dens ps)) := Rd.below HR.out BB.out
    have hz : w.heap.size ≤ (w.alloc (.cells #[] 140)).heap.size := BB.out.size
    clear hc
    go_enter Tryz.func173, Tryz.ntmps173
    go_wp2_with (at_builtin; refine wpList_append_rd _ rfl (.tmp 5) (.tmp 6) 31 rfl w.heap.size 140 (.agg #[.int .i64 0, .string ⟨#[]⟩, .int .i64 0]) 3 32 Tryz.underlying31 infoDen rfl (by decide) _ 0 [] rfl OB.out _ ps.length (dens ps) rfl RB.out (dens_ones _) (by simp [maxLen]; omega) (by omega) hz ?_)
    intro vN wN hownN hgrN
    have ON := hideIt hownN
    have BN := hideIt (BB.out.grown hgrN hz (fun q hq => (OB.out.lt q hq).1))
    clear hownN hgrN
    obtain ⟨-, aL, cL, hvL, -⟩ := (own_block ON.out).rd
    subst hvL
    go_wp2
    go_ret
    exact ⟨_, rfl, own_block ON.out, BN.out⟩
def anonTo (ds : List Den) (k : Nat) : List Den := (ds.take k).map anonD ++ ds.drop k
theorem anonTo_len (ds : List Den) (k : Nat) : (anonTo ds k).length = ds.length := by
  unfold anonTo
  rw [List.length_append, List.length_map, List.length_take, List.length_drop]
  omega
theorem anonTo_zero (ds : List Den) : anonTo ds 0 = ds := by simp [anonTo]
theorem anonTo_all (ds : List Den) : anonTo ds ds.length = ds.map anonD := by simp [anonTo]
theorem anonTo_succ {ds : List Den} {k : Nat} (h : k < ds.length) : (dens (anonTo ds k)).set (k * 3 + 2) (.int .i64 (-1)) = dens (anonTo ds (k + 1)) := by
  have e1 : ds.drop k = ds[k] :: ds.drop (k + 1) := List.drop_eq_getElem_cons h
  have l1 : (dens ((ds.take k).map anonD)).length = k * 3 := by rw [dens_len, List.length_map, List.length_take]; congr 1; omega
  unfold anonTo
  rw [e1, List.take_succ_eq_append_getElem h, List.map_append, dens_app, dens_app, dens_app, List.set_append_right _ _ (by omega), l1, List.append_assoc]
  congr 1
  rw [show k * 3 + 2 - k * 3 = 2 by omega]
  rfl
theorem dens_at2' (ps : List Den) (k : Nat) (h : k < ps.length) : (dens ps)[k * 3 + 2]? = some (.int .i64 ps[k].child) := flatMap_at _ 3 Den.cells_len ps k 2 h (by omega)
set_option maxRecDepth 100000 in
set_option maxHeartbeats 4000000 in
theorem namesOnce_any (v : Value) (ds : List Den) (w : World) (h : RdD w v ds) (hn : ds.length ≤ 4096) :
    Calls Tryz.prog 118 #[v] w fun e w' => e = .returned (.bool (onceD (ds.map anonD))) ∧ Below w.heap.size w w' := by
  have HR := hideIt h
  obtain ⟨ao, cap, rfl, _, _⟩ := h.shape
  clear h
  go_enter Tryz.func118, Tryz.ntmps118
  go_wp2_with fail
  refine (cloneDen_any _ ds _ HR.out hn).mono ?_
  rintro e w1 ⟨vN, rfl, hr1, hb1⟩
  obtain ⟨-, aN, cN, hvN, -⟩ := hr1.rd
  subst hvN
  have R1 := hideIt hr1
  have B1 := hideIt hb1
  have hz1 : w.heap.size ≤ w1.heap.size := hb1.size
  clear hr1 hb1
  go_wp2
  go_loopw [4, 9] (fun _ i wr => ∃ k : Nat, k ≤ ds.length ∧ i = .int .i64 k ∧ Hid (Row wr 140 3 w.heap.size w1.heap.size (.slice aN ds.length cN) ds.length (dens (anonTo ds k)) ∧ Below w.heap.size w wr)) (fun _ i _ => ds.length - (intOf i).toNat)
  case atStart => exact ⟨0, by omega, rfl, by rw [anonTo_zero]; exact R1.out, B1.out⟩
  case round =>
    obtain ⟨k, hk, rfl, H⟩ := hrel
    by_cases hlt : k < ds.length
    · rcases Row.shape H.out.1 with ⟨_, e, _⟩ | ⟨b, cap', e, _, _⟩
      · exact absurd e (by omega)
      obtain ⟨rfl, rfl⟩ : aN = some ⟨b, 0, none⟩ ∧ cN = cap' := by cases e; exact ⟨rfl, rfl⟩
      obtain ⟨_, l1, l2, l3, fr, ce⟩ := Row.at H.out.1
      have f0 := fr (k * 3 + 2)
      have c0 := (ce (k * 3 + 2) (by omega)).trans (dens_at2' (anonTo ds k) k (by rw [anonTo_len]; exact hlt))
      have k0 : (0 : Int) ≤ (k : Int) := by omega
      have k1 : (k : Int) < (ds.length : Int) := by omega
      have G : Hid (Row (wr.setCell ⟨b, k * 3 + 2, none⟩ (.int .i64 (-1))) 140 3 w.heap.size w1.heap.size (.slice (some ⟨b, 0, none⟩) ds.length cN) ds.length (dens (anonTo ds (k + 1))) ∧ Below w.heap.size w (wr.setCell ⟨b, k * 3 + 2, none⟩ (.int .i64 (-1)))) := by
        refine ⟨?_, H.out.2.setCell l1 _⟩
        rw [← anonTo_succ hlt]
        exact Row.stored H.out.1 _ _
      clear H fr ce R1 e
      generalize ((anonTo ds k)[k]'(by rw [anonTo_len]; exact hlt)).child = z at c0
      go_wp2
      go_roundw
      case rel => exact ⟨k + 1, by omega, by go_num, G⟩
      case measure => simp [intOf]; omega
    · obtain rfl : k = ds.length := by omega
      have LA := hideIt (anonTo_all ds)
      rw [LA.out] at H
      have R2 : Hid (RdD wr (.slice aN ds.length cN) (ds.map anonD)) := by
        unfold Hid RdD
        rw [List.length_map]
        exact H.out.1.rd
      have B2 := hideIt H.out.2
      have hl : (ds.map anonD).length ≤ 1048576 := by rw [List.length_map]; omega
      have HL := hideIt hl
      clear H hl
      go_wp2_with fail
      refine (noneTwiceDen_any _ (ds.map anonD) _ R2.out HL.out).mono ?_
      rintro e w2 ⟨rfl, hb2⟩
      have B3 := hideIt (below_trans B2.out hb2 B2.out.size)
      clear hb2
      go_wp2
      go_ret
      exact ⟨rfl, B3.out⟩
theorem fitsB_mk {ws : List Ino} {ts : List Den} (h : ∀ k (h : k < ts.length), fitB ws ts[k] = true) : fitsB ws ts = true := decide_eq_true h
theorem fitsB_not {ws : List Ino} {ts : List Den} {k : Nat} (hk : k < ts.length) (h : fitB ws ts[k] = false) : fitsB ws ts = false := decide_eq_false (fun x => by have := x k hk; rw [h] at this; cases this)
set_option maxRecDepth 100000 in
set_option maxHeartbeats 4000000 in
theorem kindsFit_any (vW v : Value) (ws : List Ino) (ts : List Den) (w : World) (hw : RdN w vW ws) (h : RdD w v ts) (hl : ws.length = 16) (hn : ts.length ≤ 4096) (hT : ∀ k (h : k < ts.length), (0 ≤ ts[k].child ∧ ts[k].child ≤ 15) ∧ (0 ≤ ts[k].dir ∧ ts[k].dir ≤ 15)) :
    Calls Tryz.prog 117 #[vW, v] w fun e w' => e = .returned (.bool (fitsB ws ts)) ∧ Below w.heap.size w w' := by
  obtain ⟨aW, cW, rfl, _, hcW⟩ := hw.shape
  obtain ⟨aP, cP, rfl, _, hcP⟩ := h.shape
  have HW := hideIt hcW
  have HP := hideIt hcP
  have HT := hideIt hT
  have HL := hideIt hl
  have hl' : (16 : Int) ≤ (ws.length : Int) := by omega
  clear h hw hcW hcP hT hl
  go_enter Tryz.func117, Tryz.ntmps117
  go_wp2
  go_loopw [6, 9] (fun _ i wr => ∃ k : Nat, k ≤ ts.length ∧ i = .int .i64 k ∧ Hid (Below w.heap.size w wr ∧ ∀ j (h : j < ts.length), j < k → fitB ws ts[j] = true)) (fun _ i _ => ts.length - (intOf i).toNat)
  case atStart => exact ⟨0, by omega, rfl, Below.refl _ _, fun j h a => absurd a (by omega)⟩
  case round =>
    obtain ⟨k, hk, rfl, H⟩ := hrel
    have H1 := hideIt H.out.1
    have hz : w.heap.size ≤ wr.heap.size := H.out.1.size
    by_cases hlt : k < ts.length
    · obtain ⟨b, o, rfl, hbl, hcell⟩ := HP.out (by omega)
      obtain ⟨bW, oW, rfl, hblW, hcellW⟩ := HW.out (by have := HL.out; omega)
      obtain ⟨a0, a1, a2⟩ := hcell k hlt
      have d0 := (H1.out.cell (p := ⟨b, o + k * 3, none⟩) hbl).trans a0
      have d1 := (H1.out.cell (p := ⟨b, o + k * 3 + 1, none⟩) hbl).trans a1
      have d2 := (H1.out.cell (p := ⟨b, o + k * 3 + 2, none⟩) hbl).trans a2
      have k0 : (0 : Int) ≤ (k : Int) := by omega
      have k1 : (k : Int) < (ts.length : Int) := by omega
      obtain ⟨⟨c1, c2⟩, c3, c4⟩ := HT.out k hlt
      have H2 : Hid (fitB ws ts[k] = true → ∀ j (h : j < ts.length), j < k + 1 → fitB ws ts[j] = true) := fun q j h a => by
        by_cases e : j = k
        · subst e; exact q
        · exact H.out.2 j h (by omega)
      have H3 := hideIt (fun q => fitsB_not (ws := ws) hlt q)
      clear a0 a1 a2 hcell H
      generalize ts[k] = x at *
      obtain ⟨xd, xs, xc⟩ := x
      simp only at d0 d1 d2 c1 c2 c3 c4
      obtain ⟨d, rfl⟩ : ∃ d : Nat, xd = (d : Int) := ⟨xd.toNat, by omega⟩
      obtain ⟨c, rfl⟩ : ∃ c : Nat, xc = (c : Int) := ⟨xc.toNat, by omega⟩
      have hd : d < ws.length := by omega
      have hc : c < ws.length := by omega
      have B2 := hideIt (H1.out.alloc hz (.cells #[.int .i64 (d : Int), .string xs, .int .i64 (c : Int)] 140))
      have g0 := (B2.out.cell (p := ⟨bW, oW + d * 11, none⟩) hblW).trans (hcellW d hd).1
      have g1 := (B2.out.cell (p := ⟨bW, oW + c * 11, none⟩) hblW).trans (hcellW c hc).1
      have FB := hideIt (show fitB ws ⟨(d : Int), xs, (c : Int)⟩ = (ws[d].kind == 2 && !(ws[c].kind == 0)) by unfold fitB; rw [kindAt_of hd, kindAt_of hc])
      have d5 : (d : Int) < (ws.length : Int) := by omega
      have c5 : (c : Int) < (ws.length : Int) := by omega
      clear hcellW
      generalize ws[d].kind = kd at g0 FB
      generalize ws[c].kind = kc at g1 FB
      by_cases q : kd = 2
      · have q1 : (kd != 2) = false := by rw [q]; rfl
        by_cases r : kc = 0
        · have r1 : (kc == 0) = true := by rw [r]; rfl
          have E := hideIt (H3.out (by rw [FB.out, r1]; simp))
          clear q r H2 H3 FB
          go_wp2
          go_ret
          exact ⟨ret_bool E.out.symm, B2.out⟩
        · have r1 : (kc == 0) = false := by rw [beq_eq_false_iff_ne]; exact r
          have E := hideIt (H2.out (by rw [FB.out, r1, q]; rfl))
          clear q r H2 H3 FB
          go_wp2
          go_roundw
          case rel => exact ⟨k + 1, by omega, by go_num, B2.out, E.out⟩
          case measure => simp [intOf]; omega
      · have q1 : (kd != 2) = true := by rw [bne_iff_ne]; exact q
        have E := hideIt (H3.out (by rw [FB.out, show (kd == 2) = false by rw [beq_eq_false_iff_ne]; exact q]; rfl))
        clear q H2 H3 FB
        go_wp2
        go_ret
        exact ⟨ret_bool E.out.symm, B2.out⟩
    · have E := hideIt (fitsB_mk (ws := ws) (fun j h => H.out.2 j h (by omega)))
      clear H
      go_wp2
      go_ret
      exact ⟨ret_bool E.out.symm, H1.out⟩
end Go.Proofs.YtmeiionabonhnaaGreatDoor

namespace Go.Proofs.YtmeiionabonhnaaGreatDoor
open Go.RowKit
def lnkV (ts : List Den) (k j : Nat) : Int := (if j = 0 then 1 else 0) + (cntD ts j k : Int)
def lnkC (ts : List Den) (k : Nat) : List Value := (List.range 16).map fun j => .int .i64 (lnkV ts k j)
theorem lnkC_at (ts : List Den) (k j : Nat) (h : j < 16) : (lnkC ts k)[j]? = some (.int .i64 (lnkV ts k j)) := by
  unfold lnkC
  rw [List.getElem?_map, List.getElem?_range h]
  rfl
theorem lnkV_bound (ts : List Den) (k j : Nat) : 0 ≤ lnkV ts k j ∧ lnkV ts k j ≤ 1 + k := by
  have := cntD_le ts j k
  unfold lnkV
  split <;> omega
theorem lnkC_succ {ts : List Den} {k c : Nat} (hk : k < ts.length) (hc : c < 16) (e : ts[k].child = (c : Int)) : (lnkC ts k).set c (.int .i64 (lnkV ts k c + 1)) = lnkC ts (k + 1) := by
  apply List.ext_getElem?
  intro j
  have hl : (lnkC ts k).length = 16 := by simp [lnkC]
  by_cases hj : j < 16
  · rw [set_at (by omega), lnkC_at ts (k + 1) j hj, lnkC_at ts k j hj]
    by_cases h : j = c
    · subst h
      rw [if_pos rfl]
      unfold lnkV
      rw [cntD_succ hk, e]
      simp
      omega
    · rw [if_neg h]
      unfold lnkV
      rw [cntD_succ hk, e]
      have : ((c : Int) == (j : Int)) = false := by rw [beq_eq_false_iff_ne]; omega
      rw [this]
      simp
  · rw [List.getElem?_eq_none (by simp [lnkC]; omega), List.getElem?_eq_none (by simp [lnkC]; omega)]
theorem lcB_mk {ws : List Ino} {ts : List Den} (h : ∀ i (h : i < ws.length), ws[i].links = lnkV ts ts.length i) : lcB ws ts = true := decide_eq_true h
theorem lcB_not {ws : List Ino} {ts : List Den} {i : Nat} (hi : i < ws.length) (h : ¬ ws[i].links = lnkV ts ts.length i) : lcB ws ts = false := decide_eq_false (fun x => h (x i hi))
set_option maxRecDepth 100000 in
set_option maxHeartbeats 4000000 in
theorem linksCounted_any (vW v : Value) (ws : List Ino) (ts : List Den) (w : World) (hw : RdN w vW ws) (h : RdD w v ts) (hl : ws.length = 16) (hn : ts.length ≤ 4096) (hT : ∀ k (h : k < ts.length), 0 ≤ ts[k].child ∧ ts[k].child ≤ 15) :
    Calls Tryz.prog 119 #[vW, v] w fun e w' => e = .returned (.bool (lcB ws ts)) ∧ Below w.heap.size w w' := by
  obtain ⟨aW, cW, rfl, _, hcW⟩ := hw.shape
  obtain ⟨aP, cP, rfl, _, hcP⟩ := h.shape
  have HW := hideIt hcW
  have HP := hideIt hcP
  have HT := hideIt hT
  have HL := hideIt hl
  have S0 : Hid ((w.alloc (.cells #[.int .i64 1, .int .i64 0, .int .i64 0, .int .i64 0, .int .i64 0, .int .i64 0, .int .i64 0, .int .i64 0, .int .i64 0, .int .i64 0, .int .i64 0, .int .i64 0, .int .i64 0, .int .i64 0, .int .i64 0, .int .i64 0] 237)).heap[w.heap.size]? = some (.cells (lnkC ts 0).toArray 237 (0, 0)) ∧ Below w.heap.size w (w.alloc (.cells #[.int .i64 1, .int .i64 0, .int .i64 0, .int .i64 0, .int .i64 0, .int .i64 0, .int .i64 0, .int .i64 0, .int .i64 0, .int .i64 0, .int .i64 0, .int .i64 0, .int .i64 0, .int .i64 0, .int .i64 0, .int .i64 0] 237))) := ⟨at_new rfl, (Below.refl _ _).alloc (Nat.le_refl _) _⟩
  clear h hw hcW hcP hT hl
  go_enter Tryz.func119, Tryz.ntmps119
  go_wp2
  go_loopw [7, 13] (fun _ i wr => ∃ k : Nat, k ≤ ts.length ∧ i = .int .i64 k ∧ Hid (wr.heap[w.heap.size]? = some (.cells (lnkC ts k).toArray 237 (0, 0)) ∧ Below w.heap.size w wr)) (fun _ i _ => ts.length - (intOf i).toNat)
  case atStart => exact ⟨0, by omega, rfl, S0⟩
  case round =>
    obtain ⟨k, hk, rfl, I⟩ := hrel
    have hz : w.heap.size ≤ wr.heap.size := I.out.2.size
    have hzz : w.heap.size < wr.heap.size := (Array.getElem?_eq_some_iff.1 I.out.1).1
    clear S0
    by_cases hlt : k < ts.length
    · obtain ⟨b, o, rfl, hbl, hcell⟩ := HP.out (by omega)
      obtain ⟨a0, a1, a2⟩ := hcell k hlt
      have d0 := (I.out.2.cell (p := ⟨b, o + k * 3, none⟩) hbl).trans a0
      have d1 := (I.out.2.cell (p := ⟨b, o + k * 3 + 1, none⟩) hbl).trans a1
      have d2 := (I.out.2.cell (p := ⟨b, o + k * 3 + 2, none⟩) hbl).trans a2
      have k0 : (0 : Int) ≤ (k : Int) := by omega
      have k1 : (k : Int) < (ts.length : Int) := by omega
      obtain ⟨c1, c2⟩ := HT.out k hlt
      obtain ⟨c, hc⟩ : ∃ c : Nat, ts[k].child = (c : Int) := ⟨ts[k].child.toNat, by omega⟩
      have LS := hideIt (lnkC_succ hlt (c := c) (by omega) hc)
      rw [hc] at d2 c1 c2
      obtain ⟨v0, v1⟩ := lnkV_bound ts k c
      have LA := hideIt (lnkC_at ts k c (by omega))
      have g1 := (eight_at I.out.1 c).1.trans LA.out
      have g2 := (eight_at I.out.1 c).2
      clear a0 a1 a2 hcell hc
      generalize ts[k].dir = xd at *
      generalize ts[k].name = xs at *
      generalize lnkV ts k c = z at *
      have BA : Hid (Below wr.heap.size wr (wr.alloc (.cells #[.int .i64 xd, .string xs, .int .i64 (c : Int)] 140))) := (Below.refl _ _).alloc (Nat.le_refl _) _
      have g3 := (BA.out.cell (p := ⟨w.heap.size, c, none⟩) hzz).trans g1
      have g4 : (wr.alloc (.cells #[.int .i64 xd, .string xs, .int .i64 (c : Int)] 140)).frozen? ⟨w.heap.size, c, none⟩ = false := (eight_at (at_old I.out.1) c).2
      have c16 : (c : Int) < 16 := by omega
      have G : Hid (((wr.setCell ⟨w.heap.size, c, none⟩ (.int .i64 (z + 1))).alloc (.cells #[.int .i64 xd, .string xs, .int .i64 (c : Int)] 140)).heap[w.heap.size]? = some (.cells (lnkC ts (k + 1)).toArray 237 (0, 0)) ∧ Below w.heap.size w ((wr.setCell ⟨w.heap.size, c, none⟩ (.int .i64 (z + 1))).alloc (.cells #[.int .i64 xd, .string xs, .int .i64 (c : Int)] 140))) := by
        refine ⟨?_, (I.out.2.setCell (Nat.le_refl _) _).alloc (by simp; omega) _⟩
        rw [← LS.out]
        exact at_old (eight_set I.out.1 c _)
      clear I LS LA BA
      go_wp2
      go_roundw
      case rel => exact ⟨k + 1, by omega, by go_num, G⟩
      case measure => simp [intOf]; omega
    · obtain rfl : k = ts.length := by omega
      have START : Hid (Below wr.heap.size wr wr) := Below.refl _ _
      have HC : Hid (∀ w', Below wr.heap.size wr w' → ∀ j, j < 16 → w'.cell? ⟨w.heap.size, j, none⟩ = some (.int .i64 (lnkV ts ts.length j))) := fun w' hb j hj => by
        have := (hb.block _ hzz).trans I.out.1
        exact (eight_at this j).1.trans (lnkC_at ts ts.length j hj)
      have BW := hideIt I.out.2
      generalize hV : wr = V at *
      clear hV I
      go_wp2
      go_loopw [8, 9, 26] (fun _ _ i wq => ∃ m : Nat, m ≤ ws.length ∧ i = .int .i64 m ∧ Hid (Below V.heap.size V wq ∧ ∀ j (h : j < ws.length), j < m → ws[j].links = lnkV ts ts.length j)) (fun _ _ i _ => ws.length - (intOf i).toNat)
      case atStart => exact ⟨0, by omega, rfl, START.out, fun j h a => absurd a (by omega)⟩
      case round =>
        obtain ⟨m, hm, rfl, J⟩ := hrel
        have J1 := hideIt J.out.1
        have JW := hideIt (below_trans BW.out J.out.1 hz)
        have hzq : V.heap.size ≤ wr.heap.size := J.out.1.size
        by_cases hlm : m < ws.length
        · obtain ⟨b, o, rfl, hbl, hcell⟩ := HW.out (by omega)
          obtain ⟨a0, a1, a2, a3, a4, a5, a6, a7, a8, a9, a10⟩ := hcell m hlm
          have d0 := (JW.out.cell (p := ⟨b, o + m * 11, none⟩) hbl).trans a0
          have d1 := (JW.out.cell (p := ⟨b, o + m * 11 + 1, none⟩) hbl).trans a1
          have d2 := (JW.out.cell (p := ⟨b, o + m * 11 + 2, none⟩) hbl).trans a2
          have d3 := (JW.out.cell (p := ⟨b, o + m * 11 + 3, none⟩) hbl).trans a3
          have d4 := (JW.out.cell (p := ⟨b, o + m * 11 + 4, none⟩) hbl).trans a4
          have d5 := (JW.out.cell (p := ⟨b, o + m * 11 + 5, none⟩) hbl).trans a5
          have d6 := (JW.out.cell (p := ⟨b, o + m * 11 + 6, none⟩) hbl).trans a6
          have d7 := (JW.out.cell (p := ⟨b, o + m * 11 + 7, none⟩) hbl).trans a7
          have d8 := (JW.out.cell (p := ⟨b, o + m * 11 + 8, none⟩) hbl).trans a8
          have d9 := (JW.out.cell (p := ⟨b, o + m * 11 + 9, none⟩) hbl).trans a9
          have d10 := (JW.out.cell (p := ⟨b, o + m * 11 + 10, none⟩) hbl).trans a10
          have m0 : (0 : Int) ≤ (m : Int) := by omega
          have m1 : (m : Int) < (ws.length : Int) := by omega
          have m16 : (m : Int) < 16 := by have := HL.out; omega
          have B2 := hideIt (J1.out.alloc hzq (.cells ws[m].cs.toArray 150))
          have l1 := HC.out _ B2.out m (by omega)
          have J2 : Hid (ws[m].links = lnkV ts ts.length m → ∀ j (h : j < ws.length), j < m + 1 → ws[j].links = lnkV ts ts.length j) := fun q j h a => by
            by_cases e : j = m
            · subst e; exact q
            · exact J.out.2 j h (by omega)
          have J3 := hideIt (fun q => lcB_not (ts := ts) hlm q)
          clear a0 a1 a2 a3 a4 a5 a6 a7 a8 a9 a10 hcell J
          generalize lnkV ts ts.length m = z at l1 J2 J3
          generalize ws[m] = x at d0 d1 d2 d3 d4 d5 d6 d7 d8 d9 d10 B2 l1 J2 J3
          have BF := hideIt (below_trans BW.out B2.out hz)
          unfold Ino.cs at B2 BF l1
          by_cases q : x.links = z
          · have q1 : (x.links != z) = false := by rw [q]; simp
            have E := hideIt (J2.out q)
            clear q J2 J3
            go_wp2
            go_quiet (fail)
            go_wp2
            go_roundw
            case rel => exact ⟨m + 1, by omega, by go_num, below_drewN B2.out _, E.out⟩
            case measure => simp [intOf]; omega
          · have q1 : (x.links != z) = true := by rw [bne_iff_ne]; exact q
            have E := hideIt (J3.out q)
            clear q J2 J3
            go_wp2
            go_quiet (fail)
            go_wp2
            go_ret
            exact ⟨ret_bool E.out.symm, below_drewN BF.out _⟩
        · have E := hideIt (lcB_mk (ts := ts) (fun j h => J.out.2 j h (by omega)))
          clear J
          go_wp2
          go_ret
          exact ⟨ret_bool E.out.symm, JW.out⟩
end Go.Proofs.YtmeiionabonhnaaGreatDoor
