/- Several texts laid together: PiK, PiL. -/
import Derived.Test.YtipklbnfobckaaaGreatDoorImX
import Derived.Test.YtipklbnfobckaaaGreatDoorZAK
import Derived.Test.YtipklbnfobckaaaGreatDoorZAL
import Derived.Laws.Cover3
namespace Go.Proofs.YtipklbnfobckaaaGreatDoor
open Go.RowKit

/-- All inodes are right, each alone. -/
def ztw (ws : List Ino) : Bool := decide (∀ k (h : k < ws.length), zei ws[k] = true)
theorem okNs_mk {ws : List Ino} (h : ∀ k (h : k < ws.length), zei ws[k] = true) : ztw ws = true := decide_eq_true h
theorem okNs_not {ws : List Ino} {k : Nat} (hk : k < ws.length) (h : zei ws[k] = false) : ztw ws = false := decide_eq_false (fun x => by have := x k hk; rw [h] at this; cases this)
theorem okDs_mk {ps : List Den} (h : ∀ k (h : k < ps.length), ps[k].okB = true) : okDs ps = true := decide_eq_true h
theorem okDs_not {ps : List Den} {k : Nat} (hk : k < ps.length) (h : ps[k].okB = false) : okDs ps = false := decide_eq_false (fun x => by have := x k hk; rw [h] at this; cases this)

set_option maxRecDepth 100000 in
set_option maxHeartbeats 4000000 in
theorem zng (v : Value) (ws : List Ino) (w : World) (h : RdN w v ws) (hn : ws.length ≤ 1048576) (hT : TS w) (hE : ED w) (hr : ∀ k (h : k < ws.length), ws[k].R) :
  Calls Tryz.prog 224 #[v, .func (.func 225) #[] #[]] w fun e w' => e = .returned (.bool (ztw ws)) ∧ Below w.heap.size w w' := by
 obtain ⟨aW, cW, rfl, _, hcW⟩ := h.shape
 have HW := zaa hcW
 have T := zaa hT
 have E0 := zaa hE
 have HR := zaa hr
 clear h hcW hT hE hr
 go_enter Tryz.func224, Tryz.ntmps224
 go_wp2
 go_loopw [6, 9] (fun _ i wr => ∃ k : Nat, k ≤ ws.length ∧ i = .int .i64 k ∧ Hid (Below w.heap.size w wr ∧ ∀ j (h : j < ws.length), j < k → zei ws[j] = true)) (fun _ i _ => ws.length - (intOf i).toNat)
 case atStart => exact ⟨0, by omega, rfl, Below.refl _ _, fun j h a => absurd a (by omega)⟩
 case round =>
  obtain ⟨k, hk, rfl, H⟩ := hrel
  have H1 := zaa H.out.1
  have hz : w.heap.size ≤ wr.heap.size := H.out.1.size
  by_cases hlt : k < ws.length
  ·obtain ⟨b, o, rfl, hbl, hcell⟩ := HW.out (by omega)
   obtain ⟨a0, a1, a2, a3, a4, a5, a6, a7, a8, a9, a10⟩ := hcell k hlt
   have d0 := (H1.out.cell (p := ⟨b, o + k * 11, none⟩) hbl).trans a0
   have d1 := (H1.out.cell (p := ⟨b, o + k * 11 + 1, none⟩) hbl).trans a1
   have d2 := (H1.out.cell (p := ⟨b, o + k * 11 + 2, none⟩) hbl).trans a2
   have d3 := (H1.out.cell (p := ⟨b, o + k * 11 + 3, none⟩) hbl).trans a3
   have d4 := (H1.out.cell (p := ⟨b, o + k * 11 + 4, none⟩) hbl).trans a4
   have d5 := (H1.out.cell (p := ⟨b, o + k * 11 + 5, none⟩) hbl).trans a5
   have d6 := (H1.out.cell (p := ⟨b, o + k * 11 + 6, none⟩) hbl).trans a6
   have d7 := (H1.out.cell (p := ⟨b, o + k * 11 + 7, none⟩) hbl).trans a7
   have d8 := (H1.out.cell (p := ⟨b, o + k * 11 + 8, none⟩) hbl).trans a8
   have d9 := (H1.out.cell (p := ⟨b, o + k * 11 + 9, none⟩) hbl).trans a9
   have d10 := (H1.out.cell (p := ⟨b, o + k * 11 + 10, none⟩) hbl).trans a10
   have k0 : (0 : Int) ≤ (k : Int) := by omega
   have k1 : (k : Int) < (ws.length : Int) := by omega
   have B2 := zaa (H1.out.alloc hz (.cells ws[k].cs.toArray 171))
   have LI := zaa (fun w1 (h : Below w.heap.size w w1) => zvr ws[k] w1 (T.out.below h) (E0.out.below h) (HR.out k hlt))
   have H2 : Hid (∀ j (h : j < ws.length), j < k → zei ws[j] = true) := H.out.2
   clear a0 a1 a2 a3 a4 a5 a6 a7 a8 a9 a10 hcell H
   cases q : zei ws[k] with
   | true =>
    have H' : Hid (∀ j (h : j < ws.length), j < k + 1 → zei ws[j] = true) := fun j h a => by
     by_cases e : j = k
     ·subst e; exact q
     ·exact H2.out j h (by omega)
    rw [q] at LI
    clear q H2
    generalize ws[k] = x at d0 d1 d2 d3 d4 d5 d6 d7 d8 d9 d10 B2 LI
    go_wp2_with fail
    refine (LI.out _ B2.out).mono ?_
    rintro e w1 ⟨rfl, hb1⟩
    have B3 := zaa (zab B2.out hb1 B2.out.size)
    clear hb1 d0 d1 d2 d3 d4 d5 d6 d7 d8 d9 d10
    go_wp2
    go_roundw
    case rel => exact ⟨k + 1, by omega, by go_num, B3.out, H'.out⟩
    case measure => simp [intOf]; omega
   | false =>
    have E := zaa (okNs_not hlt q)
    rw [q] at LI
    clear q H2
    generalize ws[k] = x at d0 d1 d2 d3 d4 d5 d6 d7 d8 d9 d10 B2 LI
    go_wp2_with fail
    refine (LI.out _ B2.out).mono ?_
    rintro e w1 ⟨rfl, hb1⟩
    have B3 := zaa (zab B2.out hb1 B2.out.size)
    clear hb1 d0 d1 d2 d3 d4 d5 d6 d7 d8 d9 d10
    go_wp2
    go_ret
    exact ⟨zac E.out.symm, B3.out⟩
  ·have E := zaa (okNs_mk (fun j h => H.out.2 j h (by omega)))
   clear H
   go_wp2
   go_ret
   exact ⟨zac E.out.symm, H1.out⟩

set_option maxRecDepth 100000 in
set_option maxHeartbeats 4000000 in
theorem zlo (v : Value) (ps : List Den) (w : World) (h : RdD w v ps) (hn : ps.length ≤ 1048576) (hF : FD w) (hs : ∀ k (h : k < ps.length), ps[k].name.size ≤ maxLen) :
  Calls Tryz.prog 226 #[v, .func (.func 227) #[] #[]] w fun e w' => e = .returned (.bool (okDs ps)) ∧ Below w.heap.size w w' := by
 obtain ⟨aP, cP, rfl, _, hcP⟩ := h.shape
 have HP := zaa hcP
 have F := zaa hF
 have HS := zaa hs
 clear h hcP hF hs
 go_enter Tryz.func226, Tryz.ntmps226
 go_wp2
 go_loopw [6, 9] (fun _ i wr => ∃ k : Nat, k ≤ ps.length ∧ i = .int .i64 k ∧ Hid (Below w.heap.size w wr ∧ ∀ j (h : j < ps.length), j < k → ps[j].okB = true)) (fun _ i _ => ps.length - (intOf i).toNat)
 case atStart => exact ⟨0, by omega, rfl, Below.refl _ _, fun j h a => absurd a (by omega)⟩
 case round =>
  obtain ⟨k, hk, rfl, H⟩ := hrel
  have H1 := zaa H.out.1
  have hz : w.heap.size ≤ wr.heap.size := H.out.1.size
  by_cases hlt : k < ps.length
  ·obtain ⟨b, o, rfl, hbl, hcell⟩ := HP.out (by omega)
   obtain ⟨a0, a1, a2⟩ := hcell k hlt
   have d0 := (H1.out.cell (p := ⟨b, o + k * 3, none⟩) hbl).trans a0
   have d1 := (H1.out.cell (p := ⟨b, o + k * 3 + 1, none⟩) hbl).trans a1
   have d2 := (H1.out.cell (p := ⟨b, o + k * 3 + 2, none⟩) hbl).trans a2
   have k0 : (0 : Int) ≤ (k : Int) := by omega
   have k1 : (k : Int) < (ps.length : Int) := by omega
   have B2 := zaa (H1.out.alloc hz (.cells #[.int .i64 ps[k].dir, .string ps[k].name, .int .i64 ps[k].child] 173))
   have LI := zaa (fun w1 (h : Below w.heap.size w w1) => ztb ps[k] w1 (F.out.below h) (HS.out k hlt))
   have H2 : Hid (∀ j (h : j < ps.length), j < k → ps[j].okB = true) := H.out.2
   clear a0 a1 a2 hcell H
   cases q : ps[k].okB with
   | true =>
    have H' : Hid (∀ j (h : j < ps.length), j < k + 1 → ps[j].okB = true) := fun j h a => by
     by_cases e : j = k
     ·subst e; exact q
     ·exact H2.out j h (by omega)
    rw [q] at LI
    clear q H2
    generalize ps[k] = x at d0 d1 d2 B2 LI
    go_wp2_with fail
    refine (LI.out _ B2.out).mono ?_
    rintro e w1 ⟨rfl, hb1⟩
    have B3 := zaa (zab B2.out hb1 B2.out.size)
    clear hb1 d0 d1 d2
    go_wp2
    go_roundw
    case rel => exact ⟨k + 1, by omega, by go_num, B3.out, H'.out⟩
    case measure => simp [intOf]; omega
   | false =>
    have E := zaa (okDs_not hlt q)
    rw [q] at LI
    clear q H2
    generalize ps[k] = x at d0 d1 d2 B2 LI
    go_wp2_with fail
    refine (LI.out _ B2.out).mono ?_
    rintro e w1 ⟨rfl, hb1⟩
    have B3 := zaa (zab B2.out hb1 B2.out.size)
    clear hb1 d0 d1 d2
    go_wp2
    go_ret
    exact ⟨zac E.out.symm, B3.out⟩
  ·have E := zaa (okDs_mk (fun j h => H.out.2 j h (by omega)))
   clear H
   go_wp2
   go_ret
   exact ⟨zac E.out.symm, H1.out⟩

/-- The parts of an image. -/
def zfi (ws : List Ino) (ps : List Den) : Bool := decide (ws.length = 16) && (decide (ps.length = 24) && (ztw ws && okDs ps))

set_option maxRecDepth 100000 in
set_option maxHeartbeats 4000000 in
theorem zvm (v : Value) (ws : List Ino) (ps : List Den) (w : World) (h : RdIm w v ws ps) (hw : ws.length ≤ 1048576) (hp : ps.length ≤ 1048576) (hT : TS w) (hE : ED w) (hF : FD w) (hr : ∀ k (h : k < ws.length), ws[k].R) (hs : ∀ k (h : k < ps.length), ps[k].name.size ≤ maxLen) :
  Calls Tryz.prog 162 #[v] w fun e w' => e = .returned (.bool (zfi ws ps)) ∧ Below w.heap.size w w' := by
 obtain ⟨vW, vP, rfl, h1, h2⟩ := h
 have RW := zaa h1
 have RP := zaa h2
 obtain ⟨aW, cW, rfl, _, _⟩ := h1.shape
 obtain ⟨aP, cP, rfl, _, _⟩ := h2.shape
 have BW := zaa ((Below.refl w.heap.size w).alloc (Nat.le_refl _) (.cells #[.slice aW ws.length cW, .slice aP ps.length cP] 83))
 have CA : Hid (∀ w', Below (w.alloc (.cells #[.slice aW ws.length cW, .slice aP ps.length cP] 83)).heap.size (w.alloc (.cells #[.slice aW ws.length cW, .slice aP ps.length cP] 83)) w' → w'.cell? ⟨w.heap.size, 0, none⟩ = some (.slice aW ws.length cW) ∧ w'.cell? ⟨w.heap.size, 1, none⟩ = some (.slice aP ps.length cP)) := fun w' hb => by
  have : w'.heap[w.heap.size]? = some (.cells #[.slice aW ws.length cW, .slice aP ps.length cP] 83 (0, 0)) := (hb.block _ (by simp)).trans (zah rfl)
  exact ⟨(zad this).1, (zad this).2.1⟩
 have LN := zaa (fun w1 (hb : Below w.heap.size w w1) => zng (.slice aW ws.length cW) ws w1 (Rd.below RW.out hb) hw (hT.below hb) (hE.below hb) hr)
 have LD := zaa (fun w1 (hb : Below w.heap.size w w1) => zlo (.slice aP ps.length cP) ps w1 (Rd.below RP.out hb) hp (hF.below hb) hs)
 obtain ⟨x0, x1⟩ := CA.out _ (Below.refl _ _)
 clear h1 h2 hT hE hF hr hs
 by_cases c1 : ws.length = 16
 case neg =>
  have E := zaa (show zfi ws ps = false by unfold zfi; rw [decide_eq_false c1]; rfl)
  have q : ((ws.length : Int) == 16) = false := by rw [beq_eq_false_iff_ne]; omega
  clear c1
  go_enter Tryz.func162, Tryz.ntmps162
  go_wp2
  go_ret
  exact ⟨zac E.out.symm, BW.out⟩
 have q : ((ws.length : Int) == 16) = true := by rw [beq_iff_eq]; omega
 by_cases c2 : ps.length = 24
 case neg =>
  have E := zaa (show zfi ws ps = false by unfold zfi; rw [decide_eq_false c2, Bool.false_and, Bool.and_false])
  have q2 : ((ps.length : Int) == 24) = false := by rw [beq_eq_false_iff_ne]; omega
  clear c1 c2
  go_enter Tryz.func162, Tryz.ntmps162
  go_wp2
  go_ret
  exact ⟨zac E.out.symm, BW.out⟩
 have q2 : ((ps.length : Int) == 24) = true := by rw [beq_iff_eq]; omega
 have E := zaa (show zfi ws ps = (ztw ws && okDs ps) by unfold zfi; rw [decide_eq_true c1, decide_eq_true c2]; rfl)
 clear c1 c2
 cases q3 : ztw ws with
 | false =>
  rw [q3] at E LN
  clear q3
  go_enter Tryz.func162, Tryz.ntmps162
  go_wp2_with fail
  refine (LN.out _ BW.out).mono ?_
  rintro e w1 ⟨rfl, hb1⟩
  have B1 := zaa (zab BW.out hb1 BW.out.size)
  clear hb1 x0 x1
  go_wp2
  go_ret
  exact ⟨zac (by rw [E.out]; rfl), B1.out⟩
 | true =>
  rw [q3] at E LN
  clear q3
  go_enter Tryz.func162, Tryz.ntmps162
  go_wp2_with fail
  refine (LN.out _ BW.out).mono ?_
  rintro e w1 ⟨rfl, hb1⟩
  have B1 := zaa (zab BW.out hb1 BW.out.size)
  clear x0 x1
  obtain ⟨x0, x1⟩ := CA.out _ hb1
  clear hb1
  go_wp2_with fail
  refine (LD.out _ B1.out).mono ?_
  rintro e w2 ⟨rfl, hb2⟩
  have B2 := zaa (zab B1.out hb2 B1.out.size)
  clear hb2 x0 x1
  go_wp2
  go_ret
  exact ⟨zac (by rw [E.out]; rfl), B2.out⟩
end Go.Proofs.YtipklbnfobckaaaGreatDoor

namespace Go.Proofs.YtipklbnfobckaaaGreatDoor
open Go.RowKit

@[go_sem] theorem eqlNilDen (a : Option Addr) (l c : Nat) (w : World) : (binOp .eql 81 (.slice a l c) (.slice none 0 0)).run Tryz.prog w = .ok (.bool a.isNone) w := by
 simp only [binOp]
 simp [run_equal_slice_nil w 81 173 a l c Tryz.underlying81]

set_option maxRecDepth 100000 in
set_option maxHeartbeats 4000000 in
theorem zrn (v : Value) (ps : List Den) (w : World) (h : RdD w v ps) (hn : ps.length ≤ 4096) :
  Calls Tryz.prog 228 #[v] w fun e w' => ∃ v', e = .returned v' ∧ Row w' 173 3 w.heap.size w'.heap.size v' ps.length (dens ps) ∧ Below w.heap.size w w' := by
 have HR := zaa h
 obtain ⟨ao, cap, rfl, _, hc⟩ := h.shape
 clear h
 cases ao with
 | none =>
  have hl : ps.length = 0 := by
   rcases Nat.eq_zero_or_pos ps.length with e | e
   ·exact e
   ·obtain ⟨b, o, e1, _⟩ := hc e
    cases e1
  have hps : ps = [] := List.eq_nil_of_length_eq_zero hl
  subst hps
  clear hc hl
  go_enter Tryz.func228, Tryz.ntmps228
  go_wp2
  go_ret
  exact ⟨_, rfl, Row.nil _ _ _ _ _, Below.refl _ _⟩
 | some a =>
  have BB := zaa ((Below.refl w.heap.size w).alloc (Nat.le_refl _) (.cells #[] 173))
  have OB := zaa (World.ownsRow_lit (e := 173) (size := 3) w #[] 0 (Nat.le_refl _) (by simp [maxLen]) (by simp))
  have RB : Hid (Rd (w.alloc (.cells #[] 173)) 3 (.slice (some a) ps.length cap) ps.length (dens ps)) := Rd.below HR.out BB.out
  have hz : w.heap.size ≤ (w.alloc (.cells #[] 173)).heap.size := BB.out.size
  clear hc
  go_enter Tryz.func228, Tryz.ntmps228
  go_wp2_with (at_builtin; refine zai _ rfl (.tmp 5) (.tmp 6) 81 rfl w.heap.size 173 (.agg #[.int .i64 0, .string ⟨#[]⟩, .int .i64 0]) 3 32 Tryz.underlying81 zmk rfl (by decide) _ 0 [] rfl OB.out _ ps.length (dens ps) rfl RB.out (zft _) (by simp [maxLen]; omega) (by omega) hz ?_)
  intro vN wN hownN hgrN
  have ON := zaa hownN
  have BN := zaa (BB.out.grown hgrN hz (fun q hq => (OB.out.lt q hq).1))
  clear hownN hgrN
  obtain ⟨-, aL, cL, hvL, -⟩ := (zaf ON.out).rd
  subst hvL
  go_wp2
  go_ret
  exact ⟨_, rfl, zaf ON.out, BN.out⟩

/-- The first entries without their inodes. -/
def zfa (ds : List Den) (k : Nat) : List Den := (ds.take k).map zgm ++ ds.drop k
theorem zoj (ds : List Den) (k : Nat) : (zfa ds k).length = ds.length := by
 unfold zfa
 rw [List.length_append, List.length_map, List.length_take, List.length_drop]
 omega
theorem zwp (ds : List Den) : zfa ds 0 = ds := by simp [zfa]
theorem anonTo_all (ds : List Den) : zfa ds ds.length = ds.map zgm := by simp [zfa]
theorem zuo {ds : List Den} {k : Nat} (h : k < ds.length) : (dens (zfa ds k)).set (k * 3 + 2) (.int .i64 (-1)) = dens (zfa ds (k + 1)) := by
 have e1 : ds.drop k = ds[k] :: ds.drop (k + 1) := List.drop_eq_getElem_cons h
 have l1 : (dens ((ds.take k).map zgm)).length = k * 3 := by rw [zxd, List.length_map, List.length_take]; congr 1; omega
 unfold zfa
 rw [e1, List.take_succ_eq_append_getElem h, List.map_append, zia, zia, zia, List.set_append_right _ _ (by omega), l1, List.append_assoc]
 congr 1
 rw [show k * 3 + 2 - k * 3 = 2 by omega]
 rfl
theorem dens_at2' (ps : List Den) (k : Nat) (h : k < ps.length) : (dens ps)[k * 3 + 2]? = some (.int .i64 ps[k].child) := zbc _ 3 Den.cells_len ps k 2 h (by omega)

set_option maxRecDepth 100000 in
set_option maxHeartbeats 4000000 in
theorem zqq (v : Value) (ds : List Den) (w : World) (h : RdD w v ds) (hn : ds.length ≤ 4096) :
  Calls Tryz.prog 165 #[v] w fun e w' => e = .returned (.bool (zlz (ds.map zgm))) ∧ Below w.heap.size w w' := by
 have HR := zaa h
 obtain ⟨ao, cap, rfl, _, _⟩ := h.shape
 clear h
 go_enter Tryz.func165, Tryz.ntmps165
 go_wp2_with fail
 refine (zrn _ ds _ HR.out hn).mono ?_
 rintro e w1 ⟨vN, rfl, hr1, hb1⟩
 obtain ⟨-, aN, cN, hvN, -⟩ := hr1.rd
 subst hvN
 have R1 := zaa hr1
 have B1 := zaa hb1
 have hz1 : w.heap.size ≤ w1.heap.size := hb1.size
 clear hr1 hb1
 go_wp2
 go_loopw [4, 9] (fun _ i wr => ∃ k : Nat, k ≤ ds.length ∧ i = .int .i64 k ∧ Hid (Row wr 173 3 w.heap.size w1.heap.size (.slice aN ds.length cN) ds.length (dens (zfa ds k)) ∧ Below w.heap.size w wr)) (fun _ i _ => ds.length - (intOf i).toNat)
 case atStart => exact ⟨0, by omega, rfl, by rw [zwp]; exact R1.out, B1.out⟩
 case round =>
  obtain ⟨k, hk, rfl, H⟩ := hrel
  by_cases hlt : k < ds.length
  ·rcases Row.shape H.out.1 with ⟨_, e, _⟩ | ⟨b, cap', e, _, _⟩
   ·exact absurd e (by omega)
   obtain ⟨rfl, rfl⟩ : aN = some ⟨b, 0, none⟩ ∧ cN = cap' := by cases e; exact ⟨rfl, rfl⟩
   obtain ⟨_, l1, l2, l3, fr, ce⟩ := Row.at H.out.1
   have f0 := fr (k * 3 + 2)
   have c0 := (ce (k * 3 + 2) (by omega)).trans (dens_at2' (zfa ds k) k (by rw [zoj]; exact hlt))
   have k0 : (0 : Int) ≤ (k : Int) := by omega
   have k1 : (k : Int) < (ds.length : Int) := by omega
   have G : Hid (Row (wr.setCell ⟨b, k * 3 + 2, none⟩ (.int .i64 (-1))) 173 3 w.heap.size w1.heap.size (.slice (some ⟨b, 0, none⟩) ds.length cN) ds.length (dens (zfa ds (k + 1))) ∧ Below w.heap.size w (wr.setCell ⟨b, k * 3 + 2, none⟩ (.int .i64 (-1)))) := by
    refine ⟨?_, H.out.2.setCell l1 _⟩
    rw [← zuo hlt]
    exact Row.stored H.out.1 _ _
   clear H fr ce R1 e
   generalize ((zfa ds k)[k]'(by rw [zoj]; exact hlt)).child = z at c0
   go_wp2
   go_roundw
   case rel => exact ⟨k + 1, by omega, by go_num, G⟩
   case measure => simp [intOf]; omega
  ·obtain rfl : k = ds.length := by omega
   have LA := zaa (anonTo_all ds)
   rw [LA.out] at H
   have R2 : Hid (RdD wr (.slice aN ds.length cN) (ds.map zgm)) := by
    unfold Hid RdD
    rw [List.length_map]
    exact H.out.1.rd
   have B2 := zaa H.out.2
   have hl : (ds.map zgm).length ≤ 1048576 := by rw [List.length_map]; omega
   have HL := zaa hl
   clear H hl
   go_wp2_with fail
   refine (zkf _ (ds.map zgm) _ R2.out HL.out).mono ?_
   rintro e w2 ⟨rfl, hb2⟩
   have B3 := zaa (zab B2.out hb2 B2.out.size)
   clear hb2
   go_wp2
   go_ret
   exact ⟨rfl, B3.out⟩

theorem fitsB_mk {ws : List Ino} {ts : List Den} (h : ∀ k (h : k < ts.length), fitB ws ts[k] = true) : znr ws ts = true := decide_eq_true h
theorem fitsB_not {ws : List Ino} {ts : List Den} {k : Nat} (hk : k < ts.length) (h : fitB ws ts[k] = false) : znr ws ts = false := decide_eq_false (fun x => by have := x k hk; rw [h] at this; cases this)

set_option maxRecDepth 100000 in
set_option maxHeartbeats 4000000 in
theorem zrf (vW v : Value) (ws : List Ino) (ts : List Den) (w : World) (hw : RdN w vW ws) (h : RdD w v ts) (hl : ws.length = 16) (hn : ts.length ≤ 4096) (hT : ∀ k (h : k < ts.length), (0 ≤ ts[k].child ∧ ts[k].child ≤ 15) ∧ (0 ≤ ts[k].dir ∧ ts[k].dir ≤ 15)) :
  Calls Tryz.prog 164 #[vW, v] w fun e w' => e = .returned (.bool (znr ws ts)) ∧ Below w.heap.size w w' := by
 obtain ⟨aW, cW, rfl, _, hcW⟩ := hw.shape
 obtain ⟨aP, cP, rfl, _, hcP⟩ := h.shape
 have HW := zaa hcW
 have HP := zaa hcP
 have HT := zaa hT
 have HL := zaa hl
 have hl' : (16 : Int) ≤ (ws.length : Int) := by omega
 clear h hw hcW hcP hT hl
 go_enter Tryz.func164, Tryz.ntmps164
 go_wp2
 go_loopw [6, 9] (fun _ i wr => ∃ k : Nat, k ≤ ts.length ∧ i = .int .i64 k ∧ Hid (Below w.heap.size w wr ∧ ∀ j (h : j < ts.length), j < k → fitB ws ts[j] = true)) (fun _ i _ => ts.length - (intOf i).toNat)
 case atStart => exact ⟨0, by omega, rfl, Below.refl _ _, fun j h a => absurd a (by omega)⟩
 case round =>
  obtain ⟨k, hk, rfl, H⟩ := hrel
  have H1 := zaa H.out.1
  have hz : w.heap.size ≤ wr.heap.size := H.out.1.size
  by_cases hlt : k < ts.length
  ·obtain ⟨b, o, rfl, hbl, hcell⟩ := HP.out (by omega)
   obtain ⟨bW, oW, rfl, hblW, hcellW⟩ := HW.out (by have := HL.out; omega)
   obtain ⟨a0, a1, a2⟩ := hcell k hlt
   have d0 := (H1.out.cell (p := ⟨b, o + k * 3, none⟩) hbl).trans a0
   have d1 := (H1.out.cell (p := ⟨b, o + k * 3 + 1, none⟩) hbl).trans a1
   have d2 := (H1.out.cell (p := ⟨b, o + k * 3 + 2, none⟩) hbl).trans a2
   have k0 : (0 : Int) ≤ (k : Int) := by omega
   have k1 : (k : Int) < (ts.length : Int) := by omega
   obtain ⟨⟨c1, c2⟩, c3, c4⟩ := HT.out k hlt
   have H2 : Hid (fitB ws ts[k] = true → ∀ j (h : j < ts.length), j < k + 1 → fitB ws ts[j] = true) := fun q j h a => by
    by_cases e : j = k
    ·subst e; exact q
    ·exact H.out.2 j h (by omega)
   have H3 := zaa (fun q => fitsB_not (ws := ws) hlt q)
   clear a0 a1 a2 hcell H
   generalize ts[k] = x at *
   obtain ⟨xd, xs, xc⟩ := x
   simp only at d0 d1 d2 c1 c2 c3 c4
   obtain ⟨d, rfl⟩ : ∃ d : Nat, xd = (d : Int) := ⟨xd.toNat, by omega⟩
   obtain ⟨c, rfl⟩ : ∃ c : Nat, xc = (c : Int) := ⟨xc.toNat, by omega⟩
   have hd : d < ws.length := by omega
   have hc : c < ws.length := by omega
   have B2 := zaa (H1.out.alloc hz (.cells #[.int .i64 (d : Int), .string xs, .int .i64 (c : Int)] 173))
   have g0 := (B2.out.cell (p := ⟨bW, oW + d * 11, none⟩) hblW).trans (hcellW d hd).1
   have g1 := (B2.out.cell (p := ⟨bW, oW + c * 11, none⟩) hblW).trans (hcellW c hc).1
   have FB := zaa (show fitB ws ⟨(d : Int), xs, (c : Int)⟩ = (ws[d].kind == 2 && !(ws[c].kind == 0)) by unfold fitB; rw [zdi hd, zdi hc])
   have d5 : (d : Int) < (ws.length : Int) := by omega
   have c5 : (c : Int) < (ws.length : Int) := by omega
   clear hcellW
   generalize ws[d].kind = kd at g0 FB
   generalize ws[c].kind = kc at g1 FB
   by_cases q : kd = 2
   ·have q1 : (kd != 2) = false := by rw [q]; rfl
    by_cases r : kc = 0
    ·have r1 : (kc == 0) = true := by rw [r]; rfl
     have E := zaa (H3.out (by rw [FB.out, r1]; simp))
     clear q r H2 H3 FB
     go_wp2
     go_ret
     exact ⟨zac E.out.symm, B2.out⟩
    ·have r1 : (kc == 0) = false := by rw [beq_eq_false_iff_ne]; exact r
     have E := zaa (H2.out (by rw [FB.out, r1, q]; rfl))
     clear q r H2 H3 FB
     go_wp2
     go_roundw
     case rel => exact ⟨k + 1, by omega, by go_num, B2.out, E.out⟩
     case measure => simp [intOf]; omega
   ·have q1 : (kd != 2) = true := by rw [bne_iff_ne]; exact q
    have E := zaa (H3.out (by rw [FB.out, show (kd == 2) = false by rw [beq_eq_false_iff_ne]; exact q]; rfl))
    clear q H2 H3 FB
    go_wp2
    go_ret
    exact ⟨zac E.out.symm, B2.out⟩
  ·have E := zaa (fitsB_mk (ws := ws) (fun j h => H.out.2 j h (by omega)))
   clear H
   go_wp2
   go_ret
   exact ⟨zac E.out.symm, H1.out⟩
end Go.Proofs.YtipklbnfobckaaaGreatDoor
