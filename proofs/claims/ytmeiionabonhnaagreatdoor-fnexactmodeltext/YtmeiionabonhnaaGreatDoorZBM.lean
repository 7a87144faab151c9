/- Several texts laid together: PeI, ShL, PbB, PeJ, PeK. -/
import Derived.Test.YtmeiionabonhnaaGreatDoorZBL
import Derived.Test.YtmeiionabonhnaaGreatDoorRows
import Derived.Shelf.Small.Strs
import Derived.Shelf.Small.Wraps
import Derived.Shelf.Strings.Search3
import Derived.Shelf.Strings.Count
import Derived.Shelf.Strings.Split
import Derived.Test.YtmeiionabonhnaaGreatDoorZAT
import Derived.Sort.Grow
import Derived.Sort.Statements
import Derived.Laws.EntriesVeiled
namespace Go.Proofs.YtmeiionabonhnaaGreatDoor
open Go.RowKit
def wkAt (ws : List Ino) (ps rs : List Den) (n : Nat) (d : Int) (hd : ByteArray) (ss : List ByteArray) : Prop := (∃ kd, kd + n = 16 ∧ dep ps kd d ∧ (0 ≤ d ∧ d ≤ 15) ∧ kindAt ws d = 2 ∧ hd.size ≤ 7 * kd ∧ ss.length ≤ 1000 * kd) ∨ (∀ x ∈ rs, ¬ x.dir = d)
theorem wk_eq {ws : List Ino} {ps rs : List Den} (hi : imgB ws ps = true) {n : Nat} {d : Int} {hd : ByteArray} {ss : List ByteArray} (hc : wkAt ws ps rs n d hd ss) : wkK rs (n - 1) d hd rs = pthR rs n d hd := by
  rcases hc with ⟨kd, h1, h2, h3, h4, _⟩ | hc
  · have := dep_small hi h3 h4 h2
    obtain ⟨m, rfl⟩ : ∃ m, n = m + 1 := ⟨n - 1, by omega⟩
    rfl
  · rw [wkK_none hc, pthR_none hc]
theorem wk_down {ws : List Ino} {ps rs : List Den} (hi : imgB ws ps = true) (hp : rs.Perm (takenD ps)) {n : Nat} {d : Int} {hd : ByteArray} {ss : List ByteArray} (hc : wkAt ws ps rs n d hd ss) {k : Nat} (hk : k < rs.length) (e : rs[k].dir = d) : (n - 1 < n ∧ ss.length + (wkK rs (n - 1) d hd (rs.take k)).length ≤ 20000 ∧ hd.size ≤ 112 ∧ rs[k].name.size ≤ 6) ∧ wkAt ws ps rs (n - 1) rs[k].child (hd ++ ⟨#[47]⟩ ++ rs[k].name) ((ss ++ wkK rs (n - 1) d hd (rs.take k)) ++ [hd ++ ⟨#[47]⟩ ++ rs[k].name]) := by
  have hq := wk_eq hi hc
  rcases hc with ⟨kd, h1, h2, h3, h4, h5, h6⟩ | hc
  · have h7 := dep_small hi h3 h4 h2
    have hm := perm_ents hp (taken_ents hi)
    have hl := pth_len hi hm (hp.nodup_iff.2 (taken_nodup hi)) n kd d hd h2
    have hr : rs.length ≤ 24 := by
      rw [hp.length_eq, ← (pimg_all hi).2.1]
      exact List.length_filter_le _ _
    rw [← hq] at hl
    have ht := wkK_take rs (n - 1) d hd rs k
    have ed := ent_dir hi hm (List.getElem_mem hk)
    obtain ⟨j, hj, ej, c0⟩ := hm _ (List.getElem_mem hk)
    have nz := name_size hi hj (by rw [ej]; exact ed.1.1)
    rw [ej] at nz
    refine ⟨⟨by omega, by omega, by omega, nz⟩, ?_⟩
    by_cases q : kindAt ws rs[k].child = 2
    · left
      refine ⟨kd + 1, by omega, ?_, by omega, q, ?_, ?_⟩
      · rw [← ej] at q ed ⊢
        exact dep_down hi hj ed.1 q (by rw [ej, e]; exact h2)
      · rw [path_size]; omega
      · simp only [List.length_append, List.length_cons, List.length_nil]; omega
    · right
      intro y hy ey
      exact q (by rw [← ey]; exact (ent_dir hi hm hy).2.2)
  · exact absurd e (hc _ (List.getElem_mem hk))
set_option maxRecDepth 100000 in
set_option maxHeartbeats 8000000 in
theorem walk_any {ws : List Ino} {ps rs : List Den} (hi : imgB ws ps = true) (hp : rs.Perm (takenD ps)) (tF : TypeId) (hF : (9 : Nat) ≠ tF) (W : World) (aR : Option Addr) (cR bR bS bF : Nat) (hR : ∀ w', Below W.heap.size W w' → w'.cell? ⟨bR, 0, none⟩ = some (.slice aR rs.length cR)) (hD : RdD W (.slice aR rs.length cR) rs) :
    ∀ (n : Nat) (d : Int) (hd : ByteArray) (w : World) (vS : Value) (ss : List ByteArray), wkAt ws ps rs n d hd ss → WkI tF W w bR bS bF vS ss →
    Calls Tryz.prog 80 #[.int .i64 d, .string hd, .pointer (some ⟨bR, 0, none⟩), .pointer (some ⟨bS, 0, none⟩), .pointer (some ⟨bF, 0, none⟩)] w fun e w' => e = .returned (.tuple #[]) ∧ ∃ v', WkI tF W w' bR bS bF v' (ss ++ pthR rs n d hd) := by
  intro n
  induction n using Nat.strongRecOn with
  | ind n IH =>
  intro d hd w vS ss hc hI
  have EQ := hideIt (wk_eq hi hc)
  have DN := hideIt (fun (k : Nat) (hk : k < rs.length) (e : rs[k].dir = d) => (wk_down hi hp hc hk e).1.2)
  have ST := hideIt (fun (k : Nat) (hk : k < rs.length) (e : rs[k].dir = d) (w1 : World) (v1 : Value) h => IH (n - 1) (wk_down hi hp hc hk e).1.1 rs[k].child (hd ++ ⟨#[47]⟩ ++ rs[k].name) w1 v1 _ (wk_down hi hp hc hk e).2 h)
  have SU := hideIt (fun (k : Nat) (hk : k < rs.length) => wkK_succ rs (n - 1) d hd hk)
  have hr : rs.length ≤ 24 := by
    rw [hp.length_eq, ← (pimg_all hi).2.1]
    exact List.length_filter_le _ _
  have Z0 : Hid (wkK rs (n - 1) d hd (rs.take 0) = []) := rfl
  obtain ⟨ao, co, e0, _, hcD⟩ := hD.shape
  injection e0 with e1 _ e2
  subst e1 e2
  have HD := hideIt hcD
  have HR := hideIt hR
  have H9 := hideIt hF
  have START : Hid (∃ v', WkI tF W w bR bS bF v' (ss ++ wkK rs (n - 1) d hd (rs.take 0))) := ⟨vS, by rw [Z0.out, List.append_nil]; exact hI⟩
  have x0 := HR.out w hI.i.b
  clear hi hp hc IH hcD hR hD hI Z0 hF
  go_enter Tryz.func80, Tryz.ntmps80
  go_wp2_with fail
  go_loopg [12] rs.length (fun g i wr => ∃ k : Nat, k + g = rs.length ∧ i = .int .i64 k ∧ Hid (∃ v', WkI tF W wr bR bS bF v' (ss ++ wkK rs (n - 1) d hd (rs.take k))))
  case atStart => exact ⟨0, by omega, rfl, START.out⟩
  case round =>
    obtain ⟨k, hk, rfl, J⟩ := hrel
    clear START x0
    obtain ⟨vS, I0⟩ := J.out
    have I := hideIt I0
    have k0 : (0 : Int) ≤ (k : Int) := by omega
    clear J I0
    by_cases hlt : k < rs.length
    · have k1 : (k : Int) < (rs.length : Int) := by omega
      obtain ⟨bD, oD, rfl, hbl, hcell⟩ := HD.out (by omega)
      obtain ⟨q0, q1, q2⟩ := hcell k hlt
      have r0 := (I.out.i.b.cell (p := ⟨bD, oD + k * 3, none⟩) hbl).trans q0
      have r1 := (I.out.i.b.cell (p := ⟨bD, oD + k * 3 + 1, none⟩) hbl).trans q1
      have r2 := (I.out.i.b.cell (p := ⟨bD, oD + k * 3 + 2, none⟩) hbl).trans q2
      have SU2 := hideIt (SU.out k hlt)
      clear hcell q0 q1 q2
      by_cases c : rs[k].dir = d
      case neg =>
        rw [if_neg c] at SU2
        have c1 : (rs[k].dir == d) = false := by rw [beq_eq_false_iff_ne]; exact c
        have G := hideIt (I.out.below ((Below.refl _ _).alloc (Nat.le_refl _) (.cells #[.int .i64 rs[k].dir, .string rs[k].name, .int .i64 rs[k].child] 140)))
        rw [← SU2.out] at G
        clear SU2 c I ST DN SU EQ
        go_wp2
        go_roundg (rs.length - (k + 1))
        case measure => omega
        case rel => exact ⟨k + 1, by omega, by go_num, _, G.out⟩
      rw [if_pos c] at SU2
      have ST2 := hideIt (ST.out k hlt c)
      obtain ⟨dn, z1, z2⟩ := DN.out k hlt c
      clear ST DN SU
      rw [c] at r0
      generalize rs[k].child = ch at *
      generalize rs[k].name = nm at *
      clear c
      obtain ⟨p, hp⟩ : ∃ p, p = hd ++ ⟨#[47]⟩ ++ nm := ⟨_, rfl⟩
      rw [← hp] at SU2 ST2
      obtain ⟨P, hP⟩ : ∃ P, P = ss ++ wkK rs (n - 1) d hd (rs.take k) := ⟨_, rfl⟩
      have NX : Hid (ss ++ wkK rs (n - 1) d hd (rs.take (k + 1)) = (P ++ [p]) ++ pthR rs (n - 1) ch p) := by unfold Hid; rw [SU2.out, hP]; simp only [List.append_assoc]
      have pl : P.length ≤ 20000 := by rw [hP, List.length_append]; exact dn
      rw [← hP] at I ST2
      clear SU2 dn hP
      have IX := hideIt (I.out.below ((Below.refl _ _).alloc (Nat.le_refl _) (.cells #[.int .i64 d, .string nm, .int .i64 ch] 140)))
      have XB : Hid ((wr.alloc (.cells #[.int .i64 d, .string nm, .int .i64 ch] 140)).heap[wr.heap.size]? = some (.cells #[.int .i64 d, .string nm, .int .i64 ch] 140 (0, 0))) := at_new rfl
      have e1 := (eight_at (xs := [.int .i64 d, .string nm, .int .i64 ch]) XB.out 1).1
      have e2 := (eight_at (xs := [.int .i64 d, .string nm, .int .i64 ch]) XB.out 2).1
      simp only [List.getElem?_cons_zero, List.getElem?_cons_succ] at e1 e2
      obtain ⟨s0, s1⟩ := one_cells IX.out.s
      have IA := hideIt (IX.out.below ((Below.refl _ _).alloc (Nat.le_refl _) (.cells #[.string p] 9)))
      have XA := hideIt (at_old (o := .cells #[.string p] 9) XB.out)
      have RX := hideIt (rd_str (wr.alloc (.cells #[.int .i64 d, .string nm, .int .i64 ch] 140)) p)
      simp only [World.size_alloc] at RX
      have hzI := I.out.i.z
      have hsb : bS < wr.heap.size := (Array.getElem?_eq_some_iff.1 I.out.s).1
      subst hp
      go_wp2_with (at_builtin; refine wpList_append_rd _ rfl (.tmp 25) (.tmp 27) 27 rfl W.heap.size 9 (.string ⟨#[]⟩) 1 16 Tryz.underlying27 info9 rfl (by decide) _ _ _ rfl IA.out.i.l _ 1 _ rfl RX.out (strs_one _) (by simp [maxLen]; omega) (by omega) IA.out.i.z ?_)
      intro vN wN hownN hgrN
      rcases (own_block hownN).shape with ⟨_, eN, _⟩ | ⟨bN, cN, rfl, _, _⟩
      · omega
      obtain ⟨g1, g2⟩ := IA.out.grow H9.out [_] rfl hownN hgrN
      have XN : Hid (wN.heap[wr.heap.size]? = some (.cells #[.int .i64 d, .string nm, .int .i64 ch] 140 (0, 0))) := (hgrN.block _ (by simp; omega) (own_type IA.out.i.l XA.out (by decide)).symm).trans XA.out
      have XS : Hid ((wN.setCell ⟨bS, 0, none⟩ (.slice (some ⟨bN, 0, none⟩) (P.length + 1) cN)).heap[wr.heap.size]? = some (.cells #[.int .i64 d, .string nm, .int .i64 ch] 140 (0, 0))) := by unfold Hid; rw [Below.heap_setCell _ _ _ _ (by simp only; omega)]; exact XN.out
      generalize hd ++ ⟨#[47]⟩ ++ nm = p at *
      have G := hideIt g2
      obtain ⟨t0, t1⟩ := one_cells g1
      obtain ⟨f0, _⟩ := one_cells G.out.f
      unfold wkF at f0
      have e3 := (eight_at (xs := [.int .i64 d, .string nm, .int .i64 ch]) XS.out 2).1
      simp only [List.getElem?_cons_zero, List.getElem?_cons_succ] at e3
      clear s0 s1 e1 e2 r0 r1 r2 g1 g2 hownN hgrN XN XA XB RX IX IA I
      go_wp2_with fail
      refine (ST2.out _ _ G.out).mono ?_
      rintro e w3 ⟨rfl, v3, h3⟩
      have G3 : Hid (WkI tF W w3 bR bS bF v3 (ss ++ wkK rs (n - 1) d hd (rs.take (k + 1)))) := by unfold Hid; rw [NX.out]; exact h3
      clear h3 ST2 G NX t0 t1 f0 e3
      go_wp2
      go_roundg (rs.length - (k + 1))
      case measure => omega
      case rel => exact ⟨k + 1, by omega, by go_num, _, G3.out⟩
    · obtain rfl : k = rs.length := by omega
      rw [List.take_length, EQ.out] at I
      clear EQ ST DN SU
      go_wp2
      refine bodyPost_end (v := .tuple #[]) (by simp [results, Tryz.results80, go_sem]) rfl ?_
      exact ⟨rfl, _, I.out⟩
end Go.Proofs.YtmeiionabonhnaaGreatDoor

namespace Go.Proofs.YtmeiionabonhnaaGreatDoor
open Go.Shelf Go.RowKit
def lays106_ren : Go.Shelf.Ren := ⟨fun | 106 => 79 | 213 => 136 | 265 => 199 | n => n, fun | 9 => 9 | 3 => 3 | n => n, fun | n => n⟩
theorem lays106 : Go.Proofs.Lays.n106 Tryz.prog lays106_ren := {
  mixed := by kernel_rfl
  f106 := Tryz.func79.trans (congrArg some (by kernel_rfl))
  f213 := Tryz.func136.trans (congrArg some (by kernel_rfl))
  f265 := Tryz.func199.trans (congrArg some (by kernel_rfl))
  t3 := Tryz.underlying3
  a3 := Tryz.isAgg3
  z3 := Tryz.sizeOf3
  v3 := Tryz.zeroValue3
  t9 := Tryz.underlying9
  a9 := Tryz.isAgg9
  z9 := Tryz.sizeOf9
  v9 := Tryz.zeroValue9 }
end Go.Proofs.YtmeiionabonhnaaGreatDoor

namespace Go.Proofs.YtmeiionabonhnaaGreatDoor
open Go.Shelf Go.RowKit Go.Lib
theorem compare_any (a b : ByteArray) (w : World) :
    Calls Tryz.prog 79 #[.string a, .string b] w fun e w' => e = .returned (.int .i64 (Lib.compareBytes a.data.toList b.data.toList)) ∧ w' = w := Any.strings_Compare lays106 a b w
end Go.Proofs.YtmeiionabonhnaaGreatDoor

namespace Go.Proofs.YtmeiionabonhnaaGreatDoor
open Go.RowKit Go.Sort
def encDen (x : Den) : List Value := [.int .i64 x.dir, .string x.name, .int .i64 x.child]
def cmpDen (x y : Den) : Int := Lib.compareBytes x.name.data.toList y.name.data.toList
theorem compare_lt : ∀ (a b : List UInt8), Lib.compareBytes a b < 0 ↔ a < b
  | [], [] => by simp [Lib.compareBytes]
  | [], y :: b => by simp [Lib.compareBytes]
  | x :: a, [] => by simp [Lib.compareBytes]
  | x :: a, y :: b => by
    have ih := compare_lt a b
    unfold Lib.compareBytes
    rw [List.cons_lt_cons_iff]
    by_cases h1 : x < y
    · simp [h1]
    · by_cases h2 : y < x
      · have h3 : ¬ x = y := fun e => by subst e; exact h1 h2
        simp [h1, h2, h3]
      · have h3 : x = y := by
          apply UInt8.toNat_inj.1
          rw [UInt8.lt_iff_toNat_lt] at h1 h2
          omega
        subst h3
        simpa [h1] using ih
theorem swoDen : SWO (fun x y : Den => decide (cmpDen x y < 0)) where
  irrefl x := decide_eq_false (by unfold cmpDen; rw [compare_lt]; exact List.lt_irrefl _)
  trans x y z h1 h2 := by
    have a := of_decide_eq_true h1
    have b := of_decide_eq_true h2
    unfold cmpDen at a b
    rw [compare_lt] at a b
    refine decide_eq_true ?_
    unfold cmpDen
    rw [compare_lt]
    exact List.lt_trans a b
  ntrans x y z h1 h2 := by
    have a := of_decide_eq_false h1
    have b := of_decide_eq_false h2
    unfold cmpDen at a b
    rw [compare_lt, List.not_lt] at a b
    refine decide_eq_false ?_
    unfold cmpDen
    rw [compare_lt, List.not_lt]
    exact List.le_trans b a
set_option maxHeartbeats 1000000 in
theorem closureCmp (x y : Den) (W : World) : Calls Tryz.prog 78 #[.agg #[.int .i64 x.dir, .string x.name, .int .i64 x.child], .agg #[.int .i64 y.dir, .string y.name, .int .i64 y.child]] W fun e w' => e = .returned (.int .i64 (cmpDen x y)) ∧ ∃ q os', w' = grow (W.drewN q) os' := by
  have hcon := hideIt (fun w => compare_any x.name y.name w)
  go_enter Tryz.func78, Tryz.ntmps78
  go_wp2_with fail
  refine (hcon.out _).mono ?_
  rintro e w' ⟨rfl, hw⟩
  subst w'
  go_wp2
  go_ret
  exact ⟨rfl, 0, _, by rw [alloc_eq_grow, alloc_eq_grow, grow_grow]; rfl⟩
end Go.Proofs.YtmeiionabonhnaaGreatDoor

namespace Go.Proofs.YtmeiionabonhnaaGreatDoor
open Go.RowKit
def SortDen : Prop := ∀ (v : Value) (ts : List Den) (lo hi : Nat) (w : World), Row w 140 3 lo hi v ts.length (dens ts) → hi ≤ w.heap.size → ts.length ≤ 24 →
  Calls Tryz.prog 77 #[v, .func (.func 78) #[] #[]] w fun e w' => e = .returned (.tuple #[]) ∧ ∃ rs : List Den, rs.Perm ts ∧ (rs.Pairwise fun a b => a.name.toList ≤ b.name.toList) ∧ Row w' 140 3 lo hi v rs.length (dens rs) ∧ Outside lo hi w w'
set_option maxRecDepth 100000 in
set_option maxHeartbeats 8000000 in
theorem implPathsOf_of (SORT : SortDen) (v : Value) (ws : List Ino) (ps : List Den) (w : World) (h : RdIm w v ws ps) (hw : ws.length ≤ 1048576) (hp : ps.length ≤ 1048576) (hT : TS w) (hE : ED w) (hF : FD w) (hr : ∀ k (h : k < ws.length), ws[k].R) (hs : ∀ k (h : k < ps.length), ps[k].name.size ≤ maxLen) :
    Calls Tryz.prog 34 #[v] w fun e w' => ∃ v', e = .returned (.tuple #[v', .int .i64 (poC ws ps)]) ∧ Row w' 9 1 w.heap.size w'.heap.size v' (poL ws ps).length (strs (poL ws ps)) ∧ Below w.heap.size w w' := by
  have HRD := hideIt h
  have LI := hideIt (fun w1 (hb : Below w.heap.size w w1) h => implImageOK_any v ws ps w1 h hw hp (hT.below hb) (hE.below hb) (hF.below hb) hr hs)
  have FF := hideIt hF
  obtain ⟨vW, vP, rfl, h1, h2⟩ := h
  obtain ⟨aW, cW, rfl, _, _⟩ := h1.shape
  have HD := hideIt h2
  obtain ⟨aP, cP, rfl, _, _⟩ := h2.shape
  clear h1 h2 hr hs hT hE hF
  obtain ⟨W0, hW0⟩ : ∃ W0, W0 = w.alloc (.cells #[.slice aW ws.length cW, .slice aP ps.length cP] 98) := ⟨_, rfl⟩
  have CA : Hid (∀ w', Below W0.heap.size W0 w' → w'.cell? ⟨w.heap.size, 0, none⟩ = some (.slice aW ws.length cW) ∧ w'.cell? ⟨w.heap.size, 1, none⟩ = some (.slice aP ps.length cP)) := fun w' hb => by
    have : w'.heap[w.heap.size]? = some (.cells #[.slice aW ws.length cW, .slice aP ps.length cP] 98 (0, 0)) := (hb.block _ (by rw [hW0]; simp)).trans (by rw [hW0]; exact at_new rfl)
    exact ⟨(two_cells this).1, (two_cells this).2.1⟩
  have BW : Hid (Below w.heap.size w W0) := by rw [hW0]; exact (Below.refl _ _).alloc (Nat.le_refl _) _
  have hz0 : w.heap.size ≤ W0.heap.size := BW.out.size
  obtain ⟨x0, x1⟩ := CA.out _ (Below.refl _ _)
  cases c1 : imgB ws ps with
  | false =>
    rw [c1] at LI
    rw [show poL ws ps = [] by unfold poL; rw [c1]; rfl, show poC ws ps = 1 by unfold poC; rw [c1]; rfl]
    clear c1
    go_enter Tryz.func34, Tryz.ntmps34
    go_wp2_with fail
    rw [← hW0]
    refine (LI.out _ BW.out (HRD.out.below BW.out)).mono ?_
    rintro e w1 ⟨rfl, hb1⟩
    have B1 := hideIt (below_trans BW.out hb1 BW.out.size)
    clear hb1 x0 x1
    go_wp2
    go_ret2
    exact ⟨_, rfl, Row.nil _ _ _ _ _, B1.out⟩
  | true =>
    have OK := hideIt c1
    have L24 := hideIt (pimg_all c1).2.1
    rw [c1] at LI
    rw [show poL ws ps = pthN ws ps 16 0 ⟨#[]⟩ by unfold poL; rw [c1]; rfl, show poC ws ps = 0 by unfold poC; rw [c1]; rfl]
    clear c1
    go_enter Tryz.func34, Tryz.ntmps34
    go_wp2_with fail
    rw [← hW0]
    clear hW0
    refine (LI.out _ BW.out (HRD.out.below BW.out)).mono ?_
    rintro e w1 ⟨rfl, hb1⟩
    have B1 := hideIt (below_trans BW.out hb1 BW.out.size)
    have B01 := hideIt hb1
    clear x0 x1
    obtain ⟨x0, x1⟩ := CA.out _ hb1
    clear hb1
    go_wp2_with fail
    refine (takenDirents_any _ ps w1 (Rd.below HD.out B1.out) (by have := L24.out; omega) (FF.out.below B1.out)).mono ?_
    rintro e w2 ⟨v2, rfl, hr2, hb2⟩
    have B2 := hideIt (below_trans B1.out hb2 B1.out.size)
    have hz1 : w.heap.size ≤ w1.heap.size := B1.out.size
    have hz2 : w1.heap.size ≤ w2.heap.size := hb2.size
    have tl : (takenD ps).length ≤ 24 := by rw [← L24.out]; exact List.length_filter_le _ _
    have R2 := hideIt hr2
    obtain ⟨_, a2, c2, rfl, _⟩ := hr2.rd
    obtain ⟨W3, hW3⟩ : ∃ W3, W3 = w2.alloc (.cells #[.slice a2 (takenD ps).length c2] 31) := ⟨_, rfl⟩
    have X3 : Hid (W3.heap[w2.heap.size]? = some (.cells #[.slice a2 (takenD ps).length c2] 31 (0, 0))) := by rw [hW3]; exact at_new rfl
    have BX : Hid (Below w2.heap.size w2 W3) := by rw [hW3]; exact (Below.refl _ _).alloc (Nat.le_refl _) _
    have R3 := hideIt (R2.out.below BX.out (Nat.le_refl _))
    have B3 := hideIt (below_trans B2.out BX.out B2.out.size)
    have hz3 : w2.heap.size < W3.heap.size := (Array.getElem?_eq_some_iff.1 X3.out).1
    have s0 := (one_cells X3.out).1
    rw [hW3] at s0
    clear x0 x1 hr2 hb2 R2
    go_wp2_with fail
    rw [← hW3]
    clear hW3 s0
    refine (SORT _ (takenD ps) _ _ W3 R3.out (by omega) tl).mono ?_
    rintro e w4 ⟨rfl, rs, hpm, hsr, hr4, ho4⟩
    have hz4 : W3.heap.size ≤ w4.heap.size := ho4.size
    have B4 := hideIt (B3.out.trans (ho4.below (B := w.heap.size) (by omega) (by omega)))
    have X4 := hideIt ((ho4.block _ (by omega) (by omega)).trans X3.out)
    have rl := hpm.length_eq
    rw [← rl] at X4
    have D4 : Hid (RdD w4 (.slice a2 rs.length c2) rs) := by
      have := hr4.rd
      rw [← rl] at this
      exact this
    have PS := hideIt (paths_same OK.out hpm hsr 16 0 ⟨#[]⟩)
    obtain ⟨W5, hW5⟩ : ∃ W5, W5 = (w4.alloc (.cells #[.slice none 0 0] 27)).alloc (.cells #[wkF w2.heap.size w4.heap.size (w4.heap.size + 1)] 147) := ⟨_, rfl⟩
    have I0 : Hid (WkI 147 w4 W5 w2.heap.size w4.heap.size (w4.heap.size + 1) (.slice none 0 0) []) := by
      rw [hW5]
      refine ⟨at_old (at_new rfl), ?_, ⟨World.ownsRow_nil _ _ _ _, below_allocN (below_allocN (Below.refl _ _) _) _⟩, Nat.le_refl _, by omega⟩
      have := at_new (w := w4.alloc (.cells #[.slice none 0 0] 27)) (o := .cells #[wkF w2.heap.size w4.heap.size (w4.heap.size + 1)] 147) rfl
      rw [World.size_alloc] at this
      exact this
    have LW := hideIt (walk_any OK.out hpm 147 (by decide) w4 a2 c2 w2.heap.size w4.heap.size (w4.heap.size + 1) (fun w' hb => (one_cells ((hb.block _ (by omega)).trans X4.out)).1) D4.out 16 0 ⟨#[]⟩ W5 _ [] (Or.inl ⟨0, rfl, rfl, by omega, (pimg_all OK.out).2.2.1, by decide, Nat.zero_le _⟩) I0.out)
    have f0 := (one_cells I0.out.f).1
    rw [hW5] at f0
    unfold wkF at hW5 f0
    clear hr4 ho4 hpm hsr D4 X3 R3 rl
    go_wp2_with fail
    rw [← hW5]
    clear hW5 f0
    refine LW.out.mono ?_
    rintro e w6 ⟨rfl, v6, h6⟩
    rw [List.nil_append, PS.out] at h6
    have I6 := hideIt h6
    obtain ⟨_, a6, c6, rfl, _⟩ := (own_block h6.i.l).rd
    clear h6 LW I0
    have t0 := (one_cells I6.out.s).1
    have B6 := hideIt (below_trans B4.out I6.out.i.b B4.out.size)
    have hz6 : w.heap.size ≤ w4.heap.size := B4.out.size
    go_wp2
    go_ret2
    exact ⟨_, rfl, (own_block I6.out.i.l).wide hz6 (Nat.le_refl _), B6.out⟩
end Go.Proofs.YtmeiionabonhnaaGreatDoor
