/- A page is asked for; moves are planned: by the model. -/
import Derived.Test.YtfcjhhiekjbbiaaGreatDoorMvB
namespace Go.Proofs.YtfcjhhiekjbbiaaGreatDoor
open Go.RowKit

set_option maxRecDepth 100000 in
set_option maxHeartbeats 8000000 in
theorem l09Ask_any (v : Value) (ws : List Int) (ps : List St) (es : List Int) (qs : List Se) (i p : Int) (w : World) (h : RdDev w v ws ps es qs) (hw : ws.length ≤ 1048576) (hp : ps.length ≤ 1048576) (he : es.length ≤ 1048576) (hq : qs.length ≤ 1048576) :
    Calls Tryz.prog 18 #[v, .int .i64 i, .int .i64 p] w fun e w' => ∃ v', e = .returned (.tuple #[v', .int .i64 (mvC (dvB ws ps es qs) i p)]) ∧ RowIm w' w.heap.size w'.heap.size v' (dvN ws ps es qs) (dvD ws ps es qs) ∧ Below w.heap.size w w' := by
  have LI := hideIt (fun w1 (hb : Below w.heap.size w w1) => l08Image_any v ws ps es qs w1 (h.below hb) hw hp he hq)
  have EC := hideIt (show mvC (dvB ws ps es qs) i p = if dvB ws ps es qs = true then (if (0 ≤ i ∧ i ≤ 15) ∧ (0 ≤ p ∧ p ≤ 7) then 0 else 4) else 1 from rfl)
  obtain ⟨dW, eW, dP, eP, dS, eS, dQ, eQ, rfl, -, -⟩ := h.form
  clear h
  obtain ⟨W, hW⟩ : ∃ W, W = (w.alloc (.cells #[.slice dW ws.length eW, .slice dP ps.length eP, .slice dS es.length eS, .slice dQ qs.length eQ] 42)).alloc (.cells #[.slice none 0 0, .slice none 0 0] 54) := ⟨_, rfl⟩
  have hz1 : W.heap.size = w.heap.size + 1 + 1 := by rw [hW]; simp
  have CD : Hid (∀ w', Below W.heap.size W w' → w'.cell? ⟨w.heap.size, 0, none⟩ = some (.slice dW ws.length eW) ∧ w'.cell? ⟨w.heap.size, 1, none⟩ = some (.slice dP ps.length eP) ∧ w'.cell? ⟨w.heap.size, 2, none⟩ = some (.slice dS es.length eS) ∧ w'.cell? ⟨w.heap.size, 3, none⟩ = some (.slice dQ qs.length eQ)) := fun w' hb => by
    have : w'.heap[w.heap.size]? = some (.cells #[.slice dW ws.length eW, .slice dP ps.length eP, .slice dS es.length eS, .slice dQ qs.length eQ] 42 (0, 0)) := (hb.block _ (by omega)).trans (by rw [hW]; exact at_old (at_new rfl))
    obtain ⟨x0, x1, x2, x3, -, -, -, -⟩ := four_cells this
    exact ⟨x0, x1, x2, x3⟩
  have CR : Hid (∀ w', Below W.heap.size W w' → w'.heap[w.heap.size + 1]? = some (.cells #[.slice none 0 0, .slice none 0 0] 54 (0, 0))) := fun w' hb => (hb.block _ (by omega)).trans (by
    rw [hW]
    have := at_new (w := w.alloc (.cells #[.slice dW ws.length eW, .slice dP ps.length eP, .slice dS es.length eS, .slice dQ qs.length eQ] 42)) (o := .cells #[.slice none 0 0, .slice none 0 0] 54) rfl
    rw [World.size_alloc] at this
    exact this)
  have BW : Hid (Below w.heap.size w W) := by rw [hW]; exact ((Below.refl _ _).alloc (Nat.le_refl _) _).alloc (by simp) _
  have hz0 : w.heap.size + 1 < W.heap.size := by omega
  clear hz1
  obtain ⟨x0, x1, x2, x3⟩ := CD.out _ (Below.refl _ _)
  generalize mvC (dvB ws ps es qs) i p = cd at *
  generalize dvB ws ps es qs = db at *
  generalize dvN ws ps es qs = dn at *
  generalize dvD ws ps es qs = dd at *
  go_enter Tryz.func18, Tryz.ntmps18
  go_wp2_with fail
  rw [← hW]
  clear hW
  refine (LI.out _ BW.out).mono ?_
  rintro e w2 ⟨v2, rfl, ⟨vI, vD, rfl, hI, hD⟩, hb2⟩
  obtain ⟨-, a1, c1, hv1, -⟩ := hI.rd
  obtain ⟨-, a2, c2, hv2, -⟩ := hD.rd
  subst hv1
  subst hv2
  have HI := hideIt hI
  have HD := hideIt hD
  have B2 := hideIt hb2
  have B3 : Hid (Below W.heap.size W (w2.alloc (.cells #[.slice a1 dn.length c1, .slice a2 dd.length c2] 54))) := below_allocB B2.out _
  have hz2 : W.heap.size ≤ w2.heap.size := hb2.size
  have hzw : w.heap.size ≤ W.heap.size := BW.out.size
  clear x0 x1 x2 x3 hb2 hI hD
  obtain ⟨y0, y1, _, _⟩ := two_cells (at_new (w := w2) (o := .cells #[.slice a1 dn.length c1, .slice a2 dd.length c2] 54) rfl)
  obtain ⟨w3, hw3⟩ : ∃ w3, w3 = w2.alloc (.cells #[.slice a1 dn.length c1, .slice a2 dd.length c2] 54) := ⟨_, rfl⟩
  have BC : Hid (Below w2.heap.size w2 w3) := by rw [hw3]; exact (Below.refl _ _).alloc (Nat.le_refl _) _
  rw [← hw3] at B3 y0 y1
  have HI3 := hideIt (HI.out.below BC.out (Nat.le_refl _))
  have HD3 := hideIt (HD.out.below BC.out (Nat.le_refl _))
  have hz3 : w2.heap.size ≤ w3.heap.size := BC.out.size
  have CB := hideIt (CR.out _ B3.out)
  obtain ⟨p0, p1, p2, p3⟩ := two_cells CB.out
  have BR : Hid (Below w.heap.size w ((w3.setCell ⟨w.heap.size + 1, 0, none⟩ (.slice a1 dn.length c1)).setCell ⟨w.heap.size + 1, 1, none⟩ (.slice a2 dd.length c2))) := ((below_trans BW.out B3.out BW.out.size).setCell (by simp only; omega) _).setCell (by simp only; omega) _
  have RF := hideIt (rowim_wide (rowim_set HI3.out HD3.out CB.out (.slice a1 dn.length c1) (.slice a2 dd.length c2)) (lo' := w.heap.size) (hi' := ((w3.setCell ⟨w.heap.size + 1, 0, none⟩ (.slice a1 dn.length c1)).setCell ⟨w.heap.size + 1, 1, none⟩ (.slice a2 dd.length c2)).heap.size) (by omega) (by simp; omega))
  clear CB HI HD HI3 HD3 BC B3 B2 LI CD CR
  subst hw3
  cases db with
  | false =>
    obtain rfl := EC.out
    clear EC
    go_wp2
    refine bodyPost_ret (v := .tuple #[.agg #[.slice a1 dn.length c1, .slice a2 dd.length c2], .int .i64 1]) (by simp [results, Tryz.results18, go_sem, p0, p1]) rfl ?_
    exact ⟨_, rfl, RF.out, BR.out⟩
  | true =>
  rw [if_pos rfl] at EC
  by_cases c3 : 0 ≤ i ∧ i ≤ 15
  case neg =>
    rw [if_neg (fun q => c3 q.1)] at EC
    obtain rfl := EC.out
    clear EC
    go_wp2_with fail
    refine (l01In_no _ _ _ _ c3).mono ?_
    rintro e w' ⟨rfl, hw'⟩
    subst w'
    go_wp2
    refine bodyPost_ret (v := .tuple #[.agg #[.slice a1 dn.length c1, .slice a2 dd.length c2], .int .i64 4]) (by simp [results, Tryz.results18, go_sem, p0, p1]) rfl ?_
    exact ⟨_, rfl, RF.out, BR.out⟩
  by_cases c4 : 0 ≤ p ∧ p ≤ 7
  case neg =>
    rw [if_neg (fun q => c4 q.2)] at EC
    obtain rfl := EC.out
    clear EC
    go_wp2_with fail
    refine (l01In_yes _ _ _ _ c3).mono ?_
    rintro e w' ⟨rfl, hw'⟩
    subst w'
    go_wp2_with fail
    refine (l01In_no _ _ _ _ c4).mono ?_
    rintro e w' ⟨rfl, hw'⟩
    subst w'
    go_wp2
    refine bodyPost_ret (v := .tuple #[.agg #[.slice a1 dn.length c1, .slice a2 dd.length c2], .int .i64 4]) (by simp [results, Tryz.results18, go_sem, p0, p1]) rfl ?_
    exact ⟨_, rfl, RF.out, BR.out⟩
  rw [if_pos ⟨c3, c4⟩] at EC
  obtain rfl := EC.out
  clear EC
  go_wp2_with fail
  refine (l01In_yes _ _ _ _ c3).mono ?_
  rintro e w' ⟨rfl, hw'⟩
  subst w'
  go_wp2_with fail
  refine (l01In_yes _ _ _ _ c4).mono ?_
  rintro e w' ⟨rfl, hw'⟩
  subst w'
  go_wp2
  refine bodyPost_ret (v := .tuple #[.agg #[.slice a1 dn.length c1, .slice a2 dd.length c2], .int .i64 0]) (by simp [results, Tryz.results18, go_sem, p0, p1]) rfl ?_
  exact ⟨_, rfl, RF.out, BR.out⟩
theorem mv_ok {d : Bool} {i p : Int} (h : mvC d i p = 0) : d = true ∧ (0 ≤ i ∧ i ≤ 15) ∧ (0 ≤ p ∧ p ≤ 7) := by
  unfold mvC at h
  split at h
  · rename_i a
    split at h
    · rename_i b
      exact ⟨a, b⟩
    · omega
  · omega

set_option maxRecDepth 100000 in
set_option maxHeartbeats 8000000 in
theorem specPlanDemote_any (v : Value) (ws : List Int) (ps : List St) (es : List Int) (qs : List Se) (i p : Int) (w : World) (h : RdDev w v ws ps es qs) (hw : ws.length ≤ 1048576) (hp : ps.length ≤ 1048576) (he : es.length ≤ 1048576) (hq : qs.length ≤ 1048576) :
    Calls Tryz.prog 6 #[v, .int .i64 i, .int .i64 p] w fun e w' => MiOut w w' e (deR2 ws ps es qs i p) := by
  have LI := hideIt (fun w1 (hb : Below w.heap.size w w1) => l09Ask_any v ws ps es qs i p w1 (h.below hb) hw hp he hq)
  have OKD := hideIt (fun (q : mvC (dvB ws ps es qs) i p = 0) => mv_ok q)
  have LR := hideIt (fun (d : dvB ws ps es qs = true) (a b : Nat) (ha : a < 16) (hb8 : b < 8) v2 w1 (hb : Below w.heap.size w w1) (h2 : RdIm w1 v2 (dvN ws ps es qs) (dvD ws ps es qs)) => l09Demote_any v v2 ws ps es qs (dvN ws ps es qs) (dvD ws ps es qs) a b w1 (h.below hb) (dv_yes d).1 (dv_yes d).2.1 h2 (by rw [(dv_yes d).2.2.1, (dv_yes d).2.2.2.1]; exact (dv_yes d).2.2.2.2) ha hb8)
  have EL := hideIt (show deR2 ws ps es qs i p = if mvC (dvB ws ps es qs) i p = 0 then deF (dvN ws ps es qs) (enI (dvN ws ps es qs) i p) (pgV ws ps es qs (enI (dvN ws ps es qs) i p)) i p else ([], mvC (dvB ws ps es qs) i p) from rfl)
  obtain ⟨dW, eW, dP, eP, dS, eS, dQ, eQ, rfl, -, -⟩ := h.form
  clear h
  obtain ⟨W, hW⟩ : ∃ W, W = w.alloc (.cells #[.slice dW ws.length eW, .slice dP ps.length eP, .slice dS es.length eS, .slice dQ qs.length eQ] 42) := ⟨_, rfl⟩
  have CD : Hid (∀ w', Below W.heap.size W w' → w'.cell? ⟨w.heap.size, 0, none⟩ = some (.slice dW ws.length eW) ∧ w'.cell? ⟨w.heap.size, 1, none⟩ = some (.slice dP ps.length eP) ∧ w'.cell? ⟨w.heap.size, 2, none⟩ = some (.slice dS es.length eS) ∧ w'.cell? ⟨w.heap.size, 3, none⟩ = some (.slice dQ qs.length eQ)) := fun w' hb => by
    have : w'.heap[w.heap.size]? = some (.cells #[.slice dW ws.length eW, .slice dP ps.length eP, .slice dS es.length eS, .slice dQ qs.length eQ] 42 (0, 0)) := (hb.block _ (by rw [hW]; simp)).trans (by rw [hW]; exact at_new rfl)
    obtain ⟨x0, x1, x2, x3, -, -, -, -⟩ := four_cells this
    exact ⟨x0, x1, x2, x3⟩
  have BW : Hid (Below w.heap.size w W) := by rw [hW]; exact (Below.refl _ _).alloc (Nat.le_refl _) _
  obtain ⟨x0, x1, x2, x3⟩ := CD.out _ (Below.refl _ _)
  generalize dvB ws ps es qs = db at *
  generalize dvN ws ps es qs = dn at *
  generalize dvD ws ps es qs = dd at *
  generalize mvC db i p = cd at *
  generalize deR2 ws ps es qs i p = res at *
  go_enter Tryz.func6, Tryz.ntmps6
  go_wp2_with fail
  rw [← hW]
  clear hW
  refine (LI.out _ BW.out).mono ?_
  rintro e w1 ⟨v1, rfl, hR, hb1⟩
  have HR := hideIt hR
  obtain ⟨vI, vD, rfl, hI, hD⟩ := hR
  obtain ⟨-, a1, k1, hv1, -⟩ := hI.rd
  obtain ⟨-, a2, k2, hv2, -⟩ := hD.rd
  subst hv1
  subst hv2
  have A1 := hideIt hb1
  have B1 := hideIt (below_trans BW.out hb1 BW.out.size)
  have BC : Hid (Below w1.heap.size w1 (w1.alloc (.cells #[.slice a1 dn.length k1, .slice a2 dd.length k2] 54))) := (Below.refl _ _).alloc (Nat.le_refl _) _
  have B2 := hideIt (below_trans B1.out BC.out B1.out.size)
  have A2 := hideIt (below_trans A1.out BC.out A1.out.size)
  have R2 := hideIt (HR.out.below BC.out (Nat.le_refl _)).rd
  obtain ⟨y0, y1, _, _⟩ := two_cells (at_new (w := w1) (o := .cells #[.slice a1 dn.length k1, .slice a2 dd.length k2] 54) rfl)
  clear hI hD hb1 HR x0 x1 x2 x3 BC
  by_cases c : cd = 0
  case neg =>
    rw [if_neg c] at EL
    obtain rfl := EL.out
    have q : (cd != 0) = true := by rw [bne_iff_ne]; exact c
    clear EL LR c OKD
    go_wp2
    go_ret2
    exact mi_none B2.out (by simp)
  obtain ⟨d1, d2, d3⟩ := OKD.out c
  subst c
  rw [if_pos rfl] at EL
  obtain ⟨a, rfl⟩ : ∃ a : Nat, i = (a : Int) := ⟨i.toNat, by omega⟩
  obtain ⟨b, rfl⟩ : ∃ b : Nat, p = (b : Int) := ⟨p.toNat, by omega⟩
  have LR3 := hideIt (LR.out d1 a b (by omega) (by omega) _ _ B2.out R2.out)
  obtain ⟨x0, x1, x2, x3⟩ := CD.out _ A2.out
  rw [← EL.out] at LR3
  clear EL LR OKD d1
  go_wp2_with fail
  refine LR3.out.mono ?_
  rintro e w3 ⟨v3, rfl, hr3, hb3⟩
  have B3 := hideIt (below_trans B2.out hb3 B2.out.size)
  have R3 := hideIt (hr3.wide B2.out.size (Nat.le_refl _))
  obtain ⟨-, a3, k3, hv3, -⟩ := hr3.rd
  subst hv3
  clear hr3 hb3
  go_wp2
  go_ret2
  exact ⟨_, rfl, R3.out, B3.out⟩

set_option maxRecDepth 100000 in
set_option maxHeartbeats 8000000 in
theorem specPlanPromote_any (v : Value) (ws : List Int) (ps : List St) (es : List Int) (qs : List Se) (i p : Int) (w : World) (h : RdDev w v ws ps es qs) (hw : ws.length ≤ 1048576) (hp : ps.length ≤ 1048576) (he : es.length ≤ 1048576) (hq : qs.length ≤ 1048576) :
    Calls Tryz.prog 14 #[v, .int .i64 i, .int .i64 p] w fun e w' => MiOut w w' e (prR2 ws ps es qs i p) := by
  have LI := hideIt (fun w1 (hb : Below w.heap.size w w1) => l09Ask_any v ws ps es qs i p w1 (h.below hb) hw hp he hq)
  have OKD := hideIt (fun (q : mvC (dvB ws ps es qs) i p = 0) => mv_ok q)
  have LR := hideIt (fun (d : dvB ws ps es qs = true) (a b : Nat) (ha : a < 16) (hb8 : b < 8) v2 w1 (hb : Below w.heap.size w w1) (h2 : RdIm w1 v2 (dvN ws ps es qs) (dvD ws ps es qs)) => l09Promote_any v v2 ws ps es qs (dvN ws ps es qs) (dvD ws ps es qs) a b w1 (h.below hb) (dv_yes d).1 (dv_yes d).2.1 h2 (by rw [(dv_yes d).2.2.1, (dv_yes d).2.2.2.1]; exact (dv_yes d).2.2.2.2) ha hb8)
  have EL := hideIt (show prR2 ws ps es qs i p = if mvC (dvB ws ps es qs) i p = 0 then prF (dvN ws ps es qs) (enI (dvN ws ps es qs) i p) (pgV ws ps es qs (enI (dvN ws ps es qs) i p)) i p else ([], mvC (dvB ws ps es qs) i p) from rfl)
  obtain ⟨dW, eW, dP, eP, dS, eS, dQ, eQ, rfl, -, -⟩ := h.form
  clear h
  obtain ⟨W, hW⟩ : ∃ W, W = w.alloc (.cells #[.slice dW ws.length eW, .slice dP ps.length eP, .slice dS es.length eS, .slice dQ qs.length eQ] 42) := ⟨_, rfl⟩
  have CD : Hid (∀ w', Below W.heap.size W w' → w'.cell? ⟨w.heap.size, 0, none⟩ = some (.slice dW ws.length eW) ∧ w'.cell? ⟨w.heap.size, 1, none⟩ = some (.slice dP ps.length eP) ∧ w'.cell? ⟨w.heap.size, 2, none⟩ = some (.slice dS es.length eS) ∧ w'.cell? ⟨w.heap.size, 3, none⟩ = some (.slice dQ qs.length eQ)) := fun w' hb => by
    have : w'.heap[w.heap.size]? = some (.cells #[.slice dW ws.length eW, .slice dP ps.length eP, .slice dS es.length eS, .slice dQ qs.length eQ] 42 (0, 0)) := (hb.block _ (by rw [hW]; simp)).trans (by rw [hW]; exact at_new rfl)
    obtain ⟨x0, x1, x2, x3, -, -, -, -⟩ := four_cells this
    exact ⟨x0, x1, x2, x3⟩
  have BW : Hid (Below w.heap.size w W) := by rw [hW]; exact (Below.refl _ _).alloc (Nat.le_refl _) _
  obtain ⟨x0, x1, x2, x3⟩ := CD.out _ (Below.refl _ _)
  generalize dvB ws ps es qs = db at *
  generalize dvN ws ps es qs = dn at *
  generalize dvD ws ps es qs = dd at *
  generalize mvC db i p = cd at *
  generalize prR2 ws ps es qs i p = res at *
  go_enter Tryz.func14, Tryz.ntmps14
  go_wp2_with fail
  rw [← hW]
  clear hW
  refine (LI.out _ BW.out).mono ?_
  rintro e w1 ⟨v1, rfl, hR, hb1⟩
  have HR := hideIt hR
  obtain ⟨vI, vD, rfl, hI, hD⟩ := hR
  obtain ⟨-, a1, k1, hv1, -⟩ := hI.rd
  obtain ⟨-, a2, k2, hv2, -⟩ := hD.rd
  subst hv1
  subst hv2
  have A1 := hideIt hb1
  have B1 := hideIt (below_trans BW.out hb1 BW.out.size)
  have BC : Hid (Below w1.heap.size w1 (w1.alloc (.cells #[.slice a1 dn.length k1, .slice a2 dd.length k2] 54))) := (Below.refl _ _).alloc (Nat.le_refl _) _
  have B2 := hideIt (below_trans B1.out BC.out B1.out.size)
  have A2 := hideIt (below_trans A1.out BC.out A1.out.size)
  have R2 := hideIt (HR.out.below BC.out (Nat.le_refl _)).rd
  obtain ⟨y0, y1, _, _⟩ := two_cells (at_new (w := w1) (o := .cells #[.slice a1 dn.length k1, .slice a2 dd.length k2] 54) rfl)
  clear hI hD hb1 HR x0 x1 x2 x3 BC
  by_cases c : cd = 0
  case neg =>
    rw [if_neg c] at EL
    obtain rfl := EL.out
    have q : (cd != 0) = true := by rw [bne_iff_ne]; exact c
    clear EL LR c OKD
    go_wp2
    go_ret2
    exact mi_none B2.out (by simp)
  obtain ⟨d1, d2, d3⟩ := OKD.out c
  subst c
  rw [if_pos rfl] at EL
  obtain ⟨a, rfl⟩ : ∃ a : Nat, i = (a : Int) := ⟨i.toNat, by omega⟩
  obtain ⟨b, rfl⟩ : ∃ b : Nat, p = (b : Int) := ⟨p.toNat, by omega⟩
  have LR3 := hideIt (LR.out d1 a b (by omega) (by omega) _ _ B2.out R2.out)
  obtain ⟨x0, x1, x2, x3⟩ := CD.out _ A2.out
  rw [← EL.out] at LR3
  clear EL LR OKD d1
  go_wp2_with fail
  refine LR3.out.mono ?_
  rintro e w3 ⟨v3, rfl, hr3, hb3⟩
  have B3 := hideIt (below_trans B2.out hb3 B2.out.size)
  have R3 := hideIt (hr3.wide B2.out.size (Nat.le_refl _))
  obtain ⟨-, a3, k3, hv3, -⟩ := hr3.rd
  subst hv3
  clear hr3 hb3
  go_wp2
  go_ret2
  exact ⟨_, rfl, R3.out, B3.out⟩
end Go.Proofs.YtfcjhhiekjbbiaaGreatDoor
