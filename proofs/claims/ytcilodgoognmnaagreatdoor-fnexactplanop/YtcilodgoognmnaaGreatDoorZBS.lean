/- Several texts laid together: DtI, IgM, OpM, PlP. -/
import Derived.Test.YtcilodgoognmnaaGreatDoorZBO
import Derived.Test.YtcilodgoognmnaaGreatDoorZBL
import Derived.Test.YtcilodgoognmnaaGreatDoorZBN
import Derived.KernelRfl
import Derived.Test.YtcilodgoognmnaaGreatDoorPlN
import Derived.Test.YtcilodgoognmnaaGreatDoorZAZ
namespace Go.Proofs.YtcilodgoognmnaaGreatDoor
open Go.RowKit

/-- The updates of an operation that changes names or sizes. -/
def uoI (ns : List Ino) (ds : List Den) (k : Int) (p t : ByteArray) (g : Int) : List Se × Int := if k = 1 then mkI ns ds p 1 else if k = 2 then mkI ns ds p 2 else if k = 3 then rmI ns ds p else if k = 4 then lnI ns ds p t else if k = 5 then rnI ns ds p t else cuI ns ds p g

set_option maxRecDepth 100000 in
set_option maxHeartbeats 8000000 in
theorem l08Updates_any (v : Value) (ns : List Ino) (ds : List Den) (k : Int) (p t : ByteArray) (g y : Int) (w : World) (h : RdIm w v ns ds) (hi : imgB ns ds = true) (hp : p.size ≤ 65536) (ht : t.size ≤ 65536) :
    Calls Tryz.prog 137 #[v, .agg #[.int .i64 k, .string p, .string t, .int .i64 g, .int .i64 y]] w fun e w' => PlOut w w' e (uoI ns ds k p t g) := by
  have L1 := hideIt (fun w1 (hb : Below w.heap.size w w1) => l07Make_any v ns ds p 1 w1 (h.below hb) hi hp)
  have L2 := hideIt (fun w1 (hb : Below w.heap.size w w1) => l07Make_any v ns ds p 2 w1 (h.below hb) hi hp)
  have L3 := hideIt (fun w1 (hb : Below w.heap.size w w1) => l07Remove_any v ns ds p w1 (h.below hb) hi hp)
  have L4 := hideIt (fun w1 (hb : Below w.heap.size w w1) => l07Link_any v ns ds p t w1 (h.below hb) hi ⟨hp, ht⟩)
  have L5 := hideIt (fun w1 (hb : Below w.heap.size w w1) => l07Rename_any v ns ds p t w1 (h.below hb) hi ⟨hp, ht⟩)
  have L6 := hideIt (fun w1 (hb : Below w.heap.size w w1) => l08Cut_any v ns ds p g w1 (h.below hb) hi hp)
  have EL := hideIt (show uoI ns ds k p t g = if k = 1 then mkI ns ds p 1 else if k = 2 then mkI ns ds p 2 else if k = 3 then rmI ns ds p else if k = 4 then lnI ns ds p t else if k = 5 then rnI ns ds p t else cuI ns ds p g from rfl)
  obtain ⟨vW, vP, rfl, h1, h2⟩ := h
  obtain ⟨aW, cW, rfl, _, _⟩ := h1.shape
  obtain ⟨aP, cP, rfl, _, _⟩ := h2.shape
  clear h1 h2 hi hp ht
  obtain ⟨W, hW⟩ : ∃ W, W = (w.alloc (.cells #[.slice aW ns.length cW, .slice aP ds.length cP] 63)).alloc (.cells #[.int .i64 k, .string p, .string t, .int .i64 g, .int .i64 y] 78) := ⟨_, rfl⟩
  have BW : Hid (Below w.heap.size w W) := by rw [hW]; exact ((Below.refl _ _).alloc (Nat.le_refl _) _).alloc (by simp) _
  rw [EL.out]
  by_cases c1 : k = 1
  case pos =>
    rw [if_pos c1]
    have LL := L1
    clear EL L1 L2 L3 L4 L5 L6
    subst c1
    generalize mkI ns ds p 1 = res at *
    go_enter Tryz.func137, Tryz.ntmps137
    go_wp2_with fail
    rw [← hW]
    clear hW
    refine (LL.out _ BW.out).mono ?_
    rintro e w1 ⟨v1, rfl, hr1, hb1⟩
    have R1 := hideIt (hr1.wide BW.out.size (Nat.le_refl _))
    have B1 := hideIt (below_trans BW.out hb1 BW.out.size)
    obtain ⟨-, aL, cL, hvL, -⟩ := hr1.rd
    subst hvL
    clear hr1 hb1
    go_wp2
    go_ret2
    exact ⟨_, rfl, R1.out, B1.out⟩
  have q1 : (k == 1) = false := by rw [beq_eq_false_iff_ne]; exact c1
  by_cases c2 : k = 2
  case pos =>
    rw [if_neg c1, if_pos c2]
    have LL := L2
    clear EL L1 L2 L3 L4 L5 L6
    subst c2
    generalize mkI ns ds p 2 = res at *
    go_enter Tryz.func137, Tryz.ntmps137
    go_wp2_with fail
    rw [← hW]
    clear hW
    refine (LL.out _ BW.out).mono ?_
    rintro e w1 ⟨v1, rfl, hr1, hb1⟩
    have R1 := hideIt (hr1.wide BW.out.size (Nat.le_refl _))
    have B1 := hideIt (below_trans BW.out hb1 BW.out.size)
    obtain ⟨-, aL, cL, hvL, -⟩ := hr1.rd
    subst hvL
    clear hr1 hb1
    go_wp2
    go_ret2
    exact ⟨_, rfl, R1.out, B1.out⟩
  have q2 : (k == 2) = false := by rw [beq_eq_false_iff_ne]; exact c2
  by_cases c3 : k = 3
  case pos =>
    rw [if_neg c1, if_neg c2, if_pos c3]
    have LL := L3
    clear EL L1 L2 L3 L4 L5 L6
    subst c3
    generalize rmI ns ds p = res at *
    go_enter Tryz.func137, Tryz.ntmps137
    go_wp2_with fail
    rw [← hW]
    clear hW
    refine (LL.out _ BW.out).mono ?_
    rintro e w1 ⟨v1, rfl, hr1, hb1⟩
    have R1 := hideIt (hr1.wide BW.out.size (Nat.le_refl _))
    have B1 := hideIt (below_trans BW.out hb1 BW.out.size)
    obtain ⟨-, aL, cL, hvL, -⟩ := hr1.rd
    subst hvL
    clear hr1 hb1
    go_wp2
    go_ret2
    exact ⟨_, rfl, R1.out, B1.out⟩
  have q3 : (k == 3) = false := by rw [beq_eq_false_iff_ne]; exact c3
  by_cases c4 : k = 4
  case pos =>
    rw [if_neg c1, if_neg c2, if_neg c3, if_pos c4]
    have LL := L4
    clear EL L1 L2 L3 L4 L5 L6
    subst c4
    generalize lnI ns ds p t = res at *
    go_enter Tryz.func137, Tryz.ntmps137
    go_wp2_with fail
    rw [← hW]
    clear hW
    refine (LL.out _ BW.out).mono ?_
    rintro e w1 ⟨v1, rfl, hr1, hb1⟩
    have R1 := hideIt (hr1.wide BW.out.size (Nat.le_refl _))
    have B1 := hideIt (below_trans BW.out hb1 BW.out.size)
    obtain ⟨-, aL, cL, hvL, -⟩ := hr1.rd
    subst hvL
    clear hr1 hb1
    go_wp2
    go_ret2
    exact ⟨_, rfl, R1.out, B1.out⟩
  have q4 : (k == 4) = false := by rw [beq_eq_false_iff_ne]; exact c4
  by_cases c5 : k = 5
  case pos =>
    rw [if_neg c1, if_neg c2, if_neg c3, if_neg c4, if_pos c5]
    have LL := L5
    clear EL L1 L2 L3 L4 L5 L6
    subst c5
    generalize rnI ns ds p t = res at *
    go_enter Tryz.func137, Tryz.ntmps137
    go_wp2_with fail
    rw [← hW]
    clear hW
    refine (LL.out _ BW.out).mono ?_
    rintro e w1 ⟨v1, rfl, hr1, hb1⟩
    have R1 := hideIt (hr1.wide BW.out.size (Nat.le_refl _))
    have B1 := hideIt (below_trans BW.out hb1 BW.out.size)
    obtain ⟨-, aL, cL, hvL, -⟩ := hr1.rd
    subst hvL
    clear hr1 hb1
    go_wp2
    go_ret2
    exact ⟨_, rfl, R1.out, B1.out⟩
  have q5 : (k == 5) = false := by rw [beq_eq_false_iff_ne]; exact c5
  rw [if_neg c1, if_neg c2, if_neg c3, if_neg c4, if_neg c5]
  have LL := L6
  clear EL L1 L2 L3 L4 L5 L6
  generalize cuI ns ds p g = res at *
  go_enter Tryz.func137, Tryz.ntmps137
  go_wp2_with fail
  rw [← hW]
  clear hW
  refine (LL.out _ BW.out).mono ?_
  rintro e w1 ⟨v1, rfl, hr1, hb1⟩
  have R1 := hideIt (hr1.wide BW.out.size (Nat.le_refl _))
  have B1 := hideIt (below_trans BW.out hb1 BW.out.size)
  obtain ⟨-, aL, cL, hvL, -⟩ := hr1.rd
  subst hvL
  clear hr1 hb1
  go_wp2
  go_ret2
  exact ⟨_, rfl, R1.out, B1.out⟩
end Go.Proofs.YtcilodgoognmnaaGreatDoor

namespace Go.Proofs.YtcilodgoognmnaaGreatDoor
open Go.RowKit

theorem inoU1_in {i : Nat} (hi : i < 16) {f : Int} (hf : 0 ≤ f ∧ f < 11) (x : Int) : UpIn [⟨48 + 12 * (i : Int) + f, x⟩] := fun u hu => by
  rw [List.mem_singleton.1 hu]
  exact ⟨by show 48 ≤ 48 + 12 * (i : Int) + f; omega, by show 48 + 12 * (i : Int) + f < 312; omega⟩
theorem mk_in {ws : List Ino} {ps : List Den} {s : ByteArray} {kind : Int} {us : List Se} (h : Img ws ps) (e : mkI ws ps s kind = (us, 0)) : UpIn us ∧ us.length ≤ 16 := by
  unfold mkI at e
  by_cases c : (paI ws ps s).2.2 = 0
  · rw [if_pos c] at e
    unfold mkN at e
    split at e
    · simp at e
    · split at e
      · simp at e
      · rename_i f1
        split at e
        · simp at e
        · rename_i f2
          obtain ⟨rfl, -⟩ := Prod.mk.inj e
          obtain ⟨i, ei, hi, -⟩ := fi_free h f1
          obtain ⟨k, ek, hk, -⟩ := fe_free h f2
          rw [ei, ek]
          unfold mkU
          refine ⟨UpIn.app (fun u hu => ?_) (enL_in hk _), by simp [enL]⟩
          rcases List.mem_cons.1 hu with rfl | hu
          · exact ⟨by show 48 ≤ 48 + 12 * (i : Int); omega, by show 48 + 12 * (i : Int) < 312; omega⟩
          · exact inoU1_in hi (by omega) 1 u hu
  · rw [if_neg c] at e
    exact absurd (Prod.mk.inj e).2 c
theorem wrL_in {i : Nat} (hi : i < 16) (x : Ino) {k : Nat} (hk : k ≤ 8) : UpIn (wrL (i : Int) x k) := by
  unfold wrL
  refine UpIn.app (fun u hu => ?_) (fun u hu => ?_)
  · simp only [List.mem_cons, List.not_mem_nil, or_false] at hu
    rcases hu with rfl | rfl | rfl
    · exact ⟨by show 48 ≤ 48 + 12 * (i : Int); omega, by show 48 + 12 * (i : Int) < 312; omega⟩
    · exact ⟨by show 48 ≤ 48 + 12 * (i : Int) + 1; omega, by show 48 + 12 * (i : Int) + 1 < 312; omega⟩
    · exact ⟨by show 48 ≤ 48 + 12 * (i : Int) + 2; omega, by show 48 + 12 * (i : Int) + 2 < 312; omega⟩
  · obtain ⟨j, hj, rfl⟩ := List.mem_map.1 hu
    have := List.mem_range.1 hj
    exact ⟨by show 48 ≤ 48 + 12 * (i : Int) + (3 + (j : Int)); omega, by show 48 + 12 * (i : Int) + (3 + (j : Int)) < 312; omega⟩
theorem rm_in {ws : List Ino} {ps : List Den} {s : ByteArray} {us : List Se} (h : Img ws ps) (e : rmI ws ps s = (us, 0)) : UpIn us ∧ us.length ≤ 16 := by
  unfold rmI at e
  by_cases c : (paI ws ps s).2.2 = 0
  · rw [if_pos c] at e
    unfold rmN at e
    cases q : entAt ps (paI ws ps s).1 (paI ws ps s).2.1 with
    | none => rw [q] at e; simp at e
    | some k =>
      rw [q] at e
      simp only at e
      obtain ⟨hk, i, ei, _, hi, -⟩ := ent_at h q
      unfold rmC at e
      split at e
      · simp at e
      · obtain ⟨rfl, -⟩ := Prod.mk.inj e
        rw [ei]
        unfold rmU
        split
        · exact ⟨UpIn.app (enL_in hk _) (inoU1_in hi (by omega) _), by simp [enL]⟩
        · exact ⟨UpIn.app (enL_in hk _) (wrL_in hi _ (Nat.le_refl _)), by rw [List.length_append, wrL_len]; simp [enL]⟩
  · rw [if_neg c] at e
    exact absurd (Prod.mk.inj e).2 c
theorem ln_in {ws : List Ino} {ps : List Den} {s t : ByteArray} {us : List Se} (h : Img ws ps) (e : lnI ws ps s t = (us, 0)) : UpIn us ∧ us.length ≤ 16 := by
  unfold lnI at e
  by_cases c0 : (lkI ws ps s).2 = 0
  · rw [if_pos c0] at e
    split at e
    · simp at e
    · rename_i kk
      obtain ⟨i, ei, hi, _, _⟩ := lk_plain h c0 kk
      unfold lnP at e
      by_cases c : (paI ws ps t).2.2 = 0
      · rw [if_pos c] at e
        unfold lnN at e
        split at e
        · simp at e
        · split at e
          · simp at e
          · rename_i f2
            obtain ⟨rfl, -⟩ := Prod.mk.inj e
            obtain ⟨k, ek, hk, -⟩ := fe_free h f2
            rw [ei, ek]
            exact ⟨UpIn.app (enL_in hk _) (inoU1_in hi (by omega) _), by simp [enL]⟩
      · rw [if_neg c] at e
        exact absurd (Prod.mk.inj e).2 c
  · rw [if_neg c0] at e
    exact absurd (Prod.mk.inj e).2 c0
theorem rn_in {ws : List Ino} {ps : List Den} {s t : ByteArray} {us : List Se} (h : Img ws ps) (e : rnI ws ps s t = (us, 0)) : UpIn us ∧ us.length ≤ 16 := by
  unfold rnI at e
  by_cases c : (paI ws ps s).2.2 = 0
  · rw [if_pos c] at e
    unfold rnE at e
    cases q : entAt ps (paI ws ps s).1 (paI ws ps s).2.1 with
    | none => rw [q] at e; simp at e
    | some k =>
      rw [q] at e
      simp only at e
      obtain ⟨hk, -⟩ := ent_at h q
      unfold rnP at e
      by_cases d : (paI ws ps t).2.2 = 0
      · rw [if_pos d] at e
        unfold rnN at e
        split at e
        · simp at e
        · split at e
          · simp at e
          · obtain ⟨rfl, -⟩ := Prod.mk.inj e
            exact ⟨enL_in hk _, by simp [enL]⟩
      · rw [if_neg d] at e
        exact absurd (Prod.mk.inj e).2 d
  · rw [if_neg c] at e
    exact absurd (Prod.mk.inj e).2 c
end Go.Proofs.YtcilodgoognmnaaGreatDoor

namespace Go.Proofs.YtcilodgoognmnaaGreatDoor
open Go.RowKit

/-- Updates to words. -/
def Wv (us : List Se) : Prop := ∀ u ∈ us, 0 ≤ u.val ∧ u.val < 1099511627776
theorem Wv.app {us vs : List Se} (h : Wv us) (k : Wv vs) : Wv (us ++ vs) := fun u hu => by
  rcases List.mem_append.1 hu with q | q
  · exact h u q
  · exact k u q
theorem Wv.one {a x : Int} (h : 0 ≤ x ∧ x < 1099511627776) : Wv [⟨a, x⟩] := fun u hu => by
  rw [List.mem_singleton.1 hu]
  exact h
theorem Wv.cons {a x : Int} {us : List Se} (h : 0 ≤ x ∧ x < 1099511627776) (k : Wv us) : Wv (⟨a, x⟩ :: us) := fun u hu => by
  rcases List.mem_cons.1 hu with rfl | q
  · exact h
  · exact k u q
theorem enL_wv {k : Int} {x : Den} (hd : 0 ≤ x.dir ∧ x.dir ≤ 15) (hn : nmB x.name = true ∨ x.name.size = 0) (hc : -1 ≤ x.child ∧ x.child ≤ 15) : Wv (enL k x) := by
  unfold enL
  refine Wv.cons (by omega) (Wv.cons ?_ (Wv.one (by omega)))
  rcases hn with q | q
  · have := pk_lt (s := x.name) (k := x.name.size) (fun j hj _ => (nmB_true q).2.2 j hj) (nmB_true q).2.1
    omega
  · rw [pk_none q]
    omega
theorem zero_wv {i : Int} : Wv (wrL i zeroN 8) := fun u hu => by
  unfold wrL at hu
  rcases List.mem_append.1 hu with q | q
  · simp only [List.mem_cons, List.not_mem_nil, or_false] at q
    rcases q with rfl | rfl | rfl
    all_goals exact ⟨Int.le_refl 0, show (0 : Int) < 1099511627776 by decide⟩
  · obtain ⟨j, hj, rfl⟩ := List.mem_map.1 q
    have hj8 := List.mem_range.1 hj
    have e : zeroN.map.getD j 0 = 0 := by
      rcases (show j = 0 ∨ j = 1 ∨ j = 2 ∨ j = 3 ∨ j = 4 ∨ j = 5 ∨ j = 6 ∨ j = 7 by omega) with rfl | rfl | rfl | rfl | rfl | rfl | rfl | rfl <;> rfl
    exact ⟨by show 0 ≤ zeroN.map.getD j 0; rw [e]; omega, by show zeroN.map.getD j 0 < 1099511627776; rw [e]; omega⟩
theorem mk_wv {ws : List Ino} {ps : List Den} {s : ByteArray} {kind : Int} {us : List Se} (h : Img ws ps) (hk : 1 ≤ kind ∧ kind ≤ 2) (e : mkI ws ps s kind = (us, 0)) : Wv us := by
  unfold mkI at e
  by_cases c : (paI ws ps s).2.2 = 0
  · rw [if_pos c] at e
    obtain ⟨p1, -, p3⟩ := paI_ok (img_iff.2 h) c
    unfold mkN at e
    split at e
    · simp at e
    · split at e
      · simp at e
      · rename_i f1
        split at e
        · simp at e
        · obtain ⟨rfl, -⟩ := Prod.mk.inj e
          obtain ⟨i, ei, hi, -⟩ := fi_free h f1
          rw [ei]
          unfold mkU
          exact Wv.app (Wv.cons (by omega) (Wv.one (by omega))) (enL_wv p1 (.inl p3) (by show -1 ≤ (i : Int) ∧ (i : Int) ≤ 15; omega))
  · rw [if_neg c] at e
    exact absurd (Prod.mk.inj e).2 c
theorem link_le {ws : List Ino} {ps : List Den} (h : Img ws ps) {i : Nat} (hi : i < 16) : 0 ≤ linkAt ws (i : Int) ∧ linkAt ws (i : Int) ≤ 24 := (ino_parts (h.ok i hi)).2.2.1
theorem rm_wv {ws : List Ino} {ps : List Den} {s : ByteArray} {us : List Se} (h : Img ws ps) (e : rmI ws ps s = (us, 0)) : Wv us := by
  unfold rmI at e
  by_cases c : (paI ws ps s).2.2 = 0
  · rw [if_pos c] at e
    unfold rmN at e
    cases q : entAt ps (paI ws ps s).1 (paI ws ps s).2.1 with
    | none => rw [q] at e; simp at e
    | some k =>
      rw [q] at e
      simp only at e
      obtain ⟨hk, i, ei, _, hi, -⟩ := ent_at h q
      unfold rmC at e
      split at e
      · simp at e
      · obtain ⟨rfl, -⟩ := Prod.mk.inj e
        have l := link_le h hi
        rw [ei]
        unfold rmU
        have f : Wv (enL (k : Int) freeD) := enL_wv (by decide) (.inr rfl) (by decide)
        split
        · exact Wv.app f (Wv.one (by omega))
        · exact Wv.app f zero_wv
  · rw [if_neg c] at e
    exact absurd (Prod.mk.inj e).2 c
theorem ln_wv {ws : List Ino} {ps : List Den} {s t : ByteArray} {us : List Se} (h : Img ws ps) (e : lnI ws ps s t = (us, 0)) : Wv us := by
  unfold lnI at e
  by_cases c0 : (lkI ws ps s).2 = 0
  · rw [if_pos c0] at e
    split at e
    · simp at e
    · rename_i kk
      obtain ⟨i, ei, hi, _, _⟩ := lk_plain h c0 kk
      unfold lnP at e
      by_cases c : (paI ws ps t).2.2 = 0
      · rw [if_pos c] at e
        obtain ⟨p1, -, p3⟩ := paI_ok (img_iff.2 h) c
        unfold lnN at e
        split at e
        · simp at e
        · split at e
          · simp at e
          · obtain ⟨rfl, -⟩ := Prod.mk.inj e
            have l := link_le h hi
            rw [ei]
            exact Wv.app (enL_wv p1 (.inl p3) (by show -1 ≤ (i : Int) ∧ (i : Int) ≤ 15; omega)) (Wv.one (by omega))
      · rw [if_neg c] at e
        exact absurd (Prod.mk.inj e).2 c
  · rw [if_neg c0] at e
    exact absurd (Prod.mk.inj e).2 c0
theorem rn_wv {ws : List Ino} {ps : List Den} {s t : ByteArray} {us : List Se} (h : Img ws ps) (e : rnI ws ps s t = (us, 0)) : Wv us := by
  unfold rnI at e
  by_cases c : (paI ws ps s).2.2 = 0
  · rw [if_pos c] at e
    unfold rnE at e
    cases q : entAt ps (paI ws ps s).1 (paI ws ps s).2.1 with
    | none => rw [q] at e; simp at e
    | some k =>
      rw [q] at e
      simp only at e
      obtain ⟨hk, i, ei, _, hi, -⟩ := ent_at h q
      unfold rnP at e
      by_cases d : (paI ws ps t).2.2 = 0
      · rw [if_pos d] at e
        obtain ⟨p1, -, p3⟩ := paI_ok (img_iff.2 h) d
        unfold rnN at e
        split at e
        · simp at e
        · split at e
          · simp at e
          · obtain ⟨rfl, -⟩ := Prod.mk.inj e
            rw [ei]
            exact enL_wv p1 (.inl p3) (by show -1 ≤ (i : Int) ∧ (i : Int) ≤ 15; omega)
      · rw [if_neg d] at e
        exact absurd (Prod.mk.inj e).2 d
  · rw [if_neg c] at e
    exact absurd (Prod.mk.inj e).2 c
theorem cu_all {ns : List Ino} {ds : List Den} {s : ByteArray} {g : Int} {us : List Se} (h : Img ns ds) (e : cuI ns ds s g = (us, 0)) : UpIn us ∧ us.length ≤ 16 ∧ Wv us := by
  unfold cuI at e
  by_cases c : (flI ns ds s).2 = 0
  · rw [if_pos c] at e
    obtain ⟨i, hi, ei, -⟩ := fl_file h c
    rw [ei] at e
    unfold cuF at e
    split at e
    · rename_i d
      obtain ⟨rfl, -⟩ := Prod.mk.inj e
      have l := cuT_len (inoAt ns ((i : Nat) : Int).toNat).map (i : Int) g.toNat 8
      unfold cuU
      refine ⟨fun u hu => ?_, by show (cuT _ _ _ _).length + 1 ≤ 16; omega, Wv.cons (by omega) (fun u hu => ?_)⟩
      · rcases List.mem_cons.1 hu with rfl | q
        · exact ⟨by show 48 ≤ 48 + 12 * (i : Int) + 1; omega, by show 48 + 12 * (i : Int) + 1 < 312; omega⟩
        · exact cuT_in hi (Nat.le_refl 8) u q
      · unfold cuT at hu
        obtain ⟨j, -, rfl⟩ := List.mem_map.1 hu
        exact ⟨Int.le_refl 0, show (0 : Int) < 1099511627776 by decide⟩
    · simp at e
  · rw [if_neg c] at e
    exact absurd (Prod.mk.inj e).2 c
/-- Where nothing is told nothing is updated. -/
theorem mk_no {ws : List Ino} {ps : List Den} {s : ByteArray} {kind : Int} : ¬ (mkI ws ps s kind).2 = 0 → (mkI ws ps s kind).1 = [] := by
  unfold mkI mkN
  repeat' split
  all_goals simp
theorem rm_no {ws : List Ino} {ps : List Den} {s : ByteArray} : ¬ (rmI ws ps s).2 = 0 → (rmI ws ps s).1 = [] := by
  unfold rmI rmN rmC
  repeat' split
  all_goals simp
theorem ln_no {ws : List Ino} {ps : List Den} {s t : ByteArray} : ¬ (lnI ws ps s t).2 = 0 → (lnI ws ps s t).1 = [] := by
  unfold lnI lnP lnN
  repeat' split
  all_goals simp
theorem rn_no {ws : List Ino} {ps : List Den} {s t : ByteArray} : ¬ (rnI ws ps s t).2 = 0 → (rnI ws ps s t).1 = [] := by
  unfold rnI rnE rnP rnN
  repeat' split
  all_goals simp
theorem cu_no {ns : List Ino} {ds : List Den} {s : ByteArray} {g : Int} : ¬ (cuI ns ds s g).2 = 0 → (cuI ns ds s g).1 = [] := by
  unfold cuI cuF
  repeat' split
  all_goals simp
theorem uo_no {ns : List Ino} {ds : List Den} {k : Int} {p t : ByteArray} {g : Int} : ¬ (uoI ns ds k p t g).2 = 0 → (uoI ns ds k p t g).1 = [] := by
  unfold uoI
  split
  · exact mk_no
  split
  · exact mk_no
  split
  · exact rm_no
  split
  · exact ln_no
  split
  · exact rn_no
  · exact cu_no
theorem uo_yes {ns : List Ino} {ds : List Den} {k : Int} {p t : ByteArray} {g : Int} (h : Img ns ds) (c : (uoI ns ds k p t g).2 = 0) : UpIn (uoI ns ds k p t g).1 ∧ (uoI ns ds k p t g).1.length ≤ 16 ∧ Wv (uoI ns ds k p t g).1 := by
  have E : ∀ r : List Se × Int, r.2 = 0 → r = (r.1, 0) := fun r q => by rw [← q]
  revert c
  unfold uoI
  by_cases c1 : k = 1
  · rw [if_pos c1]
    exact fun c => ⟨(mk_in h (E _ c)).1, (mk_in h (E _ c)).2, mk_wv h ⟨by decide, by decide⟩ (E _ c)⟩
  rw [if_neg c1]
  by_cases c2 : k = 2
  · rw [if_pos c2]
    exact fun c => ⟨(mk_in h (E _ c)).1, (mk_in h (E _ c)).2, mk_wv h ⟨by decide, by decide⟩ (E _ c)⟩
  rw [if_neg c2]
  by_cases c3 : k = 3
  · rw [if_pos c3]
    exact fun c => ⟨(rm_in h (E _ c)).1, (rm_in h (E _ c)).2, rm_wv h (E _ c)⟩
  rw [if_neg c3]
  by_cases c4 : k = 4
  · rw [if_pos c4]
    exact fun c => ⟨(ln_in h (E _ c)).1, (ln_in h (E _ c)).2, ln_wv h (E _ c)⟩
  rw [if_neg c4]
  by_cases c5 : k = 5
  · rw [if_pos c5]
    exact fun c => ⟨(rn_in h (E _ c)).1, (rn_in h (E _ c)).2, rn_wv h (E _ c)⟩
  rw [if_neg c5]
  exact fun c => cu_all h (E _ c)
/-- For the model's plan. -/
theorem uo_at {ns : List Ino} {ds : List Den} {k : Int} {p t : ByteArray} {g : Int} (h : Img ns ds) : (uoI ns ds k p t g).1.length ≤ 64 ∧ ∀ j (q : j < (uoI ns ds k p t g).1.length), 0 ≤ (uoI ns ds k p t g).1[j].at_ ∧ (uoI ns ds k p t g).1[j].at_ < 336 := by
  by_cases c : (uoI ns ds k p t g).2 = 0
  · obtain ⟨a, b, -⟩ := uo_yes h c
    refine ⟨by omega, fun j q => ?_⟩
    have := a _ (List.getElem_mem q)
    omega
  · have e := uo_no c
    exact ⟨by rw [e]; simp, fun j q => by rw [e] at q; cases q⟩
/-- For the program's plan. -/
theorem uo_jp {ns : List Ino} {ds : List Den} {k : Int} {p t : ByteArray} {g : Int} (h : Img ns ds) (c : (uoI ns ds k p t g).2 = 0) : jpC (uoI ns ds k p t g).1 = 0 ∧ jpL (uoI ns ds k p t g).1 = planL (upsL (uoI ns ds k p t g).1) := by
  obtain ⟨a, b, v⟩ := uo_yes h c
  have u : upsB (uoI ns ds k p t g).1 = true := decide_eq_true fun j q => by
    have := a _ (List.getElem_mem q)
    exact ⟨by omega, v _ (List.getElem_mem q)⟩
  rcases jp_cases (uoI ns ds k p t g).1 with ⟨c, _⟩ | ⟨_, c, _⟩ | ⟨_, _, c, _⟩ | ⟨_, _, _, c⟩
  · omega
  · omega
  · rw [u] at c; cases c
  · exact c
end Go.Proofs.YtcilodgoognmnaaGreatDoor

namespace Go.Proofs.YtcilodgoognmnaaGreatDoor
open Go.RowKit Go.Maps

theorem rmR_of {ws : List Ino} {ps : List Den} {s : ByteArray} : rmR ws ps s = if (paR ws ps s).2.2 = 0 then rmN ws ps (paR ws ps s).1 (paR ws ps s).2.1 else ([], (paR ws ps s).2.2) := by
  unfold rmR paR
  by_cases c : 65536 < s.size
  · rw [if_pos c, if_pos c]; rfl
  · rw [if_neg c, if_neg c]
    by_cases c1 : imgB ws ps = true
    · rw [if_pos c1, if_pos c1]; rfl
    · rw [if_neg c1, if_neg c1]; rfl

set_option maxRecDepth 100000 in
set_option maxHeartbeats 16000000 in
theorem implPlanRemove_any (v : Value) (ws : List Ino) (ps : List Den) (s : ByteArray) (w : World) (h : RdIm w v ws ps) (hw : ws.length ≤ 1048576) (hp : ps.length ≤ 1048576) (hT : TS w) (hE : ED w) (hF : FD w) (hr : ∀ k (h : k < ws.length), ws[k].R) (hs : ∀ k (h : k < ps.length), ps[k].name.size ≤ maxLen) :
    Calls Tryz.prog 202 #[v, .string s] w fun e w' => PlOut w w' e (rmR ws ps s) := by
  have LN := hideIt (fun b D w1 (hb : Below w.heap.size w w1) hm => entryOf_any v ws ps s b D w1 (h.below hb) hw hp (hT.below hb) (hE.below hb) (hF.below hb) hr hs hm)
  have LT := hideIt (fun d b D w1 (hb : Below w.heap.size w w1) hi hm => turnTo_any v ws ps d b D w1 (h.below hb) hi hm (hF.below hb))
  have LD := hideIt (fun k x w1 (hb : Below w.heap.size w w1) hs => implDirentUpdates_any k x w1 (hF.below hb) hs)
  have LU := hideIt (fun i x w1 (hb : Below w.heap.size w w1) hi hl => unlinkUpdates_any i x w1 hi hl (hT.below hb) (hE.below hb))
  have FDB := hideIt (fun w1 (hb : Below w.heap.size w w1) => (hF.below hb).cells)
  have EL := hideIt (@rmR_of ws ps s)
  have EN := hideIt (fun d nm => show rmN ws ps d nm = match entAt ps d nm with | none => ([], 5) | some k => rmC ws ps k from rfl)
  have EC := hideIt (fun k => show rmC ws ps k = if kindAt ws (childAt ps k) = 2 ∧ ¬ namesD ps (childAt ps k) = [] then ([], 11) else (rmU (k : Int) (childAt ps k) (linkAt ws (childAt ps k)), 0) from rfl)
  have ER := hideIt (show erR ws ps s = if (paR ws ps s).2.2 = 0 then erN ps (paR ws ps s).1 (paR ws ps s).2.1 else (0, (paR ws ps s).2.2) from rfl)
  have EM := hideIt (fun d nm => show erN ps d nm = match entAt ps d nm with | none => (0, 5) | some k => ((k : Int), 0) from rfl)
  have PR := hideIt (@paR_ok ws ps s)
  have CR := hideIt (fun hi d nm k e => child_range (ws := ws) (ps := ps) hi (d := d) (nm := nm) (k := k) e)
  have LR := hideIt (fun hi i h0 => link_range (ws := ws) (ps := ps) hi (i := i) h0)
  have MZ := hideIt (fun hi d => mp_size (ws := ws) (ps := ps) hi d)
  have FE := hideIt (fun hi d k => file_empty (ws := ws) (ps := ps) hi (d := d) k)
  have PA := hideIt (fun hi => pimg_all (ws := ws) (ps := ps) hi)
  obtain ⟨vW, vP, rfl, h1, h2⟩ := h
  obtain ⟨aW, cW, rfl, _, hcW⟩ := h1.shape
  obtain ⟨aP, cP, rfl, _, hcP⟩ := h2.shape
  have HW := hideIt hcW
  have HP := hideIt hcP
  clear h1 h2 hr hs hT hE hF hcW hcP
  have CA : Hid (∀ w', Below (w.alloc (.cells #[.slice aW ws.length cW, .slice aP ps.length cP] 63)).heap.size (w.alloc (.cells #[.slice aW ws.length cW, .slice aP ps.length cP] 63)) w' → w'.cell? ⟨w.heap.size, 0, none⟩ = some (.slice aW ws.length cW) ∧ w'.cell? ⟨w.heap.size, 1, none⟩ = some (.slice aP ps.length cP)) := fun w' hb => by
    have : w'.heap[w.heap.size]? = some (.cells #[.slice aW ws.length cW, .slice aP ps.length cP] 63 (0, 0)) := (hb.block _ (by simp)).trans (at_new rfl)
    exact ⟨(two_cells this).1, (two_cells this).2.1⟩
  have BW : Hid (Below w.heap.size w (w.alloc (.cells #[.slice aW ws.length cW, .slice aP ps.length cP] 63))) := (Below.refl _ _).alloc (Nat.le_refl _) _
  generalize rmR ws ps s = res at *
  generalize erR ws ps s = er at *
  generalize hpr : paR ws ps s = pr at *
  clear hpr
  obtain ⟨W, hW⟩ : ∃ W, W = w.alloc (.cells #[.slice aW ws.length cW, .slice aP ps.length cP] 63) := ⟨_, rfl⟩
  have M1 : Hid (Mp ((w.alloc (.cells #[.slice aW ws.length cW, .slice aP ps.length cP] 63)).alloc (.map #[] 0)) (w.heap.size + 1) (.map [])) := by
    have := mp_made (w := w.alloc (.cells #[.slice aW ws.length cW, .slice aP ps.length cP] 63))
    rw [World.size_alloc] at this
    exact this
  have A1 : Hid (Below W.heap.size W ((w.alloc (.cells #[.slice aW ws.length cW, .slice aP ps.length cP] 63)).alloc (.map #[] 0))) := by rw [← hW]; exact below_al (Below.refl _ _) _
  rw [← hW] at CA BW
  have hz : w.heap.size < W.heap.size := by rw [hW]; simp
  have hWs : W.heap.size ≤ w.heap.size + 1 := by rw [hW]; simp
  have B1 := hideIt (below_trans BW.out A1.out (by omega))
  obtain ⟨x0, x1⟩ := CA.out _ A1.out
  obtain ⟨pd, pn, pc⟩ := pr
  obtain ⟨ek, ec⟩ := er
  simp only at EL ER PR LN
  have hmm := @run_makeMap Tryz.prog
  go_enter Tryz.func202, Tryz.ntmps202
  go_wp2_with fail
  refine (LN.out _ _ _ B1.out M1.out).mono ?_
  rintro e w2 ⟨rfl, ⟨D2, hm2⟩, hg2⟩
  have A2 := hideIt (below_grown A1.out hg2 hWs)
  have B2 := hideIt (below_trans BW.out A2.out (by omega))
  have M2 := hideIt hm2
  clear x0 x1 hg2 LN M1 A1 B1 hmm hm2 hW
  by_cases c : pc = 0
  case neg =>
    rw [if_neg c] at EL ER
    obtain rfl := EL.out
    have e2 := ER.out
    simp only [Prod.mk.injEq] at e2
    obtain ⟨-, rfl⟩ := e2
    have q : (ec != 0) = true := by rw [bne_iff_ne]; exact c
    clear c EL ER
    go_wp2
    go_ret2
    exact pl_nil B2.out
  rw [if_pos c] at EL ER
  subst c
  obtain ⟨hi, -⟩ := PR.out rfl
  rw [EM.out] at ER
  rw [EN.out] at EL
  clear PR EM EN
  cases he : entAt ps pd pn with
  | none =>
    rw [he] at EL ER
    obtain rfl := EL.out
    have e2 := ER.out
    simp only [Prod.mk.injEq] at e2
    obtain ⟨-, rfl⟩ := e2
    clear EL ER
    go_wp2
    go_ret2
    exact pl_nil B2.out
  | some k =>
  rw [he] at EL ER
  have e2 := ER.out
  simp only [Prod.mk.injEq] at e2
  obtain ⟨rfl, rfl⟩ := e2
  have EL2 : Hid (res = rmC ws ps k) := EL.out
  rw [EC.out] at EL2
  obtain ⟨k1, k2⟩ := CR.out hi _ _ _ he
  have lr := LR.out hi _ k2
  obtain ⟨l16, l24, _⟩ := PA.out hi
  obtain ⟨bW, oW, rfl, hblW, hcellW⟩ := HW.out (by omega)
  obtain ⟨bP, oP, rfl, hblP, hcellP⟩ := HP.out (by omega)
  have HPk := hideIt (fun w' (hb : Below w.heap.size w w') => ((hb.cell (p := ⟨bP, oP + k * 3 + 2, none⟩) hblP).trans (hcellP k k1).2.2).trans (by rw [← childAt_of k1]))
  have LTk := hideIt (fun b D w1 hb hm => LT.out (childAt ps k) b D w1 hb hi hm)
  obtain ⟨ma, mb⟩ := MZ.out hi (childAt ps k)
  have MA := hideIt ma
  have MB := hideIt mb
  have FEk := hideIt (FE.out hi (childAt ps k))
  obtain ⟨i, hi'⟩ : ∃ i : Nat, childAt ps k = (i : Int) := ⟨(childAt ps k).toNat, by omega⟩
  rw [hi'] at EL2 lr HPk LTk MA MB FEk
  have i1 : i < ws.length := by omega
  have CI := hideIt (hcellW i i1)
  have lx : Hid (ws[i].links = linkAt ws (i : Int)) := (linkAt_of i1).symm
  have k24 : k < 24 := by omega
  have i16 : i < 16 := by omega
  have kl : (k : Int) < (ps.length : Int) := by omega
  have il : (i : Int) < (ws.length : Int) := by omega
  have k0 : (0 : Int) ≤ (k : Int) := by omega
  have i0 : (0 : Int) ≤ (i : Int) := by omega
  clear EL EC CR LR ER he HP HW LT hi' k2 hblP l16 l24 hcellW hcellP MZ FE PA ma mb hi
  generalize ws[i] = xi at *
  generalize kindAt ws (i : Int) = kd at *
  generalize linkAt ws (i : Int) = lk at *
  generalize namesD ps (i : Int) = nms at *
  generalize mpD ps (i : Int) ps.length = D3 at *
  obtain ⟨x0, x1⟩ := CA.out _ A2.out
  have y0 := HPk.out _ B2.out
  go_wp2_with fail
  refine (LTk.out _ _ _ B2.out M2.out).mono ?_
  rintro e w3 ⟨rfl, hm3, hg3⟩
  have A3 := hideIt (below_grown A2.out hg3 hWs)
  have B3 := hideIt (below_trans BW.out A3.out (by omega))
  have M3 := hideIt hm3
  clear x0 x1 y0 hg3 hm3 LTk A2 B2 M2 HPk
  by_cases q : nms = []
  case neg =>
    have q2 : kd = 2 := Classical.byContradiction fun a => q (FEk.out a)
    rw [if_pos ⟨q2, q⟩] at EL2
    obtain rfl := EL2.out
    have sz := MB.out q
    clear EL2 q q2 MA MB FEk
    have sz2 : (Maps.size D3 : Int) > 0 := by omega
    go_wp2_with (at_len; refine wpList_len_own _ rfl _ 261 rfl 9 3 mapU _ (w.heap.size + 1) 4096 D3 rfl M3.out ?_)
    go_wp2
    go_ret2
    exact pl_nil B3.out
  have EL3 : Hid (res = (rmU (k : Int) (i : Int) lk, 0)) := EL2.out.trans (if_neg (by rintro ⟨_, b⟩; exact b q))
  have sz := MA.out q
  clear EL2 q MA MB FEk
  have sz2 : (Maps.size D3 : Int) = 0 := by omega
  have EU := hideIt (show rmU (k : Int) (i : Int) lk = enL (k : Int) freeD ++ (if 1 < lk then [⟨48 + 12 * (i : Int) + 2, lk - 1⟩] else wrL (i : Int) zeroN 8) from rfl)
  generalize rmU (k : Int) (i : Int) lk = ru at *
  obtain rfl := EL3.out
  clear EL3
  obtain ⟨d1, d2⟩ := du_ok (k := (k : Int)) (x := freeD) (by omega) okB_freeD
  have LD2 := hideIt (LD.out (k : Int) freeD w3 B3.out (by show (0 : Nat) ≤ maxLen; unfold maxLen; omega))
  rw [d1, d2, show freeD.v = .agg #[.int .i64 0, .string ⟨#[]⟩, .int .i64 (-1)] from rfl] at LD2
  have l3 : (enL (k : Int) freeD).length ≤ 3 := Nat.le_refl _
  have LU2 := hideIt (fun w1 hb => LU.out (i : Int) xi w1 hb (by omega) (by rw [lx.out]; omega))
  have EX := hideIt (show unL (i : Int) xi = if 1 < lk then [⟨48 + 12 * (i : Int) + 2, lk - 1⟩] else wrL (i : Int) zeroN 8 by unfold unL; rw [lx.out])
  rw [← EX.out] at EU
  have l11 : (unL (i : Int) xi).length ≤ 11 := by
    rw [EX.out]
    split
    · simp
    · rw [wrL_len]; omega
  rw [show xi.v = .agg #[.int .i64 xi.kind, .int .i64 xi.size, .int .i64 xi.links, .int .i64 xi.m0, .int .i64 xi.m1, .int .i64 xi.m2, .int .i64 xi.m3, .int .i64 xi.m4, .int .i64 xi.m5, .int .i64 xi.m6, .int .i64 xi.m7] from rfl] at LU2
  generalize enL (k : Int) freeD = EN at *
  generalize unL (i : Int) xi = UL at *
  obtain ⟨f0, f1, f2⟩ := FDB.out _ B3.out
  clear d1 d2 LD LU EX lx
  go_wp2_with (at_len; refine wpList_len_own _ rfl _ 261 rfl 9 3 mapU _ (w.heap.size + 1) 4096 D3 rfl M3.out ?_)
  refine LD2.out.mono ?_
  rintro e w4 ⟨v4, rfl, hr4, hb4⟩
  have J4 : Hid (UpI w3 w4 v4 EN) := ⟨hr4.1, hb4⟩
  obtain ⟨-, aE, cE, hvE, -⟩ := hr4.rd
  subst hvE
  have A4 := hideIt (below_trans A3.out hb4 A3.out.size)
  have B4 := hideIt (below_trans B3.out hb4 B3.out.size)
  obtain ⟨x0, x1⟩ := CA.out _ A4.out
  obtain ⟨c0, c1, c2, c3, c4, c5, c6, c7, c8, c9, c10⟩ := CI.out
  have d0 := (B4.out.cell (p := ⟨bW, oW + i * 11, none⟩) hblW).trans c0
  have d1 := (B4.out.cell (p := ⟨bW, oW + i * 11 + 1, none⟩) hblW).trans c1
  have d2 := (B4.out.cell (p := ⟨bW, oW + i * 11 + 2, none⟩) hblW).trans c2
  have d3 := (B4.out.cell (p := ⟨bW, oW + i * 11 + 3, none⟩) hblW).trans c3
  have d4 := (B4.out.cell (p := ⟨bW, oW + i * 11 + 4, none⟩) hblW).trans c4
  have d5 := (B4.out.cell (p := ⟨bW, oW + i * 11 + 5, none⟩) hblW).trans c5
  have d6 := (B4.out.cell (p := ⟨bW, oW + i * 11 + 6, none⟩) hblW).trans c6
  have d7 := (B4.out.cell (p := ⟨bW, oW + i * 11 + 7, none⟩) hblW).trans c7
  have d8 := (B4.out.cell (p := ⟨bW, oW + i * 11 + 8, none⟩) hblW).trans c8
  have d9 := (B4.out.cell (p := ⟨bW, oW + i * 11 + 9, none⟩) hblW).trans c9
  have d10 := (B4.out.cell (p := ⟨bW, oW + i * 11 + 10, none⟩) hblW).trans c10
  clear c0 c1 c2 c3 c4 c5 c6 c7 c8 c9 c10 CI hr4 hb4 f0 f1 f2 LD2 FDB
  go_wp2_with fail
  refine (LU2.out _ B4.out).mono ?_
  rintro e w5 ⟨v5, rfl, hr5, hb5⟩
  have J5 := hideIt (J4.out.below hb5)
  have R5 := hideIt hr5.rd
  obtain ⟨-, aF, cF, hvF, -⟩ := hr5.rd
  subst hvF
  have z5 : w3.heap.size ≤ w5.heap.size := J5.out.z
  clear hr5 hb5 J4 LU2 x0 x1 d0 d1 d2 d3 d4 d5 d6 d7 d8 d9 d10 CA
  go_wp2_with (at_builtin; refine wpList_append_rd _ rfl (.tmp 42) (.tmp 49) 57 rfl w3.heap.size 130 (.agg #[.int .i64 0, .int .i64 0]) 2 16 Tryz.underlying57 infoUp rfl (by decide) _ _ _ rfl J5.out.l _ _ _ rfl R5.out (ses_ones _) (by simp [maxLen]; omega) (by omega) z5 ?_)
  intro vN wN hownN hgrN
  have G := hideIt (J5.out.grow UL hownN hgrN)
  rw [← EU.out] at G
  have G2 := hideIt (G.out.wide B3.out)
  obtain ⟨-, aN, cN, hvN, -⟩ := (own_block G2.out.l).rd
  subst hvN
  clear hownN hgrN J5 R5 G
  go_wp2
  go_ret2
  exact pl_row 0 G2.out
end Go.Proofs.YtcilodgoognmnaaGreatDoor
