/- Several texts laid together: ThA, TpC. -/
import Derived.Test.YtmeiionabonhnaaGreatDoorZAE
import Derived.Test.YtmeiionabonhnaaGreatDoorZAC
import Derived.Test.YtmeiionabonhnaaGreatDoorZBB
import Derived.Deep.DeepCutAuto
namespace Go.Proofs.YtmeiionabonhnaaGreatDoor
open Go.RowKit
structure Th where
  kind : Int
  links : Int
  pages : List Int
def thZ : Th := ⟨0, 0, []⟩
def thc (u : Th × Value) : List Value := [.int .i64 u.1.kind, .int .i64 u.1.links, u.2]
def thv (us : List (Th × Value)) : List Value := us.flatMap thc
theorem thc_len (u : Th × Value) : (thc u).length = 3 := rfl
theorem thv_len (us : List (Th × Value)) : (thv us).length = us.length * 3 := flatMap_len _ 3 thc_len us
theorem thv_at0 (us : List (Th × Value)) (k : Nat) (h : k < us.length) : (thv us)[k * 3]? = some (.int .i64 us[k].1.kind) := flatMap_at _ 3 thc_len us k 0 h (by omega)
theorem thv_at1 (us : List (Th × Value)) (k : Nat) (h : k < us.length) : (thv us)[k * 3 + 1]? = some (.int .i64 us[k].1.links) := flatMap_at _ 3 thc_len us k 1 h (by omega)
theorem thv_at2 (us : List (Th × Value)) (k : Nat) (h : k < us.length) : (thv us)[k * 3 + 2]? = some us[k].2 := flatMap_at _ 3 thc_len us k 2 h (by omega)
theorem thv_app (us vs : List (Th × Value)) : thv (us ++ vs) = thv us ++ thv vs := by simp [thv]
def RdU (w : World) (v : Value) (us : List (Th × Value)) : Prop := Rd w 3 v us.length (thv us) ∧ ∀ k (h : k < us.length), RdI w us[k].2 us[k].1.pages
def RdTh (w : World) (v : Value) (ts : List Th) : Prop := ∃ us : List (Th × Value), us.map Prod.fst = ts ∧ RdU w v us
theorem RdU.below {w w' : World} {v : Value} {us : List (Th × Value)} (h : RdU w v us) (hb : Below w.heap.size w w') : RdU w' v us := ⟨Rd.below h.1 hb, fun k hk => Rd.below (h.2 k hk) hb⟩
theorem RdTh.below {w w' : World} {v : Value} {ts : List Th} (h : RdTh w v ts) (hb : Below w.heap.size w w') : RdTh w' v ts := by
  obtain ⟨us, e, r⟩ := h
  exact ⟨us, e, r.below hb⟩
theorem RdU.shape {w : World} {v : Value} {us : List (Th × Value)} (h : RdU w v us) : ∃ ao cap, v = .slice ao us.length cap ∧ us.length ≤ cap ∧ (0 < us.length → ∃ b o, ao = some ⟨b, o, none⟩ ∧ b < w.heap.size ∧
    ∀ k (h : k < us.length), w.cell? ⟨b, o + k * 3, none⟩ = some (.int .i64 us[k].1.kind) ∧ w.cell? ⟨b, o + k * 3 + 1, none⟩ = some (.int .i64 us[k].1.links) ∧ w.cell? ⟨b, o + k * 3 + 2, none⟩ = some us[k].2) := by
  obtain ⟨⟨h1, ao, cap, rfl, h2, h3⟩, -⟩ := h
  refine ⟨ao, cap, rfl, h2.1, fun hp => ?_⟩
  obtain ⟨b, o, rfl, hb, hc⟩ := h3 hp
  refine ⟨b, o, rfl, hb, fun k hk => ⟨?_, ?_, ?_⟩⟩
  · exact (hc (k * 3) (by omega)).trans (thv_at0 us k hk)
  · exact (hc (k * 3 + 1) (by omega)).trans (thv_at1 us k hk)
  · exact (hc (k * 3 + 2) (by omega)).trans (thv_at2 us k hk)
theorem RdU.val {w : World} {v : Value} {us : List (Th × Value)} (h : RdU w v us) (k : Nat) (hk : k < us.length) : ∃ ao cap, us[k].2 = .slice ao us[k].1.pages.length cap := by
  obtain ⟨ao, cap, e, -⟩ := (h.2 k hk).shape
  exact ⟨ao, cap, e⟩
def Apt (a b : Value) : Prop := ∀ x, a.ownBlock = some x → ¬ b.ownBlock = some x
structure OwU (w : World) (lo hi : Nat) (v : Value) (us : List (Th × Value)) : Prop where
  row : Row w 102 3 lo hi v us.length (thv us)
  pg : ∀ k (h : k < us.length), Row w 3 1 lo hi us[k].2 us[k].1.pages.length (ints us[k].1.pages)
  ap : ∀ j k (hj : j < us.length) (hk : k < us.length), ¬ j = k → Apt us[j].2 us[k].2
def RowTh (w : World) (lo hi : Nat) (v : Value) (ts : List Th) : Prop := ∃ us : List (Th × Value), us.map Prod.fst = ts ∧ OwU w lo hi v us
theorem OwU.rd {w : World} {lo hi : Nat} {v : Value} {us : List (Th × Value)} (h : OwU w lo hi v us) : RdU w v us := ⟨h.row.rd, fun k hk => (h.pg k hk).rd⟩
theorem RowTh.rd {w : World} {lo hi : Nat} {v : Value} {ts : List Th} (h : RowTh w lo hi v ts) : RdTh w v ts := by
  obtain ⟨us, e, r⟩ := h
  exact ⟨us, e, r.rd⟩
theorem OwU.below {w w' : World} {lo hi : Nat} {v : Value} {us : List (Th × Value)} (h : OwU w lo hi v us) {B : Nat} (hb : Below B w w') (hB : hi ≤ B) : OwU w' lo hi v us := ⟨h.row.below hb hB, fun k hk => (h.pg k hk).below hb hB, h.ap⟩
theorem RowTh.below {w w' : World} {lo hi : Nat} {v : Value} {ts : List Th} (h : RowTh w lo hi v ts) {B : Nat} (hb : Below B w w') (hB : hi ≤ B) : RowTh w' lo hi v ts := by
  obtain ⟨us, e, r⟩ := h
  exact ⟨us, e, r.below hb hB⟩
theorem OwU.wide {w : World} {lo hi : Nat} {v : Value} {us : List (Th × Value)} (h : OwU w lo hi v us) {lo' hi' : Nat} (a : lo' ≤ lo) (b : hi ≤ hi') : OwU w lo' hi' v us := ⟨h.row.wide a b, fun k hk => (h.pg k hk).wide a b, h.ap⟩
theorem RowTh.wide {w : World} {lo hi : Nat} {v : Value} {ts : List Th} (h : RowTh w lo hi v ts) {lo' hi' : Nat} (a : lo' ≤ lo) (b : hi ≤ hi') : RowTh w lo' hi' v ts := by
  obtain ⟨us, e, r⟩ := h
  exact ⟨us, e, r.wide a b⟩
theorem OwU.outside {w w' : World} {lo hi : Nat} {v : Value} {us : List (Th × Value)} (h : OwU w lo hi v us) {lo' hi' : Nat} (ho : Outside lo' hi' w w') (hd : hi ≤ lo' ∨ hi' ≤ lo) (hz : hi ≤ w.heap.size) : OwU w' lo hi v us := ⟨h.row.outside ho hd hz, fun k hk => (h.pg k hk).outside ho hd hz, h.ap⟩
theorem RowTh.outside {w w' : World} {lo hi : Nat} {v : Value} {ts : List Th} (h : RowTh w lo hi v ts) {lo' hi' : Nat} (ho : Outside lo' hi' w w') (hd : hi ≤ lo' ∨ hi' ≤ lo) (hz : hi ≤ w.heap.size) : RowTh w' lo hi v ts := by
  obtain ⟨us, e, r⟩ := h
  exact ⟨us, e, r.outside ho hd hz⟩
theorem map_fst_len {us : List (Th × Value)} {ts : List Th} (e : us.map Prod.fst = ts) : us.length = ts.length := by rw [← e, List.length_map]
theorem map_fst_at {us : List (Th × Value)} {ts : List Th} (e : us.map Prod.fst = ts) (k : Nat) (h : k < us.length) : us[k].1 = ts[k]'(by rw [← map_fst_len e]; exact h) := by
  subst e
  simp
theorem apt_far {w w' : World} {e e' : TypeId} {s s' lo hi lo' hi' : Nat} {v v' : Value} {n n' : Nat} {xs xs' : List Value} (h : Row w e s lo hi v n xs) (h' : Row w' e' s' lo' hi' v' n' xs') (hd : hi ≤ lo' ∨ hi' ≤ lo) : Apt v v' := fun x a b => by
  have p := (h.1.lt x a).1
  have q := h.2 x a
  have r := (h'.1.lt x b).1
  have s := h'.2 x b
  omega
theorem Apt.symm {a b : Value} (h : Apt a b) : Apt b a := fun x p q => h x q p
theorem infoThing : (Tryz.prog.info? 102).map (fun i => (i.zero, i.size, i.bytes)) = some (some (.agg #[.int .i64 0, .int .i64 0, .slice none 0 0]), 3, 40) := by kernel_rfl
def totT : List Th → Nat
  | [] => 0
  | t :: ts => t.pages.length + totT ts
theorem totT_app : ∀ (a b : List Th), totT (a ++ b) = totT a + totT b
  | [], b => by simp [totT]
  | t :: a, b => by
    show t.pages.length + totT (a ++ b) = t.pages.length + totT a + totT b
    rw [totT_app a b]
    omega
theorem totT_take {ts : List Th} {k : Nat} (h : k < ts.length) : totT (ts.take (k + 1)) = totT (ts.take k) + ts[k].pages.length := by
  rw [List.take_add_one, List.getElem?_eq_getElem h, totT_app]
  rfl
theorem totT_part (ts : List Th) (k : Nat) : totT (ts.take k) ≤ totT ts := by
  have e : totT (ts.take k ++ ts.drop k) = totT (ts.take k) + totT (ts.drop k) := totT_app _ _
  rw [List.take_append_drop] at e
  omega
theorem totT_le {ts : List Th} {k : Nat} (h : k < ts.length) : ts[k].pages.length ≤ totT ts := by
  have a := totT_take h
  have b := totT_part ts (k + 1)
  omega
end Go.Proofs.YtmeiionabonhnaaGreatDoor

namespace Go.Proofs.YtmeiionabonhnaaGreatDoor
open Go.RowKit
theorem tc3 {w : World} {b : Nat} {t : TypeId} {x y z : Value} (h : w.heap[b]? = some (.cells #[x, y, z] t (0, 0))) : w.cell? ⟨b, 0, none⟩ = some x ∧ w.cell? ⟨b, 1, none⟩ = some y ∧ w.cell? ⟨b, 2, none⟩ = some z := by
  simp [World.cell?, h]
def pgT : List Int → ByteArray
  | [] => ⟨#[]⟩
  | z :: zs => ⟨#[32]⟩ ++ itT z ++ pgT zs
theorem pgT_snoc : ∀ (zs : List Int) (z : Int), pgT (zs ++ [z]) = pgT zs ++ (⟨#[32]⟩ ++ itT z)
  | [], z => by
    show ⟨#[32]⟩ ++ itT z ++ ⟨#[]⟩ = ⟨#[]⟩ ++ (⟨#[32]⟩ ++ itT z)
    apply ByteArray.ext
    simp
  | y :: zs, z => by
    show ⟨#[32]⟩ ++ itT y ++ pgT (zs ++ [z]) = ⟨#[32]⟩ ++ itT y ++ pgT zs ++ (⟨#[32]⟩ ++ itT z)
    rw [pgT_snoc zs z]
    apply ByteArray.ext
    simp
theorem it_size {z : Int} (h0 : 0 ≤ z) (h1 : z ≤ 9223372036854775807) : (itT z).size ≤ 20 := by
  obtain ⟨n, rfl⟩ : ∃ n : Nat, z = (n : Int) := ⟨z.toNat, by omega⟩
  rw [it_nat]
  exact dg_len 19 n (by omega)
theorem pgT_size : ∀ (zs : List Int), (∀ z ∈ zs, 0 ≤ z ∧ z ≤ 9223372036854775807) → (pgT zs).size ≤ 21 * zs.length
  | [], _ => Nat.le_refl _
  | z :: zs, h => by
    have a := pgT_size zs (fun y hy => h y (List.mem_cons_of_mem _ hy))
    have b := it_size (h z (List.mem_cons_self ..)).1 (h z (List.mem_cons_self ..)).2
    show (⟨#[32]⟩ ++ itT z ++ pgT zs).size ≤ 21 * (zs.length + 1)
    rw [ByteArray.size_append, ByteArray.size_append]
    have : (⟨#[32]⟩ : ByteArray).size = 1 := rfl
    omega
def flT (b : Int) : ByteArray := ⟨#[102, 105, 108, 101, 32]⟩ ++ itT b ++ ⟨#[58]⟩
def thT (a b : Int) (zs : List Int) : ByteArray := if a = 2 then ⟨#[100, 105, 114]⟩ else flT b ++ pgT zs
theorem flT_size {b : Int} (h0 : 0 ≤ b) (h1 : b ≤ 9223372036854775807) : (flT b).size ≤ 26 := by
  unfold flT
  rw [ByteArray.size_append, ByteArray.size_append]
  have a := it_size h0 h1
  have : (⟨#[102, 105, 108, 101, 32]⟩ : ByteArray).size = 5 := rfl
  have : (⟨#[58]⟩ : ByteArray).size = 1 := rfl
  omega
theorem thT_size {a b : Int} {zs : List Int} (h0 : 0 ≤ b) (h1 : b ≤ 9223372036854775807) (hz : ∀ z ∈ zs, 0 ≤ z ∧ z ≤ 9223372036854775807) : (thT a b zs).size ≤ 26 + 21 * zs.length := by
  unfold thT
  split
  · show 3 ≤ _; omega
  · rw [ByteArray.size_append]
    have := flT_size h0 h1
    have := pgT_size zs hz
    omega
set_option maxRecDepth 100000 in
set_option maxHeartbeats 8000000 in
theorem thingText_any (a b : Int) (v : Value) (zs : List Int) (w : World) (h : RdI w v zs) (hn : zs.length ≤ 4096) (hb0 : 0 ≤ b) (hb1 : b ≤ 9223372036854775807) (hz : ∀ z ∈ zs, 0 ≤ z ∧ z ≤ 9223372036854775807) (hp : PT w) :
    Calls Tryz.prog 36 #[.agg #[.int .i64 a, .int .i64 b, v]] w fun e w' => e = .returned (.string (thT a b zs)) ∧ Below w.heap.size w w' := by
  obtain ⟨ao, cap, rfl, hcap, hcell⟩ := h.shape
  have HC := hideIt hcell
  have HZ := hideIt hz
  have HP := hideIt hp
  clear h hcell hz hp
  have BV : Hid (Below w.heap.size w (w.alloc (.cells #[.int .i64 a, .int .i64 b, .slice ao zs.length cap] 102))) := (Below.refl _ _).alloc (Nat.le_refl _) _
  by_cases c : a = 2
  · have e : thT a b zs = ⟨#[100, 105, 114]⟩ := if_pos c
    rw [e]
    subst c
    clear HC HZ HP e
    go_enter Tryz.func36, Tryz.ntmps36
    go_wp2
    go_ret
    exact ⟨rfl, BV.out⟩
  have e : thT a b zs = flT b ++ pgT zs := if_neg c
  rw [e]
  have c' : (a == 2) = false := beq_eq_false_iff_ne.2 c
  have FE : Hid (flT b = ⟨#[102, 105, 108, 101, 32]⟩ ++ itT b ++ ⟨#[58]⟩) := rfl
  have fs := flT_size hb0 hb1
  have is := it_size hb0 hb1
  have PS : Hid (∀ k, k ≤ zs.length → (pgT (zs.take k)).size ≤ 21 * k) := fun k hk => by
    have := pgT_size (zs.take k) (fun z hz => HZ.out z (List.mem_of_mem_take hz))
    rw [List.length_take] at this
    omega
  have PN : Hid (∀ k (hk : k < zs.length), pgT (zs.take (k + 1)) = pgT (zs.take k) ++ (⟨#[32]⟩ ++ itT zs[k])) := fun k hk => by
    rw [List.take_succ_eq_append_getElem hk, pgT_snoc]
  have P0 : Hid (pgT (zs.take 0) = ⟨#[]⟩) := rfl
  have PE : Hid (pgT (zs.take zs.length) = pgT zs) := by unfold Hid; rw [List.take_length]
  have IS : Hid (∀ k (hk : k < zs.length), (0 ≤ zs[k] ∧ zs[k] ≤ 9223372036854775807) ∧ (itT zs[k]).size ≤ 20) := fun k hk => by
    have q := HZ.out _ (List.getElem_mem hk)
    exact ⟨q, it_size q.1 q.2⟩
  have LI := hideIt (fun (n : Int) (h0 : 0 ≤ n) (h1 : n ≤ 9223372036854775807) w1 (hb : Below w.heap.size w w1) => itoa_any n w1 (by omega) h1 (HP.out.below hb))
  clear e c HP HZ
  obtain ⟨fl, efl⟩ : ∃ fl, fl = flT b := ⟨_, rfl⟩
  rw [← efl] at fs FE
  have A1 := fun (w1 : World) => run_string_add_sum (P := Tryz.prog) w1 ⟨#[102, 105, 108, 101, 32]⟩ (itT b) (by show 5 + _ ≤ _; omega)
  have z1 : ((⟨#[102, 105, 108, 101, 32]⟩ : ByteArray) ++ itT b).size = 5 + (itT b).size := ByteArray.size_append
  have A2 := fun (w1 : World) => run_string_add_sum (P := Tryz.prog) w1 (⟨#[102, 105, 108, 101, 32]⟩ ++ itT b) ⟨#[58]⟩ (by show _ + 1 ≤ _; omega)
  rw [← FE.out] at A2
  rw [← efl]
  have LB := hideIt (LI.out b hb0 hb1)
  clear efl FE z1
  generalize (⟨#[102, 105, 108, 101, 32]⟩ ++ itT b : ByteArray) = q1 at *
  generalize itT b = q2 at *
  obtain ⟨V, hV⟩ : ∃ V, V = w.alloc (.cells #[.int .i64 a, .int .i64 b, .slice ao zs.length cap] 102) := ⟨_, rfl⟩
  have XV : Hid (V.heap[w.heap.size]? = some (.cells #[.int .i64 a, .int .i64 b, .slice ao zs.length cap] 102 (0, 0))) := by rw [hV]; exact at_new rfl
  rw [← hV] at BV
  go_enter Tryz.func36, Tryz.ntmps36
  go_upto_region 1 with fail
  rw [← hV]
  clear hV
  obtain ⟨x0, x1, x2⟩ := tc3 XV.out
  go_upto_region 3 with fail
  go_wp2_with fail
  refine (LB.out V BV.out).mono ?_
  rintro e w1 ⟨rfl, hb1'⟩
  have B1 := hideIt (below_trans BV.out hb1' BV.out.size)
  have X1 := hideIt ((hb1'.block w.heap.size (Array.getElem?_eq_some_iff.1 XV.out).1).trans XV.out)
  clear hb1' BV XV x0 x1 x2 LB
  obtain ⟨x0, x1, x2⟩ := tc3 X1.out
  have a1 := A1 w1
  have a2 := A2 w1
  clear A1 A2
  go_upto_region 4 with fail
  clear a1 a2 x0 x1 is
  go_wp2_with fail
  clear x2 X1
  go_loopw [3, 17] (fun t i wr => ∃ k : Nat, k ≤ zs.length ∧ i = .int .i64 k ∧ (∃ acc : ByteArray, t = .string acc ∧ acc.size ≤ 26 + 21 * k ∧ Hid (acc = fl ++ pgT (zs.take k))) ∧ Hid (Below w.heap.size w wr)) (fun _ i _ => zs.length - (intOf i).toNat)
  case atStart => exact ⟨0, by omega, rfl, ⟨fl, rfl, by omega, by unfold Hid; rw [P0.out]; apply ByteArray.ext; simp⟩, B1.out⟩
  case round =>
    obtain ⟨k, hk, rfl, ⟨acc, rfl, ha, E⟩, B⟩ := hrel
    clear B1
    have k0 : (0 : Int) ≤ (k : Int) := by omega
    by_cases hlt : k < zs.length
    · obtain ⟨b0, o0, rfl, hbl, hcell⟩ := HC.out (by omega)
      have d0 := (B.out.cell (p := ⟨b0, o0 + k, none⟩) hbl).trans (hcell k hlt)
      have k1 : (k : Int) < (zs.length : Int) := by omega
      obtain ⟨⟨g0, g1⟩, g2⟩ := IS.out k hlt
      have E2 : Hid (acc ++ (⟨#[32]⟩ ++ itT zs[k]) = fl ++ pgT (zs.take (k + 1))) := by
        unfold Hid
        rw [PN.out k hlt, E.out]
        apply ByteArray.ext
        simp
      clear E hcell PS PN PE P0 HC IS
      generalize zs[k] = z at *
      have LZ := hideIt (LI.out z g0 g1)
      have A1 := fun (w1 : World) => run_string_add_sum (P := Tryz.prog) w1 ⟨#[32]⟩ (itT z) (by show 1 + _ ≤ _; omega)
      have s1 : ((⟨#[32]⟩ : ByteArray) ++ itT z).size = 1 + (itT z).size := ByteArray.size_append
      have A2 := fun (w1 : World) => run_string_add_sum (P := Tryz.prog) w1 acc (⟨#[32]⟩ ++ itT z) (by omega)
      have s2 : (acc ++ (⟨#[32]⟩ ++ itT z)).size = acc.size + (1 + (itT z).size) := by rw [ByteArray.size_append, s1]
      generalize (acc ++ (⟨#[32]⟩ ++ itT z) : ByteArray) = r2 at *
      generalize (⟨#[32]⟩ ++ itT z : ByteArray) = r1 at *
      generalize itT z = r0 at *
      clear s1 LI
      go_upto_region 7 with fail
      clear d0
      go_wp2_with fail
      refine (LZ.out wr B.out).mono ?_
      rintro e w2 ⟨rfl, hb⟩
      have B2 := hideIt (below_trans B.out hb B.out.size)
      have a1 := A1 w2
      have a2 := A2 w2
      clear hb A1 A2 LZ B
      go_wp2
      go_roundw
      case rel => exact ⟨k + 1, by omega, by go_num, ⟨r2, rfl, by omega, E2.out⟩, B2.out⟩
      case measure => simp [intOf]; omega
    · obtain rfl : k = zs.length := by omega
      have E2 : Hid (acc = fl ++ pgT zs) := by
        unfold Hid
        rw [E.out, PE.out]
      clear E PE PS PN P0 IS LI HC
      obtain rfl := E2.out
      go_wp2
      go_ret
      exact ⟨rfl, B.out⟩
end Go.Proofs.YtmeiionabonhnaaGreatDoor
