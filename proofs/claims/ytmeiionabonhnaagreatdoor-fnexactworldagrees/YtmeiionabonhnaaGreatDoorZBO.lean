/- Several texts laid together: TpC, TpD, TpE. -/
import Derived.Test.YtmeiionabonhnaaGreatDoorZBN
import Derived.Test.YtmeiionabonhnaaGreatDoorZAB
import Derived.Deep.DeepCutAuto
import Derived.Test.YtmeiionabonhnaaGreatDoorZAO
import Derived.Test.YtmeiionabonhnaaGreatDoorZAZ
import Derived.Test.YtmeiionabonhnaaGreatDoorZBK
import Derived.Maps.OwnSet
import Derived.Deep.LoopGhost
namespace Go.Proofs.YtmeiionabonhnaaGreatDoor
open Go.RowKit
theorem tc3 {w : World} {b : Nat} {t : TypeId} {x y z : Value} (h : w.heap[b]? = some (.cells #[x, y, z] t (0, 0))) : w.cell? ⟨b, 0, none⟩ = some x ∧ w.cell? ⟨b, 1, none⟩ = some y ∧ w.cell? ⟨b, 2, none⟩ = some z := by
  simp [World.cell?, h]
def pgT : List Int → ByteArray
  | [] => ⟨#[]⟩
  | z :: zs => ⟨#[32]⟩ ++ itT z ++ pgT zs
theorem pgT_snoc : ∀ (zs : List Int) (z : Int), pgT (zs ++ [z]) = pgT zs ++ (⟨#[32]⟩ ++ itT z)
  | [], z => by
    show ⟨#[32]⟩ ++ itT z ++ ⟨#[]⟩ = ⟨#[]⟩ ++ (⟨#[32]⟩ ++ itT z)
    apply ByteArray.ext
    simp
  | y :: zs, z => by
    show ⟨#[32]⟩ ++ itT y ++ pgT (zs ++ [z]) = ⟨#[32]⟩ ++ itT y ++ pgT zs ++ (⟨#[32]⟩ ++ itT z)
    rw [pgT_snoc zs z]
    apply ByteArray.ext
    simp
theorem it_size {z : Int} (h0 : 0 ≤ z) (h1 : z ≤ 9223372036854775807) : (itT z).size ≤ 20 := by
  obtain ⟨n, rfl⟩ : ∃ n : Nat, z = (n : Int) := ⟨z.toNat, by omega⟩
  rw [it_nat]
  exact dg_len 19 n (by omega)
theorem pgT_size : ∀ (zs : List Int), (∀ z ∈ zs, 0 ≤ z ∧ z ≤ 9223372036854775807) → (pgT zs).size ≤ 21 * zs.length
  | [], _ => Nat.le_refl _
  | z :: zs, h => by
    have a := pgT_size zs (fun y hy => h y (List.mem_cons_of_mem _ hy))
    have b := it_size (h z (List.mem_cons_self ..)).1 (h z (List.mem_cons_self ..)).2
    show (⟨#[32]⟩ ++ itT z ++ pgT zs).size ≤ 21 * (zs.length + 1)
    rw [ByteArray.size_append, ByteArray.size_append]
    have : (⟨#[32]⟩ : ByteArray).size = 1 := rfl
    omega
def flT (b : Int) : ByteArray := ⟨#[102, 105, 108, 101, 32]⟩ ++ itT b ++ ⟨#[58]⟩
def thT (a b : Int) (zs : List Int) : ByteArray := if a = 2 then ⟨#[100, 105, 114]⟩ else flT b ++ pgT zs
theorem flT_size {b : Int} (h0 : 0 ≤ b) (h1 : b ≤ 9223372036854775807) : (flT b).size ≤ 26 := by
  unfold flT
  rw [ByteArray.size_append, ByteArray.size_append]
  have a := it_size h0 h1
  have : (⟨#[102, 105, 108, 101, 32]⟩ : ByteArray).size = 5 := rfl
  have : (⟨#[58]⟩ : ByteArray).size = 1 := rfl
  omega
theorem thT_size {a b : Int} {zs : List Int} (h0 : 0 ≤ b) (h1 : b ≤ 9223372036854775807) (hz : ∀ z ∈ zs, 0 ≤ z ∧ z ≤ 9223372036854775807) : (thT a b zs).size ≤ 26 + 21 * zs.length := by
  unfold thT
  split
  · show 3 ≤ _; omega
  · rw [ByteArray.size_append]
    have := flT_size h0 h1
    have := pgT_size zs hz
    omega
set_option maxRecDepth 100000 in
set_option maxHeartbeats 8000000 in
theorem thingText_any (a b : Int) (v : Value) (zs : List Int) (w : World) (h : RdI w v zs) (hn : zs.length ≤ 4096) (hb0 : 0 ≤ b) (hb1 : b ≤ 9223372036854775807) (hz : ∀ z ∈ zs, 0 ≤ z ∧ z ≤ 9223372036854775807) (hp : PT w) :
    Calls Tryz.prog 36 #[.agg #[.int .i64 a, .int .i64 b, v]] w fun e w' => e = .returned (.string (thT a b zs)) ∧ Below w.heap.size w w' := by
  obtain ⟨ao, cap, rfl, hcap, hcell⟩ := h.shape
  have HC := hideIt hcell
  have HZ := hideIt hz
  have HP := hideIt hp
  clear h hcell hz hp
  have BV : Hid (Below w.heap.size w (w.alloc (.cells #[.int .i64 a, .int .i64 b, .slice ao zs.length cap] 102))) := (Below.refl _ _).alloc (Nat.le_refl _) _
  by_cases c : a = 2
  · have e : thT a b zs = ⟨#[100, 105, 114]⟩ := if_pos c
    rw [e]
    subst c
    clear HC HZ HP e
    go_enter Tryz.func36, Tryz.ntmps36
    go_wp2
    go_ret
    exact ⟨rfl, BV.out⟩
  have e : thT a b zs = flT b ++ pgT zs := if_neg c
  rw [e]
  have c' : (a == 2) = false := beq_eq_false_iff_ne.2 c
  have FE : Hid (flT b = ⟨#[102, 105, 108, 101, 32]⟩ ++ itT b ++ ⟨#[58]⟩) := rfl
  have fs := flT_size hb0 hb1
  have is := it_size hb0 hb1
  have PS : Hid (∀ k, k ≤ zs.length → (pgT (zs.take k)).size ≤ 21 * k) := fun k hk => by
    have := pgT_size (zs.take k) (fun z hz => HZ.out z (List.mem_of_mem_take hz))
    rw [List.length_take] at this
    omega
  have PN : Hid (∀ k (hk : k < zs.length), pgT (zs.take (k + 1)) = pgT (zs.take k) ++ (⟨#[32]⟩ ++ itT zs[k])) := fun k hk => by
    rw [List.take_succ_eq_append_getElem hk, pgT_snoc]
  have P0 : Hid (pgT (zs.take 0) = ⟨#[]⟩) := rfl
  have PE : Hid (pgT (zs.take zs.length) = pgT zs) := by unfold Hid; rw [List.take_length]
  have IS : Hid (∀ k (hk : k < zs.length), (0 ≤ zs[k] ∧ zs[k] ≤ 9223372036854775807) ∧ (itT zs[k]).size ≤ 20) := fun k hk => by
    have q := HZ.out _ (List.getElem_mem hk)
    exact ⟨q, it_size q.1 q.2⟩
  have LI := hideIt (fun (n : Int) (h0 : 0 ≤ n) (h1 : n ≤ 9223372036854775807) w1 (hb : Below w.heap.size w w1) => itoa_any n w1 (by omega) h1 (HP.out.below hb))
  clear e c HP HZ
  obtain ⟨fl, efl⟩ : ∃ fl, fl = flT b := ⟨_, rfl⟩
  rw [← efl] at fs FE
  have A1 := fun (w1 : World) => run_string_add_sum (P := Tryz.prog) w1 ⟨#[102, 105, 108, 101, 32]⟩ (itT b) (by show 5 + _ ≤ _; omega)
  have z1 : ((⟨#[102, 105, 108, 101, 32]⟩ : ByteArray) ++ itT b).size = 5 + (itT b).size := ByteArray.size_append
  have A2 := fun (w1 : World) => run_string_add_sum (P := Tryz.prog) w1 (⟨#[102, 105, 108, 101, 32]⟩ ++ itT b) ⟨#[58]⟩ (by show _ + 1 ≤ _; omega)
  rw [← FE.out] at A2
  rw [← efl]
  have LB := hideIt (LI.out b hb0 hb1)
  clear efl FE z1
  generalize (⟨#[102, 105, 108, 101, 32]⟩ ++ itT b : ByteArray) = q1 at *
  generalize itT b = q2 at *
  obtain ⟨V, hV⟩ : ∃ V, V = w.alloc (.cells #[.int .i64 a, .int .i64 b, .slice ao zs.length cap] 102) := ⟨_, rfl⟩
  have XV : Hid (V.heap[w.heap.size]? = some (.cells #[.int .i64 a, .int .i64 b, .slice ao zs.length cap] 102 (0, 0))) := by rw [hV]; exact at_new rfl
  rw [← hV] at BV
  go_enter Tryz.func36, Tryz.ntmps36
  go_upto_region 1 with fail
  rw [← hV]
  clear hV
  obtain ⟨x0, x1, x2⟩ := tc3 XV.out
  go_upto_region 3 with fail
  go_wp2_with fail
  refine (LB.out V BV.out).mono ?_
  rintro e w1 ⟨rfl, hb1'⟩
  have B1 := hideIt (below_trans BV.out hb1' BV.out.size)
  have X1 := hideIt ((hb1'.block w.heap.size (Array.getElem?_eq_some_iff.1 XV.out).1).trans XV.out)
  clear hb1' BV XV x0 x1 x2 LB
  obtain ⟨x0, x1, x2⟩ := tc3 X1.out
  have a1 := A1 w1
  have a2 := A2 w1
  clear A1 A2
  go_upto_region 4 with fail
  clear a1 a2 x0 x1 is
  go_wp2_with fail
  clear x2 X1
  go_loopw [3, 17] (fun t i wr => ∃ k : Nat, k ≤ zs.length ∧ i = .int .i64 k ∧ (∃ acc : ByteArray, t = .string acc ∧ acc.size ≤ 26 + 21 * k ∧ Hid (acc = fl ++ pgT (zs.take k))) ∧ Hid (Below w.heap.size w wr)) (fun _ i _ => zs.length - (intOf i).toNat)
  case atStart => exact ⟨0, by omega, rfl, ⟨fl, rfl, by omega, by unfold Hid; rw [P0.out]; apply ByteArray.ext; simp⟩, B1.out⟩
  case round =>
    obtain ⟨k, hk, rfl, ⟨acc, rfl, ha, E⟩, B⟩ := hrel
    clear B1
    have k0 : (0 : Int) ≤ (k : Int) := by omega
    by_cases hlt : k < zs.length
    · obtain ⟨b0, o0, rfl, hbl, hcell⟩ := HC.out (by omega)
      have d0 := (B.out.cell (p := ⟨b0, o0 + k, none⟩) hbl).trans (hcell k hlt)
      have k1 : (k : Int) < (zs.length : Int) := by omega
      obtain ⟨⟨g0, g1⟩, g2⟩ := IS.out k hlt
      have E2 : Hid (acc ++ (⟨#[32]⟩ ++ itT zs[k]) = fl ++ pgT (zs.take (k + 1))) := by
        unfold Hid
        rw [PN.out k hlt, E.out]
        apply ByteArray.ext
        simp
      clear E hcell PS PN PE P0 HC IS
      generalize zs[k] = z at *
      have LZ := hideIt (LI.out z g0 g1)
      have A1 := fun (w1 : World) => run_string_add_sum (P := Tryz.prog) w1 ⟨#[32]⟩ (itT z) (by show 1 + _ ≤ _; omega)
      have s1 : ((⟨#[32]⟩ : ByteArray) ++ itT z).size = 1 + (itT z).size := ByteArray.size_append
      have A2 := fun (w1 : World) => run_string_add_sum (P := Tryz.prog) w1 acc (⟨#[32]⟩ ++ itT z) (by omega)
      have s2 : (acc ++ (⟨#[32]⟩ ++ itT z)).size = acc.size + (1 + (itT z).size) := by rw [ByteArray.size_append, s1]
      generalize (acc ++ (⟨#[32]⟩ ++ itT z) : ByteArray) = r2 at *
      generalize (⟨#[32]⟩ ++ itT z : ByteArray) = r1 at *
      generalize itT z = r0 at *
      clear s1 LI
      go_upto_region 7 with fail
      clear d0
      go_wp2_with fail
      refine (LZ.out wr B.out).mono ?_
      rintro e w2 ⟨rfl, hb⟩
      have B2 := hideIt (below_trans B.out hb B.out.size)
      have a1 := A1 w2
      have a2 := A2 w2
      clear hb A1 A2 LZ B
      go_wp2
      go_roundw
      case rel => exact ⟨k + 1, by omega, by go_num, ⟨r2, rfl, by omega, E2.out⟩, B2.out⟩
      case measure => simp [intOf]; omega
    · obtain rfl : k = zs.length := by omega
      have E2 : Hid (acc = fl ++ pgT zs) := by
        unfold Hid
        rw [E.out, PE.out]
      clear E PE PS PN P0 IS LI HC
      obtain rfl := E2.out
      go_wp2
      go_ret
      exact ⟨rfl, B.out⟩
end Go.Proofs.YtmeiionabonhnaaGreatDoor

namespace Go.Proofs.YtmeiionabonhnaaGreatDoor
open Go.RowKit Go.Maps Go.MapKept Go.ChangeMaps Go.WideShapes
open Go.WideElems (Fit rd rg pl rd_val elemAt)
def RV (v : Value) : Option (DataW Value × List MemPlace) := some (.held v, [])
def thV (u : Th × Value) : Value := .agg #[.int .i64 u.1.kind, .int .i64 u.1.links, u.2]
def thZV : Value := .agg #[.int .i64 0, .int .i64 0, .slice none 0 0]
def mapD (us : List (Th × Value)) (ts rs : List Den) : Nat → DataW Value
  | 0 => .map []
  | k + 1 => match rs[k]? with
    | none => mapD us ts rs k
    | some x => (mapD us ts rs k).put (keyB (pthU ts 16 x ⟨#[]⟩)) (.held (((us[x.child.toNat]?).map thV).getD thZV))
theorem mapD_map (us : List (Th × Value)) (ts rs : List Den) : ∀ k, Maps.IsMap (mapD us ts rs k)
  | 0 => Maps.isMap_empty
  | k + 1 => by
    unfold mapD
    split
    · exact mapD_map us ts rs k
    · exact (mapD_map us ts rs k).put _ _
theorem mapTU : Tryz.prog.underlying 93 = some (.map 9 102) := by kernel_rfl
theorem strUT : Tryz.prog.underlying 9 = some .string := by kernel_rfl
theorem strKT : Keyed Tryz.prog 9 := string_keyed strUT
theorem thZero (w : World) : (zeroValue 102).run Tryz.prog w = .ok thZV w := by kernel_rfl
theorem Rd.mapg {w w' : World} {size : Nat} {v : Value} {n b : Nat} {xs : List Value} (h : Rd w size v n xs) (h0 : 0 < size) (hb : ∃ es cl, w.heap[b]? = some (.map es cl)) (hg : w.grownBy w' (some b)) : Rd w' size v n xs := by
  obtain ⟨hl, ao, cap, rfl, h2, h3⟩ := h
  refine ⟨hl, ao, cap, rfl, h2, fun hp => ?_⟩
  obtain ⟨bb, o, rfl, hlt, hc⟩ := h3 hp
  have hp2 : 0 < n * size := Nat.mul_pos hp h0
  obtain ⟨es, cl, hm⟩ := hb
  have ne : some bb ≠ some b := fun e => by
    injection e with e
    subst e
    have q := hc 0 hp2
    rw [List.getElem?_eq_getElem (by rw [hl]; exact hp2)] at q
    simp [World.cell?, hm] at q
  have e := hg.block bb hlt ne
  exact ⟨bb, o, rfl, Nat.lt_of_lt_of_le hlt hg.size, fun j hj => by rw [← hc j hj]; simp only [World.cell?, e]⟩
set_option maxRecDepth 100000 in
set_option maxHeartbeats 8000000 in
theorem thingsByPath_any (v : Value) (us : List (Th × Value)) (ps : List Den) (w : World) (vT vP : Value) (hv : v = .agg #[vT, vP]) (hU : RdU w vT us) (hP : RdD w vP ps) (hn : ps.length ≤ 24) (hul : us.length = 16) (hF : FD w)
    (hs : ∀ y ∈ takenD ps, y.name.size ≤ 40 ∧ 1 ≤ y.child ∧ y.child ≤ 15 ∧ Chn (takenD ps) 16 y) (hsz : ∀ y ∈ takenD ps, (pthU (takenD ps) 16 y ⟨#[]⟩).size ≤ maxLen) :
    Calls Tryz.prog 33 #[v] w fun e w' => ∃ b, e = .returned (.map (some b)) ∧ w'.ownsMap Tryz.prog 9 RV b 24 (mapD us (takenD ps) (takenD ps) (takenD ps).length) ∧ w.heap.size ≤ b ∧ Below w.heap.size w w' := by
  subst hv
  obtain ⟨aT, cT, rfl, -, hcT⟩ := hU.shape
  obtain ⟨aP, cP, rfl, -, -⟩ := hP.shape
  have TL := taken_len ps
  have LT := hideIt (fun w1 (hb : Below w.heap.size w w1) => takenDirents_any _ ps w1 (Rd.below hP hb) (by omega) (hF.below hb))
  have HCT := hideIt hcT
  have HS := hideIt hs
  have HZ := hideIt hsz
  have HU := hideIt hul
  have HUV := hideIt hU.val
  clear hcT hs hsz hul hP hU hF
  generalize takenD ps = ts at *
  obtain ⟨V, hV⟩ : ∃ V, V = (w.alloc (.cells #[.slice aT us.length cT, .slice aP ps.length cP] 33)).alloc (.map #[] 0) := ⟨_, rfl⟩
  have XV : Hid (V.heap[w.heap.size]? = some (.cells #[.slice aT us.length cT, .slice aP ps.length cP] 33 (0, 0))) := by rw [hV]; exact at_old (at_new rfl)
  have OV : Hid (V.ownsMap Tryz.prog 9 RV (w.heap.size + 1) 0 (.map [])) := by
    rw [hV]
    have q := World.ownsMap_made (w.alloc (.cells #[.slice aT us.length cT, .slice aP ps.length cP] 33)) Tryz.prog 9 RV
    rw [World.size_alloc] at q
    exact q
  have BV : Hid (Below w.heap.size w V) := by rw [hV]; exact ((Below.refl _ _).alloc (Nat.le_refl _) _).alloc (by simp) _
  have zV : w.heap.size + 1 < V.heap.size := World.ownsMap.lt OV.out
  have hmm := @run_makeMap Tryz.prog
  go_enter Tryz.func33, Tryz.ntmps33
  go_upto_region 2 with fail
  rw [← hV]
  clear hV
  obtain ⟨x0, x1, -⟩ := two_cells XV.out
  go_wp2_with fail
  refine (LT.out V BV.out).mono ?_
  rintro e w2 ⟨v2, rfl, hr, hb⟩
  obtain ⟨aK, cK, rfl, -, hcK⟩ := (show RdD w2 v2 ts from hr.rd).shape
  have R2 : Hid (RdD w2 (.slice aK ts.length cK) ts) := hr.rd
  have B2 := hideIt (below_trans BV.out hb BV.out.size)
  have X2 := hideIt ((hb.block w.heap.size (by omega)).trans XV.out)
  have O2 : Hid (w2.ownsMap Tryz.prog 9 RV (w.heap.size + 1) 0 (.map [])) := OV.out.kept (row := none) ⟨hb.os, hb.tape, hb.output, hb.size, fun k hk _ => hb.block k hk⟩ (by simp)
  have z2 : w.heap.size + 1 < w2.heap.size := World.ownsMap.lt O2.out
  clear hr hb hcK XV OV BV LT x0 x1 zV hmm
  have MM : Hid (∃ es cl, w2.heap[w.heap.size + 1]? = some (.map es cl)) := by
    obtain ⟨es, cl, q, -⟩ := O2.out
    exact ⟨es, cl, q⟩
  obtain ⟨bm, ebm⟩ : ∃ bm, bm = w.heap.size + 1 := ⟨_, rfl⟩
  rw [← ebm] at O2 z2 MM
  have zb : w.heap.size < bm := by omega
  go_upto_region 3 with fail
  rw [← ebm]
  clear ebm
  go_wp2_with fail
  go_loopg [13] ts.length (fun g i wr => ∃ k : Nat, k + g = ts.length ∧ i = .int .i64 k ∧ Hid (wr.ownsMap Tryz.prog 9 RV bm k (mapD us ts ts k)) ∧ Hid (w2.grownBy wr (some bm)))
  case atStart => exact ⟨0, by omega, rfl, O2.out, World.grownBy.refl _ _⟩
  case round =>
    obtain ⟨k, hk, rfl, O, G⟩ := hrel
    have BR : Hid (Below w.heap.size w wr) := B2.out.grown G.out (by omega) (fun j hj => by cases hj; omega)
    have k0 : (0 : Int) ≤ (k : Int) := by omega
    by_cases hlt : k < ts.length
    · have RR : Hid (RdD wr (.slice aK ts.length cK) ts) := Rd.mapg R2.out (by decide) MM.out G.out
      obtain ⟨ao', cap', e', -, hcell⟩ := RR.out.shape
      cases e'
      obtain ⟨bK, oK, rfl, hbl, hcK⟩ := hcell (by omega)
      obtain ⟨d0, d1, d2⟩ := hcK k hlt
      have k1 : (k : Int) < (ts.length : Int) := by omega
      obtain ⟨n40, c1, c2, chn⟩ := HS.out _ (List.getElem_mem hlt)
      have psz := HZ.out _ (List.getElem_mem hlt)
      obtain ⟨c, hc⟩ : ∃ c : Nat, ts[k].child = (c : Int) := ⟨ts[k].child.toNat, by omega⟩
      have cl : c < us.length := by have := HU.out; omega
      obtain ⟨bT, oT, rfl, hbT, hT⟩ := HCT.out (by omega)
      obtain ⟨t0, t1, t2⟩ := hT c cl
      have STEP : Hid (mapD us ts ts (k + 1) = (mapD us ts ts k).put (keyB (pthU ts 16 ts[k] ⟨#[]⟩)) (.held (thV us[c]))) := by
        unfold Hid
        rw [mapD, List.getElem?_eq_getElem hlt]
        simp only [hc, Int.toNat_natCast, List.getElem?_eq_getElem cl]
        rfl
      obtain ⟨ta, tc, ev⟩ := HUV.out c cl
      rw [ev] at t2
      have TV : Hid (thV us[c] = .agg #[.int .i64 us[c].1.kind, .int .i64 us[c].1.links, .slice ta us[c].1.pages.length tc]) := by
        unfold Hid thV
        rw [ev]
      rw [TV.out] at STEP
      have LP := hideIt (fun w1 (hr : RdD w1 (.slice (some ⟨bK, oK, none⟩) ts.length cK) ts) => pathOf_any _ ts ts[k] 16 w1 hr (by omega) (fun y hy => (HS.out y hy).1) n40 chn (by omega))
      rw [hc] at LP d2
      have hg2 : gk - 1 < gk := by omega
      have hk2 : (k + 1) + (gk - 1) = ts.length := by omega
      have ksm : k < 24 := by omega
      clear hcK hcell hT TV ev chn HZ HCT RR
      obtain ⟨D2, eD2⟩ : ∃ D2, D2 = mapD us ts ts (k + 1) := ⟨_, rfl⟩
      rw [← eD2] at STEP
      have ED := hideIt eD2
      clear eD2
      generalize mapD us ts ts k = D1 at *
      generalize pthU ts 16 ts[k] ⟨#[]⟩ = pt at *
      generalize us[c].1.pages.length = tn at *
      generalize us[c].1.kind = tk at *
      generalize us[c].1.links = tl at *
      generalize ts[k].dir = xd at *
      generalize ts[k].name = xn at *
      obtain ⟨wA, hwA⟩ : ∃ wA, wA = wr.alloc (.cells #[.int .i64 xd, .string xn, .int .i64 (c : Int)] 140) := ⟨_, rfl⟩
      have YA : Hid (wA.heap[wr.heap.size]? = some (.cells #[.int .i64 xd, .string xn, .int .i64 (c : Int)] 140 (0, 0))) := by rw [hwA]; exact at_new rfl
      have OA : Hid (wA.ownsMap Tryz.prog 9 RV bm k D1) := by rw [hwA]; exact O.out.alloc _
      have BA : Hid (Below wr.heap.size wr wA) := by rw [hwA]; exact (Below.refl _ _).alloc (Nat.le_refl _) _
      have GA : Hid (w2.grownBy wA (some bm)) := G.out.trans ⟨BA.out.os, BA.out.tape, BA.out.output, BA.out.size, fun i hi _ => BA.out.block i hi⟩
      have WA : Hid (Below w.heap.size w wA) := below_trans BR.out BA.out BR.out.size
      have XA : Hid (wA.heap[w.heap.size]? = some (.cells #[.slice (some ⟨bT, oT, none⟩) us.length cT, .slice aP ps.length cP] 33 (0, 0))) := (GA.out.block _ (by omega) (fun e => by injection e with e; omega)).trans X2.out
      have RA : Hid (RdD wA (.slice (some ⟨bK, oK, none⟩) ts.length cK) ts) := Rd.mapg R2.out (by decide) MM.out GA.out
      go_upto_region 6 with fail
      rw [← hwA]
      clear hwA d0 d1 d2 O G BR
      have zA1 : wr.heap.size < wA.heap.size := (Array.getElem?_eq_some_iff.1 YA.out).1
      have zA2 : w.heap.size < wA.heap.size := (Array.getElem?_eq_some_iff.1 XA.out).1
      have SK : Hid (∀ w', Below wA.heap.size wA w' → w'.heap[wr.heap.size]? = some (.cells #[.int .i64 xd, .string xn, .int .i64 (c : Int)] 140 (0, 0)) ∧ w'.heap[w.heap.size]? = some (.cells #[.slice (some ⟨bT, oT, none⟩) us.length cT, .slice aP ps.length cP] 33 (0, 0)) ∧ w'.cell? ⟨bT, oT + c * 3, none⟩ = some (.int .i64 tk) ∧ w'.cell? ⟨bT, oT + c * 3 + 1, none⟩ = some (.int .i64 tl) ∧ w'.cell? ⟨bT, oT + c * 3 + 2, none⟩ = some (.slice ta tn tc)) := fun w' hb =>
        ⟨(hb.block _ zA1).trans YA.out, (hb.block _ zA2).trans XA.out, (hb.cell (p := ⟨bT, oT + c * 3, none⟩) (by have := WA.out.size; show bT < _; omega)).trans ((WA.out.cell (p := ⟨bT, oT + c * 3, none⟩) hbT).trans t0), (hb.cell (p := ⟨bT, oT + c * 3 + 1, none⟩) (by have := WA.out.size; show bT < _; omega)).trans ((WA.out.cell (p := ⟨bT, oT + c * 3 + 1, none⟩) hbT).trans t1), (hb.cell (p := ⟨bT, oT + c * 3 + 2, none⟩) (by have := WA.out.size; show bT < _; omega)).trans ((WA.out.cell (p := ⟨bT, oT + c * 3 + 2, none⟩) hbT).trans t2)⟩
      have cI : (c : Int) < (us.length : Int) := by omega
      have cJ : (0 : Int) ≤ (c : Int) := by omega
      clear YA XA t0 t1 t2 HU
      refine wp_region_T 10 (fun w' => w'.heap[wr.heap.size]? = some (.cells #[.int .i64 xd, .string xn, .int .i64 (c : Int)] 140 (0, 0)) ∧ w'.heap[w.heap.size]? = some (.cells #[.slice (some ⟨bT, oT, none⟩) us.length cT, .slice aP ps.length cP] 33 (0, 0)) ∧ w'.cell? ⟨bT, oT + c * 3, none⟩ = some (.int .i64 tk) ∧ w'.cell? ⟨bT, oT + c * 3 + 1, none⟩ = some (.int .i64 tl) ∧ w'.cell? ⟨bT, oT + c * 3 + 2, none⟩ = some (.slice ta tn tc)) (by kernel_rfl) (SK.out _ (Below.drew (Below.refl _ _))) (fun hS => ?_)
      refine wpAnyT_take (i := 0) (v := .map (some bm)) [0] rfl (by kernel_rfl) (fun _ _ _ h => h) hS rfl (fun w' hSw => by (obtain ⟨s0, s1, s2, s3, s4⟩ := hSw; obtain ⟨p0, p1, p2, -⟩ := pt3 s0; obtain ⟨q0, q1, -⟩ := two_cells s1; go_simp)) ?_
      try simp only [Act.put]
      refine wpAnyT_take (i := 1) (v := .slice (some ⟨bK, oK, none⟩) ts.length cK) [1] rfl (by kernel_rfl) (fun _ _ _ h => h) hS rfl (fun w' hSw => by (obtain ⟨s0, s1, s2, s3, s4⟩ := hSw; obtain ⟨p0, p1, p2, -⟩ := pt3 s0; obtain ⟨q0, q1, -⟩ := two_cells s1; go_simp)) ?_
      try simp only [Act.put]
      refine wpAnyT_take (i := 2) (v := .agg #[.int .i64 xd, .string xn, .int .i64 (c : Int)]) [2] rfl (by kernel_rfl) (fun _ _ _ h => h) hS rfl (fun w' hSw => by (obtain ⟨s0, s1, s2, s3, s4⟩ := hSw; obtain ⟨p0, p1, p2, -⟩ := pt3 s0; obtain ⟨q0, q1, -⟩ := two_cells s1; go_simp)) ?_
      try simp only [Act.put]
      refine wpAnyT_take (i := 4) (v := .pointer (some ⟨w.heap.size, 0, none⟩)) [4] rfl (by kernel_rfl) (fun _ _ _ h => h) hS rfl (fun w' hSw => by (obtain ⟨s0, s1, s2, s3, s4⟩ := hSw; obtain ⟨p0, p1, p2, -⟩ := pt3 s0; obtain ⟨q0, q1, -⟩ := two_cells s1; go_simp)) ?_
      try simp only [Act.put]
      refine wpAnyT_take (i := 5) (v := .slice (some ⟨bT, oT, none⟩) us.length cT) [5] rfl (by kernel_rfl) (fun _ _ _ h => h) hS rfl (fun w' hSw => by (obtain ⟨s0, s1, s2, s3, s4⟩ := hSw; obtain ⟨p0, p1, p2, -⟩ := pt3 s0; obtain ⟨q0, q1, -⟩ := two_cells s1; go_simp)) ?_
      try simp only [Act.put]
      refine wpAnyT_take (i := 6) (v := .pointer (some ⟨wr.heap.size, 2, none⟩)) [6] rfl (by kernel_rfl) (fun _ _ _ h => h) hS rfl (fun w' hSw => by (obtain ⟨s0, s1, s2, s3, s4⟩ := hSw; obtain ⟨p0, p1, p2, -⟩ := pt3 s0; obtain ⟨q0, q1, -⟩ := two_cells s1; go_simp)) ?_
      try simp only [Act.put]
      refine wpAnyT_take (i := 7) (v := .int .i64 (c : Int)) [7] rfl (by kernel_rfl) (fun _ _ _ h => h) hS rfl (fun w' hSw => by (obtain ⟨s0, s1, s2, s3, s4⟩ := hSw; obtain ⟨p0, p1, p2, -⟩ := pt3 s0; obtain ⟨q0, q1, -⟩ := two_cells s1; go_simp)) ?_
      try simp only [Act.put]
      refine wpAnyT_take (i := 8) (v := .pointer (some ⟨bT, oT + c * 3, none⟩)) [8] rfl (by kernel_rfl) (fun _ _ _ h => h) hS rfl (fun w' hSw => by (obtain ⟨s0, s1, s2, s3, s4⟩ := hSw; obtain ⟨p0, p1, p2, -⟩ := pt3 s0; obtain ⟨q0, q1, -⟩ := two_cells s1; go_simp)) ?_
      try simp only [Act.put]
      refine wpAnyT_take (i := 9) (v := .agg #[.int .i64 tk, .int .i64 tl, .slice ta tn tc]) [9] rfl (by kernel_rfl) (fun _ _ _ h => h) hS rfl (fun w' hSw => by (obtain ⟨s0, s1, s2, s3, s4⟩ := hSw; obtain ⟨p0, p1, p2, -⟩ := pt3 s0; obtain ⟨q0, q1, -⟩ := two_cells s1; go_simp)) ?_
      try simp only [Act.put]
      clear hS
      refine wpAnyT_one (i := 3) rfl (by kernel_rfl) (fun K hK => ?_)
      go_simp
      go_at_call 76
      refine (LP.out _ (Rd.below RA.out (Below.drew (Below.refl _ _)))).mono ?_
      rintro e w3 ⟨rfl, hb3⟩
      have B3 : Hid (Below wA.heap.size wA w3) := below_trans (Below.drew (Below.refl _ _)) hb3 (Nat.le_refl _)
      refine hK.out _ _ (fun _ => SK.out w3 B3.out) ?_
      clear hK K
      try simp only [Act.put]
      have O3 : w3.ownsMap Tryz.prog 9 RV bm k D1 := OA.out.kept (row := none) ⟨B3.out.os, B3.out.tape, B3.out.output, B3.out.size, fun i hi _ => B3.out.block i hi⟩ (by simp)
      have key : keyOf Tryz.prog 9 (.string pt) = some (keyB pt) := WideMaps.keyOf_string_mk strUT psz
      obtain ⟨w4, hrun, o4, g4⟩ := O3.update strKT mapTU (by unfold maxLen; omega) (val := .agg #[.int .i64 tk, .int .i64 tl, .slice ta tn tc]) key (show RV _ = some (_, _) from rfl)
      rw [← STEP.out] at o4
      have O4 : Hid (w4.ownsMap Tryz.prog 9 RV bm (k + 1) (mapD us ts ts (k + 1))) := by
        unfold Hid
        rw [← ED.out]
        exact o4
      have G4 := hideIt ((GA.out.trans ⟨B3.out.os, B3.out.tape, B3.out.output, B3.out.size, fun i hi _ => B3.out.block i hi⟩).trans g4)
      clear o4 g4 hb3
      refine wpAnyT_one (i := 10) rfl (by kernel_rfl) (fun K hK => ?_)
      go_simp
      refine hK.out _ _ (fun h => absurd rfl h) ?_
      clear hK K
      try simp only [Act.put]
      refine wpAnyT_done (by kernel_rfl) ?_ _
      clear hrun O3 SK LP
      go_wp2
      go_roundg (gk - 1)
      case measure => exact hg2
      case rel => exact ⟨k + 1, hk2, by go_num, O4.out, G4.out⟩
    · obtain rfl : k = ts.length := by omega
      go_wp2
      go_ret
      exact ⟨bm, rfl, O.out.mono (by omega), by omega, BR.out⟩
end Go.Proofs.YtmeiionabonhnaaGreatDoor

namespace Go.Proofs.YtmeiionabonhnaaGreatDoor
open Go.RowKit
theorem pthU_size {ts : List Den} (hs : ∀ y ∈ ts, y.name.size ≤ 40) : ∀ (n : Nat) (x : Den) (acc : ByteArray), x.name.size ≤ 40 → (pthU ts n x acc).size ≤ acc.size + 41 * (n + 1)
  | 0, x, acc, hx => by
    rw [pthU, ByteArray.size_append, ByteArray.size_append]
    have : (⟨#[47]⟩ : ByteArray).size = 1 := rfl
    omega
  | n + 1, x, acc, hx => by
    have s : (⟨#[47]⟩ ++ x.name ++ acc : ByteArray).size = 1 + x.name.size + acc.size := by
      rw [ByteArray.size_append, ByteArray.size_append]
      rfl
    cases e : upE ts x.dir with
    | none => rw [pthU_none e, s]; omega
    | some y =>
      rw [pthU_some e]
      have hy : y ∈ ts := List.mem_of_find?_eq_some e
      have := pthU_size hs n y (⟨#[47]⟩ ++ x.name ++ acc) (hs y hy)
      omega
theorem chn_dep {ws : List Ino} {ps : List Den} (h : imgB ws ps = true) : ∀ (m : Nat) (x : Den) (n : Nat), x ∈ takenD ps → dep ps m x.dir → m ≤ n → Chn (takenD ps) n x
  | 0, x, n, hx, hd, _ => by
    have e : upE (takenD ps) x.dir = none := by rw [show x.dir = 0 from hd]; exact upE_root h
    cases n with
    | zero => exact e
    | succ n => intro y hy; rw [e] at hy; cases hy
  | m + 1, x, n, hx, hd, hn => by
    obtain ⟨n, rfl⟩ : ∃ n', n = n' + 1 := ⟨n - 1, by omega⟩
    intro y hy
    have my : y ∈ takenD ps := List.mem_of_find?_eq_some hy
    have cy : y.child = x.dir := by have := List.find?_some hy; exact beq_iff_eq.1 this
    have ex := ent_dir h (taken_ents h) hx
    obtain ⟨i, hi, rfl, hc⟩ := taken_ents h y my
    have z0 : ¬ x.dir = 0 := hd.1
    have q := hd.2
    rw [← cy, up_of1 h hi (by omega) (by rw [cy]; exact ex.2.2)] at q
    exact chn_dep h m _ n my q (by omega)
theorem taken_chn {ws : List Ino} {ps : List Den} (h : imgB ws ps = true) {x : Den} (hx : x ∈ takenD ps) : Chn (takenD ps) 16 x := by
  have en := ent_dir h (taken_ents h) hx
  obtain ⟨m, a, b⟩ := dep_ex 16 _ (pimg_hangs h en.2.1 en.2.2)
  exact chn_dep h m x 16 hx b (by omega)
theorem taken_name {ws : List Ino} {ps : List Den} (h : imgB ws ps = true) {x : Den} (hx : x ∈ takenD ps) : x.name.size ≤ 40 := by
  obtain ⟨i, hi, rfl, hc⟩ := taken_ents h x hx
  rcases pimg_ent h i hi with r | r
  · omega
  · have := (nmB_true r.2.2.1).2.1
    omega
theorem taken_one {ws : List Ino} {ps : List Den} (h : imgB ws ps = true) {x y : Den} (hx : x ∈ takenD ps) (hy : y ∈ takenD ps) (e : pthU (takenD ps) 16 y ⟨#[]⟩ = pthU (takenD ps) 16 x ⟨#[]⟩) : y = x := by
  obtain ⟨i, hi, rfl, hc⟩ := taken_ents h x hx
  obtain ⟨j, hj, rfl, hd⟩ := taken_ents h y hy
  have := path_one h hj hi hd hc e
  subst this
  rfl
def elV (us : List (Th × Value)) (x : Den) : DataW Value := .held (((us[x.child.toNat]?).map thV).getD thZV)
theorem mapD_at {us : List (Th × Value)} {ts : List Den} {x : Den} (inj : ∀ y ∈ ts, pthU ts 16 y ⟨#[]⟩ = pthU ts 16 x ⟨#[]⟩ → y = x) (z : DataW Value) : ∀ n, n ≤ ts.length → x ∈ ts.take n → (mapD us ts ts n).atKey (keyB (pthU ts 16 x ⟨#[]⟩)) z = elV us x
  | 0, _, hx => by simp at hx
  | n + 1, hn, hx => by
    rw [mapD, List.getElem?_eq_getElem (by omega)]
    by_cases e : pthU ts 16 ts[n] ⟨#[]⟩ = pthU ts 16 x ⟨#[]⟩
    · have q := inj _ (List.getElem_mem (by omega)) e
      show (DataW.put _ _ _).atKey _ z = _
      rw [e, q]
      exact Maps.atKey_put_same (mapD_map us ts ts n) (key_isKey _) _ _
    · show (DataW.put _ _ _).atKey _ z = _
      rw [Maps.atKey_put_other (fun q => e (key_inj q).symm)]
      refine mapD_at inj z n (by omega) ?_
      rw [List.take_succ_eq_append_getElem (by omega), List.mem_append] at hx
      rcases hx with q | q
      · exact q
      · rw [List.mem_singleton] at q
        exact absurd (by rw [q]) e
def thAt (ws : List Ino) (ps : List Den) (us : List (Th × Value)) (s : ByteArray) : Th × Value := us.getD (wk ws ps 0 (pcs s).tail).1.toNat (thZ, .slice none 0 0)
theorem told_at {ws : List Ino} {ps : List Den} (h : imgB ws ps = true) {us : List (Th × Value)} (hu : us.length = 16) {s : ByteArray} (hs : s ∈ pthN ws ps 16 0 ⟨#[]⟩) (z : DataW Value) :
    (mapD us (takenD ps) (takenD ps) (takenD ps).length).atKey (keyB s) z = .held (thV (thAt ws ps us s)) ∧ ∃ c : Nat, c < us.length ∧ wk ws ps 0 (pcs s).tail = ((c : Int), 0) ∧ thAt ws ps us s = us.getD c (thZ, .slice none 0 0) := by
  obtain ⟨j, hj, j0, e1, e2⟩ := path_told h hs
  have mj := taken_in hj j0
  have en := (ent_dir h (taken_ents h) mj).1
  have q := mapD_at (us := us) (x := ps[j]) (fun y hy e => taken_one h mj hy e) z (takenD ps).length (Nat.le_refl _) (by rw [List.take_length]; exact mj)
  rw [e1] at q
  have cl : ps[j].child.toNat < us.length := by omega
  refine ⟨?_, ps[j].child.toNat, cl, by rw [e2]; congr 1; omega, by unfold thAt; rw [e2]⟩
  rw [q]
  unfold elV thAt
  rw [e2, List.getD_eq_getElem?_getD, List.getElem?_eq_getElem cl]
  rfl
end Go.Proofs.YtmeiionabonhnaaGreatDoor
