/- Several texts laid together: ImM, ImN, PiK, PiL. -/
import Derived.Test.YtcilodgoognmnaaGreatDoorZAF
import Derived.Test.YtcilodgoognmnaaGreatDoorZAC
import Derived.Laws.Cover3
namespace Go.Proofs.YtcilodgoognmnaaGreatDoor
open Go.RowKit
theorem entsB_mk {ws : List Ino} {ps : List Den} (h : ∀ i (h : i < ps.length), zcm ws ps i ps[i] = true) : zio ws ps = true := decide_eq_true h
theorem entsB_not {ws : List Ino} {ps : List Den} {i : Nat} (hi : i < ps.length) (h : zcm ws ps i ps[i] = false) : zio ws ps = false := decide_eq_false (fun x => by have := x i hi; rw [h] at this; cases this)
theorem ent_free {ws : List Ino} {ps : List Den} {i : Nat} {x : Den} (h : x.child = -1) : zcm ws ps i x = x.freeB := by unfold zcm; rw [if_pos h]
theorem ent_taken {ws : List Ino} {ps : List Den} {i : Nat} {x : Den} (h : ¬ x.child = -1) : zcm ws ps i x = (decide (1 ≤ x.child ∧ x.child ≤ 15) && (decide (0 ≤ x.dir ∧ x.dir ≤ 15) && (nmB x.name && (!(zai ws x.child == 0) && (zai ws x.dir == 2 && (ps.take i).all fun y => !zdh y x))))) := by unfold zcm; rw [if_neg h]
theorem all_not {ps : List Den} {i k : Nat} {x : Den} (hk : k < ps.length) (hi : k < i) (h : zdh ps[k] x = true) : ((ps.take i).all fun y => !zdh y x) = false := by
 rw [List.all_eq_false]
 exact ⟨ps[k], List.mem_take_iff_getElem.2 ⟨k, Nat.lt_min.2 ⟨hi, hk⟩, rfl⟩, by rw [h]; decide⟩
theorem all_mk {ps : List Den} {i : Nat} {x : Den} (h : ∀ k (h : k < ps.length), k < i → zdh ps[k] x = false) : ((ps.take i).all fun y => !zdh y x) = true := by
 rw [List.all_eq_true]
 intro y hy
 obtain ⟨k, hk, rfl⟩ := List.mem_take_iff_getElem.1 hy
 have hk := Nat.lt_min.1 hk
 rw [h k hk.2 hk.1]
 rfl
set_option maxRecDepth 100000 in
set_option maxHeartbeats 8000000 in
theorem zqk (v : Value) (ws : List Ino) (ps : List Den) (w : World) (h : RdIm w v ws ps) (hl : ws.length = 16) (hn : ps.length ≤ 1048576) (hs : ∀ k (h : k < ps.length), ps[k].name.size ≤ maxLen) :
  Calls Tryz.prog 126 #[v] w fun e w' => e = .returned (.bool (zio ws ps)) ∧ Below w.heap.size w w' := by
 obtain ⟨vW, vP, rfl, h1, h2⟩ := h
 obtain ⟨aW, cW, rfl, _, hcW⟩ := h1.shape
 obtain ⟨aP, cP, rfl, _, hcP⟩ := h2.shape
 obtain ⟨bW, oW, rfl, hblW, hcellW⟩ := hcW (by omega)
 have HW := zaa hcellW
 have HZ := zaa hcP
 have HS := zaa hs
 have HL := zaa hl
 have w16 : (15 : Int) < (ws.length : Int) := by omega
 clear h1 h2 hcP hcW hcellW hs hl
 obtain ⟨W, hW⟩ : ∃ W, W = w.alloc (.cells #[.slice (some ⟨bW, oW, none⟩) ws.length cW, .slice aP ps.length cP] 63) := ⟨_, rfl⟩
 have CA : Hid (∀ w', Below W.heap.size W w' → w'.cell? ⟨w.heap.size, 0, none⟩ = some (.slice (some ⟨bW, oW, none⟩) ws.length cW) ∧ w'.cell? ⟨w.heap.size, 1, none⟩ = some (.slice aP ps.length cP)) := fun w' hb => by
  have : w'.heap[w.heap.size]? = some (.cells #[.slice (some ⟨bW, oW, none⟩) ws.length cW, .slice aP ps.length cP] 63 (0, 0)) := (hb.block _ (by rw [hW]; simp)).trans (by rw [hW]; exact zah rfl)
  exact ⟨(zac this).1, (zac this).2.1⟩
 have BW : Hid (Below w.heap.size w W) := by rw [hW]; exact (Below.refl _ _).alloc (Nat.le_refl _) _
 have hz : w.heap.size ≤ W.heap.size := BW.out.size
 go_enter Tryz.func126, Tryz.ntmps126
 go_wp2
 rw [← hW]
 clear hW
 go_loopw [3] (fun i wr => ∃ k : Nat, k ≤ ps.length ∧ i = .int .i64 k ∧ Hid (Below W.heap.size W wr ∧ ∀ j (h : j < ps.length), j < k → zcm ws ps j ps[j] = true)) (fun i _ => ps.length - (intOf i).toNat)
 case atStart => exact ⟨0, by omega, rfl, Below.refl _ _, fun j h a => absurd a (by omega)⟩
 case round =>
  obtain ⟨i, hi, rfl, J⟩ := hrel
  obtain ⟨x0, x1⟩ := CA.out wr J.out.1
  have J1 := zaa J.out.1
  have JW := zaa (zab BW.out J.out.1 hz)
  have hzr : W.heap.size ≤ wr.heap.size := J.out.1.size
  by_cases hlt : i < ps.length
  ·obtain ⟨b, o, rfl, hbl, hcell⟩ := HZ.out (by omega)
   obtain ⟨a0, a1, a2⟩ := hcell i hlt
   have d0 := (JW.out.cell (p := ⟨b, o + i * 3, none⟩) hbl).trans a0
   have d1 := (JW.out.cell (p := ⟨b, o + i * 3 + 1, none⟩) hbl).trans a1
   have d2 := (JW.out.cell (p := ⟨b, o + i * 3 + 2, none⟩) hbl).trans a2
   have i0 : (0 : Int) ≤ (i : Int) := by omega
   have i1 : (i : Int) < (ps.length : Int) := by omega
   have YES : Hid (zcm ws ps i ps[i] = true → ∀ j (h : j < ps.length), j < i + 1 → zcm ws ps j ps[j] = true) := fun q j h a => by
    by_cases e : j = i
    ·subst e; exact q
    ·exact J.out.2 j h (by omega)
   have NO := zaa (fun q => entsB_not (ws := ws) hlt q)
   have EF := zaa (@ent_free ws ps i ps[i])
   have ET := zaa (@ent_taken ws ps i ps[i])
   have DF := zkr ps[i]
   have SZ := zaa (HS.out i hlt)
   clear a0 a1 a2 J
   generalize ps[i] = x at *
   generalize zcm ws ps i x = eo at YES NO EF ET
   have B2 := zaa (J1.out.alloc hzr (.cells #[.int .i64 x.dir, .string x.name, .int .i64 x.child] 180))
   have BF := zaa (zab BW.out B2.out hz)
   by_cases c1 : x.child = -1
   ·have q1 : (x.child == -1) = true := by rw [c1]; rfl
    have EO := zaa (EF.out c1)
    cases c2 : x.freeB with
    | true =>
     rw [c2] at DF EO
     have E := zaa (YES.out EO.out)
     clear c1 c2 EF ET YES NO EO
     go_wp2
     go_roundw
     case rel => exact ⟨i + 1, by omega, by go_num, B2.out, E.out⟩
     case measure => simp [intOf]; omega
    | false =>
     rw [c2] at DF EO
     have E := zaa (NO.out EO.out)
     clear c1 c2 EF ET YES NO EO
     go_wp2
     go_ret
     exact ⟨zaf E.out.symm, BF.out⟩
   have q1 : (x.child == -1) = false := by rw [beq_eq_false_iff_ne]; exact c1
   have EO := zaa (ET.out c1)
   clear c1 EF ET DF
   by_cases c2 : 1 ≤ x.child ∧ x.child ≤ 15
   case neg =>
    have E := zaa (NO.out (by rw [EO.out, decide_eq_false c2]; rfl))
    have C2 := zaa c2
    clear c2 YES NO EO
    go_wp2_with fail
    refine (zce _ _ _ _ C2.out).mono ?_
    rintro e w' ⟨rfl, hw'⟩
    subst w'
    go_wp2
    go_ret
    exact ⟨zaf E.out.symm, BF.out⟩
   by_cases c3 : 0 ≤ x.dir ∧ x.dir ≤ 15
   case neg =>
    have E := zaa (NO.out (by rw [EO.out, decide_eq_false c3, Bool.false_and, Bool.and_false]))
    have C2 := zaa c2
    have C3 := zaa c3
    clear c2 c3 YES NO EO
    go_wp2_with fail
    refine (zar _ _ _ _ C2.out).mono ?_
    rintro e w' ⟨rfl, hw'⟩
    subst w'
    go_wp2_with fail
    refine (zce _ _ _ _ C3.out).mono ?_
    rintro e w' ⟨rfl, hw'⟩
    subst w'
    go_wp2
    go_ret
    exact ⟨zaf E.out.symm, BF.out⟩
   cases c4 : nmB x.name with
   | false =>
    have E := zaa (NO.out (by rw [EO.out, c4, Bool.false_and, Bool.and_false, Bool.and_false]))
    have C2 := zaa c2
    have C3 := zaa c3
    have C4 := zaa c4
    clear c2 c3 c4 YES NO EO
    go_wp2_with fail
    refine (zar _ _ _ _ C2.out).mono ?_
    rintro e w' ⟨rfl, hw'⟩
    subst w'
    go_wp2_with fail
    refine (zar _ _ _ _ C3.out).mono ?_
    rintro e w' ⟨rfl, hw'⟩
    subst w'
    go_wp2_with fail
    refine (zdn _ _ SZ.out).mono ?_
    rw [C4.out]
    rintro e w' ⟨rfl, hw'⟩
    subst w'
    go_wp2
    go_ret
    exact ⟨zaf E.out.symm, BF.out⟩
   | true =>
   have EO2 := zaa (show eo = (!(zai ws x.child == 0) && (zai ws x.dir == 2 && (ps.take i).all fun y => !zdh y x)) by rw [EO.out, decide_eq_true c2, decide_eq_true c3, c4]; rfl)
   have C4 := zaa c4
   clear c4 EO
   obtain ⟨xd, xs, xc⟩ := x
   simp only at d0 d1 d2 c2 c3 SZ B2 BF EO2 q1 C4
   obtain ⟨d, rfl⟩ : ∃ d : Nat, xd = (d : Int) := ⟨xd.toNat, by omega⟩
   obtain ⟨c, rfl⟩ : ∃ c : Nat, xc = (c : Int) := ⟨xc.toNat, by omega⟩
   have C2 := zaa c2
   have C3 := zaa c3
   have hd : d < ws.length := by omega
   have hc : c < ws.length := by omega
   have d5 : (d : Int) < (ws.length : Int) := by omega
   have c5 : (c : Int) < (ws.length : Int) := by omega
   have g0 := (BF.out.cell (p := ⟨bW, oW + d * 11, none⟩) hblW).trans (HW.out d hd).1
   have g1 := (BF.out.cell (p := ⟨bW, oW + c * 11, none⟩) hblW).trans (HW.out c hc).1
   rw [zaz hd, zaz hc] at EO2
   obtain ⟨y0, y1⟩ := CA.out _ B2.out
   clear c2 c3
   generalize ws[d].kind = kd at g0 EO2
   generalize ws[c].kind = kc at g1 EO2
   by_cases c6 : kc = 0
   ·have q6 : (kc == 0) = true := by rw [c6]; rfl
    have E := zaa (NO.out (by rw [EO2.out, q6]; rfl))
    clear c6 YES NO EO2
    go_wp2_with fail
    refine (zar _ _ _ _ C2.out).mono ?_
    rintro e w' ⟨rfl, hw'⟩
    subst w'
    go_wp2_with fail
    refine (zar _ _ _ _ C3.out).mono ?_
    rintro e w' ⟨rfl, hw'⟩
    subst w'
    go_wp2_with fail
    refine (zdn _ _ SZ.out).mono ?_
    rw [C4.out]
    rintro e w' ⟨rfl, hw'⟩
    subst w'
    go_wp2
    go_ret
    exact ⟨zaf E.out.symm, BF.out⟩
   have q6 : (kc == 0) = false := by rw [beq_eq_false_iff_ne]; exact c6
   by_cases c7 : kd = 2
   case neg =>
    have q7 : (kd != 2) = true := by rw [bne_iff_ne]; exact c7
    have E := zaa (NO.out (by rw [EO2.out, show (kd == 2) = false by rw [beq_eq_false_iff_ne]; exact c7, Bool.false_and, Bool.and_false]))
    clear c6 c7 YES NO EO2
    go_wp2_with fail
    refine (zar _ _ _ _ C2.out).mono ?_
    rintro e w' ⟨rfl, hw'⟩
    subst w'
    go_wp2_with fail
    refine (zar _ _ _ _ C3.out).mono ?_
    rintro e w' ⟨rfl, hw'⟩
    subst w'
    go_wp2_with fail
    refine (zdn _ _ SZ.out).mono ?_
    rw [C4.out]
    rintro e w' ⟨rfl, hw'⟩
    subst w'
    go_wp2
    go_ret
    exact ⟨zaf E.out.symm, BF.out⟩
   have q7 : (kd != 2) = false := by rw [c7]; rfl
   have EO3 := zaa (show eo = (ps.take i).all fun y => !zdh y ⟨(d : Int), xs, (c : Int)⟩ by rw [EO2.out, q6, c7]; rfl)
   have BX : Hid ((wr.alloc (.cells #[.int .i64 (d : Int), .string xs, .int .i64 (c : Int)] 180)).heap[wr.heap.size]? = some (.cells #[.int .i64 (d : Int), .string xs, .int .i64 (c : Int)] 180 (0, 0))) := zah rfl
   clear c6 c7 EO2
   go_wp2_with fail
   refine (zar _ _ _ _ C2.out).mono ?_
   rintro e w' ⟨rfl, hw'⟩
   subst w'
   go_wp2_with fail
   refine (zar _ _ _ _ C3.out).mono ?_
   rintro e w' ⟨rfl, hw'⟩
   subst w'
   go_wp2_with fail
   refine (zdn _ _ SZ.out).mono ?_
   rw [C4.out]
   rintro e w' ⟨rfl, hw'⟩
   subst w'
   go_wp2
   generalize wr.alloc (.cells #[.int .i64 (d : Int), .string xs, .int .i64 (c : Int)] 180) = V at *
   have hzv : wr.heap.size < V.heap.size := (Array.getElem?_eq_some_iff.1 BX.out).1
   clear g0 g1 d0 d1 d2 x0 x1 y0 y1 q6 q7
   go_loopw [5] (fun k wq => ∃ m : Nat, m ≤ i ∧ k = .int .i64 m ∧ Hid (Below V.heap.size V wq ∧ ∀ j (h : j < ps.length), j < m → zdh ps[j] ⟨(d : Int), xs, (c : Int)⟩ = false)) (fun k _ => i - (intOf k).toNat)
   case atStart => exact ⟨0, by omega, rfl, Below.refl _ _, fun j h a => absurd a (by omega)⟩
   case round =>
    obtain ⟨m, hm, rfl, K⟩ := hrel
    have KB := zaa (zab B2.out K.out.1 B2.out.size)
    have KW := zaa (zab BW.out KB.out hz)
    obtain ⟨x0, x1⟩ := CA.out wr KB.out
    have K1 := zaa K.out.1
    have hzk : V.heap.size ≤ wr.heap.size := K.out.1.size
    by_cases hlk : m < i
    ·have hmp : m < ps.length := by omega
     obtain ⟨a0, a1, a2⟩ := hcell m hmp
     have d0 := (KW.out.cell (p := ⟨b, o + m * 3, none⟩) hbl).trans a0
     have d1 := (KW.out.cell (p := ⟨b, o + m * 3 + 1, none⟩) hbl).trans a1
     have d2 := (KW.out.cell (p := ⟨b, o + m * 3 + 2, none⟩) hbl).trans a2
     have m0 : (0 : Int) ≤ (m : Int) := by omega
     have m1 : (m : Int) < (i : Int) := by omega
     have m2 : (m : Int) < (ps.length : Int) := by omega
     have K2 : Hid (zdh ps[m] ⟨(d : Int), xs, (c : Int)⟩ = false → ∀ j (h : j < ps.length), j < m + 1 → zdh ps[j] ⟨(d : Int), xs, (c : Int)⟩ = false) := fun q j h a => by
      by_cases e : j = m
      ·subst e; exact q
      ·exact K.out.2 j h (by omega)
     have K3 : Hid (zdh ps[m] ⟨(d : Int), xs, (c : Int)⟩ = true → zio ws ps = false) := fun q => NO.out (by rw [EO3.out, all_not hmp hlk q])
     have KC := zaa (show zdh ps[m] ⟨(d : Int), xs, (c : Int)⟩ = (decide (0 ≤ ps[m].child) && (ps[m].dir == (d : Int) && ps[m].name.toList == xs.toList)) from rfl)
     clear a0 a1 a2 K
     generalize zdh ps[m] ⟨(d : Int), xs, (c : Int)⟩ = cb at K2 K3 KC
     generalize ps[m] = y at d0 d1 d2 KC
     have B3 := zaa (K1.out.alloc hzk (.cells #[.int .i64 y.dir, .string y.name, .int .i64 y.child] 180))
     have B4 := zaa (zab B2.out B3.out B2.out.size)
     have B5 := zaa (zab BW.out B4.out hz)
     obtain ⟨z0, z1, z2⟩ := zay ((B3.out.block _ hzv).trans BX.out)
     by_cases e1 : 0 ≤ y.child
     case neg =>
      have E := zaa (K2.out (by rw [KC.out, decide_eq_false e1]; rfl))
      clear K2 K3 KC
      go_wp2
      go_roundw
      case rel => exact ⟨m + 1, by omega, by go_num, B3.out, E.out⟩
      case measure => simp [intOf]; omega
     cases e2 : (y.dir == (d : Int)) with
     | false =>
      have E := zaa (K2.out (by rw [KC.out, e2, Bool.false_and, Bool.and_false]))
      clear K2 K3 KC
      go_wp2
      go_roundw
      case rel => exact ⟨m + 1, by omega, by go_num, B3.out, E.out⟩
      case measure => simp [intOf]; omega
     | true =>
      cases e3 : (y.name.toList == xs.toList) with
      | false =>
       have E := zaa (K2.out (by rw [KC.out, e3, Bool.and_false, Bool.and_false]))
       clear K2 K3 KC
       go_wp2
       go_roundw
       case rel => exact ⟨m + 1, by omega, by go_num, B3.out, E.out⟩
       case measure => simp [intOf]; omega
      | true =>
       have E := zaa (K3.out (by rw [KC.out, e2, e3, decide_eq_true e1]; rfl))
       clear K2 K3 KC
       go_wp2
       go_ret
       exact ⟨zaf E.out.symm, B5.out⟩
    ·obtain rfl : m = i := by omega
     have E := zaa (YES.out (by rw [EO3.out]; exact all_mk (fun k hk hki => K.out.2 k hk hki)))
     clear K
     go_wp2
     go_roundw
     case rel => exact ⟨m + 1, by omega, by go_num, KB.out, E.out⟩
     case measure => simp [intOf]; omega
  ·have E := zaa (entsB_mk (ws := ws) (fun j h => J.out.2 j h (by omega)))
   clear J
   go_wp2
   go_ret
   exact ⟨zaf E.out.symm, JW.out⟩
end Go.Proofs.YtcilodgoognmnaaGreatDoor

namespace Go.Proofs.YtcilodgoognmnaaGreatDoor
open Go.RowKit
def zed (ws : List Ino) (t : Int) (k j : Nat) : List Int := zav (ztz ws k j) t
theorem usedTo_zero (ws : List Ino) (t : Int) (k : Nat) : zed ws t k 0 = zav (zam (ws.take k)) t := by unfold zed; rw [zwu]
theorem usedTo_full {ws : List Ino} {k : Nat} (t : Int) (hk : k < ws.length) : zed ws t k 8 = zav (zam (ws.take (k + 1))) t := by unfold zed; rw [zwk hk]
theorem usedTo_succ {ws : List Ino} {k : Nat} (t : Int) (hk : k < ws.length) {j : Nat} (hj : j < 8) : zed ws t k (j + 1) = if ¬ ws[k].map.getD j 0 = 0 ∧ ws[k].map.getD j 0 % 4 = t then zed ws t k j ++ [ws[k].map.getD j 0 / 4] else zed ws t k j := by
 unfold zed
 rw [zuv hk hj]
 generalize ws[k].map.getD j 0 = z
 by_cases h0 : z = 0
 ·rw [if_pos h0, if_neg (fun h => h.1 h0)]
 ·rw [if_neg h0]
  unfold zav
  rw [List.filter_append, List.map_append]
  by_cases h1 : z % 4 = t
  ·rw [if_pos ⟨h0, h1⟩]; simp [h1]
  ·rw [if_neg (fun h => h1 h.2)]; simp [h1]
theorem zft (l : List Int) (t : Int) : (zav l t).length ≤ l.length := by
 unfold zav
 rw [List.length_map]
 exact List.length_filter_le _ _
set_option maxRecDepth 100000 in
set_option maxHeartbeats 4000000 in
theorem zpr (v : Value) (ws : List Ino) (ps : List Den) (t : Int) (w : World) (h : RdIm w v ws ps) (hn : ws.length ≤ 4096) (hr : ∀ k (h : k < ws.length), ∀ z ∈ ws[k].map, 0 ≤ z ∧ z ≤ 1048576) :
  Calls Tryz.prog 169 #[v, .int .i64 t] w fun e w' => ∃ v', e = .returned v' ∧ Row w' 3 1 w.heap.size w'.heap.size v' (zav (zam ws) t).length (zec (zav (zam ws) t)) ∧ Below w.heap.size w w' := by
 obtain ⟨vW, vP, rfl, h1, h2⟩ := h
 obtain ⟨aW, cW, rfl, _, hcW⟩ := h1.shape
 have HW := zaa hcW
 have HR := zaa hr
 obtain ⟨aP, cP, rfl, _, _⟩ := h2.shape
 clear h1 h2 hcW hr
 obtain ⟨W, hW⟩ : ∃ W, W = w.alloc (.cells #[.slice aW ws.length cW, .slice aP ps.length cP] 63) := ⟨_, rfl⟩
 have CA : Hid (∀ w', Below W.heap.size W w' → w'.cell? ⟨w.heap.size, 0, none⟩ = some (.slice aW ws.length cW)) := fun w' hb => by
  have : w'.heap[w.heap.size]? = some (.cells #[.slice aW ws.length cW, .slice aP ps.length cP] 63 (0, 0)) := (hb.block _ (by rw [hW]; simp)).trans (by rw [hW]; exact zah rfl)
  exact (zac this).1
 have BW : Hid (Below w.heap.size w W) := by rw [hW]; exact (Below.refl _ _).alloc (Nat.le_refl _) _
 have hz : w.heap.size ≤ W.heap.size := BW.out.size
 have START : Hid (InI W (W.alloc (.cells #[] 3)) (.slice (some ⟨W.heap.size, 0, none⟩) 0 0) (zav (zam (ws.take 0)) t)) := ⟨World.ownsRow_lit W #[] 0 (Nat.le_refl _) (by simp [maxLen]) (by simp), (Below.refl _ _).alloc (Nat.le_refl _) _⟩
 go_enter Tryz.func169, Tryz.ntmps169
 go_wp2
 rw [hW] at START
 simp only [World.size_alloc] at START
 go_loopw [5, 6] (fun vL i wr => ∃ k : Nat, k ≤ ws.length ∧ i = .int .i64 k ∧ Hid (InI W wr vL (zav (zam (ws.take k)) t))) (fun _ i _ => ws.length - (intOf i).toNat)
 case atStart => exact ⟨0, by omega, rfl, by rw [hW]; exact START.out⟩
 case round =>
  obtain ⟨k, hk, rfl, I⟩ := hrel
  clear START hW
  have x0 := CA.out wr I.out.b
  have hzr : W.heap.size ≤ wr.heap.size := I.out.z
  have k0 : (0 : Int) ≤ (k : Int) := by omega
  by_cases hlt : k < ws.length
  ·obtain ⟨b, o, rfl, hbl, hcell⟩ := HW.out (by omega)
   have k1 : (k : Int) < (ws.length : Int) := by omega
   have MZ := zaa (usedTo_zero ws t k)
   have MF := zaa (usedTo_full t hlt)
   have MS := zaa (fun j (hj : j < 8) => usedTo_succ t hlt hj)
   have ML := zaa (fun j (hj : j ≤ 8) => Nat.le_trans (zft (ztz ws k j) t) (mapd_len ws k j hlt hj))
   have ST : Hid (InI W wr u5 (zed ws t k 0)) := by unfold Hid; rw [MZ.out]; exact I.out
   have HM : Hid (∀ w', Below w.heap.size w w' → ∀ j, j < 8 → w'.cell? ⟨b, o + k * 11 + 3 + j, none⟩ = some (.int .i64 (ws[k].map.getD j 0))) := fun w' hb j hj => by
    obtain ⟨a0, a1, a2, a3, a4, a5, a6, a7, a8, a9, a10⟩ := hcell k hlt
    rcases (show j = 0 ∨ j = 1 ∨ j = 2 ∨ j = 3 ∨ j = 4 ∨ j = 5 ∨ j = 6 ∨ j = 7 by omega) with rfl | rfl | rfl | rfl | rfl | rfl | rfl | rfl
    ·exact (hb.cell (p := ⟨b, o + k * 11 + 3, none⟩) hbl).trans a3
    ·exact (hb.cell (p := ⟨b, o + k * 11 + 4, none⟩) hbl).trans a4
    ·exact (hb.cell (p := ⟨b, o + k * 11 + 5, none⟩) hbl).trans a5
    ·exact (hb.cell (p := ⟨b, o + k * 11 + 6, none⟩) hbl).trans a6
    ·exact (hb.cell (p := ⟨b, o + k * 11 + 7, none⟩) hbl).trans a7
    ·exact (hb.cell (p := ⟨b, o + k * 11 + 8, none⟩) hbl).trans a8
    ·exact (hb.cell (p := ⟨b, o + k * 11 + 9, none⟩) hbl).trans a9
    ·exact (hb.cell (p := ⟨b, o + k * 11 + 10, none⟩) hbl).trans a10
   have HZ : Hid (∀ j, j < 8 → 0 ≤ ws[k].map.getD j 0 ∧ ws[k].map.getD j 0 ≤ 1048576) := fun j hj => by
    have e : ws[k].map.getD j 0 = ws[k].map[j]'hj := by rw [List.getD_eq_getElem?_getD, List.getElem?_eq_getElem (show j < ws[k].map.length from hj)]; rfl
    rw [e]
    exact HR.out k hlt _ (List.getElem_mem _)
   clear I hcell
   generalize ws[k] = x at *
   go_wp2
   clear x0
   go_loopw [5, 7] (fun vL i wq => ∃ j : Nat, j ≤ 8 ∧ i = .int .i64 j ∧ Hid (InI W wq vL (zed ws t k j))) (fun _ i _ => 8 - (intOf i).toNat)
   case atStart => exact ⟨0, by omega, rfl, ST⟩
   case round =>
    obtain ⟨j, hj, rfl, J⟩ := hrel
    clear ST
    have y0 := CA.out wr J.out.b
    have JW := zaa (zab BW.out J.out.b hz)
    have hzj : W.heap.size ≤ wr.heap.size := J.out.z
    have j0 : (0 : Int) ≤ (j : Int) := by omega
    by_cases hlj : j < 8
    ·have j1 : (j : Int) < 8 := by omega
     have e0 := HM.out wr JW.out j hlj
     obtain ⟨b0, b1⟩ := HZ.out j hlj
     have MJ := zaa (MS.out j hlj)
     have hlen : (zed ws t k j).length ≤ 8 * ws.length := ML.out j (by omega)
     generalize x.map.getD j 0 = z at e0 b0 b1 MJ
     by_cases q : z = 0
     ·have q' : (z != 0) = false := by rw [q]; rfl
      have G : Hid (InI W wr u5 (zed ws t k (j + 1))) := by unfold Hid; rw [MJ.out, if_neg (fun h => h.1 q)]; exact J.out
      clear q J MJ
      go_wp2
      go_roundw
      case rel => exact ⟨j + 1, by omega, by go_num, G⟩
      case measure => simp [intOf]; omega
     ·have q' : (z != 0) = true := by rw [bne_iff_ne]; exact q
      by_cases r : z % 4 = t
      ·have r' : (z % 4 == t) = true := by rw [beq_iff_eq]; exact r
       have JB : Hid (InI W (wr.alloc (.cells #[.int .i64 (z / 4)] 3)) u5 (zed ws t k j)) := J.out.below ((Below.refl _ _).alloc (Nat.le_refl _) _)
       have RB := zaa (rd_int wr (z / 4))
       have hzb := JB.out.z
       have MN : Hid (zed ws t k (j + 1) = zed ws t k j ++ [z / 4]) := by unfold Hid; rw [MJ.out, if_pos ⟨q, r⟩]
       clear q r J MJ
       go_wp2_with (at_builtin; refine zag _ rfl (.tmp 37) (.tmp 40) 22 rfl W.heap.size 3 (.int .i64 0) 1 8 Tryz.underlying22 info3 rfl (by decide) _ _ _ rfl JB.out.l _ 1 _ rfl RB.out (one_int _) (by simp [maxLen]; omega) (by omega) (by omega) ?_)
       intro vN wN hownN hgrN
       have G := zaa (JB.out.grow (z / 4) hownN hgrN)
       rw [← MN.out] at G
       clear hownN hgrN JB RB
       go_wp2
       go_roundw
       case rel => exact ⟨j + 1, by omega, by go_num, G⟩
       case measure => simp [intOf]; omega
      ·have r' : (z % 4 == t) = false := by rw [beq_eq_false_iff_ne]; exact r
       have G : Hid (InI W wr u5 (zed ws t k (j + 1))) := by unfold Hid; rw [MJ.out, if_neg (fun h => r h.2)]; exact J.out
       clear q r J MJ
       go_wp2
       go_roundw
       case rel => exact ⟨j + 1, by omega, by go_num, G⟩
       case measure => simp [intOf]; omega
    ·obtain rfl : j = 8 := by omega
     have G : Hid (InI W wr u5 (zav (zam (ws.take (k + 1))) t)) := by unfold Hid; rw [← MF.out]; exact J.out
     clear J
     go_wp2
     go_roundw
     case rel => exact ⟨k + 1, by omega, by go_num, G⟩
     case measure => simp [intOf]; omega
  ·obtain rfl : k = ws.length := by omega
   have E := zaa (show zav (zam (ws.take ws.length)) t = zav (zam ws) t by rw [List.take_length])
   rw [E.out] at I
   obtain ⟨-, aL, cL, hvL, -⟩ := (zad I.out.l).rd
   subst hvL
   go_wp2
   go_ret
   exact ⟨_, rfl, (zad I.out.l).wide hz (Nat.le_refl _), zab BW.out I.out.b hz⟩
end Go.Proofs.YtcilodgoognmnaaGreatDoor

namespace Go.Proofs.YtcilodgoognmnaaGreatDoor
open Go.RowKit
def zve (ws : List Ino) : Bool := decide (∀ k (h : k < ws.length), zep ws[k] = true)
theorem okNs_mk {ws : List Ino} (h : ∀ k (h : k < ws.length), zep ws[k] = true) : zve ws = true := decide_eq_true h
theorem okNs_not {ws : List Ino} {k : Nat} (hk : k < ws.length) (h : zep ws[k] = false) : zve ws = false := decide_eq_false (fun x => by have := x k hk; rw [h] at this; cases this)
theorem okDs_mk {ps : List Den} (h : ∀ k (h : k < ps.length), ps[k].okB = true) : okDs ps = true := decide_eq_true h
theorem okDs_not {ps : List Den} {k : Nat} (hk : k < ps.length) (h : ps[k].okB = false) : okDs ps = false := decide_eq_false (fun x => by have := x k hk; rw [h] at this; cases this)
set_option maxRecDepth 100000 in
set_option maxHeartbeats 4000000 in
theorem zqg (v : Value) (ws : List Ino) (w : World) (h : RdN w v ws) (hn : ws.length ≤ 1048576) (hT : TS w) (hE : ED w) (hr : ∀ k (h : k < ws.length), ws[k].R) :
  Calls Tryz.prog 192 #[v, .func (.func 193) #[] #[]] w fun e w' => e = .returned (.bool (zve ws)) ∧ Below w.heap.size w w' := by
 obtain ⟨aW, cW, rfl, _, hcW⟩ := h.shape
 have HW := zaa hcW
 have T := zaa hT
 have E0 := zaa hE
 have HR := zaa hr
 clear h hcW hT hE hr
 go_enter Tryz.func192, Tryz.ntmps192
 go_wp2
 go_loopw [6, 9] (fun _ i wr => ∃ k : Nat, k ≤ ws.length ∧ i = .int .i64 k ∧ Hid (Below w.heap.size w wr ∧ ∀ j (h : j < ws.length), j < k → zep ws[j] = true)) (fun _ i _ => ws.length - (intOf i).toNat)
 case atStart => exact ⟨0, by omega, rfl, Below.refl _ _, fun j h a => absurd a (by omega)⟩
 case round =>
  obtain ⟨k, hk, rfl, H⟩ := hrel
  have H1 := zaa H.out.1
  have hz : w.heap.size ≤ wr.heap.size := H.out.1.size
  by_cases hlt : k < ws.length
  ·obtain ⟨b, o, rfl, hbl, hcell⟩ := HW.out (by omega)
   obtain ⟨a0, a1, a2, a3, a4, a5, a6, a7, a8, a9, a10⟩ := hcell k hlt
   have d0 := (H1.out.cell (p := ⟨b, o + k * 11, none⟩) hbl).trans a0
   have d1 := (H1.out.cell (p := ⟨b, o + k * 11 + 1, none⟩) hbl).trans a1
   have d2 := (H1.out.cell (p := ⟨b, o + k * 11 + 2, none⟩) hbl).trans a2
   have d3 := (H1.out.cell (p := ⟨b, o + k * 11 + 3, none⟩) hbl).trans a3
   have d4 := (H1.out.cell (p := ⟨b, o + k * 11 + 4, none⟩) hbl).trans a4
   have d5 := (H1.out.cell (p := ⟨b, o + k * 11 + 5, none⟩) hbl).trans a5
   have d6 := (H1.out.cell (p := ⟨b, o + k * 11 + 6, none⟩) hbl).trans a6
   have d7 := (H1.out.cell (p := ⟨b, o + k * 11 + 7, none⟩) hbl).trans a7
   have d8 := (H1.out.cell (p := ⟨b, o + k * 11 + 8, none⟩) hbl).trans a8
   have d9 := (H1.out.cell (p := ⟨b, o + k * 11 + 9, none⟩) hbl).trans a9
   have d10 := (H1.out.cell (p := ⟨b, o + k * 11 + 10, none⟩) hbl).trans a10
   have k0 : (0 : Int) ≤ (k : Int) := by omega
   have k1 : (k : Int) < (ws.length : Int) := by omega
   have B2 := zaa (H1.out.alloc hz (.cells ws[k].cs.toArray 97))
   have LI := zaa (fun w1 (h : Below w.heap.size w w1) => zpq ws[k] w1 (T.out.below h) (E0.out.below h) (HR.out k hlt))
   have H2 : Hid (∀ j (h : j < ws.length), j < k → zep ws[j] = true) := H.out.2
   clear a0 a1 a2 a3 a4 a5 a6 a7 a8 a9 a10 hcell H
   cases q : zep ws[k] with
   | true =>
    have H' : Hid (∀ j (h : j < ws.length), j < k + 1 → zep ws[j] = true) := fun j h a => by
     by_cases e : j = k
     ·subst e; exact q
     ·exact H2.out j h (by omega)
    rw [q] at LI
    clear q H2
    generalize ws[k] = x at d0 d1 d2 d3 d4 d5 d6 d7 d8 d9 d10 B2 LI
    go_wp2_with fail
    refine (LI.out _ B2.out).mono ?_
    rintro e w1 ⟨rfl, hb1⟩
    have B3 := zaa (zab B2.out hb1 B2.out.size)
    clear hb1 d0 d1 d2 d3 d4 d5 d6 d7 d8 d9 d10
    go_wp2
    go_roundw
    case rel => exact ⟨k + 1, by omega, by go_num, B3.out, H'.out⟩
    case measure => simp [intOf]; omega
   | false =>
    have E := zaa (okNs_not hlt q)
    rw [q] at LI
    clear q H2
    generalize ws[k] = x at d0 d1 d2 d3 d4 d5 d6 d7 d8 d9 d10 B2 LI
    go_wp2_with fail
    refine (LI.out _ B2.out).mono ?_
    rintro e w1 ⟨rfl, hb1⟩
    have B3 := zaa (zab B2.out hb1 B2.out.size)
    clear hb1 d0 d1 d2 d3 d4 d5 d6 d7 d8 d9 d10
    go_wp2
    go_ret
    exact ⟨zaf E.out.symm, B3.out⟩
  ·have E := zaa (okNs_mk (fun j h => H.out.2 j h (by omega)))
   clear H
   go_wp2
   go_ret
   exact ⟨zaf E.out.symm, H1.out⟩
set_option maxRecDepth 100000 in
set_option maxHeartbeats 4000000 in
theorem zpi (v : Value) (ps : List Den) (w : World) (h : RdD w v ps) (hn : ps.length ≤ 1048576) (hF : FD w) (hs : ∀ k (h : k < ps.length), ps[k].name.size ≤ maxLen) :
  Calls Tryz.prog 194 #[v, .func (.func 195) #[] #[]] w fun e w' => e = .returned (.bool (okDs ps)) ∧ Below w.heap.size w w' := by
 obtain ⟨aP, cP, rfl, _, hcP⟩ := h.shape
 have HP := zaa hcP
 have F := zaa hF
 have HS := zaa hs
 clear h hcP hF hs
 go_enter Tryz.func194, Tryz.ntmps194
 go_wp2
 go_loopw [6, 9] (fun _ i wr => ∃ k : Nat, k ≤ ps.length ∧ i = .int .i64 k ∧ Hid (Below w.heap.size w wr ∧ ∀ j (h : j < ps.length), j < k → ps[j].okB = true)) (fun _ i _ => ps.length - (intOf i).toNat)
 case atStart => exact ⟨0, by omega, rfl, Below.refl _ _, fun j h a => absurd a (by omega)⟩
 case round =>
  obtain ⟨k, hk, rfl, H⟩ := hrel
  have H1 := zaa H.out.1
  have hz : w.heap.size ≤ wr.heap.size := H.out.1.size
  by_cases hlt : k < ps.length
  ·obtain ⟨b, o, rfl, hbl, hcell⟩ := HP.out (by omega)
   obtain ⟨a0, a1, a2⟩ := hcell k hlt
   have d0 := (H1.out.cell (p := ⟨b, o + k * 3, none⟩) hbl).trans a0
   have d1 := (H1.out.cell (p := ⟨b, o + k * 3 + 1, none⟩) hbl).trans a1
   have d2 := (H1.out.cell (p := ⟨b, o + k * 3 + 2, none⟩) hbl).trans a2
   have k0 : (0 : Int) ≤ (k : Int) := by omega
   have k1 : (k : Int) < (ps.length : Int) := by omega
   have B2 := zaa (H1.out.alloc hz (.cells #[.int .i64 ps[k].dir, .string ps[k].name, .int .i64 ps[k].child] 180))
   have LI := zaa (fun w1 (h : Below w.heap.size w w1) => zmj ps[k] w1 (F.out.below h) (HS.out k hlt))
   have H2 : Hid (∀ j (h : j < ps.length), j < k → ps[j].okB = true) := H.out.2
   clear a0 a1 a2 hcell H
   cases q : ps[k].okB with
   | true =>
    have H' : Hid (∀ j (h : j < ps.length), j < k + 1 → ps[j].okB = true) := fun j h a => by
     by_cases e : j = k
     ·subst e; exact q
     ·exact H2.out j h (by omega)
    rw [q] at LI
    clear q H2
    generalize ps[k] = x at d0 d1 d2 B2 LI
    go_wp2_with fail
    refine (LI.out _ B2.out).mono ?_
    rintro e w1 ⟨rfl, hb1⟩
    have B3 := zaa (zab B2.out hb1 B2.out.size)
    clear hb1 d0 d1 d2
    go_wp2
    go_roundw
    case rel => exact ⟨k + 1, by omega, by go_num, B3.out, H'.out⟩
    case measure => simp [intOf]; omega
   | false =>
    have E := zaa (okDs_not hlt q)
    rw [q] at LI
    clear q H2
    generalize ps[k] = x at d0 d1 d2 B2 LI
    go_wp2_with fail
    refine (LI.out _ B2.out).mono ?_
    rintro e w1 ⟨rfl, hb1⟩
    have B3 := zaa (zab B2.out hb1 B2.out.size)
    clear hb1 d0 d1 d2
    go_wp2
    go_ret
    exact ⟨zaf E.out.symm, B3.out⟩
  ·have E := zaa (okDs_mk (fun j h => H.out.2 j h (by omega)))
   clear H
   go_wp2
   go_ret
   exact ⟨zaf E.out.symm, H1.out⟩
def zgz (ws : List Ino) (ps : List Den) : Bool := decide (ws.length = 16) && (decide (ps.length = 24) && (zve ws && okDs ps))
set_option maxRecDepth 100000 in
set_option maxHeartbeats 4000000 in
theorem partsOK_any (v : Value) (ws : List Ino) (ps : List Den) (w : World) (h : RdIm w v ws ps) (hw : ws.length ≤ 1048576) (hp : ps.length ≤ 1048576) (hT : TS w) (hE : ED w) (hF : FD w) (hr : ∀ k (h : k < ws.length), ws[k].R) (hs : ∀ k (h : k < ps.length), ps[k].name.size ≤ maxLen) :
  Calls Tryz.prog 138 #[v] w fun e w' => e = .returned (.bool (zgz ws ps)) ∧ Below w.heap.size w w' := by
 obtain ⟨vW, vP, rfl, h1, h2⟩ := h
 have RW := zaa h1
 have RP := zaa h2
 obtain ⟨aW, cW, rfl, _, _⟩ := h1.shape
 obtain ⟨aP, cP, rfl, _, _⟩ := h2.shape
 have BW := zaa ((Below.refl w.heap.size w).alloc (Nat.le_refl _) (.cells #[.slice aW ws.length cW, .slice aP ps.length cP] 63))
 have CA : Hid (∀ w', Below (w.alloc (.cells #[.slice aW ws.length cW, .slice aP ps.length cP] 63)).heap.size (w.alloc (.cells #[.slice aW ws.length cW, .slice aP ps.length cP] 63)) w' → w'.cell? ⟨w.heap.size, 0, none⟩ = some (.slice aW ws.length cW) ∧ w'.cell? ⟨w.heap.size, 1, none⟩ = some (.slice aP ps.length cP)) := fun w' hb => by
  have : w'.heap[w.heap.size]? = some (.cells #[.slice aW ws.length cW, .slice aP ps.length cP] 63 (0, 0)) := (hb.block _ (by simp)).trans (zah rfl)
  exact ⟨(zac this).1, (zac this).2.1⟩
 have LN := zaa (fun w1 (hb : Below w.heap.size w w1) => zqg (.slice aW ws.length cW) ws w1 (Rd.below RW.out hb) hw (hT.below hb) (hE.below hb) hr)
 have LD := zaa (fun w1 (hb : Below w.heap.size w w1) => zpi (.slice aP ps.length cP) ps w1 (Rd.below RP.out hb) hp (hF.below hb) hs)
 obtain ⟨x0, x1⟩ := CA.out _ (Below.refl _ _)
 clear h1 h2 hT hE hF hr hs
 by_cases c1 : ws.length = 16
 case neg =>
  have E := zaa (show zgz ws ps = false by unfold zgz; rw [decide_eq_false c1]; rfl)
  have q : ((ws.length : Int) == 16) = false := by rw [beq_eq_false_iff_ne]; omega
  clear c1
  go_enter Tryz.func138, Tryz.ntmps138
  go_wp2
  go_ret
  exact ⟨zaf E.out.symm, BW.out⟩
 have q : ((ws.length : Int) == 16) = true := by rw [beq_iff_eq]; omega
 by_cases c2 : ps.length = 24
 case neg =>
  have E := zaa (show zgz ws ps = false by unfold zgz; rw [decide_eq_false c2, Bool.false_and, Bool.and_false])
  have q2 : ((ps.length : Int) == 24) = false := by rw [beq_eq_false_iff_ne]; omega
  clear c1 c2
  go_enter Tryz.func138, Tryz.ntmps138
  go_wp2
  go_ret
  exact ⟨zaf E.out.symm, BW.out⟩
 have q2 : ((ps.length : Int) == 24) = true := by rw [beq_iff_eq]; omega
 have E := zaa (show zgz ws ps = (zve ws && okDs ps) by unfold zgz; rw [decide_eq_true c1, decide_eq_true c2]; rfl)
 clear c1 c2
 cases q3 : zve ws with
 | false =>
  rw [q3] at E LN
  clear q3
  go_enter Tryz.func138, Tryz.ntmps138
  go_wp2_with fail
  refine (LN.out _ BW.out).mono ?_
  rintro e w1 ⟨rfl, hb1⟩
  have B1 := zaa (zab BW.out hb1 BW.out.size)
  clear hb1 x0 x1
  go_wp2
  go_ret
  exact ⟨zaf (by rw [E.out]; rfl), B1.out⟩
 | true =>
  rw [q3] at E LN
  clear q3
  go_enter Tryz.func138, Tryz.ntmps138
  go_wp2_with fail
  refine (LN.out _ BW.out).mono ?_
  rintro e w1 ⟨rfl, hb1⟩
  have B1 := zaa (zab BW.out hb1 BW.out.size)
  clear x0 x1
  obtain ⟨x0, x1⟩ := CA.out _ hb1
  clear hb1
  go_wp2_with fail
  refine (LD.out _ B1.out).mono ?_
  rintro e w2 ⟨rfl, hb2⟩
  have B2 := zaa (zab B1.out hb2 B1.out.size)
  clear hb2 x0 x1
  go_wp2
  go_ret
  exact ⟨zaf (by rw [E.out]; rfl), B2.out⟩
end Go.Proofs.YtcilodgoognmnaaGreatDoor

namespace Go.Proofs.YtcilodgoognmnaaGreatDoor
open Go.RowKit
@[go_sem] theorem eqlNilDen (a : Option Addr) (l c : Nat) (w : World) : (binOp .eql 61 (.slice a l c) (.slice none 0 0)).run Tryz.prog w = .ok (.bool a.isNone) w := by
 simp only [binOp]
 simp [run_equal_slice_nil w 61 180 a l c Tryz.underlying61]
set_option maxRecDepth 100000 in
set_option maxHeartbeats 4000000 in
theorem zvt (v : Value) (ps : List Den) (w : World) (h : RdD w v ps) (hn : ps.length ≤ 4096) :
  Calls Tryz.prog 196 #[v] w fun e w' => ∃ v', e = .returned v' ∧ Row w' 180 3 w.heap.size w'.heap.size v' ps.length (zhc ps) ∧ Below w.heap.size w w' := by
 have HR := zaa h
 obtain ⟨ao, cap, rfl, _, hc⟩ := h.shape
 clear h
 cases ao with
 | none =>
  have hl : ps.length = 0 := by
   rcases Nat.eq_zero_or_pos ps.length with e | e
   ·exact e
   ·obtain ⟨b, o, e1, _⟩ := hc e
    cases e1
  have hps : ps = [] := List.eq_nil_of_length_eq_zero hl
  subst hps
  clear hc hl
  go_enter Tryz.func196, Tryz.ntmps196
  go_wp2
  go_ret
  exact ⟨_, rfl, Row.nil _ _ _ _ _, Below.refl _ _⟩
 | some a =>
  have BB := zaa ((Below.refl w.heap.size w).alloc (Nat.le_refl _) (.cells #[] 180))
  have OB := zaa (World.ownsRow_lit (e := 180) (size := 3) w #[] 0 (Nat.le_refl _) (by simp [maxLen]) (by simp))
  have RB : Hid (Rd (w.alloc (.cells #[] 180)) 3 (.slice (some a) ps.length cap) ps.length (zhc ps)) := Rd.below HR.out BB.out
  have hz : w.heap.size ≤ (w.alloc (.cells #[] 180)).heap.size := BB.out.size
  clear hc
  go_enter Tryz.func196, Tryz.ntmps196
  go_wp2_with (at_builtin; refine zag _ rfl (.tmp 5) (.tmp 6) 61 rfl w.heap.size 180 (.agg #[.int .i64 0, .string ⟨#[]⟩, .int .i64 0]) 3 32 Tryz.underlying61 zot rfl (by decide) _ 0 [] rfl OB.out _ ps.length (zhc ps) rfl RB.out (zhp _) (by simp [maxLen]; omega) (by omega) hz ?_)
  intro vN wN hownN hgrN
  have ON := zaa hownN
  have BN := zaa (BB.out.grown hgrN hz (fun q hq => (OB.out.lt q hq).1))
  clear hownN hgrN
  obtain ⟨-, aL, cL, hvL, -⟩ := (zad ON.out).rd
  subst hvL
  go_wp2
  go_ret
  exact ⟨_, rfl, zad ON.out, BN.out⟩
def zfo (ds : List Den) (k : Nat) : List Den := (ds.take k).map zir ++ ds.drop k
theorem zrp (ds : List Den) (k : Nat) : (zfo ds k).length = ds.length := by
 unfold zfo
 rw [List.length_append, List.length_map, List.length_take, List.length_drop]
 omega
theorem anonTo_zero (ds : List Den) : zfo ds 0 = ds := by simp [zfo]
theorem anonTo_all (ds : List Den) : zfo ds ds.length = ds.map zir := by simp [zfo]
theorem anonTo_succ {ds : List Den} {k : Nat} (h : k < ds.length) : (zhc (zfo ds k)).set (k * 3 + 2) (.int .i64 (-1)) = zhc (zfo ds (k + 1)) := by
 have e1 : ds.drop k = ds[k] :: ds.drop (k + 1) := List.drop_eq_getElem_cons h
 have l1 : (zhc ((ds.take k).map zir)).length = k * 3 := by rw [dens_len, List.length_map, List.length_take]; congr 1; omega
 unfold zfo
 rw [e1, List.take_succ_eq_append_getElem h, List.map_append, zkk, zkk, zkk, List.set_append_right _ _ (by omega), l1, List.append_assoc]
 congr 1
 rw [show k * 3 + 2 - k * 3 = 2 by omega]
 rfl
theorem dens_at2' (ps : List Den) (k : Nat) (h : k < ps.length) : (zhc ps)[k * 3 + 2]? = some (.int .i64 ps[k].child) := zbr _ 3 Den.cells_len ps k 2 h (by omega)
set_option maxRecDepth 100000 in
set_option maxHeartbeats 4000000 in
theorem zts (v : Value) (ds : List Den) (w : World) (h : RdD w v ds) (hn : ds.length ≤ 4096) :
  Calls Tryz.prog 141 #[v] w fun e w' => e = .returned (.bool (zoi (ds.map zir))) ∧ Below w.heap.size w w' := by
 have HR := zaa h
 obtain ⟨ao, cap, rfl, _, _⟩ := h.shape
 clear h
 go_enter Tryz.func141, Tryz.ntmps141
 go_wp2_with fail
 refine (zvt _ ds _ HR.out hn).mono ?_
 rintro e w1 ⟨vN, rfl, hr1, hb1⟩
 obtain ⟨-, aN, cN, hvN, -⟩ := hr1.rd
 subst hvN
 have R1 := zaa hr1
 have B1 := zaa hb1
 have hz1 : w.heap.size ≤ w1.heap.size := hb1.size
 clear hr1 hb1
 go_wp2
 go_loopw [4, 9] (fun _ i wr => ∃ k : Nat, k ≤ ds.length ∧ i = .int .i64 k ∧ Hid (Row wr 180 3 w.heap.size w1.heap.size (.slice aN ds.length cN) ds.length (zhc (zfo ds k)) ∧ Below w.heap.size w wr)) (fun _ i _ => ds.length - (intOf i).toNat)
 case atStart => exact ⟨0, by omega, rfl, by rw [anonTo_zero]; exact R1.out, B1.out⟩
 case round =>
  obtain ⟨k, hk, rfl, H⟩ := hrel
  by_cases hlt : k < ds.length
  ·rcases Row.shape H.out.1 with ⟨_, e, _⟩ | ⟨b, cap', e, _, _⟩
   ·exact absurd e (by omega)
   obtain ⟨rfl, rfl⟩ : aN = some ⟨b, 0, none⟩ ∧ cN = cap' := by cases e; exact ⟨rfl, rfl⟩
   obtain ⟨_, l1, l2, l3, fr, ce⟩ := Row.at H.out.1
   have f0 := fr (k * 3 + 2)
   have c0 := (ce (k * 3 + 2) (by omega)).trans (dens_at2' (zfo ds k) k (by rw [zrp]; exact hlt))
   have k0 : (0 : Int) ≤ (k : Int) := by omega
   have k1 : (k : Int) < (ds.length : Int) := by omega
   have G : Hid (Row (wr.setCell ⟨b, k * 3 + 2, none⟩ (.int .i64 (-1))) 180 3 w.heap.size w1.heap.size (.slice (some ⟨b, 0, none⟩) ds.length cN) ds.length (zhc (zfo ds (k + 1))) ∧ Below w.heap.size w (wr.setCell ⟨b, k * 3 + 2, none⟩ (.int .i64 (-1)))) := by
    refine ⟨?_, H.out.2.setCell l1 _⟩
    rw [← anonTo_succ hlt]
    exact Row.stored H.out.1 _ _
   clear H fr ce R1 e
   generalize ((zfo ds k)[k]'(by rw [zrp]; exact hlt)).child = z at c0
   go_wp2
   go_roundw
   case rel => exact ⟨k + 1, by omega, by go_num, G⟩
   case measure => simp [intOf]; omega
  ·obtain rfl : k = ds.length := by omega
   have LA := zaa (anonTo_all ds)
   rw [LA.out] at H
   have R2 : Hid (RdD wr (.slice aN ds.length cN) (ds.map zir)) := by
    unfold Hid RdD
    rw [List.length_map]
    exact H.out.1.rd
   have B2 := zaa H.out.2
   have hl : (ds.map zir).length ≤ 1048576 := by rw [List.length_map]; omega
   have HL := zaa hl
   clear H hl
   go_wp2_with fail
   refine (zmy _ (ds.map zir) _ R2.out HL.out).mono ?_
   rintro e w2 ⟨rfl, hb2⟩
   have B3 := zaa (zab B2.out hb2 B2.out.size)
   clear hb2
   go_wp2
   go_ret
   exact ⟨rfl, B3.out⟩
theorem fitsB_mk {ws : List Ino} {ts : List Den} (h : ∀ k (h : k < ts.length), fitB ws ts[k] = true) : zqm ws ts = true := decide_eq_true h
theorem fitsB_not {ws : List Ino} {ts : List Den} {k : Nat} (hk : k < ts.length) (h : fitB ws ts[k] = false) : zqm ws ts = false := decide_eq_false (fun x => by have := x k hk; rw [h] at this; cases this)
set_option maxRecDepth 100000 in
set_option maxHeartbeats 4000000 in
theorem zuq (vW v : Value) (ws : List Ino) (ts : List Den) (w : World) (hw : RdN w vW ws) (h : RdD w v ts) (hl : ws.length = 16) (hn : ts.length ≤ 4096) (hT : ∀ k (h : k < ts.length), (0 ≤ ts[k].child ∧ ts[k].child ≤ 15) ∧ (0 ≤ ts[k].dir ∧ ts[k].dir ≤ 15)) :
  Calls Tryz.prog 140 #[vW, v] w fun e w' => e = .returned (.bool (zqm ws ts)) ∧ Below w.heap.size w w' := by
 obtain ⟨aW, cW, rfl, _, hcW⟩ := hw.shape
 obtain ⟨aP, cP, rfl, _, hcP⟩ := h.shape
 have HW := zaa hcW
 have HP := zaa hcP
 have HT := zaa hT
 have HL := zaa hl
 have hl' : (16 : Int) ≤ (ws.length : Int) := by omega
 clear h hw hcW hcP hT hl
 go_enter Tryz.func140, Tryz.ntmps140
 go_wp2
 go_loopw [6, 9] (fun _ i wr => ∃ k : Nat, k ≤ ts.length ∧ i = .int .i64 k ∧ Hid (Below w.heap.size w wr ∧ ∀ j (h : j < ts.length), j < k → fitB ws ts[j] = true)) (fun _ i _ => ts.length - (intOf i).toNat)
 case atStart => exact ⟨0, by omega, rfl, Below.refl _ _, fun j h a => absurd a (by omega)⟩
 case round =>
  obtain ⟨k, hk, rfl, H⟩ := hrel
  have H1 := zaa H.out.1
  have hz : w.heap.size ≤ wr.heap.size := H.out.1.size
  by_cases hlt : k < ts.length
  ·obtain ⟨b, o, rfl, hbl, hcell⟩ := HP.out (by omega)
   obtain ⟨bW, oW, rfl, hblW, hcellW⟩ := HW.out (by have := HL.out; omega)
   obtain ⟨a0, a1, a2⟩ := hcell k hlt
   have d0 := (H1.out.cell (p := ⟨b, o + k * 3, none⟩) hbl).trans a0
   have d1 := (H1.out.cell (p := ⟨b, o + k * 3 + 1, none⟩) hbl).trans a1
   have d2 := (H1.out.cell (p := ⟨b, o + k * 3 + 2, none⟩) hbl).trans a2
   have k0 : (0 : Int) ≤ (k : Int) := by omega
   have k1 : (k : Int) < (ts.length : Int) := by omega
   obtain ⟨⟨c1, c2⟩, c3, c4⟩ := HT.out k hlt
   have H2 : Hid (fitB ws ts[k] = true → ∀ j (h : j < ts.length), j < k + 1 → fitB ws ts[j] = true) := fun q j h a => by
    by_cases e : j = k
    ·subst e; exact q
    ·exact H.out.2 j h (by omega)
   have H3 := zaa (fun q => fitsB_not (ws := ws) hlt q)
   clear a0 a1 a2 hcell H
   generalize ts[k] = x at *
   obtain ⟨xd, xs, xc⟩ := x
   simp only at d0 d1 d2 c1 c2 c3 c4
   obtain ⟨d, rfl⟩ : ∃ d : Nat, xd = (d : Int) := ⟨xd.toNat, by omega⟩
   obtain ⟨c, rfl⟩ : ∃ c : Nat, xc = (c : Int) := ⟨xc.toNat, by omega⟩
   have hd : d < ws.length := by omega
   have hc : c < ws.length := by omega
   have B2 := zaa (H1.out.alloc hz (.cells #[.int .i64 (d : Int), .string xs, .int .i64 (c : Int)] 180))
   have g0 := (B2.out.cell (p := ⟨bW, oW + d * 11, none⟩) hblW).trans (hcellW d hd).1
   have g1 := (B2.out.cell (p := ⟨bW, oW + c * 11, none⟩) hblW).trans (hcellW c hc).1
   have FB := zaa (show fitB ws ⟨(d : Int), xs, (c : Int)⟩ = (ws[d].kind == 2 && !(ws[c].kind == 0)) by unfold fitB; rw [zaz hd, zaz hc])
   have d5 : (d : Int) < (ws.length : Int) := by omega
   have c5 : (c : Int) < (ws.length : Int) := by omega
   clear hcellW
   generalize ws[d].kind = kd at g0 FB
   generalize ws[c].kind = kc at g1 FB
   by_cases q : kd = 2
   ·have q1 : (kd != 2) = false := by rw [q]; rfl
    by_cases r : kc = 0
    ·have r1 : (kc == 0) = true := by rw [r]; rfl
     have E := zaa (H3.out (by rw [FB.out, r1]; simp))
     clear q r H2 H3 FB
     go_wp2
     go_ret
     exact ⟨zaf E.out.symm, B2.out⟩
    ·have r1 : (kc == 0) = false := by rw [beq_eq_false_iff_ne]; exact r
     have E := zaa (H2.out (by rw [FB.out, r1, q]; rfl))
     clear q r H2 H3 FB
     go_wp2
     go_roundw
     case rel => exact ⟨k + 1, by omega, by go_num, B2.out, E.out⟩
     case measure => simp [intOf]; omega
   ·have q1 : (kd != 2) = true := by rw [bne_iff_ne]; exact q
    have E := zaa (H3.out (by rw [FB.out, show (kd == 2) = false by rw [beq_eq_false_iff_ne]; exact q]; rfl))
    clear q H2 H3 FB
    go_wp2
    go_ret
    exact ⟨zaf E.out.symm, B2.out⟩
  ·have E := zaa (fitsB_mk (ws := ws) (fun j h => H.out.2 j h (by omega)))
   clear H
   go_wp2
   go_ret
   exact ⟨zaf E.out.symm, H1.out⟩
end Go.Proofs.YtcilodgoognmnaaGreatDoor
