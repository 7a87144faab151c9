/- File systems: counted, copied, held against one another, marked. -/
import Derived.Test.YtmeiionabonhnaaGreatDoorZAK
namespace Go.Proofs.YtmeiionabonhnaaGreatDoor
open Go.RowKit
theorem tenD {w : World} {b : Nat} {t : TypeId} {x0 x1 x2 x3 x4 x5 x6 x7 x8 x9 : Value} (h : w.heap[b]? = some (.cells #[x0, x1, x2, x3, x4, x5, x6, x7, x8, x9] t (0, 0))) : w.cell? ⟨b, 0, none⟩ = some x0 ∧ w.cell? ⟨b, 1, none⟩ = some x1 ∧ w.cell? ⟨b, 2, none⟩ = some x2 ∧ w.cell? ⟨b, 3, none⟩ = some x3 := by obtain ⟨a, b, c, d, -⟩ := ten_cells h; exact ⟨a, b, c, d⟩
theorem tenH {w : World} {b : Nat} {t : TypeId} {x0 x1 x2 x3 x4 x5 x6 x7 x8 x9 : Value} (h : w.heap[b]? = some (.cells #[x0, x1, x2, x3, x4, x5, x6, x7, x8, x9] t (0, 0))) : w.cell? ⟨b, 4, none⟩ = some x4 := (ten_cells h).2.2.2.2.1
theorem tenT {w : World} {b : Nat} {t : TypeId} {x0 x1 x2 x3 x4 x5 x6 x7 x8 x9 : Value} (h : w.heap[b]? = some (.cells #[x0, x1, x2, x3, x4, x5, x6, x7, x8, x9] t (0, 0))) : w.cell? ⟨b, 5, none⟩ = some x5 := (ten_cells h).2.2.2.2.2.1
theorem tenA {w : World} {b : Nat} {t : TypeId} {x0 x1 x2 x3 x4 x5 x6 x7 x8 x9 : Value} (h : w.heap[b]? = some (.cells #[x0, x1, x2, x3, x4, x5, x6, x7, x8, x9] t (0, 0))) : w.cell? ⟨b, 6, none⟩ = some x6 ∧ w.cell? ⟨b, 7, none⟩ = some x7 ∧ w.cell? ⟨b, 8, none⟩ = some x8 := by obtain ⟨-, -, -, -, -, -, a, b, c, -⟩ := ten_cells h; exact ⟨a, b, c⟩
theorem tenB {w : World} {b : Nat} {t : TypeId} {x0 x1 x2 x3 x4 x5 x6 x7 x8 x9 : Value} (h : w.heap[b]? = some (.cells #[x0, x1, x2, x3, x4, x5, x6, x7, x8, x9] t (0, 0))) : w.cell? ⟨b, 9, none⟩ = some x9 := (ten_cells h).2.2.2.2.2.2.2.2.2.1
theorem box_below {c w' : World} {b : Nat} {o : Obj} {B : Nat} (h : c.heap[b]? = some o) (hb : Below B c w') (hB : b < B) : w'.heap[b]? = some o := (hb.block b hB).trans h
theorem lt_box {c : World} {b : Nat} {o : Obj} (h : c.heap[b]? = some o) : b < c.heap.size := (Array.getElem?_eq_some_iff.1 h).1
set_option maxRecDepth 100000 in
set_option maxHeartbeats 8000000 in
theorem szFs_any (aW aP aS aQ aH aT aN : Option Addr) (cW cP cS cQ cH cT cN : Nat) (ws : List Int) (ps : List St) (es : List Int) (qs : List Se) (hs : List Int) (td : List Mi) (cd vl : Int) (nm : List ByteArray) (fr : Bool) (w : World) (hws : ws.length ≤ maxLen) (hps : ps.length ≤ maxLen) (hes : es.length ≤ maxLen) (hqs : qs.length ≤ maxLen) (hhs : hs.length ≤ maxLen) (htd : td.length ≤ maxLen) (hnm : nm.length ≤ maxLen) (hN : RdT w (.slice aN nm.length cN) nm) (hz : ∀ k (hk : k < nm.length), nm[k].size ≤ maxLen) :
    Calls Tryz.prog 44 #[.agg #[.slice aW ws.length cW, .slice aP ps.length cP, .slice aS es.length cS, .slice aQ qs.length cQ, .slice aH hs.length cH, .slice aT td.length cT, .int .i64 cd, .int .i64 vl, .slice aN nm.length cN, .bool fr], .int .i64 1048576] w fun e w' => ∃ r : Int, e = .returned (.int .i64 r) ∧ (0 ≤ r → (ws.length ≤ 1048576 ∧ ps.length ≤ 1048576 ∧ es.length ≤ 1048576 ∧ qs.length ≤ 1048576 ∧ hs.length ≤ 1048576 ∧ td.length ≤ 1048576 ∧ nm.length ≤ 1048576) ∧ r ≤ 1048576) ∧ -1 ≤ r ∧ Below w.heap.size w w' := by
  obtain ⟨V, hV⟩ : ∃ V, V = w.alloc (.cells #[.slice aW ws.length cW, .slice aP ps.length cP, .slice aS es.length cS, .slice aQ qs.length cQ, .slice aH hs.length cH, .slice aT td.length cT, .int .i64 cd, .int .i64 vl, .slice aN nm.length cN, .bool fr] 56) := ⟨_, rfl⟩
  have BV : Hid (Below w.heap.size w V) := by rw [hV]; exact (Below.refl _ _).alloc (Nat.le_refl _) _
  have XV : Hid (V.heap[w.heap.size]? = some (.cells #[.slice aW ws.length cW, .slice aP ps.length cP, .slice aS es.length cS, .slice aQ qs.length cQ, .slice aH hs.length cH, .slice aT td.length cT, .int .i64 cd, .int .i64 vl, .slice aN nm.length cN, .bool fr] 56 (0, 0))) := by rw [hV]; exact at_new rfl
  have LD : Hid (Calls Tryz.prog 85 #[.agg #[.slice aW ws.length cW, .slice aP ps.length cP, .slice aS es.length cS, .slice aQ qs.length cQ], .int .i64 1048576] V fun e w' => ∃ r : Int, e = .returned (.int .i64 r) ∧ (0 ≤ r → (ws.length ≤ 1048576 ∧ ps.length ≤ 1048576 ∧ es.length ≤ 1048576 ∧ qs.length ≤ 1048576) ∧ r ≤ 1048576) ∧ -1 ≤ r ∧ Below V.heap.size V w') := by
    refine (szDevices_any aW aP aS aQ ws.length ps.length es.length qs.length cW cP cS cQ V hws hps hes hqs).mono ?_
    rintro e w1 ⟨rfl, hb⟩
    refine ⟨_, rfl, ?_, ?_, hb⟩
    · intro h
      split at h
      · exact absurd h (by decide)
      · rename_i c
        rw [if_neg c]
        omega
    · split <;> omega
  have LH : Hid (∀ (r : Int) w1, 0 ≤ r → r ≤ 1048576 → Calls Tryz.prog 86 #[.slice aH hs.length cH, .int .i64 r] w1 fun e w' => ∃ q : Int, e = .returned (.int .i64 q) ∧ (0 ≤ q → hs.length ≤ 1048576 ∧ q ≤ 1048576) ∧ -1 ≤ q ∧ w' = w1) := by
    intro r w1 h0 h1
    refine (szIntS_any aH hs.length cH r w1 hhs h0 h1).mono ?_
    rintro e w1 ⟨rfl, rfl⟩
    refine ⟨_, rfl, ?_, ?_, rfl⟩ <;> unfold less
    · intro h
      split at h
      · exact absurd h (by decide)
      · rename_i c
        rw [if_neg c]
        omega
    · split <;> omega
  have LT : Hid (∀ (r : Int) w1, 0 ≤ r → r ≤ 1048576 → Calls Tryz.prog 87 #[.slice aT td.length cT, .int .i64 r] w1 fun e w' => ∃ q : Int, e = .returned (.int .i64 q) ∧ (0 ≤ q → td.length ≤ 1048576 ∧ q ≤ 1048576) ∧ -1 ≤ q ∧ w' = w1) := by
    intro r w1 h0 h1
    refine (szMicroS_any aT td.length cT r w1 htd h0 h1).mono ?_
    rintro e w1 ⟨rfl, rfl⟩
    refine ⟨_, rfl, ?_, ?_, rfl⟩ <;> unfold less
    · intro h
      split at h
      · exact absurd h (by decide)
      · rename_i c
        rw [if_neg c]
        omega
    · split <;> omega
  have LN : Hid (∀ (r : Int) w1, 0 ≤ r → r ≤ 1048576 → Below w.heap.size w w1 → Calls Tryz.prog 88 #[.agg #[.int .i64 cd, .int .i64 vl, .slice aN nm.length cN], .int .i64 r] w1 fun e w' => ∃ q : Int, e = .returned (.int .i64 q) ∧ (0 ≤ q → nm.length ≤ 1048576 ∧ q ≤ 1048576) ∧ -1 ≤ q ∧ Below w1.heap.size w1 w') :=
    fun r w1 h0 h1 hb => szAnswer_any cd vl aN nm cN r w1 (Rd.below hN hb) hnm hz h0 h1
  clear hws hps hes hqs hhs htd hnm hN hz
  have ltV : w.heap.size < V.heap.size := lt_box XV.out
  go_enter Tryz.func44, Tryz.ntmps44
  go_upto_region 1 with fail
  rw [← hV]
  clear hV
  obtain ⟨x0, x1, x2, x3⟩ := tenD XV.out
  go_wp2_with fail
  refine LD.out.mono ?_
  rintro e w1 ⟨r1, rfl, s1, m1, hb1⟩
  clear x0 x1 x2 x3 LD
  have B1 := hideIt (below_trans BV.out hb1 BV.out.size)
  have X1 := hideIt (box_below XV.out hb1 ltV)
  clear BV XV hb1
  by_cases c1 : r1 < 0
  · clear X1 LH LT LN s1
    go_wp2
    go_ret
    exact ⟨-1, rfl, fun h => absurd h (by decide), by decide, B1.out⟩
  obtain ⟨g1, q1⟩ := s1 (by omega)
  have x4 := tenH X1.out
  go_wp2_with fail
  refine (LH.out r1 w1 (by omega) q1).mono ?_
  rintro e w2 ⟨r2, rfl, s2, m2, hw2⟩
  subst w2
  clear x4 LH
  by_cases c2 : r2 < 0
  · clear X1 LT LN s1 s2
    go_wp2
    go_ret
    exact ⟨-1, rfl, fun h => absurd h (by decide), by decide, B1.out⟩
  obtain ⟨g2, q2⟩ := s2 (by omega)
  have x5 := tenT X1.out
  go_wp2_with fail
  refine (LT.out r2 w1 (by omega) q2).mono ?_
  rintro e w2 ⟨r3, rfl, s3, m3, hw2⟩
  subst w2
  clear x5 LT
  by_cases c3 : r3 < 0
  · clear X1 LN s1 s2 s3
    go_wp2
    go_ret
    exact ⟨-1, rfl, fun h => absurd h (by decide), by decide, B1.out⟩
  obtain ⟨g3, q3⟩ := s3 (by omega)
  obtain ⟨x6, x7, x8⟩ := tenA X1.out
  go_wp2_with fail
  refine (LN.out r3 w1 (by omega) q3 B1.out).mono ?_
  rintro e w2 ⟨r4, rfl, s4, m4, hb2⟩
  have B2 := hideIt (below_trans B1.out hb2 B1.out.size)
  clear x6 x7 x8 LN X1 hb2 B1
  by_cases c4 : r4 < 0
  · clear s1 s2 s3 s4
    go_wp2
    go_ret
    exact ⟨-1, rfl, fun h => absurd h (by decide), by decide, B2.out⟩
  obtain ⟨g4, q4⟩ := s4 (by omega)
  clear s1 s2 s3 s4
  go_wp2
  go_ret
  exact ⟨r4, rfl, fun _ => ⟨by omega, q4⟩, m4, B2.out⟩
set_option maxRecDepth 100000 in
set_option maxHeartbeats 8000000 in
theorem eqFs_same (va vb : Value) (ws : List Int) (ps : List St) (es : List Int) (qs : List Se) (hs : List Int) (td : List Mi) (cd vl : Int) (nm : List ByteArray) (fr : Bool) (w : World) (ha : RdF w va ws ps es qs hs td cd vl nm fr) (hb : RdF w vb ws ps es qs hs td cd vl nm fr) (hws : ws.length ≤ 2147483648) (hps : ps.length ≤ 2147483648) (hes : es.length ≤ 2147483648) (hqs : qs.length ≤ 2147483648) (hhs : hs.length ≤ 2147483648) (htd : td.length ≤ 2147483648) (hnm : nm.length ≤ 2147483648) :
    Calls Tryz.prog 55 #[va, vb] w fun e w' => e = .returned (.bool true) ∧ Below w.heap.size w w' := by
  obtain ⟨aW, cW, aP, cP, aS, cS, aQ, cQ, aH, cH, aT, cT, aN, cN, rfl, d1, h1, t1, n1⟩ := ha
  obtain ⟨bW, dW, bP, dP, bS, dS, bQ, dQ, bH, dH, bT, dT, bN, dN, rfl, d2, h2, t2, n2⟩ := hb
  have LD := hideIt (fun w1 (h : Below w.heap.size w w1) => eqDevices_same _ _ ws ps es qs w1 (d1.below h) (d2.below h) hws hps hes hqs)
  have LH := hideIt (fun w1 (h : Below w.heap.size w w1) => eqIntS_same _ _ hs w1 (Rd.below h1 h) (Rd.below h2 h) hhs)
  have LT := hideIt (fun w1 (h : Below w.heap.size w w1) => eqMicroS_same _ _ td w1 (Rd.below t1 h) (Rd.below t2 h) htd)
  have LN := hideIt (fun w1 (h : Below w.heap.size w w1) => eqAnswer_same cd vl _ _ nm w1 (Rd.below n1 h) (Rd.below n2 h) hnm)
  clear d1 d2 h1 h2 t1 t2 n1 n2 hws hps hes hqs hhs htd hnm
  obtain ⟨V, hV⟩ : ∃ V, V = (w.alloc (.cells #[.slice aW ws.length cW, .slice aP ps.length cP, .slice aS es.length cS, .slice aQ qs.length cQ, .slice aH hs.length cH, .slice aT td.length cT, .int .i64 cd, .int .i64 vl, .slice aN nm.length cN, .bool fr] 75)).alloc (.cells #[.slice bW ws.length dW, .slice bP ps.length dP, .slice bS es.length dS, .slice bQ qs.length dQ, .slice bH hs.length dH, .slice bT td.length dT, .int .i64 cd, .int .i64 vl, .slice bN nm.length dN, .bool fr] 75) := ⟨_, rfl⟩
  have BV : Hid (Below w.heap.size w V) := by rw [hV]; exact ((Below.refl _ _).alloc (Nat.le_refl _) _).alloc (by simp) _
  have XV : Hid (V.heap[w.heap.size]? = some (.cells #[.slice aW ws.length cW, .slice aP ps.length cP, .slice aS es.length cS, .slice aQ qs.length cQ, .slice aH hs.length cH, .slice aT td.length cT, .int .i64 cd, .int .i64 vl, .slice aN nm.length cN, .bool fr] 75 (0, 0))) := by rw [hV]; exact at_old (at_new rfl)
  have YV : Hid (V.heap[w.heap.size + 1]? = some (.cells #[.slice bW ws.length dW, .slice bP ps.length dP, .slice bS es.length dS, .slice bQ qs.length dQ, .slice bH hs.length dH, .slice bT td.length dT, .int .i64 cd, .int .i64 vl, .slice bN nm.length dN, .bool fr] 75 (0, 0))) := by rw [hV]; exact at_new (by simp)
  have zV : w.heap.size + 1 < V.heap.size := lt_box YV.out
  go_enter Tryz.func55, Tryz.ntmps55
  go_upto_region 1 with fail
  rw [← hV]
  clear hV
  obtain ⟨-, x0, x1, x2, x3⟩ := And.intro trivial (tenD XV.out)
  obtain ⟨-, y0, y1, y2, y3⟩ := And.intro trivial (tenD YV.out)
  go_wp2_with fail
  refine (LD.out V BV.out).mono ?_
  rintro e w1 ⟨rfl, hbw1⟩
  clear x0 x1 x2 x3 y0 y1 y2 y3 LD
  have zw1 : w.heap.size + 1 < w1.heap.size := Nat.lt_of_lt_of_le zV hbw1.size
  have Bw1 := hideIt (below_trans BV.out hbw1 BV.out.size)
  have Xw1 := hideIt (box_below XV.out hbw1 (by omega))
  have Yw1 := hideIt (box_below YV.out hbw1 (by omega))
  clear BV XV YV hbw1
  obtain ⟨-, x0⟩ := And.intro trivial (tenH Xw1.out)
  obtain ⟨-, y0⟩ := And.intro trivial (tenH Yw1.out)
  go_wp2_with fail
  refine (LH.out w1 Bw1.out).mono ?_
  rintro e w2 ⟨rfl, hbw2⟩
  clear x0 y0 LH
  have zw2 : w.heap.size + 1 < w2.heap.size := Nat.lt_of_lt_of_le zw1 hbw2.size
  have Bw2 := hideIt (below_trans Bw1.out hbw2 Bw1.out.size)
  have Xw2 := hideIt (box_below Xw1.out hbw2 (by omega))
  have Yw2 := hideIt (box_below Yw1.out hbw2 (by omega))
  clear Bw1 Xw1 Yw1 hbw2
  obtain ⟨-, x0⟩ := And.intro trivial (tenT Xw2.out)
  obtain ⟨-, y0⟩ := And.intro trivial (tenT Yw2.out)
  go_wp2_with fail
  refine (LT.out w2 Bw2.out).mono ?_
  rintro e w3 ⟨rfl, hbw3⟩
  clear x0 y0 LT
  have zw3 : w.heap.size + 1 < w3.heap.size := Nat.lt_of_lt_of_le zw2 hbw3.size
  have Bw3 := hideIt (below_trans Bw2.out hbw3 Bw2.out.size)
  have Xw3 := hideIt (box_below Xw2.out hbw3 (by omega))
  have Yw3 := hideIt (box_below Yw2.out hbw3 (by omega))
  clear Bw2 Xw2 Yw2 hbw3
  obtain ⟨-, x0, x1, x2⟩ := And.intro trivial (tenA Xw3.out)
  obtain ⟨-, y0, y1, y2⟩ := And.intro trivial (tenA Yw3.out)
  go_wp2_with fail
  refine (LN.out w3 Bw3.out).mono ?_
  rintro e w4 ⟨rfl, hbw4⟩
  clear x0 x1 x2 y0 y1 y2 LN
  have zw4 : w.heap.size + 1 < w4.heap.size := Nat.lt_of_lt_of_le zw3 hbw4.size
  have Bw4 := hideIt (below_trans Bw3.out hbw4 Bw3.out.size)
  have Xw4 := hideIt (box_below Xw3.out hbw4 (by omega))
  have Yw4 := hideIt (box_below Yw3.out hbw4 (by omega))
  clear Bw3 Xw3 Yw3 hbw4
  have x9 := tenB Xw4.out
  have y9 := tenB Yw4.out
  go_wp2
  go_ret
  exact ⟨rfl, Bw4.out⟩
set_option maxRecDepth 100000 in
set_option maxHeartbeats 8000000 in
theorem toFs_any (v : Value) (ws : List Int) (ps : List St) (es : List Int) (qs : List Se) (hs : List Int) (td : List Mi) (cd vl : Int) (nm : List ByteArray) (fr : Bool) (w : World) (h : RdF w v ws ps es qs hs td cd vl nm fr) (hws : ws.length ≤ 1048576) (hps : ps.length ≤ 1048576) (hes : es.length ≤ 1048576) (hqs : qs.length ≤ 1048576) (hhs : hs.length ≤ 1048576) (htd : td.length ≤ 1048576) (hnm : nm.length ≤ 1048576) :
    Calls Tryz.prog 50 #[v] w fun e w' => ∃ v', e = .returned v' ∧ RowF w' w.heap.size w'.heap.size v' ws ps es qs hs td cd vl nm fr ∧ Below w.heap.size w w' := by
  obtain ⟨aW, cW, aP, cP, aS, cS, aQ, cQ, aH, cH, aT, cT, aN, cN, rfl, d1, h1, t1, n1⟩ := h
  have LD := hideIt (fun w1 (h : Below w.heap.size w w1) => toDevices_any _ ws ps es qs w1 (d1.below h) hws hps hes hqs)
  have LH := hideIt (fun w1 (h : Below w.heap.size w w1) => toIntS_any _ hs w1 (Rd.below h1 h) hhs)
  have LT := hideIt (fun w1 (h : Below w.heap.size w w1) => toMicroS_any _ td w1 (Rd.below t1 h) htd)
  have LN := hideIt (fun w1 (h : Below w.heap.size w w1) => toAnswer_any cd vl _ nm _ w1 (Rd.below n1 h) hnm)
  clear d1 h1 t1 n1 hws hps hes hqs hhs htd hnm
  obtain ⟨V, hV⟩ : ∃ V, V = ((w.alloc (.cells #[.slice aW ws.length cW, .slice aP ps.length cP, .slice aS es.length cS, .slice aQ qs.length cQ, .slice aH hs.length cH, .slice aT td.length cT, .int .i64 cd, .int .i64 vl, .slice aN nm.length cN, .bool fr] 56)).alloc (.cells #[.slice none 0 0, .slice none 0 0, .slice none 0 0, .slice none 0 0, .slice none 0 0, .slice none 0 0, .int .i64 0, .int .i64 0, .slice none 0 0, .bool false] 75)).alloc (.cells #[.slice none 0 0, .slice none 0 0, .slice none 0 0, .slice none 0 0, .slice none 0 0, .slice none 0 0, .int .i64 0, .int .i64 0, .slice none 0 0, .bool false] 75) := ⟨_, rfl⟩
  have zV : V.heap.size = w.heap.size + 1 + 1 + 1 := by rw [hV]; simp
  have BV : Hid (Below w.heap.size w V) := by rw [hV]; exact (((Below.refl _ _).alloc (Nat.le_refl _) _).alloc (by simp) _).alloc (by simp <;> omega) _
  have XV : Hid (V.heap[w.heap.size]? = some (.cells #[.slice aW ws.length cW, .slice aP ps.length cP, .slice aS es.length cS, .slice aQ qs.length cQ, .slice aH hs.length cH, .slice aT td.length cT, .int .i64 cd, .int .i64 vl, .slice aN nm.length cN, .bool fr] 56 (0, 0))) := by rw [hV]; exact at_old (at_old (at_new rfl))
  have YV : Hid (V.heap[w.heap.size + 1]? = some (.cells #[.slice none 0 0, .slice none 0 0, .slice none 0 0, .slice none 0 0, .slice none 0 0, .slice none 0 0, .int .i64 0, .int .i64 0, .slice none 0 0, .bool false] 75 (0, 0))) := by rw [hV]; exact at_old (at_new (by simp))
  have ZV : Hid (V.heap[w.heap.size + 1 + 1]? = some (.cells #[.slice none 0 0, .slice none 0 0, .slice none 0 0, .slice none 0 0, .slice none 0 0, .slice none 0 0, .int .i64 0, .int .i64 0, .slice none 0 0, .bool false] 75 (0, 0))) := by rw [hV]; exact at_new (by simp)
  have zV' : w.heap.size + 3 ≤ V.heap.size := by omega
  clear zV
  go_enter Tryz.func50, Tryz.ntmps50
  go_upto_region 2 with fail
  rw [← hV]
  clear hV
  obtain ⟨-, x0, x1, x2, x3⟩ := And.intro trivial (tenD XV.out)
  go_wp2_with fail
  refine (LD.out V BV.out).mono ?_
  rintro e w1 ⟨v1, rfl, hr, hb⟩
  obtain ⟨eW, fW, eP, fP, eS, fS, eQ, fQ, rfl, -, -⟩ := hr.rd.form
  clear x0 x1 x2 x3 LD
  have zw1 : V.heap.size ≤ w1.heap.size := hb.size
  have Bw1 := hideIt (below_trans BV.out hb BV.out.size)
  have Xw1 := hideIt (box_below XV.out hb (by omega))
  have Yw1 := hideIt (box_below YV.out hb (by omega))
  have Zw1 := hideIt (box_below ZV.out hb (by omega))
  clear BV XV YV ZV hb 
  obtain ⟨u1, hwu1⟩ : ∃ u1, u1 = ((((w1.setCell ⟨w.heap.size + 1 + 1, 0, none⟩ (.slice eW ws.length fW)).setCell ⟨w.heap.size + 1 + 1, 1, none⟩ (.slice eP ps.length fP)).setCell ⟨w.heap.size + 1 + 1, 2, none⟩ (.slice eS es.length fS)).setCell ⟨w.heap.size + 1 + 1, 3, none⟩ (.slice eQ qs.length fQ)) := ⟨_, rfl⟩
  have Ou1 : Outside (w.heap.size + 2) (w.heap.size + 3) w1 u1 := by rw [hwu1]; (repeat (refine Outside.setCell ?_ (by simp only; omega) (by simp only; omega) _)); exact Outside.refl _ _ _
  have su1 : w1.heap.size ≤ u1.heap.size ∧ u1.heap.size ≤ w1.heap.size := by rw [hwu1]; simp [World.setCell]
  have Bu1 := hideIt (Bw1.out.trans (Ou1.below (B := w.heap.size) (by omega) (by omega)))
  have Xu1 := hideIt ((Ou1.block (w.heap.size) (by omega) (by omega)).trans Xw1.out)
  have Yu1 := hideIt ((Ou1.block (w.heap.size + 1) (by omega) (by omega)).trans Yw1.out)
  have Zu1 : Hid (u1.heap[w.heap.size + 1 + 1]? = some (.cells #[.slice eW ws.length fW, .slice eP ps.length fP, .slice eS es.length fS, .slice eQ qs.length fQ, .slice none 0 0, .slice none 0 0, .int .i64 0, .int .i64 0, .slice none 0 0, .bool false] 75 (0, 0))) := by rw [hwu1]; exact ten_dev Zw1.out _ _ _ _
  have RDu1 := hideIt ((RowDev.wide hr (lo' := w.heap.size + 3) (hi' := w1.heap.size) (by omega) (Nat.le_refl _)).outside Ou1 (by omega) (Nat.le_refl _))
  clear hr Ou1
  obtain ⟨-, -, -, -, -, -, -, -, -, -, g0, g1, g2, g3, g4, g5, g6, g7, g8, g9⟩ := ten_cells Zw1.out
  obtain ⟨y0, y1, y2, y3, y4, y5, y6, y7, y8, y9, -⟩ := ten_cells Zw1.out
  go_upto_region 3 with fail
  rw [← hwu1]
  clear hwu1 g0 g1 g2 g3 g4 g5 g6 g7 g8 g9 y0 y1 y2 y3 y4 y5 y6 y7 y8 y9 Bw1 Xw1 Yw1 Zw1 
  obtain ⟨-, x0⟩ := And.intro trivial (tenH Xu1.out)
  go_wp2_with fail
  refine (LH.out u1 Bu1.out).mono ?_
  rintro e w2 ⟨v2, rfl, hr, hb⟩
  obtain ⟨-, eH, fH, rfl, -⟩ := hr.rd
  clear x0 LH
  have zw2 : u1.heap.size ≤ w2.heap.size := hb.size
  have Bw2 := hideIt (below_trans Bu1.out hb Bu1.out.size)
  have Xw2 := hideIt (box_below Xu1.out hb (by omega))
  have Yw2 := hideIt (box_below Yu1.out hb (by omega))
  have Zw2 := hideIt (box_below Zu1.out hb (by omega))
  have RDw2 := hideIt (RDu1.out.below hb (by omega))
  clear Bu1 Xu1 Yu1 Zu1 hb RDu1
  obtain ⟨u2, hwu2⟩ : ∃ u2, u2 = (w2.setCell ⟨w.heap.size + 1 + 1, 4, none⟩ (.slice eH hs.length fH)) := ⟨_, rfl⟩
  have Ou2 : Outside (w.heap.size + 2) (w.heap.size + 3) w2 u2 := by rw [hwu2]; (repeat (refine Outside.setCell ?_ (by simp only; omega) (by simp only; omega) _)); exact Outside.refl _ _ _
  have su2 : w2.heap.size ≤ u2.heap.size ∧ u2.heap.size ≤ w2.heap.size := by rw [hwu2]; simp [World.setCell]
  have Bu2 := hideIt (Bw2.out.trans (Ou2.below (B := w.heap.size) (by omega) (by omega)))
  have Xu2 := hideIt ((Ou2.block (w.heap.size) (by omega) (by omega)).trans Xw2.out)
  have Yu2 := hideIt ((Ou2.block (w.heap.size + 1) (by omega) (by omega)).trans Yw2.out)
  have Zu2 : Hid (u2.heap[w.heap.size + 1 + 1]? = some (.cells #[.slice eW ws.length fW, .slice eP ps.length fP, .slice eS es.length fS, .slice eQ qs.length fQ, .slice eH hs.length fH, .slice none 0 0, .int .i64 0, .int .i64 0, .slice none 0 0, .bool false] 75 (0, 0))) := by rw [hwu2]; exact ten_set4 Zw2.out _
  have RDu2 := hideIt (RDw2.out.outside Ou2 (by omega) (by omega))
  have RHu2 := hideIt ((Row.wide hr (lo' := u1.heap.size) (hi' := w2.heap.size) (by omega) (Nat.le_refl _)).outside Ou2 (by omega) (Nat.le_refl _))
  clear hr Ou2
  obtain ⟨-, -, -, -, -, -, -, -, -, -, g0, g1, g2, g3, g4, g5, g6, g7, g8, g9⟩ := ten_cells Zw2.out
  obtain ⟨y0, y1, y2, y3, y4, y5, y6, y7, y8, y9, -⟩ := ten_cells Zw2.out
  go_upto_region 4 with fail
  rw [← hwu2]
  clear hwu2 g0 g1 g2 g3 g4 g5 g6 g7 g8 g9 y0 y1 y2 y3 y4 y5 y6 y7 y8 y9 Bw2 Xw2 Yw2 Zw2 RDw2
  obtain ⟨-, x0⟩ := And.intro trivial (tenT Xu2.out)
  go_wp2_with fail
  refine (LT.out u2 Bu2.out).mono ?_
  rintro e w3 ⟨v3, rfl, hr, hb⟩
  obtain ⟨-, eT, fT, rfl, -⟩ := hr.rd
  clear x0 LT
  have zw3 : u2.heap.size ≤ w3.heap.size := hb.size
  have Bw3 := hideIt (below_trans Bu2.out hb Bu2.out.size)
  have Xw3 := hideIt (box_below Xu2.out hb (by omega))
  have Yw3 := hideIt (box_below Yu2.out hb (by omega))
  have Zw3 := hideIt (box_below Zu2.out hb (by omega))
  have RDw3 := hideIt (RDu2.out.below hb (by omega))
  have RHw3 := hideIt (RHu2.out.below hb (by omega))
  clear Bu2 Xu2 Yu2 Zu2 hb RDu2 RHu2
  obtain ⟨u3, hwu3⟩ : ∃ u3, u3 = (w3.setCell ⟨w.heap.size + 1 + 1, 5, none⟩ (.slice eT td.length fT)) := ⟨_, rfl⟩
  have Ou3 : Outside (w.heap.size + 2) (w.heap.size + 3) w3 u3 := by rw [hwu3]; (repeat (refine Outside.setCell ?_ (by simp only; omega) (by simp only; omega) _)); exact Outside.refl _ _ _
  have su3 : w3.heap.size ≤ u3.heap.size ∧ u3.heap.size ≤ w3.heap.size := by rw [hwu3]; simp [World.setCell]
  have Bu3 := hideIt (Bw3.out.trans (Ou3.below (B := w.heap.size) (by omega) (by omega)))
  have Xu3 := hideIt ((Ou3.block (w.heap.size) (by omega) (by omega)).trans Xw3.out)
  have Yu3 := hideIt ((Ou3.block (w.heap.size + 1) (by omega) (by omega)).trans Yw3.out)
  have Zu3 : Hid (u3.heap[w.heap.size + 1 + 1]? = some (.cells #[.slice eW ws.length fW, .slice eP ps.length fP, .slice eS es.length fS, .slice eQ qs.length fQ, .slice eH hs.length fH, .slice eT td.length fT, .int .i64 0, .int .i64 0, .slice none 0 0, .bool false] 75 (0, 0))) := by rw [hwu3]; exact ten_set5 Zw3.out _
  have RDu3 := hideIt (RDw3.out.outside Ou3 (by omega) (by omega))
  have RHu3 := hideIt (RHw3.out.outside Ou3 (by omega) (by omega))
  have RTu3 := hideIt ((RowW.wide (RowW.of_row hr) (lo' := u2.heap.size) (hi' := w3.heap.size) (by omega) (Nat.le_refl _)).outside Ou3 (by omega))
  clear hr Ou3
  obtain ⟨-, -, -, -, -, -, -, -, -, -, g0, g1, g2, g3, g4, g5, g6, g7, g8, g9⟩ := ten_cells Zw3.out
  obtain ⟨y0, y1, y2, y3, y4, y5, y6, y7, y8, y9, -⟩ := ten_cells Zw3.out
  go_upto_region 5 with fail
  rw [← hwu3]
  clear hwu3 g0 g1 g2 g3 g4 g5 g6 g7 g8 g9 y0 y1 y2 y3 y4 y5 y6 y7 y8 y9 Bw3 Xw3 Yw3 Zw3 RDw3 RHw3
  obtain ⟨-, x0, x1, x2⟩ := And.intro trivial (tenA Xu3.out)
  go_wp2_with fail
  refine (LN.out u3 Bu3.out).mono ?_
  rintro e w4 ⟨vN, rfl, hr, hb⟩
  obtain ⟨-, eN, fN, rfl, -⟩ := hr.rd
  clear x0 x1 x2 LN
  have zw4 : u3.heap.size ≤ w4.heap.size := hb.size
  have Bw4 := hideIt (below_trans Bu3.out hb Bu3.out.size)
  have Xw4 := hideIt (box_below Xu3.out hb (by omega))
  have Yw4 := hideIt (box_below Yu3.out hb (by omega))
  have Zw4 := hideIt (box_below Zu3.out hb (by omega))
  have RDw4 := hideIt (RDu3.out.below hb (by omega))
  have RHw4 := hideIt (RHu3.out.below hb (by omega))
  have RTw4 := hideIt (RTu3.out.below hb (by omega))
  clear Bu3 Xu3 Yu3 Zu3 hb RDu3 RHu3 RTu3
  obtain ⟨u4, hwu4⟩ : ∃ u4, u4 = (((w4.setCell ⟨w.heap.size + 1 + 1, 6, none⟩ (.int .i64 cd)).setCell ⟨w.heap.size + 1 + 1, 7, none⟩ (.int .i64 vl)).setCell ⟨w.heap.size + 1 + 1, 8, none⟩ (.slice eN nm.length fN)) := ⟨_, rfl⟩
  have Ou4 : Outside (w.heap.size + 2) (w.heap.size + 3) w4 u4 := by rw [hwu4]; (repeat (refine Outside.setCell ?_ (by simp only; omega) (by simp only; omega) _)); exact Outside.refl _ _ _
  have su4 : w4.heap.size ≤ u4.heap.size ∧ u4.heap.size ≤ w4.heap.size := by rw [hwu4]; simp [World.setCell]
  have Bu4 := hideIt (Bw4.out.trans (Ou4.below (B := w.heap.size) (by omega) (by omega)))
  have Xu4 := hideIt ((Ou4.block (w.heap.size) (by omega) (by omega)).trans Xw4.out)
  have Yu4 := hideIt ((Ou4.block (w.heap.size + 1) (by omega) (by omega)).trans Yw4.out)
  have Zu4 : Hid (u4.heap[w.heap.size + 1 + 1]? = some (.cells #[.slice eW ws.length fW, .slice eP ps.length fP, .slice eS es.length fS, .slice eQ qs.length fQ, .slice eH hs.length fH, .slice eT td.length fT, .int .i64 cd, .int .i64 vl, .slice eN nm.length fN, .bool false] 75 (0, 0))) := by rw [hwu4]; exact ten_set8 (ten_set7 (ten_set6 Zw4.out _) _) _
  have RDu4 := hideIt (RDw4.out.outside Ou4 (by omega) (by omega))
  have RHu4 := hideIt (RHw4.out.outside Ou4 (by omega) (by omega))
  have RTu4 := hideIt (RTw4.out.outside Ou4 (by omega))
  have RNu4 := hideIt ((Row.wide hr (lo' := u3.heap.size) (hi' := w4.heap.size) (by omega) (Nat.le_refl _)).outside Ou4 (by omega) (Nat.le_refl _))
  clear hr Ou4
  obtain ⟨-, -, -, -, -, -, -, -, -, -, g0, g1, g2, g3, g4, g5, g6, g7, g8, g9⟩ := ten_cells Zw4.out
  obtain ⟨y0, y1, y2, y3, y4, y5, y6, y7, y8, y9, -⟩ := ten_cells Zw4.out
  go_upto_region 6 with fail
  rw [← hwu4]
  clear hwu4 g0 g1 g2 g3 g4 g5 g6 g7 g8 g9 y0 y1 y2 y3 y4 y5 y6 y7 y8 y9 Bw4 Xw4 Yw4 Zw4 RDw4 RHw4 RTw4
  have x9 := tenB Xu4.out
  obtain ⟨z0, z1, z2, z3, z4, z5, z6, z7, z8, z9, k0, k1, k2, k3, k4, k5, k6, k7, k8, k9⟩ := ten_cells Zu4.out
  obtain ⟨y0, y1, y2, y3, y4, y5, y6, y7, y8, y9, g0, g1, g2, g3, g4, g5, g6, g7, g8, g9⟩ := ten_cells Yu4.out
  obtain ⟨w5, hw5⟩ : ∃ w5, w5 = put10 (u4.setCell ⟨w.heap.size + 1 + 1, 9, none⟩ (.bool fr)) (w.heap.size + 1) (.slice eW ws.length fW) (.slice eP ps.length fP) (.slice eS es.length fS) (.slice eQ qs.length fQ) (.slice eH hs.length fH) (.slice eT td.length fT) (.int .i64 cd) (.int .i64 vl) (.slice eN nm.length fN) (.bool fr) := ⟨_, rfl⟩
  have O5 : Outside (w.heap.size + 1) (w.heap.size + 3) u4 w5 := by
    rw [hw5]
    unfold put10
    repeat (refine Outside.setCell ?_ (by simp only; omega) (by simp only; omega) _)
    exact Outside.refl _ _ _
  have F5 : Hid (RowF w5 w.heap.size w5.heap.size (.agg #[.slice eW ws.length fW, .slice eP ps.length fP, .slice eS es.length fS, .slice eQ qs.length fQ, .slice eH hs.length fH, .slice eT td.length fT, .int .i64 cd, .int .i64 vl, .slice eN nm.length fN, .bool fr]) ws ps es qs hs td cd vl nm fr) := by
    have zz := O5.size
    refine ⟨_, _, _, _, _, _, _, w.heap.size + 3, w1.heap.size, u1.heap.size, w2.heap.size, u2.heap.size, w3.heap.size, u3.heap.size, w4.heap.size, rfl, RDu4.out.outside O5 (by omega) (by omega), RHu4.out.outside O5 (by omega) (by omega), RTu4.out.outside O5 (by omega), RNu4.out.outside O5 (by omega) (by omega), ?_⟩
    exact ⟨by omega, by omega, by omega, by omega, by omega, by omega, by omega, by omega, by omega, by omega, by omega, by omega, by omega, by omega⟩
  have B5 := hideIt (Bu4.out.trans (O5.below (B := w.heap.size) (by omega) (by omega)))
  unfold put10 at hw5
  clear O5
  go_wp2
  refine bodyPost_ret (v := .agg #[.slice eW ws.length fW, .slice eP ps.length fP, .slice eS es.length fS, .slice eQ qs.length fQ, .slice eH hs.length fH, .slice eT td.length fT, .int .i64 cd, .int .i64 vl, .slice eN nm.length fN, .bool fr]) (by simp [results, Tryz.results50, go_sem, y0, y1, y2, y3, y4, y5, y6, y7, y8, y9]) rfl ?_
  rw [← hw5]
  exact ⟨_, rfl, F5.out, B5.out⟩
end Go.Proofs.YtmeiionabonhnaaGreatDoor
