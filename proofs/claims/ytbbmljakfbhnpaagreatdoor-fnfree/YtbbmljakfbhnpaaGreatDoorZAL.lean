/- Several texts laid together: FsF, Draw, DrawK. -/
import Derived.Test.YtbbmljakfbhnpaaGreatDoorZAK
import Derived.Test.YtbbmljakfbhnpaaGreatDoorZAA
import Derived.BigRegion
import Derived.BigQuiet
import Derived.Deep.QuietTactic
namespace Go.Proofs.YtbbmljakfbhnpaaGreatDoor
open Go.RowKit

def putA (w : World) (b : Nat) (x y z : Value) : World := (((w.setCell ⟨b, 0, none⟩ x).setCell ⟨b, 1, none⟩ y).setCell ⟨b, 2, none⟩ z)
theorem putA_out (w : World) (b : Nat) (x y z : Value) : Outside b (b + 1) w (putA w b x y z) := by
 unfold putA
 repeat (refine Outside.setCell ?_ (by simp only; omega) (by simp only; omega) _)
 exact Outside.refl _ _ _
theorem rdm_nil (w : World) (a : Option Addr) (c : Nat) (h : a = none → c = 0) : RdM w (.slice a 0 c) [] := ⟨rfl, _, _, rfl, ⟨Nat.zero_le _, h⟩, fun h => absurd h (by simp)⟩
theorem rdt_nil (w : World) (b : Nat) : RdT w (.slice (some ⟨b, 0, none⟩) 0 0) [] := ⟨rfl, _, _, rfl, ⟨Nat.le_refl _, fun e => by cases e⟩, fun h => absurd h (by simp)⟩

set_option maxRecDepth 100000 in
set_option maxHeartbeats 16000000 in
theorem l10Take_any (v : Value) (ws es hs : List Int) (cd vl : Int) (nm : List ByteArray) (w : World) (h : RdFs w v ws es hs [] cd vl nm true) (h1 : 3 ≤ ws.length) (h2 : 3 ≤ es.length) (hh : 3 ≤ hs.length) :
  Calls Tryz.prog 157 #[v] w fun e w' => ∃ v' a n c, e = .returned (.tuple #[v', .agg #[.int .i64 cd, .int .i64 vl, .slice a n c], .int .i64 0]) ∧ RdFs w' v' ws es hs [] 0 0 [] false ∧ Below w.heap.size w w' := by
 have H1 := zaa h1
 have H2 := zaa h2
 have HH := zaa hh
 obtain ⟨aW, cW, aP, cP, aS, cS, aQ, cQ, aH, cH, aT, cT, aN, cN, rfl, a, b, c, d⟩ := h
 have RD := zaa a
 have RH := zaa b
 have RT := zaa c
 clear a b c d h1 h2 hh
 rw [show ([] : List Mi).length = 0 from rfl] at RT ⊢
 obtain ⟨V, hV⟩ : ∃ V, V = ((w.alloc (.cells #[.slice aW ws.length cW, .slice aP 0 cP, .slice aS es.length cS, .slice aQ 0 cQ, .slice aH hs.length cH, .slice aT 0 cT, .int .i64 cd, .int .i64 vl, .slice aN nm.length cN, .bool true] 125)).alloc (.cells zeb.toArray 125)).alloc (.cells #[.int .i64 0, .int .i64 0, .slice none 0 0] 123) := ⟨_, rfl⟩
 have HZ : Hid (V.heap.size = w.heap.size + 1 + 1 + 1) := by rw [hV]; simp [Hid]
 have BV : Hid (Below w.heap.size w V) := by rw [hV]; exact (((Below.refl _ _).alloc (Nat.le_refl _) _).alloc (by simp) _).alloc (by simp <;> omega) _
 have XV : Hid (V.heap[w.heap.size]? = some (.cells #[.slice aW ws.length cW, .slice aP 0 cP, .slice aS es.length cS, .slice aQ 0 cQ, .slice aH hs.length cH, .slice aT 0 cT, .int .i64 cd, .int .i64 vl, .slice aN nm.length cN, .bool true] 125 (0, 0))) := by rw [hV]; exact zal (zal (zah rfl))
 have YV : Hid (V.heap[w.heap.size + 1]? = some (.cells zeb.toArray 125 (0, 0))) := by rw [hV]; exact zal (zah (by simp))
 have ZV : Hid (V.heap[w.heap.size + 1 + 1]? = some (.cells #[.int .i64 0, .int .i64 0, .slice none 0 0] 123 (0, 0))) := by rw [hV]; exact zah (by simp)
 unfold zeb at hV
 go_enter Tryz.func157, Tryz.ntmps157
 go_upto_region 1 with fail
 rw [← hV]
 clear hV
 obtain ⟨V2, hV2⟩ : ∃ V2, V2 = (V.alloc (.cells #[] 9)).alloc (.cells #[.int .i64 0, .int .i64 0, .slice (some ⟨V.heap.size, 0, none⟩) 0 0] 123) := ⟨_, rfl⟩
 have B2 : Hid (Below V.heap.size V V2) := by rw [hV2]; exact ((Below.refl _ _).alloc (Nat.le_refl _) _).alloc (by simp) _
 have N2 : Hid (V2.heap[V.heap.size + 1]? = some (.cells #[.int .i64 0, .int .i64 0, .slice (some ⟨V.heap.size, 0, none⟩) 0 0] 123 (0, 0))) := by rw [hV2]; exact zah (by simp)
 have Z2 : Hid (V2.heap.size = V.heap.size + 1 + 1) := by rw [hV2]; simp [Hid]
 have X2 := zaa ((B2.out.block _ (by have q1 := HZ.out; have q2 := Z2.out; omega)).trans XV.out)
 go_upto_region 2 with fail
 rw [← hV2]
 clear hV2
 obtain ⟨x0, x1, x2, x3, x4, x5, x6, x7, x8, x9, -⟩ := zak X2.out
 obtain ⟨V3, hV3⟩ : ∃ V3, V3 = V2.alloc (.cells #[.int .i64 cd, .int .i64 vl, .slice aN nm.length cN] 123) := ⟨_, rfl⟩
 have B3 : Hid (Below V2.heap.size V2 V3) := by rw [hV3]; exact (Below.refl _ _).alloc (Nat.le_refl _) _
 have A3 : Hid (V3.heap[V2.heap.size]? = some (.cells #[.int .i64 cd, .int .i64 vl, .slice aN nm.length cN] 123 (0, 0))) := by rw [hV3]; exact zah rfl
 have Z3 : Hid (V3.heap.size = V2.heap.size + 1) := by rw [hV3]; simp [Hid]
 have X3 := zaa ((B3.out.block _ (by have q1 := HZ.out; have q2 := Z2.out; have q3 := Z3.out; omega)).trans X2.out)
 have N3 := zaa ((B3.out.block _ (by have q1 := HZ.out; have q2 := Z2.out; have q3 := Z3.out; omega)).trans N2.out)
 have BB3 := zaa (zab B2.out B3.out (by have q1 := HZ.out; have q2 := Z2.out; have q3 := Z3.out; omega))
 go_upto_region 7 with fail
 rw [← hV3]
 clear hV3 x0 x1 x2 x3 x4 x5 x6 x7 x8 x9 N2 X2 XV
 obtain ⟨x0, x1, x2, x3, x4, x5, x6, x7, x8, x9, g0, g1, g2, g3, g4, g5, g6, g7, g8, g9⟩ := zak X3.out
 obtain ⟨n0, n1, n2, -, -, -⟩ := tri3 N3.out
 obtain ⟨V4, hV4⟩ : ∃ V4, V4 = (((V3.setCell ⟨w.heap.size, 6, none⟩ (.int .i64 0)).setCell ⟨w.heap.size, 7, none⟩ (.int .i64 0)).setCell ⟨w.heap.size, 8, none⟩ (.slice (some ⟨V.heap.size, 0, none⟩) 0 0)).setCell ⟨w.heap.size, 9, none⟩ (.bool false) := ⟨_, rfl⟩
 have X4 : Hid (V4.heap[w.heap.size]? = some (.cells #[.slice aW ws.length cW, .slice aP 0 cP, .slice aS es.length cS, .slice aQ 0 cQ, .slice aH hs.length cH, .slice aT 0 cT, .int .i64 0, .int .i64 0, .slice (some ⟨V.heap.size, 0, none⟩) 0 0, .bool false] 125 (0, 0))) := by rw [hV4]; exact zll (zjb (zln (zlz X3.out _) _) _) _
 have O4 : Hid (Outside w.heap.size (w.heap.size + 1) V3 V4) := by
  rw [hV4]
  unfold Hid
  repeat (refine Outside.setCell ?_ (by simp only; omega) (by simp only; omega) _)
  exact Outside.refl _ _ _
 have S4 := zaa (Soft.outside O4.out X3.out rfl)
 have Z5 : Hid (V3.heap.size = V4.heap.size) := by rw [hV4]; simp [World.setCell, Hid]
 have A4 := zaa ((O4.out.block _ (by have q1 := HZ.out; have q2 := Z2.out; have q3 := Z3.out; have q5 := Z5.out; omega) (by have q1 := HZ.out; have q2 := Z2.out; have q3 := Z3.out; have q5 := Z5.out; omega)).trans A3.out)
 have Y4 := zaa ((O4.out.block (w.heap.size + 1) (by have q1 := HZ.out; have q2 := Z2.out; have q3 := Z3.out; have q5 := Z5.out; omega) (by have q1 := HZ.out; have q2 := Z2.out; have q3 := Z3.out; have q5 := Z5.out; omega)).trans ((BB3.out.block _ (by have q1 := HZ.out; have q2 := Z2.out; have q3 := Z3.out; have q5 := Z5.out; omega)).trans YV.out))
 have Z4 := zaa ((O4.out.block (w.heap.size + 1 + 1) (by have q1 := HZ.out; have q2 := Z2.out; have q3 := Z3.out; have q5 := Z5.out; omega) (by have q1 := HZ.out; have q2 := Z2.out; have q3 := Z3.out; have q5 := Z5.out; omega)).trans ((BB3.out.block _ (by have q1 := HZ.out; have q2 := Z2.out; have q3 := Z3.out; have q5 := Z5.out; omega)).trans ZV.out))
 have B4 := zaa ((zab BV.out BB3.out (by have q1 := HZ.out; have q2 := Z2.out; have q3 := Z3.out; have q5 := Z5.out; omega)).trans (O4.out.below (B := w.heap.size) (Nat.le_refl _) (by have q1 := HZ.out; have q2 := Z2.out; have q3 := Z3.out; have q5 := Z5.out; omega)))
 have SV := zaa ((Soft.of_below BB3.out).trans S4.out)
 go_upto_region 9 with fail
 rw [← hV4]
 clear hV4 x0 x1 x2 x3 x4 x5 x6 x7 x8 x9 g0 g1 g2 g3 g4 g5 g6 g7 g8 g9 n0 n1 n2 X3 N3 A3 YV ZV
 obtain ⟨x0, x1, x2, x3, x4, x5, x6, x7, x8, x9, -⟩ := zak X4.out
 obtain ⟨n0, n1, n2, -, -, -⟩ := tri3 A4.out
 have Y4' : V4.heap[w.heap.size + 1]? = some (.cells #[.slice none 0 0, .slice none 0 0, .slice none 0 0, .slice none 0 0, .slice none 0 0, .slice none 0 0, .int .i64 0, .int .i64 0, .slice none 0 0, .bool false] 125 (0, 0)) := Y4.out
 obtain ⟨y0, y1, y2, y3, y4, y5, y6, y7, y8, y9, g0, g1, g2, g3, g4, g5, g6, g7, g8, g9⟩ := zak Y4'
 obtain ⟨m0, m1, m2, k0, k1, k2⟩ := tri3 Z4.out
 clear Y4'
 have eV : V2.heap.size = w.heap.size + 1 + 1 + 1 + 1 + 1 := by rw [Z2.out, HZ.out]
 rw [eV] at n0 n1 n2 ⊢
 have O5 := zaa (zbw V4 (w.heap.size + 1) (.slice aW ws.length cW) (.slice aP 0 cP) (.slice aS es.length cS) (.slice aQ 0 cQ) (.slice aH hs.length cH) (.slice aT 0 cT) (.int .i64 0) (.int .i64 0) (.slice (some ⟨V.heap.size, 0, none⟩) 0 0) (.bool false))
 have E5 := zaa (zpy V4 (w.heap.size + 1) (.slice aW ws.length cW) (.slice aP 0 cP) (.slice aS es.length cS) (.slice aQ 0 cQ) (.slice aH hs.length cH) (.slice aT 0 cT) (.int .i64 0) (.int .i64 0) (.slice (some ⟨V.heap.size, 0, none⟩) 0 0) (.bool false))
 have S5 := zaa (Soft.outside O5.out Y4.out rfl)
 have Z6 := zaa ((O5.out.block (w.heap.size + 1 + 1) (by have q1 := HZ.out; have q2 := Z2.out; have q3 := Z3.out; have q5 := Z5.out; omega) (by omega)).trans Z4.out)
 have B5 := zaa (B4.out.trans (O5.out.below (B := w.heap.size) (by omega) (by have q1 := HZ.out; have q2 := Z2.out; have q3 := Z3.out; have q5 := Z5.out; omega)))
 obtain ⟨V5, hV5⟩ : ∃ V5, V5 = zfw V4 (w.heap.size + 1) (.slice aW ws.length cW) (.slice aP 0 cP) (.slice aS es.length cS) (.slice aQ 0 cQ) (.slice aH hs.length cH) (.slice aT 0 cT) (.int .i64 0) (.int .i64 0) (.slice (some ⟨V.heap.size, 0, none⟩) 0 0) (.bool false) := ⟨_, rfl⟩
 rw [← hV5] at O5 S5 Z6 B5 E5
 have O6 := zaa (putA_out V5 (w.heap.size + 1 + 1) (.int .i64 cd) (.int .i64 vl) (.slice aN nm.length cN))
 have S6 := zaa (((SV.out.trans S5.out).trans (Soft.outside O6.out Z6.out rfl)).drew)
 have B6 := zaa (B5.out.trans (O6.out.below (B := w.heap.size) (by omega) (by have q6 := E5.out; have q1 := HZ.out; have q2 := Z2.out; have q3 := Z3.out; have q5 := Z5.out; omega))).drew
 have F6 : Hid (RdFs (putA V5 (w.heap.size + 1 + 1) (.int .i64 cd) (.int .i64 vl) (.slice aN nm.length cN)).drew (.agg #[.slice aW ws.length cW, .slice aP 0 cP, .slice aS es.length cS, .slice aQ 0 cQ, .slice aH hs.length cH, .slice aT 0 cT, .int .i64 0, .int .i64 0, .slice (some ⟨V.heap.size, 0, none⟩) 0 0, .bool false]) ws es hs [] 0 0 [] false) :=
  ⟨aW, cW, aP, cP, aS, cS, aQ, cQ, aH, cH, aT, cT, _, _, rfl, (RD.out.below BV.out).soft S6.out H1.out H2.out, RdI.soft (Rd.below RH.out BV.out) S6.out HH.out, RdM.soft (Rd.below RT.out BV.out) S6.out, rdt_nil _ _⟩
 unfold zfw at hV5
 clear O5 S5 Z6 B5 E5 O6 S6 SV S4 O4 X4 A4 Y4 Z4 B4 BB3 B3 B2 Z2 Z3 Z5 RD RH RT
 go_wp2_with fail
 go_region
 all_goals
  go_wp2_with fail
  rw [← hV5]
  refine bodyPost_ret (v := .tuple #[.agg #[.slice aW ws.length cW, .slice aP 0 cP, .slice aS es.length cS, .slice aQ 0 cQ, .slice aH hs.length cH, .slice aT 0 cT, .int .i64 0, .int .i64 0, .slice (some ⟨V.heap.size, 0, none⟩) 0 0, .bool false], .agg #[.int .i64 cd, .int .i64 vl, .slice aN nm.length cN], .int .i64 0]) (by simp [results, Tryz.results157, go_sem, hV5, y0, y1, y2, y3, y4, y5, y6, y7, y8, y9, m0, m1, m2]) rfl ?_
  exact ⟨_, _, _, _, rfl, F6.out, B6.out⟩
end Go.Proofs.YtbbmljakfbhnpaaGreatDoor

namespace Go.Proofs.YtbbmljakfbhnpaaGreatDoor
open Go.RowKit

/-- The cells of a list of bytes. -/
def bys (zs : List Int) : List Value := zs.map (Value.int .u8)
theorem bys_at (zs : List Int) (k : Nat) (h : k < zs.length) : (bys zs)[k]? = some (.int .u8 zs[k]) := by simp [bys, h]

/-- A slice of bytes that can be read. -/
def RdB (w : World) (v : Value) (zs : List Int) : Prop := Rd w 1 v zs.length (bys zs) ∧ ∀ k (h : k < zs.length), 0 ≤ zs[k] ∧ zs[k] < 256
theorem RdB.shape {w : World} {v : Value} {zs : List Int} (h : RdB w v zs) : ∃ ao cap, v = .slice ao zs.length cap ∧ zs.length ≤ cap ∧ (0 < zs.length → ∃ b o, ao = some ⟨b, o, none⟩ ∧ b < w.heap.size ∧ ∀ k (h : k < zs.length), w.cell? ⟨b, o + k, none⟩ = some (.int .u8 zs[k])) := by
 obtain ⟨⟨_, ao, cap, rfl, h2, h3⟩, _⟩ := h
 refine ⟨ao, cap, rfl, h2.1, fun hn => ?_⟩
 obtain ⟨b, o, rfl, hb, hc⟩ := h3 hn
 exact ⟨b, o, rfl, hb, fun k hk => (hc k (by omega)).trans (bys_at zs k hk)⟩
theorem RdB.below {w w' : World} {v : Value} {zs : List Int} (h : RdB w v zs) (hb : Below w.heap.size w w') : RdB w' v zs := ⟨h.1.below hb, h.2⟩

theorem zfz {w : World} {b : Nat} {x y z : Value} {t : TypeId} (h : w.heap[b]? = some (.cells #[x, y, z] t (0, 0))) :
  w.cell? ⟨b, 0, none⟩ = some x ∧ w.cell? ⟨b, 1, none⟩ = some y ∧ w.cell? ⟨b, 2, none⟩ = some z ∧ ∀ j, w.frozen? ⟨b, j, none⟩ = false := by
 refine ⟨?_, ?_, ?_, fun j => ?_⟩ <;> simp [World.cell?, World.frozen?, h]

/-- A source that has been asked at most k times. -/
structure Src (w0 w : World) (b : Nat) (vC : Value) (bs : List Int) (k : Nat) : Prop where
 code : RdB w0 vC bs
 len : bs.length ≤ 1048576
 old : w0.heap.size ≤ b
 below : Below w0.heap.size w0 w
 size : b < w.heap.size
 cells : ∃ at_ seed : Int, 0 ≤ at_ ∧ at_ ≤ k ∧ 0 ≤ seed ∧ seed < 2147483648 ∧ w.heap[b]? = some (.cells #[vC, .int .i64 at_, .int .i64 seed] 118 (0, 0))
theorem Src.outside {w0 w w' : World} {b k : Nat} {vC : Value} {bs : List Int} (h : Src w0 w b vC bs k) {lo hi : Nat} (ho : Outside lo hi w w') (hl : b < lo ∨ hi ≤ b) (hl2 : w0.heap.size ≤ lo) : Src w0 w' b vC bs k :=
 ⟨h.code, h.len, h.old, h.below.trans (ho.below hl2 h.below.size), Nat.lt_of_lt_of_le h.size ho.size, by
  obtain ⟨a, s, h1, h2, h3, h4, h5⟩ := h.cells
  exact ⟨a, s, h1, h2, h3, h4, (ho.block b h.size hl).trans h5⟩⟩
theorem Src.newer {w0 w w' : World} {b k : Nat} {vC : Value} {bs : List Int} (h : Src w0 w b vC bs k) (hb : Below w.heap.size w w') : Src w0 w' b vC bs k :=
 h.outside (lo := w.heap.size) (hi := w'.heap.size) (Outside.of_below hb) (.inl h.size) h.below.size

theorem Outside.drewN {lo hi : Nat} {a w : World} (h : Outside lo hi a w) (n : Nat) : Outside lo hi a (w.drewN n) := by
 induction n with
 | zero => exact h
 | succ n ih => exact ⟨ih.os, ih.tape, ih.output, ih.size, ih.block⟩

theorem src_set1 {w : World} {b : Nat} {x y z : Value} {t : TypeId} (h : w.heap[b]? = some (.cells #[x, y, z] t (0, 0))) (u : Value) : (w.setCell ⟨b, 1, none⟩ u).heap[b]? = some (.cells #[x, u, z] t (0, 0)) := by
 simp [World.setCell, Array.getElem?_modify, h]
theorem src_set2 {w : World} {b : Nat} {x y z : Value} {t : TypeId} (h : w.heap[b]? = some (.cells #[x, y, z] t (0, 0))) (u : Value) : (w.setCell ⟨b, 2, none⟩ u).heap[b]? = some (.cells #[x, y, u] t (0, 0)) := by
 simp [World.setCell, Array.getElem?_modify, h]
theorem Src.set {w0 w w' : World} {b k k' : Nat} {vC : Value} {bs : List Int} (h : Src w0 w b vC bs k) (ho : Outside b (b + 1) w w') {at_ seed : Int} (h1 : 0 ≤ at_) (h2 : at_ ≤ k') (h3 : 0 ≤ seed) (h4 : seed < 2147483648) (h5 : w'.heap[b]? = some (.cells #[vC, .int .i64 at_, .int .i64 seed] 118 (0, 0))) : Src w0 w' b vC bs k' :=
 ⟨h.code, h.len, h.old, h.below.trans (ho.below h.old h.below.size), Nat.lt_of_lt_of_le h.size ho.size, ⟨at_, seed, h1, h2, h3, h4, h5⟩⟩
theorem Src.more {w0 w : World} {b k k' : Nat} {vC : Value} {bs : List Int} (h : Src w0 w b vC bs k) (hk : k ≤ k') : Src w0 w b vC bs k' :=
 ⟨h.code, h.len, h.old, h.below, h.size, by obtain ⟨a, s, h1, h2, h3⟩ := h.cells; exact ⟨a, s, h1, by omega, h3⟩⟩
theorem size_set (w : World) (a : Addr) (u : Value) : (w.setCell a u).heap.size = w.heap.size := by simp [World.setCell]
theorem zee (w : World) (n : Nat) : (w.drewN n).heap = w.heap := by
 induction n with
 | zero => rfl
 | succ n ih => exact ih

/-- The byte that comes next, and the seed behind it. -/
def zqf (bs : List Int) (m : Nat) (seed : Int) : Int := if m < bs.length then bs[m]?.getD 0 else if 3000 < m + 1 then 0 else (seed * 1103515245 + 12345) % 2147483648 / 65536 % 256
def byteS (bs : List Int) (m : Nat) (seed : Int) : Int := if m < bs.length then (seed * 31 + bs[m]?.getD 0 + 7) % 2147483648 else if 3000 < m + 1 then seed else (seed * 1103515245 + 12345) % 2147483648
theorem byte_in {bs : List Int} {m : Nat} (seed : Int) (h : m < bs.length) : zqf bs m seed = bs[m] ∧ byteS bs m seed = (seed * 31 + bs[m] + 7) % 2147483648 := by
 unfold zqf byteS; rw [if_pos h, if_pos h]; simp [h]
theorem byte_far {bs : List Int} {m : Nat} (seed : Int) (h : ¬ m < bs.length) (h2 : 3000 < m + 1) : zqf bs m seed = 0 ∧ byteS bs m seed = seed := by
 unfold zqf byteS; rw [if_neg h, if_neg h, if_pos h2, if_pos h2]; exact ⟨rfl, rfl⟩
theorem zup {bs : List Int} {m : Nat} (seed : Int) (h : ¬ m < bs.length) (h2 : ¬ 3000 < m + 1) : zqf bs m seed = (seed * 1103515245 + 12345) % 2147483648 / 65536 % 256 ∧ byteS bs m seed = (seed * 1103515245 + 12345) % 2147483648 := by
 unfold zqf byteS; rw [if_neg h, if_neg h, if_neg h2, if_neg h2]; exact ⟨rfl, rfl⟩

/-- A source that has been asked m times, and its seed. -/
structure SrcE (w0 w : World) (b : Nat) (vC : Value) (bs : List Int) (m : Nat) (seed : Int) : Prop where
 src : Src w0 w b vC bs m
 s0 : 0 ≤ seed
 s1 : seed < 2147483648
 cells : w.heap[b]? = some (.cells #[vC, .int .i64 (m : Int), .int .i64 seed] 118 (0, 0))
theorem SrcE.set {w0 w w' : World} {b m : Nat} {vC : Value} {bs : List Int} {seed seed' : Int} (h : SrcE w0 w b vC bs m seed) (ho : Outside b (b + 1) w w') (h3 : 0 ≤ seed') (h4 : seed' < 2147483648) (h5 : w'.heap[b]? = some (.cells #[vC, .int .i64 ((m : Int) + 1), .int .i64 seed'] 118 (0, 0))) : SrcE w0 w' b vC bs (m + 1) seed' :=
 ⟨h.src.set ho (at_ := (m : Int) + 1) (seed := seed') (by omega) (by omega) h3 h4 h5, h3, h4, h5⟩
theorem SrcE.newer {w0 w w' : World} {b m : Nat} {vC : Value} {bs : List Int} {seed : Int} (h : SrcE w0 w b vC bs m seed) (hb : Below w.heap.size w w') : SrcE w0 w' b vC bs m seed := ⟨h.src.newer hb, h.s0, h.s1, (hb.block b h.src.size).trans h.cells⟩
theorem SrcE.outside {w0 w w' : World} {b m : Nat} {vC : Value} {bs : List Int} {seed : Int} (h : SrcE w0 w b vC bs m seed) {lo hi : Nat} (ho : Outside lo hi w w') (hl : b < lo ∨ hi ≤ b) (hl2 : w0.heap.size ≤ lo) : SrcE w0 w' b vC bs m seed := ⟨h.src.outside ho hl hl2, h.s0, h.s1, (ho.block b h.src.size hl).trans h.cells⟩

set_option maxRecDepth 100000 in
set_option maxHeartbeats 8000000 in
/-- A byte, by the source's cells. -/
theorem zqz (w0 w : World) (b m : Nat) (vC : Value) (bs : List Int) (seed : Int) (h : SrcE w0 w b vC bs m seed) (hk : m ≤ 1000000) :
  Calls Tryz.prog 158 #[.pointer (some ⟨b, 0, none⟩)] w fun e w' => e = .returned (.int .i64 (zqf bs m seed)) ∧ SrcE w0 w' b vC bs (m + 1) (byteS bs m seed) ∧ Outside b (b + 1) w w' ∧ w'.heap.size = w.heap.size := by
 have HS := zaa h
 obtain ⟨hsrc, s0, s1, hblk⟩ := h
 obtain ⟨aC, cC, rfl, _, hcC⟩ := hsrc.code.shape
 obtain ⟨c0, c1, c2, c3⟩ := zfz hblk
 have f1 := c3 1
 have hlen := hsrc.len
 have NB := zaa (src_set1 hblk (.int .i64 ((m : Int) + 1)))
 have O1 := zaa ((Outside.refl b (b + 1) w).setCell (a := ⟨b, 1, none⟩) (Nat.le_refl _) (by simp) (.int .i64 ((m : Int) + 1)))
 have B1 := zaa (hsrc.below.trans (O1.out.below hsrc.old hsrc.below.size))
 have hold := hsrc.old
 clear hsrc hblk c3
 go_enter Tryz.func158, Tryz.ntmps158
 go_wp2_with fail
 clear c0 c1 c2 f1
 generalize hw1 : w.setCell ⟨b, 1, none⟩ (.int .i64 ((m : Int) + 1)) = w1 at *
 have hz1 : w1.heap.size = w.heap.size := by rw [← hw1]; exact size_set _ _ _
 obtain ⟨c0, c1, c2, c3⟩ := zfz NB.out
 have f2 := c3 2
 clear c3 hw1
 by_cases c : m < bs.length
 ·obtain ⟨bc, oc, rfl, hbc, hcc⟩ := hcC (by omega)
  have x0 := (B1.out.cell (p := ⟨bc, oc + m, none⟩) hbc).trans (hcc m c)
  obtain ⟨x1, x2⟩ := HS.out.src.code.2 m c
  clear hcC hcc
  obtain ⟨E1, E2⟩ := byte_in seed c
  have EE := zaa (And.intro E1 E2)
  clear E1 E2
  generalize bs[m] = x at *
  have cc : ((m : Int) + 1) ≤ (bs.length : Int) := by omega
  have c4 : (m : Int) < (bs.length : Int) := by omega
  have c5 : (0 : Int) ≤ (m : Int) := by omega
  go_quiet (fail)
  go_wp2_with fail
  generalize hw2 : w1.drewN _ = w2
  have e2 : w2.heap = w1.heap := by rw [← hw2]; exact zee _ _
  have O2 : Hid (Outside b (b + 1) w w2) := by rw [← hw2]; exact O1.out.drewN _
  have NB2 : Hid (w2.heap[b]? = some (.cells #[.slice (some ⟨bc, oc, none⟩) bs.length cC, .int .i64 ((m : Int) + 1), .int .i64 seed] 118 (0, 0))) := by rw [e2]; exact NB.out
  have x2' := (World.cell?_of_block (w := w1) (a := ⟨bc, oc + m, none⟩) (by rw [e2])).trans x0
  clear c0 c1 c2 f2 x0
  obtain ⟨c0, c1, c2, c3⟩ := zfz NB2.out
  have f2 := c3 2
  have hz2 : w2.heap.size = w.heap.size := by rw [e2]; exact hz1
  clear c3 hw2 e2
  go_region
  go_wp2_with fail
  have O3 := zaa (Outside.drewN (O2.out.setCell (a := ⟨b, 2, none⟩) (Nat.le_refl _) (by simp) (.int .i64 ((seed * 31 + x + 7) % 2147483648))) 1)
  have NB3 := zaa (src_set2 NB2.out (.int .i64 ((seed * 31 + x + 7) % 2147483648)))
  generalize hw3 : (w2.setCell ⟨b, 2, none⟩ (.int .i64 ((seed * 31 + x + 7) % 2147483648))).drew = w3
  have O4 : Hid (Outside b (b + 1) w w3) := by rw [← hw3]; exact O3.out
  have NB4 : Hid (w3.heap[b]? = some (.cells #[.slice (some ⟨bc, oc, none⟩) bs.length cC, .int .i64 ((m : Int) + 1), .int .i64 ((seed * 31 + x + 7) % 2147483648)] 118 (0, 0))) := by rw [← hw3]; exact NB3.out
  have hz3 : w3.heap.size = w.heap.size := by rw [← hw3]; exact (size_set _ _ _).trans hz2
  have x3 : w3.cell? ⟨bc, oc + m, none⟩ = some (.int .u8 x) := by
   rw [← hw3]
   exact (World.cell?_of_block (w := w2) (a := ⟨bc, oc + m, none⟩) (Below.heap_setCell _ _ _ _ (by simp only; omega))).trans x2'
  clear c0 c1 c2 f2 x2' hw3 O3 NB3
  obtain ⟨c0, c1, c2, c3⟩ := zfz NB4.out
  clear c3
  go_quiet (fail)
  go_wp2
  go_ret
  rw [EE.out.1, EE.out.2]
  exact ⟨rfl, HS.out.set (O4.out.drewN _) (by omega) (by omega) (by rw [zee]; exact NB4.out), O4.out.drewN _, by rw [zee]; exact hz3⟩
 ·have cc : ¬ ((m : Int) + 1) ≤ (bs.length : Int) := by omega
  clear hcC
  go_quiet (fail)
  go_wp2
  ·go_ret
   obtain ⟨E1, E2⟩ := byte_far seed c (by omega)
   rw [E1, E2]
   exact ⟨rfl, HS.out.set (O1.out.drewN _) (by omega) (by omega) (by rw [zee]; exact NB.out), O1.out.drewN _, by rw [zee]; exact hz1⟩
  ·go_ret
   have O3 := (O1.out.drewN nq).setCell (a := ⟨b, 2, none⟩) (Nat.le_refl _) (by simp) (.int .i64 ((seed * 1103515245 + 12345) % 2147483648))
   obtain ⟨E1, E2⟩ := zup seed c (by omega)
   rw [E1, E2]
   refine ⟨rfl, HS.out.set O3 (by omega) (by omega) (src_set2 (by rw [zee]; exact NB.out) _), O3, by rw [size_set, zee]; exact hz1⟩

theorem byteR_bd {w : World} {v : Value} {bs : List Int} (h : RdB w v bs) (m : Nat) (seed : Int) : 0 ≤ zqf bs m seed ∧ zqf bs m seed < 256 := by
 by_cases c : m < bs.length
 ·rw [(byte_in seed c).1]; exact h.2 m c
 ·by_cases c2 : 3000 < m + 1
  ·rw [(byte_far seed c c2).1]; omega
  ·rw [(zup seed c c2).1]; omega
theorem zgc (w0 w : World) (b k : Nat) (vC : Value) (bs : List Int) (h : Src w0 w b vC bs k) (hk : k ≤ 1000000) :
  Calls Tryz.prog 158 #[.pointer (some ⟨b, 0, none⟩)] w fun e w' => ∃ r : Int, e = .returned (.int .i64 r) ∧ 0 ≤ r ∧ r < 256 ∧ Src w0 w' b vC bs (k + 1) ∧ Outside b (b + 1) w w' ∧ w'.heap.size = w.heap.size := by
 obtain ⟨at_, seed, a0, a1, s0, s1, hblk⟩ := h.cells
 obtain ⟨m, rfl⟩ : ∃ m : Nat, at_ = m := ⟨at_.toNat, by omega⟩
 have bd := byteR_bd h.code m seed
 refine (zqz w0 w b m vC bs seed ⟨h.set (Outside.refl _ _ _) a0 (Int.le_refl _) s0 s1 hblk, s0, s1, hblk⟩ (by omega)).mono ?_
 rintro e w' ⟨rfl, h1, h2, h3⟩
 exact ⟨_, rfl, bd.1, bd.2, h1.src.more (by omega), h2, h3⟩

set_option maxRecDepth 100000 in
set_option maxHeartbeats 8000000 in
/-- A number from 0 to below n. -/
theorem zbp (n : Int) (hn : 2 ≤ n ∧ n ≤ 1000) (w0 w : World) (b k : Nat) (vC : Value) (bs : List Int) (h : Src w0 w b vC bs k) (hk : k ≤ 900000) :
  Calls Tryz.prog 113 #[.pointer (some ⟨b, 0, none⟩), .int .i64 n] w fun e w' => ∃ r : Int, e = .returned (.int .i64 r) ∧ 0 ≤ r ∧ r < n ∧ Src w0 w' b vC bs (k + 3) ∧ Outside b (b + 1) w w' ∧ w'.heap.size = w.heap.size := by
 have HS := zaa h
 clear h
 by_cases c : n ≤ 256
 ·go_enter Tryz.func113, Tryz.ntmps113
  go_wp2_with fail
  refine (zgc w0 w b k vC bs HS.out (by omega)).mono ?_
  rintro e w1 ⟨r, rfl, r0, r1, hs, ho, hz⟩
  have S1 := zaa hs
  have O1 := zaa ho
  clear hs ho
  go_wp2
  go_ret
  exact ⟨_, rfl, Int.emod_nonneg _ (by omega), Int.emod_lt_of_pos _ (by omega), S1.out.more (by omega), O1.out, hz⟩
 ·go_enter Tryz.func113, Tryz.ntmps113
  go_wp2_with fail
  refine (zgc w0 w b k vC bs HS.out (by omega)).mono ?_
  rintro e w1 ⟨r, rfl, r0, r1, hs, ho, hz⟩
  have S1 := zaa hs
  have O1 := zaa ho
  clear hs ho
  go_wp2_with fail
  refine (zgc w0 w1 b (k + 1) vC bs S1.out (by omega)).mono ?_
  rintro e w2 ⟨r', rfl, r2, r3, hs, ho, hz2⟩
  have S2 := zaa hs
  have O2 := zaa (O1.out.trans ho)
  clear hs ho
  go_wp2_with fail
  refine (zgc w0 w2 b (k + 2) vC bs S2.out (by omega)).mono ?_
  rintro e w3 ⟨r'', rfl, r4, r5, hs, ho, hz3⟩
  have S3 := zaa hs
  have O3 := zaa (O2.out.trans ho)
  clear hs ho
  go_wp2
  go_ret
  exact ⟨_, rfl, Int.emod_nonneg _ (by omega), Int.emod_lt_of_pos _ (by omega), S3.out, O3.out, by omega⟩

theorem cells_new {w w' : World} {cs : Array Value} {t : TypeId} {lo hi : Nat} (ho : Outside lo hi (w.alloc (.cells cs t)) w') (hl : hi ≤ w.heap.size) : w'.heap[w.heap.size]? = some (.cells cs t (0, 0)) :=
 (ho.block w.heap.size (by simp) (.inr hl)).trans (zah rfl)

set_option maxRecDepth 100000 in
set_option maxHeartbeats 8000000 in
/-- A word. -/
theorem zml (w0 w : World) (b k : Nat) (vC : Value) (bs : List Int) (h : Src w0 w b vC bs k) (hk : k ≤ 800000) :
  Calls Tryz.prog 164 #[.pointer (some ⟨b, 0, none⟩)] w fun e w' => ∃ r : Int, e = .returned (.int .i64 r) ∧ 0 ≤ r ∧ r < 1099511627776 ∧ Src w0 w' b vC bs (k + 9) ∧ Outside b (b + 1) w w' := by
 have HS := zaa h
 have hsz := h.size
 clear h
 go_enter Tryz.func164, Tryz.ntmps164
 go_wp2_with fail
 refine (zbp 9 (by omega) w0 w b k vC bs HS.out (by omega)).mono ?_
 rintro e w1 ⟨r, rfl, r0, r1, hs, ho, hz⟩
 have S1 := zaa hs
 have O1 := zaa ho
 clear hs ho
 go_wp2_with fail
 refine (zbp 1000 (by omega) w0 w1 b (k + 3) vC bs S1.out (by omega)).mono ?_
 rintro e w2 ⟨r', rfl, r2, r3, hs, ho, hz2⟩
 have S2 := zaa (hs.newer ((Below.refl _ _).alloc (Nat.le_refl _) (.cells #[.int .i64 r, .int .i64 r', .int .i64 1099511627775] 3)))
 have O2 := zaa ((O1.out.trans ho).trans (Outside.of_below ((Below.refl _ _).alloc (Nat.le_refl _) (.cells #[.int .i64 r, .int .i64 r', .int .i64 1099511627775] 3))))
 clear hs ho
 go_wp2_with fail
 refine (zbp 9 (by omega) w0 _ b (k + 6) vC bs S2.out (by omega)).mono ?_
 rintro e w3 ⟨r'', rfl, r4, r5, hs, ho, hz3⟩
 obtain ⟨c0, c1, c2, _⟩ := zfz (cells_new ho (by omega))
 rw [hz2, hz] at c0 c1 c2
 have S3 := zaa hs
 have O3 := zaa (O2.out.trans ho)
 clear hs ho
 rcases (show r'' / 4 = 0 ∨ r'' / 4 = 1 ∨ r'' / 4 = 2 by omega) with e | e | e
 ·go_wp2
  go_ret
  exact ⟨_, rfl, by omega, by omega, S3.out, O3.out⟩
 ·go_wp2
  go_ret
  exact ⟨_, rfl, by omega, by omega, S3.out, O3.out⟩
 ·go_wp2
  go_ret
  exact ⟨_, rfl, by omega, by omega, S3.out, O3.out⟩
end Go.Proofs.YtbbmljakfbhnpaaGreatDoor

namespace Go.Proofs.YtbbmljakfbhnpaaGreatDoor
open Go.RowKit

set_option maxRecDepth 100000 in
/-- A source is made. -/
theorem zrp (v : Value) (bs : List Int) (w : World) (h : RdB w v bs) (hl : bs.length ≤ 1048576) :
  Calls Tryz.prog 32 #[v] w fun e w' => e = .returned (.pointer (some ⟨w.heap.size, 0, none⟩)) ∧ SrcE w w' w.heap.size v bs 0 ((bs.length : Int) % 1000) ∧ Below w.heap.size w w' := by
 have H := zaa h
 obtain ⟨aC, cC, rfl, _⟩ := h.shape
 clear h
 have hm : (0 : Int) ≤ (bs.length : Int) := by omega
 go_enter Tryz.func32, Tryz.ntmps32
 go_wp2
 go_ret
 refine ⟨rfl, ⟨⟨H.out, hl, Nat.le_refl _, (Below.refl _ _).alloc (Nat.le_refl _) _, by simp, 0, (bs.length : Int) % 1000, by omega, by omega, by omega, by omega, zah rfl⟩, by omega, by omega, zah rfl⟩, (Below.refl _ _).alloc (Nat.le_refl _) _⟩

end Go.Proofs.YtbbmljakfbhnpaaGreatDoor
