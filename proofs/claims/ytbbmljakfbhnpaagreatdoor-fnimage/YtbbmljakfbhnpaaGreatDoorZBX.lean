/- Several texts laid together: FsM, FsN. -/
import Derived.Test.YtbbmljakfbhnpaaGreatDoorZBS
import Derived.Test.YtbbmljakfbhnpaaGreatDoorZBU
import Derived.Test.YtbbmljakfbhnpaaGreatDoorFsL
namespace Go.Proofs.YtbbmljakfbhnpaaGreatDoor
open Go.RowKit

/-- A file system's value, told by its parts. -/
structure FV where
 a0 : Option Addr
 n0 : Nat
 c0 : Nat
 a1 : Option Addr
 n1 : Nat
 c1 : Nat
 a2 : Option Addr
 n2 : Nat
 c2 : Nat
 a3 : Option Addr
 n3 : Nat
 c3 : Nat
 a4 : Option Addr
 n4 : Nat
 c4 : Nat
 a5 : Option Addr
 n5 : Nat
 c5 : Nat
 x : Int
 y : Int
 a8 : Option Addr
 n8 : Nat
 c8 : Nat
 z : Bool

/-- A file system with a move to be done. -/
def FsMv (w : World) (v : Value) : Prop := ∃ ws es ns ds hs td, RdFs w v ws es hs td 0 0 [] false ∧ Idle ws es ns ds ∧ zhg hs = true ∧ MvOK ws es td
theorem FsMv.soft {w w' : World} {v : Value} (h : FsMv w v) (s : Soft w w') : FsMv w' v := by
 obtain ⟨ws, es, ns, ds, hs, td, a, b, c, d⟩ := h
 exact ⟨ws, es, ns, ds, hs, td, a.soft s (zcc b).1 (zcc b).2 (by have := (zbj c).1; omega), b, c, d⟩
theorem RdFs.form {w : World} {v : Value} {ws es hs : List Int} {td : List Mi} {cd vl : Int} {nm : List ByteArray} {fr : Bool} (h : RdFs w v ws es hs td cd vl nm fr) : ∃ f : FV, v = .agg #[.slice f.a0 f.n0 f.c0, .slice f.a1 f.n1 f.c1, .slice f.a2 f.n2 f.c2, .slice f.a3 f.n3 f.c3, .slice f.a4 f.n4 f.c4, .slice f.a5 f.n5 f.c5, .int .i64 f.x, .int .i64 f.y, .slice f.a8 f.n8 f.c8, .bool f.z] := by
 obtain ⟨aW, cW, aP, cP, aS, cS, aQ, cQ, aH, cH, aT, cT, aN, cN, rfl, -⟩ := h
 exact ⟨⟨aW, _, cW, aP, _, cP, aS, _, cS, aQ, _, cQ, aH, _, cH, aT, _, cT, _, _, aN, _, cN, _⟩, rfl⟩
theorem FsMv.form {w : World} {v : Value} (h : FsMv w v) : ∃ f : FV, v = .agg #[.slice f.a0 f.n0 f.c0, .slice f.a1 f.n1 f.c1, .slice f.a2 f.n2 f.c2, .slice f.a3 f.n3 f.c3, .slice f.a4 f.n4 f.c4, .slice f.a5 f.n5 f.c5, .int .i64 f.x, .int .i64 f.y, .slice f.a8 f.n8 f.c8, .bool f.z] := by
 obtain ⟨_, _, _, _, _, _, a, _⟩ := h
 exact a.form
theorem FsIdle.form {w : World} {v : Value} (h : FsIdle w v) : ∃ f : FV, v = .agg #[.slice f.a0 f.n0 f.c0, .slice f.a1 f.n1 f.c1, .slice f.a2 f.n2 f.c2, .slice f.a3 f.n3 f.c3, .slice f.a4 f.n4 f.c4, .slice f.a5 f.n5 f.c5, .int .i64 f.x, .int .i64 f.y, .slice f.a8 f.n8 f.c8, .bool f.z] := by
 obtain ⟨_, _, _, _, _, a, _⟩ := h
 exact a.form
theorem ztc (v : Value) (pr : Bool) (w : World) (h : FsIdle w v) :
  Calls Tryz.prog 116 #[v, .bool pr] w fun e w' => ∃ v' c, e = .returned (.tuple #[v', .int .i64 c]) ∧ FsMv w' v' ∧ Below w.heap.size w w' := by
 obtain ⟨ws, es, ns, ds, hs, a, b, c⟩ := h
 refine (zwv v pr ws es hs ns ds w a b c).mono ?_
 rintro e w' ⟨v', cd, td, rfl, r, m, hb⟩
 exact ⟨v', cd, rfl, ⟨ws, es, ns, ds, hs, td, r, b, c, m⟩, hb⟩
theorem ztm (v : Value) (w : World) (h : FsMv w v) :
  Calls Tryz.prog 117 #[v] w fun e w' => ∃ v', e = .returned v' ∧ FsIdle w' v' ∧ Below w.heap.size w w' := by
 obtain ⟨ws, es, ns, ds, hs, td, a, b, c, ⟨ws', es', ns', ds', run, hi'⟩, hm, hl⟩ := h
 refine (zie v ws es hs td 0 0 [] false ws' es' w a b.pm b.bk (by have := (zbj c).1; omega) hm (by omega) run hi'.pm hi'.bk).mono ?_
 rintro e w' ⟨v', rfl, r, hb⟩
 exact ⟨v', rfl, ⟨ws', es', ns', ds', hs, r, hi', c⟩, hb⟩
theorem zwb (v : Value) (w : World) (h : FsIdle w v) :
  Calls Tryz.prog 119 #[v] w fun e w' => ∃ v', e = .returned v' ∧ FsIdle w' v' ∧ Below w.heap.size w w' := by
 obtain ⟨ws, es, ns, ds, hs, a, b, c⟩ := h
 have l1 := b.wi.len
 have l2 := (zeg b.bk).1
 have l3 := (zbj c).1
 refine (l10Own_any v ws es hs [] 0 0 [] false w a (by omega) (by omega) (by omega) (by simp) (by simp)).mono ?_
 rintro e w' ⟨v', rfl, r, hb⟩
 exact ⟨v', rfl, ⟨ws, es, ns, ds, hs, r, b, c⟩, hb⟩
theorem zcb (w w' : World) (v : Value) (h : FsIdle w v) (s : Soft w w') : FsIdle w' v := h.soft s
theorem FsMvSoft (w w' : World) (v : Value) (h : FsMv w v) (s : Soft w w') : FsMv w' v := h.soft s
theorem Src.soft {w0 W W' : World} {b k : Nat} {vC : Value} {bs : List Int} (h : Src w0 W b vC bs k) (O : Outside b (b + 1) W W') : Soft W W' := by
 obtain ⟨aC, cC, rfl, _⟩ := h.code.shape
 obtain ⟨_, _, _, _, _, _, hc⟩ := h.cells
 exact Soft.outside O hc rfl
theorem put10_at {w : World} {b : Nat} {t : TypeId} {x0 x1 x2 x3 x4 x5 x6 x7 x8 x9 : Value} (h : w.heap[b]? = some (.cells #[x0, x1, x2, x3, x4, x5, x6, x7, x8, x9] t (0, 0))) (y0 y1 y2 y3 y4 y5 y6 y7 y8 y9 : Value) : (zff w b y0 y1 y2 y3 y4 y5 y6 y7 y8 y9).heap[b]? = some (.cells #[y0, y1, y2, y3, y4, y5, y6, y7, y8, y9] t (0, 0)) :=
 zlc (zil (zlq (zlg (zfw (zqz (ten_set3 (ten_set2 (ten_set1 (ten_set0 h _) _) _) _) _) _) _) _) _) _

/-- In the midst of drawing a file system. -/
structure FsS (P : World → Value → Prop) (w0 w W : World) (b k : Nat) (vC : Value) (bs : List Int) (fb : Nat) (f : FV) : Prop where
 src : Src w0 W b vC bs k
 out : Outside b (b + 1) w W
 fs : P W (.agg #[.slice f.a0 f.n0 f.c0, .slice f.a1 f.n1 f.c1, .slice f.a2 f.n2 f.c2, .slice f.a3 f.n3 f.c3, .slice f.a4 f.n4 f.c4, .slice f.a5 f.n5 f.c5, .int .i64 f.x, .int .i64 f.y, .slice f.a8 f.n8 f.c8, .bool f.z])
 box : W.heap[fb]? = some (.cells #[.slice f.a0 f.n0 f.c0, .slice f.a1 f.n1 f.c1, .slice f.a2 f.n2 f.c2, .slice f.a3 f.n3 f.c3, .slice f.a4 f.n4 f.c4, .slice f.a5 f.n5 f.c5, .int .i64 f.x, .int .i64 f.y, .slice f.a8 f.n8 f.c8, .bool f.z] 125 (0, 0))
 res : W.heap[w.heap.size]? = some (.cells #[.slice none 0 0, .slice none 0 0, .slice none 0 0, .slice none 0 0, .slice none 0 0, .slice none 0 0, .int .i64 0, .int .i64 0, .slice none 0 0, .bool false] 125 (0, 0))
 far : w.heap.size < fb
 near : b < w.heap.size
 base : w0.heap.size ≤ w.heap.size
theorem FsS.turn {P : World → Value → Prop} (ps : ∀ (w w' : World) (v : Value), P w v → Soft w w' → P w' v) {w0 w W W' : World} {b k k' : Nat} {vC : Value} {bs : List Int} {fb : Nat} {f : FV} (h : FsS P w0 w W b k vC bs fb f) (S : Src w0 W' b vC bs k') (O : Outside b (b + 1) W W') : FsS P w0 w W' b k' vC bs fb f :=
 ⟨S, h.out.trans O, ps _ _ _ h.fs (h.src.soft O), (O.block fb (Array.getElem?_eq_some_iff.1 h.box).1 (by have := h.far; have := h.near; omega)).trans h.box, (O.block _ (Array.getElem?_eq_some_iff.1 h.res).1 (by have := h.near; omega)).trans h.res, h.far, h.near, h.base⟩
theorem FsS.newer {P : World → Value → Prop} (ps : ∀ (w w' : World) (v : Value), P w v → Soft w w' → P w' v) {w0 w W W' : World} {b k : Nat} {vC : Value} {bs : List Int} {fb : Nat} {f : FV} (h : FsS P w0 w W b k vC bs fb f) (B : Below W.heap.size W W') : FsS P w0 w W' b k vC bs fb f :=
 h.turn ps (h.src.newer B) (Outside.of_below B)
/-- The box is written with what a call gave. -/
theorem FsS.call {P Q : World → Value → Prop} (qs : ∀ (w w' : World) (v : Value), Q w v → Soft w w' → Q w' v) {w0 w W W' : World} {b k : Nat} {vC : Value} {bs : List Int} {fb : Nat} {f g : FV} (h : FsS P w0 w W b k vC bs fb f) (B : Below W.heap.size W W') (F : Q W' (.agg #[.slice g.a0 g.n0 g.c0, .slice g.a1 g.n1 g.c1, .slice g.a2 g.n2 g.c2, .slice g.a3 g.n3 g.c3, .slice g.a4 g.n4 g.c4, .slice g.a5 g.n5 g.c5, .int .i64 g.x, .int .i64 g.y, .slice g.a8 g.n8 g.c8, .bool g.z])) : FsS Q w0 w (zff W' fb (.slice g.a0 g.n0 g.c0) (.slice g.a1 g.n1 g.c1) (.slice g.a2 g.n2 g.c2) (.slice g.a3 g.n3 g.c3) (.slice g.a4 g.n4 g.c4) (.slice g.a5 g.n5 g.c5) (.int .i64 g.x) (.int .i64 g.y) (.slice g.a8 g.n8 g.c8) (.bool g.z)) b k vC bs fb g := by
 have O := zbt W' fb (.slice g.a0 g.n0 g.c0) (.slice g.a1 g.n1 g.c1) (.slice g.a2 g.n2 g.c2) (.slice g.a3 g.n3 g.c3) (.slice g.a4 g.n4 g.c4) (.slice g.a5 g.n5 g.c5) (.int .i64 g.x) (.int .i64 g.y) (.slice g.a8 g.n8 g.c8) (.bool g.z)
 have bx := (B.block fb (Array.getElem?_eq_some_iff.1 h.box).1).trans h.box
 have f := h.far
 have n := h.near
 have z := h.base
 have rs := (B.block w.heap.size (Array.getElem?_eq_some_iff.1 h.res).1).trans h.res
 exact ⟨(h.src.newer B).outside O (by omega) (by omega), (h.out.trans (Outside.of_below B)).newer O (by omega), qs _ _ _ F (Soft.outside O bx rfl), put10_at bx (.slice g.a0 g.n0 g.c0) (.slice g.a1 g.n1 g.c1) (.slice g.a2 g.n2 g.c2) (.slice g.a3 g.n3 g.c3) (.slice g.a4 g.n4 g.c4) (.slice g.a5 g.n5 g.c5) (.int .i64 g.x) (.int .i64 g.y) (.slice g.a8 g.n8 g.c8) (.bool g.z), (O.block _ (Array.getElem?_eq_some_iff.1 rs).1 (by omega)).trans rs, f, n, z⟩

set_option maxRecDepth 100000 in
set_option maxHeartbeats 32000000 in
theorem srcFs_any (w0 w : World) (b k : Nat) (vC : Value) (bs : List Int) (h : Src w0 w b vC bs k) (hk : k ≤ 10000) :
  Calls Tryz.prog 78 #[.pointer (some ⟨b, 0, none⟩)] w fun e w' => ∃ v' k', e = .returned v' ∧ k' ≤ k + 3000 ∧ FsIdle w' v' ∧ Src w0 w' b vC bs k' ∧ Outside b (b + 1) w w' := by
 have near := h.size
 have base := h.below.size
 have HS := zaa h
 clear h
 obtain ⟨V, hV⟩ : ∃ V, V = w.alloc (.cells zdr.toArray 125) := ⟨_, rfl⟩
 have RV : Hid (V.heap[w.heap.size]? = some (.cells #[.slice none 0 0, .slice none 0 0, .slice none 0 0, .slice none 0 0, .slice none 0 0, .slice none 0 0, .int .i64 0, .int .i64 0, .slice none 0 0, .bool false] 125 (0, 0))) := by rw [hV]; exact zag rfl
 have BV : Hid (Below w.heap.size w V) := by rw [hV]; exact (Below.refl _ _).alloc (Nat.le_refl _) _
 have zV : Hid (w.heap.size < V.heap.size) := by rw [hV]; simp [Hid]
 unfold zdr at hV
 go_enter Tryz.func78, Tryz.ntmps78
 go_upto_region 1 with fail
 rw [← hV]
 clear hV
 go_wp2_with fail
 refine (newFs_any V).mono ?_
 rintro e w1 ⟨v1, rfl, hf1, hb1⟩
 obtain ⟨g1, rfl⟩ := hf1.form
 have F1 := zaa hf1
 have B1 := zaa hb1
 clear hf1 hb1
 obtain ⟨W1, hW1⟩ : ∃ W1, W1 = w1.alloc (.cells #[.slice g1.a0 g1.n0 g1.c0, .slice g1.a1 g1.n1 g1.c1, .slice g1.a2 g1.n2 g1.c2, .slice g1.a3 g1.n3 g1.c3, .slice g1.a4 g1.n4 g1.c4, .slice g1.a5 g1.n5 g1.c5, .int .i64 g1.x, .int .i64 g1.y, .slice g1.a8 g1.n8 g1.c8, .bool g1.z] 125) := ⟨_, rfl⟩
 have I1 : Hid (FsS FsIdle w0 w W1 b k vC bs w1.heap.size g1) := by
  rw [hW1]
  have A1 : Below w1.heap.size w1 (w1.alloc (.cells #[.slice g1.a0 g1.n0 g1.c0, .slice g1.a1 g1.n1 g1.c1, .slice g1.a2 g1.n2 g1.c2, .slice g1.a3 g1.n3 g1.c3, .slice g1.a4 g1.n4 g1.c4, .slice g1.a5 g1.n5 g1.c5, .int .i64 g1.x, .int .i64 g1.y, .slice g1.a8 g1.n8 g1.c8, .bool g1.z] 125)) := (Below.refl _ _).alloc (Nat.le_refl _) _
  have BA := zab BV.out B1.out BV.out.size
  have BB := zab BA A1 BA.size
  exact ⟨HS.out.newer BB, Outside.of_below BB, F1.out.below A1, zag rfl, zaj ((B1.out.block _ zV.out).trans RV.out), Nat.lt_of_lt_of_le zV.out B1.out.size, near, base⟩
 clear B1 F1 RV BV zV HS
 go_upto_region 2 with fail
 rw [← hW1]
 clear hW1
 generalize w1.heap.size = fb at *
 obtain ⟨c0, c1, c2, c3, c4, c5, c6, c7, c8, c9, f0, f1, f2, f3, f4, f5, f6, f7, f8, f9⟩ := zai I1.out.box
 go_wp2_with fail
 refine (znm _ 1 ⟨#[47, 97]⟩ ⟨#[]⟩ 0 0 _ I1.out.fs (by decide) (by decide)).mono ?_
 rintro e w2 ⟨v2, cd2, vl2, a2, n2, k2, rfl, hf2, hb2⟩
 obtain ⟨g2, rfl⟩ := hf2.form
 have F2 := zaa hf2
 have B2 := zaa hb2
 clear hf2 hb2
 clear c0 c1 c2 c3 c4 c5 c6 c7 c8 c9 f0 f1 f2 f3 f4 f5 f6 f7 f8 f9
 obtain ⟨W2, hW2⟩ : ∃ W2, W2 = zff w2 fb (.slice g2.a0 g2.n0 g2.c0) (.slice g2.a1 g2.n1 g2.c1) (.slice g2.a2 g2.n2 g2.c2) (.slice g2.a3 g2.n3 g2.c3) (.slice g2.a4 g2.n4 g2.c4) (.slice g2.a5 g2.n5 g2.c5) (.int .i64 g2.x) (.int .i64 g2.y) (.slice g2.a8 g2.n8 g2.c8) (.bool g2.z) := ⟨_, rfl⟩
 have I2 := zaa (FsS.call (Q := FsIdle) (g := g2) zcb I1.out B2.out F2.out)
 rw [← hW2] at I2
 have NBW2 := zaa ((B2.out.block fb (Array.getElem?_eq_some_iff.1 I1.out.box).1).trans I1.out.box)
 obtain ⟨c0, c1, c2, c3, c4, c5, c6, c7, c8, c9, f0, f1, f2, f3, f4, f5, f6, f7, f8, f9⟩ := zai NBW2.out
 unfold zff at hW2
 go_upto_region 3 with fail
 rw [← hW2]
 clear hW2 c0 c1 c2 c3 c4 c5 c6 c7 c8 c9 f0 f1 f2 f3 f4 f5 f6 f7 f8 f9 NBW2 I1 F2 B2
 obtain ⟨c0, c1, c2, c3, c4, c5, c6, c7, c8, c9, f0, f1, f2, f3, f4, f5, f6, f7, f8, f9⟩ := zai I2.out.box
 go_wp2_with fail
 refine (znm _ 2 ⟨#[47, 98]⟩ ⟨#[]⟩ 0 0 _ I2.out.fs (by decide) (by decide)).mono ?_
 rintro e w3 ⟨v3, cd3, vl3, a3, n3, k3, rfl, hf3, hb3⟩
 obtain ⟨g3, rfl⟩ := hf3.form
 have F3 := zaa hf3
 have B3 := zaa hb3
 clear hf3 hb3
 clear c0 c1 c2 c3 c4 c5 c6 c7 c8 c9 f0 f1 f2 f3 f4 f5 f6 f7 f8 f9
 obtain ⟨W3, hW3⟩ : ∃ W3, W3 = zff w3 fb (.slice g3.a0 g3.n0 g3.c0) (.slice g3.a1 g3.n1 g3.c1) (.slice g3.a2 g3.n2 g3.c2) (.slice g3.a3 g3.n3 g3.c3) (.slice g3.a4 g3.n4 g3.c4) (.slice g3.a5 g3.n5 g3.c5) (.int .i64 g3.x) (.int .i64 g3.y) (.slice g3.a8 g3.n8 g3.c8) (.bool g3.z) := ⟨_, rfl⟩
 have I3 := zaa (FsS.call (Q := FsIdle) (g := g3) zcb I2.out B3.out F3.out)
 rw [← hW3] at I3
 have NBW3 := zaa ((B3.out.block fb (Array.getElem?_eq_some_iff.1 I2.out.box).1).trans I2.out.box)
 obtain ⟨c0, c1, c2, c3, c4, c5, c6, c7, c8, c9, f0, f1, f2, f3, f4, f5, f6, f7, f8, f9⟩ := zai NBW3.out
 unfold zff at hW3
 go_upto_region 4 with fail
 rw [← hW3]
 clear hW3 c0 c1 c2 c3 c4 c5 c6 c7 c8 c9 f0 f1 f2 f3 f4 f5 f6 f7 f8 f9 NBW3 I2 F3 B3
 go_wp2_with fail
 refine (zus w0 _ b k vC bs I3.out.src).mono ?_
 rintro e w4 ⟨sz, rfl, s0, s1, rfl⟩
 have ws8 : IntKind.i64.wrap (sz + 8) = sz + 8 := by rw [IntKind.wrap_i64]; omega
 go_wp2_with fail
 refine (zbn (sz + 8) (by omega) w0 _ b k vC bs I3.out.src (by omega)).mono ?_
 rintro e w5 ⟨r, rfl, r0, r1, hs, ho, -⟩
 have I5 := zaa (I3.out.turn zcb hs ho)
 clear hs ho I3 ws8
 obtain ⟨n, rfl⟩ : ∃ n : Nat, r = (n : Int) := ⟨r.toNat, by omega⟩
 have n28 : n ≤ 28 := by omega
 clear r0 r1 s0 s1
 go_wp2
 go_loopw [4] (fun i wr => ∃ (j q : Nat) (f : FV), j ≤ 28 ∧ i = .int .i64 (j : Int) ∧ q + 80 * j ≤ k + 2400 ∧ Hid (FsS FsIdle w0 w wr b q vC bs fb f)) (fun i _ => (intOf i).toNat)
 case atStart => exact ⟨n, _, _, n28, rfl, by omega, I5⟩
 case round =>
  obtain ⟨j, q, f, hj, rfl, hq, I⟩ := hrel
  clear I5
  by_cases c : 0 < j
  ·have cj : (0 : Int) < (j : Int) := by omega
   go_wp2_with fail
   refine (zga 4 (by omega) w0 _ b q vC bs I.out.src (by omega)).mono ?_
   rintro e w6 ⟨rc, rfl, hs, ho, -⟩
   have I6 := zaa (I.out.turn zcb hs ho)
   clear hs ho I
   cases rc with
   | true =>
    obtain ⟨c0, c1, c2, c3, c4, c5, c6, c7, c8, c9, f0, f1, f2, f3, f4, f5, f6, f7, f8, f9⟩ := zai I6.out.box
    go_upto_region 8 with fail
    go_region_with (first
     | (go_at_call 115; refine (zga 2 (by omega) w0 _ b _ vC bs (I6.out.src.newer (by repeat (first | exact Below.refl _ _ | refine Below.drew ?_))) (by omega)).mono ?_; rintro e w7 ⟨pr, rfl, hs, ho, -⟩; have I7 := zaa ((I6.out.newer zcb (by repeat (first | exact Below.refl _ _ | refine Below.drew ?_))).turn zcb hs ho); clear hs ho c0 c1 c2 c3 c4 c5 c6 c7 c8 c9 f0 f1 f2 f3 f4 f5 f6 f7 f8 f9; obtain ⟨c0, c1, c2, c3, c4, c5, c6, c7, c8, c9, f0, f1, f2, f3, f4, f5, f6, f7, f8, f9⟩ := zai I7.out.box)
     | (go_at_call 116; refine (ztc _ pr _ (I7.out.newer zcb (by repeat (first | exact Below.refl _ _ | refine Below.drew ?_))).fs).mono ?_; rintro e w8 ⟨v8, c8', rfl, hf8, hb8⟩; obtain ⟨g8, rfl⟩ := hf8.form; have F8 := zaa hf8; have B8 : Hid (Below w7.heap.size w7 w8) := (by first | exact hb8 | exact zab (by repeat (first | exact Below.refl _ _ | refine Below.drew ?_)) hb8 (Nat.le_refl _)); clear hf8 hb8 c0 c1 c2 c3 c4 c5 c6 c7 c8 c9 f0 f1 f2 f3 f4 f5 f6 f7 f8 f9; have NB8 := zaa ((B8.out.block fb (Array.getElem?_eq_some_iff.1 I7.out.box).1).trans I7.out.box); obtain ⟨c0, c1, c2, c3, c4, c5, c6, c7, c8, c9, f0, f1, f2, f3, f4, f5, f6, f7, f8, f9⟩ := zai NB8.out))
    all_goals
     obtain ⟨U8, hU8⟩ : ∃ U8, U8 = zff w8 fb (.slice g8.a0 g8.n0 g8.c0) (.slice g8.a1 g8.n1 g8.c1) (.slice g8.a2 g8.n2 g8.c2) (.slice g8.a3 g8.n3 g8.c3) (.slice g8.a4 g8.n4 g8.c4) (.slice g8.a5 g8.n5 g8.c5) (.int .i64 g8.x) (.int .i64 g8.y) (.slice g8.a8 g8.n8 g8.c8) (.bool g8.z) := ⟨_, rfl⟩
     have I8 := zaa (FsS.call (Q := FsMv) (g := g8) FsMvSoft I7.out B8.out F8.out)
     rw [← hU8] at I8
     unfold zff at hU8
     rw [← hU8]
     clear hU8 c0 c1 c2 c3 c4 c5 c6 c7 c8 c9 f0 f1 f2 f3 f4 f5 f6 f7 f8 f9 NB8 I7 F8 B8
     obtain ⟨c0, c1, c2, c3, c4, c5, c6, c7, c8, c9, f0, f1, f2, f3, f4, f5, f6, f7, f8, f9⟩ := zai I8.out.box
     go_wp2_with fail
     refine (ztm _ _ I8.out.fs).mono ?_
     rintro e w9 ⟨v9, rfl, hf9, hb9⟩
     obtain ⟨g9, rfl⟩ := hf9.form
     have F9 := zaa hf9
     have B9 := zaa hb9
     clear hf9 hb9
     clear c0 c1 c2 c3 c4 c5 c6 c7 c8 c9 f0 f1 f2 f3 f4 f5 f6 f7 f8 f9
     obtain ⟨U9, hU9⟩ : ∃ U9, U9 = zff w9 fb (.slice g9.a0 g9.n0 g9.c0) (.slice g9.a1 g9.n1 g9.c1) (.slice g9.a2 g9.n2 g9.c2) (.slice g9.a3 g9.n3 g9.c3) (.slice g9.a4 g9.n4 g9.c4) (.slice g9.a5 g9.n5 g9.c5) (.int .i64 g9.x) (.int .i64 g9.y) (.slice g9.a8 g9.n8 g9.c8) (.bool g9.z) := ⟨_, rfl⟩
     have I9 := zaa (FsS.call (Q := FsIdle) (g := g9) zcb I8.out B9.out F9.out)
     rw [← hU9] at I9
     have NBU9 := zaa ((B9.out.block fb (Array.getElem?_eq_some_iff.1 I8.out.box).1).trans I8.out.box)
     obtain ⟨c0, c1, c2, c3, c4, c5, c6, c7, c8, c9, f0, f1, f2, f3, f4, f5, f6, f7, f8, f9⟩ := zai NBU9.out
     unfold zff at hU9
     go_upto_region 6 with fail
     rw [← hU9]
     clear hU9 c0 c1 c2 c3 c4 c5 c6 c7 c8 c9 f0 f1 f2 f3 f4 f5 f6 f7 f8 f9 NBU9 I8 F9 B9
     go_wp2
     go_roundw
     case rel => exact ⟨j - 1, _, _, by omega, by go_num, by omega, I9⟩
     case measure => simp [intOf]; omega
   | false =>
    obtain ⟨c0, c1, c2, c3, c4, c5, c6, c7, c8, c9, f0, f1, f2, f3, f4, f5, f6, f7, f8, f9⟩ := zai I6.out.box
    go_upto_region 10 with fail
    go_region_with (first
     | (go_at_call 118; refine (srcOp_any w0 _ b _ vC bs (I6.out.src.newer (by repeat (first | exact Below.refl _ _ | refine Below.drew ?_))) (by omega)).mono ?_; rintro e w7 ⟨kd, pp, tt, gg, yy, rfl, hp, ht, hs, ho⟩; have HP := zaa (And.intro hp ht); have I7 := zaa ((I6.out.newer zcb (by repeat (first | exact Below.refl _ _ | refine Below.drew ?_))).turn zcb hs ho); clear hs ho hp ht c0 c1 c2 c3 c4 c5 c6 c7 c8 c9 f0 f1 f2 f3 f4 f5 f6 f7 f8 f9; obtain ⟨c0, c1, c2, c3, c4, c5, c6, c7, c8, c9, f0, f1, f2, f3, f4, f5, f6, f7, f8, f9⟩ := zai I7.out.box)
     | (go_at_call 112; refine (znm _ kd pp tt gg yy _ (I7.out.newer zcb (by repeat (first | exact Below.refl _ _ | refine Below.drew ?_))).fs (by have := HP.out.1; omega) (by have := HP.out.2; omega)).mono ?_; rintro e w8 ⟨v8, cd8, vl8, a8, n8, k8, rfl, hf8, hb8⟩; obtain ⟨g8, rfl⟩ := hf8.form; have F8 := zaa hf8; have B8 : Hid (Below w7.heap.size w7 w8) := (by first | exact hb8 | exact zab (by repeat (first | exact Below.refl _ _ | refine Below.drew ?_)) hb8 (Nat.le_refl _)); clear hf8 hb8 c0 c1 c2 c3 c4 c5 c6 c7 c8 c9 f0 f1 f2 f3 f4 f5 f6 f7 f8 f9; have NB8 := zaa ((B8.out.block fb (Array.getElem?_eq_some_iff.1 I7.out.box).1).trans I7.out.box); obtain ⟨c0, c1, c2, c3, c4, c5, c6, c7, c8, c9, f0, f1, f2, f3, f4, f5, f6, f7, f8, f9⟩ := zai NB8.out))
    all_goals
     obtain ⟨U8, hU8⟩ : ∃ U8, U8 = zff w8 fb (.slice g8.a0 g8.n0 g8.c0) (.slice g8.a1 g8.n1 g8.c1) (.slice g8.a2 g8.n2 g8.c2) (.slice g8.a3 g8.n3 g8.c3) (.slice g8.a4 g8.n4 g8.c4) (.slice g8.a5 g8.n5 g8.c5) (.int .i64 g8.x) (.int .i64 g8.y) (.slice g8.a8 g8.n8 g8.c8) (.bool g8.z) := ⟨_, rfl⟩
     have I8 := zaa (FsS.call (Q := FsIdle) (g := g8) zcb I7.out B8.out F8.out)
     rw [← hU8] at I8
     unfold zff at hU8
     rw [← hU8]
     clear hU8 c0 c1 c2 c3 c4 c5 c6 c7 c8 c9 f0 f1 f2 f3 f4 f5 f6 f7 f8 f9 NB8 I7 F8 B8
     go_wp2
     go_roundw
     case rel => exact ⟨j - 1, _, _, by omega, by go_num, by omega, I8⟩
     case measure => simp [intOf]; omega
  ·obtain rfl : j = 0 := by omega
   obtain ⟨c0, c1, c2, c3, c4, c5, c6, c7, c8, c9, f0, f1, f2, f3, f4, f5, f6, f7, f8, f9⟩ := zai I.out.box
   go_wp2_with fail
   refine (zwb _ _ I.out.fs).mono ?_
   rintro e w9 ⟨v9, rfl, hf9, hb9⟩
   obtain ⟨g9, rfl⟩ := hf9.form
   have F9 := zaa hf9
   have B9 := zaa hb9
   clear hf9 hb9
   have R9 := zaa ((B9.out.block w.heap.size (Array.getElem?_eq_some_iff.1 I.out.res).1).trans I.out.res)
   have O9 := zaa (zbt w9 w.heap.size (.slice g9.a0 g9.n0 g9.c0) (.slice g9.a1 g9.n1 g9.c1) (.slice g9.a2 g9.n2 g9.c2) (.slice g9.a3 g9.n3 g9.c3) (.slice g9.a4 g9.n4 g9.c4) (.slice g9.a5 g9.n5 g9.c5) (.int .i64 g9.x) (.int .i64 g9.y) (.slice g9.a8 g9.n8 g9.c8) (.bool g9.z))
   have FF := zaa (F9.out.soft (Soft.outside O9.out R9.out rfl))
   have SF := zaa ((I.out.src.newer B9.out).outside O9.out (.inl near) base)
   have OF := zaa ((I.out.out.trans (Outside.of_below B9.out)).newer O9.out (Nat.le_refl _))
   clear c0 c1 c2 c3 c4 c5 c6 c7 c8 c9 f0 f1 f2 f3 f4 f5 f6 f7 f8 f9 O9 I F9 B9
   obtain ⟨y0, y1, y2, y3, y4, y5, y6, y7, y8, y9, m0, m1, m2, m3, m4, m5, m6, m7, m8, m9⟩ := zai R9.out
   go_wp2
   refine bodyPost_ret (v := .agg #[.slice g9.a0 g9.n0 g9.c0, .slice g9.a1 g9.n1 g9.c1, .slice g9.a2 g9.n2 g9.c2, .slice g9.a3 g9.n3 g9.c3, .slice g9.a4 g9.n4 g9.c4, .slice g9.a5 g9.n5 g9.c5, .int .i64 g9.x, .int .i64 g9.y, .slice g9.a8 g9.n8 g9.c8, .bool g9.z]) (by simp [results, Tryz.results78, go_sem, y0, y1, y2, y3, y4, y5, y6, y7, y8, y9]) rfl ?_
   exact ⟨_, _, rfl, by omega, FF.out, SF.out, OF.out⟩
end Go.Proofs.YtbbmljakfbhnpaaGreatDoor

namespace Go.Proofs.YtbbmljakfbhnpaaGreatDoor
open Go.RowKit

theorem zve (f : FV) (w : World) : (Instr.field 125 (.agg #[.slice f.a0 f.n0 f.c0, .slice f.a1 f.n1 f.c1, .slice f.a2 f.n2 f.c2, .slice f.a3 f.n3 f.c3, .slice f.a4 f.n4 f.c4, .slice f.a5 f.n5 f.c5, .int .i64 f.x, .int .i64 f.y, .slice f.a8 f.n8 f.c8, .bool f.z]) 0).run Tryz.prog w = .ok (.agg #[.slice f.a0 f.n0 f.c0, .slice f.a1 f.n1 f.c1, .slice f.a2 f.n2 f.c2, .slice f.a3 f.n3 f.c3]) w := by kernel_rfl
theorem zsj (a b c d : Value) (w : World) : (Instr.field 36 (.agg #[a, b, c, d]) 0).run Tryz.prog w = .ok (.agg #[a, b]) w := by kernel_rfl
theorem zsd (f : FV) (w : World) (h : FsIdle w (.agg #[.slice f.a0 f.n0 f.c0, .slice f.a1 f.n1 f.c1, .slice f.a2 f.n2 f.c2, .slice f.a3 f.n3 f.c3, .slice f.a4 f.n4 f.c4, .slice f.a5 f.n5 f.c5, .int .i64 f.x, .int .i64 f.y, .slice f.a8 f.n8 f.c8, .bool f.z])) : ∃ ws es ns ds, Idle ws es ns ds ∧ Calls Tryz.prog 77 #[.agg #[.slice f.a0 f.n0 f.c0, .slice f.a1 f.n1 f.c1]] w fun e w' => ∃ v', e = .returned (.tuple #[v', .bool true]) ∧ RdIm w' v' ns ds ∧ Below w.heap.size w w' := by
 obtain ⟨ws, es, ns, ds, hs, ⟨aW, cW, aP, cP, aS, cS, aQ, cQ, aH, cH, aT, cT, aN, cN, ev, a, b, c, d⟩, hi, hh⟩ := h
 simp only [Value.agg.injEq, Array.mk.injEq, List.cons.injEq, Value.slice.injEq, and_true] at ev
 obtain ⟨⟨e1, e2, e3⟩, ⟨e4, e5, e6⟩, -⟩ := ev
 rw [e1, e2, e3, e4, e5, e6]
 refine ⟨ws, es, ns, ds, hi, ?_⟩
 obtain ⟨_, _, _, _, e1, q, _⟩ := a
 simp only [Value.agg.injEq, Array.mk.injEq, List.cons.injEq, and_true] at e1
 obtain ⟨rfl, rfl, -, -⟩ := e1
 refine (zhq _ ws [] w q hi.pm).mono ?_
 rintro e w' ⟨⟨v', rfl, h1, _⟩, hb'⟩
 have gd : zbu (zck ws []) 24 = true := hi.wi.good
 refine ⟨v', by rw [gd], ?_, hb'⟩
 have := h1 gd
 rw [show zbc (zck ws []) 16 = ns from hi.wi.inos, show zbe (zck ws []) 24 = ds from hi.wi.dens] at this
 exact this.rd

set_option maxRecDepth 100000 in
set_option maxHeartbeats 16000000 in
theorem ztg (w0 w : World) (b k : Nat) (vC : Value) (bs : List Int) (h : Src w0 w b vC bs k) (hk : k ≤ 10000) :
  Calls Tryz.prog 33 #[.pointer (some ⟨b, 0, none⟩)] w fun e w' => ∃ v' ws es ns ds k', e = .returned v' ∧ k' ≤ k + 3000 ∧ Idle ws es ns ds ∧ RdIm w' v' ns ds ∧ Src w0 w' b vC bs k' ∧ Outside b (b + 1) w w' := by
 have near := h.size
 have base := h.below.size
 obtain ⟨V, hV⟩ : ∃ V, V = w.alloc (.cells #[.slice none 0 0, .slice none 0 0] 26) := ⟨_, rfl⟩
 have RV : Hid (V.heap[w.heap.size]? = some (.cells #[.slice none 0 0, .slice none 0 0] 26 (0, 0))) := by rw [hV]; exact zag rfl
 have BV : Hid (Below w.heap.size w V) := by rw [hV]; exact (Below.refl _ _).alloc (Nat.le_refl _) _
 have zV : Hid (w.heap.size < V.heap.size) := by rw [hV]; simp [Hid]
 have HS := zaa (h.newer BV.out)
 clear h
 go_enter Tryz.func33, Tryz.ntmps33
 go_upto_region 1 with fail
 rw [← hV]
 clear hV
 go_wp2_with fail
 refine (srcFs_any w0 V b k vC bs HS.out hk).mono ?_
 rintro e w1 ⟨v1, k', rfl, hk', hf, hs, ho⟩
 obtain ⟨f, rfl⟩ := hf.form
 obtain ⟨ws, es, ns, ds, hi, LR⟩ := zsd f w1 hf
 have HI := zaa hi
 have LR := zaa LR
 have S1 := zaa hs
 have O1 := zaa ho
 clear hf hs ho hi HS
 have q1 := zve f w1
 have q2 := zsj (.slice f.a0 f.n0 f.c0) (.slice f.a1 f.n1 f.c1) (.slice f.a2 f.n2 f.c2) (.slice f.a3 f.n3 f.c3) w1
 go_wp2_with fail
 clear q1 q2
 refine LR.out.mono ?_
 rintro e w2 ⟨v2, rfl, hr2, hb2⟩
 have R2 := zaa hr2
 have S2 := zaa (S1.out.newer hb2)
 have O2 := zaa ((Outside.of_below BV.out).trans (O1.out.trans (Outside.of_below hb2)))
 have RR := zaa ((hb2.block w.heap.size (Nat.lt_of_lt_of_le zV.out O1.out.size)).trans ((O1.out.block w.heap.size zV.out (by omega)).trans RV.out))
 obtain ⟨vI, vD, rfl, hI, hD⟩ := hr2
 obtain ⟨-, a1, k1, hv1, -⟩ := hI
 obtain ⟨-, a2, k2, hv2, -⟩ := hD
 subst hv1
 subst hv2
 clear hb2 LR S1 O1 BV RV zV
 obtain ⟨W2, hW2⟩ : ∃ W2, W2 = w2.alloc (.cells #[.slice a1 ns.length k1, .slice a2 ds.length k2] 26) := ⟨_, rfl⟩
 have BW : Hid (Below w2.heap.size w2 W2) := by rw [hW2]; exact (Below.refl _ _).alloc (Nat.le_refl _) _
 have MW : Hid (W2.heap[w2.heap.size]? = some (.cells #[.slice a1 ns.length k1, .slice a2 ds.length k2] 26 (0, 0))) := by rw [hW2]; exact zag rfl
 have RW := zaa ((BW.out.block w.heap.size (Array.getElem?_eq_some_iff.1 RR.out).1).trans RR.out)
 go_upto_region 2 with fail
 rw [← hW2]
 clear hW2
 obtain ⟨i0, i1, -, -⟩ := zad MW.out
 obtain ⟨r0, r1, r2, r3⟩ := zad RW.out
 have OF : Hid (Outside w.heap.size (w.heap.size + 1) W2 ((W2.setCell ⟨w.heap.size, 0, none⟩ (.slice a1 ns.length k1)).setCell ⟨w.heap.size, 1, none⟩ (.slice a2 ds.length k2))) := by
  unfold Hid
  repeat (refine Outside.setCell ?_ (by simp only; omega) (by simp only; omega) _)
  exact Outside.refl _ _ _
 have SO := zaa (Soft.outside OF.out RW.out rfl)
 have FI := zaa ((R2.out.below BW.out).soft SO.out)
 have SF := zaa ((S2.out.newer BW.out).outside OF.out (.inl near) base)
 have OO := zaa ((O2.out.trans (Outside.of_below BW.out)).newer OF.out (Nat.le_refl _))
 clear OF SO R2 S2 O2 BW
 go_wp2
 refine bodyPost_ret (v := .agg #[.slice a1 ns.length k1, .slice a2 ds.length k2]) (by simp [results, Tryz.results33, go_sem, r0, r1]) rfl ?_
 exact ⟨_, _, _, _, _, _, rfl, hk', HI.out, FI.out, SF.out, OO.out⟩

set_option maxRecDepth 100000 in
theorem zwl (v : Value) (bs : List Int) (w : World) (h : RdB w v bs) (hl : bs.length ≤ 1048576) :
  Calls Tryz.prog 6 #[v] w fun e w' => ∃ v' ws es ns ds, e = .returned v' ∧ Idle ws es ns ds ∧ RdIm w' v' ns ds ∧ Below w.heap.size w w' := by
 have H := zaa h
 obtain ⟨aC, cC, rfl, _⟩ := h.shape
 obtain ⟨V, hV⟩ : ∃ V, V = w.alloc (.cells #[.slice none 0 0, .slice none 0 0] 26) := ⟨_, rfl⟩
 have RV : Hid (V.heap[w.heap.size]? = some (.cells #[.slice none 0 0, .slice none 0 0] 26 (0, 0))) := by rw [hV]; exact zag rfl
 have BV : Hid (Below w.heap.size w V) := by rw [hV]; exact (Below.refl _ _).alloc (Nat.le_refl _) _
 have zV : Hid (w.heap.size < V.heap.size) := by rw [hV]; simp [Hid]
 clear h
 go_enter Tryz.func6, Tryz.ntmps6
 go_upto_region 1 with fail
 rw [← hV]
 clear hV
 go_wp2_with fail
 refine (zqc _ bs V (H.out.below BV.out) hl).mono ?_
 rintro e w1 ⟨rfl, S, hb⟩
 have S1 := zaa S.src
 have B1 := zaa hb
 clear S hb
 go_wp2_with fail
 refine (ztg V w1 _ _ _ bs S1.out (by omega)).mono ?_
 rintro e w2 ⟨v2, ws, es, ns, ds, k', rfl, -, hi, hr2, -, ho⟩
 have HI := zaa hi
 have R2 := zaa hr2
 have B2 := zaa (B1.out.trans (ho.below (Nat.le_refl _) B1.out.size))
 have B3 := zaa (zab BV.out B2.out BV.out.size)
 have RW := zaa ((B2.out.block w.heap.size zV.out).trans RV.out)
 obtain ⟨vI, vD, rfl, hI, hD⟩ := hr2
 obtain ⟨-, a1, k1, hv1, -⟩ := hI
 obtain ⟨-, a2, k2, hv2, -⟩ := hD
 subst hv1
 subst hv2
 clear ho hi S1 B1 RV BV zV B2
 obtain ⟨r0, r1, r2, r3⟩ := zad RW.out
 have OF : Hid (Outside w.heap.size (w.heap.size + 1) w2 ((w2.setCell ⟨w.heap.size, 0, none⟩ (.slice a1 ns.length k1)).setCell ⟨w.heap.size, 1, none⟩ (.slice a2 ds.length k2))) := by
  unfold Hid
  repeat (refine Outside.setCell ?_ (by simp only; omega) (by simp only; omega) _)
  exact Outside.refl _ _ _
 have FI := zaa (R2.out.soft (Soft.outside OF.out RW.out rfl))
 have BF := zaa (B3.out.trans (OF.out.below (B := w.heap.size) (Nat.le_refl _) B3.out.size))
 clear OF R2 B3
 go_wp2
 refine bodyPost_ret (v := .agg #[.slice a1 ns.length k1, .slice a2 ds.length k2]) (by simp [results, Tryz.results6, go_sem, r0, r1]) rfl ?_
 exact ⟨_, _, _, _, _, rfl, HI.out, FI.out, BF.out⟩
end Go.Proofs.YtbbmljakfbhnpaaGreatDoor
