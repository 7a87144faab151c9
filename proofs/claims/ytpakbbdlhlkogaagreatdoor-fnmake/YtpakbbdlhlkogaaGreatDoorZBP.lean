/- Several texts laid together: FsM, FsN, FsO, SameW. -/
import Derived.Test.YtpakbbdlhlkogaaGreatDoorFsI
import Derived.Test.YtpakbbdlhlkogaaGreatDoorZBM
import Derived.Test.YtpakbbdlhlkogaaGreatDoorFsL
import Derived.Test.YtpakbbdlhlkogaaGreatDoorZAC
import Derived.Test.YtpakbbdlhlkogaaGreatDoorZAB
import Derived.Test.YtpakbbdlhlkogaaGreatDoorZAS
import Derived.Test.YtpakbbdlhlkogaaGreatDoorZAE
import Derived.Deep.RegionHeld3
import Derived.Deep.RegionWith
import Derived.Deep.DeepCutAuto
namespace Go.Proofs.YtpakbbdlhlkogaaGreatDoor
open Go.RowKit
structure FV where
 a0 : Option Addr
 n0 : Nat
 c0 : Nat
 a1 : Option Addr
 n1 : Nat
 c1 : Nat
 a2 : Option Addr
 n2 : Nat
 c2 : Nat
 a3 : Option Addr
 n3 : Nat
 c3 : Nat
 a4 : Option Addr
 n4 : Nat
 c4 : Nat
 a5 : Option Addr
 n5 : Nat
 c5 : Nat
 x : Int
 y : Int
 a8 : Option Addr
 n8 : Nat
 c8 : Nat
 z : Bool
def FsMv (w : World) (v : Value) : Prop := ∃ ws es ns ds hs td, RdFs w v ws es hs td 0 0 [] false ∧ Idle ws es ns ds ∧ ziz hs = true ∧ MvOK ws es td
theorem FsMv.soft {w w' : World} {v : Value} (h : FsMv w v) (s : Soft w w') : FsMv w' v := by
 obtain ⟨ws, es, ns, ds, hs, td, a, b, c, d⟩ := h
 exact ⟨ws, es, ns, ds, hs, td, a.soft s (zch b).1 (zch b).2 (by have := (zbt c).1; omega), b, c, d⟩
theorem RdFs.form {w : World} {v : Value} {ws es hs : List Int} {td : List Mi} {cd vl : Int} {nm : List ByteArray} {fr : Bool} (h : RdFs w v ws es hs td cd vl nm fr) : ∃ f : FV, v = .agg #[.slice f.a0 f.n0 f.c0, .slice f.a1 f.n1 f.c1, .slice f.a2 f.n2 f.c2, .slice f.a3 f.n3 f.c3, .slice f.a4 f.n4 f.c4, .slice f.a5 f.n5 f.c5, .int .i64 f.x, .int .i64 f.y, .slice f.a8 f.n8 f.c8, .bool f.z] := by
 obtain ⟨aW, cW, aP, cP, aS, cS, aQ, cQ, aH, cH, aT, cT, aN, cN, rfl, -⟩ := h
 exact ⟨⟨aW, _, cW, aP, _, cP, aS, _, cS, aQ, _, cQ, aH, _, cH, aT, _, cT, _, _, aN, _, cN, _⟩, rfl⟩
theorem FsMv.form {w : World} {v : Value} (h : FsMv w v) : ∃ f : FV, v = .agg #[.slice f.a0 f.n0 f.c0, .slice f.a1 f.n1 f.c1, .slice f.a2 f.n2 f.c2, .slice f.a3 f.n3 f.c3, .slice f.a4 f.n4 f.c4, .slice f.a5 f.n5 f.c5, .int .i64 f.x, .int .i64 f.y, .slice f.a8 f.n8 f.c8, .bool f.z] := by
 obtain ⟨_, _, _, _, _, _, a, _⟩ := h
 exact a.form
theorem FsIdle.form {w : World} {v : Value} (h : FsIdle w v) : ∃ f : FV, v = .agg #[.slice f.a0 f.n0 f.c0, .slice f.a1 f.n1 f.c1, .slice f.a2 f.n2 f.c2, .slice f.a3 f.n3 f.c3, .slice f.a4 f.n4 f.c4, .slice f.a5 f.n5 f.c5, .int .i64 f.x, .int .i64 f.y, .slice f.a8 f.n8 f.c8, .bool f.z] := by
 obtain ⟨_, _, _, _, _, a, _⟩ := h
 exact a.form
theorem zwf (v : Value) (pr : Bool) (w : World) (h : FsIdle w v) :
  Calls Tryz.prog 53 #[v, .bool pr] w fun e w' => ∃ v' c, e = .returned (.tuple #[v', .int .i64 c]) ∧ FsMv w' v' ∧ Below w.heap.size w w' := by
 obtain ⟨ws, es, ns, ds, hs, a, b, c⟩ := h
 refine (zwv v pr ws es hs ns ds w a b c).mono ?_
 rintro e w' ⟨v', cd, td, rfl, r, m, hb⟩
 exact ⟨v', cd, rfl, ⟨ws, es, ns, ds, hs, td, r, b, c, m⟩, hb⟩
theorem zvj (v : Value) (w : World) (h : FsMv w v) :
  Calls Tryz.prog 54 #[v] w fun e w' => ∃ v', e = .returned v' ∧ FsIdle w' v' ∧ Below w.heap.size w w' := by
 obtain ⟨ws, es, ns, ds, hs, td, a, b, c, ⟨ws', es', ns', ds', run, hi'⟩, hm, hl⟩ := h
 refine (zjw v ws es hs td 0 0 [] false ws' es' w a b.pm b.bk (by have := (zbt c).1; omega) hm (by omega) run hi'.pm hi'.bk).mono ?_
 rintro e w' ⟨v', rfl, r, hb⟩
 exact ⟨v', rfl, ⟨ws', es', ns', ds', hs, r, hi', c⟩, hb⟩
theorem zyx (v : Value) (w : World) (h : FsIdle w v) :
  Calls Tryz.prog 56 #[v] w fun e w' => ∃ v', e = .returned v' ∧ FsIdle w' v' ∧ Below w.heap.size w w' := by
 obtain ⟨ws, es, ns, ds, hs, a, b, c⟩ := h
 have l1 := b.wi.len
 have l2 := (zex b.bk).1
 have l3 := (zbt c).1
 refine (yadh v ws es hs [] 0 0 [] false w a (by omega) (by omega) (by omega) (by simp) (by simp)).mono ?_
 rintro e w' ⟨v', rfl, r, hb⟩
 exact ⟨v', rfl, ⟨ws, es, ns, ds, hs, r, b, c⟩, hb⟩
theorem zcg (w w' : World) (v : Value) (h : FsIdle w v) (s : Soft w w') : FsIdle w' v := h.soft s
theorem yaoh (w w' : World) (v : Value) (h : FsMv w v) (s : Soft w w') : FsMv w' v := h.soft s
theorem Src.soft {w0 W W' : World} {b k : Nat} {vC : Value} {bs : List Int} (h : Src w0 W b vC bs k) (O : Outside b (b + 1) W W') : Soft W W' := by
 obtain ⟨aC, cC, rfl, _⟩ := h.code.shape
 obtain ⟨_, _, _, _, _, _, hc⟩ := h.cells
 exact Soft.outside O hc rfl
theorem yanp {w : World} {b : Nat} {t : TypeId} {x0 x1 x2 x3 x4 x5 x6 x7 x8 x9 : Value} (h : w.heap[b]? = some (.cells #[x0, x1, x2, x3, x4, x5, x6, x7, x8, x9] t (0, 0))) (y0 y1 y2 y3 y4 y5 y6 y7 y8 y9 : Value) : (zge w b y0 y1 y2 y3 y4 y5 y6 y7 y8 y9).heap[b]? = some (.cells #[y0, y1, y2, y3, y4, y5, y6, y7, y8, y9] t (0, 0)) :=
 zml (zjo (zms (zmu (zgx (ztd (yaay (yaaq (zzg (yaaz h _) _) _) _) _) _) _) _) _) _
structure FsS (P : World → Value → Prop) (w0 w W : World) (b k : Nat) (vC : Value) (bs : List Int) (fb : Nat) (f : FV) : Prop where
 src : Src w0 W b vC bs k
 out : Outside b (b + 1) w W
 fs : P W (.agg #[.slice f.a0 f.n0 f.c0, .slice f.a1 f.n1 f.c1, .slice f.a2 f.n2 f.c2, .slice f.a3 f.n3 f.c3, .slice f.a4 f.n4 f.c4, .slice f.a5 f.n5 f.c5, .int .i64 f.x, .int .i64 f.y, .slice f.a8 f.n8 f.c8, .bool f.z])
 box : W.heap[fb]? = some (.cells #[.slice f.a0 f.n0 f.c0, .slice f.a1 f.n1 f.c1, .slice f.a2 f.n2 f.c2, .slice f.a3 f.n3 f.c3, .slice f.a4 f.n4 f.c4, .slice f.a5 f.n5 f.c5, .int .i64 f.x, .int .i64 f.y, .slice f.a8 f.n8 f.c8, .bool f.z] 37 (0, 0))
 res : W.heap[w.heap.size]? = some (.cells #[.slice none 0 0, .slice none 0 0, .slice none 0 0, .slice none 0 0, .slice none 0 0, .slice none 0 0, .int .i64 0, .int .i64 0, .slice none 0 0, .bool false] 37 (0, 0))
 far : w.heap.size < fb
 near : b < w.heap.size
 base : w0.heap.size ≤ w.heap.size
theorem FsS.turn {P : World → Value → Prop} (ps : ∀ (w w' : World) (v : Value), P w v → Soft w w' → P w' v) {w0 w W W' : World} {b k k' : Nat} {vC : Value} {bs : List Int} {fb : Nat} {f : FV} (h : FsS P w0 w W b k vC bs fb f) (S : Src w0 W' b vC bs k') (O : Outside b (b + 1) W W') : FsS P w0 w W' b k' vC bs fb f :=
 ⟨S, h.out.trans O, ps _ _ _ h.fs (h.src.soft O), (O.block fb (Array.getElem?_eq_some_iff.1 h.box).1 (by have := h.far; have := h.near; omega)).trans h.box, (O.block _ (Array.getElem?_eq_some_iff.1 h.res).1 (by have := h.near; omega)).trans h.res, h.far, h.near, h.base⟩
theorem FsS.newer {P : World → Value → Prop} (ps : ∀ (w w' : World) (v : Value), P w v → Soft w w' → P w' v) {w0 w W W' : World} {b k : Nat} {vC : Value} {bs : List Int} {fb : Nat} {f : FV} (h : FsS P w0 w W b k vC bs fb f) (B : Below W.heap.size W W') : FsS P w0 w W' b k vC bs fb f :=
 h.turn ps (h.src.newer B) (Outside.of_below B)
theorem FsS.call {P Q : World → Value → Prop} (qs : ∀ (w w' : World) (v : Value), Q w v → Soft w w' → Q w' v) {w0 w W W' : World} {b k : Nat} {vC : Value} {bs : List Int} {fb : Nat} {f g : FV} (h : FsS P w0 w W b k vC bs fb f) (B : Below W.heap.size W W') (F : Q W' (.agg #[.slice g.a0 g.n0 g.c0, .slice g.a1 g.n1 g.c1, .slice g.a2 g.n2 g.c2, .slice g.a3 g.n3 g.c3, .slice g.a4 g.n4 g.c4, .slice g.a5 g.n5 g.c5, .int .i64 g.x, .int .i64 g.y, .slice g.a8 g.n8 g.c8, .bool g.z])) : FsS Q w0 w (zge W' fb (.slice g.a0 g.n0 g.c0) (.slice g.a1 g.n1 g.c1) (.slice g.a2 g.n2 g.c2) (.slice g.a3 g.n3 g.c3) (.slice g.a4 g.n4 g.c4) (.slice g.a5 g.n5 g.c5) (.int .i64 g.x) (.int .i64 g.y) (.slice g.a8 g.n8 g.c8) (.bool g.z)) b k vC bs fb g := by
 have O := zbx W' fb (.slice g.a0 g.n0 g.c0) (.slice g.a1 g.n1 g.c1) (.slice g.a2 g.n2 g.c2) (.slice g.a3 g.n3 g.c3) (.slice g.a4 g.n4 g.c4) (.slice g.a5 g.n5 g.c5) (.int .i64 g.x) (.int .i64 g.y) (.slice g.a8 g.n8 g.c8) (.bool g.z)
 have bx := (B.block fb (Array.getElem?_eq_some_iff.1 h.box).1).trans h.box
 have f := h.far
 have n := h.near
 have z := h.base
 have rs := (B.block w.heap.size (Array.getElem?_eq_some_iff.1 h.res).1).trans h.res
 exact ⟨(h.src.newer B).outside O (by omega) (by omega), (h.out.trans (Outside.of_below B)).newer O (by omega), qs _ _ _ F (Soft.outside O bx rfl), yanp bx (.slice g.a0 g.n0 g.c0) (.slice g.a1 g.n1 g.c1) (.slice g.a2 g.n2 g.c2) (.slice g.a3 g.n3 g.c3) (.slice g.a4 g.n4 g.c4) (.slice g.a5 g.n5 g.c5) (.int .i64 g.x) (.int .i64 g.y) (.slice g.a8 g.n8 g.c8) (.bool g.z), (O.block _ (Array.getElem?_eq_some_iff.1 rs).1 (by omega)).trans rs, f, n, z⟩
set_option maxRecDepth 100000 in
set_option maxHeartbeats 32000000 in
theorem yakp (w0 w : World) (b k : Nat) (vC : Value) (bs : List Int) (h : Src w0 w b vC bs k) (hk : k ≤ 10000) :
  Calls Tryz.prog 21 #[.pointer (some ⟨b, 0, none⟩)] w fun e w' => ∃ v' k', e = .returned v' ∧ k' ≤ k + 3000 ∧ FsIdle w' v' ∧ Src w0 w' b vC bs k' ∧ Outside b (b + 1) w w' := by
 have near := h.size
 have base := h.below.size
 have HS := zaa h
 clear h
 obtain ⟨V, hV⟩ : ∃ V, V = w.alloc (.cells zei.toArray 37) := ⟨_, rfl⟩
 have RV : Hid (V.heap[w.heap.size]? = some (.cells #[.slice none 0 0, .slice none 0 0, .slice none 0 0, .slice none 0 0, .slice none 0 0, .slice none 0 0, .int .i64 0, .int .i64 0, .slice none 0 0, .bool false] 37 (0, 0))) := by rw [hV]; exact zah rfl
 have BV : Hid (Below w.heap.size w V) := by rw [hV]; exact (Below.refl _ _).alloc (Nat.le_refl _) _
 have zV : Hid (w.heap.size < V.heap.size) := by rw [hV]; simp [Hid]
 unfold zei at hV
 go_enter Tryz.func21, Tryz.ntmps21
 go_upto_region 1 with fail
 rw [← hV]
 clear hV
 go_wp2_with fail
 refine (yahk V).mono ?_
 rintro e w1 ⟨v1, rfl, hf1, hb1⟩
 obtain ⟨g1, rfl⟩ := hf1.form
 have F1 := zaa hf1
 have B1 := zaa hb1
 clear hf1 hb1
 obtain ⟨W1, hW1⟩ : ∃ W1, W1 = w1.alloc (.cells #[.slice g1.a0 g1.n0 g1.c0, .slice g1.a1 g1.n1 g1.c1, .slice g1.a2 g1.n2 g1.c2, .slice g1.a3 g1.n3 g1.c3, .slice g1.a4 g1.n4 g1.c4, .slice g1.a5 g1.n5 g1.c5, .int .i64 g1.x, .int .i64 g1.y, .slice g1.a8 g1.n8 g1.c8, .bool g1.z] 37) := ⟨_, rfl⟩
 have I1 : Hid (FsS FsIdle w0 w W1 b k vC bs w1.heap.size g1) := by
  rw [hW1]
  have A1 : Below w1.heap.size w1 (w1.alloc (.cells #[.slice g1.a0 g1.n0 g1.c0, .slice g1.a1 g1.n1 g1.c1, .slice g1.a2 g1.n2 g1.c2, .slice g1.a3 g1.n3 g1.c3, .slice g1.a4 g1.n4 g1.c4, .slice g1.a5 g1.n5 g1.c5, .int .i64 g1.x, .int .i64 g1.y, .slice g1.a8 g1.n8 g1.c8, .bool g1.z] 37)) := (Below.refl _ _).alloc (Nat.le_refl _) _
  have BA := zab BV.out B1.out BV.out.size
  have BB := zab BA A1 BA.size
  exact ⟨HS.out.newer BB, Outside.of_below BB, F1.out.below A1, zah rfl, zak ((B1.out.block _ zV.out).trans RV.out), Nat.lt_of_lt_of_le zV.out B1.out.size, near, base⟩
 clear B1 F1 RV BV zV HS
 go_upto_region 2 with fail
 rw [← hW1]
 clear hW1
 generalize w1.heap.size = fb at *
 obtain ⟨c0, c1, c2, c3, c4, c5, c6, c7, c8, c9, f0, f1, f2, f3, f4, f5, f6, f7, f8, f9⟩ := zaj I1.out.box
 go_wp2_with fail
 refine (zop _ 1 ⟨#[47, 97]⟩ ⟨#[]⟩ 0 0 _ I1.out.fs (by decide) (by decide)).mono ?_
 rintro e w2 ⟨v2, cd2, vl2, a2, n2, k2, rfl, hf2, hb2⟩
 obtain ⟨g2, rfl⟩ := hf2.form
 have F2 := zaa hf2
 have B2 := zaa hb2
 clear hf2 hb2
 clear c0 c1 c2 c3 c4 c5 c6 c7 c8 c9 f0 f1 f2 f3 f4 f5 f6 f7 f8 f9
 obtain ⟨W2, hW2⟩ : ∃ W2, W2 = zge w2 fb (.slice g2.a0 g2.n0 g2.c0) (.slice g2.a1 g2.n1 g2.c1) (.slice g2.a2 g2.n2 g2.c2) (.slice g2.a3 g2.n3 g2.c3) (.slice g2.a4 g2.n4 g2.c4) (.slice g2.a5 g2.n5 g2.c5) (.int .i64 g2.x) (.int .i64 g2.y) (.slice g2.a8 g2.n8 g2.c8) (.bool g2.z) := ⟨_, rfl⟩
 have I2 := zaa (FsS.call (Q := FsIdle) (g := g2) zcg I1.out B2.out F2.out)
 rw [← hW2] at I2
 have NBW2 := zaa ((B2.out.block fb (Array.getElem?_eq_some_iff.1 I1.out.box).1).trans I1.out.box)
 obtain ⟨c0, c1, c2, c3, c4, c5, c6, c7, c8, c9, f0, f1, f2, f3, f4, f5, f6, f7, f8, f9⟩ := zaj NBW2.out
 unfold zge at hW2
 go_upto_region 3 with fail
 rw [← hW2]
 clear hW2 c0 c1 c2 c3 c4 c5 c6 c7 c8 c9 f0 f1 f2 f3 f4 f5 f6 f7 f8 f9 NBW2 I1 F2 B2
 obtain ⟨c0, c1, c2, c3, c4, c5, c6, c7, c8, c9, f0, f1, f2, f3, f4, f5, f6, f7, f8, f9⟩ := zaj I2.out.box
 go_wp2_with fail
 refine (zop _ 2 ⟨#[47, 98]⟩ ⟨#[]⟩ 0 0 _ I2.out.fs (by decide) (by decide)).mono ?_
 rintro e w3 ⟨v3, cd3, vl3, a3, n3, k3, rfl, hf3, hb3⟩
 obtain ⟨g3, rfl⟩ := hf3.form
 have F3 := zaa hf3
 have B3 := zaa hb3
 clear hf3 hb3
 clear c0 c1 c2 c3 c4 c5 c6 c7 c8 c9 f0 f1 f2 f3 f4 f5 f6 f7 f8 f9
 obtain ⟨W3, hW3⟩ : ∃ W3, W3 = zge w3 fb (.slice g3.a0 g3.n0 g3.c0) (.slice g3.a1 g3.n1 g3.c1) (.slice g3.a2 g3.n2 g3.c2) (.slice g3.a3 g3.n3 g3.c3) (.slice g3.a4 g3.n4 g3.c4) (.slice g3.a5 g3.n5 g3.c5) (.int .i64 g3.x) (.int .i64 g3.y) (.slice g3.a8 g3.n8 g3.c8) (.bool g3.z) := ⟨_, rfl⟩
 have I3 := zaa (FsS.call (Q := FsIdle) (g := g3) zcg I2.out B3.out F3.out)
 rw [← hW3] at I3
 have NBW3 := zaa ((B3.out.block fb (Array.getElem?_eq_some_iff.1 I2.out.box).1).trans I2.out.box)
 obtain ⟨c0, c1, c2, c3, c4, c5, c6, c7, c8, c9, f0, f1, f2, f3, f4, f5, f6, f7, f8, f9⟩ := zaj NBW3.out
 unfold zge at hW3
 go_upto_region 4 with fail
 rw [← hW3]
 clear hW3 c0 c1 c2 c3 c4 c5 c6 c7 c8 c9 f0 f1 f2 f3 f4 f5 f6 f7 f8 f9 NBW3 I2 F3 B3
 go_wp2_with fail
 refine (zyi w0 _ b k vC bs I3.out.src).mono ?_
 rintro e w4 ⟨sz, rfl, s0, s1, rfl⟩
 have ws8 : IntKind.i64.wrap (sz + 8) = sz + 8 := by rw [IntKind.wrap_i64]; omega
 go_wp2_with fail
 refine (zbw (sz + 8) (by omega) w0 _ b k vC bs I3.out.src (by omega)).mono ?_
 rintro e w5 ⟨r, rfl, r0, r1, hs, ho, -⟩
 have I5 := zaa (I3.out.turn zcg hs ho)
 clear hs ho I3 ws8
 obtain ⟨n, rfl⟩ : ∃ n : Nat, r = (n : Int) := ⟨r.toNat, by omega⟩
 have n28 : n ≤ 28 := by omega
 clear r0 r1 s0 s1
 go_wp2
 go_loopw [4] (fun i wr => ∃ (j q : Nat) (f : FV), j ≤ 28 ∧ i = .int .i64 (j : Int) ∧ q + 80 * j ≤ k + 2400 ∧ Hid (FsS FsIdle w0 w wr b q vC bs fb f)) (fun i _ => (intOf i).toNat)
 case atStart => exact ⟨n, _, _, n28, rfl, by omega, I5⟩
 case round =>
  obtain ⟨j, q, f, hj, rfl, hq, I⟩ := hrel
  clear I5
  by_cases c : 0 < j
  ·have cj : (0 : Int) < (j : Int) := by omega
   go_wp2_with fail
   refine (zgt 4 (by omega) w0 _ b q vC bs I.out.src (by omega)).mono ?_
   rintro e w6 ⟨rc, rfl, hs, ho, -⟩
   have I6 := zaa (I.out.turn zcg hs ho)
   clear hs ho I
   cases rc with
   | true =>
    obtain ⟨c0, c1, c2, c3, c4, c5, c6, c7, c8, c9, f0, f1, f2, f3, f4, f5, f6, f7, f8, f9⟩ := zaj I6.out.box
    go_upto_region 8 with fail
    go_region_with (first
     | (go_at_call 52; refine (zgt 2 (by omega) w0 _ b _ vC bs (I6.out.src.newer (by repeat (first | exact Below.refl _ _ | refine Below.drew ?_))) (by omega)).mono ?_; rintro e w7 ⟨pr, rfl, hs, ho, -⟩; have I7 := zaa ((I6.out.newer zcg (by repeat (first | exact Below.refl _ _ | refine Below.drew ?_))).turn zcg hs ho); clear hs ho c0 c1 c2 c3 c4 c5 c6 c7 c8 c9 f0 f1 f2 f3 f4 f5 f6 f7 f8 f9; obtain ⟨c0, c1, c2, c3, c4, c5, c6, c7, c8, c9, f0, f1, f2, f3, f4, f5, f6, f7, f8, f9⟩ := zaj I7.out.box)
     | (go_at_call 53; refine (zwf _ pr _ (I7.out.newer zcg (by repeat (first | exact Below.refl _ _ | refine Below.drew ?_))).fs).mono ?_; rintro e w8 ⟨v8, c8', rfl, hf8, hb8⟩; obtain ⟨g8, rfl⟩ := hf8.form; have F8 := zaa hf8; have B8 : Hid (Below w7.heap.size w7 w8) := (by first | exact hb8 | exact zab (by repeat (first | exact Below.refl _ _ | refine Below.drew ?_)) hb8 (Nat.le_refl _)); clear hf8 hb8 c0 c1 c2 c3 c4 c5 c6 c7 c8 c9 f0 f1 f2 f3 f4 f5 f6 f7 f8 f9; have NB8 := zaa ((B8.out.block fb (Array.getElem?_eq_some_iff.1 I7.out.box).1).trans I7.out.box); obtain ⟨c0, c1, c2, c3, c4, c5, c6, c7, c8, c9, f0, f1, f2, f3, f4, f5, f6, f7, f8, f9⟩ := zaj NB8.out))
    all_goals
     obtain ⟨U8, hU8⟩ : ∃ U8, U8 = zge w8 fb (.slice g8.a0 g8.n0 g8.c0) (.slice g8.a1 g8.n1 g8.c1) (.slice g8.a2 g8.n2 g8.c2) (.slice g8.a3 g8.n3 g8.c3) (.slice g8.a4 g8.n4 g8.c4) (.slice g8.a5 g8.n5 g8.c5) (.int .i64 g8.x) (.int .i64 g8.y) (.slice g8.a8 g8.n8 g8.c8) (.bool g8.z) := ⟨_, rfl⟩
     have I8 := zaa (FsS.call (Q := FsMv) (g := g8) yaoh I7.out B8.out F8.out)
     rw [← hU8] at I8
     unfold zge at hU8
     rw [← hU8]
     clear hU8 c0 c1 c2 c3 c4 c5 c6 c7 c8 c9 f0 f1 f2 f3 f4 f5 f6 f7 f8 f9 NB8 I7 F8 B8
     obtain ⟨c0, c1, c2, c3, c4, c5, c6, c7, c8, c9, f0, f1, f2, f3, f4, f5, f6, f7, f8, f9⟩ := zaj I8.out.box
     go_wp2_with fail
     refine (zvj _ _ I8.out.fs).mono ?_
     rintro e w9 ⟨v9, rfl, hf9, hb9⟩
     obtain ⟨g9, rfl⟩ := hf9.form
     have F9 := zaa hf9
     have B9 := zaa hb9
     clear hf9 hb9
     clear c0 c1 c2 c3 c4 c5 c6 c7 c8 c9 f0 f1 f2 f3 f4 f5 f6 f7 f8 f9
     obtain ⟨U9, hU9⟩ : ∃ U9, U9 = zge w9 fb (.slice g9.a0 g9.n0 g9.c0) (.slice g9.a1 g9.n1 g9.c1) (.slice g9.a2 g9.n2 g9.c2) (.slice g9.a3 g9.n3 g9.c3) (.slice g9.a4 g9.n4 g9.c4) (.slice g9.a5 g9.n5 g9.c5) (.int .i64 g9.x) (.int .i64 g9.y) (.slice g9.a8 g9.n8 g9.c8) (.bool g9.z) := ⟨_, rfl⟩
     have I9 := zaa (FsS.call (Q := FsIdle) (g := g9) zcg I8.out B9.out F9.out)
     rw [← hU9] at I9
     have NBU9 := zaa ((B9.out.block fb (Array.getElem?_eq_some_iff.1 I8.out.box).1).trans I8.out.box)
     obtain ⟨c0, c1, c2, c3, c4, c5, c6, c7, c8, c9, f0, f1, f2, f3, f4, f5, f6, f7, f8, f9⟩ := zaj NBU9.out
     unfold zge at hU9
     go_upto_region 6 with fail
     rw [← hU9]
     clear hU9 c0 c1 c2 c3 c4 c5 c6 c7 c8 c9 f0 f1 f2 f3 f4 f5 f6 f7 f8 f9 NBU9 I8 F9 B9
     go_wp2
     go_roundw
     case rel => exact ⟨j - 1, _, _, by omega, by go_num, by omega, I9⟩
     case measure => simp [intOf]; omega
   | false =>
    obtain ⟨c0, c1, c2, c3, c4, c5, c6, c7, c8, c9, f0, f1, f2, f3, f4, f5, f6, f7, f8, f9⟩ := zaj I6.out.box
    go_upto_region 10 with fail
    go_region_with (first
     | (go_at_call 55; refine (yaia w0 _ b _ vC bs (I6.out.src.newer (by repeat (first | exact Below.refl _ _ | refine Below.drew ?_))) (by omega)).mono ?_; rintro e w7 ⟨kd, pp, tt, gg, yy, rfl, hp, ht, hs, ho⟩; have HP := zaa (And.intro hp ht); have I7 := zaa ((I6.out.newer zcg (by repeat (first | exact Below.refl _ _ | refine Below.drew ?_))).turn zcg hs ho); clear hs ho hp ht c0 c1 c2 c3 c4 c5 c6 c7 c8 c9 f0 f1 f2 f3 f4 f5 f6 f7 f8 f9; obtain ⟨c0, c1, c2, c3, c4, c5, c6, c7, c8, c9, f0, f1, f2, f3, f4, f5, f6, f7, f8, f9⟩ := zaj I7.out.box)
     | (go_at_call 49; refine (zop _ kd pp tt gg yy _ (I7.out.newer zcg (by repeat (first | exact Below.refl _ _ | refine Below.drew ?_))).fs (by have := HP.out.1; omega) (by have := HP.out.2; omega)).mono ?_; rintro e w8 ⟨v8, cd8, vl8, a8, n8, k8, rfl, hf8, hb8⟩; obtain ⟨g8, rfl⟩ := hf8.form; have F8 := zaa hf8; have B8 : Hid (Below w7.heap.size w7 w8) := (by first | exact hb8 | exact zab (by repeat (first | exact Below.refl _ _ | refine Below.drew ?_)) hb8 (Nat.le_refl _)); clear hf8 hb8 c0 c1 c2 c3 c4 c5 c6 c7 c8 c9 f0 f1 f2 f3 f4 f5 f6 f7 f8 f9; have NB8 := zaa ((B8.out.block fb (Array.getElem?_eq_some_iff.1 I7.out.box).1).trans I7.out.box); obtain ⟨c0, c1, c2, c3, c4, c5, c6, c7, c8, c9, f0, f1, f2, f3, f4, f5, f6, f7, f8, f9⟩ := zaj NB8.out))
    all_goals
     obtain ⟨U8, hU8⟩ : ∃ U8, U8 = zge w8 fb (.slice g8.a0 g8.n0 g8.c0) (.slice g8.a1 g8.n1 g8.c1) (.slice g8.a2 g8.n2 g8.c2) (.slice g8.a3 g8.n3 g8.c3) (.slice g8.a4 g8.n4 g8.c4) (.slice g8.a5 g8.n5 g8.c5) (.int .i64 g8.x) (.int .i64 g8.y) (.slice g8.a8 g8.n8 g8.c8) (.bool g8.z) := ⟨_, rfl⟩
     have I8 := zaa (FsS.call (Q := FsIdle) (g := g8) zcg I7.out B8.out F8.out)
     rw [← hU8] at I8
     unfold zge at hU8
     rw [← hU8]
     clear hU8 c0 c1 c2 c3 c4 c5 c6 c7 c8 c9 f0 f1 f2 f3 f4 f5 f6 f7 f8 f9 NB8 I7 F8 B8
     go_wp2
     go_roundw
     case rel => exact ⟨j - 1, _, _, by omega, by go_num, by omega, I8⟩
     case measure => simp [intOf]; omega
  ·obtain rfl : j = 0 := by omega
   obtain ⟨c0, c1, c2, c3, c4, c5, c6, c7, c8, c9, f0, f1, f2, f3, f4, f5, f6, f7, f8, f9⟩ := zaj I.out.box
   go_wp2_with fail
   refine (zyx _ _ I.out.fs).mono ?_
   rintro e w9 ⟨v9, rfl, hf9, hb9⟩
   obtain ⟨g9, rfl⟩ := hf9.form
   have F9 := zaa hf9
   have B9 := zaa hb9
   clear hf9 hb9
   have R9 := zaa ((B9.out.block w.heap.size (Array.getElem?_eq_some_iff.1 I.out.res).1).trans I.out.res)
   have O9 := zaa (zbx w9 w.heap.size (.slice g9.a0 g9.n0 g9.c0) (.slice g9.a1 g9.n1 g9.c1) (.slice g9.a2 g9.n2 g9.c2) (.slice g9.a3 g9.n3 g9.c3) (.slice g9.a4 g9.n4 g9.c4) (.slice g9.a5 g9.n5 g9.c5) (.int .i64 g9.x) (.int .i64 g9.y) (.slice g9.a8 g9.n8 g9.c8) (.bool g9.z))
   have FF := zaa (F9.out.soft (Soft.outside O9.out R9.out rfl))
   have SF := zaa ((I.out.src.newer B9.out).outside O9.out (.inl near) base)
   have OF := zaa ((I.out.out.trans (Outside.of_below B9.out)).newer O9.out (Nat.le_refl _))
   clear c0 c1 c2 c3 c4 c5 c6 c7 c8 c9 f0 f1 f2 f3 f4 f5 f6 f7 f8 f9 O9 I F9 B9
   obtain ⟨y0, y1, y2, y3, y4, y5, y6, y7, y8, y9, m0, m1, m2, m3, m4, m5, m6, m7, m8, m9⟩ := zaj R9.out
   go_wp2
   refine bodyPost_ret (v := .agg #[.slice g9.a0 g9.n0 g9.c0, .slice g9.a1 g9.n1 g9.c1, .slice g9.a2 g9.n2 g9.c2, .slice g9.a3 g9.n3 g9.c3, .slice g9.a4 g9.n4 g9.c4, .slice g9.a5 g9.n5 g9.c5, .int .i64 g9.x, .int .i64 g9.y, .slice g9.a8 g9.n8 g9.c8, .bool g9.z]) (by simp [results, Tryz.results21, go_sem, y0, y1, y2, y3, y4, y5, y6, y7, y8, y9]) rfl ?_
   exact ⟨_, _, rfl, by omega, FF.out, SF.out, OF.out⟩
theorem zxv (f : FV) (w : World) : (Instr.field 37 (.agg #[.slice f.a0 f.n0 f.c0, .slice f.a1 f.n1 f.c1, .slice f.a2 f.n2 f.c2, .slice f.a3 f.n3 f.c3, .slice f.a4 f.n4 f.c4, .slice f.a5 f.n5 f.c5, .int .i64 f.x, .int .i64 f.y, .slice f.a8 f.n8 f.c8, .bool f.z]) 0).run Tryz.prog w = .ok (.agg #[.slice f.a0 f.n0 f.c0, .slice f.a1 f.n1 f.c1, .slice f.a2 f.n2 f.c2, .slice f.a3 f.n3 f.c3]) w := by kernel_rfl
set_option maxRecDepth 100000 in
set_option maxHeartbeats 8000000 in
theorem yalg (v : Value) (bs : List Int) (w : World) (h : RdB w v bs) (hl : bs.length ≤ 1048576) :
  Calls Tryz.prog 6 #[v] w fun e w' => ∃ f : FV, e = .returned (.agg #[.slice f.a0 f.n0 f.c0, .slice f.a1 f.n1 f.c1, .slice f.a2 f.n2 f.c2, .slice f.a3 f.n3 f.c3, .slice f.a4 f.n4 f.c4, .slice f.a5 f.n5 f.c5, .int .i64 f.x, .int .i64 f.y, .slice f.a8 f.n8 f.c8, .bool f.z]) ∧ FsIdle w' (.agg #[.slice f.a0 f.n0 f.c0, .slice f.a1 f.n1 f.c1, .slice f.a2 f.n2 f.c2, .slice f.a3 f.n3 f.c3, .slice f.a4 f.n4 f.c4, .slice f.a5 f.n5 f.c5, .int .i64 f.x, .int .i64 f.y, .slice f.a8 f.n8 f.c8, .bool f.z]) ∧ Below w.heap.size w w' := by
 have H := zaa h
 obtain ⟨aC, cC, rfl, _⟩ := h.shape
 obtain ⟨V, hV⟩ : ∃ V, V = w.alloc (.cells #[.slice none 0 0, .slice none 0 0, .slice none 0 0, .slice none 0 0, .slice none 0 0, .slice none 0 0, .int .i64 0, .int .i64 0, .slice none 0 0, .bool false] 37) := ⟨_, rfl⟩
 have RV : Hid (V.heap[w.heap.size]? = some (.cells #[.slice none 0 0, .slice none 0 0, .slice none 0 0, .slice none 0 0, .slice none 0 0, .slice none 0 0, .int .i64 0, .int .i64 0, .slice none 0 0, .bool false] 37 (0, 0))) := by rw [hV]; exact zah rfl
 have BV : Hid (Below w.heap.size w V) := by rw [hV]; exact (Below.refl _ _).alloc (Nat.le_refl _) _
 have zV : Hid (w.heap.size < V.heap.size) := by rw [hV]; simp [Hid]
 clear h
 go_enter Tryz.func6, Tryz.ntmps6
 go_upto_region 1 with fail
 rw [← hV]
 clear hV
 go_wp2_with fail
 refine (zks _ bs V (H.out.below BV.out) hl).mono ?_
 rintro e w1 ⟨rfl, S, hb⟩
 have S1 := zaa S.src
 have B1 := zaa hb
 clear S hb
 go_wp2_with fail
 refine (yakp V w1 _ _ _ bs S1.out (by omega)).mono ?_
 rintro e w2 ⟨v2, k', rfl, -, hi, -, ho⟩
 have B2 := zaa (B1.out.trans (ho.below (Nat.le_refl _) B1.out.size))
 have B3 := zaa (zab BV.out B2.out BV.out.size)
 have RW := zaa ((B2.out.block w.heap.size zV.out).trans RV.out)
 obtain ⟨f, rfl⟩ := hi.form
 have R2 := zaa hi
 clear ho hi S1 B1 RV BV zV B2 H
 obtain ⟨r0, r1, r2, r3, r4, r5, r6, r7, r8, r9, s0, s1, s2, s3, s4, s5, s6, s7, s8, s9⟩ := zaj RW.out
 have OF := zaa (zbx w2 w.heap.size (.slice f.a0 f.n0 f.c0) (.slice f.a1 f.n1 f.c1) (.slice f.a2 f.n2 f.c2) (.slice f.a3 f.n3 f.c3) (.slice f.a4 f.n4 f.c4) (.slice f.a5 f.n5 f.c5) (.int .i64 f.x) (.int .i64 f.y) (.slice f.a8 f.n8 f.c8) (.bool f.z))
 have FI := zaa (R2.out.soft (Soft.outside OF.out RW.out rfl))
 have BF := zaa (B3.out.trans (OF.out.below (B := w.heap.size) (Nat.le_refl _) B3.out.size))
 clear OF R2 B3
 go_wp2
 refine bodyPost_ret (v := .agg #[.slice f.a0 f.n0 f.c0, .slice f.a1 f.n1 f.c1, .slice f.a2 f.n2 f.c2, .slice f.a3 f.n3 f.c3, .slice f.a4 f.n4 f.c4, .slice f.a5 f.n5 f.c5, .int .i64 f.x, .int .i64 f.y, .slice f.a8 f.n8 f.c8, .bool f.z]) (by simp [results, Tryz.results6, go_sem, r0, r1, r2, r3, r4, r5, r6, r7, r8, r9]) rfl ?_
 exact ⟨f, rfl, FI.out, BF.out⟩
set_option maxRecDepth 100000 in
set_option maxHeartbeats 4000000 in
theorem yacu (v : Value) (bs : List Int) (w : World) (h : RdB w v bs) (hl : bs.length ≤ 1048576) :
  Calls Tryz.prog 8 #[v] w fun e w' => ∃ p, e = .returned (.string p) ∧ PathD p ∧ Below w.heap.size w w' := by
 have H := zaa h
 obtain ⟨aC, cC, rfl, _⟩ := h.shape
 clear h
 go_enter Tryz.func8, Tryz.ntmps8
 go_wp2_with fail
 refine (zks _ bs w H.out hl).mono ?_
 rintro e w1 ⟨rfl, S, hb⟩
 have S1 := zaa S.src
 clear S hb
 go_wp2_with fail
 refine (zfe w w1 _ _ _ bs S1.out (by omega)).mono ?_
 rintro e w2 ⟨s, rfl, hs, S, -⟩
 have E := zaa hs
 have B := zaa S.below
 clear hs S
 go_wp2
 go_ret
 exact ⟨_, rfl, E.out, B.out⟩
theorem zdy {c w' : World} {b : Nat} {o : Obj} {B : Nat} (h : c.heap[b]? = some o) (hb : Below B c w') (hB : b < B) : w'.heap[b]? = some o := (hb.block b hB).trans h
theorem zpk {c : World} {b : Nat} {o : Obj} (h : c.heap[b]? = some o) : b < c.heap.size := (Array.getElem?_eq_some_iff.1 h).1
set_option maxHeartbeats 1000000 in
theorem zgz (va vb : Value) (l : List Se) (w : World) (ha : RdE w va l) (hb : RdE w vb l) (hn : l.length ≤ 2147483648) :
  Calls Tryz.prog 12 #[va, vb] w fun e w' => e = .returned (.bool true) ∧ Below w.heap.size w w' := by
 obtain ⟨ao, cap, rfl, hcap, hc⟩ := ha.shape
 obtain ⟨ao2, cap2, rfl, hcap2, hc2⟩ := hb.shape
 clear ha hb
 go_enter Tryz.func12, Tryz.ntmps12
 go_wp2
 go_loopw [5] (fun i wr => ∃ k : Nat, k ≤ l.length ∧ i = .int .i64 k ∧ Below w.heap.size w wr) (fun i _ => l.length - (intOf i).toNat)
 case atStart => exact ⟨0, by omega, rfl, Below.refl _ _⟩
 case round =>
  obtain ⟨k, hk, rfl, hbw⟩ := hrel
  by_cases hlt : k < l.length
  ·obtain ⟨b, o, rfl, hbl, hcell⟩ := hc (by omega)
   obtain ⟨b2, o2, rfl, hbl2, hcell2⟩ := hc2 (by omega)
   obtain ⟨c0, c1⟩ := hcell k hlt
   obtain ⟨d0, d1⟩ := hcell2 k hlt
   have e0 := (hbw.cell (p := ⟨b, o + k * 2, none⟩) hbl).trans c0
   have e1 := (hbw.cell (p := ⟨b, o + k * 2 + 1, none⟩) hbl).trans c1
   have f0 := (hbw.cell (p := ⟨b2, o2 + k * 2, none⟩) hbl2).trans d0
   have f1 := (hbw.cell (p := ⟨b2, o2 + k * 2 + 1, none⟩) hbl2).trans d1
   have hlt' : (k : Int) < (l.length : Int) := by omega
   have hge : (0 : Int) ≤ (k : Int) := by omega
   clear hcell hcell2 hc hc2 c0 c1 d0 d1
   go_wp2
   go_quiet (fail)
   go_wp2
   go_roundw
   case rel => exact ⟨k + 1, by omega, by go_num, Below.drewN'' hbw _⟩
   case measure => simp [intOf]; omega
  ·go_wp2
   go_ret
   exact ⟨rfl, hbw⟩
set_option maxRecDepth 100000 in
set_option maxHeartbeats 16000000 in
theorem zps (va vb : Value) (ns : List Ino) (ds : List Den) (w : World) (ha : RdIm w va ns ds) (hb : RdIm w vb ns ds) (hn : ns.length ≤ 1048576) (hd : ds.length ≤ 1048576) :
  Calls Tryz.prog 19 #[va, vb] w fun e w' => e = .returned (.bool true) ∧ Below w.heap.size w w' := by
 obtain ⟨vW, vP, rfl, h1, h2⟩ := ha
 obtain ⟨uW, uP, rfl, k1, k2⟩ := hb
 obtain ⟨a1, c1, rfl, -, g1⟩ := h1.shape
 obtain ⟨a2, c2, rfl, -, g2⟩ := h2.shape
 obtain ⟨a3, c3, rfl, -, g3⟩ := k1.shape
 obtain ⟨a4, c4, rfl, -, g4⟩ := k2.shape
 clear h1 h2 k1 k2
 obtain ⟨V, hV⟩ : ∃ V, V = (w.alloc (.cells #[.slice a1 ns.length c1, .slice a2 ds.length c2] 42)).alloc (.cells #[.slice a3 ns.length c3, .slice a4 ds.length c4] 42) := ⟨_, rfl⟩
 have BV : Hid (Below w.heap.size w V) := by rw [hV]; exact ((Below.refl _ _).alloc (Nat.le_refl _) _).alloc (by simp) _
 have MB : Hid (∀ w', Below V.heap.size V w' → w'.heap[w.heap.size]? = some (.cells #[.slice a1 ns.length c1, .slice a2 ds.length c2] 42 (0, 0)) ∧ w'.heap[w.heap.size + 1]? = some (.cells #[.slice a3 ns.length c3, .slice a4 ds.length c4] 42 (0, 0))) := fun w' hb => by
  have e1 : V.heap[w.heap.size]? = some (.cells #[.slice a1 ns.length c1, .slice a2 ds.length c2] 42 (0, 0)) := by rw [hV]; exact zak (zah rfl)
  have e2 : V.heap[w.heap.size + 1]? = some (.cells #[.slice a3 ns.length c3, .slice a4 ds.length c4] 42 (0, 0)) := by rw [hV]; exact zah (by simp)
  exact ⟨zdy e1 hb (zpk e1), zdy e2 hb (zpk e2)⟩
 have GI : Hid (∀ k (h : k < ns.length), ∃ b o b2 o2, a1 = some ⟨b, o, none⟩ ∧ a3 = some ⟨b2, o2, none⟩ ∧ ∀ w', Below V.heap.size V w' → (w'.cell? ⟨b, o + k * 11, none⟩ = some (.int .i64 ns[k].kind) ∧ w'.cell? ⟨b, o + k * 11 + 1, none⟩ = some (.int .i64 ns[k].size) ∧ w'.cell? ⟨b, o + k * 11 + 2, none⟩ = some (.int .i64 ns[k].links) ∧ w'.cell? ⟨b, o + k * 11 + 3, none⟩ = some (.int .i64 ns[k].m0) ∧ w'.cell? ⟨b, o + k * 11 + 4, none⟩ = some (.int .i64 ns[k].m1) ∧ w'.cell? ⟨b, o + k * 11 + 5, none⟩ = some (.int .i64 ns[k].m2) ∧ w'.cell? ⟨b, o + k * 11 + 6, none⟩ = some (.int .i64 ns[k].m3) ∧ w'.cell? ⟨b, o + k * 11 + 7, none⟩ = some (.int .i64 ns[k].m4) ∧ w'.cell? ⟨b, o + k * 11 + 8, none⟩ = some (.int .i64 ns[k].m5) ∧ w'.cell? ⟨b, o + k * 11 + 9, none⟩ = some (.int .i64 ns[k].m6) ∧ w'.cell? ⟨b, o + k * 11 + 10, none⟩ = some (.int .i64 ns[k].m7)) ∧ (w'.cell? ⟨b2, o2 + k * 11, none⟩ = some (.int .i64 ns[k].kind) ∧ w'.cell? ⟨b2, o2 + k * 11 + 1, none⟩ = some (.int .i64 ns[k].size) ∧ w'.cell? ⟨b2, o2 + k * 11 + 2, none⟩ = some (.int .i64 ns[k].links) ∧ w'.cell? ⟨b2, o2 + k * 11 + 3, none⟩ = some (.int .i64 ns[k].m0) ∧ w'.cell? ⟨b2, o2 + k * 11 + 4, none⟩ = some (.int .i64 ns[k].m1) ∧ w'.cell? ⟨b2, o2 + k * 11 + 5, none⟩ = some (.int .i64 ns[k].m2) ∧ w'.cell? ⟨b2, o2 + k * 11 + 6, none⟩ = some (.int .i64 ns[k].m3) ∧ w'.cell? ⟨b2, o2 + k * 11 + 7, none⟩ = some (.int .i64 ns[k].m4) ∧ w'.cell? ⟨b2, o2 + k * 11 + 8, none⟩ = some (.int .i64 ns[k].m5) ∧ w'.cell? ⟨b2, o2 + k * 11 + 9, none⟩ = some (.int .i64 ns[k].m6) ∧ w'.cell? ⟨b2, o2 + k * 11 + 10, none⟩ = some (.int .i64 ns[k].m7))) := fun k h => by
  obtain ⟨b, o, e1, l1, s1⟩ := g1 (by omega)
  obtain ⟨b2, o2, e2, l2, s2⟩ := g3 (by omega)
  refine ⟨b, o, b2, o2, e1, e2, fun w' hb' => ?_⟩
  have hb := zab BV.out hb' BV.out.size
  obtain ⟨p0, p1, p2, p3, p4, p5, p6, p7, p8, p9, p10⟩ := s1 k h
  obtain ⟨q0, q1, q2, q3, q4, q5, q6, q7, q8, q9, q10⟩ := s2 k h
  exact ⟨⟨(hb.cell (p := ⟨b, o + k * 11, none⟩) l1).trans p0, (hb.cell (p := ⟨b, o + k * 11 + 1, none⟩) l1).trans p1, (hb.cell (p := ⟨b, o + k * 11 + 2, none⟩) l1).trans p2, (hb.cell (p := ⟨b, o + k * 11 + 3, none⟩) l1).trans p3, (hb.cell (p := ⟨b, o + k * 11 + 4, none⟩) l1).trans p4, (hb.cell (p := ⟨b, o + k * 11 + 5, none⟩) l1).trans p5, (hb.cell (p := ⟨b, o + k * 11 + 6, none⟩) l1).trans p6, (hb.cell (p := ⟨b, o + k * 11 + 7, none⟩) l1).trans p7, (hb.cell (p := ⟨b, o + k * 11 + 8, none⟩) l1).trans p8, (hb.cell (p := ⟨b, o + k * 11 + 9, none⟩) l1).trans p9, (hb.cell (p := ⟨b, o + k * 11 + 10, none⟩) l1).trans p10⟩, (hb.cell (p := ⟨b2, o2 + k * 11, none⟩) l2).trans q0, (hb.cell (p := ⟨b2, o2 + k * 11 + 1, none⟩) l2).trans q1, (hb.cell (p := ⟨b2, o2 + k * 11 + 2, none⟩) l2).trans q2, (hb.cell (p := ⟨b2, o2 + k * 11 + 3, none⟩) l2).trans q3, (hb.cell (p := ⟨b2, o2 + k * 11 + 4, none⟩) l2).trans q4, (hb.cell (p := ⟨b2, o2 + k * 11 + 5, none⟩) l2).trans q5, (hb.cell (p := ⟨b2, o2 + k * 11 + 6, none⟩) l2).trans q6, (hb.cell (p := ⟨b2, o2 + k * 11 + 7, none⟩) l2).trans q7, (hb.cell (p := ⟨b2, o2 + k * 11 + 8, none⟩) l2).trans q8, (hb.cell (p := ⟨b2, o2 + k * 11 + 9, none⟩) l2).trans q9, (hb.cell (p := ⟨b2, o2 + k * 11 + 10, none⟩) l2).trans q10⟩
 have GD : Hid (∀ k (h : k < ds.length), ∃ b o b2 o2, a2 = some ⟨b, o, none⟩ ∧ a4 = some ⟨b2, o2, none⟩ ∧ ∀ w', Below V.heap.size V w' → (w'.cell? ⟨b, o + k * 3, none⟩ = some (.int .i64 ds[k].dir) ∧ w'.cell? ⟨b, o + k * 3 + 1, none⟩ = some (.string ds[k].name) ∧ w'.cell? ⟨b, o + k * 3 + 2, none⟩ = some (.int .i64 ds[k].child)) ∧ (w'.cell? ⟨b2, o2 + k * 3, none⟩ = some (.int .i64 ds[k].dir) ∧ w'.cell? ⟨b2, o2 + k * 3 + 1, none⟩ = some (.string ds[k].name) ∧ w'.cell? ⟨b2, o2 + k * 3 + 2, none⟩ = some (.int .i64 ds[k].child))) := fun k h => by
  obtain ⟨b, o, e1, l1, s1⟩ := g2 (by omega)
  obtain ⟨b2, o2, e2, l2, s2⟩ := g4 (by omega)
  refine ⟨b, o, b2, o2, e1, e2, fun w' hb' => ?_⟩
  have hb := zab BV.out hb' BV.out.size
  obtain ⟨p0, p1, p2⟩ := s1 k h
  obtain ⟨q0, q1, q2⟩ := s2 k h
  exact ⟨⟨(hb.cell (p := ⟨b, o + k * 3, none⟩) l1).trans p0, (hb.cell (p := ⟨b, o + k * 3 + 1, none⟩) l1).trans p1, (hb.cell (p := ⟨b, o + k * 3 + 2, none⟩) l1).trans p2⟩, (hb.cell (p := ⟨b2, o2 + k * 3, none⟩) l2).trans q0, (hb.cell (p := ⟨b2, o2 + k * 3 + 1, none⟩) l2).trans q1, (hb.cell (p := ⟨b2, o2 + k * 3 + 2, none⟩) l2).trans q2⟩
 clear g1 g2 g3 g4
 obtain ⟨y1, y2⟩ := MB.out V (Below.refl _ _)
 obtain ⟨y10, y11, -⟩ := zac y1
 obtain ⟨y20, y21, -⟩ := zac y2
 go_enter Tryz.func19, Tryz.ntmps19
 go_upto_region 1 with fail
 rw [← hV]
 clear hV y1 y2
 go_wp2_with fail
 clear y10 y11 y20 y21
 go_loopw [5] (fun i wr => ∃ k : Nat, k ≤ ns.length ∧ i = .int .i64 k ∧ Hid (Below V.heap.size V wr)) (fun i _ => ns.length - (intOf i).toNat)
 case atStart => exact ⟨0, by omega, rfl, Below.refl _ _⟩
 case round =>
  obtain ⟨k, hk, rfl, J⟩ := hrel
  obtain ⟨y1, y2⟩ := MB.out wr J.out
  obtain ⟨y10, y11, -⟩ := zac y1
  obtain ⟨y20, y21, -⟩ := zac y2
  clear y1 y2
  by_cases hlt : k < ns.length
  ·obtain ⟨b, o, b2, o2, e1, e3, hc⟩ := GI.out k hlt
   subst e1
   subst e3
   obtain ⟨⟨p0, p1, p2, p3, p4, p5, p6, p7, p8, p9, p10⟩, q0, q1, q2, q3, q4, q5, q6, q7, q8, q9, q10⟩ := hc wr J.out
   generalize ns[k] = x at *
   have hlt' : (k : Int) < (ns.length : Int) := by omega
   have hge : (0 : Int) ≤ (k : Int) := by omega
   have J1 : Hid (∀ n, Below V.heap.size V (wr.drewN n)) := fun n => Below.drewN'' J.out n
   have EA : zfo [x.kind, x.size, x.links, x.m0, x.m1, x.m2, x.m3, x.m4, x.m5, x.m6, x.m7] [x.kind, x.size, x.links, x.m0, x.m1, x.m2, x.m3, x.m4, x.m5, x.m6, x.m7] = true := zsa rfl
   clear hc GI GD MB J
   go_wp2_with fail
   go_quiet (fail)
   go_wp2
   go_roundw
   case rel => exact ⟨k + 1, by omega, by go_num, J1.out _⟩
   case measure => simp [intOf]; omega
  ·have hlt' : ¬ (k : Int) < (ns.length : Int) := by omega
   go_wp2_with fail
   clear y10 y11 y20 y21
   go_loopw [6] (fun i wr2 => ∃ k : Nat, k ≤ ds.length ∧ i = .int .i64 k ∧ Hid (Below V.heap.size V wr2)) (fun i _ => ds.length - (intOf i).toNat)
   case atStart => exact ⟨0, by omega, rfl, J⟩
   case round =>
    obtain ⟨m, hm, rfl, J2⟩ := hrel
    rename World => wr2
    obtain ⟨y1, y2⟩ := MB.out wr2 J2.out
    obtain ⟨y10, y11, -⟩ := zac y1
    obtain ⟨y20, y21, -⟩ := zac y2
    clear y1 y2
    by_cases hmt : m < ds.length
    ·obtain ⟨b, o, b2, o2, e1, e3, hc⟩ := GD.out m hmt
     subst e1
     subst e3
     obtain ⟨⟨p0, p1, p2⟩, q0, q1, q2⟩ := hc wr2 J2.out
     generalize ds[m] = x at *
     have hmt' : (m : Int) < (ds.length : Int) := by omega
     have hge : (0 : Int) ≤ (m : Int) := by omega
     have J1 : Hid (∀ n, Below V.heap.size V (wr2.drewN n)) := fun n => Below.drewN'' J2.out n
     have EA : zgk x.dir x.name x.child x.dir x.name x.child = true := by unfold zgk; simp
     clear hc GI GD MB J J2
     go_wp2_with fail
     go_quiet (fail)
     go_wp2
     go_roundw
     case rel => exact ⟨m + 1, by omega, by go_num, J1.out _⟩
     case measure => simp [intOf]; omega
    ·have hmt' : ¬ (m : Int) < (ds.length : Int) := by omega
     go_wp2
     go_ret
     exact ⟨rfl, zab BV.out J2.out BV.out.size⟩
end Go.Proofs.YtpakbbdlhlkogaaGreatDoor
