/- Several texts laid together: PlM, PlO, DtB, RdB, PaC, ShL. -/
import Derived.Test.YtcilodgoognmnaaGreatDoorZBK
import Derived.Test.YtcilodgoognmnaaGreatDoorZBH
import Derived.Deep.RegionHeld3
import Derived.Test.YtcilodgoognmnaaGreatDoorZBI
import Derived.Test.YtcilodgoognmnaaGreatDoorZAG
import Derived.Test.YtcilodgoognmnaaGreatDoorWt
import Derived.Test.YtcilodgoognmnaaGreatDoorZBC
import Derived.Test.YtcilodgoognmnaaGreatDoorZAB
import Derived.Test.YtcilodgoognmnaaGreatDoorPiI
import Derived.Test.YtcilodgoognmnaaGreatDoorZAH
import Derived.Deep.LoopGhost
import Derived.Deep.DeepCutAuto
import Derived.WalkMore
import Derived.Test.YtcilodgoognmnaaGreatDoorRows
import Derived.Shelf.Small.Strs
import Derived.Shelf.Small.Wraps
import Derived.Shelf.Strings.Search3
import Derived.Shelf.Strings.Count
import Derived.Shelf.Strings.Split
namespace Go.Proofs.YtcilodgoognmnaaGreatDoor
open Go.RowKit

/-- What a plan answers stands in a row of its own. -/
def PlOut (w w' : World) (e : Ending) (r : List Se × Int) : Prop := ∃ v', e = .returned (.tuple #[v', .int .i64 r.2]) ∧ Row w' 130 2 w.heap.size w'.heap.size v' r.1.length (ses r.1) ∧ Below w.heap.size w w'
theorem upn {w w1 : World} (B : Below w.heap.size w w1) : Row (w1.alloc (.cells #[] 130)) 130 2 w.heap.size (w1.alloc (.cells #[] 130)).heap.size (.slice (some ⟨w1.heap.size, 0, none⟩) 0 0) 0 [] ∧ Below w.heap.size w (w1.alloc (.cells #[] 130)) :=
  ⟨(row_none w1 _ _).wide B.size (Nat.le_refl _), B.alloc B.size _⟩
theorem pl_none {w w1 : World} {c : Int} (B : Below w.heap.size w w1) : PlOut w (w1.alloc (.cells #[] 130)) (.returned (.tuple #[.slice (some ⟨w1.heap.size, 0, none⟩) 0 0, .int .i64 c])) ([], c) :=
  ⟨_, rfl, (upn B).1, (upn B).2⟩
theorem pl_noneB {w w1 : World} {b : Nat} {c : Int} (B : Below w.heap.size w w1) (hb : b = w1.heap.size) : PlOut w (w1.alloc (.cells #[] 130)) (.returned (.tuple #[.slice (some ⟨b, 0, none⟩) 0 0, .int .i64 c])) ([], c) := by
  subst hb
  exact pl_none B
theorem pl_nil {w w1 : World} {c : Int} (B : Below w.heap.size w w1) : PlOut w w1 (.returned (.tuple #[.slice none 0 0, .int .i64 c])) ([], c) :=
  ⟨_, rfl, Row.nil _ _ _ _ _, B⟩

end Go.Proofs.YtcilodgoognmnaaGreatDoor

namespace Go.Proofs.YtcilodgoognmnaaGreatDoor
open Go.RowKit

theorem UpI.wide {w w3 w1 : World} {v : Value} {L : List Se} (h : UpI w3 w1 v L) (B : Below w.heap.size w w3) : UpI w w1 v L := ⟨((own_block h.l).wide B.size (Nat.le_refl _)).1, below_trans B h.b B.size⟩
end Go.Proofs.YtcilodgoognmnaaGreatDoor

namespace Go.Proofs.YtcilodgoognmnaaGreatDoor
open Go.RowKit

set_option maxRecDepth 100000 in
set_option maxHeartbeats 4000000 in
theorem l08File_any (v : Value) (ns : List Ino) (ds : List Den) (s : ByteArray) (w : World) (h : RdIm w v ns ds) (hi : imgB ns ds = true) (hs : s.size ≤ 65536) :
    Calls Tryz.prog 84 #[v, .string s] w fun e w' => e = .returned (.tuple #[.int .i64 (flI ns ds s).1, .int .i64 (flI ns ds s).2]) ∧ Below w.heap.size w w' := by
  have LL := hideIt (fun w1 (hb : Below w.heap.size w w1) => l06Lookup_any v ns ds s w1 (h.below hb) hi hs)
  have EL := hideIt (show flI ns ds s = if (lkI ns ds s).2 = 0 then (if kindAt ns (lkI ns ds s).1 = 1 then ((lkI ns ds s).1, 0) else (0, 9)) else (0, (lkI ns ds s).2) from rfl)
  have LO := hideIt (lkI_ok (s := s) hi)
  obtain ⟨l16, l24, _⟩ := pimg_all hi
  have L16 := hideIt l16
  obtain ⟨vW, vP, rfl, h1, h2⟩ := h
  obtain ⟨aW, cW, rfl, _, hcW⟩ := h1.shape
  obtain ⟨aP, cP, rfl, _, hcP⟩ := h2.shape
  obtain ⟨bW, oW, rfl, hblW, hcellW⟩ := hcW (by omega)
  have HW : Hid (∀ i (h : i < ns.length) w', Below w.heap.size w w' → w'.cell? ⟨bW, oW + i * 11, none⟩ = some (.int .i64 (kindAt ns (i : Int)))) := fun i h w' hb =>
    ((hb.cell (p := ⟨bW, oW + i * 11, none⟩) hblW).trans (hcellW i h).1).trans (by rw [← kindAt_of h])
  clear h1 h2 hi hs hcW hcP hcellW l16 l24
  have CA : Hid (∀ w', Below (w.alloc (.cells #[.slice (some ⟨bW, oW, none⟩) ns.length cW, .slice aP ds.length cP] 63)).heap.size (w.alloc (.cells #[.slice (some ⟨bW, oW, none⟩) ns.length cW, .slice aP ds.length cP] 63)) w' → w'.cell? ⟨w.heap.size, 0, none⟩ = some (.slice (some ⟨bW, oW, none⟩) ns.length cW) ∧ w'.cell? ⟨w.heap.size, 1, none⟩ = some (.slice aP ds.length cP)) := fun w' hb => by
    have : w'.heap[w.heap.size]? = some (.cells #[.slice (some ⟨bW, oW, none⟩) ns.length cW, .slice aP ds.length cP] 63 (0, 0)) := (hb.block _ (by simp)).trans (at_new rfl)
    exact ⟨(two_cells this).1, (two_cells this).2.1⟩
  have BW : Hid (Below w.heap.size w (w.alloc (.cells #[.slice (some ⟨bW, oW, none⟩) ns.length cW, .slice aP ds.length cP] 63))) := (Below.refl _ _).alloc (Nat.le_refl _) _
  obtain ⟨x0, x1⟩ := CA.out _ (Below.refl _ _)
  obtain ⟨W, hW⟩ : ∃ W, W = w.alloc (.cells #[.slice (some ⟨bW, oW, none⟩) ns.length cW, .slice aP ds.length cP] 63) := ⟨_, rfl⟩
  rw [← hW] at CA BW
  have hz : w.heap.size < W.heap.size := by rw [hW]; simp
  generalize flI ns ds s = res at *
  generalize lkI ns ds s = lr at *
  obtain ⟨li, lc⟩ := lr
  simp only at EL LO LL
  obtain ⟨i, rfl⟩ : ∃ i : Nat, li = (i : Int) := ⟨li.toNat, by have := LO.out; omega⟩
  have i1 : i < ns.length := by have := LO.out; have := L16.out; omega
  have i0 : (0 : Int) ≤ (i : Int) := by omega
  have il : (i : Int) < (ns.length : Int) := by omega
  have HWi := hideIt (HW.out i i1)
  clear HW LO
  generalize kindAt ns (i : Int) = kd at *
  go_enter Tryz.func84, Tryz.ntmps84
  go_wp2_with fail
  rw [← hW]
  clear hW x0 x1
  refine (LL.out _ BW.out).mono ?_
  rintro e w1 ⟨rfl, hb1⟩
  have A1 := hideIt hb1
  have B1 := hideIt (below_trans BW.out A1.out BW.out.size)
  obtain ⟨x0, x1⟩ := CA.out _ A1.out
  clear hb1
  by_cases c : lc = 0
  case neg =>
    rw [if_neg c] at EL
    obtain rfl := EL.out
    have q : (lc != 0) = true := by rw [bne_iff_ne]; exact c
    go_wp2
    go_ret2
    exact ⟨rfl, B1.out⟩
  subst c
  rw [if_pos rfl] at EL
  have y0 := HWi.out _ B1.out
  by_cases c : kd = 1
  · rw [if_pos c] at EL
    obtain rfl := EL.out
    have q : (kd != 1) = false := by rw [c]; rfl
    go_wp2
    go_ret2
    exact ⟨rfl, B1.out⟩
  · rw [if_neg c] at EL
    obtain rfl := EL.out
    have q : (kd != 1) = true := by rw [bne_iff_ne]; exact c
    go_wp2
    go_ret2
    exact ⟨rfl, B1.out⟩
end Go.Proofs.YtcilodgoognmnaaGreatDoor

namespace Go.Proofs.YtcilodgoognmnaaGreatDoor
open Go.RowKit

theorem bel2 {a b c : World} (h1 : Below a.heap.size a b) (h2 : Below b.heap.size b c) : Below a.heap.size a c := below_trans h1 h2 h1.size
/-- An image under way. -/
structure RimI (W w : World) (bM : Nat) (vI vD : Value) (xs : List Ino) (ds : List Den) : Prop where
  m : w.heap[bM]? = some (.cells #[vI, vD] 63 (0, 0))
  i : w.ownsRow W.heap.size 97 11 vI xs.length (inos xs)
  d : w.ownsRow W.heap.size 180 3 vD ds.length (dens ds)
  b : Below W.heap.size W w
  hb : W.heap.size ≤ bM
theorem RimI.lt {W w : World} {bM : Nat} {vI vD : Value} {xs : List Ino} {ds : List Den} (h : RimI W w bM vI vD xs ds) : bM < w.heap.size := (Array.getElem?_eq_some_iff.1 h.m).1
theorem RimI.z {W w : World} {bM : Nat} {vI vD : Value} {xs : List Ino} {ds : List Den} (h : RimI W w bM vI vD xs ds) : W.heap.size ≤ w.heap.size := h.b.size
theorem RimI.below {W w w' : World} {bM : Nat} {vI vD : Value} {xs : List Ino} {ds : List Den} (h : RimI W w bM vI vD xs ds) (hb : Below w.heap.size w w') : RimI W w' bM vI vD xs ds :=
  ⟨(hb.block _ h.lt).trans h.m, ((own_block h.i).below hb (Nat.le_refl _)).1, ((own_block h.d).below hb (Nat.le_refl _)).1, below_trans h.b hb h.z, h.hb⟩
/-- A box that was made since. -/
structure BoxZ (t : TypeId) (wr w : World) (b : Nat) (cs : List Value) : Prop where
  ge : wr.heap.size ≤ b
  at_ : w.heap[b]? = some (.cells cs.toArray t (0, 0))
theorem BoxZ.drew {t : TypeId} {wr w : World} {b : Nat} {cs : List Value} (h : BoxZ t wr w b cs) : BoxZ t wr w.drew b cs := ⟨h.ge, h.at_⟩
theorem BoxZ.lt {t : TypeId} {wr w : World} {b : Nat} {cs : List Value} (h : BoxZ t wr w b cs) : b < w.heap.size := (Array.getElem?_eq_some_iff.1 h.at_).1
theorem BoxZ.below {t : TypeId} {wr X w : World} {b : Nat} {cs : List Value} (h : BoxZ t wr X b cs) (hb : Below X.heap.size X w) : BoxZ t wr w b cs := ⟨h.ge, (hb.block _ h.lt).trans h.at_⟩
theorem BoxZ.cell {t : TypeId} {wr w : World} {b : Nat} {cs : List Value} (h : BoxZ t wr w b cs) (j : Nat) : w.cell? ⟨b, j, none⟩ = cs[j]? ∧ w.frozen? ⟨b, j, none⟩ = false := eight_at h.at_ j
end Go.Proofs.YtcilodgoognmnaaGreatDoor

namespace Go.Proofs.YtcilodgoognmnaaGreatDoor
open Go.RowKit

set_option maxRecDepth 100000 in
set_option maxHeartbeats 2000000 in
theorem isDir_any (v : Value) (ws : List Ino) (ps : List Den) (i : Int) (w : World) (h : RdIm w v ws ps) (hl : ws.length = 16) (h0 : 0 ≤ i ∧ i ≤ 15) :
    Calls Tryz.prog 97 #[v, .int .i64 i] w fun e w' => e = .returned (.bool (kindAt ws i == 2)) ∧ Below w.heap.size w w' := by
  obtain ⟨vW, vP, rfl, h1, h2⟩ := h
  obtain ⟨aW, cW, rfl, _, hcW⟩ := h1.shape
  obtain ⟨aP, cP, rfl, _, _⟩ := h2.shape
  obtain ⟨n, rfl⟩ : ∃ n : Nat, i = (n : Int) := ⟨i.toNat, by omega⟩
  have hn : n < ws.length := by omega
  obtain ⟨bW, oW, rfl, hblW, hcellW⟩ := hcW (by omega)
  have BW : Hid (Below w.heap.size w (w.alloc (.cells #[.slice (some ⟨bW, oW, none⟩) ws.length cW, .slice aP ps.length cP] 63))) := (Below.refl _ _).alloc (Nat.le_refl _) _
  have k0 := (BW.out.cell (p := ⟨bW, oW + n * 11, none⟩) hblW).trans (hcellW n hn).1
  rw [← kindAt_of hn] at k0
  have n0 : (0 : Int) ≤ (n : Int) := by omega
  have n1 : (n : Int) < (ws.length : Int) := by omega
  clear h1 h2 hcW hcellW hl h0 hn
  generalize kindAt ws (n : Int) = kk at *
  go_enter Tryz.func97, Tryz.ntmps97
  go_wp2
  go_ret
  exact ⟨rfl, BW.out⟩

end Go.Proofs.YtcilodgoognmnaaGreatDoor

namespace Go.Proofs.YtcilodgoognmnaaGreatDoor
open Go.Shelf Go.RowKit

def lays103_ren : Go.Shelf.Ren := ⟨fun | 103 => 238 | 210 => 263 | 206 => 271 | n => n, fun | 9 => 9 | 4 => 4 | 24 => 239 | 3 => 3 | n => n, fun | n => n⟩
theorem lays103 : Go.Proofs.Lays.n103 Tryz.prog lays103_ren := {
  mixed := by kernel_rfl
  f103 := Tryz.func238.trans (congrArg some (by kernel_rfl))
  f206 := Tryz.func271.trans (congrArg some (by kernel_rfl))
  f210 := Tryz.func263.trans (congrArg some (by kernel_rfl))
  t3 := Tryz.underlying3
  a3 := Tryz.isAgg3
  z3 := Tryz.sizeOf3
  v3 := Tryz.zeroValue3
  t4 := Tryz.underlying4
  a4 := Tryz.isAgg4
  z4 := Tryz.sizeOf4
  v4 := Tryz.zeroValue4
  t9 := Tryz.underlying9
  a9 := Tryz.isAgg9
  z9 := Tryz.sizeOf9
  v9 := Tryz.zeroValue9
  t24 := Tryz.underlying239
  a24 := Tryz.isAgg239
  z24 := Tryz.sizeOf239
  v24 := Tryz.zeroValue239 }
def lays146_ren : Go.Shelf.Ren := ⟨fun | 146 => 239 | 221 => 264 | 268 => 272 | 138 => 273 | 143 => 274 | 195 => 276 | 197 => 277 | 218 => 278 | 219 => 279 | 260 => 280 | 217 => 281 | 225 => 282 | 224 => 283 | 267 => 284 | 266 => 285 | 314 => 286 | n => n, fun | 9 => 9 | 31 => 73 | 3 => 3 | 4 => 4 | 0 => 0 | 105 => 305 | 21 => 21 | 5 => 5 | 46 => 258 | 119 => 308 | 139 => 311 | 138 => 310 | 146 => 312 | 51 => 287 | n => n, fun | 1 => 4 | 3 => 5 | 4 => 6 | n => n⟩
theorem lays146 : Go.Proofs.Lays.n146 Tryz.prog lays146_ren := {
  mixed := by kernel_rfl
  f138 := Tryz.func273.trans (congrArg some (by kernel_rfl))
  f143 := Tryz.func274.trans (congrArg some (by kernel_rfl))
  f146 := Tryz.func239.trans (congrArg some (by kernel_rfl))
  f195 := Tryz.func276.trans (congrArg some (by kernel_rfl))
  f197 := Tryz.func277.trans (congrArg some (by kernel_rfl))
  f217 := Tryz.func281.trans (congrArg some (by kernel_rfl))
  f218 := Tryz.func278.trans (congrArg some (by kernel_rfl))
  f219 := Tryz.func279.trans (congrArg some (by kernel_rfl))
  f221 := Tryz.func264.trans (congrArg some (by kernel_rfl))
  f224 := Tryz.func283.trans (congrArg some (by kernel_rfl))
  f225 := Tryz.func282.trans (congrArg some (by kernel_rfl))
  f260 := Tryz.func280.trans (congrArg some (by kernel_rfl))
  f266 := Tryz.func285.trans (congrArg some (by kernel_rfl))
  f267 := Tryz.func284.trans (congrArg some (by kernel_rfl))
  f268 := Tryz.func272.trans (congrArg some (by kernel_rfl))
  f314 := Tryz.func286.trans (congrArg some (by kernel_rfl))
  t0 := Tryz.underlying0
  a0 := Tryz.isAgg0
  z0 := Tryz.sizeOf0
  v0 := Tryz.zeroValue0
  t3 := Tryz.underlying3
  a3 := Tryz.isAgg3
  z3 := Tryz.sizeOf3
  v3 := Tryz.zeroValue3
  t4 := Tryz.underlying4
  a4 := Tryz.isAgg4
  z4 := Tryz.sizeOf4
  v4 := Tryz.zeroValue4
  t5 := Tryz.underlying5
  a5 := Tryz.isAgg5
  z5 := Tryz.sizeOf5
  v5 := Tryz.zeroValue5
  t9 := Tryz.underlying9
  a9 := Tryz.isAgg9
  z9 := Tryz.sizeOf9
  v9 := Tryz.zeroValue9
  t21 := Tryz.underlying21
  a21 := Tryz.isAgg21
  z21 := Tryz.sizeOf21
  v21 := Tryz.zeroValue21
  t31 := Tryz.underlying73
  a31 := Tryz.isAgg73
  z31 := Tryz.sizeOf73
  v31 := Tryz.zeroValue73
  t46 := Tryz.underlying258
  a46 := Tryz.isAgg258
  z46 := Tryz.sizeOf258
  v46 := Tryz.zeroValue258
  t51 := Tryz.underlying287
  a51 := Tryz.isAgg287
  z51 := Tryz.sizeOf287
  v51 := Tryz.zeroValue287
  t105 := Tryz.underlying305
  a105 := Tryz.isAgg305
  z105 := Tryz.sizeOf305
  v105 := Tryz.zeroValue305
  t119 := Tryz.underlying308
  a119 := Tryz.isAgg308
  z119 := Tryz.sizeOf308
  t138 := Tryz.underlying310
  a138 := Tryz.isAgg310
  z138 := Tryz.sizeOf310
  v138 := Tryz.zeroValue310
  t139 := Tryz.underlying311
  a139 := Tryz.isAgg311
  z139 := Tryz.sizeOf311
  v139 := Tryz.zeroValue311
  t146 := Tryz.underlying312
  a146 := Tryz.isAgg312
  z146 := Tryz.sizeOf312
  v146 := Tryz.zeroValue312
  g1 := by kernel_rfl
  g3 := by kernel_rfl
  g4 := by kernel_rfl }
end Go.Proofs.YtcilodgoognmnaaGreatDoor
