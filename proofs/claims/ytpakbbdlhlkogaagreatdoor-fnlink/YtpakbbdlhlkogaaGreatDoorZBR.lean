/- Several texts laid together: PlB, PaC, ShL, PbB, PbE, PcE. -/
import Derived.Test.YtpakbbdlhlkogaaGreatDoorZAN
import Derived.Test.YtpakbbdlhlkogaaGreatDoorZAE
import Derived.Maps.OwnSet
import Derived.Deep.LoopGhost
import Derived.Test.YtpakbbdlhlkogaaGreatDoorZAL
import Derived.WalkMore
import Derived.Test.YtpakbbdlhlkogaaGreatDoorRows
import Derived.Shelf.Small.Strs
import Derived.Shelf.Small.Wraps
import Derived.Shelf.Strings.Search3
import Derived.Shelf.Strings.Count
import Derived.Shelf.Strings.Split
import Derived.Test.YtpakbbdlhlkogaaGreatDoorZAJ
import Derived.Test.YtpakbbdlhlkogaaGreatDoorZAK
import Derived.Test.YtpakbbdlhlkogaaGreatDoorZAV
namespace Go.Proofs.YtpakbbdlhlkogaaGreatDoor
open Go.RowKit Go.Maps Go.MapKept Go.ChangeMaps Go.WideShapes
open Go.WideElems (Fit rd rg pl rd_val elemAt)
theorem zsl {H : Type} {P : Program} {k e t : TypeId} {R : Value → Option (DataW H × List MemPlace)} {w : World} {b n : Nat} {D : DataW H} (h : w.ownsMap P k R b n D) (ht : P.underlying t = some (.map k e)) (ty : TypeId) :
  ∃ w', (Builtin.clear_ #[t] ty #[.map (some b)]).run P w = .ok (.tuple #[]) w' ∧ w'.ownsMap P k R b 0 (.map []) ∧ w.grownBy w' (some b) := by
 obtain ⟨es, clock, hb, F, hs, rfl⟩ := h
 refine ⟨setBlock w b (.map #[] clock), ?_, ⟨#[], clock, heap_setBlock_same hb _, ⟨by simp, stamped_empty clock, by simp⟩, Nat.le_refl _, rfl⟩, ⟨rfl, rfl, rfl, by simp [setBlock], fun i _ hi => heap_setBlock_other hb _ (fun e => hi (by rw [e]))⟩⟩
 simp [Builtin.clear_, run_underlying ht, MapKept.run_getObj_map hb, MapKept.run_setObj_map _ hb, Result.andThen, setBlock]
theorem mapU : Tryz.prog.underlying 75 = some (.map 9 3) := by kernel_rfl
theorem strU : Tryz.prog.underlying 9 = some .string := by kernel_rfl
theorem intU : Tryz.prog.underlying 3 = some (.int .i64) := by kernel_rfl
theorem strK : Keyed Tryz.prog 9 := string_keyed strU
theorem intZ (w : World) : (zeroValue 3).run Tryz.prog w = .ok (.int .i64 0) w := by kernel_rfl
def Mp (w : World) (b : Nat) (D : DataW Unit) : Prop := w.ownsMap Tryz.prog 9 (plainElem Tryz.prog 3) b 4096 D
theorem Mp.lt {w : World} {b : Nat} {D : DataW Unit} (h : Mp w b D) : b < w.heap.size := World.ownsMap.lt h
theorem Mp.below {w w' : World} {b : Nat} {D : DataW Unit} (h : Mp w b D) (hb : Below w.heap.size w w') : Mp w' b D := by
 have hl := h.lt
 obtain ⟨es, cl, q, r⟩ := h
 exact ⟨es, cl, (hb.block b hl).trans q, r⟩
theorem grownB {w w' : World} (h : Below w.heap.size w w') (row : Option Nat) : w.grownBy w' row := ⟨h.os, h.tape, h.output, h.size, fun i hi _ => h.block i hi⟩
theorem Mp.ne {w : World} {b : Nat} {D : DataW Unit} (h : Mp w b D) {a : Addr} {v : Value} (hc : w.cell? a = some v) : some a.block ≠ some b := by
 obtain ⟨es, cl, q, _⟩ := h
 intro e
 injection e with e
 subst e
 simp [World.cell?, q] at hc
theorem Mp.neg {w : World} {b : Nat} {D : DataW Unit} (h : Mp w b D) {g : Nat} {cs : Array Value} {t : TypeId} {fr} (hc : w.heap[g]? = some (.cells cs t fr)) : some g ≠ some b := by
 obtain ⟨es, cl, q, _⟩ := h
 intro e
 injection e with e
 subst e
 rw [q] at hc
 cases hc
theorem FD.grown {w w' : World} {b : Nat} {D : DataW Unit} (h : FD w) (m : Mp w b D) (hg : w.grownBy w' (some b)) : FD w' := by
 have hl := h.lt
 obtain ⟨t, fr, h⟩ := h
 exact ⟨t, fr, (hg.block _ hl (m.neg h)).trans h⟩
set_option maxRecDepth 100000 in
set_option maxHeartbeats 4000000 in
theorem zlk (v : Value) (ws : List Ino) (ps : List Den) (d : Int) (b : Nat) (D : DataW Unit) (w : World) (h : RdIm w v ws ps) (hi : zcb ws ps = true) (hm : Mp w b D) (hF : FD w) :
  Calls Tryz.prog 28 #[.map (some b), v, .int .i64 d] w fun e w' => e = .returned (.tuple #[]) ∧ Mp w' b (mpD ps d ps.length) ∧ w.grownBy w' (some b) := by
 have HL := zaa (zau hi).2.1
 have HF := zaa (fun j hj => zqf hi j hj)
 have HN := zaa (fun j hj => zjr hi j hj)
 obtain ⟨vW, vP, rfl, h1, h2⟩ := h
 obtain ⟨aW, cW, rfl, _⟩ := h1.shape
 obtain ⟨aP, cP, rfl, _, hcP⟩ := h2.shape
 have HZ := zaa hcP
 clear h1 h2 hcP hi
 obtain ⟨W, hW⟩ : ∃ W, W = w.alloc (.cells #[.slice aW ws.length cW, .slice aP ps.length cP] 42) := ⟨_, rfl⟩
 have BW : Hid (Below w.heap.size w W) := by rw [hW]; exact (Below.refl _ _).alloc (Nat.le_refl _) _
 have M : Hid (Mp W b D) := hm.below BW.out
 have hbl : b < w.heap.size := hm.lt
 have BL := zaa hbl
 have CA : Hid (W.cell? ⟨w.heap.size, 1, none⟩ = some (.slice aP ps.length cP)) := by
  have : W.heap[w.heap.size]? = some (.cells #[.slice aW ws.length cW, .slice aP ps.length cP] 42 (0, 0)) := by rw [hW]; exact zah rfl
  exact (zac this).2.1
 have F := zaa (hF.below BW.out)
 have MW := zaa hm
 clear hF hm hbl
 go_enter Tryz.func28, Tryz.ntmps28
 go_wp2_with fail
 rw [← hW]
 clear hW
 obtain ⟨w1, hrun, hown1, hg1⟩ := zsl M.out mapU 0
 rw [hrun]
 clear hrun
 have x1 := hg1.cell CA.out (M.out.ne CA.out)
 have F1 := zaa (F.out.grown M.out hg1)
 have G1 := zaa ((grownB BW.out (some b)).trans hg1)
 have hz1 : w.heap.size ≤ w1.heap.size := G1.out.size
 have O1 := zaa hown1
 clear hown1 hg1 CA M F
 go_wp2
 go_loopg [6, 7, 12] ps.length (fun g _ _ i wr => ∃ k : Nat, k + g = ps.length ∧ i = .int .i64 k ∧ Hid (wr.ownsMap Tryz.prog 9 (plainElem Tryz.prog 3) b k (mpD ps d k)) ∧ Hid (w.grownBy wr (some b)) ∧ Hid (FD wr))
 case atStart => exact ⟨0, by omega, rfl, O1, G1, F1⟩
 case round =>
  obtain ⟨k, hk, rfl, O, G, F⟩ := hrel
  have k0 : (0 : Int) ≤ (k : Int) := by omega
  by_cases hlt : k < ps.length
  ·obtain ⟨bP, o, rfl, hbl, hcell⟩ := HZ.out (by omega)
   obtain ⟨a0, a1, a2⟩ := hcell k hlt
   have d0 := G.out.cell a0 (MW.out.ne a0)
   have d1 := G.out.cell a1 (MW.out.ne a1)
   have d2 := G.out.cell a2 (MW.out.ne a2)
   have k1 : (k : Int) < (ps.length : Int) := by omega
   have DF := zkj ps[k]
   have FC := HF.out k hlt
   have PE := HN.out k hlt
   have STEP := zaa (show mpD ps d (k + 1) = if decide (0 ≤ ps[k].child) && ps[k].dir == d then (mpD ps d k).put (zpo ps[k].name) (.lit (.int .i64 (k : Int))) else mpD ps d k by
    rw [← zbf hlt, ← zhu hlt]; rfl)
   have k4096 : k < 4096 := by have := HL.out; omega
   have hg24 : gk - 1 < gk := by omega
   have hk' : (k + 1) + (gk - 1) = ps.length := by omega
   clear a0 a1 a2 hcell
   generalize ps[k] = x at *
   have BA : Hid (Below wr.heap.size wr (wr.alloc (.cells #[.int .i64 x.dir, .string x.name, .int .i64 x.child] 69))) := (Below.refl _ _).alloc (Nat.le_refl _) _
   have OB : Hid ((wr.alloc (.cells #[.int .i64 x.dir, .string x.name, .int .i64 x.child] 69)).ownsMap Tryz.prog 9 (plainElem Tryz.prog 3) b k (mpD ps d k)) := O.out.alloc _
   have FB := zaa (F.out.below BA.out)
   have GB := zaa (G.out.trans (grownB BA.out (some b)))
   obtain ⟨f0, f1, f2⟩ := FD.cells FB.out
   clear O F G
   cases hf : x.freeB with
   | true =>
    have O2 : Hid ((wr.alloc (.cells #[.int .i64 x.dir, .string x.name, .int .i64 x.child] 69)).ownsMap Tryz.prog 9 (plainElem Tryz.prog 3) b (k + 1) (mpD ps d (k + 1))) := by
     unfold Hid
     rw [STEP.out, if_neg (by rw [hf] at FC; rw [← FC]; simp)]
     exact OB.out.mono (by omega)
    rw [hf] at DF
    clear FC PE STEP OB BA hf
    go_wp2
    go_roundg (gk - 1)
    case measure => exact hg24
    case rel => exact ⟨k + 1, hk', by go_num, O2, GB, FB⟩
   | false =>
    have fc : 0 ≤ x.child := by
     rw [hf] at FC
     have := FC.symm
     simpa using this
    have hn : x.name.size ≤ maxLen := by
     rcases PE with q | q
     ·omega
     ·have := (zda q.2.2.1).2.1
      unfold maxLen
      omega
    rw [hf] at DF
    rw [decide_eq_true fc, Bool.true_and] at STEP
    clear FC PE hf
    cases q : (x.dir == d) with
    | false =>
     have O2 : Hid ((wr.alloc (.cells #[.int .i64 x.dir, .string x.name, .int .i64 x.child] 69)).ownsMap Tryz.prog 9 (plainElem Tryz.prog 3) b (k + 1) (mpD ps d (k + 1))) := by
      unfold Hid
      rw [STEP.out, if_neg (by rw [q]; decide)]
      exact OB.out.mono (by omega)
     clear STEP OB BA
     go_wp2
     go_roundg (gk - 1)
     case measure => exact hg24
     case rel => exact ⟨k + 1, hk', by go_num, O2, GB, FB⟩
    | true =>
     rw [q, if_pos rfl] at STEP
     have key : Hid (keyOf Tryz.prog 9 (.string x.name) = some (zpo x.name)) := WideMaps.keyOf_string_mk strU hn
     clear BA hn fc
     go_wp2_with (at_mapUpdate; refine wpList_mapUpdate_own _ rfl _ _ _ 75 rfl 9 3 strK mapU _ b k _ rfl OB.out (by unfold maxLen; omega) _ _ _ rfl rfl key.out _ [] (plainElem_int intU (WalkArith.wf_i64 (by omega))) ?_)
     intro wN hownN hgrN
     rw [← STEP.out] at hownN
     have O2 := zaa hownN
     have F2 := zaa (FB.out.grown (OB.out.mono (by omega)) hgrN)
     have G2 := zaa (GB.out.trans hgrN)
     clear hownN hgrN OB FB GB STEP
     go_wp2
     go_roundg (gk - 1)
     case measure => exact hg24
     case rel => exact ⟨k + 1, hk', by go_num, O2, G2, F2⟩
  ·obtain rfl : k = ps.length := by omega
   go_wp2
   refine bodyPost_end (v := .tuple #[]) (by simp [results, Tryz.results28, go_sem]) rfl ?_
   exact ⟨rfl, O.out.mono (by have := HL.out; omega), G.out⟩
end Go.Proofs.YtpakbbdlhlkogaaGreatDoor

namespace Go.Proofs.YtpakbbdlhlkogaaGreatDoor
open Go.RowKit
set_option maxRecDepth 100000 in
set_option maxHeartbeats 2000000 in
theorem zvh (v : Value) (ws : List Ino) (ps : List Den) (i : Int) (w : World) (h : RdIm w v ws ps) (hl : ws.length = 16) (h0 : 0 ≤ i ∧ i ≤ 15) :
  Calls Tryz.prog 40 #[v, .int .i64 i] w fun e w' => e = .returned (.bool (zai ws i == 2)) ∧ Below w.heap.size w w' := by
 obtain ⟨vW, vP, rfl, h1, h2⟩ := h
 obtain ⟨aW, cW, rfl, _, hcW⟩ := h1.shape
 obtain ⟨aP, cP, rfl, _, _⟩ := h2.shape
 obtain ⟨n, rfl⟩ : ∃ n : Nat, i = (n : Int) := ⟨i.toNat, by omega⟩
 have hn : n < ws.length := by omega
 obtain ⟨bW, oW, rfl, hblW, hcellW⟩ := hcW (by omega)
 have BW : Hid (Below w.heap.size w (w.alloc (.cells #[.slice (some ⟨bW, oW, none⟩) ws.length cW, .slice aP ps.length cP] 42))) := (Below.refl _ _).alloc (Nat.le_refl _) _
 have k0 := (BW.out.cell (p := ⟨bW, oW + n * 11, none⟩) hblW).trans (hcellW n hn).1
 rw [← zbo hn] at k0
 have n0 : (0 : Int) ≤ (n : Int) := by omega
 have n1 : (n : Int) < (ws.length : Int) := by omega
 clear h1 h2 hcW hcellW hl h0 hn
 generalize zai ws (n : Int) = kk at *
 go_enter Tryz.func40, Tryz.ntmps40
 go_wp2
 go_ret
 exact ⟨rfl, BW.out⟩
end Go.Proofs.YtpakbbdlhlkogaaGreatDoor

namespace Go.Proofs.YtpakbbdlhlkogaaGreatDoor
open Go.Shelf Go.RowKit
def zyd : Go.Shelf.Ren := ⟨fun | 103 => 127 | 210 => 149 | 206 => 163 | n => n, fun | 9 => 9 | 4 => 4 | 24 => 164 | 3 => 3 | n => n, fun | n => n⟩
theorem yara : Go.Proofs.Lays.n103 Tryz.prog zyd := {
 mixed := by kernel_rfl
 f103 := Tryz.func127.trans (congrArg some (by kernel_rfl))
 f206 := Tryz.func163.trans (congrArg some (by kernel_rfl))
 f210 := Tryz.func149.trans (congrArg some (by kernel_rfl))
 t3 := Tryz.underlying3
 a3 := Tryz.isAgg3
 z3 := Tryz.sizeOf3
 v3 := Tryz.zeroValue3
 t4 := Tryz.underlying4
 a4 := Tryz.isAgg4
 z4 := Tryz.sizeOf4
 v4 := Tryz.zeroValue4
 t9 := Tryz.underlying9
 a9 := Tryz.isAgg9
 z9 := Tryz.sizeOf9
 v9 := Tryz.zeroValue9
 t24 := Tryz.underlying164
 a24 := Tryz.isAgg164
 z24 := Tryz.sizeOf164
 v24 := Tryz.zeroValue164 }
def zgy : Go.Shelf.Ren := ⟨fun | 146 => 128 | 221 => 150 | 268 => 164 | 138 => 165 | 143 => 166 | 195 => 173 | 197 => 174 | 218 => 175 | 219 => 176 | 260 => 179 | 217 => 180 | 225 => 181 | 224 => 182 | 267 => 183 | 266 => 184 | 314 => 185 | n => n, fun | 9 => 9 | 31 => 33 | 3 => 3 | 4 => 4 | 0 => 0 | 105 => 202 | 21 => 21 | 5 => 5 | 46 => 206 | 119 => 207 | 139 => 210 | 138 => 209 | 146 => 212 | 51 => 211 | n => n, fun | 1 => 2 | 3 => 4 | 4 => 5 | n => n⟩
theorem zxr : Go.Proofs.Lays.n146 Tryz.prog zgy := {
 mixed := by kernel_rfl
 f138 := Tryz.func165.trans (congrArg some (by kernel_rfl))
 f143 := Tryz.func166.trans (congrArg some (by kernel_rfl))
 f146 := Tryz.func128.trans (congrArg some (by kernel_rfl))
 f195 := Tryz.func173.trans (congrArg some (by kernel_rfl))
 f197 := Tryz.func174.trans (congrArg some (by kernel_rfl))
 f217 := Tryz.func180.trans (congrArg some (by kernel_rfl))
 f218 := Tryz.func175.trans (congrArg some (by kernel_rfl))
 f219 := Tryz.func176.trans (congrArg some (by kernel_rfl))
 f221 := Tryz.func150.trans (congrArg some (by kernel_rfl))
 f224 := Tryz.func182.trans (congrArg some (by kernel_rfl))
 f225 := Tryz.func181.trans (congrArg some (by kernel_rfl))
 f260 := Tryz.func179.trans (congrArg some (by kernel_rfl))
 f266 := Tryz.func184.trans (congrArg some (by kernel_rfl))
 f267 := Tryz.func183.trans (congrArg some (by kernel_rfl))
 f268 := Tryz.func164.trans (congrArg some (by kernel_rfl))
 f314 := Tryz.func185.trans (congrArg some (by kernel_rfl))
 t0 := Tryz.underlying0
 a0 := Tryz.isAgg0
 z0 := Tryz.sizeOf0
 v0 := Tryz.zeroValue0
 t3 := Tryz.underlying3
 a3 := Tryz.isAgg3
 z3 := Tryz.sizeOf3
 v3 := Tryz.zeroValue3
 t4 := Tryz.underlying4
 a4 := Tryz.isAgg4
 z4 := Tryz.sizeOf4
 v4 := Tryz.zeroValue4
 t5 := Tryz.underlying5
 a5 := Tryz.isAgg5
 z5 := Tryz.sizeOf5
 v5 := Tryz.zeroValue5
 t9 := Tryz.underlying9
 a9 := Tryz.isAgg9
 z9 := Tryz.sizeOf9
 v9 := Tryz.zeroValue9
 t21 := Tryz.underlying21
 a21 := Tryz.isAgg21
 z21 := Tryz.sizeOf21
 v21 := Tryz.zeroValue21
 t31 := Tryz.underlying33
 a31 := Tryz.isAgg33
 z31 := Tryz.sizeOf33
 v31 := Tryz.zeroValue33
 t46 := Tryz.underlying206
 a46 := Tryz.isAgg206
 z46 := Tryz.sizeOf206
 v46 := Tryz.zeroValue206
 t51 := Tryz.underlying211
 a51 := Tryz.isAgg211
 z51 := Tryz.sizeOf211
 v51 := Tryz.zeroValue211
 t105 := Tryz.underlying202
 a105 := Tryz.isAgg202
 z105 := Tryz.sizeOf202
 v105 := Tryz.zeroValue202
 t119 := Tryz.underlying207
 a119 := Tryz.isAgg207
 z119 := Tryz.sizeOf207
 t138 := Tryz.underlying209
 a138 := Tryz.isAgg209
 z138 := Tryz.sizeOf209
 v138 := Tryz.zeroValue209
 t139 := Tryz.underlying210
 a139 := Tryz.isAgg210
 z139 := Tryz.sizeOf210
 v139 := Tryz.zeroValue210
 t146 := Tryz.underlying212
 a146 := Tryz.isAgg212
 z146 := Tryz.sizeOf212
 v146 := Tryz.zeroValue212
 g1 := by kernel_rfl
 g3 := by kernel_rfl
 g4 := by kernel_rfl }
end Go.Proofs.YtpakbbdlhlkogaaGreatDoor

namespace Go.Proofs.YtpakbbdlhlkogaaGreatDoor
open Go.Shelf Go.RowKit Go.Lib
theorem zth (s p : ByteArray) (w : World) :
  Calls Tryz.prog 127 #[.string s, .string p] w fun e w' => e = .returned (.tuple #[.string ⟨(Lib.trimPrefix s.data.toList p.data.toList).toArray⟩, .bool (Lib.hasPrefix s.data.toList p.data.toList)]) ∧ w' = w := Any.strings_CutPrefix yara s p w
theorem zze (x : ByteArray) (w : World) : Calls Tryz.prog 166 #[.string x, .string ⟨#[47]⟩] w fun e w' => e = .returned (.int .i64 (Lib.indexB x ⟨#[47]⟩)) ∧ w' = w := by
 refine (show Calls Tryz.prog 166 #[.string x, .string ⟨#[47]⟩] w fun e w' => e = .returned (.int .i64 (Lib.indexByte x.data.toList 47)) ∧ w' = w from Any.strings_Index_one (ρ := zgy) { zxr with } x 47 w).mono fun e w' ⟨he, hw⟩ => ⟨?_, hw⟩
 rw [he]
 show _ = Ending.returned (Value.int .i64 (Lib.index x.data.toList [47]))
 rw [Lib.index_one]
theorem zyl (x : ByteArray) (w : World) : Calls Tryz.prog 165 #[.string x, .string ⟨#[47]⟩] w fun e w' => e = .returned (.int .i64 (Lib.countB x ⟨#[47]⟩)) ∧ w' = w := by
 refine (show Calls Tryz.prog 165 #[.string x, .string ⟨#[47]⟩] w fun e w' => e = .returned (.int .i64 (Lib.countByte x.data.toList 47)) ∧ w' = w from Any.strings_Count_one (ρ := zgy) { zxr with } x 47 w).mono fun e w' ⟨he, hw⟩ => ⟨?_, hw⟩
 rw [he]
 show _ = Ending.returned (Value.int .i64 ((Lib.count x.data.toList [47] : Nat) : Int))
 rw [Lib.count_one]
 rfl
set_option maxRecDepth 100000 in
set_option maxHeartbeats 1000000 in
theorem zyf (s : ByteArray) (w : World) (hs : s.size < 4294967281) :
  Calls Tryz.prog 128 #[.string s, .string ⟨#[47]⟩] w fun e w' =>
   e = .returned (.slice (some ⟨w.heap.size, 0, none⟩) (pcs s).length (pcs s).length) ∧ w' = w.alloc (.cells (zer (pcs s)).toArray 9) := by
 have hle := Lib.countB_le ⟨#[47]⟩ (by decide) s.size s (Nat.le_refl _)
 have hlen := Lib.splitB_all ⟨#[47]⟩ (by decide) 0 _ s rfl
 have c : Calls Tryz.prog 150 #[.string s, .string ⟨#[47]⟩, .int .i64 ((0 : Nat) : Int), .int .i64 (-1)] w fun e w' =>
   e = .returned (.slice (some ⟨w.heap.size, 0, none⟩) (Lib.splitB ⟨#[47]⟩ 0 (Lib.countB s ⟨#[47]⟩ + 1 - 1) s).length (Lib.countB s ⟨#[47]⟩ + 1)) ∧ w' = w.alloc (.cells (Lib.cellsOf (Lib.splitB ⟨#[47]⟩ 0 (Lib.countB s ⟨#[47]⟩ + 1 - 1) s) (Lib.countB s ⟨#[47]⟩ + 1)) 9) :=
  Any.strings_genSplit_core (ρ := zgy) { zxr with } (by kernel_rfl) s ⟨#[47]⟩ 0 (-1) (Lib.countB s ⟨#[47]⟩ + 1) w hs (by decide) (Nat.zero_le _) (fun x _ _ => zze x _) (zyl s w) (by decide) (by decide) (by rw [if_pos (by decide)]; omega)
 rw [Nat.add_sub_cancel, hlen] at c
 have e2 : Lib.cellsOf (Lib.splitB ⟨#[47]⟩ 0 (Lib.countB s ⟨#[47]⟩) s) (Lib.countB s ⟨#[47]⟩ + 1) = ((Lib.splitB ⟨#[47]⟩ 0 (Lib.countB s ⟨#[47]⟩) s).map Value.string).toArray := by rw [← hlen]; exact Lib.cellsOf_full _
 rw [e2, zts, yaiz] at c
 have C := zaa c
 clear c hle hlen e2
 unfold zer
 generalize (pcs s).length = n at *
 generalize ((pcs s).map Value.string).toArray = cs at *
 go_enter Tryz.func128, Tryz.ntmps128
 go_wp2_with (go_at_call 150; refine C.out.mono ?_; rintro e w' ⟨rfl, hw⟩; rw [hw])
 go_ret
 exact ⟨rfl, rfl⟩
end Go.Proofs.YtpakbbdlhlkogaaGreatDoor

namespace Go.Proofs.YtpakbbdlhlkogaaGreatDoor
open Go.RowKit
def zij (s : ByteArray) : ByteArray := mkB (Lib.trimPrefix s.data.toList [47])
def zqi (s : ByteArray) : Bool := Lib.hasPrefix s.data.toList [47]
theorem yalc {s : ByteArray} (h : zqi s = false) : spN s = false := by
 unfold zqi Lib.hasPrefix at h
 unfold spN
 cases hl : s.data.toList with
 | nil => rw [yalf hl]; rfl
 | cons c l =>
  have hc : ¬ c = 47 := fun e => by subst e; rw [hl] at h; simp [List.isPrefixOf] at h
  obtain ⟨x, r, e, hx⟩ := yaks hl hc
  rw [e]
  have : x.toList.isEmpty = false := by
   rw [Lib.toList_data]
   rw [Lib.size_eq] at hx
   cases h : x.data.toList with
   | nil => rw [h] at hx; exact absurd rfl hx
   | cons _ _ => rfl
  show (_ && (x.toList.isEmpty && _)) = false
  rw [this]; simp
theorem yafb {s : ByteArray} (h : zqi s = true) : spN s = (decide ((pcs (zij s)).length ≤ 6) && (pcs (zij s)).all nmB) ∧ (pcs s).drop 1 = pcs (zij s) := by
 unfold zqi Lib.hasPrefix at h
 cases hl : s.data.toList with
 | nil => rw [hl] at h; simp [List.isPrefixOf] at h
 | cons c l =>
  have hc : c = 47 := by rw [hl] at h; simp [List.isPrefixOf] at h; exact h.symm
  subst hc
  have hr : zij s = mkB l := by unfold zij Lib.trimPrefix Lib.hasPrefix; rw [hl]; simp [List.isPrefixOf]
  have hp := yagg hl
  have p1 := yakm (zij s)
  unfold spN
  rw [hp, hr]
  rw [hr] at p1
  refine ⟨?_, rfl⟩
  have e1 : (mkB [] :: pcs (mkB l)).length = (pcs (mkB l)).length + 1 := rfl
  rw [e1]
  have e2 : decide (2 ≤ (pcs (mkB l)).length + 1 ∧ (pcs (mkB l)).length + 1 ≤ 7) = decide ((pcs (mkB l)).length ≤ 6) := by
   by_cases q : (pcs (mkB l)).length ≤ 6
   ·rw [decide_eq_true q, decide_eq_true (by omega)]
   ·rw [decide_eq_false q, decide_eq_false (by omega)]
  rw [e2]
  have e3 : ((mkB [] :: pcs (mkB l)).getD 0 ⟨#[]⟩).toList.isEmpty = true := by
   show (mkB []).toList.isEmpty = true
   rw [Lib.toList_data, zif]
   rfl
  rw [e3]
  rfl
theorem yaka (s : ByteArray) : (zij s).size ≤ s.size := by
 unfold zij
 rw [Lib.size_eq, zif, Lib.size_eq]
 unfold Lib.trimPrefix
 split
 ·rw [List.length_drop]; omega
 ·exact Nat.le_refl _
set_option maxRecDepth 100000 in
set_option maxHeartbeats 4000000 in
theorem zsy (v : Value) (ss : List ByteArray) (w : World) (h : RdT w v ss) (hn : ss.length ≤ 1048576) (hs : ∀ k (h : k < ss.length), ss[k].size ≤ maxLen) :
  Calls Tryz.prog 129 #[v, .func (.func 116) #[] #[]] w fun e w' => e = .returned (.bool (ss.all nmB)) ∧ Below w.heap.size w w' := by
 obtain ⟨aP, cP, rfl, _, hcP⟩ := h.shape
 have HP := zaa hcP
 have HS := zaa hs
 have SF : Hid (∀ j (h : j < ss.length), nmB ss[j] = false → ss.all nmB = false) := fun j h q => by
  rw [List.all_eq_false]
  exact ⟨ss[j], List.getElem_mem _, by rw [q]; simp⟩
 have SA : Hid ((∀ j (h : j < ss.length), nmB ss[j] = true) → ss.all nmB = true) := fun h => by
  rw [List.all_eq_true]
  intro x hx
  obtain ⟨j, hj, rfl⟩ := List.getElem_of_mem hx
  exact h j hj
 clear h hcP hs
 go_enter Tryz.func129, Tryz.ntmps129
 go_wp2
 go_loopw [6, 9] (fun _ i wr => ∃ k : Nat, k ≤ ss.length ∧ i = .int .i64 k ∧ Hid (Below w.heap.size w wr ∧ ∀ j (h : j < ss.length), j < k → nmB ss[j] = true)) (fun _ i _ => ss.length - (intOf i).toNat)
 case atStart => exact ⟨0, by omega, rfl, Below.refl _ _, fun j h a => absurd a (by omega)⟩
 case round =>
  obtain ⟨k, hk, rfl, H⟩ := hrel
  have H1 := zaa H.out.1
  have hz : w.heap.size ≤ wr.heap.size := H.out.1.size
  by_cases hlt : k < ss.length
  ·obtain ⟨b, o, rfl, hbl, hcell⟩ := HP.out (by omega)
   have d0 := (H1.out.cell (p := ⟨b, o + k, none⟩) hbl).trans (hcell k hlt)
   have k0 : (0 : Int) ≤ (k : Int) := by omega
   have k1 : (k : Int) < (ss.length : Int) := by omega
   have LI := zaa (fun w1 => zhp ss[k] w1 (HS.out k hlt))
   have H2 : Hid (∀ j (h : j < ss.length), j < k → nmB ss[j] = true) := H.out.2
   clear hcell H
   cases q : nmB ss[k] with
   | true =>
    have H' : Hid (∀ j (h : j < ss.length), j < k + 1 → nmB ss[j] = true) := fun j h a => by
     by_cases e : j = k
     ·subst e; exact q
     ·exact H2.out j h (by omega)
    rw [q] at LI
    clear q H2
    generalize ss[k] = x at d0 LI
    go_wp2_with fail
    refine (LI.out _).mono ?_
    rintro e w1 ⟨rfl, hb1⟩
    have B3 := zaa (zab H1.out hb1 H1.out.size)
    clear hb1 d0
    go_wp2
    go_roundw
    case rel => exact ⟨k + 1, by omega, by go_num, B3.out, H'.out⟩
    case measure => simp [intOf]; omega
   | false =>
    have E := zaa (SF.out k hlt q)
    rw [q] at LI
    clear q H2
    generalize ss[k] = x at d0 LI
    go_wp2_with fail
    refine (LI.out _).mono ?_
    rintro e w1 ⟨rfl, hb1⟩
    have B3 := zaa (zab H1.out hb1 H1.out.size)
    clear hb1 d0
    go_wp2
    go_ret
    exact ⟨zag E.out.symm, B3.out⟩
  ·have E := zaa (SA.out (fun j h => H.out.2 j h (by omega)))
   clear H
   go_wp2
   go_ret
   exact ⟨zag E.out.symm, H1.out⟩
theorem yamu (w : World) (P : List ByteArray) (h : P.length ≤ 1048576) : Row (w.alloc (.cells (zer P).toArray 9)) 9 1 w.heap.size (w.alloc (.cells (zer P).toArray 9)).heap.size (.slice (some ⟨w.heap.size, 0, none⟩) P.length P.length) P.length (zer P) := by
 have := World.ownsRow_lit (e := 9) (size := 1) (base := w.heap.size) w (zer P).toArray P.length (Nat.le_refl _) (by simp [maxLen]; omega) (by simp [zer])
 exact zad this
set_option maxRecDepth 100000 in
set_option maxHeartbeats 4000000 in
theorem zky (s : ByteArray) (w : World) :
  Calls Tryz.prog 83 #[.string s] w fun e w' => ∃ v', e = .returned (.tuple #[v', .int .i64 (spC s)]) ∧ Row w' 9 1 w.heap.size w'.heap.size v' (spR s).length (zer (spR s)) ∧ Below w.heap.size w w' := by
 by_cases c1 : 65536 < s.size
 ·obtain ⟨E1, E2⟩ := yagm c1
  rw [E1, E2]
  have c2 : (s.size : Int) > 65536 := by omega
  clear c1 E1 E2
  go_enter Tryz.func83, Tryz.ntmps83
  go_wp2
  go_ret2
  exact ⟨_, rfl, Row.nil _ _ _ _ _, Below.refl _ _⟩
 have c2 : ¬ (s.size : Int) > 65536 := by omega
 obtain ⟨X1, X2⟩ := zrl c1
 cases c3 : zpi s with
 | true =>
  obtain ⟨E1, E2⟩ := yabe c3
  obtain ⟨E3, E4⟩ := X1 E1
  rw [E3, E4, E2]
  have c4 : (s.toList == [47]) = true := c3
  clear c1 c3 E1 E2 E3 E4 X1 X2
  go_enter Tryz.func83, Tryz.ntmps83
  go_wp2
  go_ret2
  exact ⟨_, rfl, Row.nil _ _ _ _ _, Below.refl _ _⟩
 | false =>
 have c4 : (s.toList == [47]) = false := c3
 have NO : Hid (spN s = false → spC s = 12 ∧ spR s = []) := fun h => X2 (yaut c3 h).1
 have YES : Hid (spN s = true → spC s = 0 ∧ spR s = (pcs s).drop 1) := fun h => by
  obtain ⟨a, b⟩ := yaoz c3 h
  obtain ⟨c, d⟩ := X1 a
  exact ⟨c, d.trans b⟩
 have LP : Hid (∀ w1 : World, Calls Tryz.prog 127 #[.string s, .string ⟨#[47]⟩] w1 fun e w' => e = .returned (.tuple #[.string (zij s), .bool (zqi s)]) ∧ w' = w1) := fun w1 => zth s ⟨#[47]⟩ w1
 have RS := yaka s
 have LS := zaa (fun w1 => zyf (zij s) w1 (by omega))
 have PL := yagi (zij s)
 have RW := zaa (fun w1 => yamu w1 (pcs (zij s)) (by omega))
 have LE := zaa (fun v w1 h => zsy v (pcs (zij s)) w1 h (by omega) (fun k hk => by have := zzk (zij s) k hk; unfold maxLen; omega))
 have AN := zaa (fun h => yalc (s := s) h)
 have AY := zaa (fun h => yafb (s := s) h)
 have BE := zaa (fun w1 : World => (Below.refl w1.heap.size w1).alloc (Nat.le_refl _) (.cells (zer (pcs (zij s))).toArray 9))
 clear c1 c3 X1 X2
 generalize spC s = sc at *
 generalize spR s = sr at *
 generalize spN s = sn at *
 generalize (pcs s).drop 1 = P1 at *
 generalize hRS : zij s = R at *
 generalize zqi s = ah at *
 generalize pcs R = P at *
 clear hRS
 cases ah with
 | false =>
  obtain ⟨e1, e2⟩ := NO.out (AN.out rfl)
  subst e1 e2
  clear NO YES AN AY LE RW
  go_enter Tryz.func83, Tryz.ntmps83
  go_wp2_with fail
  refine (LP.out _).mono ?_
  rintro e w1 ⟨rfl, hw1⟩
  subst w1
  go_wp2_with fail
  refine (LS.out _).mono ?_
  rintro e w1 ⟨rfl, hw1⟩
  have B1 := zaa (BE.out w)
  rw [← hw1] at B1
  clear hw1
  go_wp2
  go_ret2
  exact ⟨_, rfl, Row.nil _ _ _ _ _, B1.out⟩
 | true =>
 obtain ⟨a1, a2⟩ := AY.out rfl
 have A1 := zaa a1
 rw [a2] at YES
 clear a2 AY
 by_cases n1 : P.length ≤ 6
 case neg =>
  obtain ⟨e1, e2⟩ := NO.out (by rw [A1.out, decide_eq_false n1]; rfl)
  have n2 : (P.length : Int) > 6 := by omega
  subst e1 e2
  clear NO YES AN LE RW A1 a1
  go_enter Tryz.func83, Tryz.ntmps83
  go_wp2_with fail
  refine (LP.out _).mono ?_
  rintro e w1 ⟨rfl, hw1⟩
  subst w1
  go_wp2_with fail
  refine (LS.out _).mono ?_
  rintro e w1 ⟨rfl, hw1⟩
  have B1 := zaa (BE.out w)
  rw [← hw1] at B1
  clear hw1
  go_wp2
  go_ret2
  exact ⟨_, rfl, Row.nil _ _ _ _ _, B1.out⟩
 have n2 : ¬ (P.length : Int) > 6 := by omega
 have A2 : Hid (sn = P.all nmB) := by unfold Hid; rw [A1.out, decide_eq_true n1]; rfl
 clear A1 a1
 cases c5 : P.all nmB with
 | false =>
  obtain ⟨e1, e2⟩ := NO.out (by rw [A2.out, c5])
  rw [c5] at LE
  subst e1 e2
  clear NO YES AN A2 c5
  go_enter Tryz.func83, Tryz.ntmps83
  go_wp2_with fail
  refine (LP.out _).mono ?_
  rintro e w1 ⟨rfl, hw1⟩
  subst w1
  go_wp2_with fail
  refine (LS.out _).mono ?_
  rintro e w1 ⟨rfl, hw1⟩
  have B1 := zaa (BE.out w)
  have R1 := zaa (RW.out w)
  rw [← hw1] at B1 R1
  clear hw1 RW BE
  go_wp2_with fail
  refine (LE.out _ _ R1.out.rd).mono ?_
  rintro e w2 ⟨rfl, hb2⟩
  have B2 := zaa (zab B1.out hb2 B1.out.size)
  clear hb2
  go_wp2
  go_ret2
  exact ⟨_, rfl, Row.nil _ _ _ _ _, B2.out⟩
 | true =>
  obtain ⟨e1, e2⟩ := YES.out (by rw [A2.out, c5])
  rw [c5] at LE
  subst e1 e2
  clear NO YES AN A2 c5
  go_enter Tryz.func83, Tryz.ntmps83
  go_wp2_with fail
  refine (LP.out _).mono ?_
  rintro e w1 ⟨rfl, hw1⟩
  subst w1
  go_wp2_with fail
  refine (LS.out _).mono ?_
  rintro e w1 ⟨rfl, hw1⟩
  have B1 := zaa (BE.out w)
  have R1 := zaa (RW.out w)
  rw [← hw1] at B1 R1
  clear hw1 RW BE
  go_wp2_with fail
  refine (LE.out _ _ R1.out.rd).mono ?_
  rintro e w2 ⟨rfl, hb2⟩
  have B2 := zaa (zab B1.out hb2 B1.out.size)
  have R2 := zaa ((R1.out.below hb2 (Nat.le_refl _)).wide (Nat.le_refl _) hb2.size)
  clear hb2
  go_wp2
  go_ret2
  exact ⟨_, rfl, R2.out, B2.out⟩
def yauq (d : Int) (nm : ByteArray) (x : Den) : Bool := x.dir == d && x.name.toList == nm.toList
theorem yatn {ws : List Ino} {ps : List Den} (h : zcb ws ps = true) {nm : ByteArray} (hn : 1 ≤ nm.size) (d : Int) (k : Nat) (hk : k < ps.length) : zbj d nm ps[k] = yauq d nm ps[k] := by
 unfold zbj yauq
 rcases zjr h k hk with ⟨h1, h2⟩ | ⟨h1, _⟩
 ·have : (ps[k].name.toList == nm.toList) = false := by
   rw [beq_eq_false_iff_ne]
   intro e
   have := congrArg List.length e
   rw [Lib.toList_data, Lib.toList_data, ← Lib.size_eq, ← Lib.size_eq] at this
   omega
  rw [this]; simp
 ·rw [decide_eq_true (show 0 ≤ ps[k].child by omega), Bool.true_and]
set_option maxRecDepth 100000 in
set_option maxHeartbeats 8000000 in
theorem zqs (v vL : Value) (ws : List Ino) (ps : List Den) (ns : List ByteArray) (w : World) (h : RdIm w v ws ps) (hL : RdT w vL ns) (hi : zcb ws ps = true) (hn : ns.length ≤ 1048576) (hs : ∀ k (h : k < ns.length), 1 ≤ ns[k].size) :
  Calls Tryz.prog 34 #[v, vL] w fun e w' => e = .returned (.tuple #[.int .i64 (wk ws ps 0 ns).1, .int .i64 (wk ws ps 0 ns).2]) ∧ Below w.heap.size w w' := by
 have HR := zaa h
 have LD := zaa (fun (i : Nat) (hi16 : i < 16) w1 h => zvh v ws ps (i : Int) w1 h (zau hi).1 (by omega))
 obtain ⟨vW, vP, rfl, h1, h2⟩ := h
 obtain ⟨aW, cW, rfl, _, _⟩ := h1.shape
 obtain ⟨aP, cP, rfl, _, hcP⟩ := h2.shape
 obtain ⟨aL, cL, rfl, _, hcL⟩ := hL.shape
 have L24 := zaa (zau hi).2.1
 obtain ⟨bP, oP, rfl, hblP, hcellP⟩ := hcP (by have := L24.out; omega)
 have pl : ps.length ≤ 4096 := by have := L24.out; omega
 have HP := zaa hcellP
 have HN := zaa hcL
 have HS := zaa hs
 have PH := zaa (fun (nm : ByteArray) (hn : 1 ≤ nm.size) d k hk => yatn hi hn d k hk)
 have CR := zaa (fun (d : Int) (nm : ByteArray) (k : Nat) (e : zay ps d nm = some k) => zej hi e)
 generalize hres : wk ws ps 0 ns = res
 have HRES := zaa hres
 clear hres h1 h2 hcP hcellP hcL hL hi hs
 obtain ⟨W, hW⟩ : ∃ W, W = w.alloc (.cells #[.slice aW ws.length cW, .slice (some ⟨bP, oP, none⟩) ps.length cP] 42) := ⟨_, rfl⟩
 have CA : Hid (∀ w', Below W.heap.size W w' → w'.cell? ⟨w.heap.size, 0, none⟩ = some (.slice aW ws.length cW) ∧ w'.cell? ⟨w.heap.size, 1, none⟩ = some (.slice (some ⟨bP, oP, none⟩) ps.length cP)) := fun w' hb => by
  have : w'.heap[w.heap.size]? = some (.cells #[.slice aW ws.length cW, .slice (some ⟨bP, oP, none⟩) ps.length cP] 42 (0, 0)) := (hb.block _ (by rw [hW]; simp)).trans (by rw [hW]; exact zah rfl)
  exact ⟨(zac this).1, (zac this).2.1⟩
 have BW : Hid (Below w.heap.size w W) := by rw [hW]; exact (Below.refl _ _).alloc (Nat.le_refl _) _
 have hzW : w.heap.size ≤ W.heap.size := BW.out.size
 go_enter Tryz.func34, Tryz.ntmps34
 go_wp2_with fail
 go_step3
 go_wp2_with fail
 go_step3
 go_wp2_with fail
 rw [← hW]
 clear hW
 go_loopg [6, 13] ns.length (fun g a i wr => ∃ (k : Nat) (z : Nat), k + g = ns.length ∧ z < 16 ∧ a = .int .i64 z ∧ i = .int .i64 k ∧ Hid (Below W.heap.size W wr ∧ res = wk ws ps z (ns.drop k)))
 case atStart => exact ⟨0, 0, by omega, by omega, rfl, rfl, Below.refl _ _, HRES.out.symm⟩
 case round =>
  obtain ⟨k, z, hk, hz16, rfl, rfl, J⟩ := hrel
  obtain ⟨x0, x1⟩ := CA.out wr J.out.1
  have B := zaa (zab BW.out J.out.1 hzW)
  have J1 := zaa J.out.1
  have k0 : (0 : Int) ≤ (k : Int) := by omega
  by_cases hlt : k < ns.length
  ·have k1 : (k : Int) < (ns.length : Int) := by omega
   have JD : Hid (res = wk ws ps z (ns[k] :: ns.drop (k + 1))) := by unfold Hid; rw [J.out.2, List.drop_eq_getElem_cons hlt]
   obtain ⟨bL, oL, rfl, hblL, hcell⟩ := HN.out (by omega)
   have n0 := (B.out.cell (p := ⟨bL, oL + k, none⟩) hblL).trans (hcell k hlt)
   have WN := zaa (fun (h : ¬ zai ws z = 2) => zel (ps := ps) (n := ns[k]) (ns := ns.drop (k + 1)) h)
   have WO := zaa (fun (h : zai ws z = 2) (e : zay ps z ns[k] = none) => zfy (ns := ns.drop (k + 1)) h e)
   have WS := zaa (fun (h : zai ws z = 2) (j : Nat) (e : zay ps z ns[k] = some j) => zff (ns := ns.drop (k + 1)) h e)
   have PK := zaa (fun j hj => PH.out ns[k] (HS.out k hlt) (z : Int) j hj)
   have CR2 := zaa (fun (j : Nat) (e : zay ps z ns[k] = some j) => CR.out _ _ _ e)
   have LD2 := zaa (fun w1 h => LD.out z hz16 w1 h)
   clear J hcell HRES
   generalize zai ws (z : Int) = kk at *
   generalize ns[k] = nm at *
   by_cases q : kk = 2
   case neg =>
    have q1 : (kk == 2) = false := by rw [beq_eq_false_iff_ne]; exact q
    rw [q1] at LD2
    obtain rfl := JD.out.trans (WN.out q)
    clear q q1 WN WO WS CR2 PK
    go_wp2_with fail
    refine (LD2.out _ (HR.out.below B.out)).mono ?_
    rintro e w1 ⟨rfl, hb1⟩
    have B1 := zaa (zab B.out hb1 B.out.size)
    clear hb1 x0 x1 n0
    go_wp2
    try rw [Exit.noGoto_ret]
    go_ret2
    exact ⟨rfl, B1.out⟩
   have q1 : (kk == 2) = true := by rw [q]; rfl
   rw [q1] at LD2
   clear q1
   have Q := zaa q
   clear q
   go_wp2_with fail
   refine (LD2.out _ (HR.out.below B.out)).mono ?_
   rintro e w1 ⟨rfl, hb1⟩
   have B1 := zaa (zab B.out hb1 B.out.size)
   have J2 := zaa (zab J1.out hb1 J1.out.size)
   clear hb1 x0 x1 n0 LD2
   obtain ⟨x0, x1⟩ := CA.out w1 J2.out
   generalize gk = G0 at *
   have hz1 : w.heap.size ≤ w1.heap.size := B1.out.size
   clear B J1
   go_wp2_with fail
   go_loopg [6, 24] ps.length (fun g2 a i wq => ∃ j : Nat, j + g2 = ps.length ∧ a = .int .i64 z ∧ i = .int .i64 j ∧ Hid (Below w1.heap.size w1 wq ∧ ∀ m (h : m < ps.length), m < j → zbj (z : Int) nm ps[m] = false))
   case atStart => exact ⟨0, by omega, rfl, rfl, Below.refl _ _, fun m h a => absurd a (by omega)⟩
   case round =>
    obtain ⟨j, hj, rfl, rfl, K⟩ := hrel
    have KW := zaa (zab B1.out K.out.1 hz1)
    have K2 := zaa (zab J2.out K.out.1 J2.out.size)
    have j0 : (0 : Int) ≤ (j : Int) := by omega
    by_cases hlj : j < ps.length
    ·obtain ⟨a0, a1, a2⟩ := HP.out j hlj
     have d0 := (KW.out.cell (p := ⟨bP, oP + j * 3, none⟩) hblP).trans a0
     have d1 := (KW.out.cell (p := ⟨bP, oP + j * 3 + 1, none⟩) hblP).trans a1
     have d2 := (KW.out.cell (p := ⟨bP, oP + j * 3 + 2, none⟩) hblP).trans a2
     have j1 : (j : Int) < (ps.length : Int) := by omega
     have EH : Hid (zbj (z : Int) nm ps[j] = (ps[j].dir == (z : Int) && ps[j].name.toList == nm.toList)) := PK.out j hlj
     have HY := zaa (fun e : zbj (z : Int) nm ps[j] = true => yakj hlj K.out.2 e)
     have HX := zaa (fun (e : zbj (z : Int) nm ps[j] = false) m (h : m < ps.length) (a : m < j + 1) => show zbj (z : Int) nm ps[m] = false by
      by_cases q : m = j
      ·subst q; exact e
      ·exact K.out.2 m h (by omega))
     have CJ := zaa (zbf hlj)
     have K1 := zaa K.out.1
     clear a0 a1 a2 K
     generalize zbj (z : Int) nm ps[j] = hit at *
     generalize ps[j].child = y at *
     generalize ps[j].dir = yd at *
     generalize ps[j].name = yn at *
     have BX := zaa ((Below.refl wr.heap.size wr).alloc (Nat.le_refl _) (.cells #[.int .i64 yd, .string yn, .int .i64 y] 69))
     have B5 := zaa (zab K1.out BX.out K1.out.size)
     have B6 := zaa (zab K2.out BX.out K2.out.size)
     by_cases r : yd = (z : Int)
     case neg =>
      have r1 : (yd == (z : Int)) = false := beq_eq_false_iff_ne.2 r
      have E := zaa (HX.out (by rw [EH.out, r1]; rfl))
      clear r HX HY EH
      go_wp2
      go_roundg (ps.length - (j + 1))
      case measure => omega
      case rel => exact ⟨j + 1, by omega, rfl, by go_num, B5.out, E.out⟩
     have r1 : (yd == (z : Int)) = true := beq_iff_eq.2 r
     cases t : (yn.toList == nm.toList) with
     | false =>
      have E := zaa (HX.out (by rw [EH.out, t]; simp))
      clear r HX HY EH
      go_wp2
      go_roundg (ps.length - (j + 1))
      case measure => omega
      case rel => exact ⟨j + 1, by omega, rfl, by go_num, B5.out, E.out⟩
     | true =>
      have E1 := HY.out (by rw [EH.out, t, r1]; rfl)
      obtain ⟨_, c1, c2⟩ := CR2.out j E1
      have W2 := zaa (JD.out.trans (WS.out Q.out j E1))
      rw [CJ.out] at c1 c2 W2
      obtain ⟨yn2, hy⟩ : ∃ n : Nat, y = (n : Int) := ⟨y.toNat, by omega⟩
      subst hy
      have y16 : yn2 < 16 := by omega
      clear r HX HY EH E1 CJ
      go_wp2
      go_roundg (ns.length - (k + 1))
      case measure => omega
      case rel => exact ⟨k + 1, yn2, by omega, y16, rfl, by go_num, B6.out, W2.out⟩
    ·obtain rfl : j = ps.length := by omega
     have E := zaa (JD.out.trans (WO.out Q.out (yapa (fun m h => K.out.2 m h h))))
     obtain rfl := E.out
     clear K E
     go_wp2
     try rw [Exit.noGoto_ret]
     go_ret2
     exact ⟨rfl, KW.out⟩
  ·obtain rfl : k = ns.length := by omega
   have E : Hid (res = ((z : Int), 0)) := by unfold Hid; rw [J.out.2, List.drop_length]; rfl
   clear HRES J
   obtain rfl := E.out
   go_wp2
   try rw [Exit.noGoto_ret]
   go_ret2
   exact ⟨rfl, B.out⟩
end Go.Proofs.YtpakbbdlhlkogaaGreatDoor
