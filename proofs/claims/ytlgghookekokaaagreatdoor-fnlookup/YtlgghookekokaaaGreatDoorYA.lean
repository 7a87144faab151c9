/- Several texts laid together: PbA, PbD, PcC, PcD, PaC, ShL, PbB, PbE, PcE, PcF. -/
import Derived.Test.YtlgghookekokaaaGreatDoorZBT
import Derived.Test.YtlgghookekokaaaGreatDoorOpenI
import Derived.WalkKit
import Derived.WalkSpells
import Derived.WalkSmall
import Derived.Deep.OwnRows
import Derived.Deep.QuietTactic
import Derived.BigQuiet
import Derived.Deep.RegionWith
import Derived.Deep.RegionLaw
import Derived.Deep.DeepCutAuto
import Derived.Laws.IdiomStrings
import Derived.Laws.BytesArg
import Derived.Deep.RegionHeld3
import Derived.Laws.OwnMore
import Derived.Laws.CopyRow
import Derived.Laws.CopyOwn
import Derived.Lib.Strings
import Derived.BigRegion
import Derived.ProofKit
import Derived.OpenShut
import Derived.ShutString
import Derived.ChangeOld
import Derived.Lib.SmallJoins
import Derived.Deep.Slices
import Derived.Deep.Strs
import Derived.Laws.Cover3
import Derived.Lib.SplitLaws
import Derived.Lib.IndexBytes
import Derived.Deep.LoopGhost
import Derived.Sort.Walk0
import Derived.Laws.Cover1
import Derived.Maps.Views
import Derived.KernelRfl
import Derived.Orders
import Derived.WalkMore
import Derived.Shelf.Small.Strs
import Derived.Shelf.Small.Wraps
import Derived.Shelf.Strings.Search3
import Derived.Shelf.Strings.Count
import Derived.Shelf.Strings.Split
import Derived.Lib.LaidTab
import Derived.Deep.DeepHandedRow
namespace Go.Proofs.YtlgghookekokaaaGreatDoor
open Go.RowKit

theorem cutG_none : ∀ (l cur : List UInt8), (∀ c ∈ l, ¬ c = 47) → cutG cur l = [cur ++ l]
  | [], cur, _ => by rw [cutG_nil, List.append_nil]
  | c :: l, cur, h => by
    rw [cutG_cons, if_neg (h c (List.mem_cons_self ..)), cutG_none l _ (fun x hx => h x (List.mem_cons_of_mem _ hx)), List.append_assoc]
    rfl
theorem cutG_some : ∀ (l cur r : List UInt8), (∀ c ∈ l, ¬ c = 47) → cutG cur (l ++ 47 :: r) = (cur ++ l) :: cutG [] r
  | [], cur, r, _ => by rw [List.nil_append, cutG_cons, if_pos rfl, List.append_nil]
  | c :: l, cur, r, h => by
    rw [List.cons_append, cutG_cons, if_neg (h c (List.mem_cons_self ..)), cutG_some l _ r (fun x hx => h x (List.mem_cons_of_mem _ hx)), List.append_assoc]
    rfl
/-- The shelf's cut, at slashes. -/
theorem splitK_cut : ∀ (k : Nat) (l : List UInt8), Lib.count l [47] = k → Lib.splitK [47] 0 k l = cutG [] l
  | 0, l, h => by
    show [l] = _
    rw [Lib.count_one] at h
    rw [cutG_none l [] (fun c hc e => by subst e; have := List.count_pos_iff.2 hc; omega), List.nil_append]
  | k + 1, l, h => by
    have hm : (47 : UInt8) ∈ l := by
      rw [Lib.count_one] at h
      exact List.count_pos_iff.1 (by omega)
    have hge := Lib.indexByte_ge l 47
    have hi : Lib.index l [47] = Lib.indexByte l 47 := Lib.index_one l 47
    have hne : ¬ Lib.indexByte l 47 = -1 := fun e => by
      obtain ⟨j, hj, e2⟩ := List.getElem_of_mem hm
      exact Lib.indexByte_none e j (by rw [List.getElem?_eq_getElem hj, e2])
    obtain ⟨o, ho⟩ : ∃ o : Nat, Lib.indexByte l 47 = (o : Int) := ⟨(Lib.indexByte l 47).toNat, by omega⟩
    obtain ⟨h1, h2⟩ := Lib.indexByte_some ho
    have hol : o < l.length := (List.getElem?_eq_some_iff.1 h1).1
    have e0 : l = l.take o ++ 47 :: l.drop (o + 1) := by
      have hd : l.drop o = 47 :: l.drop (o + 1) := by
        rw [List.drop_eq_getElem_cons hol, (List.getElem?_eq_some_iff.1 h1).2]
      rw [← hd, List.take_append_drop]
    have hno : ∀ c ∈ l.take o, ¬ c = 47 := fun c hc e => by
      subst e
      obtain ⟨j, hj, e2⟩ := List.mem_take_iff_getElem.1 hc
      have hj := Nat.lt_min.1 hj
      exact h2 j hj.1 (by rw [List.getElem?_eq_getElem hj.2, e2])
    unfold Lib.splitK
    rw [hi, ho, if_neg (by simp), Int.toNat_natCast, Nat.add_zero]
    show l.take o :: Lib.splitK [47] 0 k (l.drop (o + 1)) = cutG [] l
    have hc : Lib.count (l.drop (o + 1)) [47] = k := by
      rw [Lib.count_one] at h ⊢
      have hz : (l.take o).count 47 = 0 := List.count_eq_zero.2 (fun hx => hno 47 hx rfl)
      rw [e0, List.count_append, hz, List.count_cons_self] at h
      omega
    rw [splitK_cut k _ hc]
    conv => rhs; rw [e0]
    rw [cutG_some _ _ _ hno, List.nil_append]
theorem split_pcs (s : ByteArray) : Lib.splitB ⟨#[47]⟩ 0 (Lib.countB s ⟨#[47]⟩) s = pcs s := by
  have h := Lib.splitB_data ⟨#[47]⟩ 0 (Lib.countB s ⟨#[47]⟩) s
  have h2 := splitK_cut (Lib.countB s ⟨#[47]⟩) s.data.toList rfl
  unfold pcs
  rw [← h2]
  have h3 : Lib.splitK [47] 0 (Lib.countB s ⟨#[47]⟩) s.data.toList = (Lib.splitB ⟨#[47]⟩ 0 (Lib.countB s ⟨#[47]⟩) s).map (·.data.toList) := h.symm
  rw [h3, List.map_map]
  have : (mkB ∘ fun x : ByteArray => x.data.toList) = id := funext fun x => mkB_of x
  rw [this, List.map_id]
theorem count_pcs (s : ByteArray) : Lib.countB s ⟨#[47]⟩ + 1 = (pcs s).length := by
  rw [← split_pcs, Lib.splitB_all ⟨#[47]⟩ (by decide) 0 _ s rfl]
/-- The pieces of a text with a slash ahead. -/
theorem pcs_slash {s : ByteArray} {l : List UInt8} (h : s.data.toList = 47 :: l) : pcs s = mkB [] :: pcs (mkB l) := by
  unfold pcs
  rw [h, cutG_cons, if_pos rfl, mkB_data]
  rfl
theorem pcs_other {s : ByteArray} {c : UInt8} {l : List UInt8} (h : s.data.toList = c :: l) (hc : ¬ c = 47) : ∃ x r, pcs s = x :: r ∧ ¬ x.size = 0 := by
  unfold pcs
  rw [h, cutG_cons, if_neg hc, List.nil_append]
  obtain ⟨x, r, e⟩ := cutG_head l [c]
  refine ⟨mkB ([c] ++ x), r.map mkB, by rw [e]; rfl, ?_⟩
  rw [Lib.size_eq, mkB_data]; simp
theorem pcs_none {s : ByteArray} (h : s.data.toList = []) : pcs s = [mkB []] := by
  unfold pcs
  rw [h]
  rfl
end Go.Proofs.YtlgghookekokaaaGreatDoor

namespace Go.Proofs.YtlgghookekokaaaGreatDoor
open Go.RowKit

theorem rdt_empty (w : World) : RdT w (.slice none 0 0) [] := ⟨rfl, none, 0, rfl, ⟨Nat.le_refl _, fun _ => rfl⟩, fun h => absurd h (by simp)⟩
/-- What SplitPath answers. -/
def spC (s : ByteArray) : Int := if 65536 < s.size then 2 else if spB s = true then 0 else 12
def spR (s : ByteArray) : List ByteArray := if 65536 < s.size then [] else spL s
theorem sp_long {s : ByteArray} (h : 65536 < s.size) : spC s = 2 ∧ spR s = [] := by
  unfold spC spR
  exact ⟨if_pos h, if_pos h⟩
theorem sp_short {s : ByteArray} (h : ¬ 65536 < s.size) : (spB s = true → spC s = 0 ∧ spR s = spL s) ∧ (spB s = false → spC s = 12 ∧ spR s = []) := by
  unfold spC spR
  rw [if_neg h, if_neg h]
  refine ⟨fun q => ⟨if_pos q, rfl⟩, fun q => ⟨by rw [q]; rfl, ?_⟩⟩
  unfold spB at q
  unfold spL
  rw [Bool.or_eq_false_iff] at q
  rw [q.1, q.2]
  rfl
end Go.Proofs.YtlgghookekokaaaGreatDoor

namespace Go.Proofs.YtlgghookekokaaaGreatDoor
open Go.RowKit

def lkR (ws : List Ino) (ps : List Den) (s : ByteArray) : Int × Int := if 65536 < s.size then (0, 2) else if imgB ws ps = true then lkI ws ps s else (0, 1)
def paR (ws : List Ino) (ps : List Den) (s : ByteArray) : Int × ByteArray × Int := if 65536 < s.size then (0, ⟨#[]⟩, 2) else if imgB ws ps = true then paI ws ps s else (0, ⟨#[]⟩, 1)
set_option maxRecDepth 100000 in
set_option maxHeartbeats 4000000 in
theorem specLookup_any (v : Value) (ws : List Ino) (ps : List Den) (s : ByteArray) (w : World) (h : RdIm w v ws ps) (hw : ws.length ≤ 1048576) (hp : ps.length ≤ 1048576) (hr : ∀ k (h : k < ws.length), ws[k].R) (hs : ∀ k (h : k < ps.length), ps[k].name.size ≤ maxLen) :
    Calls Tryz.prog 35 #[v, .string s] w fun e w' => e = .returned (.tuple #[.int .i64 (lkR ws ps s).1, .int .i64 (lkR ws ps s).2]) ∧ Below w.heap.size w w' := by
  have HR := hideIt h
  have LI := hideIt (fun w1 h => specImageOK_any v ws ps w1 h hw hp hr hs)
  have LL := hideIt (fun w1 h hi hs => l06Lookup_any v ws ps s w1 h hi hs)
  have EL := hideIt (show lkR ws ps s = if 65536 < s.size then (0, 2) else if imgB ws ps = true then lkI ws ps s else (0, 1) from rfl)
  obtain ⟨vW, vP, rfl, h1, h2⟩ := h
  obtain ⟨aW, cW, rfl, _, _⟩ := h1.shape
  obtain ⟨aP, cP, rfl, _, _⟩ := h2.shape
  clear h1 h2 hr hs
  have CA : Hid (∀ w', Below (w.alloc (.cells #[.slice aW ws.length cW, .slice aP ps.length cP] 26)).heap.size (w.alloc (.cells #[.slice aW ws.length cW, .slice aP ps.length cP] 26)) w' → w'.cell? ⟨w.heap.size, 0, none⟩ = some (.slice aW ws.length cW) ∧ w'.cell? ⟨w.heap.size, 1, none⟩ = some (.slice aP ps.length cP)) := fun w' hb => by
    have : w'.heap[w.heap.size]? = some (.cells #[.slice aW ws.length cW, .slice aP ps.length cP] 26 (0, 0)) := (hb.block _ (by simp)).trans (at_new rfl)
    exact ⟨(two_cells this).1, (two_cells this).2.1⟩
  have BW : Hid (Below w.heap.size w (w.alloc (.cells #[.slice aW ws.length cW, .slice aP ps.length cP] 26))) := (Below.refl _ _).alloc (Nat.le_refl _) _
  obtain ⟨x0, x1⟩ := CA.out _ (Below.refl _ _)
  generalize lkR ws ps s = res at *
  by_cases c1 : 65536 < s.size
  · rw [if_pos c1] at EL
    have c2 : (s.size : Int) > 65536 := by omega
    obtain rfl := EL.out
    clear EL c1 LL
    go_enter Tryz.func35, Tryz.ntmps35
    go_wp2
    go_ret2
    exact ⟨rfl, BW.out⟩
  rw [if_neg c1] at EL
  have c2 : ¬ (s.size : Int) > 65536 := by omega
  have LL2 := hideIt (fun w1 h hi => LL.out w1 h hi (by omega))
  clear LL c1
  generalize lkI ws ps s = r1 at *
  cases c3 : imgB ws ps with
  | false =>
    rw [c3] at EL LI
    obtain rfl := EL.out
    clear EL LL2 c3
    go_enter Tryz.func35, Tryz.ntmps35
    go_wp2_with fail
    refine (LI.out _ (HR.out.below BW.out)).mono ?_
    rintro e w1 ⟨rfl, hb1⟩
    have B1 := hideIt (below_trans BW.out hb1 BW.out.size)
    clear hb1 x0 x1
    go_wp2
    go_ret2
    exact ⟨rfl, B1.out⟩
  | true =>
    have C3 := hideIt c3
    rw [c3] at EL LI
    obtain rfl : res = r1 := EL.out
    clear EL c3
    go_enter Tryz.func35, Tryz.ntmps35
    go_wp2_with fail
    refine (LI.out _ (HR.out.below BW.out)).mono ?_
    rintro e w1 ⟨rfl, hb1⟩
    have B1 := hideIt (below_trans BW.out hb1 BW.out.size)
    clear x0 x1
    obtain ⟨x0, x1⟩ := CA.out _ hb1
    clear hb1
    go_wp2_with fail
    refine (LL2.out _ (HR.out.below B1.out) C3.out).mono ?_
    rintro e w2 ⟨rfl, hb2⟩
    have B2 := hideIt (below_trans B1.out hb2 B1.out.size)
    clear hb2 x0 x1
    go_wp2
    go_ret2
    exact ⟨rfl, B2.out⟩
end Go.Proofs.YtlgghookekokaaaGreatDoor

namespace Go.Proofs.YtlgghookekokaaaGreatDoor
open Go.RowKit

set_option maxRecDepth 100000 in
set_option maxHeartbeats 4000000 in
theorem specParent_any (v : Value) (ws : List Ino) (ps : List Den) (s : ByteArray) (w : World) (h : RdIm w v ws ps) (hw : ws.length ≤ 1048576) (hp : ps.length ≤ 1048576) (hr : ∀ k (h : k < ws.length), ws[k].R) (hs : ∀ k (h : k < ps.length), ps[k].name.size ≤ maxLen) :
    Calls Tryz.prog 36 #[v, .string s] w fun e w' => e = .returned (.tuple #[.int .i64 (paR ws ps s).1, .string (paR ws ps s).2.1, .int .i64 (paR ws ps s).2.2]) ∧ Below w.heap.size w w' := by
  have HR := hideIt h
  have LI := hideIt (fun w1 h => specImageOK_any v ws ps w1 h hw hp hr hs)
  have LL := hideIt (fun w1 h hi hs => l06Parent_any v ws ps s w1 h hi hs)
  have EL := hideIt (show paR ws ps s = if 65536 < s.size then (0, ⟨#[]⟩, 2) else if imgB ws ps = true then paI ws ps s else (0, ⟨#[]⟩, 1) from rfl)
  obtain ⟨vW, vP, rfl, h1, h2⟩ := h
  obtain ⟨aW, cW, rfl, _, _⟩ := h1.shape
  obtain ⟨aP, cP, rfl, _, _⟩ := h2.shape
  clear h1 h2 hr hs
  have CA : Hid (∀ w', Below (w.alloc (.cells #[.slice aW ws.length cW, .slice aP ps.length cP] 26)).heap.size (w.alloc (.cells #[.slice aW ws.length cW, .slice aP ps.length cP] 26)) w' → w'.cell? ⟨w.heap.size, 0, none⟩ = some (.slice aW ws.length cW) ∧ w'.cell? ⟨w.heap.size, 1, none⟩ = some (.slice aP ps.length cP)) := fun w' hb => by
    have : w'.heap[w.heap.size]? = some (.cells #[.slice aW ws.length cW, .slice aP ps.length cP] 26 (0, 0)) := (hb.block _ (by simp)).trans (at_new rfl)
    exact ⟨(two_cells this).1, (two_cells this).2.1⟩
  have BW : Hid (Below w.heap.size w (w.alloc (.cells #[.slice aW ws.length cW, .slice aP ps.length cP] 26))) := (Below.refl _ _).alloc (Nat.le_refl _) _
  obtain ⟨x0, x1⟩ := CA.out _ (Below.refl _ _)
  generalize paR ws ps s = res at *
  by_cases c1 : 65536 < s.size
  · rw [if_pos c1] at EL
    have c2 : (s.size : Int) > 65536 := by omega
    obtain rfl := EL.out
    clear EL c1 LL
    go_enter Tryz.func36, Tryz.ntmps36
    go_wp2
    go_ret3
    exact ⟨rfl, BW.out⟩
  rw [if_neg c1] at EL
  have c2 : ¬ (s.size : Int) > 65536 := by omega
  have LL2 := hideIt (fun w1 h hi => LL.out w1 h hi (by omega))
  clear LL c1
  generalize paI ws ps s = r1 at *
  cases c3 : imgB ws ps with
  | false =>
    rw [c3] at EL LI
    obtain rfl := EL.out
    clear EL LL2 c3
    go_enter Tryz.func36, Tryz.ntmps36
    go_wp2_with fail
    refine (LI.out _ (HR.out.below BW.out)).mono ?_
    rintro e w1 ⟨rfl, hb1⟩
    have B1 := hideIt (below_trans BW.out hb1 BW.out.size)
    clear hb1 x0 x1
    go_wp2
    go_ret3
    exact ⟨rfl, B1.out⟩
  | true =>
    have C3 := hideIt c3
    rw [c3] at EL LI
    obtain rfl : res = r1 := EL.out
    clear EL c3
    go_enter Tryz.func36, Tryz.ntmps36
    go_wp2_with fail
    refine (LI.out _ (HR.out.below BW.out)).mono ?_
    rintro e w1 ⟨rfl, hb1⟩
    have B1 := hideIt (below_trans BW.out hb1 BW.out.size)
    clear x0 x1
    obtain ⟨x0, x1⟩ := CA.out _ hb1
    clear hb1
    go_wp2_with fail
    refine (LL2.out _ (HR.out.below B1.out) C3.out).mono ?_
    rintro e w2 ⟨rfl, hb2⟩
    have B2 := hideIt (below_trans B1.out hb2 B1.out.size)
    clear hb2 x0 x1
    go_wp2
    go_ret3
    exact ⟨rfl, B2.out⟩
end Go.Proofs.YtlgghookekokaaaGreatDoor

namespace Go.Proofs.YtlgghookekokaaaGreatDoor
open Go.RowKit

set_option maxRecDepth 100000 in
set_option maxHeartbeats 2000000 in
theorem isDir_any (v : Value) (ws : List Ino) (ps : List Den) (i : Int) (w : World) (h : RdIm w v ws ps) (hl : ws.length = 16) (h0 : 0 ≤ i ∧ i ≤ 15) :
    Calls Tryz.prog 86 #[v, .int .i64 i] w fun e w' => e = .returned (.bool (kindAt ws i == 2)) ∧ Below w.heap.size w w' := by
  obtain ⟨vW, vP, rfl, h1, h2⟩ := h
  obtain ⟨aW, cW, rfl, _, hcW⟩ := h1.shape
  obtain ⟨aP, cP, rfl, _, _⟩ := h2.shape
  obtain ⟨n, rfl⟩ : ∃ n : Nat, i = (n : Int) := ⟨i.toNat, by omega⟩
  have hn : n < ws.length := by omega
  obtain ⟨bW, oW, rfl, hblW, hcellW⟩ := hcW (by omega)
  have BW : Hid (Below w.heap.size w (w.alloc (.cells #[.slice (some ⟨bW, oW, none⟩) ws.length cW, .slice aP ps.length cP] 26))) := (Below.refl _ _).alloc (Nat.le_refl _) _
  have k0 := (BW.out.cell (p := ⟨bW, oW + n * 11, none⟩) hblW).trans (hcellW n hn).1
  rw [← kindAt_of hn] at k0
  have n0 : (0 : Int) ≤ (n : Int) := by omega
  have n1 : (n : Int) < (ws.length : Int) := by omega
  clear h1 h2 hcW hcellW hl h0 hn
  generalize kindAt ws (n : Int) = kk at *
  go_enter Tryz.func86, Tryz.ntmps86
  go_wp2
  go_ret
  exact ⟨rfl, BW.out⟩

end Go.Proofs.YtlgghookekokaaaGreatDoor

namespace Go.Proofs.YtlgghookekokaaaGreatDoor
open Go.Shelf Go.RowKit

def lays103_ren : Go.Shelf.Ren := ⟨fun | 103 => 82 | 210 => 125 | 206 => 180 | n => n, fun | 9 => 9 | 4 => 4 | 24 => 115 | 3 => 3 | n => n, fun | n => n⟩
theorem lays103 : Go.Proofs.Lays.n103 Tryz.prog lays103_ren := {
  mixed := by kernel_rfl
  f103 := Tryz.func82.trans (congrArg some (by kernel_rfl))
  f206 := Tryz.func180.trans (congrArg some (by kernel_rfl))
  f210 := Tryz.func125.trans (congrArg some (by kernel_rfl))
  t3 := Tryz.underlying3
  a3 := Tryz.isAgg3
  z3 := Tryz.sizeOf3
  v3 := Tryz.zeroValue3
  t4 := Tryz.underlying4
  a4 := Tryz.isAgg4
  z4 := Tryz.sizeOf4
  v4 := Tryz.zeroValue4
  t9 := Tryz.underlying9
  a9 := Tryz.isAgg9
  z9 := Tryz.sizeOf9
  v9 := Tryz.zeroValue9
  t24 := Tryz.underlying115
  a24 := Tryz.isAgg115
  z24 := Tryz.sizeOf115
  v24 := Tryz.zeroValue115 }
def lays146_ren : Go.Shelf.Ren := ⟨fun | 146 => 83 | 221 => 126 | 268 => 181 | 138 => 182 | 143 => 183 | 195 => 208 | 197 => 209 | 218 => 210 | 219 => 211 | 260 => 225 | 217 => 226 | 225 => 227 | 224 => 228 | 267 => 229 | 266 => 240 | 314 => 241 | n => n, fun | 9 => 9 | 31 => 60 | 3 => 3 | 4 => 4 | 0 => 0 | 105 => 226 | 21 => 21 | 5 => 5 | 46 => 148 | 119 => 252 | 139 => 255 | 138 => 254 | 146 => 256 | 51 => 199 | n => n, fun | 1 => 3 | 3 => 4 | 4 => 5 | n => n⟩
theorem lays146 : Go.Proofs.Lays.n146 Tryz.prog lays146_ren := {
  mixed := by kernel_rfl
  f138 := Tryz.func182.trans (congrArg some (by kernel_rfl))
  f143 := Tryz.func183.trans (congrArg some (by kernel_rfl))
  f146 := Tryz.func83.trans (congrArg some (by kernel_rfl))
  f195 := Tryz.func208.trans (congrArg some (by kernel_rfl))
  f197 := Tryz.func209.trans (congrArg some (by kernel_rfl))
  f217 := Tryz.func226.trans (congrArg some (by kernel_rfl))
  f218 := Tryz.func210.trans (congrArg some (by kernel_rfl))
  f219 := Tryz.func211.trans (congrArg some (by kernel_rfl))
  f221 := Tryz.func126.trans (congrArg some (by kernel_rfl))
  f224 := Tryz.func228.trans (congrArg some (by kernel_rfl))
  f225 := Tryz.func227.trans (congrArg some (by kernel_rfl))
  f260 := Tryz.func225.trans (congrArg some (by kernel_rfl))
  f266 := Tryz.func240.trans (congrArg some (by kernel_rfl))
  f267 := Tryz.func229.trans (congrArg some (by kernel_rfl))
  f268 := Tryz.func181.trans (congrArg some (by kernel_rfl))
  f314 := Tryz.func241.trans (congrArg some (by kernel_rfl))
  t0 := Tryz.underlying0
  a0 := Tryz.isAgg0
  z0 := Tryz.sizeOf0
  v0 := Tryz.zeroValue0
  t3 := Tryz.underlying3
  a3 := Tryz.isAgg3
  z3 := Tryz.sizeOf3
  v3 := Tryz.zeroValue3
  t4 := Tryz.underlying4
  a4 := Tryz.isAgg4
  z4 := Tryz.sizeOf4
  v4 := Tryz.zeroValue4
  t5 := Tryz.underlying5
  a5 := Tryz.isAgg5
  z5 := Tryz.sizeOf5
  v5 := Tryz.zeroValue5
  t9 := Tryz.underlying9
  a9 := Tryz.isAgg9
  z9 := Tryz.sizeOf9
  v9 := Tryz.zeroValue9
  t21 := Tryz.underlying21
  a21 := Tryz.isAgg21
  z21 := Tryz.sizeOf21
  v21 := Tryz.zeroValue21
  t31 := Tryz.underlying60
  a31 := Tryz.isAgg60
  z31 := Tryz.sizeOf60
  v31 := Tryz.zeroValue60
  t46 := Tryz.underlying148
  a46 := Tryz.isAgg148
  z46 := Tryz.sizeOf148
  v46 := Tryz.zeroValue148
  t51 := Tryz.underlying199
  a51 := Tryz.isAgg199
  z51 := Tryz.sizeOf199
  v51 := Tryz.zeroValue199
  t105 := Tryz.underlying226
  a105 := Tryz.isAgg226
  z105 := Tryz.sizeOf226
  v105 := Tryz.zeroValue226
  t119 := Tryz.underlying252
  a119 := Tryz.isAgg252
  z119 := Tryz.sizeOf252
  t138 := Tryz.underlying254
  a138 := Tryz.isAgg254
  z138 := Tryz.sizeOf254
  v138 := Tryz.zeroValue254
  t139 := Tryz.underlying255
  a139 := Tryz.isAgg255
  z139 := Tryz.sizeOf255
  v139 := Tryz.zeroValue255
  t146 := Tryz.underlying256
  a146 := Tryz.isAgg256
  z146 := Tryz.sizeOf256
  v146 := Tryz.zeroValue256
  g1 := by kernel_rfl
  g3 := by kernel_rfl
  g4 := by kernel_rfl }
end Go.Proofs.YtlgghookekokaaaGreatDoor

namespace Go.Proofs.YtlgghookekokaaaGreatDoor
open Go.Shelf Go.RowKit Go.Lib

theorem cutPrefix_any (s p : ByteArray) (w : World) :
    Calls Tryz.prog 82 #[.string s, .string p] w fun e w' => e = .returned (.tuple #[.string ⟨(Lib.trimPrefix s.data.toList p.data.toList).toArray⟩, .bool (Lib.hasPrefix s.data.toList p.data.toList)]) ∧ w' = w := Any.strings_CutPrefix lays103 s p w
theorem index_slash (x : ByteArray) (w : World) : Calls Tryz.prog 183 #[.string x, .string ⟨#[47]⟩] w fun e w' => e = .returned (.int .i64 (Lib.indexB x ⟨#[47]⟩)) ∧ w' = w := by
  refine (show Calls Tryz.prog 183 #[.string x, .string ⟨#[47]⟩] w fun e w' => e = .returned (.int .i64 (Lib.indexByte x.data.toList 47)) ∧ w' = w from Any.strings_Index_one (ρ := lays146_ren) { lays146 with } x 47 w).mono fun e w' ⟨he, hw⟩ => ⟨?_, hw⟩
  rw [he]
  show _ = Ending.returned (Value.int .i64 (Lib.index x.data.toList [47]))
  rw [Lib.index_one]
theorem count_slash (x : ByteArray) (w : World) : Calls Tryz.prog 182 #[.string x, .string ⟨#[47]⟩] w fun e w' => e = .returned (.int .i64 (Lib.countB x ⟨#[47]⟩)) ∧ w' = w := by
  refine (show Calls Tryz.prog 182 #[.string x, .string ⟨#[47]⟩] w fun e w' => e = .returned (.int .i64 (Lib.countByte x.data.toList 47)) ∧ w' = w from Any.strings_Count_one (ρ := lays146_ren) { lays146 with } x 47 w).mono fun e w' ⟨he, hw⟩ => ⟨?_, hw⟩
  rw [he]
  show _ = Ending.returned (Value.int .i64 ((Lib.count x.data.toList [47] : Nat) : Int))
  rw [Lib.count_one]
  rfl

set_option maxRecDepth 100000 in
set_option maxHeartbeats 1000000 in
theorem split_slash (s : ByteArray) (w : World) (hs : s.size < 4294967281) :
    Calls Tryz.prog 83 #[.string s, .string ⟨#[47]⟩] w fun e w' =>
      e = .returned (.slice (some ⟨w.heap.size, 0, none⟩) (pcs s).length (pcs s).length) ∧ w' = w.alloc (.cells (strs (pcs s)).toArray 9) := by
  have hle := Lib.countB_le ⟨#[47]⟩ (by decide) s.size s (Nat.le_refl _)
  have hlen := Lib.splitB_all ⟨#[47]⟩ (by decide) 0 _ s rfl
  have c : Calls Tryz.prog 126 #[.string s, .string ⟨#[47]⟩, .int .i64 ((0 : Nat) : Int), .int .i64 (-1)] w fun e w' =>
      e = .returned (.slice (some ⟨w.heap.size, 0, none⟩) (Lib.splitB ⟨#[47]⟩ 0 (Lib.countB s ⟨#[47]⟩ + 1 - 1) s).length (Lib.countB s ⟨#[47]⟩ + 1)) ∧ w' = w.alloc (.cells (Lib.cellsOf (Lib.splitB ⟨#[47]⟩ 0 (Lib.countB s ⟨#[47]⟩ + 1 - 1) s) (Lib.countB s ⟨#[47]⟩ + 1)) 9) :=
    Any.strings_genSplit_core (ρ := lays146_ren) { lays146 with } (by kernel_rfl) s ⟨#[47]⟩ 0 (-1) (Lib.countB s ⟨#[47]⟩ + 1) w hs (by decide) (Nat.zero_le _) (fun x _ _ => index_slash x _) (count_slash s w) (by decide) (by decide) (by rw [if_pos (by decide)]; omega)
  rw [Nat.add_sub_cancel, hlen] at c
  have e2 : Lib.cellsOf (Lib.splitB ⟨#[47]⟩ 0 (Lib.countB s ⟨#[47]⟩) s) (Lib.countB s ⟨#[47]⟩ + 1) = ((Lib.splitB ⟨#[47]⟩ 0 (Lib.countB s ⟨#[47]⟩) s).map Value.string).toArray := by rw [← hlen]; exact Lib.cellsOf_full _
  rw [e2, split_pcs, count_pcs] at c
  have C := hideIt c
  clear c hle hlen e2
  unfold strs
  generalize (pcs s).length = n at *
  generalize ((pcs s).map Value.string).toArray = cs at *
  go_enter Tryz.func83, Tryz.ntmps83
  go_wp2_with (go_at_call 126; refine C.out.mono ?_; rintro e w' ⟨rfl, hw⟩; rw [hw])
  go_ret
  exact ⟨rfl, rfl⟩
end Go.Proofs.YtlgghookekokaaaGreatDoor

namespace Go.Proofs.YtlgghookekokaaaGreatDoor
open Go.RowKit

/-- What is behind a slash. -/
def restB (s : ByteArray) : ByteArray := mkB (Lib.trimPrefix s.data.toList [47])
def aheadB (s : ByteArray) : Bool := Lib.hasPrefix s.data.toList [47]
theorem ahead_no {s : ByteArray} (h : aheadB s = false) : spN s = false := by
  unfold aheadB Lib.hasPrefix at h
  unfold spN
  cases hl : s.data.toList with
  | nil => rw [pcs_none hl]; rfl
  | cons c l =>
    have hc : ¬ c = 47 := fun e => by subst e; rw [hl] at h; simp [List.isPrefixOf] at h
    obtain ⟨x, r, e, hx⟩ := pcs_other hl hc
    rw [e]
    have : x.toList.isEmpty = false := by
      rw [Lib.toList_data]
      rw [Lib.size_eq] at hx
      cases h : x.data.toList with
      | nil => rw [h] at hx; exact absurd rfl hx
      | cons _ _ => rfl
    show (_ && (x.toList.isEmpty && _)) = false
    rw [this]; simp
theorem ahead_yes {s : ByteArray} (h : aheadB s = true) : spN s = (decide ((pcs (restB s)).length ≤ 6) && (pcs (restB s)).all nmB) ∧ (pcs s).drop 1 = pcs (restB s) := by
  unfold aheadB Lib.hasPrefix at h
  cases hl : s.data.toList with
  | nil => rw [hl] at h; simp [List.isPrefixOf] at h
  | cons c l =>
    have hc : c = 47 := by rw [hl] at h; simp [List.isPrefixOf] at h; exact h.symm
    subst hc
    have hr : restB s = mkB l := by unfold restB Lib.trimPrefix Lib.hasPrefix; rw [hl]; simp [List.isPrefixOf]
    have hp := pcs_slash hl
    have p1 := pcs_pos (restB s)
    unfold spN
    rw [hp, hr]
    rw [hr] at p1
    refine ⟨?_, rfl⟩
    have e1 : (mkB [] :: pcs (mkB l)).length = (pcs (mkB l)).length + 1 := rfl
    rw [e1]
    have e2 : decide (2 ≤ (pcs (mkB l)).length + 1 ∧ (pcs (mkB l)).length + 1 ≤ 7) = decide ((pcs (mkB l)).length ≤ 6) := by
      by_cases q : (pcs (mkB l)).length ≤ 6
      · rw [decide_eq_true q, decide_eq_true (by omega)]
      · rw [decide_eq_false q, decide_eq_false (by omega)]
    rw [e2]
    have e3 : ((mkB [] :: pcs (mkB l)).getD 0 ⟨#[]⟩).toList.isEmpty = true := by
      show (mkB []).toList.isEmpty = true
      rw [Lib.toList_data, mkB_data]
      rfl
    rw [e3]
    rfl
theorem rest_size (s : ByteArray) : (restB s).size ≤ s.size := by
  unfold restB
  rw [Lib.size_eq, mkB_data, Lib.size_eq]
  unfold Lib.trimPrefix
  split
  · rw [List.length_drop]; omega
  · exact Nat.le_refl _

set_option maxRecDepth 100000 in
set_option maxHeartbeats 4000000 in
theorem everyName_any (v : Value) (ss : List ByteArray) (w : World) (h : RdT w v ss) (hn : ss.length ≤ 1048576) (hs : ∀ k (h : k < ss.length), ss[k].size ≤ maxLen) :
    Calls Tryz.prog 84 #[v, .func (.func 85) #[] #[]] w fun e w' => e = .returned (.bool (ss.all nmB)) ∧ Below w.heap.size w w' := by
  obtain ⟨aP, cP, rfl, _, hcP⟩ := h.shape
  have HP := hideIt hcP
  have HS := hideIt hs
  have SF : Hid (∀ j (h : j < ss.length), nmB ss[j] = false → ss.all nmB = false) := fun j h q => by
    rw [List.all_eq_false]
    exact ⟨ss[j], List.getElem_mem _, by rw [q]; simp⟩
  have SA : Hid ((∀ j (h : j < ss.length), nmB ss[j] = true) → ss.all nmB = true) := fun h => by
    rw [List.all_eq_true]
    intro x hx
    obtain ⟨j, hj, rfl⟩ := List.getElem_of_mem hx
    exact h j hj
  clear h hcP hs
  go_enter Tryz.func84, Tryz.ntmps84
  go_wp2
  go_loopw [6, 9] (fun _ i wr => ∃ k : Nat, k ≤ ss.length ∧ i = .int .i64 k ∧ Hid (Below w.heap.size w wr ∧ ∀ j (h : j < ss.length), j < k → nmB ss[j] = true)) (fun _ i _ => ss.length - (intOf i).toNat)
  case atStart => exact ⟨0, by omega, rfl, Below.refl _ _, fun j h a => absurd a (by omega)⟩
  case round =>
    obtain ⟨k, hk, rfl, H⟩ := hrel
    have H1 := hideIt H.out.1
    have hz : w.heap.size ≤ wr.heap.size := H.out.1.size
    by_cases hlt : k < ss.length
    · obtain ⟨b, o, rfl, hbl, hcell⟩ := HP.out (by omega)
      have d0 := (H1.out.cell (p := ⟨b, o + k, none⟩) hbl).trans (hcell k hlt)
      have k0 : (0 : Int) ≤ (k : Int) := by omega
      have k1 : (k : Int) < (ss.length : Int) := by omega
      have LI := hideIt (fun w1 => isShortName_any ss[k] w1 (HS.out k hlt))
      have H2 : Hid (∀ j (h : j < ss.length), j < k → nmB ss[j] = true) := H.out.2
      clear hcell H
      cases q : nmB ss[k] with
      | true =>
        have H' : Hid (∀ j (h : j < ss.length), j < k + 1 → nmB ss[j] = true) := fun j h a => by
          by_cases e : j = k
          · subst e; exact q
          · exact H2.out j h (by omega)
        rw [q] at LI
        clear q H2
        generalize ss[k] = x at d0 LI
        go_wp2_with fail
        refine (LI.out _).mono ?_
        rintro e w1 ⟨rfl, hb1⟩
        have B3 := hideIt (below_trans H1.out hb1 H1.out.size)
        clear hb1 d0
        go_wp2
        go_roundw
        case rel => exact ⟨k + 1, by omega, by go_num, B3.out, H'.out⟩
        case measure => simp [intOf]; omega
      | false =>
        have E := hideIt (SF.out k hlt q)
        rw [q] at LI
        clear q H2
        generalize ss[k] = x at d0 LI
        go_wp2_with fail
        refine (LI.out _).mono ?_
        rintro e w1 ⟨rfl, hb1⟩
        have B3 := hideIt (below_trans H1.out hb1 H1.out.size)
        clear hb1 d0
        go_wp2
        go_ret
        exact ⟨ret_bool E.out.symm, B3.out⟩
    · have E := hideIt (SA.out (fun j h => H.out.2 j h (by omega)))
      clear H
      go_wp2
      go_ret
      exact ⟨ret_bool E.out.symm, H1.out⟩

theorem row_strs (w : World) (P : List ByteArray) (h : P.length ≤ 1048576) : Row (w.alloc (.cells (strs P).toArray 9)) 9 1 w.heap.size (w.alloc (.cells (strs P).toArray 9)).heap.size (.slice (some ⟨w.heap.size, 0, none⟩) P.length P.length) P.length (strs P) := by
  have := World.ownsRow_lit (e := 9) (size := 1) (base := w.heap.size) w (strs P).toArray P.length (Nat.le_refl _) (by simp [maxLen]; omega) (by simp [strs])
  exact own_block this

set_option maxRecDepth 100000 in
set_option maxHeartbeats 4000000 in
theorem implSplitPath_any (s : ByteArray) (w : World) :
    Calls Tryz.prog 31 #[.string s] w fun e w' => ∃ v', e = .returned (.tuple #[v', .int .i64 (spC s)]) ∧ Row w' 9 1 w.heap.size w'.heap.size v' (spR s).length (strs (spR s)) ∧ Below w.heap.size w w' := by
  by_cases c1 : 65536 < s.size
  · obtain ⟨E1, E2⟩ := sp_long c1
    rw [E1, E2]
    have c2 : (s.size : Int) > 65536 := by omega
    clear c1 E1 E2
    go_enter Tryz.func31, Tryz.ntmps31
    go_wp2
    go_ret2
    exact ⟨_, rfl, Row.nil _ _ _ _ _, Below.refl _ _⟩
  have c2 : ¬ (s.size : Int) > 65536 := by omega
  obtain ⟨X1, X2⟩ := sp_short c1
  cases c3 : slashB s with
  | true =>
    obtain ⟨E1, E2⟩ := sp_slash c3
    obtain ⟨E3, E4⟩ := X1 E1
    rw [E3, E4, E2]
    have c4 : (s.toList == [47]) = true := c3
    clear c1 c3 E1 E2 E3 E4 X1 X2
    go_enter Tryz.func31, Tryz.ntmps31
    go_wp2
    go_ret2
    exact ⟨_, rfl, Row.nil _ _ _ _ _, Below.refl _ _⟩
  | false =>
  have c4 : (s.toList == [47]) = false := c3
  have NO : Hid (spN s = false → spC s = 12 ∧ spR s = []) := fun h => X2 (sp_no c3 h).1
  have YES : Hid (spN s = true → spC s = 0 ∧ spR s = (pcs s).drop 1) := fun h => by
    obtain ⟨a, b⟩ := sp_yes c3 h
    obtain ⟨c, d⟩ := X1 a
    exact ⟨c, d.trans b⟩
  have LP : Hid (∀ w1 : World, Calls Tryz.prog 82 #[.string s, .string ⟨#[47]⟩] w1 fun e w' => e = .returned (.tuple #[.string (restB s), .bool (aheadB s)]) ∧ w' = w1) := fun w1 => cutPrefix_any s ⟨#[47]⟩ w1
  have RS := rest_size s
  have LS := hideIt (fun w1 => split_slash (restB s) w1 (by omega))
  have PL := pcs_len (restB s)
  have RW := hideIt (fun w1 => row_strs w1 (pcs (restB s)) (by omega))
  have LE := hideIt (fun v w1 h => everyName_any v (pcs (restB s)) w1 h (by omega) (fun k hk => by have := pcs_size (restB s) k hk; unfold maxLen; omega))
  have AN := hideIt (fun h => ahead_no (s := s) h)
  have AY := hideIt (fun h => ahead_yes (s := s) h)
  have BE := hideIt (fun w1 : World => (Below.refl w1.heap.size w1).alloc (Nat.le_refl _) (.cells (strs (pcs (restB s))).toArray 9))
  clear c1 c3 X1 X2
  generalize spC s = sc at *
  generalize spR s = sr at *
  generalize spN s = sn at *
  generalize (pcs s).drop 1 = P1 at *
  generalize hRS : restB s = R at *
  generalize aheadB s = ah at *
  generalize pcs R = P at *
  clear hRS
  cases ah with
  | false =>
    obtain ⟨e1, e2⟩ := NO.out (AN.out rfl)
    subst e1 e2
    clear NO YES AN AY LE RW
    go_enter Tryz.func31, Tryz.ntmps31
    go_wp2_with fail
    refine (LP.out _).mono ?_
    rintro e w1 ⟨rfl, hw1⟩
    subst w1
    go_wp2_with fail
    refine (LS.out _).mono ?_
    rintro e w1 ⟨rfl, hw1⟩
    have B1 := hideIt (BE.out w)
    rw [← hw1] at B1
    clear hw1
    go_wp2
    go_ret2
    exact ⟨_, rfl, Row.nil _ _ _ _ _, B1.out⟩
  | true =>
  obtain ⟨a1, a2⟩ := AY.out rfl
  have A1 := hideIt a1
  rw [a2] at YES
  clear a2 AY
  by_cases n1 : P.length ≤ 6
  case neg =>
    obtain ⟨e1, e2⟩ := NO.out (by rw [A1.out, decide_eq_false n1]; rfl)
    have n2 : (P.length : Int) > 6 := by omega
    subst e1 e2
    clear NO YES AN LE RW A1 a1
    go_enter Tryz.func31, Tryz.ntmps31
    go_wp2_with fail
    refine (LP.out _).mono ?_
    rintro e w1 ⟨rfl, hw1⟩
    subst w1
    go_wp2_with fail
    refine (LS.out _).mono ?_
    rintro e w1 ⟨rfl, hw1⟩
    have B1 := hideIt (BE.out w)
    rw [← hw1] at B1
    clear hw1
    go_wp2
    go_ret2
    exact ⟨_, rfl, Row.nil _ _ _ _ _, B1.out⟩
  have n2 : ¬ (P.length : Int) > 6 := by omega
  have A2 : Hid (sn = P.all nmB) := by unfold Hid; rw [A1.out, decide_eq_true n1]; rfl
  clear A1 a1
  cases c5 : P.all nmB with
  | false =>
    obtain ⟨e1, e2⟩ := NO.out (by rw [A2.out, c5])
    rw [c5] at LE
    subst e1 e2
    clear NO YES AN A2 c5
    go_enter Tryz.func31, Tryz.ntmps31
    go_wp2_with fail
    refine (LP.out _).mono ?_
    rintro e w1 ⟨rfl, hw1⟩
    subst w1
    go_wp2_with fail
    refine (LS.out _).mono ?_
    rintro e w1 ⟨rfl, hw1⟩
    have B1 := hideIt (BE.out w)
    have R1 := hideIt (RW.out w)
    rw [← hw1] at B1 R1
    clear hw1 RW BE
    go_wp2_with fail
    refine (LE.out _ _ R1.out.rd).mono ?_
    rintro e w2 ⟨rfl, hb2⟩
    have B2 := hideIt (below_trans B1.out hb2 B1.out.size)
    clear hb2
    go_wp2
    go_ret2
    exact ⟨_, rfl, Row.nil _ _ _ _ _, B2.out⟩
  | true =>
    obtain ⟨e1, e2⟩ := YES.out (by rw [A2.out, c5])
    rw [c5] at LE
    subst e1 e2
    clear NO YES AN A2 c5
    go_enter Tryz.func31, Tryz.ntmps31
    go_wp2_with fail
    refine (LP.out _).mono ?_
    rintro e w1 ⟨rfl, hw1⟩
    subst w1
    go_wp2_with fail
    refine (LS.out _).mono ?_
    rintro e w1 ⟨rfl, hw1⟩
    have B1 := hideIt (BE.out w)
    have R1 := hideIt (RW.out w)
    rw [← hw1] at B1 R1
    clear hw1 RW BE
    go_wp2_with fail
    refine (LE.out _ _ R1.out.rd).mono ?_
    rintro e w2 ⟨rfl, hb2⟩
    have B2 := hideIt (below_trans B1.out hb2 B1.out.size)
    have R2 := hideIt ((R1.out.below hb2 (Nat.le_refl _)).wide (Nat.le_refl _) hb2.size)
    clear hb2
    go_wp2
    go_ret2
    exact ⟨_, rfl, R2.out, B2.out⟩

set_option maxRecDepth 100000 in
set_option maxHeartbeats 4000000 in
theorem implPathOK_any (s : ByteArray) (w : World) :
    Calls Tryz.prog 30 #[.string s] w fun e w' => e = .returned (.bool (spC s == 0)) ∧ Below w.heap.size w w' := by
  have LS := hideIt (fun w1 => implSplitPath_any s w1)
  generalize spC s = sc at *
  go_enter Tryz.func30, Tryz.ntmps30
  go_wp2_with fail
  refine (LS.out _).mono ?_
  rintro e w1 ⟨v1, rfl, hr1, hb1⟩
  have B1 := hideIt hb1
  clear hr1 hb1
  go_wp2
  go_ret
  exact ⟨rfl, B1.out⟩
end Go.Proofs.YtlgghookekokaaaGreatDoor

namespace Go.Proofs.YtlgghookekokaaaGreatDoor
open Go.RowKit

/-- An entry has this name in this directory, as the program asks. -/
def pgHit (d : Int) (nm : ByteArray) (x : Den) : Bool := x.dir == d && x.name.toList == nm.toList
theorem pg_hit {ws : List Ino} {ps : List Den} (h : imgB ws ps = true) {nm : ByteArray} (hn : 1 ≤ nm.size) (d : Int) (k : Nat) (hk : k < ps.length) : entHit d nm ps[k] = pgHit d nm ps[k] := by
  unfold entHit pgHit
  rcases pimg_ent h k hk with ⟨h1, h2⟩ | ⟨h1, _⟩
  · have : (ps[k].name.toList == nm.toList) = false := by
      rw [beq_eq_false_iff_ne]
      intro e
      have := congrArg List.length e
      rw [Lib.toList_data, Lib.toList_data, ← Lib.size_eq, ← Lib.size_eq] at this
      omega
    rw [this]; simp
  · rw [decide_eq_true (show 0 ≤ ps[k].child by omega), Bool.true_and]

set_option maxRecDepth 100000 in
set_option maxHeartbeats 8000000 in
theorem goDown_any (v vL : Value) (ws : List Ino) (ps : List Den) (ns : List ByteArray) (w : World) (h : RdIm w v ws ps) (hL : RdT w vL ns) (hi : imgB ws ps = true) (hn : ns.length ≤ 1048576) (hs : ∀ k (h : k < ns.length), 1 ≤ ns[k].size) :
    Calls Tryz.prog 81 #[v, vL] w fun e w' => e = .returned (.tuple #[.int .i64 (wk ws ps 0 ns).1, .int .i64 (wk ws ps 0 ns).2]) ∧ Below w.heap.size w w' := by
  have HR := hideIt h
  have LD := hideIt (fun (i : Nat) (hi16 : i < 16) w1 h => isDir_any v ws ps (i : Int) w1 h (pimg_all hi).1 (by omega))
  obtain ⟨vW, vP, rfl, h1, h2⟩ := h
  obtain ⟨aW, cW, rfl, _, _⟩ := h1.shape
  obtain ⟨aP, cP, rfl, _, hcP⟩ := h2.shape
  obtain ⟨aL, cL, rfl, _, hcL⟩ := hL.shape
  have L24 := hideIt (pimg_all hi).2.1
  obtain ⟨bP, oP, rfl, hblP, hcellP⟩ := hcP (by have := L24.out; omega)
  have pl : ps.length ≤ 4096 := by have := L24.out; omega
  have HP := hideIt hcellP
  have HN := hideIt hcL
  have HS := hideIt hs
  have PH := hideIt (fun (nm : ByteArray) (hn : 1 ≤ nm.size) d k hk => pg_hit hi hn d k hk)
  have CR := hideIt (fun (d : Int) (nm : ByteArray) (k : Nat) (e : entAt ps d nm = some k) => child_range hi e)
  generalize hres : wk ws ps 0 ns = res
  have HRES := hideIt hres
  clear hres h1 h2 hcP hcellP hcL hL hi hs
  obtain ⟨W, hW⟩ : ∃ W, W = w.alloc (.cells #[.slice aW ws.length cW, .slice (some ⟨bP, oP, none⟩) ps.length cP] 26) := ⟨_, rfl⟩
  have CA : Hid (∀ w', Below W.heap.size W w' → w'.cell? ⟨w.heap.size, 0, none⟩ = some (.slice aW ws.length cW) ∧ w'.cell? ⟨w.heap.size, 1, none⟩ = some (.slice (some ⟨bP, oP, none⟩) ps.length cP)) := fun w' hb => by
    have : w'.heap[w.heap.size]? = some (.cells #[.slice aW ws.length cW, .slice (some ⟨bP, oP, none⟩) ps.length cP] 26 (0, 0)) := (hb.block _ (by rw [hW]; simp)).trans (by rw [hW]; exact at_new rfl)
    exact ⟨(two_cells this).1, (two_cells this).2.1⟩
  have BW : Hid (Below w.heap.size w W) := by rw [hW]; exact (Below.refl _ _).alloc (Nat.le_refl _) _
  have hzW : w.heap.size ≤ W.heap.size := BW.out.size
  go_enter Tryz.func81, Tryz.ntmps81
  go_wp2_with fail
  go_step3
  go_wp2_with fail
  go_step3
  go_wp2_with fail
  rw [← hW]
  clear hW
  go_loopg [6, 13] ns.length (fun g a i wr => ∃ (k : Nat) (z : Nat), k + g = ns.length ∧ z < 16 ∧ a = .int .i64 z ∧ i = .int .i64 k ∧ Hid (Below W.heap.size W wr ∧ res = wk ws ps z (ns.drop k)))
  case atStart => exact ⟨0, 0, by omega, by omega, rfl, rfl, Below.refl _ _, HRES.out.symm⟩
  case round =>
    obtain ⟨k, z, hk, hz16, rfl, rfl, J⟩ := hrel
    obtain ⟨x0, x1⟩ := CA.out wr J.out.1
    have B := hideIt (below_trans BW.out J.out.1 hzW)
    have J1 := hideIt J.out.1
    have k0 : (0 : Int) ≤ (k : Int) := by omega
    by_cases hlt : k < ns.length
    · have k1 : (k : Int) < (ns.length : Int) := by omega
      have JD : Hid (res = wk ws ps z (ns[k] :: ns.drop (k + 1))) := by unfold Hid; rw [J.out.2, List.drop_eq_getElem_cons hlt]
      obtain ⟨bL, oL, rfl, hblL, hcell⟩ := HN.out (by omega)
      have n0 := (B.out.cell (p := ⟨bL, oL + k, none⟩) hblL).trans (hcell k hlt)
      have WN := hideIt (fun (h : ¬ kindAt ws z = 2) => wk_nodir (ps := ps) (n := ns[k]) (ns := ns.drop (k + 1)) h)
      have WO := hideIt (fun (h : kindAt ws z = 2) (e : entAt ps z ns[k] = none) => wk_none (ns := ns.drop (k + 1)) h e)
      have WS := hideIt (fun (h : kindAt ws z = 2) (j : Nat) (e : entAt ps z ns[k] = some j) => wk_some (ns := ns.drop (k + 1)) h e)
      have PK := hideIt (fun j hj => PH.out ns[k] (HS.out k hlt) (z : Int) j hj)
      have CR2 := hideIt (fun (j : Nat) (e : entAt ps z ns[k] = some j) => CR.out _ _ _ e)
      have LD2 := hideIt (fun w1 h => LD.out z hz16 w1 h)
      clear J hcell HRES
      generalize kindAt ws (z : Int) = kk at *
      generalize ns[k] = nm at *
      by_cases q : kk = 2
      case neg =>
        have q1 : (kk == 2) = false := by rw [beq_eq_false_iff_ne]; exact q
        rw [q1] at LD2
        obtain rfl := JD.out.trans (WN.out q)
        clear q q1 WN WO WS CR2 PK
        go_wp2_with fail
        refine (LD2.out _ (HR.out.below B.out)).mono ?_
        rintro e w1 ⟨rfl, hb1⟩
        have B1 := hideIt (below_trans B.out hb1 B.out.size)
        clear hb1 x0 x1 n0
        go_wp2
        try rw [Exit.noGoto_ret]
        go_ret2
        exact ⟨rfl, B1.out⟩
      have q1 : (kk == 2) = true := by rw [q]; rfl
      rw [q1] at LD2
      clear q1
      have Q := hideIt q
      clear q
      go_wp2_with fail
      refine (LD2.out _ (HR.out.below B.out)).mono ?_
      rintro e w1 ⟨rfl, hb1⟩
      have B1 := hideIt (below_trans B.out hb1 B.out.size)
      have J2 := hideIt (below_trans J1.out hb1 J1.out.size)
      clear hb1 x0 x1 n0 LD2
      obtain ⟨x0, x1⟩ := CA.out w1 J2.out
      generalize gk = G0 at *
      have hz1 : w.heap.size ≤ w1.heap.size := B1.out.size
      clear B J1
      go_wp2_with fail
      go_loopg [6, 24] ps.length (fun g2 a i wq => ∃ j : Nat, j + g2 = ps.length ∧ a = .int .i64 z ∧ i = .int .i64 j ∧ Hid (Below w1.heap.size w1 wq ∧ ∀ m (h : m < ps.length), m < j → entHit (z : Int) nm ps[m] = false))
      case atStart => exact ⟨0, by omega, rfl, rfl, Below.refl _ _, fun m h a => absurd a (by omega)⟩
      case round =>
        obtain ⟨j, hj, rfl, rfl, K⟩ := hrel
        have KW := hideIt (below_trans B1.out K.out.1 hz1)
        have K2 := hideIt (below_trans J2.out K.out.1 J2.out.size)
        have j0 : (0 : Int) ≤ (j : Int) := by omega
        by_cases hlj : j < ps.length
        · obtain ⟨a0, a1, a2⟩ := HP.out j hlj
          have d0 := (KW.out.cell (p := ⟨bP, oP + j * 3, none⟩) hblP).trans a0
          have d1 := (KW.out.cell (p := ⟨bP, oP + j * 3 + 1, none⟩) hblP).trans a1
          have d2 := (KW.out.cell (p := ⟨bP, oP + j * 3 + 2, none⟩) hblP).trans a2
          have j1 : (j : Int) < (ps.length : Int) := by omega
          have EH : Hid (entHit (z : Int) nm ps[j] = (ps[j].dir == (z : Int) && ps[j].name.toList == nm.toList)) := PK.out j hlj
          have HY := hideIt (fun e : entHit (z : Int) nm ps[j] = true => ent_yes hlj K.out.2 e)
          have HX := hideIt (fun (e : entHit (z : Int) nm ps[j] = false) m (h : m < ps.length) (a : m < j + 1) => show entHit (z : Int) nm ps[m] = false by
            by_cases q : m = j
            · subst q; exact e
            · exact K.out.2 m h (by omega))
          have CJ := hideIt (childAt_of hlj)
          have K1 := hideIt K.out.1
          clear a0 a1 a2 K
          generalize entHit (z : Int) nm ps[j] = hit at *
          generalize ps[j].child = y at *
          generalize ps[j].dir = yd at *
          generalize ps[j].name = yn at *
          have BX := hideIt ((Below.refl wr.heap.size wr).alloc (Nat.le_refl _) (.cells #[.int .i64 yd, .string yn, .int .i64 y] 50))
          have B5 := hideIt (below_trans K1.out BX.out K1.out.size)
          have B6 := hideIt (below_trans K2.out BX.out K2.out.size)
          by_cases r : yd = (z : Int)
          case neg =>
            have r1 : (yd == (z : Int)) = false := beq_eq_false_iff_ne.2 r
            have E := hideIt (HX.out (by rw [EH.out, r1]; rfl))
            clear r HX HY EH
            go_wp2
            go_roundg (ps.length - (j + 1))
            case measure => omega
            case rel => exact ⟨j + 1, by omega, rfl, by go_num, B5.out, E.out⟩
          have r1 : (yd == (z : Int)) = true := beq_iff_eq.2 r
          cases t : (yn.toList == nm.toList) with
          | false =>
            have E := hideIt (HX.out (by rw [EH.out, t]; simp))
            clear r HX HY EH
            go_wp2
            go_roundg (ps.length - (j + 1))
            case measure => omega
            case rel => exact ⟨j + 1, by omega, rfl, by go_num, B5.out, E.out⟩
          | true =>
            have E1 := HY.out (by rw [EH.out, t, r1]; rfl)
            obtain ⟨_, c1, c2⟩ := CR2.out j E1
            have W2 := hideIt (JD.out.trans (WS.out Q.out j E1))
            rw [CJ.out] at c1 c2 W2
            obtain ⟨yn2, hy⟩ : ∃ n : Nat, y = (n : Int) := ⟨y.toNat, by omega⟩
            subst hy
            have y16 : yn2 < 16 := by omega
            clear r HX HY EH E1 CJ
            go_wp2
            go_roundg (ns.length - (k + 1))
            case measure => omega
            case rel => exact ⟨k + 1, yn2, by omega, y16, rfl, by go_num, B6.out, W2.out⟩
        · obtain rfl : j = ps.length := by omega
          have E := hideIt (JD.out.trans (WO.out Q.out (ent_no (fun m h => K.out.2 m h h))))
          obtain rfl := E.out
          clear K E
          go_wp2
          try rw [Exit.noGoto_ret]
          go_ret2
          exact ⟨rfl, KW.out⟩
    · obtain rfl : k = ns.length := by omega
      have E : Hid (res = ((z : Int), 0)) := by unfold Hid; rw [J.out.2, List.drop_length]; rfl
      clear HRES J
      obtain rfl := E.out
      go_wp2
      try rw [Exit.noGoto_ret]
      go_ret2
      exact ⟨rfl, B.out⟩
end Go.Proofs.YtlgghookekokaaaGreatDoor

namespace Go.Proofs.YtlgghookekokaaaGreatDoor
open Go.RowKit

/-- What splitIn answers. -/
def siC (ws : List Ino) (ps : List Den) (s : ByteArray) : Int := if 65536 < s.size then 2 else if imgB ws ps = true then spC s else 1
def siL (ws : List Ino) (ps : List Den) (s : ByteArray) : List ByteArray := if imgB ws ps = true then spR s else []
theorem spL_short {s : ByteArray} : ∀ k (h : k < (spL s).length), 1 ≤ (spL s)[k].size := by
  intro k hk
  have hm : (spL s)[k] ∈ spL s := List.getElem_mem hk
  generalize (spL s)[k] = x at hm
  unfold spL at hm
  split at hm
  · cases hm
  · split at hm
    · rename_i h
      unfold spN at h
      simp only [Bool.and_eq_true, List.all_eq_true] at h
      exact (nmB_true (h.2.2 x hm)).1
    · cases hm
theorem si_lk (ws : List Ino) (ps : List Den) (s : ByteArray) : (¬ siC ws ps s = 0 → lkR ws ps s = (0, siC ws ps s) ∧ paR ws ps s = (0, ⟨#[]⟩, siC ws ps s)) ∧ (siC ws ps s = 0 → imgB ws ps = true ∧ siL ws ps s = spL s ∧ lkR ws ps s = wk ws ps 0 (spL s) ∧ paR ws ps s = paL ws ps (spL s)) := by
  unfold siC lkR paR siL
  by_cases c1 : 65536 < s.size
  · rw [if_pos c1, if_pos c1, if_pos c1]
    exact ⟨fun _ => ⟨rfl, rfl⟩, fun h => by cases h⟩
  · rw [if_neg c1, if_neg c1, if_neg c1]
    by_cases c2 : imgB ws ps = true
    · rw [if_pos c2, if_pos c2, if_pos c2, if_pos c2]
      obtain ⟨X1, X2⟩ := sp_short c1
      unfold lkI paI
      cases c3 : spB s with
      | false =>
        obtain ⟨e1, e2⟩ := X2 c3
        rw [e1, e2]
        exact ⟨fun _ => ⟨rfl, rfl⟩, fun h => by cases h⟩
      | true =>
        obtain ⟨e1, e2⟩ := X1 c3
        rw [e1, e2]
        exact ⟨fun h => absurd rfl h, fun _ => ⟨c2, rfl, rfl, rfl⟩⟩
    · rw [if_neg c2, if_neg c2, if_neg c2, if_neg c2]
      exact ⟨fun _ => ⟨rfl, rfl⟩, fun h => by cases h⟩

set_option maxRecDepth 100000 in
set_option maxHeartbeats 4000000 in
theorem splitIn_any (v : Value) (ws : List Ino) (ps : List Den) (s : ByteArray) (w : World) (h : RdIm w v ws ps) (hw : ws.length ≤ 1048576) (hp : ps.length ≤ 1048576) (hT : TS w) (hE : ED w) (hF : FD w) (hr : ∀ k (h : k < ws.length), ws[k].R) (hs : ∀ k (h : k < ps.length), ps[k].name.size ≤ maxLen) :
    Calls Tryz.prog 80 #[v, .string s] w fun e w' => ∃ v', e = .returned (.tuple #[v', .int .i64 (siC ws ps s)]) ∧ RdT w' v' (siL ws ps s) ∧ Below w.heap.size w w' := by
  have HR := hideIt h
  have LI := hideIt (fun w1 (hb : Below w.heap.size w w1) => implImageOK_any v ws ps w1 (h.below hb) hw hp (hT.below hb) (hE.below hb) (hF.below hb) hr hs)
  have LS := hideIt (fun w1 => implSplitPath_any s w1)
  have EC := hideIt (show siC ws ps s = if 65536 < s.size then 2 else if imgB ws ps = true then spC s else 1 from rfl)
  have EL := hideIt (show siL ws ps s = if imgB ws ps = true then spR s else [] from rfl)
  have XL := hideIt (fun h => sp_long (s := s) h)
  have X0 : Hid (¬ 65536 < s.size → ¬ spC s = 2) := fun h => by
    obtain ⟨X1, X2⟩ := sp_short h
    cases c : spB s
    · rw [(X2 c).1]; decide
    · rw [(X1 c).1]; decide
  obtain ⟨vW, vP, rfl, h1, h2⟩ := h
  obtain ⟨aW, cW, rfl, _, _⟩ := h1.shape
  obtain ⟨aP, cP, rfl, _, _⟩ := h2.shape
  clear h1 h2 hr hs hT hE hF
  have CA : Hid (∀ w', Below (w.alloc (.cells #[.slice aW ws.length cW, .slice aP ps.length cP] 26)).heap.size (w.alloc (.cells #[.slice aW ws.length cW, .slice aP ps.length cP] 26)) w' → w'.cell? ⟨w.heap.size, 0, none⟩ = some (.slice aW ws.length cW) ∧ w'.cell? ⟨w.heap.size, 1, none⟩ = some (.slice aP ps.length cP)) := fun w' hb => by
    have : w'.heap[w.heap.size]? = some (.cells #[.slice aW ws.length cW, .slice aP ps.length cP] 26 (0, 0)) := (hb.block _ (by simp)).trans (at_new rfl)
    exact ⟨(two_cells this).1, (two_cells this).2.1⟩
  have BW : Hid (Below w.heap.size w (w.alloc (.cells #[.slice aW ws.length cW, .slice aP ps.length cP] 26))) := (Below.refl _ _).alloc (Nat.le_refl _) _
  generalize siC ws ps s = sc at *
  generalize siL ws ps s = sl at *
  by_cases c1 : 65536 < s.size
  · obtain ⟨e1, e2⟩ := XL.out c1
    rw [if_pos c1] at EC
    have E2 : Hid (sl = []) := by unfold Hid; rw [EL.out, e2]; split <;> rfl
    rw [e1, e2] at LS
    obtain rfl := EC.out
    obtain rfl := E2.out
    clear EC EL E2 c1 e1 e2
    go_enter Tryz.func80, Tryz.ntmps80
    go_wp2_with fail
    refine (LS.out _).mono ?_
    rintro e w1 ⟨v1, rfl, hr1, hb1⟩
    have B1 := hideIt (below_trans BW.out hb1 BW.out.size)
    have R1 : Hid (RdT w1 v1 []) := hr1.rd
    clear hr1 hb1
    go_wp2
    go_ret2
    exact ⟨_, rfl, R1.out, B1.out⟩
  have q2 : Hid ((spC s != 2) = true) := by unfold Hid; rw [bne_iff_ne]; exact X0.out c1
  rw [if_neg c1] at EC
  clear XL X0 c1
  generalize spC s = cc at *
  generalize spR s = rr at *
  have q3 := q2.out
  cases c3 : imgB ws ps with
  | false =>
    rw [c3] at EC EL LI
    obtain rfl := EC.out
    obtain rfl := EL.out
    clear EC EL c3
    go_enter Tryz.func80, Tryz.ntmps80
    go_wp2_with fail
    refine (LS.out _).mono ?_
    rintro e w1 ⟨v1, rfl, hr1, hb1⟩
    have B1 := hideIt (below_trans BW.out hb1 BW.out.size)
    obtain ⟨x0, x1⟩ := CA.out _ hb1
    clear hr1 hb1
    go_wp2_with fail
    refine (LI.out _ B1.out).mono ?_
    rintro e w2 ⟨rfl, hb2⟩
    have B2 := hideIt (below_trans B1.out hb2 B1.out.size)
    clear hb2 x0 x1
    go_wp2
    go_ret2
    exact ⟨_, rfl, rdt_empty _, B2.out⟩
  | true =>
    rw [c3] at EC EL LI
    obtain rfl : sc = cc := EC.out
    obtain rfl : sl = rr := EL.out
    clear EC EL c3
    go_enter Tryz.func80, Tryz.ntmps80
    go_wp2_with fail
    refine (LS.out _).mono ?_
    rintro e w1 ⟨v1, rfl, hr1, hb1⟩
    have B1 := hideIt (below_trans BW.out hb1 BW.out.size)
    have R1 : Hid (RdT w1 v1 sl) := hr1.rd
    obtain ⟨x0, x1⟩ := CA.out _ hb1
    clear hr1 hb1
    go_wp2_with fail
    refine (LI.out _ B1.out).mono ?_
    rintro e w2 ⟨rfl, hb2⟩
    have B2 := hideIt (below_trans B1.out hb2 B1.out.size)
    have R2 : Hid (RdT w2 v1 sl) := Rd.below R1.out hb2
    clear hb2 x0 x1
    go_wp2
    go_ret2
    exact ⟨_, rfl, R2.out, B2.out⟩

set_option maxRecDepth 100000 in
set_option maxHeartbeats 4000000 in
theorem implLookup_any (v : Value) (ws : List Ino) (ps : List Den) (s : ByteArray) (w : World) (h : RdIm w v ws ps) (hw : ws.length ≤ 1048576) (hp : ps.length ≤ 1048576) (hT : TS w) (hE : ED w) (hF : FD w) (hr : ∀ k (h : k < ws.length), ws[k].R) (hs : ∀ k (h : k < ps.length), ps[k].name.size ≤ maxLen) :
    Calls Tryz.prog 28 #[v, .string s] w fun e w' => e = .returned (.tuple #[.int .i64 (lkR ws ps s).1, .int .i64 (lkR ws ps s).2]) ∧ Below w.heap.size w w' := by
  have HR := hideIt h
  have LS := hideIt (fun w1 (hb : Below w.heap.size w w1) => splitIn_any v ws ps s w1 (h.below hb) hw hp (hT.below hb) (hE.below hb) (hF.below hb) hr hs)
  have LG := hideIt (fun vL w1 h hL hi => goDown_any v vL ws ps (spL s) w1 h hL hi (by have := @spL_len s; omega) spL_short)
  obtain ⟨NO, YES⟩ := si_lk ws ps s
  have NO := hideIt NO
  have YES := hideIt YES
  obtain ⟨vW, vP, rfl, h1, h2⟩ := h
  obtain ⟨aW, cW, rfl, _, _⟩ := h1.shape
  obtain ⟨aP, cP, rfl, _, _⟩ := h2.shape
  clear h1 h2 hr hs hT hE hF
  have CA : Hid (∀ w', Below (w.alloc (.cells #[.slice aW ws.length cW, .slice aP ps.length cP] 26)).heap.size (w.alloc (.cells #[.slice aW ws.length cW, .slice aP ps.length cP] 26)) w' → w'.cell? ⟨w.heap.size, 0, none⟩ = some (.slice aW ws.length cW) ∧ w'.cell? ⟨w.heap.size, 1, none⟩ = some (.slice aP ps.length cP)) := fun w' hb => by
    have : w'.heap[w.heap.size]? = some (.cells #[.slice aW ws.length cW, .slice aP ps.length cP] 26 (0, 0)) := (hb.block _ (by simp)).trans (at_new rfl)
    exact ⟨(two_cells this).1, (two_cells this).2.1⟩
  have BW : Hid (Below w.heap.size w (w.alloc (.cells #[.slice aW ws.length cW, .slice aP ps.length cP] 26))) := (Below.refl _ _).alloc (Nat.le_refl _) _
  obtain ⟨x0, x1⟩ := CA.out _ (Below.refl _ _)
  generalize siC ws ps s = sc at *
  generalize siL ws ps s = sl at *
  generalize lkR ws ps s = res at *
  generalize paR ws ps s = res2 at *
  by_cases c : sc = 0
  · obtain ⟨c1, rfl, rfl, _⟩ := YES.out c
    have C1 := hideIt c1
    subst c
    clear NO YES c1
    generalize wk ws ps 0 (spL s) = r1 at *
    go_enter Tryz.func28, Tryz.ntmps28
    go_wp2_with fail
    refine (LS.out _ BW.out).mono ?_
    rintro e w1 ⟨v1, rfl, hr1, hb1⟩
    have B1 := hideIt (below_trans BW.out hb1 BW.out.size)
    have R1 := hideIt hr1
    clear x0 x1
    obtain ⟨x0, x1⟩ := CA.out _ hb1
    clear hr1 hb1
    go_wp2_with fail
    refine (LG.out _ _ (HR.out.below B1.out) R1.out C1.out).mono ?_
    rintro e w2 ⟨rfl, hb2⟩
    have B2 := hideIt (below_trans B1.out hb2 B1.out.size)
    clear hb2 x0 x1
    go_wp2
    go_ret2
    exact ⟨rfl, B2.out⟩
  · obtain ⟨rfl, _⟩ := NO.out c
    have q : (sc != 0) = true := by rw [bne_iff_ne]; exact c
    clear NO YES c
    go_enter Tryz.func28, Tryz.ntmps28
    go_wp2_with fail
    refine (LS.out _ BW.out).mono ?_
    rintro e w1 ⟨v1, rfl, hr1, hb1⟩
    have B1 := hideIt (below_trans BW.out hb1 BW.out.size)
    clear hr1 hb1 x0 x1
    go_wp2
    go_ret2
    exact ⟨rfl, B1.out⟩
end Go.Proofs.YtlgghookekokaaaGreatDoor

