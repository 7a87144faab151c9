/- Several texts laid together: ShS, PeL. -/
import Derived.Test.YtpgdpachomdfhaaDoorRows
import Derived.Shelf.SlSortCmp.WholeK
import Derived.Shelf.SlSortCmp.NoneTotal
import Derived.Test.YtpgdpachomdfhaaDoorZBU
namespace Go.Proofs.YtpgdpachomdfhaaDoor
open Go.Shelf Go.RowKit

def lays6_ren : Go.Shelf.Ren := ⟨fun | 6 => 21 | 15 => 47 | 14 => 46 | 28 => 75 | 29 => 76 | 20 => 67 | 21 => 68 | 22 => 69 | 23 => 70 | 24 => 71 | 25 => 72 | 26 => 73 | 27 => 74 | 46 => 86 | 47 => 87 | 48 => 88 | 49 => 89 | 50 => 90 | 57 => 96 | n => n, fun | 22 => 31 | 24 => 49 | 25 => 51 | 3 => 3 | 39 => 76 | 0 => 0 | 53 => 102 | 55 => 104 | 4 => 4 | 46 => 95 | 45 => 94 | 50 => 99 | 5 => 5 | 9 => 9 | 66 => 111 | 70 => 115 | 76 => 120 | 77 => 106 | n => n, fun | n => n⟩
theorem lays6 : Go.Proofs.SlLaysF0.n6 Tryd.prog lays6_ren := {
  mixed := by kernel_rfl
  f6 := ⟨Tryd.f21.name, by decide, Tryd.func21.trans (congrArg some (by kernel_rfl))⟩
  f14 := ⟨Tryd.f46.name, by decide, Tryd.func46.trans (congrArg some (by kernel_rfl))⟩
  f15 := Tryd.func47.trans (congrArg some (by kernel_rfl))
  f20 := ⟨Tryd.f67.name, by decide, Tryd.func67.trans (congrArg some (by kernel_rfl))⟩
  f21 := ⟨Tryd.f68.name, by decide, Tryd.func68.trans (congrArg some (by kernel_rfl))⟩
  f22 := ⟨Tryd.f69.name, by decide, Tryd.func69.trans (congrArg some (by kernel_rfl))⟩
  f23 := ⟨Tryd.f70.name, by decide, Tryd.func70.trans (congrArg some (by kernel_rfl))⟩
  f24 := ⟨Tryd.f71.name, by decide, Tryd.func71.trans (congrArg some (by kernel_rfl))⟩
  f25 := ⟨Tryd.f72.name, by decide, Tryd.func72.trans (congrArg some (by kernel_rfl))⟩
  f26 := ⟨Tryd.f73.name, by decide, Tryd.func73.trans (congrArg some (by kernel_rfl))⟩
  f27 := ⟨Tryd.f74.name, by decide, Tryd.func74.trans (congrArg some (by kernel_rfl))⟩
  f28 := Tryd.func75.trans (congrArg some (by kernel_rfl))
  f29 := Tryd.func76.trans (congrArg some (by kernel_rfl))
  f46 := ⟨Tryd.f86.name, by decide, Tryd.func86.trans (congrArg some (by kernel_rfl))⟩
  f47 := Tryd.func87.trans (congrArg some (by kernel_rfl))
  f48 := Tryd.func88.trans (congrArg some (by kernel_rfl))
  f49 := ⟨Tryd.f89.name, by decide, Tryd.func89.trans (congrArg some (by kernel_rfl))⟩
  f50 := ⟨Tryd.f90.name, by decide, Tryd.func90.trans (congrArg some (by kernel_rfl))⟩
  f57 := ⟨Tryd.f96.name, by decide, Tryd.func96.trans (congrArg some (by kernel_rfl))⟩
  t0 := Tryd.underlying0
  a0 := Tryd.isAgg0
  z0 := Tryd.sizeOf0
  v0 := Tryd.zeroValue0
  t3 := Tryd.underlying3
  a3 := Tryd.isAgg3
  z3 := Tryd.sizeOf3
  v3 := Tryd.zeroValue3
  t4 := Tryd.underlying4
  a4 := Tryd.isAgg4
  z4 := Tryd.sizeOf4
  v4 := Tryd.zeroValue4
  t5 := Tryd.underlying5
  a5 := Tryd.isAgg5
  z5 := Tryd.sizeOf5
  v5 := Tryd.zeroValue5
  t9 := Tryd.underlying9
  a9 := Tryd.isAgg9
  z9 := Tryd.sizeOf9
  v9 := Tryd.zeroValue9
  t22 := Tryd.underlying31
  a22 := Tryd.isAgg31
  z22 := Tryd.sizeOf31
  v22 := Tryd.zeroValue31
  t25 := Tryd.underlying51
  a25 := Tryd.isAgg51
  z25 := Tryd.sizeOf51
  v25 := Tryd.zeroValue51
  t39 := Tryd.underlying76
  a39 := Tryd.isAgg76
  z39 := Tryd.sizeOf76
  v39 := Tryd.zeroValue76
  t45 := Tryd.underlying94
  a45 := Tryd.isAgg94
  z45 := Tryd.sizeOf94
  v45 := Tryd.zeroValue94
  t46 := Tryd.underlying95
  a46 := Tryd.isAgg95
  z46 := Tryd.sizeOf95
  v46 := Tryd.zeroValue95
  t50 := Tryd.underlying99
  a50 := Tryd.isAgg99
  z50 := Tryd.sizeOf99
  v50 := Tryd.zeroValue99
  t53 := Tryd.underlying102
  a53 := Tryd.isAgg102
  z53 := Tryd.sizeOf102
  v53 := Tryd.zeroValue102
  t55 := Tryd.underlying104
  a55 := Tryd.isAgg104
  z55 := Tryd.sizeOf104
  v55 := Tryd.zeroValue104
  t66 := Tryd.underlying111
  a66 := Tryd.isAgg111
  z66 := Tryd.sizeOf111
  v66 := Tryd.zeroValue111
  t70 := Tryd.underlying115
  a70 := Tryd.isAgg115
  z70 := Tryd.sizeOf115
  v70 := Tryd.zeroValue115
  t76 := Tryd.underlying120
  a76 := Tryd.isAgg120
  z76 := Tryd.sizeOf120
  v76 := Tryd.zeroValue120
  t77 := Tryd.underlying106
  a77 := Tryd.isAgg106
  z77 := Tryd.sizeOf106
  v77 := Tryd.zeroValue106 }
end Go.Proofs.YtpgdpachomdfhaaDoor

namespace Go.Proofs.YtpgdpachomdfhaaDoor
open Go.RowKit Go.Sort

/-- A row that is laid anew, cell by cell. -/
theorem put_row {w : World} {e : TypeId} {size lo hi b n c : Nat} {xs ys : List Value} (h : Row w e size lo hi (.slice (some ⟨b, 0, none⟩) n c) n xs) (hy : ys.length = n * size) (m : Nat) (os : Array Obj) (w' : World)
    (e' : w' = grow (putRow id (Sort.ahead w m) b 0 ys.toArray) os) : Row w' e size lo hi (.slice (some ⟨b, 0, none⟩) n c) n ys ∧ w.grownBy w' (some b) := by
  obtain ⟨h1, h2⟩ := h
  obtain ⟨hx, h1 | ⟨g, cap, cur, e1, hb, hg, hnc, hcm, hcs, htake⟩⟩ := h1
  · cases h1.1
  cases e1
  have hbl : b < w.heap.size := (Array.getElem?_eq_some_iff.1 hg).1
  have hg' : w'.heap[b]? = some (.cells (putCells id 0 ys.toArray cur) e (0, 0)) := by
    rw [e', heap_grow_old _ _ (by rw [size_putRow]; exact hbl)]
    unfold putRow mapBlock
    show (w.heap.modify b _)[b]? = _
    rw [Array.getElem?_modify, if_pos rfl, hg]
    rfl
  have hcap : n * size ≤ c * size := Nat.mul_le_mul_right _ hnc
  refine ⟨⟨⟨hy, .inr ⟨b, c, putCells id 0 ys.toArray cur, rfl, hb, hg', hnc, hcm, by unfold putCells; rw [Array.size_mapIdx]; exact hcs, ?_⟩⟩, h2⟩, ?_⟩
  · apply List.ext_getElem?
    intro i
    rw [List.getElem?_take, Array.getElem?_toList]
    unfold putCells
    rw [Array.getElem?_mapIdx]
    by_cases hi : i < n * size
    · rw [if_pos hi, Array.getElem?_eq_getElem (show i < cur.size by omega), List.getElem?_eq_getElem (show i < ys.length by omega)]
      simp only [Option.map_some]
      rw [if_pos ⟨Nat.zero_le _, by simp; omega⟩, Nat.sub_zero, getElem!_pos _ i (by simp; omega)]
      simp
    · rw [if_neg hi, List.getElem?_eq_none (by omega)]
  · refine ⟨by rw [e']; rfl, by rw [e']; rfl, by rw [e']; rfl, by rw [e', size_grow, size_putRow]; exact Nat.le_add_right _ _, fun k hk hne => ?_⟩
    rw [e', heap_grow_old _ _ (by rw [size_putRow]; exact hk)]
    unfold putRow mapBlock
    show (w.heap.modify b _)[k]? = _
    rw [Array.getElem?_modify, if_neg (fun x => hne (by rw [x]))]
theorem flat_dens [Inhabited Den] (ts : List Den) : flatK encDen 3 ts.toArray = (dens ts).toArray := by
  apply ext_get!
  · simp [dens_len]
  · intro t ht
    rw [size_flatK] at ht
    have ht' : t < ts.length * 3 := by simpa using ht
    rw [get_flatK _ _ _ _ ht]
    have hk : t / 3 < ts.length := by omega
    have hm : t % 3 < 3 := Nat.mod_lt _ (by omega)
    have e := flatMap_at Den.cells 3 (fun _ => rfl) ts (t / 3) (t % 3) hk hm
    rw [show t / 3 * 3 + t % 3 = t by omega] at e
    have e2 : (dens ts)[t]? = (ts[t / 3].cells)[t % 3]? := e
    rw [getElem!_pos ts.toArray (t / 3) (by simpa using hk)]
    have hl : t < (dens ts).length := by rw [dens_len]; omega
    rw [getElem!_pos (dens ts).toArray t (by simpa using hl)]
    have l3 : (encDen ts[t / 3]).length = 3 := rfl
    rw [List.getElem?_eq_getElem hl, List.getElem?_eq_getElem (show t % 3 < (ts[t / 3].cells).length from hm)] at e2
    have e3 := Option.some.inj e2
    simp only [List.getElem_toArray]
    rw [e3, getElem!_pos (encDen ts[t / 3]) (t % 3) (by rw [l3]; exact hm)]
    rfl
theorem dens_hold [Inhabited Den] {w : World} {lo hi b n c : Nat} {ts : List Den} (h : Row w 49 3 lo hi (.slice (some ⟨b, 0, none⟩) n c) n (dens ts)) : HoldsK encDen 3 w b 0 ts.toArray := by
  obtain ⟨_, _, _, _, hf, hc⟩ := h.at
  have hl := h.len
  unfold HoldsK
  rw [flat_dens]
  intro j hj
  have hj' : j < (dens ts).length := by simpa using hj
  rw [Nat.zero_add]
  refine ⟨?_, hf j⟩
  rw [hc j (by omega), List.getElem?_eq_getElem hj', getElem!_pos _ j hj]
  rfl
theorem cmpLaysDen [Inhabited Den] (blk off size : Nat) (w : World) : CmpLays Tryd.prog 22 #[] encDen 3 cmpDen blk off size w :=
  fun _ _ _ _ x y => closureCmp x y _
theorem sortDen_of [Inhabited Den] : SortDen := by
  intro v ts lo hi w h hz hn
  rcases h.shape with ⟨rfl, e0, _⟩ | ⟨b, c, rfl, hc, _⟩
  · have hs : ts = [] := List.eq_nil_of_length_eq_zero e0
    subst hs
    refine (AnyF.slices_SortFunc_none lays6 none 0 _ w).mono ?_
    rintro e w' ⟨rfl, rfl⟩
    exact ⟨rfl, [], List.Perm.refl _, List.Pairwise.nil, h, Outside.refl _ _ _⟩
  · have hh := dens_hold h
    have eg : ∀ args w, (callFunc 22 args).run Tryd.prog w = .ok (.enter 22 args) w := enters_of Tryd.func22 (by kernel_rfl) rfl
    have hcon := AnyQ.slices_SortFunc lays6 3 Tryd.isAgg49 Tryd.sizeOf49 encDen (fun _ => rfl) (fun x v hv => by simp [encDen] at hv; rcases hv with rfl | rfl | rfl <;> rfl) cmpDen swoDen 22 #[] b 0 c ts.toArray w eg (cmpLaysDen b 0 _ w) hh h.at.2.2.2.1 (by simp; omega)
    rw [show ts.toArray.size = ts.length by simp] at hcon
    refine hcon.mono ?_
    rintro e w' ⟨rfl, d', m, os, hp, hsd, hw'⟩
    obtain ⟨p1, -, p3⟩ := hp
    have p1' : d'.size = ts.length := by simpa using p1
    have perm : d'.toList.Perm ts := by
      have e1 : d'.extract 0 ts.length = d' := by rw [← p1']; simp
      have e2 : ts.toArray.extract 0 ts.length = ts.toArray := by simp
      rw [e1, e2] at p3
      simpa using p3
    have el : d'.toList.length = ts.length := by simpa using p1'
    have fl : flatK encDen 3 d' = (dens d'.toList).toArray := by rw [← flat_dens]
    have hr := put_row h (ys := dens d'.toList) (by rw [dens_len, el]) m os w' (by rw [hw']; unfold sortWorldK putRowK; rw [fl])
    refine ⟨rfl, d'.toList, perm, ?_, by rw [el]; exact hr.1, h.grown_outside hr.2⟩
    rw [List.pairwise_iff_getElem]
    intro i j hi hj hij
    have s := hsd i j (Nat.zero_le _) hij (by omega)
    rw [getElem!_pos d' i (by simpa using hi), getElem!_pos d' j (by simpa using hj)] at s
    have s2 := of_decide_eq_false s
    unfold cmpDen at s2
    rw [compare_lt, List.not_lt] at s2
    rw [ByteArray.toList_eq, ByteArray.toList_eq]
    simpa using s2
theorem sortDen_holds : SortDen := @sortDen_of ⟨⟨0, ⟨#[]⟩, 0⟩⟩
end Go.Proofs.YtpgdpachomdfhaaDoor
