/- Several texts laid together: TpB, ShI, DgB. -/
import Derived.Test.YtmeiionabonhnaaGreatDoorZAY
import Derived.Test.YtmeiionabonhnaaGreatDoorZBA
import Derived.Test.YtmeiionabonhnaaGreatDoorZAH
import Derived.Deep.DeepCutAuto
import Derived.Test.YtmeiionabonhnaaGreatDoorRows
import Derived.Shelf.Strconv.Itoa3
import Derived.Lib.LaidTab
namespace Go.Proofs.YtmeiionabonhnaaGreatDoor
open Go.RowKit
def Chn (ts : List Den) : Nat → Den → Prop
  | 0, x => upE ts x.dir = none
  | n + 1, x => ∀ y, upE ts x.dir = some y → Chn ts n y
theorem upE_at {ts : List Den} {d : Int} {k : Nat} (hk : k < ts.length) (h : ∀ j (hj : j < ts.length), j < k → ¬ ts[j].child = d) (e : ts[k].child = d) : upE ts d = some ts[k] := by
  unfold upE
  exact List.find?_eq_some_iff_getElem.2 ⟨beq_iff_eq.2 e, k, hk, rfl, fun j hj => by
    have := h j (by omega) hj
    simpa using this⟩
theorem upE_not {ts : List Den} {d : Int} (h : ∀ j (hj : j < ts.length), ¬ ts[j].child = d) : upE ts d = none := by
  unfold upE
  rw [List.find?_eq_none]
  intro x hx e
  obtain ⟨j, hj, rfl⟩ := List.getElem_of_mem hx
  exact h j hj (beq_iff_eq.1 e)
theorem lt_boxT {c : World} {b : Nat} {o : Obj} (h : c.heap[b]? = some o) : b < c.heap.size := (Array.getElem?_eq_some_iff.1 h).1
theorem pt3 {w : World} {b : Nat} {t : TypeId} {x y z : Value} (h : w.heap[b]? = some (.cells #[x, y, z] t (0, 0))) : w.cell? ⟨b, 0, none⟩ = some x ∧ w.cell? ⟨b, 1, none⟩ = some y ∧ w.cell? ⟨b, 2, none⟩ = some z ∧ w.frozen? ⟨b, 0, none⟩ = false ∧ w.frozen? ⟨b, 1, none⟩ = false ∧ w.frozen? ⟨b, 2, none⟩ = false := by
  simp [World.cell?, World.frozen?, h]
theorem pt3_put {w : World} {b : Nat} {t : TypeId} {x y z : Value} (h : w.heap[b]? = some (.cells #[x, y, z] t (0, 0))) (p q r : Value) : (((w.setCell ⟨b, 0, none⟩ p).setCell ⟨b, 1, none⟩ q).setCell ⟨b, 2, none⟩ r).heap[b]? = some (.cells #[p, q, r] t (0, 0)) := by
  simp [World.setCell, Array.getElem?_modify, h]
set_option maxRecDepth 100000 in
set_option maxHeartbeats 8000000 in
theorem pathOf_any (v : Value) (ts : List Den) (x : Den) (n0 : Nat) (w : World) (h : RdD w v ts) (hn : ts.length ≤ 4096) (hs : ∀ y ∈ ts, y.name.size ≤ 40) (hx : x.name.size ≤ 40) (hc : Chn ts n0 x) (hn0 : n0 ≤ 16) :
    Calls Tryz.prog 76 #[v, .agg #[.int .i64 x.dir, .string x.name, .int .i64 x.child]] w fun e w' => e = .returned (.string (pthU ts n0 x ⟨#[]⟩)) ∧ Below w.heap.size w w' := by
  obtain ⟨ao, cap, rfl, -, hcell⟩ := h.shape
  have HP := hideIt hcell
  have HS := hideIt hs
  clear h hcell hs
  obtain ⟨TG, eTG⟩ : ∃ TG, TG = pthU ts n0 x ⟨#[]⟩ := ⟨_, rfl⟩
  have ET := hideIt eTG.symm
  rw [← eTG]
  clear eTG
  obtain ⟨V, hV⟩ : ∃ V, V = w.alloc (.cells #[.int .i64 x.dir, .string x.name, .int .i64 x.child] 140) := ⟨_, rfl⟩
  have BV : Hid (Below w.heap.size w V) := by rw [hV]; exact (Below.refl _ _).alloc (Nat.le_refl _) _
  have XV : Hid (V.heap[w.heap.size]? = some (.cells #[.int .i64 x.dir, .string x.name, .int .i64 x.child] 140 (0, 0))) := by rw [hV]; exact at_new rfl
  have HC := hideIt hc
  clear hc
  go_enter Tryz.func76, Tryz.ntmps76
  go_wp2
  go_step3
  go_wp2
  rw [← hV]
  clear hV
  go_step3
  go_wp2
  go_loopg [5] n0 (fun g p wr => ∃ (y : Den) (acc : ByteArray), p = .string acc ∧ y.name.size ≤ 40 ∧ acc.size + 41 * g ≤ 1000 ∧ Hid (Chn ts g y ∧ pthU ts g y acc = TG) ∧ Hid (Below w.heap.size w wr) ∧ Hid (wr.heap[w.heap.size]? = some (.cells #[.int .i64 y.dir, .string y.name, .int .i64 y.child] 140 (0, 0))))
  case atStart => exact ⟨x, ⟨#[]⟩, rfl, hx, by show 0 + _ ≤ _; omega, ⟨HC.out, ET.out⟩, BV.out, XV.out⟩
  case round =>
    obtain ⟨y, acc, rfl, hy, ha, C, B, X⟩ := hrel
    clear BV XV HC
    obtain ⟨x0, x1, -⟩ := pt3 X.out
    have s1 : (⟨#[47]⟩ : ByteArray).size = 1 := rfl
    have A1 := run_string_add_sum (P := Tryz.prog) wr ⟨#[47]⟩ y.name (by omega)
    have s2 : (⟨#[47]⟩ ++ y.name).size = 1 + y.name.size := ByteArray.size_append
    have A2 := run_string_add_sum (P := Tryz.prog) wr (⟨#[47]⟩ ++ y.name) acc (by omega)
    have s3 : (⟨#[47]⟩ ++ y.name ++ acc).size = 1 + y.name.size + acc.size := by rw [ByteArray.size_append, s2]
    obtain ⟨q, eq⟩ : ∃ q, q = ⟨#[47]⟩ ++ y.name ++ acc := ⟨_, rfl⟩
    rw [← eq] at A2 s3
    have C1 : Hid (upE ts y.dir = none → q = TG) := fun e => by
      rw [eq, ← pthU_none e gk acc]
      exact C.out.2
    have C2 : Hid (∀ z, upE ts y.dir = some z → ∃ g', gk = g' + 1 ∧ Chn ts g' z ∧ pthU ts g' z q = TG) := fun z e => by
      have c := C.out
      cases gk with
      | zero => rw [show upE ts y.dir = none from c.1] at e; cases e
      | succ g' =>
        refine ⟨g', rfl, c.1 z e, ?_⟩
        rw [eq, ← pthU_some e g' acc]
        exact c.2
    generalize (⟨#[47]⟩ ++ y.name : ByteArray) = q0 at *
    clear C eq s1 s2
    go_upto_region 3 with fail
    clear A1 A2 x0 x1
    go_wp2_with fail
    generalize gk = G0 at *
    generalize hVr : wr = V2 at *
    clear hVr
    have zV2 : w.heap.size < V2.heap.size := lt_boxT X.out
    go_loopg [15] ts.length (fun g2 i wq => ∃ k : Nat, k + g2 = ts.length ∧ i = .int .i64 k ∧ Hid (Below w.heap.size w wq) ∧ Hid (wq.heap[w.heap.size]? = some (.cells #[.int .i64 y.dir, .string y.name, .int .i64 y.child] 140 (0, 0))) ∧ Hid (∀ j (h : j < ts.length), j < k → ¬ ts[j].child = y.dir))
    case atStart => exact ⟨0, by omega, rfl, B.out, X.out, fun j h a => absurd a (by omega)⟩
    case round =>
      obtain ⟨k, hk, rfl, B1, X1, N1⟩ := hrel
      clear B X
      have k0 : (0 : Int) ≤ (k : Int) := by omega
      by_cases hlt : k < ts.length
      · obtain ⟨b0, o0, rfl, hbl, hcell⟩ := HP.out (by omega)
        obtain ⟨a0, a1, a2⟩ := hcell k hlt
        have d0 := (B1.out.cell (p := ⟨b0, o0 + k * 3, none⟩) hbl).trans a0
        have d1 := (B1.out.cell (p := ⟨b0, o0 + k * 3 + 1, none⟩) hbl).trans a1
        have d2 := (B1.out.cell (p := ⟨b0, o0 + k * 3 + 2, none⟩) hbl).trans a2
        have k1 : (k : Int) < (ts.length : Int) := by omega
        have HY := hideIt (fun e : ts[k].child = y.dir => upE_at hlt N1.out e)
        have HX := hideIt (fun (e : ¬ ts[k].child = y.dir) j (h : j < ts.length) (a : j < k + 1) => show ¬ ts[j].child = y.dir by
          by_cases q : j = k
          · subst q; exact e
          · exact N1.out j h (by omega))
        have hz := HS.out _ (List.getElem_mem hlt)
        have z1 : w.heap.size < wr.heap.size := lt_boxT X1.out
        clear hcell a0 a1 a2 N1
        generalize ts[k] = u at *
        obtain ⟨w5, hw5⟩ : ∃ w5, w5 = wr.alloc (.cells #[.int .i64 u.dir, .string u.name, .int .i64 u.child] 140) := ⟨_, rfl⟩
        have X5 : Hid (w5.heap[w.heap.size]? = some (.cells #[.int .i64 y.dir, .string y.name, .int .i64 y.child] 140 (0, 0))) := by rw [hw5]; exact at_old X1.out
        have Y5 : Hid (w5.heap[wr.heap.size]? = some (.cells #[.int .i64 u.dir, .string u.name, .int .i64 u.child] 140 (0, 0))) := by rw [hw5]; exact at_new rfl
        have B5 : Hid (Below w.heap.size w w5) := by rw [hw5]; exact B1.out.alloc B1.out.size _
        go_upto_region 6 with fail
        rw [← hw5]
        clear hw5 d0 d1 d2
        obtain ⟨x0, x1, x2, f0, f1, f2⟩ := pt3 X5.out
        obtain ⟨y0, y1, y2, -⟩ := pt3 Y5.out
        by_cases e : u.child = y.dir
        · have e1 : (u.child == y.dir) = true := beq_iff_eq.2 e
          obtain ⟨g', rfl, c1, c2⟩ := C2.out u (HY.out e)
          have C6 := hideIt (And.intro c1 c2)
          have P6 := hideIt (pt3_put X5.out (.int .i64 u.dir) (.string u.name) (.int .i64 u.child))
          have B6 := hideIt (((B5.out.setCell (p := ⟨w.heap.size, 0, none⟩) (Nat.le_refl _) (.int .i64 u.dir)).setCell (p := ⟨w.heap.size, 1, none⟩) (Nat.le_refl _) (.string u.name)).setCell (p := ⟨w.heap.size, 2, none⟩) (Nat.le_refl _) (.int .i64 u.child))
          clear c1 c2 HY HX C1 C2 X1 X5 Y5 B1 B5 e
          go_wp2
          go_roundg g'
          case measure => omega
          case rel => exact ⟨u, q, rfl, hz, by omega, C6.out, B6.out, P6.out⟩
        · have e1 : (u.child == y.dir) = false := by rw [beq_eq_false_iff_ne]; exact e
          have N5 := hideIt (HX.out e)
          clear HY HX X1 B1 Y5 e
          go_wp2
          go_roundg (gk - 1)
          case measure => omega
          case rel => exact ⟨k + 1, by omega, by go_num, B5.out, X5.out, N5.out⟩
      · have e : k = ts.length := by omega
        subst e
        have E := hideIt (C1.out (upE_not (fun j hj => N1.out j hj hj)))
        clear N1 C1 C2
        obtain rfl := E.out
        go_wp2
        try rw [Exit.noGoto_ret]
        go_ret
        exact ⟨rfl, B1.out⟩
end Go.Proofs.YtmeiionabonhnaaGreatDoor

namespace Go.Proofs.YtmeiionabonhnaaGreatDoor
open Go.Shelf Go.RowKit
def laysM171_ren : Go.Shelf.Ren := ⟨fun | 171 => 81 | 243 => 137 | 246 => 200 | 283 => 246 | 284 => 247 | 285 => 248 | 286 => 249 | 129 => 198 | 317 => 279 | 318 => 280 | 319 => 281 | 320 => 282 | 337 => 285 | 338 => 286 | n => n, fun | 3 => 3 | 9 => 9 | 2 => 2 | 4 => 4 | 171 => 296 | 0 => 0 | 53 => 254 | 37 => 83 | 5 => 5 | 173 => 298 | 212 => 328 | 51 => 252 | 20 => 20 | 213 => 329 | 46 => 200 | 232 => 333 | 233 => 334 | n => n, fun | 17 => 5 | 18 => 7 | 19 => 8 | n => n⟩
theorem laysM171 : Go.Proofs.LaysM.n171 Tryz.prog laysM171_ren := {
  mixed := by kernel_rfl
  f129 := Tryz.func198.trans (congrArg some (by kernel_rfl))
  f171 := Tryz.func81.trans (congrArg some (by kernel_rfl))
  f243 := Tryz.func137.trans (congrArg some (by kernel_rfl))
  f246 := Tryz.func200.trans (congrArg some (by kernel_rfl))
  f283 := Tryz.func246.trans (congrArg some (by kernel_rfl))
  f284 := Tryz.func247.trans (congrArg some (by kernel_rfl))
  f285 := Tryz.func248.trans (congrArg some (by kernel_rfl))
  f286 := Tryz.func249.trans (congrArg some (by kernel_rfl))
  f317 := Tryz.func279.trans (congrArg some (by kernel_rfl))
  f318 := Tryz.func280.trans (congrArg some (by kernel_rfl))
  f319 := Tryz.func281.trans (congrArg some (by kernel_rfl))
  f320 := Tryz.func282.trans (congrArg some (by kernel_rfl))
  f337 := Tryz.func285.trans (congrArg some (by kernel_rfl))
  f338 := Tryz.func286.trans (congrArg some (by kernel_rfl))
  t0 := Tryz.underlying0
  a0 := Tryz.isAgg0
  z0 := Tryz.sizeOf0
  v0 := Tryz.zeroValue0
  t2 := Tryz.underlying2
  a2 := Tryz.isAgg2
  z2 := Tryz.sizeOf2
  v2 := Tryz.zeroValue2
  t3 := Tryz.underlying3
  a3 := Tryz.isAgg3
  z3 := Tryz.sizeOf3
  v3 := Tryz.zeroValue3
  t4 := Tryz.underlying4
  a4 := Tryz.isAgg4
  z4 := Tryz.sizeOf4
  v4 := Tryz.zeroValue4
  t5 := Tryz.underlying5
  a5 := Tryz.isAgg5
  z5 := Tryz.sizeOf5
  v5 := Tryz.zeroValue5
  t9 := Tryz.underlying9
  a9 := Tryz.isAgg9
  z9 := Tryz.sizeOf9
  v9 := Tryz.zeroValue9
  t20 := Tryz.underlying20
  a20 := Tryz.isAgg20
  z20 := Tryz.sizeOf20
  v20 := Tryz.zeroValue20
  t37 := Tryz.underlying83
  a37 := Tryz.isAgg83
  z37 := Tryz.sizeOf83
  v37 := Tryz.zeroValue83
  t46 := Tryz.underlying200
  a46 := Tryz.isAgg200
  z46 := Tryz.sizeOf200
  v46 := Tryz.zeroValue200
  t51 := Tryz.underlying252
  a51 := Tryz.isAgg252
  z51 := Tryz.sizeOf252
  v51 := Tryz.zeroValue252
  t53 := Tryz.underlying254
  a53 := Tryz.isAgg254
  z53 := Tryz.sizeOf254
  v53 := Tryz.zeroValue254
  t171 := Tryz.underlying296
  a171 := Tryz.isAgg296
  z171 := Tryz.sizeOf296
  v171 := Tryz.zeroValue296
  t173 := Tryz.underlying298
  a173 := Tryz.isAgg298
  z173 := Tryz.sizeOf298
  v173 := Tryz.zeroValue298
  t212 := Tryz.underlying328
  a212 := Tryz.isAgg328
  z212 := Tryz.sizeOf328
  v212 := Tryz.zeroValue328
  t213 := Tryz.underlying329
  a213 := Tryz.isAgg329
  z213 := Tryz.sizeOf329
  t232 := Tryz.underlying333
  a232 := Tryz.isAgg333
  z232 := Tryz.sizeOf333
  v232 := Tryz.zeroValue333
  t233 := Tryz.underlying334
  a233 := Tryz.isAgg334
  z233 := Tryz.sizeOf334
  v233 := Tryz.zeroValue334
  g17 := by kernel_rfl
  g18 := by kernel_rfl
  g19 := by kernel_rfl
  i0 := by kernel_rfl
  i2 := by kernel_rfl
  i3 := by kernel_rfl
  i4 := by kernel_rfl
  i5 := by kernel_rfl
  i9 := by kernel_rfl
  i20 := by kernel_rfl
  i37 := by kernel_rfl
  i46 := by kernel_rfl
  i51 := by kernel_rfl
  i53 := by kernel_rfl
  i171 := by kernel_rfl
  i173 := by kernel_rfl
  i212 := by kernel_rfl
  i232 := by kernel_rfl
  i233 := by kernel_rfl
  m17 := by kernel_rfl
  m18 := by kernel_rfl
  m19 := by kernel_rfl }
end Go.Proofs.YtmeiionabonhnaaGreatDoor

namespace Go.Proofs.YtmeiionabonhnaaGreatDoor
open Go.RowKit
def PT (w : World) : Prop := ∃ t fr, w.heap[5]? = some (.cells (Lib.pow10Tab.map fun z => Value.int .u64 z).toArray t fr)
theorem PT.below {w w' : World} (h : PT w) (hb : Below w.heap.size w w') : PT w' := by
  obtain ⟨t, fr, e⟩ := h
  exact ⟨t, fr, (hb.block _ (Array.getElem?_eq_some_iff.1 e).1).trans e⟩
theorem g_pow10 : Tryz.prog.globalNamed "internal/strconv.uint64pow10" = some 5 := by kernel_rfl
theorem PT.tab {w : World} (h : PT w) : Lib.TabIs Tryz.prog w "internal/strconv.uint64pow10" .u64 Lib.pow10Tab := by
  obtain ⟨t, fr, e⟩ := h
  unfold Lib.TabIs
  simp only [World.var?, g_pow10, Option.bind_some, e]
theorem itoa_any (n : Int) (w : World) (h0 : -9223372036854775808 ≤ n) (h1 : n ≤ 9223372036854775807) (hp : PT w) :
    Calls Tryz.prog 81 #[.int .i64 n] w fun e w' => e = .returned (.string (itT n)) ∧ Below w.heap.size w w' := by
  refine (Any.strconv_Itoa laysM171 n h0 h1 w hp.tab).mono ?_
  rintro e w' ⟨rfl, k, os, rfl⟩
  exact ⟨rfl, rfl, rfl, rfl, by show w.heap.size ≤ (w.heap ++ os).size; rw [Array.size_append]; omega, fun j hj => by show (w.heap ++ os)[j]? = w.heap[j]?; rw [Array.getElem?_append_left hj]⟩
end Go.Proofs.YtmeiionabonhnaaGreatDoor
