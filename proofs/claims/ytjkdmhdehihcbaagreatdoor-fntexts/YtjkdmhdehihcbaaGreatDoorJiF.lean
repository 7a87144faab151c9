/- Plans of flushes: by the program, which marks the lines that it has flushed. -/
import Derived.Test.YtjkdmhdehihcbaaGreatDoorZBK
import Derived.Test.YtjkdmhdehihcbaaGreatDoorZAS
namespace Go.Proofs.YtjkdmhdehihcbaaGreatDoor
open Go.RowKit
theorem placesB_allP (zs : List Int) : placesB zs = allP zs := by
  unfold placesB allP
  rw [decide_eq_decide]
  exact ⟨fun h k hk => placeB_true (h k hk), fun h k hk => decide_eq_true (h k hk)⟩
def fals42 : Array Value := (List.replicate 42 (Value.bool false)).toArray
theorem run_fals42 (w : World) : (zeroValue 191).run Tryz.prog w = .ok (.agg fals42) w := by kernel_rfl
theorem fals42_size : fals42.size = 42 := by unfold fals42; rw [List.size_toArray, List.length_replicate]
theorem fals42_at (k : Nat) (hk : k < 42) : fals42[k]? = some (.bool false) := by unfold fals42; rw [List.getElem?_toArray, List.getElem?_replicate, if_pos hk]
def lineB (zs : List Int) (m j : Nat) : Bool := (List.range m).any (fun i => zs[i]?.getD 0 / 8 == (j : Int))
theorem lineB_succ (zs : List Int) (m j : Nat) : lineB zs (m + 1) j = (lineB zs m j || (zs[m]?.getD 0 / 8 == (j : Int))) := by
  unfold lineB
  rw [List.range_succ, List.any_append]
  simp
theorem lineB_known (zs : List Int) (m : Nat) (hm : m < zs.length) (h0 : 0 ≤ zs[m]) : lineB zs m (zs[m] / 8).toNat = knownL zs m := by
  have e : (((zs[m] / 8).toNat : Nat) : Int) = zs[m] / 8 := by omega
  unfold lineB knownL
  rw [e, List.getElem?_eq_getElem hm]
  rfl
set_option maxRecDepth 100000 in
set_option maxHeartbeats 4000000 in
theorem implFlushPlan_any (v : Value) (zs : List Int) (w : World) (h : RdI w v zs) (hn : zs.length ≤ 1048576) :
    Calls Tryz.prog 110 #[v] w fun e w' => ∃ v', e = .returned (.tuple #[v', .int .i64 (flC zs)]) ∧ Row w' 41 3 w.heap.size w'.heap.size v' (fpL zs).length (mis (fpL zs)) ∧ Below w.heap.size w w' := by
  have HR := hideIt h
  obtain ⟨aZ, cZ, rfl, _, hcZ⟩ := h.shape
  have HZ := hideIt hcZ
  clear h hcZ
  rcases fp_cases zs with ⟨c1, e1, e2⟩ | ⟨c1, c2, e1, e2⟩ | ⟨c1, c2, c3, e1, e2⟩ | ⟨c1, c2, c3, e1, e2⟩
  · rw [e1, e2]
    clear e1 e2
    go_enter Tryz.func110, Tryz.ntmps110
    go_wp2
    go_ret2
    exact ⟨_, rfl, Row.nil _ _ _ _ _, Below.refl _ _⟩
  · rw [e1, e2]
    clear e1 e2
    go_enter Tryz.func110, Tryz.ntmps110
    go_wp2
    go_ret2
    exact ⟨_, rfl, Row.nil _ _ _ _ _, Below.refl _ _⟩
  · rw [e1, e2]
    have C3 := hideIt ((placesB_allP zs).trans c3)
    clear c3 e1 e2
    go_enter Tryz.func110, Tryz.ntmps110
    go_wp2_with (go_at_call 145; refine (everyPlace_any _ zs _ HR.out (by omega)).mono ?_; rw [C3.out]; rintro e w' ⟨rfl, hw'⟩; subst w')
    go_ret2
    exact ⟨_, rfl, Row.nil _ _ _ _ _, Below.refl _ _⟩
  · rw [e1, e2]
    have C3 := hideIt ((placesB_allP zs).trans c3)
    have Z0 := hideIt (of_decide_eq_true c3 : ∀ k (h : k < zs.length), 0 ≤ zs[k] ∧ zs[k] < 336)
    clear c3 e1 e2
    have hal := run_fals42
    have START : Hid ((w.alloc (.cells fals42 191)).rowIs w.heap.size 191 42 (fun k => .bool (lineB zs 0 k))) := by
      have := World.rowIs_alloc w fals42 191 (fun k => .bool (lineB zs 0 k)) (fun k hk => by rw [fals42_size] at hk; rw [fals42_at k hk]; rfl)
      rw [fals42_size] at this
      exact this
    have BS := hideIt ((Below.refl w.heap.size w).alloc (Nat.le_refl _) (.cells fals42 191))
    go_enter Tryz.func110, Tryz.ntmps110
    go_wp2_with (go_at_call 145; refine (everyPlace_any _ zs _ HR.out (by omega)).mono ?_; rw [C3.out]; rintro e w' ⟨rfl, hw'⟩; subst w')
    clear hal
    go_loopw [5, 7, 8, 20] (fun vL _ _ i wr => ∃ m : Nat, m ≤ zs.length ∧ i = .int .i64 m ∧ Hid (wr.ownsRow (w.heap.size + 1) 41 3 vL (nl zs m).length (mis (nl zs m)) ∧ Below w.heap.size w wr ∧ wr.rowIs w.heap.size 191 42 (fun k => .bool (lineB zs m k))) ∧ w.heap.size + 1 ≤ wr.heap.size) (fun _ _ _ i _ => zs.length - (intOf i).toNat)
    case atStart => exact ⟨0, by omega, rfl, ⟨World.ownsRow_nil _ _ _ _, BS.out, START.out⟩, by simp⟩
    case round =>
      obtain ⟨m, hm, rfl, I, hz⟩ := hrel
      by_cases hlt : m < zs.length
      · obtain ⟨b, o, rfl, hbl, hcell⟩ := HZ.out (by omega)
        have d0 := (I.out.2.1.cell (p := ⟨b, o + m, none⟩) hbl).trans (hcell m hlt)
        have p0 := Z0.out m hlt
        have KN := hideIt (lineB_known zs m hlt p0.1)
        have SU := hideIt (fun j => (lineB_succ zs m j).trans (by rw [List.getElem?_eq_getElem hlt]; rfl) : ∀ j, lineB zs (m + 1) j = (lineB zs m j || (zs[m] / 8 == (j : Int))))
        have NX := hideIt (show nl zs (m + 1) = if knownL zs m = true then nl zs m else nl zs m ++ [⟨2, zs[m], 0⟩] by rw [nl, List.getElem?_eq_getElem hlt]; rfl)
        have g0 := I.out.2.2.frozen (zs[m] / 8).toNat
        have g1 := I.out.2.2.cell (i := (zs[m] / 8).toNat) (by omega)
        have m0 : (0 : Int) ≤ (m : Int) := by omega
        have m1 : (m : Int) < (zs.length : Int) := by omega
        clear hcell
        generalize zs[m] = y at *
        obtain ⟨y0, y1⟩ := p0
        have t0 : 0 ≤ y / 8 := by omega
        have t1 : y / 8 < 42 := by omega
        have yt : Hid (((y / 8).toNat : Int) = y / 8) := by show (((y / 8).toNat : Nat) : Int) = y / 8; omega
        cases hk : knownL zs m
        · rw [KN.out, hk] at g1
          have E := hideIt (NX.out.trans (by rw [hk]; rfl) : nl zs (m + 1) = nl zs m ++ [⟨2, y, 0⟩])
          have F := hideIt (I.out.2.2.set (y / 8).toNat (.bool true))
          have B2 := hideIt (I.out.2.1.setCell (p := ⟨w.heap.size, (y / 8).toNat, none⟩) (Nat.le_refl _) (.bool true))
          have O1 : (wr.setCell ⟨w.heap.size, (y / 8).toNat, none⟩ (.bool true)).ownsRow (w.heap.size + 1) 41 3 u5 (nl zs m).length (mis (nl zs m)) := ownsRow_setCell_below I.out.1 (by simp only; omega) _
          have hle := nl_le zs m
          have FR := hideIt (fun k (_ : k < 42) => show (if k = (y / 8).toNat then Value.bool true else Value.bool (lineB zs m k)) = Value.bool (lineB zs (m + 1) k) by
            rw [SU.out]
            by_cases e : k = (y / 8).toNat
            · rw [if_pos e, e, yt.out]; simp
            · rw [if_neg e]
              have : (y / 8 == (k : Int)) = false := by rw [beq_eq_false_iff_ne]; omega
              rw [this, Bool.or_false])
          obtain ⟨wb, hwb⟩ : ∃ wb : World, wb = wr.setCell ⟨w.heap.size, (y / 8).toNat, none⟩ (.bool true) := ⟨_, rfl⟩
          have hzb : wb.heap.size = wr.heap.size := by rw [hwb]; simp [World.setCell]
          have O2 : Hid ((wb.alloc (.cells #[.int .i64 2, .int .i64 y, .int .i64 0] 41)).ownsRow (w.heap.size + 1) 41 3 u5 (nl zs m).length (mis (nl zs m))) := by rw [hwb]; exact O1.alloc _
          have HRD : Hid (Rd (wb.alloc (.cells #[.int .i64 2, .int .i64 y, .int .i64 0] 41)) 3 (.slice (some ⟨wr.heap.size, 0, none⟩) 1 1) 1 (Mi.cells ⟨2, y, 0⟩)) := by rw [← hzb]; exact rd_mic wb 2 y 0
          have BB : Hid (Below w.heap.size w wb) := by rw [hwb]; exact B2.out
          have FF : Hid (wb.rowIs w.heap.size 191 42 (fun k => .bool (lineB zs (m + 1) k))) := by rw [hwb]; exact F.out.congr FR.out
          clear hk O1 B2 F FR
          go_wp2_with (at_builtin; rw [← hwb]; refine wpList_append_rd _ rfl (.tmp 32) (.tmp 35) 30 rfl (w.heap.size + 1) 41 (.agg #[.int .i64 0, .int .i64 0, .int .i64 0]) 3 24 Tryz.underlying30 infoMic rfl (by decide) _ _ _ rfl O2.out _ 1 _ rfl HRD.out (mic_one _) (by simp [maxLen]; omega) (by omega) (by simp; omega) ?_)
          intro vN wN hownN hgrN
          rw [← hwb] at hgrN
          have hl := fun q hq => (O2.out.lt q hq).1
          have hzN := hgrN.size
          simp only [World.size_alloc] at hzN
          have G : Hid (wN.ownsRow (w.heap.size + 1) 41 3 vN (nl zs (m + 1)).length (mis (nl zs (m + 1))) ∧ Below w.heap.size w wN ∧ wN.rowIs w.heap.size 191 42 (fun k => .bool (lineB zs (m + 1) k))) := by
            refine ⟨?_, (BB.out.alloc (by omega) (.cells #[.int .i64 2, .int .i64 y, .int .i64 0] 41)).grown hgrN (by simp; omega) (fun q hq => by have := hl q hq; omega), ?_⟩
            · rw [E.out, mis_snoc, List.length_append]
              exact hownN
            · obtain ⟨cs, hh, h1, h2⟩ := FF.out.alloc (.cells #[.int .i64 2, .int .i64 y, .int .i64 0] 41)
              exact ⟨cs, (hgrN.block w.heap.size (by simp; omega) (fun e => by have := hl _ e.symm; omega)).trans hh, h1, h2⟩
          clear hownN hgrN hl
          go_wp2
          go_roundw
          case rel => exact ⟨m + 1, by omega, by go_num, G, by omega⟩
          case measure => simp [intOf]; omega
        · rw [KN.out, hk] at g1
          have E := hideIt (NX.out.trans (by rw [hk]; rfl) : nl zs (m + 1) = nl zs m)
          have HK := hideIt hk
          clear hk
          go_wp2
          go_roundw
          case rel =>
            refine ⟨m + 1, by omega, by go_num, ⟨by rw [E.out]; exact I.out.1, I.out.2.1, I.out.2.2.congr (fun k hk => ?_)⟩, hz⟩
            show Value.bool (lineB zs m k) = Value.bool (lineB zs (m + 1) k)
            rw [SU.out]
            by_cases e : y / 8 = (k : Int)
            · have : lineB zs m k = true := by rw [show k = (y / 8).toNat by omega, KN.out]; exact HK.out
              rw [this]; rfl
            · rw [show (y / 8 == (k : Int)) = false by rw [beq_eq_false_iff_ne]; exact e, Bool.or_false]
          case measure => simp [intOf]; omega
      · obtain rfl : m = zs.length := by omega
        have E := hideIt (show flushL zs = nl zs zs.length ++ [⟨3, 0, 0⟩] from rfl)
        have O2 := hideIt (I.out.1.alloc (.cells #[.int .i64 3, .int .i64 0, .int .i64 0] 41))
        have HRD := hideIt (rd_mic wr 3 0 0)
        have hle := nl_le zs zs.length
        go_wp2_with (at_builtin; refine wpList_append_rd _ rfl (.tmp 38) (.tmp 40) 30 rfl (w.heap.size + 1) 41 (.agg #[.int .i64 0, .int .i64 0, .int .i64 0]) 3 24 Tryz.underlying30 infoMic rfl (by decide) _ _ _ rfl O2.out _ 1 _ rfl HRD.out (mic_one _) (by simp [maxLen]; omega) (by omega) (by simp; omega) ?_)
        intro vN wN hownN hgrN
        have hl := fun q hq => (O2.out.lt q hq).1
        have G : Hid (wN.ownsRow (w.heap.size + 1) 41 3 vN (flushL zs).length (mis (flushL zs)) ∧ Below w.heap.size w wN) := by
          refine ⟨?_, (I.out.2.1.alloc (by omega) (.cells #[.int .i64 3, .int .i64 0, .int .i64 0] 41)).grown hgrN (by simp; omega) (fun q hq => by have := hl q hq; omega)⟩
          rw [E.out, mis_snoc, List.length_append]
          exact hownN
        clear hownN hgrN hl
        obtain ⟨aL, cL, hvL⟩ := RdM.form (own_block G.out.1).rd rfl
        subst hvL
        go_wp2
        go_ret2
        exact ⟨_, rfl, (own_block G.out.1).wide (by omega) (Nat.le_refl _), G.out.2⟩
end Go.Proofs.YtjkdmhdehihcbaaGreatDoor
