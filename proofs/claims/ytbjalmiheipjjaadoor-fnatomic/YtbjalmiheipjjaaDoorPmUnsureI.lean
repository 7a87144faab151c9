/- The words with stores that are not sure: by the program. -/
import Derived.Test.YtbjalmiheipjjaaDoorPmUnsure
import Derived.Deep.DeepCutAuto
namespace Go.Proofs.YtbjalmiheipjjaaDoor
open Go.RowKit
def falses : Array Value := (List.replicate 336 (Value.bool false)).toArray
theorem run_falses (w : World) : (zeroValue 111).run Tryd.prog w = .ok (.agg falses) w := by kernel_rfl
theorem falses_size : falses.size = 336 := by unfold falses; rw [List.size_toArray, List.length_replicate]
theorem falses_at (k : Nat) (hk : k < 336) : falses[k]? = some (.bool false) := by unfold falses; rw [List.getElem?_toArray, List.getElem?_replicate, if_pos hk]
theorem run_index_arr (cs : Array Value) (k : Nat) (v : Value) (hk : k < 336) (hv : cs[k]? = some v) (w : World) : (Instr.index 111 (.agg cs) (.int .i64 (k : Int))).run Tryd.prog w = .ok v w := by
  obtain ⟨i, hi, _, hs, _⟩ := info_parts (P := Tryd.prog) (e := 4) (z := .bool false) (size := 1) (bytes := 1) (by kernel_rfl)
  simp [Instr.index, run_underlying Tryd.underlying111, run_underlying Tryd.underlying4, asIntOf, part, sizeOf, typeInfo, isAgg, hi, hs, hv, go_sem]
  omega
theorem hasAt_snoc (ps : List St) (p : St) (k : Nat) (h0 : 0 ≤ p.at_) : hasAt (ps ++ [p]) k = if k = p.at_.toNat then true else hasAt ps k := by
  unfold hasAt
  rw [List.any_append]
  by_cases e : k = p.at_.toNat
  · rw [if_pos e]
    have : (p.at_ == (k : Int)) = true := by rw [e]; simp; omega
    simp [this]
  · rw [if_neg e]
    have : (p.at_ == (k : Int)) = false := by simp; omega
    simp [this]
set_option maxRecDepth 100000 in
set_option maxHeartbeats 4000000 in
theorem implPmUnsure_any (v : Value) (ws : List Int) (ps : List St) (w : World) (h : RdPm w v ws ps) (hw : ws.length ≤ 1048576) (hp : ps.length ≤ 1048576) :
    Calls Tryd.prog 55 #[v] w fun e w' => ∃ v', e = .returned (.tuple #[v', .int .i64 (seenC ws ps)]) ∧ Row w' 3 1 w.heap.size w'.heap.size v' (unsZ ws ps).length (ints (unsZ ws ps)) ∧ Below w.heap.size w w' := by
  have HR := hideIt h
  obtain ⟨vW, vP, rfl, h1, h2⟩ := h
  obtain ⟨aW, cW, rfl, _⟩ := h1.shape
  obtain ⟨aP, cP, rfl, _, hcP⟩ := h2.shape
  have HP := hideIt hcP
  clear h1 h2 hcP
  have hb0 : Below w.heap.size w (w.alloc (.cells #[.slice aW ws.length cW, .slice aP ps.length cP] 31)) := (Below.refl _ _).alloc (Nat.le_refl _) _
  by_cases hc : pmB ws ps = true
  · obtain ⟨e1, e2⟩ := uns_ok hc
    rw [e1, e2]
    clear e1 e2
    have OK := hideIt (pmB_at hc)
    go_enter Tryd.func55, Tryd.ntmps55
    go_wp2_with fail
    refine (implPmOK_any _ ws ps _ (HR.out.below hb0) hw hp).mono ?_
    rintro e w1 ⟨rfl, hb1⟩
    have hz1 : w.heap.size + 1 ≤ w1.heap.size := by have := hb1.size; simp at this; omega
    have V0 := (hb1.block w.heap.size (by simp <;> omega)).trans (at_new rfl)
    obtain ⟨x1, x2, x3, x4⟩ := two_cells V0
    have B1 := hideIt (below_trans hb0 hb1 (by simp <;> omega))
    have VH := hideIt V0
    clear hb0 hb1 V0
    have hal := run_falses
    have START : Hid ((w1.alloc (.cells falses 111)).rowIs w1.heap.size 111 336 (fun k => .bool (hasAt (ps.take 0) k))) := by
      have := World.rowIs_alloc w1 falses 111 (fun k => .bool (hasAt (ps.take 0) k)) (fun k hk => by rw [falses_size] at hk; rw [falses_at k hk]; rfl)
      rw [falses_size] at this
      exact this
    obtain ⟨z1, z2, z3, z4⟩ := two_cells (at_old (o := .cells falses 111) VH.out)
    have BS := hideIt (B1.out.alloc (by omega) (.cells falses 111))
    clear x1 x2 x3 x4
    go_wp2
    clear hal
    go_loopw [6, 16] (fun _ i wr => ∃ m : Nat, m ≤ ps.length ∧ i = .int .i64 m ∧ wr.rowIs w1.heap.size 111 336 (fun k => .bool (hasAt (ps.take m) k)) ∧ Below w.heap.size w wr ∧ w1.heap.size + 1 ≤ wr.heap.size) (fun _ i _ => ps.length - (intOf i).toNat)
    case atStart => exact ⟨0, by omega, rfl, START.out, BS.out, by simp⟩
    case round =>
      obtain ⟨m, hm, rfl, hrow, hb, hz⟩ := hrel
      by_cases hlt : m < ps.length
      · obtain ⟨b, o, rfl, hbl, hcell⟩ := HP.out (by omega)
        obtain ⟨e0, e1, e2⟩ := hcell m hlt
        have d0 := (hb.cell (p := ⟨b, o + m * 3, none⟩) hbl).trans e0
        have d1 := (hb.cell (p := ⟨b, o + m * 3 + 1, none⟩) hbl).trans e1
        have d2 := (hb.cell (p := ⟨b, o + m * 3 + 2, none⟩) hbl).trans e2
        obtain ⟨q0, q1⟩ := OK.out m hlt
        have hrow2 := hrow.alloc (.cells #[.int .i64 ps[m].at_, .int .i64 ps[m].val, .bool ps[m].fl] 97)
        have g0 := hrow2.frozen ps[m].at_.toNat
        have g1 := hrow2.cell (i := ps[m].at_.toNat) (by omega)
        have F := hideIt (hrow2.set ps[m].at_.toNat (.bool true))
        have G := hideIt ((hb.alloc (by omega) (.cells #[.int .i64 ps[m].at_, .int .i64 ps[m].val, .bool ps[m].fl] 97)).setCell (p := ⟨w1.heap.size, ps[m].at_.toNat, none⟩) (by simp only; omega) (.bool true))
        clear hrow hrow2 hcell e0 e1 e2
        go_wp2
        go_roundw
        case rel =>
          refine ⟨m + 1, by omega, by go_num, F.out.congr (fun k hk => ?_), G.out, by simp; omega⟩
          show (if k = ps[m].at_.toNat then Value.bool true else Value.bool (hasAt (ps.take m) k)) = _
          rw [take_snoc ps m hlt, hasAt_snoc _ _ _ q0]
          split <;> rfl
        case measure => simp [intOf]; omega
      · have e : m = ps.length := by omega
        subst e
        rw [List.take_length] at hrow
        obtain ⟨cs, hheap, hcs, hat⟩ := hrow
        have HH := hideIt hheap
        have HA := hideIt hat
        have hsz : (Tryd.prog.info? 111).map (·.size) = some cs.size := by rw [hcs]; kernel_rfl
        have SZ := hideIt hsz
        clear hheap hat hsz hcs
        go_wp2_with (refine wpList_load_row rfl 111 _ rfl w1.heap.size rfl 111 cs (0, 0) _ HH.out Tryd.underlying111 rfl SZ.out ?_)
        go_loopw [7, 8, 9, 25] (fun vL _ _ i wx => ∃ m : Nat, m ≤ 336 ∧ i = .int .i64 m ∧ wx.ownsRow (w1.heap.size + 1) 3 1 vL (unsL ps m).length (ints (unsL ps m)) ∧ Below w.heap.size w wx ∧ w1.heap.size + 1 ≤ wx.heap.size) (fun _ _ _ i _ => 336 - (intOf i).toNat)
        case atStart => exact ⟨0, by omega, rfl, World.ownsRow_nil _ _ _ _, hb, hz⟩
        case round =>
          obtain ⟨m, hm, rfl, hown, hbx, hzx⟩ := hrel
          by_cases hlt : m < 336
          · have hix := run_index_arr cs m (.bool (hasAt ps m)) hlt (HA.out m hlt)
            cases hh : hasAt ps m
            · rw [hh] at hix
              have E := hideIt (unsL_miss hh)
              have O := hideIt hown
              clear hown hh
              go_wp2
              go_roundw
              case rel => exact ⟨m + 1, by omega, by go_num, by rw [E.out]; exact O.out, hbx, hzx⟩
              case measure => simp [intOf]; omega
            · rw [hh] at hix
              have E := hideIt (unsL_hit hh)
              have O2 := hideIt (hown.alloc (.cells #[.int .i64 (m : Int)] 3))
              have HRD := hideIt (rd_int wr (m : Int))
              have hle := unsL_le ps m
              clear hown hh
              go_wp2_with (at_builtin; refine wpList_append_rd _ rfl (.tmp 30) (.tmp 32) 28 rfl (w1.heap.size + 1) 3 (.int .i64 0) 1 8 Tryd.underlying28 info3 rfl (by decide) _ _ _ rfl O2.out _ 1 _ rfl HRD.out (by simp [Value.oneCell']) (by simp [maxLen]; omega) (by omega) (by simp; omega) ?_)
              intro vN wN hownN hgrN
              have hl := fun k hk => (O2.out.lt k hk).1
              have hzN := hgrN.size
              simp only [World.size_alloc] at hzN
              have G : Hid (wN.ownsRow (w1.heap.size + 1) 3 1 vN (unsL ps (m + 1)).length (ints (unsL ps (m + 1))) ∧ Below w.heap.size w wN) := by
                refine ⟨?_, (hbx.alloc (by omega) (.cells #[.int .i64 (m : Int)] 3)).grown hgrN (by simp; omega) (fun k hk => by have := hl k hk; omega)⟩
                rw [E.out, ints_snoc, List.length_append]
                exact hownN
              clear hownN hgrN hl
              go_wp2
              go_roundw
              case rel => exact ⟨m + 1, by omega, by go_num, G.out.1, G.out.2, by omega⟩
              case measure => simp [intOf]; omega
          · have e : m = 336 := by omega
            subst e
            obtain ⟨aL, cL, hvL⟩ := RdI.form (own_block hown).rd rfl
            subst hvL
            have O := hideIt hown
            clear hown
            go_wp2
            go_ret2
            exact ⟨_, rfl, (own_block O.out).wide (by omega) (Nat.le_refl _), hbx⟩
  · have hc' : pmB ws ps = false := by simpa using hc
    clear hc
    obtain ⟨e1, e2⟩ := uns_not hc'
    rw [e1, e2]
    clear e1 e2
    go_enter Tryd.func55, Tryd.ntmps55
    go_wp2_with fail
    refine (implPmOK_any _ ws ps _ (HR.out.below hb0) hw hp).mono ?_
    rintro e w1 ⟨rfl, hb1⟩
    have B1 := hideIt (below_trans hb0 hb1 (by simp <;> omega))
    clear hb0 hb1
    go_wp2
    go_ret2
    exact ⟨_, rfl, Row.nil _ _ _ _ _, B1.out⟩
end Go.Proofs.YtbjalmiheipjjaaDoor
