/- The sectors with writes that are not sure: by the program. -/
import Derived.Test.YtbjcoeimcdodjaaDoorBlkUns
import Derived.Test.YtbjcoeimcdodjaaDoorLastW
import Derived.Deep.RegionWith
namespace Go.Proofs.YtbjcoeimcdodjaaDoor
open Go.RowKit
theorem lwFold_keeps (a : Int) : ∀ (ps : List Se) (s : Se) (mo : Int), s.at_ = a → (ps.foldl (lwStep a) (s, mo)).1.at_ = a
  | [], _, _, h => h
  | p :: ps, s, mo, h => by
    rw [List.foldl_cons]
    by_cases c : p.at_ = a ∧ 0 < mo
    · rw [show lwStep a (s, mo) p = (p, mo - 1) from if_pos c]
      exact lwFold_keeps a ps p (mo - 1) c.1
    · rw [show lwStep a (s, mo) p = (s, mo) from if_neg c]
      exact lwFold_keeps a ps s mo h
theorem lwFold_pos (a : Int) : ∀ (ps : List Se) (s : Se) (mo : Int), 0 < mo → ((∀ p ∈ ps, ¬ p.at_ = a) ∧ ps.foldl (lwStep a) (s, mo) = (s, mo)) ∨ (ps.foldl (lwStep a) (s, mo)).1.at_ = a
  | [], _, _, _ => .inl ⟨by simp, rfl⟩
  | p :: ps, s, mo, h => by
    rw [List.foldl_cons]
    by_cases c : p.at_ = a
    · rw [show lwStep a (s, mo) p = (p, mo - 1) from if_pos ⟨c, h⟩]
      exact .inr (lwFold_keeps a ps p (mo - 1) c)
    · rw [show lwStep a (s, mo) p = (s, mo) from if_neg (fun x => c x.1)]
      rcases lwFold_pos a ps s mo h with ⟨h1, h2⟩ | h1
      · refine .inl ⟨fun q hq => ?_, h2⟩
        rcases List.mem_cons.1 hq with rfl | hq
        · exact c
        · exact h1 q hq
      · exact .inr h1
theorem lastM_hit {ps : List Se} {m : Nat} {mo : Int} (h0 : 0 < mo) (h : hasE ps m = true) : (lastM (m : Int) mo ps).at_ = (m : Int) := by
  rcases lwFold_pos (m : Int) ps ⟨-1, 0⟩ mo h0 with ⟨h1, _⟩ | h1
  · unfold hasE at h
    rw [List.any_eq_true] at h
    obtain ⟨p, hp, e⟩ := h
    exact absurd (by simpa using e) (h1 p hp)
  · exact h1
theorem lastM_none {ps : List Se} {m : Nat} {mo : Int} (h : hasE ps m = false) : lastM (m : Int) mo ps = ⟨-1, 0⟩ := by
  have hn : ∀ p ∈ ps, ¬ p.at_ = (m : Int) := by
    unfold hasE at h
    rw [List.any_eq_false] at h
    intro p hp
    simpa using h p hp
  unfold lastM lwR
  clear h
  generalize (⟨-1, 0⟩ : Se) = s
  induction ps with
  | nil => rfl
  | cons p ps ih =>
    rw [List.foldl_cons, show lwStep (m : Int) (s, mo) p = (s, mo) from if_neg (fun x => hn p (by simp) x.1)]
    exact ih (fun q hq => hn q (by simp [hq]))
set_option maxRecDepth 100000 in
set_option maxHeartbeats 4000000 in
theorem implBlkUnsure_any (v : Value) (ws : List Int) (ps : List Se) (w : World) (h : RdBlk w v ws ps) (hG : NW w) (hw : ws.length ≤ 1048576) (hp : ps.length ≤ 1048576) :
    Calls Tryd.prog 14 #[v] w fun e w' => ∃ v', e = .returned (.tuple #[v', .int .i64 (barC ws ps)]) ∧ Row w' 3 1 w.heap.size w'.heap.size v' (unsZE ws ps).length (ints (unsZE ws ps)) ∧ Below w.heap.size w w' := by
  have HR := hideIt h
  have HG := hideIt hG
  obtain ⟨vW, vP, rfl, h1, h2⟩ := h
  have H2 := hideIt h2
  obtain ⟨aW, cW, rfl, _⟩ := h1.shape
  obtain ⟨aP, cP, rfl, _⟩ := h2.shape
  clear h1 h2 hG
  have hb0 : Below w.heap.size w (w.alloc (.cells #[.slice aW ws.length cW, .slice aP ps.length cP] 26)) := (Below.refl _ _).alloc (Nat.le_refl _) _
  by_cases hc : blkB ws ps = true
  · obtain ⟨e1, e2⟩ := unsE_ok hc
    rw [e1, e2]
    have C := hideIt hc
    clear e1 e2 hc
    go_enter Tryd.func14, Tryd.ntmps14
    go_wp2_with fail
    refine (implBlkOK_any _ ws ps _ (HR.out.below hb0) hw hp).mono ?_
    rw [C.out]
    rintro e w1 ⟨rfl, hb1⟩
    have hz1 : w.heap.size + 1 ≤ w1.heap.size := by have := hb1.size; simp at this; omega
    have V0 := hideIt ((hb1.block w.heap.size (by simp <;> omega)).trans (at_new rfl))
    have B1 := hideIt (below_trans hb0 hb1 (by simp <;> omega))
    clear hb0 hb1
    go_wp2
    go_loopw [4, 5, 9] (fun vL _ i wr => ∃ m : Nat, m ≤ 32 ∧ i = .int .i64 m ∧ Hid (wr.ownsRow w1.heap.size 3 1 vL (unsLE ps m).length (ints (unsLE ps m)) ∧ wr.heap[w.heap.size]? = some (.cells #[.slice aW ws.length cW, .slice aP ps.length cP] 26 (0, 0)) ∧ Below w.heap.size w wr) ∧ w1.heap.size ≤ wr.heap.size) (fun _ _ i _ => 32 - (intOf i).toNat)
    case atStart => exact ⟨0, by omega, rfl, ⟨by simpa [unsLE, unsNE, ints] using World.ownsRow_nil w1 w1.heap.size 3 1, V0.out, B1.out⟩, Nat.le_refl _⟩
    case round =>
      obtain ⟨m, hm, rfl, I, hz⟩ := hrel
      by_cases hlt : m < 32
      · obtain ⟨y1, y2, y3, y4⟩ := two_cells I.out.2.1
        obtain ⟨g0, g1⟩ := (HG.out.below I.out.2.2).cells
        have hle := unsLE_le ps m
        by_cases hh : hasE ps m = true
        · have E := hideIt (unsLE_hit hh)
          have LH := hideIt (lastM_hit (mo := 1) (by decide) hh)
          have mn : ((m : Int) == -1) = false := by first | (simp; done) | (simp; omega)
          clear hh
          go_wp2_with fail
          go_region_with (go_at_call 33; refine (lastWrite_any _ ps _ _ _ (by first | exact Rd.below H2.out I.out.2.2.drew | exact Rd.below H2.out I.out.2.2) (by first | exact HG.out.below I.out.2.2.drew | exact HG.out.below I.out.2.2) hp (by omega) (by omega)).mono ?_; rw [LH.out]; rintro e wa ⟨rfl, hba⟩; have BA : Hid (Below wr.heap.size wr wa) := (by first | exact below_trans ((Below.refl _ _).drew) hba (Nat.le_refl _) | exact hba); obtain ⟨k0, k1⟩ := ((HG.out.below I.out.2.2).below BA.out).cells; generalize (lastM (m : Int) 1 ps).val = yy at *; clear hba)
          all_goals
            have hza := BA.out.size
            have O1 := ((own_block I.out.1).below BA.out (Nat.le_refl _)).wide (Nat.le_refl _) hza
            have O2 := hideIt (O1.1.alloc (.cells #[.int .i64 (m : Int)] 3))
            have V2 := hideIt ((BA.out.block w.heap.size (by omega)).trans I.out.2.1)
            have B2 := hideIt (below_trans I.out.2.2 BA.out (by omega))
            have HRD := hideIt (rd_int wa (m : Int))
            have HRE := hideIt (rd_int wa.drew (m : Int))
            have O3 : Hid ((wa.drew.alloc (.cells #[.int .i64 (m : Int)] 3)).ownsRow w1.heap.size 3 1 _ _ _) := (((O1.same (fun _ _ _ => rfl) : Row wa.drew _ _ _ _ _ _ _)).1.alloc (.cells #[.int .i64 (m : Int)] 3))
            clear O1
            first
              | (go_wp2_with (at_builtin; refine wpList_append_rd _ rfl (.tmp 18) (.tmp 20) 23 rfl w1.heap.size 3 (.int .i64 0) 1 8 Tryd.underlying23 info3 rfl (by decide) _ _ _ rfl O2.out _ 1 _ rfl HRD.out (by simp [Value.oneCell']) (by simp [maxLen]; omega) (by omega) (by simp; omega) ?_))
              | (go_wp2_with (at_builtin; refine wpList_append_rd _ rfl (.tmp 18) (.tmp 20) 23 rfl w1.heap.size 3 (.int .i64 0) 1 8 Tryd.underlying23 info3 rfl (by decide) _ _ _ rfl O3.out _ 1 _ rfl HRE.out (by simp [Value.oneCell']) (by simp [maxLen]; omega) (by omega) (by simp; omega) ?_))
            intro vN wN hownN hgrN
            have hl := fun k hk => (O2.out.lt k hk).1
            have hzN := hgrN.size
            simp only [World.size_alloc] at hzN
            have G : Hid (wN.ownsRow w1.heap.size 3 1 vN (unsLE ps (m + 1)).length (ints (unsLE ps (m + 1))) ∧ wN.heap[w.heap.size]? = some (.cells #[.slice aW ws.length cW, .slice aP ps.length cP] 26 (0, 0)) ∧ Below w.heap.size w wN) := by
              refine ⟨?_, (hgrN.block w.heap.size (by simp; omega) (fun e => by have := hl _ e.symm; omega)).trans (at_old V2.out), ?_⟩
              · rw [E.out, ints_snoc, List.length_append]
                exact hownN
              · first
                  | exact (B2.out.alloc (by omega) (.cells #[.int .i64 (m : Int)] 3)).grown hgrN (by simp; omega) (fun k hk => by have := hl k hk; omega)
                  | exact (B2.out.drew.alloc (by simp; omega) (.cells #[.int .i64 (m : Int)] 3)).grown hgrN (by simp; omega) (fun k hk => by have := hl k hk; omega)
            clear hownN hgrN hl
            go_wp2
            go_roundw
            case rel => exact ⟨m + 1, by omega, by go_num, G, by first | omega | (simp at hzN; omega)⟩
            case measure => simp [intOf]; omega
        · have hh' : hasE ps m = false := by simpa using hh
          have E := hideIt (unsLE_miss hh')
          have LH := hideIt (lastM_none (mo := 1) hh')
          clear hh hh'
          go_wp2_with fail
          go_region_with (go_at_call 33; refine (lastWrite_any _ ps _ _ _ (by first | exact Rd.below H2.out I.out.2.2.drew | exact Rd.below H2.out I.out.2.2) (by first | exact HG.out.below I.out.2.2.drew | exact HG.out.below I.out.2.2) hp (by omega) (by omega)).mono ?_; rw [LH.out]; rintro e wa ⟨rfl, hba⟩; have BA : Hid (Below wr.heap.size wr wa) := (by first | exact below_trans ((Below.refl _ _).drew) hba (Nat.le_refl _) | exact hba); obtain ⟨k0, k1⟩ := ((HG.out.below I.out.2.2).below BA.out).cells; clear hba)
          all_goals
            have hza := BA.out.size
            have G : Hid (wa.ownsRow w1.heap.size 3 1 u4 (unsLE ps (m + 1)).length (ints (unsLE ps (m + 1))) ∧ wa.heap[w.heap.size]? = some (.cells #[.slice aW ws.length cW, .slice aP ps.length cP] 26 (0, 0)) ∧ Below w.heap.size w wa) := by
              rw [E.out]
              exact ⟨((own_block I.out.1).below BA.out (Nat.le_refl _)).1, (BA.out.block w.heap.size (by omega)).trans I.out.2.1, below_trans I.out.2.2 BA.out (by omega)⟩
            go_wp2
            go_roundw
            case rel => exact ⟨m + 1, by omega, by go_num, by first | exact G | exact ⟨(((own_block G.out.1).same (fun _ _ _ => rfl) : Row wa.drew _ _ _ _ _ _ _)).1, G.out.2.1, G.out.2.2.drew⟩, by omega⟩
            case measure => simp [intOf]; omega
      · have e : m = 32 := by omega
        subst e
        obtain ⟨aL, cL, hvL⟩ := RdI.form (own_block I.out.1).rd rfl
        subst hvL
        go_wp2
        go_ret2
        exact ⟨_, rfl, (own_block I.out.1).wide (by omega) (Nat.le_refl _), I.out.2.2⟩
  · have hc' : blkB ws ps = false := by simpa using hc
    clear hc
    obtain ⟨e1, e2⟩ := unsE_not hc'
    rw [e1, e2]
    have C := hideIt hc'
    clear e1 e2 hc'
    go_enter Tryd.func14, Tryd.ntmps14
    go_wp2_with fail
    refine (implBlkOK_any _ ws ps _ (HR.out.below hb0) hw hp).mono ?_
    rw [C.out]
    rintro e w1 ⟨rfl, hb1⟩
    have B1 := hideIt (below_trans hb0 hb1 (by simp <;> omega))
    clear hb0 hb1
    go_wp2
    go_ret2
    exact ⟨_, rfl, Row.nil _ _ _ _ _, B1.out⟩
end Go.Proofs.YtbjcoeimcdodjaaDoor
