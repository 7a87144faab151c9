/- What a crash leaves: by the program. -/
import Derived.Test.YtbjalmiheipjjaaDoorZAU
import Derived.Test.YtbjalmiheipjjaaDoorPmFenceI
namespace Go.Proofs.YtbjalmiheipjjaaDoor
open Go.RowKit
def noughts : Array Value := (List.replicate 336 (Value.int .i64 0)).toArray
theorem run_noughts (w : World) : (zeroValue 94).run Tryd.prog w = .ok (.agg noughts) w := by kernel_rfl
theorem noughts_size : noughts.size = 336 := by unfold noughts; rw [List.size_toArray, List.length_replicate]
theorem noughts_at (k : Nat) (hk : k < 336) : noughts[k]? = some (.int .i64 0) := by unfold noughts; rw [List.getElem?_toArray, List.getElem?_replicate, if_pos hk]
theorem lfF_bd {us : List Nat} {zs : List Int} (hz : ∀ i, 0 ≤ keepI zs i ∧ keepI zs i ≤ 400) : ∀ (i a : Nat), 0 ≤ lfF us zs i a ∧ lfF us zs i a ≤ 400
  | 0, _ => ⟨Int.le_refl _, by show (0 : Int) ≤ 400; omega⟩
  | i + 1, a => by
    rw [lfF]
    split
    · exact hz i
    · exact lfF_bd hz i a
theorem imS_bd {us : List Nat} {zs : List Int} {ps : List St} {ws : List Int} (hz : ∀ i, 0 ≤ keepI zs i ∧ keepI zs i ≤ 400) (h0 : ∀ p ∈ ps, 0 ≤ p.at_) (i a : Nat) (ha : a < ws.length) : 0 ≤ (imS (ws, lfF us zs i) ps).2 a ∧ (imS (ws, lfF us zs i) ps).2 a ≤ 400 := by
  have e := congrArg Prod.snd (imS_at ps (ws, lfF us zs i) h0 a ha)
  have hb := lfF_bd (us := us) hz i a
  have := keptS_nonneg (a := a) ps (ws[a]?.getD 0, lfF us zs i a) hb.1
  simp only at e this
  omega
structure ImInv (w wr : World) (n : Nat) (S : List Int × (Nat → Int)) (bA lo hi : Nat) (vW : Value) : Prop where
  words : Row wr 3 1 lo hi vW n (ints S.1)
  arr : wr.rowIs bA 94 336 (fun j => .int .i64 (S.2 j))
  aft : wr.heap[hi]? = some (.cells #[vW, .slice none 0 0] 31 (0, 0))
  res : wr.heap[w.heap.size + 1]? = some (.cells #[.slice none 0 0, .slice none 0 0] 31 (0, 0))
  below : Below w.heap.size w wr
  size : hi + 1 ≤ wr.heap.size
theorem ImInv.alloc {w wr : World} {n : Nat} {S : List Int × (Nat → Int)} {bA lo hi : Nat} {vW : Value} (h : ImInv w wr n S bA lo hi vW) (o : Obj) : ImInv w (wr.alloc o) n S bA lo hi vW := by
  obtain ⟨h1, h2, h3, h4, h5, h6⟩ := h
  exact ⟨h1.alloc (by omega) o, h2.alloc o, at_old h3, at_old h4, h5.alloc h5.size o, by simp; omega⟩
theorem ImInv.hit {w wr : World} {n : Nat} {S : List Int × (Nat → Int)} {bA lo hi b cap : Nat} (h : ImInv w wr n S bA lo hi (.slice (some ⟨b, 0, none⟩) n cap)) (p : St) (hp : 0 < S.2 p.at_.toNat) (hA : w.heap.size + 2 ≤ bA) (hlo : bA < lo) (hhi : bA < hi) :
    ImInv w ((wr.setCell ⟨b, p.at_.toNat, none⟩ (.int .i64 p.val)).setCell ⟨bA, p.at_.toNat, none⟩ (.int .i64 (S.2 p.at_.toNat - 1))) n (imS1 S p) bA lo hi (.slice (some ⟨b, 0, none⟩) n cap) := by
  obtain ⟨h1, h2, h3, h4, h5, h6⟩ := h
  obtain ⟨_, hb1, hb2, _⟩ := h1.at
  have e : imS1 S p = (S.1.set p.at_.toNat p.val, fun j => if j = p.at_.toNat then S.2 j - 1 else S.2 j) := by unfold imS1; rw [if_pos hp]
  rw [e]
  refine ⟨?_, ?_, ?_, ?_, (h5.setCell (by simp only; omega) _).setCell (by simp only; omega) _, by simp; omega⟩
  · have := h1.stored p.at_.toNat (.int .i64 p.val)
    rw [ints_set] at this
    exact this.same (fun k hk _ => Below.heap_setCell _ _ _ _ (by simp only; omega))
  · refine ((h2.setOther (a := ⟨b, p.at_.toNat, none⟩) (by simp only; omega) (.int .i64 p.val)).set p.at_.toNat (.int .i64 (S.2 p.at_.toNat - 1))).congr (fun k hk => ?_)
    by_cases e : k = p.at_.toNat
    · subst e; simp
    · simp [e]
  · rw [Below.heap_setCell _ _ _ _ (by simp only; omega), Below.heap_setCell _ _ _ _ (by simp only; omega)]; exact h3
  · rw [Below.heap_setCell _ _ _ _ (by simp only; omega), Below.heap_setCell _ _ _ _ (by simp only; omega)]; exact h4
def kpC (ws : List Int) (ps : List St) (zs : List Int) : Int := if pmB ws ps = true then if keepsB zs = true then 0 else 4 else 1
def kpW (ws : List Int) (ps : List St) (zs : List Int) : List Int := if kpC ws ps zs = 0 then spW (unsN ps 336) zs ps ws (unsN ps 336).length else []
theorem kpC_cases (ws : List Int) (ps : List St) (zs : List Int) :
    (pmB ws ps = false ∧ kpC ws ps zs = 1 ∧ kpW ws ps zs = []) ∨
    (pmB ws ps = true ∧ keepsB zs = false ∧ kpC ws ps zs = 4 ∧ kpW ws ps zs = []) ∨
    (pmB ws ps = true ∧ keepsB zs = true ∧ kpC ws ps zs = 0 ∧ kpW ws ps zs = spW (unsN ps 336) zs ps ws (unsN ps 336).length) := by
  by_cases c2 : pmB ws ps = true
  · by_cases c3 : keepsB zs = true
    · have e : kpC ws ps zs = 0 := by unfold kpC; rw [if_pos c2, if_pos c3]
      exact .inr (.inr ⟨c2, c3, e, by unfold kpW; rw [if_pos e]⟩)
    · have e : kpC ws ps zs = 4 := by unfold kpC; rw [if_pos c2, if_neg c3]
      exact .inr (.inl ⟨c2, by simpa using c3, e, by unfold kpW; rw [e]; rfl⟩)
  · have e : kpC ws ps zs = 1 := by unfold kpC; rw [if_neg c2]
    exact .inl ⟨by simpa using c2, e, by unfold kpW; rw [e]; rfl⟩
theorem kpC_eq {ws : List Int} {ps : List St} {zs : List Int} (h : ¬ 4096 < zs.length) : crashC ws ps zs = kpC ws ps zs ∧ crashWs ws ps zs = kpW ws ps zs := by
  have e : crashC ws ps zs = kpC ws ps zs := by unfold crashC kpC; rw [if_neg h]
  exact ⟨e, by unfold crashWs kpW; rw [e]⟩
set_option maxRecDepth 100000 in
set_option maxHeartbeats 8000000 in
theorem implCrashPm_any (v vZ : Value) (ws : List Int) (ps : List St) (zs : List Int) (w : World) (h : RdPm w v ws ps) (hz : RdI w vZ zs) (hw : ws.length ≤ 1048576) (hp : ps.length ≤ 1048576) (hzl : zs.length ≤ 1048576) :
    Calls Tryd.prog 28 #[v, vZ] w fun e w' => ∃ v', e = .returned (.tuple #[v', .int .i64 (kpC ws ps zs)]) ∧ RowPm w' w.heap.size w'.heap.size v' (kpW ws ps zs) [] ∧ Below w.heap.size w w' := by
  have HR := hideIt h
  have HZ := hideIt hz
  obtain ⟨vW, vP, rfl, h1, h2⟩ := h
  have H1 := hideIt h1
  have H2 := hideIt h2
  obtain ⟨aW, cW, rfl, _⟩ := h1.shape
  obtain ⟨aP, cP, rfl, _⟩ := h2.shape
  obtain ⟨aZ, cZ, rfl, _⟩ := hz.shape
  clear h1 h2 hz
  have hb0 : Below w.heap.size w ((w.alloc (.cells #[.slice aW ws.length cW, .slice aP ps.length cP] 31)).alloc (.cells #[.slice none 0 0, .slice none 0 0] 31)) := by
    repeat (refine Below.alloc ?_ (by simp <;> omega) _)
    exact Below.refl _ _
  rcases kpC_cases ws ps zs with ⟨c2, e1, e2⟩ | ⟨c2, c3, e1, e2⟩ | ⟨c2, c3, e1, e2⟩
  · rw [e1, e2]
    obtain ⟨s1, s2⟩ := uns_not c2
    have S1 := hideIt s1
    clear e1 e2 s1 s2
    go_enter Tryd.func28, Tryd.ntmps28
    go_wp2_with fail
    refine (implPmUnsure_any _ ws ps _ (HR.out.below hb0) hw hp).mono ?_
    rw [S1.out]
    rintro e w1 ⟨v1, rfl, hr1, hb1⟩
    obtain ⟨aU, cU, rfl⟩ := RdI.form hr1.rd rfl
    have V1 := (hb1.block (w.heap.size + 1) (by simp)).trans (at_new (by simp))
    obtain ⟨t1, t2, t3, t4⟩ := two_cells V1
    have B1 := hideIt (below_trans hb0 hb1 (by simp <;> omega))
    clear hb0 hb1 V1 hr1
    go_wp2
    refine bodyPost_ret (v := .tuple #[.agg #[.slice none 0 0, .slice none 0 0], .int .i64 1]) (by simp [results, Tryd.results28, go_sem, t1, t2]) rfl ?_
    exact ⟨_, rfl, RowPm.zero _ _ _, (B1.out.setCell (by simp only; omega) _).setCell (by simp only; omega) _⟩
  · rw [e1, e2]
    obtain ⟨s1, s2⟩ := uns_ok c2
    have S1 := hideIt s1
    clear e1 e2 s1 s2
    go_enter Tryd.func28, Tryd.ntmps28
    go_wp2_with fail
    refine (implPmUnsure_any _ ws ps _ (HR.out.below hb0) hw hp).mono ?_
    rw [S1.out]
    rintro e w1 ⟨v1, rfl, hr1, hb1⟩
    obtain ⟨aU, cU, rfl⟩ := RdI.form hr1.rd rfl
    have V1 := (hb1.block (w.heap.size + 1) (by simp)).trans (at_new (by simp))
    obtain ⟨t1, t2, t3, t4⟩ := two_cells V1
    have B1 := hideIt (below_trans hb0 hb1 (by simp <;> omega))
    clear hb0 hb1 V1 hr1
    go_wp2_with (go_at_call 56; refine (everyKeep_any _ zs _ (Rd.below HZ.out B1.out) (by omega)).mono ?_; rintro e w1 ⟨rfl, rfl⟩)
    refine bodyPost_ret (v := .tuple #[.agg #[.slice none 0 0, .slice none 0 0], .int .i64 4]) (by simp [results, Tryd.results28, go_sem, t1, t2]) rfl ?_
    exact ⟨_, rfl, RowPm.zero _ _ _, (B1.out.setCell (by simp only; omega) _).setCell (by simp only; omega) _⟩
  · rw [e1, e2]
    obtain ⟨s1, s2⟩ := uns_ok c2
    have S1 := hideIt s1
    have OK := hideIt (pmB_in c2)
    have OKA := hideIt (pmB_at c2)
    have P0 := hideIt (fun p (hp : p ∈ ps) => show 0 ≤ p.at_ by obtain ⟨i, hi, rfl⟩ := List.getElem_of_mem hp; exact (pmB_at c2 i hi).1)
    have L336 := hideIt (pmB_len c2).1
    have KB := hideIt (keepI_of c3)
    clear e1 e2 s1
    go_enter Tryd.func28, Tryd.ntmps28
    go_wp2_with fail
    refine (implPmUnsure_any _ ws ps _ (HR.out.below hb0) hw hp).mono ?_
    rw [S1.out, s2]
    rintro e w1 ⟨v1, rfl, hr1, hb1⟩
    obtain ⟨aU, cU, rfl⟩ := RdI.form hr1.rd (n := (unsN ps 336).length) (unsL_len ps 336)
    have hz1 : w.heap.size + 2 ≤ w1.heap.size := by have := hb1.size; simp at this; omega
    have V0 := (hb1.block w.heap.size (by simp <;> omega)).trans (at_old (at_new rfl))
    have V1 := (hb1.block (w.heap.size + 1) (by simp)).trans (at_new (by simp))
    have B1 := hideIt (below_trans hb0 hb1 (by simp <;> omega))
    have RU : Hid (Row w1 3 1 (w.heap.size + 2) w1.heap.size (.slice aU (unsN ps 336).length cU) (unsN ps 336).length (ints (unsL ps 336))) := by
      have := hr1.wide (lo' := w.heap.size + 2) (hi' := w1.heap.size) (by simp only [World.size_alloc]; omega) (Nat.le_refl _)
      rw [unsL_len] at this
      exact this
    have START : Hid ((w1.alloc (.cells noughts 94)).rowIs w1.heap.size 94 336 (fun j => .int .i64 (lfF (unsN ps 336) zs 0 j))) := by
      have := World.rowIs_alloc w1 noughts 94 (fun j => .int .i64 (lfF (unsN ps 336) zs 0 j)) (fun k hk => by rw [noughts_size] at hk; rw [noughts_at k hk]; rfl)
      rw [noughts_size] at this
      exact this
    have VH := hideIt (And.intro (at_old (o := .cells noughts 94) V0) (at_old (o := .cells noughts 94) V1))
    have BH := hideIt (B1.out.alloc (by omega) (.cells noughts 94))
    have hul : (unsN ps 336).length ≤ 336 := by rw [← unsL_len]; exact unsL_le ps 336
    have hno := run_noughts
    clear hb0 hb1 V0 V1 hr1 s2
    go_wp2_with (go_at_call 56; refine (everyKeep_any _ zs _ (Rd.below HZ.out B1.out) (by omega)).mono ?_; rintro e w1 ⟨rfl, rfl⟩)
    clear hno
    go_loopw [9, 10, 29] (fun _ _ ii wr => ∃ i : Nat, i ≤ (unsN ps 336).length ∧ ii = .int .i64 i ∧ wr.rowIs w1.heap.size 94 336 (fun j => .int .i64 (lfF (unsN ps 336) zs i j)) ∧ (∀ b, ¬ b = w1.heap.size → wr.heap[b]? = (w1.alloc (.cells noughts 94)).heap[b]?) ∧ Below w.heap.size w wr ∧ wr.heap.size = w1.heap.size + 1) (fun _ _ ii _ => (unsN ps 336).length - (intOf ii).toNat)
    case atStart => exact ⟨0, by omega, rfl, START.out, fun _ _ => rfl, BH.out, by simp⟩
    case round =>
      obtain ⟨i, hi, rfl, hrow, hsame, hb, hz⟩ := hrel
      by_cases hlt : i < (unsN ps 336).length
      · obtain ⟨_, au', cu', eu', _, hcu⟩ := RU.out.rd
        cases eu'
        obtain ⟨bu, ou, rfl, hbu, _⟩ := hcu (by omega)
        obtain ⟨rfl, _, hbu2, _, _, hclu⟩ := RU.out.at
        have hil : i < (unsL ps 336).length := by rw [unsL_len]; exact hlt
        have u0 := (World.cell?_of_block (w := w1) (a := ⟨bu, i, none⟩) ((hsame bu (by omega)).trans (by rw [heap_alloc_if, if_neg (by omega)]))).trans ((hclu i (by omega)).trans (ints_at _ i hil))
        rw [unsL_at] at u0
        have hal : (unsN ps 336)[i]?.getD 0 < 336 := unsN_lt ps 336 i hlt
        have g0 := hrow.frozen ((unsN ps 336)[i]?.getD 0)
        have g1 := hrow.cell hal
        have F : Hid ((wr.setCell ⟨w1.heap.size, (unsN ps 336)[i]?.getD 0, none⟩ (.int .i64 (keepI zs i))).rowIs w1.heap.size 94 336 (fun j => .int .i64 (lfF (unsN ps 336) zs (i + 1) j))) := by
          refine (hrow.set ((unsN ps 336)[i]?.getD 0) (.int .i64 (keepI zs i))).congr (fun j hj => ?_)
          show (if j = (unsN ps 336)[i]?.getD 0 then _ else _) = Value.int .i64 (if j = (unsN ps 336)[i]?.getD 0 then _ else _)
          split <;> rfl
        have G : Hid ((∀ b, ¬ b = w1.heap.size → (wr.setCell ⟨w1.heap.size, (unsN ps 336)[i]?.getD 0, none⟩ (.int .i64 (keepI zs i))).heap[b]? = (w1.alloc (.cells noughts 94)).heap[b]?) ∧ Below w.heap.size w (wr.setCell ⟨w1.heap.size, (unsN ps 336)[i]?.getD 0, none⟩ (.int .i64 (keepI zs i)))) :=
          ⟨fun b hb' => (Below.heap_setCell _ _ _ _ (by simp only; exact hb')).trans (hsame b hb'), hb.setCell (by simp only; omega) _⟩
        clear hrow hsame hcu hclu
        generalize ha : (unsN ps 336)[i]?.getD 0 = a at *
        clear ha
        have a0 : (0 : Int) ≤ (a : Int) := by omega
        have a1 : (a : Int) < 336 := by omega
        go_wp2_with fail
        refine (keepAt_any _ zs i _ (Rd.below HZ.out hb) hzl (by omega)).mono ?_
        rintro e wr ⟨rfl, rfl⟩
        go_wp2
        go_roundw
        case rel => exact ⟨i + 1, by omega, by go_num, F.out, G.out.1, G.out.2, by simp; omega⟩
        case measure => simp [intOf]; omega
      · have e : i = (unsN ps 336).length := by omega
        subst e
        have ARR := hideIt hrow
        have VB := (hsame w.heap.size (by omega)).trans VH.out.1
        have VR := (hsame (w.heap.size + 1) (by omega)).trans VH.out.2
        obtain ⟨y1, y2, y3, y4⟩ := two_cells VB
        have VV := hideIt (And.intro VB VR)
        clear hrow hsame VB VR
        go_wp2_with (at_builtin; refine wpList_append_rd _ rfl (.const (.slice none 0 0)) (.tmp 41) 28 rfl (w1.heap.size + 1) 3 (.int .i64 0) 1 8 Tryd.underlying28 info3 rfl (by decide) _ 0 [] rfl (World.ownsRow_nil _ _ _ _) _ ws.length (ints ws) rfl (Rd.below H1.out hb) (ints_one ws) (by simp [maxLen]; omega) (by omega) (by omega) ?_)
        intro v2 w2 hown2 hgr2
        have hown2 : w2.ownsRow (w1.heap.size + 1) 3 1 v2 ws.length (ints ws) := by simpa using hown2
        obtain ⟨aW2, cW2, rfl⟩ := RdI.form (own_block hown2).rd rfl
        have hz2 : w1.heap.size + 1 ≤ w2.heap.size := by have := hgr2.size; omega
        have B2 := hb.grown hgr2 (by omega) (fun k hk => by cases hk)
        have V0 := (hgr2.block w.heap.size (by omega) (by simp [Value.ownBlock])).trans VV.out.1
        have V1 := (hgr2.block (w.heap.size + 1) (by omega) (by simp [Value.ownBlock])).trans VV.out.2
        have AR2 := ARR.out.of_block (hgr2.block w1.heap.size (by omega) (by simp [Value.ownBlock]))
        have INV : Hid (ImInv w (w2.alloc (.cells #[.slice aW2 ws.length cW2, .slice none 0 0] 31)) ws.length (imS (ws, lfF (unsN ps 336) zs (unsN ps 336).length) (ps.take 0)) w1.heap.size (w1.heap.size + 1) w2.heap.size (.slice aW2 ws.length cW2)) :=
          ⟨(own_block hown2).alloc (Nat.le_refl _) _, AR2.alloc _, at_new rfl, at_old V1, B2.alloc (by omega) _, by simp⟩
        obtain ⟨z1, z2, z3, z4⟩ := two_cells (at_old (o := .cells #[.slice aW2 ws.length cW2, .slice none 0 0] 31) V0)
        clear y1 y2 y3 y4 hown2 hgr2 B2 V0 V1 AR2
        go_wp2
        go_loopw [12, 13] (fun q _ wr => ∃ m : Nat, m ≤ ps.length ∧ RdS w q (ps.drop m) ∧ Hid (ImInv w wr ws.length (imS (ws, lfF (unsN ps 336) zs (unsN ps 336).length) (ps.take m)) w1.heap.size (w1.heap.size + 1) w2.heap.size (.slice aW2 ws.length cW2))) (fun q _ _ => match q with | .slice _ n _ => n | _ => 0)
        case atStart => exact ⟨0, by omega, by simpa using H2.out, INV⟩
        case round =>
          obtain ⟨m, hm, hq, I⟩ := hrel
          obtain ⟨y1, y2, y3, y4⟩ := two_cells I.out.aft
          by_cases hlt : m < ps.length
          · obtain ⟨b, o, cq, rfl, hcq, hbl, e0, e1, e2⟩ := hq.head hlt
            have d0 := (I.out.below.cell (p := ⟨b, o, none⟩) hbl).trans e0
            have d1 := (I.out.below.cell (p := ⟨b, o + 1, none⟩) hbl).trans e1
            have d2 := (I.out.below.cell (p := ⟨b, o + 2, none⟩) hbl).trans e2
            have Q := hideIt hq
            have hsz := I.out.size
            obtain ⟨q0, q1⟩ := OK.out m hlt
            obtain ⟨_, q2⟩ := OKA.out m hlt
            have BD := imS_bd (us := unsN ps 336) (ws := ws) (ps := ps.take m) KB.out (fun p hp => P0.out p (List.mem_of_mem_take hp)) (unsN ps 336).length ps[m].at_.toNat (by omega)
            have IA := hideIt (I.out.alloc (.cells #[.int .i64 ps[m].at_, .int .i64 ps[m].val, .bool ps[m].fl] 97))
            have g0 := IA.out.arr.frozen ps[m].at_.toNat
            have g1 := IA.out.arr.cell (i := ps[m].at_.toNat) (by omega)
            clear hq e0 e1 e2
            by_cases c : 0 < (imS (ws, lfF (unsN ps 336) zs (unsN ps 336).length) (ps.take m)).2 ps[m].at_.toNat
            · obtain ⟨_, aw', cw', ew', _, hcw⟩ := IA.out.words.rd
              cases ew'
              obtain ⟨bw, ow, rfl, hblw, _⟩ := hcw (by omega)
              obtain ⟨rfl, hb1, _, _, hfrw, hclw⟩ := IA.out.words.at
              have hj : ps[m].at_.toNat < (imS (ws, lfF (unsN ps 336) zs (unsN ps 336).length) (ps.take m)).1.length := by rw [imS_len]; show _ < ws.length; omega
              have k0 := hfrw ps[m].at_.toNat
              have k1 := (hclw ps[m].at_.toNat (by omega)).trans (ints_at _ _ hj)
              have I1 := hideIt (IA.out.hit ps[m] c hz1 (by omega) hz2)
              have E := hideIt (show imS (ws, lfF (unsN ps 336) zs (unsN ps 336).length) (ps.take (m + 1)) = imS1 (imS (ws, lfF (unsN ps 336) zs (unsN ps 336).length) (ps.take m)) ps[m] by rw [take_snoc ps m hlt, imS_snoc])
              clear hcw hfrw hclw
              obtain ⟨s1, s2, _, _⟩ := two_cells IA.out.aft
              generalize hx : (imS (ws, lfF (unsN ps 336) zs (unsN ps 336).length) (ps.take m)).2 ps[m].at_.toNat = x at *
              go_wp2
              go_roundw
              case rel => exact ⟨m + 1, by omega, Q.out.next hlt (fun h => if_neg h) (by split <;> simp) rfl rfl, by rw [E.out]; exact I1⟩
              case measure => show ps.length - m - 1 < ps.length - m; omega
            · have E := hideIt (show imS (ws, lfF (unsN ps 336) zs (unsN ps 336).length) (ps.take (m + 1)) = imS (ws, lfF (unsN ps 336) zs (unsN ps 336).length) (ps.take m) by rw [take_snoc ps m hlt, imS_snoc]; unfold imS1; rw [if_neg c])
              obtain ⟨s1, s2, _, _⟩ := two_cells IA.out.aft
              generalize hx : (imS (ws, lfF (unsN ps 336) zs (unsN ps 336).length) (ps.take m)).2 ps[m].at_.toNat = x at *
              go_wp2
              go_roundw
              case rel => exact ⟨m + 1, by omega, Q.out.next hlt (fun h => if_neg h) (by split <;> simp) rfl rfl, by rw [E.out]; exact IA⟩
              case measure => show ps.length - m - 1 < ps.length - m; omega
          · have e : m = ps.length := by omega
            subst e
            obtain ⟨aq, cq, eq⟩ := hq.form (n := 0) (by simp)
            subst eq
            obtain ⟨t1, t2, t3, t4⟩ := two_cells I.out.res
            have hsz := I.out.size
            clear hq
            go_wp2
            have I2 := I.out
            refine bodyPost_ret (v := .tuple #[.agg #[.slice aW2 ws.length cW2, .slice none 0 0], .int .i64 0]) (by simp [results, Tryd.results28, go_sem, t1, t2]) rfl ?_
            refine ⟨_, rfl, ⟨_, _, rfl, ?_, Row.nil _ _ _ _ _⟩, (I2.below.setCell (by simp only; omega) _).setCell (by simp only; omega) _⟩
            rw [spW_len]
            have := I2.words
            rw [List.take_length, crash_same _ _ _ _ (unsN_apart ps 336) P0.out] at this
            refine (this.same fun b h1 h2 => ?_).wide (by omega) (by simp; omega)
            rw [Below.heap_setCell _ _ _ _ (by simp only; omega), Below.heap_setCell _ _ _ _ (by simp only; omega)]
set_option maxRecDepth 100000 in
set_option maxHeartbeats 8000000 in
theorem implPmCrash_any (v vZ : Value) (ws : List Int) (ps : List St) (zs : List Int) (w : World) (h : RdPm w v ws ps) (hz : RdI w vZ zs) (hw : ws.length ≤ 1048576) (hp : ps.length ≤ 1048576) (hzl : zs.length ≤ 1048576) :
    Calls Tryd.prog 10 #[v, vZ] w fun e w' => ∃ v', e = .returned (.tuple #[v', .int .i64 (crashC ws ps zs)]) ∧ RowPm w' w.heap.size w'.heap.size v' (crashWs ws ps zs) [] ∧ Below w.heap.size w w' := by
  have HR := hideIt h
  have HZ := hideIt hz
  obtain ⟨vW, vP, rfl, h1, h2⟩ := h
  obtain ⟨aW, cW, rfl, _⟩ := h1.shape
  obtain ⟨aP, cP, rfl, _⟩ := h2.shape
  obtain ⟨aZ, cZ, rfl, _⟩ := hz.shape
  clear h1 h2 hz
  have hb0 : Below w.heap.size w ((w.alloc (.cells #[.slice aW ws.length cW, .slice aP ps.length cP] 31)).alloc (.cells #[.slice none 0 0, .slice none 0 0] 31)) := by
    repeat (refine Below.alloc ?_ (by simp <;> omega) _)
    exact Below.refl _ _
  by_cases c1 : 4096 < zs.length
  · have e1 : crashC ws ps zs = 2 := by unfold crashC; rw [if_pos c1]
    have e2 : crashWs ws ps zs = [] := by unfold crashWs; rw [e1]; rfl
    rw [e1, e2]
    clear e1 e2
    go_enter Tryd.func10, Tryd.ntmps10
    go_wp2
    refine bodyPost_ret (v := .tuple #[.agg #[.slice none 0 0, .slice none 0 0], .int .i64 2]) (by simp [results, Tryd.results10, go_sem]) rfl ?_
    exact ⟨_, rfl, RowPm.zero _ _ _, hb0⟩
  · obtain ⟨e1, e2⟩ := kpC_eq (ws := ws) (ps := ps) c1
    rw [e1, e2]
    clear e1 e2
    have c0 : ¬ (4096 : Int) < (zs.length : Int) := by omega
    go_enter Tryd.func10, Tryd.ntmps10
    go_wp2_with fail
    refine (implCrashPm_any _ _ ws ps zs _ (HR.out.below hb0) (Rd.below HZ.out hb0) hw hp hzl).mono ?_
    rintro e w1 ⟨v1, rfl, hr1, hb1⟩
    have V1 := (hb1.block (w.heap.size + 1) (by simp)).trans (at_new (by simp))
    have hz1 := hb1.size
    simp only [World.size_alloc] at hz1
    have R1 := hideIt (hr1.wide (lo' := w.heap.size + 2) (by simp) (Nat.le_refl _))
    obtain ⟨q1, q2, rfl, k1, k2⟩ := R1.out.rd
    obtain ⟨aw, cw, rfl, -⟩ := k1.shape
    obtain ⟨ap, cp, rfl, -⟩ := k2.shape
    clear k1 k2
    have B1 := hideIt (below_trans hb0 hb1 (by simp <;> omega))
    obtain ⟨x1, x2, x3, x4⟩ := two_cells V1
    clear hb0 hb1 hr1
    go_wp2
    have V2 := two_set1 (two_set0 V1 (.slice aw (kpW ws ps zs).length cw)) (.slice ap 0 cp)
    obtain ⟨t1, t2, -, -⟩ := two_cells V2
    refine bodyPost_ret (v := .tuple #[.agg #[.slice aw (kpW ws ps zs).length cw, .slice ap 0 cp], .int .i64 (kpC ws ps zs)]) (by simp [results, Tryd.results10, go_sem, t1, t2]) rfl ?_
    refine ⟨_, rfl, ((R1.out.setCell (by simp only; omega) _).setCell (by simp only; omega) _).wide (by omega) (by simp), (B1.out.setCell (by simp only; omega) _).setCell (by simp only; omega) _⟩
end Go.Proofs.YtbjalmiheipjjaaDoor
