/- Several texts laid together: PbC, PcA. -/
import Derived.Test.YtmeiionabonhnaaGreatDoorZAT
import Derived.Deep.LoopGhost
import Derived.Laws.OwnMore
import Derived.Deep.RegionHeld3
namespace Go.Proofs.YtmeiionabonhnaaGreatDoor
open Go.RowKit
theorem byte_at (s : ByteArray) (k : Nat) (h : k < s.size) : s.data.toList[k]'(by rw [← Lib.size_eq]; exact h) = s[k] := by
  rw [Array.getElem_toList]
  rfl
theorem byte_is (c : UInt8) : ((c.toNat : Int) == 47) = decide (c = 47) := by
  by_cases h : c = 47
  · subst h; rfl
  · rw [decide_eq_false h, beq_eq_false_iff_ne]
    intro e
    apply h
    apply UInt8.toNat_inj.1
    show c.toNat = 47
    omega
theorem cut_begin (l : List UInt8) : cutG [] l = [] ++ cutG ((l.take 0).drop 0) (l.drop 0) := by simp
theorem cut_yes {l : List UInt8} {ds : List (List UInt8)} {k f : Nat} (hk : k < l.length) (h : cutG [] l = ds ++ cutG ((l.take k).drop f) (l.drop k)) (hc : l[k] = 47) :
    cutG [] l = (ds ++ [(l.take k).drop f]) ++ cutG ((l.take (k + 1)).drop (k + 1)) (l.drop (k + 1)) := by
  rw [List.drop_eq_getElem_cons hk, cutG_cons, if_pos hc] at h
  rw [h, List.append_assoc, List.drop_of_length_le (l := l.take (k + 1)) (by rw [List.length_take]; omega)]
  rfl
theorem cut_no {l : List UInt8} {ds : List (List UInt8)} {k f : Nat} (hk : k < l.length) (hf : f ≤ k) (h : cutG [] l = ds ++ cutG ((l.take k).drop f) (l.drop k)) (hc : ¬ l[k] = 47) :
    cutG [] l = ds ++ cutG ((l.take (k + 1)).drop f) (l.drop (k + 1)) := by
  rw [List.drop_eq_getElem_cons hk, cutG_cons, if_neg hc] at h
  rw [h, List.take_succ_eq_append_getElem hk, List.drop_append_of_le_length (by rw [List.length_take]; omega)]
theorem cut_end {s : ByteArray} {ds : List (List UInt8)} {f : Nat} (h : cutG [] s.data.toList = ds ++ cutG ((s.data.toList.take s.size).drop f) (s.data.toList.drop s.size)) : pcs s = ds.map mkB ++ [s.extract f s.size] := by
  unfold pcs
  rw [h, List.drop_of_length_le (l := s.data.toList) (by rw [← Lib.size_eq]; exact Nat.le_refl _), cutG_nil, List.map_append]
  show ds.map mkB ++ [mkB _] = _
  rw [mkB_extract]
set_option maxRecDepth 100000 in
set_option maxHeartbeats 4000000 in
theorem l00Cut_any (s : ByteArray) (w : World) (hs : s.size ≤ 65536) :
    Calls Tryz.prog 133 #[.string s, .int .u8 47] w fun e w' => ∃ v', e = .returned v' ∧ Row w' 9 1 w.heap.size w'.heap.size v' (pcs s).length (strs (pcs s)) ∧ Below w.heap.size w w' := by
  have START : Hid (SnI w (w.alloc (.cells #[] 9)) (.slice (some ⟨w.heap.size, 0, none⟩) 0 0) []) := ⟨World.ownsRow_lit w #[] 0 (Nat.le_refl _) (by simp [maxLen]) (by simp), (Below.refl _ _).alloc (Nat.le_refl _) _⟩
  have HL := hideIt (Lib.size_eq s)
  go_enter Tryz.func133, Tryz.ntmps133
  go_wp2
  go_loopg [5, 6, 7] s.size (fun g vL fr i wr => ∃ (k f : Nat) (ds : List (List UInt8)), k + g = s.size ∧ f ≤ k ∧ fr = .int .i64 f ∧ i = .int .i64 k ∧ vL ≠ .slice none 0 0 ∧ ds.length ≤ k ∧ Hid (SnI w wr vL (ds.map mkB) ∧ cutG [] s.data.toList = ds ++ cutG ((s.data.toList.take k).drop f) (s.data.toList.drop k)))
  case atStart => exact ⟨0, 0, [], by omega, by omega, rfl, rfl, (fun e => by cases e), Nat.le_refl _, START.out, cut_begin _⟩
  case round =>
    obtain ⟨k, f, ds, hkg, hf, rfl, rfl, hv, hd, I⟩ := hrel
    clear START
    have k0 : (0 : Int) ≤ (k : Int) := by omega
    have f0 : (0 : Int) ≤ (f : Int) := by omega
    have fk : (f : Int) ≤ (k : Int) := by omega
    have DL : (ds.map mkB).length = ds.length := List.length_map ..
    by_cases hlt : k < s.size
    · have k1 : (k : Int) < (s.size : Int) := by omega
      have k2 : (k : Int) ≤ (s.size : Int) := by omega
      have hkl : k < s.data.toList.length := by rw [← HL.out]; exact hlt
      by_cases c : s[k] = 47
      · have q : ((s[k].toNat : Int) == 47) = true := by rw [byte_is, decide_eq_true c]
        have N := hideIt (cut_yes hkl I.out.2 (by rw [byte_at s k hlt]; exact c))
        have MN : Hid ((ds ++ [(s.data.toList.take k).drop f]).map mkB = ds.map mkB ++ [s.extract f k]) := by unfold Hid; rw [List.map_append, ← mkB_extract]; rfl
        have JB : Hid (SnI w (wr.alloc (.cells #[.string (s.extract f k)] 9)) u5 (ds.map mkB)) := I.out.1.below ((Below.refl _ _).alloc (Nat.le_refl _) _)
        have RB := hideIt (rd_str wr (s.extract f k))
        have hzb := JB.out.z
        simp only [World.size_alloc] at hzb
        clear I c
        go_wp2_with (at_builtin; refine wpList_append_rd _ rfl (.tmp 20) (.tmp 25) 27 rfl w.heap.size 9 (.string ⟨#[]⟩) 1 16 Tryz.underlying27 info9 rfl (by decide) _ _ _ rfl JB.out.l _ 1 _ rfl RB.out (strs_one _) (by simp [maxLen]; omega) (by simp; omega) JB.out.z ?_)
        intro vN wN hownN hgrN
        have G := hideIt (JB.out.grow [s.extract f k] rfl (by rw [List.length_map]; exact hownN) hgrN)
        rw [← MN.out] at G
        have hv2 := hideIt (G.out.some_ (by simp))
        clear hownN hgrN JB RB q MN hv
        go_wp2
        go_roundg (s.size - (k + 1))
        case measure => omega
        case rel => exact ⟨k + 1, k + 1, ds ++ [(s.data.toList.take k).drop f], by omega, Nat.le_refl _, by go_num, by go_num, hv2.out, by simp; omega, G.out, N.out⟩
      · have q : ((s[k].toNat : Int) == 47) = false := by rw [byte_is, decide_eq_false c]
        have N := hideIt (cut_no hkl hf I.out.2 (by rw [byte_at s k hlt]; exact c))
        have I1 := hideIt I.out.1
        have HV := hideIt hv
        clear I c DL hv
        go_wp2
        go_roundg (s.size - (k + 1))
        case measure => omega
        case rel => exact ⟨k + 1, f, ds, by omega, by omega, rfl, by go_num, HV.out, by omega, I1.out, N.out⟩
    · obtain rfl : k = s.size := by omega
      have MN := hideIt (cut_end I.out.2)
      have JB : Hid (SnI w (wr.alloc (.cells #[.string (s.extract f s.size)] 9)) u5 (ds.map mkB)) := I.out.1.below ((Below.refl _ _).alloc (Nat.le_refl _) _)
      have RB := hideIt (rd_str wr (s.extract f s.size))
      have hzb := JB.out.z
      simp only [World.size_alloc] at hzb
      clear I
      go_wp2_with (at_builtin; refine wpList_append_rd _ rfl (.tmp 29) (.tmp 33) 27 rfl w.heap.size 9 (.string ⟨#[]⟩) 1 16 Tryz.underlying27 info9 rfl (by decide) _ _ _ rfl JB.out.l _ 1 _ rfl RB.out (strs_one _) (by simp [maxLen]; omega) (by simp; omega) JB.out.z ?_)
      intro vN wN hownN hgrN
      have G := hideIt (JB.out.grow [s.extract f s.size] rfl (by rw [List.length_map]; exact hownN) hgrN)
      rw [← MN.out] at G
      clear hownN hgrN JB RB MN hv
      go_wp2
      go_ret
      exact ⟨_, rfl, own_block G.out.l, G.out.b⟩
end Go.Proofs.YtmeiionabonhnaaGreatDoor

namespace Go.Proofs.YtmeiionabonhnaaGreatDoor
open Go.RowKit
def entHit (d : Int) (nm : ByteArray) (x : Den) : Bool := decide (0 ≤ x.child) && (x.dir == d && x.name.toList == nm.toList)
def entAt (ps : List Den) (d : Int) (nm : ByteArray) : Option Nat := ps.findIdx? (entHit d nm)
def entI (ps : List Den) (d : Int) (nm : ByteArray) : Int := match entAt ps d nm with | none => -1 | some k => (k : Int)
def childAt (ps : List Den) (k : Nat) : Int := (ps.getD k ⟨0, ⟨#[]⟩, 0⟩).child
theorem childAt_of {ps : List Den} {k : Nat} (h : k < ps.length) : childAt ps k = ps[k].child := by
  unfold childAt
  rw [List.getD_eq_getElem?_getD, List.getElem?_eq_getElem h]; rfl
theorem ent_no {ps : List Den} {d : Int} {nm : ByteArray} (h : ∀ j (h : j < ps.length), entHit d nm ps[j] = false) : entAt ps d nm = none := by
  unfold entAt
  rw [List.findIdx?_eq_none_iff]
  intro x hx
  obtain ⟨j, hj, rfl⟩ := List.getElem_of_mem hx
  exact h j hj
theorem ent_yes {ps : List Den} {d : Int} {nm : ByteArray} {k : Nat} (hk : k < ps.length) (h : ∀ j (h : j < ps.length), j < k → entHit d nm ps[j] = false) (e : entHit d nm ps[k] = true) : entAt ps d nm = some k := by
  unfold entAt
  rw [List.findIdx?_eq_some_iff_getElem]
  exact ⟨hk, e, fun j hj => by rw [h j (by omega) hj]; simp⟩
theorem ent_some {ps : List Den} {d : Int} {nm : ByteArray} {k : Nat} (h : entAt ps d nm = some k) : ∃ hk : k < ps.length, entHit d nm ps[k] = true := by
  unfold entAt at h
  rw [List.findIdx?_eq_some_iff_getElem] at h
  obtain ⟨hk, e, _⟩ := h
  exact ⟨hk, e⟩
theorem hit_child {d : Int} {nm : ByteArray} {x : Den} (h : entHit d nm x = true) : 0 ≤ x.child := by
  unfold entHit at h
  simp only [Bool.and_eq_true, decide_eq_true_eq] at h
  exact h.1
def wk (ws : List Ino) (ps : List Den) : Int → List ByteArray → Int × Int
  | z, [] => (z, 0)
  | z, n :: ns => if kindAt ws z = 2 then (match entAt ps z n with | none => (0, 5) | some k => wk ws ps (childAt ps k) ns) else (0, 10)
theorem wk_nil (ws : List Ino) (ps : List Den) (z : Int) : wk ws ps z [] = (z, 0) := rfl
theorem wk_nodir {ws : List Ino} {ps : List Den} {z : Int} {n : ByteArray} {ns : List ByteArray} (h : ¬ kindAt ws z = 2) : wk ws ps z (n :: ns) = (0, 10) := by
  show (if kindAt ws z = 2 then _ else _) = _
  rw [if_neg h]
theorem wk_none {ws : List Ino} {ps : List Den} {z : Int} {n : ByteArray} {ns : List ByteArray} (h : kindAt ws z = 2) (e : entAt ps z n = none) : wk ws ps z (n :: ns) = (0, 5) := by
  show (if kindAt ws z = 2 then (match entAt ps z n with | none => (0, 5) | some k => wk ws ps (childAt ps k) ns) else _) = _
  rw [if_pos h, e]
theorem wk_some {ws : List Ino} {ps : List Den} {z : Int} {n : ByteArray} {ns : List ByteArray} {k : Nat} (h : kindAt ws z = 2) (e : entAt ps z n = some k) : wk ws ps z (n :: ns) = wk ws ps (childAt ps k) ns := by
  show (if kindAt ws z = 2 then (match entAt ps z n with | none => (0, 5) | some k => wk ws ps (childAt ps k) ns) else _) = _
  rw [if_pos h, e]
theorem child_range {ws : List Ino} {ps : List Den} (h : imgB ws ps = true) {d : Int} {nm : ByteArray} {k : Nat} (e : entAt ps d nm = some k) : k < ps.length ∧ 0 ≤ childAt ps k ∧ childAt ps k ≤ 15 := by
  obtain ⟨hk, q⟩ := ent_some e
  have := hit_child q
  rw [childAt_of hk]
  rcases pimg_ent h k hk with r | r
  · omega
  · exact ⟨hk, by omega, by omega⟩
set_option maxRecDepth 100000 in
set_option maxHeartbeats 4000000 in
theorem l06Entry_any (v : Value) (ws : List Ino) (ps : List Den) (d : Int) (nm : ByteArray) (w : World) (h : RdIm w v ws ps) (hn : ps.length ≤ 1048576) :
    Calls Tryz.prog 131 #[v, .int .i64 d, .string nm] w fun e w' => e = .returned (.int .i64 (entI ps d nm)) ∧ Below w.heap.size w w' := by
  obtain ⟨vW, vP, rfl, h1, h2⟩ := h
  obtain ⟨aW, cW, rfl, _⟩ := h1.shape
  obtain ⟨aP, cP, rfl, _, hcP⟩ := h2.shape
  have HZ := hideIt hcP
  clear h1 h2 hcP
  obtain ⟨W, hW⟩ : ∃ W, W = w.alloc (.cells #[.slice aW ws.length cW, .slice aP ps.length cP] 98) := ⟨_, rfl⟩
  have CA : Hid (∀ w', Below W.heap.size W w' → w'.cell? ⟨w.heap.size, 1, none⟩ = some (.slice aP ps.length cP)) := fun w' hb => by
    have : w'.heap[w.heap.size]? = some (.cells #[.slice aW ws.length cW, .slice aP ps.length cP] 98 (0, 0)) := (hb.block _ (by rw [hW]; simp)).trans (by rw [hW]; exact at_new rfl)
    exact (two_cells this).2.1
  have BW : Hid (Below w.heap.size w W) := by rw [hW]; exact (Below.refl _ _).alloc (Nat.le_refl _) _
  have hz : w.heap.size ≤ W.heap.size := BW.out.size
  go_enter Tryz.func131, Tryz.ntmps131
  go_wp2
  rw [← hW]
  clear hW
  go_loopg [7] ps.length (fun g i wr => ∃ k : Nat, k + g = ps.length ∧ i = .int .i64 k ∧ Hid (Below W.heap.size W wr ∧ ∀ j (h : j < ps.length), j < k → entHit d nm ps[j] = false))
  case atStart => exact ⟨0, by omega, rfl, Below.refl _ _, fun j h a => absurd a (by omega)⟩
  case round =>
    obtain ⟨k, hk, rfl, J⟩ := hrel
    have x1 := CA.out wr J.out.1
    have B := hideIt (below_trans BW.out J.out.1 hz)
    have k0 : (0 : Int) ≤ (k : Int) := by omega
    by_cases hlt : k < ps.length
    · obtain ⟨b, o, rfl, hbl, hcell⟩ := HZ.out (by omega)
      obtain ⟨c0, c1, c2⟩ := hcell k hlt
      have d0 := (B.out.cell (p := ⟨b, o + k * 3, none⟩) hbl).trans c0
      have d1 := (B.out.cell (p := ⟨b, o + k * 3 + 1, none⟩) hbl).trans c1
      have d2 := (B.out.cell (p := ⟨b, o + k * 3 + 2, none⟩) hbl).trans c2
      have k1 : (k : Int) < (ps.length : Int) := by omega
      have HY := hideIt (fun e : entHit d nm ps[k] = true => show entI ps d nm = (k : Int) by unfold entI; rw [ent_yes hlt J.out.2 e])
      have HX := hideIt (fun (e : entHit d nm ps[k] = false) j (h : j < ps.length) (a : j < k + 1) => show entHit d nm ps[j] = false by
        by_cases q : j = k
        · subst q; exact e
        · exact J.out.2 j h (by omega))
      have EH := hideIt (show entHit d nm ps[k] = (decide (0 ≤ ps[k].child) && (ps[k].dir == d && ps[k].name.toList == nm.toList)) from rfl)
      have J1 := hideIt J.out.1
      clear hcell c0 c1 c2 J
      generalize entHit d nm ps[k] = hit at *
      generalize ps[k].child = y at *
      generalize ps[k].dir = yd at *
      generalize ps[k].name = yn at *
      have BX := hideIt ((Below.refl wr.heap.size wr).alloc (Nat.le_refl _) (.cells #[.int .i64 yd, .string yn, .int .i64 y] 140))
      have B5 := hideIt (below_trans J1.out BX.out J1.out.size)
      have B6 := hideIt (below_trans B.out BX.out B.out.size)
      by_cases q : 0 ≤ y
      case neg =>
        have q1 : ¬ y ≥ 0 := q
        have E := hideIt (HX.out (by rw [EH.out, decide_eq_false q]; rfl))
        clear q HX HY EH
        go_wp2
        go_roundg (ps.length - (k + 1))
        case measure => omega
        case rel => exact ⟨k + 1, by omega, by go_num, B5.out, E.out⟩
      have q1 : y ≥ 0 := q
      by_cases r : yd = d
      case neg =>
        have r1 : (yd == d) = false := beq_eq_false_iff_ne.2 r
        have E := hideIt (HX.out (by rw [EH.out, r1]; simp))
        clear q r HX HY EH
        go_wp2
        go_roundg (ps.length - (k + 1))
        case measure => omega
        case rel => exact ⟨k + 1, by omega, by go_num, B5.out, E.out⟩
      have r1 : (yd == d) = true := beq_iff_eq.2 r
      cases t : (yn.toList == nm.toList) with
      | false =>
        have E := hideIt (HX.out (by rw [EH.out, t]; simp))
        clear q r HX HY EH
        go_wp2
        go_roundg (ps.length - (k + 1))
        case measure => omega
        case rel => exact ⟨k + 1, by omega, by go_num, B5.out, E.out⟩
      | true =>
        have E := hideIt (HY.out (by rw [EH.out, t, r1, decide_eq_true q]; rfl))
        clear q r HX HY EH
        go_wp2
        go_ret
        exact ⟨ret_int E.out.symm, B6.out⟩
    · obtain rfl : k = ps.length := by omega
      have E := hideIt (show entI ps d nm = -1 by unfold entI; rw [ent_no (fun j h => J.out.2 j h h)])
      clear J
      go_wp2
      go_ret
      exact ⟨ret_int E.out.symm, B.out⟩
end Go.Proofs.YtmeiionabonhnaaGreatDoor
