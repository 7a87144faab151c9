/- Several texts laid together: PiF, PiI, StA. -/
import Derived.Test.YtipklbnfobckaaaGreatDoorZAK
import Derived.Test.YtipklbnfobckaaaGreatDoorZAJ
import Derived.Deep.RegionLaw
import Derived.Test.YtipklbnfobckaaaGreatDoorZAI
import Derived.Deep.DeepCutAuto
import Derived.Deep.RegionWith
import Derived.Deep.RegionHeld3
import Derived.Lib.Strings
namespace Go.Proofs.YtipklbnfobckaaaGreatDoor
open Go.RowKit

/-- The variable of a free entry lies as the program's start has laid it. -/
def FD (w : World) : Prop := ∃ t fr, w.heap[1]? = some (.cells #[.int .i64 0, .string ⟨#[]⟩, .int .i64 (-1)] t fr)
theorem FD.lt {w : World} (h : FD w) : 1 < w.heap.size := by
 obtain ⟨t, fr, h⟩ := h
 exact (Array.getElem?_eq_some_iff.1 h).1
theorem FD.below {w w' : World} (h : FD w) (hb : Below w.heap.size w w') : FD w' := by
 have hl := h.lt
 obtain ⟨t, fr, h⟩ := h
 exact ⟨t, fr, (hb.block _ hl).trans h⟩
theorem FD.cells {w : World} (h : FD w) : w.cell? ⟨1, 0, none⟩ = some (.int .i64 0) ∧ w.cell? ⟨1, 1, none⟩ = some (.string ⟨#[]⟩) ∧ w.cell? ⟨1, 2, none⟩ = some (.int .i64 (-1)) := by
 obtain ⟨t, fr, h⟩ := h
 simp [World.cell?, h]
/-- Two entries are alike. -/
def zke (a : Int) (s : ByteArray) (c a' : Int) (s' : ByteArray) (c' : Int) : Bool := (a == a') && ((s.toList == s'.toList) && (c == c'))

set_option maxRecDepth 100000 in
set_option maxHeartbeats 4000000 in
@[go_sem ↓] theorem eqDen (a : Int) (s : ByteArray) (c a' : Int) (s' : ByteArray) (c' : Int) (w : World) : (Op.equalIn 10000 173 (.agg #[.int .i64 a, .string s, .int .i64 c]) (.agg #[.int .i64 a', .string s', .int .i64 c'])).run Tryz.prog w = .ok (zke a s c a' s' c') w := by
 unfold zke
 cases g0 : (a == a')
 ·go_simp
 cases g1 : (s.toList == s'.toList)
 ·go_simp
 cases g2 : (c == c')
 ·go_simp
 ·go_simp
theorem zwu : (⟨#[]⟩ : ByteArray).toList = [] := (noBytes _).2 rfl
theorem zpz (x : Den) : zke x.dir x.name x.child 0 ⟨#[]⟩ (-1) = x.freeB := by
 unfold zke Den.freeB
 congr 2
 rw [zwu, Bool.eq_iff_iff, beq_iff_eq, beq_iff_eq]
 exact noBytes x.name
theorem Den.okB_free {x : Den} (h : x.freeB = true) : x.okB = true := by unfold Den.okB; rw [h]; rfl
theorem Den.okB_not {x : Den} (h : x.freeB = false) : x.okB = (decide (1 ≤ x.child ∧ x.child ≤ 15) && (decide (0 ≤ x.dir ∧ x.dir ≤ 15) && nmB x.name)) := by unfold Den.okB; rw [h, Bool.false_or]
theorem packC_name (s : ByteArray) : (znq s == 0) = nmB s := by
 unfold znq
 cases h : nmB s with
 | true =>
  have := (of_decide_eq_true h : 1 ≤ s.size ∧ s.size ≤ 6 ∧ _)
  rw [if_neg (by omega), if_pos rfl]; rfl
 | false =>
  split
  ·rfl
  ·rw [if_neg (by decide)]; rfl

theorem zms (s : ByteArray) (w : World) (hs : s.size ≤ maxLen) : Calls Tryz.prog 282 #[.string s] w fun e w' => e = .returned (.bool (nmB s)) ∧ Below w.heap.size w w' := by
 have P := zaa (packC_name s)
 have LP := zaa (fun w1 => zkc s w1 hs)
 generalize zst s = pv at *
 generalize znq s = pc at *
 clear hs
 go_enter Tryz.func282, Tryz.ntmps282
 go_wp2_with fail
 refine (LP.out _).mono ?_
 rintro e w1 ⟨rfl, hb1⟩
 go_wp2
 go_ret
 exact ⟨zac P.out, hb1⟩

set_option maxRecDepth 100000 in
set_option maxHeartbeats 4000000 in
theorem ztb (x : Den) (w : World) (hF : FD w) (hs : x.name.size ≤ maxLen) : Calls Tryz.prog 227 #[x.v] w fun e w' => e = .returned (.bool x.okB) ∧ Below w.heap.size w w' := by
 have LN := zaa (fun w1 => zms x.name w1 hs)
 have DF := zpz x
 have OF := @Den.okB_free x
 have ON := @Den.okB_not x
 obtain ⟨d, s, c⟩ := x
 simp only at LN DF ON hs
 unfold Den.v
 simp only
 have BW := zaa ((Below.refl w.heap.size w).alloc (Nat.le_refl _) (.cells #[.int .i64 d, .string s, .int .i64 c] 173))
 have CB : Hid (∀ w', Below (w.alloc (.cells #[.int .i64 d, .string s, .int .i64 c] 173)).heap.size (w.alloc (.cells #[.int .i64 d, .string s, .int .i64 c] 173)) w' → w'.cell? ⟨w.heap.size, 0, none⟩ = some (.int .i64 d) ∧ w'.cell? ⟨w.heap.size, 1, none⟩ = some (.string s) ∧ w'.cell? ⟨w.heap.size, 2, none⟩ = some (.int .i64 c)) := fun w' hb => zcc ((hb.block _ (by simp)).trans (zah rfl))
 obtain ⟨x0, x1, x2⟩ := CB.out _ (Below.refl _ _)
 obtain ⟨f0, f1, f2⟩ := FD.cells (hF.below BW.out)
 clear hF hs
 cases h0 : (Den.mk d s c).freeB with
 | true =>
  rw [h0] at DF
  have E := zaa (OF h0)
  clear OF ON LN CB h0
  go_enter Tryz.func227, Tryz.ntmps227
  go_wp2
  go_ret
  exact ⟨zac E.out.symm, BW.out⟩
 | false =>
  rw [h0] at DF
  have E := zaa (ON h0)
  clear OF ON h0
  cases h1 : nmB s with
  | false =>
   rw [h1] at E
   have N1 := zaa h1
   clear h1 CB
   go_enter Tryz.func227, Tryz.ntmps227
   go_wp2_with fail
   refine (LN.out _).mono ?_
   rw [N1.out]
   rintro e w1 ⟨rfl, hb1⟩
   have B1 := zaa (zab BW.out hb1 BW.out.size)
   clear hb1 x0 x1 x2 f0 f1 f2
   go_wp2
   go_ret
   exact ⟨zac (by rw [E.out, Bool.and_false, Bool.and_false]), B1.out⟩
  | true =>
   rw [h1] at E
   have N1 := zaa h1
   clear h1
   by_cases h2 : 0 ≤ d ∧ d < 16
   case neg =>
    have E2 := zaa (show (Den.mk d s c).okB = false by rw [E.out, decide_eq_false (show ¬ (0 ≤ d ∧ d ≤ 15) by omega), Bool.false_and, Bool.and_false])
    have H2 := zaa h2
    clear h2 E
    go_enter Tryz.func227, Tryz.ntmps227
    go_wp2_with fail
    refine (LN.out _).mono ?_
    rw [N1.out]
    rintro e w1 ⟨rfl, hb1⟩
    have B1 := zaa (zab BW.out hb1 BW.out.size)
    clear x0 x1 x2 f0 f1 f2
    obtain ⟨x0, x1, x2⟩ := CB.out _ hb1
    clear hb1 CB
    go_wp2_with fail
    refine (zaq _ _ _ H2.out).mono ?_
    rintro e w' ⟨rfl, hw'⟩
    subst w'
    go_wp2
    go_ret
    exact ⟨zac E2.out.symm, B1.out⟩
   by_cases h3 : 0 ≤ c ∧ c < 16
   case neg =>
    have E2 := zaa (show (Den.mk d s c).okB = false by rw [E.out, decide_eq_false (show ¬ (1 ≤ c ∧ c ≤ 15) by omega), Bool.false_and])
    have H2 := zaa h2
    have H3 := zaa h3
    clear h2 h3 E
    go_enter Tryz.func227, Tryz.ntmps227
    go_wp2_with fail
    refine (LN.out _).mono ?_
    rw [N1.out]
    rintro e w1 ⟨rfl, hb1⟩
    have B1 := zaa (zab BW.out hb1 BW.out.size)
    clear x0 x1 x2 f0 f1 f2
    obtain ⟨x0, x1, x2⟩ := CB.out _ hb1
    clear hb1 CB
    go_wp2_with fail
    refine (zal _ _ _ H2.out).mono ?_
    rintro e w' ⟨rfl, hw'⟩
    subst w'
    go_wp2_with fail
    refine (zaq _ _ _ H3.out).mono ?_
    rintro e w' ⟨rfl, hw'⟩
    subst w'
    go_wp2
    go_ret
    exact ⟨zac E2.out.symm, B1.out⟩
   have E2 := zaa (show (Den.mk d s c).okB = (c != 0) by
    rw [E.out, decide_eq_true (show 0 ≤ d ∧ d ≤ 15 by omega)]
    by_cases h : c = 0
    ·rw [h]; rfl
    ·rw [decide_eq_true (show 1 ≤ c ∧ c ≤ 15 by omega), eq_comm]; simpa using h)
   have H2 := zaa h2
   have H3 := zaa h3
   clear h2 h3 E
   go_enter Tryz.func227, Tryz.ntmps227
   go_wp2_with fail
   refine (LN.out _).mono ?_
   rw [N1.out]
   rintro e w1 ⟨rfl, hb1⟩
   have B1 := zaa (zab BW.out hb1 BW.out.size)
   clear x0 x1 x2 f0 f1 f2
   obtain ⟨x0, x1, x2⟩ := CB.out _ hb1
   clear hb1 CB
   go_wp2_with fail
   refine (zal _ _ _ H2.out).mono ?_
   rintro e w' ⟨rfl, hw'⟩
   subst w'
   go_wp2_with fail
   refine (zal _ _ _ H3.out).mono ?_
   rintro e w' ⟨rfl, hw'⟩
   subst w'
   go_wp2
   go_ret
   exact ⟨zac E2.out.symm, B1.out⟩

end Go.Proofs.YtipklbnfobckaaaGreatDoor

namespace Go.Proofs.YtipklbnfobckaaaGreatDoor
open Go.RowKit

theorem zwy (w1 : World) (x : Den) : Rd (w1.alloc (.cells #[.int .i64 x.dir, .string x.name, .int .i64 x.child] 173)) 3 (.slice (some ⟨w1.heap.size, 0, none⟩) 1 1) 1 (dens [x]) := by
 refine ⟨rfl, _, _, rfl, ⟨Nat.le_refl _, fun e => by cases e⟩, fun _ => ⟨w1.heap.size, 0, rfl, by simp, fun j hj => ?_⟩⟩
 obtain ⟨e0, e1, e2⟩ := zcc (zah (w := w1) (o := .cells #[.int .i64 x.dir, .string x.name, .int .i64 x.child] 173) rfl)
 rcases (show j = 0 ∨ j = 1 ∨ j = 2 by omega) with rfl | rfl | rfl
 ·exact e0
 ·exact e1
 ·exact e2
theorem zft (l : List Den) : ∀ u ∈ dens l, u.oneCell' = true := by
 intro u hu
 simp only [dens, List.mem_flatMap] at hu
 obtain ⟨m, _, hm⟩ := hu
 simp [Den.cells] at hm
 rcases hm with rfl | rfl | rfl <;> rfl
theorem zia (l l' : List Den) : dens (l ++ l') = dens l ++ dens l' := by simp [dens]
/-- A row of entries that grows. -/
structure DnI (W w : World) (vL : Value) (ds : List Den) : Prop where
 l : w.ownsRow W.heap.size 173 3 vL ds.length (dens ds)
 b : Below W.heap.size W w
theorem DnI.z {W w : World} {vL : Value} {ds : List Den} (h : DnI W w vL ds) : W.heap.size ≤ w.heap.size := h.b.size
theorem DnI.below {W w w' : World} {vL : Value} {ds : List Den} (h : DnI W w vL ds) (hb : Below w.heap.size w w') : DnI W w' vL ds :=
 ⟨((zaf h.l).below hb (Nat.le_refl _)).1, zab h.b hb h.z⟩
theorem DnI.grow {W w w' : World} {vL v' : Value} {ds : List Den} (h : DnI W w vL ds) (ms : List Den) (ho : w'.ownsRow W.heap.size 173 3 v' (ds.length + ms.length) (dens ds ++ dens ms)) (hg : w.grownBy w' vL.ownBlock) : DnI W w' v' (ds ++ ms) :=
 ⟨by rw [zia, List.length_append]; exact ho, h.b.grown hg h.z (fun q hq => (h.l.lt q hq).1)⟩
/-- The entries that are taken. -/
def zao (ps : List Den) : List Den := ps.filter fun x => !x.freeB
theorem taken_succ {ps : List Den} {k : Nat} (h : k < ps.length) : zao (ps.take (k + 1)) = if ps[k].freeB = true then zao (ps.take k) else zao (ps.take k) ++ [ps[k]] := by
 unfold zao
 rw [List.take_succ_eq_append_getElem h, List.filter_append]
 cases hf : ps[k].freeB <;> simp [hf]
theorem zsp (ps : List Den) : (zao ps).length ≤ ps.length := List.length_filter_le _ _

set_option maxRecDepth 100000 in
set_option maxHeartbeats 4000000 in
theorem zki (v : Value) (ps : List Den) (w : World) (h : RdD w v ps) (hn : ps.length ≤ 4096) (hF : FD w) :
  Calls Tryz.prog 163 #[v] w fun e w' => ∃ v', e = .returned v' ∧ Row w' 173 3 w.heap.size w'.heap.size v' (zao ps).length (dens (zao ps)) ∧ Below w.heap.size w w' := by
 obtain ⟨aP, cP, rfl, _, hcP⟩ := h.shape
 have HP := zaa hcP
 have F := zaa hF
 clear h hcP hF
 go_enter Tryz.func163, Tryz.ntmps163
 go_wp2
 go_loopw [3, 5, 8] (fun vL _ i wr => ∃ k : Nat, k ≤ ps.length ∧ i = .int .i64 k ∧ Hid (DnI w wr vL (zao (ps.take k))) ∧ w.heap.size ≤ wr.heap.size) (fun _ _ i _ => ps.length - (intOf i).toNat)
 case atStart => exact ⟨0, by omega, rfl, ⟨World.ownsRow_nil _ _ _ _, Below.refl _ _⟩, Nat.le_refl _⟩
 case round =>
  obtain ⟨k, hk, rfl, I, hz⟩ := hrel
  by_cases hlt : k < ps.length
  ·obtain ⟨b, o, rfl, hbl, hcell⟩ := HP.out (by omega)
   obtain ⟨a0, a1, a2⟩ := hcell k hlt
   have d0 := (I.out.b.cell (p := ⟨b, o + k * 3, none⟩) hbl).trans a0
   have d1 := (I.out.b.cell (p := ⟨b, o + k * 3 + 1, none⟩) hbl).trans a1
   have d2 := (I.out.b.cell (p := ⟨b, o + k * 3 + 2, none⟩) hbl).trans a2
   have k0 : (0 : Int) ≤ (k : Int) := by omega
   have k1 : (k : Int) < (ps.length : Int) := by omega
   have TS := zaa (taken_succ hlt)
   have TL := zsp (ps.take k)
   rw [List.length_take] at TL
   have DF := zpz ps[k]
   clear a0 a1 a2 hcell
   generalize ps[k] = x at *
   have IB : Hid (DnI w (wr.alloc (.cells #[.int .i64 x.dir, .string x.name, .int .i64 x.child] 173)) u3 (zao (ps.take k))) := I.out.below ((Below.refl _ _).alloc (Nat.le_refl _) _)
   obtain ⟨f0, f1, f2⟩ := FD.cells (F.out.below IB.out.b)
   have hzb := IB.out.z
   cases hf : x.freeB with
   | true =>
    have G : Hid (DnI w (wr.alloc (.cells #[.int .i64 x.dir, .string x.name, .int .i64 x.child] 173)) u3 (zao (ps.take (k + 1)))) := by unfold Hid; rw [TS.out, if_pos hf]; exact IB.out
    rw [hf] at DF
    clear IB I TS hf TL
    go_wp2
    go_roundw
    case rel => exact ⟨k + 1, by omega, by go_num, G, hzb⟩
    case measure => simp [intOf]; omega
   | false =>
    have IC : Hid (DnI w ((wr.alloc (.cells #[.int .i64 x.dir, .string x.name, .int .i64 x.child] 173)).alloc (.cells #[.int .i64 x.dir, .string x.name, .int .i64 x.child] 173)) u3 (zao (ps.take k))) := IB.out.below ((Below.refl _ _).alloc (Nat.le_refl _) _)
    have RC := zaa (zwy (wr.alloc (.cells #[.int .i64 x.dir, .string x.name, .int .i64 x.child] 173)) x)
    have hzc := IC.out.z
    have TN : Hid (zao (ps.take (k + 1)) = zao (ps.take k) ++ [x]) := by unfold Hid; rw [TS.out, if_neg (by rw [hf]; decide)]
    rw [hf] at DF
    rw [World.size_alloc] at RC
    clear IB I TS hf
    go_wp2_with (at_builtin; refine zai _ rfl (.tmp 15) (.tmp 17) 81 rfl w.heap.size 173 (.agg #[.int .i64 0, .string ⟨#[]⟩, .int .i64 0]) 3 32 Tryz.underlying81 zmk rfl (by decide) _ _ _ rfl IC.out.l _ 1 _ rfl RC.out (zft _) (by simp [maxLen]; omega) (by omega) (by omega) ?_)
    intro vN wN hownN hgrN
    have G := zaa (IC.out.grow [x] hownN hgrN)
    rw [← TN.out] at G
    have hzN := G.out.z
    clear hownN hgrN IC RC
    go_wp2
    go_roundw
    case rel => exact ⟨k + 1, by omega, by go_num, G, hzN⟩
    case measure => simp [intOf]; omega
  ·obtain rfl : k = ps.length := by omega
   have E := zaa (show zao (ps.take ps.length) = zao ps by rw [List.take_length])
   rw [E.out] at I
   obtain ⟨-, aL, cL, hvL, -⟩ := (zaf I.out.l).rd
   subst hvL
   go_wp2
   go_ret
   exact ⟨_, rfl, zaf I.out.l, I.out.b⟩
end Go.Proofs.YtipklbnfobckaaaGreatDoor

namespace Go.Proofs.YtipklbnfobckaaaGreatDoor
open Go.RowKit

def zej (ss : List ByteArray) : List Value := ss.map Value.string
theorem strs_len (ss : List ByteArray) : (zej ss).length = ss.length := by simp [zej]
theorem zqa (ss : List ByteArray) (k : Nat) (h : k < ss.length) : (zej ss)[k]? = some (.string ss[k]) := by simp [zej, h]
theorem strs_one (ss : List ByteArray) : ∀ u ∈ zej ss, u.oneCell' = true := by
 intro u hu
 simp only [zej, List.mem_map] at hu
 obtain ⟨s, _, rfl⟩ := hu
 rfl
def RdT (w : World) (v : Value) (ss : List ByteArray) : Prop := Rd w 1 v ss.length (zej ss)
theorem RdT.shape {w : World} {v : Value} {ss : List ByteArray} (h : RdT w v ss) : ∃ ao cap, v = .slice ao ss.length cap ∧ ss.length ≤ cap ∧ (0 < ss.length → ∃ b o, ao = some ⟨b, o, none⟩ ∧ b < w.heap.size ∧ ∀ k (h : k < ss.length), w.cell? ⟨b, o + k, none⟩ = some (.string ss[k])) := by
 obtain ⟨_, ao, cap, rfl, h2, h3⟩ := h
 refine ⟨ao, cap, rfl, h2.1, fun hn => ?_⟩
 obtain ⟨b, o, e, hb, hc⟩ := h3 hn
 exact ⟨b, o, e, hb, fun k hk => (hc k (by omega)).trans (zqa ss k hk)⟩
theorem info9 : (Tryz.prog.info? 9).map (fun i => (i.zero, i.size, i.bytes)) = some (some (.string ⟨#[]⟩), 1, 16) := by kernel_rfl
theorem zvk {B : Nat} {a w : World} (h : Below B a w) (n : Nat) : Below B a (w.drewN n) := by
 induction n with
 | zero => exact h
 | succ n ih => exact ⟨ih.os, ih.tape, ih.output, ih.size, ih.block⟩

set_option maxRecDepth 100000 in
set_option maxHeartbeats 2000000 in
theorem zns (va vb : Value) (ss : List ByteArray) (w : World) (ha : RdT w va ss) (hb : RdT w vb ss) (hn : ss.length ≤ 2147483648) :
  Calls Tryz.prog 83 #[va, vb] w fun e w' => e = .returned (.bool true) ∧ Below w.heap.size w w' := by
 obtain ⟨ao, cap, rfl, hcap, hc⟩ := ha.shape
 obtain ⟨ao2, cap2, rfl, hcap2, hc2⟩ := hb.shape
 clear ha hb
 go_enter Tryz.func83, Tryz.ntmps83
 go_wp2
 go_loopw [5] (fun i wr => ∃ k : Nat, k ≤ ss.length ∧ i = .int .i64 k ∧ Below w.heap.size w wr) (fun i _ => ss.length - (intOf i).toNat)
 case atStart => exact ⟨0, by omega, rfl, Below.refl _ _⟩
 case round =>
  obtain ⟨k, hk, rfl, hbw⟩ := hrel
  by_cases hlt : k < ss.length
  ·obtain ⟨b, o, rfl, hbl, hcell⟩ := hc (by omega)
   obtain ⟨b2, o2, rfl, hbl2, hcell2⟩ := hc2 (by omega)
   have hck : wr.cell? ⟨b, o + k, none⟩ = some (.string ss[k]) := (hbw.cell (p := ⟨b, o + k, none⟩) hbl).trans (hcell k hlt)
   have hck2 : wr.cell? ⟨b2, o2 + k, none⟩ = some (.string ss[k]) := (hbw.cell (p := ⟨b2, o2 + k, none⟩) hbl2).trans (hcell2 k hlt)
   have hlt' : (k : Int) < (ss.length : Int) := by omega
   have hge : (0 : Int) ≤ (k : Int) := by omega
   clear hcell hcell2 hc hc2
   generalize ss[k] = x at hck hck2
   go_wp2
   go_quiet (fail)
   go_wp2
   go_roundw
   case rel => exact ⟨k + 1, by omega, by go_num, zvk hbw _⟩
   case measure => simp [intOf]; omega
  ·go_wp2
   go_ret
   exact ⟨rfl, hbw⟩

/-- Marked texts. -/
def zdf (k : Int) (n : Nat) : List ByteArray := (List.range n).map fun i : Nat => mtx (k + (i : Int)).toNat
theorem zbv (k : Int) (n : Nat) : (zdf k n).length = n := by simp [zdf]
theorem marksT_at (k : Int) (n i : Nat) (h : i < (zdf k n).length) : (zdf k n)[i] = mtx (k + (i : Int)).toNat := by simp [zdf]
theorem zuv (k : Int) (n : Nat) : zdf k (n + 1) = zdf k n ++ [mtx (k + (n : Int)).toNat] := by unfold zdf; rw [List.range_succ, List.map_append]; rfl
def zji (k0 : Int) (k : Nat) (ss : List ByteArray) : List ByteArray := zdf k0 k ++ ss.drop k
theorem mktTo_len {k0 : Int} {k : Nat} {ss : List ByteArray} (h : k ≤ ss.length) : (zji k0 k ss).length = ss.length := by unfold zji; rw [List.length_append, zbv, List.length_drop]; omega
theorem mktTo_succ {k0 : Int} {ss : List ByteArray} {k : Nat} (h : k < ss.length) : (zej (zji k0 k ss)).set k (.string (mtx (k0 + (k : Int)).toNat)) = zej (zji k0 (k + 1) ss) := by
 have l1 : (zej (zdf k0 k)).length = k := by rw [strs_len, zbv]
 unfold zji
 rw [List.drop_eq_getElem_cons h, zuv]
 unfold zej at *
 rw [List.map_append, List.map_append, List.map_append, List.set_append_right _ _ (by omega), l1, Nat.sub_self, List.append_assoc]
 rfl

set_option maxRecDepth 100000 in
set_option maxHeartbeats 2000000 in
theorem zmr (v : Value) (ss : List ByteArray) (k0 : Int) (lo hi : Nat) (w : World) (h : Row w 9 1 lo hi v ss.length (zej ss)) (hz : hi ≤ w.heap.size) (hn : ss.length ≤ 16777216) (h0 : 0 ≤ k0) (h1 : k0 ≤ 1099511627776) :
  Calls Tryz.prog 84 #[v, .int .i64 k0] w fun e w' => e = .returned (.int .i64 (k0 + ss.length)) ∧ Row w' 9 1 lo hi v ss.length (zej (zdf k0 ss.length)) ∧ w.grownBy w' v.ownBlock ∧ True := by
 obtain ⟨_, ao, cap, rfl, hcap, hc⟩ := h.rd
 go_enter Tryz.func84, Tryz.ntmps84
 go_wp2
 go_loopw [1, 5] (fun c i wr => ∃ k : Nat, k ≤ ss.length ∧ i = .int .i64 k ∧ c = .int .i64 (k0 + k) ∧ Hid (Row wr 9 1 lo hi (.slice ao ss.length cap) ss.length (zej (zji k0 k ss)) ∧ w.grownBy wr (Value.slice ao ss.length cap).ownBlock) ∧ w.heap.size ≤ wr.heap.size) (fun _ i _ => ss.length - (intOf i).toNat)
 case atStart => exact ⟨0, by omega, rfl, by simp, ⟨by rw [show zji k0 0 ss = ss by simp [zji, zdf]]; exact h, World.grownBy.refl _ _⟩, Nat.le_refl _⟩
 case round =>
  obtain ⟨k, hk, rfl, rfl, I, hzr⟩ := hrel
  clear h hc
  have k0' : (0 : Int) ≤ (k : Int) := by omega
  by_cases hlt : k < ss.length
  ·have k1 : (k : Int) < (ss.length : Int) := by omega
   have MS := zaa (mktTo_succ (k0 := k0) hlt)
   have ML := mktTo_len (k0 := k0) hk
   have LM := zaa (fun w1 => zjo (k0 + (k : Int)).toNat w1 (by omega))
   rw [show (((k0 + (k : Int)).toNat : Nat) : Int) = k0 + (k : Int) by omega] at LM
   generalize mtx (k0 + (k : Int)).toNat = tx at *
   go_wp2_with fail
   refine (LM.out _).mono ?_
   rintro e w2 ⟨rfl, hb⟩
   have R2 := zaa (I.out.1.below hb (by omega))
   have G2 := zaa (zkz I.out.2 (zwt (row := (Value.slice ao ss.length cap).ownBlock) hb))
   have hz2 : wr.heap.size ≤ w2.heap.size := hb.size
   clear I hb LM
   obtain ⟨_, ao', cap', e', _, hc⟩ := R2.out.rd
   cases e'
   obtain ⟨b, o, rfl, hbl, _⟩ := hc (by omega)
   obtain ⟨rfl, hb1, hb2, _, hfr, hcl⟩ := R2.out.at
   have f0 := hfr k
   have e0 := (hcl k (by omega)).trans (zqa (zji k0 k ss) k (by omega))
   have R3 : Hid (Row (w2.setCell ⟨b, k, none⟩ (.string tx)) 9 1 lo hi (.slice (some ⟨b, 0, none⟩) ss.length cap) ss.length (zej (zji k0 (k + 1) ss)) ∧ w.grownBy (w2.setCell ⟨b, k, none⟩ (.string tx)) (Value.slice (some ⟨b, 0, none⟩) ss.length cap).ownBlock) := by
    refine ⟨?_, zbt G2.out (a := ⟨b, k, none⟩) rfl _⟩
    rw [← MS.out]
    exact R2.out.stored _ _
   generalize (zji k0 k ss)[k]'(by omega) = y at e0
   clear R2 G2 hc hfr hcl
   go_wp2
   go_roundw
   case rel => exact ⟨k + 1, by omega, by go_num, by go_num, R3, by simp; omega⟩
   case measure => simp [intOf]; omega
  ·obtain rfl : k = ss.length := by omega
   have E := zaa (show zji k0 ss.length ss = zdf k0 ss.length by simp [zji])
   go_wp2
   go_ret
   exact ⟨rfl, by have := I.out.1; rw [E.out] at this; exact this, I.out.2, trivial⟩

set_option maxRecDepth 100000 in
set_option maxHeartbeats 2000000 in
theorem zlm (v : Value) (n : Nat) (k0 : Int) (w : World) (h : RdT w v (zdf k0 n)) (hn : n ≤ 16777216) (h0 : 0 ≤ k0) (h1 : k0 ≤ 1099511627776) :
  Calls Tryz.prog 85 #[v, .int .i64 k0] w fun e w' => e = .returned (.int .i64 (k0 + n)) ∧ Below w.heap.size w w' := by
 obtain ⟨ao, cap, hv, hcap, hc⟩ := h.shape
 rw [zbv] at hv hcap
 subst hv
 have HC := zaa hc
 clear h hc
 go_enter Tryz.func85, Tryz.ntmps85
 go_wp2
 go_loopw [1, 5] (fun c i wr => ∃ k : Nat, k ≤ n ∧ i = .int .i64 k ∧ c = .int .i64 (k0 + k) ∧ Hid (Below w.heap.size w wr)) (fun _ i _ => n - (intOf i).toNat)
 case atStart => exact ⟨0, by omega, rfl, by simp, Below.refl _ _⟩
 case round =>
  obtain ⟨k, hk, rfl, rfl, B⟩ := hrel
  have k0' : (0 : Int) ≤ (k : Int) := by omega
  by_cases hlt : k < n
  ·obtain ⟨b, o, rfl, hbl, hcell⟩ := HC.out (by rw [zbv]; omega)
   have k1 : (k : Int) < (n : Int) := by omega
   have c0 := hcell k (by rw [zbv]; exact hlt)
   rw [marksT_at] at c0
   have LM := zaa (fun w1 => zjo (k0 + (k : Int)).toNat w1 (by omega))
   rw [show (((k0 + (k : Int)).toNat : Nat) : Int) = k0 + (k : Int) by omega] at LM
   generalize mtx (k0 + (k : Int)).toNat = tx at *
   have hblr : b < wr.heap.size := by have := B.out.size; omega
   have d0 := (B.out.cell (p := ⟨b, o + k, none⟩) hbl).trans c0
   have SK : Hid (∀ w', Below wr.heap.size wr w' → w'.cell? ⟨b, o + k, none⟩ = some (.string tx)) := fun w' hb => (hb.cell (p := ⟨b, o + k, none⟩) hblr).trans d0
   have hzr : w.heap.size ≤ wr.heap.size := B.out.size
   clear hcell c0
   go_wp2_with fail
   go_region_held3 (fun w' => w'.cell? ⟨b, o + k, none⟩ = some (.string tx))
    (exact SK.out _ (by repeat (first | exact BF.out | exact Below.refl _ _ | refine Below.drew ?_)))
    (first
     | (go_at_call 142; refine (LM.out _).mono ?_; rintro e w1 ⟨rfl, hb1⟩; have BF : Hid (Below wr.heap.size wr w1) := (by first | exact hb1 | exact zab (by repeat (first | exact Below.refl _ _ | refine Below.drew ?_)) hb1 (Nat.le_refl _)); clear hb1))
   all_goals
    have B3 := zaa (zab B.out BF.out hzr)
    clear SK d0
    go_wp2
    go_roundw
    case rel => exact ⟨k + 1, by omega, by go_num, by go_num, (by repeat (first | exact B3.out | refine Below.drew ?_))⟩
    case measure => simp [intOf]; omega
  ·obtain rfl : k = n := by omega
   go_wp2
   go_ret
   exact ⟨rfl, B.out⟩
end Go.Proofs.YtipklbnfobckaaaGreatDoor

namespace Go.Proofs.YtipklbnfobckaaaGreatDoor
open Go.RowKit

/-- A row of texts that grows. -/
structure SnI (W w : World) (vL : Value) (ss : List ByteArray) : Prop where
 l : w.ownsRow W.heap.size 9 1 vL ss.length (zej ss)
 b : Below W.heap.size W w
theorem SnI.z {W w : World} {vL : Value} {ss : List ByteArray} (h : SnI W w vL ss) : W.heap.size ≤ w.heap.size := h.b.size
theorem SnI.below {W w w' : World} {vL : Value} {ss : List ByteArray} (h : SnI W w vL ss) (hb : Below w.heap.size w w') : SnI W w' vL ss :=
 ⟨((zaf h.l).below hb (Nat.le_refl _)).1, zab h.b hb h.z⟩
theorem strs_app (l l' : List ByteArray) : zej (l ++ l') = zej l ++ zej l' := by simp [zej]
theorem SnI.grow {W w w' : World} {vL v' : Value} {ss : List ByteArray} (h : SnI W w vL ss) (l : List ByteArray) {m : Nat} (hm : m = l.length) (ho : w'.ownsRow W.heap.size 9 1 v' (ss.length + m) (zej ss ++ zej l)) (hg : w.grownBy w' vL.ownBlock) : SnI W w' v' (ss ++ l) :=
 ⟨by rw [strs_app, List.length_append, ← hm]; exact ho, h.b.grown hg h.z (fun q hq => (h.l.lt q hq).1)⟩
theorem SnI.rd {W w : World} {vL : Value} {ss : List ByteArray} (h : SnI W w vL ss) : RdT w vL ss := (zaf h.l).rd
theorem SnI.form {W w : World} {vL : Value} {ss : List ByteArray} (h : SnI W w vL ss) (hn : vL ≠ .slice none 0 0) : ∃ b c, vL = .slice (some ⟨b, 0, none⟩) ss.length c ∧ ss.length ≤ c ∧ W.heap.size ≤ b ∧ b < w.heap.size := by
 rcases (zaf h.l).shape with ⟨e, _⟩ | ⟨b, c, rfl, hc, _⟩
 ·exact absurd e hn
 ·obtain ⟨_, h1, _, h2, _⟩ := (zaf h.l).at
  exact ⟨b, c, rfl, hc, h1, h2⟩
end Go.Proofs.YtipklbnfobckaaaGreatDoor
