/- Several texts laid together: PbC, PbD, PcA, PcB. -/
import Derived.Test.YtbbmljakfbhnpaaGreatDoorZAK
import Derived.Deep.LoopGhost
import Derived.Laws.OwnMore
import Derived.Deep.RegionHeld3
namespace Go.Proofs.YtbbmljakfbhnpaaGreatDoor
open Go.RowKit

theorem byte_at (s : ByteArray) (k : Nat) (h : k < s.size) : s.data.toList[k]'(by rw [← Lib.size_eq]; exact h) = s[k] := by
 rw [Array.getElem_toList]
 rfl
theorem byte_is (c : UInt8) : ((c.toNat : Int) == 47) = decide (c = 47) := by
 by_cases h : c = 47
 ·subst h; rfl
 ·rw [decide_eq_false h, beq_eq_false_iff_ne]
  intro e
  apply h
  apply UInt8.toNat_inj.1
  show c.toNat = 47
  omega
theorem cut_begin (l : List UInt8) : zko [] l = [] ++ zko ((l.take 0).drop 0) (l.drop 0) := by simp
theorem cut_yes {l : List UInt8} {ds : List (List UInt8)} {k f : Nat} (hk : k < l.length) (h : zko [] l = ds ++ zko ((l.take k).drop f) (l.drop k)) (hc : l[k] = 47) :
  zko [] l = (ds ++ [(l.take k).drop f]) ++ zko ((l.take (k + 1)).drop (k + 1)) (l.drop (k + 1)) := by
 rw [List.drop_eq_getElem_cons hk, zgo, if_pos hc] at h
 rw [h, List.append_assoc, List.drop_of_length_le (l := l.take (k + 1)) (by rw [List.length_take]; omega)]
 rfl
theorem cut_no {l : List UInt8} {ds : List (List UInt8)} {k f : Nat} (hk : k < l.length) (hf : f ≤ k) (h : zko [] l = ds ++ zko ((l.take k).drop f) (l.drop k)) (hc : ¬ l[k] = 47) :
  zko [] l = ds ++ zko ((l.take (k + 1)).drop f) (l.drop (k + 1)) := by
 rw [List.drop_eq_getElem_cons hk, zgo, if_neg hc] at h
 rw [h, List.take_succ_eq_append_getElem hk, List.drop_append_of_le_length (by rw [List.length_take]; omega)]
theorem cut_end {s : ByteArray} {ds : List (List UInt8)} {f : Nat} (h : zko [] s.data.toList = ds ++ zko ((s.data.toList.take s.size).drop f) (s.data.toList.drop s.size)) : pcs s = ds.map mkB ++ [s.extract f s.size] := by
 unfold pcs
 rw [h, List.drop_of_length_le (l := s.data.toList) (by rw [← Lib.size_eq]; exact Nat.le_refl _), zlh, List.map_append]
 show ds.map mkB ++ [mkB _] = _
 rw [zmv]

set_option maxRecDepth 100000 in
set_option maxHeartbeats 4000000 in
theorem l00Cut_any (s : ByteArray) (w : World) (hs : s.size ≤ 65536) :
  Calls Tryz.prog 224 #[.string s, .int .u8 47] w fun e w' => ∃ v', e = .returned v' ∧ Row w' 9 1 w.heap.size w'.heap.size v' (pcs s).length (zex (pcs s)) ∧ Below w.heap.size w w' := by
 have START : Hid (SnI w (w.alloc (.cells #[] 9)) (.slice (some ⟨w.heap.size, 0, none⟩) 0 0) []) := ⟨World.ownsRow_lit w #[] 0 (Nat.le_refl _) (by simp [maxLen]) (by simp), (Below.refl _ _).alloc (Nat.le_refl _) _⟩
 have HL := zaa (Lib.size_eq s)
 go_enter Tryz.func224, Tryz.ntmps224
 go_wp2
 go_loopg [5, 6, 7] s.size (fun g vL fr i wr => ∃ (k f : Nat) (ds : List (List UInt8)), k + g = s.size ∧ f ≤ k ∧ fr = .int .i64 f ∧ i = .int .i64 k ∧ vL ≠ .slice none 0 0 ∧ ds.length ≤ k ∧ Hid (SnI w wr vL (ds.map mkB) ∧ zko [] s.data.toList = ds ++ zko ((s.data.toList.take k).drop f) (s.data.toList.drop k)))
 case atStart => exact ⟨0, 0, [], by omega, by omega, rfl, rfl, (fun e => by cases e), Nat.le_refl _, START.out, cut_begin _⟩
 case round =>
  obtain ⟨k, f, ds, hkg, hf, rfl, rfl, hv, hd, I⟩ := hrel
  clear START
  have k0 : (0 : Int) ≤ (k : Int) := by omega
  have f0 : (0 : Int) ≤ (f : Int) := by omega
  have fk : (f : Int) ≤ (k : Int) := by omega
  have DL : (ds.map mkB).length = ds.length := List.length_map ..
  by_cases hlt : k < s.size
  ·have k1 : (k : Int) < (s.size : Int) := by omega
   have k2 : (k : Int) ≤ (s.size : Int) := by omega
   have hkl : k < s.data.toList.length := by rw [← HL.out]; exact hlt
   by_cases c : s[k] = 47
   ·have q : ((s[k].toNat : Int) == 47) = true := by rw [byte_is, decide_eq_true c]
    have N := zaa (cut_yes hkl I.out.2 (by rw [byte_at s k hlt]; exact c))
    have MN : Hid ((ds ++ [(s.data.toList.take k).drop f]).map mkB = ds.map mkB ++ [s.extract f k]) := by unfold Hid; rw [List.map_append, ← zmv]; rfl
    have JB : Hid (SnI w (wr.alloc (.cells #[.string (s.extract f k)] 9)) u5 (ds.map mkB)) := I.out.1.below ((Below.refl _ _).alloc (Nat.le_refl _) _)
    have RB := zaa (zhi wr (s.extract f k))
    have hzb := JB.out.z
    simp only [World.size_alloc] at hzb
    clear I c
    go_wp2_with (at_builtin; refine zae _ rfl (.tmp 20) (.tmp 25) 60 rfl w.heap.size 9 (.string ⟨#[]⟩) 1 16 Tryz.underlying60 zen rfl (by decide) _ _ _ rfl JB.out.l _ 1 _ rfl RB.out (zbf _) (by simp [maxLen]; omega) (by simp; omega) JB.out.z ?_)
    intro vN wN hownN hgrN
    have G := zaa (JB.out.grow [s.extract f k] rfl (by rw [List.length_map]; exact hownN) hgrN)
    rw [← MN.out] at G
    have hv2 := zaa (G.out.some_ (by simp))
    clear hownN hgrN JB RB q MN hv
    go_wp2
    go_roundg (s.size - (k + 1))
    case measure => omega
    case rel => exact ⟨k + 1, k + 1, ds ++ [(s.data.toList.take k).drop f], by omega, Nat.le_refl _, by go_num, by go_num, hv2.out, by simp; omega, G.out, N.out⟩
   ·have q : ((s[k].toNat : Int) == 47) = false := by rw [byte_is, decide_eq_false c]
    have N := zaa (cut_no hkl hf I.out.2 (by rw [byte_at s k hlt]; exact c))
    have I1 := zaa I.out.1
    have HV := zaa hv
    clear I c DL hv
    go_wp2
    go_roundg (s.size - (k + 1))
    case measure => omega
    case rel => exact ⟨k + 1, f, ds, by omega, by omega, rfl, by go_num, HV.out, by omega, I1.out, N.out⟩
  ·obtain rfl : k = s.size := by omega
   have MN := zaa (cut_end I.out.2)
   have JB : Hid (SnI w (wr.alloc (.cells #[.string (s.extract f s.size)] 9)) u5 (ds.map mkB)) := I.out.1.below ((Below.refl _ _).alloc (Nat.le_refl _) _)
   have RB := zaa (zhi wr (s.extract f s.size))
   have hzb := JB.out.z
   simp only [World.size_alloc] at hzb
   clear I
   go_wp2_with (at_builtin; refine zae _ rfl (.tmp 29) (.tmp 33) 60 rfl w.heap.size 9 (.string ⟨#[]⟩) 1 16 Tryz.underlying60 zen rfl (by decide) _ _ _ rfl JB.out.l _ 1 _ rfl RB.out (zbf _) (by simp [maxLen]; omega) (by simp; omega) JB.out.z ?_)
   intro vN wN hownN hgrN
   have G := zaa (JB.out.grow [s.extract f s.size] rfl (by rw [List.length_map]; exact hownN) hgrN)
   rw [← MN.out] at G
   clear hownN hgrN JB RB MN hv
   go_wp2
   go_ret
   exact ⟨_, rfl, zac G.out.l, G.out.b⟩
end Go.Proofs.YtbbmljakfbhnpaaGreatDoor

namespace Go.Proofs.YtbbmljakfbhnpaaGreatDoor
open Go.RowKit

/-- The text is a slash. -/
def zpk (s : ByteArray) : Bool := s.toList == [47]
/-- The pieces are right: one empty ahead, then one to six short names. -/
def spN (s : ByteArray) : Bool := decide (2 ≤ (pcs s).length ∧ (pcs s).length ≤ 7) && (((pcs s).getD 0 ⟨#[]⟩).toList.isEmpty && ((pcs s).drop 1).all nmB)
def spB (s : ByteArray) : Bool := zpk s || spN s
def spL (s : ByteArray) : List ByteArray := if zpk s = true then [] else if spN s = true then (pcs s).drop 1 else []
theorem sp_slash {s : ByteArray} (h : zpk s = true) : spB s = true ∧ spL s = [] := by
 unfold spB spL
 rw [h]
 exact ⟨rfl, if_pos rfl⟩
theorem sp_no {s : ByteArray} (h : zpk s = false) (h2 : spN s = false) : spB s = false ∧ spL s = [] := by
 unfold spB spL
 rw [h, h2]
 exact ⟨rfl, rfl⟩
theorem sp_yes {s : ByteArray} (h : zpk s = false) (h2 : spN s = true) : spB s = true ∧ spL s = (pcs s).drop 1 := by
 unfold spB spL
 rw [h, h2]
 exact ⟨rfl, rfl⟩
theorem znx (w : World) (a : Addr) : RdT w (.slice (some a) 0 0) [] := ⟨rfl, some a, 0, rfl, ⟨Nat.le_refl _, fun e => by cases e⟩, fun h => absurd h (by simp)⟩

set_option maxRecDepth 100000 in
set_option maxHeartbeats 4000000 in
theorem zkf (s : ByteArray) (w : World) (hs : s.size ≤ 65536) :
  Calls Tryz.prog 206 #[.string s] w fun e w' => ∃ v', e = .returned (.tuple #[v', .bool (spB s)]) ∧ RdT w' v' (spL s) ∧ Below w.heap.size w w' := by
 have LC := zaa (fun w1 => l00Cut_any s w1 hs)
 have BE := zaa (fun w1 : World => (Below.refl w1.heap.size w1).alloc (Nat.le_refl _) (.cells #[] 9))
 cases c1 : zpk s with
 | true =>
  obtain ⟨E1, E2⟩ := sp_slash c1
  rw [E1, E2]
  have c2 : (s.toList == [47]) = true := c1
  clear c1 E1 E2
  go_enter Tryz.func206, Tryz.ntmps206
  go_wp2
  go_ret2
  exact ⟨_, rfl, znx _ _, BE.out _⟩
 | false =>
  have c2 : (s.toList == [47]) = false := c1
  have NO := zaa (fun h => sp_no c1 h)
  have YES := zaa (fun h => sp_yes c1 h)
  have PL := pcs_len s
  have PP := pcs_pos s
  have PS := zaa (pcs_size s)
  have SN := zaa (show spN s = (decide (2 ≤ (pcs s).length ∧ (pcs s).length ≤ 7) && (((pcs s).getD 0 ⟨#[]⟩).toList.isEmpty && ((pcs s).drop 1).all nmB)) from rfl)
  clear c1
  generalize spB s = sb at *
  generalize spL s = sl at *
  generalize spN s = sn at *
  generalize pcs s = P at *
  have hp0 : 0 < P.length := by omega
  have SA : Hid ((∀ j (h : j < P.length), 1 ≤ j → nmB P[j] = true) → (P.drop 1).all nmB = true) := fun h => by
   rw [List.all_eq_true]
   intro x hx
   obtain ⟨j, hj, rfl⟩ := List.getElem_of_mem hx
   rw [List.length_drop] at hj
   rw [List.getElem_drop]
   exact h (1 + j) (by omega) (by omega)
  have SF : Hid (∀ j (h : j < P.length), 1 ≤ j → nmB P[j] = false → (P.drop 1).all nmB = false) := fun j h h1 q => by
   rw [List.all_eq_false]
   refine ⟨P[j], ?_, by rw [q]; simp⟩
   have e : P[j] = (P.drop 1)[j - 1]'(by rw [List.length_drop]; omega) := by rw [List.getElem_drop]; congr 1; omega
   rw [e]
   exact List.getElem_mem _
  have S0 : Hid (P.getD 0 ⟨#[]⟩ = P[0]) := by unfold Hid; rw [List.getD_eq_getElem?_getD, List.getElem?_eq_getElem hp0]; rfl
  go_enter Tryz.func206, Tryz.ntmps206
  go_wp2_with fail
  refine (LC.out _).mono ?_
  rintro e w1 ⟨v1, rfl, hr1, hb1⟩
  have R1 : Hid (RdT w1 v1 P) := hr1.rd
  obtain ⟨aP, cP, rfl, hcap, hcP⟩ := R1.out.shape
  obtain ⟨b, o, rfl, hbl, hcell⟩ := hcP hp0
  have HC := zaa hcell
  have B1 := zaa hb1
  have c0 := hcell 0 hp0
  rw [Nat.add_zero] at c0
  clear hr1 hb1 hcP hcell LC
  by_cases n1 : P.length < 2
  ·have E : Hid (sn = false) := by unfold Hid; rw [SN.out, decide_eq_false (by omega)]; rfl
   obtain ⟨e1, e2⟩ := NO.out E.out
   have n2 : (P.length : Int) < 2 := by omega
   subst e1 e2
   clear NO YES SN SA SF S0 n1
   go_wp2
   go_ret2
   exact ⟨_, rfl, znx _ _, zab B1.out (BE.out w1) B1.out.size⟩
  have n2 : ¬ (P.length : Int) < 2 := by omega
  by_cases n3 : 7 < P.length
  ·have E : Hid (sn = false) := by unfold Hid; rw [SN.out, decide_eq_false (by omega)]; rfl
   obtain ⟨e1, e2⟩ := NO.out E.out
   have n4 : (P.length : Int) > 7 := by omega
   subst e1 e2
   clear NO YES SN SA SF S0 n1 n3
   go_wp2
   go_ret2
   exact ⟨_, rfl, znx _ _, zab B1.out (BE.out w1) B1.out.size⟩
  have n4 : ¬ (P.length : Int) > 7 := by omega
  have SN2 : Hid (sn = (P[0].toList.isEmpty && (P.drop 1).all nmB)) := by unfold Hid; rw [SN.out, S0.out, decide_eq_true (by omega), Bool.true_and]
  have p1 : (0 : Int) < (P.length : Int) := by omega
  clear SN S0
  cases c3 : P[0].toList.isEmpty with
  | false =>
   have E : Hid (sn = false) := by unfold Hid; rw [SN2.out, c3]; rfl
   obtain ⟨e1, e2⟩ := NO.out E.out
   subst e1 e2
   clear NO YES SN2 SA SF n1 n3
   generalize P[0] = p0 at *
   go_wp2
   go_ret2
   exact ⟨_, rfl, znx _ _, zab B1.out (BE.out w1) B1.out.size⟩
  | true =>
  have SN3 : Hid (sn = (P.drop 1).all nmB) := by unfold Hid; rw [SN2.out, c3]; rfl
  clear SN2
  generalize P[0] = p0 at *
  go_wp2
  clear c0 c3
  go_loopg [5] (P.length - 1) (fun g i wr => ∃ k : Nat, k + g = P.length ∧ 1 ≤ k ∧ i = .int .i64 k ∧ wr = w1 ∧ Hid (∀ j (h : j < P.length), 1 ≤ j → j < k → nmB P[j] = true))
  case atStart => exact ⟨1, by omega, Nat.le_refl _, rfl, rfl, fun j h a b => absurd b (by omega)⟩
  case round =>
   obtain ⟨k, hk, hk1, rfl, rfl, H⟩ := hrel
   have k0 : (0 : Int) ≤ (k : Int) := by omega
   by_cases hlt : k < P.length
   ·have k1 : (k : Int) < (P.length : Int) := by omega
    have d0 := HC.out k hlt
    have LN := zaa (fun w2 => zhy P[k] w2 (by have := PS.out k hlt; unfold maxLen; omega))
    cases q : nmB P[k] with
    | false =>
     have E : Hid (sn = false) := by unfold Hid; rw [SN3.out]; exact SF.out k hlt hk1 q
     obtain ⟨e1, e2⟩ := NO.out E.out
     rw [q] at LN
     subst e1 e2
     clear NO YES SN3 SA SF n1 n3 H q
     generalize P[k] = x at *
     go_wp2_with fail
     refine (LN.out _).mono ?_
     rintro e w2 ⟨rfl, hw2⟩
     subst w2
     go_wp2
     go_ret2
     exact ⟨_, rfl, znx _ _, zab B1.out (BE.out _) B1.out.size⟩
    | true =>
     have H2 : Hid (∀ j (h : j < P.length), 1 ≤ j → j < k + 1 → nmB P[j] = true) := fun j h a c => by
      by_cases e : j = k
      ·subst e; exact q
      ·exact H.out j h a (by omega)
     rw [q] at LN
     clear H q
     generalize P[k] = x at d0 LN
     go_wp2_with fail
     refine (LN.out _).mono ?_
     rintro e w2 ⟨rfl, hw2⟩
     subst w2
     go_wp2
     go_roundg (P.length - (k + 1))
     case measure => omega
     case rel => exact ⟨k + 1, by omega, by omega, by go_num, rfl, H2.out⟩
   ·have E : Hid (sn = true) := by unfold Hid; rw [SN3.out]; exact SA.out (fun j h a => H.out j h a (by omega))
    obtain ⟨e1, e2⟩ := YES.out E.out
    have RD : Hid (Rd wr 1 (.slice (some ⟨b, o + 1, none⟩) (P.length - 1) (cP - 1)) (P.length - 1) (zex (P.drop 1))) := zqn R1.out (by omega)
    have DL := zaa (List.length_drop (l := P) (i := 1))
    have cc : ¬ cP = 1 := by omega
    subst e1 e2
    clear NO YES SN3 SA SF H
    go_wp2
    go_ret2
    exact ⟨_, rfl, (by unfold RdT; rw [DL.out]; exact RD.out), B1.out⟩

theorem spL_len {s : ByteArray} : (spL s).length ≤ 6 := by
 unfold spL
 split
 ·simp
 ·split
  ·rename_i h
   unfold spN at h
   simp only [Bool.and_eq_true, decide_eq_true_eq] at h
   rw [List.length_drop]
   omega
  ·simp
end Go.Proofs.YtbbmljakfbhnpaaGreatDoor

namespace Go.Proofs.YtbbmljakfbhnpaaGreatDoor
open Go.RowKit

/-- An entry has this name in this directory. -/
def zdl (d : Int) (nm : ByteArray) (x : Den) : Bool := decide (0 ≤ x.child) && (x.dir == d && x.name.toList == nm.toList)
/-- The first such entry. -/
def zbz (ps : List Den) (d : Int) (nm : ByteArray) : Option Nat := ps.findIdx? (zdl d nm)
def zka (ps : List Den) (d : Int) (nm : ByteArray) : Int := match zbz ps d nm with | none => -1 | some k => (k : Int)
def zat (ps : List Den) (k : Nat) : Int := (ps.getD k ⟨0, ⟨#[]⟩, 0⟩).child
theorem zdt {ps : List Den} {k : Nat} (h : k < ps.length) : zat ps k = ps[k].child := by
 unfold zat
 rw [List.getD_eq_getElem?_getD, List.getElem?_eq_getElem h]; rfl
theorem ent_no {ps : List Den} {d : Int} {nm : ByteArray} (h : ∀ j (h : j < ps.length), zdl d nm ps[j] = false) : zbz ps d nm = none := by
 unfold zbz
 rw [List.findIdx?_eq_none_iff]
 intro x hx
 obtain ⟨j, hj, rfl⟩ := List.getElem_of_mem hx
 exact h j hj
theorem ent_yes {ps : List Den} {d : Int} {nm : ByteArray} {k : Nat} (hk : k < ps.length) (h : ∀ j (h : j < ps.length), j < k → zdl d nm ps[j] = false) (e : zdl d nm ps[k] = true) : zbz ps d nm = some k := by
 unfold zbz
 rw [List.findIdx?_eq_some_iff_getElem]
 exact ⟨hk, e, fun j hj => by rw [h j (by omega) hj]; simp⟩
theorem ent_some {ps : List Den} {d : Int} {nm : ByteArray} {k : Nat} (h : zbz ps d nm = some k) : ∃ hk : k < ps.length, zdl d nm ps[k] = true := by
 unfold zbz at h
 rw [List.findIdx?_eq_some_iff_getElem] at h
 obtain ⟨hk, e, _⟩ := h
 exact ⟨hk, e⟩
theorem hit_child {d : Int} {nm : ByteArray} {x : Den} (h : zdl d nm x = true) : 0 ≤ x.child := by
 unfold zdl at h
 simp only [Bool.and_eq_true, decide_eq_true_eq] at h
 exact h.1
/-- Where a path leads, name by name: the inode and a code. -/
def wk (ws : List Ino) (ps : List Den) : Int → List ByteArray → Int × Int
 | z, [] => (z, 0)
 | z, n :: ns => if zak ws z = 2 then (match zbz ps z n with | none => (0, 5) | some k => wk ws ps (zat ps k) ns) else (0, 10)
theorem zlf {ws : List Ino} {ps : List Den} {z : Int} {n : ByteArray} {ns : List ByteArray} (h : ¬ zak ws z = 2) : wk ws ps z (n :: ns) = (0, 10) := by
 show (if zak ws z = 2 then _ else _) = _
 rw [if_neg h]
theorem zrg {ws : List Ino} {ps : List Den} {z : Int} {n : ByteArray} {ns : List ByteArray} (h : zak ws z = 2) (e : zbz ps z n = none) : wk ws ps z (n :: ns) = (0, 5) := by
 show (if zak ws z = 2 then (match zbz ps z n with | none => (0, 5) | some k => wk ws ps (zat ps k) ns) else _) = _
 rw [if_pos h, e]
theorem zqx {ws : List Ino} {ps : List Den} {z : Int} {n : ByteArray} {ns : List ByteArray} {k : Nat} (h : zak ws z = 2) (e : zbz ps z n = some k) : wk ws ps z (n :: ns) = wk ws ps (zat ps k) ns := by
 show (if zak ws z = 2 then (match zbz ps z n with | none => (0, 5) | some k => wk ws ps (zat ps k) ns) else _) = _
 rw [if_pos h, e]
theorem zfu {ws : List Ino} {ps : List Den} (h : zfm ws ps = true) {d : Int} {nm : ByteArray} {k : Nat} (e : zbz ps d nm = some k) : k < ps.length ∧ 0 ≤ zat ps k ∧ zat ps k ≤ 15 := by
 obtain ⟨hk, q⟩ := ent_some e
 have := hit_child q
 rw [zdt hk]
 rcases zqg h k hk with r | r
 ·omega
 ·exact ⟨hk, by omega, by omega⟩
theorem zll {ws : List Ino} {ps : List Den} (h : zfm ws ps = true) : ∀ (ns : List ByteArray) (z : Int), 0 ≤ z ∧ z ≤ 15 → 0 ≤ (wk ws ps z ns).1 ∧ (wk ws ps z ns).1 ≤ 15
 | [], z, hz => hz
 | n :: ns, z, hz => by
  by_cases c : zak ws z = 2
  ·cases e : zbz ps z n with
   | none => rw [zrg c e]; exact ⟨by decide, by decide⟩
   | some k => rw [zqx c e]; exact zll h ns _ (zfu h e).2
  ·rw [zlf c]; exact ⟨by decide, by decide⟩

set_option maxRecDepth 100000 in
set_option maxHeartbeats 4000000 in
theorem zdx (v : Value) (ws : List Ino) (ps : List Den) (d : Int) (nm : ByteArray) (w : World) (h : RdIm w v ws ps) (hn : ps.length ≤ 1048576) :
  Calls Tryz.prog 106 #[v, .int .i64 d, .string nm] w fun e w' => e = .returned (.int .i64 (zka ps d nm)) ∧ Below w.heap.size w w' := by
 obtain ⟨vW, vP, rfl, h1, h2⟩ := h
 obtain ⟨aW, cW, rfl, _⟩ := h1.shape
 obtain ⟨aP, cP, rfl, _, hcP⟩ := h2.shape
 have HZ := zaa hcP
 clear h1 h2 hcP
 obtain ⟨W, hW⟩ : ∃ W, W = w.alloc (.cells #[.slice aW ws.length cW, .slice aP ps.length cP] 26) := ⟨_, rfl⟩
 have CA : Hid (∀ w', Below W.heap.size W w' → w'.cell? ⟨w.heap.size, 1, none⟩ = some (.slice aP ps.length cP)) := fun w' hb => by
  have : w'.heap[w.heap.size]? = some (.cells #[.slice aW ws.length cW, .slice aP ps.length cP] 26 (0, 0)) := (hb.block _ (by rw [hW]; simp)).trans (by rw [hW]; exact zag rfl)
  exact (zad this).2.1
 have BW : Hid (Below w.heap.size w W) := by rw [hW]; exact (Below.refl _ _).alloc (Nat.le_refl _) _
 have hz : w.heap.size ≤ W.heap.size := BW.out.size
 go_enter Tryz.func106, Tryz.ntmps106
 go_wp2
 rw [← hW]
 clear hW
 go_loopg [7] ps.length (fun g i wr => ∃ k : Nat, k + g = ps.length ∧ i = .int .i64 k ∧ Hid (Below W.heap.size W wr ∧ ∀ j (h : j < ps.length), j < k → zdl d nm ps[j] = false))
 case atStart => exact ⟨0, by omega, rfl, Below.refl _ _, fun j h a => absurd a (by omega)⟩
 case round =>
  obtain ⟨k, hk, rfl, J⟩ := hrel
  have x1 := CA.out wr J.out.1
  have B := zaa (zab BW.out J.out.1 hz)
  have k0 : (0 : Int) ≤ (k : Int) := by omega
  by_cases hlt : k < ps.length
  ·obtain ⟨b, o, rfl, hbl, hcell⟩ := HZ.out (by omega)
   obtain ⟨c0, c1, c2⟩ := hcell k hlt
   have d0 := (B.out.cell (p := ⟨b, o + k * 3, none⟩) hbl).trans c0
   have d1 := (B.out.cell (p := ⟨b, o + k * 3 + 1, none⟩) hbl).trans c1
   have d2 := (B.out.cell (p := ⟨b, o + k * 3 + 2, none⟩) hbl).trans c2
   have k1 : (k : Int) < (ps.length : Int) := by omega
   have HY := zaa (fun e : zdl d nm ps[k] = true => show zka ps d nm = (k : Int) by unfold zka; rw [ent_yes hlt J.out.2 e])
   have HX := zaa (fun (e : zdl d nm ps[k] = false) j (h : j < ps.length) (a : j < k + 1) => show zdl d nm ps[j] = false by
    by_cases q : j = k
    ·subst q; exact e
    ·exact J.out.2 j h (by omega))
   have EH := zaa (show zdl d nm ps[k] = (decide (0 ≤ ps[k].child) && (ps[k].dir == d && ps[k].name.toList == nm.toList)) from rfl)
   have J1 := zaa J.out.1
   clear hcell c0 c1 c2 J
   generalize zdl d nm ps[k] = hit at *
   generalize ps[k].child = y at *
   generalize ps[k].dir = yd at *
   generalize ps[k].name = yn at *
   have BX := zaa ((Below.refl wr.heap.size wr).alloc (Nat.le_refl _) (.cells #[.int .i64 yd, .string yn, .int .i64 y] 50))
   have B5 := zaa (zab J1.out BX.out J1.out.size)
   have B6 := zaa (zab B.out BX.out B.out.size)
   by_cases q : 0 ≤ y
   case neg =>
    have q1 : ¬ y ≥ 0 := q
    have E := zaa (HX.out (by rw [EH.out, decide_eq_false q]; rfl))
    clear q HX HY EH
    go_wp2
    go_roundg (ps.length - (k + 1))
    case measure => omega
    case rel => exact ⟨k + 1, by omega, by go_num, B5.out, E.out⟩
   have q1 : y ≥ 0 := q
   by_cases r : yd = d
   case neg =>
    have r1 : (yd == d) = false := beq_eq_false_iff_ne.2 r
    have E := zaa (HX.out (by rw [EH.out, r1]; simp))
    clear q r HX HY EH
    go_wp2
    go_roundg (ps.length - (k + 1))
    case measure => omega
    case rel => exact ⟨k + 1, by omega, by go_num, B5.out, E.out⟩
   have r1 : (yd == d) = true := beq_iff_eq.2 r
   cases t : (yn.toList == nm.toList) with
   | false =>
    have E := zaa (HX.out (by rw [EH.out, t]; simp))
    clear q r HX HY EH
    go_wp2
    go_roundg (ps.length - (k + 1))
    case measure => omega
    case rel => exact ⟨k + 1, by omega, by go_num, B5.out, E.out⟩
   | true =>
    have E := zaa (HY.out (by rw [EH.out, t, r1, decide_eq_true q]; rfl))
    clear q r HX HY EH
    go_wp2
    go_ret
    exact ⟨zcw E.out.symm, B6.out⟩
  ·obtain rfl : k = ps.length := by omega
   have E := zaa (show zka ps d nm = -1 by unfold zka; rw [ent_no (fun j h => J.out.2 j h h)])
   clear J
   go_wp2
   go_ret
   exact ⟨zcw E.out.symm, B.out⟩
end Go.Proofs.YtbbmljakfbhnpaaGreatDoor

namespace Go.Proofs.YtbbmljakfbhnpaaGreatDoor
open Go.RowKit

set_option maxRecDepth 100000 in
set_option maxHeartbeats 4000000 in
theorem zml (v vL : Value) (ws : List Ino) (ps : List Den) (ns : List ByteArray) (w : World) (h : RdIm w v ws ps) (hL : RdT w vL ns) (hi : zfm ws ps = true) (hn : ns.length ≤ 1048576) :
  Calls Tryz.prog 207 #[v, vL] w fun e w' => e = .returned (.tuple #[.int .i64 (wk ws ps 0 ns).1, .int .i64 (wk ws ps 0 ns).2]) ∧ Below w.heap.size w w' := by
 have HR := zaa h
 have LE := zaa (fun d nm w1 h => zdx v ws ps d nm w1 h (by have := (zax hi).2.1; omega))
 obtain ⟨vW, vP, rfl, h1, h2⟩ := h
 obtain ⟨aW, cW, rfl, _, hcW⟩ := h1.shape
 obtain ⟨aP, cP, rfl, _, hcP⟩ := h2.shape
 obtain ⟨aL, cL, rfl, _, hcL⟩ := hL.shape
 have L16 := zaa (zax hi).1
 have L24 := zaa (zax hi).2.1
 obtain ⟨bW, oW, rfl, hblW, hcellW⟩ := hcW (by have := L16.out; omega)
 obtain ⟨bP, oP, rfl, hblP, hcellP⟩ := hcP (by have := L24.out; omega)
 have HW : Hid (∀ w', Below w.heap.size w w' → ∀ n : Nat, n < 16 → w'.cell? ⟨bW, oW + n * 11, none⟩ = some (.int .i64 (zak ws n))) := fun w' hb n hn => by
  have hnl : n < ws.length := by have := L16.out; omega
  rw [zcm hnl]
  exact (hb.cell (p := ⟨bW, oW + n * 11, none⟩) hblW).trans (hcellW n hnl).1
 have HP : Hid (∀ w', Below w.heap.size w w' → ∀ k (h : k < ps.length), w'.cell? ⟨bP, oP + k * 3 + 2, none⟩ = some (.int .i64 (zat ps k))) := fun w' hb k hk => by
  rw [zdt hk]
  exact (hb.cell (p := ⟨bP, oP + k * 3 + 2, none⟩) hblP).trans (hcellP k hk).2.2
 have HN := zaa hcL
 have CR := zaa (fun (d : Int) (nm : ByteArray) (k : Nat) (e : zbz ps d nm = some k) => zfu hi e)
 generalize hres : wk ws ps 0 ns = res
 have HRES := zaa hres
 clear hres
 clear h1 h2 hcW hcP hcellW hcellP hcL hL hi
 obtain ⟨W, hW⟩ : ∃ W, W = w.alloc (.cells #[.slice (some ⟨bW, oW, none⟩) ws.length cW, .slice (some ⟨bP, oP, none⟩) ps.length cP] 26) := ⟨_, rfl⟩
 have CA : Hid (∀ w', Below W.heap.size W w' → w'.cell? ⟨w.heap.size, 0, none⟩ = some (.slice (some ⟨bW, oW, none⟩) ws.length cW) ∧ w'.cell? ⟨w.heap.size, 1, none⟩ = some (.slice (some ⟨bP, oP, none⟩) ps.length cP)) := fun w' hb => by
  have : w'.heap[w.heap.size]? = some (.cells #[.slice (some ⟨bW, oW, none⟩) ws.length cW, .slice (some ⟨bP, oP, none⟩) ps.length cP] 26 (0, 0)) := (hb.block _ (by rw [hW]; simp)).trans (by rw [hW]; exact zag rfl)
  exact ⟨(zad this).1, (zad this).2.1⟩
 have BW : Hid (Below w.heap.size w W) := by rw [hW]; exact (Below.refl _ _).alloc (Nat.le_refl _) _
 have hz : w.heap.size ≤ W.heap.size := BW.out.size
 go_enter Tryz.func207, Tryz.ntmps207
 go_wp2
 rw [← hW]
 clear hW
 go_loopg [6, 7] ns.length (fun g a i wr => ∃ (k : Nat) (z : Nat), k + g = ns.length ∧ z < 16 ∧ a = .int .i64 z ∧ i = .int .i64 k ∧ Hid (Below W.heap.size W wr ∧ res = wk ws ps z (ns.drop k)))
 case atStart => exact ⟨0, 0, by omega, by omega, rfl, rfl, Below.refl _ _, HRES.out.symm⟩
 case round =>
  obtain ⟨k, z, hk, hz16, rfl, rfl, J⟩ := hrel
  obtain ⟨x0, x1⟩ := CA.out wr J.out.1
  have B := zaa (zab BW.out J.out.1 hz)
  have J1 := zaa J.out.1
  have k0 : (0 : Int) ≤ (k : Int) := by omega
  have z0 : (0 : Int) ≤ (z : Int) := by omega
  have z1 : (z : Int) < (ws.length : Int) := by have := L16.out; omega
  by_cases hlt : k < ns.length
  ·have k1 : (k : Int) < (ns.length : Int) := by omega
   have y0 := HW.out wr B.out z hz16
   have JD : Hid (res = wk ws ps z (ns[k] :: ns.drop (k + 1))) := by unfold Hid; rw [J.out.2, List.drop_eq_getElem_cons hlt]
   obtain ⟨bL, oL, rfl, hblL, hcell⟩ := HN.out (by omega)
   have n0 := (B.out.cell (p := ⟨bL, oL + k, none⟩) hblL).trans (hcell k hlt)
   have WN := zaa (fun (h : ¬ zak ws z = 2) => zlf (ps := ps) (n := ns[k]) (ns := ns.drop (k + 1)) h)
   have WO := zaa (fun (h : zak ws z = 2) (e : zbz ps z ns[k] = none) => zrg (ns := ns.drop (k + 1)) h e)
   have WS := zaa (fun (h : zak ws z = 2) (j : Nat) (e : zbz ps z ns[k] = some j) => zqx (ns := ns.drop (k + 1)) h e)
   have EI := zaa (show zka ps z ns[k] = match zbz ps z ns[k] with | none => -1 | some k => (k : Int) from rfl)
   have CR2 := zaa (fun (j : Nat) (e : zbz ps z ns[k] = some j) => CR.out _ _ _ e)
   have LE2 := zaa (fun w1 (hb : Below wr.heap.size wr w1) => LE.out (z : Int) ns[k] w1 (HR.out.below (zab B.out hb B.out.size)))
   clear J hcell
   generalize zak ws z = kk at *
   clear HRES
   generalize ns[k] = nm at *
   by_cases q : kk = 2
   case neg =>
    have q1 : (kk != 2) = true := by rw [bne_iff_ne]; exact q
    obtain rfl := JD.out.trans (WN.out q)
    clear q WN WO WS EI CR2 LE2
    go_wp2
    go_ret2
    exact ⟨rfl, B.out⟩
   have q1 : (kk != 2) = false := by rw [q]; rfl
   have SK : Hid (∀ w', Below wr.heap.size wr w' → (w'.cell? ⟨w.heap.size, 0, none⟩ = some (.slice (some ⟨bW, oW, none⟩) ws.length cW) ∧ w'.cell? ⟨w.heap.size, 1, none⟩ = some (.slice (some ⟨bP, oP, none⟩) ps.length cP)) ∧ w'.cell? ⟨bL, oL + k, none⟩ = some (.string nm)) := fun w' hb => ⟨CA.out w' (zab J1.out hb J1.out.size), (hb.cell (p := ⟨bL, oL + k, none⟩) (Nat.lt_of_lt_of_le hblL B.out.size)).trans n0⟩
   cases e : zbz ps z nm with
   | none =>
    have W2 := zaa (JD.out.trans (WO.out q e))
    rw [e] at EI
    obtain rfl := W2.out
    have EI2 : Hid (zka ps z nm = -1) := EI
    rw [EI2.out] at LE2
    clear q WN WO WS EI CR2 W2 JD e
    go_wp2_with fail
    go_region_held3 (fun w' => (w'.cell? ⟨w.heap.size, 0, none⟩ = some (.slice (some ⟨bW, oW, none⟩) ws.length cW) ∧ w'.cell? ⟨w.heap.size, 1, none⟩ = some (.slice (some ⟨bP, oP, none⟩) ps.length cP)) ∧ w'.cell? ⟨bL, oL + k, none⟩ = some (.string nm))
     (exact SK.out _ (by repeat (first | exact BF.out | exact Below.refl _ _ | refine Below.drew ?_)))
     (first
      | (go_at_call 106; refine (LE2.out _ (by repeat (first | exact Below.refl _ _ | refine Below.drew ?_))).mono ?_; rintro e w1 ⟨rfl, hb1⟩; have BF : Hid (Below wr.heap.size wr w1) := (by first | exact hb1 | exact zab (by repeat (first | exact Below.refl _ _ | refine Below.drew ?_)) hb1 (Nat.le_refl _)); clear hb1))
    all_goals
     have B3 := zaa (zab B.out BF.out B.out.size)
     clear SK x0 x1 y0 n0
     go_wp2
     go_ret2
     exact ⟨rfl, (by repeat (first | exact B3.out | refine Below.drew ?_))⟩
   | some j =>
    have W2 := zaa (JD.out.trans (WS.out q j e))
    obtain ⟨hj, c1, c2⟩ := CR2.out j e
    rw [e] at EI
    have EI2 : Hid (zka ps z nm = (j : Int)) := EI
    rw [EI2.out] at LE2
    obtain ⟨y, hy⟩ : ∃ y : Nat, zat ps j = (y : Int) := ⟨(zat ps j).toNat, by omega⟩
    have HJ := zaa (fun w' (hb : Below w.heap.size w w') => HP.out w' hb j hj)
    rw [hy] at HJ W2
    have y16 : y < 16 := by omega
    have j0 : (0 : Int) ≤ (j : Int) := by omega
    have j1 : (j : Int) < (ps.length : Int) := by omega
    have j2 : ¬ (j : Int) < 0 := by omega
    clear q WN WO WS EI CR2 JD e hy c1 c2
    go_wp2_with fail
    go_region_held3 (fun w' => (w'.cell? ⟨w.heap.size, 0, none⟩ = some (.slice (some ⟨bW, oW, none⟩) ws.length cW) ∧ w'.cell? ⟨w.heap.size, 1, none⟩ = some (.slice (some ⟨bP, oP, none⟩) ps.length cP)) ∧ w'.cell? ⟨bL, oL + k, none⟩ = some (.string nm))
     (exact SK.out _ (by repeat (first | exact BF.out | exact Below.refl _ _ | refine Below.drew ?_)))
     (first
      | (go_at_call 106; refine (LE2.out _ (by repeat (first | exact Below.refl _ _ | refine Below.drew ?_))).mono ?_; rintro e w1 ⟨rfl, hb1⟩; have BF : Hid (Below wr.heap.size wr w1) := (by first | exact hb1 | exact zab (by repeat (first | exact Below.refl _ _ | refine Below.drew ?_)) hb1 (Nat.le_refl _)); clear hb1))
    all_goals
     have B3 := zaa (zab B.out BF.out B.out.size)
     have B4 := zaa (zab J1.out BF.out J1.out.size)
     have p1 := (SK.out _ BF.out).1.2
     have p2 := HJ.out _ B3.out
     clear SK x0 x1 y0 n0
     go_wp2
     go_roundg (ns.length - (k + 1))
     case measure => omega
     case rel => exact ⟨k + 1, y, by omega, y16, rfl, by go_num, (by repeat (first | exact B4.out | refine Below.drew ?_)), W2.out⟩
  ·obtain rfl : k = ns.length := by omega
   have E : Hid (res = ((z : Int), 0)) := by unfold Hid; rw [J.out.2, List.drop_length]; rfl
   clear HRES J
   obtain rfl := E.out
   go_wp2
   go_ret2
   exact ⟨rfl, B.out⟩
end Go.Proofs.YtbbmljakfbhnpaaGreatDoor
