/- Several texts laid together: PbC, PbD, PcA, PcB, PcC, PiP. -/
import Derived.Test.YtpakbbdlhlkogaaGreatDoorZAJ
import Derived.Deep.LoopGhost
import Derived.Laws.OwnMore
import Derived.Deep.RegionHeld3
namespace Go.Proofs.YtpakbbdlhlkogaaGreatDoor
open Go.RowKit
theorem yaki (s : ByteArray) (k : Nat) (h : k < s.size) : s.data.toList[k]'(by rw [← Lib.size_eq]; exact h) = s[k] := by
 rw [Array.getElem_toList]
 rfl
theorem yahn (c : UInt8) : ((c.toNat : Int) == 47) = decide (c = 47) := by
 by_cases h : c = 47
 ·subst h; rfl
 ·rw [decide_eq_false h, beq_eq_false_iff_ne]
  intro e
  apply h
  apply UInt8.toNat_inj.1
  show c.toNat = 47
  omega
theorem yaiv (l : List UInt8) : ziw [] l = [] ++ ziw ((l.take 0).drop 0) (l.drop 0) := by simp
theorem yaqz {l : List UInt8} {ds : List (List UInt8)} {k f : Nat} (hk : k < l.length) (h : ziw [] l = ds ++ ziw ((l.take k).drop f) (l.drop k)) (hc : l[k] = 47) :
  ziw [] l = (ds ++ [(l.take k).drop f]) ++ ziw ((l.take (k + 1)).drop (k + 1)) (l.drop (k + 1)) := by
 rw [List.drop_eq_getElem_cons hk, zdh, if_pos hc] at h
 rw [h, List.append_assoc, List.drop_of_length_le (l := l.take (k + 1)) (by rw [List.length_take]; omega)]
 rfl
theorem yaug {l : List UInt8} {ds : List (List UInt8)} {k f : Nat} (hk : k < l.length) (hf : f ≤ k) (h : ziw [] l = ds ++ ziw ((l.take k).drop f) (l.drop k)) (hc : ¬ l[k] = 47) :
  ziw [] l = ds ++ ziw ((l.take (k + 1)).drop f) (l.drop (k + 1)) := by
 rw [List.drop_eq_getElem_cons hk, zdh, if_neg hc] at h
 rw [h, List.take_succ_eq_append_getElem hk, List.drop_append_of_le_length (by rw [List.length_take]; omega)]
theorem yard {s : ByteArray} {ds : List (List UInt8)} {f : Nat} (h : ziw [] s.data.toList = ds ++ ziw ((s.data.toList.take s.size).drop f) (s.data.toList.drop s.size)) : pcs s = ds.map mkB ++ [s.extract f s.size] := by
 unfold pcs
 rw [h, List.drop_of_length_le (l := s.data.toList) (by rw [← Lib.size_eq]; exact Nat.le_refl _), zjn, List.map_append]
 show ds.map mkB ++ [mkB _] = _
 rw [zoo]
set_option maxRecDepth 100000 in
set_option maxHeartbeats 4000000 in
theorem yabz (s : ByteArray) (w : World) (hs : s.size ≤ 65536) :
  Calls Tryz.prog 148 #[.string s, .int .u8 47] w fun e w' => ∃ v', e = .returned v' ∧ Row w' 9 1 w.heap.size w'.heap.size v' (pcs s).length (zer (pcs s)) ∧ Below w.heap.size w w' := by
 have START : Hid (SnI w (w.alloc (.cells #[] 9)) (.slice (some ⟨w.heap.size, 0, none⟩) 0 0) []) := ⟨World.ownsRow_lit w #[] 0 (Nat.le_refl _) (by simp [maxLen]) (by simp), (Below.refl _ _).alloc (Nat.le_refl _) _⟩
 have HL := zaa (Lib.size_eq s)
 go_enter Tryz.func148, Tryz.ntmps148
 go_wp2
 go_loopg [5, 6, 7] s.size (fun g vL fr i wr => ∃ (k f : Nat) (ds : List (List UInt8)), k + g = s.size ∧ f ≤ k ∧ fr = .int .i64 f ∧ i = .int .i64 k ∧ vL ≠ .slice none 0 0 ∧ ds.length ≤ k ∧ Hid (SnI w wr vL (ds.map mkB) ∧ ziw [] s.data.toList = ds ++ ziw ((s.data.toList.take k).drop f) (s.data.toList.drop k)))
 case atStart => exact ⟨0, 0, [], by omega, by omega, rfl, rfl, (fun e => by cases e), Nat.le_refl _, START.out, yaiv _⟩
 case round =>
  obtain ⟨k, f, ds, hkg, hf, rfl, rfl, hv, hd, I⟩ := hrel
  clear START
  have k0 : (0 : Int) ≤ (k : Int) := by omega
  have f0 : (0 : Int) ≤ (f : Int) := by omega
  have fk : (f : Int) ≤ (k : Int) := by omega
  have DL : (ds.map mkB).length = ds.length := List.length_map ..
  by_cases hlt : k < s.size
  ·have k1 : (k : Int) < (s.size : Int) := by omega
   have k2 : (k : Int) ≤ (s.size : Int) := by omega
   have hkl : k < s.data.toList.length := by rw [← HL.out]; exact hlt
   by_cases c : s[k] = 47
   ·have q : ((s[k].toNat : Int) == 47) = true := by rw [yahn, decide_eq_true c]
    have N := zaa (yaqz hkl I.out.2 (by rw [yaki s k hlt]; exact c))
    have MN : Hid ((ds ++ [(s.data.toList.take k).drop f]).map mkB = ds.map mkB ++ [s.extract f k]) := by unfold Hid; rw [List.map_append, ← zoo]; rfl
    have JB : Hid (SnI w (wr.alloc (.cells #[.string (s.extract f k)] 9)) u5 (ds.map mkB)) := I.out.1.below ((Below.refl _ _).alloc (Nat.le_refl _) _)
    have RB := zaa (zit wr (s.extract f k))
    have hzb := JB.out.z
    simp only [World.size_alloc] at hzb
    clear I c
    go_wp2_with (at_builtin; refine zae _ rfl (.tmp 20) (.tmp 25) 33 rfl w.heap.size 9 (.string ⟨#[]⟩) 1 16 Tryz.underlying33 zfg rfl (by decide) _ _ _ rfl JB.out.l _ 1 _ rfl RB.out (zbl _) (by simp [maxLen]; omega) (by simp; omega) JB.out.z ?_)
    intro vN wN hownN hgrN
    have G := zaa (JB.out.grow [s.extract f k] rfl (by rw [List.length_map]; exact hownN) hgrN)
    rw [← MN.out] at G
    have hv2 := zaa (G.out.some_ (by simp))
    clear hownN hgrN JB RB q MN hv
    go_wp2
    go_roundg (s.size - (k + 1))
    case measure => omega
    case rel => exact ⟨k + 1, k + 1, ds ++ [(s.data.toList.take k).drop f], by omega, Nat.le_refl _, by go_num, by go_num, hv2.out, by simp; omega, G.out, N.out⟩
   ·have q : ((s[k].toNat : Int) == 47) = false := by rw [yahn, decide_eq_false c]
    have N := zaa (yaug hkl hf I.out.2 (by rw [yaki s k hlt]; exact c))
    have I1 := zaa I.out.1
    have HV := zaa hv
    clear I c DL hv
    go_wp2
    go_roundg (s.size - (k + 1))
    case measure => omega
    case rel => exact ⟨k + 1, f, ds, by omega, by omega, rfl, by go_num, HV.out, by omega, I1.out, N.out⟩
  ·obtain rfl : k = s.size := by omega
   have MN := zaa (yard I.out.2)
   have JB : Hid (SnI w (wr.alloc (.cells #[.string (s.extract f s.size)] 9)) u5 (ds.map mkB)) := I.out.1.below ((Below.refl _ _).alloc (Nat.le_refl _) _)
   have RB := zaa (zit wr (s.extract f s.size))
   have hzb := JB.out.z
   simp only [World.size_alloc] at hzb
   clear I
   go_wp2_with (at_builtin; refine zae _ rfl (.tmp 29) (.tmp 33) 33 rfl w.heap.size 9 (.string ⟨#[]⟩) 1 16 Tryz.underlying33 zfg rfl (by decide) _ _ _ rfl JB.out.l _ 1 _ rfl RB.out (zbl _) (by simp [maxLen]; omega) (by simp; omega) JB.out.z ?_)
   intro vN wN hownN hgrN
   have G := zaa (JB.out.grow [s.extract f s.size] rfl (by rw [List.length_map]; exact hownN) hgrN)
   rw [← MN.out] at G
   clear hownN hgrN JB RB MN hv
   go_wp2
   go_ret
   exact ⟨_, rfl, zad G.out.l, G.out.b⟩
def zpi (s : ByteArray) : Bool := s.toList == [47]
def spN (s : ByteArray) : Bool := decide (2 ≤ (pcs s).length ∧ (pcs s).length ≤ 7) && (((pcs s).getD 0 ⟨#[]⟩).toList.isEmpty && ((pcs s).drop 1).all nmB)
def spB (s : ByteArray) : Bool := zpi s || spN s
def spL (s : ByteArray) : List ByteArray := if zpi s = true then [] else if spN s = true then (pcs s).drop 1 else []
theorem yabe {s : ByteArray} (h : zpi s = true) : spB s = true ∧ spL s = [] := by
 unfold spB spL
 rw [h]
 exact ⟨rfl, if_pos rfl⟩
theorem yaut {s : ByteArray} (h : zpi s = false) (h2 : spN s = false) : spB s = false ∧ spL s = [] := by
 unfold spB spL
 rw [h, h2]
 exact ⟨rfl, rfl⟩
theorem yaoz {s : ByteArray} (h : zpi s = false) (h2 : spN s = true) : spB s = true ∧ spL s = (pcs s).drop 1 := by
 unfold spB spL
 rw [h, h2]
 exact ⟨rfl, rfl⟩
theorem yaes (w : World) : RdT w (.slice none 0 0) [] := ⟨rfl, none, 0, rfl, ⟨Nat.le_refl _, fun _ => rfl⟩, fun h => absurd h (by simp)⟩
theorem znq (w : World) (a : Addr) : RdT w (.slice (some a) 0 0) [] := ⟨rfl, some a, 0, rfl, ⟨Nat.le_refl _, fun e => by cases e⟩, fun h => absurd h (by simp)⟩
set_option maxRecDepth 100000 in
set_option maxHeartbeats 4000000 in
theorem zlu (s : ByteArray) (w : World) (hs : s.size ≤ 65536) :
  Calls Tryz.prog 123 #[.string s] w fun e w' => ∃ v', e = .returned (.tuple #[v', .bool (spB s)]) ∧ RdT w' v' (spL s) ∧ Below w.heap.size w w' := by
 have LC := zaa (fun w1 => yabz s w1 hs)
 have BE := zaa (fun w1 : World => (Below.refl w1.heap.size w1).alloc (Nat.le_refl _) (.cells #[] 9))
 cases c1 : zpi s with
 | true =>
  obtain ⟨E1, E2⟩ := yabe c1
  rw [E1, E2]
  have c2 : (s.toList == [47]) = true := c1
  clear c1 E1 E2
  go_enter Tryz.func123, Tryz.ntmps123
  go_wp2
  go_ret2
  exact ⟨_, rfl, znq _ _, BE.out _⟩
 | false =>
  have c2 : (s.toList == [47]) = false := c1
  have NO := zaa (fun h => yaut c1 h)
  have YES := zaa (fun h => yaoz c1 h)
  have PL := yagi s
  have PP := yakm s
  have PS := zaa (zzk s)
  have SN := zaa (show spN s = (decide (2 ≤ (pcs s).length ∧ (pcs s).length ≤ 7) && (((pcs s).getD 0 ⟨#[]⟩).toList.isEmpty && ((pcs s).drop 1).all nmB)) from rfl)
  clear c1
  generalize spB s = sb at *
  generalize spL s = sl at *
  generalize spN s = sn at *
  generalize pcs s = P at *
  have hp0 : 0 < P.length := by omega
  have SA : Hid ((∀ j (h : j < P.length), 1 ≤ j → nmB P[j] = true) → (P.drop 1).all nmB = true) := fun h => by
   rw [List.all_eq_true]
   intro x hx
   obtain ⟨j, hj, rfl⟩ := List.getElem_of_mem hx
   rw [List.length_drop] at hj
   rw [List.getElem_drop]
   exact h (1 + j) (by omega) (by omega)
  have SF : Hid (∀ j (h : j < P.length), 1 ≤ j → nmB P[j] = false → (P.drop 1).all nmB = false) := fun j h h1 q => by
   rw [List.all_eq_false]
   refine ⟨P[j], ?_, by rw [q]; simp⟩
   have e : P[j] = (P.drop 1)[j - 1]'(by rw [List.length_drop]; omega) := by rw [List.getElem_drop]; congr 1; omega
   rw [e]
   exact List.getElem_mem _
  have S0 : Hid (P.getD 0 ⟨#[]⟩ = P[0]) := by unfold Hid; rw [List.getD_eq_getElem?_getD, List.getElem?_eq_getElem hp0]; rfl
  go_enter Tryz.func123, Tryz.ntmps123
  go_wp2_with fail
  refine (LC.out _).mono ?_
  rintro e w1 ⟨v1, rfl, hr1, hb1⟩
  have R1 : Hid (RdT w1 v1 P) := hr1.rd
  obtain ⟨aP, cP, rfl, hcap, hcP⟩ := R1.out.shape
  obtain ⟨b, o, rfl, hbl, hcell⟩ := hcP hp0
  have HC := zaa hcell
  have B1 := zaa hb1
  have c0 := hcell 0 hp0
  rw [Nat.add_zero] at c0
  clear hr1 hb1 hcP hcell LC
  by_cases n1 : P.length < 2
  ·have E : Hid (sn = false) := by unfold Hid; rw [SN.out, decide_eq_false (by omega)]; rfl
   obtain ⟨e1, e2⟩ := NO.out E.out
   have n2 : (P.length : Int) < 2 := by omega
   subst e1 e2
   clear NO YES SN SA SF S0 n1
   go_wp2
   go_ret2
   exact ⟨_, rfl, znq _ _, zab B1.out (BE.out w1) B1.out.size⟩
  have n2 : ¬ (P.length : Int) < 2 := by omega
  by_cases n3 : 7 < P.length
  ·have E : Hid (sn = false) := by unfold Hid; rw [SN.out, decide_eq_false (by omega)]; rfl
   obtain ⟨e1, e2⟩ := NO.out E.out
   have n4 : (P.length : Int) > 7 := by omega
   subst e1 e2
   clear NO YES SN SA SF S0 n1 n3
   go_wp2
   go_ret2
   exact ⟨_, rfl, znq _ _, zab B1.out (BE.out w1) B1.out.size⟩
  have n4 : ¬ (P.length : Int) > 7 := by omega
  have SN2 : Hid (sn = (P[0].toList.isEmpty && (P.drop 1).all nmB)) := by unfold Hid; rw [SN.out, S0.out, decide_eq_true (by omega), Bool.true_and]
  have p1 : (0 : Int) < (P.length : Int) := by omega
  clear SN S0
  cases c3 : P[0].toList.isEmpty with
  | false =>
   have E : Hid (sn = false) := by unfold Hid; rw [SN2.out, c3]; rfl
   obtain ⟨e1, e2⟩ := NO.out E.out
   subst e1 e2
   clear NO YES SN2 SA SF n1 n3
   generalize P[0] = p0 at *
   go_wp2
   go_ret2
   exact ⟨_, rfl, znq _ _, zab B1.out (BE.out w1) B1.out.size⟩
  | true =>
  have SN3 : Hid (sn = (P.drop 1).all nmB) := by unfold Hid; rw [SN2.out, c3]; rfl
  clear SN2
  generalize P[0] = p0 at *
  go_wp2
  clear c0 c3
  go_loopg [5] (P.length - 1) (fun g i wr => ∃ k : Nat, k + g = P.length ∧ 1 ≤ k ∧ i = .int .i64 k ∧ wr = w1 ∧ Hid (∀ j (h : j < P.length), 1 ≤ j → j < k → nmB P[j] = true))
  case atStart => exact ⟨1, by omega, Nat.le_refl _, rfl, rfl, fun j h a b => absurd b (by omega)⟩
  case round =>
   obtain ⟨k, hk, hk1, rfl, rfl, H⟩ := hrel
   have k0 : (0 : Int) ≤ (k : Int) := by omega
   by_cases hlt : k < P.length
   ·have k1 : (k : Int) < (P.length : Int) := by omega
    have d0 := HC.out k hlt
    have LN := zaa (fun w2 => zed P[k] w2 (by have := PS.out k hlt; unfold maxLen; omega))
    cases q : nmB P[k] with
    | false =>
     have E : Hid (sn = false) := by unfold Hid; rw [SN3.out]; exact SF.out k hlt hk1 q
     obtain ⟨e1, e2⟩ := NO.out E.out
     rw [q] at LN
     subst e1 e2
     clear NO YES SN3 SA SF n1 n3 H q
     generalize P[k] = x at *
     go_wp2_with fail
     refine (LN.out _).mono ?_
     rintro e w2 ⟨rfl, hw2⟩
     subst w2
     go_wp2
     go_ret2
     exact ⟨_, rfl, znq _ _, zab B1.out (BE.out _) B1.out.size⟩
    | true =>
     have H2 : Hid (∀ j (h : j < P.length), 1 ≤ j → j < k + 1 → nmB P[j] = true) := fun j h a c => by
      by_cases e : j = k
      ·subst e; exact q
      ·exact H.out j h a (by omega)
     rw [q] at LN
     clear H q
     generalize P[k] = x at d0 LN
     go_wp2_with fail
     refine (LN.out _).mono ?_
     rintro e w2 ⟨rfl, hw2⟩
     subst w2
     go_wp2
     go_roundg (P.length - (k + 1))
     case measure => omega
     case rel => exact ⟨k + 1, by omega, by omega, by go_num, rfl, H2.out⟩
   ·have E : Hid (sn = true) := by unfold Hid; rw [SN3.out]; exact SA.out (fun j h a => H.out j h a (by omega))
    obtain ⟨e1, e2⟩ := YES.out E.out
    have RD : Hid (Rd wr 1 (.slice (some ⟨b, o + 1, none⟩) (P.length - 1) (cP - 1)) (P.length - 1) (zer (P.drop 1))) := zsr R1.out (by omega)
    have DL := zaa (List.length_drop (l := P) (i := 1))
    have cc : ¬ cP = 1 := by omega
    subst e1 e2
    clear NO YES SN3 SA SF H
    go_wp2
    go_ret2
    exact ⟨_, rfl, (by unfold RdT; rw [DL.out]; exact RD.out), B1.out⟩
def spC (s : ByteArray) : Int := if 65536 < s.size then 2 else if spB s = true then 0 else 12
def spR (s : ByteArray) : List ByteArray := if 65536 < s.size then [] else spL s
theorem yagm {s : ByteArray} (h : 65536 < s.size) : spC s = 2 ∧ spR s = [] := by
 unfold spC spR
 exact ⟨if_pos h, if_pos h⟩
theorem zrl {s : ByteArray} (h : ¬ 65536 < s.size) : (spB s = true → spC s = 0 ∧ spR s = spL s) ∧ (spB s = false → spC s = 12 ∧ spR s = []) := by
 unfold spC spR
 rw [if_neg h, if_neg h]
 refine ⟨fun q => ⟨if_pos q, rfl⟩, fun q => ⟨by rw [q]; rfl, ?_⟩⟩
 unfold spB at q
 unfold spL
 rw [Bool.or_eq_false_iff] at q
 rw [q.1, q.2]
 rfl
theorem zrs {s : ByteArray} : (spL s).length ≤ 6 := by
 unfold spL
 split
 ·simp
 ·split
  ·rename_i h
   unfold spN at h
   simp only [Bool.and_eq_true, decide_eq_true_eq] at h
   rw [List.length_drop]
   omega
  ·simp
def zbj (d : Int) (nm : ByteArray) (x : Den) : Bool := decide (0 ≤ x.child) && (x.dir == d && x.name.toList == nm.toList)
def zay (ps : List Den) (d : Int) (nm : ByteArray) : Option Nat := ps.findIdx? (zbj d nm)
def zka (ps : List Den) (d : Int) (nm : ByteArray) : Int := match zay ps d nm with | none => -1 | some k => (k : Int)
def zan (ps : List Den) (k : Nat) : Int := (ps.getD k ⟨0, ⟨#[]⟩, 0⟩).child
theorem zbf {ps : List Den} {k : Nat} (h : k < ps.length) : zan ps k = ps[k].child := by
 unfold zan
 rw [List.getD_eq_getElem?_getD, List.getElem?_eq_getElem h]; rfl
theorem yapa {ps : List Den} {d : Int} {nm : ByteArray} (h : ∀ j (h : j < ps.length), zbj d nm ps[j] = false) : zay ps d nm = none := by
 unfold zay
 rw [List.findIdx?_eq_none_iff]
 intro x hx
 obtain ⟨j, hj, rfl⟩ := List.getElem_of_mem hx
 exact h j hj
theorem yakj {ps : List Den} {d : Int} {nm : ByteArray} {k : Nat} (hk : k < ps.length) (h : ∀ j (h : j < ps.length), j < k → zbj d nm ps[j] = false) (e : zbj d nm ps[k] = true) : zay ps d nm = some k := by
 unfold zay
 rw [List.findIdx?_eq_some_iff_getElem]
 exact ⟨hk, e, fun j hj => by rw [h j (by omega) hj]; simp⟩
theorem zmk {ps : List Den} {d : Int} {nm : ByteArray} {k : Nat} (h : zay ps d nm = some k) : ∃ hk : k < ps.length, zbj d nm ps[k] = true := by
 unfold zay at h
 rw [List.findIdx?_eq_some_iff_getElem] at h
 obtain ⟨hk, e, _⟩ := h
 exact ⟨hk, e⟩
theorem yaft {d : Int} {nm : ByteArray} {x : Den} (h : zbj d nm x = true) : 0 ≤ x.child := by
 unfold zbj at h
 simp only [Bool.and_eq_true, decide_eq_true_eq] at h
 exact h.1
def wk (ws : List Ino) (ps : List Den) : Int → List ByteArray → Int × Int
 | z, [] => (z, 0)
 | z, n :: ns => if zai ws z = 2 then (match zay ps z n with | none => (0, 5) | some k => wk ws ps (zan ps k) ns) else (0, 10)
theorem yapq (ws : List Ino) (ps : List Den) (z : Int) : wk ws ps z [] = (z, 0) := rfl
theorem zel {ws : List Ino} {ps : List Den} {z : Int} {n : ByteArray} {ns : List ByteArray} (h : ¬ zai ws z = 2) : wk ws ps z (n :: ns) = (0, 10) := by
 show (if zai ws z = 2 then _ else _) = _
 rw [if_neg h]
theorem zfy {ws : List Ino} {ps : List Den} {z : Int} {n : ByteArray} {ns : List ByteArray} (h : zai ws z = 2) (e : zay ps z n = none) : wk ws ps z (n :: ns) = (0, 5) := by
 show (if zai ws z = 2 then (match zay ps z n with | none => (0, 5) | some k => wk ws ps (zan ps k) ns) else _) = _
 rw [if_pos h, e]
theorem zff {ws : List Ino} {ps : List Den} {z : Int} {n : ByteArray} {ns : List ByteArray} {k : Nat} (h : zai ws z = 2) (e : zay ps z n = some k) : wk ws ps z (n :: ns) = wk ws ps (zan ps k) ns := by
 show (if zai ws z = 2 then (match zay ps z n with | none => (0, 5) | some k => wk ws ps (zan ps k) ns) else _) = _
 rw [if_pos h, e]
theorem zej {ws : List Ino} {ps : List Den} (h : zcb ws ps = true) {d : Int} {nm : ByteArray} {k : Nat} (e : zay ps d nm = some k) : k < ps.length ∧ 0 ≤ zan ps k ∧ zan ps k ≤ 15 := by
 obtain ⟨hk, q⟩ := zmk e
 have := yaft q
 rw [zbf hk]
 rcases zjr h k hk with r | r
 ·omega
 ·exact ⟨hk, by omega, by omega⟩
theorem zjp {ws : List Ino} {ps : List Den} (h : zcb ws ps = true) : ∀ (ns : List ByteArray) (z : Int), 0 ≤ z ∧ z ≤ 15 → 0 ≤ (wk ws ps z ns).1 ∧ (wk ws ps z ns).1 ≤ 15
 | [], z, hz => hz
 | n :: ns, z, hz => by
  by_cases c : zai ws z = 2
  ·cases e : zay ps z n with
   | none => rw [zfy c e]; exact ⟨by decide, by decide⟩
   | some k => rw [zff c e]; exact zjp h ns _ (zej h e).2
  ·rw [zel c]; exact ⟨by decide, by decide⟩
set_option maxRecDepth 100000 in
set_option maxHeartbeats 4000000 in
theorem zep (v : Value) (ws : List Ino) (ps : List Den) (d : Int) (nm : ByteArray) (w : World) (h : RdIm w v ws ps) (hn : ps.length ≤ 1048576) :
  Calls Tryz.prog 78 #[v, .int .i64 d, .string nm] w fun e w' => e = .returned (.int .i64 (zka ps d nm)) ∧ Below w.heap.size w w' := by
 obtain ⟨vW, vP, rfl, h1, h2⟩ := h
 obtain ⟨aW, cW, rfl, _⟩ := h1.shape
 obtain ⟨aP, cP, rfl, _, hcP⟩ := h2.shape
 have HZ := zaa hcP
 clear h1 h2 hcP
 obtain ⟨W, hW⟩ : ∃ W, W = w.alloc (.cells #[.slice aW ws.length cW, .slice aP ps.length cP] 42) := ⟨_, rfl⟩
 have CA : Hid (∀ w', Below W.heap.size W w' → w'.cell? ⟨w.heap.size, 1, none⟩ = some (.slice aP ps.length cP)) := fun w' hb => by
  have : w'.heap[w.heap.size]? = some (.cells #[.slice aW ws.length cW, .slice aP ps.length cP] 42 (0, 0)) := (hb.block _ (by rw [hW]; simp)).trans (by rw [hW]; exact zah rfl)
  exact (zac this).2.1
 have BW : Hid (Below w.heap.size w W) := by rw [hW]; exact (Below.refl _ _).alloc (Nat.le_refl _) _
 have hz : w.heap.size ≤ W.heap.size := BW.out.size
 go_enter Tryz.func78, Tryz.ntmps78
 go_wp2
 rw [← hW]
 clear hW
 go_loopg [7] ps.length (fun g i wr => ∃ k : Nat, k + g = ps.length ∧ i = .int .i64 k ∧ Hid (Below W.heap.size W wr ∧ ∀ j (h : j < ps.length), j < k → zbj d nm ps[j] = false))
 case atStart => exact ⟨0, by omega, rfl, Below.refl _ _, fun j h a => absurd a (by omega)⟩
 case round =>
  obtain ⟨k, hk, rfl, J⟩ := hrel
  have x1 := CA.out wr J.out.1
  have B := zaa (zab BW.out J.out.1 hz)
  have k0 : (0 : Int) ≤ (k : Int) := by omega
  by_cases hlt : k < ps.length
  ·obtain ⟨b, o, rfl, hbl, hcell⟩ := HZ.out (by omega)
   obtain ⟨c0, c1, c2⟩ := hcell k hlt
   have d0 := (B.out.cell (p := ⟨b, o + k * 3, none⟩) hbl).trans c0
   have d1 := (B.out.cell (p := ⟨b, o + k * 3 + 1, none⟩) hbl).trans c1
   have d2 := (B.out.cell (p := ⟨b, o + k * 3 + 2, none⟩) hbl).trans c2
   have k1 : (k : Int) < (ps.length : Int) := by omega
   have HY := zaa (fun e : zbj d nm ps[k] = true => show zka ps d nm = (k : Int) by unfold zka; rw [yakj hlt J.out.2 e])
   have HX := zaa (fun (e : zbj d nm ps[k] = false) j (h : j < ps.length) (a : j < k + 1) => show zbj d nm ps[j] = false by
    by_cases q : j = k
    ·subst q; exact e
    ·exact J.out.2 j h (by omega))
   have EH := zaa (show zbj d nm ps[k] = (decide (0 ≤ ps[k].child) && (ps[k].dir == d && ps[k].name.toList == nm.toList)) from rfl)
   have J1 := zaa J.out.1
   clear hcell c0 c1 c2 J
   generalize zbj d nm ps[k] = hit at *
   generalize ps[k].child = y at *
   generalize ps[k].dir = yd at *
   generalize ps[k].name = yn at *
   have BX := zaa ((Below.refl wr.heap.size wr).alloc (Nat.le_refl _) (.cells #[.int .i64 yd, .string yn, .int .i64 y] 69))
   have B5 := zaa (zab J1.out BX.out J1.out.size)
   have B6 := zaa (zab B.out BX.out B.out.size)
   by_cases q : 0 ≤ y
   case neg =>
    have q1 : ¬ y ≥ 0 := q
    have E := zaa (HX.out (by rw [EH.out, decide_eq_false q]; rfl))
    clear q HX HY EH
    go_wp2
    go_roundg (ps.length - (k + 1))
    case measure => omega
    case rel => exact ⟨k + 1, by omega, by go_num, B5.out, E.out⟩
   have q1 : y ≥ 0 := q
   by_cases r : yd = d
   case neg =>
    have r1 : (yd == d) = false := beq_eq_false_iff_ne.2 r
    have E := zaa (HX.out (by rw [EH.out, r1]; simp))
    clear q r HX HY EH
    go_wp2
    go_roundg (ps.length - (k + 1))
    case measure => omega
    case rel => exact ⟨k + 1, by omega, by go_num, B5.out, E.out⟩
   have r1 : (yd == d) = true := beq_iff_eq.2 r
   cases t : (yn.toList == nm.toList) with
   | false =>
    have E := zaa (HX.out (by rw [EH.out, t]; simp))
    clear q r HX HY EH
    go_wp2
    go_roundg (ps.length - (k + 1))
    case measure => omega
    case rel => exact ⟨k + 1, by omega, by go_num, B5.out, E.out⟩
   | true =>
    have E := zaa (HY.out (by rw [EH.out, t, r1, decide_eq_true q]; rfl))
    clear q r HX HY EH
    go_wp2
    go_ret
    exact ⟨zcf E.out.symm, B6.out⟩
  ·obtain rfl : k = ps.length := by omega
   have E := zaa (show zka ps d nm = -1 by unfold zka; rw [yapa (fun j h => J.out.2 j h h)])
   clear J
   go_wp2
   go_ret
   exact ⟨zcf E.out.symm, B.out⟩
set_option maxRecDepth 100000 in
set_option maxHeartbeats 4000000 in
theorem zox (v vL : Value) (ws : List Ino) (ps : List Den) (ns : List ByteArray) (w : World) (h : RdIm w v ws ps) (hL : RdT w vL ns) (hi : zcb ws ps = true) (hn : ns.length ≤ 1048576) :
  Calls Tryz.prog 124 #[v, vL] w fun e w' => e = .returned (.tuple #[.int .i64 (wk ws ps 0 ns).1, .int .i64 (wk ws ps 0 ns).2]) ∧ Below w.heap.size w w' := by
 have HR := zaa h
 have LE := zaa (fun d nm w1 h => zep v ws ps d nm w1 h (by have := (zau hi).2.1; omega))
 obtain ⟨vW, vP, rfl, h1, h2⟩ := h
 obtain ⟨aW, cW, rfl, _, hcW⟩ := h1.shape
 obtain ⟨aP, cP, rfl, _, hcP⟩ := h2.shape
 obtain ⟨aL, cL, rfl, _, hcL⟩ := hL.shape
 have L16 := zaa (zau hi).1
 have L24 := zaa (zau hi).2.1
 obtain ⟨bW, oW, rfl, hblW, hcellW⟩ := hcW (by have := L16.out; omega)
 obtain ⟨bP, oP, rfl, hblP, hcellP⟩ := hcP (by have := L24.out; omega)
 have HW : Hid (∀ w', Below w.heap.size w w' → ∀ n : Nat, n < 16 → w'.cell? ⟨bW, oW + n * 11, none⟩ = some (.int .i64 (zai ws n))) := fun w' hb n hn => by
  have hnl : n < ws.length := by have := L16.out; omega
  rw [zbo hnl]
  exact (hb.cell (p := ⟨bW, oW + n * 11, none⟩) hblW).trans (hcellW n hnl).1
 have HP : Hid (∀ w', Below w.heap.size w w' → ∀ k (h : k < ps.length), w'.cell? ⟨bP, oP + k * 3 + 2, none⟩ = some (.int .i64 (zan ps k))) := fun w' hb k hk => by
  rw [zbf hk]
  exact (hb.cell (p := ⟨bP, oP + k * 3 + 2, none⟩) hblP).trans (hcellP k hk).2.2
 have HN := zaa hcL
 have CR := zaa (fun (d : Int) (nm : ByteArray) (k : Nat) (e : zay ps d nm = some k) => zej hi e)
 generalize hres : wk ws ps 0 ns = res
 have HRES := zaa hres
 clear hres
 clear h1 h2 hcW hcP hcellW hcellP hcL hL hi
 obtain ⟨W, hW⟩ : ∃ W, W = w.alloc (.cells #[.slice (some ⟨bW, oW, none⟩) ws.length cW, .slice (some ⟨bP, oP, none⟩) ps.length cP] 42) := ⟨_, rfl⟩
 have CA : Hid (∀ w', Below W.heap.size W w' → w'.cell? ⟨w.heap.size, 0, none⟩ = some (.slice (some ⟨bW, oW, none⟩) ws.length cW) ∧ w'.cell? ⟨w.heap.size, 1, none⟩ = some (.slice (some ⟨bP, oP, none⟩) ps.length cP)) := fun w' hb => by
  have : w'.heap[w.heap.size]? = some (.cells #[.slice (some ⟨bW, oW, none⟩) ws.length cW, .slice (some ⟨bP, oP, none⟩) ps.length cP] 42 (0, 0)) := (hb.block _ (by rw [hW]; simp)).trans (by rw [hW]; exact zah rfl)
  exact ⟨(zac this).1, (zac this).2.1⟩
 have BW : Hid (Below w.heap.size w W) := by rw [hW]; exact (Below.refl _ _).alloc (Nat.le_refl _) _
 have hz : w.heap.size ≤ W.heap.size := BW.out.size
 go_enter Tryz.func124, Tryz.ntmps124
 go_wp2
 rw [← hW]
 clear hW
 go_loopg [6, 7] ns.length (fun g a i wr => ∃ (k : Nat) (z : Nat), k + g = ns.length ∧ z < 16 ∧ a = .int .i64 z ∧ i = .int .i64 k ∧ Hid (Below W.heap.size W wr ∧ res = wk ws ps z (ns.drop k)))
 case atStart => exact ⟨0, 0, by omega, by omega, rfl, rfl, Below.refl _ _, HRES.out.symm⟩
 case round =>
  obtain ⟨k, z, hk, hz16, rfl, rfl, J⟩ := hrel
  obtain ⟨x0, x1⟩ := CA.out wr J.out.1
  have B := zaa (zab BW.out J.out.1 hz)
  have J1 := zaa J.out.1
  have k0 : (0 : Int) ≤ (k : Int) := by omega
  have z0 : (0 : Int) ≤ (z : Int) := by omega
  have z1 : (z : Int) < (ws.length : Int) := by have := L16.out; omega
  by_cases hlt : k < ns.length
  ·have k1 : (k : Int) < (ns.length : Int) := by omega
   have y0 := HW.out wr B.out z hz16
   have JD : Hid (res = wk ws ps z (ns[k] :: ns.drop (k + 1))) := by unfold Hid; rw [J.out.2, List.drop_eq_getElem_cons hlt]
   obtain ⟨bL, oL, rfl, hblL, hcell⟩ := HN.out (by omega)
   have n0 := (B.out.cell (p := ⟨bL, oL + k, none⟩) hblL).trans (hcell k hlt)
   have WN := zaa (fun (h : ¬ zai ws z = 2) => zel (ps := ps) (n := ns[k]) (ns := ns.drop (k + 1)) h)
   have WO := zaa (fun (h : zai ws z = 2) (e : zay ps z ns[k] = none) => zfy (ns := ns.drop (k + 1)) h e)
   have WS := zaa (fun (h : zai ws z = 2) (j : Nat) (e : zay ps z ns[k] = some j) => zff (ns := ns.drop (k + 1)) h e)
   have EI := zaa (show zka ps z ns[k] = match zay ps z ns[k] with | none => -1 | some k => (k : Int) from rfl)
   have CR2 := zaa (fun (j : Nat) (e : zay ps z ns[k] = some j) => CR.out _ _ _ e)
   have LE2 := zaa (fun w1 (hb : Below wr.heap.size wr w1) => LE.out (z : Int) ns[k] w1 (HR.out.below (zab B.out hb B.out.size)))
   clear J hcell
   generalize zai ws z = kk at *
   clear HRES
   generalize ns[k] = nm at *
   by_cases q : kk = 2
   case neg =>
    have q1 : (kk != 2) = true := by rw [bne_iff_ne]; exact q
    obtain rfl := JD.out.trans (WN.out q)
    clear q WN WO WS EI CR2 LE2
    go_wp2
    go_ret2
    exact ⟨rfl, B.out⟩
   have q1 : (kk != 2) = false := by rw [q]; rfl
   have SK : Hid (∀ w', Below wr.heap.size wr w' → (w'.cell? ⟨w.heap.size, 0, none⟩ = some (.slice (some ⟨bW, oW, none⟩) ws.length cW) ∧ w'.cell? ⟨w.heap.size, 1, none⟩ = some (.slice (some ⟨bP, oP, none⟩) ps.length cP)) ∧ w'.cell? ⟨bL, oL + k, none⟩ = some (.string nm)) := fun w' hb => ⟨CA.out w' (zab J1.out hb J1.out.size), (hb.cell (p := ⟨bL, oL + k, none⟩) (Nat.lt_of_lt_of_le hblL B.out.size)).trans n0⟩
   cases e : zay ps z nm with
   | none =>
    have W2 := zaa (JD.out.trans (WO.out q e))
    rw [e] at EI
    obtain rfl := W2.out
    have EI2 : Hid (zka ps z nm = -1) := EI
    rw [EI2.out] at LE2
    clear q WN WO WS EI CR2 W2 JD e
    go_wp2_with fail
    go_region_held3 (fun w' => (w'.cell? ⟨w.heap.size, 0, none⟩ = some (.slice (some ⟨bW, oW, none⟩) ws.length cW) ∧ w'.cell? ⟨w.heap.size, 1, none⟩ = some (.slice (some ⟨bP, oP, none⟩) ps.length cP)) ∧ w'.cell? ⟨bL, oL + k, none⟩ = some (.string nm))
     (exact SK.out _ (by repeat (first | exact BF.out | exact Below.refl _ _ | refine Below.drew ?_)))
     (first
      | (go_at_call 78; refine (LE2.out _ (by repeat (first | exact Below.refl _ _ | refine Below.drew ?_))).mono ?_; rintro e w1 ⟨rfl, hb1⟩; have BF : Hid (Below wr.heap.size wr w1) := (by first | exact hb1 | exact zab (by repeat (first | exact Below.refl _ _ | refine Below.drew ?_)) hb1 (Nat.le_refl _)); clear hb1))
    all_goals
     have B3 := zaa (zab B.out BF.out B.out.size)
     clear SK x0 x1 y0 n0
     go_wp2
     go_ret2
     exact ⟨rfl, (by repeat (first | exact B3.out | refine Below.drew ?_))⟩
   | some j =>
    have W2 := zaa (JD.out.trans (WS.out q j e))
    obtain ⟨hj, c1, c2⟩ := CR2.out j e
    rw [e] at EI
    have EI2 : Hid (zka ps z nm = (j : Int)) := EI
    rw [EI2.out] at LE2
    obtain ⟨y, hy⟩ : ∃ y : Nat, zan ps j = (y : Int) := ⟨(zan ps j).toNat, by omega⟩
    have HJ := zaa (fun w' (hb : Below w.heap.size w w') => HP.out w' hb j hj)
    rw [hy] at HJ W2
    have y16 : y < 16 := by omega
    have j0 : (0 : Int) ≤ (j : Int) := by omega
    have j1 : (j : Int) < (ps.length : Int) := by omega
    have j2 : ¬ (j : Int) < 0 := by omega
    clear q WN WO WS EI CR2 JD e hy c1 c2
    go_wp2_with fail
    go_region_held3 (fun w' => (w'.cell? ⟨w.heap.size, 0, none⟩ = some (.slice (some ⟨bW, oW, none⟩) ws.length cW) ∧ w'.cell? ⟨w.heap.size, 1, none⟩ = some (.slice (some ⟨bP, oP, none⟩) ps.length cP)) ∧ w'.cell? ⟨bL, oL + k, none⟩ = some (.string nm))
     (exact SK.out _ (by repeat (first | exact BF.out | exact Below.refl _ _ | refine Below.drew ?_)))
     (first
      | (go_at_call 78; refine (LE2.out _ (by repeat (first | exact Below.refl _ _ | refine Below.drew ?_))).mono ?_; rintro e w1 ⟨rfl, hb1⟩; have BF : Hid (Below wr.heap.size wr w1) := (by first | exact hb1 | exact zab (by repeat (first | exact Below.refl _ _ | refine Below.drew ?_)) hb1 (Nat.le_refl _)); clear hb1))
    all_goals
     have B3 := zaa (zab B.out BF.out B.out.size)
     have B4 := zaa (zab J1.out BF.out J1.out.size)
     have p1 := (SK.out _ BF.out).1.2
     have p2 := HJ.out _ B3.out
     clear SK x0 x1 y0 n0
     go_wp2
     go_roundg (ns.length - (k + 1))
     case measure => omega
     case rel => exact ⟨k + 1, y, by omega, y16, rfl, by go_num, (by repeat (first | exact B4.out | refine Below.drew ?_)), W2.out⟩
  ·obtain rfl : k = ns.length := by omega
   have E : Hid (res = ((z : Int), 0)) := by unfold Hid; rw [J.out.2, List.drop_length]; rfl
   clear HRES J
   obtain rfl := E.out
   go_wp2
   go_ret2
   exact ⟨rfl, B.out⟩
def lkI (ws : List Ino) (ps : List Den) (s : ByteArray) : Int × Int := if spB s = true then wk ws ps 0 (spL s) else (0, 12)
def lkR (ws : List Ino) (ps : List Den) (s : ByteArray) : Int × Int := if 65536 < s.size then (0, 2) else if zcb ws ps = true then lkI ws ps s else (0, 1)
def paN (ws : List Ino) (ps : List Den) (xs : List ByteArray) (x : ByteArray) : Int × ByteArray × Int := if (wk ws ps 0 xs).2 = 0 then (if zai ws (wk ws ps 0 xs).1 = 2 then ((wk ws ps 0 xs).1, x, 0) else (0, ⟨#[]⟩, 10)) else (0, ⟨#[]⟩, (wk ws ps 0 xs).2)
def paL (ws : List Ino) (ps : List Den) (ns : List ByteArray) : Int × ByteArray × Int := if ns = [] then (0, ⟨#[]⟩, 19) else paN ws ps ns.dropLast (ns.getLastD ⟨#[]⟩)
def paI (ws : List Ino) (ps : List Den) (s : ByteArray) : Int × ByteArray × Int := if spB s = true then paL ws ps (spL s) else (0, ⟨#[]⟩, 12)
def paR (ws : List Ino) (ps : List Den) (s : ByteArray) : Int × ByteArray × Int := if 65536 < s.size then (0, ⟨#[]⟩, 2) else if zcb ws ps = true then paI ws ps s else (0, ⟨#[]⟩, 1)
theorem zig (ws : List Ino) (ps : List Den) (xs : List ByteArray) (x : ByteArray) : paL ws ps (xs ++ [x]) = paN ws ps xs x := by
 unfold paL
 rw [if_neg (by simp), List.dropLast_concat]
 congr 1
 simp
theorem zys {ns : List ByteArray} (h : ¬ ns = []) : ∃ xs x, ns = xs ++ [x] := ⟨ns.dropLast, ns.getLast h, (List.dropLast_concat_getLast h).symm⟩
set_option maxRecDepth 100000 in
set_option maxHeartbeats 4000000 in
theorem zew (v : Value) (ws : List Ino) (ps : List Den) (s : ByteArray) (w : World) (h : RdIm w v ws ps) (hi : zcb ws ps = true) (hs : s.size ≤ 65536) :
  Calls Tryz.prog 91 #[v, .string s] w fun e w' => e = .returned (.tuple #[.int .i64 (lkI ws ps s).1, .int .i64 (lkI ws ps s).2]) ∧ Below w.heap.size w w' := by
 have HR := zaa h
 have LS := zaa (fun w1 => zlu s w1 hs)
 have LW := zaa (fun vL w1 h hL => zox v vL ws ps (spL s) w1 h hL hi (by have := @zrs s; omega))
 have EL := zaa (show lkI ws ps s = if spB s = true then wk ws ps 0 (spL s) else (0, 12) from rfl)
 obtain ⟨vW, vP, rfl, h1, h2⟩ := h
 obtain ⟨aW, cW, rfl, _, _⟩ := h1.shape
 obtain ⟨aP, cP, rfl, _, _⟩ := h2.shape
 clear h1 h2 hi
 have CA : Hid (∀ w', Below (w.alloc (.cells #[.slice aW ws.length cW, .slice aP ps.length cP] 42)).heap.size (w.alloc (.cells #[.slice aW ws.length cW, .slice aP ps.length cP] 42)) w' → w'.cell? ⟨w.heap.size, 0, none⟩ = some (.slice aW ws.length cW) ∧ w'.cell? ⟨w.heap.size, 1, none⟩ = some (.slice aP ps.length cP)) := fun w' hb => by
  have : w'.heap[w.heap.size]? = some (.cells #[.slice aW ws.length cW, .slice aP ps.length cP] 42 (0, 0)) := (hb.block _ (by simp)).trans (zah rfl)
  exact ⟨(zac this).1, (zac this).2.1⟩
 have BW : Hid (Below w.heap.size w (w.alloc (.cells #[.slice aW ws.length cW, .slice aP ps.length cP] 42))) := (Below.refl _ _).alloc (Nat.le_refl _) _
 generalize lkI ws ps s = res at *
 generalize wk ws ps 0 (spL s) = rw0 at *
 cases c : spB s with
 | false =>
  rw [c] at LS EL
  obtain rfl := EL.out
  clear EL LW
  go_enter Tryz.func91, Tryz.ntmps91
  go_wp2_with fail
  refine (LS.out _).mono ?_
  rintro e w1 ⟨v1, rfl, hr1, hb1⟩
  have B1 := zaa (zab BW.out hb1 BW.out.size)
  clear hr1 hb1
  go_wp2
  go_ret2
  exact ⟨rfl, B1.out⟩
 | true =>
  rw [c] at LS EL
  obtain rfl : res = rw0 := EL.out
  clear EL
  go_enter Tryz.func91, Tryz.ntmps91
  go_wp2_with fail
  refine (LS.out _).mono ?_
  rintro e w1 ⟨v1, rfl, hr1, hb1⟩
  have B1 := zaa (zab BW.out hb1 BW.out.size)
  obtain ⟨x0, x1⟩ := CA.out _ hb1
  have R1 := zaa hr1
  clear hr1 hb1
  go_wp2_with fail
  refine (LW.out _ _ (HR.out.below B1.out) R1.out).mono ?_
  rintro e w2 ⟨rfl, hb2⟩
  have B2 := zaa (zab B1.out hb2 B1.out.size)
  clear hb2 x0 x1
  go_wp2
  go_ret2
  exact ⟨rfl, B2.out⟩
def zbb (p : Nat → Bool) (n : Nat) : Int := match (List.range n).find? p with | some i => (i : Int) | none => -1
theorem zgu {p : Nat → Bool} {n k : Nat} (hk : k < n) (h : ∀ j, j < k → p j = false) (e : p k = true) : zbb p n = (k : Int) := by
 have : (List.range n).find? p = some k := List.find?_range_eq_some.2 ⟨e, List.mem_range.2 hk, fun j hj => by rw [h j hj]; rfl⟩
 unfold zbb
 rw [this]
theorem zee {p : Nat → Bool} {n : Nat} (h : ∀ j, j < n → p j = false) : zbb p n = -1 := by
 have : (List.range n).find? p = none := List.find?_eq_none.2 (fun j hj => by rw [h j (List.mem_range.1 hj)]; decide)
 unfold zbb
 rw [this]
theorem zdj (p : Nat → Bool) (n : Nat) : -1 ≤ zbb p n ∧ zbb p n < n := by
 unfold zbb
 split
 ·rename_i i h
  have := List.mem_range.1 (List.mem_of_find?_eq_some h)
  omega
 ·omega
theorem zxp {p q : Nat → Bool} {n : Nat} (h : ∀ j, j < n → p j = q j) : zbb p n = zbb q n := by
 rcases Classical.em (∃ k, k < n ∧ p k = true ∧ ∀ j, j < k → p j = false) with ⟨k, hk, e, f⟩ | hn
 ·rw [zgu hk f e, zgu hk (fun j hj => by rw [← h j (by omega)]; exact f j hj) (by rw [← h k hk]; exact e)]
 ·have a : ∀ m, m ≤ n → ∀ j, j < m → p j = false := by
   intro m
   induction m with
   | zero => intro _ j hj; omega
   | succ m ih =>
    intro hm j hj
    by_cases e : j = m
    ·subst e
     cases hp : p j with
     | false => rfl
     | true => exact absurd ⟨j, by omega, hp, ih (by omega)⟩ hn
    ·exact ih (by omega) j (by omega)
  rw [zee (a n (Nat.le_refl _)), zee (fun j hj => by rw [← h j hj]; exact a n (Nat.le_refl _) j hj)]
def zsm (r : Int) : Int := if r < 0 then 0 else r
def zrx (r : Int) : Int := if r < 0 then 7 else 0
theorem yagw {ws : List Ino} {ps : List Den} (h : zcb ws ps = true) : ws.length = 16 ∧ ps.length = 24 ∧ zai ws 0 = 2 ∧ zvo ws = true := by
 unfold zcb at h
 simp only [Bool.and_eq_true, decide_eq_true_eq, beq_iff_eq] at h
 exact ⟨h.1, h.2.1, h.2.2.1, h.2.2.2.1⟩
end Go.Proofs.YtpakbbdlhlkogaaGreatDoor
