/- A number's text is read: the walk of the model. -/
import Derived.Test.YtkchiplcjlgflaaGreatDoorRoB
namespace Go.Proofs.YtkchiplcjlgflaaGreatDoor
open Go.RowKit
def nuQ (s : ByteArray) (v : Int) (ok : Bool) : Prop := (∃ n : Nat, numP s = some n ∧ ok = true ∧ v = (n : Int)) ∨ (numP s = none ∧ (ok = false ∨ v < 0))
def nuP (s : ByteArray) (e : Ending) : Prop := ∃ (v : Int) (ok : Bool), e = .returned (.tuple #[.int .i64 v, .bool ok]) ∧ nuQ s v ok ∧ -9223372036854775808 ≤ v ∧ v ≤ 9223372036854775807
theorem byte_eq (c : UInt8) (k : Nat) (hk : k < 256) : ((c.toNat : Int) == (k : Int)) = decide (c = UInt8.ofNat k) := by
  by_cases h : c = UInt8.ofNat k
  · subst h
    rw [decide_eq_true rfl, UInt8.toNat_ofNat', beq_iff_eq]
    have : k % 2 ^ 8 = k := Nat.mod_eq_of_lt (by omega)
    omega
  · rw [decide_eq_false h, beq_eq_false_iff_ne]
    intro e
    apply h
    apply UInt8.toNat_inj.1
    rw [UInt8.toNat_ofNat']
    have : k % 2 ^ 8 = k := Nat.mod_eq_of_lt (by omega)
    omega
theorem head_at (s : ByteArray) (h : 0 < s.size) : s.data.toList.head? = some s[0] := by
  have hl := Lib.size_eq s
  have h2 : 0 < s.data.toList.length := by omega
  rw [List.head?_eq_getElem?, List.getElem?_eq_getElem h2]
  exact congrArg some (byte_at s 0 h)
theorem num_minus {s : ByteArray} (h : 0 < s.size) (c : s[0] = 45) : numP s = none := by
  unfold numP
  split
  · unfold Lib.decNat
    have hh := head_at s h
    cases e : s.data.toList with
    | nil => rfl
    | cons x r =>
      rw [e] at hh
      have : x = 45 := by rw [c] at hh; simpa using hh
      subst this
      rfl
  · rfl
set_option maxRecDepth 100000 in
set_option maxHeartbeats 8000000 in
theorem l00Number_any (s : ByteArray) (w : World) (hs : s.size ≤ 65536) :
    Calls Tryz.prog 14 #[.string s] w fun e w' => nuP s e ∧ w' = w := by
  have TOP : Hid (∃ (u : ByteArray) (sg : Int), u.size ≤ 65536 ∧ ((sg = 1 ∧ u = s ∧ (∀ h : 0 < s.size, ¬ s[0] = 45)) ∨ (sg = -1 ∧ u = s.extract 1 s.size ∧ ∃ h : 0 < s.size, s[0] = 45))) := by
    by_cases h : 0 < s.size
    · by_cases c : s[0] = 45
      · exact ⟨s.extract 1 s.size, -1, by rw [ByteArray.size_extract]; omega, .inr ⟨rfl, rfl, h, c⟩⟩
      · exact ⟨s, 1, hs, .inl ⟨rfl, rfl, fun _ => c⟩⟩
    · exact ⟨s, 1, hs, .inl ⟨rfl, rfl, fun h' => absurd h' h⟩⟩
  obtain ⟨u, sg, hu, HS⟩ := TOP.out
  clear TOP
  have F1 : Hid ((u.size = 0 ∨ 18 < u.size ∨ (∃ h : 0 < u.size, u[0] = 48 ∧ (1 < u.size ∨ sg < 0))) → nuQ s 0 false) := fun h => by
    refine .inr ⟨?_, .inl rfl⟩
    rcases HS with ⟨rfl, rfl, -⟩ | ⟨-, -, h0, c0⟩
    · unfold numP
      rcases h with h | h | ⟨h0, c, h⟩
      · split
        · have hl := Lib.size_eq u
          unfold Lib.decNat
          rw [if_pos (by rw [List.isEmpty_iff, ← List.length_eq_zero_iff]; omega)]
        · rfl
      · rw [if_neg (fun q => by omega)]
      · rw [if_neg (fun q => by
          have := q.2 (by omega)
          rw [head_at u h0, c] at this
          exact this rfl)]
    · exact num_minus h0 c0
  have F2 : Hid (Lib.decFrom 0 u.data.toList = none → nuQ s 0 false) := fun h => by
    refine .inr ⟨?_, .inl rfl⟩
    rcases HS with ⟨rfl, rfl, -⟩ | ⟨-, -, h0, c0⟩
    · unfold numP
      split
      · unfold Lib.decNat
        split
        · rfl
        · exact h
      · rfl
    · exact num_minus h0 c0
  have F3 : Hid (∀ n : Nat, 0 < u.size → u.size ≤ 18 → (∀ h : 0 < u.size, ¬ (u[0] = 48 ∧ (1 < u.size ∨ sg < 0))) → Lib.decFrom 0 u.data.toList = some n → nuQ s (sg * (n : Int)) true) := fun n h0 h18 hc h => by
    have hl := Lib.size_eq u
    have hne : u.data.toList ≠ [] := fun e => by rw [e] at hl; have : u.size = 0 := hl; omega
    have hhd : 1 < u.data.toList.length → u.data.toList.head? ≠ some 48 := fun h1 => by
      rw [head_at u h0]
      intro e
      rw [← hl] at h1
      exact hc h0 ⟨Option.some.inj e, .inl h1⟩
    rcases HS with ⟨rfl, rfl, -⟩ | ⟨rfl, -, h1, c1⟩
    · refine .inl ⟨n, ?_, rfl, by omega⟩
      unfold numP
      rw [if_pos ⟨h18, fun q => hhd (by rw [← hl]; exact q)⟩]
      unfold Lib.decNat
      rw [if_neg (by simpa using hne)]
      exact h
    · refine .inr ⟨num_minus h1 c1, .inr ?_⟩
      have := canon_back _ _ n (Nat.le_refl _) h hne hhd
      rcases Nat.eq_zero_or_pos n with z | z
      · subst z
        exfalso
        have e : Lib.decDigits 0 = [48] := by rw [Lib.decDigits, dif_pos (by omega)]; rfl
        rw [e] at this
        have q := head_at u h0
        rw [← this] at q
        exact hc h0 ⟨(Option.some.inj q).symm, .inr (by omega)⟩
      · omega
  have SG : Hid (sg = 1 ∨ sg = -1) := by rcases HS with ⟨a, -⟩ | ⟨a, -⟩; exact .inl a; exact .inr a
  have MK : Hid (∀ v ok, nuQ s v ok → (-9223372036854775808 ≤ v ∧ v ≤ 9223372036854775807) → nuP s (.returned (.tuple #[.int .i64 v, .bool ok]))) := fun v ok a b => ⟨v, ok, rfl, a, b⟩
  generalize nuP s = PP at *
  generalize nuQ s = Q at *
  go_enter Tryz.func14, Tryz.ntmps14
  rcases HS with ⟨e1, e2, e3⟩ | ⟨e1, e2, e0, e3⟩
  · subst e1 e2
    by_cases h0 : 0 < u.size
    · have k0 : (0 : Int) < (u.size : Int) := by omega
      have q45 : ((u[0].toNat : Int) == 45) = false := by rw [show (45 : Int) = ((45 : Nat) : Int) from rfl, byte_eq _ 45 (by omega)]; exact decide_eq_false (e3 h0)
      clear e3 SG
      go_upto_region 5 with fail
      clear q45 k0
      by_cases z0 : u.size = 0
      case pos =>
        have QF := hideIt (F1.out (.inl z0))
        have z1 : ((u.size : Int) == 0) = true := by rw [beq_iff_eq]; omega
        clear F1 F2 F3
        go_wp2
        go_ret2
        exact ⟨MK.out 0 false QF.out ⟨by omega, by omega⟩, rfl⟩
      have z1 : ((u.size : Int) == 0) = false := by rw [beq_eq_false_iff_ne]; omega
      by_cases z2 : 18 < u.size
      case pos =>
        have QF := hideIt (F1.out (.inr (.inl z2)))
        have z3 : (u.size : Int) > 18 := by omega
        clear F1 F2 F3 z2
        go_wp2
        go_ret2
        exact ⟨MK.out 0 false QF.out ⟨by omega, by omega⟩, rfl⟩
      have z3 : ¬ (u.size : Int) > 18 := by omega
      have h0 : 0 < u.size := by omega
      have k0 : (0 : Int) < (u.size : Int) := by omega
      by_cases c48 : u[0] = 48
      case pos =>
        have q48 : ((u[0].toNat : Int) == 48) = true := by rw [show (48 : Int) = ((48 : Nat) : Int) from rfl, byte_eq _ 48 (by omega)]; exact decide_eq_true c48
        by_cases z4 : 1 < u.size
        case pos =>
          have QF := hideIt (F1.out (.inr (.inr ⟨h0, c48, .inl z4⟩)))
          have z5 : (u.size : Int) > 1 := by omega
          clear F1 F2 F3 z4 c48
          go_wp2
          go_ret2
          exact ⟨MK.out 0 false QF.out ⟨by omega, by omega⟩, rfl⟩
        have z5 : ¬ (u.size : Int) > 1 := by omega
        have FS := hideIt (fun (n : Nat) h => F3.out n h0 (by omega) (fun _ q => by rcases q.2 with r | r <;> omega) h)
        clear F1 F3 c48
        go_upto_region 7 with fail
        clear q48
        go_wp2_with fail
        go_loopg [5, 6] u.size (fun g nv i wr => ∃ k m : Nat, k + g = u.size ∧ nv = .int .i64 m ∧ i = .int .i64 k ∧ Hid (Lib.decFrom 0 (u.data.toList.take k) = some m) ∧ wr = w)
        case atStart => exact ⟨0, 0, by omega, rfl, rfl, rfl, rfl⟩
        case round =>
          obtain ⟨k, m, hk, rfl, rfl, HD, rfl⟩ := hrel
          have kk0 : (0 : Int) ≤ (k : Int) := by omega
          have m0 : (0 : Int) ≤ (m : Int) := by omega
          by_cases hlt : k < u.size
          · have k1 : (k : Int) < (u.size : Int) := by omega
            have hkl : k < u.data.toList.length := by rw [← Lib.size_eq]; exact hlt
            have mb := Lib.decFrom_take_lt HD.out (by omega)
            have hb : u.data.toList[k]? = some u[k] := by rw [List.getElem?_eq_getElem hkl, byte_at u k hlt]
            have NX := hideIt (fun d (hd : Lib.digitVal u[k] = some d) => Lib.decFrom_take u.data.toList k 0 m u[k] d HD.out hb hd)
            have BAD : Hid (Lib.digitVal u[k] = none → Q 0 false) := fun e => F2.out (by
              cases h : Lib.decFrom 0 u.data.toList with
              | none => rfl
              | some n =>
                obtain ⟨d, hd⟩ := Lib.digit_of_decFrom u.data.toList 0 n h k u[k] hb
                rw [e] at hd
                cases hd)
            have DV : Hid (Lib.digitVal u[k] = if 48 ≤ u[k].toNat ∧ u[k].toNat ≤ 57 then some (u[k].toNat - 48) else none) := rfl
            have c256 : u[k].toNat < 256 := u[k].toNat_lt
            clear hb HD F2 FS
            generalize Lib.digitVal u[k] = dv at *
            generalize hct : u[k].toNat = ct at *
            by_cases d1 : ct < 48
            · have d2 : (ct : Int) < 48 := by omega
              have QF := hideIt (BAD.out (by rw [DV.out, if_neg (by omega)]))
              clear BAD NX DV
              go_wp2
              go_ret2
              exact ⟨MK.out 0 false QF.out ⟨by omega, by omega⟩, rfl⟩
            have d2 : ¬ (ct : Int) < 48 := by omega
            by_cases d3 : 57 < ct
            · have d4 : (ct : Int) > 57 := by omega
              have QF := hideIt (BAD.out (by rw [DV.out, if_neg (by omega)]))
              clear BAD NX DV
              go_wp2
              go_ret2
              exact ⟨MK.out 0 false QF.out ⟨by omega, by omega⟩, rfl⟩
            have d4 : ¬ (ct : Int) > 57 := by omega
            have N2 := hideIt (NX.out (ct - 48) (by rw [DV.out, if_pos (by omega)]))
            clear BAD NX DV
            go_wp2
            go_roundg (u.size - (k + 1))
            case measure => omega
            case rel => exact ⟨k + 1, m * 10 + (ct - 48), by omega, by go_num, by go_num, N2.out, rfl⟩
          · obtain rfl : k = u.size := by omega
            have mb := Lib.decFrom_lt18 (l := u.data.toList) (m := m) (by have := HD.out; rw [List.take_of_length_le (by rw [← Lib.size_eq]; exact Nat.le_refl _)] at this; exact this) (by rw [← Lib.size_eq]; omega)
            have QT := hideIt (FS.out m (by have := HD.out; rw [List.take_of_length_le (by rw [← Lib.size_eq]; exact Nat.le_refl _)] at this; exact this))
            clear F2 FS HD
            go_wp2
            go_ret2
            have MKm := MK.out (1 * (m : Int)) true QT.out ⟨by omega, by omega⟩
            rw [Int.one_mul] at MKm
            refine ⟨?_, rfl⟩
            exact MKm
      have q48 : ((u[0].toNat : Int) == 48) = false := by rw [show (48 : Int) = ((48 : Nat) : Int) from rfl, byte_eq _ 48 (by omega)]; exact decide_eq_false c48
      have FS := hideIt (fun (n : Nat) h => F3.out n h0 (by omega) (fun _ q => c48 q.1) h)
      clear F1 F3 c48
      go_upto_region 7 with fail
      clear q48
      go_wp2_with fail
      go_loopg [5, 6] u.size (fun g nv i wr => ∃ k m : Nat, k + g = u.size ∧ nv = .int .i64 m ∧ i = .int .i64 k ∧ Hid (Lib.decFrom 0 (u.data.toList.take k) = some m) ∧ wr = w)
      case atStart => exact ⟨0, 0, by omega, rfl, rfl, rfl, rfl⟩
      case round =>
        obtain ⟨k, m, hk, rfl, rfl, HD, rfl⟩ := hrel
        have kk0 : (0 : Int) ≤ (k : Int) := by omega
        have m0 : (0 : Int) ≤ (m : Int) := by omega
        by_cases hlt : k < u.size
        · have k1 : (k : Int) < (u.size : Int) := by omega
          have hkl : k < u.data.toList.length := by rw [← Lib.size_eq]; exact hlt
          have mb := Lib.decFrom_take_lt HD.out (by omega)
          have hb : u.data.toList[k]? = some u[k] := by rw [List.getElem?_eq_getElem hkl, byte_at u k hlt]
          have NX := hideIt (fun d (hd : Lib.digitVal u[k] = some d) => Lib.decFrom_take u.data.toList k 0 m u[k] d HD.out hb hd)
          have BAD : Hid (Lib.digitVal u[k] = none → Q 0 false) := fun e => F2.out (by
            cases h : Lib.decFrom 0 u.data.toList with
            | none => rfl
            | some n =>
              obtain ⟨d, hd⟩ := Lib.digit_of_decFrom u.data.toList 0 n h k u[k] hb
              rw [e] at hd
              cases hd)
          have DV : Hid (Lib.digitVal u[k] = if 48 ≤ u[k].toNat ∧ u[k].toNat ≤ 57 then some (u[k].toNat - 48) else none) := rfl
          have c256 : u[k].toNat < 256 := u[k].toNat_lt
          clear hb HD F2 FS
          generalize Lib.digitVal u[k] = dv at *
          generalize hct : u[k].toNat = ct at *
          by_cases d1 : ct < 48
          · have d2 : (ct : Int) < 48 := by omega
            have QF := hideIt (BAD.out (by rw [DV.out, if_neg (by omega)]))
            clear BAD NX DV
            go_wp2
            go_ret2
            exact ⟨MK.out 0 false QF.out ⟨by omega, by omega⟩, rfl⟩
          have d2 : ¬ (ct : Int) < 48 := by omega
          by_cases d3 : 57 < ct
          · have d4 : (ct : Int) > 57 := by omega
            have QF := hideIt (BAD.out (by rw [DV.out, if_neg (by omega)]))
            clear BAD NX DV
            go_wp2
            go_ret2
            exact ⟨MK.out 0 false QF.out ⟨by omega, by omega⟩, rfl⟩
          have d4 : ¬ (ct : Int) > 57 := by omega
          have N2 := hideIt (NX.out (ct - 48) (by rw [DV.out, if_pos (by omega)]))
          clear BAD NX DV
          go_wp2
          go_roundg (u.size - (k + 1))
          case measure => omega
          case rel => exact ⟨k + 1, m * 10 + (ct - 48), by omega, by go_num, by go_num, N2.out, rfl⟩
        · obtain rfl : k = u.size := by omega
          have mb := Lib.decFrom_lt18 (l := u.data.toList) (m := m) (by have := HD.out; rw [List.take_of_length_le (by rw [← Lib.size_eq]; exact Nat.le_refl _)] at this; exact this) (by rw [← Lib.size_eq]; omega)
          have QT := hideIt (FS.out m (by have := HD.out; rw [List.take_of_length_le (by rw [← Lib.size_eq]; exact Nat.le_refl _)] at this; exact this))
          clear F2 FS HD
          go_wp2
          go_ret2
          have MKm := MK.out (1 * (m : Int)) true QT.out ⟨by omega, by omega⟩
          rw [Int.one_mul] at MKm
          refine ⟨?_, rfl⟩
          exact MKm
    · have k0 : ¬ (0 : Int) < (u.size : Int) := by omega
      have z0 : u.size = 0 := by omega
      have QF := hideIt (F1.out (.inl z0))
      have z1 : ((u.size : Int) == 0) = true := by rw [beq_iff_eq]; omega
      clear F1 F2 F3 e3 SG
      go_wp2
      go_ret2
      exact ⟨MK.out 0 false QF.out ⟨by omega, by omega⟩, rfl⟩
  · subst e1
    have k0 : (0 : Int) < (s.size : Int) := by omega
    have k1 : (1 : Int) ≤ (s.size : Int) := by omega
    have q45 : ((s[0].toNat : Int) == 45) = true := by rw [show (45 : Int) = ((45 : Nat) : Int) from rfl, byte_eq _ 45 (by omega)]; exact decide_eq_true e3
    clear SG
    go_upto_region 5 with fail
    rw [← e2]
    clear q45 k0 k1 e2 e3 e0
    by_cases z0 : u.size = 0
    case pos =>
      have QF := hideIt (F1.out (.inl z0))
      have z1 : ((u.size : Int) == 0) = true := by rw [beq_iff_eq]; omega
      clear F1 F2 F3
      go_wp2
      go_ret2
      exact ⟨MK.out 0 false QF.out ⟨by omega, by omega⟩, rfl⟩
    have z1 : ((u.size : Int) == 0) = false := by rw [beq_eq_false_iff_ne]; omega
    by_cases z2 : 18 < u.size
    case pos =>
      have QF := hideIt (F1.out (.inr (.inl z2)))
      have z3 : (u.size : Int) > 18 := by omega
      clear F1 F2 F3 z2
      go_wp2
      go_ret2
      exact ⟨MK.out 0 false QF.out ⟨by omega, by omega⟩, rfl⟩
    have z3 : ¬ (u.size : Int) > 18 := by omega
    have h0 : 0 < u.size := by omega
    have k0 : (0 : Int) < (u.size : Int) := by omega
    by_cases c48 : u[0] = 48
    case pos =>
      have q48 : ((u[0].toNat : Int) == 48) = true := by rw [show (48 : Int) = ((48 : Nat) : Int) from rfl, byte_eq _ 48 (by omega)]; exact decide_eq_true c48
      by_cases z4 : 1 < u.size
      case pos =>
        have QF := hideIt (F1.out (.inr (.inr ⟨h0, c48, .inl z4⟩)))
        have z5 : (u.size : Int) > 1 := by omega
        clear F1 F2 F3 z4 c48
        go_wp2
        go_ret2
        exact ⟨MK.out 0 false QF.out ⟨by omega, by omega⟩, rfl⟩
      have z5 : ¬ (u.size : Int) > 1 := by omega
      have QF := hideIt (F1.out (.inr (.inr ⟨h0, c48, .inr (by omega)⟩)))
      clear F1 F2 F3 c48
      go_wp2
      go_ret2
      exact ⟨MK.out 0 false QF.out ⟨by omega, by omega⟩, rfl⟩
    have q48 : ((u[0].toNat : Int) == 48) = false := by rw [show (48 : Int) = ((48 : Nat) : Int) from rfl, byte_eq _ 48 (by omega)]; exact decide_eq_false c48
    have FS := hideIt (fun (n : Nat) h => F3.out n h0 (by omega) (fun _ q => c48 q.1) h)
    clear F1 F3 c48
    go_upto_region 7 with fail
    clear q48
    go_wp2_with fail
    go_loopg [5, 6] u.size (fun g nv i wr => ∃ k m : Nat, k + g = u.size ∧ nv = .int .i64 m ∧ i = .int .i64 k ∧ Hid (Lib.decFrom 0 (u.data.toList.take k) = some m) ∧ wr = w)
    case atStart => exact ⟨0, 0, by omega, rfl, rfl, rfl, rfl⟩
    case round =>
      obtain ⟨k, m, hk, rfl, rfl, HD, rfl⟩ := hrel
      have kk0 : (0 : Int) ≤ (k : Int) := by omega
      have m0 : (0 : Int) ≤ (m : Int) := by omega
      by_cases hlt : k < u.size
      · have k1 : (k : Int) < (u.size : Int) := by omega
        have hkl : k < u.data.toList.length := by rw [← Lib.size_eq]; exact hlt
        have mb := Lib.decFrom_take_lt HD.out (by omega)
        have hb : u.data.toList[k]? = some u[k] := by rw [List.getElem?_eq_getElem hkl, byte_at u k hlt]
        have NX := hideIt (fun d (hd : Lib.digitVal u[k] = some d) => Lib.decFrom_take u.data.toList k 0 m u[k] d HD.out hb hd)
        have BAD : Hid (Lib.digitVal u[k] = none → Q 0 false) := fun e => F2.out (by
          cases h : Lib.decFrom 0 u.data.toList with
          | none => rfl
          | some n =>
            obtain ⟨d, hd⟩ := Lib.digit_of_decFrom u.data.toList 0 n h k u[k] hb
            rw [e] at hd
            cases hd)
        have DV : Hid (Lib.digitVal u[k] = if 48 ≤ u[k].toNat ∧ u[k].toNat ≤ 57 then some (u[k].toNat - 48) else none) := rfl
        have c256 : u[k].toNat < 256 := u[k].toNat_lt
        clear hb HD F2 FS
        generalize Lib.digitVal u[k] = dv at *
        generalize hct : u[k].toNat = ct at *
        by_cases d1 : ct < 48
        · have d2 : (ct : Int) < 48 := by omega
          have QF := hideIt (BAD.out (by rw [DV.out, if_neg (by omega)]))
          clear BAD NX DV
          go_wp2
          go_ret2
          exact ⟨MK.out 0 false QF.out ⟨by omega, by omega⟩, rfl⟩
        have d2 : ¬ (ct : Int) < 48 := by omega
        by_cases d3 : 57 < ct
        · have d4 : (ct : Int) > 57 := by omega
          have QF := hideIt (BAD.out (by rw [DV.out, if_neg (by omega)]))
          clear BAD NX DV
          go_wp2
          go_ret2
          exact ⟨MK.out 0 false QF.out ⟨by omega, by omega⟩, rfl⟩
        have d4 : ¬ (ct : Int) > 57 := by omega
        have N2 := hideIt (NX.out (ct - 48) (by rw [DV.out, if_pos (by omega)]))
        clear BAD NX DV
        go_wp2
        go_roundg (u.size - (k + 1))
        case measure => omega
        case rel => exact ⟨k + 1, m * 10 + (ct - 48), by omega, by go_num, by go_num, N2.out, rfl⟩
      · obtain rfl : k = u.size := by omega
        have mb := Lib.decFrom_lt18 (l := u.data.toList) (m := m) (by have := HD.out; rw [List.take_of_length_le (by rw [← Lib.size_eq]; exact Nat.le_refl _)] at this; exact this) (by rw [← Lib.size_eq]; omega)
        have QT := hideIt (FS.out m (by have := HD.out; rw [List.take_of_length_le (by rw [← Lib.size_eq]; exact Nat.le_refl _)] at this; exact this))
        clear F2 FS HD
        go_wp2
        go_ret2
        have MKm := MK.out ((-1) * (m : Int)) true QT.out ⟨by omega, by omega⟩
        rw [show (-1) * (m : Int) = -(m : Int) by omega] at MKm
        refine ⟨?_, rfl⟩
        exact MKm
end Go.Proofs.YtkchiplcjlgflaaGreatDoor
