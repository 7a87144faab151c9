/- Several texts laid together: TrA, TrC, MvA, FsA. -/
import Derived.Test.YtlgghookekokaaaGreatDoorZAM
import Derived.Test.YtlgghookekokaaaGreatDoorZAB
import Derived.Test.YtlgghookekokaaaGreatDoorZAX
import Derived.Test.YtlgghookekokaaaGreatDoorZBH
import Derived.Test.YtlgghookekokaaaGreatDoorZAL
import Derived.Test.YtlgghookekokaaaGreatDoorZBI
namespace Go.Proofs.YtlgghookekokaaaGreatDoor
open Go.RowKit

/-- Heat that is right; heat of a fresh file system; all halved. -/
def heatB (hs : List Int) : Bool := decide (hs.length = 128 ∧ ∀ k (h : k < hs.length), 0 ≤ hs[k] ∧ hs[k] ≤ 64)
def newH (n : Nat) : List Int := List.replicate n 1
def decH (hs : List Int) (n : Nat) : List Int := (hs.take n).map (fun z => z / 2)
theorem newH_succ (n : Nat) : newH (n + 1) = newH n ++ [1] := by unfold newH; rw [List.replicate_succ', ]
theorem newH_len (n : Nat) : (newH n).length = n := by simp [newH]
theorem decH_succ (hs : List Int) (n : Nat) (h : n < hs.length) : decH hs (n + 1) = decH hs n ++ [hs[n] / 2] := by
  unfold decH
  rw [List.take_succ_eq_append_getElem h, List.map_append]
  rfl
theorem decH_len (hs : List Int) (n : Nat) : (decH hs n).length ≤ n := by unfold decH; simp; omega

set_option maxRecDepth 100000 in
set_option maxHeartbeats 4000000 in
theorem l09New_any (w : World) : Calls Tryz.prog 131 #[] w fun e w' => ∃ v', e = .returned v' ∧ Row w' 3 1 w.heap.size w'.heap.size v' (newH 128).length (ints (newH 128)) ∧ Below w.heap.size w w' := by
  have START : Hid (InI w (w.alloc (.cells #[] 3)) (.slice (some ⟨w.heap.size, 0, none⟩) 0 0) (newH 0)) := ⟨World.ownsRow_lit w #[] 0 (Nat.le_refl _) (by simp [maxLen]) (by simp), (Below.refl _ _).alloc (Nat.le_refl _) _⟩
  go_enter Tryz.func131, Tryz.ntmps131
  go_wp2
  go_loopw [1, 2] (fun vL i wr => ∃ m : Nat, m ≤ 128 ∧ i = .int .i64 (m : Int) ∧ Hid (InI w wr vL (newH m))) (fun _ i _ => 128 - (intOf i).toNat)
  case atStart => exact ⟨0, by omega, rfl, START⟩
  case round =>
    obtain ⟨m, hm, rfl, J⟩ := hrel
    clear START
    have m0 : (0 : Int) ≤ (m : Int) := by omega
    by_cases hlt : m < 128
    · have m1 : (m : Int) < 128 := by omega
      have EM := hideIt (newH_succ m)
      have l2 : (newH m).length ≤ 128 := by rw [newH_len]; omega
      have JB : Hid (InI w (wr.alloc (.cells #[.int .i64 1] 3)) u1 (newH m)) := J.out.below ((Below.refl _ _).alloc (Nat.le_refl _) _)
      have RB := hideIt (rd_int wr 1)
      have hzb := JB.out.z
      clear J
      go_wp2_with (at_builtin; refine wpList_append_rd _ rfl (.tmp 8) (.tmp 9) 28 rfl w.heap.size 3 (.int .i64 0) 1 8 Tryz.underlying28 info3 rfl (by decide) _ _ _ rfl JB.out.l _ 1 _ rfl RB.out (one_int _) (by first | omega | (simp [maxLen]; omega)) (by first | omega | (simp; omega)) hzb ?_)
      intro vN wN hownN hgrN
      have G := hideIt (JB.out.grow 1 hownN hgrN)
      rw [← EM.out] at G
      clear hownN hgrN JB RB
      go_wp2
      go_roundw
      case rel => exact ⟨m + 1, by omega, by go_num, G⟩
      case measure => simp [intOf]; omega
    · obtain rfl : m = 128 := by omega
      obtain ⟨-, aN, cN, hvN, -⟩ := (own_block J.out.l).rd
      subst hvN
      go_wp2
      go_ret
      exact ⟨_, rfl, own_block J.out.l, J.out.b⟩
set_option maxRecDepth 100000 in
set_option maxHeartbeats 4000000 in
theorem specHeatOK_any (v : Value) (hs : List Int) (w : World) (h : RdI w v hs) (_hn : hs.length ≤ 1048576) : Calls Tryz.prog 139 #[v] w fun e w' => e = .returned (.bool (heatB hs)) ∧ w' = w := by
  have NO := hideIt (fun h => show heatB hs = false from decide_eq_false h)
  have YES := hideIt (fun h => show heatB hs = true from decide_eq_true h)
  obtain ⟨ao, cap, rfl, hcap, hc⟩ := h.shape
  by_cases c1 : (hs.length : Int) > 4096
  · rw [NO.out (fun q => by omega)]
    go_enter Tryz.func139, Tryz.ntmps139
    go_wp2
    go_ret
    exact ⟨rfl, rfl⟩
  by_cases c2 : hs.length = 128
  case neg =>
    rw [NO.out (fun q => c2 q.1)]
    have q : ((hs.length : Int) != 128) = true := by rw [bne_iff_ne]; omega
    go_enter Tryz.func139, Tryz.ntmps139
    go_wp2
    go_ret
    exact ⟨rfl, rfl⟩
  obtain ⟨b, o, rfl, hbl, hcell⟩ := hc (by omega)
  have HC := hideIt hcell
  have L128 := hideIt c2
  rw [show heatB hs = heatB hs from rfl]
  generalize hb : heatB hs = hB at *
  clear hb hcell c1
  rw [c2]
  clear c2 hcap
  go_enter Tryz.func139, Tryz.ntmps139
  go_wp2
  go_loopw [3] (fun i wr => ∃ m : Nat, m ≤ 128 ∧ i = .int .i64 (m : Int) ∧ wr = w ∧ Hid (∀ k (h : k < hs.length), k < m → 0 ≤ hs[k] ∧ hs[k] ≤ 64)) (fun i _ => 128 - (intOf i).toNat)
  case atStart => exact ⟨0, by omega, rfl, rfl, fun k _ hk => absurd hk (by omega)⟩
  case round =>
    obtain ⟨m, hm, rfl, rfl, J⟩ := hrel
    have m0 : (0 : Int) ≤ (m : Int) := by omega
    by_cases hlt : m < 128
    · have m1 : (m : Int) < 128 := by omega
      have hl : m < hs.length := by have := L128.out; omega
      have e0 := HC.out m hl
      by_cases q : 0 ≤ hs[m] ∧ hs[m] ≤ 64
      · have G : Hid (∀ k (h : k < hs.length), k < m + 1 → 0 ≤ hs[k] ∧ hs[k] ≤ 64) := fun k hk hkm => by
          rcases Nat.lt_succ_iff_lt_or_eq.1 hkm with r | rfl
          · exact J.out k hk r
          · exact q
        generalize hs[m] = z at *
        clear J
        go_wp2_with fail
        refine (l01In_yes _ _ _ _ q).mono ?_
        rintro e w' ⟨rfl, hw'⟩
        subst w'
        go_wp2
        go_roundw
        case rel => exact ⟨m + 1, by omega, by go_num, (by first | rfl | trivial), G⟩
        case measure => simp [intOf]; omega
      · have E := hideIt (NO.out (fun r => q (r.2 m hl)))
        generalize hs[m] = z at *
        obtain rfl := E.out
        go_wp2_with fail
        refine (l01In_no _ _ _ _ q).mono ?_
        rintro e w' ⟨rfl, hw'⟩
        subst w'
        go_wp2
        go_ret
        exact ⟨rfl, rfl⟩
    · obtain rfl : m = 128 := by omega
      have E := hideIt (YES.out ⟨L128.out, fun k hk => J.out k hk (by have := L128.out; omega)⟩)
      obtain rfl := E.out
      go_wp2
      go_ret
      exact ⟨rfl, rfl⟩

set_option maxRecDepth 100000 in
set_option maxHeartbeats 4000000 in
theorem l09Decay_any (v : Value) (hs : List Int) (w : World) (h : RdI w v hs) (hn : hs.length = 128) (hr : ∀ k (h : k < hs.length), 0 ≤ hs[k] ∧ hs[k] ≤ 64) :
    Calls Tryz.prog 134 #[v] w fun e w' => ∃ v', e = .returned v' ∧ Row w' 3 1 w.heap.size w'.heap.size v' (decH hs 128).length (ints (decH hs 128)) ∧ Below w.heap.size w w' := by
  obtain ⟨ao, cap, rfl, hcap, hc⟩ := h.shape
  obtain ⟨b, o, rfl, hbl, hcell⟩ := hc (by omega)
  have HC : Hid (∀ k (h : k < hs.length) w', Below w.heap.size w w' → w'.cell? ⟨b, o + k, none⟩ = some (.int .i64 hs[k])) := fun k hk w' hb => (hb.cell (p := ⟨b, o + k, none⟩) hbl).trans (hcell k hk)
  have HR := hideIt hr
  have L128 := hideIt hn
  have START : Hid (InI w (w.alloc (.cells #[] 3)) (.slice (some ⟨w.heap.size, 0, none⟩) 0 0) (decH hs 0)) := ⟨World.ownsRow_lit w #[] 0 (Nat.le_refl _) (by simp [maxLen]) (by simp), (Below.refl _ _).alloc (Nat.le_refl _) _⟩
  have DS := hideIt (fun m h => decH_succ hs m h)
  have DL := hideIt (fun m => decH_len hs m)
  rw [hn]
  clear hcell hr hn hcap hc h
  go_enter Tryz.func134, Tryz.ntmps134
  go_wp2
  go_loopw [3, 4] (fun vL i wr => ∃ m : Nat, m ≤ 128 ∧ i = .int .i64 (m : Int) ∧ Hid (InI w wr vL (decH hs m))) (fun _ i _ => 128 - (intOf i).toNat)
  case atStart => exact ⟨0, by omega, rfl, START⟩
  case round =>
    obtain ⟨m, hm, rfl, J⟩ := hrel
    clear START
    have m0 : (0 : Int) ≤ (m : Int) := by omega
    by_cases hlt : m < 128
    · have m1 : (m : Int) < 128 := by omega
      have hl : m < hs.length := by have := L128.out; omega
      have e0 := HC.out m hl wr J.out.b
      have EM := hideIt (DS.out m hl)
      have l2 : (decH hs m).length ≤ 128 := by have := DL.out m; omega
      obtain ⟨z0, z64⟩ := HR.out m hl
      generalize hs[m] = z at *
      have tq : Int.tdiv z 2 = z / 2 := Int.tdiv_eq_ediv_of_nonneg z0
      have JB : Hid (InI w (wr.alloc (.cells #[.int .i64 (z / 2)] 3)) u3 (decH hs m)) := J.out.below ((Below.refl _ _).alloc (Nat.le_refl _) _)
      have RB := hideIt (rd_int wr (z / 2))
      have hzb := JB.out.z
      clear J
      go_wp2_with (at_builtin; refine wpList_append_rd _ rfl (.tmp 12) (.tmp 18) 28 rfl w.heap.size 3 (.int .i64 0) 1 8 Tryz.underlying28 info3 rfl (by decide) _ _ _ rfl JB.out.l _ 1 _ rfl RB.out (one_int _) (by first | omega | (simp [maxLen]; omega)) (by first | omega | (simp; omega)) hzb ?_)
      intro vN wN hownN hgrN
      have G := hideIt (JB.out.grow (z / 2) hownN hgrN)
      rw [← EM.out] at G
      clear hownN hgrN JB RB
      go_wp2
      go_roundw
      case rel => exact ⟨m + 1, by omega, by go_num, G⟩
      case measure => simp [intOf]; omega
    · obtain rfl : m = 128 := by omega
      obtain ⟨-, aN, cN, hvN, -⟩ := (own_block J.out.l).rd
      subst hvN
      go_wp2
      go_ret
      exact ⟨_, rfl, own_block J.out.l, J.out.b⟩
end Go.Proofs.YtlgghookekokaaaGreatDoor

namespace Go.Proofs.YtlgghookekokaaaGreatDoor
open Go.RowKit

/-- The entry of a page, counted through all inodes. -/
def pgE (ns : List Ino) (i : Nat) : Int := (inoAt ns (i / 8)).map.getD (i % 8) 0
/-- The page that is picked among the first ones; -1 without any. -/
def pkS (ns : List Ino) (hs : List Int) (t : Int) (hot : Bool) (b : Int) (i : Nat) : Int := if pgE ns i = 0 ∨ ¬ pgE ns i % 4 = t then b else if b < 0 ∨ (hot = true ∧ hs.getD b.toNat 0 < hs.getD i 0) ∨ (hot = false ∧ hs.getD i 0 < hs.getD b.toNat 0) then (i : Int) else b
def pkN (ns : List Ino) (hs : List Int) (t : Int) (hot : Bool) : Nat → Int
  | 0 => -1
  | n + 1 => pkS ns hs t hot (pkN ns hs t hot n) n
theorem pkN_range (ns : List Ino) (hs : List Int) (t : Int) (hot : Bool) (n : Nat) : -1 ≤ pkN ns hs t hot n ∧ pkN ns hs t hot n < (n : Int) := by
  induction n with
  | zero => exact ⟨Int.le_refl (-1), show (-1 : Int) < 0 by decide⟩
  | succ n ih =>
    have e : pkN ns hs t hot (n + 1) = pkS ns hs t hot (pkN ns hs t hot n) n := rfl
    rw [e]
    unfold pkS
    split
    · omega
    · split <;> omega
theorem tie_at {ns : List Ino} {ds : List Den} (h : imgB ns ds = true) {k : Nat} (hk : k < 16) (j : Nat) : tieB ((inoAt ns k).map.getD j 0) = true := by
  have t := (ino_ties ((img_iff.1 h).ok k hk)).1
  rw [List.getD_eq_getElem?_getD]
  rcases Nat.lt_or_ge j (inoAt ns k).map.length with q | q
  · rw [List.getElem?_eq_getElem q]
    exact t _ (List.getElem_mem q)
  · rw [List.getElem?_eq_none q]
    exact tieB_zero
/-- The tier of an entry. -/
theorem tier_is {e t : Int} (h : tieB e = true) (ht : t = 1 ∨ t = 2) : (tieT e == t) = true ↔ ¬ (e = 0 ∨ ¬ e % 4 = t) := by
  unfold tieT
  rw [if_pos h, beq_iff_eq]
  constructor
  · intro q r
    rcases r with r | r
    · subst r; omega
    · exact r q
  · intro q
    by_cases c : e % 4 = t
    · exact c
    · exact absurd (.inr c) q
end Go.Proofs.YtlgghookekokaaaGreatDoor

namespace Go.Proofs.YtlgghookekokaaaGreatDoor
open Go.RowKit

/-- One word lets a page be at another place. -/
def swL (i p e : Int) : List Mi := ⟨1, 48 + 12 * i + (3 + p), e⟩ :: flushL [48 + 12 * i + (3 + p)]
def deS (ns : List Ino) (x : Int) : List Mi := [⟨4, fsI ns, x⟩, ⟨5, 0, 0⟩]
def prS (ns : List Ino) (x : Int) : List Mi := ⟨1, 312 + fpI ns, x⟩ :: flushL [312 + fpI ns]
/-- What a move of a page with an entry and a word answers. -/
def deF (ns : List Ino) (e x i p : Int) : List Mi × Int := if e = 0 ∨ ¬ e % 4 = 1 then ([], 5) else if fsI ns < 0 then ([], 7) else (deS ns x ++ swL i p (4 * fsI ns + 2), 0)
def prF (ns : List Ino) (e x i p : Int) : List Mi × Int := if e = 0 ∨ ¬ e % 4 = 2 then ([], 5) else if fpI ns < 0 then ([], 7) else (prS ns x ++ swL i p (4 * fpI ns + 1), 0)
/-- The entry of a page. -/
def enI (ns : List Ino) (i p : Int) : Int := (inoAt ns i.toNat).map.getD p.toNat 0
theorem swL_len (i p e : Int) : (swL i p e).length ≤ 3 := by
  have := flushL_len [48 + 12 * i + (3 + p)]
  unfold swL
  simp only [List.length_cons, List.length_nil] at this ⊢
  omega

set_option maxRecDepth 100000 in
set_option maxHeartbeats 8000000 in
/-- A store, and what makes it sure: as a list that is owned. -/
theorem l09Swing_any (i p e : Int) (w : World) (hi : 0 ≤ i ∧ i < 16) (hp : 0 ≤ p ∧ p < 8) :
    Calls Tryz.prog 218 #[.int .i64 i, .int .i64 p, .int .i64 e] w fun r w' => ∃ v', r = .returned v' ∧ Row w' 233 3 w.heap.size w'.heap.size v' (swL i p e).length (mis (swL i p e)) ∧ Below w.heap.size w w' := by
  have wp : IntKind.i64.wrap (3 + p) = 3 + p := by rw [IntKind.wrap_i64]; omega
  have EX := hideIt (show swL i p e = [⟨1, 48 + 12 * i + (3 + p), e⟩] ++ flushL [48 + 12 * i + (3 + p)] from rfl)
  rw [EX.out]
  have pr : 0 ≤ 3 + p ∧ 3 + p < 11 := by omega
  have ar : 0 ≤ 48 + 12 * i + (3 + p) ∧ 48 + 12 * i + (3 + p) < 336 := by omega
  have LN := hideIt (fun w1 => l03Inode_any i (3 + p) w1 hi pr)
  have l7 : (flushL [48 + 12 * i + (3 + p)]).length ≤ 2 := flushL_len [48 + 12 * i + (3 + p)]
  clear EX
  generalize 48 + 12 * i + (3 + p) = a at *
  have LF := hideIt (fun v w1 h => l04Flush_any v [a] w1 h (by simp) (by intro j h; simp at h; subst h; simpa using ar))
  generalize flushL [a] = FL at *
  go_enter Tryz.func218, Tryz.ntmps218
  go_wp2_with fail
  refine (LN.out _).mono ?_
  rintro e w' ⟨rfl, hw'⟩
  subst w'
  go_wp2_with fail
  refine (l04Store_any _ _ _).mono ?_
  rintro r w4 ⟨rfl, hb4⟩
  have M4 : Hid (MiI w (w4.alloc (.cells #[.int .i64 1, .int .i64 a, .int .i64 e] 233)) (.slice (some ⟨w4.heap.size, 0, none⟩) 1 1) [⟨1, a, e⟩]) := ⟨World.ownsRow_lit w4 _ 1 hb4.size (by simp [maxLen]) rfl, hb4.alloc hb4.size _⟩
  have M6 := hideIt (M4.out.below ((Below.refl _ _).alloc (Nat.le_refl _) (.cells #[.int .i64 a] 3)))
  have R6 := hideIt (rd_oneJ (w4.alloc (.cells #[.int .i64 1, .int .i64 a, .int .i64 e] 233)) a)
  simp only [World.size_alloc] at R6
  clear hb4 M4
  go_wp2_with fail
  refine (LF.out _ _ R6.out).mono ?_
  rintro r w7 ⟨v7, rfl, hr7, hb7⟩
  have M7 := hideIt (M6.out.below hb7)
  have R7 := hideIt hr7.rd
  have hz7 := M7.out.z
  clear hr7 hb7 M6 R6
  go_wp2_with (at_builtin; refine wpList_append_rd _ rfl (.tmp 15) (.tmp 18) 129 rfl w.heap.size 233 (.agg #[.int .i64 0, .int .i64 0, .int .i64 0]) 3 24 Tryz.underlying129 infoMic rfl (by decide) _ _ _ rfl M7.out.l _ _ _ rfl R7.out (mis_one _) (by first | omega | (simp [maxLen]; done) | (simp [maxLen]; omega)) (by first | omega | (simp; done) | (simp; omega)) hz7 ?_)
  intro vT wT hownT hgrT
  have M := hideIt (M7.out.grow FL hownT hgrT)
  obtain ⟨-, aT, cT, hvT, -⟩ := (own_block hownT).rd
  subst hvT
  clear hownT hgrT M7 R7
  go_wp2
  go_ret
  exact ⟨_, rfl, own_block M.out.l, M.out.b⟩
end Go.Proofs.YtlgghookekokaaaGreatDoor

namespace Go.Proofs.YtlgghookekokaaaGreatDoor
open Go.RowKit

/-- The block device behind steps. -/
def runE (s : List Int × List Se) (l : List Mi) : List Int × List Se := l.foldl (fun s m => (doE m s.1 s.2, doQ m s.2)) s
theorem runE_append (s : List Int × List Se) (l l' : List Mi) : runE s (l ++ l') = runE (runE s l) l' := by unfold runE; rw [List.foldl_append]
theorem runE_mem : ∀ (l : List Mi) (s : List Int × List Se), (∀ m ∈ l, StOK m) → runE s l = s
  | [], s, _ => rfl
  | m :: l, s, h => by
    have k := (h m List.mem_cons_self).2
    show runE (doE m s.1 s.2, doQ m s.2) l = s
    rw [runE_mem l _ (fun q hq => h q (List.mem_cons_of_mem _ hq))]
    unfold doE doQ
    rw [if_neg (by omega), if_neg (by omega), if_neg (by omega)]
theorem mi_kind {m : Mi} (h : miB m = true) : m.kind = 1 ∨ m.kind = 2 ∨ m.kind = 3 ∨ m.kind = 4 ∨ m.kind = 5 := by
  have := (miB_of m.kind m.at_ m.val).1 h
  omega
theorem mr_all : ∀ (l : List Mi) (ws : List Int) (ps : List St) (es : List Int) (qs : List Se), (∀ m ∈ l, miB m = true) → ps.length + l.length ≤ 400 → qs.length + l.length ≤ 400 → mr l ws ps es qs = ⟨0, (runM (ws, ps) l).1, (runM (ws, ps) l).2, (runE (es, qs) l).1, (runE (es, qs) l).2⟩
  | [], ws, ps, es, qs, _, _, _ => rfl
  | m :: l, ws, ps, es, qs, hk, hl, hq => by
      have h1 := mi_kind (hk m List.mem_cons_self)
      simp only [List.length_cons] at hl hq
      have hf : fullB m ps qs = false := decide_eq_false (fun h => by omega)
      have e : step1 (ws, ps) m = (doW m ws ps, doP m ps) := by
        unfold step1 doW doP
        rcases h1 with h | h | h | h | h
        · rw [if_pos h, if_pos h, if_neg (by omega)]
        · rw [if_neg (by omega), if_pos h, if_neg (by omega), if_neg (by omega), if_pos h]
        · rw [if_neg (by omega), if_neg (by omega), if_pos h, if_pos h, if_neg (by omega), if_neg (by omega), if_pos h]
        · rw [if_neg (by omega), if_neg (by omega), if_neg (by omega), if_neg (by omega), if_neg (by omega), if_neg (by omega), if_neg (by omega)]
        · rw [if_neg (by omega), if_neg (by omega), if_neg (by omega), if_neg (by omega), if_neg (by omega), if_neg (by omega), if_neg (by omega)]
      have hp : (doP m ps).length ≤ ps.length + 1 := by
        unfold doP
        split
        · simp
        · split
          · simp
          · split
            · exact Nat.le_trans (List.length_filter_le _ _) (by omega)
            · omega
      have hq' : (doQ m qs).length ≤ qs.length + 1 := by
        unfold doQ
        split
        · simp
        · split
          · simp
          · omega
      rw [runM_cons, e, show runE (es, qs) (m :: l) = runE (doE m es qs, doQ m qs) l from rfl]
      simp only [mr, hf]
      exact mr_all l _ _ _ _ (fun q hq => hk q (List.mem_cons_of_mem _ hq)) (by omega) (by omega)
theorem ok_upd {us : List Se} (ui : UpIn us) (wv : Wv us) : ∀ p ∈ upsL us, (48 ≤ p.at_ ∧ p.at_ < 336) ∧ 0 ≤ p.val ∧ p.val < 1099511627776 := by
  intro p hp
  obtain ⟨u, hu, rfl⟩ := List.mem_map.1 (show p ∈ us.map (fun s => up s.at_ s.val) from hp)
  have := ui u hu
  have := wv u hu
  exact ⟨⟨by show 48 ≤ u.at_; omega, by show u.at_ < 336; omega⟩, by show 0 ≤ u.val; omega, by show u.val < _; omega⟩
theorem ok_steps {us : List Se} (ui : UpIn us) (wv : Wv us) (hl : us.length ≤ 16) : ∀ m ∈ planL (upsL us), StOK m := by
  intro m hm
  have A := ok_upd ui wv
  unfold planL applyL at hm
  split at hm
  · cases hm
  · rcases List.mem_append.1 hm with hm | hm
    · rcases List.mem_append.1 hm with hm | hm
      · refine ok_seg (fun p hp => ?_) m hm
        have h1 := jrn_at (upsL us) 0 p hp
        have h2 := jrn_val (upsL us) 0 A p hp
        rw [upsL_len] at h1
        omega
      · refine ok_seg (cnt_ok _ ?_) m hm
        rw [upsL_len]
        omega
    · rcases List.mem_append.1 hm with hm | hm
      · exact ok_seg (fun p hp => by have := A p hp; omega) m hm
      · exact ok_seg (cnt_ok 0 (by omega)) m hm

/-- All is sure, nothing waits: the words say an image, the journal is empty. -/
structure Idle (ws es : List Int) (ns : List Ino) (ds : List Den) : Prop where
  wi : Wi ws ns ds
  c0 : wdI ws 8 = 0
  pm : pmB ws [] = true
  bk : blkB es [] = true
theorem Idle.img {ws es : List Int} {ns : List Ino} {ds : List Den} (h : Idle ws es ns ds) : imgB ns ds = true := img_iff.2 h.wi.img
/-- Steps that leave nothing waiting. -/
theorem idle_steps {ws es : List Int} {ns : List Ino} {ds : List Den} (h : Idle ws es ns ds) {l : List Mi} {ws' : List Int} {ns' : List Ino} {ds' : List Den} (r : runM (ws, []) l = (ws', [])) (c : wdI ws' 8 = 0) (w : Wi ws' ns' ds') (hm : ∀ m ∈ l, miB m = true) (hl : l.length ≤ 200) (q : (runE (es, []) l).2 = []) :
    ∃ es', mr l ws [] es [] = ⟨0, ws', [], es', []⟩ ∧ Idle ws' es' ns' ds' := by
  have e := mr_all l ws [] es [] hm (by simp; omega) (by simp; omega)
  rw [r, q] at e
  have k := mr_ok l ws [] es [] h.pm h.bk hm
  rw [e] at k
  exact ⟨_, e, w, c, k.1, k.2⟩
theorem idle_none {ws es : List Int} {ns : List Ino} {ds : List Den} (h : Idle ws es ns ds) : ∃ ws' es' ns' ds', mr [] ws [] es [] = ⟨0, ws', [], es', []⟩ ∧ Idle ws' es' ns' ds' := ⟨ws, es, ns, ds, rfl, h⟩
theorem idle_plan {ws es : List Int} {ns : List Ino} {ds : List Den} (h : Idle ws es ns ds) {us : List Se} (ui : UpIn us) (hl : us.length ≤ 16) (wv : Wv us) {ns' : List Ino} {ds' : List Den} (q : Wi (updL ws us) ns' ds') :
    ∃ ws' es' ns' ds', mr (planL (upsL us)) ws [] es [] = ⟨0, ws', [], es', []⟩ ∧ Idle ws' es' ns' ds' := by
  obtain ⟨ls', r, c, w⟩ := wi_names h.wi h.c0 ⟨ui, hl⟩ q
  have ok := ok_steps ui wv hl
  have pl := planL_len us
  obtain ⟨es', e, k⟩ := idle_steps h r c w (fun m hm => (ok m hm).1) (by omega) (by rw [runE_mem _ _ ok])
  exact ⟨ls', es', ns', ds', e, k⟩
/-- A store of one word that is made sure. -/
theorem seg_one (a x : Int) : (⟨1, a, x⟩ :: flushL [a] : List Mi) = seg [up a x] := rfl
theorem ok_one {a x : Int} (ha : 0 ≤ a ∧ a < 336) (hx : 0 ≤ x ∧ x < 1099511627776) : ∀ m ∈ (⟨1, a, x⟩ :: flushL [a] : List Mi), StOK m := by
  rw [seg_one]
  refine ok_seg (fun p hp => ?_)
  rw [List.mem_singleton.1 hp]
  exact ⟨ha, hx⟩
theorem word_in {x : Int} (h : wordB x = true) : 0 ≤ x ∧ x < 1099511627776 := of_decide_eq_true h
theorem one_len (a x : Int) : (⟨1, a, x⟩ :: flushL [a] : List Mi).length ≤ 3 := by
  have := flushL_len [a]
  simp only [List.length_cons, List.length_nil] at this ⊢
  omega
theorem ok_two {k x : Int} (hk : 0 ≤ k ∧ k < 32) (hx : 0 ≤ x ∧ x < 1099511627776) : ∀ m ∈ ([⟨4, k, x⟩, ⟨5, 0, 0⟩] : List Mi), miB m = true := by
  intro m hm
  rcases List.mem_cons.1 hm with rfl | hm
  · exact (miB_of _ _ _).2 (.inr (.inr (.inl ⟨rfl, hk, hx⟩)))
  · rw [List.mem_singleton.1 hm]
    exact (miB_of _ _ _).2 (.inr (.inr (.inr ⟨.inr rfl, rfl, rfl⟩)))
theorem runE_two (es : List Int) (k x : Int) : (runE (es, []) [⟨4, k, x⟩, ⟨5, 0, 0⟩]).2 = [] := rfl
/-- A write that is told. -/
theorem idle_write {ws es : List Int} {ns : List Ino} {ds : List Den} (h : Idle ws es ns ds) {s : ByteArray} {page x : Int} (e : (wrI ns ds s page x).2 = 0) :
    (∃ ws' es' ns' ds', mr (wrI ns ds s page x).1 ws [] es [] = ⟨0, ws', [], es', []⟩ ∧ Idle ws' es' ns' ds') ∧ (∀ m ∈ (wrI ns ds s page x).1, miB m = true) ∧ (wrI ns ds s page x).1.length ≤ 200 ∧ 0 ≤ page ∧ page < 8 := by
  obtain ⟨i, p, ls', hi, hp, ei, ep, r, c, w⟩ := wi_steps h.wi h.c0 (show wrI ns ds s page x = ((wrI ns ds s page x).1, 0) by rw [← e])
  subst ep
  have f0 : (flI ns ds s).2 = 0 := by
    unfold wrI at e
    split at e
    · assumption
    · assumption
  have form : ∃ n : ¬ (fpI ns < 0 ∧ fsI ns < 0), wordB x = true ∧ (wrI ns ds s (p : Int) x).1 = wrS ns x ++ planL (upsL (wrU (i : Int) (p : Int) (sizeAt ns (i : Int)) (wrE ns))) := by
    unfold wrI at e ⊢
    rw [if_pos f0, ei] at e ⊢
    unfold wrF at e ⊢
    by_cases d : (0 ≤ (p : Int) ∧ (p : Int) < 8) ∧ wordB x = true
    · rw [if_pos d] at e ⊢
      by_cases f : fpI ns < 0 ∧ fsI ns < 0
      · rw [if_pos f] at e
        cases e
      · rw [if_neg f]
        exact ⟨f, d.2, rfl⟩
    · rw [if_neg d] at e
      cases e
  obtain ⟨nf, wx, F⟩ := form
  have X := word_in wx
  have k := (fl_file h.wi.img f0)
  obtain ⟨i', hi', ei', k1⟩ := k
  have e' : i' = i := by rw [ei] at ei'; omega
  subst e'
  obtain ⟨te, he, new⟩ := wrE_new nf
  have sz : sizeAt ns (i' : Int) = (inoAt ns i').size := by unfold sizeAt; rw [Int.toNat_natCast]
  have ww := wi_write h.wi hi k1 hp te he new
  have wv : Wv (wrU (i' : Int) (p : Int) (inoAt ns i').size (wrE ns)) := by
    have := tie_small te
    unfold wrU
    refine Wv.cons (by omega) ?_
    split
    · exact Wv.one (by omega)
    · intro u hu; cases hu
  have ul : (wrU (i' : Int) (p : Int) (inoAt ns i').size (wrE ns)).length ≤ 2 := by unfold wrU; split <;> simp
  have ok2 := ok_steps ww.1 wv (by omega)
  have pl := planL_len (wrU (i' : Int) (p : Int) (inoAt ns i').size (wrE ns))
  rw [sz] at F
  have b1 : fpI ns < 24 := by
    have := (first_bound (fun i => !hasB (usedOf (mapped ns) 1) (i : Int)) 24).2
    unfold fpI
    omega
  have b2 : fsI ns < 32 := by
    have := (first_bound (fun i => !hasB (usedOf (mapped ns) 2) (i : Int)) 32).2
    unfold fsI
    omega
  have okS : (∀ m ∈ wrS ns x, miB m = true) ∧ (wrS ns x).length ≤ 3 ∧ (runE (es, []) (wrS ns x)).2 = [] := by
    unfold wrS
    by_cases q : 0 ≤ fpI ns
    · rw [if_pos q]
      have o := ok_one (a := 312 + fpI ns) (x := x) (by omega) X
      exact ⟨fun m hm => (o m hm).1, one_len _ _, by rw [runE_mem _ _ o]⟩
    · rw [if_neg q]
      exact ⟨ok_two (by omega) X, by simp, runE_two _ _ _⟩
  have ALL : ∀ m ∈ (wrI ns ds s (p : Int) x).1, miB m = true := by
    rw [F]
    intro m hm
    rcases List.mem_append.1 hm with hm | hm
    · exact okS.1 m hm
    · exact (ok2 m hm).1
  have LEN : (wrI ns ds s (p : Int) x).1.length ≤ 200 := by
    rw [F, List.length_append]
    have := okS.2.1
    omega
  obtain ⟨es', e2, k2⟩ := idle_steps h r c w ALL LEN (by
    rw [F, runE_append]
    rw [runE_mem _ _ ok2]
    exact okS.2.2)
  exact ⟨⟨_, _, _, _, e2, k2⟩, ALL, LEN, by omega, by omega⟩
end Go.Proofs.YtlgghookekokaaaGreatDoor
