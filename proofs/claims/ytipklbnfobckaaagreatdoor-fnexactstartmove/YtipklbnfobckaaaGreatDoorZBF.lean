/- Several texts laid together: TrC, MvA, FsA, FqG, TrB, FqH, JiA, DevI. -/
import Derived.Test.YtipklbnfobckaaaGreatDoorZAR
import Derived.Test.YtipklbnfobckaaaGreatDoorZAZ
import Derived.Test.YtipklbnfobckaaaGreatDoorZBE
import Derived.Test.YtipklbnfobckaaaGreatDoorZAQ
import Derived.Test.YtipklbnfobckaaaGreatDoorZAM
import Derived.Test.YtipklbnfobckaaaGreatDoorZAH
import Derived.Test.YtipklbnfobckaaaGreatDoorZAI
import Derived.Deep.DeepCutAuto
import Derived.Deep.RegionHeld3
import Derived.Deep.RegionLaw
import Derived.Test.YtipklbnfobckaaaGreatDoorZAF
import Derived.Test.YtipklbnfobckaaaGreatDoorZAE
import Derived.Test.YtipklbnfobckaaaGreatDoorZAG
namespace Go.Proofs.YtipklbnfobckaaaGreatDoor
open Go.RowKit

/-- The entry of a page, counted through all inodes. -/
def pgE (ns : List Ino) (i : Nat) : Int := (zar ns (i / 8)).map.getD (i % 8) 0
/-- The page that is picked among the first ones; -1 without any. -/
def pkS (ns : List Ino) (hs : List Int) (t : Int) (hot : Bool) (b : Int) (i : Nat) : Int := if pgE ns i = 0 ∨ ¬ pgE ns i % 4 = t then b else if b < 0 ∨ (hot = true ∧ hs.getD b.toNat 0 < hs.getD i 0) ∨ (hot = false ∧ hs.getD i 0 < hs.getD b.toNat 0) then (i : Int) else b
def pkN (ns : List Ino) (hs : List Int) (t : Int) (hot : Bool) : Nat → Int
 | 0 => -1
 | n + 1 => pkS ns hs t hot (pkN ns hs t hot n) n
theorem zeq (ns : List Ino) (hs : List Int) (t : Int) (hot : Bool) (n : Nat) : -1 ≤ pkN ns hs t hot n ∧ pkN ns hs t hot n < (n : Int) := by
 induction n with
 | zero => exact ⟨Int.le_refl (-1), show (-1 : Int) < 0 by decide⟩
 | succ n ih =>
  have e : pkN ns hs t hot (n + 1) = pkS ns hs t hot (pkN ns hs t hot n) n := rfl
  rw [e]
  unfold pkS
  split
  ·omega
  ·split <;> omega
theorem zon {ns : List Ino} {ds : List Den} (h : zdm ns ds = true) {k : Nat} (hk : k < 16) (j : Nat) : zdl ((zar ns k).map.getD j 0) = true := by
 have t := (zgl ((zmq.1 h).ok k hk)).1
 rw [List.getD_eq_getElem?_getD]
 rcases Nat.lt_or_ge j (zar ns k).map.length with q | q
 ·rw [List.getElem?_eq_getElem q]
  exact t _ (List.getElem_mem q)
 ·rw [List.getElem?_eq_none q]
  exact zth
/-- The tier of an entry. -/
theorem zvh {e t : Int} (h : zdl e = true) (ht : t = 1 ∨ t = 2) : (zos e == t) = true ↔ ¬ (e = 0 ∨ ¬ e % 4 = t) := by
 unfold zos
 rw [if_pos h, beq_iff_eq]
 constructor
 ·intro q r
  rcases r with r | r
  ·subst r; omega
  ·exact r q
 ·intro q
  by_cases c : e % 4 = t
  ·exact c
  ·exact absurd (.inr c) q
end Go.Proofs.YtipklbnfobckaaaGreatDoor

namespace Go.Proofs.YtipklbnfobckaaaGreatDoor
open Go.RowKit

/-- One word lets a page be at another place. -/
def swL (i p e : Int) : List Mi := ⟨1, 48 + 12 * i + (3 + p), e⟩ :: zaw [48 + 12 * i + (3 + p)]
def deS (ns : List Ino) (x : Int) : List Mi := [⟨4, fsI ns, x⟩, ⟨5, 0, 0⟩]
def prS (ns : List Ino) (x : Int) : List Mi := ⟨1, 312 + fpI ns, x⟩ :: zaw [312 + fpI ns]
/-- What a move of a page with an entry and a word answers. -/
def deF (ns : List Ino) (e x i p : Int) : List Mi × Int := if e = 0 ∨ ¬ e % 4 = 1 then ([], 5) else if fsI ns < 0 then ([], 7) else (deS ns x ++ swL i p (4 * fsI ns + 2), 0)
def prF (ns : List Ino) (e x i p : Int) : List Mi × Int := if e = 0 ∨ ¬ e % 4 = 2 then ([], 5) else if fpI ns < 0 then ([], 7) else (prS ns x ++ swL i p (4 * fpI ns + 1), 0)
/-- The entry of a page. -/
def enI (ns : List Ino) (i p : Int) : Int := (zar ns i.toNat).map.getD p.toNat 0
def mvC (d : Bool) (i p : Int) : Int := if d = true then (if (0 ≤ i ∧ i ≤ 15) ∧ (0 ≤ p ∧ p ≤ 7) then 0 else 4) else 1
def deR2 (ws : List Int) (ps : List St) (es : List Int) (qs : List Se) (i p : Int) : List Mi × Int := if mvC (dvB ws ps es qs) i p = 0 then deF (dvN ws ps es qs) (enI (dvN ws ps es qs) i p) (pgV ws ps es qs (enI (dvN ws ps es qs) i p)) i p else ([], mvC (dvB ws ps es qs) i p)
def prR2 (ws : List Int) (ps : List St) (es : List Int) (qs : List Se) (i p : Int) : List Mi × Int := if mvC (dvB ws ps es qs) i p = 0 then prF (dvN ws ps es qs) (enI (dvN ws ps es qs) i p) (pgV ws ps es qs (enI (dvN ws ps es qs) i p)) i p else ([], mvC (dvB ws ps es qs) i p)
theorem zls (i p e : Int) : (swL i p e).length ≤ 3 := by
 have := zcy [48 + 12 * i + (3 + p)]
 unfold swL
 simp only [List.length_cons, List.length_nil] at this ⊢
 omega

set_option maxRecDepth 100000 in
set_option maxHeartbeats 8000000 in
/-- A store, and what makes it sure: as a list that is owned. -/
theorem zjy (i p e : Int) (w : World) (hi : 0 ≤ i ∧ i < 16) (hp : 0 ≤ p ∧ p < 8) :
  Calls Tryz.prog 202 #[.int .i64 i, .int .i64 p, .int .i64 e] w fun r w' => ∃ v', r = .returned v' ∧ Row w' 79 3 w.heap.size w'.heap.size v' (swL i p e).length (mis (swL i p e)) ∧ Below w.heap.size w w' := by
 have wp : IntKind.i64.wrap (3 + p) = 3 + p := by rw [IntKind.wrap_i64]; omega
 have EX := zaa (show swL i p e = [⟨1, 48 + 12 * i + (3 + p), e⟩] ++ zaw [48 + 12 * i + (3 + p)] from rfl)
 rw [EX.out]
 have pr : 0 ≤ 3 + p ∧ 3 + p < 11 := by omega
 have ar : 0 ≤ 48 + 12 * i + (3 + p) ∧ 48 + 12 * i + (3 + p) < 336 := by omega
 have LN := zaa (fun w1 => zfl i (3 + p) w1 hi pr)
 have l7 : (zaw [48 + 12 * i + (3 + p)]).length ≤ 2 := zcy [48 + 12 * i + (3 + p)]
 clear EX
 generalize 48 + 12 * i + (3 + p) = a at *
 have LF := zaa (fun v w1 h => zjn v [a] w1 h (by simp) (by intro j h; simp at h; subst h; simpa using ar))
 generalize zaw [a] = FL at *
 go_enter Tryz.func202, Tryz.ntmps202
 go_wp2_with fail
 refine (LN.out _).mono ?_
 rintro e w' ⟨rfl, hw'⟩
 subst w'
 go_wp2_with fail
 refine (zjz _ _ _).mono ?_
 rintro r w4 ⟨rfl, hb4⟩
 have M4 : Hid (MiI w (w4.alloc (.cells #[.int .i64 1, .int .i64 a, .int .i64 e] 79)) (.slice (some ⟨w4.heap.size, 0, none⟩) 1 1) [⟨1, a, e⟩]) := ⟨World.ownsRow_lit w4 _ 1 hb4.size (by simp [maxLen]) rfl, hb4.alloc hb4.size _⟩
 have M6 := zaa (M4.out.below ((Below.refl _ _).alloc (Nat.le_refl _) (.cells #[.int .i64 a] 3)))
 have R6 := zaa (zvs (w4.alloc (.cells #[.int .i64 1, .int .i64 a, .int .i64 e] 79)) a)
 simp only [World.size_alloc] at R6
 clear hb4 M4
 go_wp2_with fail
 refine (LF.out _ _ R6.out).mono ?_
 rintro r w7 ⟨v7, rfl, hr7, hb7⟩
 have M7 := zaa (M6.out.below hb7)
 have R7 := zaa hr7.rd
 have hz7 := M7.out.z
 clear hr7 hb7 M6 R6
 go_wp2_with (at_builtin; refine zai _ rfl (.tmp 15) (.tmp 18) 47 rfl w.heap.size 79 (.agg #[.int .i64 0, .int .i64 0, .int .i64 0]) 3 24 Tryz.underlying47 zcb rfl (by decide) _ _ _ rfl M7.out.l _ _ _ rfl R7.out (zdn _) (by first | omega | (simp [maxLen]; done) | (simp [maxLen]; omega)) (by first | omega | (simp; done) | (simp; omega)) hz7 ?_)
 intro vT wT hownT hgrT
 have M := zaa (M7.out.grow FL hownT hgrT)
 obtain ⟨-, aT, cT, hvT, -⟩ := (zaf hownT).rd
 subst hvT
 clear hownT hgrT M7 R7
 go_wp2
 go_ret
 exact ⟨_, rfl, zaf M.out.l, M.out.b⟩
end Go.Proofs.YtipklbnfobckaaaGreatDoor

namespace Go.Proofs.YtipklbnfobckaaaGreatDoor
open Go.RowKit

/-- The block device behind steps. -/
def zvq (s : List Int × List Se) (l : List Mi) : List Int × List Se := l.foldl (fun s m => (doE m s.1 s.2, doQ m s.2)) s
theorem zvn (s : List Int × List Se) (l l' : List Mi) : zvq s (l ++ l') = zvq (zvq s l) l' := by unfold zvq; rw [List.foldl_append]
theorem zqe : ∀ (l : List Mi) (s : List Int × List Se), (∀ m ∈ l, StOK m) → zvq s l = s
 | [], s, _ => rfl
 | m :: l, s, h => by
  have k := (h m List.mem_cons_self).2
  show zvq (doE m s.1 s.2, doQ m s.2) l = s
  rw [zqe l _ (fun q hq => h q (List.mem_cons_of_mem _ hq))]
  unfold doE doQ
  rw [if_neg (by omega), if_neg (by omega), if_neg (by omega)]
theorem mi_kind {m : Mi} (h : miB m = true) : m.kind = 1 ∨ m.kind = 2 ∨ m.kind = 3 ∨ m.kind = 4 ∨ m.kind = 5 := by
 have := (zgr m.kind m.at_ m.val).1 h
 omega
theorem mr_all : ∀ (l : List Mi) (ws : List Int) (ps : List St) (es : List Int) (qs : List Se), (∀ m ∈ l, miB m = true) → ps.length + l.length ≤ 400 → qs.length + l.length ≤ 400 → mr l ws ps es qs = ⟨0, (zpw (ws, ps) l).1, (zpw (ws, ps) l).2, (zvq (es, qs) l).1, (zvq (es, qs) l).2⟩
 | [], ws, ps, es, qs, _, _, _ => rfl
 | m :: l, ws, ps, es, qs, hk, hl, hq => by
   have h1 := mi_kind (hk m List.mem_cons_self)
   simp only [List.length_cons] at hl hq
   have hf : fullB m ps qs = false := decide_eq_false (fun h => by omega)
   have e : zpt (ws, ps) m = (doW m ws ps, doP m ps) := by
    unfold zpt doW doP
    rcases h1 with h | h | h | h | h
    ·rw [if_pos h, if_pos h, if_neg (by omega)]
    ·rw [if_neg (by omega), if_pos h, if_neg (by omega), if_neg (by omega), if_pos h]
    ·rw [if_neg (by omega), if_neg (by omega), if_pos h, if_pos h, if_neg (by omega), if_neg (by omega), if_pos h]
    ·rw [if_neg (by omega), if_neg (by omega), if_neg (by omega), if_neg (by omega), if_neg (by omega), if_neg (by omega), if_neg (by omega)]
    ·rw [if_neg (by omega), if_neg (by omega), if_neg (by omega), if_neg (by omega), if_neg (by omega), if_neg (by omega), if_neg (by omega)]
   have hp : (doP m ps).length ≤ ps.length + 1 := by
    unfold doP
    split
    ·simp
    ·split
     ·simp
     ·split
      ·exact Nat.le_trans (List.length_filter_le _ _) (by omega)
      ·omega
   have hq' : (doQ m qs).length ≤ qs.length + 1 := by
    unfold doQ
    split
    ·simp
    ·split
     ·simp
     ·omega
   rw [zhq, e, show zvq (es, qs) (m :: l) = zvq (doE m es qs, doQ m qs) l from rfl]
   simp only [mr, hf]
   exact mr_all l _ _ _ _ (fun q hq => hk q (List.mem_cons_of_mem _ hq)) (by omega) (by omega)
/-- All is sure, nothing waits: the words say an image, the journal is empty. -/
structure Idle (ws es : List Int) (ns : List Ino) (ds : List Den) : Prop where
 wi : Wi ws ns ds
 c0 : wdI ws 8 = 0
 pm : pmB ws [] = true
 bk : zeh es [] = true
theorem Idle.img {ws es : List Int} {ns : List Ino} {ds : List Den} (h : Idle ws es ns ds) : zdm ns ds = true := zmq.2 h.wi.img
/-- Steps that leave nothing waiting. -/
theorem idle_steps {ws es : List Int} {ns : List Ino} {ds : List Den} (h : Idle ws es ns ds) {l : List Mi} {ws' : List Int} {ns' : List Ino} {ds' : List Den} (r : zpw (ws, []) l = (ws', [])) (c : wdI ws' 8 = 0) (w : Wi ws' ns' ds') (hm : ∀ m ∈ l, miB m = true) (hl : l.length ≤ 200) (q : (zvq (es, []) l).2 = []) :
  ∃ es', mr l ws [] es [] = ⟨0, ws', [], es', []⟩ ∧ Idle ws' es' ns' ds' := by
 have e := mr_all l ws [] es [] hm (by simp; omega) (by simp; omega)
 rw [r, q] at e
 have k := mr_ok l ws [] es [] h.pm h.bk hm
 rw [e] at k
 exact ⟨_, e, w, c, k.1, k.2⟩
/-- A store of one word that is made sure. -/
theorem seg_one (a x : Int) : (⟨1, a, x⟩ :: zaw [a] : List Mi) = seg [up a x] := rfl
theorem ok_one {a x : Int} (ha : 0 ≤ a ∧ a < 336) (hx : 0 ≤ x ∧ x < 1099511627776) : ∀ m ∈ (⟨1, a, x⟩ :: zaw [a] : List Mi), StOK m := by
 rw [seg_one]
 refine ok_seg (fun p hp => ?_)
 rw [List.mem_singleton.1 hp]
 exact ⟨ha, hx⟩
theorem word_in {x : Int} (h : zat x = true) : 0 ≤ x ∧ x < 1099511627776 := of_decide_eq_true h
theorem one_len (a x : Int) : (⟨1, a, x⟩ :: zaw [a] : List Mi).length ≤ 3 := by
 have := zcy [a]
 simp only [List.length_cons, List.length_nil] at this ⊢
 omega
theorem ok_two {k x : Int} (hk : 0 ≤ k ∧ k < 32) (hx : 0 ≤ x ∧ x < 1099511627776) : ∀ m ∈ ([⟨4, k, x⟩, ⟨5, 0, 0⟩] : List Mi), miB m = true := by
 intro m hm
 rcases List.mem_cons.1 hm with rfl | hm
 ·exact (zgr _ _ _).2 (.inr (.inr (.inl ⟨rfl, hk, hx⟩)))
 ·rw [List.mem_singleton.1 hm]
  exact (zgr _ _ _).2 (.inr (.inr (.inr ⟨.inr rfl, rfl, rfl⟩)))
theorem runE_two (es : List Int) (k x : Int) : (zvq (es, []) [⟨4, k, x⟩, ⟨5, 0, 0⟩]).2 = [] := rfl
end Go.Proofs.YtipklbnfobckaaaGreatDoor

namespace Go.Proofs.YtipklbnfobckaaaGreatDoor
open Go.RowKit

theorem Rd.none {w w' : World} {size : Nat} {v : Value} {xs : List Value} (h : Rd w size v 0 xs) (_hz : w.heap.size ≤ w'.heap.size) : Rd w' size v 0 xs := by
 obtain ⟨h1, ao, cap, rfl, h2, h3⟩ := h
 exact ⟨h1, ao, cap, rfl, h2, fun h => absurd h (Nat.lt_irrefl 0)⟩
end Go.Proofs.YtipklbnfobckaaaGreatDoor

namespace Go.Proofs.YtipklbnfobckaaaGreatDoor
open Go.RowKit

theorem zea {hs : List Int} (h : zcn hs = true) : hs.length = 128 ∧ ∀ k (h : k < hs.length), 0 ≤ hs[k] ∧ hs[k] ≤ 64 := of_decide_eq_true h
end Go.Proofs.YtipklbnfobckaaaGreatDoor

namespace Go.Proofs.YtipklbnfobckaaaGreatDoor
open Go.RowKit

structure Fz where
 ws : List Int
 ps : List St
 es : List Int
 qs : List Se
 hs : List Int
 td : List Mi
 cd : Int
 vl : Int
 nm : List ByteArray
 fr : Bool
def zz : Fz := ⟨[], [], [], [], [], [], 0, 0, [], false⟩
/-- A file system and a code are told. -/
def FzOut (w w' : World) (e : Ending) (R : Fz × Int) : Prop := ∃ v', e = .returned (.tuple #[v', .int .i64 R.2]) ∧ RowF w' w.heap.size w'.heap.size v' R.1.ws R.1.ps R.1.es R.1.qs R.1.hs R.1.td R.1.cd R.1.vl R.1.nm R.1.fr ∧ Below w.heap.size w w'
structure FsYes (ws : List Int) (ps : List St) (es : List Int) (qs : List Se) (hs : List Int) (td : List Mi) (cd vl : Int) (nm : List ByteArray) (fr : Bool) : Prop where
 pm : pmB ws ps = true
 bl : zeh es qs = true
 he : zcn hs = true
 tl : td.length ≤ 200
 tm : ∀ m ∈ td, miB m = true
 pl : ps.length + td.length ≤ 400
 ql : qs.length + td.length ≤ 400
 an : fr = true ∨ (cd = 0 ∧ vl = 0 ∧ nm = [])
 re : td = [] → dvB ws ps es qs = true ∧ ps = [] ∧ qs = [] ∧ ldW ws ps 8 = 0
theorem fs_yes {ws : List Int} {ps : List St} {es : List Int} {qs : List Se} {hs : List Int} {td : List Mi} {cd vl : Int} {nm : List ByteArray} {fr : Bool} (h : fsB ws ps es qs hs td cd vl nm fr = true) : FsYes ws ps es qs hs td cd vl nm fr := by
 unfold fsB todB noA zpd at h
 simp only [Bool.and_eq_true, Bool.or_eq_true, decide_eq_true_eq, List.all_eq_true] at h
 obtain ⟨⟨h1, h2⟩, h3, ⟨h4, h5, h6, h7⟩, h8, h9⟩ := h
 refine ⟨h1, h2, h3, h4, h5, h6, h7, ?_, fun e => ?_⟩
 ·rcases h8 with h8 | ⟨a, b, c⟩
  ·exact .inl h8
  ·exact .inr ⟨a, b, List.length_eq_zero_iff.1 c⟩
 ·rcases h9 with h9 | ⟨a, b, c, d⟩
  ·rw [e] at h9; simp at h9
  ·exact ⟨a, List.length_eq_zero_iff.1 b, List.length_eq_zero_iff.1 c, d⟩
/-- All steps have room. -/
theorem FsYes.run {ws : List Int} {ps : List St} {es : List Int} {qs : List Se} {hs : List Int} {td : List Mi} {cd vl : Int} {nm : List ByteArray} {fr : Bool} (h : FsYes ws ps es qs hs td cd vl nm fr) : mr td ws ps es qs = ⟨0, (mr td ws ps es qs).W, (mr td ws ps es qs).P, (mr td ws ps es qs).E, (mr td ws ps es qs).Q⟩ := by
 have := mr_all td ws ps es qs h.tm h.pl h.ql
 rw [this]
end Go.Proofs.YtipklbnfobckaaaGreatDoor

namespace Go.Proofs.YtipklbnfobckaaaGreatDoor
open Go.RowKit

/-- The table of bounds lies as the program's start has laid it. -/
def SB (w : World) : Prop := ∃ t fr, w.heap[0]? = some (.cells #[.int .i64 0, .int .i64 0, .int .i64 336, .int .i64 1099511627776, .int .i64 336, .int .i64 1, .int .i64 1, .int .i64 1, .int .i64 32, .int .i64 1099511627776, .int .i64 1, .int .i64 1] t fr)
theorem SB.lt {w : World} (h : SB w) : 0 < w.heap.size := by
 obtain ⟨t, fr, h⟩ := h
 exact (Array.getElem?_eq_some_iff.1 h).1
theorem SB.below {w w' : World} (h : SB w) (hb : Below w.heap.size w w') : SB w' := by
 have hl := h.lt
 obtain ⟨t, fr, h⟩ := h
 exact ⟨t, fr, (hb.block _ hl).trans h⟩
theorem SB.cells {w : World} (h : SB w) : w.cell? ⟨0, 0, none⟩ = some (.int .i64 0) ∧ w.cell? ⟨0, 1, none⟩ = some (.int .i64 0) ∧ w.cell? ⟨0, 2, none⟩ = some (.int .i64 336) ∧ w.cell? ⟨0, 3, none⟩ = some (.int .i64 1099511627776) ∧ w.cell? ⟨0, 4, none⟩ = some (.int .i64 336) ∧ w.cell? ⟨0, 5, none⟩ = some (.int .i64 1) ∧ w.cell? ⟨0, 6, none⟩ = some (.int .i64 1) ∧ w.cell? ⟨0, 7, none⟩ = some (.int .i64 1) ∧ w.cell? ⟨0, 8, none⟩ = some (.int .i64 32) ∧ w.cell? ⟨0, 9, none⟩ = some (.int .i64 1099511627776) ∧ w.cell? ⟨0, 10, none⟩ = some (.int .i64 1) ∧ w.cell? ⟨0, 11, none⟩ = some (.int .i64 1) := by
 obtain ⟨t, fr, h⟩ := h
 simp [World.cell?, h]
theorem ztk {k a x : Int} (h : (k = 1 ∧ (0 ≤ a ∧ a < 336) ∧ 0 ≤ x ∧ x < 1099511627776) ∨ (k = 2 ∧ (0 ≤ a ∧ a < 336) ∧ x = 0) ∨ (k = 4 ∧ (0 ≤ a ∧ a < 32) ∧ 0 ≤ x ∧ x < 1099511627776) ∨ ((k = 3 ∨ k = 5) ∧ a = 0 ∧ x = 0)) : miB ⟨k, a, x⟩ = true := (zgr k a x).2 h
theorem zdk {k a x : Int} (h : ¬ ((k = 1 ∧ (0 ≤ a ∧ a < 336) ∧ 0 ≤ x ∧ x < 1099511627776) ∨ (k = 2 ∧ (0 ≤ a ∧ a < 336) ∧ x = 0) ∨ (k = 4 ∧ (0 ≤ a ∧ a < 32) ∧ 0 ≤ x ∧ x < 1099511627776) ∨ ((k = 3 ∨ k = 5) ∧ a = 0 ∧ x = 0))) : miB ⟨k, a, x⟩ = false := by
 cases e : miB ⟨k, a, x⟩ with
 | false => rfl
 | true => exact absurd ((zgr k a x).1 e) h

set_option maxRecDepth 100000 in
set_option maxHeartbeats 8000000 in
theorem zry (k a x : Int) (w : World) (hS : SB w) : Calls Tryz.prog 108 #[.agg #[.int .i64 k, .int .i64 a, .int .i64 x]] w fun e w' => e = .returned (.bool (miB ⟨k, a, x⟩)) ∧ Below w.heap.size w w' := by
 have hb0 : Below w.heap.size w (w.alloc (.cells #[.int .i64 k, .int .i64 a, .int .i64 x] 79)) := (Below.refl _ _).alloc (Nat.le_refl _) _
 obtain ⟨c0, c1, c2, c3, c4, c5, c6, c7, c8, c9, c10, c11⟩ := (hS.below hb0).cells
 clear hS
 by_cases hk : 0 ≤ k ∧ k < 6
 case neg =>
  have E := zaa (zdk (k := k) (a := a) (x := x) (by omega))
  have HK := zaa hk
  clear hk c0 c1 c2 c3 c4 c5 c6 c7 c8 c9 c10 c11
  go_enter Tryz.func108, Tryz.ntmps108
  go_wp2_with (go_at_call 161; refine (zaq _ _ _ HK.out).mono ?_; rintro e w' ⟨rfl, rfl⟩)
  go_ret
  exact ⟨zac E.out.symm, hb0⟩
 rcases (show k = 0 ∨ k = 1 ∨ k = 2 ∨ k = 3 ∨ k = 4 ∨ k = 5 by omega) with rfl | rfl | rfl | rfl | rfl | rfl
 ·have hb1 : Below w.heap.size w ((w.alloc (.cells #[.int .i64 0, .int .i64 a, .int .i64 x] 79)).alloc (.cells #[.int .i64 0, .int .i64 0] 184)) := hb0.alloc (by simp) _
  clear c2 c3 c4 c5 c6 c7 c8 c9 c10 c11
  have E := zaa (zdk (k := 0) (a := a) (x := x) (by omega))
  have HA : Hid (¬ (0 ≤ a ∧ a < 0)) := fun h => by omega
  go_enter Tryz.func108, Tryz.ntmps108
  go_wp2_with (first | (go_at_call 161; refine (zal _ _ _ (by omega)).mono ?_; rintro e w' ⟨rfl, rfl⟩) | (go_at_call 161; refine (zaq _ _ _ HA.out).mono ?_; rintro e w' ⟨rfl, rfl⟩))
  go_ret
  exact ⟨zac E.out.symm, hb1⟩
 ·have hb1 : Below w.heap.size w ((w.alloc (.cells #[.int .i64 1, .int .i64 a, .int .i64 x] 79)).alloc (.cells #[.int .i64 336, .int .i64 1099511627776] 184)) := hb0.alloc (by simp) _
  clear c0 c1 c4 c5 c6 c7 c8 c9 c10 c11
  by_cases ha : 0 ≤ a ∧ a < 336
  ·by_cases hx : 0 ≤ x ∧ x < 1099511627776
   ·have E := zaa (ztk (k := 1) (a := a) (x := x) (by omega))
    go_enter Tryz.func108, Tryz.ntmps108
    go_wp2_with (go_at_call 161; refine (zal _ _ _ (by omega)).mono ?_; rintro e w' ⟨rfl, rfl⟩)
    go_ret
    exact ⟨zac E.out.symm, hb1⟩
   ·have E := zaa (zdk (k := 1) (a := a) (x := x) (by omega))
    have HX := zaa hx
    clear hx
    go_enter Tryz.func108, Tryz.ntmps108
    go_wp2_with (first | (go_at_call 161; refine (zal _ _ _ (by omega)).mono ?_; rintro e w' ⟨rfl, rfl⟩) | (go_at_call 161; refine (zaq _ _ _ HX.out).mono ?_; rintro e w' ⟨rfl, rfl⟩))
    go_ret
    exact ⟨zac E.out.symm, hb1⟩
  ·have E := zaa (zdk (k := 1) (a := a) (x := x) (by omega))
   have HA := zaa ha
   clear ha
   go_enter Tryz.func108, Tryz.ntmps108
   go_wp2_with (first | (go_at_call 161; refine (zal _ _ _ (by omega)).mono ?_; rintro e w' ⟨rfl, rfl⟩) | (go_at_call 161; refine (zaq _ _ _ HA.out).mono ?_; rintro e w' ⟨rfl, rfl⟩))
   go_ret
   exact ⟨zac E.out.symm, hb1⟩
 ·have hb1 : Below w.heap.size w ((w.alloc (.cells #[.int .i64 2, .int .i64 a, .int .i64 x] 79)).alloc (.cells #[.int .i64 336, .int .i64 1] 184)) := hb0.alloc (by simp) _
  clear c0 c1 c2 c3 c6 c7 c8 c9 c10 c11
  by_cases ha : 0 ≤ a ∧ a < 336
  ·by_cases hx : 0 ≤ x ∧ x < 1
   ·have E := zaa (ztk (k := 2) (a := a) (x := x) (by omega))
    go_enter Tryz.func108, Tryz.ntmps108
    go_wp2_with (go_at_call 161; refine (zal _ _ _ (by omega)).mono ?_; rintro e w' ⟨rfl, rfl⟩)
    go_ret
    exact ⟨zac E.out.symm, hb1⟩
   ·have E := zaa (zdk (k := 2) (a := a) (x := x) (by omega))
    have HX := zaa hx
    clear hx
    go_enter Tryz.func108, Tryz.ntmps108
    go_wp2_with (first | (go_at_call 161; refine (zal _ _ _ (by omega)).mono ?_; rintro e w' ⟨rfl, rfl⟩) | (go_at_call 161; refine (zaq _ _ _ HX.out).mono ?_; rintro e w' ⟨rfl, rfl⟩))
    go_ret
    exact ⟨zac E.out.symm, hb1⟩
  ·have E := zaa (zdk (k := 2) (a := a) (x := x) (by omega))
   have HA := zaa ha
   clear ha
   go_enter Tryz.func108, Tryz.ntmps108
   go_wp2_with (first | (go_at_call 161; refine (zal _ _ _ (by omega)).mono ?_; rintro e w' ⟨rfl, rfl⟩) | (go_at_call 161; refine (zaq _ _ _ HA.out).mono ?_; rintro e w' ⟨rfl, rfl⟩))
   go_ret
   exact ⟨zac E.out.symm, hb1⟩
 ·have hb1 : Below w.heap.size w ((w.alloc (.cells #[.int .i64 3, .int .i64 a, .int .i64 x] 79)).alloc (.cells #[.int .i64 1, .int .i64 1] 184)) := hb0.alloc (by simp) _
  clear c0 c1 c2 c3 c4 c5 c8 c9 c10 c11
  by_cases ha : 0 ≤ a ∧ a < 1
  ·by_cases hx : 0 ≤ x ∧ x < 1
   ·have E := zaa (ztk (k := 3) (a := a) (x := x) (by omega))
    go_enter Tryz.func108, Tryz.ntmps108
    go_wp2_with (go_at_call 161; refine (zal _ _ _ (by omega)).mono ?_; rintro e w' ⟨rfl, rfl⟩)
    go_ret
    exact ⟨zac E.out.symm, hb1⟩
   ·have E := zaa (zdk (k := 3) (a := a) (x := x) (by omega))
    have HX := zaa hx
    clear hx
    go_enter Tryz.func108, Tryz.ntmps108
    go_wp2_with (first | (go_at_call 161; refine (zal _ _ _ (by omega)).mono ?_; rintro e w' ⟨rfl, rfl⟩) | (go_at_call 161; refine (zaq _ _ _ HX.out).mono ?_; rintro e w' ⟨rfl, rfl⟩))
    go_ret
    exact ⟨zac E.out.symm, hb1⟩
  ·have E := zaa (zdk (k := 3) (a := a) (x := x) (by omega))
   have HA := zaa ha
   clear ha
   go_enter Tryz.func108, Tryz.ntmps108
   go_wp2_with (first | (go_at_call 161; refine (zal _ _ _ (by omega)).mono ?_; rintro e w' ⟨rfl, rfl⟩) | (go_at_call 161; refine (zaq _ _ _ HA.out).mono ?_; rintro e w' ⟨rfl, rfl⟩))
   go_ret
   exact ⟨zac E.out.symm, hb1⟩
 ·have hb1 : Below w.heap.size w ((w.alloc (.cells #[.int .i64 4, .int .i64 a, .int .i64 x] 79)).alloc (.cells #[.int .i64 32, .int .i64 1099511627776] 184)) := hb0.alloc (by simp) _
  clear c0 c1 c2 c3 c4 c5 c6 c7 c10 c11
  by_cases ha : 0 ≤ a ∧ a < 32
  ·by_cases hx : 0 ≤ x ∧ x < 1099511627776
   ·have E := zaa (ztk (k := 4) (a := a) (x := x) (by omega))
    go_enter Tryz.func108, Tryz.ntmps108
    go_wp2_with (go_at_call 161; refine (zal _ _ _ (by omega)).mono ?_; rintro e w' ⟨rfl, rfl⟩)
    go_ret
    exact ⟨zac E.out.symm, hb1⟩
   ·have E := zaa (zdk (k := 4) (a := a) (x := x) (by omega))
    have HX := zaa hx
    clear hx
    go_enter Tryz.func108, Tryz.ntmps108
    go_wp2_with (first | (go_at_call 161; refine (zal _ _ _ (by omega)).mono ?_; rintro e w' ⟨rfl, rfl⟩) | (go_at_call 161; refine (zaq _ _ _ HX.out).mono ?_; rintro e w' ⟨rfl, rfl⟩))
    go_ret
    exact ⟨zac E.out.symm, hb1⟩
  ·have E := zaa (zdk (k := 4) (a := a) (x := x) (by omega))
   have HA := zaa ha
   clear ha
   go_enter Tryz.func108, Tryz.ntmps108
   go_wp2_with (first | (go_at_call 161; refine (zal _ _ _ (by omega)).mono ?_; rintro e w' ⟨rfl, rfl⟩) | (go_at_call 161; refine (zaq _ _ _ HA.out).mono ?_; rintro e w' ⟨rfl, rfl⟩))
   go_ret
   exact ⟨zac E.out.symm, hb1⟩
 ·have hb1 : Below w.heap.size w ((w.alloc (.cells #[.int .i64 5, .int .i64 a, .int .i64 x] 79)).alloc (.cells #[.int .i64 1, .int .i64 1] 184)) := hb0.alloc (by simp) _
  clear c0 c1 c2 c3 c4 c5 c6 c7 c8 c9
  by_cases ha : 0 ≤ a ∧ a < 1
  ·by_cases hx : 0 ≤ x ∧ x < 1
   ·have E := zaa (ztk (k := 5) (a := a) (x := x) (by omega))
    go_enter Tryz.func108, Tryz.ntmps108
    go_wp2_with (go_at_call 161; refine (zal _ _ _ (by omega)).mono ?_; rintro e w' ⟨rfl, rfl⟩)
    go_ret
    exact ⟨zac E.out.symm, hb1⟩
   ·have E := zaa (zdk (k := 5) (a := a) (x := x) (by omega))
    have HX := zaa hx
    clear hx
    go_enter Tryz.func108, Tryz.ntmps108
    go_wp2_with (first | (go_at_call 161; refine (zal _ _ _ (by omega)).mono ?_; rintro e w' ⟨rfl, rfl⟩) | (go_at_call 161; refine (zaq _ _ _ HX.out).mono ?_; rintro e w' ⟨rfl, rfl⟩))
    go_ret
    exact ⟨zac E.out.symm, hb1⟩
  ·have E := zaa (zdk (k := 5) (a := a) (x := x) (by omega))
   have HA := zaa ha
   clear ha
   go_enter Tryz.func108, Tryz.ntmps108
   go_wp2_with (first | (go_at_call 161; refine (zal _ _ _ (by omega)).mono ?_; rintro e w' ⟨rfl, rfl⟩) | (go_at_call 161; refine (zaq _ _ _ HA.out).mono ?_; rintro e w' ⟨rfl, rfl⟩))
   go_ret
   exact ⟨zac E.out.symm, hb1⟩
/-- All steps are right. -/
def misB (ps : List Mi) : Bool := decide (∀ k (h : k < ps.length), miB ps[k] = true)
theorem misB_mk {ps : List Mi} (h : ∀ k (h : k < ps.length), miB ps[k] = true) : misB ps = true := decide_eq_true h
theorem misB_not {ps : List Mi} {k : Nat} (hk : k < ps.length) (h : miB ps[k] = false) : misB ps = false := decide_eq_false (fun x => by have := x k hk; rw [h] at this; cases this)
set_option maxHeartbeats 4000000 in
theorem zoy (v : Value) (ps : List Mi) (w : World) (hS : SB w) (h : RdM w v ps) (hn : ps.length ≤ 1048576) :
  Calls Tryz.prog 107 #[v, .func (.func 108) #[] #[]] w fun e w' => e = .returned (.bool (misB ps)) ∧ Below w.heap.size w w' := by
 obtain ⟨aP, cP, rfl, _, hcP⟩ := h.shape
 have HS := zaa hS
 clear h hS
 go_enter Tryz.func107, Tryz.ntmps107
 go_wp2
 go_loopw [6, 9] (fun _ i wr => ∃ k : Nat, k ≤ ps.length ∧ i = .int .i64 k ∧ Hid (∀ j (h : j < ps.length), j < k → miB ps[j] = true) ∧ Below w.heap.size w wr) (fun _ i _ => ps.length - (intOf i).toNat)
 case atStart => exact ⟨0, by omega, rfl, fun j h a => absurd a (by omega), Below.refl _ _⟩
 case round =>
  obtain ⟨m, hm, rfl, H, hbw⟩ := hrel
  have hz := hbw.size
  by_cases hlt2 : m < ps.length
  ·obtain ⟨b2, o2, rfl, hbl2, hcell2⟩ := hcP (by omega)
   obtain ⟨d0, d1, d2⟩ := hcell2 m hlt2
   have e0 := (hbw.cell (p := ⟨b2, o2 + m * 3, none⟩) hbl2).trans d0
   have e1 := (hbw.cell (p := ⟨b2, o2 + m * 3 + 1, none⟩) hbl2).trans d1
   have e2 := (hbw.cell (p := ⟨b2, o2 + m * 3 + 2, none⟩) hbl2).trans d2
   have hb1 := zaa (hbw.alloc hz (.cells #[.int .i64 ps[m].kind, .int .i64 ps[m].at_, .int .i64 ps[m].val] 79))
   clear d0 d1 d2 hcell2 hcP
   by_cases q : miB ps[m] = true
   ·have Q := zaa q
    clear q
    go_wp2_with (go_at_call 108; refine (zry ps[m].kind ps[m].at_ ps[m].val _ (HS.out.below hb1.out)).mono ?_; rw [Q.out]; rintro e w' ⟨rfl, hw'⟩)
    have hw2 := hb1.out.trans (hw'.mono (by simp; omega))
    clear hb1 hw'
    go_roundw
    case rel =>
     refine ⟨m + 1, by omega, by go_num, fun j h a => ?_, hw2⟩
     by_cases e : j = m
     ·subst e; exact Q.out
     ·exact H.out j h (by omega)
    case measure => simp [intOf]; omega
   ·have Q := zaa (show miB ps[m] = false by simpa using q)
    have E := zaa (misB_not hlt2 Q.out)
    clear q
    go_wp2_with (go_at_call 108; refine (zry ps[m].kind ps[m].at_ ps[m].val _ (HS.out.below hb1.out)).mono ?_; rw [Q.out]; rintro e w' ⟨rfl, hw'⟩)
    have hw2 := hb1.out.trans (hw'.mono (by simp; omega))
    go_ret
    exact ⟨zac E.out.symm, hw2⟩
  ·have E := zaa (misB_mk (fun j h => H.out j h (by omega)))
   go_wp2
   go_ret
   exact ⟨zac E.out.symm, hbw⟩
end Go.Proofs.YtipklbnfobckaaaGreatDoor

namespace Go.Proofs.YtipklbnfobckaaaGreatDoor
open Go.RowKit

set_option maxHeartbeats 2000000 in
theorem zjh (v : Value) (ws : List Int) (ps : List St) (es : List Int) (qs : List Se) (w : World) (h : RdDev w v ws ps es qs) (hw : ws.length ≤ 1048576) (hp : ps.length ≤ 1048576) (he : es.length ≤ 1048576) (hq : qs.length ≤ 1048576) :
  Calls Tryz.prog 50 #[v] w fun e w' => e = .returned (.bool (pmB ws ps && zeh es qs)) ∧ Below w.heap.size w w' := by
 obtain ⟨aW, cW, aP, cP, aS, cS, aQ, cQ, rfl, h1, h2⟩ := h.form
 have H1 := zaa h1
 have H2 := zaa h2
 clear h h1 h2
 have hb0 : Below w.heap.size w (w.alloc (.cells #[.slice aW ws.length cW, .slice aP ps.length cP, .slice aS es.length cS, .slice aQ qs.length cQ] 46)) := (Below.refl _ _).alloc (Nat.le_refl _) _
 by_cases c : pmB ws ps = true
 ·have C := zaa c
  rw [c]
  clear c
  go_enter Tryz.func50, Tryz.ntmps50
  go_wp2_with fail
  refine (zbp _ ws ps _ (H1.out.below hb0) hw hp).mono ?_
  rw [C.out]
  rintro e w1 ⟨rfl, hb1⟩
  obtain ⟨x0, x1, x2, x3, -, -, -, -⟩ := zan ((hb1.block w.heap.size (by simp)).trans (zah rfl))
  have B1 := zaa (zab hb0 hb1 (by simp))
  clear hb0 hb1
  go_wp2_with fail
  refine (zcx _ es qs _ (H2.out.below B1.out) he hq).mono ?_
  rintro e w2 ⟨rfl, hb2⟩
  have B2 := zaa (zab B1.out hb2 B1.out.size)
  clear hb2
  go_wp2
  go_ret
  exact ⟨rfl, B2.out⟩
 ·have c' : pmB ws ps = false := by simpa using c
  have C := zaa c'
  rw [c']
  clear c c'
  go_enter Tryz.func50, Tryz.ntmps50
  go_wp2_with fail
  refine (zbp _ ws ps _ (H1.out.below hb0) hw hp).mono ?_
  rw [C.out]
  rintro e w1 ⟨rfl, hb1⟩
  have B1 := zaa (zab hb0 hb1 (by simp))
  clear hb0 hb1
  go_wp2
  go_ret
  exact ⟨rfl, B1.out⟩

end Go.Proofs.YtipklbnfobckaaaGreatDoor
