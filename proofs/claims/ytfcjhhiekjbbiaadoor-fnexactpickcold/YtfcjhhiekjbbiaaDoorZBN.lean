/- Several texts laid together: MiS, MiL, TrI. -/
import Derived.Test.YtfcjhhiekjbbiaaDoorZAB
import Derived.Test.YtfcjhhiekjbbiaaDoorZAL
import Derived.Test.YtfcjhhiekjbbiaaDoorTrH
namespace Go.Proofs.YtfcjhhiekjbbiaaDoor
open Go.RowKit

/-- A step. -/
structure Mi where
  kind : Int
  at_ : Int
  val : Int
/-- A step as a value. -/
def Mi.v (m : Mi) : Value := .agg #[.int .i64 m.kind, .int .i64 m.at_, .int .i64 m.val]
end Go.Proofs.YtfcjhhiekjbbiaaDoor

namespace Go.Proofs.YtfcjhhiekjbbiaaDoor
open Go.RowKit

def Mi.cells (s : Mi) : List Value := [.int .i64 s.kind, .int .i64 s.at_, .int .i64 s.val]
def mis (ps : List Mi) : List Value := ps.flatMap Mi.cells

theorem Mi.cells_len (s : Mi) : s.cells.length = 3 := rfl
theorem mis_at0 (ps : List Mi) (k : Nat) (h : k < ps.length) : (mis ps)[k * 3]? = some (.int .i64 ps[k].kind) := flatMap_at _ 3 Mi.cells_len ps k 0 h (by omega)
theorem mis_at1 (ps : List Mi) (k : Nat) (h : k < ps.length) : (mis ps)[k * 3 + 1]? = some (.int .i64 ps[k].at_) := flatMap_at _ 3 Mi.cells_len ps k 1 h (by omega)
theorem mis_at2 (ps : List Mi) (k : Nat) (h : k < ps.length) : (mis ps)[k * 3 + 2]? = some (.int .i64 ps[k].val) := flatMap_at _ 3 Mi.cells_len ps k 2 h (by omega)

/-- A slice of steps that can be read. -/
def RdM (w : World) (v : Value) (ps : List Mi) : Prop := Rd w 3 v ps.length (mis ps)
theorem RdM.shape {w : World} {v : Value} {ps : List Mi} (h : RdM w v ps) : ∃ ao cap, v = .slice ao ps.length cap ∧ ps.length ≤ cap ∧ (0 < ps.length → ∃ b o, ao = some ⟨b, o, none⟩ ∧ b < w.heap.size ∧
    ∀ k (h : k < ps.length), w.cell? ⟨b, o + k * 3, none⟩ = some (.int .i64 ps[k].kind) ∧ w.cell? ⟨b, o + k * 3 + 1, none⟩ = some (.int .i64 ps[k].at_) ∧ w.cell? ⟨b, o + k * 3 + 2, none⟩ = some (.int .i64 ps[k].val)) := by
  obtain ⟨_, ao, cap, rfl, h2, h3⟩ := h
  refine ⟨ao, cap, rfl, h2.1, fun hn => ?_⟩
  obtain ⟨b, o, rfl, hb, hc⟩ := h3 hn
  exact ⟨b, o, rfl, hb, fun k hk => ⟨(hc (k * 3) (by omega)).trans (mis_at0 ps k hk), (hc (k * 3 + 1) (by omega)).trans (mis_at1 ps k hk), (hc (k * 3 + 2) (by omega)).trans (mis_at2 ps k hk)⟩⟩

end Go.Proofs.YtfcjhhiekjbbiaaDoor

namespace Go.Proofs.YtfcjhhiekjbbiaaDoor
open Go.RowKit

/-- A page with its heat: inode, page, heat. -/
def wpM (hs : List Int) (k : Nat) : Mi := ⟨((k / 8 : Nat) : Int), ((k % 8 : Nat) : Int), hs.getD k 0⟩
/-- The pages of a tier among the first ones. -/
def wpL (ns : List Ino) (hs : List Int) (t : Int) : Nat → List Mi
  | 0 => []
  | n + 1 => if pgE ns n = 0 ∨ ¬ pgE ns n % 4 = t then wpL ns hs t n else wpL ns hs t n ++ [wpM hs n]
theorem wpL_len (ns : List Ino) (hs : List Int) (t : Int) (n : Nat) : (wpL ns hs t n).length ≤ n := by
  induction n with
  | zero => exact Nat.le_refl _
  | succ n ih =>
    unfold wpL
    split
    · omega
    · rw [List.length_append, List.length_singleton]; omega
/-- One more is held against the best so far. -/
def chT (hot : Bool) (c x : Mi) : Mi := if (hot = true ∧ c.val < x.val) ∨ (hot = false ∧ x.val < c.val) then x else c
def zeroMi : Mi := ⟨0, 0, 0⟩
def chO (hot : Bool) : List Mi → Mi
  | [] => zeroMi
  | x :: xs => xs.foldl (chT hot) x
theorem chO_snoc (hot : Bool) (l : List Mi) (x : Mi) (h : ¬ l = []) : chO hot (l ++ [x]) = chT hot (chO hot l) x := by
  cases l with
  | nil => exact absurd rfl h
  | cons y ys =>
    show (ys ++ [x]).foldl (chT hot) y = _
    rw [List.foldl_append]
    rfl
theorem pick_chosen (ns : List Ino) (hs : List Int) (t : Int) (hot : Bool) (n : Nat) : (wpL ns hs t n = [] ∧ pkN ns hs t hot n = -1) ∨ (¬ wpL ns hs t n = [] ∧ ∃ q : Nat, pkN ns hs t hot n = (q : Int) ∧ chO hot (wpL ns hs t n) = wpM hs q) := by
  induction n with
  | zero => exact .inl ⟨rfl, rfl⟩
  | succ n ih =>
    have e1 : pkN ns hs t hot (n + 1) = pkS ns hs t hot (pkN ns hs t hot n) n := rfl
    rw [e1]
    by_cases c : pgE ns n = 0 ∨ ¬ pgE ns n % 4 = t
    · have e2 : wpL ns hs t (n + 1) = wpL ns hs t n := by rw [wpL, if_pos c]
      rw [e2, pkS_no c]
      exact ih
    · have e2 : wpL ns hs t (n + 1) = wpL ns hs t n ++ [wpM hs n] := by rw [wpL, if_neg c]
      rw [e2]
      have ne : ¬ wpL ns hs t n ++ [wpM hs n] = [] := by simp
      rcases ih with ⟨h1, h2⟩ | ⟨h1, q, h2, h3⟩
      · rw [h2, pkS_take c (.inl (by decide)), h1]
        exact .inr ⟨by simp, n, rfl, rfl⟩
      · refine .inr ⟨ne, ?_⟩
        rw [h2, chO_snoc hot _ _ h1, h3]
        have tq : ((q : Int)).toNat = q := Int.toNat_natCast q
        by_cases d : (hot = true ∧ hs.getD q 0 < hs.getD n 0) ∨ (hot = false ∧ hs.getD n 0 < hs.getD q 0)
        · rw [pkS_take c (.inr (by rw [tq]; exact d))]
          exact ⟨n, rfl, if_pos d⟩
        · rw [pkS_not c (by rw [tq]; exact fun x => x.elim (by omega) d)]
          exact ⟨q, rfl, if_neg d⟩
theorem wpL_inode (ns : List Ino) (hs : List Int) (t : Int) (a b : Nat) (hb : b < 8) : wpL ns hs t (8 * a + (b + 1)) = if (inoAt ns a).map.getD b 0 = 0 ∨ ¬ (inoAt ns a).map.getD b 0 % 4 = t then wpL ns hs t (8 * a + b) else wpL ns hs t (8 * a + b) ++ [⟨(a : Int), (b : Int), hs.getD (8 * a + b) 0⟩] := by
  have e : pgE ns (8 * a + b) = (inoAt ns a).map.getD b 0 := by
    unfold pgE
    rw [show (8 * a + b) / 8 = a by omega, show (8 * a + b) % 8 = b by omega]
  have m : wpM hs (8 * a + b) = ⟨(a : Int), (b : Int), hs.getD (8 * a + b) 0⟩ := by
    unfold wpM
    rw [show (8 * a + b) / 8 = a by omega, show (8 * a + b) % 8 = b by omega]
  show wpL ns hs t ((8 * a + b) + 1) = _
  rw [wpL, e, m]
/-- What the program's choice answers is what the model's answers. -/
theorem pick_told (ns : List Ino) (ds : List Den) (hs : List Int) (t : Int) (hot : Bool) (hi : imgB ns ds = true) (hh : heatB hs = true) : pcR ns ds hs t hot = if wpL ns hs t 128 = [] then (0, 0, 5) else ((chO hot (wpL ns hs t 128)).kind, (chO hot (wpL ns hs t 128)).at_, 0) := by
  unfold pcR pcI
  rw [if_neg (by have := (heat_parts hh).1; omega), if_pos ⟨hi, hh⟩]
  rcases pick_chosen ns hs t hot 128 with ⟨h1, h2⟩ | ⟨h1, q, h2, h3⟩
  · rw [h2, if_pos (by decide), if_pos h1]
  · rw [h2, if_neg (by omega), if_neg h1, h3]
    unfold wpM
    rw [show ((q / 8 : Nat) : Int) = (q : Int) / 8 by omega, show ((q % 8 : Nat) : Int) = (q : Int) % 8 by omega]
/-- The tier of an entry. -/
theorem tier_is {e t : Int} (h : tieB e = true) (ht : t = 1 ∨ t = 2) : (tieT e == t) = true ↔ ¬ (e = 0 ∨ ¬ e % 4 = t) := by
  unfold tieT
  rw [if_pos h, beq_iff_eq]
  constructor
  · intro q r
    rcases r with r | r
    · subst r; omega
    · exact r q
  · intro q
    by_cases c : e % 4 = t
    · exact c
    · exact absurd (.inr c) q
end Go.Proofs.YtfcjhhiekjbbiaaDoor
