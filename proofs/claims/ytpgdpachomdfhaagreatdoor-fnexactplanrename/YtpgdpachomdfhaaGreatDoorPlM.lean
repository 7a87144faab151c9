/- The plan to make: by the model. -/
import Derived.Test.YtpgdpachomdfhaaGreatDoorPlD
import Derived.Test.YtpgdpachomdfhaaGreatDoorPcD
namespace Go.Proofs.YtpgdpachomdfhaaGreatDoor
open Go.RowKit

theorem below_al {w x : World} (h : Below w.heap.size w x) (o : Obj) : Below w.heap.size w (x.alloc o) := h.alloc h.size o
/-- What a plan answers stands in a row of its own. -/
def PlOut (w w' : World) (e : Ending) (r : List Se × Int) : Prop := ∃ v', e = .returned (.tuple #[v', .int .i64 r.2]) ∧ Row w' 61 2 w.heap.size w'.heap.size v' r.1.length (ses r.1) ∧ Below w.heap.size w w'
theorem upn {w w1 : World} (B : Below w.heap.size w w1) : Row (w1.alloc (.cells #[] 61)) 61 2 w.heap.size (w1.alloc (.cells #[] 61)).heap.size (.slice (some ⟨w1.heap.size, 0, none⟩) 0 0) 0 [] ∧ Below w.heap.size w (w1.alloc (.cells #[] 61)) :=
  ⟨(row_none w1 _ _).wide B.size (Nat.le_refl _), B.alloc B.size _⟩
theorem pl_none {w w1 : World} {c : Int} (B : Below w.heap.size w w1) : PlOut w (w1.alloc (.cells #[] 61)) (.returned (.tuple #[.slice (some ⟨w1.heap.size, 0, none⟩) 0 0, .int .i64 c])) ([], c) :=
  ⟨_, rfl, (upn B).1, (upn B).2⟩
theorem pl_noneB {w w1 : World} {b : Nat} {c : Int} (B : Below w.heap.size w w1) (hb : b = w1.heap.size) : PlOut w (w1.alloc (.cells #[] 61)) (.returned (.tuple #[.slice (some ⟨b, 0, none⟩) 0 0, .int .i64 c])) ([], c) := by
  subst hb
  exact pl_none B
theorem pl_row {w w1 : World} {v : Value} {L : List Se} (c : Int) (h : UpI w w1 v L) : PlOut w w1 (.returned (.tuple #[v, .int .i64 c])) (L, c) :=
  ⟨_, rfl, own_block h.l, h.b⟩
theorem pl_nil {w w1 : World} {c : Int} (B : Below w.heap.size w w1) : PlOut w w1 (.returned (.tuple #[.slice none 0 0, .int .i64 c])) ([], c) :=
  ⟨_, rfl, Row.nil _ _ _ _ _, B⟩

set_option maxRecDepth 100000 in
set_option maxHeartbeats 8000000 in
theorem l07Make_any (v : Value) (ws : List Ino) (ps : List Den) (s : ByteArray) (kind : Int) (w : World) (h : RdIm w v ws ps) (hi : imgB ws ps = true) (hs : s.size ≤ 65536) :
    Calls Tryz.prog 26 #[v, .string s, .int .i64 kind] w fun e w' => PlOut w w' e (mkI ws ps s kind) := by
  have HR := hideIt h
  have LP := hideIt (fun w1 (hb : Below w.heap.size w w1) => l06Parent_any v ws ps s w1 (h.below hb) hi hs)
  have LE := hideIt (fun d nm w1 (hb : Below w.heap.size w w1) => l06Entry_any v ws ps d nm w1 (h.below hb) (by have := (pimg_all hi).2.1; omega))
  have LI := hideIt (fun w1 (hb : Below w.heap.size w w1) => l05FreeInode_any v ws ps w1 (h.below hb) (by have := (pimg_all hi).1; omega))
  have LK := hideIt (fun w1 (hb : Below w.heap.size w w1) => l05FreeDirent_any v ws ps w1 (h.below hb) (by have := (pimg_all hi).2.1; omega))
  have EL := hideIt (show mkI ws ps s kind = if (paI ws ps s).2.2 = 0 then mkN ws ps kind (paI ws ps s).1 (paI ws ps s).2.1 else ([], (paI ws ps s).2.2) from rfl)
  have EN := hideIt (fun d nm => show mkN ws ps kind d nm = if 0 ≤ entI ps d nm then ([], 8) else if fiI ws < 0 then ([], 7) else if feI ps < 0 then ([], 7) else (mkU (fiI ws) (feI ps) kind d nm, 0) from rfl)
  have PO := hideIt (fun c => paI_ok (s := s) hi c)
  have f1 := fi_range hi
  have f2 := fe_range hi
  have FP := hideIt (@fi_pos ws)
  rw [show firstIx (fun i => decide (1 ≤ i) && kindAt ws (i : Int) == 0) ws.length = fiI ws from rfl] at LI
  obtain ⟨vW, vP, rfl, h1, h2⟩ := h
  obtain ⟨aW, cW, rfl, _, _⟩ := h1.shape
  obtain ⟨aP, cP, rfl, _, _⟩ := h2.shape
  clear h1 h2 hi hs
  have CA : Hid (∀ w', Below (w.alloc (.cells #[.slice aW ws.length cW, .slice aP ps.length cP] 33)).heap.size (w.alloc (.cells #[.slice aW ws.length cW, .slice aP ps.length cP] 33)) w' → w'.cell? ⟨w.heap.size, 0, none⟩ = some (.slice aW ws.length cW) ∧ w'.cell? ⟨w.heap.size, 1, none⟩ = some (.slice aP ps.length cP)) := fun w' hb => by
    have : w'.heap[w.heap.size]? = some (.cells #[.slice aW ws.length cW, .slice aP ps.length cP] 33 (0, 0)) := (hb.block _ (by simp)).trans (at_new rfl)
    exact ⟨(two_cells this).1, (two_cells this).2.1⟩
  have BW : Hid (Below w.heap.size w (w.alloc (.cells #[.slice aW ws.length cW, .slice aP ps.length cP] 33))) := (Below.refl _ _).alloc (Nat.le_refl _) _
  have hz : w.heap.size < (w.alloc (.cells #[.slice aW ws.length cW, .slice aP ps.length cP] 33)).heap.size := by simp
  obtain ⟨x0, x1⟩ := CA.out _ (Below.refl _ _)
  generalize mkI ws ps s kind = res at *
  generalize paI ws ps s = pr at *
  generalize fiI ws = fi at *
  generalize feI ps = fe at *
  obtain ⟨pd, pn, pc⟩ := pr
  simp only at EL PO LP
  go_enter Tryz.func26, Tryz.ntmps26
  go_wp2_with fail
  refine (LP.out _ BW.out).mono ?_
  rintro e w1 ⟨rfl, hb1⟩
  have A1 := hideIt hb1
  have B1 := hideIt (below_trans BW.out hb1 BW.out.size)
  have z1 : (w.alloc (.cells #[.slice aW ws.length cW, .slice aP ps.length cP] 33)).heap.size ≤ w1.heap.size := hb1.size
  clear x0 x1
  obtain ⟨x0, x1⟩ := CA.out _ hb1
  clear hb1 LP
  by_cases c : pc = 0
  case neg =>
    rw [if_neg c] at EL
    obtain rfl := EL.out
    have q : (pc != 0) = true := by rw [bne_iff_ne]; exact c
    clear EL c x0 x1
    go_wp2
    go_ret2
    exact pl_none B1.out
  rw [if_pos c] at EL
  subst c
  obtain ⟨p1, p2, p3⟩ := PO.out rfl
  have NM := hideIt p3
  rw [EN.out] at EL
  clear PO p2 p3 EN
  have LE2 := hideIt (fun w1 hb => LE.out pd pn w1 hb)
  generalize entI ps pd pn = ei at *
  clear LE
  go_wp2_with fail
  refine (LE2.out _ B1.out).mono ?_
  rintro e w2 ⟨rfl, hb2⟩
  have A2 := hideIt (below_trans A1.out hb2 z1)
  have B2 := hideIt (below_trans B1.out hb2 B1.out.size)
  have z2 : (w.alloc (.cells #[.slice aW ws.length cW, .slice aP ps.length cP] 33)).heap.size ≤ w2.heap.size := A2.out.size
  clear x0 x1
  obtain ⟨x0, x1⟩ := CA.out _ A2.out
  clear hb2 LE2 A1 B1
  by_cases c : 0 ≤ ei
  · rw [if_pos c] at EL
    obtain rfl := EL.out
    have c1 : ei ≥ 0 := c
    clear EL x0 x1 c
    go_wp2
    go_ret2
    exact pl_none B2.out
  rw [if_neg c] at EL
  have c1 : ¬ ei ≥ 0 := c
  clear c
  go_wp2_with fail
  refine (LI.out _ B2.out).mono ?_
  rintro e w3 ⟨rfl, hb3⟩
  have A3 := hideIt (below_trans A2.out hb3 z2)
  have B3 := hideIt (below_trans B2.out hb3 B2.out.size)
  have z3 : (w.alloc (.cells #[.slice aW ws.length cW, .slice aP ps.length cP] 33)).heap.size ≤ w3.heap.size := A3.out.size
  clear x0 x1
  obtain ⟨x0, x1⟩ := CA.out _ A3.out
  clear hb3 LI A2 B2 c1
  go_wp2_with fail
  refine (LK.out _ B3.out).mono ?_
  rintro e w4 ⟨rfl, hb4⟩
  have B4 := hideIt (below_trans B3.out hb4 B3.out.size)
  clear hb4 LK A3 B3 x0 x1 CA
  by_cases c2 : fi < 0
  · rw [if_pos c2] at EL
    obtain rfl := EL.out
    clear EL
    go_wp2
    go_ret2
    exact pl_none B4.out
  rw [if_neg c2] at EL
  by_cases c3 : fe < 0
  · rw [if_pos c3] at EL
    obtain rfl := EL.out
    clear EL
    go_wp2
    go_ret2
    exact pl_none B4.out
  rw [if_neg c3] at EL
  have fp := FP.out (by omega)
  have LN := hideIt (fun w1 => l05Entry_any fe ⟨pd, pn, fi⟩ w1 (by omega) (show -1 ≤ fi ∧ fi ≤ 15 by omega) (.inr NM.out))
  have EU := hideIt (show mkU fi fe kind pd pn = [⟨48 + 12 * fi, kind⟩, ⟨48 + 12 * fi + 2, 1⟩] ++ enL fe ⟨pd, pn, fi⟩ from rfl)
  have LV := hideIt (show (Den.mk pd pn fi).v = .agg #[.int .i64 pd, .string pn, .int .i64 fi] from rfl)
  rw [LV.out] at LN
  have l3 : (enL fe ⟨pd, pn, fi⟩).length ≤ 3 := Nat.le_refl _
  generalize enL fe ⟨pd, pn, fi⟩ = L at *
  have fr : 0 ≤ fi ∧ fi < 16 := by omega
  go_wp2_with (go_at_call 58; refine (l03Inode_any _ _ _ fr (by omega)).mono ?_; rintro e w' ⟨rfl, hw'⟩; subst w')
  have J5 : Hid (UpI w (w4.alloc (.cells #[.int .i64 (48 + 12 * fi), .int .i64 kind, .int .i64 (48 + 12 * fi + 2), .int .i64 1] 61)) (.slice (some ⟨w4.heap.size, 0, none⟩) 2 2) [⟨48 + 12 * fi, kind⟩, ⟨48 + 12 * fi + 2, 1⟩]) := ⟨World.ownsRow_lit w4 _ 2 B4.out.size (by simp [maxLen]) rfl, B4.out.alloc B4.out.size _⟩
  refine (LN.out _).mono ?_
  rintro e w6 ⟨v6, rfl, hr6, hb6⟩
  have J6 := hideIt (J5.out.below hb6)
  have R6 := hideIt hr6.rd
  obtain ⟨-, aL, cL, hvL, -⟩ := hr6.rd
  subst hvL
  have z6 : w.heap.size ≤ w6.heap.size := J6.out.z
  clear hr6 hb6 J5 LN
  go_wp2_with (at_builtin; refine wpList_append_rd _ rfl (.tmp 50) (.tmp 56) 27 rfl w.heap.size 61 (.agg #[.int .i64 0, .int .i64 0]) 2 16 Tryz.underlying27 infoUp rfl (by decide) _ _ _ rfl J6.out.l _ _ _ rfl R6.out (ses_ones _) (by simp [maxLen]; omega) (by simp; omega) z6 ?_)
  intro vN wN hownN hgrN
  have G := hideIt (J6.out.grow L hownN hgrN)
  rw [← EU.out] at G
  obtain ⟨-, aN, cN, hvN, -⟩ := (own_block hownN).rd
  subst hvN
  obtain rfl := EL.out
  clear hownN hgrN J6 R6 EL
  go_wp2
  go_ret2
  exact pl_row 0 G.out

set_option maxRecDepth 100000 in
set_option maxHeartbeats 4000000 in
theorem specPlanMake_any (v : Value) (ws : List Ino) (ps : List Den) (s : ByteArray) (kind : Int) (w : World) (h : RdIm w v ws ps) (hw : ws.length ≤ 1048576) (hp : ps.length ≤ 1048576) (hr : ∀ k (h : k < ws.length), ws[k].R) (hs : ∀ k (h : k < ps.length), ps[k].name.size ≤ maxLen) :
    Calls Tryz.prog 8 #[v, .string s, .int .i64 kind] w fun e w' => PlOut w w' e (mkR ws ps s kind) := by
  have LI := hideIt (fun w1 (hb : Below w.heap.size w w1) => specImageOK_any v ws ps w1 (h.below hb) hw hp hr hs)
  have LL := hideIt (fun w1 (hb : Below w.heap.size w w1) hi hs => l07Make_any v ws ps s kind w1 (h.below hb) hi hs)
  have EL := hideIt (show mkR ws ps s kind = if 65536 < s.size then ([], 2) else if imgB ws ps = true then (if 1 ≤ kind ∧ kind ≤ 2 then mkI ws ps s kind else ([], 4)) else ([], 1) from rfl)
  obtain ⟨vW, vP, rfl, h1, h2⟩ := h
  obtain ⟨aW, cW, rfl, _, _⟩ := h1.shape
  obtain ⟨aP, cP, rfl, _, _⟩ := h2.shape
  clear h1 h2 hr hs
  have CA : Hid (∀ w', Below (w.alloc (.cells #[.slice aW ws.length cW, .slice aP ps.length cP] 33)).heap.size (w.alloc (.cells #[.slice aW ws.length cW, .slice aP ps.length cP] 33)) w' → w'.cell? ⟨w.heap.size, 0, none⟩ = some (.slice aW ws.length cW) ∧ w'.cell? ⟨w.heap.size, 1, none⟩ = some (.slice aP ps.length cP)) := fun w' hb => by
    have : w'.heap[w.heap.size]? = some (.cells #[.slice aW ws.length cW, .slice aP ps.length cP] 33 (0, 0)) := (hb.block _ (by simp)).trans (at_new rfl)
    exact ⟨(two_cells this).1, (two_cells this).2.1⟩
  have BW : Hid (Below w.heap.size w (w.alloc (.cells #[.slice aW ws.length cW, .slice aP ps.length cP] 33))) := (Below.refl _ _).alloc (Nat.le_refl _) _
  obtain ⟨x0, x1⟩ := CA.out _ (Below.refl _ _)
  generalize mkR ws ps s kind = res at *
  generalize mkI ws ps s kind = r1 at *
  by_cases c1 : 65536 < s.size
  · rw [if_pos c1] at EL
    have c2 : (s.size : Int) > 65536 := by omega
    obtain rfl := EL.out
    clear EL c1 LL
    go_enter Tryz.func8, Tryz.ntmps8
    go_wp2
    go_ret2
    exact pl_noneB BW.out (World.size_alloc _ _).symm
  rw [if_neg c1] at EL
  have c2 : ¬ (s.size : Int) > 65536 := by omega
  have LL2 := hideIt (fun w1 h hi => LL.out w1 h hi (by omega))
  clear LL c1
  generalize hi : imgB ws ps = ib at *
  go_enter Tryz.func8, Tryz.ntmps8
  go_wp2_with fail
  refine (LI.out _ BW.out).mono ?_
  rintro e w1 ⟨rfl, hb1⟩
  have B1 := hideIt (below_trans BW.out hb1 BW.out.size)
  clear x0 x1
  obtain ⟨x0, x1⟩ := CA.out _ hb1
  clear hb1
  cases ib with
  | false =>
    obtain rfl := EL.out
    clear EL LL2 x0 x1
    go_wp2
    go_ret2
    exact pl_none B1.out
  | true =>
    rw [if_pos rfl] at EL
    have LL3 := hideIt (fun w1 h => LL2.out w1 h rfl)
    clear LL2
    by_cases c3 : 1 ≤ kind ∧ kind ≤ 2
    · rw [if_pos c3] at EL
      obtain rfl := EL.out
      have C3 := hideIt c3
      clear c3 EL
      go_wp2_with fail
      refine (l01In_yes _ _ _ _ C3.out).mono ?_
      rintro e w' ⟨rfl, hw'⟩
      subst w'
      go_wp2_with fail
      refine (LL3.out _ B1.out).mono ?_
      rintro e w2 ⟨v2, rfl, hr2, hb2⟩
      have R2 := hideIt (hr2.wide B1.out.size (Nat.le_refl _))
      have B2 := hideIt (below_trans B1.out hb2 B1.out.size)
      obtain ⟨-, aL, cL, hvL, -⟩ := hr2.rd
      subst hvL
      clear hr2 hb2 x0 x1
      go_wp2
      go_ret2
      exact ⟨_, rfl, R2.out, B2.out⟩
    · rw [if_neg c3] at EL
      obtain rfl := EL.out
      have C3 := hideIt c3
      clear c3 EL LL3
      go_wp2_with fail
      refine (l01In_no _ _ _ _ C3.out).mono ?_
      rintro e w' ⟨rfl, hw'⟩
      subst w'
      go_wp2
      go_ret2
      exact pl_none B1.out
end Go.Proofs.YtpgdpachomdfhaaGreatDoor
