/- Several texts laid together: FqT, TrI. -/
import Derived.Test.YtipklbnfobckaaaGreatDoorZBJ
import Derived.Test.YtipklbnfobckaaaGreatDoorFsS
import Derived.Test.YtipklbnfobckaaaGreatDoorZBH
import Derived.Test.YtipklbnfobckaaaGreatDoorZBL
import Derived.Test.YtipklbnfobckaaaGreatDoorZAH
namespace Go.Proofs.YtipklbnfobckaaaGreatDoor
open Go.RowKit

/-- The steps of a move as the program asks for them. -/
def mvP (ws : List Int) (ps : List St) (es : List Int) (qs : List Se) (hs : List Int) (pr : Bool) : List Mi × Int :=
 if pr = true then (if (pcR (dvN ws ps es qs) (dvD ws ps es qs) hs 2 true).2.2 = 0 then prR2 ws ps es qs (pcR (dvN ws ps es qs) (dvD ws ps es qs) hs 2 true).1 (pcR (dvN ws ps es qs) (dvD ws ps es qs) hs 2 true).2.1 else ([], (pcR (dvN ws ps es qs) (dvD ws ps es qs) hs 2 true).2.2))
 else (if (pcR (dvN ws ps es qs) (dvD ws ps es qs) hs 1 false).2.2 = 0 then deR2 ws ps es qs (pcR (dvN ws ps es qs) (dvD ws ps es qs) hs 1 false).1 (pcR (dvN ws ps es qs) (dvD ws ps es qs) hs 1 false).2.1 else ([], (pcR (dvN ws ps es qs) (dvD ws ps es qs) hs 1 false).2.2))
def smvR (ws : List Int) (ps : List St) (es : List Int) (qs : List Se) (hs : List Int) (td : List Mi) (cd vl : Int) (nm : List ByteArray) (fr : Bool) (pr : Bool) : Fz × Int := if fsB ws ps es qs hs td cd vl nm fr = true then (if 0 < td.length ∨ fr = true then (⟨ws, ps, es, qs, hs, td, cd, vl, nm, fr⟩, 15) else (⟨ws, ps, es, qs, hs, (mvP ws ps es qs hs pr).1, cd, vl, nm, fr⟩, (mvP ws ps es qs hs pr).2)) else (zz, 1)
theorem idle_of {ws es : List Int} (hp : pmB ws [] = true) (hb : zeh es [] = true) (hd : dvB ws [] es [] = true) (hc : ldW ws [] 8 = 0) : Idle ws es (dvN ws [] es []) (dvD ws [] es []) := by
 have q : riB ws = true := by
  unfold dvB at hd
  simp only [Bool.and_eq_true] at hd
  exact hd.2
 have w := wi_of (zee hp).1 q
 have e1 : dvN ws [] es [] = zau ws 16 := by unfold dvN; rw [if_pos hd]; rfl
 have e2 : dvD ws [] es [] = zav ws 24 := by unfold dvD; rw [if_pos hd]; rfl
 rw [e1, e2]
 refine ⟨w, ?_, hp, hb⟩
 have l := (zee hp).1
 unfold ldW at hc
 unfold wdI
 simpa [zgn] using hc
theorem mv_same {ws es hs : List Int} (hd : dvB ws [] es [] = true) (hh : zcn hs = true) (pr : Bool) : mvI ws es hs (dvN ws [] es []) pr = mvP ws [] es [] hs pr := by
 have hl := (zea hh).1
 have im : zdm (dvN ws [] es []) (dvD ws [] es []) = true := by rw [zjv]; exact hd
 have pc : ∀ t hot, pcR (dvN ws [] es []) (dvD ws [] es []) hs t hot = if pkN (dvN ws [] es []) hs t hot 128 < 0 then (0, 0, 5) else (pkN (dvN ws [] es []) hs t hot 128 / 8, pkN (dvN ws [] es []) hs t hot 128 % 8, 0) := fun t hot => by
  unfold pcR pcI
  rw [if_neg (by omega), if_pos ⟨im, hh⟩]
 cases pr with
 | true =>
  unfold mvI mvP
  obtain ⟨r0, r1⟩ := zeq (dvN ws [] es []) hs 2 true 128
  simp only [if_true, pc]
  by_cases c : pkN (dvN ws [] es []) hs 2 true 128 < 0
  ·simp only [if_pos c]
   rw [if_neg (by decide)]
  ·simp only [if_neg c, if_true]
   unfold prR2 mvC
   rw [hd, if_pos rfl, if_pos (by omega)]
 | false =>
  unfold mvI mvP
  obtain ⟨r0, r1⟩ := zeq (dvN ws [] es []) hs 1 false 128
  simp only [Bool.false_eq_true, if_false, pc]
  by_cases c : pkN (dvN ws [] es []) hs 1 false 128 < 0
  ·simp only [if_pos c]
   rw [if_neg (by decide)]
  ·simp only [if_neg c, if_true]
   unfold deR2 mvC
   rw [hd, if_pos rfl, if_pos (by omega)]
theorem mv_len {ws es hs : List Int} {ns : List Ino} {ds : List Den} (h : Idle ws es ns ds) (pr : Bool) : (mvI ws es hs ns pr).1.length ≤ 200 := by
 have EN : ∀ i p : Nat, enI ns (i : Int) (p : Int) = (zar ns i).map.getD p 0 := fun i p => by unfold enI; rw [Int.toNat_natCast, Int.toNat_natCast]
 cases pr with
 | true =>
  unfold mvI
  simp only [if_true]
  obtain ⟨r0, r1⟩ := zeq ns hs 2 true 128
  by_cases c : pkN ns hs 2 true 128 < 0
  ·rw [if_pos c]; simp
  ·rw [if_neg c]
   obtain ⟨kk, ek⟩ : ∃ kk : Nat, pkN ns hs 2 true 128 = (kk : Int) := ⟨(pkN ns hs 2 true 128).toNat, by omega⟩
   rw [ek] at r0 r1 ⊢
   by_cases z : (prF ns (enI ns ((kk : Int) / 8) ((kk : Int) % 8)) (pgV ws [] es [] (enI ns ((kk : Int) / 8) ((kk : Int) % 8))) ((kk : Int) / 8) ((kk : Int) % 8)).2 = 0
   ·have e1 : (kk : Int) / 8 = ((kk / 8 : Nat) : Int) := by omega
    have e2 : (kk : Int) % 8 = ((kk % 8 : Nat) : Int) := by omega
    rw [e1, e2, EN] at z ⊢
    exact (zrh h (by omega) (by omega) _ z).2.2
   ·rw [prF_no _ _ _ _ _ z]; simp
 | false =>
  unfold mvI
  simp only [Bool.false_eq_true, if_false]
  obtain ⟨r0, r1⟩ := zeq ns hs 1 false 128
  by_cases c : pkN ns hs 1 false 128 < 0
  ·rw [if_pos c]; simp
  ·rw [if_neg c]
   obtain ⟨kk, ek⟩ : ∃ kk : Nat, pkN ns hs 1 false 128 = (kk : Int) := ⟨(pkN ns hs 1 false 128).toNat, by omega⟩
   rw [ek] at r0 r1 ⊢
   by_cases z : (deF ns (enI ns ((kk : Int) / 8) ((kk : Int) % 8)) (pgV ws [] es [] (enI ns ((kk : Int) / 8) ((kk : Int) % 8))) ((kk : Int) / 8) ((kk : Int) % 8)).2 = 0
   ·have e1 : (kk : Int) / 8 = ((kk / 8 : Nat) : Int) := by omega
    have e2 : (kk : Int) % 8 = ((kk % 8 : Nat) : Int) := by omega
    rw [e1, e2, EN] at z ⊢
    exact (zwl h (by omega) (by omega) _ z).2.2
   ·rw [deF_no _ _ _ _ _ z]; simp
set_option maxRecDepth 100000 in
set_option maxHeartbeats 16000000 in
theorem zsn (v : Value) (ws : List Int) (ps : List St) (es : List Int) (qs : List Se) (hs : List Int) (td : List Mi) (cd vl : Int) (nm : List ByteArray) (fr : Bool) (pr : Bool) (w0 w : World) (h : RdF w0 v ws ps es qs hs td cd vl nm fr) (hbz : 0 < td.length ∨ fr = true) :
  Calls Tryz.prog 75 #[v, .bool pr] w fun e w' => ∃ v', e = .returned (.tuple #[v', .int .i64 15]) ∧ RdF w0 v' ws ps es qs hs td cd vl nm fr ∧ Below w.heap.size w w' := by
 have HR := zaa h
 obtain ⟨aW, cW, aP, cP, aS, cS, aQ, cQ, aH, cH, aT, cT, aN, cN, rfl, -⟩ := id h
 clear h
 by_cases c1 : 0 < td.length
 ·have c1' : (0 : Int) < (td.length : Int) := by omega
  clear hbz
  obtain ⟨V, hV⟩ : ∃ V, V = ((w.alloc (.cells #[.slice aW ws.length cW, .slice aP ps.length cP, .slice aS es.length cS, .slice aQ qs.length cQ, .slice aH hs.length cH, .slice aT td.length cT, .int .i64 cd, .int .i64 vl, .slice aN nm.length cN, .bool fr] 50)).alloc (.cells #[.slice none 0 0, .slice none 0 0, .slice none 0 0, .slice none 0 0, .slice none 0 0, .slice none 0 0, .int .i64 0, .int .i64 0, .slice none 0 0, .bool false] 50)) := ⟨_, rfl⟩
  have zV : w.heap.size + 2 ≤ V.heap.size := by rw [hV]; simp <;> omega
  have B_V : Hid (Below w.heap.size w V) := by rw [hV]; exact (((Below.refl _ _).alloc (by simp <;> omega) _).alloc (by simp <;> omega) _)
  have X0_V : Hid (V.heap[w.heap.size]? = some (.cells #[.slice aW ws.length cW, .slice aP ps.length cP, .slice aS es.length cS, .slice aQ qs.length cQ, .slice aH hs.length cH, .slice aT td.length cT, .int .i64 cd, .int .i64 vl, .slice aN nm.length cN, .bool fr] 50 (0, 0))) := by rw [hV]; exact (zap (zah rfl))
  have X1_V : Hid (V.heap[w.heap.size + 1]? = some (.cells #[.slice none 0 0, .slice none 0 0, .slice none 0 0, .slice none 0 0, .slice none 0 0, .slice none 0 0, .int .i64 0, .int .i64 0, .slice none 0 0, .bool false] 50 (0, 0))) := by rw [hV]; exact (zah (by simp))
  go_enter Tryz.func75, Tryz.ntmps75
  go_upto_region 1 with fail
  rw [← hV]
  clear hV
  obtain ⟨c0_0, c0_1, c0_2, c0_3, c0_4, c0_5, c0_6, c0_7, c0_8, c0_9, -⟩ := zag X0_V.out
  obtain ⟨d0, d1, d2, d3, d4, d5, d6, d7, d8, d9, g0, g1, g2, g3, g4, g5, g6, g7, g8, g9⟩ := zag X1_V.out
  obtain ⟨w1, hw1⟩ : ∃ w1, w1 = ((((((((((V.setCell ⟨w.heap.size + 1, 0, none⟩ (.slice aW ws.length cW)).setCell ⟨w.heap.size + 1, 1, none⟩ (.slice aP ps.length cP)).setCell ⟨w.heap.size + 1, 2, none⟩ (.slice aS es.length cS)).setCell ⟨w.heap.size + 1, 3, none⟩ (.slice aQ qs.length cQ)).setCell ⟨w.heap.size + 1, 4, none⟩ (.slice aH hs.length cH)).setCell ⟨w.heap.size + 1, 5, none⟩ (.slice aT td.length cT)).setCell ⟨w.heap.size + 1, 6, none⟩ (.int .i64 cd)).setCell ⟨w.heap.size + 1, 7, none⟩ (.int .i64 vl)).setCell ⟨w.heap.size + 1, 8, none⟩ (.slice aN nm.length cN)).setCell ⟨w.heap.size + 1, 9, none⟩ (.bool fr)) := ⟨_, rfl⟩
  have Ow1 : Outside (w.heap.size + 1) (w.heap.size + 1 + 1) V w1 := by
   rw [hw1]
   repeat (refine Outside.setCell ?_ (by simp only; omega) (by simp only; omega) _)
   exact Outside.refl _ _ _
  have zw1 : V.heap.size ≤ w1.heap.size ∧ w1.heap.size ≤ V.heap.size := by rw [hw1]; simp [World.setCell]
  have B_w1 := zaa (B_V.out.trans (Ow1.below (B := w.heap.size) (by omega) B_V.out.size))
  have X0_w1 := zaa ((Ow1.block (w.heap.size) (zaj X0_V.out) (by omega)).trans X0_V.out)
  have X1_w1 : Hid (w1.heap[w.heap.size + 1]? = some (.cells #[.slice aW ws.length cW, .slice aP ps.length cP, .slice aS es.length cS, .slice aQ qs.length cQ, .slice aH hs.length cH, .slice aT td.length cT, .int .i64 cd, .int .i64 vl, .slice aN nm.length cN, .bool fr] 50 (0, 0))) := by rw [hw1]; exact (zdt (zcs (zdd (zde (zby (zcu (zct (zcv (zcp (zcr X1_V.out _) _) _) _) _) _) _) _) _) _)
  clear Ow1
  go_wp2
  refine bodyPost_ret (v := .tuple #[.agg #[.slice aW ws.length cW, .slice aP ps.length cP, .slice aS es.length cS, .slice aQ qs.length cQ, .slice aH hs.length cH, .slice aT td.length cT, .int .i64 cd, .int .i64 vl, .slice aN nm.length cN, .bool fr], .int .i64 15]) (by simp [results, Tryz.results75, go_sem, d0, d1, d2, d3, d4, d5, d6, d7, d8, d9]) rfl ?_
  rw [← hw1]
  exact ⟨_, rfl, HR.out, B_w1.out⟩
 ·have c1' : ¬ (0 : Int) < (td.length : Int) := by omega
  have cf : fr = true := hbz.resolve_left c1
  subst cf
  clear hbz
  obtain ⟨V, hV⟩ : ∃ V, V = ((w.alloc (.cells #[.slice aW ws.length cW, .slice aP ps.length cP, .slice aS es.length cS, .slice aQ qs.length cQ, .slice aH hs.length cH, .slice aT td.length cT, .int .i64 cd, .int .i64 vl, .slice aN nm.length cN, .bool true] 50)).alloc (.cells #[.slice none 0 0, .slice none 0 0, .slice none 0 0, .slice none 0 0, .slice none 0 0, .slice none 0 0, .int .i64 0, .int .i64 0, .slice none 0 0, .bool false] 50)) := ⟨_, rfl⟩
  have zV : w.heap.size + 2 ≤ V.heap.size := by rw [hV]; simp <;> omega
  have B_V : Hid (Below w.heap.size w V) := by rw [hV]; exact (((Below.refl _ _).alloc (by simp <;> omega) _).alloc (by simp <;> omega) _)
  have X0_V : Hid (V.heap[w.heap.size]? = some (.cells #[.slice aW ws.length cW, .slice aP ps.length cP, .slice aS es.length cS, .slice aQ qs.length cQ, .slice aH hs.length cH, .slice aT td.length cT, .int .i64 cd, .int .i64 vl, .slice aN nm.length cN, .bool true] 50 (0, 0))) := by rw [hV]; exact (zap (zah rfl))
  have X1_V : Hid (V.heap[w.heap.size + 1]? = some (.cells #[.slice none 0 0, .slice none 0 0, .slice none 0 0, .slice none 0 0, .slice none 0 0, .slice none 0 0, .int .i64 0, .int .i64 0, .slice none 0 0, .bool false] 50 (0, 0))) := by rw [hV]; exact (zah (by simp))
  go_enter Tryz.func75, Tryz.ntmps75
  go_upto_region 1 with fail
  rw [← hV]
  clear hV
  obtain ⟨c0_0, c0_1, c0_2, c0_3, c0_4, c0_5, c0_6, c0_7, c0_8, c0_9, -⟩ := zag X0_V.out
  obtain ⟨d0, d1, d2, d3, d4, d5, d6, d7, d8, d9, g0, g1, g2, g3, g4, g5, g6, g7, g8, g9⟩ := zag X1_V.out
  obtain ⟨w1, hw1⟩ : ∃ w1, w1 = ((((((((((V.setCell ⟨w.heap.size + 1, 0, none⟩ (.slice aW ws.length cW)).setCell ⟨w.heap.size + 1, 1, none⟩ (.slice aP ps.length cP)).setCell ⟨w.heap.size + 1, 2, none⟩ (.slice aS es.length cS)).setCell ⟨w.heap.size + 1, 3, none⟩ (.slice aQ qs.length cQ)).setCell ⟨w.heap.size + 1, 4, none⟩ (.slice aH hs.length cH)).setCell ⟨w.heap.size + 1, 5, none⟩ (.slice aT td.length cT)).setCell ⟨w.heap.size + 1, 6, none⟩ (.int .i64 cd)).setCell ⟨w.heap.size + 1, 7, none⟩ (.int .i64 vl)).setCell ⟨w.heap.size + 1, 8, none⟩ (.slice aN nm.length cN)).setCell ⟨w.heap.size + 1, 9, none⟩ (.bool true)) := ⟨_, rfl⟩
  have Ow1 : Outside (w.heap.size + 1) (w.heap.size + 1 + 1) V w1 := by
   rw [hw1]
   repeat (refine Outside.setCell ?_ (by simp only; omega) (by simp only; omega) _)
   exact Outside.refl _ _ _
  have zw1 : V.heap.size ≤ w1.heap.size ∧ w1.heap.size ≤ V.heap.size := by rw [hw1]; simp [World.setCell]
  have B_w1 := zaa (B_V.out.trans (Ow1.below (B := w.heap.size) (by omega) B_V.out.size))
  have X0_w1 := zaa ((Ow1.block (w.heap.size) (zaj X0_V.out) (by omega)).trans X0_V.out)
  have X1_w1 : Hid (w1.heap[w.heap.size + 1]? = some (.cells #[.slice aW ws.length cW, .slice aP ps.length cP, .slice aS es.length cS, .slice aQ qs.length cQ, .slice aH hs.length cH, .slice aT td.length cT, .int .i64 cd, .int .i64 vl, .slice aN nm.length cN, .bool true] 50 (0, 0))) := by rw [hw1]; exact (zdt (zcs (zdd (zde (zby (zcu (zct (zcv (zcp (zcr X1_V.out _) _) _) _) _) _) _) _) _) _)
  clear Ow1
  go_wp2
  refine bodyPost_ret (v := .tuple #[.agg #[.slice aW ws.length cW, .slice aP ps.length cP, .slice aS es.length cS, .slice aQ qs.length cQ, .slice aH hs.length cH, .slice aT td.length cT, .int .i64 cd, .int .i64 vl, .slice aN nm.length cN, .bool true], .int .i64 15]) (by simp [results, Tryz.results75, go_sem, d0, d1, d2, d3, d4, d5, d6, d7, d8, d9]) rfl ?_
  rw [← hw1]
  exact ⟨_, rfl, HR.out, B_w1.out⟩
set_option maxRecDepth 100000 in
set_option maxHeartbeats 16000000 in
theorem ziz (v : Value) (ws : List Int) (ps : List St) (es : List Int) (qs : List Se) (hs : List Int) (td : List Mi) (cd vl : Int) (nm : List ByteArray) (fr : Bool) (pr : Bool) (w : World) (h : RdF w v ws ps es qs hs td cd vl nm fr) (hws : ws.length ≤ 1048576) (hps : ps.length ≤ 1048576) (hes : es.length ≤ 1048576) (hqs : qs.length ≤ 1048576) (hhs : hs.length ≤ 1048576) (htd : td.length ≤ 1048576) (hnm : nm.length ≤ 1048576) :
  Calls Tryz.prog 22 #[v, .bool pr] w fun e w' => FzOut w w' e (smvR ws ps es qs hs td cd vl nm fr pr) := by
 have LF := zaa (fun w1 (hb : Below w.heap.size w w1) => zti v ws ps es qs hs td cd vl nm fr w1 (h.below hb) hws hps hes hqs hhs htd hnm)
 have HR := zaa h
 obtain ⟨aW, cW, aP, cP, aS, cS, aQ, cQ, aH, cH, aT, cT, aN, cN, rfl, -⟩ := id h
 clear h
 by_cases y : fsB ws ps es qs hs td cd vl nm fr = true
 ·simp only [y] at LF
  obtain ⟨f, c, eR, hl, IN⟩ : ∃ (f : Fz) (c : Int), smvR ws ps es qs hs td cd vl nm fr pr = (f, c) ∧ (f.ws.length ≤ 1048576 ∧ f.ps.length ≤ 1048576 ∧ f.es.length ≤ 1048576 ∧ f.qs.length ≤ 1048576 ∧ f.hs.length ≤ 1048576 ∧ f.td.length ≤ 1048576 ∧ f.nm.length ≤ 1048576) ∧ Hid (∀ w1, Below w.heap.size w w1 → Calls Tryz.prog 75 #[.agg #[.slice aW ws.length cW, .slice aP ps.length cP, .slice aS es.length cS, .slice aQ qs.length cQ, .slice aH hs.length cH, .slice aT td.length cT, .int .i64 cd, .int .i64 vl, .slice aN nm.length cN, .bool fr], .bool pr] w1 fun e w' => ∃ v', e = .returned (.tuple #[v', .int .i64 c]) ∧ RdF w' v' f.ws f.ps f.es f.qs f.hs f.td f.cd f.vl f.nm f.fr ∧ Below w1.heap.size w1 w') := by
   have Y := fs_yes y
   unfold smvR
   rw [if_pos y]
   by_cases bz : 0 < td.length ∨ fr = true
   ·rw [if_pos bz]
    refine ⟨_, _, rfl, ⟨hws, hps, hes, hqs, hhs, htd, hnm⟩, fun w1 hb => ?_⟩
    refine (zsn _ ws ps es qs hs td cd vl nm fr pr w1 w1 (HR.out.below hb) bz).mono ?_
    rintro e w2 ⟨v2, rfl, hr, hb2⟩
    exact ⟨v2, rfl, hr.below hb2, hb2⟩
   ·rw [if_neg bz]
    have etd : td = [] := List.length_eq_zero_iff.1 (by omega)
    have efr : fr = false := by simpa using fun h => bz (.inr h)
    obtain ⟨hd, eps, eqs, hc⟩ := Y.re etd
    obtain ⟨ecd, evl, enm⟩ : cd = 0 ∧ vl = 0 ∧ nm = [] := by
     rcases Y.an with h | h
     ·rw [efr] at h; cases h
     ·exact h
    have hp := Y.pm
    have hb := Y.bl
    have hh := Y.he
    clear Y y
    subst etd efr eps eqs ecd evl enm
    have I := idle_of hp hb hd hc
    have MS := mv_same hd hh pr
    have ml : (mvP ws [] es [] hs pr).1.length ≤ 200 := by rw [← MS]; exact mv_len I pr
    refine ⟨_, _, rfl, ⟨hws, hps, hes, hqs, hhs, by simp only; omega, hnm⟩, fun w1 hb1 => ?_⟩
    have := zqg _ pr ws es hs _ _ w1 (HR.out.below hb1) I hh
    rw [MS] at this
    exact this
  obtain ⟨ws2, ps2, es2, qs2, hs2, td2, cd2, vl2, nm2, fr2⟩ := f
  have OW := zaa (fun v1 w1 (hr : RdF w1 v1 ws2 ps2 es2 qs2 hs2 td2 cd2 vl2 nm2 fr2) => l10Own_gen v1 ws2 ps2 es2 qs2 hs2 td2 cd2 vl2 nm2 fr2 w1 hr hl.1 hl.2.1 hl.2.2.1 hl.2.2.2.1 hl.2.2.2.2.1 hl.2.2.2.2.2.1 hl.2.2.2.2.2.2)
  rw [eR]
  simp only at IN OW ⊢
  clear eR hl y HR
  obtain ⟨V, hV⟩ : ∃ V, V = ((w.alloc (.cells #[.slice aW ws.length cW, .slice aP ps.length cP, .slice aS es.length cS, .slice aQ qs.length cQ, .slice aH hs.length cH, .slice aT td.length cT, .int .i64 cd, .int .i64 vl, .slice aN nm.length cN, .bool fr] 50)).alloc (.cells #[.slice none 0 0, .slice none 0 0, .slice none 0 0, .slice none 0 0, .slice none 0 0, .slice none 0 0, .int .i64 0, .int .i64 0, .slice none 0 0, .bool false] 50)) := ⟨_, rfl⟩
  have zV : w.heap.size + 2 ≤ V.heap.size := by rw [hV]; simp <;> omega
  have B_V : Hid (Below w.heap.size w V) := by rw [hV]; exact (((Below.refl _ _).alloc (by simp <;> omega) _).alloc (by simp <;> omega) _)
  have X0_V : Hid (V.heap[w.heap.size]? = some (.cells #[.slice aW ws.length cW, .slice aP ps.length cP, .slice aS es.length cS, .slice aQ qs.length cQ, .slice aH hs.length cH, .slice aT td.length cT, .int .i64 cd, .int .i64 vl, .slice aN nm.length cN, .bool fr] 50 (0, 0))) := by rw [hV]; exact (zap (zah rfl))
  have X1_V : Hid (V.heap[w.heap.size + 1]? = some (.cells #[.slice none 0 0, .slice none 0 0, .slice none 0 0, .slice none 0 0, .slice none 0 0, .slice none 0 0, .int .i64 0, .int .i64 0, .slice none 0 0, .bool false] 50 (0, 0))) := by rw [hV]; exact (zah (by simp))
  go_enter Tryz.func22, Tryz.ntmps22
  go_upto_region 1 with fail
  rw [← hV]
  clear hV
  obtain ⟨c0_0, c0_1, c0_2, c0_3, c0_4, c0_5, c0_6, c0_7, c0_8, c0_9, -⟩ := zag X0_V.out
  go_wp2_with fail
  refine (LF.out V B_V.out).mono ?_
  rintro e w1 ⟨rfl, hb⟩
  clear c0_0 c0_1 c0_2 c0_3 c0_4 c0_5 c0_6 c0_7 c0_8 c0_9
  have zw1 : V.heap.size ≤ w1.heap.size := hb.size
  have B_w1 := zaa (zab B_V.out hb B_V.out.size)
  have X0_w1 := zaa (zae X0_V.out hb (zaj X0_V.out))
  have X1_w1 := zaa (zae X1_V.out hb (zaj X1_V.out))
  clear B_V hb X0_V X1_V
  clear LF
  obtain ⟨c0_0, c0_1, c0_2, c0_3, c0_4, c0_5, c0_6, c0_7, c0_8, c0_9, -⟩ := zag X0_w1.out
  go_wp2_with fail
  refine (IN.out w1 B_w1.out).mono ?_
  rintro e w2 ⟨v', rfl, hr, hb⟩
  obtain ⟨iW, jW, iP, jP, iS, jS, iQ, jQ, iH, jH, iT, jT, iN, jN, rfl, -⟩ := id hr
  clear c0_0 c0_1 c0_2 c0_3 c0_4 c0_5 c0_6 c0_7 c0_8 c0_9
  have zw2 : w1.heap.size ≤ w2.heap.size := hb.size
  have B_w2 := zaa (zab B_w1.out hb B_w1.out.size)
  have X0_w2 := zaa (zae X0_w1.out hb (zaj X0_w1.out))
  have X1_w2 := zaa (zae X1_w1.out hb (zaj X1_w1.out))
  clear B_w1 hb X0_w1 X1_w1
  have RF_w2 := zaa hr
  clear hr IN
  obtain ⟨w3, hw3⟩ : ∃ w3, w3 = w2.alloc (.cells #[.slice iW ws2.length jW, .slice iP ps2.length jP, .slice iS es2.length jS, .slice iQ qs2.length jQ, .slice iH hs2.length jH, .slice iT td2.length jT, .int .i64 cd2, .int .i64 vl2, .slice iN nm2.length jN, .bool fr2] 50) := ⟨_, rfl⟩
  have hb : Below w2.heap.size w2 w3 := by rw [hw3]; exact (Below.refl _ _).alloc (Nat.le_refl _) _
  obtain ⟨bX, hbX⟩ : ∃ bX : Nat, bX = w2.heap.size := ⟨_, rfl⟩
  have VX : Hid (w3.heap[bX]? = some (.cells #[.slice iW ws2.length jW, .slice iP ps2.length jP, .slice iS es2.length jS, .slice iQ qs2.length jQ, .slice iH hs2.length jH, .slice iT td2.length jT, .int .i64 cd2, .int .i64 vl2, .slice iN nm2.length jN, .bool fr2] 50 (0, 0))) := by rw [hw3, hbX]; exact zah rfl
  have zw3 : w2.heap.size ≤ w3.heap.size := hb.size
  have B_w3 := zaa (zab B_w2.out hb B_w2.out.size)
  have X0_w3 := zaa (zae X0_w2.out hb (zaj X0_w2.out))
  have X1_w3 := zaa (zae X1_w2.out hb (zaj X1_w2.out))
  have RF_w3 := zaa (RF_w2.out.below hb)
  clear B_w2 hb X0_w2 X1_w2 RF_w2
  go_upto_region 4 with fail
  rw [← hw3, ← hbX]
  clear hw3 hbX
  obtain ⟨x0, x1, x2, x3, x4, x5, x6, x7, x8, x9, -⟩ := zag VX.out
  go_wp2_with fail
  refine (OW.out _ w3 RF_w3.out).mono ?_
  rintro e w4 ⟨vO, rfl, hr, hb⟩
  obtain ⟨oW, pW, oP, pP, oS, pS, oQ, pQ, oH, pH, oT, pT, oN, pN, eo⟩ := hr.form
  subst eo
  clear x0 x1 x2 x3 x4 x5 x6 x7 x8 x9
  have zw4 : w3.heap.size ≤ w4.heap.size := hb.size
  have B_w4 := zaa (zab B_w3.out hb B_w3.out.size)
  have X0_w4 := zaa (zae X0_w3.out hb (zaj X0_w3.out))
  have X1_w4 := zaa (zae X1_w3.out hb (zaj X1_w3.out))
  have RF_w4 := zaa (RF_w3.out.below hb)
  clear B_w3 hb X0_w3 X1_w3 RF_w3
  have QF_w4 : Hid (RowF w4 w3.heap.size w4.heap.size _ ws2 ps2 es2 qs2 hs2 td2 cd2 vl2 nm2 fr2) := hr
  clear hr RF_w4 OW
  obtain ⟨d0, d1, d2, d3, d4, d5, d6, d7, d8, d9, g0, g1, g2, g3, g4, g5, g6, g7, g8, g9⟩ := zag X1_w4.out
  obtain ⟨w5, hw5⟩ : ∃ w5, w5 = ((((((((((w4.setCell ⟨w.heap.size + 1, 0, none⟩ (.slice oW ws2.length pW)).setCell ⟨w.heap.size + 1, 1, none⟩ (.slice oP ps2.length pP)).setCell ⟨w.heap.size + 1, 2, none⟩ (.slice oS es2.length pS)).setCell ⟨w.heap.size + 1, 3, none⟩ (.slice oQ qs2.length pQ)).setCell ⟨w.heap.size + 1, 4, none⟩ (.slice oH hs2.length pH)).setCell ⟨w.heap.size + 1, 5, none⟩ (.slice oT td2.length pT)).setCell ⟨w.heap.size + 1, 6, none⟩ (.int .i64 cd2)).setCell ⟨w.heap.size + 1, 7, none⟩ (.int .i64 vl2)).setCell ⟨w.heap.size + 1, 8, none⟩ (.slice oN nm2.length pN)).setCell ⟨w.heap.size + 1, 9, none⟩ (.bool fr2)) := ⟨_, rfl⟩
  have Ow5 : Outside (w.heap.size + 1) (w.heap.size + 1 + 1) w4 w5 := by
   rw [hw5]
   repeat (refine Outside.setCell ?_ (by simp only; omega) (by simp only; omega) _)
   exact Outside.refl _ _ _
  have zw5 : w4.heap.size ≤ w5.heap.size ∧ w5.heap.size ≤ w4.heap.size := by rw [hw5]; simp [World.setCell]
  have B_w5 := zaa (B_w4.out.trans (Ow5.below (B := w.heap.size) (by omega) B_w4.out.size))
  have X0_w5 := zaa ((Ow5.block (w.heap.size) (zaj X0_w4.out) (by omega)).trans X0_w4.out)
  have X1_w5 : Hid (w5.heap[w.heap.size + 1]? = some (.cells #[.slice oW ws2.length pW, .slice oP ps2.length pP, .slice oS es2.length pS, .slice oQ qs2.length pQ, .slice oH hs2.length pH, .slice oT td2.length pT, .int .i64 cd2, .int .i64 vl2, .slice oN nm2.length pN, .bool fr2] 50 (0, 0))) := by rw [hw5]; exact (zdt (zcs (zdd (zde (zby (zcu (zct (zcv (zcp (zcr X1_w4.out _) _) _) _) _) _) _) _) _) _)
  have QF_w5 := zaa (QF_w4.out.outside Ow5 (by omega) (by omega))
  clear Ow5
  go_wp2
  refine bodyPost_ret (v := .tuple #[.agg #[.slice oW ws2.length pW, .slice oP ps2.length pP, .slice oS es2.length pS, .slice oQ qs2.length pQ, .slice oH hs2.length pH, .slice oT td2.length pT, .int .i64 cd2, .int .i64 vl2, .slice oN nm2.length pN, .bool fr2], .int .i64 c]) (by simp [results, Tryz.results22, go_sem, d0, d1, d2, d3, d4, d5, d6, d7, d8, d9]) rfl ?_
  rw [← hw5]
  exact ⟨_, rfl, QF_w5.out.wide (by omega) (by omega), B_w5.out⟩
 ·have y' : fsB ws ps es qs hs td cd vl nm fr = false := by simpa using y
  simp only [y'] at LF
  clear y' HR
  obtain ⟨V, hV⟩ : ∃ V, V = ((w.alloc (.cells #[.slice aW ws.length cW, .slice aP ps.length cP, .slice aS es.length cS, .slice aQ qs.length cQ, .slice aH hs.length cH, .slice aT td.length cT, .int .i64 cd, .int .i64 vl, .slice aN nm.length cN, .bool fr] 50)).alloc (.cells #[.slice none 0 0, .slice none 0 0, .slice none 0 0, .slice none 0 0, .slice none 0 0, .slice none 0 0, .int .i64 0, .int .i64 0, .slice none 0 0, .bool false] 50)) := ⟨_, rfl⟩
  have zV : w.heap.size + 2 ≤ V.heap.size := by rw [hV]; simp <;> omega
  have B_V : Hid (Below w.heap.size w V) := by rw [hV]; exact (((Below.refl _ _).alloc (by simp <;> omega) _).alloc (by simp <;> omega) _)
  have X0_V : Hid (V.heap[w.heap.size]? = some (.cells #[.slice aW ws.length cW, .slice aP ps.length cP, .slice aS es.length cS, .slice aQ qs.length cQ, .slice aH hs.length cH, .slice aT td.length cT, .int .i64 cd, .int .i64 vl, .slice aN nm.length cN, .bool fr] 50 (0, 0))) := by rw [hV]; exact (zap (zah rfl))
  have X1_V : Hid (V.heap[w.heap.size + 1]? = some (.cells #[.slice none 0 0, .slice none 0 0, .slice none 0 0, .slice none 0 0, .slice none 0 0, .slice none 0 0, .int .i64 0, .int .i64 0, .slice none 0 0, .bool false] 50 (0, 0))) := by rw [hV]; exact (zah (by simp))
  go_enter Tryz.func22, Tryz.ntmps22
  go_upto_region 1 with fail
  rw [← hV]
  clear hV
  obtain ⟨c0_0, c0_1, c0_2, c0_3, c0_4, c0_5, c0_6, c0_7, c0_8, c0_9, -⟩ := zag X0_V.out
  go_wp2_with fail
  refine (LF.out V B_V.out).mono ?_
  rintro e w1 ⟨rfl, hb⟩
  clear c0_0 c0_1 c0_2 c0_3 c0_4 c0_5 c0_6 c0_7 c0_8 c0_9
  have zw1 : V.heap.size ≤ w1.heap.size := hb.size
  have B_w1 := zaa (zab B_V.out hb B_V.out.size)
  have X0_w1 := zaa (zae X0_V.out hb (zaj X0_V.out))
  have X1_w1 := zaa (zae X1_V.out hb (zaj X1_V.out))
  clear B_V hb X0_V X1_V
  clear LF
  obtain ⟨d0, d1, d2, d3, d4, d5, d6, d7, d8, d9, g0, g1, g2, g3, g4, g5, g6, g7, g8, g9⟩ := zag X1_w1.out
  obtain ⟨w2, hw2⟩ : ∃ w2, w2 = ((((((((((w1.setCell ⟨w.heap.size + 1, 0, none⟩ (.slice none 0 0)).setCell ⟨w.heap.size + 1, 1, none⟩ (.slice none 0 0)).setCell ⟨w.heap.size + 1, 2, none⟩ (.slice none 0 0)).setCell ⟨w.heap.size + 1, 3, none⟩ (.slice none 0 0)).setCell ⟨w.heap.size + 1, 4, none⟩ (.slice none 0 0)).setCell ⟨w.heap.size + 1, 5, none⟩ (.slice none 0 0)).setCell ⟨w.heap.size + 1, 6, none⟩ (.int .i64 0)).setCell ⟨w.heap.size + 1, 7, none⟩ (.int .i64 0)).setCell ⟨w.heap.size + 1, 8, none⟩ (.slice none 0 0)).setCell ⟨w.heap.size + 1, 9, none⟩ (.bool false)) := ⟨_, rfl⟩
  have Ow2 : Outside (w.heap.size + 1) (w.heap.size + 1 + 1) w1 w2 := by
   rw [hw2]
   repeat (refine Outside.setCell ?_ (by simp only; omega) (by simp only; omega) _)
   exact Outside.refl _ _ _
  have zw2 : w1.heap.size ≤ w2.heap.size ∧ w2.heap.size ≤ w1.heap.size := by rw [hw2]; simp [World.setCell]
  have B_w2 := zaa (B_w1.out.trans (Ow2.below (B := w.heap.size) (by omega) B_w1.out.size))
  have X0_w2 := zaa ((Ow2.block (w.heap.size) (zaj X0_w1.out) (by omega)).trans X0_w1.out)
  have X1_w2 : Hid (w2.heap[w.heap.size + 1]? = some (.cells #[.slice none 0 0, .slice none 0 0, .slice none 0 0, .slice none 0 0, .slice none 0 0, .slice none 0 0, .int .i64 0, .int .i64 0, .slice none 0 0, .bool false] 50 (0, 0))) := by rw [hw2]; exact (zdt (zcs (zdd (zde (zby (zcu (zct (zcv (zcp (zcr X1_w1.out _) _) _) _) _) _) _) _) _) _)
  clear Ow2
  go_wp2
  refine bodyPost_ret (v := .tuple #[.agg #[.slice none 0 0, .slice none 0 0, .slice none 0 0, .slice none 0 0, .slice none 0 0, .slice none 0 0, .int .i64 0, .int .i64 0, .slice none 0 0, .bool false], .int .i64 1]) (by simp [results, Tryz.results22, go_sem, d0, d1, d2, d3, d4, d5, d6, d7, d8, d9]) rfl ?_
  rw [← hw2]
  rw [show smvR ws ps es qs hs td cd vl nm fr pr = (zz, 1) from if_neg y]
  exact ⟨_, rfl, (RowF.zero _ _).wide (Nat.le_refl _) (by omega), B_w2.out⟩
end Go.Proofs.YtipklbnfobckaaaGreatDoor

namespace Go.Proofs.YtipklbnfobckaaaGreatDoor
open Go.RowKit

/-- A page with its heat: inode, page, heat. -/
def wpM (hs : List Int) (k : Nat) : Mi := ⟨((k / 8 : Nat) : Int), ((k % 8 : Nat) : Int), hs.getD k 0⟩
/-- The pages of a tier among the first ones. -/
def wpL (ns : List Ino) (hs : List Int) (t : Int) : Nat → List Mi
 | 0 => []
 | n + 1 => if pgE ns n = 0 ∨ ¬ pgE ns n % 4 = t then wpL ns hs t n else wpL ns hs t n ++ [wpM hs n]
theorem zvo (ns : List Ino) (hs : List Int) (t : Int) (n : Nat) : (wpL ns hs t n).length ≤ n := by
 induction n with
 | zero => exact Nat.le_refl _
 | succ n ih =>
  unfold wpL
  split
  ·omega
  ·rw [List.length_append, List.length_singleton]; omega
/-- One more is held against the best so far. -/
def chT (hot : Bool) (c x : Mi) : Mi := if (hot = true ∧ c.val < x.val) ∨ (hot = false ∧ x.val < c.val) then x else c
def zeroMi : Mi := ⟨0, 0, 0⟩
def chO (hot : Bool) : List Mi → Mi
 | [] => zeroMi
 | x :: xs => xs.foldl (chT hot) x
theorem chO_snoc (hot : Bool) (l : List Mi) (x : Mi) (h : ¬ l = []) : chO hot (l ++ [x]) = chT hot (chO hot l) x := by
 cases l with
 | nil => exact absurd rfl h
 | cons y ys =>
  show (ys ++ [x]).foldl (chT hot) y = _
  rw [List.foldl_append]
  rfl
theorem zwh (ns : List Ino) (hs : List Int) (t : Int) (hot : Bool) (n : Nat) : (wpL ns hs t n = [] ∧ pkN ns hs t hot n = -1) ∨ (¬ wpL ns hs t n = [] ∧ ∃ q : Nat, pkN ns hs t hot n = (q : Int) ∧ chO hot (wpL ns hs t n) = wpM hs q) := by
 induction n with
 | zero => exact .inl ⟨rfl, rfl⟩
 | succ n ih =>
  have e1 : pkN ns hs t hot (n + 1) = pkS ns hs t hot (pkN ns hs t hot n) n := rfl
  rw [e1]
  by_cases c : pgE ns n = 0 ∨ ¬ pgE ns n % 4 = t
  ·have e2 : wpL ns hs t (n + 1) = wpL ns hs t n := by rw [wpL, if_pos c]
   rw [e2, pkS_no c]
   exact ih
  ·have e2 : wpL ns hs t (n + 1) = wpL ns hs t n ++ [wpM hs n] := by rw [wpL, if_neg c]
   rw [e2]
   have ne : ¬ wpL ns hs t n ++ [wpM hs n] = [] := by simp
   rcases ih with ⟨h1, h2⟩ | ⟨h1, q, h2, h3⟩
   ·rw [h2, zqr c (.inl (by decide)), h1]
    exact .inr ⟨by simp, n, rfl, rfl⟩
   ·refine .inr ⟨ne, ?_⟩
    rw [h2, chO_snoc hot _ _ h1, h3]
    have tq : ((q : Int)).toNat = q := Int.toNat_natCast q
    by_cases d : (hot = true ∧ hs.getD q 0 < hs.getD n 0) ∨ (hot = false ∧ hs.getD n 0 < hs.getD q 0)
    ·rw [zqr c (.inr (by rw [tq]; exact d))]
     exact ⟨n, rfl, if_pos d⟩
    ·rw [pkS_not c (by rw [tq]; exact fun x => x.elim (by omega) d)]
     exact ⟨q, rfl, if_neg d⟩
theorem wpL_inode (ns : List Ino) (hs : List Int) (t : Int) (a b : Nat) (hb : b < 8) : wpL ns hs t (8 * a + (b + 1)) = if (zar ns a).map.getD b 0 = 0 ∨ ¬ (zar ns a).map.getD b 0 % 4 = t then wpL ns hs t (8 * a + b) else wpL ns hs t (8 * a + b) ++ [⟨(a : Int), (b : Int), hs.getD (8 * a + b) 0⟩] := by
 have e : pgE ns (8 * a + b) = (zar ns a).map.getD b 0 := by
  unfold pgE
  rw [show (8 * a + b) / 8 = a by omega, show (8 * a + b) % 8 = b by omega]
 have m : wpM hs (8 * a + b) = ⟨(a : Int), (b : Int), hs.getD (8 * a + b) 0⟩ := by
  unfold wpM
  rw [show (8 * a + b) / 8 = a by omega, show (8 * a + b) % 8 = b by omega]
 show wpL ns hs t ((8 * a + b) + 1) = _
 rw [wpL, e, m]
/-- What the program's choice answers is what the model's answers. -/
theorem ztv (ns : List Ino) (ds : List Den) (hs : List Int) (t : Int) (hot : Bool) (hi : zdm ns ds = true) (hh : zcn hs = true) : pcR ns ds hs t hot = if wpL ns hs t 128 = [] then (0, 0, 5) else ((chO hot (wpL ns hs t 128)).kind, (chO hot (wpL ns hs t 128)).at_, 0) := by
 unfold pcR pcI
 rw [if_neg (by have := (zea hh).1; omega), if_pos ⟨hi, hh⟩]
 rcases zwh ns hs t hot 128 with ⟨h1, h2⟩ | ⟨h1, q, h2, h3⟩
 ·rw [h2, if_pos (by decide), if_pos h1]
 ·rw [h2, if_neg (by omega), if_neg h1, h3]
  unfold wpM
  rw [show ((q / 8 : Nat) : Int) = (q : Int) / 8 by omega, show ((q % 8 : Nat) : Int) = (q : Int) % 8 by omega]
end Go.Proofs.YtipklbnfobckaaaGreatDoor
