/- Several texts laid together: DuF, DtI, IgM. -/
import Derived.Test.YtcilodgoognmnaaGreatDoorZBA
import Derived.Test.YtcilodgoognmnaaGreatDoorZBB
import Derived.Test.YtcilodgoognmnaaGreatDoorZBC
import Derived.Test.YtcilodgoognmnaaGreatDoorZAZ
import Derived.KernelRfl
namespace Go.Proofs.YtcilodgoognmnaaGreatDoor
open Go.RowKit
def npT (ns : List Ino) : Int := if 0 ≤ fpI ns then 1 else 2
def npA (ns : List Ino) : Int := if 0 ≤ fpI ns then fpI ns else zfy (fsI ns)
def npC (ns : List Ino) : Int := if 0 ≤ fpI ns then 0 else zfi (fsI ns)
theorem zss (ns : List Ino) : fpI ns < 24 := by
 have := (zdb (fun i => !zem (zav (zam ns) 1) (i : Int)) 24).2
 unfold fpI
 omega
theorem fs_bound (ns : List Ino) : fsI ns < 32 := by
 have := (zdb (fun i => !zem (zav (zam ns) 2) (i : Int)) 32).2
 unfold fsI
 omega
set_option maxRecDepth 100000 in
set_option maxHeartbeats 4000000 in
theorem zva (v : Value) (ns : List Ino) (ds : List Den) (w : World) (h : RdIm w v ns ds) (hi : zax ns ds = true) (hw : ns.length ≤ 1048576) (hp : ds.length ≤ 1048576) (hT : TS w) (hE : ED w) (hF : FD w) (hr : ∀ k (h : k < ns.length), ns[k].R) (hs : ∀ k (h : k < ds.length), ds[k].name.size ≤ maxLen) :
  Calls Tryz.prog 54 #[v] w fun e w' => e = .returned (.tuple #[.int .i64 (npT ns), .int .i64 (npA ns), .int .i64 (npC ns)]) ∧ Below w.heap.size w w' := by
 have L1 := zaa (fun w1 (hb : Below w.heap.size w w1) => zms v ns ds w1 (h.below hb) hw hp (hT.below hb) (hE.below hb) (hF.below hb) hr hs)
 have L2 := zaa (fun w1 (hb : Below w.heap.size w w1) => zkf v ns ds w1 (h.below hb) hw hp (hT.below hb) (hE.below hb) (hF.below hb) hr hs)
 rw [hi, show zas (fun i => !zem (zav (zam ns) 1) (i : Int)) 24 = fpI ns from rfl, show fpV true (fpI ns) = zfy (fpI ns) from rfl, show fpC true (fpI ns) = zfi (fpI ns) from rfl] at L1
 rw [hi, show zas (fun i => !zem (zav (zam ns) 2) (i : Int)) 32 = fsI ns from rfl, show fpV true (fsI ns) = zfy (fsI ns) from rfl, show fpC true (fsI ns) = zfi (fsI ns) from rfl] at L2
 have E1 := zaa (show npT ns = if 0 ≤ fpI ns then 1 else 2 from rfl)
 have E2 := zaa (show npA ns = if 0 ≤ fpI ns then fpI ns else zfy (fsI ns) from rfl)
 have E3 := zaa (show npC ns = if 0 ≤ fpI ns then 0 else zfi (fsI ns) from rfl)
 obtain ⟨vW, vP, rfl, h1, h2⟩ := h
 obtain ⟨aW, cW, rfl, _, _⟩ := h1.shape
 obtain ⟨aP, cP, rfl, _, _⟩ := h2.shape
 clear h1 h2 hr hs hT hE hF
 obtain ⟨W, hW⟩ : ∃ W, W = w.alloc (.cells #[.slice aW ns.length cW, .slice aP ds.length cP] 63) := ⟨_, rfl⟩
 have CA : Hid (∀ w', Below W.heap.size W w' → w'.cell? ⟨w.heap.size, 0, none⟩ = some (.slice aW ns.length cW) ∧ w'.cell? ⟨w.heap.size, 1, none⟩ = some (.slice aP ds.length cP)) := fun w' hb => by
  have : w'.heap[w.heap.size]? = some (.cells #[.slice aW ns.length cW, .slice aP ds.length cP] 63 (0, 0)) := (hb.block _ (by rw [hW]; simp)).trans (by rw [hW]; exact zah rfl)
  exact ⟨(zac this).1, (zac this).2.1⟩
 have BW : Hid (Below w.heap.size w W) := by rw [hW]; exact (Below.refl _ _).alloc (Nat.le_refl _) _
 obtain ⟨x0, x1⟩ := CA.out _ (Below.refl _ _)
 rw [hW] at x0 x1
 generalize npT ns = r1 at *
 generalize npA ns = r2 at *
 generalize npC ns = r3 at *
 generalize fpI ns = fp at *
 generalize fsI ns = fs at *
 go_enter Tryz.func54, Tryz.ntmps54
 go_wp2_with fail
 rw [← hW]
 clear hW x0 x1
 refine (L1.out _ BW.out).mono ?_
 rintro e w1 ⟨rfl, hb1⟩
 have A1 := zaa hb1
 have B1 := zaa (zab BW.out A1.out BW.out.size)
 clear hb1 L1
 by_cases c : 0 ≤ fp
 ·rw [if_pos c] at E1 E2 E3
  rw [show zfy fp = fp from if_neg (by omega), show zfi fp = 0 from if_neg (by omega)]
  obtain rfl := E1.out
  obtain rfl := E2.out
  obtain rfl := E3.out
  clear E1 E2 E3
  go_wp2
  go_ret3
  exact ⟨rfl, B1.out⟩
 ·rw [if_neg c] at E1 E2 E3
  rw [show zfy fp = 0 from if_pos (by omega), show zfi fp = 7 from if_pos (by omega)]
  obtain rfl := E1.out
  obtain rfl := E2.out
  obtain rfl := E3.out
  clear E1 E2 E3 c
  obtain ⟨x0, x1⟩ := CA.out _ A1.out
  go_wp2_with fail
  refine (L2.out _ B1.out).mono ?_
  rintro e w2 ⟨rfl, hb2⟩
  have B2 := zaa (zab B1.out hb2 B1.out.size)
  clear hb2 x0 x1
  go_wp2
  go_ret3
  exact ⟨rfl, B2.out⟩
theorem sure_one (m : Mi) : zcw [[m]] 1 = m :: zbe [m.at_] := by simp [zcw, segM, znr]
set_option maxRecDepth 100000 in
set_option maxHeartbeats 4000000 in
theorem zuk (a x : Int) (w : World) (ha : 0 ≤ a ∧ a < 24) :
  Calls Tryz.prog 58 #[.int .i64 1, .int .i64 a, .int .i64 x] w fun e w' => ∃ v', e = .returned v' ∧ Row w' 118 3 w.heap.size w'.heap.size v' (⟨1, 312 + a, x⟩ :: zbe [312 + a] : List Mi).length (mis (⟨1, 312 + a, x⟩ :: zbe [312 + a])) ∧ Below w.heap.size w w' := by
 have ES : Hid (zcw [[⟨1, 312 + a, x⟩]] 1 = (⟨1, 312 + a, x⟩ :: zbe [312 + a] : List Mi)) := sure_one _
 have wp : IntKind.i64.wrap (312 + a) = 312 + a := by rw [IntKind.wrap_i64]; omega
 obtain ⟨W, hW⟩ : ∃ W, W = (w.alloc (.cells #[.int .i64 1, .int .i64 (312 + a), .int .i64 x] 118)).alloc (.cells #[.slice (some ⟨w.heap.size, 0, none⟩) 1 1] 45) := ⟨_, rfl⟩
 have hzW : W.heap.size = w.heap.size + 1 + 1 := by rw [hW]; simp
 have BW : Hid (Below w.heap.size w W) := by rw [hW]; exact ((Below.refl _ _).alloc (Nat.le_refl _) _).alloc (by simp) _
 have BI : Hid (Below (w.alloc (.cells #[.int .i64 1, .int .i64 (312 + a), .int .i64 x] 118)).heap.size (w.alloc (.cells #[.int .i64 1, .int .i64 (312 + a), .int .i64 x] 118)) W) := by rw [hW]; exact (Below.refl _ _).alloc (Nat.le_refl _) _
 have LS := zaa (zhs (w.heap.size + 1) 0 1 [[⟨1, 312 + a, x⟩]] W (by omega) (by simp) (fun k hk => by
   obtain rfl : k = 0 := by simp at hk; omega
   refine ⟨some ⟨w.heap.size, 0, none⟩, 1, ?_, ?_⟩
   ·have q : W.heap[w.heap.size + 1]? = some (.cells ([.slice (some ⟨w.heap.size, 0, none⟩) 1 1] : List Value).toArray 45 (0, 0)) := by
     rw [hW]
     have := zah (w := w.alloc (.cells #[.int .i64 1, .int .i64 (312 + a), .int .i64 x] 118)) (o := .cells #[.slice (some ⟨w.heap.size, 0, none⟩) 1 1] 45) rfl
     rw [World.size_alloc] at this
     exact this
    exact (zae q 0).1
   ·exact Rd.below (zhf w 1 (312 + a) x) BI.out) (fun k hk => by
   obtain rfl : k = 0 := by simp at hk; omega
   refine ⟨by simp, fun j hj => ?_⟩
   obtain rfl : j = 0 := by simp at hj; omega
   exact ⟨by show 0 ≤ 312 + a; omega, by show 312 + a < 336; omega⟩))
 rw [show ([[⟨1, 312 + a, x⟩]] : List (List Mi)).length = 1 from rfl, ES.out] at LS
 clear ES hzW BI ha
 generalize (⟨1, 312 + a, x⟩ :: zbe [312 + a] : List Mi) = L at *
 go_enter Tryz.func58, Tryz.ntmps58
 go_wp2_with fail
 rw [← hW]
 clear hW
 refine LS.out.mono ?_
 rintro e w1 ⟨v1, rfl, hr1, hb1⟩
 have B1 := zaa (zab BW.out hb1 BW.out.size)
 have R1 := zaa (hr1.wide (lo' := w.heap.size) (hi' := w1.heap.size) BW.out.size (Nat.le_refl _))
 obtain ⟨-, a1, c1, hv1, -⟩ := hr1.rd
 subst hv1
 clear hr1 hb1 LS
 go_wp2
 go_ret
 exact ⟨_, rfl, R1.out, B1.out⟩
set_option maxRecDepth 100000 in
set_option maxHeartbeats 4000000 in
theorem zvy (a x : Int) (w : World) :
  Calls Tryz.prog 58 #[.int .i64 2, .int .i64 a, .int .i64 x] w fun e w' => ∃ v', e = .returned v' ∧ Row w' 118 3 w.heap.size w'.heap.size v' ([⟨4, a, x⟩, ⟨5, 0, 0⟩] : List Mi).length (mis [⟨4, a, x⟩, ⟨5, 0, 0⟩]) ∧ Below w.heap.size w w' := by
 go_enter Tryz.func58, Tryz.ntmps58
 go_wp2
 go_ret
 exact ⟨_, rfl, zad (World.ownsRow_lit w _ 2 (Nat.le_refl _) (by simp [maxLen]) rfl), (Below.refl _ _).alloc (Nat.le_refl _) _⟩
theorem place_any (ns : List Ino) (x : Int) (w : World) (h : npC ns = 0) :
  Calls Tryz.prog 58 #[.int .i64 (npT ns), .int .i64 (npA ns), .int .i64 x] w fun e w' => ∃ v', e = .returned v' ∧ Row w' 118 3 w.heap.size w'.heap.size v' (wrS ns x).length (mis (wrS ns x)) ∧ Below w.heap.size w w' := by
 unfold npT npA wrS
 unfold npC at h
 have b1 := zss ns
 by_cases c : 0 ≤ fpI ns
 ·rw [if_pos c, if_pos c, if_pos c]
  exact zuk (fpI ns) x w ⟨c, b1⟩
 ·rw [if_neg c] at h
  rw [if_neg c, if_neg c, if_neg c, show zfy (fsI ns) = fsI ns from if_neg (fun q => by rw [show zfi (fsI ns) = 7 from if_pos q] at h; omega)]
  exact zvy (fsI ns) x w
theorem np_full (ns : List Ino) : (¬ npC ns = 0 ∧ npC ns = 7 ∧ (fpI ns < 0 ∧ fsI ns < 0)) ∨ (npC ns = 0 ∧ ¬ (fpI ns < 0 ∧ fsI ns < 0) ∧ entV (npT ns) (npA ns) = wrE ns) := by
 unfold npC npT npA wrE entV zez
 have b1 := zss ns
 have b2 := fs_bound ns
 by_cases c : 0 ≤ fpI ns
 ·rw [if_pos c, if_pos c, if_pos c, if_pos c]
  exact .inr ⟨rfl, by omega, by rw [if_pos (by simp; omega)]⟩
 ·rw [if_neg c, if_neg c, if_neg c, if_neg c]
  by_cases d : fsI ns < 0
  ·rw [show zfi (fsI ns) = 7 from if_pos d]
   exact .inl ⟨by omega, rfl, by omega, d⟩
  ·rw [show zfi (fsI ns) = 0 from if_neg d, show zfy (fsI ns) = fsI ns from if_neg d]
   exact .inr ⟨rfl, fun q => d q.2, by rw [if_pos (by simp; omega)]⟩
theorem wrE_word (ns : List Ino) (h : ¬ (fpI ns < 0 ∧ fsI ns < 0)) : 0 ≤ wrE ns ∧ wrE ns < 1048576 := by
 unfold wrE
 have b1 := zss ns
 have b2 := fs_bound ns
 by_cases c : 0 ≤ fpI ns
 ·rw [if_pos c]
  omega
 ·rw [if_neg c]
  omega
theorem wr_journal {i page size e : Int} (hi : 0 ≤ i ∧ i < 16) (hp : 0 ≤ page ∧ page < 8) (he : 0 ≤ e ∧ e < 1048576) : jpC (wrU i page size e) = 0 ∧ jpL (wrU i page size e) = zdd (zdx (wrU i page size e)) := by
 have l := zop i page size e
 have u : upsB (wrU i page size e) = true := by
  refine decide_eq_true fun k hk => ?_
  have m := List.getElem_mem hk
  revert m
  generalize (wrU i page size e)[k] = z
  unfold wrU
  intro m
  rcases List.mem_cons.1 m with rfl | m
  ·exact ⟨by show 48 ≤ 48 + 12 * i + (3 + page) ∧ 48 + 12 * i + (3 + page) < 336; omega, by show 0 ≤ e ∧ e < 1099511627776; omega⟩
  ·split at m
   ·rw [List.mem_singleton.1 m]
    exact ⟨by show 48 ≤ 48 + 12 * i + 1 ∧ 48 + 12 * i + 1 < 336; omega, by show 0 ≤ page + 1 ∧ page + 1 < 1099511627776; omega⟩
   ·cases m
 rcases zne (wrU i page size e) with ⟨c, _⟩ | ⟨_, c, _⟩ | ⟨_, _, c, _⟩ | ⟨_, _, _, c⟩
 ·omega
 ·omega
 ·rw [u] at c; cases c
 ·exact c
theorem wr_form {ws : List Int} {ps : List St} {es : List Int} {qs : List Se} {s : ByteArray} {page y : Int} : wrR ws ps es qs s page y = if (flR (dvN ws ps es qs) (dvD ws ps es qs) s).2 = 0 then wrF (dvN ws ps es qs) (flR (dvN ws ps es qs) (dvD ws ps es qs) s).1 page y else ([], (flR (dvN ws ps es qs) (dvD ws ps es qs) s).2) := by
 unfold wrR flR
 rw [zmd]
 by_cases c : 65536 < s.size
 ·rw [if_pos c, if_pos c]
  rfl
 ·rw [if_neg c, if_neg c]
  by_cases d : dvB ws ps es qs = true
  ·rw [if_pos d, if_pos d, ← (zdi d).2.2.1, ← (zdi d).2.2.2.1]
   rfl
  ·rw [if_neg d, if_neg d]
   rfl
theorem zus {w w1 : World} {c : Int} (B : Below w.heap.size w w1) : MiOut w w1 (.returned (.tuple #[.slice none 0 0, .int .i64 c])) ([], c) := ⟨_, rfl, Row.nil _ _ _ _ _, B⟩
set_option maxRecDepth 100000 in
set_option maxHeartbeats 16000000 in
theorem zln (v : Value) (ws : List Int) (ps : List St) (es : List Int) (qs : List Se) (s : ByteArray) (page y : Int) (w : World) (h : RdDev w v ws ps es qs) (hw : ws.length ≤ 1048576) (hp : ps.length ≤ 1048576) (he : es.length ≤ 1048576) (hq : qs.length ≤ 1048576) (hT : TS w) (hE : ED w) (hF : FD w) :
  Calls Tryz.prog 14 #[v, .string s, .int .i64 page, .int .i64 y] w fun e w' => MiOut w w' e (wrR ws ps es qs s page y) := by
 have LI := zaa (fun w1 (hb : Below w.heap.size w w1) => zgr v ws ps es qs w1 (h.below hb) hw hp he hq (hT.below hb) (hE.below hb) (hF.below hb))
 have LF := zaa (fun v2 w1 (hb : Below w.heap.size w w1) h2 => zhd v2 (dvN ws ps es qs) (dvD ws ps es qs) s w1 h2 (zet ws ps es qs).1 (zet ws ps es qs).2 (hT.below hb) (hE.below hb) (hF.below hb) dv_R zjk)
 have LN := zaa (fun hi v2 w1 (hb : Below w.heap.size w w1) h2 => zva v2 (dvN ws ps es qs) (dvD ws ps es qs) w1 h2 hi (zet ws ps es qs).1 (zet ws ps es qs).2 (hT.below hb) (hE.below hb) (hF.below hb) dv_R zjk)
 have LE := zaa (fun t a w1 (hb : Below w.heap.size w w1) => zlo t a w1 (hT.below hb))
 have LA := zaa (fun w1 h => place_any (dvN ws ps es qs) y w1 h)
 have EL := zaa (wr_form (ws := ws) (ps := ps) (es := es) (qs := qs) (s := s) (page := page) (y := y))
 have FL := zaa (fun h => dv_fl (ws := ws) (ps := ps) (es := es) (qs := qs) (s := s) h)
 have NP := zaa (np_full (dvN ws ps es qs))
 have WE := zaa (wrE_word (dvN ws ps es qs))
 have EF : Hid (∀ i : Nat, ∀ x, x = zcf (dvN ws ps es qs) i → wrF (dvN ws ps es qs) (i : Int) page y = if (0 ≤ page ∧ page < 8) ∧ zbc y = true then (if fpI (dvN ws ps es qs) < 0 ∧ fsI (dvN ws ps es qs) < 0 then ([], 7) else (wrS (dvN ws ps es qs) y ++ zdd (zdx (wrU (i : Int) page x.size (wrE (dvN ws ps es qs)))), 0)) else ([], 4)) := fun i x e => by rw [e]; rfl
 have SL : Hid ((wrS (dvN ws ps es qs) y).length ≤ 1000) := by
  unfold Hid wrS
  split
  ·have := zbl [312 + fpI (dvN ws ps es qs)]
   simp only [List.length_cons, List.length_nil] at this ⊢
   omega
  ·simp
 obtain ⟨dW, eW, dP, eP, dS, eS, dQ, eQ, rfl, -, -⟩ := h.form
 clear h hT hE hF
 obtain ⟨W, hW⟩ : ∃ W, W = w.alloc (.cells #[.slice dW ws.length eW, .slice dP ps.length eP, .slice dS es.length eS, .slice dQ qs.length eQ] 41) := ⟨_, rfl⟩
 have BW : Hid (Below w.heap.size w W) := by rw [hW]; exact (Below.refl _ _).alloc (Nat.le_refl _) _
 obtain ⟨x0, x1, x2, x3, -, -, -, -⟩ := zaw (zah (w := w) (o := .cells #[.slice dW ws.length eW, .slice dP ps.length eP, .slice dS es.length eS, .slice dQ qs.length eQ] 41) rfl)
 generalize dvN ws ps es qs = dn at *
 generalize dvD ws ps es qs = dd at *
 generalize wrR ws ps es qs s page y = res at *
 generalize flR dn dd s = lr at *
 obtain ⟨li, lc⟩ := lr
 obtain ⟨x, hx⟩ : ∃ x, x = faI dn (li, lc) := ⟨_, rfl⟩
 have LF2 := zaa (fun v2 w1 hb h2 => LF.out v2 w1 hb h2 x hx)
 have HX := zaa hx
 simp only at EL FL LF2
 clear LF hx
 go_enter Tryz.func14, Tryz.ntmps14
 go_wp2_with fail
 rw [← hW]
 clear hW x0 x1 x2 x3
 refine (LI.out _ BW.out).mono ?_
 rintro e w1 ⟨v1, rfl, hR, hb1⟩
 have HR := zaa hR
 obtain ⟨vI, vD, rfl, hI, hD⟩ := hR
 obtain ⟨-, a1, k1, hv1, -⟩ := hI.rd
 obtain ⟨-, a2, k2, hv2, -⟩ := hD.rd
 subst hv1
 subst hv2
 have B1 := zaa (zab BW.out hb1 BW.out.size)
 have BC : Hid (Below w1.heap.size w1 (w1.alloc (.cells #[.slice a1 dn.length k1, .slice a2 dd.length k2] 63))) := (Below.refl _ _).alloc (Nat.le_refl _) _
 have VM : Hid ((w1.alloc (.cells #[.slice a1 dn.length k1, .slice a2 dd.length k2] 63)).heap[w1.heap.size]? = some (.cells #[.slice a1 dn.length k1, .slice a2 dd.length k2] 63 (0, 0))) := zah rfl
 obtain ⟨w2, hw2⟩ : ∃ w2, w2 = w1.alloc (.cells #[.slice a1 dn.length k1, .slice a2 dd.length k2] 63) := ⟨_, rfl⟩
 obtain ⟨y0, y1, _, _⟩ := zac VM.out
 rw [← hw2] at BC VM
 have B2 := zaa (zab B1.out BC.out B1.out.size)
 have R2 := zaa (HR.out.below BC.out (Nat.le_refl _)).rd
 have hz2 : w1.heap.size < w2.heap.size := (Array.getElem?_eq_some_iff.1 VM.out).1
 have CI : Hid (∀ w', Below w2.heap.size w2 w' → w'.cell? ⟨w1.heap.size, 0, none⟩ = some (.slice a1 dn.length k1) ∧ w'.cell? ⟨w1.heap.size, 1, none⟩ = some (.slice a2 dd.length k2)) := fun w' hb => by
  have q := (hb.block _ hz2).trans VM.out
  exact ⟨(zac q).1, (zac q).2.1⟩
 clear hb1 HR hI hD LI B1 BC VM
 go_wp2_with fail
 rw [← hw2]
 clear hw2 y0 y1
 refine (LF2.out _ _ B2.out R2.out).mono ?_
 rintro e w3 ⟨rfl, hb3⟩
 have B3 := zaa (zab B2.out hb3 B2.out.size)
 have C3 := zaa hb3
 clear hb3 LF2
 have BX := zaa (B3.out.alloc B3.out.size (.cells #[.int .i64 x.kind, .int .i64 x.size, .int .i64 x.links, .int .i64 x.m0, .int .i64 x.m1, .int .i64 x.m2, .int .i64 x.m3, .int .i64 x.m4, .int .i64 x.m5, .int .i64 x.m6, .int .i64 x.m7, .int .i64 li] 99))
 by_cases c : lc = 0
 case neg =>
  rw [if_neg c] at EL
  obtain rfl := EL.out
  have q : (lc != 0) = true := by rw [bne_iff_ne]; exact c
  clear EL c FL EF HX
  go_wp2
  go_ret2
  exact zus BX.out
 subst c
 rw [if_pos rfl] at EL
 obtain ⟨-, -, hi, i, i16, ei⟩ := FL.out rfl
 have LN2 := zaa (LN.out hi)
 subst ei
 have hx : x = zcf dn i := HX.out.trans ((if_pos rfl).trans (by simp only [Int.toNat_natCast]))
 rw [EF.out i x hx] at EL
 clear FL EF HX hx LN hi
 have VX : Hid ((w3.alloc (.cells #[.int .i64 x.kind, .int .i64 x.size, .int .i64 x.links, .int .i64 x.m0, .int .i64 x.m1, .int .i64 x.m2, .int .i64 x.m3, .int .i64 x.m4, .int .i64 x.m5, .int .i64 x.m6, .int .i64 x.m7, .int .i64 (i : Int)] 99)).heap[w3.heap.size]? = some (.cells (x.fa (i : Int)).toArray 99 (0, 0))) := zah rfl
 have CX := zaa (C3.out.alloc C3.out.size (.cells #[.int .i64 x.kind, .int .i64 x.size, .int .i64 x.links, .int .i64 x.m0, .int .i64 x.m1, .int .i64 x.m2, .int .i64 x.m3, .int .i64 x.m4, .int .i64 x.m5, .int .i64 x.m6, .int .i64 x.m7, .int .i64 (i : Int)] 99))
 obtain ⟨w4, hw4⟩ : ∃ w4, w4 = w3.alloc (.cells #[.int .i64 x.kind, .int .i64 x.size, .int .i64 x.links, .int .i64 x.m0, .int .i64 x.m1, .int .i64 x.m2, .int .i64 x.m3, .int .i64 x.m4, .int .i64 x.m5, .int .i64 x.m6, .int .i64 x.m7, .int .i64 (i : Int)] 99) := ⟨_, rfl⟩
 rw [← hw4] at VX BX CX
 have hz4 : w3.heap.size < w4.heap.size := (Array.getElem?_eq_some_iff.1 VX.out).1
 have KE : Hid (∀ w', Below w4.heap.size w4 w' → w'.cell? ⟨w3.heap.size, 0, none⟩ = some (.int .i64 x.kind) ∧ w'.cell? ⟨w3.heap.size, 1, none⟩ = some (.int .i64 x.size) ∧ w'.cell? ⟨w3.heap.size, 2, none⟩ = some (.int .i64 x.links) ∧ w'.cell? ⟨w3.heap.size, 3, none⟩ = some (.int .i64 x.m0) ∧ w'.cell? ⟨w3.heap.size, 4, none⟩ = some (.int .i64 x.m1) ∧ w'.cell? ⟨w3.heap.size, 5, none⟩ = some (.int .i64 x.m2) ∧ w'.cell? ⟨w3.heap.size, 6, none⟩ = some (.int .i64 x.m3) ∧ w'.cell? ⟨w3.heap.size, 7, none⟩ = some (.int .i64 x.m4) ∧ w'.cell? ⟨w3.heap.size, 8, none⟩ = some (.int .i64 x.m5) ∧ w'.cell? ⟨w3.heap.size, 9, none⟩ = some (.int .i64 x.m6) ∧ w'.cell? ⟨w3.heap.size, 10, none⟩ = some (.int .i64 x.m7) ∧ w'.cell? ⟨w3.heap.size, 11, none⟩ = some (.int .i64 (i : Int))) := fun w' hb => by
  have q := (hb.block _ hz4).trans VX.out
  exact ⟨(zae q 0).1, (zae q 1).1, (zae q 2).1, (zae q 3).1, (zae q 4).1, (zae q 5).1, (zae q 6).1, (zae q 7).1, (zae q 8).1, (zae q 9).1, (zae q 10).1, (zae q 11).1⟩
 clear VX B3 C3
 by_cases c : 0 ≤ page ∧ page < 8
 case neg =>
  rw [if_neg (fun q => c q.1)] at EL
  obtain rfl := EL.out
  clear EL
  go_wp2_with fail
  rw [← hw4]
  refine (zbj _ _ _ c).mono ?_
  rintro e w' ⟨rfl, hw'⟩
  subst w'
  clear hw4
  go_wp2
  go_ret2
  exact zus BX.out
 cases cy : zbc y with
 | false =>
  rw [if_neg (fun q => by rw [cy] at q; cases q.2)] at EL
  obtain rfl := EL.out
  clear EL
  go_wp2_with fail
  rw [← hw4]
  refine (zaq _ _ _ c).mono ?_
  rintro e w' ⟨rfl, hw'⟩
  subst w'
  clear hw4
  go_wp2_with fail
  refine (zdp _ _).mono ?_
  rw [cy]
  rintro e w' ⟨rfl, hw'⟩
  subst w'
  go_wp2
  go_ret2
  exact zus BX.out
 | true =>
 rw [if_pos ⟨c, cy⟩] at EL
 obtain ⟨x0, x1⟩ := CI.out _ CX.out
 go_wp2_with fail
 rw [← hw4]
 refine (zaq _ _ _ c).mono ?_
 rintro e w' ⟨rfl, hw'⟩
 subst w'
 clear hw4
 go_wp2_with fail
 refine (zdp _ _).mono ?_
 rw [cy]
 rintro e w' ⟨rfl, hw'⟩
 subst w'
 clear cy
 go_wp2_with fail
 refine (LN2.out _ _ BX.out (R2.out.below CX.out)).mono ?_
 rintro e w5 ⟨rfl, hb5⟩
 have D5 := zaa hb5
 have B5 := zaa (zab BX.out hb5 BX.out.size)
 clear hb5 x0 x1 LN2 CI CX R2
 rcases NP.out with ⟨c1, c2, c3⟩ | ⟨c1, c2, c3⟩
 ·rw [if_pos c3] at EL
  obtain rfl := EL.out
  rw [c2]
  clear c1 c2 c3 EL NP WE LA
  go_wp2
  go_ret2
  exact zus B5.out
 rw [if_neg c2] at EL
 obtain ⟨e1, e2⟩ := WE.out c2
 have LA2 := zaa (fun w1 => LA.out w1 c1)
 have C1 := c1
 obtain ⟨j1, j2⟩ := wr_journal (i := (i : Int)) (page := page) (size := x.size) (e := wrE dn) (by omega) c ⟨e1, e2⟩
 have J2 := zaa j2
 have LJ := zaa (fun vu w1 h => zeu vu (wrU (i : Int) page x.size (wrE dn)) w1 h (by have := zop (i : Int) page x.size (wrE dn); omega))
 rw [j1, j2] at LJ
 have LU := zaa (fun w1 => zmq x (i : Int) page (wrE dn) w1 (by omega) c)
 have EN := zaa c3
 have PL : Hid ((zdd (zdx (wrU (i : Int) page x.size (wrE dn)))).length ≤ 16777216) := by
  unfold Hid
  rw [← j2]
  exact jpL_len _
 rw [c1]
 clear c1 c2 c3 NP WE LA e1 e2 j1 j2 J2 c
 generalize npT dn = pt at *
 generalize npA dn = pa at *
 generalize wrE dn = en at *
 generalize wrS dn y = LS at *
 have LE2 := zaa (fun w1 hb => LE.out pt pa w1 hb)
 rw [EN.out] at LE2
 clear LE EN
 generalize entC pt pa = ec at *
 go_wp2_with fail
 refine (LE2.out _ B5.out).mono ?_
 rintro e w' ⟨rfl, hw'⟩
 subst w'
 obtain ⟨k0, k1, k2, k3, k4, k5, k6, k7, k8, k9, k10, k11⟩ := KE.out _ D5.out
 clear LE2
 have BY := zaa (B5.out.alloc B5.out.size (.cells #[.int .i64 x.kind, .int .i64 x.size, .int .i64 x.links, .int .i64 x.m0, .int .i64 x.m1, .int .i64 x.m2, .int .i64 x.m3, .int .i64 x.m4, .int .i64 x.m5, .int .i64 x.m6, .int .i64 x.m7, .int .i64 (i : Int), .int .i64 page, .int .i64 en] 112))
 have VY : Hid ((w5.alloc (.cells #[.int .i64 x.kind, .int .i64 x.size, .int .i64 x.links, .int .i64 x.m0, .int .i64 x.m1, .int .i64 x.m2, .int .i64 x.m3, .int .i64 x.m4, .int .i64 x.m5, .int .i64 x.m6, .int .i64 x.m7, .int .i64 (i : Int), .int .i64 page, .int .i64 en] 112)).heap[w5.heap.size]? = some (.cells ([.int .i64 x.kind, .int .i64 x.size, .int .i64 x.links, .int .i64 x.m0, .int .i64 x.m1, .int .i64 x.m2, .int .i64 x.m3, .int .i64 x.m4, .int .i64 x.m5, .int .i64 x.m6, .int .i64 x.m7, .int .i64 (i : Int), .int .i64 page, .int .i64 en] : List Value).toArray 112 (0, 0))) := zah rfl
 have KY : (w5.alloc (.cells #[.int .i64 x.kind, .int .i64 x.size, .int .i64 x.links, .int .i64 x.m0, .int .i64 x.m1, .int .i64 x.m2, .int .i64 x.m3, .int .i64 x.m4, .int .i64 x.m5, .int .i64 x.m6, .int .i64 x.m7, .int .i64 (i : Int), .int .i64 page, .int .i64 en] 112)).cell? ⟨w5.heap.size, 0, none⟩ = some (.int .i64 x.kind) ∧ (w5.alloc (.cells #[.int .i64 x.kind, .int .i64 x.size, .int .i64 x.links, .int .i64 x.m0, .int .i64 x.m1, .int .i64 x.m2, .int .i64 x.m3, .int .i64 x.m4, .int .i64 x.m5, .int .i64 x.m6, .int .i64 x.m7, .int .i64 (i : Int), .int .i64 page, .int .i64 en] 112)).cell? ⟨w5.heap.size, 1, none⟩ = some (.int .i64 x.size) ∧ (w5.alloc (.cells #[.int .i64 x.kind, .int .i64 x.size, .int .i64 x.links, .int .i64 x.m0, .int .i64 x.m1, .int .i64 x.m2, .int .i64 x.m3, .int .i64 x.m4, .int .i64 x.m5, .int .i64 x.m6, .int .i64 x.m7, .int .i64 (i : Int), .int .i64 page, .int .i64 en] 112)).cell? ⟨w5.heap.size, 2, none⟩ = some (.int .i64 x.links) ∧ (w5.alloc (.cells #[.int .i64 x.kind, .int .i64 x.size, .int .i64 x.links, .int .i64 x.m0, .int .i64 x.m1, .int .i64 x.m2, .int .i64 x.m3, .int .i64 x.m4, .int .i64 x.m5, .int .i64 x.m6, .int .i64 x.m7, .int .i64 (i : Int), .int .i64 page, .int .i64 en] 112)).cell? ⟨w5.heap.size, 3, none⟩ = some (.int .i64 x.m0) ∧ (w5.alloc (.cells #[.int .i64 x.kind, .int .i64 x.size, .int .i64 x.links, .int .i64 x.m0, .int .i64 x.m1, .int .i64 x.m2, .int .i64 x.m3, .int .i64 x.m4, .int .i64 x.m5, .int .i64 x.m6, .int .i64 x.m7, .int .i64 (i : Int), .int .i64 page, .int .i64 en] 112)).cell? ⟨w5.heap.size, 4, none⟩ = some (.int .i64 x.m1) ∧ (w5.alloc (.cells #[.int .i64 x.kind, .int .i64 x.size, .int .i64 x.links, .int .i64 x.m0, .int .i64 x.m1, .int .i64 x.m2, .int .i64 x.m3, .int .i64 x.m4, .int .i64 x.m5, .int .i64 x.m6, .int .i64 x.m7, .int .i64 (i : Int), .int .i64 page, .int .i64 en] 112)).cell? ⟨w5.heap.size, 5, none⟩ = some (.int .i64 x.m2) ∧ (w5.alloc (.cells #[.int .i64 x.kind, .int .i64 x.size, .int .i64 x.links, .int .i64 x.m0, .int .i64 x.m1, .int .i64 x.m2, .int .i64 x.m3, .int .i64 x.m4, .int .i64 x.m5, .int .i64 x.m6, .int .i64 x.m7, .int .i64 (i : Int), .int .i64 page, .int .i64 en] 112)).cell? ⟨w5.heap.size, 6, none⟩ = some (.int .i64 x.m3) ∧ (w5.alloc (.cells #[.int .i64 x.kind, .int .i64 x.size, .int .i64 x.links, .int .i64 x.m0, .int .i64 x.m1, .int .i64 x.m2, .int .i64 x.m3, .int .i64 x.m4, .int .i64 x.m5, .int .i64 x.m6, .int .i64 x.m7, .int .i64 (i : Int), .int .i64 page, .int .i64 en] 112)).cell? ⟨w5.heap.size, 7, none⟩ = some (.int .i64 x.m4) ∧ (w5.alloc (.cells #[.int .i64 x.kind, .int .i64 x.size, .int .i64 x.links, .int .i64 x.m0, .int .i64 x.m1, .int .i64 x.m2, .int .i64 x.m3, .int .i64 x.m4, .int .i64 x.m5, .int .i64 x.m6, .int .i64 x.m7, .int .i64 (i : Int), .int .i64 page, .int .i64 en] 112)).cell? ⟨w5.heap.size, 8, none⟩ = some (.int .i64 x.m5) ∧ (w5.alloc (.cells #[.int .i64 x.kind, .int .i64 x.size, .int .i64 x.links, .int .i64 x.m0, .int .i64 x.m1, .int .i64 x.m2, .int .i64 x.m3, .int .i64 x.m4, .int .i64 x.m5, .int .i64 x.m6, .int .i64 x.m7, .int .i64 (i : Int), .int .i64 page, .int .i64 en] 112)).cell? ⟨w5.heap.size, 9, none⟩ = some (.int .i64 x.m6) ∧ (w5.alloc (.cells #[.int .i64 x.kind, .int .i64 x.size, .int .i64 x.links, .int .i64 x.m0, .int .i64 x.m1, .int .i64 x.m2, .int .i64 x.m3, .int .i64 x.m4, .int .i64 x.m5, .int .i64 x.m6, .int .i64 x.m7, .int .i64 (i : Int), .int .i64 page, .int .i64 en] 112)).cell? ⟨w5.heap.size, 10, none⟩ = some (.int .i64 x.m7) ∧ (w5.alloc (.cells #[.int .i64 x.kind, .int .i64 x.size, .int .i64 x.links, .int .i64 x.m0, .int .i64 x.m1, .int .i64 x.m2, .int .i64 x.m3, .int .i64 x.m4, .int .i64 x.m5, .int .i64 x.m6, .int .i64 x.m7, .int .i64 (i : Int), .int .i64 page, .int .i64 en] 112)).cell? ⟨w5.heap.size, 11, none⟩ = some (.int .i64 (i : Int)) ∧ (w5.alloc (.cells #[.int .i64 x.kind, .int .i64 x.size, .int .i64 x.links, .int .i64 x.m0, .int .i64 x.m1, .int .i64 x.m2, .int .i64 x.m3, .int .i64 x.m4, .int .i64 x.m5, .int .i64 x.m6, .int .i64 x.m7, .int .i64 (i : Int), .int .i64 page, .int .i64 en] 112)).cell? ⟨w5.heap.size, 12, none⟩ = some (.int .i64 page) ∧ (w5.alloc (.cells #[.int .i64 x.kind, .int .i64 x.size, .int .i64 x.links, .int .i64 x.m0, .int .i64 x.m1, .int .i64 x.m2, .int .i64 x.m3, .int .i64 x.m4, .int .i64 x.m5, .int .i64 x.m6, .int .i64 x.m7, .int .i64 (i : Int), .int .i64 page, .int .i64 en] 112)).cell? ⟨w5.heap.size, 13, none⟩ = some (.int .i64 en) := ⟨(zae VY.out 0).1, (zae VY.out 1).1, (zae VY.out 2).1, (zae VY.out 3).1, (zae VY.out 4).1, (zae VY.out 5).1, (zae VY.out 6).1, (zae VY.out 7).1, (zae VY.out 8).1, (zae VY.out 9).1, (zae VY.out 10).1, (zae VY.out 11).1, (zae VY.out 12).1, (zae VY.out 13).1⟩
 obtain ⟨m0, m1, m2, m3, m4, m5, m6, m7, m8, m9, m10, m11, m12, m13⟩ := KY
 obtain ⟨w6, hw6⟩ : ∃ w6, w6 = w5.alloc (.cells #[.int .i64 x.kind, .int .i64 x.size, .int .i64 x.links, .int .i64 x.m0, .int .i64 x.m1, .int .i64 x.m2, .int .i64 x.m3, .int .i64 x.m4, .int .i64 x.m5, .int .i64 x.m6, .int .i64 x.m7, .int .i64 (i : Int), .int .i64 page, .int .i64 en] 112) := ⟨_, rfl⟩
 rw [← hw6] at BY
 clear VY
 go_wp2_with fail
 rw [← hw6]
 clear hw6 m0 m1 m2 m3 m4 m5 m6 m7 m8 m9 m10 m11 m12 m13 k0 k1 k2 k3 k4 k5 k6 k7 k8 k9 k10 k11
 refine (LU.out _).mono ?_
 rintro e w7 ⟨v7, rfl, hr7, hb7⟩
 have B7 := zaa (zab BY.out hb7 BY.out.size)
 have R7 := zaa hr7.rd
 clear hr7 hb7 LU
 go_wp2_with fail
 refine (LJ.out _ _ R7.out).mono ?_
 rintro e w8 ⟨v8, rfl, hr8, hb8⟩
 have B8 := zaa (zab B7.out hb8 B7.out.size)
 have R8 := zaa hr8.rd
 obtain ⟨a8, c8, e8⟩ := RdM.form hr8.rd rfl
 subst e8
 clear hr8 hb8 LJ R7
 go_wp2_with fail
 refine (LA2.out _).mono ?_
 rintro e w9 ⟨v9, rfl, hr9, hb9⟩
 have B9 := zaa (zab B8.out hb9 B8.out.size)
 have R89 := zaa (Rd.below R8.out hb9)
 have R9 := zaa (hr9.wide (lo' := w.heap.size) (hi' := w9.heap.size) B8.out.size (Nat.le_refl _)).1
 have hz9 : w.heap.size ≤ w9.heap.size := B9.out.size
 obtain ⟨a9, c9, e9⟩ := RdM.form hr9.rd rfl
 subst e9
 clear hr9 hb9 LA2 R8
 have s1 := SL.out
 have s2 := PL.out
 generalize zdd (zdx (wrU (i : Int) page x.size en)) = PP at *
 go_wp2_with (at_builtin; refine zag _ rfl (.tmp 67) (.tmp 68) 45 rfl w.heap.size 118 (.agg #[.int .i64 0, .int .i64 0, .int .i64 0]) 3 24 Tryz.underlying45 zbn rfl (by decide) _ LS.length (mis LS) rfl R9.out _ PP.length (mis PP) rfl R89.out (zck _) (by first | omega | (simp [maxLen]; omega)) (by omega) (by omega) ?_)
 intro vN wN hownN hgrN
 have G : Hid (MiI w wN vN (LS ++ PP)) := MiI.grow (vL := .slice a9 LS.length c9) ⟨R9.out, B9.out⟩ PP hownN hgrN
 obtain ⟨-, aN, cN, hvN, -⟩ := (zad G.out.l).rd
 rw [List.length_append] at hvN
 subst hvN
 clear hownN hgrN R9 R89
 obtain rfl := EL.out
 go_wp2
 go_ret2
 exact ⟨_, rfl, zad G.out.l, G.out.b⟩
theorem wrS_len (ns : List Ino) (y : Int) : (wrS ns y).length ≤ 1000 := by
 unfold wrS
 split
 ·have := zbl [312 + fpI ns]
  simp only [List.length_cons, List.length_nil] at this ⊢
  omega
 ·simp
theorem wrR_len (ws : List Int) (ps : List St) (es : List Int) (qs : List Se) (s : ByteArray) (page y : Int) : (wrR ws ps es qs s page y).1.length ≤ 33554432 := by
 rw [wr_form]
 by_cases c : (flR (dvN ws ps es qs) (dvD ws ps es qs) s).2 = 0
 ·rw [if_pos c]
  unfold wrF
  split
  ·split
   ·simp
   ·have a := wrS_len (dvN ws ps es qs) y
    have b := zkj (wrU (flR (dvN ws ps es qs) (dvD ws ps es qs) s).1 page (zfd (dvN ws ps es qs) (flR (dvN ws ps es qs) (dvD ws ps es qs) s).1) (wrE (dvN ws ps es qs)))
    have l := zop (flR (dvN ws ps es qs) (dvD ws ps es qs) s).1 page (zfd (dvN ws ps es qs) (flR (dvN ws ps es qs) (dvD ws ps es qs) s).1) (wrE (dvN ws ps es qs))
    simp only [List.length_append]
    omega
  ·simp
 ·rw [if_neg c]
  simp
end Go.Proofs.YtcilodgoognmnaaGreatDoor

namespace Go.Proofs.YtcilodgoognmnaaGreatDoor
open Go.RowKit
def uoI (ns : List Ino) (ds : List Den) (k : Int) (p t : ByteArray) (g : Int) : List Se × Int := if k = 1 then mkI ns ds p 1 else if k = 2 then mkI ns ds p 2 else if k = 3 then rmI ns ds p else if k = 4 then lnI ns ds p t else if k = 5 then rnI ns ds p t else cuI ns ds p g
set_option maxRecDepth 100000 in
set_option maxHeartbeats 8000000 in
theorem zqa (v : Value) (ns : List Ino) (ds : List Den) (k : Int) (p t : ByteArray) (g y : Int) (w : World) (h : RdIm w v ns ds) (hi : zax ns ds = true) (hp : p.size ≤ 65536) (ht : t.size ≤ 65536) :
  Calls Tryz.prog 137 #[v, .agg #[.int .i64 k, .string p, .string t, .int .i64 g, .int .i64 y]] w fun e w' => zer w w' e (uoI ns ds k p t g) := by
 have L1 := zaa (fun w1 (hb : Below w.heap.size w w1) => znx v ns ds p 1 w1 (h.below hb) hi hp)
 have L2 := zaa (fun w1 (hb : Below w.heap.size w w1) => znx v ns ds p 2 w1 (h.below hb) hi hp)
 have L3 := zaa (fun w1 (hb : Below w.heap.size w w1) => zsn v ns ds p w1 (h.below hb) hi hp)
 have L4 := zaa (fun w1 (hb : Below w.heap.size w w1) => l07Link_any v ns ds p t w1 (h.below hb) hi ⟨hp, ht⟩)
 have L5 := zaa (fun w1 (hb : Below w.heap.size w w1) => zsa v ns ds p t w1 (h.below hb) hi ⟨hp, ht⟩)
 have L6 := zaa (fun w1 (hb : Below w.heap.size w w1) => l08Cut_any v ns ds p g w1 (h.below hb) hi hp)
 have EL := zaa (show uoI ns ds k p t g = if k = 1 then mkI ns ds p 1 else if k = 2 then mkI ns ds p 2 else if k = 3 then rmI ns ds p else if k = 4 then lnI ns ds p t else if k = 5 then rnI ns ds p t else cuI ns ds p g from rfl)
 obtain ⟨vW, vP, rfl, h1, h2⟩ := h
 obtain ⟨aW, cW, rfl, _, _⟩ := h1.shape
 obtain ⟨aP, cP, rfl, _, _⟩ := h2.shape
 clear h1 h2 hi hp ht
 obtain ⟨W, hW⟩ : ∃ W, W = (w.alloc (.cells #[.slice aW ns.length cW, .slice aP ds.length cP] 63)).alloc (.cells #[.int .i64 k, .string p, .string t, .int .i64 g, .int .i64 y] 78) := ⟨_, rfl⟩
 have BW : Hid (Below w.heap.size w W) := by rw [hW]; exact ((Below.refl _ _).alloc (Nat.le_refl _) _).alloc (by simp) _
 rw [EL.out]
 by_cases c1 : k = 1
 case pos =>
  rw [if_pos c1]
  have LL := L1
  clear EL L1 L2 L3 L4 L5 L6
  subst c1
  generalize mkI ns ds p 1 = res at *
  go_enter Tryz.func137, Tryz.ntmps137
  go_wp2_with fail
  rw [← hW]
  clear hW
  refine (LL.out _ BW.out).mono ?_
  rintro e w1 ⟨v1, rfl, hr1, hb1⟩
  have R1 := zaa (hr1.wide BW.out.size (Nat.le_refl _))
  have B1 := zaa (zab BW.out hb1 BW.out.size)
  obtain ⟨-, aL, cL, hvL, -⟩ := hr1.rd
  subst hvL
  clear hr1 hb1
  go_wp2
  go_ret2
  exact ⟨_, rfl, R1.out, B1.out⟩
 have q1 : (k == 1) = false := by rw [beq_eq_false_iff_ne]; exact c1
 by_cases c2 : k = 2
 case pos =>
  rw [if_neg c1, if_pos c2]
  have LL := L2
  clear EL L1 L2 L3 L4 L5 L6
  subst c2
  generalize mkI ns ds p 2 = res at *
  go_enter Tryz.func137, Tryz.ntmps137
  go_wp2_with fail
  rw [← hW]
  clear hW
  refine (LL.out _ BW.out).mono ?_
  rintro e w1 ⟨v1, rfl, hr1, hb1⟩
  have R1 := zaa (hr1.wide BW.out.size (Nat.le_refl _))
  have B1 := zaa (zab BW.out hb1 BW.out.size)
  obtain ⟨-, aL, cL, hvL, -⟩ := hr1.rd
  subst hvL
  clear hr1 hb1
  go_wp2
  go_ret2
  exact ⟨_, rfl, R1.out, B1.out⟩
 have q2 : (k == 2) = false := by rw [beq_eq_false_iff_ne]; exact c2
 by_cases c3 : k = 3
 case pos =>
  rw [if_neg c1, if_neg c2, if_pos c3]
  have LL := L3
  clear EL L1 L2 L3 L4 L5 L6
  subst c3
  generalize rmI ns ds p = res at *
  go_enter Tryz.func137, Tryz.ntmps137
  go_wp2_with fail
  rw [← hW]
  clear hW
  refine (LL.out _ BW.out).mono ?_
  rintro e w1 ⟨v1, rfl, hr1, hb1⟩
  have R1 := zaa (hr1.wide BW.out.size (Nat.le_refl _))
  have B1 := zaa (zab BW.out hb1 BW.out.size)
  obtain ⟨-, aL, cL, hvL, -⟩ := hr1.rd
  subst hvL
  clear hr1 hb1
  go_wp2
  go_ret2
  exact ⟨_, rfl, R1.out, B1.out⟩
 have q3 : (k == 3) = false := by rw [beq_eq_false_iff_ne]; exact c3
 by_cases c4 : k = 4
 case pos =>
  rw [if_neg c1, if_neg c2, if_neg c3, if_pos c4]
  have LL := L4
  clear EL L1 L2 L3 L4 L5 L6
  subst c4
  generalize lnI ns ds p t = res at *
  go_enter Tryz.func137, Tryz.ntmps137
  go_wp2_with fail
  rw [← hW]
  clear hW
  refine (LL.out _ BW.out).mono ?_
  rintro e w1 ⟨v1, rfl, hr1, hb1⟩
  have R1 := zaa (hr1.wide BW.out.size (Nat.le_refl _))
  have B1 := zaa (zab BW.out hb1 BW.out.size)
  obtain ⟨-, aL, cL, hvL, -⟩ := hr1.rd
  subst hvL
  clear hr1 hb1
  go_wp2
  go_ret2
  exact ⟨_, rfl, R1.out, B1.out⟩
 have q4 : (k == 4) = false := by rw [beq_eq_false_iff_ne]; exact c4
 by_cases c5 : k = 5
 case pos =>
  rw [if_neg c1, if_neg c2, if_neg c3, if_neg c4, if_pos c5]
  have LL := L5
  clear EL L1 L2 L3 L4 L5 L6
  subst c5
  generalize rnI ns ds p t = res at *
  go_enter Tryz.func137, Tryz.ntmps137
  go_wp2_with fail
  rw [← hW]
  clear hW
  refine (LL.out _ BW.out).mono ?_
  rintro e w1 ⟨v1, rfl, hr1, hb1⟩
  have R1 := zaa (hr1.wide BW.out.size (Nat.le_refl _))
  have B1 := zaa (zab BW.out hb1 BW.out.size)
  obtain ⟨-, aL, cL, hvL, -⟩ := hr1.rd
  subst hvL
  clear hr1 hb1
  go_wp2
  go_ret2
  exact ⟨_, rfl, R1.out, B1.out⟩
 have q5 : (k == 5) = false := by rw [beq_eq_false_iff_ne]; exact c5
 rw [if_neg c1, if_neg c2, if_neg c3, if_neg c4, if_neg c5]
 have LL := L6
 clear EL L1 L2 L3 L4 L5 L6
 generalize cuI ns ds p g = res at *
 go_enter Tryz.func137, Tryz.ntmps137
 go_wp2_with fail
 rw [← hW]
 clear hW
 refine (LL.out _ BW.out).mono ?_
 rintro e w1 ⟨v1, rfl, hr1, hb1⟩
 have R1 := zaa (hr1.wide BW.out.size (Nat.le_refl _))
 have B1 := zaa (zab BW.out hb1 BW.out.size)
 obtain ⟨-, aL, cL, hvL, -⟩ := hr1.rd
 subst hvL
 clear hr1 hb1
 go_wp2
 go_ret2
 exact ⟨_, rfl, R1.out, B1.out⟩
end Go.Proofs.YtcilodgoognmnaaGreatDoor

namespace Go.Proofs.YtcilodgoognmnaaGreatDoor
open Go.RowKit
theorem zsc {i : Nat} (hi : i < 16) {f : Int} (hf : 0 ≤ f ∧ f < 11) (x : Int) : UpIn [⟨48 + 12 * (i : Int) + f, x⟩] := fun u hu => by
 rw [List.mem_singleton.1 hu]
 exact ⟨by show 48 ≤ 48 + 12 * (i : Int) + f; omega, by show 48 + 12 * (i : Int) + f < 312; omega⟩
theorem mk_in {ws : List Ino} {ps : List Den} {s : ByteArray} {kind : Int} {us : List Se} (h : Img ws ps) (e : mkI ws ps s kind = (us, 0)) : UpIn us ∧ us.length ≤ 16 := by
 unfold mkI at e
 by_cases c : (paI ws ps s).2.2 = 0
 ·rw [if_pos c] at e
  unfold mkN at e
  split at e
  ·simp at e
  ·split at e
   ·simp at e
   ·rename_i f1
    split at e
    ·simp at e
    ·rename_i f2
     obtain ⟨rfl, -⟩ := Prod.mk.inj e
     obtain ⟨i, ei, hi, -⟩ := fi_free h f1
     obtain ⟨k, ek, hk, -⟩ := fe_free h f2
     rw [ei, ek]
     unfold mkU
     refine ⟨UpIn.app (fun u hu => ?_) (zui hk _), by simp [enL]⟩
     rcases List.mem_cons.1 hu with rfl | hu
     ·exact ⟨by show 48 ≤ 48 + 12 * (i : Int); omega, by show 48 + 12 * (i : Int) < 312; omega⟩
     ·exact zsc hi (by omega) 1 u hu
 ·rw [if_neg c] at e
  exact absurd (Prod.mk.inj e).2 c
theorem wrL_in {i : Nat} (hi : i < 16) (x : Ino) {k : Nat} (hk : k ≤ 8) : UpIn (wrL (i : Int) x k) := by
 unfold wrL
 refine UpIn.app (fun u hu => ?_) (fun u hu => ?_)
 ·simp only [List.mem_cons, List.not_mem_nil, or_false] at hu
  rcases hu with rfl | rfl | rfl
  ·exact ⟨by show 48 ≤ 48 + 12 * (i : Int); omega, by show 48 + 12 * (i : Int) < 312; omega⟩
  ·exact ⟨by show 48 ≤ 48 + 12 * (i : Int) + 1; omega, by show 48 + 12 * (i : Int) + 1 < 312; omega⟩
  ·exact ⟨by show 48 ≤ 48 + 12 * (i : Int) + 2; omega, by show 48 + 12 * (i : Int) + 2 < 312; omega⟩
 ·obtain ⟨j, hj, rfl⟩ := List.mem_map.1 hu
  have := List.mem_range.1 hj
  exact ⟨by show 48 ≤ 48 + 12 * (i : Int) + (3 + (j : Int)); omega, by show 48 + 12 * (i : Int) + (3 + (j : Int)) < 312; omega⟩
theorem rm_in {ws : List Ino} {ps : List Den} {s : ByteArray} {us : List Se} (h : Img ws ps) (e : rmI ws ps s = (us, 0)) : UpIn us ∧ us.length ≤ 16 := by
 unfold rmI at e
 by_cases c : (paI ws ps s).2.2 = 0
 ·rw [if_pos c] at e
  unfold rmN at e
  cases q : zbb ps (paI ws ps s).1 (paI ws ps s).2.1 with
  | none => rw [q] at e; simp at e
  | some k =>
   rw [q] at e
   simp only at e
   obtain ⟨hk, i, ei, _, hi, -⟩ := zrm h q
   unfold rmC at e
   split at e
   ·simp at e
   ·obtain ⟨rfl, -⟩ := Prod.mk.inj e
    rw [ei]
    unfold rmU
    split
    ·exact ⟨UpIn.app (zui hk _) (zsc hi (by omega) _), by simp [enL]⟩
    ·exact ⟨UpIn.app (zui hk _) (wrL_in hi _ (Nat.le_refl _)), by rw [List.length_append, zsv]; simp [enL]⟩
 ·rw [if_neg c] at e
  exact absurd (Prod.mk.inj e).2 c
theorem ln_in {ws : List Ino} {ps : List Den} {s t : ByteArray} {us : List Se} (h : Img ws ps) (e : lnI ws ps s t = (us, 0)) : UpIn us ∧ us.length ≤ 16 := by
 unfold lnI at e
 by_cases c0 : (lkI ws ps s).2 = 0
 ·rw [if_pos c0] at e
  split at e
  ·simp at e
  ·rename_i kk
   obtain ⟨i, ei, hi, _, _⟩ := znj h c0 kk
   unfold lnP at e
   by_cases c : (paI ws ps t).2.2 = 0
   ·rw [if_pos c] at e
    unfold lnN at e
    split at e
    ·simp at e
    ·split at e
     ·simp at e
     ·rename_i f2
      obtain ⟨rfl, -⟩ := Prod.mk.inj e
      obtain ⟨k, ek, hk, -⟩ := fe_free h f2
      rw [ei, ek]
      exact ⟨UpIn.app (zui hk _) (zsc hi (by omega) _), by simp [enL]⟩
   ·rw [if_neg c] at e
    exact absurd (Prod.mk.inj e).2 c
 ·rw [if_neg c0] at e
  exact absurd (Prod.mk.inj e).2 c0
theorem rn_in {ws : List Ino} {ps : List Den} {s t : ByteArray} {us : List Se} (h : Img ws ps) (e : rnI ws ps s t = (us, 0)) : UpIn us ∧ us.length ≤ 16 := by
 unfold rnI at e
 by_cases c : (paI ws ps s).2.2 = 0
 ·rw [if_pos c] at e
  unfold rnE at e
  cases q : zbb ps (paI ws ps s).1 (paI ws ps s).2.1 with
  | none => rw [q] at e; simp at e
  | some k =>
   rw [q] at e
   simp only at e
   obtain ⟨hk, -⟩ := zrm h q
   unfold rnP at e
   by_cases d : (paI ws ps t).2.2 = 0
   ·rw [if_pos d] at e
    unfold rnN at e
    split at e
    ·simp at e
    ·split at e
     ·simp at e
     ·obtain ⟨rfl, -⟩ := Prod.mk.inj e
      exact ⟨zui hk _, by simp [enL]⟩
   ·rw [if_neg d] at e
    exact absurd (Prod.mk.inj e).2 d
 ·rw [if_neg c] at e
  exact absurd (Prod.mk.inj e).2 c
end Go.Proofs.YtcilodgoognmnaaGreatDoor
