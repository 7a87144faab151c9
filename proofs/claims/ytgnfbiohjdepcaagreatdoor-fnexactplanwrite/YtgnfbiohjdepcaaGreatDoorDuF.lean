/- A page is written: by the program. -/
import Derived.Test.YtgnfbiohjdepcaaGreatDoorZBL
import Derived.Test.YtgnfbiohjdepcaaGreatDoorDuE
import Derived.Test.YtgnfbiohjdepcaaGreatDoorDtH
import Derived.Test.YtgnfbiohjdepcaaGreatDoorJiI
namespace Go.Proofs.YtgnfbiohjdepcaaGreatDoor
open Go.RowKit
def npT (ns : List Ino) : Int := if 0 ≤ fpI ns then 1 else 2
def npA (ns : List Ino) : Int := if 0 ≤ fpI ns then fpI ns else tellV (fsI ns)
def npC (ns : List Ino) : Int := if 0 ≤ fpI ns then 0 else tellC (fsI ns)
theorem fp_bound (ns : List Ino) : fpI ns < 24 := by
  have := (first_bound (fun i => !hasB (usedOf (mapped ns) 1) (i : Int)) 24).2
  unfold fpI
  omega
theorem fs_bound (ns : List Ino) : fsI ns < 32 := by
  have := (first_bound (fun i => !hasB (usedOf (mapped ns) 2) (i : Int)) 32).2
  unfold fsI
  omega
set_option maxRecDepth 100000 in
set_option maxHeartbeats 4000000 in
theorem newPlace_any (v : Value) (ns : List Ino) (ds : List Den) (w : World) (h : RdIm w v ns ds) (hi : imgB ns ds = true) (hw : ns.length ≤ 1048576) (hp : ds.length ≤ 1048576) (hT : TS w) (hE : ED w) (hF : FD w) (hr : ∀ k (h : k < ns.length), ns[k].R) (hs : ∀ k (h : k < ds.length), ds[k].name.size ≤ maxLen) :
    Calls Tryz.prog 35 #[v] w fun e w' => e = .returned (.tuple #[.int .i64 (npT ns), .int .i64 (npA ns), .int .i64 (npC ns)]) ∧ Below w.heap.size w w' := by
  have L1 := hideIt (fun w1 (hb : Below w.heap.size w w1) => implFreePage_any v ns ds w1 (h.below hb) hw hp (hT.below hb) (hE.below hb) (hF.below hb) hr hs)
  have L2 := hideIt (fun w1 (hb : Below w.heap.size w w1) => implFreeSector_any v ns ds w1 (h.below hb) hw hp (hT.below hb) (hE.below hb) (hF.below hb) hr hs)
  rw [hi, show firstIx (fun i => !hasB (usedOf (mapped ns) 1) (i : Int)) 24 = fpI ns from rfl, show fpV true (fpI ns) = tellV (fpI ns) from rfl, show fpC true (fpI ns) = tellC (fpI ns) from rfl] at L1
  rw [hi, show firstIx (fun i => !hasB (usedOf (mapped ns) 2) (i : Int)) 32 = fsI ns from rfl, show fpV true (fsI ns) = tellV (fsI ns) from rfl, show fpC true (fsI ns) = tellC (fsI ns) from rfl] at L2
  have E1 := hideIt (show npT ns = if 0 ≤ fpI ns then 1 else 2 from rfl)
  have E2 := hideIt (show npA ns = if 0 ≤ fpI ns then fpI ns else tellV (fsI ns) from rfl)
  have E3 := hideIt (show npC ns = if 0 ≤ fpI ns then 0 else tellC (fsI ns) from rfl)
  obtain ⟨vW, vP, rfl, h1, h2⟩ := h
  obtain ⟨aW, cW, rfl, _, _⟩ := h1.shape
  obtain ⟨aP, cP, rfl, _, _⟩ := h2.shape
  clear h1 h2 hr hs hT hE hF
  obtain ⟨W, hW⟩ : ∃ W, W = w.alloc (.cells #[.slice aW ns.length cW, .slice aP ds.length cP] 62) := ⟨_, rfl⟩
  have CA : Hid (∀ w', Below W.heap.size W w' → w'.cell? ⟨w.heap.size, 0, none⟩ = some (.slice aW ns.length cW) ∧ w'.cell? ⟨w.heap.size, 1, none⟩ = some (.slice aP ds.length cP)) := fun w' hb => by
    have : w'.heap[w.heap.size]? = some (.cells #[.slice aW ns.length cW, .slice aP ds.length cP] 62 (0, 0)) := (hb.block _ (by rw [hW]; simp)).trans (by rw [hW]; exact at_new rfl)
    exact ⟨(two_cells this).1, (two_cells this).2.1⟩
  have BW : Hid (Below w.heap.size w W) := by rw [hW]; exact (Below.refl _ _).alloc (Nat.le_refl _) _
  obtain ⟨x0, x1⟩ := CA.out _ (Below.refl _ _)
  rw [hW] at x0 x1
  generalize npT ns = r1 at *
  generalize npA ns = r2 at *
  generalize npC ns = r3 at *
  generalize fpI ns = fp at *
  generalize fsI ns = fs at *
  go_enter Tryz.func35, Tryz.ntmps35
  go_wp2_with fail
  rw [← hW]
  clear hW x0 x1
  refine (L1.out _ BW.out).mono ?_
  rintro e w1 ⟨rfl, hb1⟩
  have A1 := hideIt hb1
  have B1 := hideIt (below_trans BW.out A1.out BW.out.size)
  clear hb1 L1
  by_cases c : 0 ≤ fp
  · rw [if_pos c] at E1 E2 E3
    rw [show tellV fp = fp from if_neg (by omega), show tellC fp = 0 from if_neg (by omega)]
    obtain rfl := E1.out
    obtain rfl := E2.out
    obtain rfl := E3.out
    clear E1 E2 E3
    go_wp2
    go_ret3
    exact ⟨rfl, B1.out⟩
  · rw [if_neg c] at E1 E2 E3
    rw [show tellV fp = 0 from if_pos (by omega), show tellC fp = 7 from if_pos (by omega)]
    obtain rfl := E1.out
    obtain rfl := E2.out
    obtain rfl := E3.out
    clear E1 E2 E3 c
    obtain ⟨x0, x1⟩ := CA.out _ A1.out
    go_wp2_with fail
    refine (L2.out _ B1.out).mono ?_
    rintro e w2 ⟨rfl, hb2⟩
    have B2 := hideIt (below_trans B1.out hb2 B1.out.size)
    clear hb2 x0 x1
    go_wp2
    go_ret3
    exact ⟨rfl, B2.out⟩
theorem sure_one (m : Mi) : sureL [[m]] 1 = m :: flushL [m.at_] := by simp [sureL, segM, atsA]
set_option maxRecDepth 100000 in
set_option maxHeartbeats 4000000 in
theorem placeOne_any (a x : Int) (w : World) (ha : 0 ≤ a ∧ a < 24) :
    Calls Tryz.prog 39 #[.int .i64 1, .int .i64 a, .int .i64 x] w fun e w' => ∃ v', e = .returned v' ∧ Row w' 91 3 w.heap.size w'.heap.size v' (⟨1, 312 + a, x⟩ :: flushL [312 + a] : List Mi).length (mis (⟨1, 312 + a, x⟩ :: flushL [312 + a])) ∧ Below w.heap.size w w' := by
  have ES : Hid (sureL [[⟨1, 312 + a, x⟩]] 1 = (⟨1, 312 + a, x⟩ :: flushL [312 + a] : List Mi)) := sure_one _
  have wp : IntKind.i64.wrap (312 + a) = 312 + a := by rw [IntKind.wrap_i64]; omega
  obtain ⟨W, hW⟩ : ∃ W, W = (w.alloc (.cells #[.int .i64 1, .int .i64 (312 + a), .int .i64 x] 91)).alloc (.cells #[.slice (some ⟨w.heap.size, 0, none⟩) 1 1] 45) := ⟨_, rfl⟩
  have hzW : W.heap.size = w.heap.size + 1 + 1 := by rw [hW]; simp
  have BW : Hid (Below w.heap.size w W) := by rw [hW]; exact ((Below.refl _ _).alloc (Nat.le_refl _) _).alloc (by simp) _
  have BI : Hid (Below (w.alloc (.cells #[.int .i64 1, .int .i64 (312 + a), .int .i64 x] 91)).heap.size (w.alloc (.cells #[.int .i64 1, .int .i64 (312 + a), .int .i64 x] 91)) W) := by rw [hW]; exact (Below.refl _ _).alloc (Nat.le_refl _) _
  have LS := hideIt (surePlan_any (w.heap.size + 1) 0 1 [[⟨1, 312 + a, x⟩]] W (by omega) (by simp) (fun k hk => by
      obtain rfl : k = 0 := by simp at hk; omega
      refine ⟨some ⟨w.heap.size, 0, none⟩, 1, ?_, ?_⟩
      · have q : W.heap[w.heap.size + 1]? = some (.cells ([.slice (some ⟨w.heap.size, 0, none⟩) 1 1] : List Value).toArray 45 (0, 0)) := by
          rw [hW]
          have := at_new (w := w.alloc (.cells #[.int .i64 1, .int .i64 (312 + a), .int .i64 x] 91)) (o := .cells #[.slice (some ⟨w.heap.size, 0, none⟩) 1 1] 45) rfl
          rw [World.size_alloc] at this
          exact this
        exact (eight_at q 0).1
      · exact Rd.below (rd_mic w 1 (312 + a) x) BI.out) (fun k hk => by
      obtain rfl : k = 0 := by simp at hk; omega
      refine ⟨by simp, fun j hj => ?_⟩
      obtain rfl : j = 0 := by simp at hj; omega
      exact ⟨by show 0 ≤ 312 + a; omega, by show 312 + a < 336; omega⟩))
  rw [show ([[⟨1, 312 + a, x⟩]] : List (List Mi)).length = 1 from rfl, ES.out] at LS
  clear ES hzW BI ha
  generalize (⟨1, 312 + a, x⟩ :: flushL [312 + a] : List Mi) = L at *
  go_enter Tryz.func39, Tryz.ntmps39
  go_wp2_with fail
  rw [← hW]
  clear hW
  refine LS.out.mono ?_
  rintro e w1 ⟨v1, rfl, hr1, hb1⟩
  have B1 := hideIt (below_trans BW.out hb1 BW.out.size)
  have R1 := hideIt (hr1.wide (lo' := w.heap.size) (hi' := w1.heap.size) BW.out.size (Nat.le_refl _))
  obtain ⟨-, a1, c1, hv1, -⟩ := hr1.rd
  subst hv1
  clear hr1 hb1 LS
  go_wp2
  go_ret
  exact ⟨_, rfl, R1.out, B1.out⟩
set_option maxRecDepth 100000 in
set_option maxHeartbeats 4000000 in
theorem placeTwo_any (a x : Int) (w : World) :
    Calls Tryz.prog 39 #[.int .i64 2, .int .i64 a, .int .i64 x] w fun e w' => ∃ v', e = .returned v' ∧ Row w' 91 3 w.heap.size w'.heap.size v' ([⟨4, a, x⟩, ⟨5, 0, 0⟩] : List Mi).length (mis [⟨4, a, x⟩, ⟨5, 0, 0⟩]) ∧ Below w.heap.size w w' := by
  go_enter Tryz.func39, Tryz.ntmps39
  go_wp2
  go_ret
  exact ⟨_, rfl, own_block (World.ownsRow_lit w _ 2 (Nat.le_refl _) (by simp [maxLen]) rfl), (Below.refl _ _).alloc (Nat.le_refl _) _⟩
theorem place_any (ns : List Ino) (x : Int) (w : World) (h : npC ns = 0) :
    Calls Tryz.prog 39 #[.int .i64 (npT ns), .int .i64 (npA ns), .int .i64 x] w fun e w' => ∃ v', e = .returned v' ∧ Row w' 91 3 w.heap.size w'.heap.size v' (wrS ns x).length (mis (wrS ns x)) ∧ Below w.heap.size w w' := by
  unfold npT npA wrS
  unfold npC at h
  have b1 := fp_bound ns
  by_cases c : 0 ≤ fpI ns
  · rw [if_pos c, if_pos c, if_pos c]
    exact placeOne_any (fpI ns) x w ⟨c, b1⟩
  · rw [if_neg c] at h
    rw [if_neg c, if_neg c, if_neg c, show tellV (fsI ns) = fsI ns from if_neg (fun q => by rw [show tellC (fsI ns) = 7 from if_pos q] at h; omega)]
    exact placeTwo_any (fsI ns) x w
theorem np_full (ns : List Ino) : (¬ npC ns = 0 ∧ npC ns = 7 ∧ (fpI ns < 0 ∧ fsI ns < 0)) ∨ (npC ns = 0 ∧ ¬ (fpI ns < 0 ∧ fsI ns < 0) ∧ entV (npT ns) (npA ns) = wrE ns) := by
  unfold npC npT npA wrE entV addrB
  have b1 := fp_bound ns
  have b2 := fs_bound ns
  by_cases c : 0 ≤ fpI ns
  · rw [if_pos c, if_pos c, if_pos c, if_pos c]
    exact .inr ⟨rfl, by omega, by rw [if_pos (by simp; omega)]⟩
  · rw [if_neg c, if_neg c, if_neg c, if_neg c]
    by_cases d : fsI ns < 0
    · rw [show tellC (fsI ns) = 7 from if_pos d]
      exact .inl ⟨by omega, rfl, by omega, d⟩
    · rw [show tellC (fsI ns) = 0 from if_neg d, show tellV (fsI ns) = fsI ns from if_neg d]
      exact .inr ⟨rfl, fun q => d q.2, by rw [if_pos (by simp; omega)]⟩
theorem wrE_word (ns : List Ino) (h : ¬ (fpI ns < 0 ∧ fsI ns < 0)) : 0 ≤ wrE ns ∧ wrE ns < 1048576 := by
  unfold wrE
  have b1 := fp_bound ns
  have b2 := fs_bound ns
  by_cases c : 0 ≤ fpI ns
  · rw [if_pos c]
    omega
  · rw [if_neg c]
    omega
theorem wr_journal {i page size e : Int} (hi : 0 ≤ i ∧ i < 16) (hp : 0 ≤ page ∧ page < 8) (he : 0 ≤ e ∧ e < 1048576) : jpC (wrU i page size e) = 0 ∧ jpL (wrU i page size e) = planL (upsL (wrU i page size e)) := by
  have l := wrU_len i page size e
  have u : upsB (wrU i page size e) = true := by
    refine decide_eq_true fun k hk => ?_
    have m := List.getElem_mem hk
    revert m
    generalize (wrU i page size e)[k] = z
    unfold wrU
    intro m
    rcases List.mem_cons.1 m with rfl | m
    · exact ⟨by show 48 ≤ 48 + 12 * i + (3 + page) ∧ 48 + 12 * i + (3 + page) < 336; omega, by show 0 ≤ e ∧ e < 1099511627776; omega⟩
    · split at m
      · rw [List.mem_singleton.1 m]
        exact ⟨by show 48 ≤ 48 + 12 * i + 1 ∧ 48 + 12 * i + 1 < 336; omega, by show 0 ≤ page + 1 ∧ page + 1 < 1099511627776; omega⟩
      · cases m
  rcases jp_cases (wrU i page size e) with ⟨c, _⟩ | ⟨_, c, _⟩ | ⟨_, _, c, _⟩ | ⟨_, _, _, c⟩
  · omega
  · omega
  · rw [u] at c; cases c
  · exact c
theorem wr_form {ws : List Int} {ps : List St} {es : List Int} {qs : List Se} {s : ByteArray} {page y : Int} : wrR ws ps es qs s page y = if (flR (dvN ws ps es qs) (dvD ws ps es qs) s).2 = 0 then wrF (dvN ws ps es qs) (flR (dvN ws ps es qs) (dvD ws ps es qs) s).1 page y else ([], (flR (dvN ws ps es qs) (dvD ws ps es qs) s).2) := by
  unfold wrR flR
  rw [dv_img]
  by_cases c : 65536 < s.size
  · rw [if_pos c, if_pos c]
    rfl
  · rw [if_neg c, if_neg c]
    by_cases d : dvB ws ps es qs = true
    · rw [if_pos d, if_pos d, ← (dv_yes d).2.2.1, ← (dv_yes d).2.2.2.1]
      rfl
    · rw [if_neg d, if_neg d]
      rfl
theorem mi_nil {w w1 : World} {c : Int} (B : Below w.heap.size w w1) : MiOut w w1 (.returned (.tuple #[.slice none 0 0, .int .i64 c])) ([], c) := ⟨_, rfl, Row.nil _ _ _ _ _, B⟩
set_option maxRecDepth 100000 in
set_option maxHeartbeats 16000000 in
theorem implPlanWrite_any (v : Value) (ws : List Int) (ps : List St) (es : List Int) (qs : List Se) (s : ByteArray) (page y : Int) (w : World) (h : RdDev w v ws ps es qs) (hw : ws.length ≤ 1048576) (hp : ps.length ≤ 1048576) (he : es.length ≤ 1048576) (hq : qs.length ≤ 1048576) (hT : TS w) (hE : ED w) (hF : FD w) :
    Calls Tryz.prog 12 #[v, .string s, .int .i64 page, .int .i64 y] w fun e w' => MiOut w w' e (wrR ws ps es qs s page y) := by
  have LI := hideIt (fun w1 (hb : Below w.heap.size w w1) => seenImage_any v ws ps es qs w1 (h.below hb) hw hp he hq (hT.below hb) (hE.below hb) (hF.below hb))
  have LF := hideIt (fun v2 w1 (hb : Below w.heap.size w w1) h2 => fileToWrite_any v2 (dvN ws ps es qs) (dvD ws ps es qs) s page y w1 h2 (dv_len ws ps es qs).1 (dv_len ws ps es qs).2 (hT.below hb) (hE.below hb) (hF.below hb) dv_R dv_name)
  have LN := hideIt (fun hi v2 w1 (hb : Below w.heap.size w w1) h2 => newPlace_any v2 (dvN ws ps es qs) (dvD ws ps es qs) w1 h2 hi (dv_len ws ps es qs).1 (dv_len ws ps es qs).2 (hT.below hb) (hE.below hb) (hF.below hb) dv_R dv_name)
  have LE := hideIt (fun t a w1 (hb : Below w.heap.size w w1) => implPackEntry_any t a w1 (hT.below hb))
  have LA := hideIt (fun w1 h => place_any (dvN ws ps es qs) y w1 h)
  have EL := hideIt (wr_form (ws := ws) (ps := ps) (es := es) (qs := qs) (s := s) (page := page) (y := y))
  have FL := hideIt (fun h => dv_fl (ws := ws) (ps := ps) (es := es) (qs := qs) (s := s) h)
  have NP := hideIt (np_full (dvN ws ps es qs))
  have WE := hideIt (wrE_word (dvN ws ps es qs))
  have EF : Hid (∀ i : Nat, ∀ x, x = inoAt (dvN ws ps es qs) i → wrF (dvN ws ps es qs) (i : Int) page y = if (0 ≤ page ∧ page < 8) ∧ wordB y = true then (if fpI (dvN ws ps es qs) < 0 ∧ fsI (dvN ws ps es qs) < 0 then ([], 7) else (wrS (dvN ws ps es qs) y ++ planL (upsL (wrU (i : Int) page x.size (wrE (dvN ws ps es qs)))), 0)) else ([], 4)) := fun i x e => by rw [e]; rfl
  have SL : Hid ((wrS (dvN ws ps es qs) y).length ≤ 1000) := by
    unfold Hid wrS
    split
    · have := flushL_len [312 + fpI (dvN ws ps es qs)]
      simp only [List.length_cons, List.length_nil] at this ⊢
      omega
    · simp
  obtain ⟨dW, eW, dP, eP, dS, eS, dQ, eQ, rfl, -, -⟩ := h.form
  clear h hT hE hF
  obtain ⟨W, hW⟩ : ∃ W, W = w.alloc (.cells #[.slice dW ws.length eW, .slice dP ps.length eP, .slice dS es.length eS, .slice dQ qs.length eQ] 41) := ⟨_, rfl⟩
  have BW : Hid (Below w.heap.size w W) := by rw [hW]; exact (Below.refl _ _).alloc (Nat.le_refl _) _
  obtain ⟨x0, x1, x2, x3, -, -, -, -⟩ := four_cells (at_new (w := w) (o := .cells #[.slice dW ws.length eW, .slice dP ps.length eP, .slice dS es.length eS, .slice dQ qs.length eQ] 41) rfl)
  generalize dvN ws ps es qs = dn at *
  generalize dvD ws ps es qs = dd at *
  generalize wrR ws ps es qs s page y = res at *
  generalize flR dn dd s = lr at *
  obtain ⟨li, lc⟩ := lr
  obtain ⟨x, hx⟩ : ∃ x, x = faI dn (li, lc) := ⟨_, rfl⟩
  have LF2 := hideIt (fun v2 w1 hb h2 => LF.out v2 w1 hb h2 x li lc hx rfl)
  have HX := hideIt hx
  simp only at EL FL
  clear LF hx
  -- nothing is planned: the code is told
  have FAIL : ∀ c : Int, ¬ c = 0 → res = ([], c) → FtIs x li lc ((0 ≤ page ∧ page < 8) ∧ wordB y = true) zeroN 0 c → Calls Tryz.prog 12 #[.agg #[.slice dW ws.length eW, .slice dP ps.length eP, .slice dS es.length eS, .slice dQ qs.length eQ], .string s, .int .i64 page, .int .i64 y] w fun e w' => MiOut w w' e res := by
    rintro c cn rfl hq
    have LF3 := hideIt (fun v2 w1 hb h2 => LF2.out v2 w1 hb h2 zeroN 0 c hq)
    have q : (c != 0) = true := by rw [bne_iff_ne]; exact cn
    clear EL FL EF HX LF2 hq cn LN LE LA NP WE SL
    go_enter Tryz.func12, Tryz.ntmps12
    go_wp2_with fail
    rw [← hW]
    clear hW x0 x1 x2 x3
    refine (LI.out _ BW.out).mono ?_
    rintro e w1 ⟨v1, rfl, hR, hb1⟩
    have HR := hideIt hR
    obtain ⟨vI, vD, rfl, hI, hD⟩ := hR
    obtain ⟨-, a1, k1, hv1, -⟩ := hI.rd
    obtain ⟨-, a2, k2, hv2, -⟩ := hD.rd
    subst hv1
    subst hv2
    have B1 := hideIt (below_trans BW.out hb1 BW.out.size)
    have BC : Hid (Below w1.heap.size w1 (w1.alloc (.cells #[.slice a1 dn.length k1, .slice a2 dd.length k2] 62))) := (Below.refl _ _).alloc (Nat.le_refl _) _
    have VM : Hid ((w1.alloc (.cells #[.slice a1 dn.length k1, .slice a2 dd.length k2] 62)).heap[w1.heap.size]? = some (.cells #[.slice a1 dn.length k1, .slice a2 dd.length k2] 62 (0, 0))) := at_new rfl
    obtain ⟨w2, hw2⟩ : ∃ w2, w2 = w1.alloc (.cells #[.slice a1 dn.length k1, .slice a2 dd.length k2] 62) := ⟨_, rfl⟩
    obtain ⟨y0, y1, _, _⟩ := two_cells VM.out
    rw [← hw2] at BC VM
    have B2 := hideIt (below_trans B1.out BC.out B1.out.size)
    have R2 := hideIt (HR.out.below BC.out (Nat.le_refl _)).rd
    have hz2 : w1.heap.size < w2.heap.size := (Array.getElem?_eq_some_iff.1 VM.out).1
    have CI : Hid (∀ w', Below w2.heap.size w2 w' → w'.cell? ⟨w1.heap.size, 0, none⟩ = some (.slice a1 dn.length k1) ∧ w'.cell? ⟨w1.heap.size, 1, none⟩ = some (.slice a2 dd.length k2)) := fun w' hb => by
      have q := (hb.block _ hz2).trans VM.out
      exact ⟨(two_cells q).1, (two_cells q).2.1⟩
    clear hb1 HR hI hD LI B1 BC VM
    go_wp2_with fail
    rw [← hw2]
    clear hw2 y0 y1
    refine (LF3.out _ _ B2.out R2.out).mono ?_
    rintro e w3 ⟨rfl, hb3⟩
    have B3 := hideIt (below_trans B2.out hb3 B2.out.size)
    have C3 := hideIt hb3
    clear hb3 LF3
    have BX := hideIt (B3.out.alloc B3.out.size (.cells #[.int .i64 zeroN.kind, .int .i64 zeroN.size, .int .i64 zeroN.links, .int .i64 zeroN.m0, .int .i64 zeroN.m1, .int .i64 zeroN.m2, .int .i64 zeroN.m3, .int .i64 zeroN.m4, .int .i64 zeroN.m5, .int .i64 zeroN.m6, .int .i64 zeroN.m7, .int .i64 0] 72))
    go_wp2
    go_ret2
    exact mi_nil BX.out
  by_cases cl : lc = 0
  case neg => exact FAIL lc cl (by rw [if_neg cl] at EL; exact EL.out) (.inl ⟨cl, rfl, rfl, rfl⟩)
  subst cl
  rw [if_pos rfl] at EL
  obtain ⟨-, -, hi, i, i16, ei⟩ := FL.out rfl
  have LN2 := hideIt (LN.out hi)
  subst ei
  have hx : x = inoAt dn i := HX.out.trans ((if_pos rfl).trans (by simp only [Int.toNat_natCast]))
  rw [EF.out i x hx] at EL
  by_cases cc : (0 ≤ page ∧ page < 8) ∧ wordB y = true
  case neg => exact FAIL 4 (by decide) (by rw [if_neg cc] at EL; exact EL.out) (.inr (.inl ⟨rfl, cc, rfl, rfl, rfl⟩))
  clear FAIL FL EF HX hx LN hi
  rw [if_pos cc] at EL
  have LF3 := hideIt (fun v2 w1 hb h2 => LF2.out v2 w1 hb h2 x i 0 (.inr (.inr ⟨rfl, cc, rfl, rfl, rfl⟩)))
  obtain ⟨c, cy⟩ := cc
  clear LF2 cy
  go_enter Tryz.func12, Tryz.ntmps12
  go_wp2_with fail
  rw [← hW]
  clear hW x0 x1 x2 x3
  refine (LI.out _ BW.out).mono ?_
  rintro e w1 ⟨v1, rfl, hR, hb1⟩
  have HR := hideIt hR
  obtain ⟨vI, vD, rfl, hI, hD⟩ := hR
  obtain ⟨-, a1, k1, hv1, -⟩ := hI.rd
  obtain ⟨-, a2, k2, hv2, -⟩ := hD.rd
  subst hv1
  subst hv2
  have B1 := hideIt (below_trans BW.out hb1 BW.out.size)
  have BC : Hid (Below w1.heap.size w1 (w1.alloc (.cells #[.slice a1 dn.length k1, .slice a2 dd.length k2] 62))) := (Below.refl _ _).alloc (Nat.le_refl _) _
  have VM : Hid ((w1.alloc (.cells #[.slice a1 dn.length k1, .slice a2 dd.length k2] 62)).heap[w1.heap.size]? = some (.cells #[.slice a1 dn.length k1, .slice a2 dd.length k2] 62 (0, 0))) := at_new rfl
  obtain ⟨w2, hw2⟩ : ∃ w2, w2 = w1.alloc (.cells #[.slice a1 dn.length k1, .slice a2 dd.length k2] 62) := ⟨_, rfl⟩
  obtain ⟨y0, y1, _, _⟩ := two_cells VM.out
  rw [← hw2] at BC VM
  have B2 := hideIt (below_trans B1.out BC.out B1.out.size)
  have R2 := hideIt (HR.out.below BC.out (Nat.le_refl _)).rd
  have hz2 : w1.heap.size < w2.heap.size := (Array.getElem?_eq_some_iff.1 VM.out).1
  have CI : Hid (∀ w', Below w2.heap.size w2 w' → w'.cell? ⟨w1.heap.size, 0, none⟩ = some (.slice a1 dn.length k1) ∧ w'.cell? ⟨w1.heap.size, 1, none⟩ = some (.slice a2 dd.length k2)) := fun w' hb => by
    have q := (hb.block _ hz2).trans VM.out
    exact ⟨(two_cells q).1, (two_cells q).2.1⟩
  clear hb1 HR hI hD LI B1 BC VM
  go_wp2_with fail
  rw [← hw2]
  clear hw2 y0 y1
  refine (LF3.out _ _ B2.out R2.out).mono ?_
  rintro e w3 ⟨rfl, hb3⟩
  have B3 := hideIt (below_trans B2.out hb3 B2.out.size)
  have C3 := hideIt hb3
  clear hb3 LF3
  have BX := hideIt (B3.out.alloc B3.out.size (.cells #[.int .i64 x.kind, .int .i64 x.size, .int .i64 x.links, .int .i64 x.m0, .int .i64 x.m1, .int .i64 x.m2, .int .i64 x.m3, .int .i64 x.m4, .int .i64 x.m5, .int .i64 x.m6, .int .i64 x.m7, .int .i64 (i : Int)] 72))
  have VX : Hid ((w3.alloc (.cells #[.int .i64 x.kind, .int .i64 x.size, .int .i64 x.links, .int .i64 x.m0, .int .i64 x.m1, .int .i64 x.m2, .int .i64 x.m3, .int .i64 x.m4, .int .i64 x.m5, .int .i64 x.m6, .int .i64 x.m7, .int .i64 (i : Int)] 72)).heap[w3.heap.size]? = some (.cells (x.fa (i : Int)).toArray 72 (0, 0))) := at_new rfl
  have CX := hideIt (C3.out.alloc C3.out.size (.cells #[.int .i64 x.kind, .int .i64 x.size, .int .i64 x.links, .int .i64 x.m0, .int .i64 x.m1, .int .i64 x.m2, .int .i64 x.m3, .int .i64 x.m4, .int .i64 x.m5, .int .i64 x.m6, .int .i64 x.m7, .int .i64 (i : Int)] 72))
  obtain ⟨w4, hw4⟩ : ∃ w4, w4 = w3.alloc (.cells #[.int .i64 x.kind, .int .i64 x.size, .int .i64 x.links, .int .i64 x.m0, .int .i64 x.m1, .int .i64 x.m2, .int .i64 x.m3, .int .i64 x.m4, .int .i64 x.m5, .int .i64 x.m6, .int .i64 x.m7, .int .i64 (i : Int)] 72) := ⟨_, rfl⟩
  rw [← hw4] at VX BX CX
  have hz4 : w3.heap.size < w4.heap.size := (Array.getElem?_eq_some_iff.1 VX.out).1
  have KE : Hid (∀ w', Below w4.heap.size w4 w' → w'.cell? ⟨w3.heap.size, 0, none⟩ = some (.int .i64 x.kind) ∧ w'.cell? ⟨w3.heap.size, 1, none⟩ = some (.int .i64 x.size) ∧ w'.cell? ⟨w3.heap.size, 2, none⟩ = some (.int .i64 x.links) ∧ w'.cell? ⟨w3.heap.size, 3, none⟩ = some (.int .i64 x.m0) ∧ w'.cell? ⟨w3.heap.size, 4, none⟩ = some (.int .i64 x.m1) ∧ w'.cell? ⟨w3.heap.size, 5, none⟩ = some (.int .i64 x.m2) ∧ w'.cell? ⟨w3.heap.size, 6, none⟩ = some (.int .i64 x.m3) ∧ w'.cell? ⟨w3.heap.size, 7, none⟩ = some (.int .i64 x.m4) ∧ w'.cell? ⟨w3.heap.size, 8, none⟩ = some (.int .i64 x.m5) ∧ w'.cell? ⟨w3.heap.size, 9, none⟩ = some (.int .i64 x.m6) ∧ w'.cell? ⟨w3.heap.size, 10, none⟩ = some (.int .i64 x.m7) ∧ w'.cell? ⟨w3.heap.size, 11, none⟩ = some (.int .i64 (i : Int))) := fun w' hb => by
    have q := (hb.block _ hz4).trans VX.out
    exact ⟨(eight_at q 0).1, (eight_at q 1).1, (eight_at q 2).1, (eight_at q 3).1, (eight_at q 4).1, (eight_at q 5).1, (eight_at q 6).1, (eight_at q 7).1, (eight_at q 8).1, (eight_at q 9).1, (eight_at q 10).1, (eight_at q 11).1⟩
  clear VX B3 C3
  obtain ⟨x0, x1⟩ := CI.out _ CX.out
  rw [hw4] at x0 x1
  go_wp2_with fail
  rw [← hw4]
  clear hw4
  refine (LN2.out _ _ BX.out (R2.out.below CX.out)).mono ?_
  rintro e w5 ⟨rfl, hb5⟩
  have D5 := hideIt hb5
  have B5 := hideIt (below_trans BX.out hb5 BX.out.size)
  clear hb5 x0 x1 LN2 CI CX R2
  rcases NP.out with ⟨c1, c2, c3⟩ | ⟨c1, c2, c3⟩
  · rw [if_pos c3] at EL
    obtain rfl := EL.out
    rw [c2]
    clear c1 c2 c3 EL NP WE LA
    go_wp2
    go_ret2
    exact mi_nil B5.out
  rw [if_neg c2] at EL
  obtain ⟨e1, e2⟩ := WE.out c2
  have LA2 := hideIt (fun w1 => LA.out w1 c1)
  have C1 := c1
  obtain ⟨j1, j2⟩ := wr_journal (i := (i : Int)) (page := page) (size := x.size) (e := wrE dn) (by omega) c ⟨e1, e2⟩
  have J2 := hideIt j2
  have LJ := hideIt (fun vu w1 h => implJournalPlan_any vu (wrU (i : Int) page x.size (wrE dn)) w1 h (by have := wrU_len (i : Int) page x.size (wrE dn); omega))
  rw [j1, j2] at LJ
  have LU := hideIt (fun w1 => writeUpdates_any x (i : Int) page (wrE dn) w1 (by omega) c)
  have EN := hideIt c3
  have PL : Hid ((planL (upsL (wrU (i : Int) page x.size (wrE dn)))).length ≤ 16777216) := by
    unfold Hid
    rw [← j2]
    exact jpL_len _
  rw [c1]
  clear c1 c2 c3 NP WE LA e1 e2 j1 j2 J2 c
  generalize npT dn = pt at *
  generalize npA dn = pa at *
  generalize wrE dn = en at *
  generalize wrS dn y = LS at *
  have LE2 := hideIt (fun w1 hb => LE.out pt pa w1 hb)
  rw [EN.out] at LE2
  clear LE EN
  generalize entC pt pa = ec at *
  go_wp2_with fail
  refine (LE2.out _ B5.out).mono ?_
  rintro e w' ⟨rfl, hw'⟩
  subst w'
  obtain ⟨k0, k1, k2, k3, k4, k5, k6, k7, k8, k9, k10, k11⟩ := KE.out _ D5.out
  clear LE2
  have BY := hideIt (B5.out.alloc B5.out.size (.cells #[.int .i64 x.kind, .int .i64 x.size, .int .i64 x.links, .int .i64 x.m0, .int .i64 x.m1, .int .i64 x.m2, .int .i64 x.m3, .int .i64 x.m4, .int .i64 x.m5, .int .i64 x.m6, .int .i64 x.m7, .int .i64 (i : Int), .int .i64 page, .int .i64 en] 84))
  have VY : Hid ((w5.alloc (.cells #[.int .i64 x.kind, .int .i64 x.size, .int .i64 x.links, .int .i64 x.m0, .int .i64 x.m1, .int .i64 x.m2, .int .i64 x.m3, .int .i64 x.m4, .int .i64 x.m5, .int .i64 x.m6, .int .i64 x.m7, .int .i64 (i : Int), .int .i64 page, .int .i64 en] 84)).heap[w5.heap.size]? = some (.cells ([.int .i64 x.kind, .int .i64 x.size, .int .i64 x.links, .int .i64 x.m0, .int .i64 x.m1, .int .i64 x.m2, .int .i64 x.m3, .int .i64 x.m4, .int .i64 x.m5, .int .i64 x.m6, .int .i64 x.m7, .int .i64 (i : Int), .int .i64 page, .int .i64 en] : List Value).toArray 84 (0, 0))) := at_new rfl
  have KY : (w5.alloc (.cells #[.int .i64 x.kind, .int .i64 x.size, .int .i64 x.links, .int .i64 x.m0, .int .i64 x.m1, .int .i64 x.m2, .int .i64 x.m3, .int .i64 x.m4, .int .i64 x.m5, .int .i64 x.m6, .int .i64 x.m7, .int .i64 (i : Int), .int .i64 page, .int .i64 en] 84)).cell? ⟨w5.heap.size, 0, none⟩ = some (.int .i64 x.kind) ∧ (w5.alloc (.cells #[.int .i64 x.kind, .int .i64 x.size, .int .i64 x.links, .int .i64 x.m0, .int .i64 x.m1, .int .i64 x.m2, .int .i64 x.m3, .int .i64 x.m4, .int .i64 x.m5, .int .i64 x.m6, .int .i64 x.m7, .int .i64 (i : Int), .int .i64 page, .int .i64 en] 84)).cell? ⟨w5.heap.size, 1, none⟩ = some (.int .i64 x.size) ∧ (w5.alloc (.cells #[.int .i64 x.kind, .int .i64 x.size, .int .i64 x.links, .int .i64 x.m0, .int .i64 x.m1, .int .i64 x.m2, .int .i64 x.m3, .int .i64 x.m4, .int .i64 x.m5, .int .i64 x.m6, .int .i64 x.m7, .int .i64 (i : Int), .int .i64 page, .int .i64 en] 84)).cell? ⟨w5.heap.size, 2, none⟩ = some (.int .i64 x.links) ∧ (w5.alloc (.cells #[.int .i64 x.kind, .int .i64 x.size, .int .i64 x.links, .int .i64 x.m0, .int .i64 x.m1, .int .i64 x.m2, .int .i64 x.m3, .int .i64 x.m4, .int .i64 x.m5, .int .i64 x.m6, .int .i64 x.m7, .int .i64 (i : Int), .int .i64 page, .int .i64 en] 84)).cell? ⟨w5.heap.size, 3, none⟩ = some (.int .i64 x.m0) ∧ (w5.alloc (.cells #[.int .i64 x.kind, .int .i64 x.size, .int .i64 x.links, .int .i64 x.m0, .int .i64 x.m1, .int .i64 x.m2, .int .i64 x.m3, .int .i64 x.m4, .int .i64 x.m5, .int .i64 x.m6, .int .i64 x.m7, .int .i64 (i : Int), .int .i64 page, .int .i64 en] 84)).cell? ⟨w5.heap.size, 4, none⟩ = some (.int .i64 x.m1) ∧ (w5.alloc (.cells #[.int .i64 x.kind, .int .i64 x.size, .int .i64 x.links, .int .i64 x.m0, .int .i64 x.m1, .int .i64 x.m2, .int .i64 x.m3, .int .i64 x.m4, .int .i64 x.m5, .int .i64 x.m6, .int .i64 x.m7, .int .i64 (i : Int), .int .i64 page, .int .i64 en] 84)).cell? ⟨w5.heap.size, 5, none⟩ = some (.int .i64 x.m2) ∧ (w5.alloc (.cells #[.int .i64 x.kind, .int .i64 x.size, .int .i64 x.links, .int .i64 x.m0, .int .i64 x.m1, .int .i64 x.m2, .int .i64 x.m3, .int .i64 x.m4, .int .i64 x.m5, .int .i64 x.m6, .int .i64 x.m7, .int .i64 (i : Int), .int .i64 page, .int .i64 en] 84)).cell? ⟨w5.heap.size, 6, none⟩ = some (.int .i64 x.m3) ∧ (w5.alloc (.cells #[.int .i64 x.kind, .int .i64 x.size, .int .i64 x.links, .int .i64 x.m0, .int .i64 x.m1, .int .i64 x.m2, .int .i64 x.m3, .int .i64 x.m4, .int .i64 x.m5, .int .i64 x.m6, .int .i64 x.m7, .int .i64 (i : Int), .int .i64 page, .int .i64 en] 84)).cell? ⟨w5.heap.size, 7, none⟩ = some (.int .i64 x.m4) ∧ (w5.alloc (.cells #[.int .i64 x.kind, .int .i64 x.size, .int .i64 x.links, .int .i64 x.m0, .int .i64 x.m1, .int .i64 x.m2, .int .i64 x.m3, .int .i64 x.m4, .int .i64 x.m5, .int .i64 x.m6, .int .i64 x.m7, .int .i64 (i : Int), .int .i64 page, .int .i64 en] 84)).cell? ⟨w5.heap.size, 8, none⟩ = some (.int .i64 x.m5) ∧ (w5.alloc (.cells #[.int .i64 x.kind, .int .i64 x.size, .int .i64 x.links, .int .i64 x.m0, .int .i64 x.m1, .int .i64 x.m2, .int .i64 x.m3, .int .i64 x.m4, .int .i64 x.m5, .int .i64 x.m6, .int .i64 x.m7, .int .i64 (i : Int), .int .i64 page, .int .i64 en] 84)).cell? ⟨w5.heap.size, 9, none⟩ = some (.int .i64 x.m6) ∧ (w5.alloc (.cells #[.int .i64 x.kind, .int .i64 x.size, .int .i64 x.links, .int .i64 x.m0, .int .i64 x.m1, .int .i64 x.m2, .int .i64 x.m3, .int .i64 x.m4, .int .i64 x.m5, .int .i64 x.m6, .int .i64 x.m7, .int .i64 (i : Int), .int .i64 page, .int .i64 en] 84)).cell? ⟨w5.heap.size, 10, none⟩ = some (.int .i64 x.m7) ∧ (w5.alloc (.cells #[.int .i64 x.kind, .int .i64 x.size, .int .i64 x.links, .int .i64 x.m0, .int .i64 x.m1, .int .i64 x.m2, .int .i64 x.m3, .int .i64 x.m4, .int .i64 x.m5, .int .i64 x.m6, .int .i64 x.m7, .int .i64 (i : Int), .int .i64 page, .int .i64 en] 84)).cell? ⟨w5.heap.size, 11, none⟩ = some (.int .i64 (i : Int)) ∧ (w5.alloc (.cells #[.int .i64 x.kind, .int .i64 x.size, .int .i64 x.links, .int .i64 x.m0, .int .i64 x.m1, .int .i64 x.m2, .int .i64 x.m3, .int .i64 x.m4, .int .i64 x.m5, .int .i64 x.m6, .int .i64 x.m7, .int .i64 (i : Int), .int .i64 page, .int .i64 en] 84)).cell? ⟨w5.heap.size, 12, none⟩ = some (.int .i64 page) ∧ (w5.alloc (.cells #[.int .i64 x.kind, .int .i64 x.size, .int .i64 x.links, .int .i64 x.m0, .int .i64 x.m1, .int .i64 x.m2, .int .i64 x.m3, .int .i64 x.m4, .int .i64 x.m5, .int .i64 x.m6, .int .i64 x.m7, .int .i64 (i : Int), .int .i64 page, .int .i64 en] 84)).cell? ⟨w5.heap.size, 13, none⟩ = some (.int .i64 en) := ⟨(eight_at VY.out 0).1, (eight_at VY.out 1).1, (eight_at VY.out 2).1, (eight_at VY.out 3).1, (eight_at VY.out 4).1, (eight_at VY.out 5).1, (eight_at VY.out 6).1, (eight_at VY.out 7).1, (eight_at VY.out 8).1, (eight_at VY.out 9).1, (eight_at VY.out 10).1, (eight_at VY.out 11).1, (eight_at VY.out 12).1, (eight_at VY.out 13).1⟩
  obtain ⟨m0, m1, m2, m3, m4, m5, m6, m7, m8, m9, m10, m11, m12, m13⟩ := KY
  obtain ⟨w6, hw6⟩ : ∃ w6, w6 = w5.alloc (.cells #[.int .i64 x.kind, .int .i64 x.size, .int .i64 x.links, .int .i64 x.m0, .int .i64 x.m1, .int .i64 x.m2, .int .i64 x.m3, .int .i64 x.m4, .int .i64 x.m5, .int .i64 x.m6, .int .i64 x.m7, .int .i64 (i : Int), .int .i64 page, .int .i64 en] 84) := ⟨_, rfl⟩
  rw [← hw6] at BY
  clear VY
  go_wp2_with fail
  rw [← hw6]
  clear hw6 m0 m1 m2 m3 m4 m5 m6 m7 m8 m9 m10 m11 m12 m13 k0 k1 k2 k3 k4 k5 k6 k7 k8 k9 k10 k11
  refine (LU.out _).mono ?_
  rintro e w7 ⟨v7, rfl, hr7, hb7⟩
  have B7 := hideIt (below_trans BY.out hb7 BY.out.size)
  have R7 := hideIt hr7.rd
  clear hr7 hb7 LU
  go_wp2_with fail
  refine (LJ.out _ _ R7.out).mono ?_
  rintro e w8 ⟨v8, rfl, hr8, hb8⟩
  have B8 := hideIt (below_trans B7.out hb8 B7.out.size)
  have R8 := hideIt hr8.rd
  obtain ⟨a8, c8, e8⟩ := RdM.form hr8.rd rfl
  subst e8
  clear hr8 hb8 LJ R7
  go_wp2_with fail
  refine (LA2.out _).mono ?_
  rintro e w9 ⟨v9, rfl, hr9, hb9⟩
  have B9 := hideIt (below_trans B8.out hb9 B8.out.size)
  have R89 := hideIt (Rd.below R8.out hb9)
  have R9 := hideIt (hr9.wide (lo' := w.heap.size) (hi' := w9.heap.size) B8.out.size (Nat.le_refl _)).1
  have hz9 : w.heap.size ≤ w9.heap.size := B9.out.size
  obtain ⟨a9, c9, e9⟩ := RdM.form hr9.rd rfl
  subst e9
  clear hr9 hb9 LA2 R8
  have s1 := SL.out
  have s2 := PL.out
  generalize planL (upsL (wrU (i : Int) page x.size en)) = PP at *
  go_wp2_with (at_builtin; refine wpList_append_rd _ rfl (.tmp 61) (.tmp 62) 45 rfl w.heap.size 91 (.agg #[.int .i64 0, .int .i64 0, .int .i64 0]) 3 24 Tryz.underlying45 infoMic rfl (by decide) _ LS.length (mis LS) rfl R9.out _ PP.length (mis PP) rfl R89.out (mis_one _) (by first | omega | (simp [maxLen]; omega)) (by omega) (by omega) ?_)
  intro vN wN hownN hgrN
  have G : Hid (MiI w wN vN (LS ++ PP)) := MiI.grow (vL := .slice a9 LS.length c9) ⟨R9.out, B9.out⟩ PP hownN hgrN
  obtain ⟨-, aN, cN, hvN, -⟩ := (own_block G.out.l).rd
  rw [List.length_append] at hvN
  subst hvN
  clear hownN hgrN R9 R89
  obtain rfl := EL.out
  go_wp2
  go_ret2
  exact ⟨_, rfl, own_block G.out.l, G.out.b⟩
theorem wrS_len (ns : List Ino) (y : Int) : (wrS ns y).length ≤ 1000 := by
  unfold wrS
  split
  · have := flushL_len [312 + fpI ns]
    simp only [List.length_cons, List.length_nil] at this ⊢
    omega
  · simp
theorem wrR_len (ws : List Int) (ps : List St) (es : List Int) (qs : List Se) (s : ByteArray) (page y : Int) : (wrR ws ps es qs s page y).1.length ≤ 33554432 := by
  rw [wr_form]
  by_cases c : (flR (dvN ws ps es qs) (dvD ws ps es qs) s).2 = 0
  · rw [if_pos c]
    unfold wrF
    split
    · split
      · simp
      · have a := wrS_len (dvN ws ps es qs) y
        have b := planL_len (wrU (flR (dvN ws ps es qs) (dvD ws ps es qs) s).1 page (sizeAt (dvN ws ps es qs) (flR (dvN ws ps es qs) (dvD ws ps es qs) s).1) (wrE (dvN ws ps es qs)))
        have l := wrU_len (flR (dvN ws ps es qs) (dvD ws ps es qs) s).1 page (sizeAt (dvN ws ps es qs) (flR (dvN ws ps es qs) (dvD ws ps es qs) s).1) (wrE (dvN ws ps es qs))
        simp only [List.length_append]
        omega
    · simp
  · rw [if_neg c]
    simp
end Go.Proofs.YtgnfbiohjdepcaaGreatDoor
