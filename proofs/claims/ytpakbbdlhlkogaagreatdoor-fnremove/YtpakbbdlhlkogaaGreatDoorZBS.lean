/- Several texts laid together: PcF, PcG, PlC. -/
import Derived.Test.YtpakbbdlhlkogaaGreatDoorZBR
namespace Go.Proofs.YtpakbbdlhlkogaaGreatDoor
open Go.RowKit
def siC (ws : List Ino) (ps : List Den) (s : ByteArray) : Int := if 65536 < s.size then 2 else if zcb ws ps = true then spC s else 1
def siL (ws : List Ino) (ps : List Den) (s : ByteArray) : List ByteArray := if zcb ws ps = true then spR s else []
theorem zwd {s : ByteArray} : ∀ k (h : k < (spL s).length), 1 ≤ (spL s)[k].size := by
 intro k hk
 have hm : (spL s)[k] ∈ spL s := List.getElem_mem hk
 generalize (spL s)[k] = x at hm
 unfold spL at hm
 split at hm
 ·cases hm
 ·split at hm
  ·rename_i h
   unfold spN at h
   simp only [Bool.and_eq_true, List.all_eq_true] at h
   exact (zda (h.2.2 x hm)).1
  ·cases hm
theorem yaua (ws : List Ino) (ps : List Den) (s : ByteArray) : (¬ siC ws ps s = 0 → lkR ws ps s = (0, siC ws ps s) ∧ paR ws ps s = (0, ⟨#[]⟩, siC ws ps s)) ∧ (siC ws ps s = 0 → zcb ws ps = true ∧ siL ws ps s = spL s ∧ lkR ws ps s = wk ws ps 0 (spL s) ∧ paR ws ps s = paL ws ps (spL s)) := by
 unfold siC lkR paR siL
 by_cases c1 : 65536 < s.size
 ·rw [if_pos c1, if_pos c1, if_pos c1]
  exact ⟨fun _ => ⟨rfl, rfl⟩, fun h => by cases h⟩
 ·rw [if_neg c1, if_neg c1, if_neg c1]
  by_cases c2 : zcb ws ps = true
  ·rw [if_pos c2, if_pos c2, if_pos c2, if_pos c2]
   obtain ⟨X1, X2⟩ := zrl c1
   unfold lkI paI
   cases c3 : spB s with
   | false =>
    obtain ⟨e1, e2⟩ := X2 c3
    rw [e1, e2]
    exact ⟨fun _ => ⟨rfl, rfl⟩, fun h => by cases h⟩
   | true =>
    obtain ⟨e1, e2⟩ := X1 c3
    rw [e1, e2]
    exact ⟨fun h => absurd rfl h, fun _ => ⟨c2, rfl, rfl, rfl⟩⟩
  ·rw [if_neg c2, if_neg c2, if_neg c2, if_neg c2]
   exact ⟨fun _ => ⟨rfl, rfl⟩, fun h => by cases h⟩
set_option maxRecDepth 100000 in
set_option maxHeartbeats 4000000 in
theorem zow (v : Value) (ws : List Ino) (ps : List Den) (s : ByteArray) (w : World) (h : RdIm w v ws ps) (hw : ws.length ≤ 1048576) (hp : ps.length ≤ 1048576) (hT : TS w) (hE : ED w) (hF : FD w) (hr : ∀ k (h : k < ws.length), ws[k].R) (hs : ∀ k (h : k < ps.length), ps[k].name.size ≤ maxLen) :
  Calls Tryz.prog 33 #[v, .string s] w fun e w' => ∃ v', e = .returned (.tuple #[v', .int .i64 (siC ws ps s)]) ∧ RdT w' v' (siL ws ps s) ∧ Below w.heap.size w w' := by
 have HR := zaa h
 have LI := zaa (fun w1 (hb : Below w.heap.size w w1) => zdz v ws ps w1 (h.below hb) hw hp (hT.below hb) (hE.below hb) (hF.below hb) hr hs)
 have LS := zaa (fun w1 => zky s w1)
 have EC := zaa (show siC ws ps s = if 65536 < s.size then 2 else if zcb ws ps = true then spC s else 1 from rfl)
 have EL := zaa (show siL ws ps s = if zcb ws ps = true then spR s else [] from rfl)
 have XL := zaa (fun h => yagm (s := s) h)
 have X0 : Hid (¬ 65536 < s.size → ¬ spC s = 2) := fun h => by
  obtain ⟨X1, X2⟩ := zrl h
  cases c : spB s
  ·rw [(X2 c).1]; decide
  ·rw [(X1 c).1]; decide
 obtain ⟨vW, vP, rfl, h1, h2⟩ := h
 obtain ⟨aW, cW, rfl, _, _⟩ := h1.shape
 obtain ⟨aP, cP, rfl, _, _⟩ := h2.shape
 clear h1 h2 hr hs hT hE hF
 have CA : Hid (∀ w', Below (w.alloc (.cells #[.slice aW ws.length cW, .slice aP ps.length cP] 42)).heap.size (w.alloc (.cells #[.slice aW ws.length cW, .slice aP ps.length cP] 42)) w' → w'.cell? ⟨w.heap.size, 0, none⟩ = some (.slice aW ws.length cW) ∧ w'.cell? ⟨w.heap.size, 1, none⟩ = some (.slice aP ps.length cP)) := fun w' hb => by
  have : w'.heap[w.heap.size]? = some (.cells #[.slice aW ws.length cW, .slice aP ps.length cP] 42 (0, 0)) := (hb.block _ (by simp)).trans (zah rfl)
  exact ⟨(zac this).1, (zac this).2.1⟩
 have BW : Hid (Below w.heap.size w (w.alloc (.cells #[.slice aW ws.length cW, .slice aP ps.length cP] 42))) := (Below.refl _ _).alloc (Nat.le_refl _) _
 generalize siC ws ps s = sc at *
 generalize siL ws ps s = sl at *
 by_cases c1 : 65536 < s.size
 ·obtain ⟨e1, e2⟩ := XL.out c1
  rw [if_pos c1] at EC
  have E2 : Hid (sl = []) := by unfold Hid; rw [EL.out, e2]; split <;> rfl
  rw [e1, e2] at LS
  obtain rfl := EC.out
  obtain rfl := E2.out
  clear EC EL E2 c1 e1 e2
  go_enter Tryz.func33, Tryz.ntmps33
  go_wp2_with fail
  refine (LS.out _).mono ?_
  rintro e w1 ⟨v1, rfl, hr1, hb1⟩
  have B1 := zaa (zab BW.out hb1 BW.out.size)
  have R1 : Hid (RdT w1 v1 []) := hr1.rd
  clear hr1 hb1
  go_wp2
  go_ret2
  exact ⟨_, rfl, R1.out, B1.out⟩
 have q2 : Hid ((spC s != 2) = true) := by unfold Hid; rw [bne_iff_ne]; exact X0.out c1
 rw [if_neg c1] at EC
 clear XL X0 c1
 generalize spC s = cc at *
 generalize spR s = rr at *
 have q3 := q2.out
 cases c3 : zcb ws ps with
 | false =>
  rw [c3] at EC EL LI
  obtain rfl := EC.out
  obtain rfl := EL.out
  clear EC EL c3
  go_enter Tryz.func33, Tryz.ntmps33
  go_wp2_with fail
  refine (LS.out _).mono ?_
  rintro e w1 ⟨v1, rfl, hr1, hb1⟩
  have B1 := zaa (zab BW.out hb1 BW.out.size)
  obtain ⟨x0, x1⟩ := CA.out _ hb1
  clear hr1 hb1
  go_wp2_with fail
  refine (LI.out _ B1.out).mono ?_
  rintro e w2 ⟨rfl, hb2⟩
  have B2 := zaa (zab B1.out hb2 B1.out.size)
  clear hb2 x0 x1
  go_wp2
  go_ret2
  exact ⟨_, rfl, yaes _, B2.out⟩
 | true =>
  rw [c3] at EC EL LI
  obtain rfl : sc = cc := EC.out
  obtain rfl : sl = rr := EL.out
  clear EC EL c3
  go_enter Tryz.func33, Tryz.ntmps33
  go_wp2_with fail
  refine (LS.out _).mono ?_
  rintro e w1 ⟨v1, rfl, hr1, hb1⟩
  have B1 := zaa (zab BW.out hb1 BW.out.size)
  have R1 : Hid (RdT w1 v1 sl) := hr1.rd
  obtain ⟨x0, x1⟩ := CA.out _ hb1
  clear hr1 hb1
  go_wp2_with fail
  refine (LI.out _ B1.out).mono ?_
  rintro e w2 ⟨rfl, hb2⟩
  have B2 := zaa (zab B1.out hb2 B1.out.size)
  have R2 : Hid (RdT w2 v1 sl) := Rd.below R1.out hb2
  clear hb2 x0 x1
  go_wp2
  go_ret2
  exact ⟨_, rfl, R2.out, B2.out⟩
set_option maxRecDepth 100000 in
set_option maxHeartbeats 4000000 in
theorem zir (v : Value) (ws : List Ino) (ps : List Den) (s : ByteArray) (w : World) (h : RdIm w v ws ps) (hw : ws.length ≤ 1048576) (hp : ps.length ≤ 1048576) (hT : TS w) (hE : ED w) (hF : FD w) (hr : ∀ k (h : k < ws.length), ws[k].R) (hs : ∀ k (h : k < ps.length), ps[k].name.size ≤ maxLen) :
  Calls Tryz.prog 11 #[v, .string s] w fun e w' => e = .returned (.tuple #[.int .i64 (lkR ws ps s).1, .int .i64 (lkR ws ps s).2]) ∧ Below w.heap.size w w' := by
 have HR := zaa h
 have LS := zaa (fun w1 (hb : Below w.heap.size w w1) => zow v ws ps s w1 (h.below hb) hw hp (hT.below hb) (hE.below hb) (hF.below hb) hr hs)
 have LG := zaa (fun vL w1 h hL hi => zqs v vL ws ps (spL s) w1 h hL hi (by have := @zrs s; omega) zwd)
 obtain ⟨NO, YES⟩ := yaua ws ps s
 have NO := zaa NO
 have YES := zaa YES
 obtain ⟨vW, vP, rfl, h1, h2⟩ := h
 obtain ⟨aW, cW, rfl, _, _⟩ := h1.shape
 obtain ⟨aP, cP, rfl, _, _⟩ := h2.shape
 clear h1 h2 hr hs hT hE hF
 have CA : Hid (∀ w', Below (w.alloc (.cells #[.slice aW ws.length cW, .slice aP ps.length cP] 42)).heap.size (w.alloc (.cells #[.slice aW ws.length cW, .slice aP ps.length cP] 42)) w' → w'.cell? ⟨w.heap.size, 0, none⟩ = some (.slice aW ws.length cW) ∧ w'.cell? ⟨w.heap.size, 1, none⟩ = some (.slice aP ps.length cP)) := fun w' hb => by
  have : w'.heap[w.heap.size]? = some (.cells #[.slice aW ws.length cW, .slice aP ps.length cP] 42 (0, 0)) := (hb.block _ (by simp)).trans (zah rfl)
  exact ⟨(zac this).1, (zac this).2.1⟩
 have BW : Hid (Below w.heap.size w (w.alloc (.cells #[.slice aW ws.length cW, .slice aP ps.length cP] 42))) := (Below.refl _ _).alloc (Nat.le_refl _) _
 obtain ⟨x0, x1⟩ := CA.out _ (Below.refl _ _)
 generalize siC ws ps s = sc at *
 generalize siL ws ps s = sl at *
 generalize lkR ws ps s = res at *
 generalize paR ws ps s = res2 at *
 by_cases c : sc = 0
 ·obtain ⟨c1, rfl, rfl, _⟩ := YES.out c
  have C1 := zaa c1
  subst c
  clear NO YES c1
  generalize wk ws ps 0 (spL s) = r1 at *
  go_enter Tryz.func11, Tryz.ntmps11
  go_wp2_with fail
  refine (LS.out _ BW.out).mono ?_
  rintro e w1 ⟨v1, rfl, hr1, hb1⟩
  have B1 := zaa (zab BW.out hb1 BW.out.size)
  have R1 := zaa hr1
  clear x0 x1
  obtain ⟨x0, x1⟩ := CA.out _ hb1
  clear hr1 hb1
  go_wp2_with fail
  refine (LG.out _ _ (HR.out.below B1.out) R1.out C1.out).mono ?_
  rintro e w2 ⟨rfl, hb2⟩
  have B2 := zaa (zab B1.out hb2 B1.out.size)
  clear hb2 x0 x1
  go_wp2
  go_ret2
  exact ⟨rfl, B2.out⟩
 ·obtain ⟨rfl, _⟩ := NO.out c
  have q : (sc != 0) = true := by rw [bne_iff_ne]; exact c
  clear NO YES c
  go_enter Tryz.func11, Tryz.ntmps11
  go_wp2_with fail
  refine (LS.out _ BW.out).mono ?_
  rintro e w1 ⟨v1, rfl, hr1, hb1⟩
  have B1 := zaa (zab BW.out hb1 BW.out.size)
  clear hr1 hb1 x0 x1
  go_wp2
  go_ret2
  exact ⟨rfl, B1.out⟩
set_option maxRecDepth 100000 in
set_option maxHeartbeats 8000000 in
theorem zip (v : Value) (ws : List Ino) (ps : List Den) (s : ByteArray) (w : World) (h : RdIm w v ws ps) (hw : ws.length ≤ 1048576) (hp : ps.length ≤ 1048576) (hT : TS w) (hE : ED w) (hF : FD w) (hr : ∀ k (h : k < ws.length), ws[k].R) (hs : ∀ k (h : k < ps.length), ps[k].name.size ≤ maxLen) :
  Calls Tryz.prog 67 #[v, .string s] w fun e w' => e = .returned (.tuple #[.int .i64 (paR ws ps s).1, .string (paR ws ps s).2.1, .int .i64 (paR ws ps s).2.2]) ∧ Below w.heap.size w w' := by
 have HR := zaa h
 have LS := zaa (fun w1 (hb : Below w.heap.size w w1) => zow v ws ps s w1 (h.below hb) hw hp (hT.below hb) (hE.below hb) (hF.below hb) hr hs)
 have LG := zaa (fun vL ns w1 h hL hi hn hs => zqs v vL ws ps ns w1 h hL hi hn hs)
 have LD := zaa (fun (i : Nat) w1 h (hl : ws.length = 16) (hi16 : i < 16) => zvh v ws ps (i : Int) w1 h hl (by omega))
 have SS := zaa (@zwd s)
 have SL := zaa (@zrs s)
 obtain ⟨NO, YES⟩ := yaua ws ps s
 have NO := zaa NO
 have YES := zaa YES
 obtain ⟨vW, vP, rfl, h1, h2⟩ := h
 obtain ⟨aW, cW, rfl, _, _⟩ := h1.shape
 obtain ⟨aP, cP, rfl, _, _⟩ := h2.shape
 clear h1 h2 hr hs hT hE hF
 have CA : Hid (∀ w', Below (w.alloc (.cells #[.slice aW ws.length cW, .slice aP ps.length cP] 42)).heap.size (w.alloc (.cells #[.slice aW ws.length cW, .slice aP ps.length cP] 42)) w' → w'.cell? ⟨w.heap.size, 0, none⟩ = some (.slice aW ws.length cW) ∧ w'.cell? ⟨w.heap.size, 1, none⟩ = some (.slice aP ps.length cP)) := fun w' hb => by
  have : w'.heap[w.heap.size]? = some (.cells #[.slice aW ws.length cW, .slice aP ps.length cP] 42 (0, 0)) := (hb.block _ (by simp)).trans (zah rfl)
  exact ⟨(zac this).1, (zac this).2.1⟩
 have BW : Hid (Below w.heap.size w (w.alloc (.cells #[.slice aW ws.length cW, .slice aP ps.length cP] 42))) := (Below.refl _ _).alloc (Nat.le_refl _) _
 obtain ⟨x0, x1⟩ := CA.out _ (Below.refl _ _)
 generalize siC ws ps s = sc at *
 generalize siL ws ps s = sl at *
 generalize lkR ws ps s = res2 at *
 generalize paR ws ps s = res at *
 by_cases c : sc = 0
 case neg =>
  obtain ⟨_, rfl⟩ := NO.out c
  have q : (sc != 0) = true := by rw [bne_iff_ne]; exact c
  clear NO YES c
  go_enter Tryz.func67, Tryz.ntmps67
  go_wp2_with fail
  refine (LS.out _ BW.out).mono ?_
  rintro e w1 ⟨v1, rfl, hr1, hb1⟩
  have B1 := zaa (zab BW.out hb1 BW.out.size)
  clear hr1 hb1 x0 x1
  go_wp2
  go_ret3
  exact ⟨rfl, B1.out⟩
 obtain ⟨c1, rfl, _, hres⟩ := YES.out c
 have C1 := zaa c1
 have EL2 := zaa hres
 have WR := zaa (fun ns => zjp c1 ns 0 (by omega))
 have L16 := zaa (zau c1).1
 subst c
 clear NO YES c1 hres
 generalize spL s = ns at *
 by_cases c2 : ns = []
 ·subst c2
  obtain rfl := EL2.out
  clear EL2 LG
  go_enter Tryz.func67, Tryz.ntmps67
  go_wp2_with fail
  refine (LS.out _ BW.out).mono ?_
  rintro e w1 ⟨v1, rfl, hr1, hb1⟩
  have B1 := zaa (zab BW.out hb1 BW.out.size)
  obtain ⟨aL, cL, rfl, _, _⟩ := hr1.shape
  clear hr1 hb1 x0 x1
  simp only [List.length_nil]
  go_wp2
  go_ret3
  exact ⟨rfl, B1.out⟩
 obtain ⟨xs, x, rfl⟩ := zys c2
 rw [zig] at EL2
 clear c2
 have EP := zaa (show paN ws ps xs x = if (wk ws ps 0 xs).2 = 0 then (if zai ws (wk ws ps 0 xs).1 = 2 then ((wk ws ps 0 xs).1, x, 0) else (0, ⟨#[]⟩, 10)) else (0, ⟨#[]⟩, (wk ws ps 0 xs).2) from rfl)
 rw [EP.out] at EL2
 clear EP
 have sl := SL.out
 rw [List.length_append, List.length_cons, List.length_nil, Nat.zero_add] at sl
 have S1 : Hid (∀ k (h : k < xs.length), 1 ≤ xs[k].size) := fun k hk => by
  have := SS.out k (by rw [List.length_append]; omega)
  rw [List.getElem_append_left hk] at this
  exact this
 have wr1 := WR.out xs
 have LW2 := zaa (fun vL w1 h hL => LG.out vL xs w1 h hL C1.out (by omega) S1.out)
 obtain ⟨z, hz⟩ : ∃ z : Nat, (wk ws ps 0 xs).1 = (z : Int) := ⟨((wk ws ps 0 xs).1).toNat, by omega⟩
 have z16 : z < 16 := by omega
 rw [hz] at EL2 LW2
 clear LG WR SL SS S1 wr1 hz
 have LD2 := zaa (fun w1 h => LD.out z w1 h L16.out z16)
 clear LD
 generalize (wk ws ps 0 xs).2 = wc at *
 go_enter Tryz.func67, Tryz.ntmps67
 go_wp2_with fail
 refine (LS.out _ BW.out).mono ?_
 rintro e w1 ⟨v1, rfl, hr1, hb1⟩
 have B1 := zaa (zab BW.out hb1 BW.out.size)
 have BA := zaa hb1
 have hbn : (w.alloc (.cells #[.slice aW ws.length cW, .slice aP ps.length cP] 42)).heap.size ≤ w1.heap.size := hb1.size
 clear x0 x1
 obtain ⟨x0, x1⟩ := CA.out _ hb1
 have R1 := zaa hr1
 obtain ⟨aL, cL, rfl, hcap, hcL⟩ := hr1.shape
 obtain ⟨b, o, rfl, hbl, hcell⟩ := hcL (by rw [List.length_append]; simp)
 have hx : w1.cell? ⟨b, o + xs.length, none⟩ = some (.string x) := by
  have := hcell xs.length (by rw [List.length_append]; simp)
  simpa using this
 have RT : Hid (RdT w1 (.slice (some ⟨b, o, none⟩) xs.length cL) xs) := by
  have := zmw R1.out (m := xs.length) (by rw [List.length_append]; omega)
  rw [List.take_left] at this
  exact this
 rw [List.length_append, List.length_cons, List.length_nil, Nat.zero_add] at hcap
 simp only [List.length_append, List.length_cons, List.length_nil, Nat.zero_add]
 clear hr1 hb1 hcL hcell R1 LS
 generalize xs.length = n at *
 have n0 : (((n + 1 : Nat) : Int) == 0) = false := by rw [beq_eq_false_iff_ne]; omega
 have nw : IntKind.i64.wrap (((n + 1 : Nat) : Int) - 1) = (n : Int) := by
  rw [show (((n + 1 : Nat) : Int) - 1) = (n : Int) by omega, IntKind.wrap_i64]
  omega
 have ncap : (n : Int) ≤ (cL : Int) := by omega
 have nw2 : IntKind.i64.wrap ((n : Int) + 1 - 1) = (n : Int) := by rw [IntKind.wrap_i64]; omega
 have nw3 : IntKind.i64.wrap (n : Int) = (n : Int) := by rw [IntKind.wrap_i64]; omega
 have nn0 : (0 : Int) ≤ (n : Int) := by omega
 have nn1 : (n : Int) < ((n + 1 : Nat) : Int) := by omega
 have nn2 : (n : Int) < (n : Int) + 1 := by omega
 have SK : Hid (∀ w', Below w1.heap.size w1 w' → w'.cell? ⟨w.heap.size, 0, none⟩ = some (.slice aW ws.length cW) ∧ w'.cell? ⟨w.heap.size, 1, none⟩ = some (.slice aP ps.length cP)) := fun w' hb => CA.out w' (zab BA.out hb hbn)
 have HX : Hid (∀ w', Below w1.heap.size w1 w' → w'.cell? ⟨b, o + n, none⟩ = some (.string x)) := fun w' hb => (hb.cell (p := ⟨b, o + n, none⟩) hbl).trans hx
 have LW3 := zaa (fun w2 (hb : Below w1.heap.size w1 w2) => LW2.out _ w2 (HR.out.below (zab B1.out hb B1.out.size)) (Rd.below RT.out hb))
 clear LW2 RT hx
 by_cases q : wc = 0
 case neg =>
  rw [if_neg q] at EL2
  obtain rfl := EL2.out
  have q1 : (wc != 0) = true := by rw [bne_iff_ne]; exact q
  clear EL2 q
  go_wp2_with fail
  go_region_held3 (fun w' => w'.cell? ⟨w.heap.size, 0, none⟩ = some (.slice aW ws.length cW) ∧ w'.cell? ⟨w.heap.size, 1, none⟩ = some (.slice aP ps.length cP))
   (exact SK.out _ (by repeat (first | exact BF.out | exact Below.refl _ _ | refine Below.drew ?_)))
   (first
    | (go_at_call 34; refine (LW3.out _ (by repeat (first | exact Below.refl _ _ | refine Below.drew ?_))).mono ?_; rintro e w2 ⟨rfl, hb2⟩; have BF : Hid (Below w1.heap.size w1 w2) := (by first | exact hb2 | exact zab (by repeat (first | exact Below.refl _ _ | refine Below.drew ?_)) hb2 (Nat.le_refl _)); clear hb2))
  all_goals
   have B3 := zaa (zab B1.out BF.out B1.out.size)
   clear SK x0 x1
   go_wp2
   go_ret3
   exact ⟨rfl, (by repeat (first | exact B3.out | refine Below.drew ?_))⟩
 rw [if_pos q] at EL2
 subst q
 by_cases r : zai ws z = 2
 case neg =>
  rw [if_neg r] at EL2
  obtain rfl := EL2.out
  have r1 : (zai ws z == 2) = false := by rw [beq_eq_false_iff_ne]; exact r
  rw [r1] at LD2
  clear EL2 r r1
  go_wp2_with fail
  go_region_held3 (fun w' => w'.cell? ⟨w.heap.size, 0, none⟩ = some (.slice aW ws.length cW) ∧ w'.cell? ⟨w.heap.size, 1, none⟩ = some (.slice aP ps.length cP))
   (exact SK.out _ (by repeat (first | exact BF.out | exact Below.refl _ _ | refine Below.drew ?_)))
   (first
    | (go_at_call 34; refine (LW3.out _ (by repeat (first | exact Below.refl _ _ | refine Below.drew ?_))).mono ?_; rintro e w2 ⟨rfl, hb2⟩; have BF : Hid (Below w1.heap.size w1 w2) := (by first | exact hb2 | exact zab (by repeat (first | exact Below.refl _ _ | refine Below.drew ?_)) hb2 (Nat.le_refl _)); clear hb2))
  all_goals
   have B3 := zaa (zab B1.out BF.out B1.out.size)
   clear x0 x1
   obtain ⟨x0, x1⟩ := SK.out _ BF.out
   clear SK
   go_wp2_with fail
   refine (LD2.out _ (HR.out.below (by repeat (first | exact B3.out | refine Below.drew ?_)))).mono ?_
   rintro e w3 ⟨rfl, hb3⟩
   have B4 : Hid (Below w.heap.size w w3) := zab (by repeat (first | exact B3.out | refine Below.drew ?_)) hb3 (by have := B3.out.size; simp <;> omega)
   clear hb3 x0 x1
   go_wp2
   go_ret3
   exact ⟨rfl, B4.out⟩
 rw [if_pos r] at EL2
 obtain rfl := EL2.out
 have r1 : (zai ws z == 2) = true := by rw [r]; rfl
 rw [r1] at LD2
 clear EL2 r r1
 go_wp2_with fail
 go_region_held3 (fun w' => w'.cell? ⟨w.heap.size, 0, none⟩ = some (.slice aW ws.length cW) ∧ w'.cell? ⟨w.heap.size, 1, none⟩ = some (.slice aP ps.length cP))
  (exact SK.out _ (by repeat (first | exact BF.out | exact Below.refl _ _ | refine Below.drew ?_)))
  (first
   | (go_at_call 34; refine (LW3.out _ (by repeat (first | exact Below.refl _ _ | refine Below.drew ?_))).mono ?_; rintro e w2 ⟨rfl, hb2⟩; have BF : Hid (Below w1.heap.size w1 w2) := (by first | exact hb2 | exact zab (by repeat (first | exact Below.refl _ _ | refine Below.drew ?_)) hb2 (Nat.le_refl _)); clear hb2))
 all_goals
  have B3 := zaa (zab B1.out BF.out B1.out.size)
  clear x0 x1
  obtain ⟨x0, x1⟩ := SK.out _ BF.out
  clear SK
  go_wp2_with fail
  refine (LD2.out _ (HR.out.below (by repeat (first | exact B3.out | refine Below.drew ?_)))).mono ?_
  rintro e w3 ⟨rfl, hb3⟩
  have B4 : Hid (Below w.heap.size w w3) := zab (by repeat (first | exact B3.out | refine Below.drew ?_)) hb3 (by have := B3.out.size; simp <;> omega)
  have B5 : Hid (Below w1.heap.size w1 w3) := zab (by repeat (first | exact BF.out | refine Below.drew ?_)) hb3 (by have := BF.out.size; simp <;> omega)
  have hx := HX.out _ B5.out
  clear hb3 x0 x1
  go_wp2_with fail
  go_region_held3 (fun w' => w'.cell? ⟨b, o + n, none⟩ = some (.string x))
   (exact HX.out _ (by repeat (first | exact B5.out | refine Below.drew ?_)))
   (fail)
  all_goals
   go_wp2
   go_ret3
   exact ⟨rfl, (by repeat (first | exact B4.out | refine Below.drew ?_))⟩
end Go.Proofs.YtpakbbdlhlkogaaGreatDoor

namespace Go.Proofs.YtpakbbdlhlkogaaGreatDoor
open Go.RowKit Go.Maps
theorem yahb {ws : List Ino} {ps : List Den} {s : ByteArray} (h : (paR ws ps s).2.2 = 0) : zcb ws ps = true ∧ paR ws ps s = paI ws ps s := by
 unfold paR at h ⊢
 split at h
 ·cases h
 ·rename_i c
  rw [if_neg c]
  split at h
  ·rename_i c1
   exact ⟨c1, if_pos c1⟩
  ·cases h
def yack : Den := ⟨0, ⟨#[]⟩, 0⟩
def erN (ps : List Den) (d : Int) (nm : ByteArray) : Int × Int := match zay ps d nm with | none => (0, 5) | some k => ((k : Int), 0)
def erR (ws : List Ino) (ps : List Den) (s : ByteArray) : Int × Int := if (paR ws ps s).2.2 = 0 then erN ps (paR ws ps s).1 (paR ws ps s).2.1 else (0, (paR ws ps s).2.2)
def nnN (ps : List Den) (d : Int) (nm : ByteArray) : Den × Int := match zay ps d nm with | none => (⟨d, nm, 0⟩, 0) | some _ => (yack, 8)
def nnR (ws : List Ino) (ps : List Den) (s : ByteArray) : Den × Int := if (paR ws ps s).2.2 = 0 then nnN ps (paR ws ps s).1 (paR ws ps s).2.1 else (yack, (paR ws ps s).2.2)
theorem yaet {ws : List Ino} {ps : List Den} (h : zcb ws ps = true) (d : Int) (nm : ByteArray) :
  (zay ps d nm = none ∧ Maps.has (mpD ps d ps.length) (zpo nm) = false) ∨ (∃ k : Nat, zay ps d nm = some k ∧ Maps.has (mpD ps d ps.length) (zpo nm) = true ∧ (mpD ps d ps.length).atKey (zpo nm) (.lit (.int .i64 0)) = .lit (.int .i64 (k : Int))) := by
 obtain ⟨A, B⟩ := yaso h d nm (.lit (.int .i64 0))
 cases e : zay ps d nm with
 | none => exact .inl ⟨rfl, A e⟩
 | some k => exact .inr ⟨k, rfl, B k e⟩
theorem zou {w w' : World} {b : Nat} (h : w.grownBy w' (some b)) {a : Addr} (ha : w.heap.size ≤ a.block) (u : Value) : w.grownBy (w'.setCell a u) (some b) :=
 ⟨h.os, h.tape, h.output, by simpa [World.setCell] using h.size, fun k hk hn => (Below.heap_setCell _ _ _ _ (by omega)).trans (h.block k hk hn)⟩
theorem Mp.set {w : World} {b : Nat} {D : DataW Unit} (h : Mp w b D) {a : Addr} (ha : b ≠ a.block) (u : Value) : Mp (w.setCell a u) b D := World.ownsMap.setCell h ha u
set_option maxRecDepth 100000 in
set_option maxHeartbeats 4000000 in
theorem zxi (v : Value) (ws : List Ino) (ps : List Den) (s : ByteArray) (b : Nat) (D : DataW Unit) (w : World) (h : RdIm w v ws ps) (hw : ws.length ≤ 1048576) (hp : ps.length ≤ 1048576) (hT : TS w) (hE : ED w) (hF : FD w) (hr : ∀ k (h : k < ws.length), ws[k].R) (hs : ∀ k (h : k < ps.length), ps[k].name.size ≤ maxLen) (hm : Mp w b D) :
  Calls Tryz.prog 27 #[.map (some b), v, .string s] w fun e w' => e = .returned (.tuple #[.int .i64 (erR ws ps s).1, .int .i64 (erR ws ps s).2]) ∧ (∃ D', Mp w' b D') ∧ w.grownBy w' (some b) := by
 have LP := zaa (fun w1 (hb : Below w.heap.size w w1) => zip v ws ps s w1 (h.below hb) hw hp (hT.below hb) (hE.below hb) (hF.below hb) hr hs)
 have LT := zaa (fun d w1 (hb : Below w.heap.size w w1) (hi : zcb ws ps = true) => zlk v ws ps d b D w1 (h.below hb) hi (hm.below hb) (hF.below hb))
 have EL := zaa (show erR ws ps s = if (paR ws ps s).2.2 = 0 then erN ps (paR ws ps s).1 (paR ws ps s).2.1 else (0, (paR ws ps s).2.2) from rfl)
 have OKP := zaa (fun q => yahb (ws := ws) (ps := ps) (s := s) q)
 have NMP := zaa (fun (hi : zcb ws ps = true) (c : (paI ws ps s).2.2 = 0) => (zha hi c).2.2)
 have M := zaa hm
 obtain ⟨vW, vP, rfl, h1, h2⟩ := h
 obtain ⟨aW, cW, rfl, _, _⟩ := h1.shape
 obtain ⟨aP, cP, rfl, _, _⟩ := h2.shape
 clear h1 h2 hr hs hT hE hF hm
 have CA : Hid (∀ w', Below (w.alloc (.cells #[.slice aW ws.length cW, .slice aP ps.length cP] 42)).heap.size (w.alloc (.cells #[.slice aW ws.length cW, .slice aP ps.length cP] 42)) w' → w'.cell? ⟨w.heap.size, 0, none⟩ = some (.slice aW ws.length cW) ∧ w'.cell? ⟨w.heap.size, 1, none⟩ = some (.slice aP ps.length cP)) := fun w' hb => by
  have : w'.heap[w.heap.size]? = some (.cells #[.slice aW ws.length cW, .slice aP ps.length cP] 42 (0, 0)) := (hb.block _ (by simp)).trans (zah rfl)
  exact ⟨(zac this).1, (zac this).2.1⟩
 have BW : Hid (Below w.heap.size w (w.alloc (.cells #[.slice aW ws.length cW, .slice aP ps.length cP] 42))) := (Below.refl _ _).alloc (Nat.le_refl _) _
 obtain ⟨x0, x1⟩ := CA.out _ (Below.refl _ _)
 generalize hpr : paR ws ps s = pr at *
 have HPR := zaa hpr
 clear hpr
 generalize erR ws ps s = res at *
 obtain ⟨pd, pn, pc⟩ := pr
 simp only at EL OKP LP
 go_enter Tryz.func27, Tryz.ntmps27
 go_wp2_with fail
 refine (LP.out _ BW.out).mono ?_
 rintro e w1 ⟨rfl, hb1⟩
 have B1 := zaa (zab BW.out hb1 BW.out.size)
 clear x0 x1
 obtain ⟨x0, x1⟩ := CA.out _ hb1
 clear hb1 LP CA
 by_cases c : pc = 0
 case neg =>
  rw [if_neg c] at EL
  obtain rfl := EL.out
  have q : (pc != 0) = true := by rw [bne_iff_ne]; exact c
  clear EL c OKP NMP LT x0 x1
  go_wp2
  go_ret2
  exact ⟨rfl, ⟨D, M.out.below B1.out⟩, grownB B1.out _⟩
 rw [if_pos c] at EL
 subst c
 obtain ⟨hi, hpp⟩ := OKP.out rfl
 have NM : Hid (nmB pn = true) := by
  have := NMP.out hi (by rw [← hpp])
  rw [← hpp] at this
  exact this
 have key : Hid (keyOf Tryz.prog 9 (.string pn) = some (zpo pn)) := WideMaps.keyOf_string_mk strU (by have := (zda NM.out).2.1; unfold maxLen; omega)
 have LT2 := zaa (fun w1 hb => LT.out pd w1 hb hi)
 have ML := yaet hi pd pn
 have EN := zaa (show erN ps pd pn = match zay ps pd pn with | none => (0, 5) | some k => ((k : Int), 0) from rfl)
 rw [EN.out] at EL
 clear OKP NMP LT hpp HPR hi EN NM
 generalize mpD ps pd ps.length = D2 at *
 go_wp2_with fail
 refine (LT2.out _ B1.out).mono ?_
 rintro e w2 ⟨rfl, hm2, hg2⟩
 have M2 := zaa hm2
 have G2 := zaa ((grownB B1.out (some b)).trans hg2)
 clear hm2 hg2 LT2 x0 x1
 rcases ML with ⟨e1, e2⟩ | ⟨k, e1, e2, e3⟩
 ·rw [e1] at EL
  obtain rfl := EL.out
  have E2 := zaa e2
  clear EL e1 e2
  go_wp2_with (at_lookup; refine wpList_lookup_own_ok_int _ rfl _ _ 75 rfl 9 3 .i64 strK mapU intU (intZ _) b 4096 D2 rfl M2.out _ _ rfl key.out ?_)
  intro c hat hwc
  rw [E2.out]
  clear hat hwc
  go_wp2
  go_ret2
  exact ⟨rfl, ⟨D2, M2.out⟩, G2.out⟩
 ·rw [e1] at EL
  obtain rfl := EL.out
  have E2 := zaa e2
  have E3 := zaa e3
  clear EL e1 e2 e3
  go_wp2_with (at_lookup; refine wpList_lookup_own_ok_int _ rfl _ _ 75 rfl 9 3 .i64 strK mapU intU (intZ _) b 4096 D2 rfl M2.out _ _ rfl key.out ?_)
  intro c hat hwc
  rw [E2.out]
  have ck : c = (k : Int) := by
   rw [E3.out] at hat
   injection hat with hat
   injection hat with _ hat
   exact hat.symm
  subst ck
  clear hat hwc E3
  go_wp2
  go_ret2
  exact ⟨rfl, ⟨D2, M2.out⟩, G2.out⟩
set_option maxRecDepth 100000 in
set_option maxHeartbeats 4000000 in
theorem zxu (v : Value) (ws : List Ino) (ps : List Den) (s : ByteArray) (b : Nat) (D : DataW Unit) (w : World) (h : RdIm w v ws ps) (hw : ws.length ≤ 1048576) (hp : ps.length ≤ 1048576) (hT : TS w) (hE : ED w) (hF : FD w) (hr : ∀ k (h : k < ws.length), ws[k].R) (hs : ∀ k (h : k < ps.length), ps[k].name.size ≤ maxLen) (hm : Mp w b D) :
  Calls Tryz.prog 41 #[.map (some b), v, .string s] w fun e w' => e = .returned (.tuple #[.agg #[.int .i64 (nnR ws ps s).1.dir, .string (nnR ws ps s).1.name, .int .i64 (nnR ws ps s).1.child], .int .i64 (nnR ws ps s).2]) ∧ (∃ D', Mp w' b D') ∧ w.grownBy w' (some b) := by
 have LP := zaa (fun w1 (hb : Below w.heap.size w w1) => zip v ws ps s w1 (h.below hb) hw hp (hT.below hb) (hE.below hb) (hF.below hb) hr hs)
 have LT := zaa (fun d w1 (hb : Below w.heap.size w w1) (hi : zcb ws ps = true) => zlk v ws ps d b D w1 (h.below hb) hi (hm.below hb) (hF.below hb))
 have EL := zaa (show nnR ws ps s = if (paR ws ps s).2.2 = 0 then nnN ps (paR ws ps s).1 (paR ws ps s).2.1 else (yack, (paR ws ps s).2.2) from rfl)
 have OKP := zaa (fun q => yahb (ws := ws) (ps := ps) (s := s) q)
 have NMP := zaa (fun (hi : zcb ws ps = true) (c : (paI ws ps s).2.2 = 0) => (zha hi c).2.2)
 have M := zaa hm
 have bl := hm.lt
 obtain ⟨vW, vP, rfl, h1, h2⟩ := h
 obtain ⟨aW, cW, rfl, _, _⟩ := h1.shape
 obtain ⟨aP, cP, rfl, _, _⟩ := h2.shape
 clear h1 h2 hr hs hT hE hF hm
 obtain ⟨W, hW⟩ : ∃ W, W = (w.alloc (.cells #[.slice aW ws.length cW, .slice aP ps.length cP] 42)).alloc (.cells #[.int .i64 0, .string ⟨#[]⟩, .int .i64 0] 69) := ⟨_, rfl⟩
 have CA : Hid (∀ w', Below W.heap.size W w' → w'.cell? ⟨w.heap.size, 0, none⟩ = some (.slice aW ws.length cW) ∧ w'.cell? ⟨w.heap.size, 1, none⟩ = some (.slice aP ps.length cP)) := fun w' hb => by
  have : w'.heap[w.heap.size]? = some (.cells #[.slice aW ws.length cW, .slice aP ps.length cP] 42 (0, 0)) := (hb.block _ (by rw [hW]; simp; omega)).trans (by rw [hW]; exact zak (zah rfl))
  exact ⟨(zac this).1, (zac this).2.1⟩
 have CB : Hid (W.heap[w.heap.size + 1]? = some (.cells #[.int .i64 0, .string ⟨#[]⟩, .int .i64 0] 69 (0, 0))) := by
  unfold Hid
  rw [hW]
  exact zah (by simp)
 have BW : Hid (Below w.heap.size w W) := by rw [hW]; exact ((Below.refl _ _).alloc (Nat.le_refl _) _).alloc (by simp) _
 have hWz : W.heap.size = w.heap.size + 2 := by rw [hW]; simp
 have hWz2 : w.heap.size + 1 < W.heap.size := by omega
 obtain ⟨x0, x1⟩ := CA.out _ (Below.refl _ _)
 generalize hpr : paR ws ps s = pr at *
 have HPR := zaa hpr
 clear hpr hWz
 generalize nnR ws ps s = res at *
 obtain ⟨pd, pn, pc⟩ := pr
 simp only at EL OKP LP
 go_enter Tryz.func41, Tryz.ntmps41
 go_wp2_with fail
 rw [← hW]
 clear hW
 refine (LP.out _ BW.out).mono ?_
 rintro e w1 ⟨rfl, hb1⟩
 have B1 := zaa (zab BW.out hb1 BW.out.size)
 have V1 : Hid (w1.heap[w.heap.size + 1]? = some (.cells #[.int .i64 0, .string ⟨#[]⟩, .int .i64 0] 69 (0, 0))) := (hb1.block _ hWz2).trans CB.out
 clear x0 x1
 obtain ⟨x0, x1⟩ := CA.out _ hb1
 clear hb1 LP CA CB
 by_cases c : pc = 0
 case neg =>
  rw [if_neg c] at EL
  obtain rfl := EL.out
  have q : (pc != 0) = true := by rw [bne_iff_ne]; exact c
  clear EL c OKP NMP LT x0 x1
  obtain ⟨t0, t1, t2⟩ := zaw V1.out
  have u0 := (zao (xs := [.int .i64 0, .string ⟨#[]⟩, .int .i64 0]) V1.out 0).2
  have u1 := (zao (xs := [.int .i64 0, .string ⟨#[]⟩, .int .i64 0]) V1.out 1).2
  have u2 := (zao (xs := [.int .i64 0, .string ⟨#[]⟩, .int .i64 0]) V1.out 2).2
  go_wp2
  refine bodyPost_ret (v := .tuple #[.agg #[.int .i64 0, .string ⟨#[]⟩, .int .i64 0], .int .i64 pc]) (by simp [results, Tryz.results41, go_sem, t0, t1, t2]) rfl ⟨rfl, ⟨D, ?_⟩, ?_⟩
  ·repeat (first | exact M.out.below B1.out | refine Mp.set ?_ (by simp only; omega) _)
  ·repeat (first | exact grownB B1.out _ | refine zou ?_ (by simp only; omega) _)
 rw [if_pos c] at EL
 subst c
 obtain ⟨hi, hpp⟩ := OKP.out rfl
 have NM : Hid (nmB pn = true) := by
  have := NMP.out hi (by rw [← hpp])
  rw [← hpp] at this
  exact this
 have key : Hid (keyOf Tryz.prog 9 (.string pn) = some (zpo pn)) := WideMaps.keyOf_string_mk strU (by have := (zda NM.out).2.1; unfold maxLen; omega)
 have LT2 := zaa (fun w1 hb => LT.out pd w1 hb hi)
 have ML := yaet hi pd pn
 have EN := zaa (show nnN ps pd pn = match zay ps pd pn with | none => (⟨pd, pn, 0⟩, 0) | some _ => (yack, 8) from rfl)
 rw [EN.out] at EL
 clear OKP NMP LT hpp HPR hi EN NM
 generalize mpD ps pd ps.length = D2 at *
 go_wp2_with fail
 refine (LT2.out _ B1.out).mono ?_
 rintro e w2 ⟨rfl, hm2, hg2⟩
 have M2 := zaa hm2
 have G2 := zaa ((grownB B1.out (some b)).trans hg2)
 have V2 : Hid (w2.heap[w.heap.size + 1]? = some (.cells #[.int .i64 0, .string ⟨#[]⟩, .int .i64 0] 69 (0, 0))) := (hg2.block _ ((Array.getElem?_eq_some_iff.1 V1.out).1) (by intro e; injection e with e; omega)).trans V1.out
 obtain ⟨t0, t1, t2⟩ := zaw V2.out
 have u0 := (zao (xs := [.int .i64 0, .string ⟨#[]⟩, .int .i64 0]) V2.out 0).2
 have u1 := (zao (xs := [.int .i64 0, .string ⟨#[]⟩, .int .i64 0]) V2.out 1).2
 have u2 := (zao (xs := [.int .i64 0, .string ⟨#[]⟩, .int .i64 0]) V2.out 2).2
 clear hm2 hg2 LT2 x0 x1
 rcases ML with ⟨e1, e2⟩ | ⟨k, e1, e2, e3⟩
 ·rw [e1] at EL
  obtain rfl := EL.out
  have E2 := zaa e2
  clear EL e1 e2
  go_wp2_with (at_lookup; refine wpList_lookup_own_ok_int _ rfl _ _ 75 rfl 9 3 .i64 strK mapU intU (intZ _) b 4096 D2 rfl M2.out _ _ rfl key.out ?_)
  intro c hat hwc
  rw [E2.out]
  clear hat hwc
  go_wp2
  refine bodyPost_ret (v := .tuple #[.agg #[.int .i64 pd, .string pn, .int .i64 0], .int .i64 0]) (by simp [results, Tryz.results41, go_sem, t0, t1, t2]) rfl ⟨rfl, ⟨D2, ?_⟩, ?_⟩
  ·repeat (first | exact M2.out | refine Mp.set ?_ (by simp only; omega) _)
  ·repeat (first | exact G2.out | refine zou ?_ (by simp only; omega) _)
 ·rw [e1] at EL
  obtain rfl := EL.out
  have E2 := zaa e2
  have E3 := zaa e3
  clear EL e1 e2 e3
  go_wp2_with (at_lookup; refine wpList_lookup_own_ok_int _ rfl _ _ 75 rfl 9 3 .i64 strK mapU intU (intZ _) b 4096 D2 rfl M2.out _ _ rfl key.out ?_)
  intro c hat hwc
  rw [E2.out]
  clear hat hwc E3
  go_wp2
  refine bodyPost_ret (v := .tuple #[.agg #[.int .i64 0, .string ⟨#[]⟩, .int .i64 0], .int .i64 8]) (by simp [results, Tryz.results41, go_sem, t0, t1, t2]) rfl ⟨rfl, ⟨D2, ?_⟩, ?_⟩
  ·repeat (first | exact M2.out | refine Mp.set ?_ (by simp only; omega) _)
  ·repeat (first | exact G2.out | refine zou ?_ (by simp only; omega) _)
end Go.Proofs.YtpakbbdlhlkogaaGreatDoor
