/- Several texts laid together: FsB, TrB. -/
import Derived.Test.YtbbmljakfbhnpaaGreatDoorZBJ
import Derived.Test.YtbbmljakfbhnpaaGreatDoorDtJ
import Derived.Test.YtbbmljakfbhnpaaGreatDoorZBI
namespace Go.Proofs.YtbbmljakfbhnpaaGreatDoor
open Go.RowKit

theorem wr_no {ns : List Ino} {ds : List Den} {s : ByteArray} {page x : Int} (h : ¬ (wrI ns ds s page x).2 = 0) : (wrI ns ds s page x).1 = [] := by
 revert h
 unfold wrI
 split
 ·unfold wrF
  split
  ·split
   ·intro _; rfl
   ·intro h; exact absurd rfl h
  ·intro _; rfl
 ·intro _; rfl
theorem zty {ws es : List Int} {ns : List Ino} {ds : List Den} (h : Idle ws es ns ds) {k : Int} {p t : ByteArray} {g : Int} (c : (uoI ns ds k p t g).2 = 0) :
  ∃ ns' ds', Wi (zbx ws (uoI ns ds k p t g).1) ns' ds' := by
 have E : ∀ r : List Se × Int, r.2 = 0 → r = (r.1, 0) := fun r q => by rw [← q]
 revert c
 unfold uoI
 by_cases c1 : k = 1
 ·rw [if_pos c1]
  intro c
  obtain ⟨_, _, _, _, _, _, _, _, q⟩ := wi_make h.wi (.inl rfl) (E _ c)
  exact ⟨_, _, q⟩
 rw [if_neg c1]
 by_cases c2 : k = 2
 ·rw [if_pos c2]
  intro c
  obtain ⟨_, _, _, _, _, _, _, _, q⟩ := wi_make h.wi (.inr rfl) (E _ c)
  exact ⟨_, _, q⟩
 rw [if_neg c2]
 by_cases c3 : k = 3
 ·rw [if_pos c3]
  intro c
  obtain ⟨_, _, _, _, _, _, _, _, _, _, q⟩ := wi_remove h.wi (E _ c)
  exact ⟨_, _, q⟩
 rw [if_neg c3]
 by_cases c4 : k = 4
 ·rw [if_pos c4]
  intro c
  obtain ⟨_, _, _, _, _, _, _, _, _, q⟩ := wi_link h.wi (E _ c)
  exact ⟨_, _, q⟩
 rw [if_neg c4]
 by_cases c5 : k = 5
 ·rw [if_pos c5]
  intro c
  obtain ⟨_, _, _, _, _, _, _, _, _, _, _, _, _, q⟩ := wi_rename h.wi (E _ c)
  exact ⟨_, _, q⟩
 rw [if_neg c5]
 intro c
 obtain ⟨_, _, _, _, _, _, _, _, q⟩ := wi_cut h.wi (E _ c)
 exact ⟨_, _, q⟩
/-- What an operation's steps leave; a page that is read or written is one. -/
theorem idle_op {ws es : List Int} {ns : List Ino} {ds : List Den} (h : Idle ws es ns ds) (k : Int) (p t : ByteArray) (g y : Int) :
  (∃ ws' es' ns' ds', mr (opI ws [] es [] ns ds k p t g y).steps ws [] es [] = ⟨0, ws', [], es', []⟩ ∧ Idle ws' es' ns' ds') ∧ (∀ m ∈ (opI ws [] es [] ns ds k p t g y).steps, miB m = true) ∧ (opI ws [] es [] ns ds k p t g y).steps.length ≤ 200 ∧ ((k = 6 ∨ k = 8) → (opI ws [] es [] ns ds k p t g y).code = 0 → (0 ≤ g ∧ g < 8) ∧ ∃ i : Nat, i < 16 ∧ lkI ns ds p = ((i : Int), 0)) := by
 have N : ∀ l : List Mi, l = [] → (∃ ws' es' ns' ds', mr l ws [] es [] = ⟨0, ws', [], es', []⟩ ∧ Idle ws' es' ns' ds') ∧ (∀ m ∈ l, miB m = true) ∧ l.length ≤ 200 := fun l e => by
  subst e
  exact ⟨zuf h, (fun m hm => nomatch hm), Nat.zero_le _⟩
 have FL : (flI ns ds p).2 = 0 → ∃ i : Nat, i < 16 ∧ lkI ns ds p = ((i : Int), 0) := fun f => by
  obtain ⟨i, hi, ei, _⟩ := zfn h.wi.img f
  refine ⟨i, hi, ?_⟩
  have c : (lkI ns ds p).2 = 0 := by
   unfold flI at f
   split at f
   ·assumption
   ·assumption
  unfold flI at ei f
  rw [if_pos c] at ei f
  by_cases d : zak ns (lkI ns ds p).1 = 1
  ·rw [if_pos d] at ei
   rw [← ei, ← c]
  ·rw [if_neg d] at f
   cases f
 unfold opI
 by_cases c6 : k = 6
 ·rw [if_pos c6]
  show (∃ ws' es' ns' ds', mr (wrI ns ds p g y).1 ws [] es [] = ⟨0, ws', [], es', []⟩ ∧ Idle ws' es' ns' ds') ∧ (∀ m ∈ (wrI ns ds p g y).1, miB m = true) ∧ (wrI ns ds p g y).1.length ≤ 200 ∧ ((k = 6 ∨ k = 8) → (wrI ns ds p g y).2 = 0 → _)
  by_cases c : (wrI ns ds p g y).2 = 0
  ·obtain ⟨a, b, d, e, f⟩ := idle_write h c
   refine ⟨a, b, d, fun _ _ => ⟨⟨e, f⟩, FL ?_⟩⟩
   unfold wrI at c
   split at c
   ·assumption
   ·assumption
  ·obtain ⟨a, b, d⟩ := N _ (wr_no c)
   exact ⟨a, b, d, fun _ q => absurd q c⟩
 rw [if_neg c6]
 by_cases c8 : k = 8
 ·rw [if_pos c8]
  obtain ⟨a, b, d⟩ := N [] rfl
  refine ⟨a, b, d, fun _ q => ?_⟩
  replace q : (rpI ws [] es [] ns ds p g).2 = 0 := q
  unfold rpI at q
  by_cases f : (flI ns ds p).2 = 0
  ·rw [if_pos f] at q
   obtain ⟨i, hi, ei, k1⟩ := zfn h.wi.img f
   unfold rpF at q
   by_cases z : 0 ≤ g ∧ g < zdi ns (flI ns ds p).1
   ·refine ⟨⟨z.1, ?_⟩, FL f⟩
    have z2 := z.2
    rw [ei] at z2
    unfold zdi at z2
    rw [Int.toNat_natCast] at z2
    have := (zcj (h.wi.img.ok i hi)).2.1
    omega
   ·rw [if_neg z] at q
    cases q
  ·rw [if_neg f] at q
   exact absurd q f
 rw [if_neg c8]
 by_cases c9 : k = 9
 ·rw [if_pos c9]
  have e : (stA ns (lkI ns ds p)).steps = [] := by unfold stA; split <;> rfl
  obtain ⟨a, b, d⟩ := N _ e
  exact ⟨a, b, d, fun q _ => by omega⟩
 rw [if_neg c9]
 by_cases c10 : k = 10
 ·rw [if_pos c10]
  have e : (lsA ns ds (lkI ns ds p)).steps = [] := by
   unfold lsA
   split
   ·split <;> rfl
   ·rfl
  obtain ⟨a, b, d⟩ := N _ e
  exact ⟨a, b, d, fun q _ => by omega⟩
 rw [if_neg c10]
 show (∃ ws' es' ns' ds', mr (zdg (zdn (uoI ns ds k p t g).1)) ws [] es [] = ⟨0, ws', [], es', []⟩ ∧ Idle ws' es' ns' ds') ∧ (∀ m ∈ zdg (zdn (uoI ns ds k p t g).1), miB m = true) ∧ (zdg (zdn (uoI ns ds k p t g).1)).length ≤ 200 ∧ _
 by_cases c : (uoI ns ds k p t g).2 = 0
 ·obtain ⟨ui, hl, wv⟩ := uo_yes h.wi.img c
  obtain ⟨ns', ds', q⟩ := zty h c
  have pl := zio (uoI ns ds k p t g).1
  exact ⟨idle_plan h ui hl wv q, fun m hm => (zrl ui wv hl m hm).1, by omega, fun q _ => by omega⟩
 ·have e : zdg (zdn (uoI ns ds k p t g).1) = [] := by rw [uo_no c]; rfl
  obtain ⟨a, b, d⟩ := N _ e
  exact ⟨a, b, d, fun q _ => by omega⟩
theorem word_at {zs : List Int} (h : ∀ x ∈ zs, zbb x = true) (k : Nat) : zbb (zs[k]?.getD 0) = true := by
 rcases Nat.lt_or_ge k zs.length with q | q
 ·rw [List.getElem?_eq_getElem q]
  exact h _ (List.getElem_mem q)
 ·rw [List.getElem?_eq_none q]
  decide
/-- The word of a page is a word. -/
theorem zry {ws es : List Int} {ns : List Ino} {ds : List Den} (h : Idle ws es ns ds) (e : Int) : zbb (pgV ws [] es [] e) = true := by
 unfold pgV
 split
 ·show zbb (ws[_]?.getD 0) = true
  exact word_at (zgv.1 h.pm).2.2.1 _
 ·split
  ·exact word_at (zln.1 h.bk).2.2.1 _
  ·decide
/-- What a move's steps leave. -/
theorem zpl {ws es : List Int} {ns : List Ino} {ds : List Den} (h : Idle ws es ns ds) {i p : Nat} (hi : i < 16) (hp : p < 8) (was : ¬ (zal ns i).map.getD p 0 = 0) {e : Int} (te : zdz e = true) (he : ¬ e = 0) (new : ¬ e ∈ zap ns) {S : List Mi} {ws1 : List Int} (r : zmh (ws, []) S = (ws1, [])) (l1 : ws1.length = 336) (ag : ∀ z : Int, 0 ≤ z ∧ z < 312 → wdI ws1 z = wdI ws z) (hm : ∀ m ∈ S, miB m = true) (hl : S.length ≤ 100) (q : (zur (es, []) S).2 = []) :
  (∃ ws' es' ns' ds', mr (S ++ swL (i : Int) (p : Int) e) ws [] es [] = ⟨0, ws', [], es', []⟩ ∧ Idle ws' es' ns' ds') ∧ (∀ m ∈ S ++ swL (i : Int) (p : Int) e, miB m = true) ∧ (S ++ swL (i : Int) (p : Int) e).length ≤ 200 := by
 have ar : 0 ≤ 48 + 12 * (i : Int) + (3 + (p : Int)) ∧ 48 + 12 * (i : Int) + (3 + (p : Int)) < 336 := by omega
 have sm := zeq te
 have o : ∀ m ∈ swL (i : Int) (p : Int) e, StOK m := ok_one ar (x := e) (by omega)
 have w1 : Wi ws1 ns ds := zqk h.wi l1 (fun z hz => ag z (by omega))
 have w2 := wi_move w1 hi hp was te he new
 have L := zux (i : Int) (p : Int) e
 have ALL : ∀ m ∈ S ++ swL (i : Int) (p : Int) e, miB m = true := fun m hm' => by
  rcases List.mem_append.1 hm' with k | k
  ·exact hm m k
  ·exact (o m k).1
 have LEN : (S ++ swL (i : Int) (p : Int) e).length ≤ 200 := by rw [List.length_append]; omega
 have e2 : zbx ws1 [⟨48 + 12 * (i : Int) + (3 + (p : Int)), e⟩] = zck ws1 [up (48 + 12 * (i : Int) + (3 + (p : Int))) e] := rfl
 have R : zmh (ws, []) (S ++ swL (i : Int) (p : Int) e) = (zbx ws1 [⟨48 + 12 * (i : Int) + (3 + (p : Int)), e⟩], []) := by
  rw [zdd, r, e2]
  exact zht [up (48 + 12 * (i : Int) + (3 + (p : Int))) e] ws1
 have c : wdI (zbx ws1 [⟨48 + 12 * (i : Int) + (3 + (p : Int)), e⟩]) 8 = 0 := by
  rw [zep (by omega) _ _ (fun u hu => by rw [List.mem_singleton.1 hu]; exact ⟨by show 0 ≤ 48 + 12 * (i : Int) + (3 + (p : Int)); omega, by show 48 + 12 * (i : Int) + (3 + (p : Int)) < (ws1.length : Int); omega, by show ¬ 48 + 12 * (i : Int) + (3 + (p : Int)) = 8; omega⟩), ag 8 (by omega)]
  exact h.c0
 obtain ⟨es', e3, k3⟩ := zji h R c w2 ALL LEN (by
  rw [zmz]
  show (zur (zur (es, []) S) (swL (i : Int) (p : Int) e)).2 = []
  rw [zhd _ _ o]
  exact q)
 exact ⟨⟨_, _, _, _, e3, k3⟩, ALL, LEN⟩
theorem zut {ws es : List Int} {ns : List Ino} {ds : List Den} (h : Idle ws es ns ds) {i p : Nat} (hi : i < 16) (hp : p < 8) (z : Int) (c : (deF ns ((zal ns i).map.getD p 0) (pgV ws [] es [] z) (i : Int) (p : Int)).2 = 0) :
  (∃ ws' es' ns' ds', mr (deF ns ((zal ns i).map.getD p 0) (pgV ws [] es [] z) (i : Int) (p : Int)).1 ws [] es [] = ⟨0, ws', [], es', []⟩ ∧ Idle ws' es' ns' ds') ∧ (∀ m ∈ (deF ns ((zal ns i).map.getD p 0) (pgV ws [] es [] z) (i : Int) (p : Int)).1, miB m = true) ∧ (deF ns ((zal ns i).map.getD p 0) (pgV ws [] es [] z) (i : Int) (p : Int)).1.length ≤ 200 := by
 have X := zva (zry h z)
 revert c
 generalize pgV ws [] es [] z = x at *
 unfold deF
 by_cases c1 : (zal ns i).map.getD p 0 = 0 ∨ ¬ (zal ns i).map.getD p 0 % 4 = 1
 ·rw [if_pos c1]; intro c; cases c
 rw [if_neg c1]
 by_cases c2 : fsI ns < 0
 ·rw [if_pos c2]; intro c; cases c
 rw [if_neg c2]
 intro _
 obtain ⟨k, k32, ek, nk⟩ := zcu (p := fun i => !zho (zby (zap ns) 2) (i : Int)) (n := 32) (by show 0 ≤ fsI ns; omega)
 replace ek : fsI ns = (k : Int) := ek
 unfold deS
 rw [ek]
 have te : zdz (4 * (k : Int) + 2) = true := by
  unfold zdz zgi
  rw [Bool.and_eq_true, decide_eq_true_eq, decide_eq_true_eq]
  omega
 exact zpl h hi hp (fun q => c1 (.inl q)) te (by omega) (new_of (by omega) nk) (S := [⟨4, (k : Int), x⟩, ⟨5, 0, 0⟩]) (ws1 := ws) rfl h.wi.len (fun z _ => rfl) (ok_two (by omega) X) (by simp) (runE_two _ _ _)
theorem zsp {ws es : List Int} {ns : List Ino} {ds : List Den} (h : Idle ws es ns ds) {i p : Nat} (hi : i < 16) (hp : p < 8) (z : Int) (c : (prF ns ((zal ns i).map.getD p 0) (pgV ws [] es [] z) (i : Int) (p : Int)).2 = 0) :
  (∃ ws' es' ns' ds', mr (prF ns ((zal ns i).map.getD p 0) (pgV ws [] es [] z) (i : Int) (p : Int)).1 ws [] es [] = ⟨0, ws', [], es', []⟩ ∧ Idle ws' es' ns' ds') ∧ (∀ m ∈ (prF ns ((zal ns i).map.getD p 0) (pgV ws [] es [] z) (i : Int) (p : Int)).1, miB m = true) ∧ (prF ns ((zal ns i).map.getD p 0) (pgV ws [] es [] z) (i : Int) (p : Int)).1.length ≤ 200 := by
 have X := zva (zry h z)
 revert c
 generalize pgV ws [] es [] z = x at *
 unfold prF
 by_cases c1 : (zal ns i).map.getD p 0 = 0 ∨ ¬ (zal ns i).map.getD p 0 % 4 = 2
 ·rw [if_pos c1]; intro c; cases c
 rw [if_neg c1]
 by_cases c2 : fpI ns < 0
 ·rw [if_pos c2]; intro c; cases c
 rw [if_neg c2]
 intro _
 obtain ⟨k, k24, ek, nk⟩ := zcu (p := fun i => !zho (zby (zap ns) 1) (i : Int)) (n := 24) (by show 0 ≤ fpI ns; omega)
 replace ek : fpI ns = (k : Int) := ek
 have te : zdz (4 * (k : Int) + 1) = true := by
  unfold zdz zgi
  rw [Bool.and_eq_true, decide_eq_true_eq, decide_eq_true_eq]
  omega
 have o := ok_one (a := 312 + (k : Int)) (x := x) (by omega) X
 unfold prS
 rw [ek]
 refine zpl h hi hp (fun q => c1 (.inl q)) te (by omega) (new_of (by omega) nk) (S := ⟨1, 312 + (k : Int), x⟩ :: zbg [312 + (k : Int)]) (ws1 := ws.set (312 + (k : Int)).toNat x) (zht [up (312 + (k : Int)) x] ws) (by rw [List.length_set]; exact h.wi.len) (fun z hz => ?_) (fun m hm => (o m hm).1) (Nat.le_trans (one_len _ _) (by omega)) (by rw [zhd _ _ o])
 unfold wdI
 rw [List.getD_eq_getElem?_getD, List.getD_eq_getElem?_getD, List.getElem?_set_ne (by omega)]
end Go.Proofs.YtbbmljakfbhnpaaGreatDoor

namespace Go.Proofs.YtbbmljakfbhnpaaGreatDoor
open Go.RowKit

/-- A page is touched. -/
def touH (hs : List Int) (k : Nat) : List Int := hs.set k (min 64 (hs.getD k 0 + 8))
theorem zbj {hs : List Int} (h : zhg hs = true) : hs.length = 128 ∧ ∀ k (h : k < hs.length), 0 ≤ hs[k] ∧ hs[k] ≤ 64 := of_decide_eq_true h
theorem own_blk {w : World} {base : Nat} {e : TypeId} {size : Nat} {v : Value} {n : Nat} {xs : List Value} (h : w.ownsRow base e size v n xs) (hn : 0 < n) : ∃ b c, v = .slice (some ⟨b, 0, none⟩) n c ∧ n ≤ c := by
 rcases (zac h).shape with ⟨_, e, _⟩ | ⟨b, c, rfl, hc, _⟩
 ·omega
 ·exact ⟨b, c, rfl, hc⟩
set_option maxRecDepth 100000 in
set_option maxHeartbeats 4000000 in
theorem ztf (v : Value) (hs : List Int) (i p : Nat) (w : World) (h : RdI w v hs) (hn : hs.length = 128) (hr : ∀ k (h : k < hs.length), 0 ≤ hs[k] ∧ hs[k] ≤ 64) (hi : i < 16) (hp : p < 8) :
  Calls Tryz.prog 184 #[v, .int .i64 (i : Int), .int .i64 (p : Int)] w fun e w' => ∃ v', e = .returned v' ∧ Row w' 3 1 w.heap.size w'.heap.size v' (touH hs (8 * i + p)).length (zco (touH hs (8 * i + p))) ∧ Below w.heap.size w w' := by
 obtain ⟨ao, cap, rfl, hcap, -⟩ := h.shape
 have HR : Hid (Rd (w.alloc (.cells #[] 3)) 1 (.slice ao hs.length cap) hs.length (zco hs)) := Rd.below h ((Below.refl _ _).alloc (Nat.le_refl _) _)
 have ST : Hid (InI w (w.alloc (.cells #[] 3)) (.slice (some ⟨w.heap.size, 0, none⟩) 0 0) []) := ⟨World.ownsRow_lit w #[] 0 (Nat.le_refl _) (by simp [maxLen]) (by simp), (Below.refl _ _).alloc (Nat.le_refl _) _⟩
 have hz : w.heap.size ≤ (w.alloc (.cells #[] 3)).heap.size := ST.out.z
 obtain ⟨k, hk⟩ : ∃ k : Nat, k = 8 * i + p := ⟨_, rfl⟩
 have k128 : k < hs.length := by omega
 have KL := zaa k128
 obtain ⟨z0, z64⟩ := hr k k128
 have EG : Hid (hs.getD k 0 = hs[k]) := by unfold Hid; rw [List.getD_eq_getElem?_getD, List.getElem?_eq_getElem k128]; rfl
 have ET : Hid (touH hs k = hs.set k (min 64 (hs[k] + 8))) := by unfold Hid touH; rw [EG.out]
 have kk : (8 * (i : Int) + (p : Int)) = (k : Int) := by omega
 have w1f : IntKind.i64.wrap (8 * (i : Int)) = 8 * (i : Int) := by rw [IntKind.wrap_i64]; omega
 have w2f : IntKind.i64.wrap (8 * (i : Int) + (p : Int)) = (k : Int) := by rw [IntKind.wrap_i64]; omega
 have w3f : IntKind.i64.wrap (hs[k] + 8) = hs[k] + 8 := by rw [IntKind.wrap_i64]; omega
 rw [← hk, ET.out]
 have CL : Hid ((zco hs)[k]? = some (.int .i64 hs[k])) := zcq hs k k128
 have hl1 : hs.length ≤ 128 := by omega
 clear hn hr
 generalize hs[k] = z at *
 obtain ⟨mm, em, cm⟩ : ∃ mm : Int, min 64 (z + 8) = mm ∧ ((z + 8 < 64 ∧ mm = z + 8) ∨ (¬ z + 8 < 64 ∧ mm = 64)) := ⟨min 64 (z + 8), rfl, by omega⟩
 rw [em]
 have CM := zaa cm
 clear em cm
 go_enter Tryz.func184, Tryz.ntmps184
 go_wp2_with (at_builtin; refine zae _ rfl (.tmp 8) (.tmp 9) 28 rfl w.heap.size 3 (.int .i64 0) 1 8 Tryz.underlying28 zjk rfl (by decide) _ _ _ rfl ST.out.l _ hs.length (zco hs) rfl HR.out (zev _) (by first | omega | (simp [maxLen]; omega)) (by first | omega | (simp; omega)) hz ?_)
 intro vN wN hownN hgrN
 have G : Hid (Row wN 3 1 w.heap.size wN.heap.size vN hs.length (zco hs)) := by
  have q := zac hownN
  exact q
 have BN : Hid (Below w.heap.size w wN) := ST.out.b.grown hgrN hz (fun q hq => (ST.out.l.lt q hq).1)
 obtain ⟨b, c, rfl, hcb⟩ := own_blk G.out.1 (by omega)
 obtain ⟨_, _, _, hbl, hfr, hcl⟩ := G.out.at
 have e0 : wN.cell? ⟨b, k, none⟩ = some (.int .i64 z) := (hcl k (by omega)).trans CL.out
 have f0 : wN.frozen? ⟨b, k, none⟩ = false := hfr k
 have k0 : (0 : Int) ≤ (k : Int) := by omega
 have k1 : (k : Int) < (hs.length : Int) := by omega
 have hwb : w.heap.size ≤ b := (G.out.1.lt b rfl).1
 have R2 : Hid (Row (wN.setCell ⟨b, k, none⟩ (.int .i64 mm)) 3 1 w.heap.size (wN.setCell ⟨b, k, none⟩ (.int .i64 mm)).heap.size (.slice (some ⟨b, 0, none⟩) hs.length c) hs.length (zco (hs.set k mm))) := by
  have q := G.out.stored k (.int .i64 mm)
  rw [zft] at q
  exact q.wide (Nat.le_refl _) (by simp [World.setCell])
 have B2 : Hid (Below w.heap.size w (wN.setCell ⟨b, k, none⟩ (.int .i64 mm))) := BN.out.setCell hwb _
 clear hownN hgrN G BN HR ST hcl hfr kk hk
 rcases CM.out with ⟨c1, rfl⟩ | ⟨c1, rfl⟩
 ·have mn : min 64 (z + 8) = z + 8 := by omega
  go_wp2
  go_ret
  exact ⟨_, rfl, R2.out, B2.out⟩
 ·have mn : min 64 (z + 8) = 64 := by omega
  go_wp2
  go_ret
  exact ⟨_, rfl, R2.out, B2.out⟩

end Go.Proofs.YtbbmljakfbhnpaaGreatDoor
