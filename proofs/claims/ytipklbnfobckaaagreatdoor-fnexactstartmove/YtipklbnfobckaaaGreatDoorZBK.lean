/- Several texts laid together: FsB, FsH, MvB. -/
import Derived.Test.YtipklbnfobckaaaGreatDoorZBF
import Derived.Test.YtipklbnfobckaaaGreatDoorZBJ
import Derived.Test.YtipklbnfobckaaaGreatDoorZAM
import Derived.Test.YtipklbnfobckaaaGreatDoorZAX
import Derived.Test.YtipklbnfobckaaaGreatDoorRdC
namespace Go.Proofs.YtipklbnfobckaaaGreatDoor
open Go.RowKit

theorem word_at {zs : List Int} (h : ∀ x ∈ zs, zat x = true) (k : Nat) : zat (zs[k]?.getD 0) = true := by
 rcases Nat.lt_or_ge k zs.length with q | q
 ·rw [List.getElem?_eq_getElem q]
  exact h _ (List.getElem_mem q)
 ·rw [List.getElem?_eq_none q]
  decide
/-- The word of a page is a word. -/
theorem zrx {ws es : List Int} {ns : List Ino} {ds : List Den} (h : Idle ws es ns ds) (e : Int) : zat (pgV ws [] es [] e) = true := by
 unfold pgV
 split
 ·show zat (ws[_]?.getD 0) = true
  exact word_at (zlv.1 h.pm).2.2.1 _
 ·split
  ·exact word_at (zko.1 h.bk).2.2.1 _
  ·decide
/-- What a move's steps leave. -/
theorem zny {ws es : List Int} {ns : List Ino} {ds : List Den} (h : Idle ws es ns ds) {i p : Nat} (hi : i < 16) (hp : p < 8) (was : ¬ (zar ns i).map.getD p 0 = 0) {e : Int} (te : zdl e = true) (he : ¬ e = 0) (new : ¬ e ∈ zak ns) {S : List Mi} {ws1 : List Int} (r : zpw (ws, []) S = (ws1, [])) (l1 : ws1.length = 336) (ag : ∀ z : Int, 0 ≤ z ∧ z < 312 → wdI ws1 z = wdI ws z) (hm : ∀ m ∈ S, miB m = true) (hl : S.length ≤ 100) (q : (zvq (es, []) S).2 = []) :
  (∃ ws' es' ns' ds', mr (S ++ swL (i : Int) (p : Int) e) ws [] es [] = ⟨0, ws', [], es', []⟩ ∧ Idle ws' es' ns' ds') ∧ (∀ m ∈ S ++ swL (i : Int) (p : Int) e, miB m = true) ∧ (S ++ swL (i : Int) (p : Int) e).length ≤ 200 := by
 have ar : 0 ≤ 48 + 12 * (i : Int) + (3 + (p : Int)) ∧ 48 + 12 * (i : Int) + (3 + (p : Int)) < 336 := by omega
 have sm := zcd te
 have o : ∀ m ∈ swL (i : Int) (p : Int) e, StOK m := ok_one ar (x := e) (by omega)
 have w1 : Wi ws1 ns ds := wi_agree h.wi l1 (fun z hz => ag z (by omega))
 have w2 := wi_move w1 hi hp was te he new
 have L := zls (i : Int) (p : Int) e
 have ALL : ∀ m ∈ S ++ swL (i : Int) (p : Int) e, miB m = true := fun m hm' => by
  rcases List.mem_append.1 hm' with k | k
  ·exact hm m k
  ·exact (o m k).1
 have LEN : (S ++ swL (i : Int) (p : Int) e).length ≤ 200 := by rw [List.length_append]; omega
 have e2 : zhl ws1 [⟨48 + 12 * (i : Int) + (3 + (p : Int)), e⟩] = zbn ws1 [up (48 + 12 * (i : Int) + (3 + (p : Int))) e] := rfl
 have R : zpw (ws, []) (S ++ swL (i : Int) (p : Int) e) = (zhl ws1 [⟨48 + 12 * (i : Int) + (3 + (p : Int)), e⟩], []) := by
  rw [zhc, r, e2]
  exact seg_run [up (48 + 12 * (i : Int) + (3 + (p : Int))) e] ws1
 have c : wdI (zhl ws1 [⟨48 + 12 * (i : Int) + (3 + (p : Int)), e⟩]) 8 = 0 := by
  rw [zja (by omega) _ _ (fun u hu => by rw [List.mem_singleton.1 hu]; exact ⟨by show 0 ≤ 48 + 12 * (i : Int) + (3 + (p : Int)); omega, by show 48 + 12 * (i : Int) + (3 + (p : Int)) < (ws1.length : Int); omega, by show ¬ 48 + 12 * (i : Int) + (3 + (p : Int)) = 8; omega⟩), ag 8 (by omega)]
  exact h.c0
 obtain ⟨es', e3, k3⟩ := idle_steps h R c w2 ALL LEN (by
  rw [zvn]
  show (zvq (zvq (es, []) S) (swL (i : Int) (p : Int) e)).2 = []
  rw [zqe _ _ o]
  exact q)
 exact ⟨⟨_, _, _, _, e3, k3⟩, ALL, LEN⟩
theorem zwl {ws es : List Int} {ns : List Ino} {ds : List Den} (h : Idle ws es ns ds) {i p : Nat} (hi : i < 16) (hp : p < 8) (z : Int) (c : (deF ns ((zar ns i).map.getD p 0) (pgV ws [] es [] z) (i : Int) (p : Int)).2 = 0) :
  (∃ ws' es' ns' ds', mr (deF ns ((zar ns i).map.getD p 0) (pgV ws [] es [] z) (i : Int) (p : Int)).1 ws [] es [] = ⟨0, ws', [], es', []⟩ ∧ Idle ws' es' ns' ds') ∧ (∀ m ∈ (deF ns ((zar ns i).map.getD p 0) (pgV ws [] es [] z) (i : Int) (p : Int)).1, miB m = true) ∧ (deF ns ((zar ns i).map.getD p 0) (pgV ws [] es [] z) (i : Int) (p : Int)).1.length ≤ 200 := by
 have X := word_in (zrx h z)
 revert c
 generalize pgV ws [] es [] z = x at *
 unfold deF
 by_cases c1 : (zar ns i).map.getD p 0 = 0 ∨ ¬ (zar ns i).map.getD p 0 % 4 = 1
 ·rw [if_pos c1]; intro c; cases c
 rw [if_neg c1]
 by_cases c2 : fsI ns < 0
 ·rw [if_pos c2]; intro c; cases c
 rw [if_neg c2]
 intro _
 obtain ⟨k, k32, ek, nk⟩ := zgi (p := fun i => !zep (zas (zak ns) 2) (i : Int)) (n := 32) (by show 0 ≤ fsI ns; omega)
 replace ek : fsI ns = (k : Int) := ek
 unfold deS
 rw [ek]
 have te : zdl (4 * (k : Int) + 2) = true := by
  unfold zdl zdx
  rw [Bool.and_eq_true, decide_eq_true_eq, decide_eq_true_eq]
  omega
 exact zny h hi hp (fun q => c1 (.inl q)) te (by omega) (new_of (by omega) nk) (S := [⟨4, (k : Int), x⟩, ⟨5, 0, 0⟩]) (ws1 := ws) rfl h.wi.len (fun z _ => rfl) (ok_two (by omega) X) (by simp) (runE_two _ _ _)
theorem zrh {ws es : List Int} {ns : List Ino} {ds : List Den} (h : Idle ws es ns ds) {i p : Nat} (hi : i < 16) (hp : p < 8) (z : Int) (c : (prF ns ((zar ns i).map.getD p 0) (pgV ws [] es [] z) (i : Int) (p : Int)).2 = 0) :
  (∃ ws' es' ns' ds', mr (prF ns ((zar ns i).map.getD p 0) (pgV ws [] es [] z) (i : Int) (p : Int)).1 ws [] es [] = ⟨0, ws', [], es', []⟩ ∧ Idle ws' es' ns' ds') ∧ (∀ m ∈ (prF ns ((zar ns i).map.getD p 0) (pgV ws [] es [] z) (i : Int) (p : Int)).1, miB m = true) ∧ (prF ns ((zar ns i).map.getD p 0) (pgV ws [] es [] z) (i : Int) (p : Int)).1.length ≤ 200 := by
 have X := word_in (zrx h z)
 revert c
 generalize pgV ws [] es [] z = x at *
 unfold prF
 by_cases c1 : (zar ns i).map.getD p 0 = 0 ∨ ¬ (zar ns i).map.getD p 0 % 4 = 2
 ·rw [if_pos c1]; intro c; cases c
 rw [if_neg c1]
 by_cases c2 : fpI ns < 0
 ·rw [if_pos c2]; intro c; cases c
 rw [if_neg c2]
 intro _
 obtain ⟨k, k24, ek, nk⟩ := zgi (p := fun i => !zep (zas (zak ns) 1) (i : Int)) (n := 24) (by show 0 ≤ fpI ns; omega)
 replace ek : fpI ns = (k : Int) := ek
 have te : zdl (4 * (k : Int) + 1) = true := by
  unfold zdl zdx
  rw [Bool.and_eq_true, decide_eq_true_eq, decide_eq_true_eq]
  omega
 have o := ok_one (a := 312 + (k : Int)) (x := x) (by omega) X
 unfold prS
 rw [ek]
 refine zny h hi hp (fun q => c1 (.inl q)) te (by omega) (new_of (by omega) nk) (S := ⟨1, 312 + (k : Int), x⟩ :: zaw [312 + (k : Int)]) (ws1 := ws.set (312 + (k : Int)).toNat x) (seg_run [up (312 + (k : Int)) x] ws) (by rw [List.length_set]; exact h.wi.len) (fun z hz => ?_) (fun m hm => (o m hm).1) (Nat.le_trans (one_len _ _) (by omega)) (by rw [zqe _ _ o])
 unfold wdI
 rw [List.getD_eq_getElem?_getD, List.getD_eq_getElem?_getD, List.getElem?_set_ne (by omega)]
end Go.Proofs.YtipklbnfobckaaaGreatDoor

namespace Go.Proofs.YtipklbnfobckaaaGreatDoor
open Go.RowKit

/-- A file system that can be read, with nothing to be done. -/
def FsIdle (w : World) (v : Value) : Prop := ∃ ws es ns ds hs, RdFs w v ws es hs [] 0 0 [] false ∧ Idle ws es ns ds ∧ zcn hs = true
theorem FsIdle.below {w w' : World} {v : Value} (h : FsIdle w v) (hb : Below w.heap.size w w') : FsIdle w' v := by
 obtain ⟨ws, es, ns, ds, hs, a, b, c⟩ := h
 exact ⟨ws, es, ns, ds, hs, a.below hb, b, c⟩
theorem zgj {ws es : List Int} {ns : List Ino} {ds : List Den} (h : Idle ws es ns ds) : 3 ≤ ws.length ∧ 3 ≤ es.length := by
 have a := h.wi.len
 have b := (zff h.bk).1
 omega
theorem FsIdle.soft {w w' : World} {v : Value} (h : FsIdle w v) (s : Soft w w') : FsIdle w' v := by
 obtain ⟨ws, es, ns, ds, hs, a, b, c⟩ := h
 exact ⟨ws, es, ns, ds, hs, a.soft s (zgj b).1 (zgj b).2 (by have := (zea c).1; omega), b, c⟩

end Go.Proofs.YtipklbnfobckaaaGreatDoor

namespace Go.Proofs.YtipklbnfobckaaaGreatDoor
open Go.RowKit

set_option maxRecDepth 100000 in
set_option maxHeartbeats 16000000 in
theorem zqu (vd v : Value) (ws : List Int) (ps : List St) (es : List Int) (qs : List Se) (ns : List Ino) (ds : List Den) (i p : Nat) (w : World) (hd : RdDev w vd ws ps es qs) (hP : pmB ws ps = true) (hB : zeh es qs = true) (h : RdIm w v ns ds) (hi : zdm ns ds = true) (i16 : i < 16) (p8 : p < 8) :
  Calls Tryz.prog 134 #[vd, v, .int .i64 (i : Int), .int .i64 (p : Int)] w fun e w' => zqn w w' e (deF ns (enI ns (i : Int) (p : Int)) (pgV ws ps es qs (enI ns (i : Int) (p : Int))) (i : Int) (p : Int)) := by
 have TE : zdl (enI ns (i : Int) (p : Int)) = true := by
  unfold enI
  rw [Int.toNat_natCast, Int.toNat_natCast]
  exact zon hi i16 p
 have LV := zaa (fun w1 (hb : Below w.heap.size w w1) => zjq vd ws ps es qs (enI ns (i : Int) (p : Int)) w1 (hd.below hb) hP hB TE)
 obtain ⟨z0, z1⟩ := zcd TE
 obtain ⟨l16, l24, _⟩ := zdr hi
 have TR : ∀ k (h : k < ns.length), ∀ z ∈ ns[k].map, 0 ≤ z ∧ z ≤ 1048576 := fun k hk z hz => by
  have t := (zgl ((zmq.1 hi).ok k (by omega))).1 z (by rw [zbr hk]; exact hz)
  exact zcd t
 have LF : Hid (∀ w1, Below w.heap.size w w1 → Calls Tryz.prog 198 #[v, .int .i64 2, .int .i64 32] w1 fun e w' => e = .returned (.int .i64 (fsI ns)) ∧ Below w1.heap.size w1 w') := fun w1 hb => zla v ns ds 2 32 w1 (h.below hb) (by omega) TR (by omega)
 have L16 := zaa l16
 have F1 : Hid (0 ≤ fsI ns → ∃ k : Nat, k < 32 ∧ fsI ns = (k : Int)) := fun c => by
  obtain ⟨k, a, b, -⟩ := zgi c
  exact ⟨k, a, b⟩
 have EL := zaa (fun x => show deF ns (enI ns (i : Int) (p : Int)) x (i : Int) (p : Int) = if enI ns (i : Int) (p : Int) = 0 ∨ ¬ enI ns (i : Int) (p : Int) % 4 = 1 then ([], 5) else if fsI ns < 0 then ([], 7) else (deS ns x ++ swL (i : Int) (p : Int) (4 * fsI ns + 2), 0) from rfl)
 obtain ⟨vW, vP, rfl, h1, h2⟩ := h
 obtain ⟨aW, cW, rfl, _, hcW⟩ := h1.shape
 obtain ⟨aP, cP, rfl, _, hcP⟩ := h2.shape
 obtain ⟨bW, oW, rfl, hblW, hcellW⟩ := hcW (by omega)
 have HM : Hid (∀ w', Below w.heap.size w w' → w'.cell? ⟨bW, oW + i * 11 + 3 + p, none⟩ = some (.int .i64 (enI ns (i : Int) (p : Int)))) := fun w' hb => by
  unfold enI
  rw [Int.toNat_natCast, Int.toNat_natCast, zbr (by have := L16.out; omega : i < ns.length)]
  obtain ⟨a0, a1, a2, a3, a4, a5, a6, a7, a8, a9, a10⟩ := hcellW i (by have := L16.out; omega)
  rcases (show p = 0 ∨ p = 1 ∨ p = 2 ∨ p = 3 ∨ p = 4 ∨ p = 5 ∨ p = 6 ∨ p = 7 by omega) with rfl | rfl | rfl | rfl | rfl | rfl | rfl | rfl
  ·exact (hb.cell (p := ⟨bW, oW + i * 11 + 3, none⟩) hblW).trans a3
  ·exact (hb.cell (p := ⟨bW, oW + i * 11 + 4, none⟩) hblW).trans a4
  ·exact (hb.cell (p := ⟨bW, oW + i * 11 + 5, none⟩) hblW).trans a5
  ·exact (hb.cell (p := ⟨bW, oW + i * 11 + 6, none⟩) hblW).trans a6
  ·exact (hb.cell (p := ⟨bW, oW + i * 11 + 7, none⟩) hblW).trans a7
  ·exact (hb.cell (p := ⟨bW, oW + i * 11 + 8, none⟩) hblW).trans a8
  ·exact (hb.cell (p := ⟨bW, oW + i * 11 + 9, none⟩) hblW).trans a9
  ·exact (hb.cell (p := ⟨bW, oW + i * 11 + 10, none⟩) hblW).trans a10
 obtain ⟨dW, eW, dP, eP, dS, eS, dQ, eQ, rfl, -, -⟩ := hd.form
 have i1 : (i : Int) < (ns.length : Int) := by have := L16.out; omega
 have i0 : (0 : Int) ≤ (i : Int) := by omega
 have p0 : (0 : Int) ≤ (p : Int) := by omega
 have p1 : (p : Int) < 8 := by omega
 clear h1 h2 hi hcW hcP hcellW l16 l24 TR hd hP hB L16 TE
 obtain ⟨W0, hW0⟩ : ∃ W0, W0 = w.alloc (.cells #[.slice dW ws.length eW, .slice dP ps.length eP, .slice dS es.length eS, .slice dQ qs.length eQ] 46) := ⟨_, rfl⟩
 obtain ⟨W, hW⟩ : ∃ W, W = W0.alloc (.cells #[.slice (some ⟨bW, oW, none⟩) ns.length cW, .slice aP ds.length cP] 83) := ⟨_, rfl⟩
 have z0' : W0.heap.size = w.heap.size + 1 := by rw [hW0]; simp
 have CA : Hid (∀ w', Below W.heap.size W w' → w'.cell? ⟨w.heap.size + 1, 0, none⟩ = some (.slice (some ⟨bW, oW, none⟩) ns.length cW) ∧ w'.cell? ⟨w.heap.size + 1, 1, none⟩ = some (.slice aP ds.length cP)) := fun w' hb => by
  have : w'.heap[w.heap.size + 1]? = some (.cells #[.slice (some ⟨bW, oW, none⟩) ns.length cW, .slice aP ds.length cP] 83 (0, 0)) := (hb.block _ (by rw [hW]; simp; omega)).trans (by rw [hW, ← z0']; exact zah rfl)
  exact ⟨(zad this).1, (zad this).2.1⟩
 have CD : Hid (∀ w', Below W.heap.size W w' → w'.cell? ⟨w.heap.size, 0, none⟩ = some (.slice dW ws.length eW) ∧ w'.cell? ⟨w.heap.size, 1, none⟩ = some (.slice dP ps.length eP) ∧ w'.cell? ⟨w.heap.size, 2, none⟩ = some (.slice dS es.length eS) ∧ w'.cell? ⟨w.heap.size, 3, none⟩ = some (.slice dQ qs.length eQ)) := fun w' hb => by
  have : w'.heap[w.heap.size]? = some (.cells #[.slice dW ws.length eW, .slice dP ps.length eP, .slice dS es.length eS, .slice dQ qs.length eQ] 46 (0, 0)) := (hb.block _ (by rw [hW]; simp; omega)).trans (by
   rw [hW]
   exact (((Below.refl W0.heap.size W0).alloc (Nat.le_refl _) _).block _ (by omega)).trans (by rw [hW0]; exact zah rfl))
  obtain ⟨a, b, c, d, -⟩ := zan this
  exact ⟨a, b, c, d⟩
 have BW : Hid (Below w.heap.size w W) := by rw [hW, hW0]; exact ((Below.refl _ _).alloc (Nat.le_refl _) _).alloc (by simp) _
 generalize enI ns (i : Int) (p : Int) = e at *
 generalize pgV ws ps es qs e = x at *
 have EL1 := zaa (EL.out x)
 have te : Int.tmod e 4 = e % 4 := Int.tmod_eq_emod_of_nonneg z0
 clear EL z0'
 generalize deF ns e x (i : Int) (p : Int) = res at *
 obtain ⟨x0, x1⟩ := CA.out _ (Below.refl _ _)
 have e0 := HM.out _ BW.out
 go_enter Tryz.func134, Tryz.ntmps134
 go_upto_region 1 with fail
 rw [← hW0, ← hW]
 clear hW hW0
 by_cases c1 : e = 0
 ·rw [if_pos (.inl c1)] at EL1
  obtain rfl := EL1.out
  subst c1
  clear EL1 LV LF
  go_wp2
  go_ret2
  exact zit BW.out rfl
 have q1 : (e == 0) = false := by rw [beq_eq_false_iff_ne]; exact c1
 by_cases c2 : e % 4 = 1
 case neg =>
  rw [if_pos (.inr c2)] at EL1
  obtain rfl := EL1.out
  have q2 : (e % 4 != 1) = true := by rw [bne_iff_ne]; exact c2
  clear EL1 LV LF c1 c2
  go_wp2
  go_ret2
  exact zit BW.out rfl
 have q2 : (e % 4 != 1) = false := by rw [bne_eq_false_iff_eq]; exact c2
 rw [if_neg (fun h => h.elim c1 (fun h => h c2))] at EL1
 clear c1 c2
 go_wp2_with fail
 refine (LF.out _ BW.out).mono ?_
 rintro r w1 ⟨rfl, hb1⟩
 have A1 := zaa hb1
 have B1 := zaa (zab BW.out hb1 BW.out.size)
 clear hb1 x0 x1 e0 LF
 by_cases c : fsI ns < 0
 ·rw [if_pos c] at EL1
  obtain rfl := EL1.out
  generalize fsI ns = fr at *
  clear EL1 LV F1
  go_wp2
  go_ret2
  exact zit B1.out rfl
 rw [if_neg c] at EL1
 obtain ⟨k, k1, ek⟩ := F1.out (by omega)
 have KS := zaa ek
 rw [ek] at EL1 ⊢
 have c' : ¬ (k : Int) < 0 := by omega
 clear F1 c ek
 obtain ⟨x0, x1, x2, x3⟩ := CD.out _ A1.out
 have EX := zaa (show deS ns x = [⟨4, (k : Int), x⟩, ⟨5, 0, 0⟩] by unfold deS; rw [KS.out])
 rw [EX.out] at EL1
 have l7 := zls (i : Int) (p : Int) (4 * (k : Int) + 2)
 have LSw := zaa (fun w1 => zjy (i : Int) (p : Int) (4 * (k : Int) + 2) w1 ⟨i0, by omega⟩ ⟨p0, p1⟩)
 have kr : 0 ≤ (k : Int) ∧ (k : Int) < 32 := by omega
 clear EX KS
 generalize swL (i : Int) (p : Int) (4 * (k : Int) + 2) = SW at *
 go_wp2_with fail
 refine (LV.out _ B1.out).mono ?_
 rintro r w2 ⟨rfl, hb2⟩
 have B2 := zaa (zab B1.out hb2 B1.out.size)
 have M2 : Hid (MiI w (w2.alloc (.cells #[.int .i64 4, .int .i64 (k : Int), .int .i64 x, .int .i64 5, .int .i64 0, .int .i64 0] 79)) (.slice (some ⟨w2.heap.size, 0, none⟩) 2 2) [⟨4, (k : Int), x⟩, ⟨5, 0, 0⟩]) := ⟨World.ownsRow_lit w2 _ 2 B2.out.size (by simp [maxLen]) rfl, B2.out.alloc B2.out.size _⟩
 clear hb2 x0 x1 x2 x3 LV
 go_wp2_with fail
 refine (zjr _ _ _ (by omega) kr).mono ?_
 rintro r w' ⟨rfl, hw'⟩
 subst w'
 go_wp2_with fail
 refine (LSw.out _).mono ?_
 rintro r w7 ⟨v7, rfl, hr7, hb7⟩
 have M7 := zaa (M2.out.below hb7)
 have R7 := zaa hr7.rd
 have hz7 := M7.out.z
 clear hr7 hb7 M2 LSw
 go_wp2_with (at_builtin; refine zai _ rfl (.tmp 41) (.tmp 46) 47 rfl w.heap.size 79 (.agg #[.int .i64 0, .int .i64 0, .int .i64 0]) 3 24 Tryz.underlying47 zcb rfl (by decide) _ _ _ rfl M7.out.l _ _ _ rfl R7.out (zdn _) (by first | omega | (simp [maxLen]; done) | (simp [maxLen]; omega)) (by first | omega | (simp; done) | (simp; omega)) hz7 ?_)
 intro vT wT hownT hgrT
 have M := zaa (M7.out.grow SW hownT hgrT)
 obtain ⟨-, aT, cT, hvT, -⟩ := (zaf hownT).rd
 subst hvT
 obtain rfl := EL1.out
 clear hownT hgrT M7 R7 EL1
 go_wp2
 go_ret2
 exact ⟨_, rfl, zaf M.out.l, M.out.b⟩

set_option maxRecDepth 100000 in
set_option maxHeartbeats 16000000 in
theorem znf (vd v : Value) (ws : List Int) (ps : List St) (es : List Int) (qs : List Se) (ns : List Ino) (ds : List Den) (i p : Nat) (w : World) (hd : RdDev w vd ws ps es qs) (hP : pmB ws ps = true) (hB : zeh es qs = true) (h : RdIm w v ns ds) (hi : zdm ns ds = true) (i16 : i < 16) (p8 : p < 8) :
  Calls Tryz.prog 133 #[vd, v, .int .i64 (i : Int), .int .i64 (p : Int)] w fun e w' => zqn w w' e (prF ns (enI ns (i : Int) (p : Int)) (pgV ws ps es qs (enI ns (i : Int) (p : Int))) (i : Int) (p : Int)) := by
 have TE : zdl (enI ns (i : Int) (p : Int)) = true := by
  unfold enI
  rw [Int.toNat_natCast, Int.toNat_natCast]
  exact zon hi i16 p
 have LV := zaa (fun w1 (hb : Below w.heap.size w w1) => zjq vd ws ps es qs (enI ns (i : Int) (p : Int)) w1 (hd.below hb) hP hB TE)
 obtain ⟨z0, z1⟩ := zcd TE
 obtain ⟨l16, l24, _⟩ := zdr hi
 have TR : ∀ k (h : k < ns.length), ∀ z ∈ ns[k].map, 0 ≤ z ∧ z ≤ 1048576 := fun k hk z hz => by
  have t := (zgl ((zmq.1 hi).ok k (by omega))).1 z (by rw [zbr hk]; exact hz)
  exact zcd t
 have LF : Hid (∀ w1, Below w.heap.size w w1 → Calls Tryz.prog 198 #[v, .int .i64 1, .int .i64 24] w1 fun e w' => e = .returned (.int .i64 (fpI ns)) ∧ Below w1.heap.size w1 w') := fun w1 hb => zla v ns ds 1 24 w1 (h.below hb) (by omega) TR (by omega)
 have L16 := zaa l16
 have F1 : Hid (0 ≤ fpI ns → ∃ k : Nat, k < 24 ∧ fpI ns = (k : Int)) := fun c => by
  obtain ⟨k, a, b, -⟩ := zgi c
  exact ⟨k, a, b⟩
 have EL := zaa (fun x => show prF ns (enI ns (i : Int) (p : Int)) x (i : Int) (p : Int) = if enI ns (i : Int) (p : Int) = 0 ∨ ¬ enI ns (i : Int) (p : Int) % 4 = 2 then ([], 5) else if fpI ns < 0 then ([], 7) else (prS ns x ++ swL (i : Int) (p : Int) (4 * fpI ns + 1), 0) from rfl)
 obtain ⟨vW, vP, rfl, h1, h2⟩ := h
 obtain ⟨aW, cW, rfl, _, hcW⟩ := h1.shape
 obtain ⟨aP, cP, rfl, _, hcP⟩ := h2.shape
 obtain ⟨bW, oW, rfl, hblW, hcellW⟩ := hcW (by omega)
 have HM : Hid (∀ w', Below w.heap.size w w' → w'.cell? ⟨bW, oW + i * 11 + 3 + p, none⟩ = some (.int .i64 (enI ns (i : Int) (p : Int)))) := fun w' hb => by
  unfold enI
  rw [Int.toNat_natCast, Int.toNat_natCast, zbr (by have := L16.out; omega : i < ns.length)]
  obtain ⟨a0, a1, a2, a3, a4, a5, a6, a7, a8, a9, a10⟩ := hcellW i (by have := L16.out; omega)
  rcases (show p = 0 ∨ p = 1 ∨ p = 2 ∨ p = 3 ∨ p = 4 ∨ p = 5 ∨ p = 6 ∨ p = 7 by omega) with rfl | rfl | rfl | rfl | rfl | rfl | rfl | rfl
  ·exact (hb.cell (p := ⟨bW, oW + i * 11 + 3, none⟩) hblW).trans a3
  ·exact (hb.cell (p := ⟨bW, oW + i * 11 + 4, none⟩) hblW).trans a4
  ·exact (hb.cell (p := ⟨bW, oW + i * 11 + 5, none⟩) hblW).trans a5
  ·exact (hb.cell (p := ⟨bW, oW + i * 11 + 6, none⟩) hblW).trans a6
  ·exact (hb.cell (p := ⟨bW, oW + i * 11 + 7, none⟩) hblW).trans a7
  ·exact (hb.cell (p := ⟨bW, oW + i * 11 + 8, none⟩) hblW).trans a8
  ·exact (hb.cell (p := ⟨bW, oW + i * 11 + 9, none⟩) hblW).trans a9
  ·exact (hb.cell (p := ⟨bW, oW + i * 11 + 10, none⟩) hblW).trans a10
 obtain ⟨dW, eW, dP, eP, dS, eS, dQ, eQ, rfl, -, -⟩ := hd.form
 have i1 : (i : Int) < (ns.length : Int) := by have := L16.out; omega
 have i0 : (0 : Int) ≤ (i : Int) := by omega
 have p0 : (0 : Int) ≤ (p : Int) := by omega
 have p1 : (p : Int) < 8 := by omega
 clear h1 h2 hi hcW hcP hcellW l16 l24 TR hd hP hB L16 TE
 obtain ⟨W0, hW0⟩ : ∃ W0, W0 = w.alloc (.cells #[.slice dW ws.length eW, .slice dP ps.length eP, .slice dS es.length eS, .slice dQ qs.length eQ] 46) := ⟨_, rfl⟩
 obtain ⟨W, hW⟩ : ∃ W, W = W0.alloc (.cells #[.slice (some ⟨bW, oW, none⟩) ns.length cW, .slice aP ds.length cP] 83) := ⟨_, rfl⟩
 have z0' : W0.heap.size = w.heap.size + 1 := by rw [hW0]; simp
 have CA : Hid (∀ w', Below W.heap.size W w' → w'.cell? ⟨w.heap.size + 1, 0, none⟩ = some (.slice (some ⟨bW, oW, none⟩) ns.length cW) ∧ w'.cell? ⟨w.heap.size + 1, 1, none⟩ = some (.slice aP ds.length cP)) := fun w' hb => by
  have : w'.heap[w.heap.size + 1]? = some (.cells #[.slice (some ⟨bW, oW, none⟩) ns.length cW, .slice aP ds.length cP] 83 (0, 0)) := (hb.block _ (by rw [hW]; simp; omega)).trans (by rw [hW, ← z0']; exact zah rfl)
  exact ⟨(zad this).1, (zad this).2.1⟩
 have CD : Hid (∀ w', Below W.heap.size W w' → w'.cell? ⟨w.heap.size, 0, none⟩ = some (.slice dW ws.length eW) ∧ w'.cell? ⟨w.heap.size, 1, none⟩ = some (.slice dP ps.length eP) ∧ w'.cell? ⟨w.heap.size, 2, none⟩ = some (.slice dS es.length eS) ∧ w'.cell? ⟨w.heap.size, 3, none⟩ = some (.slice dQ qs.length eQ)) := fun w' hb => by
  have : w'.heap[w.heap.size]? = some (.cells #[.slice dW ws.length eW, .slice dP ps.length eP, .slice dS es.length eS, .slice dQ qs.length eQ] 46 (0, 0)) := (hb.block _ (by rw [hW]; simp; omega)).trans (by
   rw [hW]
   exact (((Below.refl W0.heap.size W0).alloc (Nat.le_refl _) _).block _ (by omega)).trans (by rw [hW0]; exact zah rfl))
  obtain ⟨a, b, c, d, -⟩ := zan this
  exact ⟨a, b, c, d⟩
 have BW : Hid (Below w.heap.size w W) := by rw [hW, hW0]; exact ((Below.refl _ _).alloc (Nat.le_refl _) _).alloc (by simp) _
 generalize enI ns (i : Int) (p : Int) = e at *
 generalize pgV ws ps es qs e = x at *
 have EL1 := zaa (EL.out x)
 have te : Int.tmod e 4 = e % 4 := Int.tmod_eq_emod_of_nonneg z0
 clear EL z0'
 generalize prF ns e x (i : Int) (p : Int) = res at *
 obtain ⟨x0, x1⟩ := CA.out _ (Below.refl _ _)
 have e0 := HM.out _ BW.out
 go_enter Tryz.func133, Tryz.ntmps133
 go_upto_region 1 with fail
 rw [← hW0, ← hW]
 clear hW hW0
 by_cases c1 : e = 0
 ·rw [if_pos (.inl c1)] at EL1
  obtain rfl := EL1.out
  subst c1
  clear EL1 LV LF
  go_wp2
  go_ret2
  exact zit BW.out rfl
 have q1 : (e == 0) = false := by rw [beq_eq_false_iff_ne]; exact c1
 by_cases c2 : e % 4 = 2
 case neg =>
  rw [if_pos (.inr c2)] at EL1
  obtain rfl := EL1.out
  have q2 : (e % 4 != 2) = true := by rw [bne_iff_ne]; exact c2
  clear EL1 LV LF c1 c2
  go_wp2
  go_ret2
  exact zit BW.out rfl
 have q2 : (e % 4 != 2) = false := by rw [bne_eq_false_iff_eq]; exact c2
 rw [if_neg (fun h => h.elim c1 (fun h => h c2))] at EL1
 clear c1 c2
 go_wp2_with fail
 refine (LF.out _ BW.out).mono ?_
 rintro r w1 ⟨rfl, hb1⟩
 have A1 := zaa hb1
 have B1 := zaa (zab BW.out hb1 BW.out.size)
 clear hb1 x0 x1 e0 LF
 by_cases c : fpI ns < 0
 ·rw [if_pos c] at EL1
  obtain rfl := EL1.out
  generalize fpI ns = fr at *
  clear EL1 LV F1
  go_wp2
  go_ret2
  exact zit B1.out rfl
 rw [if_neg c] at EL1
 obtain ⟨k, k1, ek⟩ := F1.out (by omega)
 have KS := zaa ek
 rw [ek] at EL1 ⊢
 have c' : ¬ (k : Int) < 0 := by omega
 clear F1 c ek
 obtain ⟨x0, x1, x2, x3⟩ := CD.out _ A1.out
 have wpk : IntKind.i64.wrap (312 + (k : Int)) = 312 + (k : Int) := by rw [IntKind.wrap_i64]; omega
 have EX := zaa (show prS ns x = [⟨1, 312 + (k : Int), x⟩] ++ zaw [312 + (k : Int)] by unfold prS; rw [KS.out]; rfl)
 rw [EX.out] at EL1
 have l7 := zls (i : Int) (p : Int) (4 * (k : Int) + 1)
 have LSw := zaa (fun w1 => zjy (i : Int) (p : Int) (4 * (k : Int) + 1) w1 ⟨i0, by omega⟩ ⟨p0, p1⟩)
 have kr : 0 ≤ (k : Int) ∧ (k : Int) < 32 := by omega
 have l6 : (zaw [312 + (k : Int)]).length ≤ 2 := zcy [312 + (k : Int)]
 have LFl := zaa (fun v w1 h => zjn v [312 + (k : Int)] w1 h (by simp) (by intro j h; simp at h; subst h; simp; omega))
 clear EX KS
 generalize swL (i : Int) (p : Int) (4 * (k : Int) + 1) = SW at *
 generalize zaw [312 + (k : Int)] = FL at *
 go_wp2_with fail
 refine (LV.out _ B1.out).mono ?_
 rintro r w2 ⟨rfl, hb2⟩
 have B2 := zaa (zab B1.out hb2 B1.out.size)
 clear hb2 x0 x1 x2 x3 LV
 go_wp2_with fail
 refine (zjz _ _ _).mono ?_
 rintro r w4 ⟨rfl, hb4⟩
 have B4 := zaa (zab B2.out hb4 B2.out.size)
 have M4 : Hid (MiI w (w4.alloc (.cells #[.int .i64 1, .int .i64 (312 + (k : Int)), .int .i64 x] 79)) (.slice (some ⟨w4.heap.size, 0, none⟩) 1 1) [⟨1, 312 + (k : Int), x⟩]) := ⟨World.ownsRow_lit w4 _ 1 B4.out.size (by simp [maxLen]) rfl, B4.out.alloc B4.out.size _⟩
 have M6 := zaa (M4.out.below ((Below.refl _ _).alloc (Nat.le_refl _) (.cells #[.int .i64 (312 + (k : Int))] 3)))
 have R6 := zaa (zvs (w4.alloc (.cells #[.int .i64 1, .int .i64 (312 + (k : Int)), .int .i64 x] 79)) (312 + (k : Int)))
 simp only [World.size_alloc] at R6
 clear hb4 M4
 go_wp2_with fail
 refine (LFl.out _ _ R6.out).mono ?_
 rintro r w5 ⟨v5, rfl, hr5, hb5⟩
 have M5 := zaa (M6.out.below hb5)
 have R5 := zaa hr5.rd
 have hz5 := M5.out.z
 clear hr5 hb5 M6 R6 LFl
 go_wp2_with (at_builtin; refine zai _ rfl (.tmp 40) (.tmp 44) 47 rfl w.heap.size 79 (.agg #[.int .i64 0, .int .i64 0, .int .i64 0]) 3 24 Tryz.underlying47 zcb rfl (by decide) _ _ _ rfl M5.out.l _ _ _ rfl R5.out (zdn _) (by first | omega | (simp [maxLen]; done) | (simp [maxLen]; omega)) (by first | omega | (simp; done) | (simp; omega)) hz5 ?_)
 intro vS wS hownS hgrS
 have M6 := zaa (M5.out.grow FL hownS hgrS)
 have l8 : ([(⟨1, 312 + (k : Int), x⟩ : Mi)] ++ FL).length ≤ 3 := by simp; omega
 generalize [(⟨1, 312 + (k : Int), x⟩ : Mi)] ++ FL = LL at *
 clear hownS hgrS M5 R5
 go_wp2_with fail
 refine (zjr _ _ _ (by omega) kr).mono ?_
 rintro r w' ⟨rfl, hw'⟩
 subst w'
 go_wp2_with fail
 refine (LSw.out _).mono ?_
 rintro r w7 ⟨v7, rfl, hr7, hb7⟩
 have M7 := zaa (M6.out.below hb7)
 have R7 := zaa hr7.rd
 have hz7 := M7.out.z
 clear hr7 hb7 M6 LSw
 go_wp2_with (at_builtin; refine zai _ rfl (.tmp 46) (.tmp 51) 47 rfl w.heap.size 79 (.agg #[.int .i64 0, .int .i64 0, .int .i64 0]) 3 24 Tryz.underlying47 zcb rfl (by decide) _ _ _ rfl M7.out.l _ _ _ rfl R7.out (zdn _) (by first | omega | (simp [maxLen]; done) | (simp [maxLen]; omega)) (by first | omega | (simp; done) | (simp; omega)) hz7 ?_)
 intro vT wT hownT hgrT
 have M := zaa (M7.out.grow SW hownT hgrT)
 obtain ⟨-, aT, cT, hvT, -⟩ := (zaf hownT).rd
 subst hvT
 obtain rfl := EL1.out
 clear hownT hgrT M7 R7 EL1
 go_wp2
 go_ret2
 exact ⟨_, rfl, zaf M.out.l, M.out.b⟩
end Go.Proofs.YtipklbnfobckaaaGreatDoor
