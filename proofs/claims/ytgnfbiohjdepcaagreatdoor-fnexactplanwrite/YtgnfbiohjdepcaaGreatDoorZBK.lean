/- Several texts laid together: PcF, PlB, DuB. -/
import Derived.Test.YtgnfbiohjdepcaaGreatDoorZBJ
import Derived.Test.YtgnfbiohjdepcaaGreatDoorZAS
import Derived.Test.YtgnfbiohjdepcaaGreatDoorZAI
import Derived.Maps.OwnSet
import Derived.Deep.LoopGhost
import Derived.Test.YtgnfbiohjdepcaaGreatDoorZBI
import Derived.Test.YtgnfbiohjdepcaaGreatDoorZBC
import Derived.Test.YtgnfbiohjdepcaaGreatDoorZAR
import Derived.Deep.RegionHeld3
namespace Go.Proofs.YtgnfbiohjdepcaaGreatDoor
open Go.RowKit
def siC (ws : List Ino) (ps : List Den) (s : ByteArray) : Int := if 65536 < s.size then 2 else if imgB ws ps = true then spC s else 1
def siL (ws : List Ino) (ps : List Den) (s : ByteArray) : List ByteArray := if imgB ws ps = true then spR s else []
theorem spL_short {s : ByteArray} : ∀ k (h : k < (spL s).length), 1 ≤ (spL s)[k].size := by
  intro k hk
  have hm : (spL s)[k] ∈ spL s := List.getElem_mem hk
  generalize (spL s)[k] = x at hm
  unfold spL at hm
  split at hm
  · cases hm
  · split at hm
    · rename_i h
      unfold spN at h
      simp only [Bool.and_eq_true, List.all_eq_true] at h
      exact (nmB_true (h.2.2 x hm)).1
    · cases hm
theorem si_lk (ws : List Ino) (ps : List Den) (s : ByteArray) : (¬ siC ws ps s = 0 → lkR ws ps s = (0, siC ws ps s) ∧ paR ws ps s = (0, ⟨#[]⟩, siC ws ps s)) ∧ (siC ws ps s = 0 → imgB ws ps = true ∧ siL ws ps s = spL s ∧ lkR ws ps s = wk ws ps 0 (spL s) ∧ paR ws ps s = paL ws ps (spL s)) := by
  unfold siC lkR paR siL
  by_cases c1 : 65536 < s.size
  · rw [if_pos c1, if_pos c1, if_pos c1]
    exact ⟨fun _ => ⟨rfl, rfl⟩, fun h => by cases h⟩
  · rw [if_neg c1, if_neg c1, if_neg c1]
    by_cases c2 : imgB ws ps = true
    · rw [if_pos c2, if_pos c2, if_pos c2, if_pos c2]
      obtain ⟨X1, X2⟩ := sp_short c1
      unfold lkI paI
      cases c3 : spB s with
      | false =>
        obtain ⟨e1, e2⟩ := X2 c3
        rw [e1, e2]
        exact ⟨fun _ => ⟨rfl, rfl⟩, fun h => by cases h⟩
      | true =>
        obtain ⟨e1, e2⟩ := X1 c3
        rw [e1, e2]
        exact ⟨fun h => absurd rfl h, fun _ => ⟨c2, rfl, rfl, rfl⟩⟩
    · rw [if_neg c2, if_neg c2, if_neg c2, if_neg c2]
      exact ⟨fun _ => ⟨rfl, rfl⟩, fun h => by cases h⟩
set_option maxRecDepth 100000 in
set_option maxHeartbeats 4000000 in
theorem splitIn_any (v : Value) (ws : List Ino) (ps : List Den) (s : ByteArray) (w : World) (h : RdIm w v ws ps) (hw : ws.length ≤ 1048576) (hp : ps.length ≤ 1048576) (hT : TS w) (hE : ED w) (hF : FD w) (hr : ∀ k (h : k < ws.length), ws[k].R) (hs : ∀ k (h : k < ps.length), ps[k].name.size ≤ maxLen) :
    Calls Tryz.prog 122 #[v, .string s] w fun e w' => ∃ v', e = .returned (.tuple #[v', .int .i64 (siC ws ps s)]) ∧ RdT w' v' (siL ws ps s) ∧ Below w.heap.size w w' := by
  have HR := hideIt h
  have LI := hideIt (fun w1 (hb : Below w.heap.size w w1) => implImageOK_any v ws ps w1 (h.below hb) hw hp (hT.below hb) (hE.below hb) (hF.below hb) hr hs)
  have LS := hideIt (fun w1 => implSplitPath_any s w1)
  have EC := hideIt (show siC ws ps s = if 65536 < s.size then 2 else if imgB ws ps = true then spC s else 1 from rfl)
  have EL := hideIt (show siL ws ps s = if imgB ws ps = true then spR s else [] from rfl)
  have XL := hideIt (fun h => sp_long (s := s) h)
  have X0 : Hid (¬ 65536 < s.size → ¬ spC s = 2) := fun h => by
    obtain ⟨X1, X2⟩ := sp_short h
    cases c : spB s
    · rw [(X2 c).1]; decide
    · rw [(X1 c).1]; decide
  obtain ⟨vW, vP, rfl, h1, h2⟩ := h
  obtain ⟨aW, cW, rfl, _, _⟩ := h1.shape
  obtain ⟨aP, cP, rfl, _, _⟩ := h2.shape
  clear h1 h2 hr hs hT hE hF
  have CA : Hid (∀ w', Below (w.alloc (.cells #[.slice aW ws.length cW, .slice aP ps.length cP] 62)).heap.size (w.alloc (.cells #[.slice aW ws.length cW, .slice aP ps.length cP] 62)) w' → w'.cell? ⟨w.heap.size, 0, none⟩ = some (.slice aW ws.length cW) ∧ w'.cell? ⟨w.heap.size, 1, none⟩ = some (.slice aP ps.length cP)) := fun w' hb => by
    have : w'.heap[w.heap.size]? = some (.cells #[.slice aW ws.length cW, .slice aP ps.length cP] 62 (0, 0)) := (hb.block _ (by simp)).trans (at_new rfl)
    exact ⟨(two_cells this).1, (two_cells this).2.1⟩
  have BW : Hid (Below w.heap.size w (w.alloc (.cells #[.slice aW ws.length cW, .slice aP ps.length cP] 62))) := (Below.refl _ _).alloc (Nat.le_refl _) _
  generalize siC ws ps s = sc at *
  generalize siL ws ps s = sl at *
  by_cases c1 : 65536 < s.size
  · obtain ⟨e1, e2⟩ := XL.out c1
    rw [if_pos c1] at EC
    have E2 : Hid (sl = []) := by unfold Hid; rw [EL.out, e2]; split <;> rfl
    rw [e1, e2] at LS
    obtain rfl := EC.out
    obtain rfl := E2.out
    clear EC EL E2 c1 e1 e2
    go_enter Tryz.func122, Tryz.ntmps122
    go_wp2_with fail
    refine (LS.out _).mono ?_
    rintro e w1 ⟨v1, rfl, hr1, hb1⟩
    have B1 := hideIt (below_trans BW.out hb1 BW.out.size)
    have R1 : Hid (RdT w1 v1 []) := hr1.rd
    clear hr1 hb1
    go_wp2
    go_ret2
    exact ⟨_, rfl, R1.out, B1.out⟩
  have q2 : Hid ((spC s != 2) = true) := by unfold Hid; rw [bne_iff_ne]; exact X0.out c1
  rw [if_neg c1] at EC
  clear XL X0 c1
  generalize spC s = cc at *
  generalize spR s = rr at *
  have q3 := q2.out
  cases c3 : imgB ws ps with
  | false =>
    rw [c3] at EC EL LI
    obtain rfl := EC.out
    obtain rfl := EL.out
    clear EC EL c3
    go_enter Tryz.func122, Tryz.ntmps122
    go_wp2_with fail
    refine (LS.out _).mono ?_
    rintro e w1 ⟨v1, rfl, hr1, hb1⟩
    have B1 := hideIt (below_trans BW.out hb1 BW.out.size)
    obtain ⟨x0, x1⟩ := CA.out _ hb1
    clear hr1 hb1
    go_wp2_with fail
    refine (LI.out _ B1.out).mono ?_
    rintro e w2 ⟨rfl, hb2⟩
    have B2 := hideIt (below_trans B1.out hb2 B1.out.size)
    clear hb2 x0 x1
    go_wp2
    go_ret2
    exact ⟨_, rfl, rdt_empty _, B2.out⟩
  | true =>
    rw [c3] at EC EL LI
    obtain rfl : sc = cc := EC.out
    obtain rfl : sl = rr := EL.out
    clear EC EL c3
    go_enter Tryz.func122, Tryz.ntmps122
    go_wp2_with fail
    refine (LS.out _).mono ?_
    rintro e w1 ⟨v1, rfl, hr1, hb1⟩
    have B1 := hideIt (below_trans BW.out hb1 BW.out.size)
    have R1 : Hid (RdT w1 v1 sl) := hr1.rd
    obtain ⟨x0, x1⟩ := CA.out _ hb1
    clear hr1 hb1
    go_wp2_with fail
    refine (LI.out _ B1.out).mono ?_
    rintro e w2 ⟨rfl, hb2⟩
    have B2 := hideIt (below_trans B1.out hb2 B1.out.size)
    have R2 : Hid (RdT w2 v1 sl) := Rd.below R1.out hb2
    clear hb2 x0 x1
    go_wp2
    go_ret2
    exact ⟨_, rfl, R2.out, B2.out⟩
set_option maxRecDepth 100000 in
set_option maxHeartbeats 4000000 in
theorem implLookup_any (v : Value) (ws : List Ino) (ps : List Den) (s : ByteArray) (w : World) (h : RdIm w v ws ps) (hw : ws.length ≤ 1048576) (hp : ps.length ≤ 1048576) (hT : TS w) (hE : ED w) (hF : FD w) (hr : ∀ k (h : k < ws.length), ws[k].R) (hs : ∀ k (h : k < ps.length), ps[k].name.size ≤ maxLen) :
    Calls Tryz.prog 86 #[v, .string s] w fun e w' => e = .returned (.tuple #[.int .i64 (lkR ws ps s).1, .int .i64 (lkR ws ps s).2]) ∧ Below w.heap.size w w' := by
  have HR := hideIt h
  have LS := hideIt (fun w1 (hb : Below w.heap.size w w1) => splitIn_any v ws ps s w1 (h.below hb) hw hp (hT.below hb) (hE.below hb) (hF.below hb) hr hs)
  have LG := hideIt (fun vL w1 h hL hi => goDown_any v vL ws ps (spL s) w1 h hL hi (by have := @spL_len s; omega) spL_short)
  obtain ⟨NO, YES⟩ := si_lk ws ps s
  have NO := hideIt NO
  have YES := hideIt YES
  obtain ⟨vW, vP, rfl, h1, h2⟩ := h
  obtain ⟨aW, cW, rfl, _, _⟩ := h1.shape
  obtain ⟨aP, cP, rfl, _, _⟩ := h2.shape
  clear h1 h2 hr hs hT hE hF
  have CA : Hid (∀ w', Below (w.alloc (.cells #[.slice aW ws.length cW, .slice aP ps.length cP] 62)).heap.size (w.alloc (.cells #[.slice aW ws.length cW, .slice aP ps.length cP] 62)) w' → w'.cell? ⟨w.heap.size, 0, none⟩ = some (.slice aW ws.length cW) ∧ w'.cell? ⟨w.heap.size, 1, none⟩ = some (.slice aP ps.length cP)) := fun w' hb => by
    have : w'.heap[w.heap.size]? = some (.cells #[.slice aW ws.length cW, .slice aP ps.length cP] 62 (0, 0)) := (hb.block _ (by simp)).trans (at_new rfl)
    exact ⟨(two_cells this).1, (two_cells this).2.1⟩
  have BW : Hid (Below w.heap.size w (w.alloc (.cells #[.slice aW ws.length cW, .slice aP ps.length cP] 62))) := (Below.refl _ _).alloc (Nat.le_refl _) _
  obtain ⟨x0, x1⟩ := CA.out _ (Below.refl _ _)
  generalize siC ws ps s = sc at *
  generalize siL ws ps s = sl at *
  generalize lkR ws ps s = res at *
  generalize paR ws ps s = res2 at *
  by_cases c : sc = 0
  · obtain ⟨c1, rfl, rfl, _⟩ := YES.out c
    have C1 := hideIt c1
    subst c
    clear NO YES c1
    generalize wk ws ps 0 (spL s) = r1 at *
    go_enter Tryz.func86, Tryz.ntmps86
    go_wp2_with fail
    refine (LS.out _ BW.out).mono ?_
    rintro e w1 ⟨v1, rfl, hr1, hb1⟩
    have B1 := hideIt (below_trans BW.out hb1 BW.out.size)
    have R1 := hideIt hr1
    clear x0 x1
    obtain ⟨x0, x1⟩ := CA.out _ hb1
    clear hr1 hb1
    go_wp2_with fail
    refine (LG.out _ _ (HR.out.below B1.out) R1.out C1.out).mono ?_
    rintro e w2 ⟨rfl, hb2⟩
    have B2 := hideIt (below_trans B1.out hb2 B1.out.size)
    clear hb2 x0 x1
    go_wp2
    go_ret2
    exact ⟨rfl, B2.out⟩
  · obtain ⟨rfl, _⟩ := NO.out c
    have q : (sc != 0) = true := by rw [bne_iff_ne]; exact c
    clear NO YES c
    go_enter Tryz.func86, Tryz.ntmps86
    go_wp2_with fail
    refine (LS.out _ BW.out).mono ?_
    rintro e w1 ⟨v1, rfl, hr1, hb1⟩
    have B1 := hideIt (below_trans BW.out hb1 BW.out.size)
    clear hr1 hb1 x0 x1
    go_wp2
    go_ret2
    exact ⟨rfl, B1.out⟩
end Go.Proofs.YtgnfbiohjdepcaaGreatDoor

namespace Go.Proofs.YtgnfbiohjdepcaaGreatDoor
open Go.RowKit Go.Maps Go.MapKept Go.ChangeMaps Go.WideShapes
open Go.WideElems (Fit rd rg pl rd_val elemAt)
def Mp (w : World) (b : Nat) (D : DataW Unit) : Prop := w.ownsMap Tryz.prog 9 (plainElem Tryz.prog 3) b 4096 D
theorem Mp.lt {w : World} {b : Nat} {D : DataW Unit} (h : Mp w b D) : b < w.heap.size := World.ownsMap.lt h
theorem Mp.below {w w' : World} {b : Nat} {D : DataW Unit} (h : Mp w b D) (hb : Below w.heap.size w w') : Mp w' b D := by
  have hl := h.lt
  obtain ⟨es, cl, q, r⟩ := h
  exact ⟨es, cl, (hb.block b hl).trans q, r⟩
theorem Mp.ne {w : World} {b : Nat} {D : DataW Unit} (h : Mp w b D) {a : Addr} {v : Value} (hc : w.cell? a = some v) : some a.block ≠ some b := by
  obtain ⟨es, cl, q, _⟩ := h
  intro e
  injection e with e
  subst e
  simp [World.cell?, q] at hc
theorem Mp.neg {w : World} {b : Nat} {D : DataW Unit} (h : Mp w b D) {g : Nat} {cs : Array Value} {t : TypeId} {fr} (hc : w.heap[g]? = some (.cells cs t fr)) : some g ≠ some b := by
  obtain ⟨es, cl, q, _⟩ := h
  intro e
  injection e with e
  subst e
  rw [q] at hc
  cases hc
end Go.Proofs.YtgnfbiohjdepcaaGreatDoor

namespace Go.Proofs.YtgnfbiohjdepcaaGreatDoor
open Go.RowKit
def flR (ns : List Ino) (ds : List Den) (s : ByteArray) : Int × Int := if 65536 < s.size then (0, 2) else if imgB ns ds = true then flI ns ds s else (0, 1)
def faI (ns : List Ino) (r : Int × Int) : Ino := if r.2 = 0 then inoAt ns r.1.toNat else zeroN
theorem fl_right {ns : List Ino} {ds : List Den} {s : ByteArray} (h : (flR ns ds s).2 = 0) : imgB ns ds = true ∧ ¬ 65536 < s.size ∧ flR ns ds s = flI ns ds s := by
  unfold flR at h ⊢
  by_cases c : 65536 < s.size
  · rw [if_pos c] at h
    simp at h
  · rw [if_neg c] at h ⊢
    by_cases d : imgB ns ds = true
    · rw [if_pos d]
      exact ⟨d, c, rfl⟩
    · rw [if_neg d] at h
      simp at h
theorem fl_ways (ns : List Ino) (ds : List Den) (s : ByteArray) : (¬ (lkR ns ds s).2 = 0 ∧ flR ns ds s = (0, (lkR ns ds s).2)) ∨ ((lkR ns ds s).2 = 0 ∧ imgB ns ds = true ∧ ∃ i : Nat, i < 16 ∧ (lkR ns ds s).1 = (i : Int) ∧ ((kindAt ns (i : Int) = 2 ∧ flR ns ds s = (0, 9)) ∨ (¬ kindAt ns (i : Int) = 2 ∧ flR ns ds s = ((i : Int), 0)))) := by
  unfold lkR flR
  by_cases c : 65536 < s.size
  · rw [if_pos c, if_pos c]
    exact .inl ⟨by simp, rfl⟩
  · rw [if_neg c, if_neg c]
    by_cases d : imgB ns ds = true
    · rw [if_pos d, if_pos d]
      unfold flI
      by_cases e : (lkI ns ds s).2 = 0
      · rw [if_pos e]
        refine .inr ⟨e, d, ?_⟩
        by_cases f : kindAt ns (lkI ns ds s).1 = 2
        · have k := lkI_ok (s := s) d
          rw [if_neg (by rw [f]; omega)]
          exact ⟨(lkI ns ds s).1.toNat, by omega, by omega, .inl ⟨by rw [show (((lkI ns ds s).1.toNat : Nat) : Int) = (lkI ns ds s).1 by omega]; exact f, rfl⟩⟩
        · obtain ⟨i, ei, hi, -, k⟩ := lk_plain (img_iff.1 d) e f
          have k1 : kindAt ns (lkI ns ds s).1 = 1 := by
            rw [ei, kindAt_of (show i < ns.length by have := (pimg_all d).1; omega), ← inoAt_of]
            exact k
          rw [if_pos k1]
          exact ⟨i, hi, ei, .inr ⟨by rw [← ei]; exact f, by rw [ei]⟩⟩
      · rw [if_neg e]
        exact .inl ⟨e, rfl⟩
    · rw [if_neg d, if_neg d]
      exact .inl ⟨by simp, rfl⟩
set_option maxRecDepth 100000 in
set_option maxHeartbeats 8000000 in
theorem findFile_any (v : Value) (ns : List Ino) (ds : List Den) (s : ByteArray) (w : World) (h : RdIm w v ns ds) (hw : ns.length ≤ 1048576) (hp : ds.length ≤ 1048576) (hT : TS w) (hE : ED w) (hF : FD w) (hr : ∀ k (h : k < ns.length), ns[k].R) (hs : ∀ k (h : k < ds.length), ds[k].name.size ≤ maxLen) :
    ∀ x, x = faI ns (flR ns ds s) → Calls Tryz.prog 45 #[v, .string s] w fun e w' => e = .returned (.tuple #[.agg #[.int .i64 x.kind, .int .i64 x.size, .int .i64 x.links, .int .i64 x.m0, .int .i64 x.m1, .int .i64 x.m2, .int .i64 x.m3, .int .i64 x.m4, .int .i64 x.m5, .int .i64 x.m6, .int .i64 x.m7, .int .i64 (flR ns ds s).1], .int .i64 (flR ns ds s).2]) ∧ Below w.heap.size w w' := by
  intro x hx
  have HX := hideIt hx
  have LL := hideIt (fun w1 (hb : Below w.heap.size w w1) => implLookup_any v ns ds s w1 (h.below hb) hw hp (hT.below hb) (hE.below hb) (hF.below hb) hr hs)
  have LD := hideIt (fun (hi : imgB ns ds = true) (i : Nat) (h16 : i < 16) w1 (hb : Below w.heap.size w w1) => isDir_any v ns ds (i : Int) w1 (h.below hb) (pimg_all hi).1 (by omega))
  have WAYS := hideIt (fl_ways ns ds s)
  have L16 := hideIt (fun hi => (pimg_all (ws := ns) (ps := ds) hi).1)
  obtain ⟨vW, vP, rfl, h1, h2⟩ := h
  obtain ⟨aW, cW, rfl, _, hcW⟩ := h1.shape
  obtain ⟨aP, cP, rfl, _, hcP⟩ := h2.shape
  have HW := hideIt hcW
  clear h1 h2 hr hs hT hE hF hcW hcP hx hw hp
  obtain ⟨W, hW⟩ : ∃ W, W = (w.alloc (.cells #[.slice aW ns.length cW, .slice aP ds.length cP] 62)).alloc (.cells #[.int .i64 0, .int .i64 0, .int .i64 0, .int .i64 0, .int .i64 0, .int .i64 0, .int .i64 0, .int .i64 0, .int .i64 0, .int .i64 0, .int .i64 0, .int .i64 0] 72) := ⟨_, rfl⟩
  have hzW : W.heap.size = w.heap.size + 1 + 1 := by rw [hW]; simp
  have CA : Hid (∀ w', Below W.heap.size W w' → w'.cell? ⟨w.heap.size, 0, none⟩ = some (.slice aW ns.length cW) ∧ w'.cell? ⟨w.heap.size, 1, none⟩ = some (.slice aP ds.length cP)) := fun w' hb => by
    have : w'.heap[w.heap.size]? = some (.cells #[.slice aW ns.length cW, .slice aP ds.length cP] 62 (0, 0)) := (hb.block _ (by omega)).trans (by rw [hW]; exact at_old (at_new rfl))
    exact ⟨(two_cells this).1, (two_cells this).2.1⟩
  have CR : Hid (∀ w', Below W.heap.size W w' → w'.heap[w.heap.size + 1]? = some (.cells ([.int .i64 0, .int .i64 0, .int .i64 0, .int .i64 0, .int .i64 0, .int .i64 0, .int .i64 0, .int .i64 0, .int .i64 0, .int .i64 0, .int .i64 0, .int .i64 0] : List Value).toArray 72 (0, 0))) := fun w' hb => (hb.block _ (by omega)).trans (by
    rw [hW]
    have := at_new (w := w.alloc (.cells #[.slice aW ns.length cW, .slice aP ds.length cP] 62)) (o := .cells #[.int .i64 0, .int .i64 0, .int .i64 0, .int .i64 0, .int .i64 0, .int .i64 0, .int .i64 0, .int .i64 0, .int .i64 0, .int .i64 0, .int .i64 0, .int .i64 0] 72) rfl
    rw [World.size_alloc] at this
    exact this)
  have BW : Hid (Below w.heap.size w W) := by rw [hW]; exact ((Below.refl _ _).alloc (Nat.le_refl _) _).alloc (by simp) _
  have hz0 : w.heap.size + 1 < W.heap.size := by omega
  clear hzW
  obtain ⟨x0, x1⟩ := CA.out _ (Below.refl _ _)
  generalize flR ns ds s = res at *
  generalize lkR ns ds s = lr at *
  obtain ⟨li, lc⟩ := lr
  simp only at WAYS LL
  go_enter Tryz.func45, Tryz.ntmps45
  go_wp2_with fail
  rw [← hW]
  clear hW x0 x1
  refine (LL.out _ BW.out).mono ?_
  rintro e w1 ⟨rfl, hb1⟩
  have A1 := hideIt hb1
  have B1 := hideIt (below_trans BW.out A1.out BW.out.size)
  have hz1 : w.heap.size + 1 < w1.heap.size := Nat.lt_of_lt_of_le hz0 A1.out.size
  clear hb1 LL
  rcases WAYS.out with ⟨c, rfl⟩ | ⟨rfl, hi, i, i16, rfl, c⟩
  · have q : (lc != 0) = true := by rw [bne_iff_ne]; exact c
    obtain rfl : x = zeroN := HX.out.trans (if_neg c)
    have E := hideIt (eight_at (CR.out _ A1.out))
    have p0 := (E.out 0).1
    have f0 := (E.out 0).2
    have p1 := (E.out 1).1
    have f1 := (E.out 1).2
    have p2 := (E.out 2).1
    have f2 := (E.out 2).2
    have p3 := (E.out 3).1
    have f3 := (E.out 3).2
    have p4 := (E.out 4).1
    have f4 := (E.out 4).2
    have p5 := (E.out 5).1
    have f5 := (E.out 5).2
    have p6 := (E.out 6).1
    have f6 := (E.out 6).2
    have p7 := (E.out 7).1
    have f7 := (E.out 7).2
    have p8 := (E.out 8).1
    have f8 := (E.out 8).2
    have p9 := (E.out 9).1
    have f9 := (E.out 9).2
    have p10 := (E.out 10).1
    have f10 := (E.out 10).2
    have p11 := (E.out 11).1
    have f11 := (E.out 11).2
    simp only [List.getElem?_cons_zero, List.getElem?_cons_succ] at p0 p1 p2 p3 p4 p5 p6 p7 p8 p9 p10 p11
    clear CR CA WAYS LD HW L16 c
    go_wp2
    refine bodyPost_ret (v := .tuple #[.agg #[.int .i64 0, .int .i64 0, .int .i64 0, .int .i64 0, .int .i64 0, .int .i64 0, .int .i64 0, .int .i64 0, .int .i64 0, .int .i64 0, .int .i64 0, .int .i64 0], .int .i64 lc]) (by simp [results, Tryz.results45, go_sem, p0, p1, p2, p3, p4, p5, p6, p7, p8, p9, p10, p11]) rfl ⟨rfl, ?_⟩
    repeat (first | with_reducible exact B1.out | refine Below.setCell ?_ (by simp only; omega) _)
  · have LD2 := hideIt (LD.out hi i i16)
    have i1 : i < ns.length := by have := L16.out hi; omega
    have i0 : (0 : Int) ≤ (i : Int) := by omega
    have il : (i : Int) < (ns.length : Int) := by omega
    obtain ⟨bW, oW, rfl, hblW, hcellW⟩ := HW.out (by omega)
    have HC : Hid (∀ k (h : k < ns.length) (x : Ino), x = ns[k] → ∀ w', Below w.heap.size w w' → w'.cell? ⟨bW, oW + k * 11, none⟩ = some (.int .i64 x.kind) ∧ w'.cell? ⟨bW, oW + k * 11 + 1, none⟩ = some (.int .i64 x.size) ∧ w'.cell? ⟨bW, oW + k * 11 + 2, none⟩ = some (.int .i64 x.links) ∧ w'.cell? ⟨bW, oW + k * 11 + 3, none⟩ = some (.int .i64 x.m0) ∧ w'.cell? ⟨bW, oW + k * 11 + 4, none⟩ = some (.int .i64 x.m1) ∧ w'.cell? ⟨bW, oW + k * 11 + 5, none⟩ = some (.int .i64 x.m2) ∧ w'.cell? ⟨bW, oW + k * 11 + 6, none⟩ = some (.int .i64 x.m3) ∧ w'.cell? ⟨bW, oW + k * 11 + 7, none⟩ = some (.int .i64 x.m4) ∧ w'.cell? ⟨bW, oW + k * 11 + 8, none⟩ = some (.int .i64 x.m5) ∧ w'.cell? ⟨bW, oW + k * 11 + 9, none⟩ = some (.int .i64 x.m6) ∧ w'.cell? ⟨bW, oW + k * 11 + 10, none⟩ = some (.int .i64 x.m7)) := fun k h x e w' hb => by
      obtain ⟨a0, a1, a2, a3, a4, a5, a6, a7, a8, a9, a10⟩ := hcellW k h
      subst e
      exact ⟨(hb.cell (p := ⟨bW, oW + k * 11, none⟩) hblW).trans a0, (hb.cell (p := ⟨bW, oW + k * 11 + 1, none⟩) hblW).trans a1, (hb.cell (p := ⟨bW, oW + k * 11 + 2, none⟩) hblW).trans a2, (hb.cell (p := ⟨bW, oW + k * 11 + 3, none⟩) hblW).trans a3, (hb.cell (p := ⟨bW, oW + k * 11 + 4, none⟩) hblW).trans a4, (hb.cell (p := ⟨bW, oW + k * 11 + 5, none⟩) hblW).trans a5, (hb.cell (p := ⟨bW, oW + k * 11 + 6, none⟩) hblW).trans a6, (hb.cell (p := ⟨bW, oW + k * 11 + 7, none⟩) hblW).trans a7, (hb.cell (p := ⟨bW, oW + k * 11 + 8, none⟩) hblW).trans a8, (hb.cell (p := ⟨bW, oW + k * 11 + 9, none⟩) hblW).trans a9, (hb.cell (p := ⟨bW, oW + k * 11 + 10, none⟩) hblW).trans a10⟩
    clear hcellW HW L16 LD WAYS hi
    obtain ⟨x0, x1⟩ := CA.out _ A1.out
    generalize hkd : kindAt ns (i : Int) = kd at *
    rcases c with ⟨rfl, rfl⟩ | ⟨c, rfl⟩
    · obtain rfl : x = zeroN := HX.out.trans (if_neg (by simp))
      go_wp2_with fail
      refine (LD2.out _ B1.out).mono ?_
      rintro e w2 ⟨rfl, hb2⟩
      have A2 := hideIt (bel2 A1.out hb2)
      have B2 := hideIt (below_trans B1.out hb2 B1.out.size)
      have hz2 : w.heap.size + 1 < w2.heap.size := Nat.lt_of_lt_of_le hz1 hb2.size
      clear hb2 x0 x1
      have E := hideIt (eight_at (CR.out _ A2.out))
      have p0 := (E.out 0).1
      have f0 := (E.out 0).2
      have p1 := (E.out 1).1
      have f1 := (E.out 1).2
      have p2 := (E.out 2).1
      have f2 := (E.out 2).2
      have p3 := (E.out 3).1
      have f3 := (E.out 3).2
      have p4 := (E.out 4).1
      have f4 := (E.out 4).2
      have p5 := (E.out 5).1
      have f5 := (E.out 5).2
      have p6 := (E.out 6).1
      have f6 := (E.out 6).2
      have p7 := (E.out 7).1
      have f7 := (E.out 7).2
      have p8 := (E.out 8).1
      have f8 := (E.out 8).2
      have p9 := (E.out 9).1
      have f9 := (E.out 9).2
      have p10 := (E.out 10).1
      have f10 := (E.out 10).2
      have p11 := (E.out 11).1
      have f11 := (E.out 11).2
      simp only [List.getElem?_cons_zero, List.getElem?_cons_succ] at p0 p1 p2 p3 p4 p5 p6 p7 p8 p9 p10 p11
      clear CR CA LD2 hkd
      go_wp2
      refine bodyPost_ret (v := .tuple #[.agg #[.int .i64 0, .int .i64 0, .int .i64 0, .int .i64 0, .int .i64 0, .int .i64 0, .int .i64 0, .int .i64 0, .int .i64 0, .int .i64 0, .int .i64 0, .int .i64 0], .int .i64 9]) (by simp [results, Tryz.results45, go_sem, p0, p1, p2, p3, p4, p5, p6, p7, p8, p9, p10, p11]) rfl ⟨rfl, ?_⟩
      repeat (first | with_reducible exact B2.out | refine Below.setCell ?_ (by simp only; omega) _)
    · have hxi : x = ns[i] := by
        rw [HX.out]
        unfold faI
        rw [if_pos rfl, Int.toNat_natCast, inoAt_of i1]
      have q : (kd == 2) = false := by rw [beq_eq_false_iff_ne]; exact c
      have HC2 := hideIt (HC.out i i1 x hxi)
      clear HX hxi HC c hkd
      go_wp2_with fail
      refine (LD2.out _ B1.out).mono ?_
      rintro e w2 ⟨rfl, hb2⟩
      have A2 := hideIt (bel2 A1.out hb2)
      have B2 := hideIt (below_trans B1.out hb2 B1.out.size)
      have hz2 : w.heap.size + 1 < w2.heap.size := Nat.lt_of_lt_of_le hz1 hb2.size
      clear hb2 x0 x1
      have E := hideIt (eight_at (CR.out _ A2.out))
      have p0 := (E.out 0).1
      have f0 := (E.out 0).2
      have p1 := (E.out 1).1
      have f1 := (E.out 1).2
      have p2 := (E.out 2).1
      have f2 := (E.out 2).2
      have p3 := (E.out 3).1
      have f3 := (E.out 3).2
      have p4 := (E.out 4).1
      have f4 := (E.out 4).2
      have p5 := (E.out 5).1
      have f5 := (E.out 5).2
      have p6 := (E.out 6).1
      have f6 := (E.out 6).2
      have p7 := (E.out 7).1
      have f7 := (E.out 7).2
      have p8 := (E.out 8).1
      have f8 := (E.out 8).2
      have p9 := (E.out 9).1
      have f9 := (E.out 9).2
      have p10 := (E.out 10).1
      have f10 := (E.out 10).2
      have p11 := (E.out 11).1
      have f11 := (E.out 11).2
      simp only [List.getElem?_cons_zero, List.getElem?_cons_succ] at p0 p1 p2 p3 p4 p5 p6 p7 p8 p9 p10 p11
      obtain ⟨x0, x1⟩ := CA.out _ A2.out
      obtain ⟨a0, a1, a2, a3, a4, a5, a6, a7, a8, a9, a10⟩ := HC2.out _ B2.out
      clear CR CA LD2 HC2
      go_wp2
      refine bodyPost_ret (v := .tuple #[.agg #[.int .i64 x.kind, .int .i64 x.size, .int .i64 x.links, .int .i64 x.m0, .int .i64 x.m1, .int .i64 x.m2, .int .i64 x.m3, .int .i64 x.m4, .int .i64 x.m5, .int .i64 x.m6, .int .i64 x.m7, .int .i64 (i : Int)], .int .i64 0]) (by simp [results, Tryz.results45, go_sem, p0, p1, p2, p3, p4, p5, p6, p7, p8, p9, p10, p11]) rfl ⟨rfl, ?_⟩
      repeat (first | with_reducible exact B2.out | refine Below.setCell ?_ (by simp only; omega) _)
end Go.Proofs.YtgnfbiohjdepcaaGreatDoor
