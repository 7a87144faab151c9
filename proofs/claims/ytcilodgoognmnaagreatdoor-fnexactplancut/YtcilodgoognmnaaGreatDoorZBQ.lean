/- Several texts laid together: BlkSm, LastW, DuC, DtF. -/
import Derived.Test.YtcilodgoognmnaaGreatDoorZBK
import Derived.Test.YtcilodgoognmnaaGreatDoorZAB
import Derived.Test.YtcilodgoognmnaaGreatDoorDuB
import Derived.Test.YtcilodgoognmnaaGreatDoorZBI
import Derived.Test.YtcilodgoognmnaaGreatDoorWt
import Derived.Deep.RegionHeld3
import Derived.Test.YtcilodgoognmnaaGreatDoorZBL
namespace Go.Proofs.YtcilodgoognmnaaGreatDoor
open Go.RowKit

theorem RowBlk.setCell {w : World} {lo hi : Nat} {v : Value} {ws : List Int} {ps : List Se} (h : RowBlk w lo hi v ws ps) {a : Addr} (ha : a.block < lo) (u : Value) : RowBlk (w.setCell a u) lo hi v ws ps := by
  obtain ⟨vW, vP, rfl, h1, h2⟩ := h
  exact ⟨vW, vP, rfl, h1.same (fun b hb _ => Below.heap_setCell _ _ _ _ (by omega)), h2.same (fun b hb _ => Below.heap_setCell _ _ _ _ (by omega))⟩
theorem RowBlk.alloc {w : World} {lo hi : Nat} {v : Value} {ws : List Int} {ps : List Se} (h : RowBlk w lo hi v ws ps) (hi1 : hi ≤ w.heap.size) (o : Obj) : RowBlk (w.alloc o) lo hi v ws ps :=
  h.below ((Below.refl _ _).alloc (Nat.le_refl _) o) hi1
end Go.Proofs.YtcilodgoognmnaaGreatDoor

namespace Go.Proofs.YtcilodgoognmnaaGreatDoor
open Go.RowKit

/-- The variable that no write is like. -/
def NW (w : World) : Prop := ∃ t fr, w.heap[0]? = some (.cells #[.int .i64 (-1), .int .i64 0] t fr)
theorem NW.lt {w : World} (h : NW w) : 0 < w.heap.size := by
  obtain ⟨t, fr, h⟩ := h
  exact (Array.getElem?_eq_some_iff.1 h).1
theorem NW.later {w w' : World} {B : Nat} (h : NW w) (hB : 0 < B) (hb : Below B w w') : NW w' := by
  obtain ⟨t, fr, h⟩ := h
  exact ⟨t, fr, (hb.block 0 hB).trans h⟩
theorem NW.below {w w' : World} (h : NW w) (hb : Below w.heap.size w w') : NW w' := h.later h.lt hb
theorem NW.cells {w : World} (h : NW w) : w.cell? ⟨0, 0, none⟩ = some (.int .i64 (-1)) ∧ w.cell? ⟨0, 1, none⟩ = some (.int .i64 0) := by
  obtain ⟨t, fr, h⟩ := h
  simp [World.cell?, h]

/-- In the midst of the loop: the last one so far, and the answer's variable. -/
structure LwInv (w wr : World) (s : Se) : Prop where
  last : wr.heap[w.heap.size + 1]? = some (.cells #[.int .i64 s.at_, .int .i64 s.val] 200 (0, 0))
  res : wr.heap[w.heap.size]? = some (.cells #[.int .i64 0, .int .i64 0] 200 (0, 0))
  below : Below w.heap.size w wr
theorem LwInv.alloc {w wr : World} {s : Se} (h : LwInv w wr s) (o : Obj) : LwInv w (wr.alloc o) s :=
  ⟨at_old h.last, at_old h.res, h.below.alloc h.below.size o⟩
end Go.Proofs.YtcilodgoognmnaaGreatDoor

namespace Go.Proofs.YtcilodgoognmnaaGreatDoor
open Go.RowKit

/-- The box of a file. -/
def Ino.fa (x : Ino) (i : Int) : List Value := [.int .i64 x.kind, .int .i64 x.size, .int .i64 x.links, .int .i64 x.m0, .int .i64 x.m1, .int .i64 x.m2, .int .i64 x.m3, .int .i64 x.m4, .int .i64 x.m5, .int .i64 x.m6, .int .i64 x.m7, .int .i64 i]
end Go.Proofs.YtcilodgoognmnaaGreatDoor

namespace Go.Proofs.YtcilodgoognmnaaGreatDoor
open Go.RowKit

set_option maxRecDepth 100000 in
set_option maxHeartbeats 8000000 in
theorem l08Cut_any (v : Value) (ns : List Ino) (ds : List Den) (s : ByteArray) (size : Int) (w : World) (h : RdIm w v ns ds) (hi : imgB ns ds = true) (hs : s.size ≤ 65536) :
    Calls Tryz.prog 65 #[v, .string s, .int .i64 size] w fun e w' => PlOut w w' e (cuI ns ds s size) := by
  have LL := hideIt (fun w1 (hb : Below w.heap.size w w1) => l08File_any v ns ds s w1 (h.below hb) hi hs)
  have EL := hideIt (show cuI ns ds s size = if (flI ns ds s).2 = 0 then cuF ns (flI ns ds s).1 size else ([], (flI ns ds s).2) from rfl)
  have LO := hideIt (fun c => fl_file (s := s) (img_iff.1 hi) c)
  obtain ⟨l16, l24, _⟩ := pimg_all hi
  have L16 := hideIt l16
  obtain ⟨vW, vP, rfl, h1, h2⟩ := h
  obtain ⟨aW, cW, rfl, _, hcW⟩ := h1.shape
  obtain ⟨aP, cP, rfl, _, hcP⟩ := h2.shape
  obtain ⟨bW, oW, rfl, hblW, hcellW⟩ := hcW (by omega)
  have HM : Hid (∀ k, k < 16 → ∀ w', Below w.heap.size w w' → ∀ j, j < 8 → w'.cell? ⟨bW, oW + k * 11 + 3 + j, none⟩ = some (.int .i64 ((inoAt ns k).map.getD j 0))) := fun k hk w' hb j hj => by
    rw [inoAt_of (by omega : k < ns.length)]
    obtain ⟨a0, a1, a2, a3, a4, a5, a6, a7, a8, a9, a10⟩ := hcellW k (by omega)
    rcases (show j = 0 ∨ j = 1 ∨ j = 2 ∨ j = 3 ∨ j = 4 ∨ j = 5 ∨ j = 6 ∨ j = 7 by omega) with rfl | rfl | rfl | rfl | rfl | rfl | rfl | rfl
    · exact (hb.cell (p := ⟨bW, oW + k * 11 + 3, none⟩) hblW).trans a3
    · exact (hb.cell (p := ⟨bW, oW + k * 11 + 4, none⟩) hblW).trans a4
    · exact (hb.cell (p := ⟨bW, oW + k * 11 + 5, none⟩) hblW).trans a5
    · exact (hb.cell (p := ⟨bW, oW + k * 11 + 6, none⟩) hblW).trans a6
    · exact (hb.cell (p := ⟨bW, oW + k * 11 + 7, none⟩) hblW).trans a7
    · exact (hb.cell (p := ⟨bW, oW + k * 11 + 8, none⟩) hblW).trans a8
    · exact (hb.cell (p := ⟨bW, oW + k * 11 + 9, none⟩) hblW).trans a9
    · exact (hb.cell (p := ⟨bW, oW + k * 11 + 10, none⟩) hblW).trans a10
  clear h1 h2 hi hs hcW hcP hcellW l16 l24
  obtain ⟨W, hW⟩ : ∃ W, W = w.alloc (.cells #[.slice (some ⟨bW, oW, none⟩) ns.length cW, .slice aP ds.length cP] 63) := ⟨_, rfl⟩
  have CA : Hid (∀ w', Below W.heap.size W w' → w'.cell? ⟨w.heap.size, 0, none⟩ = some (.slice (some ⟨bW, oW, none⟩) ns.length cW) ∧ w'.cell? ⟨w.heap.size, 1, none⟩ = some (.slice aP ds.length cP)) := fun w' hb => by
    have : w'.heap[w.heap.size]? = some (.cells #[.slice (some ⟨bW, oW, none⟩) ns.length cW, .slice aP ds.length cP] 63 (0, 0)) := (hb.block _ (by rw [hW]; simp)).trans (by rw [hW]; exact at_new rfl)
    exact ⟨(two_cells this).1, (two_cells this).2.1⟩
  have BW : Hid (Below w.heap.size w W) := by rw [hW]; exact (Below.refl _ _).alloc (Nat.le_refl _) _
  obtain ⟨x0, x1⟩ := CA.out _ (Below.refl _ _)
  have hz : w.heap.size < W.heap.size := by rw [hW]; simp
  generalize cuI ns ds s size = res at *
  generalize flI ns ds s = lr at *
  obtain ⟨li, lc⟩ := lr
  simp only at EL LO LL
  go_enter Tryz.func65, Tryz.ntmps65
  go_wp2_with fail
  rw [← hW]
  clear hW x0 x1
  refine (LL.out _ BW.out).mono ?_
  rintro e w1 ⟨rfl, hb1⟩
  have A1 := hideIt hb1
  have B1 := hideIt (below_trans BW.out A1.out BW.out.size)
  clear hb1 LL
  by_cases c : lc = 0
  case neg =>
    rw [if_neg c] at EL
    obtain rfl := EL.out
    have q : (lc != 0) = true := by rw [bne_iff_ne]; exact c
    clear EL LO c
    go_wp2
    go_ret2
    exact pl_none B1.out
  subst c
  rw [if_pos rfl] at EL
  obtain ⟨i, i16, ei, -⟩ := LO.out rfl
  subst ei
  have EC := hideIt (show cuF ns (i : Int) size = if 0 ≤ size ∧ size ≤ 8 then (cuU (inoAt ns i).map (i : Int) size.toNat 8, 0) else ([], 4) from rfl)
  rw [EC.out] at EL
  have HMi := hideIt (HM.out i i16)
  have i1 : i < ns.length := by have := L16.out; omega
  have i0 : (0 : Int) ≤ (i : Int) := by omega
  have il : (i : Int) < (ns.length : Int) := by omega
  have ir : 0 ≤ (i : Int) ∧ (i : Int) < 16 := by omega
  clear HM EC LO L16
  by_cases c : 0 ≤ size ∧ size ≤ 8
  case neg =>
    rw [if_neg c] at EL
    obtain rfl := EL.out
    clear EL
    go_wp2_with fail
    refine (l01In_no _ _ _ _ c).mono ?_
    rintro e w' ⟨rfl, hw'⟩
    subst w'
    go_wp2
    go_ret2
    exact pl_none B1.out
  rw [if_pos c] at EL
  obtain ⟨n, rfl⟩ : ∃ n : Nat, size = (n : Int) := ⟨size.toNat, by omega⟩
  rw [Int.toNat_natCast] at EL
  have n8 : n ≤ 8 := by omega
  generalize (inoAt ns i).map = zs at *
  go_wp2_with fail
  refine (l01In_yes _ _ _ _ c).mono ?_
  rintro e w' ⟨rfl, hw'⟩
  subst w'
  clear c
  go_wp2_with (go_at_call 110; refine (l03Inode_any _ _ _ ir (by omega)).mono ?_; rintro e w' ⟨rfl, hw'⟩; subst w')
  have ST : Hid (UpI W (w1.alloc (.cells #[.int .i64 (48 + 12 * (i : Int) + 1), .int .i64 (n : Int)] 130)) (.slice (some ⟨w1.heap.size, 0, none⟩) 1 1) (cuU zs (i : Int) n n)) := by
    unfold Hid cuU
    rw [cuT_start]
    exact ⟨World.ownsRow_lit w1 _ 1 A1.out.size (by simp [maxLen]) rfl, A1.out.alloc A1.out.size _⟩
  go_loopw [10, 11] (fun vL k wr => ∃ m : Nat, n ≤ m ∧ m ≤ 8 ∧ k = .int .i64 (m : Int) ∧ Hid (UpI W wr vL (cuU zs (i : Int) n m))) (fun _ k _ => 8 - (intOf k).toNat)
  case atStart => exact ⟨n, Nat.le_refl _, n8, rfl, ST⟩
  case round =>
    obtain ⟨m, hm, hm8, rfl, J⟩ := hrel
    clear ST A1 B1
    obtain ⟨x0, x1⟩ := CA.out _ J.out.b
    have JW := hideIt (below_trans BW.out J.out.b BW.out.size)
    have hzj : W.heap.size ≤ wr.heap.size := J.out.z
    have m0 : (0 : Int) ≤ (m : Int) := by omega
    by_cases hlt : m < 8
    · have m1 : (m : Int) < 8 := by omega
      have e0 := HMi.out wr JW.out m hlt
      have YES := hideIt (fun e => cuT_yes (zs := zs) (i := (i : Int)) (n := n) (k := m) hm e)
      have NO := hideIt (fun e => cuT_no (zs := zs) (i := (i : Int)) (n := n) (k := m) e)
      have hlen : (cuU zs (i : Int) n m).length ≤ 9 := by
        have := cuT_len zs (i : Int) n m
        show (cuT zs (i : Int) n m).length + 1 ≤ 9
        omega
      generalize zs.getD m 0 = z at e0 YES NO
      by_cases q : z = 0
      · have q' : (z != 0) = false := by rw [q]; rfl
        have G : Hid (UpI W wr u10 (cuU zs (i : Int) n (m + 1))) := by
          unfold Hid cuU
          rw [NO.out q]
          exact J.out
        clear q J YES NO
        go_wp2
        go_roundw
        case rel => exact ⟨m + 1, by omega, by omega, by go_num, G⟩
        case measure => simp [intOf]; omega
      · have q' : (z != 0) = true := by rw [bne_iff_ne]; exact q
        have JB : Hid (UpI W (wr.alloc (.cells #[.int .i64 (48 + 12 * (i : Int) + (3 + (m : Int))), .int .i64 0] 130)) u10 (cuU zs (i : Int) n m)) := J.out.below ((Below.refl _ _).alloc (Nat.le_refl _) _)
        have RB := hideIt (rd_upd wr (48 + 12 * (i : Int) + (3 + (m : Int))) 0)
        have hzb := JB.out.z
        have MN : Hid (cuU zs (i : Int) n (m + 1) = cuU zs (i : Int) n m ++ [⟨48 + 12 * (i : Int) + (3 + (m : Int)), 0⟩]) := by
          unfold Hid cuU
          rw [YES.out q]
          rfl
        have mr : 0 ≤ 3 + (m : Int) ∧ 3 + (m : Int) < 11 := by omega
        clear q J YES NO
        go_wp2_with fail
        refine (l03Inode_any _ _ _ ir mr).mono ?_
        rintro e w' ⟨rfl, hw'⟩
        subst w'
        go_wp2_with (at_builtin; refine wpList_append_rd _ rfl (.tmp 45) (.tmp 51) 57 rfl W.heap.size 130 (.agg #[.int .i64 0, .int .i64 0]) 2 16 Tryz.underlying57 infoUp rfl (by decide) _ _ _ rfl JB.out.l _ 1 _ rfl RB.out (ses_ones _) (by first | omega | (simp [maxLen]; omega)) (by first | omega | (simp; omega)) hzb ?_)
        intro vN wN hownN hgrN
        have G := hideIt (JB.out.grow [⟨48 + 12 * (i : Int) + (3 + (m : Int)), 0⟩] hownN hgrN)
        rw [← MN.out] at G
        clear hownN hgrN JB RB
        go_wp2
        go_roundw
        case rel => exact ⟨m + 1, by omega, by omega, by go_num, G⟩
        case measure => simp [intOf]; omega
    · obtain rfl : m = 8 := by omega
      obtain rfl := EL.out
      obtain ⟨-, aN, cN, hvN, -⟩ := (own_block J.out.l).rd
      subst hvN
      go_wp2
      go_ret2
      exact ⟨_, rfl, (own_block J.out.l).wide (by omega) (Nat.le_refl _), JW.out⟩

set_option maxRecDepth 100000 in
set_option maxHeartbeats 4000000 in
theorem specPlanCut_any (v : Value) (ws : List Ino) (ps : List Den) (s : ByteArray) (size : Int) (w : World) (h : RdIm w v ws ps) (hw : ws.length ≤ 1048576) (hp : ps.length ≤ 1048576) (hr : ∀ k (h : k < ws.length), ws[k].R) (hs : ∀ k (h : k < ps.length), ps[k].name.size ≤ maxLen) :
    Calls Tryz.prog 20 #[v, .string s, .int .i64 size] w fun e w' => PlOut w w' e (cuR ws ps s size) := by
  have LI := hideIt (fun w1 (hb : Below w.heap.size w w1) => specImageOK_any v ws ps w1 (h.below hb) hw hp hr hs)
  have LL := hideIt (fun w1 (hb : Below w.heap.size w w1) hi hs => l08Cut_any v ws ps s size w1 (h.below hb) hi hs)
  have EL := hideIt (show cuR ws ps s size = if 65536 < s.size then ([], 2) else if imgB ws ps = true then cuI ws ps s size else ([], 1) from rfl)
  obtain ⟨vW, vP, rfl, h1, h2⟩ := h
  obtain ⟨aW, cW, rfl, _, _⟩ := h1.shape
  obtain ⟨aP, cP, rfl, _, _⟩ := h2.shape
  clear h1 h2 hr hs
  have CA : Hid (∀ w', Below (w.alloc (.cells #[.slice aW ws.length cW, .slice aP ps.length cP] 63)).heap.size (w.alloc (.cells #[.slice aW ws.length cW, .slice aP ps.length cP] 63)) w' → w'.cell? ⟨w.heap.size, 0, none⟩ = some (.slice aW ws.length cW) ∧ w'.cell? ⟨w.heap.size, 1, none⟩ = some (.slice aP ps.length cP)) := fun w' hb => by
    have : w'.heap[w.heap.size]? = some (.cells #[.slice aW ws.length cW, .slice aP ps.length cP] 63 (0, 0)) := (hb.block _ (by simp)).trans (at_new rfl)
    exact ⟨(two_cells this).1, (two_cells this).2.1⟩
  have BW : Hid (Below w.heap.size w (w.alloc (.cells #[.slice aW ws.length cW, .slice aP ps.length cP] 63))) := (Below.refl _ _).alloc (Nat.le_refl _) _
  obtain ⟨x0, x1⟩ := CA.out _ (Below.refl _ _)
  generalize cuR ws ps s size = res at *
  generalize cuI ws ps s size = r1 at *
  by_cases c1 : 65536 < s.size
  · rw [if_pos c1] at EL
    have c2 : (s.size : Int) > 65536 := by omega
    obtain rfl := EL.out
    clear EL c1 LL
    go_enter Tryz.func20, Tryz.ntmps20
    go_wp2
    go_ret2
    exact pl_noneB BW.out (World.size_alloc _ _).symm
  rw [if_neg c1] at EL
  have c2 : ¬ (s.size : Int) > 65536 := by omega
  have LL2 := hideIt (fun w1 h hi => LL.out w1 h hi (by omega))
  clear LL c1
  generalize hi : imgB ws ps = ib at *
  go_enter Tryz.func20, Tryz.ntmps20
  go_wp2_with fail
  refine (LI.out _ BW.out).mono ?_
  rintro e w1 ⟨rfl, hb1⟩
  have B1 := hideIt (below_trans BW.out hb1 BW.out.size)
  clear x0 x1
  obtain ⟨x0, x1⟩ := CA.out _ hb1
  clear hb1
  cases ib with
  | false =>
    obtain rfl := EL.out
    clear EL LL2 x0 x1
    go_wp2
    go_ret2
    exact pl_none B1.out
  | true =>
    rw [if_pos rfl] at EL
    have LL3 := hideIt (fun w1 h => LL2.out w1 h rfl)
    clear LL2
    obtain rfl := EL.out
    clear EL
    go_wp2_with fail
    refine (LL3.out _ B1.out).mono ?_
    rintro e w2 ⟨v2, rfl, hr2, hb2⟩
    have R2 := hideIt (hr2.wide B1.out.size (Nat.le_refl _))
    have B2 := hideIt (below_trans B1.out hb2 B1.out.size)
    obtain ⟨-, aL, cL, hvL, -⟩ := hr2.rd
    subst hvL
    clear hr2 hb2
    go_wp2
    go_ret2
    exact ⟨_, rfl, R2.out, B2.out⟩
end Go.Proofs.YtcilodgoognmnaaGreatDoor
