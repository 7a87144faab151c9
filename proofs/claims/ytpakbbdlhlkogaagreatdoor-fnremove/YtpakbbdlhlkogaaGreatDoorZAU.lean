/- Several texts laid together: IgI, JrC, Blk, BlkOK, BlkRead, DtA, IgJ, IgK, IgL, IgM. -/
import Derived.Test.YtpakbbdlhlkogaaGreatDoorZAR
import Derived.Test.YtpakbbdlhlkogaaGreatDoorZAT
import Derived.Test.YtpakbbdlhlkogaaGreatDoorZAP
import Derived.Test.YtpakbbdlhlkogaaGreatDoorZAB
import Derived.Deep.RegionWith
import Derived.Test.YtpakbbdlhlkogaaGreatDoorZAD
import Derived.KernelRfl
namespace Go.Proofs.YtpakbbdlhlkogaaGreatDoor
open Go.RowKit
theorem zsd {ls ls' : List Int} {ws : List Ino} {ps : List Den} (h : Wi ls ws ps) (hl : ls'.length = 336) (ag : ∀ z : Int, z = 0 ∨ (48 ≤ z ∧ z < 312) → wdI ls' z = wdI ls z) : Wi ls' ws ps := by
 refine ⟨hl, ?_, ?_, ?_, ?_, h.img⟩
 ·rw [ag 0 (.inl rfl)]; exact h.mark
 ·have g := h.good
  unfold zcn at g ⊢
  rw [List.all_eq_true] at g ⊢
  intro k hk
  have q := g k hk
  have := List.mem_range.1 hk
  unfold zbv at q ⊢
  rw [ag _ (.inr (by omega)), ag _ (.inr (by omega)), ag _ (.inr (by omega))]
  exact q
 ·rw [← h.inos]
  unfold zbi
  apply List.map_congr_left
  intro i hi
  have := List.mem_range.1 hi
  unfold zdk
  rw [ag _ (.inr (by omega)), ag _ (.inr (by omega)), ag _ (.inr (by omega)), ag _ (.inr (by omega)), ag _ (.inr (by omega)), ag _ (.inr (by omega)), ag _ (.inr (by omega)), ag _ (.inr (by omega)), ag _ (.inr (by omega)), ag _ (.inr (by omega)), ag _ (.inr (by omega))]
 ·rw [← h.dens]
  unfold zbp
  apply List.map_congr_left
  intro i hi
  have := List.mem_range.1 hi
  unfold zfh
  rw [ag _ (.inr (by omega)), ag _ (.inr (by omega)), ag _ (.inr (by omega))]
theorem yasp (us : List Se) : ∀ ls : List Int, zcr ls (zea us) = zbe ls us := by
 induction us with
 | nil => intro ls; rfl
 | cons u us ih => intro ls; exact ih _
theorem zyz {z : Int} (hz : 0 ≤ z) : ∀ (S : List St) (ls : List Int), (∀ p ∈ S, 0 ≤ p.at_ ∧ p.at_ < (ls.length : Int) ∧ ¬ p.at_ = z) → wdI (zcr ls S) z = wdI ls z := by
 intro S
 induction S with
 | nil => intro ls _; rfl
 | cons p S ih =>
  intro ls h
  show wdI (zcr (ls.set p.at_.toNat p.val) S) z = _
  rw [ih _ (fun q hq => by rw [List.length_set]; exact h q (List.mem_cons_of_mem _ hq))]
  obtain ⟨a, b, c⟩ := h p (List.mem_cons_self ..)
  rw [zeb a b hz, if_neg (fun e => c e.symm)]
def zoy (ls : List Int) (us : List Se) : List Int := if us.length = 0 then ls else zcr (zcr (zcr (zcr ls (jrn 0 (zea us))) (cnt (us.length : Int))) (zea us)) (cnt 0)
theorem zur (ls : List Int) (us : List Se) : znw (ls, []) (zdu (zea us)) = (zoy ls us, []) := by
 unfold zdu zoy ziq
 rw [zcl]
 by_cases h : us.length = 0
 ·rw [if_pos h, if_pos h]; rfl
 ·rw [if_neg h, if_neg h, zdm, zdm, zdm, zjd, zjd, zjd, zjd]
theorem yagv (ls : List Int) (us : List Se) : (zoy ls us).length = ls.length := by
 unfold zoy
 split
 ·rfl
 ·rw [zcj, zcj, zcj, zcj]
theorem yalu {ls : List Int} {us : List Se} (hl : ls.length = 336) (h16 : us.length ≤ 16) (ui : UpIn us) {z : Int} (hz : z = 0 ∨ (48 ≤ z ∧ z < 336)) : wdI (zoy ls us) z = wdI (zbe ls us) z := by
 have hz0 : 0 ≤ z := by omega
 unfold zoy
 by_cases h : us.length = 0
 ·rw [if_pos h, List.eq_nil_of_length_eq_zero h]; rfl
 ·rw [if_neg h, zyz hz0 (cnt 0) _ (fun p hp => by
   rw [List.mem_singleton.1 hp, zcj, zcj, zcj, hl]
   exact ⟨by show (0 : Int) ≤ 8; omega, by show (8 : Int) < 336; omega, by show ¬ (8 : Int) = z; omega⟩), yasp]
  have same : ∀ (us : List Se) (a b : List Int), a.length = 336 → b.length = 336 → UpIn us → wdI a z = wdI b z → wdI (zbe a us) z = wdI (zbe b us) z := by
   intro us
   induction us with
   | nil => intro a b _ _ _ e; exact e
   | cons u us ih =>
    intro a b ha hb ui e
    have q := ui u (List.mem_cons_self ..)
    refine ih _ _ (by rw [List.length_set]; exact ha) (by rw [List.length_set]; exact hb) (fun v hv => ui v (List.mem_cons_of_mem _ hv)) ?_
    rw [zeb (by omega) (by omega) hz0, zeb (by omega) (by omega) hz0, e]
  refine same us _ _ (by rw [zcj, zcj]; exact hl) hl ui ?_
  rw [zyz hz0 (cnt (us.length : Int)) _ (fun p hp => by
   rw [List.mem_singleton.1 hp, zcj, hl]
   exact ⟨by show (0 : Int) ≤ 8; omega, by show (8 : Int) < 336; omega, by show ¬ (8 : Int) = z; omega⟩)]
  rw [zyz hz0 (jrn 0 (zea us)) _ (fun p hp => by
   have := yaht (zea us) 0 p hp
   rw [zcl] at this
   rw [hl]
   exact ⟨by omega, by omega, by omega⟩)]
theorem zns {ls : List Int} {us : List Se} (hl : ls.length = 336) (c : wdI ls 8 = 0) : wdI (zoy ls us) 8 = 0 := by
 unfold zoy
 by_cases h : us.length = 0
 ·rw [if_pos h]; exact c
 ·rw [if_neg h]
  show wdI ((zcr (zcr (zcr ls (jrn 0 (zea us))) (cnt (us.length : Int))) (zea us)).set (8 : Int).toNat 0) 8 = 0
  rw [zeb (by omega) (by rw [zcj, zcj, zcj, hl]; omega) (by omega), if_pos rfl]
theorem yaev {ls : List Int} {us : List Se} {ws : List Ino} {ps : List Den} (hl : ls.length = 336) (h16 : us.length ≤ 16) (ui : UpIn us) (h : Wi (zbe ls us) ws ps) : Wi (zoy ls us) ws ps :=
 zsd h (by rw [yagv]; exact hl) (fun z hz => yalu hl h16 ui (by omega))
def ldW (ws : List Int) (ps : List St) (k : Nat) : Int := zld (k : Int) (ws[k]?.getD 0) ps
theorem yaud {ws : List Int} {ps : List St} {k : Nat} (h : k < ws.length) : ldW ws ps k = zld (k : Int) ws[k] ps := by unfold ldW; simp [h]
def RdBlk (w : World) (v : Value) (ws : List Int) (ps : List Se) : Prop := ∃ vW vP, v = .agg #[vW, vP] ∧ RdI w vW ws ∧ RdE w vP ps
def RowZ (w : World) (lo hi : Nat) (v : Value) (n : Nat) (xs : List Value) : Prop := ∃ e, e ≠ 199 ∧ Row w e 1 lo hi v n xs
theorem RowZ.rd {w : World} {lo hi : Nat} {v : Value} {n : Nat} {xs : List Value} (h : RowZ w lo hi v n xs) : Rd w 1 v n xs := by
 obtain ⟨_, _, h⟩ := h
 exact h.rd
theorem RowZ.outside {w w' : World} {lo hi : Nat} {v : Value} {n : Nat} {xs : List Value} (h : RowZ w lo hi v n xs) {lo' hi' : Nat} (ho : Outside lo' hi' w w') (hd : hi ≤ lo' ∨ hi' ≤ lo) (hz : hi ≤ w.heap.size) : RowZ w' lo hi v n xs := by
 obtain ⟨e, he, h⟩ := h
 exact ⟨e, he, h.outside ho hd hz⟩
theorem Row.z {w : World} {lo hi : Nat} {v : Value} {n : Nat} {xs : List Value} (h : Row w 3 1 lo hi v n xs) : RowZ w lo hi v n xs := ⟨3, by decide, h⟩
def RowBlk (w : World) (lo hi : Nat) (v : Value) (ws : List Int) (ps : List Se) : Prop := ∃ vW vP, v = .agg #[vW, vP] ∧ RowZ w lo hi vW ws.length (zdd ws) ∧ Row w 199 2 lo hi vP ps.length (ses ps)
theorem RowBlk.rd {w : World} {lo hi : Nat} {v : Value} {ws : List Int} {ps : List Se} (h : RowBlk w lo hi v ws ps) : RdBlk w v ws ps := by
 obtain ⟨vW, vP, rfl, h1, h2⟩ := h
 exact ⟨vW, vP, rfl, h1.rd, h2.rd⟩
theorem RdBlk.below {w w' : World} {v : Value} {ws : List Int} {ps : List Se} (h : RdBlk w v ws ps) (hb : Below w.heap.size w w') : RdBlk w' v ws ps := by
 obtain ⟨vW, vP, rfl, h1, h2⟩ := h
 exact ⟨vW, vP, rfl, Rd.below h1 hb, Rd.below h2 hb⟩
theorem RowBlk.outside {w w' : World} {lo hi : Nat} {v : Value} {ws : List Int} {ps : List Se} (h : RowBlk w lo hi v ws ps) {lo' hi' : Nat} (ho : Outside lo' hi' w w') (hd : hi ≤ lo' ∨ hi' ≤ lo) (hz : hi ≤ w.heap.size) : RowBlk w' lo hi v ws ps := by
 obtain ⟨vW, vP, rfl, h1, h2⟩ := h
 exact ⟨vW, vP, rfl, h1.outside ho hd hz, h2.outside ho hd hz⟩
def zpr (ws : List Int) (ps : List Se) : Bool := decide (ws.length = 32 ∧ ps.length ≤ 400 ∧ (∀ k (h : k < ws.length), zbc ws[k] = true) ∧ ∀ k (h : k < ps.length), secB ps[k].at_ = true ∧ zbc ps[k].val = true)
theorem yasb {ws : List Int} {ps : List Se} (h1 : ws.length = 32) (h2 : ps.length ≤ 400) (h3 : ∀ k (h : k < ws.length), zbc ws[k] = true) (h4 : ∀ k (h : k < ps.length), secB ps[k].at_ = true ∧ zbc ps[k].val = true) : zpr ws ps = true := decide_eq_true ⟨h1, h2, h3, h4⟩
theorem zex {ws : List Int} {ps : List Se} (h : zpr ws ps = true) : ws.length = 32 ∧ ps.length ≤ 400 := ⟨(of_decide_eq_true h).1, (of_decide_eq_true h).2.1⟩
theorem yago {ws : List Int} {ps : List Se} (h : zpr ws ps = true) (k : Nat) (hk : k < ws.length) : zbc ws[k] = true := (of_decide_eq_true h).2.2.1 k hk
theorem zqo {ws : List Int} {ps : List Se} (h : zpr ws ps = true) (k : Nat) (hk : k < ps.length) : secB ps[k].at_ = true ∧ zbc ps[k].val = true := (of_decide_eq_true h).2.2.2 k hk
def zmb (at_ d : Int) (ps : List Se) : Int := ps.foldl (fun acc p => if p.at_ = at_ then p.val else acc) d
theorem zkx {at_ d : Int} : ∀ {ps : List Se}, (∀ p ∈ ps, ¬ p.at_ = at_) → zmb at_ d ps = d
 | [], _ => rfl
 | p :: ps, h => by
  show zmb at_ (if p.at_ = at_ then p.val else d) ps = d
  rw [if_neg (h p (by simp))]
  exact zkx (fun q hq => h q (by simp [hq]))
theorem zvn (at_ d : Int) (ps qs : List Se) : zmb at_ d (ps ++ qs) = zmb at_ (zmb at_ d ps) qs := by simp [zmb]
theorem yaec {at_ d : Int} {ps : List Se} {k : Nat} (hk : k < ps.length) (h : ps[k].at_ = at_) (ha : ∀ j (hj : j < ps.length), k < j → ¬ ps[j].at_ = at_) : zmb at_ d ps = ps[k].val := by
 have e : ps = ps.take k ++ (ps[k] :: ps.drop (k + 1)) := by rw [← List.drop_eq_getElem_cons hk, List.take_append_drop]
 conv => lhs; rw [e]
 rw [zvn]
 show zmb at_ (if ps[k].at_ = at_ then ps[k].val else _) (ps.drop (k + 1)) = _
 rw [if_pos h]
 apply zkx
 intro p hp
 obtain ⟨i, hi, rfl⟩ := List.getElem_of_mem hp
 rw [List.getElem_drop]
 exact ha _ _ (by omega)
set_option maxHeartbeats 2000000 in
theorem zyu (v : Value) (ws : List Int) (ps : List Se) (at_ : Nat) (w : World) (h : RdBlk w v ws ps) (hw : ws.length ≤ 1048576) (hp : ps.length ≤ 1048576) (ha : at_ < ws.length) :
  Calls Tryz.prog 155 #[v, .int .i64 (at_ : Int)] w fun e w' => e = .returned (.int .i64 (zmb (at_ : Int) ws[at_] ps)) ∧ Below w.heap.size w w' := by
 obtain ⟨vW, vP, rfl, h1, h2⟩ := h
 obtain ⟨aW, cW, rfl, _, hcW⟩ := h1.shape
 obtain ⟨aP, cP, rfl, _, hcP⟩ := h2.shape
 clear h1 h2
 obtain ⟨bW, oW, rfl, hbW, hcellW⟩ := hcW (by omega)
 have hb0 : Below w.heap.size w (w.alloc (.cells #[.slice (some ⟨bW, oW, none⟩) ws.length cW, .slice aP ps.length cP] 29)) := (Below.refl _ _).alloc (Nat.le_refl _) _
 have hcw := (hb0.cell (p := ⟨bW, oW + at_, none⟩) hbW).trans (hcellW at_ ha)
 clear hcW hcellW
 go_enter Tryz.func155, Tryz.ntmps155
 go_wp2
 go_loop [5] (fun i => ∃ k : Nat, k ≤ ps.length ∧ i = .int .i64 ((k : Int) - 1) ∧ Hid (∀ j (h : j < ps.length), k ≤ j → ¬ ps[j].at_ = (at_ : Int))) (fun i => (intOf i + 1).toNat)
 case atStart => exact ⟨ps.length, Nat.le_refl _, rfl, fun j h a => absurd h (by omega)⟩
 case round =>
  obtain ⟨k, hk, rfl, H⟩ := hrel
  cases k with
  | zero =>
   have E := zaa (zkx (d := ws[at_]) (fun p hp => by obtain ⟨i, hi, rfl⟩ := List.getElem_of_mem hp; exact H.out i hi (by omega)))
   clear H hcP
   go_wp2
   go_ret
   exact ⟨zcf E.out.symm, hb0⟩
  | succ m =>
   have em : (((m + 1 : Nat) : Int) - 1) = (m : Int) := by omega
   rw [em]
   clear em
   obtain ⟨b, o, rfl, hbl, hcell⟩ := hcP (by omega)
   obtain ⟨d0, d1⟩ := hcell m (by omega)
   have e0 := (hb0.cell (p := ⟨b, o + m * 2, none⟩) hbl).trans d0
   have e1 := (hb0.cell (p := ⟨b, o + m * 2 + 1, none⟩) hbl).trans d1
   clear d0 d1 hcell hcP
   have hm : m < ps.length := by omega
   by_cases c : ps[m].at_ = (at_ : Int)
   ·have c' : (ps[m].at_ == (at_ : Int)) = true := by simpa using c
    have E := zaa (yaec (d := ws[at_]) hm c (fun j hj hlt => H.out j hj (by omega)))
    clear H c
    go_wp2
    go_ret
    exact ⟨zcf E.out.symm, hb0⟩
   ·have c' : (ps[m].at_ == (at_ : Int)) = false := by simpa using c
    have C := zaa c
    clear c
    go_wp2
    go_round
    case rel =>
     refine ⟨m, by omega, by go_num, fun j hj hle => ?_⟩
     by_cases e : j = m
     ·subst e; exact C.out
     ·exact H.out j hj (by omega)
    case measure => simp [intOf] <;> omega
def pgV (ws : List Int) (ps : List St) (es : List Int) (qs : List Se) (e : Int) : Int := if e % 4 = 1 then ldW ws ps (312 + e / 4).toNat else if e % 4 = 2 then zmb (e / 4) (es[(e / 4).toNat]?.getD 0) qs else 0
def flI (ns : List Ino) (ds : List Den) (s : ByteArray) : Int × Int := if (lkI ns ds s).2 = 0 then (if zai ns (lkI ns ds s).1 = 1 then ((lkI ns ds s).1, 0) else (0, 9)) else (0, (lkI ns ds s).2)
def zdr (ns : List Ino) (z : Int) : Int := (zal ns z.toNat).size
def zor (ns : List Ino) (z : Int) (p : Int) : Int := (zal ns z.toNat).map.getD p.toNat 0
def rpF (ws : List Int) (ps : List St) (es : List Int) (qs : List Se) (ns : List Ino) (i page : Int) : Int × Int := if 0 ≤ page ∧ page < zdr ns i then (pgV ws ps es qs (zor ns i page), 0) else (0, 4)
def rpI (ws : List Int) (ps : List St) (es : List Int) (qs : List Se) (ns : List Ino) (ds : List Den) (s : ByteArray) (page : Int) : Int × Int := if (flI ns ds s).2 = 0 then rpF ws ps es qs ns (flI ns ds s).1 page else (0, (flI ns ds s).2)
def fpI (ns : List Ino) : Int := zbb (fun i => !zhk (zbu (zap ns) 1) (i : Int)) 24
def fsI (ns : List Ino) : Int := zbb (fun i => !zhk (zbu (zap ns) 2) (i : Int)) 32
def wrS (ns : List Ino) (x : Int) : List Mi := if 0 ≤ fpI ns then ⟨1, 312 + fpI ns, x⟩ :: zbm [312 + fpI ns] else [⟨4, fsI ns, x⟩, ⟨5, 0, 0⟩]
def wrE (ns : List Ino) : Int := if 0 ≤ fpI ns then 4 * fpI ns + 1 else 4 * fsI ns + 2
def wrU (i page size e : Int) : List Se := ⟨48 + 12 * i + (3 + page), e⟩ :: (if size ≤ page then [⟨48 + 12 * i + 1, page + 1⟩] else [])
def wrF (ns : List Ino) (i page x : Int) : List Mi × Int := if (0 ≤ page ∧ page < 8) ∧ zbc x = true then (if fpI ns < 0 ∧ fsI ns < 0 then ([], 7) else (wrS ns x ++ zdu (zea (wrU i page (zdr ns i) (wrE ns))), 0)) else ([], 4)
def wrI (ns : List Ino) (ds : List Den) (s : ByteArray) (page x : Int) : List Mi × Int := if (flI ns ds s).2 = 0 then wrF ns (flI ns ds s).1 page x else ([], (flI ns ds s).2)
def cuT (zs : List Int) (i : Int) (n k : Nat) : List Se := ((List.range k).filter fun j => decide (n ≤ j) && !(zs.getD j 0 == 0)).map fun (j : Nat) => ⟨48 + 12 * i + (3 + (j : Int)), 0⟩
def cuU (zs : List Int) (i : Int) (n k : Nat) : List Se := ⟨48 + 12 * i + 1, (n : Int)⟩ :: cuT zs i n k
def cuF (ns : List Ino) (i size : Int) : List Se × Int := if 0 ≤ size ∧ size ≤ 8 then (cuU (zal ns i.toNat).map i size.toNat 8, 0) else ([], 4)
def cuI (ns : List Ino) (ds : List Den) (s : ByteArray) (size : Int) : List Se × Int := if (flI ns ds s).2 = 0 then cuF ns (flI ns ds s).1 size else ([], (flI ns ds s).2)
theorem yaqu {zs : List Int} {i : Int} {n k : Nat} (h : n ≤ k) (e : ¬ zs.getD k 0 = 0) : cuT zs i n (k + 1) = cuT zs i n k ++ [⟨48 + 12 * i + (3 + (k : Int)), 0⟩] := by
 unfold cuT
 rw [List.range_succ, List.filter_append, List.map_append]
 congr 1
 rw [List.filter_cons_of_pos (by rw [decide_eq_true h]; simpa using e)]
 rfl
theorem yava {zs : List Int} {i : Int} {n k : Nat} (e : zs.getD k 0 = 0) : cuT zs i n (k + 1) = cuT zs i n k := by
 unfold cuT
 rw [List.range_succ, List.filter_append, List.map_append, List.filter_cons_of_neg (by rw [e]; simp)]
 simp
theorem yadw (zs : List Int) (i : Int) (n : Nat) : cuT zs i n n = [] := by
 unfold cuT
 rw [List.filter_eq_nil_iff.2 (fun j hj => by have := List.mem_range.1 hj; simp; omega)]
 rfl
theorem zwz (zs : List Int) (i : Int) (n k : Nat) : (cuT zs i n k).length ≤ k := by
 unfold cuT
 rw [List.length_map]
 refine Nat.le_trans (List.length_filter_le _ _) ?_
 rw [List.length_range]
 exact Nat.le_refl _
theorem yatv {zs : List Int} {i n k : Nat} (hi : i < 16) (hk : k ≤ 8) : UpIn (cuT zs (i : Int) n k) := fun u hu => by
 unfold cuT at hu
 obtain ⟨j, hm, rfl⟩ := List.mem_map.1 hu
 have := List.mem_range.1 (List.mem_filter.1 hm).1
 exact ⟨by show 48 ≤ 48 + 12 * (i : Int) + (3 + (j : Int)); omega, by show 48 + 12 * (i : Int) + (3 + (j : Int)) < 312; omega⟩
theorem zgn {ns : List Ino} {ds : List Den} {s : ByteArray} (I : Img ns ds) (h : (flI ns ds s).2 = 0) : ∃ i : Nat, i < 16 ∧ (flI ns ds s).1 = (i : Int) ∧ (zal ns i).kind = 1 := by
 unfold flI at h ⊢
 by_cases c : (lkI ns ds s).2 = 0
 ·rw [if_pos c] at h ⊢
  by_cases d : zai ns (lkI ns ds s).1 = 1
  ·rw [if_pos d]
   obtain ⟨i, e, hi, _, k⟩ := znd I c (by rw [d]; omega)
   exact ⟨i, hi, e, k⟩
  ·rw [if_neg d] at h
   simp at h
 ·rw [if_neg c] at h
  exact absurd h c
theorem ztk {fs : List (Nat × Int)} {g : Nat} : ∀ {z : Int}, (∀ f ∈ fs, ¬ f.1 = g) → zpf fs g z = z := by
 induction fs with
 | nil => intro z _; rfl
 | cons f fs ih =>
  intro z h
  show zpf fs g (if f.1 = g then f.2 else z) = z
  rw [if_neg (h f (List.mem_cons_self ..))]
  exact ih (fun q hq => h q (List.mem_cons_of_mem _ hq))
theorem yaku {fs : List (Nat × Int)} {g : Nat} (h0 : ∀ f ∈ fs, f.2 = 0) : ∀ {z : Int}, (z = 0 ∨ ∃ f ∈ fs, f.1 = g) → zpf fs g z = 0 := by
 induction fs with
 | nil => intro z h; rcases h with h | ⟨_, h, _⟩; exact h; cases h
 | cons f fs ih =>
  intro z h
  show zpf fs g (if f.1 = g then f.2 else z) = 0
  refine ih (fun q hq => h0 q (List.mem_cons_of_mem _ hq)) ?_
  by_cases e : f.1 = g
  ·rw [if_pos e]; exact .inl (h0 f (List.mem_cons_self ..))
  ·rw [if_neg e]
   rcases h with h | ⟨q, hq, hg⟩
   ·exact .inl h
   ·rcases List.mem_cons.1 hq with rfl | hq
    ·exact absurd hg e
    ·exact .inr ⟨q, hq, hg⟩
def cuFs (zs : List Int) (n : Nat) : List (Nat × Int) := ((List.range 8).filter fun j => decide (n ≤ j) && !(zs.getD j 0 == 0)).map fun (j : Nat) => (3 + j, 0)
theorem yaad (zs : List Int) (i n : Nat) : zoa i ((1, (n : Int)) :: cuFs zs n) = cuU zs (i : Int) n 8 := by
 unfold zoa cuU cuT cuFs
 rw [List.map_cons, List.map_map]
 rfl
theorem zjs {zs : List Int} {n : Nat} {f : Nat × Int} (h : f ∈ cuFs zs n) : ∃ j, j < 8 ∧ n ≤ j ∧ f = (3 + j, 0) := by
 unfold cuFs at h
 obtain ⟨j, hm, rfl⟩ := List.mem_map.1 h
 obtain ⟨a, b⟩ := List.mem_filter.1 hm
 rw [Bool.and_eq_true, decide_eq_true_eq] at b
 exact ⟨j, List.mem_range.1 a, b.1, rfl⟩
theorem yafi {zs : List Int} {n j : Nat} (hj : j < 8) : zpf ((1, (n : Int)) :: cuFs zs n) (3 + j) (zs.getD j 0) = (cutM zs n).getD j 0 := by
 show zpf (cuFs zs n) (3 + j) (if 1 = 3 + j then (n : Int) else zs.getD j 0) = _
 rw [if_neg (by omega), yahu _ _ _ hj]
 by_cases c : j < n
 ·rw [if_pos c]
  exact ztk (fun f hf => by obtain ⟨q, _, hq, rfl⟩ := zjs hf; show ¬ 3 + q = 3 + j; omega)
 ·rw [if_neg c]
  refine yaku (fun f hf => by obtain ⟨q, _, _, rfl⟩ := zjs hf; rfl) ?_
  by_cases e : zs.getD j 0 = 0
  ·exact .inl e
  ·refine .inr ⟨(3 + j, 0), ?_, rfl⟩
   unfold cuFs
   exact List.mem_map.2 ⟨j, List.mem_filter.2 ⟨List.mem_range.2 hj, by rw [decide_eq_true (by omega : n ≤ j)]; simpa using e⟩, rfl⟩
theorem yabk (x : Ino) (n : Nat) : zug x ((1, (n : Int)) :: cuFs x.map n) = inoM x.kind (n : Int) x.links (cutM x.map n) := by
 have N : ∀ g, g < 3 → ¬ g = 1 → ∀ z, zpf ((1, (n : Int)) :: cuFs x.map n) g z = z := fun g hg h1 z => ztk (fun f hf => by
  rcases List.mem_cons.1 hf with rfl | hf
  ·show ¬ 1 = g; omega
  ·obtain ⟨q, _, _, rfl⟩ := zjs hf; show ¬ 3 + q = g; omega)
 have P := fun j hj => yafi (zs := x.map) (n := n) (j := j) hj
 unfold zug inoM
 congr 1
 ·exact N 0 (by omega) (by omega) _
 ·show zpf (cuFs x.map n) 1 (n : Int) = (n : Int)
  exact ztk (fun f hf => by obtain ⟨q, _, _, rfl⟩ := zjs hf; show ¬ 3 + q = 1; omega)
 ·exact N 2 (by omega) (by omega) _
 ·exact P 0 (by omega)
 ·exact P 1 (by omega)
 ·exact P 2 (by omega)
 ·exact P 3 (by omega)
 ·exact P 4 (by omega)
 ·exact P 5 (by omega)
 ·exact P 6 (by omega)
 ·exact P 7 (by omega)
theorem yats {ls : List Int} {ns : List Ino} {ds : List Den} (h : Wi ls ns ds) {s : ByteArray} {size : Int} {us : List Se} (e : cuI ns ds s size = (us, 0)) :
  UpIn us ∧ us.length ≤ 9 ∧ ∃ i n : Nat, i < 16 ∧ n ≤ 8 ∧ (flI ns ds s).1 = (i : Int) ∧ size = (n : Int) ∧ Wi (zbe ls us) (ns.set i (inoM (zal ns i).kind (n : Int) (zal ns i).links (cutM (zal ns i).map n))) ds := by
 unfold cuI at e
 by_cases c : (flI ns ds s).2 = 0
 ·rw [if_pos c] at e
  obtain ⟨i, hi, ei, k⟩ := zgn h.img c
  rw [ei] at e
  unfold cuF at e
  by_cases d : 0 ≤ size ∧ size ≤ 8
  ·rw [if_pos d] at e
   obtain ⟨n, rfl⟩ : ∃ n : Nat, size = (n : Int) := ⟨size.toNat, by omega⟩
   rw [Int.toNat_natCast, Int.toNat_natCast] at e
   obtain ⟨rfl, -⟩ := Prod.mk.inj e
   rw [← yaad]
   have hf : ∀ f ∈ (1, (n : Int)) :: cuFs (zal ns i).map n, f.1 < 11 := fun f hf => by
    rcases List.mem_cons.1 hf with rfl | hf
    ·show 1 < 11; omega
    ·obtain ⟨q, hq, _, rfl⟩ := zjs hf; show 3 + q < 11; omega
   refine ⟨ztc hi hf, ?_, i, n, hi, by omega, ei, rfl, ?_⟩
   ·rw [yaad]
    have := zwz (zal ns i).map (i : Int) n 8
    show (cuT (zal ns i).map (i : Int) n 8).length + 1 ≤ 9
    omega
   ·rw [← yabk]
    exact yapl h hi hf (by rw [yabk]; exact yaqa h.img hi k (by omega))
  ·rw [if_neg d] at e
   simp at e
 ·rw [if_neg c] at e
  exact absurd (Prod.mk.inj e).2 c
def wrFs (p : Nat) (e size : Int) : List (Nat × Int) := (3 + p, e) :: (if size ≤ (p : Int) then [(1, (p : Int) + 1)] else [])
theorem yaoe (i p : Nat) (e size : Int) : zoa i (wrFs p e size) = wrU (i : Int) (p : Int) size e := by
 unfold zoa wrU wrFs
 rw [List.map_cons]
 by_cases c : size ≤ (p : Int)
 ·rw [if_pos c, if_pos c]
  show [(⟨48 + 12 * (i : Int) + ((3 + p : Nat) : Int), e⟩ : Se), ⟨48 + 12 * (i : Int) + 1, (p : Int) + 1⟩] = _
  rw [show 48 + 12 * (i : Int) + ((3 + p : Nat) : Int) = 48 + 12 * (i : Int) + (3 + (p : Int)) by omega]
 ·rw [if_neg c, if_neg c]
  show [(⟨48 + 12 * (i : Int) + ((3 + p : Nat) : Int), e⟩ : Se)] = _
  rw [show 48 + 12 * (i : Int) + ((3 + p : Nat) : Int) = 48 + 12 * (i : Int) + (3 + (p : Int)) by omega]
theorem yaex {p : Nat} {e size : Int} (hp : p < 8) : ∀ f ∈ wrFs p e size, f.1 < 11 := fun f hf => by
 unfold wrFs at hf
 rcases List.mem_cons.1 hf with rfl | hf
 ·show 3 + p < 11; omega
 ·by_cases c : size ≤ (p : Int)
  ·rw [if_pos c, List.mem_singleton] at hf; rw [hf]; show 1 < 11; omega
  ·rw [if_neg c] at hf; cases hf
theorem yaas (x : Ino) {p : Nat} (hp : p < 8) (e : Int) : zug x (wrFs p e x.size) = inoM x.kind (if (p : Int) < x.size then x.size else (p : Int) + 1) x.links (x.map.set p e) := by
 have G : ∀ g z, zpf (wrFs p e x.size) g z = if g = 1 ∧ x.size ≤ (p : Int) then (p : Int) + 1 else if g = 3 + p then e else z := by
  intro g z
  unfold wrFs
  by_cases c : x.size ≤ (p : Int)
  ·rw [if_pos c]
   show (if 1 = g then (p : Int) + 1 else (if 3 + p = g then e else z)) = _
   repeat' split
   all_goals omega
  ·rw [if_neg c]
   show (if 3 + p = g then e else z) = _
   repeat' split
   all_goals omega
 have M : ∀ j, j < 8 → zpf (wrFs p e x.size) (3 + j) (x.map.getD j 0) = (x.map.set p e).getD j 0 := by
  intro j hj
  rw [G, if_neg (fun q => by omega), List.getD_eq_getElem?_getD, List.getD_eq_getElem?_getD, List.getElem?_set]
  by_cases b : j = p
  ·subst b
   rw [if_pos rfl, if_pos rfl, if_pos (by show j < 8; exact hj)]
   rfl
  ·rw [if_neg (by omega), if_neg (fun q => b q.symm)]
 unfold zug inoM
 congr 1
 ·rw [G, if_neg (fun q => by omega), if_neg (by omega)]
 ·rw [G]
  by_cases c : (p : Int) < x.size
  ·rw [if_neg (fun q => by omega), if_neg (by omega), if_pos c]
  ·rw [if_pos ⟨rfl, by omega⟩, if_neg c]
 ·rw [G, if_neg (fun q => by omega), if_neg (by omega)]
 ·exact M 0 (by omega)
 ·exact M 1 (by omega)
 ·exact M 2 (by omega)
 ·exact M 3 (by omega)
 ·exact M 4 (by omega)
 ·exact M 5 (by omega)
 ·exact M 6 (by omega)
 ·exact M 7 (by omega)
theorem zro {ls : List Int} {ns : List Ino} {ds : List Den} (h : Wi ls ns ds) {i p : Nat} {e : Int} (hi : i < 16) (k : (zal ns i).kind = 1) (hp : p < 8) (te : zes e = true) (he : ¬ e = 0) (new : ¬ e ∈ zap ns) :
  UpIn (wrU (i : Int) (p : Int) (zal ns i).size e) ∧ Wi (zbe ls (wrU (i : Int) (p : Int) (zal ns i).size e)) (ns.set i (inoM (zal ns i).kind (if (p : Int) < (zal ns i).size then (zal ns i).size else (p : Int) + 1) (zal ns i).links ((zal ns i).map.set p e))) ds := by
 rw [← yaoe, ← yaas _ hp]
 exact ⟨ztc hi (yaex hp), yapl h hi (yaex hp) (by rw [yaas _ hp]; exact yafr h.img hi k hp te he new rfl)⟩
theorem yasc {ls : List Int} {ns : List Ino} {ds : List Den} (h : Wi ls ns ds) {i p : Nat} {e : Int} (hi : i < 16) (hp : p < 8) (was : ¬ (zal ns i).map.getD p 0 = 0) (te : zes e = true) (he : ¬ e = 0) (new : ¬ e ∈ zap ns) :
  Wi (zbe ls [⟨48 + 12 * (i : Int) + (3 + (p : Int)), e⟩]) (ns.set i (inoM (zal ns i).kind (zal ns i).size (zal ns i).links ((zal ns i).map.set p e))) ds := by
 obtain ⟨sz, k⟩ := yahd (h.img.ok i hi) hp was
 have q := (zro h hi k hp te he new).2
 unfold wrU at q
 rw [if_neg (by omega), if_pos sz] at q
 exact q
theorem zdb {p : Nat → Bool} {n : Nat} (h : 0 ≤ zbb p n) : ∃ k : Nat, k < n ∧ zbb p n = (k : Int) ∧ p k = true := by
 unfold zbb at h ⊢
 cases e : (List.range n).find? p with
 | none => rw [e] at h; exact absurd h (by show ¬ (0 : Int) ≤ -1; omega)
 | some k => exact ⟨k, List.mem_range.1 (List.mem_of_find?_eq_some e), rfl, List.find?_some e⟩
theorem yaac {ns : List Ino} {t : Int} {k : Nat} (ht : 0 ≤ t ∧ t < 4) (h : (!zhk (zbu (zap ns) t) (k : Int)) = true) : ¬ 4 * (k : Int) + t ∈ zap ns := by
 intro m
 unfold zhk zbu at h
 rw [Bool.not_eq_true', ← Bool.not_eq_true] at h
 refine h (List.contains_iff_mem.2 (List.mem_map.2 ⟨4 * (k : Int) + t, List.mem_filter.2 ⟨m, ?_⟩, by omega⟩))
 rw [beq_iff_eq]
 omega
theorem yaeg {ns : List Ino} (h : ¬ (fpI ns < 0 ∧ fsI ns < 0)) : zes (wrE ns) = true ∧ ¬ wrE ns = 0 ∧ ¬ wrE ns ∈ zap ns := by
 unfold wrE
 by_cases c : 0 ≤ fpI ns
 ·rw [if_pos c]
  obtain ⟨k, hk, e, q⟩ := zdb c
  have e' : fpI ns = (k : Int) := e
  rw [e']
  refine ⟨?_, by omega, yaac (by omega) q⟩
  unfold zes zhe
  simp
  omega
 ·rw [if_neg c]
  obtain ⟨k, hk, e, q⟩ := zdb (p := fun i => !zhk (zbu (zap ns) 2) (i : Int)) (n := 32) (by have : ¬ fsI ns < 0 := fun z => h ⟨by omega, z⟩; unfold fsI at this; omega)
  have e' : fsI ns = (k : Int) := e
  rw [e']
  refine ⟨?_, by omega, yaac (by omega) q⟩
  unfold zes zhe
  simp
  omega
def zpe : List Int := (((List.replicate 336 (0 : Int)).set 0 7).set 48 2).set 50 1
theorem yaeu : zpe.length = 336 := by kernel_rfl
theorem yabp : zbi zpe 16 = ⟨2, 0, 1, 0, 0, 0, 0, 0, 0, 0, 0⟩ :: List.replicate 15 zbd := by kernel_rfl
theorem yadq : zcn zpe 24 = true := by kernel_rfl
theorem yaci : zbp zpe 24 = List.replicate 24 freeD := by kernel_rfl
theorem yaff : zcb (⟨2, 0, 1, 0, 0, 0, 0, 0, 0, 0, 0⟩ :: List.replicate 15 zbd) (List.replicate 24 freeD) = true := by kernel_rfl
theorem yamp : Wi zpe (⟨2, 0, 1, 0, 0, 0, 0, 0, 0, 0, 0⟩ :: List.replicate 15 zbd) (List.replicate 24 freeD) :=
 ⟨yaeu, by kernel_rfl, yadq, yabp, yaci, zca.1 yaff⟩
def wrW (ls : List Int) (ns : List Ino) (x : Int) : List Int := if 0 ≤ fpI ns then ls.set (312 + fpI ns).toNat x else ls
theorem yaru (ls : List Int) (ns : List Ino) (x : Int) : znw (ls, []) (wrS ns x) = (wrW ls ns x, []) := by
 unfold wrS wrW
 by_cases c : 0 ≤ fpI ns
 ·rw [if_pos c, if_pos c]
  exact zjd [up (312 + fpI ns) x] ls
 ·rw [if_neg c, if_neg c]
  rfl
theorem yaro (ls : List Int) (ns : List Ino) (x : Int) : (wrW ls ns x).length = ls.length := by
 unfold wrW
 split
 ·rw [List.length_set]
 ·rfl
theorem yapi {ls : List Int} {ns : List Ino} {x : Int} (hl : ls.length = 336) {z : Int} (hz : 0 ≤ z ∧ z < 312) : wdI (wrW ls ns x) z = wdI ls z := by
 unfold wrW
 by_cases c : 0 ≤ fpI ns
 ·rw [if_pos c]
  obtain ⟨k, hk, e, -⟩ := zdb c
  have e' : fpI ns = (k : Int) := e
  rw [zeb (by omega) (by rw [e']; omega) (by omega), if_neg (by omega)]
 ·rw [if_neg c]
theorem yalr {ls : List Int} {ns : List Ino} {ds : List Den} (h : Wi ls ns ds) (c0 : wdI ls 8 = 0) {s : ByteArray} {page x : Int} {l : List Mi} (e : wrI ns ds s page x = (l, 0)) :
  ∃ i p : Nat, ∃ ls', i < 16 ∧ p < 8 ∧ (flI ns ds s).1 = (i : Int) ∧ page = (p : Int) ∧ znw (ls, []) l = (ls', []) ∧ wdI ls' 8 = 0 ∧ Wi ls' (ns.set i (inoM (zal ns i).kind (if (p : Int) < (zal ns i).size then (zal ns i).size else (p : Int) + 1) (zal ns i).links ((zal ns i).map.set p (wrE ns)))) ds := by
 unfold wrI at e
 by_cases c : (flI ns ds s).2 = 0
 ·rw [if_pos c] at e
  obtain ⟨i, hi, ei, k⟩ := zgn h.img c
  rw [ei] at e
  unfold wrF at e
  by_cases d : (0 ≤ page ∧ page < 8) ∧ zbc x = true
  ·rw [if_pos d] at e
   by_cases f : fpI ns < 0 ∧ fsI ns < 0
   ·rw [if_pos f] at e
    simp at e
   ·rw [if_neg f] at e
    obtain ⟨p, rfl⟩ : ∃ p : Nat, page = (p : Int) := ⟨page.toNat, by omega⟩
    have hp : p < 8 := by omega
    obtain ⟨te, he, new⟩ := yaeg f
    have l1 : (wrW ls ns x).length = 336 := by rw [yaro]; exact h.len
    have h1 : Wi (wrW ls ns x) ns ds := zsd h l1 (fun z hz => yapi h.len (by omega))
    have q := zro h1 hi k hp te he new
    have c1 : wdI (wrW ls ns x) 8 = 0 := by rw [yapi h.len (by omega)]; exact c0
    have sz : zdr ns (i : Int) = (zal ns i).size := by unfold zdr; rw [Int.toNat_natCast]
    rw [sz] at e
    obtain ⟨rfl, -⟩ := Prod.mk.inj e
    refine ⟨i, p, zoy (wrW ls ns x) (wrU (i : Int) (p : Int) (zal ns i).size (wrE ns)), hi, hp, ei, rfl, ?_, zns l1 c1, yaev l1 ?_ q.1 q.2⟩
    ·rw [zdm, yaru, zur]
    ·unfold wrU
     split <;> simp
  ·rw [if_neg d] at e
   simp at e
 ·rw [if_neg c] at e
  exact absurd (Prod.mk.inj e).2 c
theorem zrq {i : Nat} (hi : i < 16) {f : Int} (hf : 0 ≤ f ∧ f < 11) (x : Int) : UpIn [⟨48 + 12 * (i : Int) + f, x⟩] := fun u hu => by
 rw [List.mem_singleton.1 hu]
 exact ⟨by show 48 ≤ 48 + 12 * (i : Int) + f; omega, by show 48 + 12 * (i : Int) + f < 312; omega⟩
theorem yage {ws : List Ino} {ps : List Den} {s : ByteArray} {kind : Int} {us : List Se} (h : Img ws ps) (e : mkI ws ps s kind = (us, 0)) : UpIn us ∧ us.length ≤ 16 := by
 unfold mkI at e
 by_cases c : (paI ws ps s).2.2 = 0
 ·rw [if_pos c] at e
  unfold mkN at e
  split at e
  ·simp at e
  ·split at e
   ·simp at e
   ·rename_i f1
    split at e
    ·simp at e
    ·rename_i f2
     obtain ⟨rfl, -⟩ := Prod.mk.inj e
     obtain ⟨i, ei, hi, -⟩ := zzf h f1
     obtain ⟨k, ek, hk, -⟩ := zsn h f2
     rw [ei, ek]
     unfold mkU
     refine ⟨UpIn.app (fun u hu => ?_) (znr hk _), by simp [enL]⟩
     rcases List.mem_cons.1 hu with rfl | hu
     ·exact ⟨by show 48 ≤ 48 + 12 * (i : Int); omega, by show 48 + 12 * (i : Int) < 312; omega⟩
     ·exact zrq hi (by omega) 1 u hu
 ·rw [if_neg c] at e
  exact absurd (Prod.mk.inj e).2 c
theorem yatz {i : Nat} (hi : i < 16) (x : Ino) {k : Nat} (hk : k ≤ 8) : UpIn (wrL (i : Int) x k) := by
 unfold wrL
 refine UpIn.app (fun u hu => ?_) (fun u hu => ?_)
 ·simp only [List.mem_cons, List.not_mem_nil, or_false] at hu
  rcases hu with rfl | rfl | rfl
  ·exact ⟨by show 48 ≤ 48 + 12 * (i : Int); omega, by show 48 + 12 * (i : Int) < 312; omega⟩
  ·exact ⟨by show 48 ≤ 48 + 12 * (i : Int) + 1; omega, by show 48 + 12 * (i : Int) + 1 < 312; omega⟩
  ·exact ⟨by show 48 ≤ 48 + 12 * (i : Int) + 2; omega, by show 48 + 12 * (i : Int) + 2 < 312; omega⟩
 ·obtain ⟨j, hj, rfl⟩ := List.mem_map.1 hu
  have := List.mem_range.1 hj
  exact ⟨by show 48 ≤ 48 + 12 * (i : Int) + (3 + (j : Int)); omega, by show 48 + 12 * (i : Int) + (3 + (j : Int)) < 312; omega⟩
theorem yarc {ws : List Ino} {ps : List Den} {s : ByteArray} {us : List Se} (h : Img ws ps) (e : rmI ws ps s = (us, 0)) : UpIn us ∧ us.length ≤ 16 := by
 unfold rmI at e
 by_cases c : (paI ws ps s).2.2 = 0
 ·rw [if_pos c] at e
  unfold rmN at e
  cases q : zay ps (paI ws ps s).1 (paI ws ps s).2.1 with
  | none => rw [q] at e; simp at e
  | some k =>
   rw [q] at e
   simp only at e
   obtain ⟨hk, i, ei, _, hi, -⟩ := zlo h q
   unfold rmC at e
   split at e
   ·simp at e
   ·obtain ⟨rfl, -⟩ := Prod.mk.inj e
    rw [ei]
    unfold rmU
    split
    ·exact ⟨UpIn.app (znr hk _) (zrq hi (by omega) _), by simp [enL]⟩
    ·exact ⟨UpIn.app (znr hk _) (yatz hi _ (Nat.le_refl _)), by rw [List.length_append, zta]; simp [enL]⟩
 ·rw [if_neg c] at e
  exact absurd (Prod.mk.inj e).2 c
theorem yarj {ws : List Ino} {ps : List Den} {s t : ByteArray} {us : List Se} (h : Img ws ps) (e : lnI ws ps s t = (us, 0)) : UpIn us ∧ us.length ≤ 16 := by
 unfold lnI at e
 by_cases c0 : (lkI ws ps s).2 = 0
 ·rw [if_pos c0] at e
  split at e
  ·simp at e
  ·rename_i kk
   obtain ⟨i, ei, hi, _, _⟩ := znd h c0 kk
   unfold lnP at e
   by_cases c : (paI ws ps t).2.2 = 0
   ·rw [if_pos c] at e
    unfold lnN at e
    split at e
    ·simp at e
    ·split at e
     ·simp at e
     ·rename_i f2
      obtain ⟨rfl, -⟩ := Prod.mk.inj e
      obtain ⟨k, ek, hk, -⟩ := zsn h f2
      rw [ei, ek]
      exact ⟨UpIn.app (znr hk _) (zrq hi (by omega) _), by simp [enL]⟩
   ·rw [if_neg c] at e
    exact absurd (Prod.mk.inj e).2 c
 ·rw [if_neg c0] at e
  exact absurd (Prod.mk.inj e).2 c0
theorem yaum {ws : List Ino} {ps : List Den} {s t : ByteArray} {us : List Se} (h : Img ws ps) (e : rnI ws ps s t = (us, 0)) : UpIn us ∧ us.length ≤ 16 := by
 unfold rnI at e
 by_cases c : (paI ws ps s).2.2 = 0
 ·rw [if_pos c] at e
  unfold rnE at e
  cases q : zay ps (paI ws ps s).1 (paI ws ps s).2.1 with
  | none => rw [q] at e; simp at e
  | some k =>
   rw [q] at e
   simp only at e
   obtain ⟨hk, -⟩ := zlo h q
   unfold rnP at e
   by_cases d : (paI ws ps t).2.2 = 0
   ·rw [if_pos d] at e
    unfold rnN at e
    split at e
    ·simp at e
    ·split at e
     ·simp at e
     ·obtain ⟨rfl, -⟩ := Prod.mk.inj e
      exact ⟨znr hk _, by simp [enL]⟩
   ·rw [if_neg d] at e
    exact absurd (Prod.mk.inj e).2 d
 ·rw [if_neg c] at e
  exact absurd (Prod.mk.inj e).2 c
theorem yaoi {ls : List Int} {ns : List Ino} {ds : List Den} (h : Wi ls ns ds) (c0 : wdI ls 8 = 0) {us : List Se} (ui : UpIn us ∧ us.length ≤ 16) {ns' : List Ino} {ds' : List Den} (q : Wi (zbe ls us) ns' ds') :
  ∃ ls', znw (ls, []) (zdu (zea us)) = (ls', []) ∧ wdI ls' 8 = 0 ∧ Wi ls' ns' ds' :=
 ⟨zoy ls us, zur ls us, zns h.len c0, yaev h.len ui.2 ui.1 q⟩
end Go.Proofs.YtpakbbdlhlkogaaGreatDoor
