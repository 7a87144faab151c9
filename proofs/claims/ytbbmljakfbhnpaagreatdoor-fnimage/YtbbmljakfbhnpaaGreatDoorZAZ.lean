/- Several texts laid together: JrQ, IgI, JrC, DtA, PlD. -/
import Derived.Test.YtbbmljakfbhnpaaGreatDoorZAY
import Derived.Test.YtbbmljakfbhnpaaGreatDoorZAX
import Derived.Test.YtbbmljakfbhnpaaGreatDoorZAQ
import Derived.Test.YtbbmljakfbhnpaaGreatDoorZAU
import Derived.Test.YtbbmljakfbhnpaaGreatDoorZAO
import Derived.Test.YtbbmljakfbhnpaaGreatDoorZAF
import Derived.Test.YtbbmljakfbhnpaaGreatDoorZAG
import Derived.Test.YtbbmljakfbhnpaaGreatDoorZAH
namespace Go.Proofs.YtbbmljakfbhnpaaGreatDoor
open Go.RowKit

/-- Updates as stores. -/
def zdn (us : List Se) : List St := us.map (fun s => up s.at_ s.val)
theorem zce (us : List Se) : (zdn us).length = us.length := by simp [zdn]
theorem zqq (us : List Se) (k : Nat) (h : k < us.length) : (zdn us)[k]? = some (up us[k].at_ us[k].val) := by simp [zdn, h]
def apM (us : List Se) (m : Nat) : List Mi := ((zdn us).take m).map stM
def apP (us : List Se) (m : Nat) : List Int := ((zdn us).take m).map (·.at_)
theorem apM_len (us : List Se) (m : Nat) : (apM us m).length ≤ m := by simp [apM]; omega
theorem apP_len (us : List Se) (m : Nat) : (apP us m).length ≤ m := by simp [apP]; omega
theorem zik {α : Type} (l : List α) (m : Nat) (x : α) (h : l[m]? = some x) : l.take (m + 1) = l.take m ++ [x] := by
 rw [List.take_add_one, h]; rfl
theorem apM_succ (us : List Se) (m : Nat) (h : m < us.length) : apM us (m + 1) = apM us m ++ [⟨1, us[m].at_, us[m].val⟩] := by
 unfold apM; rw [zik _ _ _ (zqq us m h), List.map_append]; rfl
theorem apP_succ (us : List Se) (m : Nat) (h : m < us.length) : apP us (m + 1) = apP us m ++ [us[m].at_] := by
 unfold apP; rw [zik _ _ _ (zqq us m h), List.map_append]; rfl
theorem apM_all (us : List Se) : apM us us.length = (zdn us).map stM := by unfold apM; rw [List.take_of_length_le (by rw [zce]; omega)]
theorem apP_all (us : List Se) : apP us us.length = (zdn us).map (·.at_) := by unfold apP; rw [List.take_of_length_le (by rw [zce]; omega)]
theorem apP_place (us : List Se) (m : Nat) (hz : ∀ k (h : k < us.length), 0 ≤ us[k].at_ ∧ us[k].at_ < 336) : ∀ k (h : k < (apP us m).length), 0 ≤ (apP us m)[k] ∧ (apP us m)[k] < 336 := by
 intro k h
 have h' := h
 simp only [apP, List.length_map, List.length_take, zce] at h'
 have := hz k (by omega)
 simpa [apP, zdn, up] using this

/-- Steps and places that are under way. -/
structure PlI (w0 w : World) (vL vP : Value) (ls : List Mi) (ps : List Int) : Prop where
 l : w.ownsRow w0.heap.size 215 3 vL ls.length (mis ls)
 p : w.ownsRow w0.heap.size 3 1 vP ps.length (zco ps)
 b : Below w0.heap.size w0 w
 z : w0.heap.size ≤ w.heap.size

theorem ty_ne : (3 : Nat) ≠ 215 := by decide
theorem PlI.below {w0 w w' : World} {vL vP : Value} {ls : List Mi} {ps : List Int} (h : PlI w0 w vL vP ls ps) (hb : Below w.heap.size w w') : PlI w0 w' vL vP ls ps :=
 ⟨((zac h.l).below hb (Nat.le_refl _)).1, ((zac h.p).below hb (Nat.le_refl _)).1, zab h.b hb h.z, Nat.le_trans h.z hb.size⟩
theorem PlI.growL {w0 w w' : World} {vL vP v' : Value} {ls : List Mi} {ps : List Int} (h : PlI w0 w vL vP ls ps) (ms : List Mi) (ho : w'.ownsRow w0.heap.size 215 3 v' (ls.length + ms.length) (mis ls ++ mis ms)) (hg : w.grownBy w' vL.ownBlock) : PlI w0 w' v' vP (ls ++ ms) ps :=
 ⟨by rw [zpf, List.length_append]; exact ho, (Row.apart (zac h.p) (zac h.l) ty_ne hg).1, h.b.grown hg h.z (fun q hq => (h.l.lt q hq).1), Nat.le_trans h.z hg.size⟩
theorem PlI.growP {w0 w w' : World} {vL vP v' : Value} {ls : List Mi} {ps : List Int} (h : PlI w0 w vL vP ls ps) (ks : List Int) (ho : w'.ownsRow w0.heap.size 3 1 v' (ps.length + ks.length) (zco ps ++ zco ks)) (hg : w.grownBy w' vP.ownBlock) : PlI w0 w' vL v' ls (ps ++ ks) :=
 ⟨(Row.apart (zac h.l) (zac h.p) (Ne.symm ty_ne) hg).1, by rw [List.length_append, show zco (ps ++ ks) = zco ps ++ zco ks by simp [zco]]; exact ho, h.b.grown hg h.z (fun q hq => (h.p.lt q hq).1), Nat.le_trans h.z hg.size⟩
theorem zdk {w w' : World} (h : Below w.drew.heap.size w.drew w') : Below w.heap.size w w' := zab ((Below.refl w.heap.size w).drew) h (Nat.le_refl _)
theorem zjx (w1 : World) (x : Int) : RdI (w1.alloc (.cells #[.int .i64 x] 3)) (.slice (some ⟨w1.heap.size, 0, none⟩) 1 1) [x] := by
 refine ⟨rfl, _, _, rfl, ⟨Nat.le_refl _, fun e => by cases e⟩, fun _ => ⟨w1.heap.size, 0, rfl, by simp, fun j hj => ?_⟩⟩
 obtain rfl : j = 0 := by simp at hj; omega
 have e := zag (w := w1) (o := .cells #[.int .i64 x] 3) rfl
 unfold World.cell?
 simp only [e]
 rfl
theorem zlb (m : Mi) : mis [m] = m.cells := by simp [mis]

set_option maxRecDepth 100000 in
set_option maxHeartbeats 4000000 in
theorem zuo (v : Value) (us : List Se) (w : World) (h : RdE w v us) (hn : us.length ≤ 64) (hz0 : ∀ k (h : k < us.length), 0 ≤ us[k].at_ ∧ us[k].at_ < 336) :
  Calls Tryz.prog 223 #[v] w fun e w' => ∃ v', e = .returned v' ∧ Row w' 215 3 w.heap.size w'.heap.size v' (zhn (zdn us)).length (mis (zhn (zdn us))) ∧ Below w.heap.size w w' := by
 obtain ⟨aZ, cZ, rfl, _, hcZ⟩ := h.shape
 have HZ := zaa hcZ
 have Z0 := zaa hz0
 clear h hcZ hz0
 have START : Hid (PlI w ((w.alloc (.cells #[] 215)).alloc (.cells #[] 3)) (.slice (some ⟨w.heap.size, 0, none⟩) 0 0) (.slice (some ⟨w.heap.size + 1, 0, none⟩) 0 0) [] []) := by
  refine ⟨?_, ?_, ((Below.refl w.heap.size w).alloc (Nat.le_refl _) _).alloc (by simp) _, by simp <;> omega⟩
  ·exact ((znb w 215 3).alloc (Nat.le_refl _) _).1
  ·simpa [zco] using World.ownsRow_lit (base := w.heap.size) (e := 3) (size := 1) (w.alloc (.cells #[] 215)) #[] 0 (by simp) (by simp) (by simp)
 go_enter Tryz.func223, Tryz.ntmps223
 go_wp2
 go_loopw [3, 4, 5] (fun vL vP i wr => ∃ m : Nat, m ≤ us.length ∧ i = .int .i64 m ∧ Hid (PlI w wr vL vP (apM us m) (apP us m)) ∧ w.heap.size ≤ wr.heap.size) (fun _ _ i _ => us.length - (intOf i).toNat)
 case atStart => exact ⟨0, by omega, rfl, by simpa [apM, apP] using START, by simp <;> omega⟩
 case round =>
  obtain ⟨m, hm, rfl, J, hz⟩ := hrel
  by_cases hlt : m < us.length
  ·obtain ⟨b, o, rfl, hbl, hcell⟩ := HZ.out (by omega)
   have C0 := (J.out.b.cell (p := ⟨b, o + m * 2, none⟩) hbl).trans (hcell m hlt).1
   have C1 := (J.out.b.cell (p := ⟨b, o + m * 2 + 1, none⟩) hbl).trans (hcell m hlt).2
   have EM := zaa (apM_succ us m hlt)
   have EP := zaa (apP_succ us m hlt)
   have l1 := apM_len us m
   have l2 := apP_len us m
   have hbr : b < wr.heap.size := by omega
   have DW := zaa (hcell m hlt)
   clear hcell
   have m0 : (0 : Int) ≤ (m : Int) := by omega
   have m1 : (m : Int) < (us.length : Int) := by omega
   generalize us[m].at_ = x at *
   generalize us[m].val = y at *
   go_wp2_with fail
   go_region_held3 (fun w' => w'.cell? ⟨b, o + m * 2, none⟩ = some (.int .i64 x) ∧ w'.cell? ⟨b, o + m * 2 + 1, none⟩ = some (.int .i64 y)) (first | exact ⟨C0, C1⟩ | exact ⟨s0, s1⟩ | exact ⟨r0, r1⟩ | exact ⟨q0, q1⟩)
    (first
     | (go_at_call 186; refine (zcp _ _ _).mono ?_; rintro e w1 ⟨rfl, hb1⟩; have hb1' := zdk hb1; have q0 := (hb1'.cell (p := ⟨b, o + m * 2, none⟩) hbr).trans C0; have q1 := (hb1'.cell (p := ⟨b, o + m * 2 + 1, none⟩) hbr).trans C1; have P1 := zaa ((J.out.below hb1').below ((Below.refl _ _).alloc (Nat.le_refl _) (.cells #[.int .i64 1, .int .i64 x, .int .i64 y] 215))); have HRD := zaa (zpn w1 1 x y); have r0 := (P1.out.b.cell (p := ⟨b, o + m * 2, none⟩) hbl).trans DW.out.1; have r1 := (P1.out.b.cell (p := ⟨b, o + m * 2 + 1, none⟩) hbl).trans DW.out.2; have hz1 := P1.out.z; clear hb1 hb1')
     | (refine zam rfl (.tmp 14) (.tmp 26) 121 rfl w.heap.size 215 (.agg #[.int .i64 0, .int .i64 0, .int .i64 0]) 3 24 Tryz.underlying121 zbs rfl (by decide) _ _ _ rfl P1.out.l _ 1 _ rfl HRD.out (zhs _) (by simp [maxLen]; omega) (by omega) hz1 ?_; intro vN wN hownN hgrN; have G := zaa (P1.out.growL [⟨1, x, y⟩] (by rw [zlb]; exact hownN) hgrN); have s0 := (G.out.b.cell (p := ⟨b, o + m * 2, none⟩) hbl).trans DW.out.1; have s1 := (G.out.b.cell (p := ⟨b, o + m * 2 + 1, none⟩) hbl).trans DW.out.2; clear hownN hgrN))
   all_goals
    have hzG := G.out.z
    clear C0 C1 q0 q1 r0 r1 P1 HRD J
    have P2 := zaa (G.out.below ((Below.refl _ _).alloc (Nat.le_refl _) (.cells #[.int .i64 x] 3)))
    have HR2 := zaa (zjx wN x)
    have hz2 := P2.out.z
    clear G
    go_wp2_with (at_builtin; refine zae _ rfl (.tmp 28) (.tmp 34) 28 rfl w.heap.size 3 (.int .i64 0) 1 8 Tryz.underlying28 zjk rfl (by decide) _ _ _ rfl P2.out.p _ 1 _ rfl HR2.out (zev _) (by simp [maxLen]; omega) (by omega) hz2 ?_)
    intro vQ wQ hownQ hgrQ
    have G2 := zaa (P2.out.growP [x] hownQ hgrQ)
    rw [← EM.out, ← EP.out] at G2
    have hz3 := G2.out.z
    clear hownQ hgrQ P2 HR2
    go_wp2
    go_roundw
    case rel => exact ⟨m + 1, by omega, by go_num, G2, hz3⟩
    case measure => simp [intOf]; omega
  ·obtain rfl : m = us.length := by omega
   have PL := zaa (apP_place us us.length Z0.out)
   have l1 := apM_len us us.length
   have l2 := apP_len us us.length
   have EE := zaa (show zhn (zdn us) = apM us us.length ++ zbg (apP us us.length) ++ [⟨1, 8, 0⟩] ++ zbg [8] by
    rw [apM_all, apP_all]; simp [zhn, seg, cnt, stM])
   have l3 := zbr (apP us us.length)
   have l4 := zbr [8]
   simp only [List.length_cons, List.length_nil] at l4
   generalize apM us us.length = A at *
   generalize apP us us.length = B at *
   go_wp2_with fail
   refine (zct _ B _ (zac J.out.p).rd (by omega) PL.out).mono ?_
   rintro e w1 ⟨v1, rfl, hr1, hb1⟩
   have P1 := zaa (J.out.below hb1)
   have R1 := zaa hr1.rd
   have hz1 := P1.out.z
   clear hr1 hb1 J
   go_wp2_with (at_builtin; refine zae _ rfl (.tmp 36) (.tmp 38) 121 rfl w.heap.size 215 (.agg #[.int .i64 0, .int .i64 0, .int .i64 0]) 3 24 Tryz.underlying121 zbs rfl (by decide) _ _ _ rfl P1.out.l _ _ _ rfl R1.out (zcr _) (by simp [maxLen]; omega) (by omega) hz1 ?_)
   intro v2 w2 hown2 hgr2
   have P2 := zaa (P1.out.growL _ hown2 hgr2)
   have hz2 := P2.out.z
   have l5 : (A ++ zbg B).length ≤ 200 := by simp; omega
   generalize A ++ zbg B = C at *
   clear hown2 hgr2 P1 R1
   go_wp2_with fail
   refine (zcp _ _ _).mono ?_
   rintro e w3 ⟨rfl, hb3⟩
   have P3 := zaa ((P2.out.below hb3).below ((Below.refl _ _).alloc (Nat.le_refl _) (.cells #[.int .i64 1, .int .i64 8, .int .i64 0] 215)))
   have R3 := zaa (zpn w3 1 8 0)
   have hz3 := P3.out.z
   clear hb3 P2
   go_wp2_with (at_builtin; refine zae _ rfl (.tmp 40) (.tmp 42) 121 rfl w.heap.size 215 (.agg #[.int .i64 0, .int .i64 0, .int .i64 0]) 3 24 Tryz.underlying121 zbs rfl (by decide) _ _ _ rfl P3.out.l _ 1 _ rfl R3.out (zhs _) (by simp [maxLen]; omega) (by omega) hz3 ?_)
   intro v4 w4 hown4 hgr4
   have P4 := zaa (P3.out.growL [⟨1, 8, 0⟩] (by rw [zlb]; exact hown4) hgr4)
   have l6 : (C ++ [(⟨1, 8, 0⟩ : Mi)]).length ≤ 201 := by simp; omega
   generalize C ++ [(⟨1, 8, 0⟩ : Mi)] = D at *
   have P5 := zaa (P4.out.below ((Below.refl _ _).alloc (Nat.le_refl _) (.cells #[.int .i64 8] 3)))
   have R5 := zaa (zjx w4 8)
   clear hown4 hgr4 P3 R3 P4
   go_wp2_with fail
   refine (zct _ [8] _ R5.out (by simp) (by intro k h; simp at h; subst h; simp)).mono ?_
   rintro e w6 ⟨v6, rfl, hr6, hb6⟩
   have P6 := zaa (P5.out.below hb6)
   have R6 := zaa hr6.rd
   have hz6 := P6.out.z
   clear hr6 hb6 P5 R5
   go_wp2_with (at_builtin; refine zae _ rfl (.tmp 44) (.tmp 46) 121 rfl w.heap.size 215 (.agg #[.int .i64 0, .int .i64 0, .int .i64 0]) 3 24 Tryz.underlying121 zbs rfl (by decide) _ _ _ rfl P6.out.l _ _ _ rfl R6.out (zcr _) (by simp [maxLen]; omega) (by omega) hz6 ?_)
   intro v7 w7 hown7 hgr7
   have P7 := zaa (P6.out.growL _ hown7 hgr7)
   rw [← EE.out] at P7
   obtain ⟨aL, cL, hvL⟩ := RdM.form (zac P7.out.l).rd rfl
   subst hvL
   clear hown7 hgr7 P6 R6
   go_wp2
   go_ret
   exact ⟨_, rfl, zac P7.out.l, P7.out.b⟩
end Go.Proofs.YtbbmljakfbhnpaaGreatDoor

namespace Go.Proofs.YtbbmljakfbhnpaaGreatDoor
open Go.RowKit

/-- The words that an image is read off. -/
theorem zqk {ls ls' : List Int} {ws : List Ino} {ps : List Den} (h : Wi ls ws ps) (hl : ls'.length = 336) (ag : ∀ z : Int, z = 0 ∨ (48 ≤ z ∧ z < 312) → wdI ls' z = wdI ls z) : Wi ls' ws ps := by
 refine ⟨hl, ?_, ?_, ?_, ?_, h.img⟩
 ·rw [ag 0 (.inl rfl)]; exact h.mark
 ·have g := h.good
  unfold zbu at g ⊢
  rw [List.all_eq_true] at g ⊢
  intro k hk
  have q := g k hk
  have := List.mem_range.1 hk
  unfold zbm at q ⊢
  rw [ag _ (.inr (by omega)), ag _ (.inr (by omega)), ag _ (.inr (by omega))]
  exact q
 ·rw [← h.inos]
  unfold zbc
  apply List.map_congr_left
  intro i hi
  have := List.mem_range.1 hi
  unfold zdc
  rw [ag _ (.inr (by omega)), ag _ (.inr (by omega)), ag _ (.inr (by omega)), ag _ (.inr (by omega)), ag _ (.inr (by omega)), ag _ (.inr (by omega)), ag _ (.inr (by omega)), ag _ (.inr (by omega)), ag _ (.inr (by omega)), ag _ (.inr (by omega)), ag _ (.inr (by omega))]
 ·rw [← h.dens]
  unfold zbe
  apply List.map_congr_left
  intro i hi
  have := List.mem_range.1 hi
  unfold zem
  rw [ag _ (.inr (by omega)), ag _ (.inr (by omega)), ag _ (.inr (by omega))]
theorem lay_upd (us : List Se) : ∀ ls : List Int, zck ls (zdn us) = zbx ls us := by
 induction us with
 | nil => intro ls; rfl
 | cons u us ih => intro ls; exact ih _
/-- Words that are laid elsewhere. -/
theorem zwj {z : Int} (hz : 0 ≤ z) : ∀ (S : List St) (ls : List Int), (∀ p ∈ S, 0 ≤ p.at_ ∧ p.at_ < (ls.length : Int) ∧ ¬ p.at_ = z) → wdI (zck ls S) z = wdI ls z := by
 intro S
 induction S with
 | nil => intro ls _; rfl
 | cons p S ih =>
  intro ls h
  show wdI (zck (ls.set p.at_.toNat p.val) S) z = _
  rw [ih _ (fun q hq => by rw [List.length_set]; exact h q (List.mem_cons_of_mem _ hq))]
  obtain ⟨a, b, c⟩ := h p (List.mem_cons_self ..)
  rw [zdo a b hz, if_neg (fun e => c e.symm)]
/-- The words behind a plan. -/
def zna (ls : List Int) (us : List Se) : List Int := if us.length = 0 then ls else zck (zck (zck (zck ls (jrn 0 (zdn us))) (cnt (us.length : Int))) (zdn us)) (cnt 0)
theorem zsy (ls : List Int) (us : List Se) : zmh (ls, []) (zdg (zdn us)) = (zna ls us, []) := by
 unfold zdg zna zhn
 rw [zce]
 by_cases h : us.length = 0
 ·rw [if_pos h, if_pos h]; rfl
 ·rw [if_neg h, if_neg h, zdd, zdd, zdd, zht, zht, zht, zht]
theorem planW_len (ls : List Int) (us : List Se) : (zna ls us).length = ls.length := by
 unfold zna
 split
 ·rfl
 ·rw [zcf, zcf, zcf, zcf]
theorem planW_at {ls : List Int} {us : List Se} (hl : ls.length = 336) (h16 : us.length ≤ 16) (ui : UpIn us) {z : Int} (hz : z = 0 ∨ (48 ≤ z ∧ z < 336)) : wdI (zna ls us) z = wdI (zbx ls us) z := by
 have hz0 : 0 ≤ z := by omega
 unfold zna
 by_cases h : us.length = 0
 ·rw [if_pos h, List.eq_nil_of_length_eq_zero h]; rfl
 ·rw [if_neg h, zwj hz0 (cnt 0) _ (fun p hp => by
   rw [List.mem_singleton.1 hp, zcf, zcf, zcf, hl]
   exact ⟨by show (0 : Int) ≤ 8; omega, by show (8 : Int) < 336; omega, by show ¬ (8 : Int) = z; omega⟩), lay_upd]
  have same : ∀ (us : List Se) (a b : List Int), a.length = 336 → b.length = 336 → UpIn us → wdI a z = wdI b z → wdI (zbx a us) z = wdI (zbx b us) z := by
   intro us
   induction us with
   | nil => intro a b _ _ _ e; exact e
   | cons u us ih =>
    intro a b ha hb ui e
    have q := ui u (List.mem_cons_self ..)
    refine ih _ _ (by rw [List.length_set]; exact ha) (by rw [List.length_set]; exact hb) (fun v hv => ui v (List.mem_cons_of_mem _ hv)) ?_
    rw [zdo (by omega) (by omega) hz0, zdo (by omega) (by omega) hz0, e]
  refine same us _ _ (by rw [zcf, zcf]; exact hl) hl ui ?_
  rw [zwj hz0 (cnt (us.length : Int)) _ (fun p hp => by
   rw [List.mem_singleton.1 hp, zcf, hl]
   exact ⟨by show (0 : Int) ≤ 8; omega, by show (8 : Int) < 336; omega, by show ¬ (8 : Int) = z; omega⟩)]
  rw [zwj hz0 (jrn 0 (zdn us)) _ (fun p hp => by
   have := jrn_at (zdn us) 0 p hp
   rw [zce] at this
   rw [hl]
   exact ⟨by omega, by omega, by omega⟩)]
theorem znh {ls : List Int} {us : List Se} (hl : ls.length = 336) (c : wdI ls 8 = 0) : wdI (zna ls us) 8 = 0 := by
 unfold zna
 by_cases h : us.length = 0
 ·rw [if_pos h]; exact c
 ·rw [if_neg h]
  show wdI ((zck (zck (zck ls (jrn 0 (zdn us))) (cnt (us.length : Int))) (zdn us)).set (8 : Int).toNat 0) 8 = 0
  rw [zdo (by omega) (by rw [zcf, zcf, zcf, hl]; omega) (by omega), if_pos rfl]
/-- Behind a plan the words say what the updates say. -/
theorem wi_plan {ls : List Int} {us : List Se} {ws : List Ino} {ps : List Den} (hl : ls.length = 336) (h16 : us.length ≤ 16) (ui : UpIn us) (h : Wi (zbx ls us) ws ps) : Wi (zna ls us) ws ps :=
 zqk h (by rw [planW_len]; exact hl) (fun z hz => planW_at hl h16 ui (by omega))
end Go.Proofs.YtbbmljakfbhnpaaGreatDoor

namespace Go.Proofs.YtbbmljakfbhnpaaGreatDoor
open Go.RowKit

/-- A word as it is loaded. -/
def ldW (ws : List Int) (ps : List St) (k : Nat) : Int := zjo (k : Int) (ws[k]?.getD 0) ps
theorem ldW_at {ws : List Int} {ps : List St} {k : Nat} (h : k < ws.length) : ldW ws ps k = zjo (k : Int) ws[k] ps := by unfold ldW; simp [h]
end Go.Proofs.YtbbmljakfbhnpaaGreatDoor

namespace Go.Proofs.YtbbmljakfbhnpaaGreatDoor
open Go.RowKit

/-- What a page has; one that is nowhere has 0. -/
def pgV (ws : List Int) (ps : List St) (es : List Int) (qs : List Se) (e : Int) : Int := if e % 4 = 1 then ldW ws ps (312 + e / 4).toNat else if e % 4 = 2 then zku (e / 4) (es[(e / 4).toNat]?.getD 0) qs else 0
/-- The file of a path. -/
def flI (ns : List Ino) (ds : List Den) (s : ByteArray) : Int × Int := if (lkI ns ds s).2 = 0 then (if zak ns (lkI ns ds s).1 = 1 then ((lkI ns ds s).1, 0) else (0, 9)) else (0, (lkI ns ds s).2)
/-- Of the inode of a number the size, and a page. -/
def zdi (ns : List Ino) (z : Int) : Int := (zal ns z.toNat).size
def zlz (ns : List Ino) (z : Int) (p : Int) : Int := (zal ns z.toNat).map.getD p.toNat 0
/-- A page is read. -/
def rpF (ws : List Int) (ps : List St) (es : List Int) (qs : List Se) (ns : List Ino) (i page : Int) : Int × Int := if 0 ≤ page ∧ page < zdi ns i then (pgV ws ps es qs (zlz ns i page), 0) else (0, 4)
def rpI (ws : List Int) (ps : List St) (es : List Int) (qs : List Se) (ns : List Ino) (ds : List Den) (s : ByteArray) (page : Int) : Int × Int := if (flI ns ds s).2 = 0 then rpF ws ps es qs ns (flI ns ds s).1 page else (0, (flI ns ds s).2)
/-- The first free page, the first free sector; -1 without one. -/
def fpI (ns : List Ino) : Int := zbv (fun i => !zho (zby (zap ns) 1) (i : Int)) 24
def fsI (ns : List Ino) : Int := zbv (fun i => !zho (zby (zap ns) 2) (i : Int)) 32
/-- A page is put where nothing is; then the file has it. -/
def wrS (ns : List Ino) (x : Int) : List Mi := if 0 ≤ fpI ns then ⟨1, 312 + fpI ns, x⟩ :: zbg [312 + fpI ns] else [⟨4, fsI ns, x⟩, ⟨5, 0, 0⟩]
def wrE (ns : List Ino) : Int := if 0 ≤ fpI ns then 4 * fpI ns + 1 else 4 * fsI ns + 2
def wrU (i page size e : Int) : List Se := ⟨48 + 12 * i + (3 + page), e⟩ :: (if size ≤ page then [⟨48 + 12 * i + 1, page + 1⟩] else [])
def wrF (ns : List Ino) (i page x : Int) : List Mi × Int := if (0 ≤ page ∧ page < 8) ∧ zbb x = true then (if fpI ns < 0 ∧ fsI ns < 0 then ([], 7) else (wrS ns x ++ zdg (zdn (wrU i page (zdi ns i) (wrE ns))), 0)) else ([], 4)
def wrI (ns : List Ino) (ds : List Den) (s : ByteArray) (page x : Int) : List Mi × Int := if (flI ns ds s).2 = 0 then wrF ns (flI ns ds s).1 page x else ([], (flI ns ds s).2)
/-- A file is cut: its size, and the pages that go, up to the k-th. -/
def cuT (zs : List Int) (i : Int) (n k : Nat) : List Se := ((List.range k).filter fun j => decide (n ≤ j) && !(zs.getD j 0 == 0)).map fun (j : Nat) => ⟨48 + 12 * i + (3 + (j : Int)), 0⟩
def cuU (zs : List Int) (i : Int) (n k : Nat) : List Se := ⟨48 + 12 * i + 1, (n : Int)⟩ :: cuT zs i n k
def cuF (ns : List Ino) (i size : Int) : List Se × Int := if 0 ≤ size ∧ size ≤ 8 then (cuU (zal ns i.toNat).map i size.toNat 8, 0) else ([], 4)
def cuI (ns : List Ino) (ds : List Den) (s : ByteArray) (size : Int) : List Se × Int := if (flI ns ds s).2 = 0 then cuF ns (flI ns ds s).1 size else ([], (flI ns ds s).2)
theorem cuT_yes {zs : List Int} {i : Int} {n k : Nat} (h : n ≤ k) (e : ¬ zs.getD k 0 = 0) : cuT zs i n (k + 1) = cuT zs i n k ++ [⟨48 + 12 * i + (3 + (k : Int)), 0⟩] := by
 unfold cuT
 rw [List.range_succ, List.filter_append, List.map_append]
 congr 1
 rw [List.filter_cons_of_pos (by rw [decide_eq_true h]; simpa using e)]
 rfl
theorem cuT_no {zs : List Int} {i : Int} {n k : Nat} (e : zs.getD k 0 = 0) : cuT zs i n (k + 1) = cuT zs i n k := by
 unfold cuT
 rw [List.range_succ, List.filter_append, List.map_append, List.filter_cons_of_neg (by rw [e]; simp)]
 simp
theorem cuT_start (zs : List Int) (i : Int) (n : Nat) : cuT zs i n n = [] := by
 unfold cuT
 rw [List.filter_eq_nil_iff.2 (fun j hj => by have := List.mem_range.1 hj; simp; omega)]
 rfl
theorem zvn (zs : List Int) (i : Int) (n k : Nat) : (cuT zs i n k).length ≤ k := by
 unfold cuT
 rw [List.length_map]
 refine Nat.le_trans (List.length_filter_le _ _) ?_
 rw [List.length_range]
 exact Nat.le_refl _
theorem cuT_in {zs : List Int} {i n k : Nat} (hi : i < 16) (hk : k ≤ 8) : UpIn (cuT zs (i : Int) n k) := fun u hu => by
 unfold cuT at hu
 obtain ⟨j, hm, rfl⟩ := List.mem_map.1 hu
 have := List.mem_range.1 (List.mem_filter.1 hm).1
 exact ⟨by show 48 ≤ 48 + 12 * (i : Int) + (3 + (j : Int)); omega, by show 48 + 12 * (i : Int) + (3 + (j : Int)) < 312; omega⟩
/-- A file that is told is one. -/
theorem zfn {ns : List Ino} {ds : List Den} {s : ByteArray} (I : Img ns ds) (h : (flI ns ds s).2 = 0) : ∃ i : Nat, i < 16 ∧ (flI ns ds s).1 = (i : Int) ∧ (zal ns i).kind = 1 := by
 unfold flI at h ⊢
 by_cases c : (lkI ns ds s).2 = 0
 ·rw [if_pos c] at h ⊢
  by_cases d : zak ns (lkI ns ds s).1 = 1
  ·rw [if_pos d]
   obtain ⟨i, e, hi, _, k⟩ := zle I c (by rw [d]; omega)
   exact ⟨i, hi, e, k⟩
  ·rw [if_neg d] at h
   simp at h
 ·rw [if_neg c] at h
  exact absurd h c
end Go.Proofs.YtbbmljakfbhnpaaGreatDoor

namespace Go.Proofs.YtbbmljakfbhnpaaGreatDoor
open Go.RowKit

set_option maxRecDepth 100000 in
set_option maxHeartbeats 2000000 in
theorem zfh (v : Value) (ws : List Ino) (ps : List Den) (w : World) (h : RdIm w v ws ps) (hl : ps.length ≤ 4096) :
  Calls Tryz.prog 227 #[v] w fun e w' => e = .returned (.int .i64 (feI ps)) ∧ Below w.heap.size w w' := by
 obtain ⟨vW, vP, rfl, h1, h2⟩ := h
 obtain ⟨aW, cW, rfl, _, _⟩ := h1.shape
 obtain ⟨aP, cP, rfl, _, hcP⟩ := h2.shape
 have HP := zaa hcP
 clear h1 h2 hcP
 have CA : Hid (∀ w', Below (w.alloc (.cells #[.slice aW ws.length cW, .slice aP ps.length cP] 26)).heap.size (w.alloc (.cells #[.slice aW ws.length cW, .slice aP ps.length cP] 26)) w' → w'.cell? ⟨w.heap.size, 0, none⟩ = some (.slice aW ws.length cW) ∧ w'.cell? ⟨w.heap.size, 1, none⟩ = some (.slice aP ps.length cP)) := fun w' hb => by
  have : w'.heap[w.heap.size]? = some (.cells #[.slice aW ws.length cW, .slice aP ps.length cP] 26 (0, 0)) := (hb.block _ (by simp)).trans (zag rfl)
  exact ⟨(zad this).1, (zad this).2.1⟩
 have BW : Hid (Below w.heap.size w (w.alloc (.cells #[.slice aW ws.length cW, .slice aP ps.length cP] 26))) := (Below.refl _ _).alloc (Nat.le_refl _) _
 obtain ⟨W, hW⟩ : ∃ W, W = w.alloc (.cells #[.slice aW ws.length cW, .slice aP ps.length cP] 26) := ⟨_, rfl⟩
 rw [← hW] at CA BW
 obtain ⟨y0, y1⟩ := CA.out _ (Below.refl _ _)
 have EF := zaa (show feI ps = zbv (fun i => decide (zat ps i < 0)) ps.length from rfl)
 go_enter Tryz.func227, Tryz.ntmps227
 go_wp2
 rw [← hW]
 clear hW
 go_loopw [3] (fun i wr => ∃ k : Nat, k ≤ ps.length ∧ i = .int .i64 k ∧ wr = W ∧ Hid (∀ j, j < k → decide (zat ps j < 0) = false)) (fun i _ => ps.length - (intOf i).toNat)
 case atStart => exact ⟨0, by omega, rfl, rfl, fun j a => absurd a (by omega)⟩
 case round =>
  obtain ⟨k, hk, rfl, rfl, H⟩ := hrel
  have k0 : (0 : Int) ≤ (k : Int) := by omega
  by_cases hlt : k < ps.length
  ·obtain ⟨b, o, rfl, hbl, hcell⟩ := HP.out (by omega)
   have d0 := (BW.out.cell (p := ⟨b, o + k * 3 + 2, none⟩) hbl).trans (hcell k hlt).2.2
   rw [← zdt hlt] at d0
   have k1 : (k : Int) < (ps.length : Int) := by omega
   clear hcell
   by_cases q : zat ps k < 0
   ·have E := zaa (EF.out.trans (zpv (p := fun i => decide (zat ps i < 0)) hlt H.out (decide_eq_true q)))
    clear H
    generalize zat ps k = z at d0 q
    go_wp2
    go_ret
    exact ⟨zcw E.out.symm, BW.out⟩
   ·have H' : Hid (∀ j, j < k + 1 → decide (zat ps j < 0) = false) := fun j a => by
     by_cases e : j = k
     ·subst e; exact decide_eq_false q
     ·exact H.out j (by omega)
    clear H
    generalize zat ps k = z at d0 q
    go_wp2
    go_roundw
    case rel => exact ⟨k + 1, by omega, by go_num, trivial, H'⟩
    case measure => simp [intOf]; omega
  ·have E := zaa (EF.out.trans (zjq (p := fun i => decide (zat ps i < 0)) (n := ps.length) (fun j hj => H.out j (by omega))))
   have k2 : ¬ (k : Int) < (ps.length : Int) := by omega
   clear H
   go_wp2
   go_ret
   exact ⟨zcw E.out.symm, BW.out⟩

end Go.Proofs.YtbbmljakfbhnpaaGreatDoor
