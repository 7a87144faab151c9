/- All paths: mathematics. -/
import Derived.Test.YtmeiionabonhnaaGreatDoorStA
import Derived.Test.YtmeiionabonhnaaGreatDoorZAU
namespace Go.Proofs.YtmeiionabonhnaaGreatDoor
open Go.RowKit
def dep (ps : List Den) : Nat → Int → Prop
  | 0, d => d = 0
  | k + 1, d => ¬ d = 0 ∧ dep ps k (upD ps d)
theorem dep_hangs {ps : List Den} : ∀ (k j : Nat) (d : Int), dep ps k d → hangs ps j d = true → k < j
  | _, 0, d, _, h => by rw [hangs_none] at h; cases h
  | 0, j + 1, _, _, _ => by omega
  | k + 1, j + 1, d, h1, h => by
    have := dep_hangs k j _ h1.2 (hang_step h h1.1).2
    omega
theorem cnt_mono {ds : List Den} {c : Int} {a : Nat} : ∀ (b : Nat), a ≤ b → b ≤ ds.length → cntD ds c a ≤ cntD ds c b
  | 0, h, _ => by
    obtain rfl : a = 0 := by omega
    exact Nat.le_refl _
  | b + 1, h, hb => by
    by_cases q : a = b + 1
    · subst q; exact Nat.le_refl _
    · have := cnt_mono (ds := ds) (c := c) (a := a) b (by omega) (by omega)
      rw [cntD_succ (by omega)]
      omega
theorem cnt_hit {ds : List Den} {c : Int} {k : Nat} (h : k < ds.length) (e : ds[k].child = c) : cntD ds c (k + 1) = cntD ds c k + 1 := by
  rw [cntD_succ h, if_pos (beq_iff_eq.2 e)]
theorem dir_cnt1 {ws : List Ino} {ps : List Den} (h : imgB ws ps = true) {c : Int} (hc : 1 ≤ c ∧ c ≤ 15) (hk : kindAt ws c = 2) : cntD ps c ps.length = 1 := by
  obtain ⟨hl, _, _, hN, _, hL, _⟩ := pimg_all h
  obtain ⟨n, rfl⟩ : ∃ n : Nat, c = (n : Int) := ⟨c.toNat, by omega⟩
  have hn : n < ws.length := by omega
  have a := (of_decide_eq_true hL : ∀ i (h : i < ws.length), linkB ps i ws[i] = true) n hn
  have b := (of_decide_eq_true hN : ∀ k (h : k < ws.length), inoB ws[k] = true) n hn
  rw [kindAt_of hn] at hk
  unfold linkB at a
  unfold inoB kindB at b
  rw [if_neg (show ¬ ws[n].kind = 0 by omega), if_pos hk] at b
  simp only [Bool.and_eq_true, decide_eq_true_eq, beq_iff_eq] at a b
  have e1 := a.1
  have e2 := b.2.2.2.2.2
  rw [if_neg (show ¬ n = 0 by omega)] at e1
  omega
theorem one_lt {ws : List Ino} {ps : List Den} (h : imgB ws ps = true) {i k : Nat} (hik : i < k) (hk : k < ps.length) {c : Int} (hc : 1 ≤ c ∧ c ≤ 15) (q : kindAt ws c = 2) (ei : ps[i].child = c) (ek : ps[k].child = c) : False := by
  have a := dir_cnt1 h hc q
  have b := cnt_hit (show i < ps.length by omega) ei
  have d := cnt_hit hk ek
  have e := cnt_mono (ds := ps) (c := c) (a := i + 1) k (by omega) (by omega)
  have f := cnt_mono (ds := ps) (c := c) (a := k + 1) ps.length (by omega) (Nat.le_refl _)
  omega
theorem up_of1 {ws : List Ino} {ps : List Den} (h : imgB ws ps = true) {k : Nat} (hk : k < ps.length) (hc : 1 ≤ ps[k].child ∧ ps[k].child ≤ 15) (q : kindAt ws ps[k].child = 2) : upD ps ps[k].child = ps[k].dir :=
  upD_yes hk (fun _ _ hjk e => one_lt h hjk hk hc q e rfl) rfl
theorem dep_down {ws : List Ino} {ps : List Den} (h : imgB ws ps = true) {n k : Nat} (hk : k < ps.length) (hc : 1 ≤ ps[k].child ∧ ps[k].child ≤ 15) (q : kindAt ws ps[k].child = 2) (hd : dep ps n ps[k].dir) : dep ps (n + 1) ps[k].child :=
  ⟨by omega, by rw [up_of1 h hk hc q]; exact hd⟩
theorem dep_small {ws : List Ino} {ps : List Den} (h : imgB ws ps = true) {n : Nat} {d : Int} (h0 : 0 ≤ d ∧ d ≤ 15) (q : kindAt ws d = 2) (hd : dep ps n d) : n < 16 := dep_hangs n 16 d hd (pimg_hangs h h0 q)
def childOf (ps : List Den) (d : Int) (nm : ByteArray) : Int := match entAt ps d nm with | none => 0 | some k => childAt ps k
def pthN (ws : List Ino) (ps : List Den) : Nat → Int → ByteArray → List ByteArray
  | 0, _, _ => []
  | n + 1, d, hd => (sorted (namesD ps d)).flatMap fun nm => (hd ++ ⟨#[47]⟩ ++ nm) :: (if kindAt ws (childOf ps d nm) = 2 then pthN ws ps n (childOf ps d nm) (hd ++ ⟨#[47]⟩ ++ nm) else [])
def pthR (rs : List Den) : Nat → Int → ByteArray → List ByteArray
  | 0, _, _ => []
  | n + 1, d, hd => (rs.filter fun x => x.dir == d).flatMap fun x => (hd ++ ⟨#[47]⟩ ++ x.name) :: pthR rs n x.child (hd ++ ⟨#[47]⟩ ++ x.name)
theorem pthR_none {rs : List Den} {d : Int} (h : ∀ x ∈ rs, ¬ x.dir = d) (n : Nat) (hd : ByteArray) : pthR rs n d hd = [] := by
  cases n with
  | zero => rfl
  | succ n =>
    unfold pthR
    rw [List.filter_eq_nil_iff.2 (fun x hx => by simp [h x hx])]
    rfl
theorem ent_lt {ws : List Ino} {ps : List Den} (h : imgB ws ps = true) {d : Int} {nm : ByteArray} {i k : Nat} (hik : i < k) (hk : k < ps.length) (e1 : entHit d nm ps[i] = true) (e2 : entHit d nm ps[k] = true) : False := by
  obtain ⟨_, _, _, _, he, _, _⟩ := pimg_all h
  have e := (of_decide_eq_true he : ∀ i (h : i < ps.length), entOne ws ps i ps[i] = true) k hk
  unfold entHit at e1 e2
  simp only [Bool.and_eq_true, decide_eq_true_eq, beq_iff_eq] at e1 e2
  unfold entOne at e
  rw [if_neg (by omega)] at e
  simp only [Bool.and_eq_true, List.all_eq_true] at e
  have c := e.2.2.2.2.2 ps[i] (List.mem_take_iff_getElem.2 ⟨i, by omega, rfl⟩)
  unfold clashB at c
  rw [e1.2.1, e1.2.2, e2.2.1, e2.2.2, decide_eq_true e1.1] at c
  simp at c
theorem childOf_at {ws : List Ino} {ps : List Den} (h : imgB ws ps = true) {k : Nat} (hk : k < ps.length) (hc : 0 ≤ ps[k].child) : childOf ps ps[k].dir ps[k].name = ps[k].child := by
  have e : entHit ps[k].dir ps[k].name ps[k] = true := by unfold entHit; rw [decide_eq_true hc]; simp
  have a : entAt ps ps[k].dir ps[k].name = some k := ent_yes hk (fun j hj hjk => by
    cases q : entHit ps[k].dir ps[k].name ps[j] with
    | false => rfl
    | true => exact (ent_lt h hjk hk q e).elim) e
  unfold childOf
  rw [a]
  exact childAt_of hk
theorem flat_same {α β γ : Type} {f : α → β} {g : β → List γ} {F : α → List γ} : ∀ (l : List α), (∀ x ∈ l, F x = g (f x)) → l.flatMap F = (l.map f).flatMap g
  | [], _ => rfl
  | x :: l, h => by
    rw [List.flatMap_cons, List.map_cons, List.flatMap_cons, h x List.mem_cons_self, flat_same l fun y hy => h y (List.mem_cons_of_mem _ hy)]
theorem pth_same {ws : List Ino} {ps rs : List Den} (h : imgB ws ps = true) (hm : ∀ x ∈ rs, ∃ (k : Nat) (hk : k < ps.length), ps[k] = x ∧ 0 ≤ x.child) (hN : ∀ d, (rs.filter fun x => x.dir == d).map Den.name = sorted (namesD ps d)) : ∀ (n : Nat) (d : Int) (hd : ByteArray), pthR rs n d hd = pthN ws ps n d hd
  | 0, _, _ => rfl
  | n + 1, d, hd => by
    unfold pthR pthN
    rw [← hN d]
    refine flat_same _ fun x hx => ?_
    rw [List.mem_filter, beq_iff_eq] at hx
    obtain ⟨k, hk, rfl, hc⟩ := hm x hx.1
    have e := childOf_at h hk hc
    rw [hx.2] at e
    rw [e]
    by_cases q : kindAt ws ps[k].child = 2
    · rw [if_pos q, pth_same h hm hN n]
    · rw [if_neg q, pthR_none]
      intro y hy ey
      obtain ⟨j, hj, rfl, hcj⟩ := hm y hy
      rcases pimg_ent h j hj with r | r
      · omega
      · rw [ey] at r
        exact q r.2.2.2.2
end Go.Proofs.YtmeiionabonhnaaGreatDoor
