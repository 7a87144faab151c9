/- Several texts laid together: PeD, PeE, PhM, TpA. -/
import Derived.Test.YtmeiionabonhnaaGreatDoorZBL
import Derived.Test.YtmeiionabonhnaaGreatDoorStN
import Derived.Test.YtmeiionabonhnaaGreatDoorZAX
import Derived.Test.YtmeiionabonhnaaGreatDoorZAW
namespace Go.Proofs.YtmeiionabonhnaaGreatDoor
open Go.RowKit
theorem dep_one {ps : List Den} : ∀ (a b : Nat) (d : Int), dep ps a d → dep ps b d → a = b
  | 0, 0, _, _, _ => rfl
  | 0, _ + 1, _, h, h' => absurd h h'.1
  | _ + 1, 0, _, h, h' => absurd h' h.1
  | a + 1, b + 1, _, h, h' => by rw [dep_one a b _ h.2 h'.2]
def upI (ps : List Den) : Nat → Int → Int
  | 0, d => d
  | i + 1, d => upD ps (upI ps i d)
def visR (rs : List Den) : Nat → Int → List Den
  | 0, _ => []
  | n + 1, d => (rs.filter fun x => x.dir == d).flatMap fun x => x :: visR rs n x.child
theorem vis_len (rs : List Den) : ∀ (n : Nat) (d : Int) (hd : ByteArray), (pthR rs n d hd).length = (visR rs n d).length
  | 0, _, _ => rfl
  | n + 1, d, hd => by
    unfold pthR visR
    rw [List.length_flatMap, List.length_flatMap]
    congr 1
    apply List.map_congr_left
    intro x _
    rw [List.length_cons, List.length_cons, vis_len rs n]
theorem vis_mem {rs : List Den} {n : Nat} {d : Int} {z : Den} (h : z ∈ visR rs (n + 1) d) : ∃ x, x ∈ rs ∧ x.dir = d ∧ (z = x ∨ z ∈ visR rs n x.child) := by
  unfold visR at h
  rw [List.mem_flatMap] at h
  obtain ⟨x, hx, hz⟩ := h
  rw [List.mem_filter, beq_iff_eq] at hx
  exact ⟨x, hx.1, hx.2, List.mem_cons.1 hz⟩
def EntsOf (ps rs : List Den) : Prop := ∀ x ∈ rs, ∃ (k : Nat) (hk : k < ps.length), ps[k] = x ∧ 0 ≤ x.child
theorem ent_dir {ws : List Ino} {ps rs : List Den} (h : imgB ws ps = true) (hm : EntsOf ps rs) {x : Den} (hx : x ∈ rs) : (1 ≤ x.child ∧ x.child ≤ 15) ∧ (0 ≤ x.dir ∧ x.dir ≤ 15) ∧ kindAt ws x.dir = 2 := by
  obtain ⟨k, hk, rfl, hc⟩ := hm x hx
  rcases pimg_ent h k hk with r | r
  · omega
  · exact ⟨r.1, r.2.1, r.2.2.2.2⟩
theorem vis_dir {ws : List Ino} {ps rs : List Den} (h : imgB ws ps = true) (hm : EntsOf ps rs) {n : Nat} {d : Int} {z : Den} (hz : z ∈ visR rs n d) : kindAt ws d = 2 := by
  cases n with
  | zero => cases hz
  | succ n =>
    obtain ⟨x, hx, e, _⟩ := vis_mem hz
    rw [← e]
    exact (ent_dir h hm hx).2.2
theorem vis_in {ws : List Ino} {ps rs : List Den} (h : imgB ws ps = true) (hm : EntsOf ps rs) : ∀ (n k : Nat) (d : Int), dep ps k d → ∀ z ∈ visR rs n d, z ∈ rs ∧ ∃ i, dep ps (k + i) z.dir ∧ upI ps i z.dir = d
  | 0, _, _, _, z, hz => by cases hz
  | n + 1, k, d, hd, z, hz => by
    obtain ⟨x, hx, e, r⟩ := vis_mem hz
    rcases r with rfl | r
    · exact ⟨hx, 0, by rw [e]; exact hd, e⟩
    · have q := vis_dir h hm r
      have c := ent_dir h hm hx
      obtain ⟨j, hj, rfl, _⟩ := hm x hx
      have hd2 : dep ps (k + 1) ps[j].child := dep_down h hj c.1 q (by rw [e]; exact hd)
      obtain ⟨a, i, b1, b2⟩ := vis_in h hm n (k + 1) _ hd2 z r
      refine ⟨a, i + 1, ?_, ?_⟩
      · rw [show k + (i + 1) = k + 1 + i by omega]; exact b1
      · unfold upI
        rw [b2, up_of1 h hj c.1 q, e]
theorem vis_nodup {ws : List Ino} {ps rs : List Den} (h : imgB ws ps = true) (hm : EntsOf ps rs) (hn : rs.Nodup) : ∀ (n k : Nat) (d : Int), dep ps k d → (visR rs n d).Nodup
  | 0, _, _, _ => List.nodup_nil
  | n + 1, k, d, hd => by
    have down : ∀ x ∈ rs, x.dir = d → ∀ z ∈ visR rs n x.child, dep ps (k + 1) x.child ∧ ∃ i, dep ps (k + 1 + i) z.dir ∧ upI ps i z.dir = x.child := by
      intro x hx e z hz
      have q := vis_dir h hm hz
      have c := ent_dir h hm hx
      obtain ⟨j, hj, rfl, _⟩ := hm x hx
      have hd2 : dep ps (k + 1) ps[j].child := dep_down h hj c.1 q (by rw [e]; exact hd)
      exact ⟨hd2, (vis_in h hm n (k + 1) _ hd2 z hz).2⟩
    have apart : ∀ x ∈ rs, x.dir = d → ∀ y ∈ rs, y.dir = d → ¬ y ∈ visR rs n x.child := by
      intro x hx e y hy e' hz
      obtain ⟨_, i, b, _⟩ := down x hx e y hz
      rw [e'] at b
      have := dep_one _ _ _ hd b
      omega
    unfold visR
    refine List.pairwise_flatMap.2 ⟨fun x hx => ?_, ?_⟩
    · rw [List.mem_filter, beq_iff_eq] at hx
      refine List.nodup_cons.2 ⟨apart x hx.1 hx.2 x hx.1 hx.2, ?_⟩
      cases e : visR rs n x.child with
      | nil => exact List.nodup_nil
      | cons z l =>
        rw [← e]
        exact vis_nodup h hm hn n (k + 1) _ (down x hx.1 hx.2 z (by rw [e]; exact List.mem_cons_self)).1
    · have hf : (rs.filter fun x => x.dir == d).Nodup := List.Nodup.sublist List.filter_sublist hn
      refine List.Pairwise.imp_of_mem (fun {x y} hx hy hne => ?_) hf
      rw [List.mem_filter, beq_iff_eq] at hx hy
      intro z hz z' hz' e
      subst e
      rcases List.mem_cons.1 hz with rfl | r
      · rcases List.mem_cons.1 hz' with e | r'
        · exact hne e
        · exact apart y hy.1 hy.2 z hx.1 hx.2 r'
      · rcases List.mem_cons.1 hz' with rfl | r'
        · exact apart x hx.1 hx.2 z hy.1 hy.2 r
        · obtain ⟨_, i, b1, b2⟩ := down x hx.1 hx.2 z r
          obtain ⟨_, j, c1, c2⟩ := down y hy.1 hy.2 z r'
          have := dep_one _ _ _ b1 c1
          obtain rfl : i = j := by omega
          have e := b2.symm.trans c2
          have q := vis_dir h hm r
          have cx := ent_dir h hm hx.1
          obtain ⟨a, ha, rfl, _⟩ := hm x hx.1
          obtain ⟨b, hb, rfl, _⟩ := hm y hy.1
          rcases Nat.lt_trichotomy a b with t | t | t
          · exact one_lt h t hb cx.1 q rfl e.symm
          · subst t; exact hne rfl
          · exact one_lt h t ha cx.1 q e.symm rfl
theorem pth_len {ws : List Ino} {ps rs : List Den} (h : imgB ws ps = true) (hm : EntsOf ps rs) (hn : rs.Nodup) (n k : Nat) (d : Int) (hd : ByteArray) (hk : dep ps k d) : (pthR rs n d hd).length ≤ rs.length := by
  rw [vis_len]
  exact List.Nodup.length_le_of_subset (vis_nodup h hm hn n k d hk) fun z hz => (vis_in h hm n k d hk z hz).1
end Go.Proofs.YtmeiionabonhnaaGreatDoor

namespace Go.Proofs.YtmeiionabonhnaaGreatDoor
open Go.RowKit
theorem taken_ents {ws : List Ino} {ps : List Den} (h : imgB ws ps = true) : EntsOf ps (takenD ps) := by
  intro x hx
  unfold takenD at hx
  rw [List.mem_filter] at hx
  obtain ⟨k, hk, rfl⟩ := List.getElem_of_mem hx.1
  refine ⟨k, hk, rfl, ?_⟩
  rcases pimg_ent h k hk with r | r
  · obtain ⟨_, _, _, _, he, _, _⟩ := pimg_all h
    have e := (of_decide_eq_true he : ∀ i (h : i < ps.length), entOne ws ps i ps[i] = true) k hk
    unfold entOne at e
    rw [if_pos r.1] at e
    rw [e] at hx
    exact absurd hx.2 (by decide)
  · omega
theorem taken_nodup {ws : List Ino} {ps : List Den} (h : imgB ws ps = true) : (takenD ps).Nodup := by
  have hm := taken_ents h
  unfold takenD at hm ⊢
  refine List.pairwise_filter.2 (List.pairwise_iff_getElem.2 fun i j hi hj hij pi pj e => ?_)
  have ci : 0 ≤ ps[i].child := by
    obtain ⟨_, _, _, c⟩ := hm ps[i] (List.mem_filter.2 ⟨List.getElem_mem hi, pi⟩)
    exact c
  refine ent_lt h (d := ps[i].dir) (nm := ps[i].name) hij hj ?_ ?_
  · unfold entHit; rw [decide_eq_true ci]; simp
  · rw [← e]; unfold entHit; rw [decide_eq_true ci]; simp
theorem perm_ents {ps rs ts : List Den} (hp : rs.Perm ts) (h : EntsOf ps ts) : EntsOf ps rs := fun x hx => h x (hp.mem_iff.1 hx)
theorem rows_names {ws : List Ino} {ps rs : List Den} (h : imgB ws ps = true) (hp : rs.Perm (takenD ps)) (hs : rs.Pairwise fun a b => a.name.toList ≤ b.name.toList) (d : Int) : (rs.filter fun x => x.dir == d).map Den.name = sorted (namesD ps d) := by
  refine ord_sorted ?_ ?_
  · unfold Ord
    rw [List.pairwise_map]
    exact List.Pairwise.sublist List.filter_sublist hs
  · rw [← dirN_names (img_ents h) d]
    unfold dirN
    exact (hp.filter _).map _
def rise (ps : List Den) : List Den := (takenD ps).mergeSort fun a b => decide (a.name.toList ≤ b.name.toList)
theorem rise_perm (ps : List Den) : (rise ps).Perm (takenD ps) := List.mergeSort_perm _ _
theorem rise_sorted (ps : List Den) : (rise ps).Pairwise fun a b => a.name.toList ≤ b.name.toList := by
  have := List.pairwise_mergeSort (le := fun a b : Den => decide (a.name.toList ≤ b.name.toList)) (fun a b c h1 h2 => by simp only [decide_eq_true_eq] at *; exact List.le_trans h1 h2) (fun a b => by simp only [Bool.or_eq_true, decide_eq_true_eq]; exact List.le_total _ _) (takenD ps)
  exact List.Pairwise.imp (fun h => by simpa using h) this
theorem paths_same {ws : List Ino} {ps rs : List Den} (h : imgB ws ps = true) (hp : rs.Perm (takenD ps)) (hs : rs.Pairwise fun a b => a.name.toList ≤ b.name.toList) (n : Nat) (d : Int) (hd : ByteArray) : pthR rs n d hd = pthN ws ps n d hd :=
  pth_same h (perm_ents hp (taken_ents h)) (rows_names h hp hs) n d hd
theorem pthN_len {ws : List Ino} {ps : List Den} (h : imgB ws ps = true) (n k : Nat) (d : Int) (hd : ByteArray) (hk : dep ps k d) : (pthN ws ps n d hd).length ≤ 24 := by
  rw [← paths_same h (rise_perm ps) (rise_sorted ps)]
  refine Nat.le_trans (pth_len h (perm_ents (rise_perm ps) (taken_ents h)) ((rise_perm ps).nodup_iff.2 (taken_nodup h)) n k d hd hk) ?_
  rw [(rise_perm ps).length_eq]
  refine Nat.le_trans (List.length_filter_le _ _) ?_
  rw [(pimg_all h).2.1]
  exact Nat.le_refl _
def pthK (ws : List Ino) (ps : List Den) (n : Nat) (d : Int) (hd : ByteArray) (ns : List ByteArray) : List ByteArray := ns.flatMap fun nm => (hd ++ ⟨#[47]⟩ ++ nm) :: (if kindAt ws (childOf ps d nm) = 2 then pthN ws ps n (childOf ps d nm) (hd ++ ⟨#[47]⟩ ++ nm) else [])
theorem pthK_all (ws : List Ino) (ps : List Den) (n : Nat) (d : Int) (hd : ByteArray) : pthN ws ps (n + 1) d hd = pthK ws ps n d hd (sorted (namesD ps d)) := rfl
theorem pthK_zero (ws : List Ino) (ps : List Den) (n : Nat) (d : Int) (hd : ByteArray) (ns : List ByteArray) : pthK ws ps n d hd (ns.take 0) = [] := rfl
theorem pthK_succ (ws : List Ino) (ps : List Den) (n : Nat) (d : Int) (hd : ByteArray) {ns : List ByteArray} {k : Nat} (hk : k < ns.length) : pthK ws ps n d hd (ns.take (k + 1)) = (pthK ws ps n d hd (ns.take k) ++ [hd ++ ⟨#[47]⟩ ++ ns[k]]) ++ (if kindAt ws (childOf ps d ns[k]) = 2 then pthN ws ps n (childOf ps d ns[k]) (hd ++ ⟨#[47]⟩ ++ ns[k]) else []) := by
  unfold pthK
  rw [List.take_succ_eq_append_getElem hk, List.flatMap_append, List.flatMap_cons, List.flatMap_nil, List.append_nil, List.append_assoc]
  rfl
theorem name_ent {ws : List Ino} {ps : List Den} (h : imgB ws ps = true) {d : Int} {nm : ByteArray} (hn : nm ∈ sorted (namesD ps d)) : ∃ (j : Nat) (hj : j < ps.length), entAt ps d nm = some j ∧ ps[j].dir = d ∧ ps[j].name = nm ∧ childOf ps d nm = ps[j].child ∧ 1 ≤ ps[j].child ∧ ps[j].child ≤ 15 := by
  rw [← rows_names h (rise_perm ps) (rise_sorted ps) d, List.mem_map] at hn
  obtain ⟨x, hx, rfl⟩ := hn
  rw [List.mem_filter, beq_iff_eq] at hx
  have hm := perm_ents (rise_perm ps) (taken_ents h)
  have c := ent_dir h hm hx.1
  obtain ⟨j, hj, rfl, h0⟩ := hm x hx.1
  have e : entHit ps[j].dir ps[j].name ps[j] = true := by unfold entHit; rw [decide_eq_true h0]; simp
  have a : entAt ps ps[j].dir ps[j].name = some j := ent_yes hj (fun i hi hij => by
    cases q : entHit ps[j].dir ps[j].name ps[i] with
    | false => rfl
    | true => exact (ent_lt h hij hj q e).elim) e
  obtain ⟨_, rfl⟩ := hx
  exact ⟨j, hj, a, rfl, rfl, childOf_at h hj h0, c.1.1, c.1.2⟩
end Go.Proofs.YtmeiionabonhnaaGreatDoor

namespace Go.Proofs.YtmeiionabonhnaaGreatDoor
open Go.RowKit
def jnP (hd : ByteArray) : List ByteArray → ByteArray
  | [] => hd
  | nm :: t => jnP (hd ++ ⟨#[47]⟩ ++ nm) t
theorem jnP_snoc : ∀ (l : List ByteArray) (hd x : ByteArray), jnP hd (l ++ [x]) = jnP hd l ++ ⟨#[47]⟩ ++ x
  | [], _, _ => rfl
  | _ :: t, _, x => jnP_snoc t _ x
structure EntP (ws : List Ino) (ps : List Den) (m : Nat) (z : Int) (x : ByteArray) (j : Nat) : Prop where
  lt : j < ps.length
  at_ : entAt ps z x = some j
  dir : ps[j].dir = z
  name : ps[j].name = x
  rng : 1 ≤ ps[j].child ∧ ps[j].child ≤ 15
  zr : 0 ≤ z ∧ z ≤ 15
  kind : kindAt ws z = 2
  dep : dep ps m z
  mem : x ∈ sorted (namesD ps z)
theorem pth_mem {ws : List Ino} {ps : List Den} (h : imgB ws ps = true) : ∀ (n m : Nat) (d : Int) (hd s : ByteArray), kindAt ws d = 2 → (0 ≤ d ∧ d ≤ 15) → dep ps m d → s ∈ pthN ws ps n d hd →
    ∃ (xs : List ByteArray) (x : ByteArray) (z : Int) (j : Nat), s = jnP hd (xs ++ [x]) ∧ (∀ y ∈ xs ++ [x], nmB y = true) ∧ wk ws ps d xs = (z, 0) ∧ EntP ws ps (m + xs.length) z x j
  | 0, _, _, _, _, _, _, _, hs => by cases hs
  | n + 1, m, d, hd, s, kd, rd, dd, hs => by
    rw [pthN, List.mem_flatMap] at hs
    obtain ⟨nm, hn, hs⟩ := hs
    obtain ⟨j, hj, ea, ed, en, ec, r1, r2⟩ := name_ent h hn
    have nb : nmB nm = true := by
      rcases pimg_ent h j hj with q | q
      · omega
      · rw [← en]; exact q.2.2.1
    rcases List.mem_cons.1 hs with rfl | hs
    · exact ⟨[], nm, d, j, rfl, fun y hy => by simp at hy; rw [hy]; exact nb, rfl, hj, ea, ed, en, ⟨r1, r2⟩, rd, kd, dd, hn⟩
    · by_cases kc : kindAt ws (childOf ps d nm) = 2
      · rw [if_pos kc] at hs
        rw [ec] at hs kc
        have dd2 : dep ps (m + 1) ps[j].child := dep_down h hj ⟨r1, r2⟩ kc (by rw [ed]; exact dd)
        obtain ⟨xs, x, z, i, e1, e2, e3, e4⟩ := pth_mem h n (m + 1) _ _ s kc (by omega) dd2 hs
        refine ⟨nm :: xs, x, z, i, e1, fun y hy => ?_, ?_, ?_⟩
        · rcases List.mem_cons.1 hy with rfl | hy
          · exact nb
          · exact e2 y hy
        · rw [wk_some kd ea, childAt_of hj]; exact e3
        · rw [List.length_cons, show m + (xs.length + 1) = m + 1 + xs.length by omega]; exact e4
      · rw [if_neg kc] at hs; cases hs
theorem nm_bytes {y : ByteArray} (h : nmB y = true) : (∀ c ∈ y.data.toList, ¬ c = 47) ∧ 0 < y.size := by
  obtain ⟨h1, -, h3⟩ := of_decide_eq_true h
  refine ⟨fun c hc e => ?_, by omega⟩
  obtain ⟨j, hj, rfl⟩ := List.getElem_of_mem hc
  have hj' : j < y.size := by simpa using hj
  have q := (h3 j hj').1
  have e2 : y[j] = 47 := by
    have : y[j] = y.data.toList[j] := rfl
    rw [this]; exact e
  rw [e2] at q
  revert q
  decide
theorem jnP_data : ∀ (l : List ByteArray) (hd : ByteArray), (jnP hd l).data.toList = hd.data.toList ++ l.flatMap (fun y => 47 :: y.data.toList)
  | [], hd => by simp [jnP]
  | nm :: t, hd => by
    rw [jnP, jnP_data t, List.flatMap_cons, ByteArray.data_append, ByteArray.data_append]
    simp
theorem cut_jn : ∀ (l : List ByteArray) (cur : List UInt8), (∀ y ∈ l, ∀ c ∈ y.data.toList, ¬ c = 47) → cutG cur (l.flatMap fun y => 47 :: y.data.toList) = cur :: l.map fun y => y.data.toList
  | [], _, _ => rfl
  | nm :: t, cur, h => by
    rw [List.flatMap_cons, List.cons_append, cutG_cons, if_pos rfl, List.map_cons]
    cases t with
    | nil =>
      rw [List.flatMap_nil, List.append_nil, cutG_none _ _ (h nm List.mem_cons_self)]
      rfl
    | cons n2 t2 =>
      have ih := cut_jn (n2 :: t2) nm.data.toList (fun y hy => h y (List.mem_cons_of_mem _ hy))
      rw [List.flatMap_cons, List.cons_append, cutG_cons, if_pos rfl] at ih
      rw [List.flatMap_cons, List.cons_append, cutG_some _ _ _ (h nm List.mem_cons_self), List.nil_append]
      exact congrArg (cur :: ·) ih
theorem pcs_jn {l : List ByteArray} (h : ∀ y ∈ l, nmB y = true) : pcs (jnP ⟨#[]⟩ l) = mkB [] :: l := by
  unfold pcs
  rw [jnP_data, show (⟨#[]⟩ : ByteArray).data.toList = [] from rfl, List.nil_append, cut_jn l [] (fun y hy => (nm_bytes (h y hy)).1), List.map_cons, List.map_map]
  congr 1
  conv => rhs; rw [← List.map_id l]
  exact List.map_congr_left fun y _ => mkB_of y
theorem wk_snoc {ws : List Ino} {ps : List Den} : ∀ (xs : List ByteArray) (d z : Int) (x : ByteArray), wk ws ps d xs = (z, 0) → wk ws ps d (xs ++ [x]) = wk ws ps z [x]
  | [], d, z, x, h => by rw [wk_nil] at h; cases h; rfl
  | y :: t, d, z, x, h => by
    by_cases kd : kindAt ws d = 2
    · cases e : entAt ps d y with
      | none => rw [wk_none kd e] at h; cases h
      | some k =>
        rw [wk_some kd e] at h
        rw [List.cons_append, wk_some kd e]
        exact wk_snoc t _ z x h
    · rw [wk_nodir kd] at h; cases h
end Go.Proofs.YtmeiionabonhnaaGreatDoor

namespace Go.Proofs.YtmeiionabonhnaaGreatDoor
open Go.RowKit
theorem tp_bytes {a b : ByteArray} (h : a.toList = b.toList) : a = b := by
  rw [Lib.toList_data, Lib.toList_data] at h
  exact ByteArray.ext (Array.toList_inj.1 h)
theorem tp_app (s : ByteArray) : s ++ ⟨#[]⟩ = s := by
  apply ByteArray.ext
  simp
theorem own_ent {ws : List Ino} {ps : List Den} (h : imgB ws ps = true) {j : Nat} (hj : j < ps.length) (h0 : 0 ≤ ps[j].child) : entAt ps ps[j].dir ps[j].name = some j := by
  have e : entHit ps[j].dir ps[j].name ps[j] = true := by unfold entHit; rw [decide_eq_true h0]; simp
  exact ent_yes hj (fun i hi hij => by
    cases q : entHit ps[j].dir ps[j].name ps[i] with
    | false => rfl
    | true => exact (ent_lt h hij hj q e).elim) e
def upE (ts : List Den) (d : Int) : Option Den := ts.find? fun y => y.child == d
def pthU (ts : List Den) : Nat → Den → ByteArray → ByteArray
  | 0, x, acc => ⟨#[47]⟩ ++ x.name ++ acc
  | n + 1, x, acc => match upE ts x.dir with
    | none => ⟨#[47]⟩ ++ x.name ++ acc
    | some y => pthU ts n y (⟨#[47]⟩ ++ x.name ++ acc)
theorem pthU_none {ts : List Den} {x : Den} (e : upE ts x.dir = none) (n : Nat) (acc : ByteArray) : pthU ts n x acc = ⟨#[47]⟩ ++ x.name ++ acc := by
  cases n with
  | zero => rfl
  | succ n => unfold pthU; rw [e]
theorem pthU_some {ts : List Den} {x y : Den} (e : upE ts x.dir = some y) (n : Nat) (acc : ByteArray) : pthU ts (n + 1) x acc = pthU ts n y (⟨#[47]⟩ ++ x.name ++ acc) := by
  rw [pthU, e]
theorem upE_root {ws : List Ino} {ps : List Den} (h : imgB ws ps = true) : upE (takenD ps) 0 = none := by
  unfold upE
  rw [List.find?_eq_none]
  intro x hx e
  have := (ent_dir h (taken_ents h) hx).1
  rw [beq_iff_eq] at e
  omega
theorem taken_in {ps : List Den} {j : Nat} (hj : j < ps.length) (h0 : 0 ≤ ps[j].child) : ps[j] ∈ takenD ps := by
  unfold takenD
  rw [List.mem_filter]
  refine ⟨List.getElem_mem hj, ?_⟩
  unfold Den.freeB
  have : (ps[j].child == -1) = false := by rw [beq_eq_false_iff_ne]; omega
  rw [this]
  simp
theorem upE_dir {ws : List Ino} {ps : List Den} (h : imgB ws ps = true) {i : Nat} (hi : i < ps.length) (hc : 1 ≤ ps[i].child ∧ ps[i].child ≤ 15) (k : kindAt ws ps[i].child = 2) : upE (takenD ps) ps[i].child = some ps[i] := by
  cases e : upE (takenD ps) ps[i].child with
  | none =>
    unfold upE at e
    rw [List.find?_eq_none] at e
    exact absurd (beq_self_eq_true _) (e _ (taken_in hi (by omega)))
  | some y =>
    unfold upE at e
    have m := List.mem_of_find?_eq_some e
    have q := List.find?_some e
    rw [beq_iff_eq] at q
    obtain ⟨a, ha, rfl, -⟩ := taken_ents h y m
    rcases Nat.lt_trichotomy a i with l | rfl | l
    · exact (one_lt h l hi hc k q rfl).elim
    · rfl
    · exact (one_lt h l ha hc k rfl q).elim
theorem wk_unsnoc {ws : List Ino} {ps : List Den} : ∀ (ys : List ByteArray) (d z : Int) (y : ByteArray), wk ws ps d (ys ++ [y]) = (z, 0) → ∃ (z1 : Int) (i : Nat), wk ws ps d ys = (z1, 0) ∧ kindAt ws z1 = 2 ∧ entAt ps z1 y = some i ∧ childAt ps i = z
  | [], d, z, y, h => by
    by_cases k : kindAt ws d = 2
    · cases e : entAt ps d y with
      | none => rw [List.nil_append, wk_none k e] at h; cases h
      | some i =>
        rw [List.nil_append, wk_some k e, wk_nil] at h
        exact ⟨d, i, rfl, k, e, by cases h; rfl⟩
    · rw [List.nil_append, wk_nodir k] at h; cases h
  | x :: t, d, z, y, h => by
    by_cases k : kindAt ws d = 2
    · cases e : entAt ps d x with
      | none => rw [List.cons_append, wk_none k e] at h; cases h
      | some i =>
        rw [List.cons_append, wk_some k e] at h
        obtain ⟨z1, i', a, b, c, f⟩ := wk_unsnoc t _ _ _ h
        exact ⟨z1, i', by rw [wk_some k e]; exact a, b, c, f⟩
    · rw [List.cons_append, wk_nodir k] at h; cases h
theorem ent_is {ps : List Den} {d : Int} {nm : ByteArray} {k : Nat} (e : entAt ps d nm = some k) : ∃ hk : k < ps.length, ps[k].dir = d ∧ ps[k].name = nm ∧ 0 ≤ ps[k].child := by
  obtain ⟨hk, q⟩ := ent_some e
  unfold entHit at q
  simp only [Bool.and_eq_true, decide_eq_true_eq, beq_iff_eq] at q
  exact ⟨hk, q.2.1, tp_bytes q.2.2, q.1⟩
theorem path_up {ws : List Ino} {ps : List Den} (h : imgB ws ps = true) : ∀ (m : Nat) (xs : List ByteArray) (z : Int) (j : Nat) (hj : j < ps.length) (n : Nat) (acc : ByteArray), xs.length = m → dep ps m z → kindAt ws z = 2 → (0 ≤ z ∧ z ≤ 15) → wk ws ps 0 xs = (z, 0) → ps[j].dir = z → m ≤ n →
    pthU (takenD ps) n ps[j] acc = jnP ⟨#[]⟩ (xs ++ [ps[j].name]) ++ acc
  | 0, xs, z, j, hj, n, acc, hl, _, _, _, hw, hz, _ => by
    obtain rfl : xs = [] := List.length_eq_zero_iff.1 hl
    rw [wk_nil] at hw
    obtain rfl : (0 : Int) = z := by cases hw; rfl
    rw [pthU_none (by rw [hz]; exact upE_root h)]
    rw [List.nil_append, jnP, jnP]
    apply ByteArray.ext
    simp
  | m + 1, xs, z, j, hj, n, acc, hl, hd, hk, hr, hw, hz, hn => by
    obtain ⟨ys, y, rfl⟩ : ∃ ys y, xs = ys ++ [y] := by
      rcases List.eq_nil_or_concat xs with e | ⟨a, b, e⟩
      · rw [e] at hl; simp at hl
      · exact ⟨a, b, by rw [e, List.concat_eq_append]⟩
    obtain ⟨n, rfl⟩ : ∃ n', n = n' + 1 := ⟨n - 1, by omega⟩
    obtain ⟨z1, i, a, b, c, e⟩ := wk_unsnoc ys 0 z y hw
    obtain ⟨hi, e1, e2, e3⟩ := ent_is c
    rw [childAt_of hi] at e
    have z0 : ¬ z = 0 := hd.1
    have hc : 1 ≤ ps[i].child ∧ ps[i].child ≤ 15 := by omega
    have kc : kindAt ws ps[i].child = 2 := by rw [e]; exact hk
    have d1 : dep ps m z1 := by
      have q := hd.2
      rw [← e, up_of1 h hi hc kc, e1] at q
      exact q
    have r1 : 0 ≤ z1 ∧ z1 ≤ 15 := by rw [← e1]; exact (ent_dir h (taken_ents h) (taken_in hi e3)).2.1
    rw [pthU_some (y := ps[i]) (by rw [hz, ← e]; exact upE_dir h hi hc kc)]
    rw [path_up h m ys z1 i hi n _ (by simpa using hl) d1 b r1 a e1 (by omega), e2, jnP_snoc (ys ++ [y])]
    apply ByteArray.ext
    simp
theorem dep_ex {ps : List Den} : ∀ (k : Nat) (z : Int), hangs ps k z = true → ∃ m, m < k ∧ dep ps m z
  | 0, z, h => by rw [hangs_none] at h; cases h
  | k + 1, z, h => by
    by_cases e : z = 0
    · exact ⟨0, by omega, e⟩
    · obtain ⟨m, a, b⟩ := dep_ex k _ (hang_step h e).2
      exact ⟨m + 1, by omega, e, b⟩
theorem dir_way {ws : List Ino} {ps : List Den} (h : imgB ws ps = true) : ∀ (m : Nat) (z : Int), dep ps m z → kindAt ws z = 2 → (0 ≤ z ∧ z ≤ 15) → ∃ xs : List ByteArray, xs.length = m ∧ wk ws ps 0 xs = (z, 0) ∧ ∀ y ∈ xs, nmB y = true
  | 0, z, hd, _, _ => ⟨[], rfl, by rw [wk_nil, show z = 0 from hd], fun y hy => by cases hy⟩
  | m + 1, z, hd, hk, hr => by
    have up := (hang_step (pimg_hangs h hr hk) hd.1).1
    obtain ⟨i, hi, ei⟩ : ∃ (i : Nat) (hi : i < ps.length), ps[i].child = z := by
      apply Classical.byContradiction
      intro q
      rw [upD_no (fun j hj e => q ⟨j, hj, e⟩)] at up
      omega
    have z0 : ¬ z = 0 := hd.1
    have hc : 1 ≤ ps[i].child ∧ ps[i].child ≤ 15 := by omega
    have kc : kindAt ws ps[i].child = 2 := by rw [ei]; exact hk
    have d1 : dep ps m ps[i].dir := by
      have q := hd.2
      rw [← ei, up_of1 h hi hc kc] at q
      exact q
    have en := ent_dir h (taken_ents h) (taken_in hi (by omega))
    obtain ⟨xs, a, b, c⟩ := dir_way h m _ d1 en.2.2 en.2.1
    refine ⟨xs ++ [ps[i].name], by simp [a], ?_, fun y hy => ?_⟩
    · rw [wk_snoc xs 0 _ _ b, wk_some en.2.2 (own_ent h hi (by omega)), wk_nil, childAt_of hi, ei]
    · rcases List.mem_append.1 hy with q | q
      · exact c y q
      · rw [List.mem_singleton.1 q]
        rcases pimg_ent h i hi with r | r
        · omega
        · exact r.2.2.1
theorem entry_way {ws : List Ino} {ps : List Den} (h : imgB ws ps = true) {j : Nat} (hj : j < ps.length) (h0 : 0 ≤ ps[j].child) : ∃ xs : List ByteArray, wk ws ps 0 xs = (ps[j].dir, 0) ∧ (∀ y ∈ xs ++ [ps[j].name], nmB y = true) ∧ ∀ acc, pthU (takenD ps) 16 ps[j] acc = jnP ⟨#[]⟩ (xs ++ [ps[j].name]) ++ acc := by
  have en := ent_dir h (taken_ents h) (taken_in hj h0)
  obtain ⟨m, a, b⟩ := dep_ex 16 _ (pimg_hangs h en.2.1 en.2.2)
  obtain ⟨xs, c, d, e⟩ := dir_way h m _ b en.2.2 en.2.1
  refine ⟨xs, d, fun y hy => ?_, fun acc => path_up h m xs _ j hj 16 acc c b en.2.2 en.2.1 d rfl (by omega)⟩
  rcases List.mem_append.1 hy with q | q
  · exact e y q
  · rw [List.mem_singleton.1 q]
    rcases pimg_ent h j hj with r | r
    · omega
    · exact r.2.2.1
theorem path_one {ws : List Ino} {ps : List Den} (h : imgB ws ps = true) {i j : Nat} (hi : i < ps.length) (hj : j < ps.length) (i0 : 0 ≤ ps[i].child) (j0 : 0 ≤ ps[j].child) (e : pthU (takenD ps) 16 ps[i] ⟨#[]⟩ = pthU (takenD ps) 16 ps[j] ⟨#[]⟩) : i = j := by
  obtain ⟨xs, a, b, c⟩ := entry_way h hi i0
  obtain ⟨ys, a', b', c'⟩ := entry_way h hj j0
  rw [c, c', tp_app, tp_app] at e
  have q := congrArg pcs e
  rw [pcs_jn b, pcs_jn b'] at q
  obtain ⟨q1, q2⟩ := List.append_inj' (List.cons.inj q).2 rfl
  have q3 : ps[i].name = ps[j].name := by simpa using q2
  rw [q1] at a
  have q4 : ps[i].dir = ps[j].dir := (Prod.mk.inj (a.symm.trans a')).1
  have r := own_ent h hi i0
  rw [q3, q4, own_ent h hj j0] at r
  cases r
  rfl
theorem path_told {ws : List Ino} {ps : List Den} (h : imgB ws ps = true) {s : ByteArray} (hs : s ∈ pthN ws ps 16 0 ⟨#[]⟩) : ∃ (j : Nat) (hj : j < ps.length), 0 ≤ ps[j].child ∧ pthU (takenD ps) 16 ps[j] ⟨#[]⟩ = s ∧ wk ws ps 0 (pcs s).tail = (ps[j].child, 0) := by
  have k0 : kindAt ws 0 = 2 := (pimg_all h).2.2.1
  obtain ⟨xs, x, z, j, e1, e2, e3, E⟩ := pth_mem h 16 0 0 ⟨#[]⟩ s k0 (by decide) rfl hs
  have hj := E.lt
  have j0 : 0 ≤ ps[j].child := by have := E.rng; omega
  have ds := dep_small h E.zr E.kind E.dep
  refine ⟨j, hj, j0, ?_, ?_⟩
  · rw [path_up h (0 + xs.length) xs z j hj 16 _ (by omega) E.dep E.kind E.zr e3 E.dir (by omega), E.name, tp_app, e1]
  · rw [e1, pcs_jn e2, List.tail_cons, wk_snoc xs 0 _ _ e3, wk_some E.kind E.at_, wk_nil, childAt_of hj]
end Go.Proofs.YtmeiionabonhnaaGreatDoor
