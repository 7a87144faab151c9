/- Several texts laid together: PhM, TpA. -/
import Derived.Test.YtmeiionabonhnaaGreatDoorZAX
import Derived.Test.YtmeiionabonhnaaGreatDoorZAT
namespace Go.Proofs.YtmeiionabonhnaaGreatDoor
open Go.RowKit
def jnP (hd : ByteArray) : List ByteArray → ByteArray
  | [] => hd
  | nm :: t => jnP (hd ++ ⟨#[47]⟩ ++ nm) t
theorem jnP_snoc : ∀ (l : List ByteArray) (hd x : ByteArray), jnP hd (l ++ [x]) = jnP hd l ++ ⟨#[47]⟩ ++ x
  | [], _, _ => rfl
  | _ :: t, _, x => jnP_snoc t _ x
structure EntP (ws : List Ino) (ps : List Den) (m : Nat) (z : Int) (x : ByteArray) (j : Nat) : Prop where
  lt : j < ps.length
  at_ : entAt ps z x = some j
  dir : ps[j].dir = z
  name : ps[j].name = x
  rng : 1 ≤ ps[j].child ∧ ps[j].child ≤ 15
  zr : 0 ≤ z ∧ z ≤ 15
  kind : kindAt ws z = 2
  dep : dep ps m z
  mem : x ∈ sorted (namesD ps z)
theorem pth_mem {ws : List Ino} {ps : List Den} (h : imgB ws ps = true) : ∀ (n m : Nat) (d : Int) (hd s : ByteArray), kindAt ws d = 2 → (0 ≤ d ∧ d ≤ 15) → dep ps m d → s ∈ pthN ws ps n d hd →
    ∃ (xs : List ByteArray) (x : ByteArray) (z : Int) (j : Nat), s = jnP hd (xs ++ [x]) ∧ (∀ y ∈ xs ++ [x], nmB y = true) ∧ wk ws ps d xs = (z, 0) ∧ EntP ws ps (m + xs.length) z x j
  | 0, _, _, _, _, _, _, _, hs => by cases hs
  | n + 1, m, d, hd, s, kd, rd, dd, hs => by
    rw [pthN, List.mem_flatMap] at hs
    obtain ⟨nm, hn, hs⟩ := hs
    obtain ⟨j, hj, ea, ed, en, ec, r1, r2⟩ := name_ent h hn
    have nb : nmB nm = true := by
      rcases pimg_ent h j hj with q | q
      · omega
      · rw [← en]; exact q.2.2.1
    rcases List.mem_cons.1 hs with rfl | hs
    · exact ⟨[], nm, d, j, rfl, fun y hy => by simp at hy; rw [hy]; exact nb, rfl, hj, ea, ed, en, ⟨r1, r2⟩, rd, kd, dd, hn⟩
    · by_cases kc : kindAt ws (childOf ps d nm) = 2
      · rw [if_pos kc] at hs
        rw [ec] at hs kc
        have dd2 : dep ps (m + 1) ps[j].child := dep_down h hj ⟨r1, r2⟩ kc (by rw [ed]; exact dd)
        obtain ⟨xs, x, z, i, e1, e2, e3, e4⟩ := pth_mem h n (m + 1) _ _ s kc (by omega) dd2 hs
        refine ⟨nm :: xs, x, z, i, e1, fun y hy => ?_, ?_, ?_⟩
        · rcases List.mem_cons.1 hy with rfl | hy
          · exact nb
          · exact e2 y hy
        · rw [wk_some kd ea, childAt_of hj]; exact e3
        · rw [List.length_cons, show m + (xs.length + 1) = m + 1 + xs.length by omega]; exact e4
      · rw [if_neg kc] at hs; cases hs
theorem nm_bytes {y : ByteArray} (h : nmB y = true) : (∀ c ∈ y.data.toList, ¬ c = 47) ∧ 0 < y.size := by
  obtain ⟨h1, -, h3⟩ := of_decide_eq_true h
  refine ⟨fun c hc e => ?_, by omega⟩
  obtain ⟨j, hj, rfl⟩ := List.getElem_of_mem hc
  have hj' : j < y.size := by simpa using hj
  have q := (h3 j hj').1
  have e2 : y[j] = 47 := by
    have : y[j] = y.data.toList[j] := rfl
    rw [this]; exact e
  rw [e2] at q
  revert q
  decide
theorem jnP_data : ∀ (l : List ByteArray) (hd : ByteArray), (jnP hd l).data.toList = hd.data.toList ++ l.flatMap (fun y => 47 :: y.data.toList)
  | [], hd => by simp [jnP]
  | nm :: t, hd => by
    rw [jnP, jnP_data t, List.flatMap_cons, ByteArray.data_append, ByteArray.data_append]
    simp
theorem cut_jn : ∀ (l : List ByteArray) (cur : List UInt8), (∀ y ∈ l, ∀ c ∈ y.data.toList, ¬ c = 47) → cutG cur (l.flatMap fun y => 47 :: y.data.toList) = cur :: l.map fun y => y.data.toList
  | [], _, _ => rfl
  | nm :: t, cur, h => by
    rw [List.flatMap_cons, List.cons_append, cutG_cons, if_pos rfl, List.map_cons]
    cases t with
    | nil =>
      rw [List.flatMap_nil, List.append_nil, cutG_none _ _ (h nm List.mem_cons_self)]
      rfl
    | cons n2 t2 =>
      have ih := cut_jn (n2 :: t2) nm.data.toList (fun y hy => h y (List.mem_cons_of_mem _ hy))
      rw [List.flatMap_cons, List.cons_append, cutG_cons, if_pos rfl] at ih
      rw [List.flatMap_cons, List.cons_append, cutG_some _ _ _ (h nm List.mem_cons_self), List.nil_append]
      exact congrArg (cur :: ·) ih
theorem pcs_jn {l : List ByteArray} (h : ∀ y ∈ l, nmB y = true) : pcs (jnP ⟨#[]⟩ l) = mkB [] :: l := by
  unfold pcs
  rw [jnP_data, show (⟨#[]⟩ : ByteArray).data.toList = [] from rfl, List.nil_append, cut_jn l [] (fun y hy => (nm_bytes (h y hy)).1), List.map_cons, List.map_map]
  congr 1
  conv => rhs; rw [← List.map_id l]
  exact List.map_congr_left fun y _ => mkB_of y
theorem wk_snoc {ws : List Ino} {ps : List Den} : ∀ (xs : List ByteArray) (d z : Int) (x : ByteArray), wk ws ps d xs = (z, 0) → wk ws ps d (xs ++ [x]) = wk ws ps z [x]
  | [], d, z, x, h => by rw [wk_nil] at h; cases h; rfl
  | y :: t, d, z, x, h => by
    by_cases kd : kindAt ws d = 2
    · cases e : entAt ps d y with
      | none => rw [wk_none kd e] at h; cases h
      | some k =>
        rw [wk_some kd e] at h
        rw [List.cons_append, wk_some kd e]
        exact wk_snoc t _ z x h
    · rw [wk_nodir kd] at h; cases h
end Go.Proofs.YtmeiionabonhnaaGreatDoor

namespace Go.Proofs.YtmeiionabonhnaaGreatDoor
open Go.RowKit
theorem tp_bytes {a b : ByteArray} (h : a.toList = b.toList) : a = b := by
  rw [Lib.toList_data, Lib.toList_data] at h
  exact ByteArray.ext (Array.toList_inj.1 h)
theorem tp_app (s : ByteArray) : s ++ ⟨#[]⟩ = s := by
  apply ByteArray.ext
  simp
theorem own_ent {ws : List Ino} {ps : List Den} (h : imgB ws ps = true) {j : Nat} (hj : j < ps.length) (h0 : 0 ≤ ps[j].child) : entAt ps ps[j].dir ps[j].name = some j := by
  have e : entHit ps[j].dir ps[j].name ps[j] = true := by unfold entHit; rw [decide_eq_true h0]; simp
  exact ent_yes hj (fun i hi hij => by
    cases q : entHit ps[j].dir ps[j].name ps[i] with
    | false => rfl
    | true => exact (ent_lt h hij hj q e).elim) e
def upE (ts : List Den) (d : Int) : Option Den := ts.find? fun y => y.child == d
def pthU (ts : List Den) : Nat → Den → ByteArray → ByteArray
  | 0, x, acc => ⟨#[47]⟩ ++ x.name ++ acc
  | n + 1, x, acc => match upE ts x.dir with
    | none => ⟨#[47]⟩ ++ x.name ++ acc
    | some y => pthU ts n y (⟨#[47]⟩ ++ x.name ++ acc)
theorem pthU_none {ts : List Den} {x : Den} (e : upE ts x.dir = none) (n : Nat) (acc : ByteArray) : pthU ts n x acc = ⟨#[47]⟩ ++ x.name ++ acc := by
  cases n with
  | zero => rfl
  | succ n => unfold pthU; rw [e]
theorem pthU_some {ts : List Den} {x y : Den} (e : upE ts x.dir = some y) (n : Nat) (acc : ByteArray) : pthU ts (n + 1) x acc = pthU ts n y (⟨#[47]⟩ ++ x.name ++ acc) := by
  rw [pthU, e]
theorem upE_root {ws : List Ino} {ps : List Den} (h : imgB ws ps = true) : upE (takenD ps) 0 = none := by
  unfold upE
  rw [List.find?_eq_none]
  intro x hx e
  have := (ent_dir h (taken_ents h) hx).1
  rw [beq_iff_eq] at e
  omega
theorem taken_in {ps : List Den} {j : Nat} (hj : j < ps.length) (h0 : 0 ≤ ps[j].child) : ps[j] ∈ takenD ps := by
  unfold takenD
  rw [List.mem_filter]
  refine ⟨List.getElem_mem hj, ?_⟩
  unfold Den.freeB
  have : (ps[j].child == -1) = false := by rw [beq_eq_false_iff_ne]; omega
  rw [this]
  simp
theorem upE_dir {ws : List Ino} {ps : List Den} (h : imgB ws ps = true) {i : Nat} (hi : i < ps.length) (hc : 1 ≤ ps[i].child ∧ ps[i].child ≤ 15) (k : kindAt ws ps[i].child = 2) : upE (takenD ps) ps[i].child = some ps[i] := by
  cases e : upE (takenD ps) ps[i].child with
  | none =>
    unfold upE at e
    rw [List.find?_eq_none] at e
    exact absurd (beq_self_eq_true _) (e _ (taken_in hi (by omega)))
  | some y =>
    unfold upE at e
    have m := List.mem_of_find?_eq_some e
    have q := List.find?_some e
    rw [beq_iff_eq] at q
    obtain ⟨a, ha, rfl, -⟩ := taken_ents h y m
    rcases Nat.lt_trichotomy a i with l | rfl | l
    · exact (one_lt h l hi hc k q rfl).elim
    · rfl
    · exact (one_lt h l ha hc k rfl q).elim
theorem wk_unsnoc {ws : List Ino} {ps : List Den} : ∀ (ys : List ByteArray) (d z : Int) (y : ByteArray), wk ws ps d (ys ++ [y]) = (z, 0) → ∃ (z1 : Int) (i : Nat), wk ws ps d ys = (z1, 0) ∧ kindAt ws z1 = 2 ∧ entAt ps z1 y = some i ∧ childAt ps i = z
  | [], d, z, y, h => by
    by_cases k : kindAt ws d = 2
    · cases e : entAt ps d y with
      | none => rw [List.nil_append, wk_none k e] at h; cases h
      | some i =>
        rw [List.nil_append, wk_some k e, wk_nil] at h
        exact ⟨d, i, rfl, k, e, by cases h; rfl⟩
    · rw [List.nil_append, wk_nodir k] at h; cases h
  | x :: t, d, z, y, h => by
    by_cases k : kindAt ws d = 2
    · cases e : entAt ps d x with
      | none => rw [List.cons_append, wk_none k e] at h; cases h
      | some i =>
        rw [List.cons_append, wk_some k e] at h
        obtain ⟨z1, i', a, b, c, f⟩ := wk_unsnoc t _ _ _ h
        exact ⟨z1, i', by rw [wk_some k e]; exact a, b, c, f⟩
    · rw [List.cons_append, wk_nodir k] at h; cases h
theorem ent_is {ps : List Den} {d : Int} {nm : ByteArray} {k : Nat} (e : entAt ps d nm = some k) : ∃ hk : k < ps.length, ps[k].dir = d ∧ ps[k].name = nm ∧ 0 ≤ ps[k].child := by
  obtain ⟨hk, q⟩ := ent_some e
  unfold entHit at q
  simp only [Bool.and_eq_true, decide_eq_true_eq, beq_iff_eq] at q
  exact ⟨hk, q.2.1, tp_bytes q.2.2, q.1⟩
theorem path_up {ws : List Ino} {ps : List Den} (h : imgB ws ps = true) : ∀ (m : Nat) (xs : List ByteArray) (z : Int) (j : Nat) (hj : j < ps.length) (n : Nat) (acc : ByteArray), xs.length = m → dep ps m z → kindAt ws z = 2 → (0 ≤ z ∧ z ≤ 15) → wk ws ps 0 xs = (z, 0) → ps[j].dir = z → m ≤ n →
    pthU (takenD ps) n ps[j] acc = jnP ⟨#[]⟩ (xs ++ [ps[j].name]) ++ acc
  | 0, xs, z, j, hj, n, acc, hl, _, _, _, hw, hz, _ => by
    obtain rfl : xs = [] := List.length_eq_zero_iff.1 hl
    rw [wk_nil] at hw
    obtain rfl : (0 : Int) = z := by cases hw; rfl
    rw [pthU_none (by rw [hz]; exact upE_root h)]
    rw [List.nil_append, jnP, jnP]
    apply ByteArray.ext
    simp
  | m + 1, xs, z, j, hj, n, acc, hl, hd, hk, hr, hw, hz, hn => by
    obtain ⟨ys, y, rfl⟩ : ∃ ys y, xs = ys ++ [y] := by
      rcases List.eq_nil_or_concat xs with e | ⟨a, b, e⟩
      · rw [e] at hl; simp at hl
      · exact ⟨a, b, by rw [e, List.concat_eq_append]⟩
    obtain ⟨n, rfl⟩ : ∃ n', n = n' + 1 := ⟨n - 1, by omega⟩
    obtain ⟨z1, i, a, b, c, e⟩ := wk_unsnoc ys 0 z y hw
    obtain ⟨hi, e1, e2, e3⟩ := ent_is c
    rw [childAt_of hi] at e
    have z0 : ¬ z = 0 := hd.1
    have hc : 1 ≤ ps[i].child ∧ ps[i].child ≤ 15 := by omega
    have kc : kindAt ws ps[i].child = 2 := by rw [e]; exact hk
    have d1 : dep ps m z1 := by
      have q := hd.2
      rw [← e, up_of1 h hi hc kc, e1] at q
      exact q
    have r1 : 0 ≤ z1 ∧ z1 ≤ 15 := by rw [← e1]; exact (ent_dir h (taken_ents h) (taken_in hi e3)).2.1
    rw [pthU_some (y := ps[i]) (by rw [hz, ← e]; exact upE_dir h hi hc kc)]
    rw [path_up h m ys z1 i hi n _ (by simpa using hl) d1 b r1 a e1 (by omega), e2, jnP_snoc (ys ++ [y])]
    apply ByteArray.ext
    simp
theorem dep_ex {ps : List Den} : ∀ (k : Nat) (z : Int), hangs ps k z = true → ∃ m, m < k ∧ dep ps m z
  | 0, z, h => by rw [hangs_none] at h; cases h
  | k + 1, z, h => by
    by_cases e : z = 0
    · exact ⟨0, by omega, e⟩
    · obtain ⟨m, a, b⟩ := dep_ex k _ (hang_step h e).2
      exact ⟨m + 1, by omega, e, b⟩
theorem dir_way {ws : List Ino} {ps : List Den} (h : imgB ws ps = true) : ∀ (m : Nat) (z : Int), dep ps m z → kindAt ws z = 2 → (0 ≤ z ∧ z ≤ 15) → ∃ xs : List ByteArray, xs.length = m ∧ wk ws ps 0 xs = (z, 0) ∧ ∀ y ∈ xs, nmB y = true
  | 0, z, hd, _, _ => ⟨[], rfl, by rw [wk_nil, show z = 0 from hd], fun y hy => by cases hy⟩
  | m + 1, z, hd, hk, hr => by
    have up := (hang_step (pimg_hangs h hr hk) hd.1).1
    obtain ⟨i, hi, ei⟩ : ∃ (i : Nat) (hi : i < ps.length), ps[i].child = z := by
      apply Classical.byContradiction
      intro q
      rw [upD_no (fun j hj e => q ⟨j, hj, e⟩)] at up
      omega
    have z0 : ¬ z = 0 := hd.1
    have hc : 1 ≤ ps[i].child ∧ ps[i].child ≤ 15 := by omega
    have kc : kindAt ws ps[i].child = 2 := by rw [ei]; exact hk
    have d1 : dep ps m ps[i].dir := by
      have q := hd.2
      rw [← ei, up_of1 h hi hc kc] at q
      exact q
    have en := ent_dir h (taken_ents h) (taken_in hi (by omega))
    obtain ⟨xs, a, b, c⟩ := dir_way h m _ d1 en.2.2 en.2.1
    refine ⟨xs ++ [ps[i].name], by simp [a], ?_, fun y hy => ?_⟩
    · rw [wk_snoc xs 0 _ _ b, wk_some en.2.2 (own_ent h hi (by omega)), wk_nil, childAt_of hi, ei]
    · rcases List.mem_append.1 hy with q | q
      · exact c y q
      · rw [List.mem_singleton.1 q]
        rcases pimg_ent h i hi with r | r
        · omega
        · exact r.2.2.1
theorem entry_way {ws : List Ino} {ps : List Den} (h : imgB ws ps = true) {j : Nat} (hj : j < ps.length) (h0 : 0 ≤ ps[j].child) : ∃ xs : List ByteArray, wk ws ps 0 xs = (ps[j].dir, 0) ∧ (∀ y ∈ xs ++ [ps[j].name], nmB y = true) ∧ ∀ acc, pthU (takenD ps) 16 ps[j] acc = jnP ⟨#[]⟩ (xs ++ [ps[j].name]) ++ acc := by
  have en := ent_dir h (taken_ents h) (taken_in hj h0)
  obtain ⟨m, a, b⟩ := dep_ex 16 _ (pimg_hangs h en.2.1 en.2.2)
  obtain ⟨xs, c, d, e⟩ := dir_way h m _ b en.2.2 en.2.1
  refine ⟨xs, d, fun y hy => ?_, fun acc => path_up h m xs _ j hj 16 acc c b en.2.2 en.2.1 d rfl (by omega)⟩
  rcases List.mem_append.1 hy with q | q
  · exact e y q
  · rw [List.mem_singleton.1 q]
    rcases pimg_ent h j hj with r | r
    · omega
    · exact r.2.2.1
theorem path_one {ws : List Ino} {ps : List Den} (h : imgB ws ps = true) {i j : Nat} (hi : i < ps.length) (hj : j < ps.length) (i0 : 0 ≤ ps[i].child) (j0 : 0 ≤ ps[j].child) (e : pthU (takenD ps) 16 ps[i] ⟨#[]⟩ = pthU (takenD ps) 16 ps[j] ⟨#[]⟩) : i = j := by
  obtain ⟨xs, a, b, c⟩ := entry_way h hi i0
  obtain ⟨ys, a', b', c'⟩ := entry_way h hj j0
  rw [c, c', tp_app, tp_app] at e
  have q := congrArg pcs e
  rw [pcs_jn b, pcs_jn b'] at q
  obtain ⟨q1, q2⟩ := List.append_inj' (List.cons.inj q).2 rfl
  have q3 : ps[i].name = ps[j].name := by simpa using q2
  rw [q1] at a
  have q4 : ps[i].dir = ps[j].dir := (Prod.mk.inj (a.symm.trans a')).1
  have r := own_ent h hi i0
  rw [q3, q4, own_ent h hj j0] at r
  cases r
  rfl
theorem path_told {ws : List Ino} {ps : List Den} (h : imgB ws ps = true) {s : ByteArray} (hs : s ∈ pthN ws ps 16 0 ⟨#[]⟩) : ∃ (j : Nat) (hj : j < ps.length), 0 ≤ ps[j].child ∧ pthU (takenD ps) 16 ps[j] ⟨#[]⟩ = s ∧ wk ws ps 0 (pcs s).tail = (ps[j].child, 0) := by
  have k0 : kindAt ws 0 = 2 := (pimg_all h).2.2.1
  obtain ⟨xs, x, z, j, e1, e2, e3, E⟩ := pth_mem h 16 0 0 ⟨#[]⟩ s k0 (by decide) rfl hs
  have hj := E.lt
  have j0 : 0 ≤ ps[j].child := by have := E.rng; omega
  have ds := dep_small h E.zr E.kind E.dep
  refine ⟨j, hj, j0, ?_, ?_⟩
  · rw [path_up h (0 + xs.length) xs z j hj 16 _ (by omega) E.dep E.kind E.zr e3 E.dir (by omega), E.name, tp_app, e1]
  · rw [e1, pcs_jn e2, List.tail_cons, wk_snoc xs 0 _ _ e3, wk_some E.kind E.at_, wk_nil, childAt_of hj]
end Go.Proofs.YtmeiionabonhnaaGreatDoor
