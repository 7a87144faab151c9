/- Several texts laid together: PeD, PeE, PcB. -/
import Derived.Test.YtmeiionabonhnaaGreatDoorPeA
import Derived.Test.YtmeiionabonhnaaGreatDoorStN
import Derived.Test.YtmeiionabonhnaaGreatDoorZAU
namespace Go.Proofs.YtmeiionabonhnaaGreatDoor
open Go.RowKit
theorem dep_one {ps : List Den} : ∀ (a b : Nat) (d : Int), dep ps a d → dep ps b d → a = b
  | 0, 0, _, _, _ => rfl
  | 0, _ + 1, _, h, h' => absurd h h'.1
  | _ + 1, 0, _, h, h' => absurd h' h.1
  | a + 1, b + 1, _, h, h' => by rw [dep_one a b _ h.2 h'.2]
def upI (ps : List Den) : Nat → Int → Int
  | 0, d => d
  | i + 1, d => upD ps (upI ps i d)
def visR (rs : List Den) : Nat → Int → List Den
  | 0, _ => []
  | n + 1, d => (rs.filter fun x => x.dir == d).flatMap fun x => x :: visR rs n x.child
theorem vis_len (rs : List Den) : ∀ (n : Nat) (d : Int) (hd : ByteArray), (pthR rs n d hd).length = (visR rs n d).length
  | 0, _, _ => rfl
  | n + 1, d, hd => by
    unfold pthR visR
    rw [List.length_flatMap, List.length_flatMap]
    congr 1
    apply List.map_congr_left
    intro x _
    rw [List.length_cons, List.length_cons, vis_len rs n]
theorem vis_mem {rs : List Den} {n : Nat} {d : Int} {z : Den} (h : z ∈ visR rs (n + 1) d) : ∃ x, x ∈ rs ∧ x.dir = d ∧ (z = x ∨ z ∈ visR rs n x.child) := by
  unfold visR at h
  rw [List.mem_flatMap] at h
  obtain ⟨x, hx, hz⟩ := h
  rw [List.mem_filter, beq_iff_eq] at hx
  exact ⟨x, hx.1, hx.2, List.mem_cons.1 hz⟩
def EntsOf (ps rs : List Den) : Prop := ∀ x ∈ rs, ∃ (k : Nat) (hk : k < ps.length), ps[k] = x ∧ 0 ≤ x.child
theorem ent_dir {ws : List Ino} {ps rs : List Den} (h : imgB ws ps = true) (hm : EntsOf ps rs) {x : Den} (hx : x ∈ rs) : (1 ≤ x.child ∧ x.child ≤ 15) ∧ (0 ≤ x.dir ∧ x.dir ≤ 15) ∧ kindAt ws x.dir = 2 := by
  obtain ⟨k, hk, rfl, hc⟩ := hm x hx
  rcases pimg_ent h k hk with r | r
  · omega
  · exact ⟨r.1, r.2.1, r.2.2.2.2⟩
theorem vis_dir {ws : List Ino} {ps rs : List Den} (h : imgB ws ps = true) (hm : EntsOf ps rs) {n : Nat} {d : Int} {z : Den} (hz : z ∈ visR rs n d) : kindAt ws d = 2 := by
  cases n with
  | zero => cases hz
  | succ n =>
    obtain ⟨x, hx, e, _⟩ := vis_mem hz
    rw [← e]
    exact (ent_dir h hm hx).2.2
theorem vis_in {ws : List Ino} {ps rs : List Den} (h : imgB ws ps = true) (hm : EntsOf ps rs) : ∀ (n k : Nat) (d : Int), dep ps k d → ∀ z ∈ visR rs n d, z ∈ rs ∧ ∃ i, dep ps (k + i) z.dir ∧ upI ps i z.dir = d
  | 0, _, _, _, z, hz => by cases hz
  | n + 1, k, d, hd, z, hz => by
    obtain ⟨x, hx, e, r⟩ := vis_mem hz
    rcases r with rfl | r
    · exact ⟨hx, 0, by rw [e]; exact hd, e⟩
    · have q := vis_dir h hm r
      have c := ent_dir h hm hx
      obtain ⟨j, hj, rfl, _⟩ := hm x hx
      have hd2 : dep ps (k + 1) ps[j].child := dep_down h hj c.1 q (by rw [e]; exact hd)
      obtain ⟨a, i, b1, b2⟩ := vis_in h hm n (k + 1) _ hd2 z r
      refine ⟨a, i + 1, ?_, ?_⟩
      · rw [show k + (i + 1) = k + 1 + i by omega]; exact b1
      · unfold upI
        rw [b2, up_of1 h hj c.1 q, e]
theorem vis_nodup {ws : List Ino} {ps rs : List Den} (h : imgB ws ps = true) (hm : EntsOf ps rs) (hn : rs.Nodup) : ∀ (n k : Nat) (d : Int), dep ps k d → (visR rs n d).Nodup
  | 0, _, _, _ => List.nodup_nil
  | n + 1, k, d, hd => by
    have down : ∀ x ∈ rs, x.dir = d → ∀ z ∈ visR rs n x.child, dep ps (k + 1) x.child ∧ ∃ i, dep ps (k + 1 + i) z.dir ∧ upI ps i z.dir = x.child := by
      intro x hx e z hz
      have q := vis_dir h hm hz
      have c := ent_dir h hm hx
      obtain ⟨j, hj, rfl, _⟩ := hm x hx
      have hd2 : dep ps (k + 1) ps[j].child := dep_down h hj c.1 q (by rw [e]; exact hd)
      exact ⟨hd2, (vis_in h hm n (k + 1) _ hd2 z hz).2⟩
    have apart : ∀ x ∈ rs, x.dir = d → ∀ y ∈ rs, y.dir = d → ¬ y ∈ visR rs n x.child := by
      intro x hx e y hy e' hz
      obtain ⟨_, i, b, _⟩ := down x hx e y hz
      rw [e'] at b
      have := dep_one _ _ _ hd b
      omega
    unfold visR
    refine List.pairwise_flatMap.2 ⟨fun x hx => ?_, ?_⟩
    · rw [List.mem_filter, beq_iff_eq] at hx
      refine List.nodup_cons.2 ⟨apart x hx.1 hx.2 x hx.1 hx.2, ?_⟩
      cases e : visR rs n x.child with
      | nil => exact List.nodup_nil
      | cons z l =>
        rw [← e]
        exact vis_nodup h hm hn n (k + 1) _ (down x hx.1 hx.2 z (by rw [e]; exact List.mem_cons_self)).1
    · have hf : (rs.filter fun x => x.dir == d).Nodup := List.Nodup.sublist List.filter_sublist hn
      refine List.Pairwise.imp_of_mem (fun {x y} hx hy hne => ?_) hf
      rw [List.mem_filter, beq_iff_eq] at hx hy
      intro z hz z' hz' e
      subst e
      rcases List.mem_cons.1 hz with rfl | r
      · rcases List.mem_cons.1 hz' with e | r'
        · exact hne e
        · exact apart y hy.1 hy.2 z hx.1 hx.2 r'
      · rcases List.mem_cons.1 hz' with rfl | r'
        · exact apart x hx.1 hx.2 z hy.1 hy.2 r
        · obtain ⟨_, i, b1, b2⟩ := down x hx.1 hx.2 z r
          obtain ⟨_, j, c1, c2⟩ := down y hy.1 hy.2 z r'
          have := dep_one _ _ _ b1 c1
          obtain rfl : i = j := by omega
          have e := b2.symm.trans c2
          have q := vis_dir h hm r
          have cx := ent_dir h hm hx.1
          obtain ⟨a, ha, rfl, _⟩ := hm x hx.1
          obtain ⟨b, hb, rfl, _⟩ := hm y hy.1
          rcases Nat.lt_trichotomy a b with t | t | t
          · exact one_lt h t hb cx.1 q rfl e.symm
          · subst t; exact hne rfl
          · exact one_lt h t ha cx.1 q e.symm rfl
theorem pth_len {ws : List Ino} {ps rs : List Den} (h : imgB ws ps = true) (hm : EntsOf ps rs) (hn : rs.Nodup) (n k : Nat) (d : Int) (hd : ByteArray) (hk : dep ps k d) : (pthR rs n d hd).length ≤ rs.length := by
  rw [vis_len]
  exact List.Nodup.length_le_of_subset (vis_nodup h hm hn n k d hk) fun z hz => (vis_in h hm n k d hk z hz).1
end Go.Proofs.YtmeiionabonhnaaGreatDoor

namespace Go.Proofs.YtmeiionabonhnaaGreatDoor
open Go.RowKit
theorem taken_ents {ws : List Ino} {ps : List Den} (h : imgB ws ps = true) : EntsOf ps (takenD ps) := by
  intro x hx
  unfold takenD at hx
  rw [List.mem_filter] at hx
  obtain ⟨k, hk, rfl⟩ := List.getElem_of_mem hx.1
  refine ⟨k, hk, rfl, ?_⟩
  rcases pimg_ent h k hk with r | r
  · obtain ⟨_, _, _, _, he, _, _⟩ := pimg_all h
    have e := (of_decide_eq_true he : ∀ i (h : i < ps.length), entOne ws ps i ps[i] = true) k hk
    unfold entOne at e
    rw [if_pos r.1] at e
    rw [e] at hx
    exact absurd hx.2 (by decide)
  · omega
theorem taken_nodup {ws : List Ino} {ps : List Den} (h : imgB ws ps = true) : (takenD ps).Nodup := by
  have hm := taken_ents h
  unfold takenD at hm ⊢
  refine List.pairwise_filter.2 (List.pairwise_iff_getElem.2 fun i j hi hj hij pi pj e => ?_)
  have ci : 0 ≤ ps[i].child := by
    obtain ⟨_, _, _, c⟩ := hm ps[i] (List.mem_filter.2 ⟨List.getElem_mem hi, pi⟩)
    exact c
  refine ent_lt h (d := ps[i].dir) (nm := ps[i].name) hij hj ?_ ?_
  · unfold entHit; rw [decide_eq_true ci]; simp
  · rw [← e]; unfold entHit; rw [decide_eq_true ci]; simp
theorem perm_ents {ps rs ts : List Den} (hp : rs.Perm ts) (h : EntsOf ps ts) : EntsOf ps rs := fun x hx => h x (hp.mem_iff.1 hx)
theorem rows_names {ws : List Ino} {ps rs : List Den} (h : imgB ws ps = true) (hp : rs.Perm (takenD ps)) (hs : rs.Pairwise fun a b => a.name.toList ≤ b.name.toList) (d : Int) : (rs.filter fun x => x.dir == d).map Den.name = sorted (namesD ps d) := by
  refine ord_sorted ?_ ?_
  · unfold Ord
    rw [List.pairwise_map]
    exact List.Pairwise.sublist List.filter_sublist hs
  · rw [← dirN_names (img_ents h) d]
    unfold dirN
    exact (hp.filter _).map _
def rise (ps : List Den) : List Den := (takenD ps).mergeSort fun a b => decide (a.name.toList ≤ b.name.toList)
theorem rise_perm (ps : List Den) : (rise ps).Perm (takenD ps) := List.mergeSort_perm _ _
theorem rise_sorted (ps : List Den) : (rise ps).Pairwise fun a b => a.name.toList ≤ b.name.toList := by
  have := List.pairwise_mergeSort (le := fun a b : Den => decide (a.name.toList ≤ b.name.toList)) (fun a b c h1 h2 => by simp only [decide_eq_true_eq] at *; exact List.le_trans h1 h2) (fun a b => by simp only [Bool.or_eq_true, decide_eq_true_eq]; exact List.le_total _ _) (takenD ps)
  exact List.Pairwise.imp (fun h => by simpa using h) this
theorem paths_same {ws : List Ino} {ps rs : List Den} (h : imgB ws ps = true) (hp : rs.Perm (takenD ps)) (hs : rs.Pairwise fun a b => a.name.toList ≤ b.name.toList) (n : Nat) (d : Int) (hd : ByteArray) : pthR rs n d hd = pthN ws ps n d hd :=
  pth_same h (perm_ents hp (taken_ents h)) (rows_names h hp hs) n d hd
theorem pthN_len {ws : List Ino} {ps : List Den} (h : imgB ws ps = true) (n k : Nat) (d : Int) (hd : ByteArray) (hk : dep ps k d) : (pthN ws ps n d hd).length ≤ 24 := by
  rw [← paths_same h (rise_perm ps) (rise_sorted ps)]
  refine Nat.le_trans (pth_len h (perm_ents (rise_perm ps) (taken_ents h)) ((rise_perm ps).nodup_iff.2 (taken_nodup h)) n k d hd hk) ?_
  rw [(rise_perm ps).length_eq]
  refine Nat.le_trans (List.length_filter_le _ _) ?_
  rw [(pimg_all h).2.1]
  exact Nat.le_refl _
def pthK (ws : List Ino) (ps : List Den) (n : Nat) (d : Int) (hd : ByteArray) (ns : List ByteArray) : List ByteArray := ns.flatMap fun nm => (hd ++ ⟨#[47]⟩ ++ nm) :: (if kindAt ws (childOf ps d nm) = 2 then pthN ws ps n (childOf ps d nm) (hd ++ ⟨#[47]⟩ ++ nm) else [])
theorem pthK_all (ws : List Ino) (ps : List Den) (n : Nat) (d : Int) (hd : ByteArray) : pthN ws ps (n + 1) d hd = pthK ws ps n d hd (sorted (namesD ps d)) := rfl
theorem pthK_zero (ws : List Ino) (ps : List Den) (n : Nat) (d : Int) (hd : ByteArray) (ns : List ByteArray) : pthK ws ps n d hd (ns.take 0) = [] := rfl
theorem pthK_succ (ws : List Ino) (ps : List Den) (n : Nat) (d : Int) (hd : ByteArray) {ns : List ByteArray} {k : Nat} (hk : k < ns.length) : pthK ws ps n d hd (ns.take (k + 1)) = (pthK ws ps n d hd (ns.take k) ++ [hd ++ ⟨#[47]⟩ ++ ns[k]]) ++ (if kindAt ws (childOf ps d ns[k]) = 2 then pthN ws ps n (childOf ps d ns[k]) (hd ++ ⟨#[47]⟩ ++ ns[k]) else []) := by
  unfold pthK
  rw [List.take_succ_eq_append_getElem hk, List.flatMap_append, List.flatMap_cons, List.flatMap_nil, List.append_nil, List.append_assoc]
  rfl
theorem name_ent {ws : List Ino} {ps : List Den} (h : imgB ws ps = true) {d : Int} {nm : ByteArray} (hn : nm ∈ sorted (namesD ps d)) : ∃ (j : Nat) (hj : j < ps.length), entAt ps d nm = some j ∧ ps[j].dir = d ∧ ps[j].name = nm ∧ childOf ps d nm = ps[j].child ∧ 1 ≤ ps[j].child ∧ ps[j].child ≤ 15 := by
  rw [← rows_names h (rise_perm ps) (rise_sorted ps) d, List.mem_map] at hn
  obtain ⟨x, hx, rfl⟩ := hn
  rw [List.mem_filter, beq_iff_eq] at hx
  have hm := perm_ents (rise_perm ps) (taken_ents h)
  have c := ent_dir h hm hx.1
  obtain ⟨j, hj, rfl, h0⟩ := hm x hx.1
  have e : entHit ps[j].dir ps[j].name ps[j] = true := by unfold entHit; rw [decide_eq_true h0]; simp
  have a : entAt ps ps[j].dir ps[j].name = some j := ent_yes hj (fun i hi hij => by
    cases q : entHit ps[j].dir ps[j].name ps[i] with
    | false => rfl
    | true => exact (ent_lt h hij hj q e).elim) e
  obtain ⟨_, rfl⟩ := hx
  exact ⟨j, hj, a, rfl, rfl, childOf_at h hj h0, c.1.1, c.1.2⟩
end Go.Proofs.YtmeiionabonhnaaGreatDoor

namespace Go.Proofs.YtmeiionabonhnaaGreatDoor
open Go.RowKit
set_option maxRecDepth 100000 in
set_option maxHeartbeats 4000000 in
theorem l06Walk_any (v vL : Value) (ws : List Ino) (ps : List Den) (ns : List ByteArray) (w : World) (h : RdIm w v ws ps) (hL : RdT w vL ns) (hi : imgB ws ps = true) (hn : ns.length ≤ 1048576) :
    Calls Tryz.prog 132 #[v, vL] w fun e w' => e = .returned (.tuple #[.int .i64 (wk ws ps 0 ns).1, .int .i64 (wk ws ps 0 ns).2]) ∧ Below w.heap.size w w' := by
  have HR := hideIt h
  have LE := hideIt (fun d nm w1 h => l06Entry_any v ws ps d nm w1 h (by have := (pimg_all hi).2.1; omega))
  obtain ⟨vW, vP, rfl, h1, h2⟩ := h
  obtain ⟨aW, cW, rfl, _, hcW⟩ := h1.shape
  obtain ⟨aP, cP, rfl, _, hcP⟩ := h2.shape
  obtain ⟨aL, cL, rfl, _, hcL⟩ := hL.shape
  have L16 := hideIt (pimg_all hi).1
  have L24 := hideIt (pimg_all hi).2.1
  obtain ⟨bW, oW, rfl, hblW, hcellW⟩ := hcW (by have := L16.out; omega)
  obtain ⟨bP, oP, rfl, hblP, hcellP⟩ := hcP (by have := L24.out; omega)
  have HW : Hid (∀ w', Below w.heap.size w w' → ∀ n : Nat, n < 16 → w'.cell? ⟨bW, oW + n * 11, none⟩ = some (.int .i64 (kindAt ws n))) := fun w' hb n hn => by
    have hnl : n < ws.length := by have := L16.out; omega
    rw [kindAt_of hnl]
    exact (hb.cell (p := ⟨bW, oW + n * 11, none⟩) hblW).trans (hcellW n hnl).1
  have HP : Hid (∀ w', Below w.heap.size w w' → ∀ k (h : k < ps.length), w'.cell? ⟨bP, oP + k * 3 + 2, none⟩ = some (.int .i64 (childAt ps k))) := fun w' hb k hk => by
    rw [childAt_of hk]
    exact (hb.cell (p := ⟨bP, oP + k * 3 + 2, none⟩) hblP).trans (hcellP k hk).2.2
  have HN := hideIt hcL
  have CR := hideIt (fun (d : Int) (nm : ByteArray) (k : Nat) (e : entAt ps d nm = some k) => child_range hi e)
  generalize hres : wk ws ps 0 ns = res
  have HRES := hideIt hres
  clear hres
  clear h1 h2 hcW hcP hcellW hcellP hcL hL hi
  obtain ⟨W, hW⟩ : ∃ W, W = w.alloc (.cells #[.slice (some ⟨bW, oW, none⟩) ws.length cW, .slice (some ⟨bP, oP, none⟩) ps.length cP] 98) := ⟨_, rfl⟩
  have CA : Hid (∀ w', Below W.heap.size W w' → w'.cell? ⟨w.heap.size, 0, none⟩ = some (.slice (some ⟨bW, oW, none⟩) ws.length cW) ∧ w'.cell? ⟨w.heap.size, 1, none⟩ = some (.slice (some ⟨bP, oP, none⟩) ps.length cP)) := fun w' hb => by
    have : w'.heap[w.heap.size]? = some (.cells #[.slice (some ⟨bW, oW, none⟩) ws.length cW, .slice (some ⟨bP, oP, none⟩) ps.length cP] 98 (0, 0)) := (hb.block _ (by rw [hW]; simp)).trans (by rw [hW]; exact at_new rfl)
    exact ⟨(two_cells this).1, (two_cells this).2.1⟩
  have BW : Hid (Below w.heap.size w W) := by rw [hW]; exact (Below.refl _ _).alloc (Nat.le_refl _) _
  have hz : w.heap.size ≤ W.heap.size := BW.out.size
  go_enter Tryz.func132, Tryz.ntmps132
  go_wp2
  rw [← hW]
  clear hW
  go_loopg [6, 7] ns.length (fun g a i wr => ∃ (k : Nat) (z : Nat), k + g = ns.length ∧ z < 16 ∧ a = .int .i64 z ∧ i = .int .i64 k ∧ Hid (Below W.heap.size W wr ∧ res = wk ws ps z (ns.drop k)))
  case atStart => exact ⟨0, 0, by omega, by omega, rfl, rfl, Below.refl _ _, HRES.out.symm⟩
  case round =>
    obtain ⟨k, z, hk, hz16, rfl, rfl, J⟩ := hrel
    obtain ⟨x0, x1⟩ := CA.out wr J.out.1
    have B := hideIt (below_trans BW.out J.out.1 hz)
    have J1 := hideIt J.out.1
    have k0 : (0 : Int) ≤ (k : Int) := by omega
    have z0 : (0 : Int) ≤ (z : Int) := by omega
    have z1 : (z : Int) < (ws.length : Int) := by have := L16.out; omega
    by_cases hlt : k < ns.length
    · have k1 : (k : Int) < (ns.length : Int) := by omega
      have y0 := HW.out wr B.out z hz16
      have JD : Hid (res = wk ws ps z (ns[k] :: ns.drop (k + 1))) := by unfold Hid; rw [J.out.2, List.drop_eq_getElem_cons hlt]
      obtain ⟨bL, oL, rfl, hblL, hcell⟩ := HN.out (by omega)
      have n0 := (B.out.cell (p := ⟨bL, oL + k, none⟩) hblL).trans (hcell k hlt)
      have WN := hideIt (fun (h : ¬ kindAt ws z = 2) => wk_nodir (ps := ps) (n := ns[k]) (ns := ns.drop (k + 1)) h)
      have WO := hideIt (fun (h : kindAt ws z = 2) (e : entAt ps z ns[k] = none) => wk_none (ns := ns.drop (k + 1)) h e)
      have WS := hideIt (fun (h : kindAt ws z = 2) (j : Nat) (e : entAt ps z ns[k] = some j) => wk_some (ns := ns.drop (k + 1)) h e)
      have EI := hideIt (show entI ps z ns[k] = match entAt ps z ns[k] with | none => -1 | some k => (k : Int) from rfl)
      have CR2 := hideIt (fun (j : Nat) (e : entAt ps z ns[k] = some j) => CR.out _ _ _ e)
      have LE2 := hideIt (fun w1 (hb : Below wr.heap.size wr w1) => LE.out (z : Int) ns[k] w1 (HR.out.below (below_trans B.out hb B.out.size)))
      clear J hcell
      generalize kindAt ws z = kk at *
      clear HRES
      generalize ns[k] = nm at *
      by_cases q : kk = 2
      case neg =>
        have q1 : (kk != 2) = true := by rw [bne_iff_ne]; exact q
        obtain rfl := JD.out.trans (WN.out q)
        clear q WN WO WS EI CR2 LE2
        go_wp2
        go_ret2
        exact ⟨rfl, B.out⟩
      have q1 : (kk != 2) = false := by rw [q]; rfl
      have SK : Hid (∀ w', Below wr.heap.size wr w' → (w'.cell? ⟨w.heap.size, 0, none⟩ = some (.slice (some ⟨bW, oW, none⟩) ws.length cW) ∧ w'.cell? ⟨w.heap.size, 1, none⟩ = some (.slice (some ⟨bP, oP, none⟩) ps.length cP)) ∧ w'.cell? ⟨bL, oL + k, none⟩ = some (.string nm)) := fun w' hb => ⟨CA.out w' (below_trans J1.out hb J1.out.size), (hb.cell (p := ⟨bL, oL + k, none⟩) (Nat.lt_of_lt_of_le hblL B.out.size)).trans n0⟩
      cases e : entAt ps z nm with
      | none =>
        have W2 := hideIt (JD.out.trans (WO.out q e))
        rw [e] at EI
        obtain rfl := W2.out
        have EI2 : Hid (entI ps z nm = -1) := EI
        rw [EI2.out] at LE2
        clear q WN WO WS EI CR2 W2 JD e
        go_wp2_with fail
        go_region_held3 (fun w' => (w'.cell? ⟨w.heap.size, 0, none⟩ = some (.slice (some ⟨bW, oW, none⟩) ws.length cW) ∧ w'.cell? ⟨w.heap.size, 1, none⟩ = some (.slice (some ⟨bP, oP, none⟩) ps.length cP)) ∧ w'.cell? ⟨bL, oL + k, none⟩ = some (.string nm))
          (exact SK.out _ (by repeat (first | exact BF.out | exact Below.refl _ _ | refine Below.drew ?_)))
          (first
            | (go_at_call 131; refine (LE2.out _ (by repeat (first | exact Below.refl _ _ | refine Below.drew ?_))).mono ?_; rintro e w1 ⟨rfl, hb1⟩; have BF : Hid (Below wr.heap.size wr w1) := (by first | exact hb1 | exact below_trans (by repeat (first | exact Below.refl _ _ | refine Below.drew ?_)) hb1 (Nat.le_refl _)); clear hb1))
        all_goals
          have B3 := hideIt (below_trans B.out BF.out B.out.size)
          clear SK x0 x1 y0 n0
          go_wp2
          go_ret2
          exact ⟨rfl, (by repeat (first | exact B3.out | refine Below.drew ?_))⟩
      | some j =>
        have W2 := hideIt (JD.out.trans (WS.out q j e))
        obtain ⟨hj, c1, c2⟩ := CR2.out j e
        rw [e] at EI
        have EI2 : Hid (entI ps z nm = (j : Int)) := EI
        rw [EI2.out] at LE2
        obtain ⟨y, hy⟩ : ∃ y : Nat, childAt ps j = (y : Int) := ⟨(childAt ps j).toNat, by omega⟩
        have HJ := hideIt (fun w' (hb : Below w.heap.size w w') => HP.out w' hb j hj)
        rw [hy] at HJ W2
        have y16 : y < 16 := by omega
        have j0 : (0 : Int) ≤ (j : Int) := by omega
        have j1 : (j : Int) < (ps.length : Int) := by omega
        have j2 : ¬ (j : Int) < 0 := by omega
        clear q WN WO WS EI CR2 JD e hy c1 c2
        go_wp2_with fail
        go_region_held3 (fun w' => (w'.cell? ⟨w.heap.size, 0, none⟩ = some (.slice (some ⟨bW, oW, none⟩) ws.length cW) ∧ w'.cell? ⟨w.heap.size, 1, none⟩ = some (.slice (some ⟨bP, oP, none⟩) ps.length cP)) ∧ w'.cell? ⟨bL, oL + k, none⟩ = some (.string nm))
          (exact SK.out _ (by repeat (first | exact BF.out | exact Below.refl _ _ | refine Below.drew ?_)))
          (first
            | (go_at_call 131; refine (LE2.out _ (by repeat (first | exact Below.refl _ _ | refine Below.drew ?_))).mono ?_; rintro e w1 ⟨rfl, hb1⟩; have BF : Hid (Below wr.heap.size wr w1) := (by first | exact hb1 | exact below_trans (by repeat (first | exact Below.refl _ _ | refine Below.drew ?_)) hb1 (Nat.le_refl _)); clear hb1))
        all_goals
          have B3 := hideIt (below_trans B.out BF.out B.out.size)
          have B4 := hideIt (below_trans J1.out BF.out J1.out.size)
          have p1 := (SK.out _ BF.out).1.2
          have p2 := HJ.out _ B3.out
          clear SK x0 x1 y0 n0
          go_wp2
          go_roundg (ns.length - (k + 1))
          case measure => omega
          case rel => exact ⟨k + 1, y, by omega, y16, rfl, by go_num, (by repeat (first | exact B4.out | refine Below.drew ?_)), W2.out⟩
    · obtain rfl : k = ns.length := by omega
      have E : Hid (res = ((z : Int), 0)) := by unfold Hid; rw [J.out.2, List.drop_length]; rfl
      clear HRES J
      obtain rfl := E.out
      go_wp2
      go_ret2
      exact ⟨rfl, B.out⟩
end Go.Proofs.YtmeiionabonhnaaGreatDoor
