/- Several texts laid together: WaA, WaB, LastW. -/
import Derived.Test.YtmeiionabonhnaaGreatDoorWoB
import Derived.Test.YtmeiionabonhnaaGreatDoorZBL
import Derived.Test.YtmeiionabonhnaaGreatDoorZBR
import Derived.Test.YtmeiionabonhnaaGreatDoorZBK
import Derived.Test.YtmeiionabonhnaaGreatDoorZAJ
namespace Go.Proofs.YtmeiionabonhnaaGreatDoor
open Go.RowKit
theorem imO_ofT (ws : List Int) (ps : List St) (es : List Int) (qs : List Se) (x : Ino) : imO (ofT ws ps es qs x) = ⟨x.kind, x.size.toNat, x.links, 0, 0, 0, 0, 0, 0, 0, 0⟩ := by
  unfold imO ofT
  simp only [pgL_len]
theorem imgM_ofL (ws : List Int) (ps : List St) (es : List Int) (qs : List Se) (ns : List Ino) : imgM (ofL ws ps es qs ns) = ns.map fun x => (⟨x.kind, x.size.toNat, x.links, 0, 0, 0, 0, 0, 0, 0, 0⟩ : Ino) := by
  unfold imgM ofL
  rw [List.map_map]
  exact List.map_congr_left (fun x _ => imO_ofT ws ps es qs x)
theorem bare_kind (ns : List Ino) (z : Int) : kindAt (ns.map fun x => (⟨x.kind, x.size.toNat, x.links, 0, 0, 0, 0, 0, 0, 0, 0⟩ : Ino)) z = kindAt ns z := by
  unfold kindAt
  rw [List.getD_eq_getElem?_getD, List.getD_eq_getElem?_getD, List.getElem?_map]
  cases ns[z.toNat]? <;> rfl
theorem bare_ino {x : Ino} (h : inoB x = true) : inoB ⟨x.kind, x.size.toNat, x.links, 0, 0, 0, 0, 0, 0, 0, 0⟩ = true := by
  unfold inoB at h ⊢
  simp only [Bool.and_eq_true, decide_eq_true_eq] at h ⊢
  obtain ⟨a, b, c, -, e⟩ := h
  refine ⟨a, by omega, c, ?_, ?_⟩
  · unfold mapB
    rw [List.all_eq_true]
    intro i hi
    have hi := List.mem_range.1 hi
    rcases (show i = 0 ∨ i = 1 ∨ i = 2 ∨ i = 3 ∨ i = 4 ∨ i = 5 ∨ i = 6 ∨ i = 7 by omega) with rfl | rfl | rfl | rfl | rfl | rfl | rfl | rfl <;> rfl
  · unfold kindB at e ⊢
    have s : ((x.size.toNat : Nat) : Int) = x.size := by omega
    simp only [s]
    split
    · rename_i k
      rw [if_pos k] at e
      have q := of_decide_eq_true e
      exact decide_eq_true ⟨q.1, q.2.1, rfl⟩
    · rename_i k
      rw [if_neg k] at e
      exact e
theorem bare_once (ns : List Ino) : mapped (ns.map fun x => (⟨x.kind, x.size.toNat, x.links, 0, 0, 0, 0, 0, 0, 0, 0⟩ : Ino)) = [] := by
  unfold mapped
  rw [List.flatMap_map]
  rw [List.flatMap_eq_nil_iff]
  intro x _
  rfl
theorem bare_img {ns : List Ino} {ds : List Den} (h : imgB ns ds = true) : imgB (ns.map fun x => (⟨x.kind, x.size.toNat, x.links, 0, 0, 0, 0, 0, 0, 0, 0⟩ : Ino)) ds = true := by
  have ek : kindAt (ns.map fun x => (⟨x.kind, x.size.toNat, x.links, 0, 0, 0, 0, 0, 0, 0, 0⟩ : Ino)) = kindAt ns := funext (bare_kind ns)
  unfold imgB at h ⊢
  simp only [Bool.and_eq_true, decide_eq_true_eq] at h ⊢
  obtain ⟨a, b, c, d, e, f, g⟩ := h
  refine ⟨by rw [List.length_map]; exact a, b, by rw [ek]; exact c, ?_, ?_, ?_, ?_⟩
  · refine okNs_mk (fun k hk => ?_)
    rw [List.getElem_map]
    rw [List.length_map] at hk
    exact bare_ino (of_decide_eq_true d k hk)
  · unfold entsB entOne at e ⊢
    rw [ek]
    exact e
  · unfold linksB at f ⊢
    have f := of_decide_eq_true f
    refine decide_eq_true (fun i hi => ?_)
    rw [List.getElem_map]
    rw [List.length_map] at hi
    exact f i hi
  · unfold singB
    rw [bare_once]
    rfl
theorem word_at1 {zs : List Int} (h : ∀ x ∈ zs, wordB x = true) (k : Nat) : wordB (zs[k]?.getD 0) = true := by
  rcases Nat.lt_or_ge k zs.length with q | q
  · rw [List.getElem?_eq_getElem q]
    exact h _ (List.getElem_mem q)
  · rw [List.getElem?_eq_none q]
    decide
theorem mo_right {ws : List Int} {es : List Int} (h : dvB ws [] es [] = true) : modB (moT ws [] es []) (moD ws [] es []) = true := by
  have hd := dv_yes h
  have hi := dvI h
  have hL := dvL h
  unfold moT moD modB
  rw [if_pos h, if_pos h]
  simp only [Bool.and_eq_true, decide_eq_true_eq]
  refine ⟨by unfold ofL; rw [List.length_map]; exact hL.1, ?_, by rw [imgM_ofL]; exact bare_img hi⟩
  unfold thsB
  rw [List.all_eq_true]
  intro t ht
  unfold ofL at ht
  obtain ⟨x, hx, rfl⟩ := List.mem_map.1 ht
  obtain ⟨k, hk, rfl⟩ := List.getElem_of_mem hx
  have q := hL.2.2 k hk
  unfold inoB at q
  simp only [Bool.and_eq_true, decide_eq_true_eq] at q
  unfold thB ofT
  simp only [pgL_len, Bool.and_eq_true, decide_eq_true_eq]
  refine ⟨by omega, ?_⟩
  unfold pwB
  rw [List.all_eq_true]
  intro z hz
  unfold pgL at hz
  obtain ⟨j, _, rfl⟩ := List.mem_map.1 hz
  unfold pgV
  split
  · show wordB (ws[_]?.getD 0) = true
    exact word_at1 (fun x hx => by obtain ⟨k, hk, rfl⟩ := List.getElem_of_mem hx; exact pmB_word hd.1 k hk) _
  · split
    · exact word_at1 (fun x hx => by obtain ⟨k, hk, rfl⟩ := List.getElem_of_mem hx; exact blkB_word hd.2.1 k hk) _
    · decide
end Go.Proofs.YtmeiionabonhnaaGreatDoor

namespace Go.Proofs.YtmeiionabonhnaaGreatDoor
open Go.RowKit
section
variable {P : Program} {ops : Array Oper} {Q : Exit → Act → World → Prop} {md : Region.Mode} {S : World → Prop} {z : Nat}
theorem wpAnyT_takeG {i : Nat} {oi : Oper} {v : Value} {fuel : Nat} {listed : Array Bool} {a : Act} {w : World} (ks : List Nat) (hi : ops[i]? = some oi)
    (hc : (Region.noSelect ops && (Region.free md ops listed i && ((Region.ready md ops listed).contains i && (dcB md ops listed && (pathB md ops z ks && ks.contains i))))) = true)
    (hQ : ∀ c a w, Q (.panic c) (a.put oi.dst v) w → Q (.panic c) a w) (hS : S w) (hy : YieldsIf P ops S oi v a)
    (h : wpAnyT P md ops Q S z fuel (listed.setIfInBounds i true) (a.put oi.dst v) w) : wpAnyT P md ops Q S z (fuel + 1) listed a w := by
  simp only [Bool.and_eq_true] at hc
  obtain ⟨hs, hf, hr, hd, hp, hk⟩ := hc
  exact wpAnyT_first hi (Region.noSelect_spec hs) hQ hp (by simpa using hk) fuel listed a w (DCl.of hd) (Region.free_spec hi hf) (by simpa using hr) hy hS h
end
def waB (ws : List Int) (ps : List St) (es : List Int) (qs : List Se) (hs : List Int) (td : List Mi) (cd vl : Int) (nm : List ByteArray) (fr : Bool) (ts : List Th) (ds : List Den) (ok : Int) (op ot : ByteArray) (og ox : Int) (az : List Aw) (ag : Bool) : Bool := wldB ws ps es qs hs td cd vl nm fr ts ds ok op ot og ox az && (ag && (decide (0 < td.length) || decide (liL ts ds = liL (moT ws ps es qs) (moD ws ps es qs))))
def waC (ws : List Int) (ps : List St) (es : List Int) (qs : List Se) (hs : List Int) (td : List Mi) (cd vl : Int) (nm : List ByteArray) (fr : Bool) (ts : List Th) (ds : List Den) (ok : Int) (op ot : ByteArray) (og ox : Int) (az : List Aw) (_ag : Bool) : Int := if wldB ws ps es qs hs td cd vl nm fr ts ds ok op ot og ox az = true then 0 else 1
set_option maxRecDepth 100000 in
set_option maxHeartbeats 8000000 in
theorem specWorldAgrees_any (v : Value) (ws : List Int) (ps : List St) (es : List Int) (qs : List Se) (hs : List Int) (td : List Mi) (cd vl : Int) (nm : List ByteArray) (fr : Bool) (ts : List Th) (ds : List Den) (ok : Int) (op ot : ByteArray) (og ox : Int) (az : List Aw) (ag : Bool) (w : World) (h : RdWd w v ws ps es qs hs td cd vl nm fr ts ds ok op ot og ox az ag) (hws : ws.length ≤ 1048576) (hps : ps.length ≤ 1048576) (hes : es.length ≤ 1048576) (hqs : qs.length ≤ 1048576) (hhs : hs.length ≤ 1048576) (htd : td.length ≤ 1048576) (hnm : nm.length ≤ 1048576) (hts : ts.length ≤ 1048576) (hds : ds.length ≤ 1048576) (hdn : ∀ k (h : k < ds.length), ds[k].name.size ≤ maxLen) :
    Calls Tryz.prog 19 #[v] w fun e w' => e = .returned (.tuple #[.bool (waB ws ps es qs hs td cd vl nm fr ts ds ok op ot og ox az ag), .int .i64 (waC ws ps es qs hs td cd vl nm fr ts ds ok op ot og ox az ag)]) ∧ Below w.heap.size w w' := by
  have LW := hideIt (fun w1 (hb : Below w.heap.size w w1) => specWorldOK_any v ws ps es qs hs td cd vl nm fr ts ds ok op ot og ox az ag w1 (h.below hb) hws hps hes hqs hhs htd hnm hts hds hdn)
  obtain ⟨aW, cW, aP, cP, aS, cS, aQ, cQ, aH, cH, aT, cT, aN, cN, aG, cG, aD, cD, aR, cR, rfl, f1, m1, a1⟩ := h
  have RM := hideIt m1
  have RD : Hid (∀ w1, Below w.heap.size w w1 → RdDev w1 (.agg #[.slice aW ws.length cW, .slice aP ps.length cP, .slice aS es.length cS, .slice aQ qs.length cQ]) ws ps es qs) := fun w1 hb => by
    obtain ⟨aW', cW', aP', cP', aS', cS', aQ', cQ', aH', cH', aT', cT', aN', cN', e, rd, -⟩ := f1
    cases e
    exact rd.below hb
  clear f1 m1 a1
  have FB : Hid (wldB ws ps es qs hs td cd vl nm fr ts ds ok op ot og ox az = true → (pmB ws ps = true ∧ blkB es qs = true) ∧ modB ts ds = true ∧ (td.length = 0 → ps = [] ∧ qs = [] ∧ dvB ws ps es qs = true)) := fun q => by
    unfold wldB fsB at q
    simp only [Bool.and_eq_true, Bool.or_eq_true, decide_eq_true_eq] at q
    obtain ⟨⟨⟨a, b⟩, -, -, -, r⟩, m, -⟩ := q
    refine ⟨⟨a, b⟩, m, fun t0 => ?_⟩
    rcases r with r | r
    · omega
    · unfold restB at r
      simp only [Bool.and_eq_true, decide_eq_true_eq] at r
      exact ⟨List.length_eq_zero_iff.1 r.2.1, List.length_eq_zero_iff.1 r.2.2.1, r.1⟩
  obtain ⟨A, hA⟩ : ∃ A, A = waB ws ps es qs hs td cd vl nm fr ts ds ok op ot og ox az ag := ⟨_, rfl⟩
  obtain ⟨R, hR⟩ : ∃ R, R = waC ws ps es qs hs td cd vl nm fr ts ds ok op ot og ox az ag := ⟨_, rfl⟩
  have OF : Hid (wldB ws ps es qs hs td cd vl nm fr ts ds ok op ot og ox az = false → A = false ∧ R = 1) := fun q => ⟨by rw [hA]; unfold waB; rw [q]; rfl, by rw [hR]; unfold waC; rw [q]; rfl⟩
  have OT : Hid (wldB ws ps es qs hs td cd vl nm fr ts ds ok op ot og ox az = true → A = (ag && (decide (0 < td.length) || decide (liL ts ds = liL (moT ws ps es qs) (moD ws ps es qs)))) ∧ R = 0) := fun q => ⟨by rw [hA]; unfold waB; rw [q]; rfl, by rw [hR]; unfold waC; rw [q]; rfl⟩
  rw [← hA, ← hR]
  clear hA hR
  have LR : Hid (∀ w1, Below w.heap.size w w1 → pmB ws ps = true → Calls Tryz.prog 48 #[.agg #[.slice aW ws.length cW, .slice aP ps.length cP]] w1 fun e w' => (∃ v', e = .returned (.tuple #[v', .bool (allGood (layW ws ps) 24)]) ∧ (allGood (layW ws ps) 24 = true → RowIm w' w1.heap.size w'.heap.size v' (inosOf (layW ws ps) 16) (densOf (layW ws ps) 24)) ∧ (allGood (layW ws ps) 24 = false → v' = .agg #[.slice none 0 0, .slice none 0 0])) ∧ Below w1.heap.size w1 w') := fun w1 hb hp => l05Read_any _ ws ps w1 (by obtain ⟨vW, vP, vS, vQ, e, a, -⟩ := RD.out w1 hb; cases e; exact a) hp
  have LO : Hid (∀ v2 w1, Below w.heap.size w w1 → dvB ws ps es qs = true → RdIm w1 v2 (inosOf (layW ws ps) 16) (densOf (layW ws ps) 24) → Calls Tryz.prog 49 #[.agg #[.slice aW ws.length cW, .slice aP ps.length cP, .slice aS es.length cS, .slice aQ qs.length cQ], v2] w1 fun e w' => ∃ v', e = .returned v' ∧ RdMd w' v' (moT ws ps es qs) (moD ws ps es qs) ∧ Below w1.heap.size w1 w') := fun v2 w1 hb d h2 => by
    have q := dv_yes d
    have L := dvL d
    rw [← q.2.2.1, ← q.2.2.2.1] at h2
    have e1 : moT ws ps es qs = ofL ws ps es qs (dvN ws ps es qs) := if_pos d
    have e2 : moD ws ps es qs = dvD ws ps es qs := if_pos d
    rw [e1, e2]
    exact (l12Of_any _ v2 ws ps es qs (dvN ws ps es qs) (dvD ws ps es qs) w1 (RD.out w1 hb) q.1 q.2.1 h2 (by rw [L.1]; decide) (by rw [L.2.1]; decide) L.2.2).mono (fun e w' r => by obtain ⟨v', a, b, c⟩ := r; exact ⟨v', a, b.rd, c⟩)
  have LS : Hid (∀ va vb w1, modB (moT ws ps es qs) (moD ws ps es qs) = true → modB ts ds = true → RdMd w1 va (moT ws ps es qs) (moD ws ps es qs) → RdMd w1 vb ts ds → Calls Tryz.prog 42 #[va, vb] w1 fun e w' => e = .returned (.bool (decide (liL (moT ws ps es qs) (moD ws ps es qs) = liL ts ds))) ∧ Below w1.heap.size w1 w') := fun va vb w1 qa qb ha hb => l12Same_any va vb _ ts _ ds w1 ha hb (by
    have := (img_pages (by unfold modB at qa; simp only [Bool.and_eq_true] at qa; exact qa.2.2)).1
    omega) hts qa qb
  clear hws hps hes hqs hhs htd hnm hts hds hdn
  obtain ⟨V, hV⟩ : ∃ V, V = w.alloc (.cells #[.slice aW ws.length cW, .slice aP ps.length cP, .slice aS es.length cS, .slice aQ qs.length cQ, .slice aH hs.length cH, .slice aT td.length cT, .int .i64 cd, .int .i64 vl, .slice aN nm.length cN, .bool fr, .slice aG ts.length cG, .slice aD ds.length cD, .int .i64 ok, .string op, .string ot, .int .i64 og, .int .i64 ox, .slice aR az.length cR, .bool ag] 79) := ⟨_, rfl⟩
  have BV : Hid (Below w.heap.size w V) := by rw [hV]; exact (Below.refl _ _).alloc (Nat.le_refl _) _
  have XV : Hid (V.heap[w.heap.size]? = some (.cells #[.slice aW ws.length cW, .slice aP ps.length cP, .slice aS es.length cS, .slice aQ qs.length cQ, .slice aH hs.length cH, .slice aT td.length cT, .int .i64 cd, .int .i64 vl, .slice aN nm.length cN, .bool fr, .slice aG ts.length cG, .slice aD ds.length cD, .int .i64 ok, .string op, .string ot, .int .i64 og, .int .i64 ox, .slice aR az.length cR, .bool ag] 79 (0, 0))) := by rw [hV]; exact at_new rfl
  have ltV : w.heap.size < V.heap.size := lt_box XV.out
  go_enter Tryz.func19, Tryz.ntmps19
  go_upto_region 1 with fail
  rw [← hV]
  clear hV
  go_wp2_with (refine wpList_loadG (by rfl) 79 (.tmp 1) rfl w.heap.size rfl 79 _ (0, 0) _ XV.out Tryz.underlying79 rfl infoWd ?_)
  refine (LW.out V BV.out).mono ?_
  rintro e w1 ⟨rfl, hb⟩
  have B1 := hideIt (below_trans BV.out hb BV.out.size)
  have X1 := hideIt (box_below XV.out hb ltV)
  have lt1 : w.heap.size < w1.heap.size := lt_box X1.out
  clear hb LW BV XV ltV
  cases qw : wldB ws ps es qs hs td cd vl nm fr ts ds ok op ot og ox az with
  | false =>
    obtain ⟨rfl, rfl⟩ := OF.out qw
    clear OF OT FB LR LO LS qw X1
    go_wp2
    go_ret2
    exact ⟨rfl, B1.out⟩
  | true =>
  obtain ⟨eA, rfl⟩ := OT.out qw
  obtain ⟨⟨hpm, hbk⟩, hmb, hrest⟩ := FB.out qw
  clear OF OT FB qw
  have x5 : w1.cell? ⟨w.heap.size, 5, none⟩ = some (.slice aT td.length cT) := wd_cell X1.out 5 rfl
  by_cases t0 : td.length = 0
  case neg =>
    have t1 : (0 : Int) < (td.length : Int) := by omega
    have x18 : w1.cell? ⟨w.heap.size, 18, none⟩ = some (.bool ag) := wd_cell X1.out 18 rfl
    have e : A = ag := by rw [eA, decide_eq_true (show 0 < td.length by omega)]; simp
    subst e
    clear eA LR LO LS hrest X1 RM RD
    go_wp2
    go_ret2
    exact ⟨rfl, B1.out⟩
  obtain ⟨hp0, hq0, hdv⟩ := hrest t0
  have MO : Hid (modB (moT ws ps es qs) (moD ws ps es qs) = true) := by subst hp0 hq0; exact mo_right hdv
  have AG : Hid (allGood (layW ws ps) 24 = true) := by
    have q := hdv
    unfold dvB riB at q
    simp only [Bool.and_eq_true] at q
    exact q.2.2.1
  have t1 : ¬ (0 : Int) < (td.length : Int) := by omega
  have LR2 := hideIt (fun w1 hb => LR.out w1 hb hpm)
  have LO2 := hideIt (fun v2 w1 hb => LO.out v2 w1 hb hdv)
  have LS2 := hideIt (fun va vb w1 => LS.out va vb w1 MO.out hmb)
  have E0 : Hid (A = (ag && decide (liL (moT ws ps es qs) (moD ws ps es qs) = liL ts ds))) := by
    unfold Hid
    rw [eA, decide_eq_false (show ¬ 0 < td.length by omega), Bool.false_or]
    congr 1
    rw [decide_eq_decide]
    exact ⟨fun q => q.symm, fun q => q.symm⟩
  rw [AG.out] at LR2
  clear eA LR LO LS MO AG hrest hpm hbk hmb hdv RD t0
  generalize decide (liL (moT ws ps es qs) (moD ws ps es qs) = liL ts ds) = sm at *
  generalize moT ws ps es qs = mt at *
  generalize moD ws ps es qs = md at *
  have x0 : w1.cell? ⟨w.heap.size, 0, none⟩ = some (.slice aW ws.length cW) := wd_cell X1.out 0 rfl
  have x1 : w1.cell? ⟨w.heap.size, 1, none⟩ = some (.slice aP ps.length cP) := wd_cell X1.out 1 rfl
  clear hp0 hq0
  go_upto_region 5 with fail
  go_wp2_with fail
  refine (LR2.out w1 B1.out).mono ?_
  rintro e w2 ⟨⟨v2, rfl, hri, -⟩, hb⟩
  have hri2 := (hri trivial).rd
  have B2 := hideIt (below_trans B1.out hb B1.out.size)
  have X2 := hideIt (box_below X1.out hb lt1)
  have lt2 : w.heap.size < w2.heap.size := lt_box X2.out
  clear hb hri LR2 B1 X1 lt1 x0 x1 x5
  have RI2 := hideIt hri2
  obtain ⟨vI, vJ, rfl, hI, hJ⟩ := hri2
  obtain ⟨aI, cI, rfl, -, -⟩ := hI.shape
  obtain ⟨aJ, cJ, rfl, -, -⟩ := hJ.shape
  clear hI hJ
  generalize inosOf (layW ws ps) 16 = IN at *
  generalize densOf (layW ws ps) 24 = DN at *
  obtain ⟨W3, hW3⟩ : ∃ W3, W3 = w2.alloc (.cells #[.slice aI IN.length cI, .slice aJ DN.length cJ] 98) := ⟨_, rfl⟩
  have b3 : Below w2.heap.size w2 W3 := by rw [hW3]; exact (Below.refl _ _).alloc (Nat.le_refl _) _
  have XI : Hid (W3.heap[w2.heap.size]? = some (.cells #[.slice aI IN.length cI, .slice aJ DN.length cJ] 98 (0, 0))) := by rw [hW3]; exact at_new rfl
  have ltI := lt_box XI.out
  have X3 := hideIt (box_below X2.out b3 lt2)
  have B3 := hideIt (below_trans B2.out b3 B2.out.size)
  have RI3 := hideIt (RdIm.below RI2.out b3)
  have lt3 : w.heap.size < W3.heap.size := lt_box X3.out
  go_upto_region 6 with fail
  rw [← hW3]
  clear hW3 b3 X2 B2 RI2 lt2
  have CV : Hid (∀ w', Below W3.heap.size W3 w' → (w'.cell? ⟨w.heap.size, 0, none⟩ = some (.slice aW ws.length cW) ∧ w'.cell? ⟨w.heap.size, 1, none⟩ = some (.slice aP ps.length cP) ∧ w'.cell? ⟨w.heap.size, 2, none⟩ = some (.slice aS es.length cS) ∧ w'.cell? ⟨w.heap.size, 3, none⟩ = some (.slice aQ qs.length cQ)) ∧ (w'.cell? ⟨w.heap.size, 10, none⟩ = some (.slice aG ts.length cG) ∧ w'.cell? ⟨w.heap.size, 11, none⟩ = some (.slice aD ds.length cD) ∧ w'.cell? ⟨w.heap.size, 18, none⟩ = some (.bool ag)) ∧ w'.cell? ⟨w2.heap.size, 0, none⟩ = some (.slice aI IN.length cI) ∧ w'.cell? ⟨w2.heap.size, 1, none⟩ = some (.slice aJ DN.length cJ)) := fun w' hb => by
    have X := box_below X3.out hb lt3
    obtain ⟨i0, i1, -⟩ := two_cells (box_below XI.out hb ltI)
    exact ⟨⟨wd_cell X 0 rfl, wd_cell X 1 rfl, wd_cell X 2 rfl, wd_cell X 3 rfl⟩, ⟨wd_cell X 10 rfl, wd_cell X 11 rfl, wd_cell X 18 rfl⟩, i0, i1⟩
  clear X3 XI
  refine wp_region_T 13 (fun w' => (w'.cell? ⟨w.heap.size, 0, none⟩ = some (.slice aW ws.length cW) ∧ w'.cell? ⟨w.heap.size, 1, none⟩ = some (.slice aP ps.length cP) ∧ w'.cell? ⟨w.heap.size, 2, none⟩ = some (.slice aS es.length cS) ∧ w'.cell? ⟨w.heap.size, 3, none⟩ = some (.slice aQ qs.length cQ)) ∧ (w'.cell? ⟨w.heap.size, 10, none⟩ = some (.slice aG ts.length cG) ∧ w'.cell? ⟨w.heap.size, 11, none⟩ = some (.slice aD ds.length cD) ∧ w'.cell? ⟨w.heap.size, 18, none⟩ = some (.bool ag)) ∧ w'.cell? ⟨w2.heap.size, 0, none⟩ = some (.slice aI IN.length cI) ∧ w'.cell? ⟨w2.heap.size, 1, none⟩ = some (.slice aJ DN.length cJ)) (by kernel_rfl) (CV.out W3 (Below.refl _ _)) (fun hS => ?_)
  refine wpAnyT_take (i := 0) (v := .pointer (some ⟨w.heap.size, 18, none⟩)) [0] rfl (by kernel_rfl) (fun _ _ _ h => h) hS rfl (fun w' hSw => by go_simp) ?_
  go_simp
  refine wpAnyT_take (i := 1) (v := .bool ag) [1] rfl (by kernel_rfl) (fun _ _ _ h => h) hS rfl (fun w' hSw => by have h1 := hSw.2.1.2.2; go_simp) ?_
  go_simp
  refine wpAnyT_take (i := 2) (v := .bool ag) [2] rfl (by kernel_rfl) (fun _ _ _ h => h) hS rfl (fun w' hSw => by go_simp) ?_
  go_simp
  cases ag with
  | false =>
    have e : A = false := E0.out
    subst e
    refine wpAnyT_takeG (i := 3) (v := undef) [3] rfl (by kernel_rfl) (fun _ _ _ h => h) hS (.inr ⟨by rfl, rfl⟩) ?_
    go_simp
    refine wpAnyT_takeG (i := 4) (v := undef) [4] rfl (by kernel_rfl) (fun _ _ _ h => h) hS (.inr ⟨by rfl, rfl⟩) ?_
    go_simp
    refine wpAnyT_takeG (i := 5) (v := undef) [5] rfl (by kernel_rfl) (fun _ _ _ h => h) hS (.inr ⟨by rfl, rfl⟩) ?_
    go_simp
    refine wpAnyT_takeG (i := 6) (v := undef) [6] rfl (by kernel_rfl) (fun _ _ _ h => h) hS (.inr ⟨by rfl, rfl⟩) ?_
    go_simp
    refine wpAnyT_takeG (i := 7) (v := undef) [7] rfl (by kernel_rfl) (fun _ _ _ h => h) hS (.inr ⟨by rfl, rfl⟩) ?_
    go_simp
    refine wpAnyT_takeG (i := 8) (v := undef) [8] rfl (by kernel_rfl) (fun _ _ _ h => h) hS (.inr ⟨by rfl, rfl⟩) ?_
    go_simp
    refine wpAnyT_takeG (i := 9) (v := undef) [9] rfl (by kernel_rfl) (fun _ _ _ h => h) hS (.inr ⟨by rfl, rfl⟩) ?_
    go_simp
    refine wpAnyT_takeG (i := 10) (v := undef) [10] rfl (by kernel_rfl) (fun _ _ _ h => h) hS (.inr ⟨by rfl, rfl⟩) ?_
    go_simp
    refine wpAnyT_take (i := 11) (v := .bool false) [11] rfl (by kernel_rfl) (fun _ _ _ h => h) hS rfl (fun w' hSw => by go_simp) ?_
    go_simp
    refine wpAnyT_one (i := 12) rfl (by kernel_rfl) (fun K hK => ?_)
    go_simp
    refine hK.out _ _ (fun _ => hS) ?_
    clear hK K
    go_simp
    refine wpAnyT_one (i := 13) rfl (by kernel_rfl) (fun K hK => ?_)
    go_simp
    refine hK.out _ _ (fun h => absurd rfl h) ?_
    clear hK K
    go_simp
    have B4 := hideIt B3.out
    clear hS CV LO2 LS2 E0 RI3 RM
    refine wpAnyT_done (by kernel_rfl) ?_ _
    go_wp2
    go_ret2
    exact ⟨rfl, B4.out.drew⟩
  | true =>
    have e : A = sm := by rw [E0.out]; rfl
    subst e
    refine wpAnyT_takeG (i := 3) (v := .pointer (some ⟨w.heap.size, 0, none⟩)) [3] rfl (by kernel_rfl) (fun _ _ _ h => h) hS (.inl ⟨by rfl, fun w' hSw => by go_simp⟩) ?_
    go_simp
    refine wpAnyT_takeG (i := 4) (v := .pointer (some ⟨w.heap.size, 0, none⟩)) [4] rfl (by kernel_rfl) (fun _ _ _ h => h) hS (.inl ⟨by rfl, fun w' hSw => by go_simp⟩) ?_
    go_simp
    refine wpAnyT_takeG (i := 5) (v := .agg #[.slice aW ws.length cW, .slice aP ps.length cP, .slice aS es.length cS, .slice aQ qs.length cQ]) [5] rfl (by kernel_rfl) (fun _ _ _ h => h) hS (.inl ⟨by rfl, fun w' hSw => by obtain ⟨⟨h0, h1, h2, h3⟩, -, -⟩ := hSw; go_simp⟩) ?_
    go_simp
    refine wpAnyT_takeG (i := 6) (v := .agg #[.slice aI IN.length cI, .slice aJ DN.length cJ]) [6] rfl (by kernel_rfl) (fun _ _ _ h => h) hS (.inl ⟨by rfl, fun w' hSw => by obtain ⟨-, -, h0, h1⟩ := hSw; go_simp⟩) ?_
    go_simp
    refine wpAnyT_takeG (i := 8) (v := .pointer (some ⟨w.heap.size, 10, none⟩)) [8] rfl (by kernel_rfl) (fun _ _ _ h => h) hS (.inl ⟨by rfl, fun w' hSw => by go_simp⟩) ?_
    go_simp
    refine wpAnyT_takeG (i := 9) (v := .agg #[.slice aG ts.length cG, .slice aD ds.length cD]) [9] rfl (by kernel_rfl) (fun _ _ _ h => h) hS (.inl ⟨by rfl, fun w' hSw => by obtain ⟨-, ⟨h0, h1, -⟩, -⟩ := hSw; go_simp⟩) ?_
    go_simp
    refine wpAnyT_one (i := 7) rfl (by kernel_rfl) (fun K hK => ?_)
    go_simp
    go_at_call 49
    refine (LO2.out _ _ (by first | exact B3.out | exact B3.out.drew) (by first | exact RI3.out | exact RdIm.below RI3.out ((Below.refl _ _).drew))).mono ?_
    rintro e w4 ⟨v4, rfl, hr4, hb4⟩
    have b4 : Below W3.heap.size W3 w4 := by first | exact hb4 | exact below_trans ((Below.refl _ _).drew) hb4 (Nat.le_refl _)
    have B4 := hideIt (below_trans B3.out b4 B3.out.size)
    have S4 := CV.out w4 b4
    have R4 := hideIt hr4
    obtain ⟨aU, cU, aZ, cZ, rfl⟩ := hr4.form
    refine hK.out _ _ (fun _ => S4) ?_
    clear hK K hS hb4 hr4
    go_simp
    refine wpAnyT_one (i := 10) rfl (by kernel_rfl) (fun K hK => ?_)
    go_simp
    go_at_call 42
    refine (LS2.out _ _ _ (by first | exact R4.out | exact R4.out.below ((Below.refl _ _).drew)) (by first | exact RM.out.below B4.out | exact RM.out.below B4.out.drew)).mono ?_
    rintro e w5 ⟨rfl, hb5⟩
    have b5 : Below w4.heap.size w4 w5 := by first | exact hb5 | exact below_trans ((Below.refl _ _).drew) hb5 (Nat.le_refl _)
    have B5 := hideIt (below_trans B4.out b5 B4.out.size)
    have S5 := CV.out w5 (below_trans b4 b5 b4.size)
    refine hK.out _ _ (fun _ => S5) ?_
    clear hK K hb5 b5 b4 S4 R4 B4 LS2 LO2 RM RI3 B3
    go_simp
    refine wpAnyT_take (i := 11) (v := .bool A) [11] rfl (by kernel_rfl) (fun _ _ _ h => h) S5 rfl (fun w' hSw => by go_simp) ?_
    go_simp
    refine wpAnyT_one (i := 12) rfl (by kernel_rfl) (fun K hK => ?_)
    go_simp
    refine hK.out _ _ (fun _ => S5) ?_
    clear hK K
    go_simp
    refine wpAnyT_one (i := 13) rfl (by kernel_rfl) (fun K hK => ?_)
    go_simp
    refine hK.out _ _ (fun h => absurd rfl h) ?_
    clear hK K S5 CV E0
    go_simp
    refine wpAnyT_done (by kernel_rfl) ?_ _
    go_wp2
    go_ret2
    exact ⟨rfl, by first | exact B5.out | exact B5.out.drew⟩
end Go.Proofs.YtmeiionabonhnaaGreatDoor

namespace Go.Proofs.YtmeiionabonhnaaGreatDoor
open Go.RowKit
def NW (w : World) : Prop := ∃ t fr, w.heap[4]? = some (.cells #[.int .i64 (-1), .int .i64 0] t fr)
theorem NW.lt {w : World} (h : NW w) : 4 < w.heap.size := by
  obtain ⟨t, fr, h⟩ := h
  exact (Array.getElem?_eq_some_iff.1 h).1
theorem NW.later {w w' : World} {B : Nat} (h : NW w) (hB : 4 < B) (hb : Below B w w') : NW w' := by
  obtain ⟨t, fr, h⟩ := h
  exact ⟨t, fr, (hb.block 4 hB).trans h⟩
theorem NW.below {w w' : World} (h : NW w) (hb : Below w.heap.size w w') : NW w' := h.later h.lt hb
theorem NW.cells {w : World} (h : NW w) : w.cell? ⟨4, 0, none⟩ = some (.int .i64 (-1)) ∧ w.cell? ⟨4, 1, none⟩ = some (.int .i64 0) := by
  obtain ⟨t, fr, h⟩ := h
  simp [World.cell?, h]
def lwStep (at_ : Int) (acc : Se × Int) (p : Se) : Se × Int := if p.at_ = at_ ∧ 0 < acc.2 then (p, acc.2 - 1) else acc
def lwR (at_ most : Int) (ps : List Se) : Se × Int := ps.foldl (lwStep at_) (⟨-1, 0⟩, most)
def lastM (at_ most : Int) (ps : List Se) : Se := (lwR at_ most ps).1
theorem lwR_snoc (at_ most : Int) (ps : List Se) (p : Se) : lwR at_ most (ps ++ [p]) = lwStep at_ (lwR at_ most ps) p := by simp [lwR]
theorem lwR_hit {at_ most : Int} {ps : List Se} {m : Nat} (hm : m < ps.length) (h : ps[m].at_ = at_) (h0 : 0 < (lwR at_ most (ps.take m)).2) : lwR at_ most (ps.take (m + 1)) = (ps[m], (lwR at_ most (ps.take m)).2 - 1) := by
  rw [take_snoc ps m hm, lwR_snoc]
  unfold lwStep
  rw [if_pos ⟨h, h0⟩]
theorem lwR_miss {at_ most : Int} {ps : List Se} {m : Nat} (hm : m < ps.length) (h : ¬ (ps[m].at_ = at_ ∧ 0 < (lwR at_ most (ps.take m)).2)) : lwR at_ most (ps.take (m + 1)) = lwR at_ most (ps.take m) := by
  rw [take_snoc ps m hm, lwR_snoc]
  unfold lwStep
  rw [if_neg h]
structure LwInv (w wr : World) (s : Se) : Prop where
  last : wr.heap[w.heap.size + 1]? = some (.cells #[.int .i64 s.at_, .int .i64 s.val] 276 (0, 0))
  res : wr.heap[w.heap.size]? = some (.cells #[.int .i64 0, .int .i64 0] 276 (0, 0))
  below : Below w.heap.size w wr
theorem LwInv.alloc {w wr : World} {s : Se} (h : LwInv w wr s) (o : Obj) : LwInv w (wr.alloc o) s :=
  ⟨at_old h.last, at_old h.res, h.below.alloc h.below.size o⟩
theorem LwInv.set {w wr : World} {s : Se} (h : LwInv w wr s) (p : Se) : LwInv w ((wr.setCell ⟨w.heap.size + 1, 0, none⟩ (.int .i64 p.at_)).setCell ⟨w.heap.size + 1, 1, none⟩ (.int .i64 p.val)) p :=
  ⟨two_set1 (two_set0 h.last _) _, by rw [Below.heap_setCell _ _ _ _ (by simp only; omega), Below.heap_setCell _ _ _ _ (by simp only; omega)]; exact h.res, (h.below.setCell (by simp only; omega) _).setCell (by simp only; omega) _⟩
set_option maxHeartbeats 4000000 in
theorem lastWrite_any (v : Value) (ps : List Se) (at_ most : Int) (w : World) (h : RdE w v ps) (hG : NW w) (hp : ps.length ≤ 1048576) (h0 : 0 ≤ most) (h1 : most ≤ 400) :
    Calls Tryz.prog 273 #[v, .int .i64 at_, .int .i64 most] w fun e w' => e = .returned (.agg #[.int .i64 (lastM at_ most ps).at_, .int .i64 (lastM at_ most ps).val]) ∧ Below w.heap.size w w' := by
  obtain ⟨aP, cP, rfl, _, hcP⟩ := h.shape
  have HP := hideIt hcP
  have hw0 := hG.lt
  have hb0 : Below w.heap.size w (w.alloc (.cells #[.int .i64 0, .int .i64 0] 276)) := (Below.refl _ _).alloc (Nat.le_refl _) _
  obtain ⟨g0, g1⟩ := (hG.below hb0).cells
  have INV : Hid (LwInv w ((w.alloc (.cells #[.int .i64 0, .int .i64 0] 276)).alloc (.cells #[.int .i64 (-1), .int .i64 0] 276)) (lwR at_ most (ps.take 0)).1) :=
    ⟨at_new (by simp), at_old (at_new rfl), hb0.alloc (by simp) _⟩
  clear h hcP hb0
  go_enter Tryz.func273, Tryz.ntmps273
  go_wp2
  go_loopw [2, 9, 13] (fun mo _ i wr => ∃ m : Nat, m ≤ ps.length ∧ i = .int .i64 m ∧ mo = .int .i64 (lwR at_ most (ps.take m)).2 ∧ (0 ≤ (lwR at_ most (ps.take m)).2 ∧ (lwR at_ most (ps.take m)).2 ≤ most) ∧ Hid (LwInv w wr (lwR at_ most (ps.take m)).1)) (fun _ _ i _ => ps.length - (intOf i).toNat)
  case atStart => exact ⟨0, by omega, rfl, rfl, ⟨h0, Int.le_refl _⟩, INV⟩
  case round =>
    obtain ⟨m, hm, rfl, rfl, ⟨hm0, hm1⟩, I⟩ := hrel
    by_cases hlt : m < ps.length
    · obtain ⟨b, o, rfl, hbl, hcell⟩ := HP.out (by omega)
      obtain ⟨c0, c1⟩ := hcell m hlt
      have d0 := (I.out.below.cell (p := ⟨b, o + m * 2, none⟩) hbl).trans c0
      have d1 := (I.out.below.cell (p := ⟨b, o + m * 2 + 1, none⟩) hbl).trans c1
      have hzr : w.heap.size + 2 ≤ wr.heap.size := (Array.getElem?_eq_some_iff.1 I.out.last).1
      obtain ⟨y0, y1, y2, y3⟩ := two_cells (at_old (o := .cells #[.int .i64 ps[m].at_, .int .i64 ps[m].val] 276) I.out.last)
      clear hcell c0 c1
      by_cases q : ps[m].at_ = at_
      · have q' : (ps[m].at_ == at_) = true := by simpa using q
        by_cases q2 : 0 < (lwR at_ most (ps.take m)).2
        · have E := hideIt (lwR_hit hlt q q2)
          have I1 := hideIt ((I.out.alloc (.cells #[.int .i64 ps[m].at_, .int .i64 ps[m].val] 276)).set ps[m])
          have I2 := hideIt ((I.out.set ps[m]).alloc (.cells #[.int .i64 ps[m].at_, .int .i64 ps[m].val] 276))
          generalize (lwR at_ most (ps.take m)).2 = mo at *
          clear q
          go_wp2
          go_roundw
          case rel =>
            refine ⟨m + 1, by omega, by go_num, ?_, ?_, ?_⟩
            · rw [E.out]
            · rw [E.out]; exact ⟨by show 0 ≤ mo - 1; omega, by show mo - 1 ≤ most; omega⟩
            · rw [E.out]
              first | exact I1 | exact I2
          case measure => simp [intOf]; omega
        · have E := hideIt (lwR_miss hlt (fun c => q2 c.2))
          have I1 := hideIt (I.out.alloc (.cells #[.int .i64 ps[m].at_, .int .i64 ps[m].val] 276))
          have e0 : (lwR at_ most (ps.take m)).2 = 0 := by omega
          have E0 := hideIt e0
          rw [e0]
          clear e0 q q2
          go_wp2
          go_roundw
          case rel =>
            refine ⟨m + 1, by omega, by go_num, ?_, ?_, ?_⟩
            · rw [E.out, E0.out]
            · rw [E.out]; exact ⟨hm0, hm1⟩
            · rw [E.out]; exact I1
          case measure => simp [intOf]; omega
      · have q' : (ps[m].at_ == at_) = false := by simpa using q
        have E := hideIt (lwR_miss (most := most) hlt (fun c => q c.1))
        have I1 := hideIt (I.out.alloc (.cells #[.int .i64 ps[m].at_, .int .i64 ps[m].val] 276))
        clear q
        go_wp2
        go_roundw
        case rel =>
          refine ⟨m + 1, by omega, by go_num, ?_, ?_, ?_⟩
          · rw [E.out]
          · rw [E.out]; exact ⟨hm0, hm1⟩
          · rw [E.out]; exact I1
        case measure => simp [intOf]; omega
    · have e : m = ps.length := by omega
      subst e
      rw [List.take_length] at I
      obtain ⟨y0, y1, y2, y3⟩ := two_cells I.out.last
      obtain ⟨t0, t1, t2, t3⟩ := two_cells I.out.res
      go_wp2
      refine bodyPost_ret (v := .agg #[.int .i64 (lwR at_ most ps).1.at_, .int .i64 (lwR at_ most ps).1.val]) (by simp [results, Tryz.results273, go_sem, t0, t1]) rfl ?_
      exact ⟨rfl, (I.out.below.setCell (by simp only; omega) _).setCell (by simp only; omega) _⟩
end Go.Proofs.YtmeiionabonhnaaGreatDoor
