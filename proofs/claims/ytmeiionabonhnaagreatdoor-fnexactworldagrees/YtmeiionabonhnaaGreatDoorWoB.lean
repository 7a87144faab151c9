/- Which worlds are right: by the model and by the program. -/
import Derived.Test.YtmeiionabonhnaaGreatDoorWoA
import Derived.Test.YtmeiionabonhnaaGreatDoorZBD
import Derived.Test.YtmeiionabonhnaaGreatDoorFqE
import Derived.Test.YtmeiionabonhnaaGreatDoorZBH
import Derived.Test.YtmeiionabonhnaaGreatDoorMeB
import Derived.Test.YtmeiionabonhnaaGreatDoorZAO
import Derived.Deep.QuietTactic
namespace Go.Proofs.YtmeiionabonhnaaGreatDoor
open Go.RowKit
structure Veil (p : Prop) : Prop where
  un : p
section
variable {P : Program} {C : World → Prop} {K : Act → Prop} {o : Oper} {a : Act}
theorem vq_step {ops : Array Oper} {Q : Act → Prop} {rest : List Oper} (h : ∀ K : Act → Prop, (∀ a, Veil (wpQuiet P ops C Q rest a) → K a) → if Region.wanted o (yielded ops a.tmps) then o.quiet P a C K else K (a.put o.dst undef)) : Veil (wpQuiet P ops C Q (o :: rest) a) :=
  ⟨wpQuiet_step fun K hK => h K (fun a q => hK a q.un)⟩
theorem vq_want {ops : Array Oper} {Q : Act → Prop} {rest : List Oper} (hw : Region.wanted o (yielded ops a.tmps) = true) (h : ∀ K : Act → Prop, (∀ a, Veil (wpQuiet P ops C Q rest a) → K a) → o.quiet P a C K) : Veil (wpQuiet P ops C Q (o :: rest) a) :=
  vq_step fun K hK => by rw [if_pos hw]; exact h K hK
theorem vq_nil {ops : Array Oper} {Q : Act → Prop} (h : Q a) : Veil (wpQuiet P ops C Q [] a) := ⟨h⟩
theorem wpList_loadG {ops : Array Oper} {rest : List Oper} {w : World} {Q : Exit → Act → World → Prop} (hw : Region.wanted o (yielded ops a.tmps) = true) (ty : TypeId) (x : Operand) (ho : o.op = .load ty x)
    (g : Nat) (hx : a.eval x = .pointer (some ⟨g, 0, none⟩)) (t : TypeId) (cs : Array Value) (fr : Nat × Nat) (d : TypeDesc) (hg : w.heap[g]? = some (.cells cs t fr))
    (hu : P.underlying ty = some d) (hd : (match d with | .struct _ | .array _ _ => true | _ => false) = true) (hi : (P.info? ty).map (·.size) = some cs.size)
    (h : wpList P ops Q rest (a.put o.dst (.agg cs)) w) : wpList P ops Q (o :: rest) a w :=
  wpList_step fun K' hK => by
    rw [if_pos hw]
    exact wp_load_row ty x ho g hx t cs fr d hg hu hd hi (hK _ _ h)
theorem quiet_load (ty : TypeId) (x : Operand) (p : Addr) (v : Value) (ho : o.op = .load ty x) (hx : a.eval x = .pointer (some p)) (hl : ∀ w, C w → (loadVar ty p).run P w = .ok v w) (hk : K (a.put o.dst v)) : o.quiet P a C K := by
  refine ⟨v, fun w hw => ?_, hk⟩
  unfold Oper.quietAt execOp
  simp only [ho, hx, Instr.loadAt, Instr.sureAddr, Sem.run_bind, Sem.run_pure, Result.andThen_ok, hl w hw]
  exact ⟨rfl, rfl⟩
end
def opN (ok : Int) (op ot : ByteArray) (og ox : Int) : Bool := opEq ok op ot og ox 0 ⟨#[]⟩ ⟨#[]⟩ 0 0
def doB (ok : Int) (op ot : ByteArray) (og ox : Int) (fr : Bool) : Bool := if fr then opB ok op ot og ox else opN ok op ot og ox
def wldB (ws : List Int) (ps : List St) (es : List Int) (qs : List Se) (hs : List Int) (td : List Mi) (cd vl : Int) (nm : List ByteArray) (fr : Bool) (ts : List Th) (ds : List Den) (ok : Int) (op ot : ByteArray) (og ox : Int) (az : List Aw) : Bool := fsB ws ps es qs hs td cd vl nm fr && (modB ts ds && (doB ok op ot og ox fr && decide (az.length ≤ 80)))
theorem opN_no {ok : Int} {op ot : ByteArray} {og ox : Int} (h : opN ok op ot og ox = true) : opB ok op ot og ox = false := by
  unfold opN opEq at h
  simp only [Bool.and_eq_true, beq_iff_eq] at h
  refine op_out (fun q => ?_)
  have := q.1.1
  have e : ok = 0 := by have := h; first | exact h.1 | exact h.1.1 | exact h.1.1.1 | exact h.1.1.1.1
  omega
set_option maxRecDepth 100000 in
set_option maxHeartbeats 8000000 in
theorem specWorldOK_any (v : Value) (ws : List Int) (ps : List St) (es : List Int) (qs : List Se) (hs : List Int) (td : List Mi) (cd vl : Int) (nm : List ByteArray) (fr : Bool) (ts : List Th) (ds : List Den) (ok : Int) (op ot : ByteArray) (og ox : Int) (az : List Aw) (ag : Bool) (w : World) (h : RdWd w v ws ps es qs hs td cd vl nm fr ts ds ok op ot og ox az ag) (hws : ws.length ≤ 1048576) (hps : ps.length ≤ 1048576) (hes : es.length ≤ 1048576) (hqs : qs.length ≤ 1048576) (hhs : hs.length ≤ 1048576) (htd : td.length ≤ 1048576) (hnm : nm.length ≤ 1048576) (hts : ts.length ≤ 1048576) (hds : ds.length ≤ 1048576) (hdn : ∀ k (h : k < ds.length), ds[k].name.size ≤ maxLen) :
    Calls Tryz.prog 47 #[v] w fun e w' => e = .returned (.bool (wldB ws ps es qs hs td cd vl nm fr ts ds ok op ot og ox az)) ∧ Below w.heap.size w w' := by
  obtain ⟨aW, cW, aP, cP, aS, cS, aQ, cQ, aH, cH, aT, cT, aN, cN, aG, cG, aD, cD, aR, cR, rfl, f1, m1, a1⟩ := h
  obtain ⟨F, eF⟩ : ∃ F, F = fsB ws ps es qs hs td cd vl nm fr := ⟨_, rfl⟩
  obtain ⟨M, eM⟩ : ∃ M, M = modB ts ds := ⟨_, rfl⟩
  obtain ⟨P, eP⟩ : ∃ P, P = opB ok op ot og ox := ⟨_, rfl⟩
  have LF : Hid (∀ w1, Below w.heap.size w w1 → Calls Tryz.prog 89 #[.agg #[.slice aW ws.length cW, .slice aP ps.length cP, .slice aS es.length cS, .slice aQ qs.length cQ, .slice aH hs.length cH, .slice aT td.length cT, .int .i64 cd, .int .i64 vl, .slice aN nm.length cN, .bool fr]] w1 fun e w' => e = .returned (.bool F) ∧ Below w1.heap.size w1 w') := fun w1 hb => by rw [eF]; exact specFsOK_any _ ws ps es qs hs td cd vl nm fr w1 (f1.below hb) hws hps hes hqs hhs htd hnm
  have LM : Hid (∀ w1, Below w.heap.size w w1 → Calls Tryz.prog 29 #[.agg #[.slice aG ts.length cG, .slice aD ds.length cD]] w1 fun e w' => e = .returned (.bool M) ∧ Below w1.heap.size w1 w') := fun w1 hb => by rw [eM]; exact specModelOK_any _ ts ds w1 (m1.below hb) hts hds hdn
  have LO : Hid (∀ w1, Calls Tryz.prog 90 #[.agg #[.int .i64 ok, .string op, .string ot, .int .i64 og, .int .i64 ox]] w1 fun e w' => e = .returned (.bool P) ∧ Below w1.heap.size w1 w') := fun w1 => by rw [eP]; exact specOpOK_any ok op ot og ox w1
  have FB : Hid (wldB ws ps es qs hs td cd vl nm fr ts ds ok op ot og ox az = (F && (M && (doB ok op ot og ox fr && decide (az.length ≤ 80))))) := by unfold Hid wldB; rw [← eF, ← eM]
  have DA : Hid (opN ok op ot og ox = true → doB ok op ot og ox fr = !fr) := fun q => by
    unfold doB
    rw [opN_no q, q]
    cases fr <;> rfl
  have DB : Hid (opN ok op ot og ox = false → doB ok op ot og ox fr = (P && fr)) := fun q => by
    unfold doB
    rw [q, ← eP]
    cases fr <;> cases P <;> rfl
  have OE : Hid (opEq ok op ot og ox 0 ⟨#[]⟩ ⟨#[]⟩ 0 0 = opN ok op ot og ox) := rfl
  generalize opN ok op ot og ox = z at *
  generalize doB ok op ot og ox fr = dd at *
  generalize wldB ws ps es qs hs td cd vl nm fr ts ds ok op ot og ox az = r at *
  clear eF eM eP f1 m1 a1 hws hps hes hqs hhs htd hnm hts hds hdn
  obtain ⟨V, hV⟩ : ∃ V, V = w.alloc (.cells #[.slice aW ws.length cW, .slice aP ps.length cP, .slice aS es.length cS, .slice aQ qs.length cQ, .slice aH hs.length cH, .slice aT td.length cT, .int .i64 cd, .int .i64 vl, .slice aN nm.length cN, .bool fr, .slice aG ts.length cG, .slice aD ds.length cD, .int .i64 ok, .string op, .string ot, .int .i64 og, .int .i64 ox, .slice aR az.length cR, .bool ag] 79) := ⟨_, rfl⟩
  have BV : Hid (Below w.heap.size w V) := by rw [hV]; exact (Below.refl _ _).alloc (Nat.le_refl _) _
  have XV : Hid (V.heap[w.heap.size]? = some (.cells #[.slice aW ws.length cW, .slice aP ps.length cP, .slice aS es.length cS, .slice aQ qs.length cQ, .slice aH hs.length cH, .slice aT td.length cT, .int .i64 cd, .int .i64 vl, .slice aN nm.length cN, .bool fr, .slice aG ts.length cG, .slice aD ds.length cD, .int .i64 ok, .string op, .string ot, .int .i64 og, .int .i64 ox, .slice aR az.length cR, .bool ag] 79 (0, 0))) := by rw [hV]; exact at_new rfl
  have ltV : w.heap.size < V.heap.size := lt_box XV.out
  go_enter Tryz.func47, Tryz.ntmps47
  go_upto_region 1 with fail
  rw [← hV]
  clear hV
  have JF : Hid (∀ w1, Below V.heap.size V w1 → (loadVar 75 ⟨w.heap.size, 0, none⟩).run Tryz.prog w1 = .ok (.agg #[.slice aW ws.length cW, .slice aP ps.length cP, .slice aS es.length cS, .slice aQ qs.length cQ, .slice aH hs.length cH, .slice aT td.length cT, .int .i64 cd, .int .i64 vl, .slice aN nm.length cN, .bool fr]) w1) := fun w1 hb => by
    have X := box_below XV.out hb ltV
    have x0 : w1.cell? ⟨w.heap.size, 0, none⟩ = some (.slice aW ws.length cW) := wd_cell X 0 rfl
    have x1 : w1.cell? ⟨w.heap.size, 1, none⟩ = some (.slice aP ps.length cP) := wd_cell X 1 rfl
    have x2 : w1.cell? ⟨w.heap.size, 2, none⟩ = some (.slice aS es.length cS) := wd_cell X 2 rfl
    have x3 : w1.cell? ⟨w.heap.size, 3, none⟩ = some (.slice aQ qs.length cQ) := wd_cell X 3 rfl
    have x4 : w1.cell? ⟨w.heap.size, 4, none⟩ = some (.slice aH hs.length cH) := wd_cell X 4 rfl
    have x5 : w1.cell? ⟨w.heap.size, 5, none⟩ = some (.slice aT td.length cT) := wd_cell X 5 rfl
    have x6 : w1.cell? ⟨w.heap.size, 6, none⟩ = some (.int .i64 cd) := wd_cell X 6 rfl
    have x7 : w1.cell? ⟨w.heap.size, 7, none⟩ = some (.int .i64 vl) := wd_cell X 7 rfl
    have x8 : w1.cell? ⟨w.heap.size, 8, none⟩ = some (.slice aN nm.length cN) := wd_cell X 8 rfl
    have x9 : w1.cell? ⟨w.heap.size, 9, none⟩ = some (.bool fr) := wd_cell X 9 rfl
    go_simp
  have JM : Hid (∀ w1, Below V.heap.size V w1 → (loadVar 33 ⟨w.heap.size, 10, none⟩).run Tryz.prog w1 = .ok (.agg #[.slice aG ts.length cG, .slice aD ds.length cD]) w1) := fun w1 hb => by
    have X := box_below XV.out hb ltV
    have x10 : w1.cell? ⟨w.heap.size, 10, none⟩ = some (.slice aG ts.length cG) := wd_cell X 10 rfl
    have x11 : w1.cell? ⟨w.heap.size, 11, none⟩ = some (.slice aD ds.length cD) := wd_cell X 11 rfl
    go_simp
  have JO : Hid (∀ w1, Below V.heap.size V w1 → (loadVar 76 ⟨w.heap.size, 12, none⟩).run Tryz.prog w1 = .ok (.agg #[.int .i64 ok, .string op, .string ot, .int .i64 og, .int .i64 ox]) w1) := fun w1 hb => by
    have X := box_below XV.out hb ltV
    have x12 : w1.cell? ⟨w.heap.size, 12, none⟩ = some (.int .i64 ok) := wd_cell X 12 rfl
    have x13 : w1.cell? ⟨w.heap.size, 13, none⟩ = some (.string op) := wd_cell X 13 rfl
    have x14 : w1.cell? ⟨w.heap.size, 14, none⟩ = some (.string ot) := wd_cell X 14 rfl
    have x15 : w1.cell? ⟨w.heap.size, 15, none⟩ = some (.int .i64 og) := wd_cell X 15 rfl
    have x16 : w1.cell? ⟨w.heap.size, 16, none⟩ = some (.int .i64 ox) := wd_cell X 16 rfl
    go_simp
  have JB : Hid (∀ w1, Below V.heap.size V w1 → (loadVar 4 ⟨w.heap.size, 9, none⟩).run Tryz.prog w1 = .ok (.bool fr) w1) := fun w1 hb => by
    have X := box_below XV.out hb ltV
    have x9 : w1.cell? ⟨w.heap.size, 9, none⟩ = some (.bool fr) := wd_cell X 9 rfl
    go_simp
  have JA : Hid (∀ w1, Below V.heap.size V w1 → (loadVar 77 ⟨w.heap.size, 17, none⟩).run Tryz.prog w1 = .ok (.slice aR az.length cR) w1) := fun w1 hb => by
    have X := box_below XV.out hb ltV
    have x17 : w1.cell? ⟨w.heap.size, 17, none⟩ = some (.slice aR az.length cR) := wd_cell X 17 rfl
    go_simp
  have CF : Hid (∀ w1, Below V.heap.size V w1 → Calls Tryz.prog 89 #[.agg #[.slice aW ws.length cW, .slice aP ps.length cP, .slice aS es.length cS, .slice aQ qs.length cQ, .slice aH hs.length cH, .slice aT td.length cT, .int .i64 cd, .int .i64 vl, .slice aN nm.length cN, .bool fr]] w1 fun e w' => e = .returned (.bool F) ∧ Below V.heap.size V w') := fun w1 hb => (LF.out w1 (below_trans BV.out hb BV.out.size)).mono (fun e w' q => ⟨q.1, below_trans hb q.2 hb.size⟩)
  have CM : Hid (∀ w1, Below V.heap.size V w1 → Calls Tryz.prog 29 #[.agg #[.slice aG ts.length cG, .slice aD ds.length cD]] w1 fun e w' => e = .returned (.bool M) ∧ Below V.heap.size V w') := fun w1 hb => (LM.out w1 (below_trans BV.out hb BV.out.size)).mono (fun e w' q => ⟨q.1, below_trans hb q.2 hb.size⟩)
  have CO : Hid (∀ w1, Below V.heap.size V w1 → Calls Tryz.prog 90 #[.agg #[.int .i64 ok, .string op, .string ot, .int .i64 og, .int .i64 ox]] w1 fun e w' => e = .returned (.bool P) ∧ Below V.heap.size V w') := fun w1 hb => (LO.out w1).mono (fun e w' q => ⟨q.1, below_trans hb q.2 hb.size⟩)
  clear LF LM LO XV
  refine wp_region_quiet (C := fun w' => Below V.heap.size V w') (by kernel_rfl) (by kernel_rfl) ((Below.refl _ _).drew) (Veil.un ?_)
  refine vq_step (fun K hK => ?_)
  go_simp
  refine ⟨_, fun _ _ => rfl, hK _ ?_⟩
  clear hK K
  refine vq_want (by rfl) (fun K hK => quiet_load _ (.tmp 3) ⟨w.heap.size, 0, none⟩ _ rfl (by rfl) JF.out (hK _ ?_))
  refine vq_want (by rfl) (fun K hK => ⟨.bool F, fun wx hx => ?_, hK _ ?_⟩)
  · have q := CF.out wx hx
    clear hK K
    unfold Oper.quietAt
    go_simp
    try exact q
  refine vq_step (fun K hK => ?_)
  go_simp
  refine ⟨_, fun _ _ => rfl, hK _ ?_⟩
  clear hK K
  cases F with
  | false =>
    refine vq_step (fun K hK => ?_)
    go_simp
    refine hK _ ?_
    clear hK K
    refine vq_step (fun K hK => ?_)
    go_simp
    refine hK _ ?_
    clear hK K
    refine vq_step (fun K hK => ?_)
    go_simp
    refine hK _ ?_
    clear hK K
    refine vq_step (fun K hK => ?_)
    go_simp
    refine ⟨_, fun _ _ => rfl, hK _ ?_⟩
    clear hK K
    refine vq_step (fun K hK => ?_)
    go_simp
    refine ⟨_, fun _ _ => rfl, hK _ ?_⟩
    clear hK K
    refine vq_step (fun K hK => ?_)
    go_simp
    refine hK _ ?_
    clear hK K
    refine vq_step (fun K hK => ?_)
    go_simp
    refine hK _ ?_
    clear hK K
    refine vq_step (fun K hK => ?_)
    go_simp
    refine hK _ ?_
    clear hK K
    refine vq_step (fun K hK => ?_)
    go_simp
    refine hK _ ?_
    clear hK K
    refine vq_step (fun K hK => ?_)
    go_simp
    refine hK _ ?_
    clear hK K
    refine vq_step (fun K hK => ?_)
    go_simp
    refine hK _ ?_
    clear hK K
    refine vq_step (fun K hK => ?_)
    go_simp
    refine hK _ ?_
    clear hK K
    refine vq_step (fun K hK => ?_)
    go_simp
    refine hK _ ?_
    clear hK K
    refine vq_step (fun K hK => ?_)
    go_simp
    refine hK _ ?_
    clear hK K
    refine vq_step (fun K hK => ?_)
    go_simp
    refine ⟨_, fun _ _ => rfl, hK _ ?_⟩
    clear hK K
    refine vq_step (fun K hK => ?_)
    go_simp
    refine ⟨_, fun _ _ => rfl, hK _ ?_⟩
    clear hK K
    refine vq_step (fun K hK => ?_)
    go_simp
    refine hK _ ?_
    clear hK K
    refine vq_step (fun K hK => ?_)
    go_simp
    refine hK _ ?_
    clear hK K
    refine vq_step (fun K hK => ?_)
    go_simp
    refine hK _ ?_
    clear hK K
    refine vq_step (fun K hK => ?_)
    go_simp
    refine hK _ ?_
    clear hK K
    refine vq_step (fun K hK => ?_)
    go_simp
    refine hK _ ?_
    clear hK K
    refine vq_step (fun K hK => ?_)
    go_simp
    refine hK _ ?_
    clear hK K
    refine vq_step (fun K hK => ?_)
    go_simp
    refine hK _ ?_
    clear hK K
    refine vq_step (fun K hK => ?_)
    go_simp
    refine hK _ ?_
    clear hK K
    refine vq_step (fun K hK => ?_)
    go_simp
    refine ⟨_, fun _ _ => rfl, hK _ ?_⟩
    clear hK K
    refine vq_step (fun K hK => ?_)
    go_simp
    refine ⟨_, fun _ _ => rfl, hK _ ?_⟩
    clear hK K
    refine vq_step (fun K hK => ?_)
    go_simp
    refine hK _ ?_
    clear hK K
    refine vq_step (fun K hK => ?_)
    go_simp
    refine hK _ ?_
    clear hK K
    refine vq_step (fun K hK => ?_)
    go_simp
    refine hK _ ?_
    clear hK K
    refine vq_step (fun K hK => ?_)
    go_simp
    refine hK _ ?_
    clear hK K
    refine vq_step (fun K hK => ?_)
    go_simp
    refine ⟨_, fun _ _ => rfl, hK _ ?_⟩
    clear hK K
    refine vq_step (fun K hK => ?_)
    go_simp
    refine ⟨_, fun _ _ => rfl, hK _ ?_⟩
    clear hK K
    refine vq_nil ?_
    intro w1 hw1
    have B1 := hideIt (below_trans BV.out hw1 BV.out.size)
    clear hw1
    obtain rfl := FB.out
    go_wp2
    go_ret
    exact ⟨rfl, B1.out⟩
  | true =>
  refine vq_step (fun K hK => ?_)
  go_simp
  refine ⟨_, fun _ _ => rfl, hK _ ?_⟩
  clear hK K
  refine vq_want (by rfl) (fun K hK => quiet_load _ (.tmp 7) ⟨w.heap.size, 10, none⟩ _ rfl (by rfl) JM.out (hK _ ?_))
  refine vq_want (by rfl) (fun K hK => ⟨.bool M, fun wx hx => ?_, hK _ ?_⟩)
  · have q := CM.out wx hx
    clear hK K
    unfold Oper.quietAt
    go_simp
    try exact q
  refine vq_step (fun K hK => ?_)
  go_simp
  refine ⟨_, fun _ _ => rfl, hK _ ?_⟩
  clear hK K
  refine vq_step (fun K hK => ?_)
  go_simp
  refine ⟨_, fun _ _ => rfl, hK _ ?_⟩
  clear hK K
  cases M with
  | false =>
    refine vq_step (fun K hK => ?_)
    go_simp
    refine hK _ ?_
    clear hK K
    refine vq_step (fun K hK => ?_)
    go_simp
    refine hK _ ?_
    clear hK K
    refine vq_step (fun K hK => ?_)
    go_simp
    refine hK _ ?_
    clear hK K
    refine vq_step (fun K hK => ?_)
    go_simp
    refine hK _ ?_
    clear hK K
    refine vq_step (fun K hK => ?_)
    go_simp
    refine hK _ ?_
    clear hK K
    refine vq_step (fun K hK => ?_)
    go_simp
    refine hK _ ?_
    clear hK K
    refine vq_step (fun K hK => ?_)
    go_simp
    refine hK _ ?_
    clear hK K
    refine vq_step (fun K hK => ?_)
    go_simp
    refine hK _ ?_
    clear hK K
    refine vq_step (fun K hK => ?_)
    go_simp
    refine hK _ ?_
    clear hK K
    refine vq_step (fun K hK => ?_)
    go_simp
    refine ⟨_, fun _ _ => rfl, hK _ ?_⟩
    clear hK K
    refine vq_step (fun K hK => ?_)
    go_simp
    refine ⟨_, fun _ _ => rfl, hK _ ?_⟩
    clear hK K
    refine vq_step (fun K hK => ?_)
    go_simp
    refine hK _ ?_
    clear hK K
    refine vq_step (fun K hK => ?_)
    go_simp
    refine hK _ ?_
    clear hK K
    refine vq_step (fun K hK => ?_)
    go_simp
    refine hK _ ?_
    clear hK K
    refine vq_step (fun K hK => ?_)
    go_simp
    refine hK _ ?_
    clear hK K
    refine vq_step (fun K hK => ?_)
    go_simp
    refine hK _ ?_
    clear hK K
    refine vq_step (fun K hK => ?_)
    go_simp
    refine hK _ ?_
    clear hK K
    refine vq_step (fun K hK => ?_)
    go_simp
    refine hK _ ?_
    clear hK K
    refine vq_step (fun K hK => ?_)
    go_simp
    refine hK _ ?_
    clear hK K
    refine vq_step (fun K hK => ?_)
    go_simp
    refine ⟨_, fun _ _ => rfl, hK _ ?_⟩
    clear hK K
    refine vq_step (fun K hK => ?_)
    go_simp
    refine ⟨_, fun _ _ => rfl, hK _ ?_⟩
    clear hK K
    refine vq_step (fun K hK => ?_)
    go_simp
    refine hK _ ?_
    clear hK K
    refine vq_step (fun K hK => ?_)
    go_simp
    refine hK _ ?_
    clear hK K
    refine vq_step (fun K hK => ?_)
    go_simp
    refine hK _ ?_
    clear hK K
    refine vq_step (fun K hK => ?_)
    go_simp
    refine hK _ ?_
    clear hK K
    refine vq_step (fun K hK => ?_)
    go_simp
    refine ⟨_, fun _ _ => rfl, hK _ ?_⟩
    clear hK K
    refine vq_step (fun K hK => ?_)
    go_simp
    refine ⟨_, fun _ _ => rfl, hK _ ?_⟩
    clear hK K
    refine vq_nil ?_
    intro w1 hw1
    have B1 := hideIt (below_trans BV.out hw1 BV.out.size)
    clear hw1
    obtain rfl := FB.out
    go_wp2
    go_ret
    exact ⟨rfl, B1.out⟩
  | true =>
  refine vq_step (fun K hK => ?_)
  go_simp
  refine ⟨_, fun _ _ => rfl, hK _ ?_⟩
  clear hK K
  refine vq_want (by rfl) (fun K hK => quiet_load _ (.tmp 12) ⟨w.heap.size, 12, none⟩ _ rfl (by rfl) JO.out (hK _ ?_))
  refine vq_step (fun K hK => ?_)
  go_simp
  refine ⟨_, fun _ _ => rfl, hK _ ?_⟩
  clear hK K
  by_cases ha : az.length ≤ 80
  · have ha' : (az.length : Int) ≤ 80 := by omega
    rw [decide_eq_true ha] at FB
    clear ha
    cases z with
    | true =>
      have oe := OE.out
      obtain rfl := DA.out rfl
      clear OE DA DB
      refine vq_step (fun K hK => ?_)
      go_simp
      refine ⟨_, fun _ _ => rfl, hK _ ?_⟩
      clear hK K
      refine vq_step (fun K hK => ?_)
      go_simp
      refine ⟨_, fun _ _ => rfl, hK _ ?_⟩
      clear hK K
      refine vq_step (fun K hK => ?_)
      go_simp
      refine hK _ ?_
      clear hK K
      refine vq_step (fun K hK => ?_)
      go_simp
      refine hK _ ?_
      clear hK K
      refine vq_step (fun K hK => ?_)
      go_simp
      refine hK _ ?_
      clear hK K
      refine vq_step (fun K hK => ?_)
      go_simp
      refine ⟨_, fun _ _ => rfl, hK _ ?_⟩
      clear hK K
      refine vq_step (fun K hK => ?_)
      go_simp
      refine ⟨_, fun _ _ => rfl, hK _ ?_⟩
      clear hK K
      refine vq_step (fun K hK => ?_)
      go_simp
      refine ⟨_, fun _ _ => rfl, hK _ ?_⟩
      clear hK K
      refine vq_step (fun K hK => ?_)
      go_simp
      refine ⟨_, fun _ _ => rfl, hK _ ?_⟩
      clear hK K
      refine vq_want (by rfl) (fun K hK => quiet_load _ (.tmp 23) ⟨w.heap.size, 12, none⟩ _ rfl (by rfl) JO.out (hK _ ?_))
      refine vq_step (fun K hK => ?_)
      go_simp
      refine ⟨_, fun _ _ => rfl, hK _ ?_⟩
      clear hK K
      refine vq_step (fun K hK => ?_)
      go_simp
      refine ⟨_, fun _ _ => rfl, hK _ ?_⟩
      clear hK K
      refine vq_step (fun K hK => ?_)
      go_simp
      refine ⟨_, fun _ _ => rfl, hK _ ?_⟩
      clear hK K
      refine vq_step (fun K hK => ?_)
      go_simp
      refine ⟨_, fun _ _ => rfl, hK _ ?_⟩
      clear hK K
      refine vq_want (by rfl) (fun K hK => quiet_load _ (.tmp 28) ⟨w.heap.size, 9, none⟩ _ rfl (by rfl) JB.out (hK _ ?_))
      cases fr with
      | true =>
        refine vq_step (fun K hK => ?_)
        go_simp
        refine ⟨_, fun _ _ => rfl, hK _ ?_⟩
        clear hK K
        refine vq_step (fun K hK => ?_)
        go_simp
        refine ⟨_, fun _ _ => rfl, hK _ ?_⟩
        clear hK K
        refine vq_step (fun K hK => ?_)
        go_simp
        refine ⟨_, fun _ _ => rfl, hK _ ?_⟩
        clear hK K
        refine vq_step (fun K hK => ?_)
        go_simp
        refine hK _ ?_
        clear hK K
        refine vq_step (fun K hK => ?_)
        go_simp
        refine hK _ ?_
        clear hK K
        refine vq_step (fun K hK => ?_)
        go_simp
        refine hK _ ?_
        clear hK K
        refine vq_step (fun K hK => ?_)
        go_simp
        refine hK _ ?_
        clear hK K
        refine vq_step (fun K hK => ?_)
        go_simp
        refine ⟨_, fun _ _ => rfl, hK _ ?_⟩
        clear hK K
        refine vq_step (fun K hK => ?_)
        go_simp
        refine ⟨_, fun _ _ => rfl, hK _ ?_⟩
        clear hK K
        refine vq_nil ?_
        intro w1 hw1
        have B1 := hideIt (below_trans BV.out hw1 BV.out.size)
        clear hw1
        obtain rfl := FB.out
        go_wp2
        go_ret
        exact ⟨rfl, B1.out⟩
      | false =>
        refine vq_step (fun K hK => ?_)
        go_simp
        refine ⟨_, fun _ _ => rfl, hK _ ?_⟩
        clear hK K
        refine vq_step (fun K hK => ?_)
        go_simp
        refine ⟨_, fun _ _ => rfl, hK _ ?_⟩
        clear hK K
        refine vq_step (fun K hK => ?_)
        go_simp
        refine ⟨_, fun _ _ => rfl, hK _ ?_⟩
        clear hK K
        refine vq_step (fun K hK => ?_)
        go_simp
        refine ⟨_, fun _ _ => rfl, hK _ ?_⟩
        clear hK K
        refine vq_want (by rfl) (fun K hK => quiet_load _ (.tmp 33) ⟨w.heap.size, 17, none⟩ _ rfl (by rfl) JA.out (hK _ ?_))
        refine vq_step (fun K hK => ?_)
        go_simp
        refine ⟨_, fun _ _ => rfl, hK _ ?_⟩
        clear hK K
        refine vq_step (fun K hK => ?_)
        go_simp
        refine ⟨_, fun _ _ => rfl, hK _ ?_⟩
        clear hK K
        refine vq_step (fun K hK => ?_)
        go_simp
        refine ⟨_, fun _ _ => rfl, hK _ ?_⟩
        clear hK K
        refine vq_step (fun K hK => ?_)
        go_simp
        refine ⟨_, fun _ _ => rfl, hK _ ?_⟩
        clear hK K
        refine vq_nil ?_
        intro w1 hw1
        have B1 := hideIt (below_trans BV.out hw1 BV.out.size)
        clear hw1
        obtain rfl := FB.out
        go_wp2
        go_ret
        exact ⟨rfl, B1.out⟩
    | false =>
      have oe := OE.out
      obtain rfl := DB.out rfl
      clear OE DA DB
      refine vq_step (fun K hK => ?_)
      go_simp
      refine ⟨_, fun _ _ => rfl, hK _ ?_⟩
      clear hK K
      refine vq_step (fun K hK => ?_)
      go_simp
      refine ⟨_, fun _ _ => rfl, hK _ ?_⟩
      clear hK K
      refine vq_step (fun K hK => ?_)
      go_simp
      refine ⟨_, fun _ _ => rfl, hK _ ?_⟩
      clear hK K
      refine vq_want (by rfl) (fun K hK => quiet_load _ (.tmp 17) ⟨w.heap.size, 12, none⟩ _ rfl (by rfl) JO.out (hK _ ?_))
      refine vq_want (by rfl) (fun K hK => ⟨.bool P, fun wx hx => ?_, hK _ ?_⟩)
      · have q := CO.out wx hx
        clear hK K
        unfold Oper.quietAt
        go_simp
        try exact q
      refine vq_step (fun K hK => ?_)
      go_simp
      refine ⟨_, fun _ _ => rfl, hK _ ?_⟩
      clear hK K
      cases P with
      | false =>
        refine vq_step (fun K hK => ?_)
        go_simp
        refine ⟨_, fun _ _ => rfl, hK _ ?_⟩
        clear hK K
        refine vq_step (fun K hK => ?_)
        go_simp
        refine ⟨_, fun _ _ => rfl, hK _ ?_⟩
        clear hK K
        refine vq_step (fun K hK => ?_)
        go_simp
        refine hK _ ?_
        clear hK K
        refine vq_step (fun K hK => ?_)
        go_simp
        refine hK _ ?_
        clear hK K
        refine vq_step (fun K hK => ?_)
        go_simp
        refine hK _ ?_
        clear hK K
        refine vq_step (fun K hK => ?_)
        go_simp
        refine hK _ ?_
        clear hK K
        refine vq_step (fun K hK => ?_)
        go_simp
        refine hK _ ?_
        clear hK K
        refine vq_step (fun K hK => ?_)
        go_simp
        refine hK _ ?_
        clear hK K
        refine vq_step (fun K hK => ?_)
        go_simp
        refine hK _ ?_
        clear hK K
        refine vq_step (fun K hK => ?_)
        go_simp
        refine hK _ ?_
        clear hK K
        refine vq_step (fun K hK => ?_)
        go_simp
        refine ⟨_, fun _ _ => rfl, hK _ ?_⟩
        clear hK K
        refine vq_step (fun K hK => ?_)
        go_simp
        refine ⟨_, fun _ _ => rfl, hK _ ?_⟩
        clear hK K
        refine vq_step (fun K hK => ?_)
        go_simp
        refine hK _ ?_
        clear hK K
        refine vq_step (fun K hK => ?_)
        go_simp
        refine hK _ ?_
        clear hK K
        refine vq_step (fun K hK => ?_)
        go_simp
        refine hK _ ?_
        clear hK K
        refine vq_step (fun K hK => ?_)
        go_simp
        refine hK _ ?_
        clear hK K
        refine vq_step (fun K hK => ?_)
        go_simp
        refine ⟨_, fun _ _ => rfl, hK _ ?_⟩
        clear hK K
        refine vq_step (fun K hK => ?_)
        go_simp
        refine ⟨_, fun _ _ => rfl, hK _ ?_⟩
        clear hK K
        refine vq_nil ?_
        intro w1 hw1
        have B1 := hideIt (below_trans BV.out hw1 BV.out.size)
        clear hw1
        obtain rfl := FB.out
        go_wp2
        go_ret
        exact ⟨rfl, B1.out⟩
      | true =>
        refine vq_step (fun K hK => ?_)
        go_simp
        refine ⟨_, fun _ _ => rfl, hK _ ?_⟩
        clear hK K
        refine vq_step (fun K hK => ?_)
        go_simp
        refine ⟨_, fun _ _ => rfl, hK _ ?_⟩
        clear hK K
        refine vq_step (fun K hK => ?_)
        go_simp
        refine ⟨_, fun _ _ => rfl, hK _ ?_⟩
        clear hK K
        refine vq_want (by rfl) (fun K hK => quiet_load _ (.tmp 23) ⟨w.heap.size, 12, none⟩ _ rfl (by rfl) JO.out (hK _ ?_))
        refine vq_step (fun K hK => ?_)
        go_simp
        refine ⟨_, fun _ _ => rfl, hK _ ?_⟩
        clear hK K
        refine vq_step (fun K hK => ?_)
        go_simp
        refine ⟨_, fun _ _ => rfl, hK _ ?_⟩
        clear hK K
        refine vq_step (fun K hK => ?_)
        go_simp
        refine ⟨_, fun _ _ => rfl, hK _ ?_⟩
        clear hK K
        refine vq_step (fun K hK => ?_)
        go_simp
        refine ⟨_, fun _ _ => rfl, hK _ ?_⟩
        clear hK K
        refine vq_want (by rfl) (fun K hK => quiet_load _ (.tmp 28) ⟨w.heap.size, 9, none⟩ _ rfl (by rfl) JB.out (hK _ ?_))
        cases fr with
        | true =>
          refine vq_step (fun K hK => ?_)
          go_simp
          refine ⟨_, fun _ _ => rfl, hK _ ?_⟩
          clear hK K
          refine vq_step (fun K hK => ?_)
          go_simp
          refine ⟨_, fun _ _ => rfl, hK _ ?_⟩
          clear hK K
          refine vq_step (fun K hK => ?_)
          go_simp
          refine ⟨_, fun _ _ => rfl, hK _ ?_⟩
          clear hK K
          refine vq_step (fun K hK => ?_)
          go_simp
          refine ⟨_, fun _ _ => rfl, hK _ ?_⟩
          clear hK K
          refine vq_want (by rfl) (fun K hK => quiet_load _ (.tmp 33) ⟨w.heap.size, 17, none⟩ _ rfl (by rfl) JA.out (hK _ ?_))
          refine vq_step (fun K hK => ?_)
          go_simp
          refine ⟨_, fun _ _ => rfl, hK _ ?_⟩
          clear hK K
          refine vq_step (fun K hK => ?_)
          go_simp
          refine ⟨_, fun _ _ => rfl, hK _ ?_⟩
          clear hK K
          refine vq_step (fun K hK => ?_)
          go_simp
          refine ⟨_, fun _ _ => rfl, hK _ ?_⟩
          clear hK K
          refine vq_step (fun K hK => ?_)
          go_simp
          refine ⟨_, fun _ _ => rfl, hK _ ?_⟩
          clear hK K
          refine vq_nil ?_
          intro w1 hw1
          have B1 := hideIt (below_trans BV.out hw1 BV.out.size)
          clear hw1
          obtain rfl := FB.out
          go_wp2
          go_ret
          exact ⟨rfl, B1.out⟩
        | false =>
          refine vq_step (fun K hK => ?_)
          go_simp
          refine ⟨_, fun _ _ => rfl, hK _ ?_⟩
          clear hK K
          refine vq_step (fun K hK => ?_)
          go_simp
          refine ⟨_, fun _ _ => rfl, hK _ ?_⟩
          clear hK K
          refine vq_step (fun K hK => ?_)
          go_simp
          refine ⟨_, fun _ _ => rfl, hK _ ?_⟩
          clear hK K
          refine vq_step (fun K hK => ?_)
          go_simp
          refine hK _ ?_
          clear hK K
          refine vq_step (fun K hK => ?_)
          go_simp
          refine hK _ ?_
          clear hK K
          refine vq_step (fun K hK => ?_)
          go_simp
          refine hK _ ?_
          clear hK K
          refine vq_step (fun K hK => ?_)
          go_simp
          refine hK _ ?_
          clear hK K
          refine vq_step (fun K hK => ?_)
          go_simp
          refine ⟨_, fun _ _ => rfl, hK _ ?_⟩
          clear hK K
          refine vq_step (fun K hK => ?_)
          go_simp
          refine ⟨_, fun _ _ => rfl, hK _ ?_⟩
          clear hK K
          refine vq_nil ?_
          intro w1 hw1
          have B1 := hideIt (below_trans BV.out hw1 BV.out.size)
          clear hw1
          obtain rfl := FB.out
          go_wp2
          go_ret
          exact ⟨rfl, B1.out⟩
  · have ha' : ¬ (az.length : Int) ≤ 80 := by omega
    rw [decide_eq_false ha] at FB
    clear ha
    cases z with
    | true =>
      have oe := OE.out
      obtain rfl := DA.out rfl
      clear OE DA DB
      refine vq_step (fun K hK => ?_)
      go_simp
      refine ⟨_, fun _ _ => rfl, hK _ ?_⟩
      clear hK K
      refine vq_step (fun K hK => ?_)
      go_simp
      refine ⟨_, fun _ _ => rfl, hK _ ?_⟩
      clear hK K
      refine vq_step (fun K hK => ?_)
      go_simp
      refine hK _ ?_
      clear hK K
      refine vq_step (fun K hK => ?_)
      go_simp
      refine hK _ ?_
      clear hK K
      refine vq_step (fun K hK => ?_)
      go_simp
      refine hK _ ?_
      clear hK K
      refine vq_step (fun K hK => ?_)
      go_simp
      refine ⟨_, fun _ _ => rfl, hK _ ?_⟩
      clear hK K
      refine vq_step (fun K hK => ?_)
      go_simp
      refine ⟨_, fun _ _ => rfl, hK _ ?_⟩
      clear hK K
      refine vq_step (fun K hK => ?_)
      go_simp
      refine ⟨_, fun _ _ => rfl, hK _ ?_⟩
      clear hK K
      refine vq_step (fun K hK => ?_)
      go_simp
      refine ⟨_, fun _ _ => rfl, hK _ ?_⟩
      clear hK K
      refine vq_want (by rfl) (fun K hK => quiet_load _ (.tmp 23) ⟨w.heap.size, 12, none⟩ _ rfl (by rfl) JO.out (hK _ ?_))
      refine vq_step (fun K hK => ?_)
      go_simp
      refine ⟨_, fun _ _ => rfl, hK _ ?_⟩
      clear hK K
      refine vq_step (fun K hK => ?_)
      go_simp
      refine ⟨_, fun _ _ => rfl, hK _ ?_⟩
      clear hK K
      refine vq_step (fun K hK => ?_)
      go_simp
      refine ⟨_, fun _ _ => rfl, hK _ ?_⟩
      clear hK K
      refine vq_step (fun K hK => ?_)
      go_simp
      refine ⟨_, fun _ _ => rfl, hK _ ?_⟩
      clear hK K
      refine vq_want (by rfl) (fun K hK => quiet_load _ (.tmp 28) ⟨w.heap.size, 9, none⟩ _ rfl (by rfl) JB.out (hK _ ?_))
      cases fr with
      | true =>
        refine vq_step (fun K hK => ?_)
        go_simp
        refine ⟨_, fun _ _ => rfl, hK _ ?_⟩
        clear hK K
        refine vq_step (fun K hK => ?_)
        go_simp
        refine ⟨_, fun _ _ => rfl, hK _ ?_⟩
        clear hK K
        refine vq_step (fun K hK => ?_)
        go_simp
        refine ⟨_, fun _ _ => rfl, hK _ ?_⟩
        clear hK K
        refine vq_step (fun K hK => ?_)
        go_simp
        refine hK _ ?_
        clear hK K
        refine vq_step (fun K hK => ?_)
        go_simp
        refine hK _ ?_
        clear hK K
        refine vq_step (fun K hK => ?_)
        go_simp
        refine hK _ ?_
        clear hK K
        refine vq_step (fun K hK => ?_)
        go_simp
        refine hK _ ?_
        clear hK K
        refine vq_step (fun K hK => ?_)
        go_simp
        refine ⟨_, fun _ _ => rfl, hK _ ?_⟩
        clear hK K
        refine vq_step (fun K hK => ?_)
        go_simp
        refine ⟨_, fun _ _ => rfl, hK _ ?_⟩
        clear hK K
        refine vq_nil ?_
        intro w1 hw1
        have B1 := hideIt (below_trans BV.out hw1 BV.out.size)
        clear hw1
        obtain rfl := FB.out
        go_wp2
        go_ret
        exact ⟨rfl, B1.out⟩
      | false =>
        refine vq_step (fun K hK => ?_)
        go_simp
        refine ⟨_, fun _ _ => rfl, hK _ ?_⟩
        clear hK K
        refine vq_step (fun K hK => ?_)
        go_simp
        refine ⟨_, fun _ _ => rfl, hK _ ?_⟩
        clear hK K
        refine vq_step (fun K hK => ?_)
        go_simp
        refine ⟨_, fun _ _ => rfl, hK _ ?_⟩
        clear hK K
        refine vq_step (fun K hK => ?_)
        go_simp
        refine ⟨_, fun _ _ => rfl, hK _ ?_⟩
        clear hK K
        refine vq_want (by rfl) (fun K hK => quiet_load _ (.tmp 33) ⟨w.heap.size, 17, none⟩ _ rfl (by rfl) JA.out (hK _ ?_))
        refine vq_step (fun K hK => ?_)
        go_simp
        refine ⟨_, fun _ _ => rfl, hK _ ?_⟩
        clear hK K
        refine vq_step (fun K hK => ?_)
        go_simp
        refine ⟨_, fun _ _ => rfl, hK _ ?_⟩
        clear hK K
        refine vq_step (fun K hK => ?_)
        go_simp
        refine ⟨_, fun _ _ => rfl, hK _ ?_⟩
        clear hK K
        refine vq_step (fun K hK => ?_)
        go_simp
        refine ⟨_, fun _ _ => rfl, hK _ ?_⟩
        clear hK K
        refine vq_nil ?_
        intro w1 hw1
        have B1 := hideIt (below_trans BV.out hw1 BV.out.size)
        clear hw1
        obtain rfl := FB.out
        go_wp2
        go_ret
        exact ⟨rfl, B1.out⟩
    | false =>
      have oe := OE.out
      obtain rfl := DB.out rfl
      clear OE DA DB
      refine vq_step (fun K hK => ?_)
      go_simp
      refine ⟨_, fun _ _ => rfl, hK _ ?_⟩
      clear hK K
      refine vq_step (fun K hK => ?_)
      go_simp
      refine ⟨_, fun _ _ => rfl, hK _ ?_⟩
      clear hK K
      refine vq_step (fun K hK => ?_)
      go_simp
      refine ⟨_, fun _ _ => rfl, hK _ ?_⟩
      clear hK K
      refine vq_want (by rfl) (fun K hK => quiet_load _ (.tmp 17) ⟨w.heap.size, 12, none⟩ _ rfl (by rfl) JO.out (hK _ ?_))
      refine vq_want (by rfl) (fun K hK => ⟨.bool P, fun wx hx => ?_, hK _ ?_⟩)
      · have q := CO.out wx hx
        clear hK K
        unfold Oper.quietAt
        go_simp
        try exact q
      refine vq_step (fun K hK => ?_)
      go_simp
      refine ⟨_, fun _ _ => rfl, hK _ ?_⟩
      clear hK K
      cases P with
      | false =>
        refine vq_step (fun K hK => ?_)
        go_simp
        refine ⟨_, fun _ _ => rfl, hK _ ?_⟩
        clear hK K
        refine vq_step (fun K hK => ?_)
        go_simp
        refine ⟨_, fun _ _ => rfl, hK _ ?_⟩
        clear hK K
        refine vq_step (fun K hK => ?_)
        go_simp
        refine hK _ ?_
        clear hK K
        refine vq_step (fun K hK => ?_)
        go_simp
        refine hK _ ?_
        clear hK K
        refine vq_step (fun K hK => ?_)
        go_simp
        refine hK _ ?_
        clear hK K
        refine vq_step (fun K hK => ?_)
        go_simp
        refine hK _ ?_
        clear hK K
        refine vq_step (fun K hK => ?_)
        go_simp
        refine hK _ ?_
        clear hK K
        refine vq_step (fun K hK => ?_)
        go_simp
        refine hK _ ?_
        clear hK K
        refine vq_step (fun K hK => ?_)
        go_simp
        refine hK _ ?_
        clear hK K
        refine vq_step (fun K hK => ?_)
        go_simp
        refine hK _ ?_
        clear hK K
        refine vq_step (fun K hK => ?_)
        go_simp
        refine ⟨_, fun _ _ => rfl, hK _ ?_⟩
        clear hK K
        refine vq_step (fun K hK => ?_)
        go_simp
        refine ⟨_, fun _ _ => rfl, hK _ ?_⟩
        clear hK K
        refine vq_step (fun K hK => ?_)
        go_simp
        refine hK _ ?_
        clear hK K
        refine vq_step (fun K hK => ?_)
        go_simp
        refine hK _ ?_
        clear hK K
        refine vq_step (fun K hK => ?_)
        go_simp
        refine hK _ ?_
        clear hK K
        refine vq_step (fun K hK => ?_)
        go_simp
        refine hK _ ?_
        clear hK K
        refine vq_step (fun K hK => ?_)
        go_simp
        refine ⟨_, fun _ _ => rfl, hK _ ?_⟩
        clear hK K
        refine vq_step (fun K hK => ?_)
        go_simp
        refine ⟨_, fun _ _ => rfl, hK _ ?_⟩
        clear hK K
        refine vq_nil ?_
        intro w1 hw1
        have B1 := hideIt (below_trans BV.out hw1 BV.out.size)
        clear hw1
        obtain rfl := FB.out
        go_wp2
        go_ret
        exact ⟨rfl, B1.out⟩
      | true =>
        refine vq_step (fun K hK => ?_)
        go_simp
        refine ⟨_, fun _ _ => rfl, hK _ ?_⟩
        clear hK K
        refine vq_step (fun K hK => ?_)
        go_simp
        refine ⟨_, fun _ _ => rfl, hK _ ?_⟩
        clear hK K
        refine vq_step (fun K hK => ?_)
        go_simp
        refine ⟨_, fun _ _ => rfl, hK _ ?_⟩
        clear hK K
        refine vq_want (by rfl) (fun K hK => quiet_load _ (.tmp 23) ⟨w.heap.size, 12, none⟩ _ rfl (by rfl) JO.out (hK _ ?_))
        refine vq_step (fun K hK => ?_)
        go_simp
        refine ⟨_, fun _ _ => rfl, hK _ ?_⟩
        clear hK K
        refine vq_step (fun K hK => ?_)
        go_simp
        refine ⟨_, fun _ _ => rfl, hK _ ?_⟩
        clear hK K
        refine vq_step (fun K hK => ?_)
        go_simp
        refine ⟨_, fun _ _ => rfl, hK _ ?_⟩
        clear hK K
        refine vq_step (fun K hK => ?_)
        go_simp
        refine ⟨_, fun _ _ => rfl, hK _ ?_⟩
        clear hK K
        refine vq_want (by rfl) (fun K hK => quiet_load _ (.tmp 28) ⟨w.heap.size, 9, none⟩ _ rfl (by rfl) JB.out (hK _ ?_))
        cases fr with
        | true =>
          refine vq_step (fun K hK => ?_)
          go_simp
          refine ⟨_, fun _ _ => rfl, hK _ ?_⟩
          clear hK K
          refine vq_step (fun K hK => ?_)
          go_simp
          refine ⟨_, fun _ _ => rfl, hK _ ?_⟩
          clear hK K
          refine vq_step (fun K hK => ?_)
          go_simp
          refine ⟨_, fun _ _ => rfl, hK _ ?_⟩
          clear hK K
          refine vq_step (fun K hK => ?_)
          go_simp
          refine ⟨_, fun _ _ => rfl, hK _ ?_⟩
          clear hK K
          refine vq_want (by rfl) (fun K hK => quiet_load _ (.tmp 33) ⟨w.heap.size, 17, none⟩ _ rfl (by rfl) JA.out (hK _ ?_))
          refine vq_step (fun K hK => ?_)
          go_simp
          refine ⟨_, fun _ _ => rfl, hK _ ?_⟩
          clear hK K
          refine vq_step (fun K hK => ?_)
          go_simp
          refine ⟨_, fun _ _ => rfl, hK _ ?_⟩
          clear hK K
          refine vq_step (fun K hK => ?_)
          go_simp
          refine ⟨_, fun _ _ => rfl, hK _ ?_⟩
          clear hK K
          refine vq_step (fun K hK => ?_)
          go_simp
          refine ⟨_, fun _ _ => rfl, hK _ ?_⟩
          clear hK K
          refine vq_nil ?_
          intro w1 hw1
          have B1 := hideIt (below_trans BV.out hw1 BV.out.size)
          clear hw1
          obtain rfl := FB.out
          go_wp2
          go_ret
          exact ⟨rfl, B1.out⟩
        | false =>
          refine vq_step (fun K hK => ?_)
          go_simp
          refine ⟨_, fun _ _ => rfl, hK _ ?_⟩
          clear hK K
          refine vq_step (fun K hK => ?_)
          go_simp
          refine ⟨_, fun _ _ => rfl, hK _ ?_⟩
          clear hK K
          refine vq_step (fun K hK => ?_)
          go_simp
          refine ⟨_, fun _ _ => rfl, hK _ ?_⟩
          clear hK K
          refine vq_step (fun K hK => ?_)
          go_simp
          refine hK _ ?_
          clear hK K
          refine vq_step (fun K hK => ?_)
          go_simp
          refine hK _ ?_
          clear hK K
          refine vq_step (fun K hK => ?_)
          go_simp
          refine hK _ ?_
          clear hK K
          refine vq_step (fun K hK => ?_)
          go_simp
          refine hK _ ?_
          clear hK K
          refine vq_step (fun K hK => ?_)
          go_simp
          refine ⟨_, fun _ _ => rfl, hK _ ?_⟩
          clear hK K
          refine vq_step (fun K hK => ?_)
          go_simp
          refine ⟨_, fun _ _ => rfl, hK _ ?_⟩
          clear hK K
          refine vq_nil ?_
          intro w1 hw1
          have B1 := hideIt (below_trans BV.out hw1 BV.out.size)
          clear hw1
          obtain rfl := FB.out
          go_wp2
          go_ret
          exact ⟨rfl, B1.out⟩
set_option maxRecDepth 100000 in
set_option maxHeartbeats 8000000 in
theorem doingOK_any (v : Value) (ws : List Int) (ps : List St) (es : List Int) (qs : List Se) (hs : List Int) (td : List Mi) (cd vl : Int) (nm : List ByteArray) (fr : Bool) (ts : List Th) (ds : List Den) (ok : Int) (op ot : ByteArray) (og ox : Int) (az : List Aw) (ag : Bool) (w : World) (h : RdWd w v ws ps es qs hs td cd vl nm fr ts ds ok op ot og ox az ag) :
    Calls Tryz.prog 101 #[v] w fun e w' => e = .returned (.bool (doB ok op ot og ox fr)) ∧ Below w.heap.size w w' := by
  obtain ⟨aW, cW, aP, cP, aS, cS, aQ, cQ, aH, cH, aT, cT, aN, cN, aG, cG, aD, cD, aR, cR, rfl, -, -, -⟩ := h
  obtain ⟨P, eP⟩ : ∃ P, P = opB ok op ot og ox := ⟨_, rfl⟩
  have LO : Hid (∀ w1, Calls Tryz.prog 157 #[.agg #[.int .i64 ok, .string op, .string ot, .int .i64 og, .int .i64 ox]] w1 fun e w' => e = .returned (.bool P) ∧ Below w1.heap.size w1 w') := fun w1 => by rw [eP]; exact implOpOK_any ok op ot og ox w1
  have DD : Hid (doB ok op ot og ox fr = if fr then P else opN ok op ot og ox) := by unfold Hid doB; rw [eP]
  have OE : Hid (opEq ok op ot og ox 0 ⟨#[]⟩ ⟨#[]⟩ 0 0 = opN ok op ot og ox) := rfl
  generalize opN ok op ot og ox = z at *
  generalize doB ok op ot og ox fr = r at *
  clear eP
  obtain ⟨V, hV⟩ : ∃ V, V = w.alloc (.cells #[.slice aW ws.length cW, .slice aP ps.length cP, .slice aS es.length cS, .slice aQ qs.length cQ, .slice aH hs.length cH, .slice aT td.length cT, .int .i64 cd, .int .i64 vl, .slice aN nm.length cN, .bool fr, .slice aG ts.length cG, .slice aD ds.length cD, .int .i64 ok, .string op, .string ot, .int .i64 og, .int .i64 ox, .slice aR az.length cR, .bool ag] 79) := ⟨_, rfl⟩
  have BV : Hid (Below w.heap.size w V) := by rw [hV]; exact (Below.refl _ _).alloc (Nat.le_refl _) _
  have XV : Hid (V.heap[w.heap.size]? = some (.cells #[.slice aW ws.length cW, .slice aP ps.length cP, .slice aS es.length cS, .slice aQ qs.length cQ, .slice aH hs.length cH, .slice aT td.length cT, .int .i64 cd, .int .i64 vl, .slice aN nm.length cN, .bool fr, .slice aG ts.length cG, .slice aD ds.length cD, .int .i64 ok, .string op, .string ot, .int .i64 og, .int .i64 ox, .slice aR az.length cR, .bool ag] 79 (0, 0))) := by rw [hV]; exact at_new rfl
  have ltV : w.heap.size < V.heap.size := lt_box XV.out
  go_enter Tryz.func101, Tryz.ntmps101
  go_upto_region 1 with fail
  rw [← hV]
  clear hV
  have x9 : V.cell? ⟨w.heap.size, 9, none⟩ = some (.bool fr) := wd_cell XV.out 9 rfl
  cases fr with
  | true =>
    obtain rfl : r = P := DD.out
    go_upto_region 2 with fail
    clear x9
    have x12 : V.cell? ⟨w.heap.size, 12, none⟩ = some (.int .i64 ok) := wd_cell XV.out 12 rfl
    have x13 : V.cell? ⟨w.heap.size, 13, none⟩ = some (.string op) := wd_cell XV.out 13 rfl
    have x14 : V.cell? ⟨w.heap.size, 14, none⟩ = some (.string ot) := wd_cell XV.out 14 rfl
    have x15 : V.cell? ⟨w.heap.size, 15, none⟩ = some (.int .i64 og) := wd_cell XV.out 15 rfl
    have x16 : V.cell? ⟨w.heap.size, 16, none⟩ = some (.int .i64 ox) := wd_cell XV.out 16 rfl
    go_wp2_with fail
    refine (LO.out V).mono ?_
    rintro e w1 ⟨rfl, hb⟩
    have Bw1 := hideIt (below_trans BV.out hb BV.out.size)
    clear hb LO x12 x13 x14 x15 x16 OE DD XV
    go_wp2
    go_ret
    exact ⟨rfl, Bw1.out⟩
  | false =>
    obtain rfl : r = z := DD.out
    have oe := OE.out
    clear OE LO DD
    have x12 : V.cell? ⟨w.heap.size, 12, none⟩ = some (.int .i64 ok) := wd_cell XV.out 12 rfl
    have x13 : V.cell? ⟨w.heap.size, 13, none⟩ = some (.string op) := wd_cell XV.out 13 rfl
    have x14 : V.cell? ⟨w.heap.size, 14, none⟩ = some (.string ot) := wd_cell XV.out 14 rfl
    have x15 : V.cell? ⟨w.heap.size, 15, none⟩ = some (.int .i64 og) := wd_cell XV.out 15 rfl
    have x16 : V.cell? ⟨w.heap.size, 16, none⟩ = some (.int .i64 ox) := wd_cell XV.out 16 rfl
    go_wp2
    go_ret
    exact ⟨rfl, BV.out⟩
set_option maxRecDepth 100000 in
set_option maxHeartbeats 8000000 in
theorem implWorldOK_any (v : Value) (ws : List Int) (ps : List St) (es : List Int) (qs : List Se) (hs : List Int) (td : List Mi) (cd vl : Int) (nm : List ByteArray) (fr : Bool) (ts : List Th) (ds : List Den) (ok : Int) (op ot : ByteArray) (og ox : Int) (az : List Aw) (ag : Bool) (w : World) (h : RdWd w v ws ps es qs hs td cd vl nm fr ts ds ok op ot og ox az ag) (hws : ws.length ≤ 1048576) (hps : ps.length ≤ 1048576) (hes : es.length ≤ 1048576) (hqs : qs.length ≤ 1048576) (hhs : hs.length ≤ 1048576) (htd : td.length ≤ 1048576) (hnm : nm.length ≤ 1048576) (hts : ts.length ≤ 1048576) (hds : ds.length ≤ 1048576) (hdn : ∀ k (h : k < ds.length), ds[k].name.size ≤ maxLen) (hS : SB w) (hT : TS w) (hE : ED w) (hF : FD w) :
    Calls Tryz.prog 53 #[v] w fun e w' => e = .returned (.bool (wldB ws ps es qs hs td cd vl nm fr ts ds ok op ot og ox az)) ∧ Below w.heap.size w w' := by
  have LD := hideIt (fun w1 (hb : Below w.heap.size w w1) => doingOK_any v ws ps es qs hs td cd vl nm fr ts ds ok op ot og ox az ag w1 (h.below hb))
  obtain ⟨aW, cW, aP, cP, aS, cS, aQ, cQ, aH, cH, aT, cT, aN, cN, aG, cG, aD, cD, aR, cR, rfl, f1, m1, a1⟩ := h
  obtain ⟨F, eF⟩ : ∃ F, F = fsB ws ps es qs hs td cd vl nm fr := ⟨_, rfl⟩
  obtain ⟨M, eM⟩ : ∃ M, M = modB ts ds := ⟨_, rfl⟩
  obtain ⟨P, eP⟩ : ∃ P, P = opB ok op ot og ox := ⟨_, rfl⟩
  have LF : Hid (∀ w1, Below w.heap.size w w1 → Calls Tryz.prog 100 #[.agg #[.slice aW ws.length cW, .slice aP ps.length cP, .slice aS es.length cS, .slice aQ qs.length cQ, .slice aH hs.length cH, .slice aT td.length cT, .int .i64 cd, .int .i64 vl, .slice aN nm.length cN, .bool fr]] w1 fun e w' => e = .returned (.bool F) ∧ Below w1.heap.size w1 w') := fun w1 hb => by rw [eF]; exact implFsOK_any _ ws ps es qs hs td cd vl nm fr w1 (f1.below hb) hws hps hes hqs hhs htd hnm (hS.below hb) (hT.below hb) (hE.below hb) (hF.below hb)
  have LM : Hid (∀ w1, Below w.heap.size w w1 → Calls Tryz.prog 26 #[.agg #[.slice aG ts.length cG, .slice aD ds.length cD]] w1 fun e w' => e = .returned (.bool M) ∧ Below w1.heap.size w1 w') := fun w1 hb => by rw [eM]; exact implModelOK_any _ ts ds w1 (m1.below hb) hts hds hdn (hT.below hb) (hE.below hb) (hF.below hb)
  have FB : Hid (wldB ws ps es qs hs td cd vl nm fr ts ds ok op ot og ox az = (F && (M && (doB ok op ot og ox fr && decide (az.length ≤ 80))))) := by unfold Hid wldB; rw [← eF, ← eM]
  generalize doB ok op ot og ox fr = dd at *
  generalize wldB ws ps es qs hs td cd vl nm fr ts ds ok op ot og ox az = r at *
  clear eF eM eP f1 m1 a1 hws hps hes hqs hhs htd hnm hts hds hdn hS hT hE hF
  obtain ⟨V, hV⟩ : ∃ V, V = w.alloc (.cells #[.slice aW ws.length cW, .slice aP ps.length cP, .slice aS es.length cS, .slice aQ qs.length cQ, .slice aH hs.length cH, .slice aT td.length cT, .int .i64 cd, .int .i64 vl, .slice aN nm.length cN, .bool fr, .slice aG ts.length cG, .slice aD ds.length cD, .int .i64 ok, .string op, .string ot, .int .i64 og, .int .i64 ox, .slice aR az.length cR, .bool ag] 79) := ⟨_, rfl⟩
  have BV : Hid (Below w.heap.size w V) := by rw [hV]; exact (Below.refl _ _).alloc (Nat.le_refl _) _
  have XV : Hid (V.heap[w.heap.size]? = some (.cells #[.slice aW ws.length cW, .slice aP ps.length cP, .slice aS es.length cS, .slice aQ qs.length cQ, .slice aH hs.length cH, .slice aT td.length cT, .int .i64 cd, .int .i64 vl, .slice aN nm.length cN, .bool fr, .slice aG ts.length cG, .slice aD ds.length cD, .int .i64 ok, .string op, .string ot, .int .i64 og, .int .i64 ox, .slice aR az.length cR, .bool ag] 79 (0, 0))) := by rw [hV]; exact at_new rfl
  have ltV : w.heap.size < V.heap.size := lt_box XV.out
  go_enter Tryz.func53, Tryz.ntmps53
  go_upto_region 1 with fail
  rw [← hV]
  clear hV
  have x0 : V.cell? ⟨w.heap.size, 0, none⟩ = some (.slice aW ws.length cW) := wd_cell XV.out 0 rfl
  have x1 : V.cell? ⟨w.heap.size, 1, none⟩ = some (.slice aP ps.length cP) := wd_cell XV.out 1 rfl
  have x2 : V.cell? ⟨w.heap.size, 2, none⟩ = some (.slice aS es.length cS) := wd_cell XV.out 2 rfl
  have x3 : V.cell? ⟨w.heap.size, 3, none⟩ = some (.slice aQ qs.length cQ) := wd_cell XV.out 3 rfl
  have x4 : V.cell? ⟨w.heap.size, 4, none⟩ = some (.slice aH hs.length cH) := wd_cell XV.out 4 rfl
  have x5 : V.cell? ⟨w.heap.size, 5, none⟩ = some (.slice aT td.length cT) := wd_cell XV.out 5 rfl
  have x6 : V.cell? ⟨w.heap.size, 6, none⟩ = some (.int .i64 cd) := wd_cell XV.out 6 rfl
  have x7 : V.cell? ⟨w.heap.size, 7, none⟩ = some (.int .i64 vl) := wd_cell XV.out 7 rfl
  have x8 : V.cell? ⟨w.heap.size, 8, none⟩ = some (.slice aN nm.length cN) := wd_cell XV.out 8 rfl
  have x9 : V.cell? ⟨w.heap.size, 9, none⟩ = some (.bool fr) := wd_cell XV.out 9 rfl
  go_wp2_with fail
  refine (LF.out V BV.out).mono ?_
  rintro e w1 ⟨rfl, hb⟩
  have Bw1 := hideIt (below_trans BV.out hb BV.out.size)
  have Xw1 := hideIt (box_below XV.out hb (by omega))
  have ltw1 : w.heap.size < w1.heap.size := lt_box Xw1.out
  clear hb LF BV XV ltV x0 x1 x2 x3 x4 x5 x6 x7 x8 x9
  cases F with
  | false =>
    obtain rfl := FB.out
    clear FB LM LD Xw1
    go_wp2
    go_ret
    exact ⟨rfl, Bw1.out⟩
  | true =>
  have x10 : w1.cell? ⟨w.heap.size, 10, none⟩ = some (.slice aG ts.length cG) := wd_cell Xw1.out 10 rfl
  have x11 : w1.cell? ⟨w.heap.size, 11, none⟩ = some (.slice aD ds.length cD) := wd_cell Xw1.out 11 rfl
  go_wp2_with fail
  refine (LM.out w1 Bw1.out).mono ?_
  rintro e w2 ⟨rfl, hb⟩
  have Bw2 := hideIt (below_trans Bw1.out hb Bw1.out.size)
  have Xw2 := hideIt (box_below Xw1.out hb (by omega))
  have ltw2 : w.heap.size < w2.heap.size := lt_box Xw2.out
  clear hb LM Bw1 Xw1 ltw1 x10 x11
  cases M with
  | false =>
    obtain rfl := FB.out
    clear FB LD Xw2
    go_wp2
    go_ret
    exact ⟨rfl, Bw2.out⟩
  | true =>
  go_wp2_with (refine wpList_loadG (by rfl) 79 (.tmp 1) rfl w.heap.size rfl 79 _ (0, 0) _ Xw2.out Tryz.underlying79 rfl infoWd ?_)
  refine (LD.out w2 Bw2.out).mono ?_
  rintro e w3 ⟨rfl, hb⟩
  have Bw3 := hideIt (below_trans Bw2.out hb Bw2.out.size)
  have Xw3 := hideIt (box_below Xw2.out hb (by omega))
  have ltw3 : w.heap.size < w3.heap.size := lt_box Xw3.out
  clear hb LD Bw2 Xw2 ltw2
  cases dd with
  | false =>
    obtain rfl := FB.out
    clear FB Xw3
    go_wp2
    go_ret
    exact ⟨rfl, Bw3.out⟩
  | true =>
  have x17 : w3.cell? ⟨w.heap.size, 17, none⟩ = some (.slice aR az.length cR) := wd_cell Xw3.out 17 rfl
  by_cases ha : az.length ≤ 80
  · have ha' : (az.length : Int) ≤ 80 := by omega
    rw [decide_eq_true ha] at FB
    obtain rfl := FB.out
    clear ha FB Xw3
    go_wp2
    go_ret
    exact ⟨rfl, Bw3.out⟩
  · have ha' : ¬ (az.length : Int) ≤ 80 := by omega
    rw [decide_eq_false ha] at FB
    obtain rfl := FB.out
    clear ha FB Xw3
    go_wp2
    go_ret
    exact ⟨by show Ending.returned (Value.bool (decide ((az.length : Int) ≤ 80))) = _; rw [decide_eq_false (p := (az.length : Int) ≤ 80) (by omega)]; rfl, Bw3.out⟩
end Go.Proofs.YtmeiionabonhnaaGreatDoor
