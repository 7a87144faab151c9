/- StartMove: by the program. -/
import Derived.Test.YtipklbnfobckaaaGreatDoorZBN
import Derived.Test.YtipklbnfobckaaaGreatDoorZBG
import Derived.Test.YtipklbnfobckaaaGreatDoorZBJ
import Derived.Test.YtipklbnfobckaaaGreatDoorZBF
import Derived.Test.YtipklbnfobckaaaGreatDoorZAH
import Derived.Test.YtipklbnfobckaaaGreatDoorZBP
import Derived.Test.YtipklbnfobckaaaGreatDoorMvD
namespace Go.Proofs.YtipklbnfobckaaaGreatDoor
open Go.RowKit

theorem znj {P : Program} (w : World) (base : Nat) (t ty e : TypeId) (z : Value) (size bytes : Nat) (ht : P.underlying t = some (.slice e)) (hinfo : (P.info? e).map (fun i => (i.zero, i.size, i.bytes)) = some (some z, size, bytes)) (hzs : z.cells.size = size) (hsz : 0 < size)
  (v : Value) (n : Nat) (xs : List Value) (hown : w.ownsRow base e size v n xs) (u : Value) (m : Nat) (ys : List Value) (hr : Rd w size u m ys) (h1 : ∀ u ∈ ys, u.oneCell' = true)
  (h63 : n + m ≤ maxLen) (hbytes : (n + m) * bytes ≤ 140737488355328) (hbase : base ≤ w.heap.size) :
  ∃ v' w', (Builtin.append_ #[t, t] ty #[v, u]).run P w = .ok v' w' ∧ w'.ownsRow base e size v' (n + m) (xs ++ ys) ∧ w.grownBy w' v.ownBlock ∧ (v = .slice none 0 0 → m = 0 → v' = .slice none 0 0) := by
 obtain ⟨i, hi, hz, hs, hb⟩ := info_parts hinfo
 obtain ⟨hl, ao, cap, rfl, ⟨_, hnone⟩, hc⟩ := hr
 cases ao with
 | none =>
  have hm : m = 0 := by
   rcases Nat.eq_zero_or_pos m with h | h
   ·exact h
   ·obtain ⟨b, o, e, _⟩ := hc h; cases e
  subst hm
  rw [hnone rfl]
  have hy : ys = [] := List.eq_nil_of_length_eq_zero (by simpa using hl)
  subst hy
  refine ⟨v, w, run_append_owned_none (P := P) w base t ty e i size ht hi v n xs hown, by simpa using hown, World.grownBy.refl _ _, fun h _ => h⟩
 | some a =>
  obtain ⟨v', w', hrun, h2, h3, h4⟩ := run_append_own (P := P) w base t ty e i z size bytes ht hi hz hs hb hzs hsz v n xs hown a m cap ys hl (fun j u hu => by
   have hj : j < ys.length := (List.getElem?_eq_some_iff.1 hu).1
   have hm : 0 < m := by
    rcases Nat.eq_zero_or_pos m with h | h
    ·subst h; simp at hl; subst hl; simp at hj
    ·exact h
   obtain ⟨b, o, e, _, hcell⟩ := hc hm
   cases e
   rw [Addr.add_lit, hcell j (by omega)]; exact hu) h1 h63 hbytes hbase
  exact ⟨v', w', hrun, h2, h3, fun a b => h4.2 ⟨a, b⟩⟩
theorem zkx {P : Program} {ops : Array Oper} {o : Oper} {a : Act} {w : World} {K : Act → World → Prop} {Q : Exit → Act → World → Prop} {E : Prop}
  (hg : o.guard = none) (s x : Operand) (t : TypeId) (ho : o.op = Op.call { callee := Callee.builtin Builtin.append, args := #[s, x], argTypes := #[t, t] })
  (base : Nat) (e : TypeId) (z : Value) (size bytes : Nat) (ht : P.underlying t = some (.slice e)) (hinfo : (P.info? e).map (fun i => (i.zero, i.size, i.bytes)) = some (some z, size, bytes)) (hzs : z.cells.size = size) (hsz : 0 < size)
  (v : Value) (n : Nat) (xs : List Value) (hs : a.eval s = v) (hown : w.ownsRow base e size v n xs) (u : Value) (m : Nat) (ys : List Value) (hx : a.eval x = u) (hr : Rd w size u m ys) (h1 : ∀ u ∈ ys, u.oneCell' = true)
  (h63 : n + m ≤ maxLen) (hbytes : (n + m) * bytes ≤ 140737488355328) (hbase : base ≤ w.heap.size)
  (h : ∀ v' w', w'.ownsRow base e size v' (n + m) (xs ++ ys) → w.grownBy w' v.ownBlock → (v = .slice none 0 0 → m = 0 → v' = .slice none 0 0) → K (a.put o.dst v') w') : if Region.wanted o (yielded ops a.tmps) = true then Oper.wp P o a w K Q else E := by
 have hw : Region.wanted o (yielded ops a.tmps) = true := by simp [Region.wanted, hg]
 rw [if_pos hw]
 obtain ⟨v', w', hrun, h2, h3, h4⟩ := znj (P := P) w base t o.type e z size bytes ht hinfo hzs hsz v n xs hown u m ys hr h1 h63 hbytes hbase
 unfold Oper.wp execOp
 simp only [ho, resolve, invoke, builtin, Sem.run_bind, Sem.run_pure, Result.andThen_ok, List.map_toArray, List.map_cons, List.map_nil, hs, hx, hrun]
 exact h v' w' h2 h3 h4
set_option maxRecDepth 100000 in
set_option maxHeartbeats 16000000 in
theorem zuk (v : Value) (ws : List Int) (ps : List St) (es : List Int) (qs : List Se) (hs : List Int) (td : List Mi) (cd vl : Int) (nm : List ByteArray) (fr : Bool) (w : World) (h : RdF w v ws ps es qs hs td cd vl nm fr) (hws : ws.length ≤ 1048576) (hps : ps.length ≤ 1048576) (hes : es.length ≤ 1048576) (hqs : qs.length ≤ 1048576) (hhs : hs.length ≤ 1048576) (htd : td.length ≤ 1048576) (hnm : nm.length ≤ 1048576) :
  Calls Tryz.prog 62 #[v] w fun e w' => ∃ v', e = .returned v' ∧ RowF w' w.heap.size w'.heap.size v' ws ps es qs hs td cd vl nm fr ∧ Below w.heap.size w w' ∧ (td.length = 0 → ∃ x0 x1 x2 x3 x4 x6 x7 x8 x9, v' = .agg #[x0, x1, x2, x3, x4, .slice none td.length 0, x6, x7, x8, x9]) := by
 obtain ⟨aW, cW, aP, cP, aS, cS, aQ, cQ, aH, cH, aT, cT, aN, cN, rfl, d1, h1, t1, n1⟩ := h
 have LD := zaa (fun w1 (hb : Below w.heap.size w w1) => zmf _ ws ps es qs w1 (d1.below hb) hws hps hes hqs)
 have LA := zaa (fun w1 (hb : Below w.heap.size w w1) => znm cd vl aN nm cN w1 (Rd.below n1 hb) hnm)
 have RH : Hid (Rd w 1 (.slice aH hs.length cH) hs.length (zca hs)) := h1
 have RT : Hid (Rd w 3 (.slice aT td.length cT) td.length (mis td)) := t1
 clear d1 h1 t1 n1
 obtain ⟨V, hV⟩ : ∃ V, V = ((w.alloc (.cells #[.slice aW ws.length cW, .slice aP ps.length cP, .slice aS es.length cS, .slice aQ qs.length cQ, .slice aH hs.length cH, .slice aT td.length cT, .int .i64 cd, .int .i64 vl, .slice aN nm.length cN, .bool fr] 50)).alloc (.cells #[.slice none 0 0, .slice none 0 0, .slice none 0 0, .slice none 0 0, .slice none 0 0, .slice none 0 0, .int .i64 0, .int .i64 0, .slice none 0 0, .bool false] 98)) := ⟨_, rfl⟩
 have zV : w.heap.size + 2 ≤ V.heap.size := by rw [hV]; simp <;> omega
 have B_V : Hid (Below w.heap.size w V) := by rw [hV]; exact (((Below.refl _ _).alloc (by simp <;> omega) _).alloc (by simp <;> omega) _)
 have X0_V : Hid (V.heap[w.heap.size]? = some (.cells #[.slice aW ws.length cW, .slice aP ps.length cP, .slice aS es.length cS, .slice aQ qs.length cQ, .slice aH hs.length cH, .slice aT td.length cT, .int .i64 cd, .int .i64 vl, .slice aN nm.length cN, .bool fr] 50 (0, 0))) := by rw [hV]; exact (zap (zah rfl))
 have X1_V : Hid (V.heap[w.heap.size + 1]? = some (.cells #[.slice none 0 0, .slice none 0 0, .slice none 0 0, .slice none 0 0, .slice none 0 0, .slice none 0 0, .int .i64 0, .int .i64 0, .slice none 0 0, .bool false] 98 (0, 0))) := by rw [hV]; exact (zah (by simp))
 go_enter Tryz.func62, Tryz.ntmps62
 go_upto_region 1 with fail
 rw [← hV]
 clear hV
 obtain ⟨c0_0, c0_1, c0_2, c0_3, c0_4, c0_5, c0_6, c0_7, c0_8, c0_9, -⟩ := zag X0_V.out
 have LEV : w.heap.size + 1 ≤ V.heap.size := by omega
 have SK : Hid (∀ w', Below (w.heap.size + 1) V w' → w'.cell? ⟨w.heap.size, 0, none⟩ = some (.slice aW ws.length cW) ∧ w'.cell? ⟨w.heap.size, 1, none⟩ = some (.slice aP ps.length cP) ∧ w'.cell? ⟨w.heap.size, 2, none⟩ = some (.slice aS es.length cS) ∧ w'.cell? ⟨w.heap.size, 3, none⟩ = some (.slice aQ qs.length cQ) ∧ w'.cell? ⟨w.heap.size, 4, none⟩ = some (.slice aH hs.length cH) ∧ w'.cell? ⟨w.heap.size, 5, none⟩ = some (.slice aT td.length cT) ∧ w'.cell? ⟨w.heap.size, 6, none⟩ = some (.int .i64 cd) ∧ w'.cell? ⟨w.heap.size, 7, none⟩ = some (.int .i64 vl) ∧ w'.cell? ⟨w.heap.size, 8, none⟩ = some (.slice aN nm.length cN) ∧ w'.cell? ⟨w.heap.size, 9, none⟩ = some (.bool fr)) := fun w' hb => by
  obtain ⟨a0, a1, a2, a3, a4, a5, a6, a7, a8, a9, -⟩ := zag (zae X0_V.out hb (Nat.lt_succ_self _))
  exact ⟨a0, a1, a2, a3, a4, a5, a6, a7, a8, a9⟩
 go_region_held3 (fun w' => w'.cell? ⟨w.heap.size, 0, none⟩ = some (.slice aW ws.length cW) ∧ w'.cell? ⟨w.heap.size, 1, none⟩ = some (.slice aP ps.length cP) ∧ w'.cell? ⟨w.heap.size, 2, none⟩ = some (.slice aS es.length cS) ∧ w'.cell? ⟨w.heap.size, 3, none⟩ = some (.slice aQ qs.length cQ) ∧ w'.cell? ⟨w.heap.size, 4, none⟩ = some (.slice aH hs.length cH) ∧ w'.cell? ⟨w.heap.size, 5, none⟩ = some (.slice aT td.length cT) ∧ w'.cell? ⟨w.heap.size, 6, none⟩ = some (.int .i64 cd) ∧ w'.cell? ⟨w.heap.size, 7, none⟩ = some (.int .i64 vl) ∧ w'.cell? ⟨w.heap.size, 8, none⟩ = some (.slice aN nm.length cN) ∧ w'.cell? ⟨w.heap.size, 9, none⟩ = some (.bool fr))
  (exact SK.out _ (by repeat (first | with_reducible exact BD.out.mono LEV | with_reducible exact BC.out.mono LEV | with_reducible exact BB.out.mono LEV | with_reducible exact BA.out.mono LEV | with_reducible exact Below.refl _ _ | with_reducible refine Below.drew ?_ | with_reducible refine Below.setCell ?_ (by exact Nat.le_refl _) _)))
  (first
   | (go_at_call 120; refine (LD.out _ (zab B_V.out (by repeat (first | with_reducible exact Below.refl _ _ | with_reducible refine Below.drew ?_)) B_V.out.size)).mono ?_; rintro e wa ⟨va, rfl, hra, hba⟩; have BA : Hid (Below V.heap.size V wa) := zmt (by repeat (first | with_reducible exact Below.refl _ _ | with_reducible refine Below.drew ?_)) hba; obtain ⟨iW, jW, iP, jP, iS, jS, iQ, jQ, rfl, -, -⟩ := hra.rd.form; have RA : Hid (RowDev wa V.heap.size wa.heap.size _ ws ps es qs) := hra; clear hra hba)
   | (refine zbu rfl (.const (.slice none 0 0)) (.tmp 7) 22 rfl wa.heap.size 3 (.int .i64 0) 1 8 Tryz.underlying22 zkh rfl (by decide) (.slice none 0 0) 0 [] (by rfl) (World.ownsRow_nil _ _ _ _) (.slice aH hs.length cH) hs.length (zca hs) (by rfl) (by exact Rd.below RH.out (zab B_V.out (zmt BA.out (by repeat (first | with_reducible exact Below.refl _ _ | with_reducible refine Below.drew ?_))) B_V.out.size)) (zem hs) (by first | omega | (simp [maxLen]; omega)) (by first | omega | (simp; omega)) (by exact Nat.le_refl _) ?_; intro vv wb hown0 hgr; have hown : wb.ownsRow wa.heap.size 3 1 vv hs.length (zca hs) := (by simpa using hown0); have hr := zaf hown; obtain ⟨-, iH, jH, hvv, -⟩ := hr.rd; subst hvv; have hbq : Below wa.heap.size wa wb := zmt (by repeat (first | with_reducible exact Below.refl _ _ | with_reducible refine Below.drew ?_)) ((Below.refl _ _).grown hgr (Nat.le_refl _) (fun k hk => by cases hk)); have BB : Hid (Below V.heap.size V wb) := zmt BA.out hbq; have BB1 := zaa hbq; have RB : Hid (Row wb 3 1 wa.heap.size wb.heap.size _ hs.length (zca hs)) := hr; have RA1 := zaa (RA.out.below hbq (Nat.le_refl _)); clear hown hown0 hgr hr hbq)
   | (refine zkx rfl (.const (.slice none 0 0)) (.tmp 10) 47 rfl wb.heap.size 79 (.agg #[.int .i64 0, .int .i64 0, .int .i64 0]) 3 24 Tryz.underlying47 zcb rfl (by decide) (.slice none 0 0) 0 [] (by rfl) (World.ownsRow_nil _ _ _ _) (.slice aT td.length cT) td.length (mis td) (by rfl) (by exact Rd.below RT.out (zab B_V.out (zmt BB.out (by repeat (first | with_reducible exact Below.refl _ _ | with_reducible refine Below.drew ?_))) B_V.out.size)) (zdn td) (by first | omega | (simp [maxLen]; omega)) (by first | omega | (simp; omega)) (by exact Nat.le_refl _) ?_; intro vv wc hown0 hgr hnl; have hown : wc.ownsRow wb.heap.size 79 3 vv td.length (mis td) := (by simpa using hown0); have hr := zaf hown; obtain ⟨-, iT, jT, hvv, -⟩ := hr.rd; subst hvv; have NL : Hid (td.length = 0 → iT = none ∧ jT = 0) := (fun h0 => (by have q := hnl rfl h0; rw [h0] at q; cases q; exact ⟨rfl, rfl⟩)); clear hnl; have hbq : Below wb.heap.size wb wc := zmt (by repeat (first | with_reducible exact Below.refl _ _ | with_reducible refine Below.drew ?_)) ((Below.refl _ _).grown hgr (Nat.le_refl _) (fun k hk => by cases hk)); have BC : Hid (Below V.heap.size V wc) := zmt BB.out hbq; have BC1 := zaa hbq; have RC : Hid (Row wc 79 3 wb.heap.size wc.heap.size _ td.length (mis td)) := hr; have RA2 := zaa (RA1.out.below hbq BB1.out.size); have RB2 := zaa (RB.out.below hbq (Nat.le_refl _)); clear hown hown0 hgr hr hbq)
   | (go_at_call 121; refine (LA.out _ (zab B_V.out (zmt BC.out (by repeat (first | with_reducible exact Below.refl _ _ | with_reducible refine Below.drew ?_))) B_V.out.size)).mono ?_; rintro e wd ⟨vN, rfl, hrd, hbd⟩; have hbq : Below wc.heap.size wc wd := zmt (by repeat (first | with_reducible exact Below.refl _ _ | with_reducible refine Below.drew ?_)) hbd; have BD : Hid (Below V.heap.size V wd) := zmt BC.out hbq; have BE1 := zaa hbq; obtain ⟨-, iN, jN, rfl, -⟩ := hrd.rd; have RD : Hid (Row wd 9 1 wc.heap.size wd.heap.size _ nm.length (zej nm)) := hrd; have RA3 := zaa (RA2.out.below hbq (Nat.le_trans BB1.out.size BC1.out.size)); have RB3 := zaa (RB2.out.below hbq BC1.out.size); have RC3 := zaa (RC.out.below hbq (Nat.le_refl _)); have X1d := zaa (zae X1_V.out BD.out (zaj X1_V.out)); obtain ⟨y0, y1, y2, y3, y4, y5, y6, y7, y8, y9, k0, k1, k2, k3, k4, k5, k6, k7, k8, k9⟩ := zag X1d.out; clear hrd hbd hbq))
 all_goals
  have zwa : V.heap.size ≤ wa.heap.size := BA.out.size
  have zwb : wa.heap.size ≤ wb.heap.size := BB1.out.size
  have zwc : wb.heap.size ≤ wc.heap.size := BC1.out.size
  have zwd : V.heap.size ≤ wd.heap.size := BD.out.size
  have zwe : wc.heap.size ≤ wd.heap.size := BE1.out.size
  have B_wd := zaa (zab B_V.out BD.out B_V.out.size)
  have X0_wd := zaa (zae X0_V.out BD.out (zaj X0_V.out))
  have X1_wd := X1d
  have QD_wd := RA3
  have QH_wd := RB3
  have QT_wd := zaa (RowW.of_row RC3.out)
  have QN_wd := RD
  clear c0_0 c0_1 c0_2 c0_3 c0_4 c0_5 c0_6 c0_7 c0_8 c0_9 SK LD LA RH RT BA BB BC BD BB1 BC1 BE1 RA RA1 RA2 RA3 RB RB2 RB3 RC RC3 RD X0_V X1_V B_V X1d
  obtain ⟨w1, hw1⟩ : ∃ w1, w1 = ((((((((((wd.setCell ⟨w.heap.size + 1, 0, none⟩ (.slice iW ws.length jW)).setCell ⟨w.heap.size + 1, 1, none⟩ (.slice iP ps.length jP)).setCell ⟨w.heap.size + 1, 2, none⟩ (.slice iS es.length jS)).setCell ⟨w.heap.size + 1, 3, none⟩ (.slice iQ qs.length jQ)).setCell ⟨w.heap.size + 1, 4, none⟩ (.slice iH hs.length jH)).setCell ⟨w.heap.size + 1, 5, none⟩ (.slice iT td.length jT)).setCell ⟨w.heap.size + 1, 6, none⟩ (.int .i64 cd)).setCell ⟨w.heap.size + 1, 7, none⟩ (.int .i64 vl)).setCell ⟨w.heap.size + 1, 8, none⟩ (.slice iN nm.length jN)).setCell ⟨w.heap.size + 1, 9, none⟩ (.bool fr)) := ⟨_, rfl⟩
  have Ow1 : Outside (w.heap.size + 1) (w.heap.size + 1 + 1) wd w1 := by
   rw [hw1]
   repeat (refine Outside.setCell ?_ (by simp only; omega) (by simp only; omega) _)
   exact Outside.refl _ _ _
  have zw1 : wd.heap.size ≤ w1.heap.size ∧ w1.heap.size ≤ wd.heap.size := by rw [hw1]; simp [World.setCell]
  have B_w1 := zaa (B_wd.out.trans (Ow1.below (B := w.heap.size) (by omega) B_wd.out.size))
  have X0_w1 := zaa ((Ow1.block (w.heap.size) (zaj X0_wd.out) (by omega)).trans X0_wd.out)
  have X1_w1 : Hid (w1.heap[w.heap.size + 1]? = some (.cells #[.slice iW ws.length jW, .slice iP ps.length jP, .slice iS es.length jS, .slice iQ qs.length jQ, .slice iH hs.length jH, .slice iT td.length jT, .int .i64 cd, .int .i64 vl, .slice iN nm.length jN, .bool fr] 98 (0, 0))) := by rw [hw1]; exact (zdt (zcs (zdd (zde (zby (zcu (zct (zcv (zcp (zcr X1_wd.out _) _) _) _) _) _) _) _) _) _)
  have QD_w1 := zaa (QD_wd.out.outside Ow1 (by omega) (by omega))
  have QH_w1 := zaa (QH_wd.out.outside Ow1 (by omega) (by omega))
  have QT_w1 := zaa (QT_wd.out.outside Ow1 (by omega))
  have QN_w1 := zaa (QN_wd.out.outside Ow1 (by omega) (by omega))
  clear Ow1
  go_wp2
  refine bodyPost_ret (v := .agg #[.slice iW ws.length jW, .slice iP ps.length jP, .slice iS es.length jS, .slice iQ qs.length jQ, .slice iH hs.length jH, .slice iT td.length jT, .int .i64 cd, .int .i64 vl, .slice iN nm.length jN, .bool fr]) (by simp [results, Tryz.results62, go_sem, y0, y1, y2, y3, y4, y5, y6, y7, y8, y9]) rfl ?_
  rw [← hw1]
  exact ⟨_, rfl, ⟨_, _, _, _, _, _, _, _, _, _, _, _, _, _, _, rfl, QD_w1.out, QH_w1.out, QT_w1.out, QN_w1.out, ⟨by omega, by omega, by omega, by omega, by omega, by omega, by omega, by omega, by omega, by omega, by omega, by omega, by omega, by omega⟩⟩, B_w1.out, fun h0 => by obtain ⟨e1, e2⟩ := NL.out h0; rw [e1, e2]; exact ⟨_, _, _, _, _, _, _, _, _, rfl⟩⟩
set_option maxRecDepth 100000 in
set_option maxHeartbeats 16000000 in
theorem isBusy_any {aW aP aS aQ aH aT aN : Option Addr} {cW cP cS cQ cH cT cN : Nat} {ws : List Int} {ps : List St} {es : List Int} {qs : List Se} {hs : List Int} {td : List Mi} {cd vl : Int} {nm : List ByteArray} {fr : Bool} (b : Nat) (w : World) (hx : w.heap[b]? = some (.cells #[.slice aW ws.length cW, .slice aP ps.length cP, .slice aS es.length cS, .slice aQ qs.length cQ, .slice aH hs.length cH, .slice aT td.length cT, .int .i64 cd, .int .i64 vl, .slice aN nm.length cN, .bool fr] 98 (0, 0))) :
  Calls Tryz.prog 63 #[.pointer (some ⟨b, 0, none⟩)] w fun e w' => e = .returned (.bool (decide (0 < td.length) || fr)) ∧ w' = w := by
 have LH := zaa (zup b w hx)
 obtain ⟨-, -, -, -, -, -, -, -, -, c9, -⟩ := zag hx
 clear hx
 by_cases c : 0 < td.length
 ·rw [decide_eq_true c] at LH ⊢
  go_enter Tryz.func63, Tryz.ntmps63
  go_wp2_with fail
  refine LH.out.mono ?_
  rintro e w' ⟨rfl, hw'⟩
  subst w'
  go_wp2
  go_ret
  exact ⟨rfl, rfl⟩
 ·rw [decide_eq_false c] at LH ⊢
  go_enter Tryz.func63, Tryz.ntmps63
  go_wp2_with fail
  refine LH.out.mono ?_
  rintro e w' ⟨rfl, hw'⟩
  subst w'
  go_wp2
  go_ret
  exact ⟨rfl, rfl⟩
set_option maxRecDepth 100000 in
set_option maxHeartbeats 16000000 in
theorem plan_nil {x0 x1 x2 x3 x4 x6 x7 x8 x9 : Value} (b : Nat) (l : List Mi) (aL : Option Addr) (cL : Nat) (w : World) (hx : w.heap[b]? = some (.cells #[x0, x1, x2, x3, x4, .slice none 0 0, x6, x7, x8, x9] 98 (0, 0))) (hL : RdM w (.slice aL l.length cL) l) (hl : l.length ≤ 1048576) :
  Calls Tryz.prog 65 #[.pointer (some ⟨b, 0, none⟩), .slice aL l.length cL] w fun e w' => e = .returned (.tuple #[]) ∧ ∃ iT jT, w'.heap[b]? = some (.cells #[x0, x1, x2, x3, x4, .slice iT l.length jT, x6, x7, x8, x9] 98 (0, 0)) ∧ RowW w' w.heap.size w'.heap.size (.slice iT l.length jT) l ∧ Outside b (b + 1) w w' := by
 have ltb := zaj hx
 have X := zaa hx
 have x5 := tenT hx
 have SR : Hid (Rd w 3 (.slice aL l.length cL) l.length (mis l)) := hL
 clear hx hL
 go_enter Tryz.func65, Tryz.ntmps65
 go_wp2_with (at_builtin; refine zai _ rfl (.tmp 9) (.tmp 10) 47 rfl w.heap.size 79 (.agg #[.int .i64 0, .int .i64 0, .int .i64 0]) 3 24 Tryz.underlying47 zcb rfl (by decide) (.slice none 0 0) 0 [] rfl (World.ownsRow_nil _ _ _ _) _ l.length (mis l) rfl SR.out (zdn l) (by first | omega | (simp [maxLen]; omega)) (by first | omega | (simp; omega)) (Nat.le_refl _) ?_)
 intro vv w1 hown0 hgr
 have hown : w1.ownsRow w.heap.size 79 3 vv l.length (mis l) := by simpa using hown0
 have hr := zaf hown
 obtain ⟨-, iT, jT, hvv, -⟩ := hr.rd
 subst hvv
 have hb : Below w.heap.size w w1 := (Below.refl _ _).grown hgr (Nat.le_refl _) (fun k hk => by cases hk)
 have X1 := zaa (zae X.out hb ltb)
 have z1 : w.heap.size ≤ w1.heap.size := hb.size
 have O1 := zaa (Outside.of_below (lo := b) (hi := b + 1) hb)
 have R1 := zaa (RowW.of_row hr)
 clear hown hown0 hgr hr hb x5 X SR
 obtain ⟨-, -, -, -, -, d5, -, -, -, -, -, -, -, -, -, g5, -⟩ := zag X1.out
 go_wp2
 refine bodyPost_end (v := .tuple #[]) (by simp [results, Tryz.results65, go_sem]) rfl ?_
 have OS : Outside b (b + 1) w1 (w1.setCell ⟨b, 5, none⟩ (.slice iT l.length jT)) := (Outside.refl _ _ _).setCell (a := ⟨b, 5, none⟩) (Nat.le_refl _) (Nat.lt_succ_self _) _
 exact ⟨rfl, iT, jT, zby X1.out _, (R1.out.outside OS (.inr (by omega))).wide (Nat.le_refl _) (by simp [World.setCell]), O1.out.trans OS⟩
set_option maxRecDepth 100000 in
set_option maxHeartbeats 16000000 in
theorem zqd (v : Value) (ws : List Int) (ps : List St) (es : List Int) (qs : List Se) (hs : List Int) (td : List Mi) (cd vl : Int) (nm : List ByteArray) (fr : Bool) (pr : Bool) (w : World) (h : RdF w v ws ps es qs hs td cd vl nm fr) (hws : ws.length ≤ 1048576) (hps : ps.length ≤ 1048576) (hes : es.length ≤ 1048576) (hqs : qs.length ≤ 1048576) (hhs : hs.length ≤ 1048576) (_htd : td.length ≤ 1048576) (_hnm : nm.length ≤ 1048576) (hT : TS w) (hE : ED w) (hF : FD w) (hN : NW w) :
  Calls Tryz.prog 76 #[v, .bool pr] w fun e w' => zqn w w' e (mvP ws ps es qs hs pr) := by
 obtain ⟨aW, cW, aP, cP, aS, cS, aQ, cQ, aH, cH, aT, cT, aN, cN, rfl, d1, h1, -, -⟩ := h
 have LS := zaa (fun w1 (hb : Below w.heap.size w w1) => zdq _ ws ps es qs w1 (d1.below hb) hws hps hes hqs (hT.below hb) (hE.below hb) (hF.below hb))
 have LN := zfq ws ps es qs
 cases pr with
 | true =>
  have LP := zaa (fun vi w1 (hi : RdIm w1 vi (dvN ws ps es qs) (dvD ws ps es qs)) (hb : Below w.heap.size w w1) => zmd vi _ _ _ hs w1 hi LN.1 LN.2 dv_R zha (Rd.below h1 hb) hhs (hT.below hb) (hE.below hb) (hF.below hb))
  have LM := zaa (fun i p w1 (hb : Below w.heap.size w w1) => zhe _ ws ps es qs i p w1 (d1.below hb) hws hps hes hqs (hT.below hb) (hE.below hb) (hF.below hb) (hN.below hb))
  have eR : Hid (mvP ws ps es qs hs true = if (pcR (dvN ws ps es qs) (dvD ws ps es qs) hs 2 true).2.2 = 0 then prR2 ws ps es qs (pcR (dvN ws ps es qs) (dvD ws ps es qs) hs 2 true).1 (pcR (dvN ws ps es qs) (dvD ws ps es qs) hs 2 true).2.1 else ([], (pcR (dvN ws ps es qs) (dvD ws ps es qs) hs 2 true).2.2)) := rfl
  clear d1 h1 hT hE hF hN LN
  obtain ⟨⟨i, p, c⟩, eQ⟩ : ∃ R, R = pcR (dvN ws ps es qs) (dvD ws ps es qs) hs 2 true := ⟨_, rfl⟩
  rw [← eQ] at LP eR
  clear eQ
  simp only at LP eR
  rw [eR.out]
  clear eR
  obtain ⟨V, hV⟩ : ∃ V, V = (w.alloc (.cells #[.slice aW ws.length cW, .slice aP ps.length cP, .slice aS es.length cS, .slice aQ qs.length cQ, .slice aH hs.length cH, .slice aT td.length cT, .int .i64 cd, .int .i64 vl, .slice aN nm.length cN, .bool fr] 50)) := ⟨_, rfl⟩
  have zV : w.heap.size + 1 ≤ V.heap.size := by rw [hV]; simp <;> omega
  have B_V : Hid (Below w.heap.size w V) := by rw [hV]; exact ((Below.refl _ _).alloc (by simp <;> omega) _)
  have X0_V : Hid (V.heap[w.heap.size]? = some (.cells #[.slice aW ws.length cW, .slice aP ps.length cP, .slice aS es.length cS, .slice aQ qs.length cQ, .slice aH hs.length cH, .slice aT td.length cT, .int .i64 cd, .int .i64 vl, .slice aN nm.length cN, .bool fr] 50 (0, 0))) := by rw [hV]; exact (zah rfl)
  go_enter Tryz.func76, Tryz.ntmps76
  go_upto_region 4 with fail
  rw [← hV]
  clear hV
  obtain ⟨c0_0, c0_1, c0_2, c0_3, c0_4, -, -, -, -, -, -⟩ := zag X0_V.out
  have LEV : w.heap.size + 1 ≤ V.heap.size := by omega
  have SK : Hid (∀ w', Below (w.heap.size + 1) V w' → w'.cell? ⟨w.heap.size, 0, none⟩ = some (.slice aW ws.length cW) ∧ w'.cell? ⟨w.heap.size, 1, none⟩ = some (.slice aP ps.length cP) ∧ w'.cell? ⟨w.heap.size, 2, none⟩ = some (.slice aS es.length cS) ∧ w'.cell? ⟨w.heap.size, 3, none⟩ = some (.slice aQ qs.length cQ) ∧ w'.cell? ⟨w.heap.size, 4, none⟩ = some (.slice aH hs.length cH)) := fun w' hb => by
   obtain ⟨a0, a1, a2, a3, a4, -⟩ := zag (zae X0_V.out hb (Nat.lt_succ_self _))
   exact ⟨a0, a1, a2, a3, a4⟩
  go_region_held3 (fun w' => w'.cell? ⟨w.heap.size, 0, none⟩ = some (.slice aW ws.length cW) ∧ w'.cell? ⟨w.heap.size, 1, none⟩ = some (.slice aP ps.length cP) ∧ w'.cell? ⟨w.heap.size, 2, none⟩ = some (.slice aS es.length cS) ∧ w'.cell? ⟨w.heap.size, 3, none⟩ = some (.slice aQ qs.length cQ) ∧ w'.cell? ⟨w.heap.size, 4, none⟩ = some (.slice aH hs.length cH))
   (exact SK.out _ (by repeat (first | with_reducible exact BB.out.mono LEV | with_reducible exact BA.out.mono LEV | with_reducible exact Below.refl _ _ | with_reducible refine Below.drew ?_)))
   (first
    | (go_at_call 112; refine (LS.out _ (zab B_V.out (by repeat (first | with_reducible exact Below.refl _ _ | with_reducible refine Below.drew ?_)) B_V.out.size)).mono ?_; rintro e wa ⟨va, rfl, hra, hba⟩; have BA : Hid (Below V.heap.size V wa) := zmt (by repeat (first | with_reducible exact Below.refl _ _ | with_reducible refine Below.drew ?_)) hba; have RA : Hid (RdIm wa va (dvN ws ps es qs) (dvD ws ps es qs)) := hra.rd; clear hra hba)
    | (go_at_call 137; refine (LP.out va _ (RA.out.below (by repeat (first | with_reducible exact Below.refl _ _ | with_reducible refine Below.drew ?_))) (zab B_V.out (zmt BA.out (by repeat (first | with_reducible exact Below.refl _ _ | with_reducible refine Below.drew ?_))) B_V.out.size)).mono ?_; rintro e wb ⟨rfl, hbb⟩; have BB : Hid (Below V.heap.size V wb) := zmt BA.out (zmt (by repeat (first | with_reducible exact Below.refl _ _ | with_reducible refine Below.drew ?_)) hbb); clear hbb; obtain ⟨t0, t1, t2, t3, t4⟩ := SK.out _ (BB.out.mono LEV)))
  all_goals
   have B_wb := zaa (zab B_V.out BB.out B_V.out.size)
   clear c0_0 c0_1 c0_2 c0_3 c0_4 SK LS LP RA BA BB X0_V B_V LEV zV
   by_cases cz : c = 0
   ·subst cz
    go_wp2_with fail
    refine (LM.out i p wb B_wb.out).mono ?_
    rintro e w3 ⟨v', rfl, hr, hb⟩
    have z3 : w.heap.size ≤ wb.heap.size := B_wb.out.size
    have B3 := zaa (zab B_wb.out hb B_wb.out.size)
    have R3 := zaa hr
    clear hr hb B_wb t0 t1 t2 t3 t4
    go_wp2
    go_ret2
    try rw [if_pos rfl]
    exact ⟨_, rfl, R3.out.wide z3 (Nat.le_refl _), B3.out⟩
   ·go_wp2
    go_ret2
    try rw [if_neg cz]
    exact ⟨_, rfl, Row.nil _ _ _ _ _, B_wb.out⟩
 | false =>
  have LP := zaa (fun vi w1 (hi : RdIm w1 vi (dvN ws ps es qs) (dvD ws ps es qs)) (hb : Below w.heap.size w w1) => zkd vi _ _ _ hs w1 hi LN.1 LN.2 dv_R zha (Rd.below h1 hb) hhs (hT.below hb) (hE.below hb) (hF.below hb))
  have LM := zaa (fun i p w1 (hb : Below w.heap.size w w1) => zhz _ ws ps es qs i p w1 (d1.below hb) hws hps hes hqs (hT.below hb) (hE.below hb) (hF.below hb) (hN.below hb))
  have eR : Hid (mvP ws ps es qs hs false = if (pcR (dvN ws ps es qs) (dvD ws ps es qs) hs 1 false).2.2 = 0 then deR2 ws ps es qs (pcR (dvN ws ps es qs) (dvD ws ps es qs) hs 1 false).1 (pcR (dvN ws ps es qs) (dvD ws ps es qs) hs 1 false).2.1 else ([], (pcR (dvN ws ps es qs) (dvD ws ps es qs) hs 1 false).2.2)) := rfl
  clear d1 h1 hT hE hF hN LN
  obtain ⟨⟨i, p, c⟩, eQ⟩ : ∃ R, R = pcR (dvN ws ps es qs) (dvD ws ps es qs) hs 1 false := ⟨_, rfl⟩
  rw [← eQ] at LP eR
  clear eQ
  simp only at LP eR
  rw [eR.out]
  clear eR
  obtain ⟨V, hV⟩ : ∃ V, V = (w.alloc (.cells #[.slice aW ws.length cW, .slice aP ps.length cP, .slice aS es.length cS, .slice aQ qs.length cQ, .slice aH hs.length cH, .slice aT td.length cT, .int .i64 cd, .int .i64 vl, .slice aN nm.length cN, .bool fr] 50)) := ⟨_, rfl⟩
  have zV : w.heap.size + 1 ≤ V.heap.size := by rw [hV]; simp <;> omega
  have B_V : Hid (Below w.heap.size w V) := by rw [hV]; exact ((Below.refl _ _).alloc (by simp <;> omega) _)
  have X0_V : Hid (V.heap[w.heap.size]? = some (.cells #[.slice aW ws.length cW, .slice aP ps.length cP, .slice aS es.length cS, .slice aQ qs.length cQ, .slice aH hs.length cH, .slice aT td.length cT, .int .i64 cd, .int .i64 vl, .slice aN nm.length cN, .bool fr] 50 (0, 0))) := by rw [hV]; exact (zah rfl)
  go_enter Tryz.func76, Tryz.ntmps76
  go_upto_region 4 with fail
  rw [← hV]
  clear hV
  obtain ⟨c0_0, c0_1, c0_2, c0_3, c0_4, -, -, -, -, -, -⟩ := zag X0_V.out
  have LEV : w.heap.size + 1 ≤ V.heap.size := by omega
  have SK : Hid (∀ w', Below (w.heap.size + 1) V w' → w'.cell? ⟨w.heap.size, 0, none⟩ = some (.slice aW ws.length cW) ∧ w'.cell? ⟨w.heap.size, 1, none⟩ = some (.slice aP ps.length cP) ∧ w'.cell? ⟨w.heap.size, 2, none⟩ = some (.slice aS es.length cS) ∧ w'.cell? ⟨w.heap.size, 3, none⟩ = some (.slice aQ qs.length cQ) ∧ w'.cell? ⟨w.heap.size, 4, none⟩ = some (.slice aH hs.length cH)) := fun w' hb => by
   obtain ⟨a0, a1, a2, a3, a4, -⟩ := zag (zae X0_V.out hb (Nat.lt_succ_self _))
   exact ⟨a0, a1, a2, a3, a4⟩
  go_region_held3 (fun w' => w'.cell? ⟨w.heap.size, 0, none⟩ = some (.slice aW ws.length cW) ∧ w'.cell? ⟨w.heap.size, 1, none⟩ = some (.slice aP ps.length cP) ∧ w'.cell? ⟨w.heap.size, 2, none⟩ = some (.slice aS es.length cS) ∧ w'.cell? ⟨w.heap.size, 3, none⟩ = some (.slice aQ qs.length cQ) ∧ w'.cell? ⟨w.heap.size, 4, none⟩ = some (.slice aH hs.length cH))
   (exact SK.out _ (by repeat (first | with_reducible exact BB.out.mono LEV | with_reducible exact BA.out.mono LEV | with_reducible exact Below.refl _ _ | with_reducible refine Below.drew ?_)))
   (first
    | (go_at_call 112; refine (LS.out _ (zab B_V.out (by repeat (first | with_reducible exact Below.refl _ _ | with_reducible refine Below.drew ?_)) B_V.out.size)).mono ?_; rintro e wa ⟨va, rfl, hra, hba⟩; have BA : Hid (Below V.heap.size V wa) := zmt (by repeat (first | with_reducible exact Below.refl _ _ | with_reducible refine Below.drew ?_)) hba; have RA : Hid (RdIm wa va (dvN ws ps es qs) (dvD ws ps es qs)) := hra.rd; clear hra hba)
    | (go_at_call 135; refine (LP.out va _ (RA.out.below (by repeat (first | with_reducible exact Below.refl _ _ | with_reducible refine Below.drew ?_))) (zab B_V.out (zmt BA.out (by repeat (first | with_reducible exact Below.refl _ _ | with_reducible refine Below.drew ?_))) B_V.out.size)).mono ?_; rintro e wb ⟨rfl, hbb⟩; have BB : Hid (Below V.heap.size V wb) := zmt BA.out (zmt (by repeat (first | with_reducible exact Below.refl _ _ | with_reducible refine Below.drew ?_)) hbb); clear hbb; obtain ⟨t0, t1, t2, t3, t4⟩ := SK.out _ (BB.out.mono LEV)))
  all_goals
   have B_wb := zaa (zab B_V.out BB.out B_V.out.size)
   clear c0_0 c0_1 c0_2 c0_3 c0_4 SK LS LP RA BA BB X0_V B_V LEV zV
   by_cases cz : c = 0
   ·subst cz
    go_wp2_with fail
    refine (LM.out i p wb B_wb.out).mono ?_
    rintro e w3 ⟨v', rfl, hr, hb⟩
    have z3 : w.heap.size ≤ wb.heap.size := B_wb.out.size
    have B3 := zaa (zab B_wb.out hb B_wb.out.size)
    have R3 := zaa hr
    clear hr hb B_wb t0 t1 t2 t3 t4
    go_wp2
    go_ret2
    try rw [if_pos rfl]
    exact ⟨_, rfl, R3.out.wide z3 (Nat.le_refl _), B3.out⟩
   ·go_wp2
    go_ret2
    try rw [if_neg cz]
    exact ⟨_, rfl, Row.nil _ _ _ _ _, B_wb.out⟩
theorem mvP_len {ws : List Int} {ps : List St} {es : List Int} {qs : List Se} {hs : List Int} {td : List Mi} {cd vl : Int} {nm : List ByteArray} {fr : Bool} (Y : FsYes ws ps es qs hs td cd vl nm fr) (etd : td = []) (pr : Bool) : (mvP ws ps es qs hs pr).1.length ≤ 1048576 := by
 obtain ⟨hd, eps, eqs, hc⟩ := Y.re etd
 have hp := Y.pm
 have hb := Y.bl
 have hh := Y.he
 clear Y
 subst eps eqs
 rw [← mv_same hd hh pr]
 exact Nat.le_trans (mv_len (idle_of hp hb hd hc) pr) (by omega)
set_option maxRecDepth 100000 in
set_option maxHeartbeats 16000000 in
theorem ziy (v : Value) (ws : List Int) (ps : List St) (es : List Int) (qs : List Se) (hs : List Int) (td : List Mi) (cd vl : Int) (nm : List ByteArray) (fr : Bool) (pr : Bool) (w : World) (h : RdF w v ws ps es qs hs td cd vl nm fr) (hws : ws.length ≤ 1048576) (hps : ps.length ≤ 1048576) (hes : es.length ≤ 1048576) (hqs : qs.length ≤ 1048576) (hhs : hs.length ≤ 1048576) (htd : td.length ≤ 1048576) (hnm : nm.length ≤ 1048576) (hS : SB w) (hT : TS w) (hE : ED w) (hF : FD w) (hN : NW w) :
  Calls Tryz.prog 23 #[v, .bool pr] w fun e w' => FzOut w w' e (smvR ws ps es qs hs td cd vl nm fr pr) := by
 have LF := zaa (fun w1 (hb : Below w.heap.size w w1) => zre v ws ps es qs hs td cd vl nm fr w1 (h.below hb) hws hps hes hqs hhs htd hnm (hS.below hb) (hT.below hb) (hE.below hb) (hF.below hb))
 have LDR := zaa (fun w1 (hb : Below w.heap.size w w1) => zuk v ws ps es qs hs td cd vl nm fr w1 (h.below hb) hws hps hes hqs hhs htd hnm)
 have MS := zaa (fun v1 w1 (hb : Below w.heap.size w w1) (hr : RdF w1 v1 ws ps es qs hs td cd vl nm fr) => zqd v1 ws ps es qs hs td cd vl nm fr pr w1 hr hws hps hes hqs hhs htd hnm (hT.below hb) (hE.below hb) (hF.below hb) (hN.below hb))
 have HR := zaa h
 obtain ⟨aW, cW, aP, cP, aS, cS, aQ, cQ, aH, cH, aT, cT, aN, cN, rfl, -⟩ := id h
 clear h hS hT hE hF hN
 by_cases y : fsB ws ps es qs hs td cd vl nm fr = true
 ·simp only [y] at LF
  have Y := zaa (fs_yes y)
  obtain ⟨⟨l, c⟩, eM⟩ : ∃ q, q = mvP ws ps es qs hs pr := ⟨_, rfl⟩
  have HM : Hid (td.length = 0 → l.length ≤ 1048576) := fun h0 => by
   have := mvP_len Y.out (List.length_eq_zero_iff.1 h0) pr
   rw [← eM] at this
   exact this
  rw [← eM] at MS
  have eS : Hid (smvR ws ps es qs hs td cd vl nm fr pr = if 0 < td.length ∨ fr = true then (⟨ws, ps, es, qs, hs, td, cd, vl, nm, fr⟩, 15) else (⟨ws, ps, es, qs, hs, l, cd, vl, nm, fr⟩, c)) := by
   unfold Hid smvR
   rw [if_pos y, ← eM]
  clear eM y Y HR
  obtain ⟨V, hV⟩ : ∃ V, V = ((w.alloc (.cells #[.slice aW ws.length cW, .slice aP ps.length cP, .slice aS es.length cS, .slice aQ qs.length cQ, .slice aH hs.length cH, .slice aT td.length cT, .int .i64 cd, .int .i64 vl, .slice aN nm.length cN, .bool fr] 50)).alloc (.cells #[.slice none 0 0, .slice none 0 0, .slice none 0 0, .slice none 0 0, .slice none 0 0, .slice none 0 0, .int .i64 0, .int .i64 0, .slice none 0 0, .bool false] 50)) := ⟨_, rfl⟩
  have zV : w.heap.size + 2 ≤ V.heap.size := by rw [hV]; simp <;> omega
  have B_V : Hid (Below w.heap.size w V) := by rw [hV]; exact (((Below.refl _ _).alloc (by simp <;> omega) _).alloc (by simp <;> omega) _)
  have X0_V : Hid (V.heap[w.heap.size]? = some (.cells #[.slice aW ws.length cW, .slice aP ps.length cP, .slice aS es.length cS, .slice aQ qs.length cQ, .slice aH hs.length cH, .slice aT td.length cT, .int .i64 cd, .int .i64 vl, .slice aN nm.length cN, .bool fr] 50 (0, 0))) := by rw [hV]; exact (zap (zah rfl))
  have X1_V : Hid (V.heap[w.heap.size + 1]? = some (.cells #[.slice none 0 0, .slice none 0 0, .slice none 0 0, .slice none 0 0, .slice none 0 0, .slice none 0 0, .int .i64 0, .int .i64 0, .slice none 0 0, .bool false] 50 (0, 0))) := by rw [hV]; exact (zah (by simp))
  go_enter Tryz.func23, Tryz.ntmps23
  go_upto_region 1 with fail
  rw [← hV]
  clear hV
  obtain ⟨c0_0, c0_1, c0_2, c0_3, c0_4, c0_5, c0_6, c0_7, c0_8, c0_9, -⟩ := zag X0_V.out
  go_wp2_with fail
  refine (LF.out V B_V.out).mono ?_
  rintro e w1 ⟨rfl, hb⟩
  clear c0_0 c0_1 c0_2 c0_3 c0_4 c0_5 c0_6 c0_7 c0_8 c0_9
  have zw1 : V.heap.size ≤ w1.heap.size := hb.size
  have B_w1 := zaa (zab B_V.out hb B_V.out.size)
  have X0_w1 := zaa (zae X0_V.out hb (zaj X0_V.out))
  have X1_w1 := zaa (zae X1_V.out hb (zaj X1_V.out))
  clear B_V hb X0_V X1_V
  clear LF
  obtain ⟨c0_0, c0_1, c0_2, c0_3, c0_4, c0_5, c0_6, c0_7, c0_8, c0_9, -⟩ := zag X0_w1.out
  go_wp2_with fail
  refine (LDR.out w1 B_w1.out).mono ?_
  rintro e w2 ⟨v', rfl, hr, hb, hnl⟩
  obtain ⟨vW, vP, vS, vQ, vH, vT, vN, ld, ud, lh, uh, lt, ut, ln, un, rfl, qD, qH, qT, qN, qf⟩ := hr
  obtain ⟨iW, jW, iP, jP, iS, jS, iQ, jQ, ei, -, -⟩ := qD.rd.form
  cases ei
  obtain ⟨-, iH, jH, rfl, -⟩ := qH.rd
  obtain ⟨-, iT, jT, rfl, -⟩ := id qT.1
  obtain ⟨-, iN, jN, rfl, -⟩ := qN.rd
  obtain ⟨q1, q2, q3, q4, q5, q6, q7, q8, q9, q10, q11, q12, q13, q14⟩ := qf
  have NL : Hid (td.length = 0 → iT = none ∧ jT = 0) := fun h0 => by
   obtain ⟨y0, y1, y2, y3, y4, y6, y7, y8, y9, q⟩ := hnl h0
   cases q
   exact ⟨rfl, rfl⟩
  clear LDR hnl
  clear c0_0 c0_1 c0_2 c0_3 c0_4 c0_5 c0_6 c0_7 c0_8 c0_9
  have zw2 : w1.heap.size ≤ w2.heap.size := hb.size
  have B_w2 := zaa (zab B_w1.out hb B_w1.out.size)
  have X0_w2 := zaa (zae X0_w1.out hb (zaj X0_w1.out))
  have X1_w2 := zaa (zae X1_w1.out hb (zaj X1_w1.out))
  clear B_w1 hb X0_w1 X1_w1
  have QD_w2 := zaa qD
  have QH_w2 := zaa qH
  have QT_w2 := zaa qT
  have QN_w2 := zaa qN
  clear qD qH qT qN
  obtain ⟨w3, hw3⟩ : ∃ w3, w3 = w2.alloc (.cells #[.slice iW ws.length jW, .slice iP ps.length jP, .slice iS es.length jS, .slice iQ qs.length jQ, .slice iH hs.length jH, .slice iT td.length jT, .int .i64 cd, .int .i64 vl, .slice iN nm.length jN, .bool fr] 98) := ⟨_, rfl⟩
  have hb : Below w2.heap.size w2 w3 := by rw [hw3]; exact (Below.refl _ _).alloc (Nat.le_refl _) _
  obtain ⟨bX, hbX⟩ : ∃ bX : Nat, bX = w2.heap.size := ⟨_, rfl⟩
  have VX_w3 : Hid (w3.heap[bX]? = some (.cells #[.slice iW ws.length jW, .slice iP ps.length jP, .slice iS es.length jS, .slice iQ qs.length jQ, .slice iH hs.length jH, .slice iT td.length jT, .int .i64 cd, .int .i64 vl, .slice iN nm.length jN, .bool fr] 98 (0, 0))) := by rw [hw3, hbX]; exact zah rfl
  have bx1 : w2.heap.size ≤ bX ∧ bX ≤ w2.heap.size := ⟨Nat.le_of_eq hbX.symm, Nat.le_of_eq hbX⟩
  have zw3 : w2.heap.size ≤ w3.heap.size := hb.size
  have B_w3 := zaa (zab B_w2.out hb B_w2.out.size)
  have X0_w3 := zaa (zae X0_w2.out hb (zaj X0_w2.out))
  have X1_w3 := zaa (zae X1_w2.out hb (zaj X1_w2.out))
  have QD_w3 := zaa (QD_w2.out.below hb (by omega))
  have QH_w3 := zaa (QH_w2.out.below hb (by omega))
  have QT_w3 := zaa (QT_w2.out.below hb (by omega))
  have QN_w3 := zaa (QN_w2.out.below hb (by omega))
  clear B_w2 hb X0_w2 X1_w2 QD_w2 QH_w2 QT_w2 QN_w2
  have bx2 : bX < w3.heap.size := zaj VX_w3.out
  go_upto_region 4 with fail
  rw [← hw3, ← hbX]
  clear hw3 hbX
  go_wp2_with fail
  refine (isBusy_any bX w3 VX_w3.out).mono ?_
  rintro e w' ⟨rfl, hw'⟩
  subst w'
  by_cases bz : 0 < td.length ∨ fr = true
  ·rw [show (decide (0 < td.length) || fr) = true from by simpa using bz]
   have eR : Hid (smvR ws ps es qs hs td cd vl nm fr pr = (⟨ws, ps, es, qs, hs, td, cd, vl, nm, fr⟩, 15)) := by unfold Hid; rw [eS.out, if_pos bz]
   clear bz eS MS HM NL
   obtain ⟨x0, x1, x2, x3, x4, x5, x6, x7, x8, x9, -⟩ := zag VX_w3.out
   obtain ⟨d0, d1, d2, d3, d4, d5, d6, d7, d8, d9, g0, g1, g2, g3, g4, g5, g6, g7, g8, g9⟩ := zag X1_w3.out
   obtain ⟨w4, hw4⟩ : ∃ w4, w4 = ((((((((((w3.setCell ⟨w.heap.size + 1, 0, none⟩ (.slice iW ws.length jW)).setCell ⟨w.heap.size + 1, 1, none⟩ (.slice iP ps.length jP)).setCell ⟨w.heap.size + 1, 2, none⟩ (.slice iS es.length jS)).setCell ⟨w.heap.size + 1, 3, none⟩ (.slice iQ qs.length jQ)).setCell ⟨w.heap.size + 1, 4, none⟩ (.slice iH hs.length jH)).setCell ⟨w.heap.size + 1, 5, none⟩ (.slice iT td.length jT)).setCell ⟨w.heap.size + 1, 6, none⟩ (.int .i64 cd)).setCell ⟨w.heap.size + 1, 7, none⟩ (.int .i64 vl)).setCell ⟨w.heap.size + 1, 8, none⟩ (.slice iN nm.length jN)).setCell ⟨w.heap.size + 1, 9, none⟩ (.bool fr)) := ⟨_, rfl⟩
   have Ow4 : Outside (w.heap.size + 1) (w.heap.size + 1 + 1) w3 w4 := by
    rw [hw4]
    repeat (refine Outside.setCell ?_ (by simp only; omega) (by simp only; omega) _)
    exact Outside.refl _ _ _
   have zw4 : w3.heap.size ≤ w4.heap.size ∧ w4.heap.size ≤ w3.heap.size := by rw [hw4]; simp [World.setCell]
   have B_w4 := zaa (B_w3.out.trans (Ow4.below (B := w.heap.size) (by omega) B_w3.out.size))
   have X0_w4 := zaa ((Ow4.block (w.heap.size) (zaj X0_w3.out) (by omega)).trans X0_w3.out)
   have X1_w4 : Hid (w4.heap[w.heap.size + 1]? = some (.cells #[.slice iW ws.length jW, .slice iP ps.length jP, .slice iS es.length jS, .slice iQ qs.length jQ, .slice iH hs.length jH, .slice iT td.length jT, .int .i64 cd, .int .i64 vl, .slice iN nm.length jN, .bool fr] 50 (0, 0))) := by rw [hw4]; exact (zdt (zcs (zdd (zde (zby (zcu (zct (zcv (zcp (zcr X1_w3.out _) _) _) _) _) _) _) _) _) _)
   have QD_w4 := zaa (QD_w3.out.outside Ow4 (by omega) (by omega))
   have QH_w4 := zaa (QH_w3.out.outside Ow4 (by omega) (by omega))
   have QT_w4 := zaa (QT_w3.out.outside Ow4 (by omega))
   have QN_w4 := zaa (QN_w3.out.outside Ow4 (by omega) (by omega))
   clear Ow4
   go_wp2
   refine bodyPost_ret (v := .tuple #[.agg #[.slice iW ws.length jW, .slice iP ps.length jP, .slice iS es.length jS, .slice iQ qs.length jQ, .slice iH hs.length jH, .slice iT td.length jT, .int .i64 cd, .int .i64 vl, .slice iN nm.length jN, .bool fr], .int .i64 15]) (by simp [results, Tryz.results23, go_sem, d0, d1, d2, d3, d4, d5, d6, d7, d8, d9]) rfl ?_
   rw [← hw4]
   rw [eR.out]
   refine ⟨_, rfl, ⟨_, _, _, _, _, _, _, _, _, _, _, _, _, _, _, rfl, QD_w4.out, QH_w4.out, QT_w4.out, QN_w4.out, ?_⟩, B_w4.out⟩
   exact ⟨by omega, by omega, by omega, by omega, by omega, by omega, by omega, by omega, by omega, by omega, by omega, by omega, by omega, by omega⟩
  ·rw [show (decide (0 < td.length) || fr) = false from by simpa using bz]
   have eR : Hid (smvR ws ps es qs hs td cd vl nm fr pr = (⟨ws, ps, es, qs, hs, l, cd, vl, nm, fr⟩, c)) := by unfold Hid; rw [eS.out, if_neg bz]
   have t0 : Hid (td.length = 0) := by unfold Hid; omega
   have hl := HM.out t0.out
   clear bz eS HM
   have RX : Hid (RdF w3 (.agg #[.slice iW ws.length jW, .slice iP ps.length jP, .slice iS es.length jS, .slice iQ qs.length jQ, .slice iH hs.length jH, .slice iT td.length jT, .int .i64 cd, .int .i64 vl, .slice iN nm.length jN, .bool fr]) ws ps es qs hs td cd vl nm fr) := ⟨iW, jW, iP, jP, iS, jS, iQ, jQ, iH, jH, iT, jT, iN, jN, rfl, QD_w3.out.rd, QH_w3.out.rd, QT_w3.out.1, QN_w3.out.rd⟩
   obtain ⟨x0, x1, x2, x3, x4, x5, x6, x7, x8, x9, -⟩ := zag VX_w3.out
   go_wp2_with fail
   refine (MS.out _ w3 B_w3.out RX.out).mono ?_
   rintro e w4 ⟨v', rfl, hr, hb⟩
   obtain ⟨-, aL, cL, rfl, -⟩ := hr.rd
   clear x0 x1 x2 x3 x4 x5 x6 x7 x8 x9 MS RX
   have VY_w4 := zaa (zae VX_w3.out hb bx2)
   have zw4 : w3.heap.size ≤ w4.heap.size := hb.size
   have B_w4 := zaa (zab B_w3.out hb B_w3.out.size)
   have X0_w4 := zaa (zae X0_w3.out hb (zaj X0_w3.out))
   have X1_w4 := zaa (zae X1_w3.out hb (zaj X1_w3.out))
   have QD_w4 := zaa (QD_w3.out.below hb (by omega))
   have QH_w4 := zaa (QH_w3.out.below hb (by omega))
   have QT_w4 := zaa (QT_w3.out.below hb (by omega))
   have QN_w4 := zaa (QN_w3.out.below hb (by omega))
   clear B_w3 hb X0_w3 X1_w3 QD_w3 QH_w3 QT_w3 QN_w3
   have RL : Hid (RdM w4 (.slice aL l.length cL) l) := hr.rd
   clear hr VX_w3
   have VX_w4 : Hid (w4.heap[bX]? = some (.cells #[.slice iW ws.length jW, .slice iP ps.length jP, .slice iS es.length jS, .slice iQ qs.length jQ, .slice iH hs.length jH, .slice none 0 0, .int .i64 cd, .int .i64 vl, .slice iN nm.length jN, .bool fr] 98 (0, 0))) := by
    obtain ⟨e1, e2⟩ := NL.out t0.out
    have q := VY_w4.out
    rw [e1, e2, t0.out] at q
    exact q
   clear VY_w4 NL t0
   go_wp2_with fail
   refine (plan_nil bX l aL cL w4 VX_w4.out RL.out hl).mono ?_
   rintro e w5 ⟨rfl, kT, nT, hbx, hrt, ho⟩
   have zw5 : w4.heap.size ≤ w5.heap.size := ho.size
   have B_w5 := zaa (B_w4.out.trans (ho.below (B := w.heap.size) (by omega) B_w4.out.size))
   have X0_w5 := zaa ((ho.block (w.heap.size) (zaj X0_w4.out) (by omega)).trans X0_w4.out)
   have X1_w5 := zaa ((ho.block (w.heap.size + 1) (zaj X1_w4.out) (by omega)).trans X1_w4.out)
   have VX_w5 := zaa hbx
   have QD_w5 := zaa (QD_w4.out.outside ho (by omega) (by omega))
   have QH_w5 := zaa (QH_w4.out.outside ho (by omega) (by omega))
   have QN_w5 := zaa (QN_w4.out.outside ho (by omega) (by omega))
   have QT_w5 : Hid (RowW w5 w4.heap.size w5.heap.size _ l) := hrt
   clear ho hbx hrt RL B_w4 X0_w4 X1_w4 VX_w4 QD_w4 QH_w4 QT_w4 QN_w4
   obtain ⟨x0, x1, x2, x3, x4, x5, x6, x7, x8, x9, -⟩ := zag VX_w5.out
   obtain ⟨d0, d1, d2, d3, d4, d5, d6, d7, d8, d9, g0, g1, g2, g3, g4, g5, g6, g7, g8, g9⟩ := zag X1_w5.out
   obtain ⟨w6, hw6⟩ : ∃ w6, w6 = ((((((((((w5.setCell ⟨w.heap.size + 1, 0, none⟩ (.slice iW ws.length jW)).setCell ⟨w.heap.size + 1, 1, none⟩ (.slice iP ps.length jP)).setCell ⟨w.heap.size + 1, 2, none⟩ (.slice iS es.length jS)).setCell ⟨w.heap.size + 1, 3, none⟩ (.slice iQ qs.length jQ)).setCell ⟨w.heap.size + 1, 4, none⟩ (.slice iH hs.length jH)).setCell ⟨w.heap.size + 1, 5, none⟩ (.slice kT l.length nT)).setCell ⟨w.heap.size + 1, 6, none⟩ (.int .i64 cd)).setCell ⟨w.heap.size + 1, 7, none⟩ (.int .i64 vl)).setCell ⟨w.heap.size + 1, 8, none⟩ (.slice iN nm.length jN)).setCell ⟨w.heap.size + 1, 9, none⟩ (.bool fr)) := ⟨_, rfl⟩
   have Ow6 : Outside (w.heap.size + 1) (w.heap.size + 1 + 1) w5 w6 := by
    rw [hw6]
    repeat (refine Outside.setCell ?_ (by simp only; omega) (by simp only; omega) _)
    exact Outside.refl _ _ _
   have zw6 : w5.heap.size ≤ w6.heap.size ∧ w6.heap.size ≤ w5.heap.size := by rw [hw6]; simp [World.setCell]
   have B_w6 := zaa (B_w5.out.trans (Ow6.below (B := w.heap.size) (by omega) B_w5.out.size))
   have X0_w6 := zaa ((Ow6.block (w.heap.size) (zaj X0_w5.out) (by omega)).trans X0_w5.out)
   have X1_w6 : Hid (w6.heap[w.heap.size + 1]? = some (.cells #[.slice iW ws.length jW, .slice iP ps.length jP, .slice iS es.length jS, .slice iQ qs.length jQ, .slice iH hs.length jH, .slice kT l.length nT, .int .i64 cd, .int .i64 vl, .slice iN nm.length jN, .bool fr] 50 (0, 0))) := by rw [hw6]; exact (zdt (zcs (zdd (zde (zby (zcu (zct (zcv (zcp (zcr X1_w5.out _) _) _) _) _) _) _) _) _) _)
   have QD_w6 := zaa (QD_w5.out.outside Ow6 (by omega) (by omega))
   have QH_w6 := zaa (QH_w5.out.outside Ow6 (by omega) (by omega))
   have QT_w6 := zaa (QT_w5.out.outside Ow6 (by omega))
   have QN_w6 := zaa (QN_w5.out.outside Ow6 (by omega) (by omega))
   clear Ow6
   go_wp2
   refine bodyPost_ret (v := .tuple #[.agg #[.slice iW ws.length jW, .slice iP ps.length jP, .slice iS es.length jS, .slice iQ qs.length jQ, .slice iH hs.length jH, .slice kT l.length nT, .int .i64 cd, .int .i64 vl, .slice iN nm.length jN, .bool fr], .int .i64 c]) (by simp [results, Tryz.results23, go_sem, d0, d1, d2, d3, d4, d5, d6, d7, d8, d9]) rfl ?_
   rw [← hw6]
   rw [eR.out]
   refine ⟨_, rfl, ⟨_, _, _, _, _, _, _, _, _, _, _, _, _, _, _, rfl, QD_w6.out, QH_w6.out, QT_w6.out, QN_w6.out, ?_⟩, B_w6.out⟩
   exact ⟨by omega, by omega, by omega, by omega, by omega, by omega, by omega, by omega, by omega, by omega, by omega, by omega, by omega, by omega⟩
 ·have y' : fsB ws ps es qs hs td cd vl nm fr = false := by simpa using y
  simp only [y'] at LF
  clear y' HR LDR MS
  obtain ⟨V, hV⟩ : ∃ V, V = ((w.alloc (.cells #[.slice aW ws.length cW, .slice aP ps.length cP, .slice aS es.length cS, .slice aQ qs.length cQ, .slice aH hs.length cH, .slice aT td.length cT, .int .i64 cd, .int .i64 vl, .slice aN nm.length cN, .bool fr] 50)).alloc (.cells #[.slice none 0 0, .slice none 0 0, .slice none 0 0, .slice none 0 0, .slice none 0 0, .slice none 0 0, .int .i64 0, .int .i64 0, .slice none 0 0, .bool false] 50)) := ⟨_, rfl⟩
  have zV : w.heap.size + 2 ≤ V.heap.size := by rw [hV]; simp <;> omega
  have B_V : Hid (Below w.heap.size w V) := by rw [hV]; exact (((Below.refl _ _).alloc (by simp <;> omega) _).alloc (by simp <;> omega) _)
  have X0_V : Hid (V.heap[w.heap.size]? = some (.cells #[.slice aW ws.length cW, .slice aP ps.length cP, .slice aS es.length cS, .slice aQ qs.length cQ, .slice aH hs.length cH, .slice aT td.length cT, .int .i64 cd, .int .i64 vl, .slice aN nm.length cN, .bool fr] 50 (0, 0))) := by rw [hV]; exact (zap (zah rfl))
  have X1_V : Hid (V.heap[w.heap.size + 1]? = some (.cells #[.slice none 0 0, .slice none 0 0, .slice none 0 0, .slice none 0 0, .slice none 0 0, .slice none 0 0, .int .i64 0, .int .i64 0, .slice none 0 0, .bool false] 50 (0, 0))) := by rw [hV]; exact (zah (by simp))
  go_enter Tryz.func23, Tryz.ntmps23
  go_upto_region 1 with fail
  rw [← hV]
  clear hV
  obtain ⟨c0_0, c0_1, c0_2, c0_3, c0_4, c0_5, c0_6, c0_7, c0_8, c0_9, -⟩ := zag X0_V.out
  go_wp2_with fail
  refine (LF.out V B_V.out).mono ?_
  rintro e w1 ⟨rfl, hb⟩
  clear c0_0 c0_1 c0_2 c0_3 c0_4 c0_5 c0_6 c0_7 c0_8 c0_9
  have zw1 : V.heap.size ≤ w1.heap.size := hb.size
  have B_w1 := zaa (zab B_V.out hb B_V.out.size)
  have X0_w1 := zaa (zae X0_V.out hb (zaj X0_V.out))
  have X1_w1 := zaa (zae X1_V.out hb (zaj X1_V.out))
  clear B_V hb X0_V X1_V
  clear LF
  obtain ⟨d0, d1, d2, d3, d4, d5, d6, d7, d8, d9, g0, g1, g2, g3, g4, g5, g6, g7, g8, g9⟩ := zag X1_w1.out
  obtain ⟨w2, hw2⟩ : ∃ w2, w2 = ((((((((((w1.setCell ⟨w.heap.size + 1, 0, none⟩ (.slice none 0 0)).setCell ⟨w.heap.size + 1, 1, none⟩ (.slice none 0 0)).setCell ⟨w.heap.size + 1, 2, none⟩ (.slice none 0 0)).setCell ⟨w.heap.size + 1, 3, none⟩ (.slice none 0 0)).setCell ⟨w.heap.size + 1, 4, none⟩ (.slice none 0 0)).setCell ⟨w.heap.size + 1, 5, none⟩ (.slice none 0 0)).setCell ⟨w.heap.size + 1, 6, none⟩ (.int .i64 0)).setCell ⟨w.heap.size + 1, 7, none⟩ (.int .i64 0)).setCell ⟨w.heap.size + 1, 8, none⟩ (.slice none 0 0)).setCell ⟨w.heap.size + 1, 9, none⟩ (.bool false)) := ⟨_, rfl⟩
  have Ow2 : Outside (w.heap.size + 1) (w.heap.size + 1 + 1) w1 w2 := by
   rw [hw2]
   repeat (refine Outside.setCell ?_ (by simp only; omega) (by simp only; omega) _)
   exact Outside.refl _ _ _
  have zw2 : w1.heap.size ≤ w2.heap.size ∧ w2.heap.size ≤ w1.heap.size := by rw [hw2]; simp [World.setCell]
  have B_w2 := zaa (B_w1.out.trans (Ow2.below (B := w.heap.size) (by omega) B_w1.out.size))
  have X0_w2 := zaa ((Ow2.block (w.heap.size) (zaj X0_w1.out) (by omega)).trans X0_w1.out)
  have X1_w2 : Hid (w2.heap[w.heap.size + 1]? = some (.cells #[.slice none 0 0, .slice none 0 0, .slice none 0 0, .slice none 0 0, .slice none 0 0, .slice none 0 0, .int .i64 0, .int .i64 0, .slice none 0 0, .bool false] 50 (0, 0))) := by rw [hw2]; exact (zdt (zcs (zdd (zde (zby (zcu (zct (zcv (zcp (zcr X1_w1.out _) _) _) _) _) _) _) _) _) _)
  clear Ow2
  go_wp2
  refine bodyPost_ret (v := .tuple #[.agg #[.slice none 0 0, .slice none 0 0, .slice none 0 0, .slice none 0 0, .slice none 0 0, .slice none 0 0, .int .i64 0, .int .i64 0, .slice none 0 0, .bool false], .int .i64 1]) (by simp [results, Tryz.results23, go_sem, d0, d1, d2, d3, d4, d5, d6, d7, d8, d9]) rfl ?_
  rw [← hw2]
  rw [show smvR ws ps es qs hs td cd vl nm fr pr = (zz, 1) from if_neg y]
  exact ⟨_, rfl, (RowF.zero _ _).wide (Nat.le_refl _) (by omega), B_w2.out⟩
end Go.Proofs.YtipklbnfobckaaaGreatDoor
