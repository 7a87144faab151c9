/- Several texts laid together: OpM, PlP, StS, StO, DtE. -/
import Derived.Test.YtcilodgoognmnaaGreatDoorZBD
import Derived.Test.YtcilodgoognmnaaGreatDoorZAX
import Derived.Test.YtcilodgoognmnaaGreatDoorZAR
import Derived.Test.YtcilodgoognmnaaGreatDoorZAI
import Derived.Sort.Walk0
import Derived.Shelf.Sort.Plain
import Derived.Shelf.Slices.In.SortNone
import Derived.Test.YtcilodgoognmnaaGreatDoorStN
import Derived.Test.YtcilodgoognmnaaGreatDoorZAC
namespace Go.Proofs.YtcilodgoognmnaaGreatDoor
open Go.RowKit
def Wv (us : List Se) : Prop := ∀ u ∈ us, 0 ≤ u.val ∧ u.val < 1099511627776
theorem Wv.app {us vs : List Se} (h : Wv us) (k : Wv vs) : Wv (us ++ vs) := fun u hu => by
 rcases List.mem_append.1 hu with q | q
 ·exact h u q
 ·exact k u q
theorem Wv.one {a x : Int} (h : 0 ≤ x ∧ x < 1099511627776) : Wv [⟨a, x⟩] := fun u hu => by
 rw [List.mem_singleton.1 hu]
 exact h
theorem Wv.cons {a x : Int} {us : List Se} (h : 0 ≤ x ∧ x < 1099511627776) (k : Wv us) : Wv (⟨a, x⟩ :: us) := fun u hu => by
 rcases List.mem_cons.1 hu with rfl | q
 ·exact h
 ·exact k u q
theorem enL_wv {k : Int} {x : Den} (hd : 0 ≤ x.dir ∧ x.dir ≤ 15) (hn : nmB x.name = true ∨ x.name.size = 0) (hc : -1 ≤ x.child ∧ x.child ≤ 15) : Wv (enL k x) := by
 unfold enL
 refine Wv.cons (by omega) (Wv.cons ?_ (Wv.one (by omega)))
 rcases hn with q | q
 ·have := pk_lt (s := x.name) (k := x.name.size) (fun j hj _ => (zcz q).2.2 j hj) (zcz q).2.1
  omega
 ·rw [pk_none q]
  omega
theorem zero_wv {i : Int} : Wv (wrL i zbf 8) := fun u hu => by
 unfold wrL at hu
 rcases List.mem_append.1 hu with q | q
 ·simp only [List.mem_cons, List.not_mem_nil, or_false] at q
  rcases q with rfl | rfl | rfl
  all_goals exact ⟨Int.le_refl 0, show (0 : Int) < 1099511627776 by decide⟩
 ·obtain ⟨j, hj, rfl⟩ := List.mem_map.1 q
  have hj8 := List.mem_range.1 hj
  have e : zbf.map.getD j 0 = 0 := by
   rcases (show j = 0 ∨ j = 1 ∨ j = 2 ∨ j = 3 ∨ j = 4 ∨ j = 5 ∨ j = 6 ∨ j = 7 by omega) with rfl | rfl | rfl | rfl | rfl | rfl | rfl | rfl <;> rfl
  exact ⟨by show 0 ≤ zbf.map.getD j 0; rw [e]; omega, by show zbf.map.getD j 0 < 1099511627776; rw [e]; omega⟩
theorem mk_wv {ws : List Ino} {ps : List Den} {s : ByteArray} {kind : Int} {us : List Se} (h : Img ws ps) (hk : 1 ≤ kind ∧ kind ≤ 2) (e : mkI ws ps s kind = (us, 0)) : Wv us := by
 unfold mkI at e
 by_cases c : (paI ws ps s).2.2 = 0
 ·rw [if_pos c] at e
  obtain ⟨p1, -, p3⟩ := zib (zca.2 h) c
  unfold mkN at e
  split at e
  ·simp at e
  ·split at e
   ·simp at e
   ·rename_i f1
    split at e
    ·simp at e
    ·obtain ⟨rfl, -⟩ := Prod.mk.inj e
     obtain ⟨i, ei, hi, -⟩ := fi_free h f1
     rw [ei]
     unfold mkU
     exact Wv.app (Wv.cons (by omega) (Wv.one (by omega))) (enL_wv p1 (.inl p3) (by show -1 ≤ (i : Int) ∧ (i : Int) ≤ 15; omega))
 ·rw [if_neg c] at e
  exact absurd (Prod.mk.inj e).2 c
theorem link_le {ws : List Ino} {ps : List Den} (h : Img ws ps) {i : Nat} (hi : i < 16) : 0 ≤ zcx ws (i : Int) ∧ zcx ws (i : Int) ≤ 24 := (zga (h.ok i hi)).2.2.1
theorem rm_wv {ws : List Ino} {ps : List Den} {s : ByteArray} {us : List Se} (h : Img ws ps) (e : rmI ws ps s = (us, 0)) : Wv us := by
 unfold rmI at e
 by_cases c : (paI ws ps s).2.2 = 0
 ·rw [if_pos c] at e
  unfold rmN at e
  cases q : zbb ps (paI ws ps s).1 (paI ws ps s).2.1 with
  | none => rw [q] at e; simp at e
  | some k =>
   rw [q] at e
   simp only at e
   obtain ⟨hk, i, ei, _, hi, -⟩ := zrm h q
   unfold rmC at e
   split at e
   ·simp at e
   ·obtain ⟨rfl, -⟩ := Prod.mk.inj e
    have l := link_le h hi
    rw [ei]
    unfold rmU
    have f : Wv (enL (k : Int) freeD) := enL_wv (by decide) (.inr rfl) (by decide)
    split
    ·exact Wv.app f (Wv.one (by omega))
    ·exact Wv.app f zero_wv
 ·rw [if_neg c] at e
  exact absurd (Prod.mk.inj e).2 c
theorem ln_wv {ws : List Ino} {ps : List Den} {s t : ByteArray} {us : List Se} (h : Img ws ps) (e : lnI ws ps s t = (us, 0)) : Wv us := by
 unfold lnI at e
 by_cases c0 : (lkI ws ps s).2 = 0
 ·rw [if_pos c0] at e
  split at e
  ·simp at e
  ·rename_i kk
   obtain ⟨i, ei, hi, _, _⟩ := znj h c0 kk
   unfold lnP at e
   by_cases c : (paI ws ps t).2.2 = 0
   ·rw [if_pos c] at e
    obtain ⟨p1, -, p3⟩ := zib (zca.2 h) c
    unfold lnN at e
    split at e
    ·simp at e
    ·split at e
     ·simp at e
     ·obtain ⟨rfl, -⟩ := Prod.mk.inj e
      have l := link_le h hi
      rw [ei]
      exact Wv.app (enL_wv p1 (.inl p3) (by show -1 ≤ (i : Int) ∧ (i : Int) ≤ 15; omega)) (Wv.one (by omega))
   ·rw [if_neg c] at e
    exact absurd (Prod.mk.inj e).2 c
 ·rw [if_neg c0] at e
  exact absurd (Prod.mk.inj e).2 c0
theorem rn_wv {ws : List Ino} {ps : List Den} {s t : ByteArray} {us : List Se} (h : Img ws ps) (e : rnI ws ps s t = (us, 0)) : Wv us := by
 unfold rnI at e
 by_cases c : (paI ws ps s).2.2 = 0
 ·rw [if_pos c] at e
  unfold rnE at e
  cases q : zbb ps (paI ws ps s).1 (paI ws ps s).2.1 with
  | none => rw [q] at e; simp at e
  | some k =>
   rw [q] at e
   simp only at e
   obtain ⟨hk, i, ei, _, hi, -⟩ := zrm h q
   unfold rnP at e
   by_cases d : (paI ws ps t).2.2 = 0
   ·rw [if_pos d] at e
    obtain ⟨p1, -, p3⟩ := zib (zca.2 h) d
    unfold rnN at e
    split at e
    ·simp at e
    ·split at e
     ·simp at e
     ·obtain ⟨rfl, -⟩ := Prod.mk.inj e
      rw [ei]
      exact enL_wv p1 (.inl p3) (by show -1 ≤ (i : Int) ∧ (i : Int) ≤ 15; omega)
   ·rw [if_neg d] at e
    exact absurd (Prod.mk.inj e).2 d
 ·rw [if_neg c] at e
  exact absurd (Prod.mk.inj e).2 c
theorem cu_all {ns : List Ino} {ds : List Den} {s : ByteArray} {g : Int} {us : List Se} (h : Img ns ds) (e : cuI ns ds s g = (us, 0)) : UpIn us ∧ us.length ≤ 16 ∧ Wv us := by
 unfold cuI at e
 by_cases c : (flI ns ds s).2 = 0
 ·rw [if_pos c] at e
  obtain ⟨i, hi, ei, -⟩ := zlg h c
  rw [ei] at e
  unfold cuF at e
  split at e
  ·rename_i d
   obtain ⟨rfl, -⟩ := Prod.mk.inj e
   have l := cuT_len (zcf ns ((i : Nat) : Int).toNat).map (i : Int) g.toNat 8
   unfold cuU
   refine ⟨fun u hu => ?_, by show (cuT _ _ _ _).length + 1 ≤ 16; omega, Wv.cons (by omega) (fun u hu => ?_)⟩
   ·rcases List.mem_cons.1 hu with rfl | q
    ·exact ⟨by show 48 ≤ 48 + 12 * (i : Int) + 1; omega, by show 48 + 12 * (i : Int) + 1 < 312; omega⟩
    ·exact cuT_in hi (Nat.le_refl 8) u q
   ·unfold cuT at hu
    obtain ⟨j, -, rfl⟩ := List.mem_map.1 hu
    exact ⟨Int.le_refl 0, show (0 : Int) < 1099511627776 by decide⟩
  ·simp at e
 ·rw [if_neg c] at e
  exact absurd (Prod.mk.inj e).2 c
theorem mk_no {ws : List Ino} {ps : List Den} {s : ByteArray} {kind : Int} : ¬ (mkI ws ps s kind).2 = 0 → (mkI ws ps s kind).1 = [] := by
 unfold mkI mkN
 repeat' split
 all_goals simp
theorem rm_no {ws : List Ino} {ps : List Den} {s : ByteArray} : ¬ (rmI ws ps s).2 = 0 → (rmI ws ps s).1 = [] := by
 unfold rmI rmN rmC
 repeat' split
 all_goals simp
theorem ln_no {ws : List Ino} {ps : List Den} {s t : ByteArray} : ¬ (lnI ws ps s t).2 = 0 → (lnI ws ps s t).1 = [] := by
 unfold lnI lnP lnN
 repeat' split
 all_goals simp
theorem rn_no {ws : List Ino} {ps : List Den} {s t : ByteArray} : ¬ (rnI ws ps s t).2 = 0 → (rnI ws ps s t).1 = [] := by
 unfold rnI rnE rnP rnN
 repeat' split
 all_goals simp
theorem cu_no {ns : List Ino} {ds : List Den} {s : ByteArray} {g : Int} : ¬ (cuI ns ds s g).2 = 0 → (cuI ns ds s g).1 = [] := by
 unfold cuI cuF
 repeat' split
 all_goals simp
theorem uo_no {ns : List Ino} {ds : List Den} {k : Int} {p t : ByteArray} {g : Int} : ¬ (uoI ns ds k p t g).2 = 0 → (uoI ns ds k p t g).1 = [] := by
 unfold uoI
 split
 ·exact mk_no
 split
 ·exact mk_no
 split
 ·exact rm_no
 split
 ·exact ln_no
 split
 ·exact rn_no
 ·exact cu_no
theorem uo_yes {ns : List Ino} {ds : List Den} {k : Int} {p t : ByteArray} {g : Int} (h : Img ns ds) (c : (uoI ns ds k p t g).2 = 0) : UpIn (uoI ns ds k p t g).1 ∧ (uoI ns ds k p t g).1.length ≤ 16 ∧ Wv (uoI ns ds k p t g).1 := by
 have E : ∀ r : List Se × Int, r.2 = 0 → r = (r.1, 0) := fun r q => by rw [← q]
 revert c
 unfold uoI
 by_cases c1 : k = 1
 ·rw [if_pos c1]
  exact fun c => ⟨(mk_in h (E _ c)).1, (mk_in h (E _ c)).2, mk_wv h ⟨by decide, by decide⟩ (E _ c)⟩
 rw [if_neg c1]
 by_cases c2 : k = 2
 ·rw [if_pos c2]
  exact fun c => ⟨(mk_in h (E _ c)).1, (mk_in h (E _ c)).2, mk_wv h ⟨by decide, by decide⟩ (E _ c)⟩
 rw [if_neg c2]
 by_cases c3 : k = 3
 ·rw [if_pos c3]
  exact fun c => ⟨(rm_in h (E _ c)).1, (rm_in h (E _ c)).2, rm_wv h (E _ c)⟩
 rw [if_neg c3]
 by_cases c4 : k = 4
 ·rw [if_pos c4]
  exact fun c => ⟨(ln_in h (E _ c)).1, (ln_in h (E _ c)).2, ln_wv h (E _ c)⟩
 rw [if_neg c4]
 by_cases c5 : k = 5
 ·rw [if_pos c5]
  exact fun c => ⟨(rn_in h (E _ c)).1, (rn_in h (E _ c)).2, rn_wv h (E _ c)⟩
 rw [if_neg c5]
 exact fun c => cu_all h (E _ c)
theorem uo_at {ns : List Ino} {ds : List Den} {k : Int} {p t : ByteArray} {g : Int} (h : Img ns ds) : (uoI ns ds k p t g).1.length ≤ 64 ∧ ∀ j (q : j < (uoI ns ds k p t g).1.length), 0 ≤ (uoI ns ds k p t g).1[j].at_ ∧ (uoI ns ds k p t g).1[j].at_ < 336 := by
 by_cases c : (uoI ns ds k p t g).2 = 0
 ·obtain ⟨a, b, -⟩ := uo_yes h c
  refine ⟨by omega, fun j q => ?_⟩
  have := a _ (List.getElem_mem q)
  omega
 ·have e := uo_no c
  exact ⟨by rw [e]; simp, fun j q => by rw [e] at q; cases q⟩
theorem uo_jp {ns : List Ino} {ds : List Den} {k : Int} {p t : ByteArray} {g : Int} (h : Img ns ds) (c : (uoI ns ds k p t g).2 = 0) : jpC (uoI ns ds k p t g).1 = 0 ∧ jpL (uoI ns ds k p t g).1 = zdd (zdx (uoI ns ds k p t g).1) := by
 obtain ⟨a, b, v⟩ := uo_yes h c
 have u : upsB (uoI ns ds k p t g).1 = true := decide_eq_true fun j q => by
  have := a _ (List.getElem_mem q)
  exact ⟨by omega, v _ (List.getElem_mem q)⟩
 rcases zne (uoI ns ds k p t g).1 with ⟨c, _⟩ | ⟨_, c, _⟩ | ⟨_, _, c, _⟩ | ⟨_, _, _, c⟩
 ·omega
 ·omega
 ·rw [u] at c; cases c
 ·exact c
end Go.Proofs.YtcilodgoognmnaaGreatDoor

namespace Go.Proofs.YtcilodgoognmnaaGreatDoor
open Go.RowKit Go.Maps
theorem rmR_of {ws : List Ino} {ps : List Den} {s : ByteArray} : rmR ws ps s = if (paR ws ps s).2.2 = 0 then rmN ws ps (paR ws ps s).1 (paR ws ps s).2.1 else ([], (paR ws ps s).2.2) := by
 unfold rmR paR
 by_cases c : 65536 < s.size
 ·rw [if_pos c, if_pos c]; rfl
 ·rw [if_neg c, if_neg c]
  by_cases c1 : zax ws ps = true
  ·rw [if_pos c1, if_pos c1]; rfl
  ·rw [if_neg c1, if_neg c1]; rfl
set_option maxRecDepth 100000 in
set_option maxHeartbeats 16000000 in
theorem zki (v : Value) (ws : List Ino) (ps : List Den) (s : ByteArray) (w : World) (h : RdIm w v ws ps) (hw : ws.length ≤ 1048576) (hp : ps.length ≤ 1048576) (hT : TS w) (hE : ED w) (hF : FD w) (hr : ∀ k (h : k < ws.length), ws[k].R) (hs : ∀ k (h : k < ps.length), ps[k].name.size ≤ maxLen) :
  Calls Tryz.prog 202 #[v, .string s] w fun e w' => zer w w' e (rmR ws ps s) := by
 have LN := zaa (fun b D w1 (hb : Below w.heap.size w w1) hm => zpo v ws ps s b D w1 (h.below hb) hw hp (hT.below hb) (hE.below hb) (hF.below hb) hr hs hm)
 have LT := zaa (fun d b D w1 (hb : Below w.heap.size w w1) hi hm => zlz v ws ps d b D w1 (h.below hb) hi hm (hF.below hb))
 have LD := zaa (fun k x w1 (hb : Below w.heap.size w w1) hs => zby k x w1 (hF.below hb) hs)
 have LU := zaa (fun i x w1 (hb : Below w.heap.size w w1) hi hl => zli i x w1 hi hl (hT.below hb) (hE.below hb))
 have FDB := zaa (fun w1 (hb : Below w.heap.size w w1) => (hF.below hb).cells)
 have EL := zaa (@rmR_of ws ps s)
 have EN := zaa (fun d nm => show rmN ws ps d nm = match zbb ps d nm with | none => ([], 5) | some k => rmC ws ps k from rfl)
 have EC := zaa (fun k => show rmC ws ps k = if zai ws (zaj ps k) = 2 ∧ ¬ zbg ps (zaj ps k) = [] then ([], 11) else (rmU (k : Int) (zaj ps k) (zcx ws (zaj ps k)), 0) from rfl)
 have ER := zaa (show erR ws ps s = if (paR ws ps s).2.2 = 0 then erN ps (paR ws ps s).1 (paR ws ps s).2.1 else (0, (paR ws ps s).2.2) from rfl)
 have EM := zaa (fun d nm => show erN ps d nm = match zbb ps d nm with | none => (0, 5) | some k => ((k : Int), 0) from rfl)
 have PR := zaa (@paR_ok ws ps s)
 have CR := zaa (fun hi d nm k e => zda (ws := ws) (ps := ps) hi (d := d) (nm := nm) (k := k) e)
 have LR := zaa (fun hi i h0 => zij (ws := ws) (ps := ps) hi (i := i) h0)
 have MZ := zaa (fun hi d => mp_size (ws := ws) (ps := ps) hi d)
 have FE := zaa (fun hi d k => file_empty (ws := ws) (ps := ps) hi (d := d) k)
 have PA := zaa (fun hi => zao (ws := ws) (ps := ps) hi)
 obtain ⟨vW, vP, rfl, h1, h2⟩ := h
 obtain ⟨aW, cW, rfl, _, hcW⟩ := h1.shape
 obtain ⟨aP, cP, rfl, _, hcP⟩ := h2.shape
 have HW := zaa hcW
 have HP := zaa hcP
 clear h1 h2 hr hs hT hE hF hcW hcP
 have CA : Hid (∀ w', Below (w.alloc (.cells #[.slice aW ws.length cW, .slice aP ps.length cP] 63)).heap.size (w.alloc (.cells #[.slice aW ws.length cW, .slice aP ps.length cP] 63)) w' → w'.cell? ⟨w.heap.size, 0, none⟩ = some (.slice aW ws.length cW) ∧ w'.cell? ⟨w.heap.size, 1, none⟩ = some (.slice aP ps.length cP)) := fun w' hb => by
  have : w'.heap[w.heap.size]? = some (.cells #[.slice aW ws.length cW, .slice aP ps.length cP] 63 (0, 0)) := (hb.block _ (by simp)).trans (zah rfl)
  exact ⟨(zac this).1, (zac this).2.1⟩
 have BW : Hid (Below w.heap.size w (w.alloc (.cells #[.slice aW ws.length cW, .slice aP ps.length cP] 63))) := (Below.refl _ _).alloc (Nat.le_refl _) _
 generalize rmR ws ps s = res at *
 generalize erR ws ps s = er at *
 generalize hpr : paR ws ps s = pr at *
 clear hpr
 obtain ⟨W, hW⟩ : ∃ W, W = w.alloc (.cells #[.slice aW ws.length cW, .slice aP ps.length cP] 63) := ⟨_, rfl⟩
 have M1 : Hid (Mp ((w.alloc (.cells #[.slice aW ws.length cW, .slice aP ps.length cP] 63)).alloc (.map #[] 0)) (w.heap.size + 1) (.map [])) := by
  have := zrw (w := w.alloc (.cells #[.slice aW ws.length cW, .slice aP ps.length cP] 63))
  rw [World.size_alloc] at this
  exact this
 have A1 : Hid (Below W.heap.size W ((w.alloc (.cells #[.slice aW ws.length cW, .slice aP ps.length cP] 63)).alloc (.map #[] 0))) := by rw [← hW]; exact zsw (Below.refl _ _) _
 rw [← hW] at CA BW
 have hz : w.heap.size < W.heap.size := by rw [hW]; simp
 have hWs : W.heap.size ≤ w.heap.size + 1 := by rw [hW]; simp
 have B1 := zaa (zab BW.out A1.out (by omega))
 obtain ⟨x0, x1⟩ := CA.out _ A1.out
 obtain ⟨pd, pn, pc⟩ := pr
 obtain ⟨ek, ec⟩ := er
 simp only at EL ER PR LN
 have hmm := @run_makeMap Tryz.prog
 go_enter Tryz.func202, Tryz.ntmps202
 go_wp2_with fail
 refine (LN.out _ _ _ B1.out M1.out).mono ?_
 rintro e w2 ⟨rfl, ⟨D2, hm2⟩, hg2⟩
 have A2 := zaa (zdq A1.out hg2 hWs)
 have B2 := zaa (zab BW.out A2.out (by omega))
 have M2 := zaa hm2
 clear x0 x1 hg2 LN M1 A1 B1 hmm hm2 hW
 by_cases c : pc = 0
 case neg =>
  rw [if_neg c] at EL ER
  obtain rfl := EL.out
  have e2 := ER.out
  simp only [Prod.mk.injEq] at e2
  obtain ⟨-, rfl⟩ := e2
  have q : (ec != 0) = true := by rw [bne_iff_ne]; exact c
  clear c EL ER
  go_wp2
  go_ret2
  exact zcb B2.out
 rw [if_pos c] at EL ER
 subst c
 obtain ⟨hi, -⟩ := PR.out rfl
 rw [EM.out] at ER
 rw [EN.out] at EL
 clear PR EM EN
 cases he : zbb ps pd pn with
 | none =>
  rw [he] at EL ER
  obtain rfl := EL.out
  have e2 := ER.out
  simp only [Prod.mk.injEq] at e2
  obtain ⟨-, rfl⟩ := e2
  clear EL ER
  go_wp2
  go_ret2
  exact zcb B2.out
 | some k =>
 rw [he] at EL ER
 have e2 := ER.out
 simp only [Prod.mk.injEq] at e2
 obtain ⟨rfl, rfl⟩ := e2
 have EL2 : Hid (res = rmC ws ps k) := EL.out
 rw [EC.out] at EL2
 obtain ⟨k1, k2⟩ := CR.out hi _ _ _ he
 have lr := LR.out hi _ k2
 obtain ⟨l16, l24, _⟩ := PA.out hi
 obtain ⟨bW, oW, rfl, hblW, hcellW⟩ := HW.out (by omega)
 obtain ⟨bP, oP, rfl, hblP, hcellP⟩ := HP.out (by omega)
 have HPk := zaa (fun w' (hb : Below w.heap.size w w') => ((hb.cell (p := ⟨bP, oP + k * 3 + 2, none⟩) hblP).trans (hcellP k k1).2.2).trans (by rw [← zba k1]))
 have LTk := zaa (fun b D w1 hb hm => LT.out (zaj ps k) b D w1 hb hi hm)
 obtain ⟨ma, mb⟩ := MZ.out hi (zaj ps k)
 have MA := zaa ma
 have MB := zaa mb
 have FEk := zaa (FE.out hi (zaj ps k))
 obtain ⟨i, hi'⟩ : ∃ i : Nat, zaj ps k = (i : Int) := ⟨(zaj ps k).toNat, by omega⟩
 rw [hi'] at EL2 lr HPk LTk MA MB FEk
 have i1 : i < ws.length := by omega
 have CI := zaa (hcellW i i1)
 have lx : Hid (ws[i].links = zcx ws (i : Int)) := (zev i1).symm
 have k24 : k < 24 := by omega
 have i16 : i < 16 := by omega
 have kl : (k : Int) < (ps.length : Int) := by omega
 have il : (i : Int) < (ws.length : Int) := by omega
 have k0 : (0 : Int) ≤ (k : Int) := by omega
 have i0 : (0 : Int) ≤ (i : Int) := by omega
 clear EL EC CR LR ER he HP HW LT hi' k2 hblP l16 l24 hcellW hcellP MZ FE PA ma mb hi
 generalize ws[i] = xi at *
 generalize zai ws (i : Int) = kd at *
 generalize zcx ws (i : Int) = lk at *
 generalize zbg ps (i : Int) = nms at *
 generalize mpD ps (i : Int) ps.length = D3 at *
 obtain ⟨x0, x1⟩ := CA.out _ A2.out
 have y0 := HPk.out _ B2.out
 go_wp2_with fail
 refine (LTk.out _ _ _ B2.out M2.out).mono ?_
 rintro e w3 ⟨rfl, hm3, hg3⟩
 have A3 := zaa (zdq A2.out hg3 hWs)
 have B3 := zaa (zab BW.out A3.out (by omega))
 have M3 := zaa hm3
 clear x0 x1 y0 hg3 hm3 LTk A2 B2 M2 HPk
 by_cases q : nms = []
 case neg =>
  have q2 : kd = 2 := Classical.byContradiction fun a => q (FEk.out a)
  rw [if_pos ⟨q2, q⟩] at EL2
  obtain rfl := EL2.out
  have sz := MB.out q
  clear EL2 q q2 MA MB FEk
  have sz2 : (Maps.size D3 : Int) > 0 := by omega
  go_wp2_with (at_len; refine wpList_len_own _ rfl _ 261 rfl 9 3 mapU _ (w.heap.size + 1) 4096 D3 rfl M3.out ?_)
  go_wp2
  go_ret2
  exact zcb B3.out
 have EL3 : Hid (res = (rmU (k : Int) (i : Int) lk, 0)) := EL2.out.trans (if_neg (by rintro ⟨_, b⟩; exact b q))
 have sz := MA.out q
 clear EL2 q MA MB FEk
 have sz2 : (Maps.size D3 : Int) = 0 := by omega
 have EU := zaa (show rmU (k : Int) (i : Int) lk = enL (k : Int) freeD ++ (if 1 < lk then [⟨48 + 12 * (i : Int) + 2, lk - 1⟩] else wrL (i : Int) zbf 8) from rfl)
 generalize rmU (k : Int) (i : Int) lk = ru at *
 obtain rfl := EL3.out
 clear EL3
 obtain ⟨d1, d2⟩ := du_ok (k := (k : Int)) (x := freeD) (by omega) okB_freeD
 have LD2 := zaa (LD.out (k : Int) freeD w3 B3.out (by show (0 : Nat) ≤ maxLen; unfold maxLen; omega))
 rw [d1, d2, show freeD.v = .agg #[.int .i64 0, .string ⟨#[]⟩, .int .i64 (-1)] from rfl] at LD2
 have l3 : (enL (k : Int) freeD).length ≤ 3 := Nat.le_refl _
 have LU2 := zaa (fun w1 hb => LU.out (i : Int) xi w1 hb (by omega) (by rw [lx.out]; omega))
 have EX := zaa (show unL (i : Int) xi = if 1 < lk then [⟨48 + 12 * (i : Int) + 2, lk - 1⟩] else wrL (i : Int) zbf 8 by unfold unL; rw [lx.out])
 rw [← EX.out] at EU
 have l11 : (unL (i : Int) xi).length ≤ 11 := by
  rw [EX.out]
  split
  ·simp
  ·rw [zsv]; omega
 rw [show xi.v = .agg #[.int .i64 xi.kind, .int .i64 xi.size, .int .i64 xi.links, .int .i64 xi.m0, .int .i64 xi.m1, .int .i64 xi.m2, .int .i64 xi.m3, .int .i64 xi.m4, .int .i64 xi.m5, .int .i64 xi.m6, .int .i64 xi.m7] from rfl] at LU2
 generalize enL (k : Int) freeD = EN at *
 generalize unL (i : Int) xi = UL at *
 obtain ⟨f0, f1, f2⟩ := FDB.out _ B3.out
 clear d1 d2 LD LU EX lx
 go_wp2_with (at_len; refine wpList_len_own _ rfl _ 261 rfl 9 3 mapU _ (w.heap.size + 1) 4096 D3 rfl M3.out ?_)
 refine LD2.out.mono ?_
 rintro e w4 ⟨v4, rfl, hr4, hb4⟩
 have J4 : Hid (UpI w3 w4 v4 EN) := ⟨hr4.1, hb4⟩
 obtain ⟨-, aE, cE, hvE, -⟩ := hr4.rd
 subst hvE
 have A4 := zaa (zab A3.out hb4 A3.out.size)
 have B4 := zaa (zab B3.out hb4 B3.out.size)
 obtain ⟨x0, x1⟩ := CA.out _ A4.out
 obtain ⟨c0, c1, c2, c3, c4, c5, c6, c7, c8, c9, c10⟩ := CI.out
 have d0 := (B4.out.cell (p := ⟨bW, oW + i * 11, none⟩) hblW).trans c0
 have d1 := (B4.out.cell (p := ⟨bW, oW + i * 11 + 1, none⟩) hblW).trans c1
 have d2 := (B4.out.cell (p := ⟨bW, oW + i * 11 + 2, none⟩) hblW).trans c2
 have d3 := (B4.out.cell (p := ⟨bW, oW + i * 11 + 3, none⟩) hblW).trans c3
 have d4 := (B4.out.cell (p := ⟨bW, oW + i * 11 + 4, none⟩) hblW).trans c4
 have d5 := (B4.out.cell (p := ⟨bW, oW + i * 11 + 5, none⟩) hblW).trans c5
 have d6 := (B4.out.cell (p := ⟨bW, oW + i * 11 + 6, none⟩) hblW).trans c6
 have d7 := (B4.out.cell (p := ⟨bW, oW + i * 11 + 7, none⟩) hblW).trans c7
 have d8 := (B4.out.cell (p := ⟨bW, oW + i * 11 + 8, none⟩) hblW).trans c8
 have d9 := (B4.out.cell (p := ⟨bW, oW + i * 11 + 9, none⟩) hblW).trans c9
 have d10 := (B4.out.cell (p := ⟨bW, oW + i * 11 + 10, none⟩) hblW).trans c10
 clear c0 c1 c2 c3 c4 c5 c6 c7 c8 c9 c10 CI hr4 hb4 f0 f1 f2 LD2 FDB
 go_wp2_with fail
 refine (LU2.out _ B4.out).mono ?_
 rintro e w5 ⟨v5, rfl, hr5, hb5⟩
 have J5 := zaa (J4.out.below hb5)
 have R5 := zaa hr5.rd
 obtain ⟨-, aF, cF, hvF, -⟩ := hr5.rd
 subst hvF
 have z5 : w3.heap.size ≤ w5.heap.size := J5.out.z
 clear hr5 hb5 J4 LU2 x0 x1 d0 d1 d2 d3 d4 d5 d6 d7 d8 d9 d10 CA
 go_wp2_with (at_builtin; refine zag _ rfl (.tmp 42) (.tmp 49) 57 rfl w3.heap.size 130 (.agg #[.int .i64 0, .int .i64 0]) 2 16 Tryz.underlying57 zff rfl (by decide) _ _ _ rfl J5.out.l _ _ _ rfl R5.out (zco _) (by simp [maxLen]; omega) (by omega) z5 ?_)
 intro vN wN hownN hgrN
 have G := zaa (J5.out.grow UL hownN hgrN)
 rw [← EU.out] at G
 have G2 := zaa (G.out.wide B3.out)
 obtain ⟨-, aN, cN, hvN, -⟩ := (zad G2.out.l).rd
 subst hvN
 clear hownN hgrN J5 R5 G
 go_wp2
 go_ret2
 exact znq 0 G2.out
end Go.Proofs.YtcilodgoognmnaaGreatDoor

namespace Go.Proofs.YtcilodgoognmnaaGreatDoor
open Go.Shelf Go.RowKit
def zwz : Go.Shelf.Ren := ⟨fun | 190 => 200 | 125 => 228 | 258 => 227 | 128 => 256 | 129 => 257 | 302 => 247 | 303 => 248 | 304 => 249 | 305 => 250 | 306 => 251 | 307 => 252 | 308 => 253 | 309 => 254 | 310 => 255 | 333 => 265 | 329 => 266 | 330 => 267 | 334 => 268 | 335 => 269 | 336 => 270 | 344 => 275 | n => n, fun | 31 => 73 | 9 => 9 | 3 => 3 | 46 => 258 | 0 => 0 | 51 => 287 | 53 => 289 | 4 => 4 | 183 => 279 | 182 => 278 | 131 => 284 | 5 => 5 | 218 => 294 | 222 => 298 | 228 => 303 | 229 => 32 | n => n, fun | n => n⟩
theorem laysSort : Go.Proofs.Lays.n190 Tryz.prog zwz := {
 mixed := by kernel_rfl
 f125 := Tryz.func228.trans (congrArg some (by kernel_rfl))
 f128 := Tryz.func256.trans (congrArg some (by kernel_rfl))
 f129 := Tryz.func257.trans (congrArg some (by kernel_rfl))
 f190 := Tryz.func200.trans (congrArg some (by kernel_rfl))
 f258 := Tryz.func227.trans (congrArg some (by kernel_rfl))
 f302 := Tryz.func247.trans (congrArg some (by kernel_rfl))
 f303 := Tryz.func248.trans (congrArg some (by kernel_rfl))
 f304 := Tryz.func249.trans (congrArg some (by kernel_rfl))
 f305 := Tryz.func250.trans (congrArg some (by kernel_rfl))
 f306 := Tryz.func251.trans (congrArg some (by kernel_rfl))
 f307 := Tryz.func252.trans (congrArg some (by kernel_rfl))
 f308 := Tryz.func253.trans (congrArg some (by kernel_rfl))
 f309 := Tryz.func254.trans (congrArg some (by kernel_rfl))
 f310 := Tryz.func255.trans (congrArg some (by kernel_rfl))
 f329 := Tryz.func266.trans (congrArg some (by kernel_rfl))
 f330 := Tryz.func267.trans (congrArg some (by kernel_rfl))
 f333 := Tryz.func265.trans (congrArg some (by kernel_rfl))
 f334 := Tryz.func268.trans (congrArg some (by kernel_rfl))
 f335 := Tryz.func269.trans (congrArg some (by kernel_rfl))
 f336 := Tryz.func270.trans (congrArg some (by kernel_rfl))
 f344 := Tryz.func275.trans (congrArg some (by kernel_rfl))
 t0 := Tryz.underlying0
 a0 := Tryz.isAgg0
 z0 := Tryz.sizeOf0
 v0 := Tryz.zeroValue0
 t3 := Tryz.underlying3
 a3 := Tryz.isAgg3
 z3 := Tryz.sizeOf3
 v3 := Tryz.zeroValue3
 t4 := Tryz.underlying4
 a4 := Tryz.isAgg4
 z4 := Tryz.sizeOf4
 v4 := Tryz.zeroValue4
 t5 := Tryz.underlying5
 a5 := Tryz.isAgg5
 z5 := Tryz.sizeOf5
 v5 := Tryz.zeroValue5
 t9 := Tryz.underlying9
 a9 := Tryz.isAgg9
 z9 := Tryz.sizeOf9
 v9 := Tryz.zeroValue9
 t31 := Tryz.underlying73
 a31 := Tryz.isAgg73
 z31 := Tryz.sizeOf73
 v31 := Tryz.zeroValue73
 t46 := Tryz.underlying258
 a46 := Tryz.isAgg258
 z46 := Tryz.sizeOf258
 v46 := Tryz.zeroValue258
 t51 := Tryz.underlying287
 a51 := Tryz.isAgg287
 z51 := Tryz.sizeOf287
 v51 := Tryz.zeroValue287
 t53 := Tryz.underlying289
 a53 := Tryz.isAgg289
 z53 := Tryz.sizeOf289
 v53 := Tryz.zeroValue289
 t131 := Tryz.underlying284
 a131 := Tryz.isAgg284
 z131 := Tryz.sizeOf284
 v131 := Tryz.zeroValue284
 t182 := Tryz.underlying278
 a182 := Tryz.isAgg278
 z182 := Tryz.sizeOf278
 v182 := Tryz.zeroValue278
 t183 := Tryz.underlying279
 a183 := Tryz.isAgg279
 z183 := Tryz.sizeOf279
 v183 := Tryz.zeroValue279
 t218 := Tryz.underlying294
 a218 := Tryz.isAgg294
 z218 := Tryz.sizeOf294
 v218 := Tryz.zeroValue294
 t222 := Tryz.underlying298
 a222 := Tryz.isAgg298
 z222 := Tryz.sizeOf298
 v222 := Tryz.zeroValue298
 t228 := Tryz.underlying303
 a228 := Tryz.isAgg303
 z228 := Tryz.sizeOf303
 v228 := Tryz.zeroValue303
 t229 := Tryz.underlying32
 a229 := Tryz.isAgg32
 z229 := Tryz.sizeOf32
 v229 := Tryz.zeroValue32 }
open Go.Sort in
theorem sort_texts (blk off cap : Nat) (ss : List (List UInt8)) (w : World) (hH : Holds encStr w blk off ss.toArray) (hblk : blk < w.heap.size) (hsz : ss.length < 4611686018427387904) :
  Calls Tryz.prog 200 #[.slice (some ⟨blk, off, none⟩) ss.length cap] w fun e w' =>
   e = .returned (.tuple #[]) ∧ ∃ n os, w' = grow (putRow encStr (Sort.ahead w n) blk off (ss.mergeSort fun x y => decide (x ≤ y)).toArray) os := Any.slices_Sort_string laysSort blk off cap ss w hH hblk hsz
theorem sort_none (p : Option Addr) (cap : Nat) (w : World) :
  Calls Tryz.prog 200 #[.slice p 0 cap] w fun e w' => e = .returned (.tuple #[]) ∧ w' = w := Any.slices_Sort_string_none laysSort p cap w
end Go.Proofs.YtcilodgoognmnaaGreatDoor
namespace Go.Proofs.YtcilodgoognmnaaGreatDoor
open Go.RowKit Go.Sort
theorem strs_sorted (ss : List ByteArray) : zcv (zcp ss) = ((ss.map fun s => s.data.toList).mergeSort fun x y => decide (x ≤ y)).map encStr := by
 unfold zcv zcp
 rw [List.map_map]
 rfl
theorem texts_hold {w : World} {lo hi b n c : Nat} {ss : List ByteArray} (h : Row w 9 1 lo hi (.slice (some ⟨b, 0, none⟩) n c) n (zcv ss)) : Holds encStr w b 0 (ss.map fun s => s.data.toList).toArray := by
 obtain ⟨_, _, _, _, hf, hc⟩ := h.at
 have hl := h.len
 rw [zgq] at hl
 intro j hj
 have hj' : j < ss.length := by simpa using hj
 rw [Nat.zero_add]
 refine ⟨?_, hf j⟩
 rw [hc j (by omega), zla ss j hj', getElem!_pos _ j hj]
 simp [encStr]
theorem sort_row {w : World} {lo hi b n c : Nat} {ss : List ByteArray} (h : Row w 9 1 lo hi (.slice (some ⟨b, 0, none⟩) n c) n (zcv ss)) (m : Nat) (os : Array Obj) (w' : World)
  (e : w' = grow (putRow encStr (Sort.ahead w m) b 0 ((ss.map fun s => s.data.toList).mergeSort fun x y => decide (x ≤ y)).toArray) os) :
  Row w' 9 1 lo hi (.slice (some ⟨b, 0, none⟩) n c) n (zcv (zcp ss)) ∧ w.grownBy w' (some b) := by
 have hl := h.len
 rw [zgq, Nat.mul_one] at hl
 obtain ⟨h1, h2⟩ := h
 obtain ⟨hx, h1 | ⟨g, cap, cur, e1, hb, hg, hnc, hcm, hcs, htake⟩⟩ := h1
 ·cases h1.1
 cases e1
 have SD := strs_sorted ss
 have DL : ((ss.map fun s => s.data.toList).mergeSort fun x y => decide (x ≤ y)).length = ss.length := by rw [List.length_mergeSort, List.length_map]
 generalize (ss.map fun s => s.data.toList).mergeSort (fun x y => decide (x ≤ y)) = D at *
 have hbl : b < w.heap.size := (Array.getElem?_eq_some_iff.1 hg).1
 have hg' : w'.heap[b]? = some (.cells (putCells encStr 0 D.toArray cur) 9 (0, 0)) := by
  rw [e, heap_grow_old _ _ (by rw [size_putRow]; exact hbl)]
  unfold putRow mapBlock
  show (w.heap.modify b _)[b]? = _
  rw [Array.getElem?_modify, if_pos rfl, hg]
  rfl
 refine ⟨⟨⟨by rw [zgq, zfx]; omega, .inr ⟨b, c, putCells encStr 0 D.toArray cur, rfl, hb, hg', hnc, hcm, by unfold putCells; rw [Array.size_mapIdx]; exact hcs, ?_⟩⟩, h2⟩, ?_⟩
 ·rw [SD]
  apply List.ext_getElem?
  intro i
  rw [Nat.mul_one, List.getElem?_take, List.getElem?_map, Array.getElem?_toList]
  unfold putCells
  rw [Array.getElem?_mapIdx]
  by_cases hi : i < n
  ·rw [if_pos hi, Array.getElem?_eq_getElem (show i < cur.size by omega), List.getElem?_eq_getElem (show i < D.length by omega)]
   simp only [Option.map_some]
   rw [if_pos ⟨Nat.zero_le _, by simp; omega⟩, Nat.sub_zero, getElem!_pos _ i (by simp; omega)]
   simp
  ·rw [if_neg hi, List.getElem?_eq_none (by omega)]
   rfl
 ·refine ⟨by rw [e]; rfl, by rw [e]; rfl, by rw [e]; rfl, by rw [e, size_grow, size_putRow]; exact Nat.le_add_right _ _, fun k hk hne => ?_⟩
  rw [e, heap_grow_old _ _ (by rw [size_putRow]; exact hk)]
  unfold putRow mapBlock
  show (w.heap.modify b _)[k]? = _
  rw [Array.getElem?_modify, if_neg (fun x => hne (by rw [x]))]
theorem sort_any (v : Value) (ss : List ByteArray) (lo hi : Nat) (w : World) (h : Row w 9 1 lo hi v ss.length (zcv ss)) (hn : ss.length ≤ 1048576) :
  Calls Tryz.prog 200 #[v] w fun e w' => e = .returned (.tuple #[]) ∧ Row w' 9 1 lo hi v ss.length (zcv (zcp ss)) ∧ w.grownBy w' v.ownBlock := by
 rcases h.shape with ⟨rfl, e0, _⟩ | ⟨b, c, rfl, hc, _⟩
 ·refine (sort_none none 0 w).mono ?_
  rintro e w' ⟨rfl, rfl⟩
  have hs : ss = [] := List.eq_nil_of_length_eq_zero e0
  subst hs
  exact ⟨rfl, by rw [show zcp [] = [] by simp [zcp]]; exact h, World.grownBy.refl _ _⟩
 ·have hh := texts_hold h
  have := sort_texts b 0 c (ss.map fun s => s.data.toList) w hh h.at.2.2.2.1 (by rw [List.length_map]; omega)
  rw [List.length_map] at this
  refine this.mono ?_
  rintro e w' ⟨rfl, m, os, hw'⟩
  exact ⟨rfl, sort_row h m os w' hw'⟩
end Go.Proofs.YtcilodgoognmnaaGreatDoor

namespace Go.Proofs.YtcilodgoognmnaaGreatDoor
open Go.RowKit
set_option maxRecDepth 100000 in
set_option maxHeartbeats 4000000 in
theorem zlk (v : Value) (ws : List Ino) (ps : List Den) (d : Int) (w : World) (h : RdIm w v ws ps) (hw : ws.length ≤ 1048576) (hp : ps.length ≤ 1048576) (hT : TS w) (hE : ED w) (hF : FD w) (hr : ∀ k (h : k < ws.length), ws[k].R) (hs : ∀ k (h : k < ps.length), ps[k].name.size ≤ maxLen) :
  Calls Tryz.prog 146 #[v, .int .i64 d] w fun e w' => ∃ v', e = .returned (.tuple #[v', .int .i64 (eoC ws ps d)]) ∧ Row w' 9 1 w.heap.size w'.heap.size v' (eoL ws ps d).length (zcv (eoL ws ps d)) ∧ Below w.heap.size w w' := by
 have LI := zaa (fun w1 (hb : Below w.heap.size w w1) => zbo v ws ps w1 (h.below hb) hw hp (hT.below hb) (hE.below hb) (hF.below hb) hr hs)
 have FD_ := zaa hF
 obtain ⟨vW, vP, rfl, h1, h2⟩ := h
 have RP := zaa h2
 obtain ⟨aW, cW, rfl, _, hcW⟩ := h1.shape
 have HW := zaa hcW
 obtain ⟨aP, cP, rfl, _, _⟩ := h2.shape
 have LM := zaa (fun w1 (hb : Below w.heap.size w w1) (hl : ps.length ≤ 4096) => zha (.slice aP ps.length cP) ps w1 (Rd.below RP.out hb) hl (FD_.out.below hb))
 clear h1 h2 hr hs hT hE hF hcW
 have CA : Hid (∀ w', Below (w.alloc (.cells #[.slice aW ws.length cW, .slice aP ps.length cP] 63)).heap.size (w.alloc (.cells #[.slice aW ws.length cW, .slice aP ps.length cP] 63)) w' → w'.cell? ⟨w.heap.size, 0, none⟩ = some (.slice aW ws.length cW) ∧ w'.cell? ⟨w.heap.size, 1, none⟩ = some (.slice aP ps.length cP)) := fun w' hb => by
  have : w'.heap[w.heap.size]? = some (.cells #[.slice aW ws.length cW, .slice aP ps.length cP] 63 (0, 0)) := (hb.block _ (by simp)).trans (zah rfl)
  exact ⟨(zac this).1, (zac this).2.1⟩
 have BW : Hid (Below w.heap.size w (w.alloc (.cells #[.slice aW ws.length cW, .slice aP ps.length cP] 63))) := (Below.refl _ _).alloc (Nat.le_refl _) _
 obtain ⟨x0, x1⟩ := CA.out _ (Below.refl _ _)
 cases c1 : zax ws ps with
 | false =>
  rw [c1] at LI
  have E1 : eoC ws ps d = 1 := by unfold eoC; rw [c1]; rfl
  rw [show eoL ws ps d = [] by unfold eoL; rw [E1]; rfl, E1]
  clear c1 E1
  go_enter Tryz.func146, Tryz.ntmps146
  go_wp2_with fail
  refine (LI.out _ BW.out).mono ?_
  rintro e w1 ⟨rfl, hb1⟩
  have B1 := zaa (zab BW.out hb1 BW.out.size)
  clear hb1 x0 x1
  go_wp2
  go_ret2
  exact ⟨_, rfl, Row.nil _ _ _ _ _, B1.out⟩
 | true =>
 rw [c1] at LI
 by_cases c2 : 0 ≤ d ∧ d ≤ 15
 case neg =>
  have E1 : eoC ws ps d = 4 := by unfold eoC; rw [if_pos c1, if_neg c2]
  rw [show eoL ws ps d = [] by unfold eoL; rw [E1]; rfl, E1]
  have C2 : Hid (¬ (0 ≤ d ∧ d < 16)) := fun h => c2 (by omega)
  clear c1 c2 E1
  go_enter Tryz.func146, Tryz.ntmps146
  go_wp2_with fail
  refine (LI.out _ BW.out).mono ?_
  rintro e w1 ⟨rfl, hb1⟩
  have B1 := zaa (zab BW.out hb1 BW.out.size)
  clear hb1 x0 x1
  go_wp2_with fail
  refine (zbj _ _ _ C2.out).mono ?_
  rintro e w2 ⟨rfl, hw2⟩
  subst w2
  go_wp2
  go_ret2
  exact ⟨_, rfl, Row.nil _ _ _ _ _, B1.out⟩
 obtain ⟨dn, hdn⟩ : ∃ n : Nat, d = (n : Int) := ⟨d.toNat, by omega⟩
 have L24 := zaa (show ps.length ≤ 4096 by have := (zea c1).2.1; omega)
 have d1 : dn < ws.length := by have := (zea c1).1; omega
 obtain ⟨bW, oW, rfl, hblW, hcellW⟩ := HW.out (by omega)
 have HK : Hid (∀ w', Below w.heap.size w w' → w'.cell? ⟨bW, oW + dn * 11, none⟩ = some (.int .i64 (zai ws d))) := fun w' hb => by
  rw [hdn, zaz d1]
  exact (hb.cell (p := ⟨bW, oW + dn * 11, none⟩) hblW).trans (hcellW dn d1).1
 clear hcellW HW
 have C2 : Hid (0 ≤ d ∧ d < 16) := by unfold Hid; omega
 have d2 : (0 : Int) ≤ (dn : Int) := by omega
 have d3 : (dn : Int) < (ws.length : Int) := by omega
 have ENC : Hid (eoC ws ps d = if zai ws d = 2 then 0 else 10) := by unfold Hid eoC; rw [if_pos c1, if_pos c2]
 have ENL : Hid (eoC ws ps d = 0 → eoL ws ps d = zcp (ztx (zap ps) d)) := fun h => by unfold eoL; rw [if_pos h, dirN_names (img_ents c1)]
 have ENN : Hid (eoC ws ps d = 10 → eoL ws ps d = []) := fun h => by unfold eoL; rw [h]; rfl
 have tl : (zap ps).length ≤ 24 := by have := zpn ps; have := (zea c1).2.1; omega
 generalize eoC ws ps d = EC at *
 generalize eoL ws ps d = EL at *
 generalize zai ws d = kd at *
 clear c1 c2
 subst hdn
 by_cases c3 : kd = 2
 case neg =>
  have e1 : EC = 10 := by rw [ENC.out, if_neg c3]
  rw [ENN.out e1, e1]
  have q : (kd != 2) = true := by rw [bne_iff_ne]; exact c3
  clear c3 e1 ENC ENL ENN
  go_enter Tryz.func146, Tryz.ntmps146
  go_wp2_with fail
  refine (LI.out _ BW.out).mono ?_
  rintro e w1 ⟨rfl, hb1⟩
  have B1 := zaa (zab BW.out hb1 BW.out.size)
  clear x0 x1
  obtain ⟨x0, x1⟩ := CA.out _ hb1
  clear hb1
  have k1 := HK.out w1 B1.out
  go_wp2_with fail
  refine (zaq _ _ _ C2.out).mono ?_
  rintro e w2 ⟨rfl, hw2⟩
  subst w2
  go_wp2
  go_ret2
  exact ⟨_, rfl, Row.nil _ _ _ _ _, B1.out⟩
 have e1 : EC = 0 := by rw [ENC.out, if_pos c3]
 rw [ENL.out e1, e1]
 have q : (kd != 2) = false := by rw [c3]; rfl
 clear c3 e1 ENC ENL ENN
 generalize zap ps = ts at *
 go_enter Tryz.func146, Tryz.ntmps146
 go_wp2_with fail
 refine (LI.out _ BW.out).mono ?_
 rintro e w1 ⟨rfl, hb1⟩
 have B1 := zaa (zab BW.out hb1 BW.out.size)
 clear x0 x1
 obtain ⟨x0, x1⟩ := CA.out _ hb1
 clear hb1
 have k1 := HK.out w1 B1.out
 go_wp2_with fail
 refine (zaq _ _ _ C2.out).mono ?_
 rintro e w2 ⟨rfl, hw2⟩
 subst w2
 go_wp2_with fail
 refine (LM.out _ B1.out L24.out).mono ?_
 rintro e w2 ⟨v2, rfl, hr2, hb2⟩
 obtain ⟨-, aM, cM, hvM, -⟩ := hr2.rd
 subst hvM
 have R2 : Hid (RdD w2 (.slice aM ts.length cM) ts) := hr2.rd
 have B2 := zaa (zab B1.out hb2 B1.out.size)
 have hz2 : w.heap.size ≤ w2.heap.size := B2.out.size
 obtain ⟨aZ, cZ, eZ, _, hcZ⟩ := R2.out.shape
 have HZ := zaa hcZ
 obtain ⟨rfl, rfl⟩ : aZ = aM ∧ cZ = cM := by cases eZ; exact ⟨rfl, rfl⟩
 clear eZ hcZ hr2 hb2 x0 x1 k1 LI LM HK CA
 go_wp2
 go_loopw [6, 8, 26] (fun vL _ i wr => ∃ k : Nat, k ≤ ts.length ∧ i = .int .i64 k ∧ Hid (SnI w2 wr vL (ztx (ts.take k) (dn : Int))) ∧ w2.heap.size ≤ wr.heap.size) (fun _ _ i _ => ts.length - (intOf i).toNat)
 case atStart => exact ⟨0, by omega, rfl, ⟨World.ownsRow_nil _ _ _ _, Below.refl _ _⟩, Nat.le_refl _⟩
 case round =>
  obtain ⟨k, hk, rfl, I, hz⟩ := hrel
  by_cases hlt : k < ts.length
  ·obtain ⟨b, o, rfl, hbl, hcell⟩ := HZ.out (by omega)
   obtain ⟨a0, a1, a2⟩ := hcell k hlt
   have f0 := (I.out.b.cell (p := ⟨b, o + k * 3, none⟩) hbl).trans a0
   have f1 := (I.out.b.cell (p := ⟨b, o + k * 3 + 1, none⟩) hbl).trans a1
   have f2 := (I.out.b.cell (p := ⟨b, o + k * 3 + 2, none⟩) hbl).trans a2
   have k0 : (0 : Int) ≤ (k : Int) := by omega
   have k1 : (k : Int) < (ts.length : Int) := by omega
   have US := zaa (dirN_succ (d := (dn : Int)) hlt)
   have UL := dirN_len (ts.take k) (dn : Int)
   rw [List.length_take] at UL
   clear hcell a0 a1 a2
   generalize ts[k] = x at *
   obtain ⟨wx, hwx⟩ : ∃ wx, wx = wr.alloc (.cells #[.int .i64 x.dir, .string x.name, .int .i64 x.child] 180) := ⟨_, rfl⟩
   have BX : Hid (Below wr.heap.size wr wx) := by rw [hwx]; exact (Below.refl _ _).alloc (Nat.le_refl _) _
   have IX := zaa (I.out.below BX.out)
   have hzx := IX.out.z
   by_cases r : x.dir = (dn : Int)
   ·have r' : (x.dir == (dn : Int)) = true := by rw [beq_iff_eq]; exact r
    have JB : Hid (SnI w2 (wx.alloc (.cells #[.string x.name] 9)) u6 (ztx (ts.take k) (dn : Int))) := IX.out.below ((Below.refl _ _).alloc (Nat.le_refl _) _)
    have RB := zaa (zhi wx x.name)
    have hzb := JB.out.z
    have MN : Hid (ztx (ts.take (k + 1)) (dn : Int) = ztx (ts.take k) (dn : Int) ++ [x.name]) := by unfold Hid; rw [US.out, if_pos r]
    rw [hwx] at JB RB hzb
    simp only [World.size_alloc] at RB hzb
    clear r I US IX BX
    go_wp2_with (at_builtin; refine zag _ rfl (.tmp 34) (.tmp 37) 73 rfl w2.heap.size 9 (.string ⟨#[]⟩) 1 16 Tryz.underlying73 zeq rfl (by decide) _ _ _ rfl JB.out.l _ 1 _ rfl RB.out (zbh _) (by simp [maxLen]; omega) (by omega) JB.out.z ?_)
    intro vN wN hownN hgrN
    have G := zaa (JB.out.grow [x.name] rfl hownN hgrN)
    rw [← MN.out] at G
    have hzN := G.out.z
    clear hownN hgrN JB RB
    go_wp2
    go_roundw
    case rel => exact ⟨k + 1, by omega, by go_num, G, hzN⟩
    case measure => simp [intOf]; omega
   ·have r' : (x.dir == (dn : Int)) = false := by rw [beq_eq_false_iff_ne]; exact r
    have G : Hid (SnI w2 wx u6 (ztx (ts.take (k + 1)) (dn : Int))) := by unfold Hid; rw [US.out, if_neg r]; exact IX.out
    clear r I US IX BX
    go_wp2
    rw [← hwx]
    go_roundw
    case rel => exact ⟨k + 1, by omega, by go_num, G, hzx⟩
    case measure => simp [intOf]; omega
  ·obtain rfl : k = ts.length := by omega
   have E := zaa (show ztx (ts.take ts.length) (dn : Int) = ztx ts (dn : Int) by rw [List.take_length])
   rw [E.out] at I
   have SL := dirN_len ts (dn : Int)
   have SRT := zaa (sort_any u6 (ztx ts (dn : Int)) w2.heap.size wr.heap.size wr (zad I.out.l) (by omega))
   have SLN := zaa (zfx (ztx ts (dn : Int)))
   go_wp2_with fail
   refine SRT.out.mono ?_
   rintro e w3 ⟨rfl, hr3, hg3⟩
   have B3 : Hid (Below w2.heap.size w2 w3) := I.out.b.grown hg3 hz (fun q hq => (I.out.l.lt q hq).1)
   have R3 := zaa (hr3.wide hz2 hg3.size)
   obtain ⟨-, aL, cL, hvL, -⟩ := hr3.rd
   subst hvL
   clear hr3 hg3 I SRT
   go_wp2
   go_ret2
   exact ⟨_, rfl, by rw [SLN.out]; exact R3.out, zab B2.out B3.out hz2⟩
end Go.Proofs.YtcilodgoognmnaaGreatDoor

namespace Go.Proofs.YtcilodgoognmnaaGreatDoor
open Go.RowKit
def opB (k : Int) (p t : ByteArray) (g x : Int) : Bool := decide ((1 ≤ k ∧ k ≤ 10) ∧ p.size ≤ 65536 ∧ t.size ≤ 65536 ∧ (k = 4 ∨ k = 5 ∨ t.size = 0) ∧ (k = 6 ∨ x = 0) ∧ ((6 ≤ k ∧ k ≤ 8) ∨ g = 0))
set_option maxRecDepth 100000 in
set_option maxHeartbeats 4000000 in
theorem zuc (k : Int) (p t : ByteArray) (g x : Int) (w : World) :
  Calls Tryz.prog 74 #[.agg #[.int .i64 k, .string p, .string t, .int .i64 g, .int .i64 x]] w fun e w' => e = .returned (.bool (opB k p t g x)) ∧ Below w.heap.size w w' := by
 have BW := zaa ((Below.refl w.heap.size w).alloc (Nat.le_refl _) (.cells #[.int .i64 k, .string p, .string t, .int .i64 g, .int .i64 x] 78))
 have ET := zaa (zpm t)
 have NO := zaa (fun h => show opB k p t g x = false from decide_eq_false h)
 have YES := zaa (fun h => show opB k p t g x = true from decide_eq_true h)
 obtain ⟨W, hW⟩ : ∃ W, W = w.alloc (.cells #[.int .i64 k, .string p, .string t, .int .i64 g, .int .i64 x] 78) := ⟨_, rfl⟩
 rw [← hW] at BW
 have CB : Hid (W.heap[w.heap.size]? = some (.cells #[.int .i64 k, .string p, .string t, .int .i64 g, .int .i64 x] 78 (0, 0))) := by rw [hW]; exact zah rfl
 have x0 : W.cell? ⟨w.heap.size, 0, none⟩ = some (.int .i64 k) := by rw [hW]; simp [go_sem]
 have x1 : W.cell? ⟨w.heap.size, 1, none⟩ = some (.string p) := by rw [hW]; simp [go_sem]
 have x2 : W.cell? ⟨w.heap.size, 2, none⟩ = some (.string t) := by rw [hW]; simp [go_sem]
 have x3 : W.cell? ⟨w.heap.size, 3, none⟩ = some (.int .i64 g) := by rw [hW]; simp [go_sem]
 have x4 : W.cell? ⟨w.heap.size, 4, none⟩ = some (.int .i64 x) := by rw [hW]; simp [go_sem]
 clear CB
 by_cases c1 : 1 ≤ k ∧ k ≤ 10
 case neg =>
  rw [NO.out (fun h => c1 h.1)]
  go_enter Tryz.func74, Tryz.ntmps74
  go_wp2_with fail
  rw [← hW]
  clear hW
  refine (zce _ _ _ _ c1).mono ?_
  rintro e w' ⟨rfl, hw'⟩
  subst w'
  go_wp2
  go_ret
  exact ⟨rfl, BW.out⟩
 by_cases c2 : (65536 : Int) < (p.size : Int)
 case pos =>
  rw [NO.out (fun h => by have := h.2.1; omega)]
  go_enter Tryz.func74, Tryz.ntmps74
  go_wp2_with fail
  rw [← hW]
  clear hW
  refine (zar _ _ _ _ c1).mono ?_
  rintro e w' ⟨rfl, hw'⟩
  subst w'
  go_wp2
  go_ret
  exact ⟨rfl, BW.out⟩
 by_cases c3 : (65536 : Int) < (t.size : Int)
 case pos =>
  rw [NO.out (fun h => by have := h.2.2.1; omega)]
  go_enter Tryz.func74, Tryz.ntmps74
  go_wp2_with fail
  rw [← hW]
  clear hW
  refine (zar _ _ _ _ c1).mono ?_
  rintro e w' ⟨rfl, hw'⟩
  subst w'
  go_wp2
  go_ret
  exact ⟨rfl, BW.out⟩
 by_cases d4 : k = 4
 case pos =>
  subst d4
  by_cases c8 : x = 0
  case neg =>
   rw [NO.out (fun h => by have := h.2.2.2.2.1; omega)]
   have q8 : (x != 0) = true := by rw [bne_iff_ne]; exact c8
   go_enter Tryz.func74, Tryz.ntmps74
   go_wp2_with fail
   rw [← hW]
   clear hW
   refine (zar _ _ _ _ c1).mono ?_
   rintro e w' ⟨rfl, hw'⟩
   subst w'
   go_wp2
   go_ret
   exact ⟨rfl, BW.out⟩
  subst c8
  by_cases c9 : g = 0
  ·rw [YES.out ⟨by omega, by omega, by omega, by omega, by omega, by omega⟩]
   subst c9
   go_enter Tryz.func74, Tryz.ntmps74
   go_wp2_with fail
   rw [← hW]
   clear hW
   refine (zar _ _ _ _ c1).mono ?_
   rintro e w' ⟨rfl, hw'⟩
   subst w'
   go_wp2_with fail
   refine (zce _ _ _ _ (by omega)).mono ?_
   rintro e w' ⟨rfl, hw'⟩
   subst w'
   go_wp2
   go_ret
   exact ⟨rfl, BW.out⟩
  ·rw [NO.out (fun h => by have := h.2.2.2.2.2; omega)]
   have q9 : (g == 0) = false := by rw [beq_eq_false_iff_ne]; exact c9
   go_enter Tryz.func74, Tryz.ntmps74
   go_wp2_with fail
   rw [← hW]
   clear hW
   refine (zar _ _ _ _ c1).mono ?_
   rintro e w' ⟨rfl, hw'⟩
   subst w'
   go_wp2_with fail
   refine (zce _ _ _ _ (by omega)).mono ?_
   rintro e w' ⟨rfl, hw'⟩
   subst w'
   go_wp2
   go_ret
   exact ⟨rfl, BW.out⟩
 by_cases d5 : k = 5
 case pos =>
  subst d5
  by_cases c8 : x = 0
  case neg =>
   rw [NO.out (fun h => by have := h.2.2.2.2.1; omega)]
   have q8 : (x != 0) = true := by rw [bne_iff_ne]; exact c8
   go_enter Tryz.func74, Tryz.ntmps74
   go_wp2_with fail
   rw [← hW]
   clear hW
   refine (zar _ _ _ _ c1).mono ?_
   rintro e w' ⟨rfl, hw'⟩
   subst w'
   go_wp2
   go_ret
   exact ⟨rfl, BW.out⟩
  subst c8
  by_cases c9 : g = 0
  ·rw [YES.out ⟨by omega, by omega, by omega, by omega, by omega, by omega⟩]
   subst c9
   go_enter Tryz.func74, Tryz.ntmps74
   go_wp2_with fail
   rw [← hW]
   clear hW
   refine (zar _ _ _ _ c1).mono ?_
   rintro e w' ⟨rfl, hw'⟩
   subst w'
   go_wp2_with fail
   refine (zce _ _ _ _ (by omega)).mono ?_
   rintro e w' ⟨rfl, hw'⟩
   subst w'
   go_wp2
   go_ret
   exact ⟨rfl, BW.out⟩
  ·rw [NO.out (fun h => by have := h.2.2.2.2.2; omega)]
   have q9 : (g == 0) = false := by rw [beq_eq_false_iff_ne]; exact c9
   go_enter Tryz.func74, Tryz.ntmps74
   go_wp2_with fail
   rw [← hW]
   clear hW
   refine (zar _ _ _ _ c1).mono ?_
   rintro e w' ⟨rfl, hw'⟩
   subst w'
   go_wp2_with fail
   refine (zce _ _ _ _ (by omega)).mono ?_
   rintro e w' ⟨rfl, hw'⟩
   subst w'
   go_wp2
   go_ret
   exact ⟨rfl, BW.out⟩
 have q4 : (k != 4) = true := by rw [bne_iff_ne]; exact d4
 have q5 : (k != 5) = true := by rw [bne_iff_ne]; exact d5
 by_cases c6 : t.toList = []
 case neg =>
  rw [NO.out (fun h => by rcases h.2.2.2.1 with a | a | a; exact d4 a; exact d5 a; exact c6 (ET.out.2 a))]
  have qe : t.toList.isEmpty = false := by rw [List.isEmpty_eq_false_iff]; exact c6
  go_enter Tryz.func74, Tryz.ntmps74
  go_wp2_with fail
  rw [← hW]
  clear hW
  refine (zar _ _ _ _ c1).mono ?_
  rintro e w' ⟨rfl, hw'⟩
  subst w'
  go_wp2
  go_ret
  exact ⟨rfl, BW.out⟩
 have t0 := ET.out.1 c6
 by_cases d6 : k = 6
 case pos =>
  subst d6
  rw [YES.out ⟨by omega, by omega, by omega, by omega, by omega, by omega⟩]
  go_enter Tryz.func74, Tryz.ntmps74
  go_wp2_with fail
  rw [← hW]
  clear hW
  refine (zar _ _ _ _ c1).mono ?_
  rintro e w' ⟨rfl, hw'⟩
  subst w'
  go_wp2_with fail
  refine (zar _ _ _ _ (by omega)).mono ?_
  rintro e w' ⟨rfl, hw'⟩
  subst w'
  go_wp2
  go_ret
  exact ⟨rfl, BW.out⟩
 have q6 : (k != 6) = true := by rw [bne_iff_ne]; exact d6
 by_cases c8 : x = 0
 case neg =>
  rw [NO.out (fun h => by have := h.2.2.2.2.1; omega)]
  have q8 : (x != 0) = true := by rw [bne_iff_ne]; exact c8
  go_enter Tryz.func74, Tryz.ntmps74
  go_wp2_with fail
  rw [← hW]
  clear hW
  refine (zar _ _ _ _ c1).mono ?_
  rintro e w' ⟨rfl, hw'⟩
  subst w'
  go_wp2
  go_ret
  exact ⟨rfl, BW.out⟩
 subst c8
 by_cases d7 : 6 ≤ k ∧ k ≤ 8
 case pos =>
  rw [YES.out ⟨by omega, by omega, by omega, by omega, by omega, by omega⟩]
  go_enter Tryz.func74, Tryz.ntmps74
  go_wp2_with fail
  rw [← hW]
  clear hW
  refine (zar _ _ _ _ c1).mono ?_
  rintro e w' ⟨rfl, hw'⟩
  subst w'
  go_wp2_with fail
  refine (zar _ _ _ _ (by omega)).mono ?_
  rintro e w' ⟨rfl, hw'⟩
  subst w'
  go_wp2
  go_ret
  exact ⟨rfl, BW.out⟩
 by_cases c9 : g = 0
 ·rw [YES.out ⟨by omega, by omega, by omega, by omega, by omega, by omega⟩]
  subst c9
  go_enter Tryz.func74, Tryz.ntmps74
  go_wp2_with fail
  rw [← hW]
  clear hW
  refine (zar _ _ _ _ c1).mono ?_
  rintro e w' ⟨rfl, hw'⟩
  subst w'
  go_wp2_with fail
  refine (zce _ _ _ _ (by omega)).mono ?_
  rintro e w' ⟨rfl, hw'⟩
  subst w'
  go_wp2
  go_ret
  exact ⟨rfl, BW.out⟩
 ·rw [NO.out (fun h => by have := h.2.2.2.2.2; omega)]
  have q9 : (g == 0) = false := by rw [beq_eq_false_iff_ne]; exact c9
  go_enter Tryz.func74, Tryz.ntmps74
  go_wp2_with fail
  rw [← hW]
  clear hW
  refine (zar _ _ _ _ c1).mono ?_
  rintro e w' ⟨rfl, hw'⟩
  subst w'
  go_wp2_with fail
  refine (zce _ _ _ _ (by omega)).mono ?_
  rintro e w' ⟨rfl, hw'⟩
  subst w'
  go_wp2
  go_ret
  exact ⟨rfl, BW.out⟩
end Go.Proofs.YtcilodgoognmnaaGreatDoor
