/- A file system with nothing to be done: what its steps leave (mathematics). -/
import Derived.Test.YtbbmljakfbhnpaaGreatDoorZAM
import Derived.Test.YtbbmljakfbhnpaaGreatDoorZBK
namespace Go.Proofs.YtbbmljakfbhnpaaGreatDoor
open Go.RowKit

/-- The block device behind steps. -/
def zvf (s : List Int × List Se) (l : List Mi) : List Int × List Se := l.foldl (fun s m => (doE m s.1 s.2, doQ m s.2)) s
theorem zni (s : List Int × List Se) (l l' : List Mi) : zvf s (l ++ l') = zvf (zvf s l) l' := by unfold zvf; rw [List.foldl_append]
theorem zhh : ∀ (l : List Mi) (s : List Int × List Se), (∀ m ∈ l, StOK m) → zvf s l = s
 | [], s, _ => rfl
 | m :: l, s, h => by
  have k := (h m List.mem_cons_self).2
  show zvf (doE m s.1 s.2, doQ m s.2) l = s
  rw [zhh l _ (fun q hq => h q (List.mem_cons_of_mem _ hq))]
  unfold doE doQ
  rw [if_neg (by omega), if_neg (by omega), if_neg (by omega)]
theorem mi_kind {m : Mi} (h : miB m = true) : m.kind = 1 ∨ m.kind = 2 ∨ m.kind = 3 ∨ m.kind = 4 ∨ m.kind = 5 := by
 have := (zku m.kind m.at_ m.val).1 h
 omega
theorem mr_all : ∀ (l : List Mi) (ws : List Int) (ps : List St) (es : List Int) (qs : List Se), (∀ m ∈ l, miB m = true) → ps.length + l.length ≤ 400 → qs.length + l.length ≤ 400 → mr l ws ps es qs = ⟨0, (zno (ws, ps) l).1, (zno (ws, ps) l).2, (zvf (es, qs) l).1, (zvf (es, qs) l).2⟩
 | [], ws, ps, es, qs, _, _, _ => rfl
 | m :: l, ws, ps, es, qs, hk, hl, hq => by
   have h1 := mi_kind (hk m List.mem_cons_self)
   simp only [List.length_cons] at hl hq
   have hf : zou m ps qs = false := decide_eq_false (fun h => by omega)
   have e : zqu (ws, ps) m = (doW m ws ps, doP m ps) := by
    unfold zqu doW doP
    rcases h1 with h | h | h | h | h
    ·rw [if_pos h, if_pos h, if_neg (by omega)]
    ·rw [if_neg (by omega), if_pos h, if_neg (by omega), if_neg (by omega), if_pos h]
    ·rw [if_neg (by omega), if_neg (by omega), if_pos h, if_pos h, if_neg (by omega), if_neg (by omega), if_pos h]
    ·rw [if_neg (by omega), if_neg (by omega), if_neg (by omega), if_neg (by omega), if_neg (by omega), if_neg (by omega), if_neg (by omega)]
    ·rw [if_neg (by omega), if_neg (by omega), if_neg (by omega), if_neg (by omega), if_neg (by omega), if_neg (by omega), if_neg (by omega)]
   have hp : (doP m ps).length ≤ ps.length + 1 := by
    unfold doP
    split
    ·simp
    ·split
     ·simp
     ·split
      ·exact Nat.le_trans (List.length_filter_le _ _) (by omega)
      ·omega
   have hq' : (doQ m qs).length ≤ qs.length + 1 := by
    unfold doQ
    split
    ·simp
    ·split
     ·simp
     ·omega
   rw [ziw, e, show zvf (es, qs) (m :: l) = zvf (doE m es qs, doQ m qs) l from rfl]
   simp only [mr, hf]
   exact mr_all l _ _ _ _ (fun q hq => hk q (List.mem_cons_of_mem _ hq)) (by omega) (by omega)
theorem ok_upd {us : List Se} (ui : UpIn us) (wv : Wv us) : ∀ p ∈ zdw us, (48 ≤ p.at_ ∧ p.at_ < 336) ∧ 0 ≤ p.val ∧ p.val < 1099511627776 := by
 intro p hp
 obtain ⟨u, hu, rfl⟩ := List.mem_map.1 (show p ∈ us.map (fun s => up s.at_ s.val) from hp)
 have := ui u hu
 have := wv u hu
 exact ⟨⟨by show 48 ≤ u.at_; omega, by show u.at_ < 336; omega⟩, by show 0 ≤ u.val; omega, by show u.val < _; omega⟩
theorem zqi {us : List Se} (ui : UpIn us) (wv : Wv us) (hl : us.length ≤ 16) : ∀ m ∈ zds (zdw us), StOK m := by
 intro m hm
 have A := ok_upd ui wv
 unfold zds zhw at hm
 split at hm
 ·cases hm
 ·rcases List.mem_append.1 hm with hm | hm
  ·rcases List.mem_append.1 hm with hm | hm
   ·refine ztq (fun p hp => ?_) m hm
    have h1 := jrn_at (zdw us) 0 p hp
    have h2 := jrn_val (zdw us) 0 A p hp
    rw [zcd] at h1
    omega
   ·refine ztq (cnt_ok _ ?_) m hm
    rw [zcd]
    omega
  ·rcases List.mem_append.1 hm with hm | hm
   ·exact ztq (fun p hp => by have := A p hp; omega) m hm
   ·exact ztq (cnt_ok 0 (by omega)) m hm

/-- All is sure, nothing waits: the words say an image, the journal is empty. -/
structure Idle (ws es : List Int) (ns : List Ino) (ds : List Den) : Prop where
 wi : Wi ws ns ds
 c0 : wdI ws 8 = 0
 pm : pmB ws [] = true
 bk : zip es [] = true
theorem Idle.img {ws es : List Int} {ns : List Ino} {ds : List Den} (h : Idle ws es ns ds) : zcm ns ds = true := zby.2 h.wi.img
/-- Steps that leave nothing waiting. -/
theorem zkj {ws es : List Int} {ns : List Ino} {ds : List Den} (h : Idle ws es ns ds) {l : List Mi} {ws' : List Int} {ns' : List Ino} {ds' : List Den} (r : zno (ws, []) l = (ws', [])) (c : wdI ws' 8 = 0) (w : Wi ws' ns' ds') (hm : ∀ m ∈ l, miB m = true) (hl : l.length ≤ 200) (q : (zvf (es, []) l).2 = []) :
  ∃ es', mr l ws [] es [] = ⟨0, ws', [], es', []⟩ ∧ Idle ws' es' ns' ds' := by
 have e := mr_all l ws [] es [] hm (by simp; omega) (by simp; omega)
 rw [r, q] at e
 have k := mr_ok l ws [] es [] h.pm h.bk hm
 rw [e] at k
 exact ⟨_, e, w, c, k.1, k.2⟩
theorem zss {ws es : List Int} {ns : List Ino} {ds : List Den} (h : Idle ws es ns ds) : ∃ ws' es' ns' ds', mr [] ws [] es [] = ⟨0, ws', [], es', []⟩ ∧ Idle ws' es' ns' ds' := ⟨ws, es, ns, ds, rfl, h⟩
theorem idle_plan {ws es : List Int} {ns : List Ino} {ds : List Den} (h : Idle ws es ns ds) {us : List Se} (ui : UpIn us) (hl : us.length ≤ 16) (wv : Wv us) {ns' : List Ino} {ds' : List Den} (q : Wi (zco ws us) ns' ds') :
  ∃ ws' es' ns' ds', mr (zds (zdw us)) ws [] es [] = ⟨0, ws', [], es', []⟩ ∧ Idle ws' es' ns' ds' := by
 obtain ⟨ls', r, c, w⟩ := wi_names h.wi h.c0 ⟨ui, hl⟩ q
 have ok := zqi ui wv hl
 have pl := zit us
 obtain ⟨es', e, k⟩ := zkj h r c w (fun m hm => (ok m hm).1) (by omega) (by rw [zhh _ _ ok])
 exact ⟨ls', es', ns', ds', e, k⟩
/-- A store of one word that is made sure. -/
theorem seg_one (a x : Int) : (⟨1, a, x⟩ :: zbh [a] : List Mi) = seg [up a x] := rfl
theorem ok_one {a x : Int} (ha : 0 ≤ a ∧ a < 336) (hx : 0 ≤ x ∧ x < 1099511627776) : ∀ m ∈ (⟨1, a, x⟩ :: zbh [a] : List Mi), StOK m := by
 rw [seg_one]
 refine ztq (fun p hp => ?_)
 rw [List.mem_singleton.1 hp]
 exact ⟨ha, hx⟩
theorem zwm {x : Int} (h : zbc x = true) : 0 ≤ x ∧ x < 1099511627776 := of_decide_eq_true h
theorem one_len (a x : Int) : (⟨1, a, x⟩ :: zbh [a] : List Mi).length ≤ 3 := by
 have := zbu [a]
 simp only [List.length_cons, List.length_nil] at this ⊢
 omega
theorem ok_two {k x : Int} (hk : 0 ≤ k ∧ k < 32) (hx : 0 ≤ x ∧ x < 1099511627776) : ∀ m ∈ ([⟨4, k, x⟩, ⟨5, 0, 0⟩] : List Mi), miB m = true := by
 intro m hm
 rcases List.mem_cons.1 hm with rfl | hm
 ·exact (zku _ _ _).2 (.inr (.inr (.inl ⟨rfl, hk, hx⟩)))
 ·rw [List.mem_singleton.1 hm]
  exact (zku _ _ _).2 (.inr (.inr (.inr ⟨.inr rfl, rfl, rfl⟩)))
theorem runE_two (es : List Int) (k x : Int) : (zvf (es, []) [⟨4, k, x⟩, ⟨5, 0, 0⟩]).2 = [] := rfl
/-- A write that is told. -/
theorem idle_write {ws es : List Int} {ns : List Ino} {ds : List Den} (h : Idle ws es ns ds) {s : ByteArray} {page x : Int} (e : (wrI ns ds s page x).2 = 0) :
  (∃ ws' es' ns' ds', mr (wrI ns ds s page x).1 ws [] es [] = ⟨0, ws', [], es', []⟩ ∧ Idle ws' es' ns' ds') ∧ (∀ m ∈ (wrI ns ds s page x).1, miB m = true) ∧ (wrI ns ds s page x).1.length ≤ 200 ∧ 0 ≤ page ∧ page < 8 := by
 obtain ⟨i, p, ls', hi, hp, ei, ep, r, c, w⟩ := wi_steps h.wi h.c0 (show wrI ns ds s page x = ((wrI ns ds s page x).1, 0) by rw [← e])
 subst ep
 have f0 : (flI ns ds s).2 = 0 := by
  unfold wrI at e
  split at e
  ·assumption
  ·assumption
 have form : ∃ n : ¬ (fpI ns < 0 ∧ fsI ns < 0), zbc x = true ∧ (wrI ns ds s (p : Int) x).1 = wrS ns x ++ zds (zdw (wrU (i : Int) (p : Int) (zdp ns (i : Int)) (wrE ns))) := by
  unfold wrI at e ⊢
  rw [if_pos f0, ei] at e ⊢
  unfold wrF at e ⊢
  by_cases d : (0 ≤ (p : Int) ∧ (p : Int) < 8) ∧ zbc x = true
  ·rw [if_pos d] at e ⊢
   by_cases f : fpI ns < 0 ∧ fsI ns < 0
   ·rw [if_pos f] at e
    cases e
   ·rw [if_neg f]
    exact ⟨f, d.2, rfl⟩
  ·rw [if_neg d] at e
   cases e
 obtain ⟨nf, wx, F⟩ := form
 have X := zwm wx
 have k := (zge h.wi.img f0)
 obtain ⟨i', hi', ei', k1⟩ := k
 have e' : i' = i := by rw [ei] at ei'; omega
 subst e'
 obtain ⟨te, he, new⟩ := wrE_new nf
 have sz : zdp ns (i' : Int) = (zam ns i').size := by unfold zdp; rw [Int.toNat_natCast]
 have ww := zre h.wi hi k1 hp te he new
 have wv : Wv (wrU (i' : Int) (p : Int) (zam ns i').size (wrE ns)) := by
  have := zdf te
  unfold wrU
  refine Wv.cons (by omega) ?_
  split
  ·exact Wv.one (by omega)
  ·intro u hu; cases hu
 have ul : (wrU (i' : Int) (p : Int) (zam ns i').size (wrE ns)).length ≤ 2 := by unfold wrU; split <;> simp
 have ok2 := zqi ww.1 wv (by omega)
 have pl := zit (wrU (i' : Int) (p : Int) (zam ns i').size (wrE ns))
 rw [sz] at F
 have b1 : fpI ns < 24 := by
  have := (zdh (fun i => !zdb (zao (zai ns) 1) (i : Int)) 24).2
  unfold fpI
  omega
 have b2 : fsI ns < 32 := by
  have := (zdh (fun i => !zdb (zao (zai ns) 2) (i : Int)) 32).2
  unfold fsI
  omega
 have okS : (∀ m ∈ wrS ns x, miB m = true) ∧ (wrS ns x).length ≤ 3 ∧ (zvf (es, []) (wrS ns x)).2 = [] := by
  unfold wrS
  by_cases q : 0 ≤ fpI ns
  ·rw [if_pos q]
   have o := ok_one (a := 312 + fpI ns) (x := x) (by omega) X
   exact ⟨fun m hm => (o m hm).1, one_len _ _, by rw [zhh _ _ o]⟩
  ·rw [if_neg q]
   exact ⟨ok_two (by omega) X, by simp, runE_two _ _ _⟩
 have ALL : ∀ m ∈ (wrI ns ds s (p : Int) x).1, miB m = true := by
  rw [F]
  intro m hm
  rcases List.mem_append.1 hm with hm | hm
  ·exact okS.1 m hm
  ·exact (ok2 m hm).1
 have LEN : (wrI ns ds s (p : Int) x).1.length ≤ 200 := by
  rw [F, List.length_append]
  have := okS.2.1
  omega
 obtain ⟨es', e2, k2⟩ := zkj h r c w ALL LEN (by
  rw [F, zni]
  rw [zhh _ _ ok2]
  exact okS.2.2)
 exact ⟨⟨_, _, _, _, e2, k2⟩, ALL, LEN, by omega, by omega⟩
end Go.Proofs.YtbbmljakfbhnpaaGreatDoor
