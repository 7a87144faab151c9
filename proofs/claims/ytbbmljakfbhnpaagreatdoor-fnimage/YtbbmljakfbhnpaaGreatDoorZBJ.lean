/- Several texts laid together: MvA, FsA, ImgM. -/
import Derived.Test.YtbbmljakfbhnpaaGreatDoorZBH
import Derived.Test.YtbbmljakfbhnpaaGreatDoorZBI
import Derived.Test.YtbbmljakfbhnpaaGreatDoorZAX
import Derived.Test.YtbbmljakfbhnpaaGreatDoorZAS
namespace Go.Proofs.YtbbmljakfbhnpaaGreatDoor
open Go.RowKit

/-- One word lets a page be at another place. -/
def swL (i p e : Int) : List Mi := ⟨1, 48 + 12 * i + (3 + p), e⟩ :: zbg [48 + 12 * i + (3 + p)]
def deS (ns : List Ino) (x : Int) : List Mi := [⟨4, fsI ns, x⟩, ⟨5, 0, 0⟩]
def prS (ns : List Ino) (x : Int) : List Mi := ⟨1, 312 + fpI ns, x⟩ :: zbg [312 + fpI ns]
/-- What a move of a page with an entry and a word answers. -/
def deF (ns : List Ino) (e x i p : Int) : List Mi × Int := if e = 0 ∨ ¬ e % 4 = 1 then ([], 5) else if fsI ns < 0 then ([], 7) else (deS ns x ++ swL i p (4 * fsI ns + 2), 0)
def prF (ns : List Ino) (e x i p : Int) : List Mi × Int := if e = 0 ∨ ¬ e % 4 = 2 then ([], 5) else if fpI ns < 0 then ([], 7) else (prS ns x ++ swL i p (4 * fpI ns + 1), 0)
/-- The entry of a page. -/
def enI (ns : List Ino) (i p : Int) : Int := (zal ns i.toNat).map.getD p.toNat 0
theorem zux (i p e : Int) : (swL i p e).length ≤ 3 := by
 have := zbr [48 + 12 * i + (3 + p)]
 unfold swL
 simp only [List.length_cons, List.length_nil] at this ⊢
 omega

set_option maxRecDepth 100000 in
set_option maxHeartbeats 8000000 in
/-- A store, and what makes it sure: as a list that is owned. -/
theorem zkb (i p e : Int) (w : World) (hi : 0 ≤ i ∧ i < 16) (hp : 0 ≤ p ∧ p < 8) :
  Calls Tryz.prog 189 #[.int .i64 i, .int .i64 p, .int .i64 e] w fun r w' => ∃ v', r = .returned v' ∧ Row w' 215 3 w.heap.size w'.heap.size v' (swL i p e).length (mis (swL i p e)) ∧ Below w.heap.size w w' := by
 have wp : IntKind.i64.wrap (3 + p) = 3 + p := by rw [IntKind.wrap_i64]; omega
 have EX := zaa (show swL i p e = [⟨1, 48 + 12 * i + (3 + p), e⟩] ++ zbg [48 + 12 * i + (3 + p)] from rfl)
 rw [EX.out]
 have pr : 0 ≤ 3 + p ∧ 3 + p < 11 := by omega
 have ar : 0 ≤ 48 + 12 * i + (3 + p) ∧ 48 + 12 * i + (3 + p) < 336 := by omega
 have LN := zaa (fun w1 => zaz i (3 + p) w1 hi pr)
 have l7 : (zbg [48 + 12 * i + (3 + p)]).length ≤ 2 := zbr [48 + 12 * i + (3 + p)]
 clear EX
 generalize 48 + 12 * i + (3 + p) = a at *
 have LF := zaa (fun v w1 h => zct v [a] w1 h (by simp) (by intro j h; simp at h; subst h; simpa using ar))
 generalize zbg [a] = FL at *
 go_enter Tryz.func189, Tryz.ntmps189
 go_wp2_with fail
 refine (LN.out _).mono ?_
 rintro e w' ⟨rfl, hw'⟩
 subst w'
 go_wp2_with fail
 refine (zcp _ _ _).mono ?_
 rintro r w4 ⟨rfl, hb4⟩
 have M4 : Hid (MiI w (w4.alloc (.cells #[.int .i64 1, .int .i64 a, .int .i64 e] 215)) (.slice (some ⟨w4.heap.size, 0, none⟩) 1 1) [⟨1, a, e⟩]) := ⟨World.ownsRow_lit w4 _ 1 hb4.size (by simp [maxLen]) rfl, hb4.alloc hb4.size _⟩
 have M6 := zaa (M4.out.below ((Below.refl _ _).alloc (Nat.le_refl _) (.cells #[.int .i64 a] 3)))
 have R6 := zaa (zjx (w4.alloc (.cells #[.int .i64 1, .int .i64 a, .int .i64 e] 215)) a)
 simp only [World.size_alloc] at R6
 clear hb4 M4
 go_wp2_with fail
 refine (LF.out _ _ R6.out).mono ?_
 rintro r w7 ⟨v7, rfl, hr7, hb7⟩
 have M7 := zaa (M6.out.below hb7)
 have R7 := zaa hr7.rd
 have hz7 := M7.out.z
 clear hr7 hb7 M6 R6
 go_wp2_with (at_builtin; refine zae _ rfl (.tmp 15) (.tmp 18) 121 rfl w.heap.size 215 (.agg #[.int .i64 0, .int .i64 0, .int .i64 0]) 3 24 Tryz.underlying121 zbs rfl (by decide) _ _ _ rfl M7.out.l _ _ _ rfl R7.out (zcr _) (by first | omega | (simp [maxLen]; done) | (simp [maxLen]; omega)) (by first | omega | (simp; done) | (simp; omega)) hz7 ?_)
 intro vT wT hownT hgrT
 have M := zaa (M7.out.grow FL hownT hgrT)
 obtain ⟨-, aT, cT, hvT, -⟩ := (zac hownT).rd
 subst hvT
 clear hownT hgrT M7 R7
 go_wp2
 go_ret
 exact ⟨_, rfl, zac M.out.l, M.out.b⟩
end Go.Proofs.YtbbmljakfbhnpaaGreatDoor

namespace Go.Proofs.YtbbmljakfbhnpaaGreatDoor
open Go.RowKit

/-- The block device behind steps. -/
def zur (s : List Int × List Se) (l : List Mi) : List Int × List Se := l.foldl (fun s m => (doE m s.1 s.2, doQ m s.2)) s
theorem zmz (s : List Int × List Se) (l l' : List Mi) : zur s (l ++ l') = zur (zur s l) l' := by unfold zur; rw [List.foldl_append]
theorem zhd : ∀ (l : List Mi) (s : List Int × List Se), (∀ m ∈ l, StOK m) → zur s l = s
 | [], s, _ => rfl
 | m :: l, s, h => by
  have k := (h m List.mem_cons_self).2
  show zur (doE m s.1 s.2, doQ m s.2) l = s
  rw [zhd l _ (fun q hq => h q (List.mem_cons_of_mem _ hq))]
  unfold doE doQ
  rw [if_neg (by omega), if_neg (by omega), if_neg (by omega)]
theorem mi_kind {m : Mi} (h : miB m = true) : m.kind = 1 ∨ m.kind = 2 ∨ m.kind = 3 ∨ m.kind = 4 ∨ m.kind = 5 := by
 have := (zkr m.kind m.at_ m.val).1 h
 omega
theorem mr_all : ∀ (l : List Mi) (ws : List Int) (ps : List St) (es : List Int) (qs : List Se), (∀ m ∈ l, miB m = true) → ps.length + l.length ≤ 400 → qs.length + l.length ≤ 400 → mr l ws ps es qs = ⟨0, (zmh (ws, ps) l).1, (zmh (ws, ps) l).2, (zur (es, qs) l).1, (zur (es, qs) l).2⟩
 | [], ws, ps, es, qs, _, _, _ => rfl
 | m :: l, ws, ps, es, qs, hk, hl, hq => by
   have h1 := mi_kind (hk m List.mem_cons_self)
   simp only [List.length_cons] at hl hq
   have hf : zop m ps qs = false := decide_eq_false (fun h => by omega)
   have e : zrp (ws, ps) m = (doW m ws ps, doP m ps) := by
    unfold zrp doW doP
    rcases h1 with h | h | h | h | h
    ·rw [if_pos h, if_pos h, if_neg (by omega)]
    ·rw [if_neg (by omega), if_pos h, if_neg (by omega), if_neg (by omega), if_pos h]
    ·rw [if_neg (by omega), if_neg (by omega), if_pos h, if_pos h, if_neg (by omega), if_neg (by omega), if_pos h]
    ·rw [if_neg (by omega), if_neg (by omega), if_neg (by omega), if_neg (by omega), if_neg (by omega), if_neg (by omega), if_neg (by omega)]
    ·rw [if_neg (by omega), if_neg (by omega), if_neg (by omega), if_neg (by omega), if_neg (by omega), if_neg (by omega), if_neg (by omega)]
   have hp : (doP m ps).length ≤ ps.length + 1 := by
    unfold doP
    split
    ·simp
    ·split
     ·simp
     ·split
      ·exact Nat.le_trans (List.length_filter_le _ _) (by omega)
      ·omega
   have hq' : (doQ m qs).length ≤ qs.length + 1 := by
    unfold doQ
    split
    ·simp
    ·split
     ·simp
     ·omega
   rw [zix, e, show zur (es, qs) (m :: l) = zur (doE m es qs, doQ m qs) l from rfl]
   simp only [mr, hf]
   exact mr_all l _ _ _ _ (fun q hq => hk q (List.mem_cons_of_mem _ hq)) (by omega) (by omega)
theorem ok_upd {us : List Se} (ui : UpIn us) (wv : Wv us) : ∀ p ∈ zdn us, (48 ≤ p.at_ ∧ p.at_ < 336) ∧ 0 ≤ p.val ∧ p.val < 1099511627776 := by
 intro p hp
 obtain ⟨u, hu, rfl⟩ := List.mem_map.1 (show p ∈ us.map (fun s => up s.at_ s.val) from hp)
 have := ui u hu
 have := wv u hu
 exact ⟨⟨by show 48 ≤ u.at_; omega, by show u.at_ < 336; omega⟩, by show 0 ≤ u.val; omega, by show u.val < _; omega⟩
theorem zrl {us : List Se} (ui : UpIn us) (wv : Wv us) (hl : us.length ≤ 16) : ∀ m ∈ zdg (zdn us), StOK m := by
 intro m hm
 have A := ok_upd ui wv
 unfold zdg zhn at hm
 split at hm
 ·cases hm
 ·rcases List.mem_append.1 hm with hm | hm
  ·rcases List.mem_append.1 hm with hm | hm
   ·refine ztv (fun p hp => ?_) m hm
    have h1 := jrn_at (zdn us) 0 p hp
    have h2 := jrn_val (zdn us) 0 A p hp
    rw [zce] at h1
    omega
   ·refine ztv (cnt_ok _ ?_) m hm
    rw [zce]
    omega
  ·rcases List.mem_append.1 hm with hm | hm
   ·exact ztv (fun p hp => by have := A p hp; omega) m hm
   ·exact ztv (cnt_ok 0 (by omega)) m hm

/-- All is sure, nothing waits: the words say an image, the journal is empty. -/
structure Idle (ws es : List Int) (ns : List Ino) (ds : List Den) : Prop where
 wi : Wi ws ns ds
 c0 : wdI ws 8 = 0
 pm : pmB ws [] = true
 bk : zoi es [] = true
theorem Idle.img {ws es : List Int} {ns : List Ino} {ds : List Den} (h : Idle ws es ns ds) : zfm ns ds = true := zbp.2 h.wi.img
/-- Steps that leave nothing waiting. -/
theorem zji {ws es : List Int} {ns : List Ino} {ds : List Den} (h : Idle ws es ns ds) {l : List Mi} {ws' : List Int} {ns' : List Ino} {ds' : List Den} (r : zmh (ws, []) l = (ws', [])) (c : wdI ws' 8 = 0) (w : Wi ws' ns' ds') (hm : ∀ m ∈ l, miB m = true) (hl : l.length ≤ 200) (q : (zur (es, []) l).2 = []) :
  ∃ es', mr l ws [] es [] = ⟨0, ws', [], es', []⟩ ∧ Idle ws' es' ns' ds' := by
 have e := mr_all l ws [] es [] hm (by simp; omega) (by simp; omega)
 rw [r, q] at e
 have k := mr_ok l ws [] es [] h.pm h.bk hm
 rw [e] at k
 exact ⟨_, e, w, c, k.1, k.2⟩
theorem zuf {ws es : List Int} {ns : List Ino} {ds : List Den} (h : Idle ws es ns ds) : ∃ ws' es' ns' ds', mr [] ws [] es [] = ⟨0, ws', [], es', []⟩ ∧ Idle ws' es' ns' ds' := ⟨ws, es, ns, ds, rfl, h⟩
theorem idle_plan {ws es : List Int} {ns : List Ino} {ds : List Den} (h : Idle ws es ns ds) {us : List Se} (ui : UpIn us) (hl : us.length ≤ 16) (wv : Wv us) {ns' : List Ino} {ds' : List Den} (q : Wi (zbx ws us) ns' ds') :
  ∃ ws' es' ns' ds', mr (zdg (zdn us)) ws [] es [] = ⟨0, ws', [], es', []⟩ ∧ Idle ws' es' ns' ds' := by
 obtain ⟨ls', r, c, w⟩ := wi_names h.wi h.c0 ⟨ui, hl⟩ q
 have ok := zrl ui wv hl
 have pl := zio us
 obtain ⟨es', e, k⟩ := zji h r c w (fun m hm => (ok m hm).1) (by omega) (by rw [zhd _ _ ok])
 exact ⟨ls', es', ns', ds', e, k⟩
/-- A store of one word that is made sure. -/
theorem seg_one (a x : Int) : (⟨1, a, x⟩ :: zbg [a] : List Mi) = seg [up a x] := rfl
theorem ok_one {a x : Int} (ha : 0 ≤ a ∧ a < 336) (hx : 0 ≤ x ∧ x < 1099511627776) : ∀ m ∈ (⟨1, a, x⟩ :: zbg [a] : List Mi), StOK m := by
 rw [seg_one]
 refine ztv (fun p hp => ?_)
 rw [List.mem_singleton.1 hp]
 exact ⟨ha, hx⟩
theorem zva {x : Int} (h : zbb x = true) : 0 ≤ x ∧ x < 1099511627776 := of_decide_eq_true h
theorem one_len (a x : Int) : (⟨1, a, x⟩ :: zbg [a] : List Mi).length ≤ 3 := by
 have := zbr [a]
 simp only [List.length_cons, List.length_nil] at this ⊢
 omega
theorem ok_two {k x : Int} (hk : 0 ≤ k ∧ k < 32) (hx : 0 ≤ x ∧ x < 1099511627776) : ∀ m ∈ ([⟨4, k, x⟩, ⟨5, 0, 0⟩] : List Mi), miB m = true := by
 intro m hm
 rcases List.mem_cons.1 hm with rfl | hm
 ·exact (zkr _ _ _).2 (.inr (.inr (.inl ⟨rfl, hk, hx⟩)))
 ·rw [List.mem_singleton.1 hm]
  exact (zkr _ _ _).2 (.inr (.inr (.inr ⟨.inr rfl, rfl, rfl⟩)))
theorem runE_two (es : List Int) (k x : Int) : (zur (es, []) [⟨4, k, x⟩, ⟨5, 0, 0⟩]).2 = [] := rfl
/-- A write that is told. -/
theorem idle_write {ws es : List Int} {ns : List Ino} {ds : List Den} (h : Idle ws es ns ds) {s : ByteArray} {page x : Int} (e : (wrI ns ds s page x).2 = 0) :
  (∃ ws' es' ns' ds', mr (wrI ns ds s page x).1 ws [] es [] = ⟨0, ws', [], es', []⟩ ∧ Idle ws' es' ns' ds') ∧ (∀ m ∈ (wrI ns ds s page x).1, miB m = true) ∧ (wrI ns ds s page x).1.length ≤ 200 ∧ 0 ≤ page ∧ page < 8 := by
 obtain ⟨i, p, ls', hi, hp, ei, ep, r, c, w⟩ := wi_steps h.wi h.c0 (show wrI ns ds s page x = ((wrI ns ds s page x).1, 0) by rw [← e])
 subst ep
 have f0 : (flI ns ds s).2 = 0 := by
  unfold wrI at e
  split at e
  ·assumption
  ·assumption
 have form : ∃ n : ¬ (fpI ns < 0 ∧ fsI ns < 0), zbb x = true ∧ (wrI ns ds s (p : Int) x).1 = wrS ns x ++ zdg (zdn (wrU (i : Int) (p : Int) (zdi ns (i : Int)) (wrE ns))) := by
  unfold wrI at e ⊢
  rw [if_pos f0, ei] at e ⊢
  unfold wrF at e ⊢
  by_cases d : (0 ≤ (p : Int) ∧ (p : Int) < 8) ∧ zbb x = true
  ·rw [if_pos d] at e ⊢
   by_cases f : fpI ns < 0 ∧ fsI ns < 0
   ·rw [if_pos f] at e
    cases e
   ·rw [if_neg f]
    exact ⟨f, d.2, rfl⟩
  ·rw [if_neg d] at e
   cases e
 obtain ⟨nf, wx, F⟩ := form
 have X := zva wx
 have k := (zfn h.wi.img f0)
 obtain ⟨i', hi', ei', k1⟩ := k
 have e' : i' = i := by rw [ei] at ei'; omega
 subst e'
 obtain ⟨te, he, new⟩ := wrE_new nf
 have sz : zdi ns (i' : Int) = (zal ns i').size := by unfold zdi; rw [Int.toNat_natCast]
 have ww := zrk h.wi hi k1 hp te he new
 have wv : Wv (wrU (i' : Int) (p : Int) (zal ns i').size (wrE ns)) := by
  have := zeq te
  unfold wrU
  refine Wv.cons (by omega) ?_
  split
  ·exact Wv.one (by omega)
  ·intro u hu; cases hu
 have ul : (wrU (i' : Int) (p : Int) (zal ns i').size (wrE ns)).length ≤ 2 := by unfold wrU; split <;> simp
 have ok2 := zrl ww.1 wv (by omega)
 have pl := zio (wrU (i' : Int) (p : Int) (zal ns i').size (wrE ns))
 rw [sz] at F
 have b1 : fpI ns < 24 := by
  have := (zdu (fun i => !zho (zby (zap ns) 1) (i : Int)) 24).2
  unfold fpI
  omega
 have b2 : fsI ns < 32 := by
  have := (zdu (fun i => !zho (zby (zap ns) 2) (i : Int)) 32).2
  unfold fsI
  omega
 have okS : (∀ m ∈ wrS ns x, miB m = true) ∧ (wrS ns x).length ≤ 3 ∧ (zur (es, []) (wrS ns x)).2 = [] := by
  unfold wrS
  by_cases q : 0 ≤ fpI ns
  ·rw [if_pos q]
   have o := ok_one (a := 312 + fpI ns) (x := x) (by omega) X
   exact ⟨fun m hm => (o m hm).1, one_len _ _, by rw [zhd _ _ o]⟩
  ·rw [if_neg q]
   exact ⟨ok_two (by omega) X, by simp, runE_two _ _ _⟩
 have ALL : ∀ m ∈ (wrI ns ds s (p : Int) x).1, miB m = true := by
  rw [F]
  intro m hm
  rcases List.mem_append.1 hm with hm | hm
  ·exact okS.1 m hm
  ·exact (ok2 m hm).1
 have LEN : (wrI ns ds s (p : Int) x).1.length ≤ 200 := by
  rw [F, List.length_append]
  have := okS.2.1
  omega
 obtain ⟨es', e2, k2⟩ := zji h r c w ALL LEN (by
  rw [F, zmz]
  rw [zhd _ _ ok2]
  exact okS.2.2)
 exact ⟨⟨_, _, _, _, e2, k2⟩, ALL, LEN, by omega, by omega⟩
end Go.Proofs.YtbbmljakfbhnpaaGreatDoor

namespace Go.Proofs.YtbbmljakfbhnpaaGreatDoor
open Go.RowKit

/-- Words of which inodes and entries are read, right or not. -/
structure Fil (ls : List Int) (xs : List Ino) (bs : List Den) : Prop where
 len : ls.length = 336
 mark : wdI ls 0 = 7
 good : zbu ls 24 = true
 inos : zbc ls 16 = xs
 dens : zbe ls 24 = bs
def inF (x : Ino) : List (Nat × Int) := [(0, x.kind), (1, x.size), (2, x.links), (3, x.m0), (4, x.m1), (5, x.m2), (6, x.m3), (7, x.m4), (8, x.m5), (9, x.m6), (10, x.m7)]
theorem znd (x : Ino) : ∀ f ∈ inF x, f.1 < 11 := by
 intro f hf
 simp only [inF, List.mem_cons, List.not_mem_nil, or_false] at hf
 rcases hf with rfl | rfl | rfl | rfl | rfl | rfl | rfl | rfl | rfl | rfl | rfl <;> simp only <;> omega
theorem wrL_inoU (i : Nat) (x : Ino) : wrL (i : Int) x 8 = zkh i (inF x) := by
 have e : List.range 8 = [0, 1, 2, 3, 4, 5, 6, 7] := rfl
 unfold wrL zkh inF
 rw [e]
 simp [Ino.map]
theorem inoP_full (x y : Ino) : zrv y (inF x) = x := by cases x; rfl
theorem fil_ino {ls : List Int} {xs : List Ino} {bs : List Den} (h : Fil ls xs bs) {i : Nat} (hi : i < 16) (x : Ino) : Fil (zbx ls (wrL (i : Int) x 8)) (xs.set i x) bs := by
 rw [wrL_inoU]
 have ui := znf hi (znd x)
 have ua := zwu hi (znd x)
 refine ⟨(zdw _ _).trans h.len, ziq h.len ui h.mark, ztk h.len ui h.good (fun u hu => (ua u hu).2.2), ?_, (ztn h.len ui (fun u hu => (ua u hu).2.2)).trans h.dens⟩
 rw [zla h.len ui hi ((zqy hi h.len (znd x)).trans (inoP_full x _)) (fun j _ hji u hu => by have := ua u hu; omega), h.inos]
theorem fil_den {ls : List Int} {xs : List Ino} {bs : List Den} (h : Fil ls xs bs) {k : Nat} (hk : k < 24) {x : Den} (hx : x = freeD ∨ (0 ≤ x.child ∧ nmB x.name = true)) : Fil (zbx ls (enL (k : Int) x)) xs (bs.set k x) := by
 have ui := zkc hk x
 have ua : ∀ u ∈ enL (k : Int) x, 240 + 3 * (k : Int) ≤ u.at_ ∧ u.at_ < 240 + 3 * (k : Int) + 3 := by
  intro u hu
  simp only [enL, List.mem_cons, List.not_mem_nil, or_false] at hu
  rcases hu with rfl | rfl | rfl <;> simp only <;> omega
 obtain ⟨r1, r2⟩ := zme (us := []) h.len hk (fun u hu => by cases hu) (fun u hu => by cases hu) hx
 rw [List.append_nil] at r1 r2
 have far : ∀ j : Nat, j < 24 → ¬ j = k → ∀ u ∈ enL (k : Int) x, ¬ (240 + 3 * (j : Int) ≤ u.at_ ∧ u.at_ < 240 + 3 * (j : Int) + 3) := fun j _ hjk u hu => by have := ua u hu; omega
 refine ⟨(zdw _ _).trans h.len, ziq h.len ui h.mark, zqm h.len ui h.good r2 far, (ztb h.len ui (fun u hu => by have := ua u hu; omega)).trans h.inos, ?_⟩
 rw [zlk h.len ui hk r1 far, h.dens]
/-- The first ones written. -/
def zet (ls : List Int) (ns : List Ino) : Nat → List Int
 | 0 => ls
 | n + 1 => zbx (zet ls ns n) (wrL (n : Int) (zal ns n) 8)
def setI (xs ns : List Ino) : Nat → List Ino
 | 0 => xs
 | n + 1 => (setI xs ns n).set n (zal ns n)
def zgp (ls : List Int) (ds : List Den) : Nat → List Int
 | 0 => ls
 | n + 1 => zbx (zgp ls ds n) (enL (n : Int) (zaq ds n))
def setD (bs ds : List Den) : Nat → List Den
 | 0 => bs
 | n + 1 => (setD bs ds n).set n (zaq ds n)
theorem fil_inos {ls : List Int} {xs : List Ino} {bs : List Den} (h : Fil ls xs bs) (ns : List Ino) : ∀ n, n ≤ 16 → Fil (zet ls ns n) (setI xs ns n) bs
 | 0, _ => h
 | n + 1, hn => fil_ino (fil_inos h ns n (by omega)) (by omega) _
theorem fil_dens {ls : List Int} {xs : List Ino} {bs : List Den} (h : Fil ls xs bs) {ds : List Den} (hd : ∀ k, k < 24 → zaq ds k = freeD ∨ (0 ≤ (zaq ds k).child ∧ nmB (zaq ds k).name = true)) : ∀ n, n ≤ 24 → Fil (zgp ls ds n) xs (setD bs ds n)
 | 0, _ => h
 | n + 1, hn => fil_den (fil_dens h hd n (by omega)) (by omega) (hd n (by omega))
theorem setI_at (xs ns : List Ino) : ∀ n, (setI xs ns n).length = xs.length ∧ ∀ j : Nat, j < xs.length → (setI xs ns n)[j]? = if j < n then some (zal ns j) else xs[j]?
 | 0 => ⟨rfl, fun j _ => by rw [if_neg (Nat.not_lt_zero _)]; rfl⟩
 | n + 1 => by
  obtain ⟨a, b⟩ := setI_at xs ns n
  refine ⟨by unfold setI; rw [List.length_set, a], fun j hj => ?_⟩
  unfold setI
  rw [List.getElem?_set]
  by_cases e : n = j
  ·subst e
   rw [if_pos rfl, if_pos (by omega), if_pos (Nat.lt_succ_self _)]
  ·rw [if_neg e, b j hj]
   by_cases q : j < n
   ·rw [if_pos q, if_pos (by omega)]
   ·rw [if_neg q, if_neg (by omega)]
theorem setD_at (bs ds : List Den) : ∀ n, (setD bs ds n).length = bs.length ∧ ∀ j : Nat, j < bs.length → (setD bs ds n)[j]? = if j < n then some (zaq ds j) else bs[j]?
 | 0 => ⟨rfl, fun j _ => by rw [if_neg (Nat.not_lt_zero _)]; rfl⟩
 | n + 1 => by
  obtain ⟨a, b⟩ := setD_at bs ds n
  refine ⟨by unfold setD; rw [List.length_set, a], fun j hj => ?_⟩
  unfold setD
  rw [List.getElem?_set]
  by_cases e : n = j
  ·subst e
   rw [if_pos rfl, if_pos (by omega), if_pos (Nat.lt_succ_self _)]
  ·rw [if_neg e, b j hj]
   by_cases q : j < n
   ·rw [if_pos q, if_pos (by omega)]
   ·rw [if_neg q, if_neg (by omega)]
theorem setI_all {xs ns : List Ino} (la : xs.length = 16) (ln : ns.length = 16) : setI xs ns 16 = ns := by
 obtain ⟨a, b⟩ := setI_at xs ns 16
 apply List.ext_getElem?
 intro j
 by_cases q : j < 16
 ·rw [b j (by omega), if_pos q, zbq (by omega : j < ns.length), List.getElem?_eq_getElem (by omega)]
 ·rw [List.getElem?_eq_none (by omega), List.getElem?_eq_none (by omega)]
theorem setD_all {bs ds : List Den} (la : bs.length = 24) (ln : ds.length = 24) : setD bs ds 24 = ds := by
 obtain ⟨a, b⟩ := setD_at bs ds 24
 apply List.ext_getElem?
 intro j
 by_cases q : j < 24
 ·rw [b j (by omega), if_pos q, zbw (by omega : j < ds.length), List.getElem?_eq_getElem (by omega)]
 ·rw [List.getElem?_eq_none (by omega), List.getElem?_eq_none (by omega)]
/-- All written, the image is read back. -/
theorem fil_image {ls : List Int} {xs ns : List Ino} {bs ds : List Den} (h : Fil ls xs bs) (hi : zfm ns ds = true) : Wi (zgp (zet ls ns 16) ds 24) ns ds := by
 have I := zbp.1 hi
 have la : xs.length = 16 := by rw [← h.inos, zca]
 have lb : bs.length = 24 := by rw [← h.dens, zbl]
 have F := fil_dens (fil_inos h ns 16 (Nat.le_refl _)) (ds := ds) (fun k hk => by
  rcases I.ent k hk with e | e
  ·exact .inl e
  ·exact .inr ⟨by have := e.1; omega, e.2.2.1⟩) 24 (Nat.le_refl _)
 rw [setI_all la I.l16, setD_all lb I.l24] at F
 exact ⟨F.len, F.mark, F.good, F.inos, F.dens, I⟩
theorem zjn {x : Int} (h : 0 ≤ x ∧ x < 1099511627776) : zbb x = true := decide_eq_true h
theorem wdI_word {ls : List Int} (h : ∀ x ∈ ls, zbb x = true) (z : Int) : zbb (wdI ls z) = true := by
 unfold wdI
 rw [List.getD_eq_getElem?_getD]
 rcases Nat.lt_or_ge z.toNat ls.length with q | q
 ·rw [List.getElem?_eq_getElem q]
  exact h _ (List.getElem_mem q)
 ·rw [List.getElem?_eq_none q]
  rfl
theorem zny : ∀ (us : List Se) (ls : List Int), (∀ x ∈ ls, zbb x = true) → (∀ u ∈ us, zbb u.val = true) → ∀ x ∈ zbx ls us, zbb x = true
 | [], ls, h, _ => h
 | u :: us, ls, h, k => by
  rw [ziz]
  refine zny us _ (fun x hx => ?_) (fun v hv => k v (List.mem_cons_of_mem _ hv))
  rcases List.mem_or_eq_of_mem_set hx with q | rfl
  ·exact h x q
  ·exact k u List.mem_cons_self
theorem zox {ls ws es : List Int} {ns : List Ino} {ds : List Den} (h : ∀ x ∈ ls, zbb x = true) (hi : Idle ws es ns ds) : ∀ n, n ≤ 16 → ∀ x ∈ zet ls ns n, zbb x = true
 | 0, _ => h
 | n + 1, hn => by
  refine zny _ _ (zox h hi n (by omega)) (fun u hu => ?_)
  have W := fun z => wdI_word (zgv.1 hi.pm).2.2.1 z
  rw [zhu hi.wi (by omega : n < 16), wrL_inoU] at hu
  unfold zkh inF at hu
  simp only [List.map_cons, List.map_nil, List.mem_cons, List.not_mem_nil, or_false] at hu
  rcases hu with rfl | rfl | rfl | rfl | rfl | rfl | rfl | rfl | rfl | rfl | rfl <;> exact W _
theorem zph {ls : List Int} {ns : List Ino} {ds : List Den} (h : ∀ x ∈ ls, zbb x = true) (hi : Img ns ds) : ∀ n, n ≤ 24 → ∀ x ∈ zgp ls ds n, zbb x = true
 | 0, _ => h
 | n + 1, hn => by
  refine zny _ _ (zph h hi n (by omega)) (fun u hu => ?_)
  unfold enL at hu
  simp only [List.mem_cons, List.not_mem_nil, or_false] at hu
  rcases hi.ent n (by omega) with e | ⟨e1, e2, e3, -, -⟩
  ·rw [e] at hu
   have z : pk freeD.name freeD.name.size = 0 := zqi _
   rw [z] at hu
   rcases hu with rfl | rfl | rfl
   ·exact zjn (by simp only [freeD]; omega)
   ·exact zjn (by simp only; omega)
   ·exact zjn (by simp only [freeD]; omega)
  ·have p := of_decide_eq_true e3
   have q := pk_lt (s := (zaq ds n).name) (k := (zaq ds n).name.size) (fun j hj _ => p.2.2 j hj) p.2.1
   rcases hu with rfl | rfl | rfl
   ·exact zjn (by simp only; omega)
   ·exact zjn (by simp only; omega)
   ·exact zjn (by simp only; omega)
/-- What is written are words. -/
theorem fill_pm {ls ws es : List Int} {ns : List Ino} {ds : List Den} (h : ∀ x ∈ ls, zbb x = true) (hi : Idle ws es ns ds) (hf : (zgp (zet ls ns 16) ds 24).length = 336) : pmB (zgp (zet ls ns 16) ds 24) [] = true :=
 zgv.2 ⟨hf, by simp, zph (zox h hi 16 (Nat.le_refl _)) hi.wi.img 24 (Nat.le_refl _), fun p hp => by cases hp⟩
end Go.Proofs.YtbbmljakfbhnpaaGreatDoor
