/- Several texts laid together: TrA, TrC, MvA, FsA, TrB, HtA, FsC. -/
import Derived.Test.YtpakbbdlhlkogaaGreatDoorZAF
import Derived.Test.YtpakbbdlhlkogaaGreatDoorZAD
import Derived.Test.YtpakbbdlhlkogaaGreatDoorZAO
import Derived.Test.YtpakbbdlhlkogaaGreatDoorZBA
import Derived.Test.YtpakbbdlhlkogaaGreatDoorZBC
import Derived.Test.YtpakbbdlhlkogaaGreatDoorZBB
import Derived.Test.YtpakbbdlhlkogaaGreatDoorZAR
import Derived.Test.YtpakbbdlhlkogaaGreatDoorZAV
import Derived.Test.YtpakbbdlhlkogaaGreatDoorZAT
import Derived.Test.YtpakbbdlhlkogaaGreatDoorZAJ
import Derived.Test.YtpakbbdlhlkogaaGreatDoorZAC
namespace Go.Proofs.YtpakbbdlhlkogaaGreatDoor
open Go.RowKit
def ziz (hs : List Int) : Bool := decide (hs.length = 128 ∧ ∀ k (h : k < hs.length), 0 ≤ hs[k] ∧ hs[k] ≤ 64)
def ztp (n : Nat) : List Int := List.replicate n 1
theorem yako (n : Nat) : ztp (n + 1) = ztp n ++ [1] := by unfold ztp; rw [List.replicate_succ', ]
theorem zrt (n : Nat) : (ztp n).length = n := by simp [ztp]
set_option maxRecDepth 100000 in
set_option maxHeartbeats 4000000 in
theorem yada (w : World) : Calls Tryz.prog 96 #[] w fun e w' => ∃ v', e = .returned v' ∧ Row w' 3 1 w.heap.size w'.heap.size v' (ztp 128).length (zdd (ztp 128)) ∧ Below w.heap.size w w' := by
 have START : Hid (InI w (w.alloc (.cells #[] 3)) (.slice (some ⟨w.heap.size, 0, none⟩) 0 0) (ztp 0)) := ⟨World.ownsRow_lit w #[] 0 (Nat.le_refl _) (by simp [maxLen]) (by simp), (Below.refl _ _).alloc (Nat.le_refl _) _⟩
 go_enter Tryz.func96, Tryz.ntmps96
 go_wp2
 go_loopw [1, 2] (fun vL i wr => ∃ m : Nat, m ≤ 128 ∧ i = .int .i64 (m : Int) ∧ Hid (InI w wr vL (ztp m))) (fun _ i _ => 128 - (intOf i).toNat)
 case atStart => exact ⟨0, by omega, rfl, START⟩
 case round =>
  obtain ⟨m, hm, rfl, J⟩ := hrel
  clear START
  have m0 : (0 : Int) ≤ (m : Int) := by omega
  by_cases hlt : m < 128
  ·have m1 : (m : Int) < 128 := by omega
   have EM := zaa (yako m)
   have l2 : (ztp m).length ≤ 128 := by rw [zrt]; omega
   have JB : Hid (InI w (wr.alloc (.cells #[.int .i64 1] 3)) u1 (ztp m)) := J.out.below ((Below.refl _ _).alloc (Nat.le_refl _) _)
   have RB := zaa (yagl wr 1)
   have hzb := JB.out.z
   clear J
   go_wp2_with (at_builtin; refine zae _ rfl (.tmp 8) (.tmp 9) 23 rfl w.heap.size 3 (.int .i64 0) 1 8 Tryz.underlying23 zlj rfl (by decide) _ _ _ rfl JB.out.l _ 1 _ rfl RB.out (zxh _) (by first | omega | (simp [maxLen]; omega)) (by first | omega | (simp; omega)) hzb ?_)
   intro vN wN hownN hgrN
   have G := zaa (JB.out.grow 1 hownN hgrN)
   rw [← EM.out] at G
   clear hownN hgrN JB RB
   go_wp2
   go_roundw
   case rel => exact ⟨m + 1, by omega, by go_num, G⟩
   case measure => simp [intOf]; omega
  ·obtain rfl : m = 128 := by omega
   obtain ⟨-, aN, cN, hvN, -⟩ := (zad J.out.l).rd
   subst hvN
   go_wp2
   go_ret
   exact ⟨_, rfl, zad J.out.l, J.out.b⟩
def pgE (ns : List Ino) (i : Nat) : Int := (zal ns (i / 8)).map.getD (i % 8) 0
def pkS (ns : List Ino) (hs : List Int) (t : Int) (hot : Bool) (b : Int) (i : Nat) : Int := if pgE ns i = 0 ∨ ¬ pgE ns i % 4 = t then b else if b < 0 ∨ (hot = true ∧ hs.getD b.toNat 0 < hs.getD i 0) ∨ (hot = false ∧ hs.getD i 0 < hs.getD b.toNat 0) then (i : Int) else b
def pkN (ns : List Ino) (hs : List Int) (t : Int) (hot : Bool) : Nat → Int
 | 0 => -1
 | n + 1 => pkS ns hs t hot (pkN ns hs t hot n) n
theorem zuo (ns : List Ino) (hs : List Int) (t : Int) (hot : Bool) (n : Nat) : -1 ≤ pkN ns hs t hot n ∧ pkN ns hs t hot n < (n : Int) := by
 induction n with
 | zero => exact ⟨Int.le_refl (-1), show (-1 : Int) < 0 by decide⟩
 | succ n ih =>
  have e : pkN ns hs t hot (n + 1) = pkS ns hs t hot (pkN ns hs t hot n) n := rfl
  rw [e]
  unfold pkS
  split
  ·omega
  ·split <;> omega
theorem yafl {ns : List Ino} {ds : List Den} (h : zcb ns ds = true) {k : Nat} (hk : k < 16) (j : Nat) : zes ((zal ns k).map.getD j 0) = true := by
 have t := (zfq ((zca.1 h).ok k hk)).1
 rw [List.getD_eq_getElem?_getD]
 rcases Nat.lt_or_ge j (zal ns k).map.length with q | q
 ·rw [List.getElem?_eq_getElem q]
  exact t _ (List.getElem_mem q)
 ·rw [List.getElem?_eq_none q]
  exact zue
def swL (i p e : Int) : List Mi := ⟨1, 48 + 12 * i + (3 + p), e⟩ :: zbm [48 + 12 * i + (3 + p)]
def deS (ns : List Ino) (x : Int) : List Mi := [⟨4, fsI ns, x⟩, ⟨5, 0, 0⟩]
def prS (ns : List Ino) (x : Int) : List Mi := ⟨1, 312 + fpI ns, x⟩ :: zbm [312 + fpI ns]
def deF (ns : List Ino) (e x i p : Int) : List Mi × Int := if e = 0 ∨ ¬ e % 4 = 1 then ([], 5) else if fsI ns < 0 then ([], 7) else (deS ns x ++ swL i p (4 * fsI ns + 2), 0)
def prF (ns : List Ino) (e x i p : Int) : List Mi × Int := if e = 0 ∨ ¬ e % 4 = 2 then ([], 5) else if fpI ns < 0 then ([], 7) else (prS ns x ++ swL i p (4 * fpI ns + 1), 0)
def enI (ns : List Ino) (i p : Int) : Int := (zal ns i.toNat).map.getD p.toNat 0
theorem zwr (i p e : Int) : (swL i p e).length ≤ 3 := by
 have := zcc [48 + 12 * i + (3 + p)]
 unfold swL
 simp only [List.length_cons, List.length_nil] at this ⊢
 omega
set_option maxRecDepth 100000 in
set_option maxHeartbeats 8000000 in
theorem zlx (i p e : Int) (w : World) (hi : 0 ≤ i ∧ i < 16) (hp : 0 ≤ p ∧ p < 8) :
  Calls Tryz.prog 138 #[.int .i64 i, .int .i64 p, .int .i64 e] w fun r w' => ∃ v', r = .returned v' ∧ Row w' 175 3 w.heap.size w'.heap.size v' (swL i p e).length (mis (swL i p e)) ∧ Below w.heap.size w w' := by
 have wp : IntKind.i64.wrap (3 + p) = 3 + p := by rw [IntKind.wrap_i64]; omega
 have EX := zaa (show swL i p e = [⟨1, 48 + 12 * i + (3 + p), e⟩] ++ zbm [48 + 12 * i + (3 + p)] from rfl)
 rw [EX.out]
 have pr : 0 ≤ 3 + p ∧ 3 + p < 11 := by omega
 have ar : 0 ≤ 48 + 12 * i + (3 + p) ∧ 48 + 12 * i + (3 + p) < 336 := by omega
 have LN := zaa (fun w1 => zba i (3 + p) w1 hi pr)
 have l7 : (zbm [48 + 12 * i + (3 + p)]).length ≤ 2 := zcc [48 + 12 * i + (3 + p)]
 clear EX
 generalize 48 + 12 * i + (3 + p) = a at *
 have LF := zaa (fun v w1 h => zcv v [a] w1 h (by simp) (by intro j h; simp at h; subst h; simpa using ar))
 generalize zbm [a] = FL at *
 go_enter Tryz.func138, Tryz.ntmps138
 go_wp2_with fail
 refine (LN.out _).mono ?_
 rintro e w' ⟨rfl, hw'⟩
 subst w'
 go_wp2_with fail
 refine (zcy _ _ _).mono ?_
 rintro r w4 ⟨rfl, hb4⟩
 have M4 : Hid (MiI w (w4.alloc (.cells #[.int .i64 1, .int .i64 a, .int .i64 e] 175)) (.slice (some ⟨w4.heap.size, 0, none⟩) 1 1) [⟨1, a, e⟩]) := ⟨World.ownsRow_lit w4 _ 1 hb4.size (by simp [maxLen]) rfl, hb4.alloc hb4.size _⟩
 have M6 := zaa (M4.out.below ((Below.refl _ _).alloc (Nat.le_refl _) (.cells #[.int .i64 a] 3)))
 have R6 := zaa (zkw (w4.alloc (.cells #[.int .i64 1, .int .i64 a, .int .i64 e] 175)) a)
 simp only [World.size_alloc] at R6
 clear hb4 M4
 go_wp2_with fail
 refine (LF.out _ _ R6.out).mono ?_
 rintro r w7 ⟨v7, rfl, hr7, hb7⟩
 have M7 := zaa (M6.out.below hb7)
 have R7 := zaa hr7.rd
 have hz7 := M7.out.z
 clear hr7 hb7 M6 R6
 go_wp2_with (at_builtin; refine zae _ rfl (.tmp 15) (.tmp 18) 32 rfl w.heap.size 175 (.agg #[.int .i64 0, .int .i64 0, .int .i64 0]) 3 24 Tryz.underlying32 zce rfl (by decide) _ _ _ rfl M7.out.l _ _ _ rfl R7.out (zcw _) (by first | omega | (simp [maxLen]; done) | (simp [maxLen]; omega)) (by first | omega | (simp; done) | (simp; omega)) hz7 ?_)
 intro vT wT hownT hgrT
 have M := zaa (M7.out.grow FL hownT hgrT)
 obtain ⟨-, aT, cT, hvT, -⟩ := (zad hownT).rd
 subst hvT
 clear hownT hgrT M7 R7
 go_wp2
 go_ret
 exact ⟨_, rfl, zad M.out.l, M.out.b⟩
def zwo (s : List Int × List Se) (l : List Mi) : List Int × List Se := l.foldl (fun s m => (doE m s.1 s.2, doQ m s.2)) s
theorem zoc (s : List Int × List Se) (l l' : List Mi) : zwo s (l ++ l') = zwo (zwo s l) l' := by unfold zwo; rw [List.foldl_append]
theorem zhz : ∀ (l : List Mi) (s : List Int × List Se), (∀ m ∈ l, StOK m) → zwo s l = s
 | [], s, _ => rfl
 | m :: l, s, h => by
  have k := (h m List.mem_cons_self).2
  show zwo (doE m s.1 s.2, doQ m s.2) l = s
  rw [zhz l _ (fun q hq => h q (List.mem_cons_of_mem _ hq))]
  unfold doE doQ
  rw [if_neg (by omega), if_neg (by omega), if_neg (by omega)]
theorem yapv {m : Mi} (h : miB m = true) : m.kind = 1 ∨ m.kind = 2 ∨ m.kind = 3 ∨ m.kind = 4 ∨ m.kind = 5 := by
 have := (zln m.kind m.at_ m.val).1 h
 omega
theorem yapg : ∀ (l : List Mi) (ws : List Int) (ps : List St) (es : List Int) (qs : List Se), (∀ m ∈ l, miB m = true) → ps.length + l.length ≤ 400 → qs.length + l.length ≤ 400 → mr l ws ps es qs = ⟨0, (znw (ws, ps) l).1, (znw (ws, ps) l).2, (zwo (es, qs) l).1, (zwo (es, qs) l).2⟩
 | [], ws, ps, es, qs, _, _, _ => rfl
 | m :: l, ws, ps, es, qs, hk, hl, hq => by
   have h1 := yapv (hk m List.mem_cons_self)
   simp only [List.length_cons] at hl hq
   have hf : zpq m ps qs = false := decide_eq_false (fun h => by omega)
   have e : zrm (ws, ps) m = (doW m ws ps, doP m ps) := by
    unfold zrm doW doP
    rcases h1 with h | h | h | h | h
    ·rw [if_pos h, if_pos h, if_neg (by omega)]
    ·rw [if_neg (by omega), if_pos h, if_neg (by omega), if_neg (by omega), if_pos h]
    ·rw [if_neg (by omega), if_neg (by omega), if_pos h, if_pos h, if_neg (by omega), if_neg (by omega), if_pos h]
    ·rw [if_neg (by omega), if_neg (by omega), if_neg (by omega), if_neg (by omega), if_neg (by omega), if_neg (by omega), if_neg (by omega)]
    ·rw [if_neg (by omega), if_neg (by omega), if_neg (by omega), if_neg (by omega), if_neg (by omega), if_neg (by omega), if_neg (by omega)]
   have hp : (doP m ps).length ≤ ps.length + 1 := by
    unfold doP
    split
    ·simp
    ·split
     ·simp
     ·split
      ·exact Nat.le_trans (List.length_filter_le _ _) (by omega)
      ·omega
   have hq' : (doQ m qs).length ≤ qs.length + 1 := by
    unfold doQ
    split
    ·simp
    ·split
     ·simp
     ·omega
   rw [zki, e, show zwo (es, qs) (m :: l) = zwo (doE m es qs, doQ m qs) l from rfl]
   simp only [mr, hf]
   exact yapg l _ _ _ _ (fun q hq => hk q (List.mem_cons_of_mem _ hq)) (by omega) (by omega)
theorem yatk {us : List Se} (ui : UpIn us) (wv : Wv us) : ∀ p ∈ zea us, (48 ≤ p.at_ ∧ p.at_ < 336) ∧ 0 ≤ p.val ∧ p.val < 1099511627776 := by
 intro p hp
 obtain ⟨u, hu, rfl⟩ := List.mem_map.1 (show p ∈ us.map (fun s => up s.at_ s.val) from hp)
 have := ui u hu
 have := wv u hu
 exact ⟨⟨by show 48 ≤ u.at_; omega, by show u.at_ < 336; omega⟩, by show 0 ≤ u.val; omega, by show u.val < _; omega⟩
theorem zsv {us : List Se} (ui : UpIn us) (wv : Wv us) (hl : us.length ≤ 16) : ∀ m ∈ zdu (zea us), StOK m := by
 intro m hm
 have A := yatk ui wv
 unfold zdu ziq at hm
 split at hm
 ·cases hm
 ·rcases List.mem_append.1 hm with hm | hm
  ·rcases List.mem_append.1 hm with hm | hm
   ·refine zwa (fun p hp => ?_) m hm
    have h1 := yaht (zea us) 0 p hp
    have h2 := yaic (zea us) 0 A p hp
    rw [zcl] at h1
    omega
   ·refine zwa (yape _ ?_) m hm
    rw [zcl]
    omega
  ·rcases List.mem_append.1 hm with hm | hm
   ·exact zwa (fun p hp => by have := A p hp; omega) m hm
   ·exact zwa (yape 0 (by omega)) m hm
structure Idle (ws es : List Int) (ns : List Ino) (ds : List Den) : Prop where
 wi : Wi ws ns ds
 c0 : wdI ws 8 = 0
 pm : pmB ws [] = true
 bk : zpr es [] = true
theorem Idle.img {ws es : List Int} {ns : List Ino} {ds : List Den} (h : Idle ws es ns ds) : zcb ns ds = true := zca.2 h.wi.img
theorem zlf {ws es : List Int} {ns : List Ino} {ds : List Den} (h : Idle ws es ns ds) {l : List Mi} {ws' : List Int} {ns' : List Ino} {ds' : List Den} (r : znw (ws, []) l = (ws', [])) (c : wdI ws' 8 = 0) (w : Wi ws' ns' ds') (hm : ∀ m ∈ l, miB m = true) (hl : l.length ≤ 200) (q : (zwo (es, []) l).2 = []) :
  ∃ es', mr l ws [] es [] = ⟨0, ws', [], es', []⟩ ∧ Idle ws' es' ns' ds' := by
 have e := yapg l ws [] es [] hm (by simp; omega) (by simp; omega)
 rw [r, q] at e
 have k := yash l ws [] es [] h.pm h.bk hm
 rw [e] at k
 exact ⟨_, e, w, c, k.1, k.2⟩
theorem zvk {ws es : List Int} {ns : List Ino} {ds : List Den} (h : Idle ws es ns ds) : ∃ ws' es' ns' ds', mr [] ws [] es [] = ⟨0, ws', [], es', []⟩ ∧ Idle ws' es' ns' ds' := ⟨ws, es, ns, ds, rfl, h⟩
theorem yags {ws es : List Int} {ns : List Ino} {ds : List Den} (h : Idle ws es ns ds) {us : List Se} (ui : UpIn us) (hl : us.length ≤ 16) (wv : Wv us) {ns' : List Ino} {ds' : List Den} (q : Wi (zbe ws us) ns' ds') :
  ∃ ws' es' ns' ds', mr (zdu (zea us)) ws [] es [] = ⟨0, ws', [], es', []⟩ ∧ Idle ws' es' ns' ds' := by
 obtain ⟨ls', r, c, w⟩ := yaoi h.wi h.c0 ⟨ui, hl⟩ q
 have ok := zsv ui wv hl
 have pl := zjx us
 obtain ⟨es', e, k⟩ := zlf h r c w (fun m hm => (ok m hm).1) (by omega) (by rw [zhz _ _ ok])
 exact ⟨ls', es', ns', ds', e, k⟩
theorem yapy (a x : Int) : (⟨1, a, x⟩ :: zbm [a] : List Mi) = seg [up a x] := rfl
theorem yaew {a x : Int} (ha : 0 ≤ a ∧ a < 336) (hx : 0 ≤ x ∧ x < 1099511627776) : ∀ m ∈ (⟨1, a, x⟩ :: zbm [a] : List Mi), StOK m := by
 rw [yapy]
 refine zwa (fun p hp => ?_)
 rw [List.mem_singleton.1 hp]
 exact ⟨ha, hx⟩
theorem zzb {x : Int} (h : zbc x = true) : 0 ≤ x ∧ x < 1099511627776 := of_decide_eq_true h
theorem yadx (a x : Int) : (⟨1, a, x⟩ :: zbm [a] : List Mi).length ≤ 3 := by
 have := zcc [a]
 simp only [List.length_cons, List.length_nil] at this ⊢
 omega
theorem yaow {k x : Int} (hk : 0 ≤ k ∧ k < 32) (hx : 0 ≤ x ∧ x < 1099511627776) : ∀ m ∈ ([⟨4, k, x⟩, ⟨5, 0, 0⟩] : List Mi), miB m = true := by
 intro m hm
 rcases List.mem_cons.1 hm with rfl | hm
 ·exact (zln _ _ _).2 (.inr (.inr (.inl ⟨rfl, hk, hx⟩)))
 ·rw [List.mem_singleton.1 hm]
  exact (zln _ _ _).2 (.inr (.inr (.inr ⟨.inr rfl, rfl, rfl⟩)))
theorem yabf (es : List Int) (k x : Int) : (zwo (es, []) [⟨4, k, x⟩, ⟨5, 0, 0⟩]).2 = [] := rfl
theorem yadd {ws es : List Int} {ns : List Ino} {ds : List Den} (h : Idle ws es ns ds) {s : ByteArray} {page x : Int} (e : (wrI ns ds s page x).2 = 0) :
  (∃ ws' es' ns' ds', mr (wrI ns ds s page x).1 ws [] es [] = ⟨0, ws', [], es', []⟩ ∧ Idle ws' es' ns' ds') ∧ (∀ m ∈ (wrI ns ds s page x).1, miB m = true) ∧ (wrI ns ds s page x).1.length ≤ 200 ∧ 0 ≤ page ∧ page < 8 := by
 obtain ⟨i, p, ls', hi, hp, ei, ep, r, c, w⟩ := yalr h.wi h.c0 (show wrI ns ds s page x = ((wrI ns ds s page x).1, 0) by rw [← e])
 subst ep
 have f0 : (flI ns ds s).2 = 0 := by
  unfold wrI at e
  split at e
  ·assumption
  ·assumption
 have form : ∃ n : ¬ (fpI ns < 0 ∧ fsI ns < 0), zbc x = true ∧ (wrI ns ds s (p : Int) x).1 = wrS ns x ++ zdu (zea (wrU (i : Int) (p : Int) (zdr ns (i : Int)) (wrE ns))) := by
  unfold wrI at e ⊢
  rw [if_pos f0, ei] at e ⊢
  unfold wrF at e ⊢
  by_cases d : (0 ≤ (p : Int) ∧ (p : Int) < 8) ∧ zbc x = true
  ·rw [if_pos d] at e ⊢
   by_cases f : fpI ns < 0 ∧ fsI ns < 0
   ·rw [if_pos f] at e
    cases e
   ·rw [if_neg f]
    exact ⟨f, d.2, rfl⟩
  ·rw [if_neg d] at e
   cases e
 obtain ⟨nf, wx, F⟩ := form
 have X := zzb wx
 have k := (zgn h.wi.img f0)
 obtain ⟨i', hi', ei', k1⟩ := k
 have e' : i' = i := by rw [ei] at ei'; omega
 subst e'
 obtain ⟨te, he, new⟩ := yaeg nf
 have sz : zdr ns (i' : Int) = (zal ns i').size := by unfold zdr; rw [Int.toNat_natCast]
 have ww := zro h.wi hi k1 hp te he new
 have wv : Wv (wrU (i' : Int) (p : Int) (zal ns i').size (wrE ns)) := by
  have := zeq te
  unfold wrU
  refine Wv.cons (by omega) ?_
  split
  ·exact Wv.one (by omega)
  ·intro u hu; cases hu
 have ul : (wrU (i' : Int) (p : Int) (zal ns i').size (wrE ns)).length ≤ 2 := by unfold wrU; split <;> simp
 have ok2 := zsv ww.1 wv (by omega)
 have pl := zjx (wrU (i' : Int) (p : Int) (zal ns i').size (wrE ns))
 rw [sz] at F
 have b1 : fpI ns < 24 := by
  have := (zdj (fun i => !zhk (zbu (zap ns) 1) (i : Int)) 24).2
  unfold fpI
  omega
 have b2 : fsI ns < 32 := by
  have := (zdj (fun i => !zhk (zbu (zap ns) 2) (i : Int)) 32).2
  unfold fsI
  omega
 have okS : (∀ m ∈ wrS ns x, miB m = true) ∧ (wrS ns x).length ≤ 3 ∧ (zwo (es, []) (wrS ns x)).2 = [] := by
  unfold wrS
  by_cases q : 0 ≤ fpI ns
  ·rw [if_pos q]
   have o := yaew (a := 312 + fpI ns) (x := x) (by omega) X
   exact ⟨fun m hm => (o m hm).1, yadx _ _, by rw [zhz _ _ o]⟩
  ·rw [if_neg q]
   exact ⟨yaow (by omega) X, by simp, yabf _ _ _⟩
 have ALL : ∀ m ∈ (wrI ns ds s (p : Int) x).1, miB m = true := by
  rw [F]
  intro m hm
  rcases List.mem_append.1 hm with hm | hm
  ·exact okS.1 m hm
  ·exact (ok2 m hm).1
 have LEN : (wrI ns ds s (p : Int) x).1.length ≤ 200 := by
  rw [F, List.length_append]
  have := okS.2.1
  omega
 obtain ⟨es', e2, k2⟩ := zlf h r c w ALL LEN (by
  rw [F, zoc]
  rw [zhz _ _ ok2]
  exact okS.2.2)
 exact ⟨⟨_, _, _, _, e2, k2⟩, ALL, LEN, by omega, by omega⟩
def touH (hs : List Int) (k : Nat) : List Int := hs.set k (min 64 (hs.getD k 0 + 8))
theorem zbt {hs : List Int} (h : ziz hs = true) : hs.length = 128 ∧ ∀ k (h : k < hs.length), 0 ≤ hs[k] ∧ hs[k] ≤ 64 := of_decide_eq_true h
theorem yart {w : World} {base : Nat} {e : TypeId} {size : Nat} {v : Value} {n : Nat} {xs : List Value} (h : w.ownsRow base e size v n xs) (hn : 0 < n) : ∃ b c, v = .slice (some ⟨b, 0, none⟩) n c ∧ n ≤ c := by
 rcases (zad h).shape with ⟨_, e, _⟩ | ⟨b, c, rfl, hc, _⟩
 ·omega
 ·exact ⟨b, c, rfl, hc⟩
set_option maxRecDepth 100000 in
set_option maxHeartbeats 4000000 in
theorem ztt (v : Value) (hs : List Int) (i p : Nat) (w : World) (h : RdI w v hs) (hn : hs.length = 128) (hr : ∀ k (h : k < hs.length), 0 ≤ hs[k] ∧ hs[k] ≤ 64) (hi : i < 16) (hp : p < 8) :
  Calls Tryz.prog 131 #[v, .int .i64 (i : Int), .int .i64 (p : Int)] w fun e w' => ∃ v', e = .returned v' ∧ Row w' 3 1 w.heap.size w'.heap.size v' (touH hs (8 * i + p)).length (zdd (touH hs (8 * i + p))) ∧ Below w.heap.size w w' := by
 obtain ⟨ao, cap, rfl, hcap, -⟩ := h.shape
 have HR : Hid (Rd (w.alloc (.cells #[] 3)) 1 (.slice ao hs.length cap) hs.length (zdd hs)) := Rd.below h ((Below.refl _ _).alloc (Nat.le_refl _) _)
 have ST : Hid (InI w (w.alloc (.cells #[] 3)) (.slice (some ⟨w.heap.size, 0, none⟩) 0 0) []) := ⟨World.ownsRow_lit w #[] 0 (Nat.le_refl _) (by simp [maxLen]) (by simp), (Below.refl _ _).alloc (Nat.le_refl _) _⟩
 have hz : w.heap.size ≤ (w.alloc (.cells #[] 3)).heap.size := ST.out.z
 obtain ⟨k, hk⟩ : ∃ k : Nat, k = 8 * i + p := ⟨_, rfl⟩
 have k128 : k < hs.length := by omega
 have KL := zaa k128
 obtain ⟨z0, z64⟩ := hr k k128
 have EG : Hid (hs.getD k 0 = hs[k]) := by unfold Hid; rw [List.getD_eq_getElem?_getD, List.getElem?_eq_getElem k128]; rfl
 have ET : Hid (touH hs k = hs.set k (min 64 (hs[k] + 8))) := by unfold Hid touH; rw [EG.out]
 have kk : (8 * (i : Int) + (p : Int)) = (k : Int) := by omega
 have w1f : IntKind.i64.wrap (8 * (i : Int)) = 8 * (i : Int) := by rw [IntKind.wrap_i64]; omega
 have w2f : IntKind.i64.wrap (8 * (i : Int) + (p : Int)) = (k : Int) := by rw [IntKind.wrap_i64]; omega
 have w3f : IntKind.i64.wrap (hs[k] + 8) = hs[k] + 8 := by rw [IntKind.wrap_i64]; omega
 rw [← hk, ET.out]
 have CL : Hid ((zdd hs)[k]? = some (.int .i64 hs[k])) := zct hs k k128
 have hl1 : hs.length ≤ 128 := by omega
 clear hn hr
 generalize hs[k] = z at *
 obtain ⟨mm, em, cm⟩ : ∃ mm : Int, min 64 (z + 8) = mm ∧ ((z + 8 < 64 ∧ mm = z + 8) ∨ (¬ z + 8 < 64 ∧ mm = 64)) := ⟨min 64 (z + 8), rfl, by omega⟩
 rw [em]
 have CM := zaa cm
 clear em cm
 go_enter Tryz.func131, Tryz.ntmps131
 go_wp2_with (at_builtin; refine zae _ rfl (.tmp 8) (.tmp 9) 23 rfl w.heap.size 3 (.int .i64 0) 1 8 Tryz.underlying23 zlj rfl (by decide) _ _ _ rfl ST.out.l _ hs.length (zdd hs) rfl HR.out (zfs _) (by first | omega | (simp [maxLen]; omega)) (by first | omega | (simp; omega)) hz ?_)
 intro vN wN hownN hgrN
 have G : Hid (Row wN 3 1 w.heap.size wN.heap.size vN hs.length (zdd hs)) := by
  have q := zad hownN
  exact q
 have BN : Hid (Below w.heap.size w wN) := ST.out.b.grown hgrN hz (fun q hq => (ST.out.l.lt q hq).1)
 obtain ⟨b, c, rfl, hcb⟩ := yart G.out.1 (by omega)
 obtain ⟨_, _, _, hbl, hfr, hcl⟩ := G.out.at
 have e0 : wN.cell? ⟨b, k, none⟩ = some (.int .i64 z) := (hcl k (by omega)).trans CL.out
 have f0 : wN.frozen? ⟨b, k, none⟩ = false := hfr k
 have k0 : (0 : Int) ≤ (k : Int) := by omega
 have k1 : (k : Int) < (hs.length : Int) := by omega
 have hwb : w.heap.size ≤ b := (G.out.1.lt b rfl).1
 have R2 : Hid (Row (wN.setCell ⟨b, k, none⟩ (.int .i64 mm)) 3 1 w.heap.size (wN.setCell ⟨b, k, none⟩ (.int .i64 mm)).heap.size (.slice (some ⟨b, 0, none⟩) hs.length c) hs.length (zdd (hs.set k mm))) := by
  have q := G.out.stored k (.int .i64 mm)
  rw [zie] at q
  exact q.wide (Nat.le_refl _) (by simp [World.setCell])
 have B2 : Hid (Below w.heap.size w (wN.setCell ⟨b, k, none⟩ (.int .i64 mm))) := BN.out.setCell hwb _
 clear hownN hgrN G BN HR ST hcl hfr kk hk
 rcases CM.out with ⟨c1, rfl⟩ | ⟨c1, rfl⟩
 ·have mn : min 64 (z + 8) = z + 8 := by omega
  go_wp2
  go_ret
  exact ⟨_, rfl, R2.out, B2.out⟩
 ·have mn : min 64 (z + 8) = 64 := by omega
  go_wp2
  go_ret
  exact ⟨_, rfl, R2.out, B2.out⟩
theorem yasq {hs : List Int} (h : hs.length = 128) (k : ∀ k (h : k < hs.length), 0 ≤ hs[k] ∧ hs[k] ≤ 64) : ziz hs = true := decide_eq_true ⟨h, k⟩
theorem yaeh : ziz (ztp 128) = true := yasq (zrt 128) (fun k h => by
 have e : (ztp 128)[k] = 1 := List.eq_of_mem_replicate (List.getElem_mem h)
 rw [e]
 omega)
set_option maxRecDepth 100000 in
theorem zgt (n : Int) (hn : 2 ≤ n ∧ n ≤ 1000) (w0 w : World) (b k : Nat) (vC : Value) (bs : List Int) (h : Src w0 w b vC bs k) (hk : k ≤ 900000) :
  Calls Tryz.prog 52 #[.pointer (some ⟨b, 0, none⟩), .int .i64 n] w fun e w' => ∃ r : Bool, e = .returned (.bool r) ∧ Src w0 w' b vC bs (k + 3) ∧ Outside b (b + 1) w w' ∧ w'.heap.size = w.heap.size := by
 have HS := zaa h
 have wn : IntKind.i64.wrap (n - 1) = n - 1 := by rw [IntKind.wrap_i64]; omega
 clear h
 go_enter Tryz.func52, Tryz.ntmps52
 go_wp2_with fail
 refine (zbw n hn w0 w b k vC bs HS.out hk).mono ?_
 rintro e w1 ⟨r, rfl, r0, r1, hs, ho, hz⟩
 have S1 := zaa hs
 have O1 := zaa ho
 clear hs ho
 go_wp2
 go_ret
 exact ⟨_, rfl, S1.out, O1.out, hz⟩
def isIB : Value → Bool
 | .int _ _ => true
 | _ => false
def isSB : Value → Bool
 | .string _ => true
 | _ => false
def zli : List Value → Bool
 | [] => true
 | [a] => !isSB a
 | [a, b] => !isSB a && !isSB b
 | a :: b :: c :: t => !isSB a && !(isIB a && isIB b && isIB c) && zli (b :: c :: t)
theorem znu {a : Value} {l : List Value} (h : zli (a :: l) = true) : isSB a = false ∧ zli l = true := by
 match l with
 | [] => simp [zli] at h; exact ⟨h, rfl⟩
 | [b] => simp [zli] at h; exact ⟨h.1, by simp [zli, h.2]⟩
 | b :: c :: t =>
  simp only [zli, Bool.and_eq_true, Bool.not_eq_true'] at h
  exact ⟨h.1.1, h.2⟩
theorem zvz : ∀ {l : List Value}, zli l = true → ∀ (j : Nat) (v : Value), l[j]? = some v → isSB v = false
 | [], _, j, v, e => by cases e
 | a :: l, h, 0, v, e => by
  simp only [List.getElem?_cons_zero, Option.some.injEq] at e
  rw [← e]
  exact (znu h).1
 | a :: l, h, j + 1, v, e => zvz (znu h).2 j v (by simpa using e)
theorem zqr : ∀ {l : List Value}, zli l = true → ∀ (j : Nat) (a b c : Value), l[j]? = some a → l[j + 1]? = some b → l[j + 2]? = some c → ¬ (isIB a = true ∧ isIB b = true ∧ isIB c = true)
 | [], _, j, _, _, _, e, _, _ => by cases e
 | x :: l, h, 0, a, b, c, e1, e2, e3 => by
  match l, h, e2, e3 with
  | [], _, e2, _ => simp at e2
  | [y], _, _, e3 => simp at e3
  | y :: z :: t, h, e2, e3 =>
   simp only [List.getElem?_cons_zero, List.getElem?_cons_succ, Option.some.injEq] at e1 e2 e3
   subst e1 e2 e3
   simp only [zli, Bool.and_eq_true, Bool.not_eq_true'] at h
   intro q
   have := h.1.2
   rw [q.1, q.2.1, q.2.2] at this
   cases this
 | x :: l, h, j + 1, a, b, c, e1, e2, e3 => zqr (znu h).2 j a b c (by simpa using e1) (by simpa using e2) (by simpa using e3)
def Hard (xs : List Value) : Prop := (∃ (j : Nat) (v : Value), xs[j]? = some v ∧ isSB v = true) ∨ ∃ (j : Nat) (a b c : Value), xs[j]? = some a ∧ xs[j + 1]? = some b ∧ xs[j + 2]? = some c ∧ isIB a = true ∧ isIB b = true ∧ isIB c = true
structure Soft (w w' : World) : Prop where
 size : w.heap.size ≤ w'.heap.size
 blk : ∀ j, j < w.heap.size → w'.heap[j]? = w.heap[j]? ∨ ∃ cs t fr, w.heap[j]? = some (.cells cs t fr) ∧ zli cs.toList = true
theorem Soft.refl (w : World) : Soft w w := ⟨Nat.le_refl _, fun _ _ => .inl rfl⟩
theorem Soft.trans {a b c : World} (h : Soft a b) (k : Soft b c) : Soft a c :=
 ⟨Nat.le_trans h.size k.size, fun j hj => by
  rcases h.blk j hj with e | e
  ·rcases k.blk j (Nat.lt_of_lt_of_le hj h.size) with f | f
   ·exact .inl (f.trans e)
   ·rw [e] at f
    exact .inr f
  ·exact .inr e⟩
theorem Soft.of_below {w w' : World} (h : Below w.heap.size w w') : Soft w w' := ⟨h.size, fun j hj => .inl (h.block j hj)⟩
theorem Soft.alloc {a w : World} (h : Soft a w) (o : Obj) : Soft a (w.alloc o) := h.trans (.of_below ((Below.refl _ _).alloc (Nat.le_refl _) _))
theorem Soft.drew {a w : World} (h : Soft a w) : Soft a w.drew := h.trans (.of_below (Below.refl _ _).drew)
theorem Soft.set {a w : World} (h : Soft a w) {b : Nat} {cs : Array Value} {t : TypeId} {fr : Nat × Nat} (hb : w.heap[b]? = some (.cells cs t fr)) (hs : zli cs.toList = true) (j : Nat) (u : Value) : Soft a (w.setCell ⟨b, j, none⟩ u) :=
 h.trans ⟨by simp [World.setCell], fun k _ => by
  by_cases e : k = b
  ·subst e
   exact .inr ⟨cs, t, fr, hb, hs⟩
  ·exact .inl (Below.heap_setCell _ _ _ _ e)⟩
theorem Soft.outside {w w' : World} {b : Nat} {cs : Array Value} {t : TypeId} {fr : Nat × Nat} (h : Outside b (b + 1) w w') (hb : w.heap[b]? = some (.cells cs t fr)) (hs : zli cs.toList = true) : Soft w w' :=
 ⟨h.size, fun k hk => by
  by_cases e : k = b
  ·subst e
   exact .inr ⟨cs, t, fr, hb, hs⟩
  ·exact .inl (h.block k hk (by omega))⟩
theorem Rd.soft {w w' : World} {size : Nat} {v : Value} {n : Nat} {xs : List Value} (h : Rd w size v n xs) (hs : Soft w w') (hd : 0 < n * size → Hard xs) : Rd w' size v n xs := by
 by_cases hn : 0 < n * size
 ·refine h.same hs.size (fun j hj he => ?_)
  rcases hs.blk j hj with e | ⟨cs, t, fr, hb, sf⟩
  ·exact e
  ·exfalso
   obtain ⟨hl, ao, cap, rfl, _, hc⟩ := h
   have hn' : 0 < n := by
    rcases Nat.eq_zero_or_pos n with e | e
    ·subst e; simp at hn
    ·exact e
   obtain ⟨b', o, rfl, _, hc⟩ := hc hn'
   simp only [Value.ownBlock, Option.some.injEq] at he
   subst he
   have C : ∀ k u, xs[k]? = some u → cs.toList[o + k]? = some u := fun k u e => by
    have hk : k < n * size := by
     have := (List.getElem?_eq_some_iff.1 e).1
     omega
    have := hc k hk
    rw [e] at this
    simp only [World.cell?, hb] at this
    simpa using this
   rcases hd hn with ⟨k, u, e, f⟩ | ⟨k, a, b, c, e1, e2, e3, f1, f2, f3⟩
   ·have := zvz sf _ _ (C k u e)
    rw [f] at this
    cases this
   ·exact zqr sf (o + k) a b c (C k a e1) (C (k + 1) b e2) (C (k + 2) c e3) ⟨f1, f2, f3⟩
 ·obtain ⟨h3, ao, cap, rfl, h4, h5⟩ := h
  refine ⟨h3, ao, cap, rfl, h4, fun hp => ?_⟩
  obtain ⟨b', o, e, hlt, hc⟩ := h5 hp
  exact ⟨b', o, e, Nat.lt_of_lt_of_le hlt hs.size, fun j hj => absurd (Nat.lt_of_le_of_lt (Nat.zero_le _) hj) hn⟩
theorem yafw {zs : List Int} (h : 3 ≤ zs.length) : Hard (zdd zs) := .inr ⟨0, _, _, _, zct zs 0 (by omega), zct zs 1 (by omega), zct zs 2 (by omega), rfl, rfl, rfl⟩
theorem RdI.soft {w w' : World} {v : Value} {zs : List Int} (h : RdI w v zs) (hs : Soft w w') (h3 : 3 ≤ zs.length) : RdI w' v zs := Rd.soft h hs (fun _ => yafw h3)
theorem yaln {l : List Mi} (h : 0 < l.length) : Hard (mis l) := by
 have a := yajx l 0 h
 have b := yaga l 0 h
 have c := yajo l 0 h
 rw [Nat.zero_mul] at a b c
 exact .inr ⟨0, _, _, _, a, b, c, rfl, rfl, rfl⟩
theorem RdM.soft {w w' : World} {v : Value} {l : List Mi} (h : RdM w v l) (hs : Soft w w') : RdM w' v l := Rd.soft h hs (fun hn => yaln (by omega))
theorem yaix {l : List ByteArray} (h : 0 < l.length) : Hard (zer l) := .inl ⟨0, .string l[0], by simp [zer, h], rfl⟩
theorem RdT.soft {w w' : World} {v : Value} {l : List ByteArray} (h : RdT w v l) (hs : Soft w w') : RdT w' v l := Rd.soft h hs (fun hn => yaix (by omega))
theorem Rd.softNil {w w' : World} {size : Nat} {v : Value} (h : Rd w size v 0 []) (hs : Soft w w') : Rd w' size v 0 [] := Rd.soft h hs (fun hn => by simp at hn)
theorem RdDev.soft {w w' : World} {v : Value} {ws es : List Int} (h : RdDev w v ws [] es []) (hs : Soft w w') (h1 : 3 ≤ ws.length) (h2 : 3 ≤ es.length) : RdDev w' v ws [] es [] := by
 obtain ⟨vW, vP, vS, vQ, rfl, ⟨_, _, e1, a, b⟩, ⟨_, _, e2, c, d⟩⟩ := h
 cases e1
 cases e2
 exact ⟨_, _, _, _, rfl, ⟨_, _, rfl, RdI.soft a hs h1, Rd.softNil b hs⟩, ⟨_, _, rfl, RdI.soft c hs h2, Rd.softNil d hs⟩⟩
end Go.Proofs.YtpakbbdlhlkogaaGreatDoor
