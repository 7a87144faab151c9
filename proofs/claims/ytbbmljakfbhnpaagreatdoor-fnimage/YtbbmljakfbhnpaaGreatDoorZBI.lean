/- Several texts laid together: DtI, IgK, IgL, IgM, OpM, TrA, TrC. -/
import Derived.Test.YtbbmljakfbhnpaaGreatDoorZBH
import Derived.Test.YtbbmljakfbhnpaaGreatDoorIgJ
import Derived.KernelRfl
import Derived.Test.YtbbmljakfbhnpaaGreatDoorZAG
import Derived.Test.YtbbmljakfbhnpaaGreatDoorZAE
import Derived.Test.YtbbmljakfbhnpaaGreatDoorZAQ
namespace Go.Proofs.YtbbmljakfbhnpaaGreatDoor
open Go.RowKit

/-- The updates of an operation that changes names or sizes. -/
def uoI (ns : List Ino) (ds : List Den) (k : Int) (p t : ByteArray) (g : Int) : List Se × Int := if k = 1 then mkI ns ds p 1 else if k = 2 then mkI ns ds p 2 else if k = 3 then rmI ns ds p else if k = 4 then lnI ns ds p t else if k = 5 then rnI ns ds p t else cuI ns ds p g

set_option maxRecDepth 100000 in
set_option maxHeartbeats 8000000 in
theorem zoq (v : Value) (ns : List Ino) (ds : List Den) (k : Int) (p t : ByteArray) (g y : Int) (w : World) (h : RdIm w v ns ds) (hi : zfm ns ds = true) (hp : p.size ≤ 65536) (ht : t.size ≤ 65536) :
  Calls Tryz.prog 204 #[v, .agg #[.int .i64 k, .string p, .string t, .int .i64 g, .int .i64 y]] w fun e w' => zrd w w' e (uoI ns ds k p t g) := by
 have L1 := zaa (fun w1 (hb : Below w.heap.size w w1) => zmw v ns ds p 1 w1 (h.below hb) hi hp)
 have L2 := zaa (fun w1 (hb : Below w.heap.size w w1) => zmw v ns ds p 2 w1 (h.below hb) hi hp)
 have L3 := zaa (fun w1 (hb : Below w.heap.size w w1) => zqt v ns ds p w1 (h.below hb) hi hp)
 have L4 := zaa (fun w1 (hb : Below w.heap.size w w1) => zvd v ns ds p t w1 (h.below hb) hi ⟨hp, ht⟩)
 have L5 := zaa (fun w1 (hb : Below w.heap.size w w1) => zqr v ns ds p t w1 (h.below hb) hi ⟨hp, ht⟩)
 have L6 := zaa (fun w1 (hb : Below w.heap.size w w1) => l08Cut_any v ns ds p g w1 (h.below hb) hi hp)
 have EL := zaa (show uoI ns ds k p t g = if k = 1 then mkI ns ds p 1 else if k = 2 then mkI ns ds p 2 else if k = 3 then rmI ns ds p else if k = 4 then lnI ns ds p t else if k = 5 then rnI ns ds p t else cuI ns ds p g from rfl)
 obtain ⟨vW, vP, rfl, h1, h2⟩ := h
 obtain ⟨aW, cW, rfl, _, _⟩ := h1.shape
 obtain ⟨aP, cP, rfl, _, _⟩ := h2.shape
 clear h1 h2 hi hp ht
 obtain ⟨W, hW⟩ : ∃ W, W = (w.alloc (.cells #[.slice aW ns.length cW, .slice aP ds.length cP] 26)).alloc (.cells #[.int .i64 k, .string p, .string t, .int .i64 g, .int .i64 y] 157) := ⟨_, rfl⟩
 have BW : Hid (Below w.heap.size w W) := by rw [hW]; exact ((Below.refl _ _).alloc (Nat.le_refl _) _).alloc (by simp) _
 rw [EL.out]
 by_cases c1 : k = 1
 case pos =>
  rw [if_pos c1]
  have LL := L1
  clear EL L1 L2 L3 L4 L5 L6
  subst c1
  generalize mkI ns ds p 1 = res at *
  go_enter Tryz.func204, Tryz.ntmps204
  go_wp2_with fail
  rw [← hW]
  clear hW
  refine (LL.out _ BW.out).mono ?_
  rintro e w1 ⟨v1, rfl, hr1, hb1⟩
  have R1 := zaa (hr1.wide BW.out.size (Nat.le_refl _))
  have B1 := zaa (zab BW.out hb1 BW.out.size)
  obtain ⟨-, aL, cL, hvL, -⟩ := hr1.rd
  subst hvL
  clear hr1 hb1
  go_wp2
  go_ret2
  exact ⟨_, rfl, R1.out, B1.out⟩
 have q1 : (k == 1) = false := by rw [beq_eq_false_iff_ne]; exact c1
 by_cases c2 : k = 2
 case pos =>
  rw [if_neg c1, if_pos c2]
  have LL := L2
  clear EL L1 L2 L3 L4 L5 L6
  subst c2
  generalize mkI ns ds p 2 = res at *
  go_enter Tryz.func204, Tryz.ntmps204
  go_wp2_with fail
  rw [← hW]
  clear hW
  refine (LL.out _ BW.out).mono ?_
  rintro e w1 ⟨v1, rfl, hr1, hb1⟩
  have R1 := zaa (hr1.wide BW.out.size (Nat.le_refl _))
  have B1 := zaa (zab BW.out hb1 BW.out.size)
  obtain ⟨-, aL, cL, hvL, -⟩ := hr1.rd
  subst hvL
  clear hr1 hb1
  go_wp2
  go_ret2
  exact ⟨_, rfl, R1.out, B1.out⟩
 have q2 : (k == 2) = false := by rw [beq_eq_false_iff_ne]; exact c2
 by_cases c3 : k = 3
 case pos =>
  rw [if_neg c1, if_neg c2, if_pos c3]
  have LL := L3
  clear EL L1 L2 L3 L4 L5 L6
  subst c3
  generalize rmI ns ds p = res at *
  go_enter Tryz.func204, Tryz.ntmps204
  go_wp2_with fail
  rw [← hW]
  clear hW
  refine (LL.out _ BW.out).mono ?_
  rintro e w1 ⟨v1, rfl, hr1, hb1⟩
  have R1 := zaa (hr1.wide BW.out.size (Nat.le_refl _))
  have B1 := zaa (zab BW.out hb1 BW.out.size)
  obtain ⟨-, aL, cL, hvL, -⟩ := hr1.rd
  subst hvL
  clear hr1 hb1
  go_wp2
  go_ret2
  exact ⟨_, rfl, R1.out, B1.out⟩
 have q3 : (k == 3) = false := by rw [beq_eq_false_iff_ne]; exact c3
 by_cases c4 : k = 4
 case pos =>
  rw [if_neg c1, if_neg c2, if_neg c3, if_pos c4]
  have LL := L4
  clear EL L1 L2 L3 L4 L5 L6
  subst c4
  generalize lnI ns ds p t = res at *
  go_enter Tryz.func204, Tryz.ntmps204
  go_wp2_with fail
  rw [← hW]
  clear hW
  refine (LL.out _ BW.out).mono ?_
  rintro e w1 ⟨v1, rfl, hr1, hb1⟩
  have R1 := zaa (hr1.wide BW.out.size (Nat.le_refl _))
  have B1 := zaa (zab BW.out hb1 BW.out.size)
  obtain ⟨-, aL, cL, hvL, -⟩ := hr1.rd
  subst hvL
  clear hr1 hb1
  go_wp2
  go_ret2
  exact ⟨_, rfl, R1.out, B1.out⟩
 have q4 : (k == 4) = false := by rw [beq_eq_false_iff_ne]; exact c4
 by_cases c5 : k = 5
 case pos =>
  rw [if_neg c1, if_neg c2, if_neg c3, if_neg c4, if_pos c5]
  have LL := L5
  clear EL L1 L2 L3 L4 L5 L6
  subst c5
  generalize rnI ns ds p t = res at *
  go_enter Tryz.func204, Tryz.ntmps204
  go_wp2_with fail
  rw [← hW]
  clear hW
  refine (LL.out _ BW.out).mono ?_
  rintro e w1 ⟨v1, rfl, hr1, hb1⟩
  have R1 := zaa (hr1.wide BW.out.size (Nat.le_refl _))
  have B1 := zaa (zab BW.out hb1 BW.out.size)
  obtain ⟨-, aL, cL, hvL, -⟩ := hr1.rd
  subst hvL
  clear hr1 hb1
  go_wp2
  go_ret2
  exact ⟨_, rfl, R1.out, B1.out⟩
 have q5 : (k == 5) = false := by rw [beq_eq_false_iff_ne]; exact c5
 rw [if_neg c1, if_neg c2, if_neg c3, if_neg c4, if_neg c5]
 have LL := L6
 clear EL L1 L2 L3 L4 L5 L6
 generalize cuI ns ds p g = res at *
 go_enter Tryz.func204, Tryz.ntmps204
 go_wp2_with fail
 rw [← hW]
 clear hW
 refine (LL.out _ BW.out).mono ?_
 rintro e w1 ⟨v1, rfl, hr1, hb1⟩
 have R1 := zaa (hr1.wide BW.out.size (Nat.le_refl _))
 have B1 := zaa (zab BW.out hb1 BW.out.size)
 obtain ⟨-, aL, cL, hvL, -⟩ := hr1.rd
 subst hvL
 clear hr1 hb1
 go_wp2
 go_ret2
 exact ⟨_, rfl, R1.out, B1.out⟩
end Go.Proofs.YtbbmljakfbhnpaaGreatDoor

namespace Go.Proofs.YtbbmljakfbhnpaaGreatDoor
open Go.RowKit

/-- The words of fresh devices: the mark, the root's kind and its link. -/
def zmq : List Int := (((List.replicate 336 (0 : Int)).set 0 7).set 48 2).set 50 1
theorem fresh_len : zmq.length = 336 := by kernel_rfl
theorem fresh_inos : zbc zmq 16 = ⟨2, 0, 1, 0, 0, 0, 0, 0, 0, 0, 0⟩ :: List.replicate 15 zgq := by kernel_rfl
theorem fresh_good : zbu zmq 24 = true := by kernel_rfl
theorem fresh_dens : zbe zmq 24 = List.replicate 24 freeD := by kernel_rfl
theorem fresh_img : zfm (⟨2, 0, 1, 0, 0, 0, 0, 0, 0, 0, 0⟩ :: List.replicate 15 zgq) (List.replicate 24 freeD) = true := by kernel_rfl
theorem fresh_wi : Wi zmq (⟨2, 0, 1, 0, 0, 0, 0, 0, 0, 0, 0⟩ :: List.replicate 15 zgq) (List.replicate 24 freeD) :=
 ⟨fresh_len, by kernel_rfl, fresh_good, fresh_inos, fresh_dens, zbp.1 fresh_img⟩
end Go.Proofs.YtbbmljakfbhnpaaGreatDoor

namespace Go.Proofs.YtbbmljakfbhnpaaGreatDoor
open Go.RowKit

/-- The words behind the page's own steps. -/
def wrW (ls : List Int) (ns : List Ino) (x : Int) : List Int := if 0 ≤ fpI ns then ls.set (312 + fpI ns).toNat x else ls
theorem wr_runs (ls : List Int) (ns : List Ino) (x : Int) : zmh (ls, []) (wrS ns x) = (wrW ls ns x, []) := by
 unfold wrS wrW
 by_cases c : 0 ≤ fpI ns
 ·rw [if_pos c, if_pos c]
  exact zht [up (312 + fpI ns) x] ls
 ·rw [if_neg c, if_neg c]
  rfl
theorem wrW_len (ls : List Int) (ns : List Ino) (x : Int) : (wrW ls ns x).length = ls.length := by
 unfold wrW
 split
 ·rw [List.length_set]
 ·rfl
theorem wrW_at {ls : List Int} {ns : List Ino} {x : Int} (hl : ls.length = 336) {z : Int} (hz : 0 ≤ z ∧ z < 312) : wdI (wrW ls ns x) z = wdI ls z := by
 unfold wrW
 by_cases c : 0 ≤ fpI ns
 ·rw [if_pos c]
  obtain ⟨k, hk, e, -⟩ := zcu c
  have e' : fpI ns = (k : Int) := e
  rw [zdo (by omega) (by rw [e']; omega) (by omega), if_neg (by omega)]
 ·rw [if_neg c]
/-- A write that is told: its steps run, and the words behind them say the image with the page. -/
theorem wi_steps {ls : List Int} {ns : List Ino} {ds : List Den} (h : Wi ls ns ds) (c0 : wdI ls 8 = 0) {s : ByteArray} {page x : Int} {l : List Mi} (e : wrI ns ds s page x = (l, 0)) :
  ∃ i p : Nat, ∃ ls', i < 16 ∧ p < 8 ∧ (flI ns ds s).1 = (i : Int) ∧ page = (p : Int) ∧ zmh (ls, []) l = (ls', []) ∧ wdI ls' 8 = 0 ∧ Wi ls' (ns.set i (inoM (zal ns i).kind (if (p : Int) < (zal ns i).size then (zal ns i).size else (p : Int) + 1) (zal ns i).links ((zal ns i).map.set p (wrE ns)))) ds := by
 unfold wrI at e
 by_cases c : (flI ns ds s).2 = 0
 ·rw [if_pos c] at e
  obtain ⟨i, hi, ei, k⟩ := zfn h.img c
  rw [ei] at e
  unfold wrF at e
  by_cases d : (0 ≤ page ∧ page < 8) ∧ zbb x = true
  ·rw [if_pos d] at e
   by_cases f : fpI ns < 0 ∧ fsI ns < 0
   ·rw [if_pos f] at e
    simp at e
   ·rw [if_neg f] at e
    obtain ⟨p, rfl⟩ : ∃ p : Nat, page = (p : Int) := ⟨page.toNat, by omega⟩
    have hp : p < 8 := by omega
    obtain ⟨te, he, new⟩ := wrE_new f
    have l1 : (wrW ls ns x).length = 336 := by rw [wrW_len]; exact h.len
    have h1 : Wi (wrW ls ns x) ns ds := zqk h l1 (fun z hz => wrW_at h.len (by omega))
    have q := zrk h1 hi k hp te he new
    have c1 : wdI (wrW ls ns x) 8 = 0 := by rw [wrW_at h.len (by omega)]; exact c0
    have sz : zdi ns (i : Int) = (zal ns i).size := by unfold zdi; rw [Int.toNat_natCast]
    rw [sz] at e
    obtain ⟨rfl, -⟩ := Prod.mk.inj e
    refine ⟨i, p, zna (wrW ls ns x) (wrU (i : Int) (p : Int) (zal ns i).size (wrE ns)), hi, hp, ei, rfl, ?_, znh l1 c1, wi_plan l1 ?_ q.1 q.2⟩
    ·rw [zdd, wr_runs, zsy]
    ·unfold wrU
     split <;> simp
  ·rw [if_neg d] at e
   simp at e
 ·rw [if_neg c] at e
  exact absurd (Prod.mk.inj e).2 c
end Go.Proofs.YtbbmljakfbhnpaaGreatDoor

namespace Go.Proofs.YtbbmljakfbhnpaaGreatDoor
open Go.RowKit

theorem zqp {i : Nat} (hi : i < 16) {f : Int} (hf : 0 ≤ f ∧ f < 11) (x : Int) : UpIn [⟨48 + 12 * (i : Int) + f, x⟩] := fun u hu => by
 rw [List.mem_singleton.1 hu]
 exact ⟨by show 48 ≤ 48 + 12 * (i : Int) + f; omega, by show 48 + 12 * (i : Int) + f < 312; omega⟩
theorem mk_in {ws : List Ino} {ps : List Den} {s : ByteArray} {kind : Int} {us : List Se} (h : Img ws ps) (e : mkI ws ps s kind = (us, 0)) : UpIn us ∧ us.length ≤ 16 := by
 unfold mkI at e
 by_cases c : (paI ws ps s).2.2 = 0
 ·rw [if_pos c] at e
  unfold mkN at e
  split at e
  ·simp at e
  ·split at e
   ·simp at e
   ·rename_i f1
    split at e
    ·simp at e
    ·rename_i f2
     obtain ⟨rfl, -⟩ := Prod.mk.inj e
     obtain ⟨i, ei, hi, -⟩ := zvm h f1
     obtain ⟨k, ek, hk, -⟩ := zqh h f2
     rw [ei, ek]
     unfold mkU
     refine ⟨UpIn.app (fun u hu => ?_) (zkc hk _), by simp [enL]⟩
     rcases List.mem_cons.1 hu with rfl | hu
     ·exact ⟨by show 48 ≤ 48 + 12 * (i : Int); omega, by show 48 + 12 * (i : Int) < 312; omega⟩
     ·exact zqp hi (by omega) 1 u hu
 ·rw [if_neg c] at e
  exact absurd (Prod.mk.inj e).2 c
theorem wrL_in {i : Nat} (hi : i < 16) (x : Ino) {k : Nat} (hk : k ≤ 8) : UpIn (wrL (i : Int) x k) := by
 unfold wrL
 refine UpIn.app (fun u hu => ?_) (fun u hu => ?_)
 ·simp only [List.mem_cons, List.not_mem_nil, or_false] at hu
  rcases hu with rfl | rfl | rfl
  ·exact ⟨by show 48 ≤ 48 + 12 * (i : Int); omega, by show 48 + 12 * (i : Int) < 312; omega⟩
  ·exact ⟨by show 48 ≤ 48 + 12 * (i : Int) + 1; omega, by show 48 + 12 * (i : Int) + 1 < 312; omega⟩
  ·exact ⟨by show 48 ≤ 48 + 12 * (i : Int) + 2; omega, by show 48 + 12 * (i : Int) + 2 < 312; omega⟩
 ·obtain ⟨j, hj, rfl⟩ := List.mem_map.1 hu
  have := List.mem_range.1 hj
  exact ⟨by show 48 ≤ 48 + 12 * (i : Int) + (3 + (j : Int)); omega, by show 48 + 12 * (i : Int) + (3 + (j : Int)) < 312; omega⟩
theorem rm_in {ws : List Ino} {ps : List Den} {s : ByteArray} {us : List Se} (h : Img ws ps) (e : rmI ws ps s = (us, 0)) : UpIn us ∧ us.length ≤ 16 := by
 unfold rmI at e
 by_cases c : (paI ws ps s).2.2 = 0
 ·rw [if_pos c] at e
  unfold rmN at e
  cases q : zbz ps (paI ws ps s).1 (paI ws ps s).2.1 with
  | none => rw [q] at e; simp at e
  | some k =>
   rw [q] at e
   simp only at e
   obtain ⟨hk, i, ei, _, hi, -⟩ := zkp h q
   unfold rmC at e
   split at e
   ·simp at e
   ·obtain ⟨rfl, -⟩ := Prod.mk.inj e
    rw [ei]
    unfold rmU
    split
    ·exact ⟨UpIn.app (zkc hk _) (zqp hi (by omega) _), by simp [enL]⟩
    ·exact ⟨UpIn.app (zkc hk _) (wrL_in hi _ (Nat.le_refl _)), by rw [List.length_append, zob]; simp [enL]⟩
 ·rw [if_neg c] at e
  exact absurd (Prod.mk.inj e).2 c
theorem ln_in {ws : List Ino} {ps : List Den} {s t : ByteArray} {us : List Se} (h : Img ws ps) (e : lnI ws ps s t = (us, 0)) : UpIn us ∧ us.length ≤ 16 := by
 unfold lnI at e
 by_cases c0 : (lkI ws ps s).2 = 0
 ·rw [if_pos c0] at e
  split at e
  ·simp at e
  ·rename_i kk
   obtain ⟨i, ei, hi, _, _⟩ := zle h c0 kk
   unfold lnP at e
   by_cases c : (paI ws ps t).2.2 = 0
   ·rw [if_pos c] at e
    unfold lnN at e
    split at e
    ·simp at e
    ·split at e
     ·simp at e
     ·rename_i f2
      obtain ⟨rfl, -⟩ := Prod.mk.inj e
      obtain ⟨k, ek, hk, -⟩ := zqh h f2
      rw [ei, ek]
      exact ⟨UpIn.app (zkc hk _) (zqp hi (by omega) _), by simp [enL]⟩
   ·rw [if_neg c] at e
    exact absurd (Prod.mk.inj e).2 c
 ·rw [if_neg c0] at e
  exact absurd (Prod.mk.inj e).2 c0
theorem rn_in {ws : List Ino} {ps : List Den} {s t : ByteArray} {us : List Se} (h : Img ws ps) (e : rnI ws ps s t = (us, 0)) : UpIn us ∧ us.length ≤ 16 := by
 unfold rnI at e
 by_cases c : (paI ws ps s).2.2 = 0
 ·rw [if_pos c] at e
  unfold rnE at e
  cases q : zbz ps (paI ws ps s).1 (paI ws ps s).2.1 with
  | none => rw [q] at e; simp at e
  | some k =>
   rw [q] at e
   simp only at e
   obtain ⟨hk, -⟩ := zkp h q
   unfold rnP at e
   by_cases d : (paI ws ps t).2.2 = 0
   ·rw [if_pos d] at e
    unfold rnN at e
    split at e
    ·simp at e
    ·split at e
     ·simp at e
     ·obtain ⟨rfl, -⟩ := Prod.mk.inj e
      exact ⟨zkc hk _, by simp [enL]⟩
   ·rw [if_neg d] at e
    exact absurd (Prod.mk.inj e).2 d
 ·rw [if_neg c] at e
  exact absurd (Prod.mk.inj e).2 c
/-- An operation on names or sizes that is told: its steps run, and the words behind them say a right image. -/
theorem wi_names {ls : List Int} {ns : List Ino} {ds : List Den} (h : Wi ls ns ds) (c0 : wdI ls 8 = 0) {us : List Se} (ui : UpIn us ∧ us.length ≤ 16) {ns' : List Ino} {ds' : List Den} (q : Wi (zbx ls us) ns' ds') :
  ∃ ls', zmh (ls, []) (zdg (zdn us)) = (ls', []) ∧ wdI ls' 8 = 0 ∧ Wi ls' ns' ds' :=
 ⟨zna ls us, zsy ls us, znh h.len c0, wi_plan h.len ui.2 ui.1 q⟩
end Go.Proofs.YtbbmljakfbhnpaaGreatDoor

namespace Go.Proofs.YtbbmljakfbhnpaaGreatDoor
open Go.RowKit

/-- Updates to words. -/
def Wv (us : List Se) : Prop := ∀ u ∈ us, 0 ≤ u.val ∧ u.val < 1099511627776
theorem Wv.app {us vs : List Se} (h : Wv us) (k : Wv vs) : Wv (us ++ vs) := fun u hu => by
 rcases List.mem_append.1 hu with q | q
 ·exact h u q
 ·exact k u q
theorem Wv.one {a x : Int} (h : 0 ≤ x ∧ x < 1099511627776) : Wv [⟨a, x⟩] := fun u hu => by
 rw [List.mem_singleton.1 hu]
 exact h
theorem Wv.cons {a x : Int} {us : List Se} (h : 0 ≤ x ∧ x < 1099511627776) (k : Wv us) : Wv (⟨a, x⟩ :: us) := fun u hu => by
 rcases List.mem_cons.1 hu with rfl | q
 ·exact h
 ·exact k u q
theorem enL_wv {k : Int} {x : Den} (hd : 0 ≤ x.dir ∧ x.dir ≤ 15) (hn : nmB x.name = true ∨ x.name.size = 0) (hc : -1 ≤ x.child ∧ x.child ≤ 15) : Wv (enL k x) := by
 unfold enL
 refine Wv.cons (by omega) (Wv.cons ?_ (Wv.one (by omega)))
 rcases hn with q | q
 ·have := pk_lt (s := x.name) (k := x.name.size) (fun j hj _ => (zey q).2.2 j hj) (zey q).2.1
  omega
 ·rw [pk_none q]
  omega
theorem zero_wv {i : Int} : Wv (wrL i zgq 8) := fun u hu => by
 unfold wrL at hu
 rcases List.mem_append.1 hu with q | q
 ·simp only [List.mem_cons, List.not_mem_nil, or_false] at q
  rcases q with rfl | rfl | rfl
  all_goals exact ⟨Int.le_refl 0, show (0 : Int) < 1099511627776 by decide⟩
 ·obtain ⟨j, hj, rfl⟩ := List.mem_map.1 q
  have hj8 := List.mem_range.1 hj
  have e : zgq.map.getD j 0 = 0 := by
   rcases (show j = 0 ∨ j = 1 ∨ j = 2 ∨ j = 3 ∨ j = 4 ∨ j = 5 ∨ j = 6 ∨ j = 7 by omega) with rfl | rfl | rfl | rfl | rfl | rfl | rfl | rfl <;> rfl
  exact ⟨by show 0 ≤ zgq.map.getD j 0; rw [e]; omega, by show zgq.map.getD j 0 < 1099511627776; rw [e]; omega⟩
theorem mk_wv {ws : List Ino} {ps : List Den} {s : ByteArray} {kind : Int} {us : List Se} (h : Img ws ps) (hk : 1 ≤ kind ∧ kind ≤ 2) (e : mkI ws ps s kind = (us, 0)) : Wv us := by
 unfold mkI at e
 by_cases c : (paI ws ps s).2.2 = 0
 ·rw [if_pos c] at e
  obtain ⟨p1, -, p3⟩ := ziw (zbp.2 h) c
  unfold mkN at e
  split at e
  ·simp at e
  ·split at e
   ·simp at e
   ·rename_i f1
    split at e
    ·simp at e
    ·obtain ⟨rfl, -⟩ := Prod.mk.inj e
     obtain ⟨i, ei, hi, -⟩ := zvm h f1
     rw [ei]
     unfold mkU
     exact Wv.app (Wv.cons (by omega) (Wv.one (by omega))) (enL_wv p1 (.inl p3) (by show -1 ≤ (i : Int) ∧ (i : Int) ≤ 15; omega))
 ·rw [if_neg c] at e
  exact absurd (Prod.mk.inj e).2 c
theorem link_le {ws : List Ino} {ps : List Den} (h : Img ws ps) {i : Nat} (hi : i < 16) : 0 ≤ zed ws (i : Int) ∧ zed ws (i : Int) ≤ 24 := (zcj (h.ok i hi)).2.2.1
theorem rm_wv {ws : List Ino} {ps : List Den} {s : ByteArray} {us : List Se} (h : Img ws ps) (e : rmI ws ps s = (us, 0)) : Wv us := by
 unfold rmI at e
 by_cases c : (paI ws ps s).2.2 = 0
 ·rw [if_pos c] at e
  unfold rmN at e
  cases q : zbz ps (paI ws ps s).1 (paI ws ps s).2.1 with
  | none => rw [q] at e; simp at e
  | some k =>
   rw [q] at e
   simp only at e
   obtain ⟨hk, i, ei, _, hi, -⟩ := zkp h q
   unfold rmC at e
   split at e
   ·simp at e
   ·obtain ⟨rfl, -⟩ := Prod.mk.inj e
    have l := link_le h hi
    rw [ei]
    unfold rmU
    have f : Wv (enL (k : Int) freeD) := enL_wv (by decide) (.inr rfl) (by decide)
    split
    ·exact Wv.app f (Wv.one (by omega))
    ·exact Wv.app f zero_wv
 ·rw [if_neg c] at e
  exact absurd (Prod.mk.inj e).2 c
theorem ln_wv {ws : List Ino} {ps : List Den} {s t : ByteArray} {us : List Se} (h : Img ws ps) (e : lnI ws ps s t = (us, 0)) : Wv us := by
 unfold lnI at e
 by_cases c0 : (lkI ws ps s).2 = 0
 ·rw [if_pos c0] at e
  split at e
  ·simp at e
  ·rename_i kk
   obtain ⟨i, ei, hi, _, _⟩ := zle h c0 kk
   unfold lnP at e
   by_cases c : (paI ws ps t).2.2 = 0
   ·rw [if_pos c] at e
    obtain ⟨p1, -, p3⟩ := ziw (zbp.2 h) c
    unfold lnN at e
    split at e
    ·simp at e
    ·split at e
     ·simp at e
     ·obtain ⟨rfl, -⟩ := Prod.mk.inj e
      have l := link_le h hi
      rw [ei]
      exact Wv.app (enL_wv p1 (.inl p3) (by show -1 ≤ (i : Int) ∧ (i : Int) ≤ 15; omega)) (Wv.one (by omega))
   ·rw [if_neg c] at e
    exact absurd (Prod.mk.inj e).2 c
 ·rw [if_neg c0] at e
  exact absurd (Prod.mk.inj e).2 c0
theorem rn_wv {ws : List Ino} {ps : List Den} {s t : ByteArray} {us : List Se} (h : Img ws ps) (e : rnI ws ps s t = (us, 0)) : Wv us := by
 unfold rnI at e
 by_cases c : (paI ws ps s).2.2 = 0
 ·rw [if_pos c] at e
  unfold rnE at e
  cases q : zbz ps (paI ws ps s).1 (paI ws ps s).2.1 with
  | none => rw [q] at e; simp at e
  | some k =>
   rw [q] at e
   simp only at e
   obtain ⟨hk, i, ei, _, hi, -⟩ := zkp h q
   unfold rnP at e
   by_cases d : (paI ws ps t).2.2 = 0
   ·rw [if_pos d] at e
    obtain ⟨p1, -, p3⟩ := ziw (zbp.2 h) d
    unfold rnN at e
    split at e
    ·simp at e
    ·split at e
     ·simp at e
     ·obtain ⟨rfl, -⟩ := Prod.mk.inj e
      rw [ei]
      exact enL_wv p1 (.inl p3) (by show -1 ≤ (i : Int) ∧ (i : Int) ≤ 15; omega)
   ·rw [if_neg d] at e
    exact absurd (Prod.mk.inj e).2 d
 ·rw [if_neg c] at e
  exact absurd (Prod.mk.inj e).2 c
theorem cu_all {ns : List Ino} {ds : List Den} {s : ByteArray} {g : Int} {us : List Se} (h : Img ns ds) (e : cuI ns ds s g = (us, 0)) : UpIn us ∧ us.length ≤ 16 ∧ Wv us := by
 unfold cuI at e
 by_cases c : (flI ns ds s).2 = 0
 ·rw [if_pos c] at e
  obtain ⟨i, hi, ei, -⟩ := zfn h c
  rw [ei] at e
  unfold cuF at e
  split at e
  ·rename_i d
   obtain ⟨rfl, -⟩ := Prod.mk.inj e
   have l := zvn (zal ns ((i : Nat) : Int).toNat).map (i : Int) g.toNat 8
   unfold cuU
   refine ⟨fun u hu => ?_, by show (cuT _ _ _ _).length + 1 ≤ 16; omega, Wv.cons (by omega) (fun u hu => ?_)⟩
   ·rcases List.mem_cons.1 hu with rfl | q
    ·exact ⟨by show 48 ≤ 48 + 12 * (i : Int) + 1; omega, by show 48 + 12 * (i : Int) + 1 < 312; omega⟩
    ·exact cuT_in hi (Nat.le_refl 8) u q
   ·unfold cuT at hu
    obtain ⟨j, -, rfl⟩ := List.mem_map.1 hu
    exact ⟨Int.le_refl 0, show (0 : Int) < 1099511627776 by decide⟩
  ·simp at e
 ·rw [if_neg c] at e
  exact absurd (Prod.mk.inj e).2 c
/-- Where nothing is told nothing is updated. -/
theorem mk_no {ws : List Ino} {ps : List Den} {s : ByteArray} {kind : Int} : ¬ (mkI ws ps s kind).2 = 0 → (mkI ws ps s kind).1 = [] := by
 unfold mkI mkN
 repeat' split
 all_goals simp
theorem rm_no {ws : List Ino} {ps : List Den} {s : ByteArray} : ¬ (rmI ws ps s).2 = 0 → (rmI ws ps s).1 = [] := by
 unfold rmI rmN rmC
 repeat' split
 all_goals simp
theorem ln_no {ws : List Ino} {ps : List Den} {s t : ByteArray} : ¬ (lnI ws ps s t).2 = 0 → (lnI ws ps s t).1 = [] := by
 unfold lnI lnP lnN
 repeat' split
 all_goals simp
theorem rn_no {ws : List Ino} {ps : List Den} {s t : ByteArray} : ¬ (rnI ws ps s t).2 = 0 → (rnI ws ps s t).1 = [] := by
 unfold rnI rnE rnP rnN
 repeat' split
 all_goals simp
theorem cu_no {ns : List Ino} {ds : List Den} {s : ByteArray} {g : Int} : ¬ (cuI ns ds s g).2 = 0 → (cuI ns ds s g).1 = [] := by
 unfold cuI cuF
 repeat' split
 all_goals simp
theorem uo_no {ns : List Ino} {ds : List Den} {k : Int} {p t : ByteArray} {g : Int} : ¬ (uoI ns ds k p t g).2 = 0 → (uoI ns ds k p t g).1 = [] := by
 unfold uoI
 split
 ·exact mk_no
 split
 ·exact mk_no
 split
 ·exact rm_no
 split
 ·exact ln_no
 split
 ·exact rn_no
 ·exact cu_no
theorem uo_yes {ns : List Ino} {ds : List Den} {k : Int} {p t : ByteArray} {g : Int} (h : Img ns ds) (c : (uoI ns ds k p t g).2 = 0) : UpIn (uoI ns ds k p t g).1 ∧ (uoI ns ds k p t g).1.length ≤ 16 ∧ Wv (uoI ns ds k p t g).1 := by
 have E : ∀ r : List Se × Int, r.2 = 0 → r = (r.1, 0) := fun r q => by rw [← q]
 revert c
 unfold uoI
 by_cases c1 : k = 1
 ·rw [if_pos c1]
  exact fun c => ⟨(mk_in h (E _ c)).1, (mk_in h (E _ c)).2, mk_wv h ⟨by decide, by decide⟩ (E _ c)⟩
 rw [if_neg c1]
 by_cases c2 : k = 2
 ·rw [if_pos c2]
  exact fun c => ⟨(mk_in h (E _ c)).1, (mk_in h (E _ c)).2, mk_wv h ⟨by decide, by decide⟩ (E _ c)⟩
 rw [if_neg c2]
 by_cases c3 : k = 3
 ·rw [if_pos c3]
  exact fun c => ⟨(rm_in h (E _ c)).1, (rm_in h (E _ c)).2, rm_wv h (E _ c)⟩
 rw [if_neg c3]
 by_cases c4 : k = 4
 ·rw [if_pos c4]
  exact fun c => ⟨(ln_in h (E _ c)).1, (ln_in h (E _ c)).2, ln_wv h (E _ c)⟩
 rw [if_neg c4]
 by_cases c5 : k = 5
 ·rw [if_pos c5]
  exact fun c => ⟨(rn_in h (E _ c)).1, (rn_in h (E _ c)).2, rn_wv h (E _ c)⟩
 rw [if_neg c5]
 exact fun c => cu_all h (E _ c)
/-- For the model's plan. -/
theorem uo_at {ns : List Ino} {ds : List Den} {k : Int} {p t : ByteArray} {g : Int} (h : Img ns ds) : (uoI ns ds k p t g).1.length ≤ 64 ∧ ∀ j (q : j < (uoI ns ds k p t g).1.length), 0 ≤ (uoI ns ds k p t g).1[j].at_ ∧ (uoI ns ds k p t g).1[j].at_ < 336 := by
 by_cases c : (uoI ns ds k p t g).2 = 0
 ·obtain ⟨a, b, -⟩ := uo_yes h c
  refine ⟨by omega, fun j q => ?_⟩
  have := a _ (List.getElem_mem q)
  omega
 ·have e := uo_no c
  exact ⟨by rw [e]; simp, fun j q => by rw [e] at q; cases q⟩
end Go.Proofs.YtbbmljakfbhnpaaGreatDoor

namespace Go.Proofs.YtbbmljakfbhnpaaGreatDoor
open Go.RowKit

/-- Heat that is right; heat of a fresh file system; all halved. -/
def zhg (hs : List Int) : Bool := decide (hs.length = 128 ∧ ∀ k (h : k < hs.length), 0 ≤ hs[k] ∧ hs[k] ≤ 64)
def zru (n : Nat) : List Int := List.replicate n 1
theorem newH_succ (n : Nat) : zru (n + 1) = zru n ++ [1] := by unfold zru; rw [List.replicate_succ', ]
theorem zqs (n : Nat) : (zru n).length = n := by simp [zru]
set_option maxRecDepth 100000 in
set_option maxHeartbeats 4000000 in
theorem l09New_any (w : World) : Calls Tryz.prog 155 #[] w fun e w' => ∃ v', e = .returned v' ∧ Row w' 3 1 w.heap.size w'.heap.size v' (zru 128).length (zco (zru 128)) ∧ Below w.heap.size w w' := by
 have START : Hid (InI w (w.alloc (.cells #[] 3)) (.slice (some ⟨w.heap.size, 0, none⟩) 0 0) (zru 0)) := ⟨World.ownsRow_lit w #[] 0 (Nat.le_refl _) (by simp [maxLen]) (by simp), (Below.refl _ _).alloc (Nat.le_refl _) _⟩
 go_enter Tryz.func155, Tryz.ntmps155
 go_wp2
 go_loopw [1, 2] (fun vL i wr => ∃ m : Nat, m ≤ 128 ∧ i = .int .i64 (m : Int) ∧ Hid (InI w wr vL (zru m))) (fun _ i _ => 128 - (intOf i).toNat)
 case atStart => exact ⟨0, by omega, rfl, START⟩
 case round =>
  obtain ⟨m, hm, rfl, J⟩ := hrel
  clear START
  have m0 : (0 : Int) ≤ (m : Int) := by omega
  by_cases hlt : m < 128
  ·have m1 : (m : Int) < 128 := by omega
   have EM := zaa (newH_succ m)
   have l2 : (zru m).length ≤ 128 := by rw [zqs]; omega
   have JB : Hid (InI w (wr.alloc (.cells #[.int .i64 1] 3)) u1 (zru m)) := J.out.below ((Below.refl _ _).alloc (Nat.le_refl _) _)
   have RB := zaa (rd_int wr 1)
   have hzb := JB.out.z
   clear J
   go_wp2_with (at_builtin; refine zae _ rfl (.tmp 8) (.tmp 9) 28 rfl w.heap.size 3 (.int .i64 0) 1 8 Tryz.underlying28 zjk rfl (by decide) _ _ _ rfl JB.out.l _ 1 _ rfl RB.out (zwf _) (by first | omega | (simp [maxLen]; omega)) (by first | omega | (simp; omega)) hzb ?_)
   intro vN wN hownN hgrN
   have G := zaa (JB.out.grow 1 hownN hgrN)
   rw [← EM.out] at G
   clear hownN hgrN JB RB
   go_wp2
   go_roundw
   case rel => exact ⟨m + 1, by omega, by go_num, G⟩
   case measure => simp [intOf]; omega
  ·obtain rfl : m = 128 := by omega
   obtain ⟨-, aN, cN, hvN, -⟩ := (zac J.out.l).rd
   subst hvN
   go_wp2
   go_ret
   exact ⟨_, rfl, zac J.out.l, J.out.b⟩
end Go.Proofs.YtbbmljakfbhnpaaGreatDoor

namespace Go.Proofs.YtbbmljakfbhnpaaGreatDoor
open Go.RowKit

/-- The entry of a page, counted through all inodes. -/
def pgE (ns : List Ino) (i : Nat) : Int := (zal ns (i / 8)).map.getD (i % 8) 0
/-- The page that is picked among the first ones; -1 without any. -/
def pkS (ns : List Ino) (hs : List Int) (t : Int) (hot : Bool) (b : Int) (i : Nat) : Int := if pgE ns i = 0 ∨ ¬ pgE ns i % 4 = t then b else if b < 0 ∨ (hot = true ∧ hs.getD b.toNat 0 < hs.getD i 0) ∨ (hot = false ∧ hs.getD i 0 < hs.getD b.toNat 0) then (i : Int) else b
def pkN (ns : List Ino) (hs : List Int) (t : Int) (hot : Bool) : Nat → Int
 | 0 => -1
 | n + 1 => pkS ns hs t hot (pkN ns hs t hot n) n
theorem zsk (ns : List Ino) (hs : List Int) (t : Int) (hot : Bool) (n : Nat) : -1 ≤ pkN ns hs t hot n ∧ pkN ns hs t hot n < (n : Int) := by
 induction n with
 | zero => exact ⟨Int.le_refl (-1), show (-1 : Int) < 0 by decide⟩
 | succ n ih =>
  have e : pkN ns hs t hot (n + 1) = pkS ns hs t hot (pkN ns hs t hot n) n := rfl
  rw [e]
  unfold pkS
  split
  ·omega
  ·split <;> omega
theorem tie_at {ns : List Ino} {ds : List Den} (h : zfm ns ds = true) {k : Nat} (hk : k < 16) (j : Nat) : zdz ((zal ns k).map.getD j 0) = true := by
 have t := (zez ((zbp.1 h).ok k hk)).1
 rw [List.getD_eq_getElem?_getD]
 rcases Nat.lt_or_ge j (zal ns k).map.length with q | q
 ·rw [List.getElem?_eq_getElem q]
  exact t _ (List.getElem_mem q)
 ·rw [List.getElem?_eq_none q]
  exact zul
end Go.Proofs.YtbbmljakfbhnpaaGreatDoor
