/- Several texts laid together: MiS, JrD, JrM, MiL, JrF, JrP, JrQ. -/
import Derived.Test.YtpakbbdlhlkogaaGreatDoorZAD
import Derived.Test.YtpakbbdlhlkogaaGreatDoorZAA
import Derived.Test.YtpakbbdlhlkogaaGreatDoorZAC
import Derived.Test.YtpakbbdlhlkogaaGreatDoorZAR
import Derived.Test.YtpakbbdlhlkogaaGreatDoorZAP
import Derived.Test.YtpakbbdlhlkogaaGreatDoorZAS
import Derived.Test.YtpakbbdlhlkogaaGreatDoorZAO
import Derived.Deep.RegionWith
import Derived.BigRegion
import Derived.Deep.DeepCutAuto
import Derived.BigQuiet
import Derived.Deep.QuietTactic
import Derived.Test.YtpakbbdlhlkogaaGreatDoorZAB
import Derived.Deep.RegionHeld3
namespace Go.Proofs.YtpakbbdlhlkogaaGreatDoor
open Go.RowKit
structure Mi where
 kind : Int
 at_ : Int
 val : Int
def Mi.v (m : Mi) : Value := .agg #[.int .i64 m.kind, .int .i64 m.at_, .int .i64 m.val]
def miB (m : Mi) : Bool := decide ((m.kind = 1 ∧ (0 ≤ m.at_ ∧ m.at_ < 336) ∧ 0 ≤ m.val ∧ m.val < 1099511627776) ∨ (m.kind = 2 ∧ (0 ≤ m.at_ ∧ m.at_ < 336) ∧ m.val = 0) ∨ (m.kind = 4 ∧ (0 ≤ m.at_ ∧ m.at_ < 32) ∧ 0 ≤ m.val ∧ m.val < 1099511627776) ∨ ((m.kind = 3 ∨ m.kind = 5) ∧ m.at_ = 0 ∧ m.val = 0))
theorem yasm {m : Mi} : miB m = true ↔ ((m.kind = 1 ∧ (0 ≤ m.at_ ∧ m.at_ < 336) ∧ 0 ≤ m.val ∧ m.val < 1099511627776) ∨ (m.kind = 2 ∧ (0 ≤ m.at_ ∧ m.at_ < 336) ∧ m.val = 0) ∨ (m.kind = 4 ∧ (0 ≤ m.at_ ∧ m.at_ < 32) ∧ 0 ≤ m.val ∧ m.val < 1099511627776) ∨ ((m.kind = 3 ∨ m.kind = 5) ∧ m.at_ = 0 ∧ m.val = 0)) := by unfold miB; exact decide_eq_true_iff
theorem zln (k a v : Int) : miB ⟨k, a, v⟩ = true ↔ ((k = 1 ∧ (0 ≤ a ∧ a < 336) ∧ 0 ≤ v ∧ v < 1099511627776) ∨ (k = 2 ∧ (0 ≤ a ∧ a < 336) ∧ v = 0) ∨ (k = 4 ∧ (0 ≤ a ∧ a < 32) ∧ 0 ≤ v ∧ v < 1099511627776) ∨ ((k = 3 ∨ k = 5) ∧ a = 0 ∧ v = 0)) := yasm
end Go.Proofs.YtpakbbdlhlkogaaGreatDoor

namespace Go.Proofs.YtpakbbdlhlkogaaGreatDoor
def up (a v : Int) : St := ⟨a, v, false⟩
def stM (p : St) : Mi := ⟨1, p.at_, p.val⟩
def yaez (ks : List Int) (i : Nat) : Bool := (List.range i).any (fun k => ks[k]?.getD 0 / 8 == ks[i]?.getD 0 / 8)
def nl (ks : List Int) : Nat → List Mi
 | 0 => []
 | i + 1 => if yaez ks i = true then nl ks i else nl ks i ++ [⟨2, ks[i]?.getD 0, 0⟩]
def zbm (ks : List Int) : List Mi := nl ks ks.length ++ [⟨3, 0, 0⟩]
def seg (S : List St) : List Mi := S.map stM ++ zbm (S.map (·.at_))
def jrn : Nat → List St → List St
 | _, [] => []
 | i, u :: us => ⟨9 + 2 * (i : Int), u.at_, false⟩ :: ⟨9 + 2 * (i : Int) + 1, u.val, false⟩ :: jrn (i + 1) us
def cnt (n : Int) : List St := [⟨8, n, false⟩]
def ziq (us : List St) : List Mi := seg us ++ seg (cnt 0)
def zdu (us : List St) : List Mi := if us.length = 0 then [] else seg (jrn 0 us) ++ seg (cnt (us.length : Int)) ++ ziq us
end Go.Proofs.YtpakbbdlhlkogaaGreatDoor

namespace Go.Proofs.YtpakbbdlhlkogaaGreatDoor
def zrm (s : List Int × List St) (m : Mi) : List Int × List St :=
 if m.kind = 1 then (s.1, s.2 ++ [⟨m.at_, m.val, false⟩]) else if m.kind = 2 then (s.1, s.2.map (fl1 m.at_)) else if m.kind = 3 then (znl s.1 s.2, zly s.2) else s
def znw (s : List Int × List St) (l : List Mi) : List Int × List St := l.foldl zrm s
theorem yamh (s : List Int × List St) : znw s [] = s := rfl
theorem zki (s : List Int × List St) (m : Mi) (l : List Mi) : znw s (m :: l) = znw (zrm s m) l := rfl
theorem zdm (s : List Int × List St) (l l' : List Mi) : znw s (l ++ l') = znw (znw s l) l' := by simp [znw]
theorem zxm (s : List Int × List St) (p : St) : zrm s (stM p) = (s.1, s.2 ++ [⟨p.at_, p.val, false⟩]) := if_pos rfl
theorem zwx (s : List Int × List St) (a : Int) : zrm s ⟨2, a, 0⟩ = (s.1, s.2.map (fl1 a)) := by
 unfold zrm
 rw [if_neg (show ¬ (2 : Int) = 1 by decide), if_pos rfl]
theorem zye (s : List Int × List St) : zrm s ⟨3, 0, 0⟩ = (znl s.1 s.2, zly s.2) := by
 unfold zrm
 rw [if_neg (by decide), if_neg (by decide), if_pos rfl]
theorem zrd (ks : List Int) : ∀ i, ∀ m ∈ nl ks i, m = ⟨2, m.at_, 0⟩
 | 0, m, h => by cases h
 | i + 1, m, h => by
  rw [nl] at h
  split at h
  ·exact zrd ks i m h
  ·rcases List.mem_append.1 h with h | h
   ·exact zrd ks i m h
   ·rw [List.mem_singleton.1 h]
theorem yagk (ks : List Int) : ∀ i k, k < i → ∃ m ∈ nl ks i, m.at_ / 8 = ks[k]?.getD 0 / 8
 | 0, k, h => absurd h (by omega)
 | i + 1, k, h => by
  rw [nl]
  by_cases e : k < i
  ·obtain ⟨m, hm, e⟩ := yagk ks i k e
   split
   ·exact ⟨m, hm, e⟩
   ·exact ⟨m, List.mem_append_left _ hm, e⟩
  ·obtain rfl : k = i := by omega
   split
   ·rename_i hk
    simp only [yaez, List.any_eq_true, List.mem_range, beq_iff_eq] at hk
    obtain ⟨j, hj, e⟩ := hk
    obtain ⟨m, hm, e2⟩ := yagk ks k j hj
    exact ⟨m, hm, e2.trans e⟩
   ·exact ⟨_, List.mem_append_right _ (List.mem_singleton.2 rfl), rfl⟩
theorem zpm : ∀ (l : List Mi) (s : List Int × List St), (∀ m ∈ l, m = ⟨2, m.at_, 0⟩) → ∃ g : St → St, znw s l = (s.1, s.2.map g) ∧ (∀ p, (g p).at_ = p.at_ ∧ (g p).val = p.val ∧ (p.fl = true → (g p).fl = true)) ∧ ∀ p, (∃ m ∈ l, m.at_ / 8 = p.at_ / 8) → (g p).fl = true
 | [], s, _ => ⟨id, by simp [znw], fun p => ⟨rfl, rfl, id⟩, fun p h => by obtain ⟨m, hm, _⟩ := h; cases hm⟩
 | m :: l, s, h => by
  have hm := h m (by simp)
  obtain ⟨g, e, h1, h2⟩ := zpm l (s.1, s.2.map (fl1 m.at_)) (fun x hx => h x (by simp [hx]))
  have hf : ∀ p : St, (fl1 m.at_ p).at_ = p.at_ ∧ (fl1 m.at_ p).val = p.val ∧ (p.fl = true → (fl1 m.at_ p).fl = true) := fun p => by
   unfold fl1
   split
   ·exact ⟨rfl, rfl, fun _ => rfl⟩
   ·exact ⟨rfl, rfl, id⟩
  refine ⟨fun p => g (fl1 m.at_ p), ?_, fun p => ?_, fun p hp => ?_⟩
  ·rw [zki, hm, zwx]
   show znw (s.1, s.2.map (fl1 m.at_)) l = _
   rw [e, List.map_map]
   rfl
  ·have a := h1 (fl1 m.at_ p)
   have b := hf p
   exact ⟨a.1.trans b.1, a.2.1.trans b.2.1, fun x => a.2.2 (b.2.2 x)⟩
  ·obtain ⟨x, hx, e2⟩ := hp
   rcases List.mem_cons.1 hx with rfl | hx
   ·apply (h1 _).2.2
    unfold fl1
    rw [if_pos e2.symm]
   ·apply h2
    exact ⟨x, hx, by rw [(hf p).1]; exact e2⟩
theorem yahz : ∀ (ps : List St) (ws : List Int), (∀ p ∈ ps, p.fl = true) → znl ws ps = zcr ws ps ∧ zly ps = []
 | [], _, _ => ⟨rfl, rfl⟩
 | p :: ps, ws, h => by
  have hp := h p (by simp)
  have ih := yahz ps (ws.set p.at_.toNat p.val) (fun q hq => h q (by simp [hq]))
  refine ⟨?_, ?_⟩
  ·show znl (if p.fl then ws.set p.at_.toNat p.val else ws) ps = zcr (ws.set p.at_.toNat p.val) ps
   rw [hp]
   exact ih.1
  ·unfold zly at ih ⊢
   rw [List.filter_cons, hp]
   exact ih.2
theorem yaao (g : St → St) (hg : ∀ p, (g p).at_ = p.at_ ∧ (g p).val = p.val) : ∀ (ps : List St) (ws : List Int), zcr ws (ps.map g) = zcr ws ps
 | [], _ => rfl
 | p :: ps, ws => by
  show zcr (ws.set (g p).at_.toNat (g p).val) (ps.map g) = zcr (ws.set p.at_.toNat p.val) ps
  rw [(hg p).1, (hg p).2]
  exact yaao g hg ps _
theorem zqn : ∀ (S : List St) (s : List Int × List St), znw s (S.map stM) = (s.1, s.2 ++ S.map (fun p => (⟨p.at_, p.val, false⟩ : St)))
 | [], s => by simp [znw]
 | p :: S, s => by
  rw [List.map_cons, zki, zxm, zqn S]
  simp
theorem zjd (S : List St) (ws : List Int) : znw (ws, []) (seg S) = (zcr ws S, []) := by
 have e0 : znw (ws, []) (S.map stM) = (ws, S.map (fun p => (⟨p.at_, p.val, false⟩ : St))) := by rw [zqn]; simp
 unfold seg zbm
 rw [zdm, e0, zdm]
 obtain ⟨g, e, h1, h2⟩ := zpm (nl (S.map (·.at_)) (S.map (·.at_)).length) (ws, S.map (fun p => (⟨p.at_, p.val, false⟩ : St))) (zrd _ _)
 rw [e, zki, yamh, zye]
 have hall : ∀ p ∈ (S.map (fun p => (⟨p.at_, p.val, false⟩ : St))).map g, p.fl = true := by
  intro p hp
  rw [List.map_map, List.mem_map] at hp
  obtain ⟨q, hq, rfl⟩ := hp
  apply h2
  obtain ⟨i, hi, rfl⟩ := List.getElem_of_mem hq
  obtain ⟨m, hm, e2⟩ := yagk (S.map (·.at_)) (S.map (·.at_)).length i (by simpa using hi)
  refine ⟨m, hm, ?_⟩
  rw [e2]
  simp [hi]
 have f := yahz _ ws hall
 show (znl ws ((S.map (fun p => (⟨p.at_, p.val, false⟩ : St))).map g), zly _) = _
 rw [f.1, f.2, List.map_map, yaao (g ∘ fun p => (⟨p.at_, p.val, false⟩ : St)) (fun p => ⟨(h1 _).1, (h1 _).2.1⟩)]
theorem yaht : ∀ (us : List St) (i : Nat), ∀ p ∈ jrn i us, 9 + 2 * (i : Int) ≤ p.at_ ∧ p.at_ < 9 + 2 * ((i + us.length : Nat) : Int)
 | [], _, p, h => by cases h
 | u :: us, i, p, h => by
  rw [jrn] at h
  simp only [List.length_cons]
  rcases List.mem_cons.1 h with rfl | h
  ·exact ⟨Int.le_refl _, by show 9 + 2 * (i : Int) < _; omega⟩
  ·rcases List.mem_cons.1 h with rfl | h
   ·exact ⟨by show _ ≤ 9 + 2 * (i : Int) + 1; omega, by show 9 + 2 * (i : Int) + 1 < _; omega⟩
   ·have := yaht us (i + 1) p h
    omega
end Go.Proofs.YtpakbbdlhlkogaaGreatDoor

namespace Go.Proofs.YtpakbbdlhlkogaaGreatDoor
open Go.RowKit
def Mi.cells (s : Mi) : List Value := [.int .i64 s.kind, .int .i64 s.at_, .int .i64 s.val]
def mis (ps : List Mi) : List Value := ps.flatMap Mi.cells
theorem Mi.cells_len (s : Mi) : s.cells.length = 3 := rfl
theorem yajx (ps : List Mi) (k : Nat) (h : k < ps.length) : (mis ps)[k * 3]? = some (.int .i64 ps[k].kind) := zbr _ 3 Mi.cells_len ps k 0 h (by omega)
theorem yaga (ps : List Mi) (k : Nat) (h : k < ps.length) : (mis ps)[k * 3 + 1]? = some (.int .i64 ps[k].at_) := zbr _ 3 Mi.cells_len ps k 1 h (by omega)
theorem yajo (ps : List Mi) (k : Nat) (h : k < ps.length) : (mis ps)[k * 3 + 2]? = some (.int .i64 ps[k].val) := zbr _ 3 Mi.cells_len ps k 2 h (by omega)
def RdM (w : World) (v : Value) (ps : List Mi) : Prop := Rd w 3 v ps.length (mis ps)
theorem RdM.shape {w : World} {v : Value} {ps : List Mi} (h : RdM w v ps) : ∃ ao cap, v = .slice ao ps.length cap ∧ ps.length ≤ cap ∧ (0 < ps.length → ∃ b o, ao = some ⟨b, o, none⟩ ∧ b < w.heap.size ∧
  ∀ k (h : k < ps.length), w.cell? ⟨b, o + k * 3, none⟩ = some (.int .i64 ps[k].kind) ∧ w.cell? ⟨b, o + k * 3 + 1, none⟩ = some (.int .i64 ps[k].at_) ∧ w.cell? ⟨b, o + k * 3 + 2, none⟩ = some (.int .i64 ps[k].val)) := by
 obtain ⟨_, ao, cap, rfl, h2, h3⟩ := h
 refine ⟨ao, cap, rfl, h2.1, fun hn => ?_⟩
 obtain ⟨b, o, rfl, hb, hc⟩ := h3 hn
 exact ⟨b, o, rfl, hb, fun k hk => ⟨(hc (k * 3) (by omega)).trans (yajx ps k hk), (hc (k * 3 + 1) (by omega)).trans (yaga ps k hk), (hc (k * 3 + 2) (by omega)).trans (yajo ps k hk)⟩⟩
theorem zce : (Tryz.prog.info? 175).map (fun i => (i.zero, i.size, i.bytes)) = some (some (.agg #[.int .i64 0, .int .i64 0, .int .i64 0]), 3, 24) := by kernel_rfl
theorem yaav (l : List Mi) (m : Mi) : mis (l ++ [m]) = mis l ++ m.cells := by simp [mis]
theorem zqg (l l' : List Mi) : mis (l ++ l') = mis l ++ mis l' := by simp [mis]
theorem zjb (m : Mi) : ∀ u ∈ m.cells, u.oneCell' = true := by
 intro u hu
 simp [Mi.cells] at hu
 rcases hu with rfl | rfl | rfl <;> rfl
theorem zcw (l : List Mi) : ∀ u ∈ mis l, u.oneCell' = true := by
 intro u hu
 simp only [mis, List.mem_flatMap] at hu
 obtain ⟨m, _, hm⟩ := hu
 exact zjb m u hm
theorem zqz (w1 : World) (k a x : Int) : Rd (w1.alloc (.cells #[.int .i64 k, .int .i64 a, .int .i64 x] 175)) 3 (.slice (some ⟨w1.heap.size, 0, none⟩) 1 1) 1 (Mi.cells ⟨k, a, x⟩) := by
 refine ⟨rfl, _, _, rfl, ⟨Nat.le_refl _, fun e => by cases e⟩, fun _ => ⟨w1.heap.size, 0, rfl, by simp, fun j hj => ?_⟩⟩
 obtain ⟨e0, e1, e2⟩ := zaw (zah (w := w1) (o := .cells #[.int .i64 k, .int .i64 a, .int .i64 x] 175) rfl)
 rw [Nat.zero_add]
 rcases (show j = 0 ∨ j = 1 ∨ j = 2 from by omega) with rfl | rfl | rfl
 ·exact e0
 ·exact e1
 ·exact e2
theorem RdM.form {w : World} {v : Value} {ps : List Mi} (h : RdM w v ps) {n : Nat} (hn : ps.length = n) : ∃ ao cap, v = .slice ao n cap := by
 obtain ⟨ao, cap, e, _⟩ := h.shape
 exact ⟨ao, cap, hn ▸ e⟩
theorem yabu {w : World} {base : Nat} {e : TypeId} {size : Nat} {v : Value} {n : Nat} {xs : List Value} (h : w.ownsRow base e size v n xs) (k : Nat) : (w.drewN k).ownsRow base e size v n xs := by
 induction k with
 | zero => exact h
 | succ k ih => exact ih
theorem zwt {B : Nat} {a w : World} (h : Below B a w) (n : Nat) : Below B a (w.drewN n) := by
 induction n with
 | zero => exact h
 | succ n ih => exact ⟨ih.os, ih.tape, ih.output, ih.size, ih.block⟩
theorem yabr (w : World) (n : Nat) : (w.drewN n).heap.size = w.heap.size := by
 induction n with
 | zero => rfl
 | succ n ih => exact ih
def zkh (ks : List Int) (i k : Nat) : Bool := (List.range k).any (fun j => ks[j]?.getD 0 / 8 == ks[i]?.getD 0 / 8)
theorem zxa (ks : List Int) (i k : Nat) : zkh ks i (k + 1) = (zkh ks i k || (ks[k]?.getD 0 / 8 == ks[i]?.getD 0 / 8)) := by
 unfold zkh
 rw [List.range_succ, List.any_append]
 simp
theorem yaee (ks : List Int) : ∀ i, (nl ks i).length ≤ i
 | 0 => Nat.le_refl _
 | i + 1 => by
  rw [nl]
  split
  ·have := yaee ks i; omega
  ·have := yaee ks i; simp; omega
set_option maxRecDepth 100000 in
set_option maxHeartbeats 4000000 in
theorem zcv (v : Value) (zs : List Int) (w : World) (h : RdI w v zs) (hn : zs.length ≤ 4096) (hz0 : ∀ k (h : k < zs.length), 0 ≤ zs[k] ∧ zs[k] < 336) :
  Calls Tryz.prog 137 #[v] w fun e w' => ∃ v', e = .returned v' ∧ Row w' 175 3 w.heap.size w'.heap.size v' (zbm zs).length (mis (zbm zs)) ∧ Below w.heap.size w w' := by
 obtain ⟨aZ, cZ, rfl, _, hcZ⟩ := h.shape
 have HZ := zaa hcZ
 have Z0 := zaa hz0
 clear h hcZ hz0
 have ho : (w.alloc (.cells #[] 175)).ownsRow w.heap.size 175 3 (.slice (some ⟨w.heap.size, 0, none⟩) 0 0) 0 [] := by
  simpa using World.ownsRow_lit (base := w.heap.size) (e := 175) (size := 3) w #[] 0 (by simp) (by simp) rfl
 have START := zaa (And.intro ho ((Below.refl w.heap.size w).alloc (Nat.le_refl _) (.cells #[] 175)))
 clear ho
 go_enter Tryz.func137, Tryz.ntmps137
 go_wp2
 go_loopw [3, 4, 5, 6] (fun vL i _ _ wr => ∃ m : Nat, m ≤ zs.length ∧ i = .int .i64 m ∧ Hid (wr.ownsRow w.heap.size 175 3 vL (nl zs m).length (mis (nl zs m)) ∧ Below w.heap.size w wr) ∧ w.heap.size ≤ wr.heap.size) (fun _ i _ _ _ => zs.length - (intOf i).toNat)
 case atStart => exact ⟨0, by omega, rfl, ⟨by simpa [nl, mis] using START.out.1, START.out.2⟩, by simp⟩
 case round =>
  obtain ⟨m, hm, rfl, I, hz⟩ := hrel
  by_cases hlt : m < zs.length
  ·obtain ⟨b, o, rfl, hbl, hcell⟩ := HZ.out (by omega)
   have CELL := zaa hcell
   clear hcell
   have m0 : (0 : Int) ≤ (m : Int) := by omega
   have m1 : (m : Int) < (zs.length : Int) := by omega
   go_wp2
   go_loopw [5, 6] (fun f kk wr2 => ∃ k : Nat, k ≤ m ∧ kk = .int .i64 k ∧ f = .bool (zkh zs m k) ∧ Hid (wr2.ownsRow w.heap.size 175 3 u3 (nl zs m).length (mis (nl zs m)) ∧ Below w.heap.size w wr2) ∧ w.heap.size ≤ wr2.heap.size) (fun _ kk _ => m - (intOf kk).toNat)
   case atStart => exact ⟨0, by omega, rfl, rfl, I, hz⟩
   case round =>
    obtain ⟨k, hk, rfl, rfl, J, hz2⟩ := hrel
    by_cases hlk : k < m
    ·have k0 : (0 : Int) ≤ (k : Int) := by omega
     have k1 : (k : Int) < (m : Int) := by omega
     have k2 : (k : Int) < (zs.length : Int) := by omega
     have hkz : k < zs.length := by omega
     have d0 := (J.out.2.cell (p := ⟨b, o + k, none⟩) hbl).trans (CELL.out k hkz)
     have d1 := (J.out.2.cell (p := ⟨b, o + m, none⟩) hbl).trans (CELL.out m hlt)
     have p0 := Z0.out k hkz
     have p1 := Z0.out m hlt
     have SU := zaa (show zkh zs m (k + 1) = (zkh zs m k || (zs[k] / 8 == zs[m] / 8)) by rw [zxa, List.getElem?_eq_getElem hkz, List.getElem?_eq_getElem hlt]; rfl)
     generalize zs[k] = x at *
     generalize zs[m] = y at *
     generalize zkh zs m k = fb at *
     rcases (show fb = true ∨ (fb = false ∧ (x / 8 == y / 8) = true) ∨ (fb = false ∧ (x / 8 == y / 8) = false) by cases fb <;> cases (x / 8 == y / 8) <;> simp) with rfl | ⟨rfl, q⟩ | ⟨rfl, q⟩
     all_goals
      go_wp2
      go_quiet (fail)
      go_wp2
      go_roundw
      case rel => exact ⟨k + 1, by omega, by go_num, by rw [SU.out]; first | rfl | (rw [q]; rfl), ⟨yabu J.out.1 _, zwt J.out.2 _⟩, by rw [yabr]; exact hz2⟩
      case measure => simp [intOf]; omega
    ·obtain rfl : k = m := by omega
     by_cases c : zkh zs k k = true
     ·have E := zaa (show nl zs (k + 1) = nl zs k by rw [nl]; exact if_pos c)
      rw [c]
      clear c
      go_wp2
      go_roundw
      case rel => exact ⟨k + 1, by omega, by go_num, by rw [E.out]; exact J, hz2⟩
      case measure => simp [intOf]; omega
     ·have c' : zkh zs k k = false := by simpa using c
      have d1 := (J.out.2.cell (p := ⟨b, o + k, none⟩) hbl).trans (CELL.out k hlt)
      have E := zaa (show nl zs (k + 1) = nl zs k ++ [⟨2, zs[k], 0⟩] by
       rw [nl]
       have : ¬ yaez zs k = true := fun x => c x
       rw [if_neg this, List.getElem?_eq_getElem hlt]
       rfl)
      rw [c']
      clear c c'
      generalize zs[k] = y at *
      have O2 := zaa (J.out.1.alloc (.cells #[.int .i64 2, .int .i64 y, .int .i64 0] 175))
      have HRD := zaa (zqz wr 2 y 0)
      have hle := yaee zs k
      go_wp2_with (at_builtin; refine zae _ rfl (.tmp 35) (.tmp 41) 32 rfl w.heap.size 175 (.agg #[.int .i64 0, .int .i64 0, .int .i64 0]) 3 24 Tryz.underlying32 zce rfl (by decide) _ _ _ rfl O2.out _ 1 _ rfl HRD.out (zjb _) (by simp [maxLen]; omega) (by omega) (by simp; omega) ?_)
      intro vN wN hownN hgrN
      have hl := fun q hq => (O2.out.lt q hq).1
      have hzN := hgrN.size
      simp only [World.size_alloc] at hzN
      have G : Hid (wN.ownsRow w.heap.size 175 3 vN (nl zs (k + 1)).length (mis (nl zs (k + 1))) ∧ Below w.heap.size w wN) := by
       refine ⟨?_, (J.out.2.alloc (by omega) (.cells #[.int .i64 2, .int .i64 y, .int .i64 0] 175)).grown hgrN (by simp; omega) (fun q hq => hl q hq)⟩
       rw [E.out, yaav, List.length_append]
       exact hownN
      clear hownN hgrN hl
      go_wp2
      go_roundw
      case rel => exact ⟨k + 1, by omega, by go_num, G, by omega⟩
      case measure => simp [intOf]; omega
  ·obtain rfl : m = zs.length := by omega
   have E := zaa (show zbm zs = nl zs zs.length ++ [⟨3, 0, 0⟩] from rfl)
   have O2 := zaa (I.out.1.alloc (.cells #[.int .i64 3, .int .i64 0, .int .i64 0] 175))
   have HRD := zaa (zqz wr 3 0 0)
   have hle := yaee zs zs.length
   go_wp2_with (at_builtin; refine zae _ rfl (.tmp 43) (.tmp 45) 32 rfl w.heap.size 175 (.agg #[.int .i64 0, .int .i64 0, .int .i64 0]) 3 24 Tryz.underlying32 zce rfl (by decide) _ _ _ rfl O2.out _ 1 _ rfl HRD.out (zjb _) (by simp [maxLen]; omega) (by omega) (by simp; omega) ?_)
   intro vN wN hownN hgrN
   have hl := fun q hq => (O2.out.lt q hq).1
   have G : Hid (wN.ownsRow w.heap.size 175 3 vN (zbm zs).length (mis (zbm zs)) ∧ Below w.heap.size w wN) := by
    refine ⟨?_, (I.out.2.alloc (by omega) (.cells #[.int .i64 3, .int .i64 0, .int .i64 0] 175)).grown hgrN (by simp; omega) (fun q hq => hl q hq)⟩
    rw [E.out, yaav, List.length_append]
    exact hownN
   clear hownN hgrN hl
   obtain ⟨aL, cL, hvL⟩ := RdM.form (zad G.out.1).rd rfl
   subst hvL
   go_wp2
   go_ret
   exact ⟨_, rfl, zad G.out.1, G.out.2⟩
theorem zcc (zs : List Int) : (zbm zs).length ≤ zs.length + 1 := by
 unfold zbm
 have := yaee zs zs.length
 simp
 omega
theorem zoh (w : World) (t : TypeId) (size : Nat) : Row (w.alloc (.cells #[] t)) t size w.heap.size (w.alloc (.cells #[] t)).heap.size (.slice (some ⟨w.heap.size, 0, none⟩) 0 0) 0 [] :=
 zad (by simpa using World.ownsRow_lit (base := w.heap.size) (e := t) (size := size) w #[] 0 (by simp) (by simp) (by simp))
theorem zcy (a x : Int) (w : World) : Calls Tryz.prog 135 #[.int .i64 a, .int .i64 x] w fun e w' => e = .returned (.agg #[.int .i64 1, .int .i64 a, .int .i64 x]) ∧ Below w.heap.size w w' := by
 go_enter Tryz.func135, Tryz.ntmps135
 go_wp2
 refine bodyPost_ret (v := .agg #[.int .i64 1, .int .i64 a, .int .i64 x]) (by simp [results, Tryz.results135, go_sem]) rfl ⟨rfl, ?_⟩
 repeat (refine Below.alloc ?_ (by simp <;> omega) _)
 exact Below.refl _ _
def upsB (us : List Se) : Bool := decide (∀ k (h : k < us.length), (48 ≤ us[k].at_ ∧ us[k].at_ < 336) ∧ 0 ≤ us[k].val ∧ us[k].val < 1099511627776)
def zea (us : List Se) : List St := us.map (fun s => up s.at_ s.val)
theorem zcl (us : List Se) : (zea us).length = us.length := by simp [zea]
theorem zse (us : List Se) (k : Nat) (h : k < us.length) : (zea us)[k]? = some (up us[k].at_ us[k].val) := by simp [zea, h]
def apM (us : List Se) (m : Nat) : List Mi := ((zea us).take m).map stM
def apP (us : List Se) (m : Nat) : List Int := ((zea us).take m).map (·.at_)
theorem yagy (us : List Se) (m : Nat) : (apM us m).length ≤ m := by simp [apM]; omega
theorem yakl (us : List Se) (m : Nat) : (apP us m).length ≤ m := by simp [apP]; omega
theorem zjv {α : Type} (l : List α) (m : Nat) (x : α) (h : l[m]? = some x) : l.take (m + 1) = l.take m ++ [x] := by
 rw [List.take_add_one, h]; rfl
theorem yaor (us : List Se) (m : Nat) (h : m < us.length) : apM us (m + 1) = apM us m ++ [⟨1, us[m].at_, us[m].val⟩] := by
 unfold apM; rw [zjv _ _ _ (zse us m h), List.map_append]; rfl
theorem yank (us : List Se) (m : Nat) (h : m < us.length) : apP us (m + 1) = apP us m ++ [us[m].at_] := by
 unfold apP; rw [zjv _ _ _ (zse us m h), List.map_append]; rfl
theorem yasr (us : List Se) : apM us us.length = (zea us).map stM := by unfold apM; rw [List.take_of_length_le (by rw [zcl]; omega)]
theorem yasj (us : List Se) : apP us us.length = (zea us).map (·.at_) := by unfold apP; rw [List.take_of_length_le (by rw [zcl]; omega)]
theorem yafn (us : List Se) (m : Nat) (hz : ∀ k (h : k < us.length), 0 ≤ us[k].at_ ∧ us[k].at_ < 336) : ∀ k (h : k < (apP us m).length), 0 ≤ (apP us m)[k] ∧ (apP us m)[k] < 336 := by
 intro k h
 have h' := h
 simp only [apP, List.length_map, List.length_take, zcl] at h'
 have := hz k (by omega)
 simpa [apP, zea, up] using this
structure PlI (w0 w : World) (vL vP : Value) (ls : List Mi) (ps : List Int) : Prop where
 l : w.ownsRow w0.heap.size 175 3 vL ls.length (mis ls)
 p : w.ownsRow w0.heap.size 3 1 vP ps.length (zdd ps)
 b : Below w0.heap.size w0 w
 z : w0.heap.size ≤ w.heap.size
theorem yaty : (3 : Nat) ≠ 175 := by decide
theorem PlI.below {w0 w w' : World} {vL vP : Value} {ls : List Mi} {ps : List Int} (h : PlI w0 w vL vP ls ps) (hb : Below w.heap.size w w') : PlI w0 w' vL vP ls ps :=
 ⟨((zad h.l).below hb (Nat.le_refl _)).1, ((zad h.p).below hb (Nat.le_refl _)).1, zab h.b hb h.z, Nat.le_trans h.z hb.size⟩
theorem PlI.growL {w0 w w' : World} {vL vP v' : Value} {ls : List Mi} {ps : List Int} (h : PlI w0 w vL vP ls ps) (ms : List Mi) (ho : w'.ownsRow w0.heap.size 175 3 v' (ls.length + ms.length) (mis ls ++ mis ms)) (hg : w.grownBy w' vL.ownBlock) : PlI w0 w' v' vP (ls ++ ms) ps :=
 ⟨by rw [zqg, List.length_append]; exact ho, (Row.apart (zad h.p) (zad h.l) yaty hg).1, h.b.grown hg h.z (fun q hq => (h.l.lt q hq).1), Nat.le_trans h.z hg.size⟩
theorem PlI.growP {w0 w w' : World} {vL vP v' : Value} {ls : List Mi} {ps : List Int} (h : PlI w0 w vL vP ls ps) (ks : List Int) (ho : w'.ownsRow w0.heap.size 3 1 v' (ps.length + ks.length) (zdd ps ++ zdd ks)) (hg : w.grownBy w' vP.ownBlock) : PlI w0 w' vL v' ls (ps ++ ks) :=
 ⟨(Row.apart (zad h.l) (zad h.p) (Ne.symm yaty) hg).1, by rw [List.length_append, show zdd (ps ++ ks) = zdd ps ++ zdd ks by simp [zdd]]; exact ho, h.b.grown hg h.z (fun q hq => (h.p.lt q hq).1), Nat.le_trans h.z hg.size⟩
theorem zdw {w w' : World} (h : Below w.drew.heap.size w.drew w') : Below w.heap.size w w' := zab ((Below.refl w.heap.size w).drew) h (Nat.le_refl _)
theorem zkw (w1 : World) (x : Int) : RdI (w1.alloc (.cells #[.int .i64 x] 3)) (.slice (some ⟨w1.heap.size, 0, none⟩) 1 1) [x] := by
 refine ⟨rfl, _, _, rfl, ⟨Nat.le_refl _, fun e => by cases e⟩, fun _ => ⟨w1.heap.size, 0, rfl, by simp, fun j hj => ?_⟩⟩
 obtain rfl : j = 0 := by simp at hj; omega
 have e := zah (w := w1) (o := .cells #[.int .i64 x] 3) rfl
 unfold World.cell?
 simp only [e]
 rfl
theorem zmy (m : Mi) : mis [m] = m.cells := by simp [mis]
set_option maxRecDepth 100000 in
set_option maxHeartbeats 4000000 in
theorem zuq (v : Value) (us : List Se) (w : World) (h : RdE w v us) (hn : us.length ≤ 64) (hz0 : ∀ k (h : k < us.length), 0 ≤ us[k].at_ ∧ us[k].at_ < 336) :
  Calls Tryz.prog 171 #[v] w fun e w' => ∃ v', e = .returned v' ∧ Row w' 175 3 w.heap.size w'.heap.size v' (ziq (zea us)).length (mis (ziq (zea us))) ∧ Below w.heap.size w w' := by
 obtain ⟨aZ, cZ, rfl, _, hcZ⟩ := h.shape
 have HZ := zaa hcZ
 have Z0 := zaa hz0
 clear h hcZ hz0
 have START : Hid (PlI w ((w.alloc (.cells #[] 175)).alloc (.cells #[] 3)) (.slice (some ⟨w.heap.size, 0, none⟩) 0 0) (.slice (some ⟨w.heap.size + 1, 0, none⟩) 0 0) [] []) := by
  refine ⟨?_, ?_, ((Below.refl w.heap.size w).alloc (Nat.le_refl _) _).alloc (by simp) _, by simp <;> omega⟩
  ·exact ((zoh w 175 3).alloc (Nat.le_refl _) _).1
  ·simpa [zdd] using World.ownsRow_lit (base := w.heap.size) (e := 3) (size := 1) (w.alloc (.cells #[] 175)) #[] 0 (by simp) (by simp) (by simp)
 go_enter Tryz.func171, Tryz.ntmps171
 go_wp2
 go_loopw [3, 4, 5] (fun vL vP i wr => ∃ m : Nat, m ≤ us.length ∧ i = .int .i64 m ∧ Hid (PlI w wr vL vP (apM us m) (apP us m)) ∧ w.heap.size ≤ wr.heap.size) (fun _ _ i _ => us.length - (intOf i).toNat)
 case atStart => exact ⟨0, by omega, rfl, by simpa [apM, apP] using START, by simp <;> omega⟩
 case round =>
  obtain ⟨m, hm, rfl, J, hz⟩ := hrel
  by_cases hlt : m < us.length
  ·obtain ⟨b, o, rfl, hbl, hcell⟩ := HZ.out (by omega)
   have C0 := (J.out.b.cell (p := ⟨b, o + m * 2, none⟩) hbl).trans (hcell m hlt).1
   have C1 := (J.out.b.cell (p := ⟨b, o + m * 2 + 1, none⟩) hbl).trans (hcell m hlt).2
   have EM := zaa (yaor us m hlt)
   have EP := zaa (yank us m hlt)
   have l1 := yagy us m
   have l2 := yakl us m
   have hbr : b < wr.heap.size := by omega
   have DW := zaa (hcell m hlt)
   clear hcell
   have m0 : (0 : Int) ≤ (m : Int) := by omega
   have m1 : (m : Int) < (us.length : Int) := by omega
   generalize us[m].at_ = x at *
   generalize us[m].val = y at *
   go_wp2_with fail
   go_region_held3 (fun w' => w'.cell? ⟨b, o + m * 2, none⟩ = some (.int .i64 x) ∧ w'.cell? ⟨b, o + m * 2 + 1, none⟩ = some (.int .i64 y)) (first | exact ⟨C0, C1⟩ | exact ⟨s0, s1⟩ | exact ⟨r0, r1⟩ | exact ⟨q0, q1⟩)
    (first
     | (go_at_call 135; refine (zcy _ _ _).mono ?_; rintro e w1 ⟨rfl, hb1⟩; have hb1' := zdw hb1; have q0 := (hb1'.cell (p := ⟨b, o + m * 2, none⟩) hbr).trans C0; have q1 := (hb1'.cell (p := ⟨b, o + m * 2 + 1, none⟩) hbr).trans C1; have P1 := zaa ((J.out.below hb1').below ((Below.refl _ _).alloc (Nat.le_refl _) (.cells #[.int .i64 1, .int .i64 x, .int .i64 y] 175))); have HRD := zaa (zqz w1 1 x y); have r0 := (P1.out.b.cell (p := ⟨b, o + m * 2, none⟩) hbl).trans DW.out.1; have r1 := (P1.out.b.cell (p := ⟨b, o + m * 2 + 1, none⟩) hbl).trans DW.out.2; have hz1 := P1.out.z; clear hb1 hb1')
     | (refine zam rfl (.tmp 14) (.tmp 26) 32 rfl w.heap.size 175 (.agg #[.int .i64 0, .int .i64 0, .int .i64 0]) 3 24 Tryz.underlying32 zce rfl (by decide) _ _ _ rfl P1.out.l _ 1 _ rfl HRD.out (zjb _) (by simp [maxLen]; omega) (by omega) hz1 ?_; intro vN wN hownN hgrN; have G := zaa (P1.out.growL [⟨1, x, y⟩] (by rw [zmy]; exact hownN) hgrN); have s0 := (G.out.b.cell (p := ⟨b, o + m * 2, none⟩) hbl).trans DW.out.1; have s1 := (G.out.b.cell (p := ⟨b, o + m * 2 + 1, none⟩) hbl).trans DW.out.2; clear hownN hgrN))
   all_goals
    have hzG := G.out.z
    clear C0 C1 q0 q1 r0 r1 P1 HRD J
    have P2 := zaa (G.out.below ((Below.refl _ _).alloc (Nat.le_refl _) (.cells #[.int .i64 x] 3)))
    have HR2 := zaa (zkw wN x)
    have hz2 := P2.out.z
    clear G
    go_wp2_with (at_builtin; refine zae _ rfl (.tmp 28) (.tmp 34) 23 rfl w.heap.size 3 (.int .i64 0) 1 8 Tryz.underlying23 zlj rfl (by decide) _ _ _ rfl P2.out.p _ 1 _ rfl HR2.out (zfs _) (by simp [maxLen]; omega) (by omega) hz2 ?_)
    intro vQ wQ hownQ hgrQ
    have G2 := zaa (P2.out.growP [x] hownQ hgrQ)
    rw [← EM.out, ← EP.out] at G2
    have hz3 := G2.out.z
    clear hownQ hgrQ P2 HR2
    go_wp2
    go_roundw
    case rel => exact ⟨m + 1, by omega, by go_num, G2, hz3⟩
    case measure => simp [intOf]; omega
  ·obtain rfl : m = us.length := by omega
   have PL := zaa (yafn us us.length Z0.out)
   have l1 := yagy us us.length
   have l2 := yakl us us.length
   have EE := zaa (show ziq (zea us) = apM us us.length ++ zbm (apP us us.length) ++ [⟨1, 8, 0⟩] ++ zbm [8] by
    rw [yasr, yasj]; simp [ziq, seg, cnt, stM])
   have l3 := zcc (apP us us.length)
   have l4 := zcc [8]
   simp only [List.length_cons, List.length_nil] at l4
   generalize apM us us.length = A at *
   generalize apP us us.length = B at *
   go_wp2_with fail
   refine (zcv _ B _ (zad J.out.p).rd (by omega) PL.out).mono ?_
   rintro e w1 ⟨v1, rfl, hr1, hb1⟩
   have P1 := zaa (J.out.below hb1)
   have R1 := zaa hr1.rd
   have hz1 := P1.out.z
   clear hr1 hb1 J
   go_wp2_with (at_builtin; refine zae _ rfl (.tmp 36) (.tmp 38) 32 rfl w.heap.size 175 (.agg #[.int .i64 0, .int .i64 0, .int .i64 0]) 3 24 Tryz.underlying32 zce rfl (by decide) _ _ _ rfl P1.out.l _ _ _ rfl R1.out (zcw _) (by simp [maxLen]; omega) (by omega) hz1 ?_)
   intro v2 w2 hown2 hgr2
   have P2 := zaa (P1.out.growL _ hown2 hgr2)
   have hz2 := P2.out.z
   have l5 : (A ++ zbm B).length ≤ 200 := by simp; omega
   generalize A ++ zbm B = C at *
   clear hown2 hgr2 P1 R1
   go_wp2_with fail
   refine (zcy _ _ _).mono ?_
   rintro e w3 ⟨rfl, hb3⟩
   have P3 := zaa ((P2.out.below hb3).below ((Below.refl _ _).alloc (Nat.le_refl _) (.cells #[.int .i64 1, .int .i64 8, .int .i64 0] 175)))
   have R3 := zaa (zqz w3 1 8 0)
   have hz3 := P3.out.z
   clear hb3 P2
   go_wp2_with (at_builtin; refine zae _ rfl (.tmp 40) (.tmp 42) 32 rfl w.heap.size 175 (.agg #[.int .i64 0, .int .i64 0, .int .i64 0]) 3 24 Tryz.underlying32 zce rfl (by decide) _ _ _ rfl P3.out.l _ 1 _ rfl R3.out (zjb _) (by simp [maxLen]; omega) (by omega) hz3 ?_)
   intro v4 w4 hown4 hgr4
   have P4 := zaa (P3.out.growL [⟨1, 8, 0⟩] (by rw [zmy]; exact hown4) hgr4)
   have l6 : (C ++ [(⟨1, 8, 0⟩ : Mi)]).length ≤ 201 := by simp; omega
   generalize C ++ [(⟨1, 8, 0⟩ : Mi)] = D at *
   have P5 := zaa (P4.out.below ((Below.refl _ _).alloc (Nat.le_refl _) (.cells #[.int .i64 8] 3)))
   have R5 := zaa (zkw w4 8)
   clear hown4 hgr4 P3 R3 P4
   go_wp2_with fail
   refine (zcv _ [8] _ R5.out (by simp) (by intro k h; simp at h; subst h; simp)).mono ?_
   rintro e w6 ⟨v6, rfl, hr6, hb6⟩
   have P6 := zaa (P5.out.below hb6)
   have R6 := zaa hr6.rd
   have hz6 := P6.out.z
   clear hr6 hb6 P5 R5
   go_wp2_with (at_builtin; refine zae _ rfl (.tmp 44) (.tmp 46) 32 rfl w.heap.size 175 (.agg #[.int .i64 0, .int .i64 0, .int .i64 0]) 3 24 Tryz.underlying32 zce rfl (by decide) _ _ _ rfl P6.out.l _ _ _ rfl R6.out (zcw _) (by simp [maxLen]; omega) (by omega) hz6 ?_)
   intro v7 w7 hown7 hgr7
   have P7 := zaa (P6.out.growL _ hown7 hgr7)
   rw [← EE.out] at P7
   obtain ⟨aL, cL, hvL⟩ := RdM.form (zad P7.out.l).rd rfl
   subst hvL
   clear hown7 hgr7 P6 R6
   go_wp2
   go_ret
   exact ⟨_, rfl, zad P7.out.l, P7.out.b⟩
end Go.Proofs.YtpakbbdlhlkogaaGreatDoor
