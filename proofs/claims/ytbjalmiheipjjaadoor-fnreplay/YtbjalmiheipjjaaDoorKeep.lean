/- What is kept: asked, and looked up. -/
import Derived.Test.YtbjalmiheipjjaaDoorZAC
namespace Go.Proofs.YtbjalmiheipjjaaDoor
open Go.RowKit
def keepI (zs : List Int) (i : Nat) : Int := if zs.length = 0 then 0 else zs[i % zs.length]?.getD 0
def keepsB (zs : List Int) : Bool := decide (∀ k (h : k < zs.length), 0 ≤ zs[k] ∧ zs[k] ≤ 400)
theorem keepsB_mk {zs : List Int} (h : ∀ k (h : k < zs.length), 0 ≤ zs[k] ∧ zs[k] ≤ 400) : keepsB zs = true := decide_eq_true h
theorem keepsB_true {zs : List Int} (h : keepsB zs = true) : ∀ k (h : k < zs.length), 0 ≤ zs[k] ∧ zs[k] ≤ 400 := of_decide_eq_true h
theorem keepsB_not {zs : List Int} {k : Nat} (hk : k < zs.length) (h : ¬ (0 ≤ zs[k] ∧ zs[k] ≤ 400)) : keepsB zs = false := decide_eq_false (fun x => h (x k hk))
theorem keepI_of {zs : List Int} (h : keepsB zs = true) (i : Nat) : 0 ≤ keepI zs i ∧ keepI zs i ≤ 400 := by
  unfold keepI
  by_cases h0 : zs.length = 0
  · rw [if_pos h0]; omega
  · rw [if_neg h0]
    have hl : i % zs.length < zs.length := Nat.mod_lt _ (by omega)
    rw [List.getElem?_eq_getElem hl, Option.getD_some]
    exact keepsB_true h _ hl
set_option maxHeartbeats 1000000 in
theorem keepAt_any (v : Value) (zs : List Int) (i : Nat) (w : World) (h : RdI w v zs) (hn : zs.length ≤ 1048576) (hi : i ≤ 1048576) :
    Calls Tryd.prog 58 #[v, .int .i64 (i : Int)] w fun e w' => e = .returned (.int .i64 (keepI zs i)) ∧ w' = w := by
  obtain ⟨ao, cap, rfl, hcap, hc⟩ := h.shape
  clear h
  by_cases h0 : zs.length = 0
  · have E := hideIt (show keepI zs i = 0 by unfold keepI; rw [if_pos h0])
    have h0' : ((zs.length : Int) == 0) = true := by simp [h0]
    clear h0 hc
    go_enter Tryd.func58, Tryd.ntmps58
    go_wp2
    go_ret
    exact ⟨ret_int E.out.symm, rfl⟩
  · have hl : i % zs.length < zs.length := Nat.mod_lt _ (by omega)
    have E := hideIt (show keepI zs i = zs[i % zs.length] by unfold keepI; rw [if_neg h0, List.getElem?_eq_getElem hl, Option.getD_some])
    obtain ⟨b, o, rfl, hbl, hcell⟩ := hc (by omega)
    have hck := hcell (i % zs.length) hl
    have hpos : (0 : Int) < (zs.length : Int) := by omega
    have hne : ((zs.length : Int) == 0) = false := by rw [beq_eq_false_iff_ne]; omega
    have m0 : (0 : Int) ≤ (i : Int) % (zs.length : Int) := Int.emod_nonneg _ (by omega)
    have m1 : (i : Int) % (zs.length : Int) < (zs.length : Int) := Int.emod_lt_of_pos _ hpos
    have mt : ((i : Int) % (zs.length : Int)).toNat = i % zs.length := by rw [← Int.natCast_emod, Int.toNat_natCast]
    have hck2 : w.cell? ⟨b, o + ((i : Int) % (zs.length : Int)).toNat, none⟩ = some (.int .i64 zs[i % zs.length]) := by rw [mt]; exact hck
    clear hcell hc h0 mt
    go_enter Tryd.func58, Tryd.ntmps58
    go_wp2
    go_ret
    exact ⟨ret_int E.out.symm, rfl⟩
end Go.Proofs.YtbjalmiheipjjaaDoor
