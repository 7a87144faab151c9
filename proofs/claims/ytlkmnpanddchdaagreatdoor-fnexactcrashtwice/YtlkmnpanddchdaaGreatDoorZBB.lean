/- Several texts laid together: TrE, TrF, FqQ, BlkUns, CrashE. -/
import Derived.Test.YtlkmnpanddchdaaGreatDoorZBA
import Derived.Deep.OwnRows
import Derived.Deep.RegionHeld3
import Derived.Deep.DeepCutAuto
import Derived.Test.YtlkmnpanddchdaaGreatDoorZAM
import Derived.Test.YtlkmnpanddchdaaGreatDoorZAZ
import Derived.Test.YtlkmnpanddchdaaGreatDoorZAG
import Derived.Test.YtlkmnpanddchdaaGreatDoorZAD
namespace Go.Proofs.YtlkmnpanddchdaaGreatDoor
open Go.RowKit
def zgk (m:Nat):List Value:=List.replicate m (.int .i64 1)
theorem zau (m:Nat):(zgk m).length = m:=by simp [zgk]
def zir (n:Nat):List Value:=List.replicate n (.int .i64 1) ++ List.replicate (128 - n) (.int .i64 0)
theorem yaln (n:Nat) (h:n ≤ 128):(zir n).length = 128:=by simp [zir]; omega
theorem yanh:(madeCells #[.int .i64 0] 128) = (zir 0).toArray:=by kernel_rfl
theorem ztm (n m:Nat) (h:n + m ≤ 128):splice (zir n) n (zgk m) = zir (n + m):=by
 unfold splice zir zgk
 rw [List.take_left' (by simp),List.drop_append,List.length_replicate,List.drop_of_length_le (by simp),List.drop_replicate,List.length_replicate,List.nil_append,← List.append_assoc,List.replicate_append_replicate]
 rw [show 128 - n - (n + m - n) = 128 - (n + m) by omega]
theorem yauw (n j:Nat) (v:Value) (h:(zgk n)[j]? = some v):(zir n)[j]? = some v:=by
 unfold zgk at h
 have hj:j < n:=by
  rcases Nat.lt_or_ge j n with q | q
  ·exact q
  ·rw [List.getElem?_eq_none (by simpa using q)] at h
   cases h
 unfold zir
 rw [List.getElem?_append_left (by simpa using hj)]
 exact h
theorem zhp (m:Nat):∀ v ∈ zgk m,v.oneCell' = true:=fun v hv => by
 unfold zgk at hv
 rw [List.eq_of_mem_replicate hv]; rfl
theorem szI3:(Tryz.prog.info? 3).map (·.size) = some 1:=by kernel_rfl
theorem yatj:zir 128 = zav (zgq 128):=by
 unfold zir zgq zav
 simp
theorem yaot {w:World} {g n j:Nat} {v:Value} (h:w.heap[g]? = some (.cells (zir n).toArray 3 (0,0))) (hj:(zgk n)[j]? = some v):w.cell? ((⟨g,0,none⟩:Addr).add j) = some v:=by
 rw [Addr.add_lit,Nat.zero_add]
 have:=yauw n j v hj
 simp only [World.cell?,h]
 simpa using this
set_option maxRecDepth 100000 in
set_option maxHeartbeats 4000000 in
theorem yahf (b:Nat) (w:World) (h:∀ w',Below w.heap.size w w' → w'.cell? ⟨b,0,none⟩ = some (.int .i64 1)):Calls Tryz.prog 108 #[.slice (some ⟨b,0,none⟩) 1 1,.int .i64 128] w fun e w' => ∃ v',e = .returned v' ∧ Row w' 3 1 w.heap.size w'.heap.size v' 128 (zav (zgq 128)) ∧ Below w.heap.size w w':=by
 have hmk:∀ w:World,(Instr.makeSlice 22 (.int .i64 128) (.int .i64 128)).run Tryz.prog w = .ok (.slice (some ⟨w.heap.size,0,none⟩) 128 128) (w.alloc (.cells (zir 0).toArray 3)):=fun w => by
  rw [← yanh]
  exact run_make_row' (P:=Tryz.prog) 22 3 (.int .i64 0) 8 Tryz.underlying22 zga rfl .i64 .i64 128 (by omega) (by omega) w
 have HH:=zaa h
 clear h
 obtain ⟨W,hW⟩:∃ W,W = w.alloc (.cells (zir 0).toArray 3):=⟨_,rfl⟩
 have BW:Hid (Below w.heap.size w W):=by rw [hW]; exact (Below.refl _ _).alloc (Nat.le_refl _) _
 have HG:Hid (W.heap[w.heap.size]? = some (.cells (zir 0).toArray 3 (0,0))):=by rw [hW]; exact zag rfl
 have hzW:W.heap.size = w.heap.size + 1:=by rw [hW]; simp
 have HZ:=zaa hzW
 clear hzW
 go_enter Tryz.func108,Tryz.ntmps108
 go_wp2_with fail
 refine (yasm _).mono ?_
 rintro e w' ⟨rfl,hw'⟩
 subst w'
 go_upto_region 7 with fail
 rw [← hW]
 clear hW hmk
 have SR:Hid (∀ j v,(zgk 1)[j]? = some v → W.cell? ((⟨b,0,none⟩:Addr).add j) = some v):=fun j v hv => by
  obtain rfl:j = 0:=by
   rcases Nat.eq_zero_or_pos j with q | q
   ·exact q
   ·rw [List.getElem?_eq_none (by rw [zau]; omega)] at hv; cases hv
  rw [Addr.add_lit,Nat.zero_add,HH.out _ BW.out]
  exact hv
 go_wp2_with (refine wpList_copy_splice rfl (.tmp 31) (.tmp 32) 22 22 rfl 3 Tryz.underlying22 szI3 _ _ _ _ _ _ rfl rfl w.heap.size 0 (zir 0) 3 HG.out (zgk 1) rfl (fun _ => ⟨rfl,_,rfl,SR.out⟩) (by rw [yaln 0 (by omega),zau]; omega) (zhp 1) w.heap.size w BW.out (Nat.le_refl _) ?_)
 intro w2 hg2 hb2
 rw [ztm 0 1 (by omega)] at hg2
 have B2:=zaa hb2
 clear hb2 SR HG HH BW
 rw [zau]
 go_wp2
 go_loopw [8] (fun i wr => ∃ n:Nat,(n = 1 ∨ n = 2 ∨ n = 4 ∨ n = 8 ∨ n = 16 ∨ n = 32 ∨ n = 64 ∨ n = 128) ∧ i = .int .i64 (n:Int) ∧ Hid (wr.heap[w.heap.size]? = some (.cells (zir n).toArray 3 (0,0))) ∧ Hid (Below w.heap.size w wr)) (fun i _ => 128 - (intOf i).toNat)
 case atStart => exact ⟨1,.inl rfl,rfl,hg2,B2⟩
 case round =>
  obtain ⟨n,hn,rfl,G,B⟩:=hrel
  clear hg2 B2
  have RND:Hid (∀ m:Nat,n + m ≤ 128 → Hid (splice (zir n) n (zgk m) = zir (n + m))):=fun m h => ztm n m h
  have LN:Hid (n ≤ 128 → (zir n).length = 128):=yaln n
  have CL:Hid (∀ w':World,w'.heap[w.heap.size]? = some (.cells (zir n).toArray 3 (0,0)) → ∀ j v,(zgk n)[j]? = some v → w'.cell? ((⟨w.heap.size,0,none⟩:Addr).add j) = some v):=fun w' h j v hv => yaot h hv
  by_cases h128:n = 128
  ·subst h128
   have RW:Hid (Row wr 3 1 w.heap.size wr.heap.size (.slice (some ⟨w.heap.size,0,none⟩) 128 128) 128 (zav (zgq 128))):=by
    refine ⟨⟨by simp [zav,zkz],.inr ⟨_,128,_,rfl,Nat.le_refl _,G.out,Nat.le_refl _,by simp [maxLen],by rw [List.size_toArray,LN.out (Nat.le_refl _)],?_⟩⟩,fun k hk => by cases hk; exact (Array.getElem?_eq_some_iff.1 G.out).1⟩
    rw [List.toList_toArray,List.take_of_length_le (by rw [LN.out (Nat.le_refl _)]; omega),yatj]
   clear G RND LN CL hn
   go_wp2
   go_ret
   exact ⟨_,rfl,RW.out,B.out⟩
  ·have h64:n = 1 ∨ n = 2 ∨ n = 4 ∨ n = 8 ∨ n = 16 ∨ n = 32 ∨ n = 64:=by omega
   clear hn h128
   rcases h64 with rfl | rfl | rfl | rfl | rfl | rfl | rfl
   ·have GW:Hid (∀ w',Below wr.heap.size wr w' → w'.heap[w.heap.size]? = some (.cells (zir 1).toArray 3 (0,0))):=fun w' hb => (hb.block _ (Array.getElem?_eq_some_iff.1 G.out).1).trans G.out
    have BA:Hid (∀ w',Below wr.heap.size wr w' → Below w.heap.size w w'):=fun w' hb => zab B.out hb B.out.size
    have FIT:=zaa (LN.out (by omega))
    have SP:=zaa (RND.out 1 (by omega)).out
    clear G B LN RND
    go_wp2_with fail
    go_region_held3 (fun _ => True) (trivial)
     (first
      | (refine step_copy_splice rfl (.tmp 41) (.tmp 44) 22 22 rfl 3 Tryz.underlying22 szI3 _ _ _ _ _ _ rfl rfl w.heap.size 1 (zir 1) 3 (GW.out _ (by repeat (first | exact Below.refl _ _ | refine Below.drew ?_))) (zgk 1) (zau _) (fun _ => ⟨rfl,_,rfl,CL.out _ (GW.out _ (by repeat (first | exact Below.refl _ _ | refine Below.drew ?_)))⟩) (by rw [FIT.out,zau]; omega) (zhp _) w.heap.size w (BA.out _ (by repeat (first | exact Below.refl _ _ | refine Below.drew ?_))) (Nat.le_refl _) ?_; intro w4 hg4 hb4))
    all_goals
     rw [SP.out] at hg4
     rw [zau]
     have B4:=zaa hb4
     clear hb4 GW BA FIT SP CL
     go_wp2
     go_roundw
     case rel => exact ⟨2,by omega,by go_num,hg4,B4⟩
     case measure => simp [intOf,IntKind.wrap_i64]
   ·have GW:Hid (∀ w',Below wr.heap.size wr w' → w'.heap[w.heap.size]? = some (.cells (zir 2).toArray 3 (0,0))):=fun w' hb => (hb.block _ (Array.getElem?_eq_some_iff.1 G.out).1).trans G.out
    have BA:Hid (∀ w',Below wr.heap.size wr w' → Below w.heap.size w w'):=fun w' hb => zab B.out hb B.out.size
    have FIT:=zaa (LN.out (by omega))
    have SP:=zaa (RND.out 2 (by omega)).out
    clear G B LN RND
    go_wp2_with fail
    go_region_held3 (fun _ => True) (trivial)
     (first
      | (refine step_copy_splice rfl (.tmp 41) (.tmp 44) 22 22 rfl 3 Tryz.underlying22 szI3 _ _ _ _ _ _ rfl rfl w.heap.size 2 (zir 2) 3 (GW.out _ (by repeat (first | exact Below.refl _ _ | refine Below.drew ?_))) (zgk 2) (zau _) (fun _ => ⟨rfl,_,rfl,CL.out _ (GW.out _ (by repeat (first | exact Below.refl _ _ | refine Below.drew ?_)))⟩) (by rw [FIT.out,zau]; omega) (zhp _) w.heap.size w (BA.out _ (by repeat (first | exact Below.refl _ _ | refine Below.drew ?_))) (Nat.le_refl _) ?_; intro w4 hg4 hb4))
    all_goals
     rw [SP.out] at hg4
     rw [zau]
     have B4:=zaa hb4
     clear hb4 GW BA FIT SP CL
     go_wp2
     go_roundw
     case rel => exact ⟨4,by omega,by go_num,hg4,B4⟩
     case measure => simp [intOf,IntKind.wrap_i64]
   ·have GW:Hid (∀ w',Below wr.heap.size wr w' → w'.heap[w.heap.size]? = some (.cells (zir 4).toArray 3 (0,0))):=fun w' hb => (hb.block _ (Array.getElem?_eq_some_iff.1 G.out).1).trans G.out
    have BA:Hid (∀ w',Below wr.heap.size wr w' → Below w.heap.size w w'):=fun w' hb => zab B.out hb B.out.size
    have FIT:=zaa (LN.out (by omega))
    have SP:=zaa (RND.out 4 (by omega)).out
    clear G B LN RND
    go_wp2_with fail
    go_region_held3 (fun _ => True) (trivial)
     (first
      | (refine step_copy_splice rfl (.tmp 41) (.tmp 44) 22 22 rfl 3 Tryz.underlying22 szI3 _ _ _ _ _ _ rfl rfl w.heap.size 4 (zir 4) 3 (GW.out _ (by repeat (first | exact Below.refl _ _ | refine Below.drew ?_))) (zgk 4) (zau _) (fun _ => ⟨rfl,_,rfl,CL.out _ (GW.out _ (by repeat (first | exact Below.refl _ _ | refine Below.drew ?_)))⟩) (by rw [FIT.out,zau]; omega) (zhp _) w.heap.size w (BA.out _ (by repeat (first | exact Below.refl _ _ | refine Below.drew ?_))) (Nat.le_refl _) ?_; intro w4 hg4 hb4))
    all_goals
     rw [SP.out] at hg4
     rw [zau]
     have B4:=zaa hb4
     clear hb4 GW BA FIT SP CL
     go_wp2
     go_roundw
     case rel => exact ⟨8,by omega,by go_num,hg4,B4⟩
     case measure => simp [intOf,IntKind.wrap_i64]
   ·have GW:Hid (∀ w',Below wr.heap.size wr w' → w'.heap[w.heap.size]? = some (.cells (zir 8).toArray 3 (0,0))):=fun w' hb => (hb.block _ (Array.getElem?_eq_some_iff.1 G.out).1).trans G.out
    have BA:Hid (∀ w',Below wr.heap.size wr w' → Below w.heap.size w w'):=fun w' hb => zab B.out hb B.out.size
    have FIT:=zaa (LN.out (by omega))
    have SP:=zaa (RND.out 8 (by omega)).out
    clear G B LN RND
    go_wp2_with fail
    go_region_held3 (fun _ => True) (trivial)
     (first
      | (refine step_copy_splice rfl (.tmp 41) (.tmp 44) 22 22 rfl 3 Tryz.underlying22 szI3 _ _ _ _ _ _ rfl rfl w.heap.size 8 (zir 8) 3 (GW.out _ (by repeat (first | exact Below.refl _ _ | refine Below.drew ?_))) (zgk 8) (zau _) (fun _ => ⟨rfl,_,rfl,CL.out _ (GW.out _ (by repeat (first | exact Below.refl _ _ | refine Below.drew ?_)))⟩) (by rw [FIT.out,zau]; omega) (zhp _) w.heap.size w (BA.out _ (by repeat (first | exact Below.refl _ _ | refine Below.drew ?_))) (Nat.le_refl _) ?_; intro w4 hg4 hb4))
    all_goals
     rw [SP.out] at hg4
     rw [zau]
     have B4:=zaa hb4
     clear hb4 GW BA FIT SP CL
     go_wp2
     go_roundw
     case rel => exact ⟨16,by omega,by go_num,hg4,B4⟩
     case measure => simp [intOf,IntKind.wrap_i64]
   ·have GW:Hid (∀ w',Below wr.heap.size wr w' → w'.heap[w.heap.size]? = some (.cells (zir 16).toArray 3 (0,0))):=fun w' hb => (hb.block _ (Array.getElem?_eq_some_iff.1 G.out).1).trans G.out
    have BA:Hid (∀ w',Below wr.heap.size wr w' → Below w.heap.size w w'):=fun w' hb => zab B.out hb B.out.size
    have FIT:=zaa (LN.out (by omega))
    have SP:=zaa (RND.out 16 (by omega)).out
    clear G B LN RND
    go_wp2_with fail
    go_region_held3 (fun _ => True) (trivial)
     (first
      | (refine step_copy_splice rfl (.tmp 41) (.tmp 44) 22 22 rfl 3 Tryz.underlying22 szI3 _ _ _ _ _ _ rfl rfl w.heap.size 16 (zir 16) 3 (GW.out _ (by repeat (first | exact Below.refl _ _ | refine Below.drew ?_))) (zgk 16) (zau _) (fun _ => ⟨rfl,_,rfl,CL.out _ (GW.out _ (by repeat (first | exact Below.refl _ _ | refine Below.drew ?_)))⟩) (by rw [FIT.out,zau]; omega) (zhp _) w.heap.size w (BA.out _ (by repeat (first | exact Below.refl _ _ | refine Below.drew ?_))) (Nat.le_refl _) ?_; intro w4 hg4 hb4))
    all_goals
     rw [SP.out] at hg4
     rw [zau]
     have B4:=zaa hb4
     clear hb4 GW BA FIT SP CL
     go_wp2
     go_roundw
     case rel => exact ⟨32,by omega,by go_num,hg4,B4⟩
     case measure => simp [intOf,IntKind.wrap_i64]
   ·have GW:Hid (∀ w',Below wr.heap.size wr w' → w'.heap[w.heap.size]? = some (.cells (zir 32).toArray 3 (0,0))):=fun w' hb => (hb.block _ (Array.getElem?_eq_some_iff.1 G.out).1).trans G.out
    have BA:Hid (∀ w',Below wr.heap.size wr w' → Below w.heap.size w w'):=fun w' hb => zab B.out hb B.out.size
    have FIT:=zaa (LN.out (by omega))
    have SP:=zaa (RND.out 32 (by omega)).out
    clear G B LN RND
    go_wp2_with fail
    go_region_held3 (fun _ => True) (trivial)
     (first
      | (refine step_copy_splice rfl (.tmp 41) (.tmp 44) 22 22 rfl 3 Tryz.underlying22 szI3 _ _ _ _ _ _ rfl rfl w.heap.size 32 (zir 32) 3 (GW.out _ (by repeat (first | exact Below.refl _ _ | refine Below.drew ?_))) (zgk 32) (zau _) (fun _ => ⟨rfl,_,rfl,CL.out _ (GW.out _ (by repeat (first | exact Below.refl _ _ | refine Below.drew ?_)))⟩) (by rw [FIT.out,zau]; omega) (zhp _) w.heap.size w (BA.out _ (by repeat (first | exact Below.refl _ _ | refine Below.drew ?_))) (Nat.le_refl _) ?_; intro w4 hg4 hb4))
    all_goals
     rw [SP.out] at hg4
     rw [zau]
     have B4:=zaa hb4
     clear hb4 GW BA FIT SP CL
     go_wp2
     go_roundw
     case rel => exact ⟨64,by omega,by go_num,hg4,B4⟩
     case measure => simp [intOf,IntKind.wrap_i64]
   ·have GW:Hid (∀ w',Below wr.heap.size wr w' → w'.heap[w.heap.size]? = some (.cells (zir 64).toArray 3 (0,0))):=fun w' hb => (hb.block _ (Array.getElem?_eq_some_iff.1 G.out).1).trans G.out
    have BA:Hid (∀ w',Below wr.heap.size wr w' → Below w.heap.size w w'):=fun w' hb => zab B.out hb B.out.size
    have FIT:=zaa (LN.out (by omega))
    have SP:=zaa (RND.out 64 (by omega)).out
    clear G B LN RND
    go_wp2_with fail
    go_region_held3 (fun _ => True) (trivial)
     (first
      | (refine step_copy_splice rfl (.tmp 41) (.tmp 44) 22 22 rfl 3 Tryz.underlying22 szI3 _ _ _ _ _ _ rfl rfl w.heap.size 64 (zir 64) 3 (GW.out _ (by repeat (first | exact Below.refl _ _ | refine Below.drew ?_))) (zgk 64) (zau _) (fun _ => ⟨rfl,_,rfl,CL.out _ (GW.out _ (by repeat (first | exact Below.refl _ _ | refine Below.drew ?_)))⟩) (by rw [FIT.out,zau]; omega) (zhp _) w.heap.size w (BA.out _ (by repeat (first | exact Below.refl _ _ | refine Below.drew ?_))) (Nat.le_refl _) ?_; intro w4 hg4 hb4))
    all_goals
     rw [SP.out] at hg4
     rw [zau]
     have B4:=zaa hb4
     clear hb4 GW BA FIT SP CL
     go_wp2
     go_roundw
     case rel => exact ⟨128,by omega,by go_num,hg4,B4⟩
     case measure => simp [intOf,IntKind.wrap_i64]
set_option maxRecDepth 100000 in
set_option maxHeartbeats 4000000 in
theorem zic (w:World):Calls Tryz.prog 57 #[] w fun e w' => ∃ v',e = .returned v' ∧ Row w' 3 1 w.heap.size w'.heap.size v' (zgq 128).length (zav (zgq 128)) ∧ Below w.heap.size w w':=by
 obtain ⟨W,hW⟩:∃ W,W = w.alloc (.cells #[.int .i64 1] 3):=⟨_,rfl⟩
 have BW:Hid (Below w.heap.size w W):=by rw [hW]; exact (Below.refl _ _).alloc (Nat.le_refl _) _
 have L:=zaa (yahf w.heap.size W (fun w' hb => by
  have q:w'.heap[w.heap.size]? = some (.cells #[.int .i64 1] 3 (0,0)):=(hb.block _ (by rw [hW]; simp)).trans (by rw [hW]; exact zag rfl)
  simp [World.cell?,q]))
 rw [zkz]
 generalize zgq 128 = H at *
 go_enter Tryz.func57,Tryz.ntmps57
 go_wp2_with fail
 rw [← hW]
 clear hW
 refine L.out.mono ?_
 rintro e w1 ⟨v1,rfl,hr1,hb1⟩
 have R1:=zaa (hr1.wide (lo':=w.heap.size) BW.out.size (Nat.le_refl _))
 have B1:=zaa (zab BW.out hb1 BW.out.size)
 obtain ⟨-,aN,cN,hvN,-⟩:=hr1.rd
 subst hvN
 clear hr1 hb1
 go_wp2
 go_ret
 exact ⟨_,rfl,R1.out,B1.out⟩
theorem NHL:(zgq 128).length = 128:=by unfold zgq; simp
theorem NDL:3 ≤ ndW.length ∧ 3 ≤ zs32.length:=⟨by rw [yahw]; decide,by rw [ztn]; decide⟩
set_option maxRecDepth 100000 in
set_option maxHeartbeats 16000000 in
theorem yabp (w:World):Calls Tryz.prog 94 #[] w fun e w' => ∃ v',e = .returned v' ∧ RdFs w' v' ndW zs32 (zgq 128) [] 0 0 [] false ∧ Below w.heap.size w w':=by
 obtain ⟨V,hV⟩:∃ V,V = w.alloc (.cells yaqh.toArray 51):=⟨_,rfl⟩
 have YV:Hid (V.heap[w.heap.size]? = some (.cells yaqh.toArray 51 (0,0))):=by rw [hV]; exact zag rfl
 have BV:Hid (Below w.heap.size w V):=by rw [hV]; exact (Below.refl _ _).alloc (Nat.le_refl _) _
 have zV:Hid (w.heap.size < V.heap.size):=by rw [hV]; simp [Hid]
 unfold yaqh at hV
 go_enter Tryz.func94,Tryz.ntmps94
 go_upto_region 1 with fail
 rw [← hV]
 clear hV
 go_wp2_with fail
 refine (zlb V).mono ?_
 rintro e w1 ⟨v1,rfl,hr1,hb1⟩
 obtain ⟨iW,jW,iP,jP,iS,jS,iQ,jQ,rfl,-,-⟩:=hr1.form
 have D1:=zaa hr1
 have B1:=zaa hb1
 clear hr1 hb1
 go_wp2_with fail
 refine (yagy w1).mono ?_
 rintro e w2 ⟨v2,rfl,hr2,hb2⟩
 have R2:Hid (RdI w2 v2 (zgq 128)):=hr2.rd
 obtain ⟨-,iH,jH,hv2,-⟩:=hr2.rd
 subst hv2
 have D2:=zaa (D1.out.below hb2)
 have B2:=zaa (zab B1.out hb2 B1.out.size)
 have z2:Hid (V.heap.size ≤ w2.heap.size):=B2.out.size
 clear hr2 hb2 D1 B1
 have Y2:=zaa ((B2.out.block w.heap.size zV.out).trans YV.out)
 obtain ⟨X,hX⟩:∃ X,X = (w2.alloc (.cells #[] 104)).alloc (.cells #[] 9):=⟨_,rfl⟩
 have BX:Hid (Below w2.heap.size w2 X):=by rw [hX]; exact ((Below.refl _ _).alloc (Nat.le_refl _) _).alloc (by simp) _
 have YX:Hid (X.heap[w.heap.size]? = some (.cells yaqh.toArray 51 (0,0))):=by rw [hX]; exact zal (zal Y2.out)
 have YX':X.heap[w.heap.size]? = some (.cells #[.slice none 0 0,.slice none 0 0,.slice none 0 0,.slice none 0 0,.slice none 0 0,.slice none 0 0,.int .i64 0,.int .i64 0,.slice none 0 0,.bool false] 51 (0,0)):=YX.out
 obtain ⟨x0,x1,x2,x3,x4,x5,x6,x7,x8,x9,g0,g1,g2,g3,g4,g5,g6,g7,g8,g9⟩:=zam YX'
 clear YX'
 have O4:=zaa (zfn X w.heap.size (.slice iW ndW.length jW) (.slice iP 0 jP) (.slice iS zs32.length jS) (.slice iQ 0 jQ) (.slice iH (zgq 128).length jH) (.slice (some ⟨w2.heap.size,0,none⟩) 0 0) (.int .i64 0) (.int .i64 0) (.slice (some ⟨w2.heap.size + 1,0,none⟩) 0 0) (.bool false))
 have S4:=zaa (Soft.outside O4.out YX.out rfl)
 have SS:=zaa ((Soft.of_below BX.out).trans S4.out)
 have B3:=zaa (zab (zab BV.out B2.out BV.out.size) BX.out (by have q:=zV.out; have q1:=z2.out; omega))
 have B4:=zaa (B3.out.trans (O4.out.below (B:=w.heap.size) (Nat.le_refl _) B3.out.size))
 have F4:Hid (RdFs (zet X w.heap.size (.slice iW ndW.length jW) (.slice iP 0 jP) (.slice iS zs32.length jS) (.slice iQ 0 jQ) (.slice iH (zgq 128).length jH) (.slice (some ⟨w2.heap.size,0,none⟩) 0 0) (.int .i64 0) (.int .i64 0) (.slice (some ⟨w2.heap.size + 1,0,none⟩) 0 0) (.bool false)) (.agg #[.slice iW ndW.length jW,.slice iP 0 jP,.slice iS zs32.length jS,.slice iQ 0 jQ,.slice iH (zgq 128).length jH,.slice (some ⟨w2.heap.size,0,none⟩) 0 0,.int .i64 0,.int .i64 0,.slice (some ⟨w2.heap.size + 1,0,none⟩) 0 0,.bool false]) ndW zs32 (zgq 128) [] 0 0 [] false) :=
  ⟨iW,jW,iP,jP,iS,jS,iQ,jQ,iH,jH,_,_,_,_,rfl,D2.out.soft SS.out NDL.1 NDL.2,RdI.soft R2.out SS.out (by rw [NHL]; decide),⟨rfl,_,_,rfl,⟨Nat.le_refl _,fun e => by cases e⟩,fun h => absurd h (by simp)⟩,⟨rfl,_,_,rfl,⟨Nat.le_refl _,fun e => by cases e⟩,fun h => absurd h (by simp)⟩⟩
 clear O4 S4 SS B3 BX YX D2 R2 Y2
 subst hX
 go_wp2
 refine bodyPost_ret (v:=.agg #[.slice iW ndW.length jW,.slice iP 0 jP,.slice iS zs32.length jS,.slice iQ 0 jQ,.slice iH (zgq 128).length jH,.slice (some ⟨w2.heap.size,0,none⟩) 0 0,.int .i64 0,.int .i64 0,.slice (some ⟨w2.heap.size + 1,0,none⟩) 0 0,.bool false]) (by simp [results,Tryz.results94,go_sem,x0,x1,x2,x3,x4,x5,x6,x7,x8,x9]) rfl ?_
 exact ⟨_,rfl,F4.out,B4.out⟩
def zud (ps:List Se) (k:Nat):Bool:=ps.any (fun p => p.at_ == (k:Int))
def zar (ps:List Se) (m:Nat):List Nat:=(List.range m).filter (zud ps)
def zcr (ps:List Se) (m:Nat):List Int:=(zar ps m).map (fun (k:Nat) => (k:Int))
theorem zrx (ps:List Se) (m:Nat):zar ps (m + 1) = if zud ps m = true then zar ps m ++ [m] else zar ps m:=by
 unfold zar
 rw [List.range_succ,List.filter_append]
 by_cases h:zud ps m = true
 ·rw [if_pos h]; simp [h]
 ·rw [if_neg h]; simp [h]
theorem zyx {ps:List Se} {m:Nat} (h:zud ps m = true):zcr ps (m + 1) = zcr ps m ++ [(m:Int)]:=by
 unfold zcr
 rw [zrx,if_pos h,List.map_append]
 rfl
theorem zsp {ps:List Se} {m:Nat} (h:zud ps m = false):zcr ps (m + 1) = zcr ps m:=by
 unfold zcr
 rw [zrx,if_neg (by rw [h]; simp)]
theorem zob (ps:List Se) (m:Nat):(zcr ps m).length ≤ m:=by
 unfold zcr zar
 rw [List.length_map]
 have:=List.length_filter_le (zud ps) (List.range m)
 simpa using this
theorem yaoq {ps:List Se} {m j:Nat} (hj:j < ps.length) (h:ps[j].at_ = (m:Int)):zud ps m = true:=by
 unfold zud
 rw [List.any_eq_true]
 exact ⟨ps[j],List.getElem_mem hj,by simpa using h⟩
theorem yajl {ps:List Se} {m:Nat} (h:∀ j (hj:j < ps.length),¬ ps[j].at_ = (m:Int)):zud ps m = false:=by
 unfold zud
 rw [List.any_eq_false]
 intro p hp
 obtain ⟨i,hi,rfl⟩:=List.getElem_of_mem hp
 simpa using h i hi
set_option maxRecDepth 100000 in
set_option maxHeartbeats 4000000 in
theorem zvp (v:Value) (ws:List Int) (ps:List Se) (w:World) (h:RdBlk w v ws ps) (hp:ps.length ≤ 1048576) :
  Calls Tryz.prog 121 #[v] w fun e w' => ∃ v',e = .returned v' ∧ Row w' 3 1 w.heap.size w'.heap.size v' (zcr ps 32).length (zav (zcr ps 32)) ∧ Below w.heap.size w w':=by
 obtain ⟨vW,vP,rfl,h1,h2⟩:=h
 obtain ⟨aW,cW,rfl,_⟩:=h1.shape
 obtain ⟨aP,cP,rfl,_,hcP⟩:=h2.shape
 have HP:=zaa hcP
 clear h1 h2 hcP
 have hb0:Below w.heap.size w (w.alloc (.cells #[.slice aW ws.length cW,.slice aP ps.length cP] 43)):=(Below.refl _ _).alloc (Nat.le_refl _) _
 have ho:((w.alloc (.cells #[.slice aW ws.length cW,.slice aP ps.length cP] 43)).alloc (.cells #[] 3)).ownsRow (w.heap.size + 1) 3 1 (.slice (some ⟨w.heap.size + 1,0,none⟩) 0 0) 0 []:=by
  simpa using World.ownsRow_lit (base:=w.heap.size + 1) (e:=3) (size:=1) (w.alloc (.cells #[.slice aW ws.length cW,.slice aP ps.length cP] 43)) #[] 0 (by simp) (by simp) rfl
 have START:=zaa (And.intro ho (And.intro (zal (o:=.cells #[] 3) (zag (w:=w) (o:=.cells #[.slice aW ws.length cW,.slice aP ps.length cP] 43) rfl)) (hb0.alloc (by simp) (.cells #[] 3))))
 clear hb0 ho
 go_enter Tryz.func121,Tryz.ntmps121
 go_wp2
 go_loopw [3,4,5] (fun vL i _ wr => ∃ m:Nat,m ≤ 32 ∧ i = .int .i64 m ∧ Hid (wr.ownsRow (w.heap.size + 1) 3 1 vL (zcr ps m).length (zav (zcr ps m)) ∧ wr.heap[w.heap.size]? = some (.cells #[.slice aW ws.length cW,.slice aP ps.length cP] 43 (0,0)) ∧ Below w.heap.size w wr) ∧ w.heap.size + 1 ≤ wr.heap.size) (fun _ i _ _ => 32 - (intOf i).toNat)
 case atStart => exact ⟨0,by omega,rfl,⟨by simpa [zcr,zar,zav] using START.out.1,START.out.2⟩,by simp⟩
 case round =>
  obtain ⟨m,hm,rfl,I,hz⟩:=hrel
  obtain ⟨y1,y2,y3,y4⟩:=zad I.out.2.1
  by_cases hlt:m < 32
  ·go_wp2
   go_loop [3,5] (fun vL i => ∃ n:Nat,n ≤ ps.length ∧ i = .int .i64 n ∧ vL = u3 ∧ Hid (∀ j (hj:j < ps.length),j < n → ¬ ps[j].at_ = (m:Int))) (fun _ i => ps.length - (intOf i).toNat)
   case atStart => exact ⟨0,by omega,rfl,rfl,fun j _ h => absurd h (by omega)⟩
   case round =>
    obtain ⟨n,hn,rfl,rfl,H⟩:=hrel
    by_cases hlt2:n < ps.length
    ·obtain ⟨b,o,rfl,hbl,hcell⟩:=HP.out (by omega)
     have d0:=(I.out.2.2.cell (p:=⟨b,o + n * 2,none⟩) hbl).trans (hcell n hlt2).1
     clear hcell
     by_cases c:ps[n].at_ = (m:Int)
     ·have c':(ps[n].at_ == (m:Int)) = true:=by simpa using c
      have E:=zaa (zyx (yaoq hlt2 c))
      clear c H
      have O2:=zaa (I.out.1.alloc (.cells #[.int .i64 (m:Int)] 3))
      have HRD:=zaa (znh wr (m:Int))
      have hle:=zob ps m
      go_wp2_with (at_builtin; refine zak _ rfl (.tmp 26) (.tmp 28) 22 rfl (w.heap.size + 1) 3 (.int .i64 0) 1 8 Tryz.underlying22 zga rfl (by decide) _ _ _ rfl O2.out _ 1 _ rfl HRD.out (by simp [Value.oneCell']) (by simp [maxLen]; omega) (by omega) (by simp; omega) ?_)
      intro vN wN hownN hgrN
      have hl:=fun k hk => (O2.out.lt k hk).1
      have hzN:=hgrN.size
      simp only [World.size_alloc] at hzN
      have G:Hid (wN.ownsRow (w.heap.size + 1) 3 1 vN (zcr ps (m + 1)).length (zav (zcr ps (m + 1))) ∧ wN.heap[w.heap.size]? = some (.cells #[.slice aW ws.length cW,.slice (some ⟨b,o,none⟩) ps.length cP] 43 (0,0)) ∧ Below w.heap.size w wN):=by
       refine ⟨?_,(hgrN.block w.heap.size (by simp; omega) (fun e => by have:=hl _ e.symm; omega)).trans (zal I.out.2.1),(I.out.2.2.alloc (by omega) (.cells #[.int .i64 (m:Int)] 3)).grown hgrN (by simp; omega) (fun k hk => by have:=hl k hk; omega)⟩
       rw [E.out,zhr,List.length_append]
       exact hownN
      clear hownN hgrN hl
      go_wp2
      go_roundw
      case rel => exact ⟨m + 1,by omega,by go_num,G,by omega⟩
      case measure => simp [intOf]; omega
     ·have c':(ps[n].at_ == (m:Int)) = false:=by simpa using c
      have C:=zaa c
      clear c
      go_wp2
      go_round
      case rel =>
       refine ⟨n + 1,by omega,by go_num,rfl,fun j hj hjn => ?_⟩
       by_cases e:j = n
       ·subst e; exact C.out
       ·exact H.out j hj (by omega)
      case measure => simp [intOf]; omega
    ·have E:=zaa (zsp (yajl (fun j hj => H.out j hj (by omega))))
     clear H
     go_wp2
     go_roundw
     case rel => exact ⟨m + 1,by omega,by go_num,by rw [E.out]; exact I,hz⟩
     case measure => simp [intOf]; omega
  ·have e:m = 32:=by omega
   subst e
   obtain ⟨aL,cL,hvL⟩:=RdI.form (zai I.out.1).rd rfl
   subst hvL
   go_wp2
   go_ret
   exact ⟨_,rfl,(zai I.out.1).wide (by omega) (Nat.le_refl _),I.out.2.2⟩
def yahg (ws:List Int) (ps:List Se):List Int:=if zbp ws ps = true then zcr ps 32 else []
theorem yaee {ws:List Int} {ps:List Se} (h:zbp ws ps = false):barC ws ps = 1 ∧ yahg ws ps = []:=by
 unfold barC yahg
 rw [h]
 exact ⟨rfl,rfl⟩
theorem yaal {ws:List Int} {ps:List Se} (h:zbp ws ps = true):barC ws ps = 0 ∧ yahg ws ps = zcr ps 32:=by
 unfold barC yahg
 rw [h]
 exact ⟨rfl,rfl⟩
end Go.Proofs.YtlkmnpanddchdaaGreatDoor

namespace Go.Proofs.YtlkmnpanddchdaaGreatDoor
def zeg (a:Nat) (s:Int × Int) (p:Se):Int × Int:=if p.at_ = (a:Int) ∧ 0 < s.2 then (p.val,s.2 - 1) else s
def zea (a:Nat) (s:Int × Int) (ps:List Se):Int × Int:=ps.foldl (zeg a) s
theorem yalp (a:Nat) (s:Int × Int):zea a s [] = s:=rfl
theorem zsg (a:Nat) (s:Int × Int) (ps:List Se) (p:Se):zea a s (ps ++ [p]) = zeg a (zea a s ps) p:=by simp [zea]
theorem zwf (a:Nat) (s:Int × Int) (ps qs:List Se):zea a s (ps ++ qs) = zea a (zea a s ps) qs:=by simp [zea]
theorem zmn {a:Nat} {s:Int × Int} (h:¬ 0 < s.2):∀ ps:List Se,zea a s ps = s
 | [] => rfl
 | p :: ps => by
  show zea a (zeg a s p) ps = s
  have e:zeg a s p = s:=by unfold zeg; rw [if_neg (fun x => h x.2)]
  rw [e]
  exact zmn h ps
theorem znf {a:Nat}:∀ (ps:List Se) (s:Int × Int),0 ≤ s.2 → 0 ≤ (zea a s ps).2 ∧ (zea a s ps).2 ≤ s.2
 | [],s,h => ⟨h,Int.le_refl _⟩
 | p :: ps,s,h => by
  show 0 ≤ (zea a (zeg a s p) ps).2 ∧ (zea a (zeg a s p) ps).2 ≤ s.2
  have h1:0 ≤ (zeg a s p).2 ∧ (zeg a s p).2 ≤ s.2:=by
   unfold zeg
   split
   ·rename_i c; exact ⟨by have:=c.2; show 0 ≤ s.2 - 1; omega,by show s.2 - 1 ≤ s.2; omega⟩
   ·exact ⟨h,Int.le_refl _⟩
  have:=znf (a:=a) ps (zeg a s p) h1.1
  omega
def spE (us:List Nat) (zs:List Int) (ps:List Se) (ws:List Int):Nat → List Int
 | 0 => ws
 | i + 1 => (spE us zs ps ws i).set (us[i]?.getD 0) (zea (us[i]?.getD 0) ((spE us zs ps ws i)[us[i]?.getD 0]?.getD 0,zck zs i) ps).1
theorem zim (us:List Nat) (zs:List Int) (ps:List Se) (ws:List Int):∀ i,(spE us zs ps ws i).length = ws.length
 | 0 => rfl
 | i + 1 => by rw [spE,List.length_set]; exact zim us zs ps ws i
theorem yaeo (ps:List Se) (n i:Nat) (hi:i < (zar ps n).length):(zar ps n)[i]?.getD 0 < n:=by
 rw [List.getElem?_eq_getElem hi,Option.getD_some]
 have:=List.getElem_mem hi
 unfold zar at this
 rw [List.mem_filter,List.mem_range] at this
 exact this.1
theorem zdf (ps:List Se) (n:Nat):(zcr ps n).length = (zar ps n).length:=by simp [zcr]
theorem zub (ps:List Se) (n i:Nat) (hi:i < (zcr ps n).length):(zcr ps n)[i] = (((zar ps n)[i]?.getD 0:Nat):Int):=by
 have h2:i < (zar ps n).length:=by rw [← zdf]; exact hi
 rw [List.getElem?_eq_getElem h2,Option.getD_some]
 simp [zcr]
end Go.Proofs.YtlkmnpanddchdaaGreatDoor
