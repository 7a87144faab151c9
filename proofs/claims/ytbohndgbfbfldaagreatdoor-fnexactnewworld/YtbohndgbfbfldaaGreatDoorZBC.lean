/- Several texts laid together: TrD, TrE, TrF. -/
import Derived.Test.YtbohndgbfbfldaaGreatDoorZBB
import Derived.Laws.CopyOwn
import Derived.Laws.Cover3
import Derived.Deep.OwnRows
import Derived.Deep.RegionHeld3
import Derived.Deep.DeepCutAuto
set_option maxRecDepth 100000
set_option maxHeartbeats 4000000
namespace Go.Proofs.YtbohndgbfbfldaaGreatDoor
open Go.RowKit
theorem mul_one (w:World):Calls Tryz.prog 191 #[.int .u64 1,.int .u64 128] w fun e w'=>e=.returned (.tuple #[.int .u64 0,.int .u64 128])∧w'=w:=by
 go_enter Tryz.func191,Tryz.ntmps191;go_wp2;go_ret2;exact ⟨rfl,rfl⟩
theorem yacf (w:World):Calls Tryz.prog 156 #[.int .u64 1,.int .u64 128] w fun e w'=>e=.returned (.tuple #[.int .u64 0,.int .u64 128])∧w'=w:=by
 go_enter Tryz.func156,Tryz.ntmps156;go_wp2_with fail;refine (mul_one _).mono ?_;rintro e w' ⟨rfl,hw'⟩;subst w';go_wp2;go_ret2;exact ⟨rfl,rfl⟩
@[go_sem] theorem yaei (a:Option Addr) (l c:Nat) (w:World):(binOp .eql 22 (.slice a l c) (.slice none 0 0)).run Tryz.prog w=.ok (.bool a.isNone) w:=by
 simp only[binOp];simp[run_equal_slice_nil w 22 3 a l c Tryz.underlying22]
def zdi (m:Nat):List Value:=List.replicate m (.int .i64 1)
theorem zan (m:Nat):(zdi m).length=m:=by simp[zdi]
def zeg (n:Nat):List Value:=List.replicate n (.int .i64 1) ++ List.replicate (128 - n) (.int .i64 0)
theorem zva (n:Nat) (h:n≤128):(zeg n).length=128:=by simp[zeg];omega
theorem zyh:(madeCells #[.int .i64 0] 128)=(zeg 0).toArray:=by kernel_rfl
theorem zkf (n m:Nat) (h:n+m≤128):splice (zeg n) n (zdi m)=zeg (n+m):=by
 unfold splice zeg zdi;rw[List.take_left' (by simp),List.drop_append,List.length_replicate,List.drop_of_length_le (by simp),List.drop_replicate,List.length_replicate,List.nil_append,← List.append_assoc,List.replicate_append_replicate];rw[show 128 - n - (n+m - n)=128 - (n+m) by omega]
theorem yaff (n j:Nat) (v:Value) (h:(zdi n)[j]?=some v):(zeg n)[j]?=some v:=by
 unfold zdi at h
 have hj:j < n:=by
  rcases Nat.lt_or_ge j n with q | q
  ·exact q
  ·rw[List.getElem?_eq_none (by simpa using q)] at h
   cases h
 unfold zeg;rw[List.getElem?_append_left (by simpa using hj)];exact h
theorem zea (m:Nat):∀ v∈zdi m,v.oneCell'=true:=fun v hv=>by
 unfold zdi at hv;rw[List.eq_of_mem_replicate hv];rfl
theorem szI3:(Tryz.prog.info? 3).map (·.size)=some 1:=by kernel_rfl
theorem yabu:zeg 128=zbk (zbt 128):=by
 unfold zeg zbt zbk;simp
theorem zzu {w:World} {g n j:Nat} {v:Value} (h:w.heap[g]?=some (.cells (zeg n).toArray 3 (0,0))) (hj:(zdi n)[j]?=some v):w.cell? ((⟨g,0,none⟩:Addr).add j)=some v:=by
 rw[Addr.add_lit,Nat.zero_add];have:=yaff n j v hj;simp only[World.cell?,h];simpa using this
theorem zsr (b:Nat) (w:World) (h:∀ w',Below w.heap.size w w'→w'.cell? ⟨b,0,none⟩=some (.int .i64 1)):Calls Tryz.prog 100 #[.slice (some ⟨b,0,none⟩) 1 1,.int .i64 128] w fun e w'=>∃ v',e=.returned v'∧Row w' 3 1 w.heap.size w'.heap.size v' 128 (zbk (zbt 128))∧Below w.heap.size w w':=by
 have hmk:∀ w:World,(Instr.makeSlice 22 (.int .i64 128) (.int .i64 128)).run Tryz.prog w=.ok (.slice (some ⟨w.heap.size,0,none⟩) 128 128) (w.alloc (.cells (zeg 0).toArray 3)):=fun w=>by
  rw[← zyh];exact run_make_row' (P:=Tryz.prog) 22 3 (.int .i64 0) 8 Tryz.underlying22 zmd rfl .i64 .i64 128 (by omega) (by omega) w
 have HH:=zaa h;clear h
 obtain ⟨W,hW⟩:∃ W,W=w.alloc (.cells (zeg 0).toArray 3):=⟨_,rfl⟩
 have BW:Hid (Below w.heap.size w W):=by rw[hW];exact (Below.refl _ _).alloc (Nat.le_refl _) _
 have HG:Hid (W.heap[w.heap.size]?=some (.cells (zeg 0).toArray 3 (0,0))):=by rw[hW];exact zae rfl
 have hzW:W.heap.size=w.heap.size+1:=by rw[hW];simp
 have HZ:=zaa hzW;clear hzW;go_enter Tryz.func100,Tryz.ntmps100;go_wp2_with fail;refine (yacf _).mono ?_;rintro e w' ⟨rfl,hw'⟩;subst w';go_upto_region 7 with fail;rw[← hW];clear hW hmk
 have SR:Hid (∀ j v,(zdi 1)[j]?=some v→W.cell? ((⟨b,0,none⟩:Addr).add j)=some v):=fun j v hv=>by
  obtain rfl:j=0:=by
   rcases Nat.eq_zero_or_pos j with q | q
   ·exact q
   ·rw[List.getElem?_eq_none (by rw[zan];omega)] at hv;cases hv
  rw[Addr.add_lit,Nat.zero_add,HH.o _ BW.o];exact hv
 go_wp2_with (refine wpList_copy_splice rfl (.tmp 31) (.tmp 32) 22 22 rfl 3 Tryz.underlying22 szI3 _ _ _ _ _ _ rfl rfl w.heap.size 0 (zeg 0) 3 HG.o (zdi 1) rfl (fun _=>⟨rfl,_,rfl,SR.o⟩) (by rw[zva 0 (by omega),zan];omega) (zea 1) w.heap.size w BW.o (Nat.le_refl _) ?_);intro w2 hg2 hb2;rw[zkf 0 1 (by omega)] at hg2;have B2:=zaa hb2;clear hb2 SR HG HH BW;rw[zan];go_wp2
 go_loopw [8] (fun i wr=>∃ n:Nat,(n=1∨n=2∨n=4∨n=8∨n=16∨n=32∨n=64∨n=128)∧i=.int .i64 (n:Int)∧Hid (wr.heap[w.heap.size]?=some (.cells (zeg n).toArray 3 (0,0)))∧Hid (Below w.heap.size w wr)) (fun i _=>128 - (intOf i).toNat)
 case atStart=>exact ⟨1,.inl rfl,rfl,hg2,B2⟩
 case round =>
  obtain ⟨n,hn,rfl,G,B⟩:=hrel;clear hg2 B2
  have RND:Hid (∀ m:Nat,n+m≤128→Hid (splice (zeg n) n (zdi m)=zeg (n+m))):=fun m h=>zkf n m h
  have LN:Hid (n≤128→(zeg n).length=128):=zva n
  have CL:Hid (∀ w':World,w'.heap[w.heap.size]?=some (.cells (zeg n).toArray 3 (0,0))→∀ j v,(zdi n)[j]?=some v→w'.cell? ((⟨w.heap.size,0,none⟩:Addr).add j)=some v):=fun w' h j v hv=>zzu h hv
  by_cases h128:n=128
  ·subst h128
   have RW:Hid (Row wr 3 1 w.heap.size wr.heap.size (.slice (some ⟨w.heap.size,0,none⟩) 128 128) 128 (zbk (zbt 128))):=by
    refine ⟨⟨by simp[zbk,zlj],.inr ⟨_,128,_,rfl,Nat.le_refl _,G.o,Nat.le_refl _,by simp[maxLen],by rw[List.size_toArray,LN.o (Nat.le_refl _)],?_⟩⟩,fun k hk=>by cases hk;exact (Array.getElem?_eq_some_iff.1 G.o).1⟩;rw[List.toList_toArray,List.take_of_length_le (by rw[LN.o (Nat.le_refl _)];omega),yabu]
   clear G RND LN CL hn;go_wp2;go_ret;exact ⟨_,rfl,RW.o,B.o⟩
  ·have h64:n=1∨n=2∨n=4∨n=8∨n=16∨n=32∨n=64:=by omega
   clear hn h128
   rcases h64 with rfl | rfl | rfl | rfl | rfl | rfl | rfl
   ·have GW:Hid (∀ w',Below wr.heap.size wr w'→w'.heap[w.heap.size]?=some (.cells (zeg 1).toArray 3 (0,0))):=fun w' hb=>(hb.block _ (Array.getElem?_eq_some_iff.1 G.o).1).trans G.o
    have BA:Hid (∀ w',Below wr.heap.size wr w'→Below w.heap.size w w'):=fun w' hb=>zab B.o hb B.o.size
    have FIT:=zaa (LN.o (by omega));have SP:=zaa (RND.o 1 (by omega)).o;clear G B LN RND;go_wp2_with fail
    go_region_held3 (fun _=>True) (trivial)
     (first
      | (refine step_copy_splice rfl (.tmp 41) (.tmp 44) 22 22 rfl 3 Tryz.underlying22 szI3 _ _ _ _ _ _ rfl rfl w.heap.size 1 (zeg 1) 3 (GW.o _ (by repeat (first | exact Below.refl _ _ | refine Below.drew ?_))) (zdi 1) (zan _) (fun _=>⟨rfl,_,rfl,CL.o _ (GW.o _ (by repeat (first | exact Below.refl _ _ | refine Below.drew ?_)))⟩) (by rw[FIT.o,zan];omega) (zea _) w.heap.size w (BA.o _ (by repeat (first | exact Below.refl _ _ | refine Below.drew ?_))) (Nat.le_refl _) ?_;intro w4 hg4 hb4))
    all_goals
     rw[SP.o] at hg4;rw[zan];have B4:=zaa hb4;clear hb4 GW BA FIT SP CL;go_wp2
     go_roundw
     case rel=>exact ⟨2,by omega,by go_num,hg4,B4⟩
     case measure=>simp[intOf,IntKind.wrap_i64]
   ·have GW:Hid (∀ w',Below wr.heap.size wr w'→w'.heap[w.heap.size]?=some (.cells (zeg 2).toArray 3 (0,0))):=fun w' hb=>(hb.block _ (Array.getElem?_eq_some_iff.1 G.o).1).trans G.o
    have BA:Hid (∀ w',Below wr.heap.size wr w'→Below w.heap.size w w'):=fun w' hb=>zab B.o hb B.o.size
    have FIT:=zaa (LN.o (by omega));have SP:=zaa (RND.o 2 (by omega)).o;clear G B LN RND;go_wp2_with fail
    go_region_held3 (fun _=>True) (trivial)
     (first
      | (refine step_copy_splice rfl (.tmp 41) (.tmp 44) 22 22 rfl 3 Tryz.underlying22 szI3 _ _ _ _ _ _ rfl rfl w.heap.size 2 (zeg 2) 3 (GW.o _ (by repeat (first | exact Below.refl _ _ | refine Below.drew ?_))) (zdi 2) (zan _) (fun _=>⟨rfl,_,rfl,CL.o _ (GW.o _ (by repeat (first | exact Below.refl _ _ | refine Below.drew ?_)))⟩) (by rw[FIT.o,zan];omega) (zea _) w.heap.size w (BA.o _ (by repeat (first | exact Below.refl _ _ | refine Below.drew ?_))) (Nat.le_refl _) ?_;intro w4 hg4 hb4))
    all_goals
     rw[SP.o] at hg4;rw[zan];have B4:=zaa hb4;clear hb4 GW BA FIT SP CL;go_wp2
     go_roundw
     case rel=>exact ⟨4,by omega,by go_num,hg4,B4⟩
     case measure=>simp[intOf,IntKind.wrap_i64]
   ·have GW:Hid (∀ w',Below wr.heap.size wr w'→w'.heap[w.heap.size]?=some (.cells (zeg 4).toArray 3 (0,0))):=fun w' hb=>(hb.block _ (Array.getElem?_eq_some_iff.1 G.o).1).trans G.o
    have BA:Hid (∀ w',Below wr.heap.size wr w'→Below w.heap.size w w'):=fun w' hb=>zab B.o hb B.o.size
    have FIT:=zaa (LN.o (by omega));have SP:=zaa (RND.o 4 (by omega)).o;clear G B LN RND;go_wp2_with fail
    go_region_held3 (fun _=>True) (trivial)
     (first
      | (refine step_copy_splice rfl (.tmp 41) (.tmp 44) 22 22 rfl 3 Tryz.underlying22 szI3 _ _ _ _ _ _ rfl rfl w.heap.size 4 (zeg 4) 3 (GW.o _ (by repeat (first | exact Below.refl _ _ | refine Below.drew ?_))) (zdi 4) (zan _) (fun _=>⟨rfl,_,rfl,CL.o _ (GW.o _ (by repeat (first | exact Below.refl _ _ | refine Below.drew ?_)))⟩) (by rw[FIT.o,zan];omega) (zea _) w.heap.size w (BA.o _ (by repeat (first | exact Below.refl _ _ | refine Below.drew ?_))) (Nat.le_refl _) ?_;intro w4 hg4 hb4))
    all_goals
     rw[SP.o] at hg4;rw[zan];have B4:=zaa hb4;clear hb4 GW BA FIT SP CL;go_wp2
     go_roundw
     case rel=>exact ⟨8,by omega,by go_num,hg4,B4⟩
     case measure=>simp[intOf,IntKind.wrap_i64]
   ·have GW:Hid (∀ w',Below wr.heap.size wr w'→w'.heap[w.heap.size]?=some (.cells (zeg 8).toArray 3 (0,0))):=fun w' hb=>(hb.block _ (Array.getElem?_eq_some_iff.1 G.o).1).trans G.o
    have BA:Hid (∀ w',Below wr.heap.size wr w'→Below w.heap.size w w'):=fun w' hb=>zab B.o hb B.o.size
    have FIT:=zaa (LN.o (by omega));have SP:=zaa (RND.o 8 (by omega)).o;clear G B LN RND;go_wp2_with fail
    go_region_held3 (fun _=>True) (trivial)
     (first
      | (refine step_copy_splice rfl (.tmp 41) (.tmp 44) 22 22 rfl 3 Tryz.underlying22 szI3 _ _ _ _ _ _ rfl rfl w.heap.size 8 (zeg 8) 3 (GW.o _ (by repeat (first | exact Below.refl _ _ | refine Below.drew ?_))) (zdi 8) (zan _) (fun _=>⟨rfl,_,rfl,CL.o _ (GW.o _ (by repeat (first | exact Below.refl _ _ | refine Below.drew ?_)))⟩) (by rw[FIT.o,zan];omega) (zea _) w.heap.size w (BA.o _ (by repeat (first | exact Below.refl _ _ | refine Below.drew ?_))) (Nat.le_refl _) ?_;intro w4 hg4 hb4))
    all_goals
     rw[SP.o] at hg4;rw[zan];have B4:=zaa hb4;clear hb4 GW BA FIT SP CL;go_wp2
     go_roundw
     case rel=>exact ⟨16,by omega,by go_num,hg4,B4⟩
     case measure=>simp[intOf,IntKind.wrap_i64]
   ·have GW:Hid (∀ w',Below wr.heap.size wr w'→w'.heap[w.heap.size]?=some (.cells (zeg 16).toArray 3 (0,0))):=fun w' hb=>(hb.block _ (Array.getElem?_eq_some_iff.1 G.o).1).trans G.o
    have BA:Hid (∀ w',Below wr.heap.size wr w'→Below w.heap.size w w'):=fun w' hb=>zab B.o hb B.o.size
    have FIT:=zaa (LN.o (by omega));have SP:=zaa (RND.o 16 (by omega)).o;clear G B LN RND;go_wp2_with fail
    go_region_held3 (fun _=>True) (trivial)
     (first
      | (refine step_copy_splice rfl (.tmp 41) (.tmp 44) 22 22 rfl 3 Tryz.underlying22 szI3 _ _ _ _ _ _ rfl rfl w.heap.size 16 (zeg 16) 3 (GW.o _ (by repeat (first | exact Below.refl _ _ | refine Below.drew ?_))) (zdi 16) (zan _) (fun _=>⟨rfl,_,rfl,CL.o _ (GW.o _ (by repeat (first | exact Below.refl _ _ | refine Below.drew ?_)))⟩) (by rw[FIT.o,zan];omega) (zea _) w.heap.size w (BA.o _ (by repeat (first | exact Below.refl _ _ | refine Below.drew ?_))) (Nat.le_refl _) ?_;intro w4 hg4 hb4))
    all_goals
     rw[SP.o] at hg4;rw[zan];have B4:=zaa hb4;clear hb4 GW BA FIT SP CL;go_wp2
     go_roundw
     case rel=>exact ⟨32,by omega,by go_num,hg4,B4⟩
     case measure=>simp[intOf,IntKind.wrap_i64]
   ·have GW:Hid (∀ w',Below wr.heap.size wr w'→w'.heap[w.heap.size]?=some (.cells (zeg 32).toArray 3 (0,0))):=fun w' hb=>(hb.block _ (Array.getElem?_eq_some_iff.1 G.o).1).trans G.o
    have BA:Hid (∀ w',Below wr.heap.size wr w'→Below w.heap.size w w'):=fun w' hb=>zab B.o hb B.o.size
    have FIT:=zaa (LN.o (by omega));have SP:=zaa (RND.o 32 (by omega)).o;clear G B LN RND;go_wp2_with fail
    go_region_held3 (fun _=>True) (trivial)
     (first
      | (refine step_copy_splice rfl (.tmp 41) (.tmp 44) 22 22 rfl 3 Tryz.underlying22 szI3 _ _ _ _ _ _ rfl rfl w.heap.size 32 (zeg 32) 3 (GW.o _ (by repeat (first | exact Below.refl _ _ | refine Below.drew ?_))) (zdi 32) (zan _) (fun _=>⟨rfl,_,rfl,CL.o _ (GW.o _ (by repeat (first | exact Below.refl _ _ | refine Below.drew ?_)))⟩) (by rw[FIT.o,zan];omega) (zea _) w.heap.size w (BA.o _ (by repeat (first | exact Below.refl _ _ | refine Below.drew ?_))) (Nat.le_refl _) ?_;intro w4 hg4 hb4))
    all_goals
     rw[SP.o] at hg4;rw[zan];have B4:=zaa hb4;clear hb4 GW BA FIT SP CL;go_wp2
     go_roundw
     case rel=>exact ⟨64,by omega,by go_num,hg4,B4⟩
     case measure=>simp[intOf,IntKind.wrap_i64]
   ·have GW:Hid (∀ w',Below wr.heap.size wr w'→w'.heap[w.heap.size]?=some (.cells (zeg 64).toArray 3 (0,0))):=fun w' hb=>(hb.block _ (Array.getElem?_eq_some_iff.1 G.o).1).trans G.o
    have BA:Hid (∀ w',Below wr.heap.size wr w'→Below w.heap.size w w'):=fun w' hb=>zab B.o hb B.o.size
    have FIT:=zaa (LN.o (by omega));have SP:=zaa (RND.o 64 (by omega)).o;clear G B LN RND;go_wp2_with fail
    go_region_held3 (fun _=>True) (trivial)
     (first
      | (refine step_copy_splice rfl (.tmp 41) (.tmp 44) 22 22 rfl 3 Tryz.underlying22 szI3 _ _ _ _ _ _ rfl rfl w.heap.size 64 (zeg 64) 3 (GW.o _ (by repeat (first | exact Below.refl _ _ | refine Below.drew ?_))) (zdi 64) (zan _) (fun _=>⟨rfl,_,rfl,CL.o _ (GW.o _ (by repeat (first | exact Below.refl _ _ | refine Below.drew ?_)))⟩) (by rw[FIT.o,zan];omega) (zea _) w.heap.size w (BA.o _ (by repeat (first | exact Below.refl _ _ | refine Below.drew ?_))) (Nat.le_refl _) ?_;intro w4 hg4 hb4))
    all_goals
     rw[SP.o] at hg4;rw[zan];have B4:=zaa hb4;clear hb4 GW BA FIT SP CL;go_wp2
     go_roundw
     case rel=>exact ⟨128,by omega,by go_num,hg4,B4⟩
     case measure=>simp[intOf,IntKind.wrap_i64]
theorem zhp (w:World):Calls Tryz.prog 44 #[] w fun e w'=>∃ v',e=.returned v'∧Row w' 3 1 w.heap.size w'.heap.size v' (zbt 128).length (zbk (zbt 128))∧Below w.heap.size w w':=by
 obtain ⟨W,hW⟩:∃ W,W=w.alloc (.cells #[.int .i64 1] 3):=⟨_,rfl⟩
 have BW:Hid (Below w.heap.size w W):=by rw[hW];exact (Below.refl _ _).alloc (Nat.le_refl _) _
 have L:=zaa (zsr w.heap.size W (fun w' hb=>by
  have q:w'.heap[w.heap.size]?=some (.cells #[.int .i64 1] 3 (0,0)):=(hb.block _ (by rw[hW];simp)).trans (by rw[hW];exact zae rfl)
  simp[World.cell?,q]))
 rw[zlj];generalize zbt 128=H at *;go_enter Tryz.func44,Tryz.ntmps44;go_wp2_with fail;rw[← hW];clear hW;refine L.o.mono ?_;rintro e w1 ⟨v1,rfl,hr1,hb1⟩;have R1:=zaa (hr1.wide (lo':=w.heap.size) BW.o.size (Nat.le_refl _));have B1:=zaa (zab BW.o hb1 BW.o.size);obtain ⟨-,aN,cN,hvN,-⟩:=hr1.rd;subst hvN;clear hr1 hb1;go_wp2;go_ret;exact ⟨_,rfl,R1.o,B1.o⟩
end Go.Proofs.YtbohndgbfbfldaaGreatDoor
