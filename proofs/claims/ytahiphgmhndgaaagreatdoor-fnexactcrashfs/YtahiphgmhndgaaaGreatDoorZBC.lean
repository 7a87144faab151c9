/- Several texts laid together: TrE, TrF, FqQ, BlkUns, CrashE. -/
import Derived.Test.YtahiphgmhndgaaaGreatDoorZBB
import Derived.Deep.OwnRows
import Derived.Deep.RegionHeld3
import Derived.Deep.DeepCutAuto
import Derived.Test.YtahiphgmhndgaaaGreatDoorZAN
import Derived.Test.YtahiphgmhndgaaaGreatDoorZBA
import Derived.Test.YtahiphgmhndgaaaGreatDoorZAG
import Derived.Test.YtahiphgmhndgaaaGreatDoorZAD
set_option maxRecDepth 100000
set_option maxHeartbeats 16000000
namespace Go.Proofs.YtahiphgmhndgaaaGreatDoor
open Go.RowKit
def zgf (m:Nat):List Value:=List.replicate m (.int .i64 1)
theorem zau (m:Nat):(zgf m).length=m:=by simp[zgf]
def zil (n:Nat):List Value:=List.replicate n (.int .i64 1) ++ List.replicate (128 - n) (.int .i64 0)
theorem yajw (n:Nat) (h:n≤128):(zil n).length=128:=by simp[zil];omega
theorem yamt:(madeCells #[.int .i64 0] 128)=(zil 0).toArray:=by kernel_rfl
theorem zrv (n m:Nat) (h:n+m≤128):splice (zil n) n (zgf m)=zil (n+m):=by
 unfold splice zil zgf;rw[List.take_left' (by simp),List.drop_append,List.length_replicate,List.drop_of_length_le (by simp),List.drop_replicate,List.length_replicate,List.nil_append,← List.append_assoc,List.replicate_append_replicate];rw[show 128 - n - (n+m - n)=128 - (n+m) by omega]
theorem yauz (n j:Nat) (v:Value) (h:(zgf n)[j]?=some v):(zil n)[j]?=some v:=by
 unfold zgf at h
 have hj:j < n:=by
  rcases Nat.lt_or_ge j n with q | q
  ·exact q
  ·rw[List.getElem?_eq_none (by simpa using q)] at h
   cases h
 unfold zil;rw[List.getElem?_append_left (by simpa using hj)];exact h
theorem zht (m:Nat):∀ v∈zgf m,v.oneCell'=true:=fun v hv=>by
 unfold zgf at hv;rw[List.eq_of_mem_replicate hv];rfl
theorem szI3:(Tryz.prog.info? 3).map (·.size)=some 1:=by kernel_rfl
theorem yasy:zil 128=zav (zgn 128):=by
 unfold zil zgn zav;simp
theorem yaqg {w:World} {g n j:Nat} {v:Value} (h:w.heap[g]?=some (.cells (zil n).toArray 3 (0,0))) (hj:(zgf n)[j]?=some v):w.cell? ((⟨g,0,none⟩:Addr).add j)=some v:=by
 rw[Addr.add_lit,Nat.zero_add];have:=yauz n j v hj;simp only[World.cell?,h];simpa using this
theorem yafs (b:Nat) (w:World) (h:∀ w',Below w.heap.size w w'→w'.cell? ⟨b,0,none⟩=some (.int .i64 1)):Calls Tryz.prog 151 #[.slice (some ⟨b,0,none⟩) 1 1,.int .i64 128] w fun e w'=>∃ v',e=.returned v'∧Row w' 3 1 w.heap.size w'.heap.size v' 128 (zav (zgn 128))∧Below w.heap.size w w':=by
 have hmk:∀ w:World,(Instr.makeSlice 22 (.int .i64 128) (.int .i64 128)).run Tryz.prog w=.ok (.slice (some ⟨w.heap.size,0,none⟩) 128 128) (w.alloc (.cells (zil 0).toArray 3)):=fun w=>by
  rw[← yamt];exact run_make_row' (P:=Tryz.prog) 22 3 (.int .i64 0) 8 Tryz.underlying22 zfz rfl .i64 .i64 128 (by omega) (by omega) w
 have HH:=zaa h;clear h
 obtain ⟨W,hW⟩:∃ W,W=w.alloc (.cells (zil 0).toArray 3):=⟨_,rfl⟩
 have BW:Hid (Below w.heap.size w W):=by rw[hW];exact (Below.refl _ _).alloc (Nat.le_refl _) _
 have HG:Hid (W.heap[w.heap.size]?=some (.cells (zil 0).toArray 3 (0,0))):=by rw[hW];exact zag rfl
 have hzW:W.heap.size=w.heap.size+1:=by rw[hW];simp
 have HZ:=zaa hzW;clear hzW;go_enter Tryz.func151,Tryz.ntmps151;go_wp2_with fail;refine (yasf _).mono ?_;rintro e w' ⟨rfl,hw'⟩;subst w';go_upto_region 7 with fail;rw[← hW];clear hW hmk
 have SR:Hid (∀ j v,(zgf 1)[j]?=some v→W.cell? ((⟨b,0,none⟩:Addr).add j)=some v):=fun j v hv=>by
  obtain rfl:j=0:=by
   rcases Nat.eq_zero_or_pos j with q | q
   ·exact q
   ·rw[List.getElem?_eq_none (by rw[zau];omega)] at hv;cases hv
  rw[Addr.add_lit,Nat.zero_add,HH.o _ BW.o];exact hv
 go_wp2_with (refine wpList_copy_splice rfl (.tmp 31) (.tmp 32) 22 22 rfl 3 Tryz.underlying22 szI3 _ _ _ _ _ _ rfl rfl w.heap.size 0 (zil 0) 3 HG.o (zgf 1) rfl (fun _=>⟨rfl,_,rfl,SR.o⟩) (by rw[yajw 0 (by omega),zau];omega) (zht 1) w.heap.size w BW.o (Nat.le_refl _) ?_);intro w2 hg2 hb2;rw[zrv 0 1 (by omega)] at hg2;have B2:=zaa hb2;clear hb2 SR HG HH BW;rw[zau];go_wp2
 go_loopw [8] (fun i wr=>∃ n:Nat,(n=1∨n=2∨n=4∨n=8∨n=16∨n=32∨n=64∨n=128)∧i=.int .i64 (n:Int)∧Hid (wr.heap[w.heap.size]?=some (.cells (zil n).toArray 3 (0,0)))∧Hid (Below w.heap.size w wr)) (fun i _=>128 - (intOf i).toNat)
 case atStart=>exact ⟨1,.inl rfl,rfl,hg2,B2⟩
 case round =>
  obtain ⟨n,hn,rfl,G,B⟩:=hrel;clear hg2 B2
  have RND:Hid (∀ m:Nat,n+m≤128→Hid (splice (zil n) n (zgf m)=zil (n+m))):=fun m h=>zrv n m h
  have LN:Hid (n≤128→(zil n).length=128):=yajw n
  have CL:Hid (∀ w':World,w'.heap[w.heap.size]?=some (.cells (zil n).toArray 3 (0,0))→∀ j v,(zgf n)[j]?=some v→w'.cell? ((⟨w.heap.size,0,none⟩:Addr).add j)=some v):=fun w' h j v hv=>yaqg h hv
  by_cases h128:n=128
  ·subst h128
   have RW:Hid (Row wr 3 1 w.heap.size wr.heap.size (.slice (some ⟨w.heap.size,0,none⟩) 128 128) 128 (zav (zgn 128))):=by
    refine ⟨⟨by simp[zav,zka],.inr ⟨_,128,_,rfl,Nat.le_refl _,G.o,Nat.le_refl _,by simp[maxLen],by rw[List.size_toArray,LN.o (Nat.le_refl _)],?_⟩⟩,fun k hk=>by cases hk;exact (Array.getElem?_eq_some_iff.1 G.o).1⟩;rw[List.toList_toArray,List.take_of_length_le (by rw[LN.o (Nat.le_refl _)];omega),yasy]
   clear G RND LN CL hn;go_wp2;go_ret;exact ⟨_,rfl,RW.o,B.o⟩
  ·have h64:n=1∨n=2∨n=4∨n=8∨n=16∨n=32∨n=64:=by omega
   clear hn h128
   rcases h64 with rfl | rfl | rfl | rfl | rfl | rfl | rfl
   ·have GW:Hid (∀ w',Below wr.heap.size wr w'→w'.heap[w.heap.size]?=some (.cells (zil 1).toArray 3 (0,0))):=fun w' hb=>(hb.block _ (Array.getElem?_eq_some_iff.1 G.o).1).trans G.o
    have BA:Hid (∀ w',Below wr.heap.size wr w'→Below w.heap.size w w'):=fun w' hb=>zab B.o hb B.o.size
    have FIT:=zaa (LN.o (by omega));have SP:=zaa (RND.o 1 (by omega)).o;clear G B LN RND;go_wp2_with fail
    go_region_held3 (fun _=>True) (trivial)
     (first
      | (refine step_copy_splice rfl (.tmp 41) (.tmp 44) 22 22 rfl 3 Tryz.underlying22 szI3 _ _ _ _ _ _ rfl rfl w.heap.size 1 (zil 1) 3 (GW.o _ (by repeat (first | exact Below.refl _ _ | refine Below.drew ?_))) (zgf 1) (zau _) (fun _=>⟨rfl,_,rfl,CL.o _ (GW.o _ (by repeat (first | exact Below.refl _ _ | refine Below.drew ?_)))⟩) (by rw[FIT.o,zau];omega) (zht _) w.heap.size w (BA.o _ (by repeat (first | exact Below.refl _ _ | refine Below.drew ?_))) (Nat.le_refl _) ?_;intro w4 hg4 hb4))
    all_goals
     rw[SP.o] at hg4;rw[zau];have B4:=zaa hb4;clear hb4 GW BA FIT SP CL;go_wp2
     go_roundw
     case rel=>exact ⟨2,by omega,by go_num,hg4,B4⟩
     case measure=>simp[intOf,IntKind.wrap_i64]
   ·have GW:Hid (∀ w',Below wr.heap.size wr w'→w'.heap[w.heap.size]?=some (.cells (zil 2).toArray 3 (0,0))):=fun w' hb=>(hb.block _ (Array.getElem?_eq_some_iff.1 G.o).1).trans G.o
    have BA:Hid (∀ w',Below wr.heap.size wr w'→Below w.heap.size w w'):=fun w' hb=>zab B.o hb B.o.size
    have FIT:=zaa (LN.o (by omega));have SP:=zaa (RND.o 2 (by omega)).o;clear G B LN RND;go_wp2_with fail
    go_region_held3 (fun _=>True) (trivial)
     (first
      | (refine step_copy_splice rfl (.tmp 41) (.tmp 44) 22 22 rfl 3 Tryz.underlying22 szI3 _ _ _ _ _ _ rfl rfl w.heap.size 2 (zil 2) 3 (GW.o _ (by repeat (first | exact Below.refl _ _ | refine Below.drew ?_))) (zgf 2) (zau _) (fun _=>⟨rfl,_,rfl,CL.o _ (GW.o _ (by repeat (first | exact Below.refl _ _ | refine Below.drew ?_)))⟩) (by rw[FIT.o,zau];omega) (zht _) w.heap.size w (BA.o _ (by repeat (first | exact Below.refl _ _ | refine Below.drew ?_))) (Nat.le_refl _) ?_;intro w4 hg4 hb4))
    all_goals
     rw[SP.o] at hg4;rw[zau];have B4:=zaa hb4;clear hb4 GW BA FIT SP CL;go_wp2
     go_roundw
     case rel=>exact ⟨4,by omega,by go_num,hg4,B4⟩
     case measure=>simp[intOf,IntKind.wrap_i64]
   ·have GW:Hid (∀ w',Below wr.heap.size wr w'→w'.heap[w.heap.size]?=some (.cells (zil 4).toArray 3 (0,0))):=fun w' hb=>(hb.block _ (Array.getElem?_eq_some_iff.1 G.o).1).trans G.o
    have BA:Hid (∀ w',Below wr.heap.size wr w'→Below w.heap.size w w'):=fun w' hb=>zab B.o hb B.o.size
    have FIT:=zaa (LN.o (by omega));have SP:=zaa (RND.o 4 (by omega)).o;clear G B LN RND;go_wp2_with fail
    go_region_held3 (fun _=>True) (trivial)
     (first
      | (refine step_copy_splice rfl (.tmp 41) (.tmp 44) 22 22 rfl 3 Tryz.underlying22 szI3 _ _ _ _ _ _ rfl rfl w.heap.size 4 (zil 4) 3 (GW.o _ (by repeat (first | exact Below.refl _ _ | refine Below.drew ?_))) (zgf 4) (zau _) (fun _=>⟨rfl,_,rfl,CL.o _ (GW.o _ (by repeat (first | exact Below.refl _ _ | refine Below.drew ?_)))⟩) (by rw[FIT.o,zau];omega) (zht _) w.heap.size w (BA.o _ (by repeat (first | exact Below.refl _ _ | refine Below.drew ?_))) (Nat.le_refl _) ?_;intro w4 hg4 hb4))
    all_goals
     rw[SP.o] at hg4;rw[zau];have B4:=zaa hb4;clear hb4 GW BA FIT SP CL;go_wp2
     go_roundw
     case rel=>exact ⟨8,by omega,by go_num,hg4,B4⟩
     case measure=>simp[intOf,IntKind.wrap_i64]
   ·have GW:Hid (∀ w',Below wr.heap.size wr w'→w'.heap[w.heap.size]?=some (.cells (zil 8).toArray 3 (0,0))):=fun w' hb=>(hb.block _ (Array.getElem?_eq_some_iff.1 G.o).1).trans G.o
    have BA:Hid (∀ w',Below wr.heap.size wr w'→Below w.heap.size w w'):=fun w' hb=>zab B.o hb B.o.size
    have FIT:=zaa (LN.o (by omega));have SP:=zaa (RND.o 8 (by omega)).o;clear G B LN RND;go_wp2_with fail
    go_region_held3 (fun _=>True) (trivial)
     (first
      | (refine step_copy_splice rfl (.tmp 41) (.tmp 44) 22 22 rfl 3 Tryz.underlying22 szI3 _ _ _ _ _ _ rfl rfl w.heap.size 8 (zil 8) 3 (GW.o _ (by repeat (first | exact Below.refl _ _ | refine Below.drew ?_))) (zgf 8) (zau _) (fun _=>⟨rfl,_,rfl,CL.o _ (GW.o _ (by repeat (first | exact Below.refl _ _ | refine Below.drew ?_)))⟩) (by rw[FIT.o,zau];omega) (zht _) w.heap.size w (BA.o _ (by repeat (first | exact Below.refl _ _ | refine Below.drew ?_))) (Nat.le_refl _) ?_;intro w4 hg4 hb4))
    all_goals
     rw[SP.o] at hg4;rw[zau];have B4:=zaa hb4;clear hb4 GW BA FIT SP CL;go_wp2
     go_roundw
     case rel=>exact ⟨16,by omega,by go_num,hg4,B4⟩
     case measure=>simp[intOf,IntKind.wrap_i64]
   ·have GW:Hid (∀ w',Below wr.heap.size wr w'→w'.heap[w.heap.size]?=some (.cells (zil 16).toArray 3 (0,0))):=fun w' hb=>(hb.block _ (Array.getElem?_eq_some_iff.1 G.o).1).trans G.o
    have BA:Hid (∀ w',Below wr.heap.size wr w'→Below w.heap.size w w'):=fun w' hb=>zab B.o hb B.o.size
    have FIT:=zaa (LN.o (by omega));have SP:=zaa (RND.o 16 (by omega)).o;clear G B LN RND;go_wp2_with fail
    go_region_held3 (fun _=>True) (trivial)
     (first
      | (refine step_copy_splice rfl (.tmp 41) (.tmp 44) 22 22 rfl 3 Tryz.underlying22 szI3 _ _ _ _ _ _ rfl rfl w.heap.size 16 (zil 16) 3 (GW.o _ (by repeat (first | exact Below.refl _ _ | refine Below.drew ?_))) (zgf 16) (zau _) (fun _=>⟨rfl,_,rfl,CL.o _ (GW.o _ (by repeat (first | exact Below.refl _ _ | refine Below.drew ?_)))⟩) (by rw[FIT.o,zau];omega) (zht _) w.heap.size w (BA.o _ (by repeat (first | exact Below.refl _ _ | refine Below.drew ?_))) (Nat.le_refl _) ?_;intro w4 hg4 hb4))
    all_goals
     rw[SP.o] at hg4;rw[zau];have B4:=zaa hb4;clear hb4 GW BA FIT SP CL;go_wp2
     go_roundw
     case rel=>exact ⟨32,by omega,by go_num,hg4,B4⟩
     case measure=>simp[intOf,IntKind.wrap_i64]
   ·have GW:Hid (∀ w',Below wr.heap.size wr w'→w'.heap[w.heap.size]?=some (.cells (zil 32).toArray 3 (0,0))):=fun w' hb=>(hb.block _ (Array.getElem?_eq_some_iff.1 G.o).1).trans G.o
    have BA:Hid (∀ w',Below wr.heap.size wr w'→Below w.heap.size w w'):=fun w' hb=>zab B.o hb B.o.size
    have FIT:=zaa (LN.o (by omega));have SP:=zaa (RND.o 32 (by omega)).o;clear G B LN RND;go_wp2_with fail
    go_region_held3 (fun _=>True) (trivial)
     (first
      | (refine step_copy_splice rfl (.tmp 41) (.tmp 44) 22 22 rfl 3 Tryz.underlying22 szI3 _ _ _ _ _ _ rfl rfl w.heap.size 32 (zil 32) 3 (GW.o _ (by repeat (first | exact Below.refl _ _ | refine Below.drew ?_))) (zgf 32) (zau _) (fun _=>⟨rfl,_,rfl,CL.o _ (GW.o _ (by repeat (first | exact Below.refl _ _ | refine Below.drew ?_)))⟩) (by rw[FIT.o,zau];omega) (zht _) w.heap.size w (BA.o _ (by repeat (first | exact Below.refl _ _ | refine Below.drew ?_))) (Nat.le_refl _) ?_;intro w4 hg4 hb4))
    all_goals
     rw[SP.o] at hg4;rw[zau];have B4:=zaa hb4;clear hb4 GW BA FIT SP CL;go_wp2
     go_roundw
     case rel=>exact ⟨64,by omega,by go_num,hg4,B4⟩
     case measure=>simp[intOf,IntKind.wrap_i64]
   ·have GW:Hid (∀ w',Below wr.heap.size wr w'→w'.heap[w.heap.size]?=some (.cells (zil 64).toArray 3 (0,0))):=fun w' hb=>(hb.block _ (Array.getElem?_eq_some_iff.1 G.o).1).trans G.o
    have BA:Hid (∀ w',Below wr.heap.size wr w'→Below w.heap.size w w'):=fun w' hb=>zab B.o hb B.o.size
    have FIT:=zaa (LN.o (by omega));have SP:=zaa (RND.o 64 (by omega)).o;clear G B LN RND;go_wp2_with fail
    go_region_held3 (fun _=>True) (trivial)
     (first
      | (refine step_copy_splice rfl (.tmp 41) (.tmp 44) 22 22 rfl 3 Tryz.underlying22 szI3 _ _ _ _ _ _ rfl rfl w.heap.size 64 (zil 64) 3 (GW.o _ (by repeat (first | exact Below.refl _ _ | refine Below.drew ?_))) (zgf 64) (zau _) (fun _=>⟨rfl,_,rfl,CL.o _ (GW.o _ (by repeat (first | exact Below.refl _ _ | refine Below.drew ?_)))⟩) (by rw[FIT.o,zau];omega) (zht _) w.heap.size w (BA.o _ (by repeat (first | exact Below.refl _ _ | refine Below.drew ?_))) (Nat.le_refl _) ?_;intro w4 hg4 hb4))
    all_goals
     rw[SP.o] at hg4;rw[zau];have B4:=zaa hb4;clear hb4 GW BA FIT SP CL;go_wp2
     go_roundw
     case rel=>exact ⟨128,by omega,by go_num,hg4,B4⟩
     case measure=>simp[intOf,IntKind.wrap_i64]
theorem zhs (w:World):Calls Tryz.prog 103 #[] w fun e w'=>∃ v',e=.returned v'∧Row w' 3 1 w.heap.size w'.heap.size v' (zgn 128).length (zav (zgn 128))∧Below w.heap.size w w':=by
 obtain ⟨W,hW⟩:∃ W,W=w.alloc (.cells #[.int .i64 1] 3):=⟨_,rfl⟩
 have BW:Hid (Below w.heap.size w W):=by rw[hW];exact (Below.refl _ _).alloc (Nat.le_refl _) _
 have L:=zaa (yafs w.heap.size W (fun w' hb=>by
  have q:w'.heap[w.heap.size]?=some (.cells #[.int .i64 1] 3 (0,0)):=(hb.block _ (by rw[hW];simp)).trans (by rw[hW];exact zag rfl)
  simp[World.cell?,q]))
 rw[zka];generalize zgn 128=H at *;go_enter Tryz.func103,Tryz.ntmps103;go_wp2_with fail;rw[← hW];clear hW;refine L.o.mono ?_;rintro e w1 ⟨v1,rfl,hr1,hb1⟩;have R1:=zaa (hr1.wide (lo':=w.heap.size) BW.o.size (Nat.le_refl _));have B1:=zaa (zab BW.o hb1 BW.o.size);obtain ⟨-,aN,cN,hvN,-⟩:=hr1.rd;subst hvN;clear hr1 hb1;go_wp2;go_ret;exact ⟨_,rfl,R1.o,B1.o⟩
theorem NHL:(zgn 128).length=128:=by unfold zgn;simp
theorem NDL:3≤ndW.length∧3≤zs32.length:=⟨by rw[yahs];decide,by rw[zuh];decide⟩
theorem yaab (w:World):Calls Tryz.prog 126 #[] w fun e w'=>∃ v',e=.returned v'∧RdFs w' v' ndW zs32 (zgn 128) [] 0 0 [] false∧Below w.heap.size w w':=by
 obtain ⟨V,hV⟩:∃ V,V=w.alloc (.cells yana.toArray 51):=⟨_,rfl⟩
 have YV:Hid (V.heap[w.heap.size]?=some (.cells yana.toArray 51 (0,0))):=by rw[hV];exact zag rfl
 have BV:Hid (Below w.heap.size w V):=by rw[hV];exact (Below.refl _ _).alloc (Nat.le_refl _) _
 have zV:Hid (w.heap.size < V.heap.size):=by rw[hV];simp[Hid]
 unfold yana at hV;go_enter Tryz.func126,Tryz.ntmps126;go_upto_region 1 with fail;rw[← hV];clear hV;go_wp2_with fail;refine (zlb V).mono ?_;rintro e w1 ⟨v1,rfl,hr1,hb1⟩;obtain ⟨iW,jW,iP,jP,iS,jS,iQ,jQ,rfl,-,-⟩:=hr1.form;have D1:=zaa hr1;have B1:=zaa hb1;clear hr1 hb1;go_wp2_with fail;refine (yafl w1).mono ?_;rintro e w2 ⟨v2,rfl,hr2,hb2⟩;have R2:Hid (RdI w2 v2 (zgn 128)):=hr2.rd;obtain ⟨-,iH,jH,hv2,-⟩:=hr2.rd;subst hv2;have D2:=zaa (D1.o.below hb2);have B2:=zaa (zab B1.o hb2 B1.o.size);have z2:Hid (V.heap.size≤w2.heap.size):=B2.o.size;clear hr2 hb2 D1 B1;have Y2:=zaa ((B2.o.block w.heap.size zV.o).trans YV.o)
 obtain ⟨X,hX⟩:∃ X,X=(w2.alloc (.cells #[] 98)).alloc (.cells #[] 9):=⟨_,rfl⟩
 have BX:Hid (Below w2.heap.size w2 X):=by rw[hX];exact ((Below.refl _ _).alloc (Nat.le_refl _) _).alloc (by simp) _
 have YX:Hid (X.heap[w.heap.size]?=some (.cells yana.toArray 51 (0,0))):=by rw[hX];exact zal (zal Y2.o)
 have YX':X.heap[w.heap.size]?=some (.cells #[.slice none 0 0,.slice none 0 0,.slice none 0 0,.slice none 0 0,.slice none 0 0,.slice none 0 0,.int .i64 0,.int .i64 0,.slice none 0 0,.bool false] 51 (0,0)):=YX.o;obtain ⟨x0,x1,x2,x3,x4,x5,x6,x7,x8,x9,g0,g1,g2,g3,g4,g5,g6,g7,g8,g9⟩:=zam YX';clear YX';have O4:=zaa (zeu X w.heap.size (.slice iW ndW.length jW) (.slice iP 0 jP) (.slice iS zs32.length jS) (.slice iQ 0 jQ) (.slice iH (zgn 128).length jH) (.slice (some ⟨w2.heap.size,0,none⟩) 0 0) (.int .i64 0) (.int .i64 0) (.slice (some ⟨w2.heap.size+1,0,none⟩) 0 0) (.bool false));have S4:=zaa (Soft.outside O4.o YX.o rfl);have SS:=zaa ((Soft.of_below BX.o).trans S4.o);have B3:=zaa (zab (zab BV.o B2.o BV.o.size) BX.o (by have q:=zV.o;have q1:=z2.o;omega));have B4:=zaa (B3.o.trans (O4.o.below (B:=w.heap.size) (Nat.le_refl _) B3.o.size))
 have F4:Hid (RdFs (zee X w.heap.size (.slice iW ndW.length jW) (.slice iP 0 jP) (.slice iS zs32.length jS) (.slice iQ 0 jQ) (.slice iH (zgn 128).length jH) (.slice (some ⟨w2.heap.size,0,none⟩) 0 0) (.int .i64 0) (.int .i64 0) (.slice (some ⟨w2.heap.size+1,0,none⟩) 0 0) (.bool false)) (.agg #[.slice iW ndW.length jW,.slice iP 0 jP,.slice iS zs32.length jS,.slice iQ 0 jQ,.slice iH (zgn 128).length jH,.slice (some ⟨w2.heap.size,0,none⟩) 0 0,.int .i64 0,.int .i64 0,.slice (some ⟨w2.heap.size+1,0,none⟩) 0 0,.bool false]) ndW zs32 (zgn 128) [] 0 0 [] false) :=
  ⟨iW,jW,iP,jP,iS,jS,iQ,jQ,iH,jH,_,_,_,_,rfl,D2.o.soft SS.o NDL.1 NDL.2,RdI.soft R2.o SS.o (by rw[NHL];decide),⟨rfl,_,_,rfl,⟨Nat.le_refl _,fun e=>by cases e⟩,fun h=>absurd h (by simp)⟩,⟨rfl,_,_,rfl,⟨Nat.le_refl _,fun e=>by cases e⟩,fun h=>absurd h (by simp)⟩⟩
 clear O4 S4 SS B3 BX YX D2 R2 Y2;subst hX;go_wp2;refine bodyPost_ret (v:=.agg #[.slice iW ndW.length jW,.slice iP 0 jP,.slice iS zs32.length jS,.slice iQ 0 jQ,.slice iH (zgn 128).length jH,.slice (some ⟨w2.heap.size,0,none⟩) 0 0,.int .i64 0,.int .i64 0,.slice (some ⟨w2.heap.size+1,0,none⟩) 0 0,.bool false]) (by simp[results,Tryz.results126,go_sem,x0,x1,x2,x3,x4,x5,x6,x7,x8,x9]) rfl ?_;exact ⟨_,rfl,F4.o,B4.o⟩
def zum (ps:List Se) (k:Nat):Bool:=ps.any (fun p=>p.at_ == (k:Int))
def zar (ps:List Se) (m:Nat):List Nat:=(List.range m).filter (zum ps)
def zcr (ps:List Se) (m:Nat):List Int:=(zar ps m).map (fun (k:Nat)=>(k:Int))
theorem zrx (ps:List Se) (m:Nat):zar ps (m+1)=if zum ps m=true then zar ps m ++ [m] else zar ps m:=by
 unfold zar;rw[List.range_succ,List.filter_append]
 by_cases h:zum ps m=true
 ·rw[if_pos h];simp[h]
 ·rw[if_neg h];simp[h]
theorem zxc {ps:List Se} {m:Nat} (h:zum ps m=true):zcr ps (m+1)=zcr ps m ++ [(m:Int)]:=by
 unfold zcr;rw[zrx,if_pos h,List.map_append];rfl
theorem zrs {ps:List Se} {m:Nat} (h:zum ps m=false):zcr ps (m+1)=zcr ps m:=by
 unfold zcr;rw[zrx,if_neg (by rw[h];simp)]
theorem znw (ps:List Se) (m:Nat):(zcr ps m).length≤m:=by
 unfold zcr zar;rw[List.length_map];have:=List.length_filter_le (zum ps) (List.range m);simpa using this
theorem yapn {ps:List Se} {m j:Nat} (hj:j < ps.length) (h:ps[j].at_=(m:Int)):zum ps m=true:=by
 unfold zum;rw[List.any_eq_true];exact ⟨ps[j],List.getElem_mem hj,by simpa using h⟩
theorem yajy {ps:List Se} {m:Nat} (h:∀ j (hj:j < ps.length),¬ ps[j].at_=(m:Int)):zum ps m=false:=by
 unfold zum;rw[List.any_eq_false];intro p hp;obtain ⟨i,hi,rfl⟩:=List.getElem_of_mem hp;simpa using h i hi
theorem zvg (v:Value) (ws:List Int) (ps:List Se) (w:World) (h:RdBlk w v ws ps) (hp:ps.length≤1048576) :
  Calls Tryz.prog 113 #[v] w fun e w'=>∃ v',e=.returned v'∧Row w' 3 1 w.heap.size w'.heap.size v' (zcr ps 32).length (zav (zcr ps 32))∧Below w.heap.size w w':=by
 obtain ⟨vW,vP,rfl,h1,h2⟩:=h;obtain ⟨aW,cW,rfl,_⟩:=h1.shape;obtain ⟨aP,cP,rfl,_,hcP⟩:=h2.shape;have HP:=zaa hcP;clear h1 h2 hcP;have hb0:Below w.heap.size w (w.alloc (.cells #[.slice aW ws.length cW,.slice aP ps.length cP] 43)):=(Below.refl _ _).alloc (Nat.le_refl _) _
 have ho:((w.alloc (.cells #[.slice aW ws.length cW,.slice aP ps.length cP] 43)).alloc (.cells #[] 3)).ownsRow (w.heap.size+1) 3 1 (.slice (some ⟨w.heap.size+1,0,none⟩) 0 0) 0 []:=by
  simpa using World.ownsRow_lit (base:=w.heap.size+1) (e:=3) (size:=1) (w.alloc (.cells #[.slice aW ws.length cW,.slice aP ps.length cP] 43)) #[] 0 (by simp) (by simp) rfl
 have START:=zaa (And.intro ho (And.intro (zal (o:=.cells #[] 3) (zag (w:=w) (o:=.cells #[.slice aW ws.length cW,.slice aP ps.length cP] 43) rfl)) (hb0.alloc (by simp) (.cells #[] 3))));clear hb0 ho;go_enter Tryz.func113,Tryz.ntmps113;go_wp2
 go_loopw [3,4,5] (fun vL i _ wr=>∃ m:Nat,m≤32∧i=.int .i64 m∧Hid (wr.ownsRow (w.heap.size+1) 3 1 vL (zcr ps m).length (zav (zcr ps m))∧wr.heap[w.heap.size]?=some (.cells #[.slice aW ws.length cW,.slice aP ps.length cP] 43 (0,0))∧Below w.heap.size w wr)∧w.heap.size+1≤wr.heap.size) (fun _ i _ _=>32 - (intOf i).toNat)
 case atStart=>exact ⟨0,by omega,rfl,⟨by simpa[zcr,zar,zav] using START.o.1,START.o.2⟩,by simp⟩
 case round =>
  obtain ⟨m,hm,rfl,I,hz⟩:=hrel;obtain ⟨y1,y2,y3,y4⟩:=zad I.o.2.1
  by_cases hlt:m < 32
  ·go_wp2
   go_loop [3,5] (fun vL i=>∃ n:Nat,n≤ps.length∧i=.int .i64 n∧vL=u3∧Hid (∀ j (hj:j < ps.length),j < n→¬ ps[j].at_=(m:Int))) (fun _ i=>ps.length - (intOf i).toNat)
   case atStart=>exact ⟨0,by omega,rfl,rfl,fun j _ h=>absurd h (by omega)⟩
   case round =>
    obtain ⟨n,hn,rfl,rfl,H⟩:=hrel
    by_cases hlt2:n < ps.length
    ·obtain ⟨b,o,rfl,hbl,hcell⟩:=HP.o (by omega);have d0:=(I.o.2.2.cell (p:=⟨b,o+n*2,none⟩) hbl).trans (hcell n hlt2).1;clear hcell
     by_cases c:ps[n].at_=(m:Int)
     ·have c':(ps[n].at_ == (m:Int))=true:=by simpa using c
      have E:=zaa (zxc (yapn hlt2 c));clear c H;have O2:=zaa (I.o.1.alloc (.cells #[.int .i64 (m:Int)] 3));have HRD:=zaa (zmo wr (m:Int));have hle:=znw ps m;go_wp2_with (at_builtin;refine zak _ rfl (.tmp 26) (.tmp 28) 22 rfl (w.heap.size+1) 3 (.int .i64 0) 1 8 Tryz.underlying22 zfz rfl (by decide) _ _ _ rfl O2.o _ 1 _ rfl HRD.o (by simp[Value.oneCell']) (by simp[maxLen];omega) (by omega) (by simp;omega) ?_);intro vN wN hownN hgrN
      have hl:=fun k hk=>(O2.o.lt k hk).1
      have hzN:=hgrN.size;simp only[World.size_alloc] at hzN
      have G:Hid (wN.ownsRow (w.heap.size+1) 3 1 vN (zcr ps (m+1)).length (zav (zcr ps (m+1)))∧wN.heap[w.heap.size]?=some (.cells #[.slice aW ws.length cW,.slice (some ⟨b,o,none⟩) ps.length cP] 43 (0,0))∧Below w.heap.size w wN):=by
       refine ⟨?_,(hgrN.block w.heap.size (by simp;omega) (fun e=>by have:=hl _ e.symm;omega)).trans (zal I.o.2.1),(I.o.2.2.alloc (by omega) (.cells #[.int .i64 (m:Int)] 3)).grown hgrN (by simp;omega) (fun k hk=>by have:=hl k hk;omega)⟩;rw[E.o,zhq,List.length_append];exact hownN
      clear hownN hgrN hl;go_wp2
      go_roundw
      case rel=>exact ⟨m+1,by omega,by go_num,G,by omega⟩
      case measure=>simp[intOf];omega
     ·have c':(ps[n].at_ == (m:Int))=false:=by simpa using c
      have C:=zaa c;clear c;go_wp2
      go_round
      case rel =>
       refine ⟨n+1,by omega,by go_num,rfl,fun j hj hjn=>?_⟩
       by_cases e:j=n
       ·subst e;exact C.o
       ·exact H.o j hj (by omega)
      case measure=>simp[intOf];omega
    ·have E:=zaa (zrs (yajy (fun j hj=>H.o j hj (by omega))));clear H;go_wp2
     go_roundw
     case rel=>exact ⟨m+1,by omega,by go_num,by rw[E.o];exact I,hz⟩
     case measure=>simp[intOf];omega
  ·have e:m=32:=by omega
   subst e;obtain ⟨aL,cL,hvL⟩:=RdI.form (zai I.o.1).rd rfl;subst hvL;go_wp2;go_ret;exact ⟨_,rfl,(zai I.o.1).wide (by omega) (Nat.le_refl _),I.o.2.2⟩
def yagl (ws:List Int) (ps:List Se):List Int:=if zbp ws ps=true then zcr ps 32 else []
theorem yacd {ws:List Int} {ps:List Se} (h:zbp ws ps=false):barC ws ps=1∧yagl ws ps=[]:=by
 unfold barC yagl;rw[h];exact ⟨rfl,rfl⟩
theorem yaau {ws:List Int} {ps:List Se} (h:zbp ws ps=true):barC ws ps=0∧yagl ws ps=zcr ps 32:=by
 unfold barC yagl;rw[h];exact ⟨rfl,rfl⟩
end Go.Proofs.YtahiphgmhndgaaaGreatDoor

namespace Go.Proofs.YtahiphgmhndgaaaGreatDoor
def zeh (a:Nat) (s:Int×Int) (p:Se):Int×Int:=if p.at_=(a:Int)∧0 < s.2 then (p.val,s.2 - 1) else s
def zec (a:Nat) (s:Int×Int) (ps:List Se):Int×Int:=ps.foldl (zeh a) s
theorem yajs (a:Nat) (s:Int×Int):zec a s []=s:=rfl
theorem zsh (a:Nat) (s:Int×Int) (ps:List Se) (p:Se):zec a s (ps ++ [p])=zeh a (zec a s ps) p:=by simp[zec]
theorem zvy (a:Nat) (s:Int×Int) (ps qs:List Se):zec a s (ps ++ qs)=zec a (zec a s ps) qs:=by simp[zec]
theorem zlv {a:Nat} {s:Int×Int} (h:¬ 0 < s.2):∀ ps:List Se,zec a s ps=s
 | []=>rfl
 | p :: ps=>by
  show zec a (zeh a s p) ps=s
  have e:zeh a s p=s:=by unfold zeh;rw[if_neg (fun x=>h x.2)]
  rw[e];exact zlv h ps
theorem zml {a:Nat}:∀ (ps:List Se) (s:Int×Int),0≤s.2→0≤(zec a s ps).2∧(zec a s ps).2≤s.2
 | [],s,h=>⟨h,Int.le_refl _⟩
 | p :: ps,s,h=>by
  show 0≤(zec a (zeh a s p) ps).2∧(zec a (zeh a s p) ps).2≤s.2
  have h1:0≤(zeh a s p).2∧(zeh a s p).2≤s.2:=by
   unfold zeh
   split
   ·rename_i c;exact ⟨by have:=c.2;show 0≤s.2 - 1;omega,by show s.2 - 1≤s.2;omega⟩
   ·exact ⟨h,Int.le_refl _⟩
  have:=zml (a:=a) ps (zeh a s p) h1.1;omega
def spE (us:List Nat) (zs:List Int) (ps:List Se) (ws:List Int):Nat→List Int
 | 0=>ws
 | i+1=>(spE us zs ps ws i).set (us[i]?.getD 0) (zec (us[i]?.getD 0) ((spE us zs ps ws i)[us[i]?.getD 0]?.getD 0,zck zs i) ps).1
theorem zhm (us:List Nat) (zs:List Int) (ps:List Se) (ws:List Int):∀ i,(spE us zs ps ws i).length=ws.length
 | 0=>rfl
 | i+1=>by rw[spE,List.length_set];exact zhm us zs ps ws i
theorem yaeg (ps:List Se) (n i:Nat) (hi:i < (zar ps n).length):(zar ps n)[i]?.getD 0 < n:=by
 rw[List.getElem?_eq_getElem hi,Option.getD_some];have:=List.getElem_mem hi;unfold zar at this;rw[List.mem_filter,List.mem_range] at this;exact this.1
theorem zdd (ps:List Se) (n:Nat):(zcr ps n).length=(zar ps n).length:=by simp[zcr]
theorem zvd (ps:List Se) (n i:Nat) (hi:i < (zcr ps n).length):(zcr ps n)[i]=(((zar ps n)[i]?.getD 0:Nat):Int):=by
 have h2:i < (zar ps n).length:=by rw[← zdd];exact hi
 rw[List.getElem?_eq_getElem h2,Option.getD_some];simp[zcr]
end Go.Proofs.YtahiphgmhndgaaaGreatDoor
