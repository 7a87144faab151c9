/- An inode and an entry, read off their words: by the program. -/
import Derived.Test.YtbohndgbfbfldaaGreatDoorZBN
import Derived.Test.YtbohndgbfbfldaaGreatDoorZBM
import Derived.Test.YtbohndgbfbfldaaGreatDoorZAJ
import Derived.Deep.RegionWith
set_option maxRecDepth 100000
set_option maxHeartbeats 2000000
namespace Go.Proofs.YtbohndgbfbfldaaGreatDoor
open Go.RowKit
theorem znp (a:Option Addr) (n cap:Nat) (hn:8≤n) (w:World):(Instr.arrayAt 147 (.slice a n cap)).run Tryz.prog w=.ok (.pointer a) w:=by
 have h:¬ n < 8:=by omega
 simp[Instr.arrayAt,run_underlying Tryz.underlying147,h,go_sem]
theorem zkl (b o n c:Nat) (x:Ino) (w:World) (hn:11≤n) (hc:n≤c) (hb:b < w.heap.size) (h:∀ j,j < 11→w.cell? ⟨b,o+j,none⟩=x.cs[j]?) :
  Calls Tryz.prog 193 #[.slice (some ⟨b,o,none⟩) n c] w fun e w'=>e=.returned x.v∧Below w.heap.size w w':=by
 have BW:=zaa ((Below.refl w.heap.size w).alloc (Nat.le_refl _) (.cells #[.int .i64 0,.int .i64 0,.int .i64 0,.int .i64 0,.int .i64 0,.int .i64 0,.int .i64 0,.int .i64 0,.int .i64 0,.int .i64 0,.int .i64 0] 149))
 have S:Hid (∀ w',Below w.heap.size w w'→w'.cell? ⟨b,o,none⟩=some (.int .i64 x.kind)∧w'.cell? ⟨b,o+1,none⟩=some (.int .i64 x.size)∧w'.cell? ⟨b,o+2,none⟩=some (.int .i64 x.links)∧w'.cell? ⟨b,o+3,none⟩=some (.int .i64 x.m0)∧w'.cell? ⟨b,o+3+1,none⟩=some (.int .i64 x.m1)∧w'.cell? ⟨b,o+3+2,none⟩=some (.int .i64 x.m2)∧w'.cell? ⟨b,o+3+3,none⟩=some (.int .i64 x.m3)∧w'.cell? ⟨b,o+3+4,none⟩=some (.int .i64 x.m4)∧w'.cell? ⟨b,o+3+5,none⟩=some (.int .i64 x.m5)∧w'.cell? ⟨b,o+3+6,none⟩=some (.int .i64 x.m6)∧w'.cell? ⟨b,o+3+7,none⟩=some (.int .i64 x.m7)):=fun w' hw' =>
  have g:=fun j (hj:j < 11)=>(hw'.cell (p:=⟨b,o+j,none⟩) hb).trans (h j hj)
  ⟨g 0 (by omega),g 1 (by omega),g 2 (by omega),g 3 (by omega),g 4 (by omega),g 5 (by omega),g 6 (by omega),g 7 (by omega),g 8 (by omega),g 9 (by omega),g 10 (by omega)⟩
 obtain ⟨s0,s1,s2,s3,s4,s5,s6,s7,s8,s9,s10⟩:=S.o _ BW.o
 have i0:(0:Int) < (n:Int):=by omega
 have i00:0 < n:=by omega
 have i1:(1:Int) < (n:Int):=by omega
 have i2:(2:Int) < (n:Int):=by omega
 have i3:(11:Int)≤(c:Int):=by omega
 have i4:¬ c=3:=by omega
 have i5:(3:Int)≤11:=by omega
 have har:=znp (some ⟨b,o+3,none⟩) 8 (c - 3) (Nat.le_refl _);unfold Ino.v;clear h hn hc;go_enter Tryz.func193,Tryz.ntmps193;go_wp2_with fail
 go_region_held3 (fun w'=>w'.cell? ⟨b,o,none⟩=some (.int .i64 x.kind)∧w'.cell? ⟨b,o+1,none⟩=some (.int .i64 x.size)∧w'.cell? ⟨b,o+2,none⟩=some (.int .i64 x.links)∧w'.cell? ⟨b,o+3,none⟩=some (.int .i64 x.m0)∧w'.cell? ⟨b,o+3+1,none⟩=some (.int .i64 x.m1)∧w'.cell? ⟨b,o+3+2,none⟩=some (.int .i64 x.m2)∧w'.cell? ⟨b,o+3+3,none⟩=some (.int .i64 x.m3)∧w'.cell? ⟨b,o+3+4,none⟩=some (.int .i64 x.m4)∧w'.cell? ⟨b,o+3+5,none⟩=some (.int .i64 x.m5)∧w'.cell? ⟨b,o+3+6,none⟩=some (.int .i64 x.m6)∧w'.cell? ⟨b,o+3+7,none⟩=some (.int .i64 x.m7))
  (exact S.o _ (by repeat (first | with_reducible exact BW.o | with_reducible refine zba ?_ _ | with_reducible exact Below.refl _ _ | with_reducible refine Below.drew ?_)))
  (fail)
 all_goals
  go_wp2;refine bodyPost_ret (v:=.agg #[.int .i64 x.kind,.int .i64 x.size,.int .i64 x.links,.int .i64 x.m0,.int .i64 x.m1,.int .i64 x.m2,.int .i64 x.m3,.int .i64 x.m4,.int .i64 x.m5,.int .i64 x.m6,.int .i64 x.m7]) (by simp[results,Tryz.results193,go_sem]) rfl ⟨rfl,?_⟩
  repeat (first | with_reducible exact Below.refl _ _ | with_reducible refine zba ?_ _ | with_reducible refine Below.drew ?_)
def denZ (z0 z1 z2:Int):Den:=if z2=0 then ⟨0,⟨#[]⟩,-1⟩ else ⟨z0,zsy z1,z2 - 1⟩
def zhj (z0 z1 z2:Int):Bool:=if z2=0 then z0 == 0 && z1 == 0 else zgo z1
theorem zjk (b o n c:Nat) (z0 z1 z2:Int) (w:World) (hn:3≤n) (_hc:n≤c) (hb:b < w.heap.size) (h0:w.cell? ⟨b,o,none⟩=some (.int .i64 z0)) (h1:w.cell? ⟨b,o+1,none⟩=some (.int .i64 z1)) (h2:w.cell? ⟨b,o+2,none⟩=some (.int .i64 z2)) (hF:FD w) (r1:z1≤9223372036854775807) (r2:0≤z2∧z2≤9223372036854775807) :
  Calls Tryz.prog 194 #[.slice (some ⟨b,o,none⟩) n c] w fun e w'=>(∃ s,e=.returned (.tuple #[.agg #[.int .i64 (denZ z0 z1 z2).dir,.string s,.int .i64 (denZ z0 z1 z2).child],.bool (zhj z0 z1 z2)])∧(zhj z0 z1 z2=true→s=(denZ z0 z1 z2).name))∧Below w.heap.size w w':=by
 have BW:=zaa ((Below.refl w.heap.size w).alloc (Nat.le_refl _) (.cells #[.int .i64 0,.string ⟨#[]⟩,.int .i64 0] 143))
 have S:Hid (∀ w',Below w.heap.size w w'→w'.cell? ⟨b,o,none⟩=some (.int .i64 z0)∧w'.cell? ⟨b,o+1,none⟩=some (.int .i64 z1)∧w'.cell? ⟨b,o+2,none⟩=some (.int .i64 z2)):=fun w' hw'=>⟨(hw'.cell (p:=⟨b,o,none⟩) hb).trans h0,(hw'.cell (p:=⟨b,o+1,none⟩) hb).trans h1,(hw'.cell (p:=⟨b,o+2,none⟩) hb).trans h2⟩
 obtain ⟨s0,s1,s2⟩:=S.o _ BW.o;have F:=zaa hF
 have i0:(0:Int) < (n:Int):=by omega
 have i00:0 < n:=by omega
 have i1:(1:Int) < (n:Int):=by omega
 have i2:(2:Int) < (n:Int):=by omega
 clear h0 h1 h2 hF
 by_cases c2:z2=0
 ·subst c2
  have E1:denZ z0 z1 0=⟨0,⟨#[]⟩,-1⟩:=by unfold denZ;rw[if_pos rfl]
  have E2:zhj z0 z1 0=(z0 == 0 && z1 == 0):=by unfold zhj;rw[if_pos rfl]
  rw[E1,E2];clear E1 E2;obtain ⟨f0,f1,f2⟩:=FD.cells (F.o.below BW.o)
  by_cases c0:z0=0
  ·have q0:(z0 == 0)=true:=by rw[c0];rfl
   have EQ:Hid ((z0 == 0 && z1 == 0)=(z1 == 0)):=by unfold Hid;rw[q0];rfl
   rw[EQ.o];clear c0 EQ;go_enter Tryz.func194,Tryz.ntmps194;go_wp2_with fail
   go_region_held3 (fun w'=>(w'.cell? ⟨b,o,none⟩=some (.int .i64 z0)∧w'.cell? ⟨b,o+1,none⟩=some (.int .i64 z1)∧w'.cell? ⟨b,o+2,none⟩=some (.int .i64 0))∧w'.cell? ⟨2,0,none⟩=some (.int .i64 0)∧w'.cell? ⟨2,1,none⟩=some (.string ⟨#[]⟩)∧w'.cell? ⟨2,2,none⟩=some (.int .i64 (-1)))
    (exact ⟨S.o _ (by repeat (first | with_reducible exact BW.o | with_reducible refine zba ?_ _ | with_reducible exact Below.refl _ _ | with_reducible refine Below.drew ?_)),FD.cells (F.o.below (by repeat (first | with_reducible exact BW.o | with_reducible refine zba ?_ _ | with_reducible exact Below.refl _ _ | with_reducible refine Below.drew ?_)))⟩)
    (fail)
   all_goals
    go_wp2;refine bodyPost_ret (v:=.tuple #[.agg #[.int .i64 0,.string ⟨#[]⟩,.int .i64 (-1)],.bool (z1 == 0)]) (by simp[results,Tryz.results194,go_sem]) rfl ?_;exact ⟨⟨_,rfl,fun _=>rfl⟩,(by repeat (first | with_reducible exact BW.o | with_reducible exact Below.refl _ _ | with_reducible refine zba ?_ _ | with_reducible refine Below.drew ?_ | refine Below.setCell ?_ (by exact Nat.le_refl _) _))⟩
  ·have q0:(z0 == 0)=false:=by rw[beq_eq_false_iff_ne];exact c0
   have EQ:Hid ((z0 == 0 && z1 == 0)=false):=by unfold Hid;rw[q0];rfl
   rw[EQ.o];clear c0 EQ;go_enter Tryz.func194,Tryz.ntmps194;go_wp2_with fail
   go_region
   all_goals
    go_wp2;refine bodyPost_ret (v:=.tuple #[.agg #[.int .i64 0,.string ⟨#[]⟩,.int .i64 (-1)],.bool false]) (by simp[results,Tryz.results194,go_sem]) rfl ?_;exact ⟨⟨_,rfl,fun _=>rfl⟩,(by repeat (first | with_reducible exact BW.o | with_reducible exact Below.refl _ _ | with_reducible refine zba ?_ _ | with_reducible refine Below.drew ?_ | refine Below.setCell ?_ (by exact Nat.le_refl _) _))⟩
 ·have q:(z2 == 0)=false:=by rw[beq_eq_false_iff_ne];exact c2
  have E1:denZ z0 z1 z2=⟨z0,zsy z1,z2 - 1⟩:=by unfold denZ;rw[if_neg c2]
  have E2:zhj z0 z1 z2=zgo z1:=by unfold zhj;rw[if_neg c2]
  rw[E1,E2];have LU:=zaa (fun w1=>zfl z1 w1 r1)
  have EU:Hid ((unpC z1 == 0)=zgo z1):=by
   unfold Hid unpC
   cases zgo z1 <;> rfl
  have wp1:IntKind.i64.wrap (z2 - 1)=z2 - 1:=by rw[IntKind.wrap_i64];omega
  rw[← EU.o];clear E1 E2 c2 EU;generalize unpC z1=uc at *;generalize zsy z1=us at *;go_enter Tryz.func194,Tryz.ntmps194;go_wp2_with fail;refine (LU.o _).mono ?_;rintro e w1 ⟨rfl,hb1⟩;have B1:=zaa (zab BW.o hb1 BW.o.size);have VB:Hid (w1.heap[w.heap.size]?=some (.cells #[.int .i64 0,.string ⟨#[]⟩,.int .i64 0] 143 (0,0))):=(hb1.block _ (by simp)).trans (zae rfl);clear hb1 s0 s1 s2;obtain ⟨s0,s1,s2⟩:=S.o _ B1.o;obtain ⟨t0,t1,t2⟩:=zby VB.o;have u0:=(zag (xs:=[.int .i64 0,.string ⟨#[]⟩,.int .i64 0]) VB.o 0).2;have u1:=(zag (xs:=[.int .i64 0,.string ⟨#[]⟩,.int .i64 0]) VB.o 1).2;have u2:=(zag (xs:=[.int .i64 0,.string ⟨#[]⟩,.int .i64 0]) VB.o 2).2;go_wp2_with fail
  go_region_held3 (fun w'=>w'.cell? ⟨b,o,none⟩=some (.int .i64 z0)∧w'.cell? ⟨b,o+1,none⟩=some (.int .i64 z1)∧w'.cell? ⟨b,o+2,none⟩=some (.int .i64 z2))
   (exact S.o _ (by repeat (first | with_reducible exact B1.o | with_reducible refine Below.drew ?_ | refine Below.setCell ?_ (by exact Nat.le_refl _) _)))
   (fail)
  all_goals
   go_wp2;refine bodyPost_ret (v:=.tuple #[.agg #[.int .i64 z0,.string us,.int .i64 (z2 - 1)],.bool (uc == 0)]) (by simp[results,Tryz.results194,go_sem,t0,t1,t2]) rfl ?_;exact ⟨⟨_,rfl,fun _=>rfl⟩,(by repeat (first | with_reducible exact B1.o | with_reducible refine Below.drew ?_ | refine Below.setCell ?_ (by exact Nat.le_refl _) _))⟩
end Go.Proofs.YtbohndgbfbfldaaGreatDoor
