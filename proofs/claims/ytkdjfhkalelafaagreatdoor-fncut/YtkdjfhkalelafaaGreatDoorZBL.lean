/- Several texts laid together: RdE, FsO, SameW. -/
import Derived.Test.YtkdjfhkalelafaaGreatDoorZAU
import Derived.Test.YtkdjfhkalelafaaGreatDoorZAN
import Derived.Test.YtkdjfhkalelafaaGreatDoorZAE
import Derived.Deep.RegionWith
import Derived.Test.YtkdjfhkalelafaaGreatDoorZBK
import Derived.Test.YtkdjfhkalelafaaGreatDoorZAC
import Derived.Test.YtkdjfhkalelafaaGreatDoorZAB
import Derived.Test.YtkdjfhkalelafaaGreatDoorZAQ
import Derived.Test.YtkdjfhkalelafaaGreatDoorZAD
import Derived.Deep.RegionHeld3
import Derived.Deep.DeepCutAuto
namespace Go.Proofs.YtkdjfhkalelafaaGreatDoor
open Go.RowKit
theorem zux (a:Option Addr) (n cap:Nat) (hn:8 ≤ n) (w:World):(Instr.arrayAt 64 (.slice a n cap)).run Tryz.prog w = .ok (.pointer a) w:=by
 have h:¬ n < 8:=by omega
 simp [Instr.arrayAt,run_underlying Tryz.underlying64,h,go_sem]
set_option maxRecDepth 100000 in
set_option maxHeartbeats 2000000 in
theorem zsz (b o n c:Nat) (x:Ino) (w:World) (hn:11 ≤ n) (hc:n ≤ c) (hb:b < w.heap.size) (h:∀ j,j < 11 → w.cell? ⟨b,o + j,none⟩ = x.cs[j]?) :
  Calls Tryz.prog 21 #[.slice (some ⟨b,o,none⟩) n c] w fun e w' => e = .returned x.v ∧ Below w.heap.size w w':=by
 have BW:=zaa ((Below.refl w.heap.size w).alloc (Nat.le_refl _) (.cells #[.int .i64 0,.int .i64 0,.int .i64 0,.int .i64 0,.int .i64 0,.int .i64 0,.int .i64 0,.int .i64 0,.int .i64 0,.int .i64 0,.int .i64 0] 66))
 have S:Hid (∀ w',Below w.heap.size w w' → w'.cell? ⟨b,o,none⟩ = some (.int .i64 x.kind) ∧ w'.cell? ⟨b,o + 1,none⟩ = some (.int .i64 x.size) ∧ w'.cell? ⟨b,o + 2,none⟩ = some (.int .i64 x.links) ∧ w'.cell? ⟨b,o + 3,none⟩ = some (.int .i64 x.m0) ∧ w'.cell? ⟨b,o + 3 + 1,none⟩ = some (.int .i64 x.m1) ∧ w'.cell? ⟨b,o + 3 + 2,none⟩ = some (.int .i64 x.m2) ∧ w'.cell? ⟨b,o + 3 + 3,none⟩ = some (.int .i64 x.m3) ∧ w'.cell? ⟨b,o + 3 + 4,none⟩ = some (.int .i64 x.m4) ∧ w'.cell? ⟨b,o + 3 + 5,none⟩ = some (.int .i64 x.m5) ∧ w'.cell? ⟨b,o + 3 + 6,none⟩ = some (.int .i64 x.m6) ∧ w'.cell? ⟨b,o + 3 + 7,none⟩ = some (.int .i64 x.m7)):=fun w' hw' =>
  have g:=fun j (hj:j < 11) => (hw'.cell (p:=⟨b,o + j,none⟩) hb).trans (h j hj)
  ⟨g 0 (by omega),g 1 (by omega),g 2 (by omega),g 3 (by omega),g 4 (by omega),g 5 (by omega),g 6 (by omega),g 7 (by omega),g 8 (by omega),g 9 (by omega),g 10 (by omega)⟩
 obtain ⟨s0,s1,s2,s3,s4,s5,s6,s7,s8,s9,s10⟩:=S.out _ BW.out
 have i0:(0:Int) < (n:Int):=by omega
 have i00:0 < n:=by omega
 have i1:(1:Int) < (n:Int):=by omega
 have i2:(2:Int) < (n:Int):=by omega
 have i3:(11:Int) ≤ (c:Int):=by omega
 have i4:¬ c = 3:=by omega
 have i5:(3:Int) ≤ 11:=by omega
 have har:=zux (some ⟨b,o + 3,none⟩) 8 (c - 3) (Nat.le_refl _)
 unfold Ino.v
 clear h hn hc
 go_enter Tryz.func21,Tryz.ntmps21
 go_wp2_with fail
 go_region_held3 (fun w' => w'.cell? ⟨b,o,none⟩ = some (.int .i64 x.kind) ∧ w'.cell? ⟨b,o + 1,none⟩ = some (.int .i64 x.size) ∧ w'.cell? ⟨b,o + 2,none⟩ = some (.int .i64 x.links) ∧ w'.cell? ⟨b,o + 3,none⟩ = some (.int .i64 x.m0) ∧ w'.cell? ⟨b,o + 3 + 1,none⟩ = some (.int .i64 x.m1) ∧ w'.cell? ⟨b,o + 3 + 2,none⟩ = some (.int .i64 x.m2) ∧ w'.cell? ⟨b,o + 3 + 3,none⟩ = some (.int .i64 x.m3) ∧ w'.cell? ⟨b,o + 3 + 4,none⟩ = some (.int .i64 x.m4) ∧ w'.cell? ⟨b,o + 3 + 5,none⟩ = some (.int .i64 x.m5) ∧ w'.cell? ⟨b,o + 3 + 6,none⟩ = some (.int .i64 x.m6) ∧ w'.cell? ⟨b,o + 3 + 7,none⟩ = some (.int .i64 x.m7))
  (exact S.out _ (by repeat (first | with_reducible exact BW.out | with_reducible refine zaw ?_ _ | with_reducible exact Below.refl _ _ | with_reducible refine Below.drew ?_)))
  (fail)
 all_goals
  go_wp2
  refine bodyPost_ret (v:=.agg #[.int .i64 x.kind,.int .i64 x.size,.int .i64 x.links,.int .i64 x.m0,.int .i64 x.m1,.int .i64 x.m2,.int .i64 x.m3,.int .i64 x.m4,.int .i64 x.m5,.int .i64 x.m6,.int .i64 x.m7]) (by simp [results,Tryz.results21,go_sem]) rfl ⟨rfl,?_⟩
  repeat (first | with_reducible exact Below.refl _ _ | with_reducible refine zaw ?_ _ | with_reducible refine Below.drew ?_)
def denZ (z0 z1 z2:Int):Den:=if z2 = 0 then ⟨0,⟨#[]⟩,-1⟩ else ⟨z0,zto z1,z2 - 1⟩
def zom (z0 z1 z2:Int):Bool:=if z2 = 0 then z0 == 0 && z1 == 0 else zfx z1
set_option maxRecDepth 100000 in
set_option maxHeartbeats 2000000 in
theorem zpp (b o n c:Nat) (z0 z1 z2:Int) (w:World) (hn:3 ≤ n) (_hc:n ≤ c) (hb:b < w.heap.size) (h0:w.cell? ⟨b,o,none⟩ = some (.int .i64 z0)) (h1:w.cell? ⟨b,o + 1,none⟩ = some (.int .i64 z1)) (h2:w.cell? ⟨b,o + 2,none⟩ = some (.int .i64 z2)) (hF:FD w) (r1:z1 ≤ 9223372036854775807) (r2:0 ≤ z2 ∧ z2 ≤ 9223372036854775807) :
  Calls Tryz.prog 22 #[.slice (some ⟨b,o,none⟩) n c] w fun e w' => (∃ s,e = .returned (.tuple #[.agg #[.int .i64 (denZ z0 z1 z2).dir,.string s,.int .i64 (denZ z0 z1 z2).child],.bool (zom z0 z1 z2)]) ∧ (zom z0 z1 z2 = true → s = (denZ z0 z1 z2).name)) ∧ Below w.heap.size w w':=by
 have BW:=zaa ((Below.refl w.heap.size w).alloc (Nat.le_refl _) (.cells #[.int .i64 0,.string ⟨#[]⟩,.int .i64 0] 69))
 have S:Hid (∀ w',Below w.heap.size w w' → w'.cell? ⟨b,o,none⟩ = some (.int .i64 z0) ∧ w'.cell? ⟨b,o + 1,none⟩ = some (.int .i64 z1) ∧ w'.cell? ⟨b,o + 2,none⟩ = some (.int .i64 z2)):=fun w' hw' => ⟨(hw'.cell (p:=⟨b,o,none⟩) hb).trans h0,(hw'.cell (p:=⟨b,o + 1,none⟩) hb).trans h1,(hw'.cell (p:=⟨b,o + 2,none⟩) hb).trans h2⟩
 obtain ⟨s0,s1,s2⟩:=S.out _ BW.out
 have F:=zaa hF
 have i0:(0:Int) < (n:Int):=by omega
 have i00:0 < n:=by omega
 have i1:(1:Int) < (n:Int):=by omega
 have i2:(2:Int) < (n:Int):=by omega
 clear h0 h1 h2 hF
 by_cases c2:z2 = 0
 ·subst c2
  have E1:denZ z0 z1 0 = ⟨0,⟨#[]⟩,-1⟩:=by unfold denZ; rw [if_pos rfl]
  have E2:zom z0 z1 0 = (z0 == 0 && z1 == 0):=by unfold zom; rw [if_pos rfl]
  rw [E1,E2]
  clear E1 E2
  obtain ⟨f0,f1,f2⟩:=FD.cells (F.out.below BW.out)
  by_cases c0:z0 = 0
  ·have q0:(z0 == 0) = true:=by rw [c0]; rfl
   have EQ:Hid ((z0 == 0 && z1 == 0) = (z1 == 0)):=by unfold Hid; rw [q0]; rfl
   rw [EQ.out]
   clear c0 EQ
   go_enter Tryz.func22,Tryz.ntmps22
   go_wp2_with fail
   go_region_held3 (fun w' => (w'.cell? ⟨b,o,none⟩ = some (.int .i64 z0) ∧ w'.cell? ⟨b,o + 1,none⟩ = some (.int .i64 z1) ∧ w'.cell? ⟨b,o + 2,none⟩ = some (.int .i64 0)) ∧ w'.cell? ⟨0,0,none⟩ = some (.int .i64 0) ∧ w'.cell? ⟨0,1,none⟩ = some (.string ⟨#[]⟩) ∧ w'.cell? ⟨0,2,none⟩ = some (.int .i64 (-1)))
    (exact ⟨S.out _ (by repeat (first | with_reducible exact BW.out | with_reducible refine zaw ?_ _ | with_reducible exact Below.refl _ _ | with_reducible refine Below.drew ?_)),FD.cells (F.out.below (by repeat (first | with_reducible exact BW.out | with_reducible refine zaw ?_ _ | with_reducible exact Below.refl _ _ | with_reducible refine Below.drew ?_)))⟩)
    (fail)
   all_goals
    go_wp2
    refine bodyPost_ret (v:=.tuple #[.agg #[.int .i64 0,.string ⟨#[]⟩,.int .i64 (-1)],.bool (z1 == 0)]) (by simp [results,Tryz.results22,go_sem]) rfl ?_
    exact ⟨⟨_,rfl,fun _ => rfl⟩,(by repeat (first | with_reducible exact BW.out | with_reducible exact Below.refl _ _ | with_reducible refine zaw ?_ _ | with_reducible refine Below.drew ?_ | refine Below.setCell ?_ (by exact Nat.le_refl _) _))⟩
  ·have q0:(z0 == 0) = false:=by rw [beq_eq_false_iff_ne]; exact c0
   have EQ:Hid ((z0 == 0 && z1 == 0) = false):=by unfold Hid; rw [q0]; rfl
   rw [EQ.out]
   clear c0 EQ
   go_enter Tryz.func22,Tryz.ntmps22
   go_wp2_with fail
   go_region
   all_goals
    go_wp2
    refine bodyPost_ret (v:=.tuple #[.agg #[.int .i64 0,.string ⟨#[]⟩,.int .i64 (-1)],.bool false]) (by simp [results,Tryz.results22,go_sem]) rfl ?_
    exact ⟨⟨_,rfl,fun _ => rfl⟩,(by repeat (first | with_reducible exact BW.out | with_reducible exact Below.refl _ _ | with_reducible refine zaw ?_ _ | with_reducible refine Below.drew ?_ | refine Below.setCell ?_ (by exact Nat.le_refl _) _))⟩
 ·have q:(z2 == 0) = false:=by rw [beq_eq_false_iff_ne]; exact c2
  have E1:denZ z0 z1 z2 = ⟨z0,zto z1,z2 - 1⟩:=by unfold denZ; rw [if_neg c2]
  have E2:zom z0 z1 z2 = zfx z1:=by unfold zom; rw [if_neg c2]
  rw [E1,E2]
  have LU:=zaa (fun w1 => zjw z1 w1 r1)
  have EU:Hid ((unpC z1 == 0) = zfx z1):=by
   unfold Hid unpC
   cases zfx z1 <;> rfl
  have wp1:IntKind.i64.wrap (z2 - 1) = z2 - 1:=by rw [IntKind.wrap_i64]; omega
  rw [← EU.out]
  clear E1 E2 c2 EU
  generalize unpC z1 = uc at *
  generalize zto z1 = us at *
  go_enter Tryz.func22,Tryz.ntmps22
  go_wp2_with fail
  refine (LU.out _).mono ?_
  rintro e w1 ⟨rfl,hb1⟩
  have B1:=zaa (zab BW.out hb1 BW.out.size)
  have VB:Hid (w1.heap[w.heap.size]? = some (.cells #[.int .i64 0,.string ⟨#[]⟩,.int .i64 0] 69 (0,0))):=(hb1.block _ (by simp)).trans (zah rfl)
  clear hb1 s0 s1 s2
  obtain ⟨s0,s1,s2⟩:=S.out _ B1.out
  obtain ⟨t0,t1,t2⟩:=zay VB.out
  have u0:=(zao (xs:=[.int .i64 0,.string ⟨#[]⟩,.int .i64 0]) VB.out 0).2
  have u1:=(zao (xs:=[.int .i64 0,.string ⟨#[]⟩,.int .i64 0]) VB.out 1).2
  have u2:=(zao (xs:=[.int .i64 0,.string ⟨#[]⟩,.int .i64 0]) VB.out 2).2
  go_wp2_with fail
  go_region_held3 (fun w' => w'.cell? ⟨b,o,none⟩ = some (.int .i64 z0) ∧ w'.cell? ⟨b,o + 1,none⟩ = some (.int .i64 z1) ∧ w'.cell? ⟨b,o + 2,none⟩ = some (.int .i64 z2))
   (exact S.out _ (by repeat (first | with_reducible exact B1.out | with_reducible refine Below.drew ?_ | refine Below.setCell ?_ (by exact Nat.le_refl _) _)))
   (fail)
  all_goals
   go_wp2
   refine bodyPost_ret (v:=.tuple #[.agg #[.int .i64 z0,.string us,.int .i64 (z2 - 1)],.bool (uc == 0)]) (by simp [results,Tryz.results22,go_sem,t0,t1,t2]) rfl ?_
   exact ⟨⟨_,rfl,fun _ => rfl⟩,(by repeat (first | with_reducible exact B1.out | with_reducible refine Below.drew ?_ | refine Below.setCell ?_ (by exact Nat.le_refl _) _))⟩
set_option maxRecDepth 100000 in
set_option maxHeartbeats 8000000 in
theorem yanz (v:Value) (bs:List Int) (w:World) (h:RdB w v bs) (hl:bs.length ≤ 1048576) :
  Calls Tryz.prog 5 #[v] w fun e w' => ∃ f:FV,e = .returned (.agg #[.slice f.a0 f.n0 f.c0,.slice f.a1 f.n1 f.c1,.slice f.a2 f.n2 f.c2,.slice f.a3 f.n3 f.c3,.slice f.a4 f.n4 f.c4,.slice f.a5 f.n5 f.c5,.int .i64 f.x,.int .i64 f.y,.slice f.a8 f.n8 f.c8,.bool f.z]) ∧ FsIdle w' (.agg #[.slice f.a0 f.n0 f.c0,.slice f.a1 f.n1 f.c1,.slice f.a2 f.n2 f.c2,.slice f.a3 f.n3 f.c3,.slice f.a4 f.n4 f.c4,.slice f.a5 f.n5 f.c5,.int .i64 f.x,.int .i64 f.y,.slice f.a8 f.n8 f.c8,.bool f.z]) ∧ Below w.heap.size w w':=by
 have H:=zaa h
 obtain ⟨aC,cC,rfl,_⟩:=h.shape
 obtain ⟨V,hV⟩:∃ V,V = w.alloc (.cells #[.slice none 0 0,.slice none 0 0,.slice none 0 0,.slice none 0 0,.slice none 0 0,.slice none 0 0,.int .i64 0,.int .i64 0,.slice none 0 0,.bool false] 37):=⟨_,rfl⟩
 have RV:Hid (V.heap[w.heap.size]? = some (.cells #[.slice none 0 0,.slice none 0 0,.slice none 0 0,.slice none 0 0,.slice none 0 0,.slice none 0 0,.int .i64 0,.int .i64 0,.slice none 0 0,.bool false] 37 (0,0))):=by rw [hV]; exact zah rfl
 have BV:Hid (Below w.heap.size w V):=by rw [hV]; exact (Below.refl _ _).alloc (Nat.le_refl _) _
 have zV:Hid (w.heap.size < V.heap.size):=by rw [hV]; simp [Hid]
 clear h
 go_enter Tryz.func5,Tryz.ntmps5
 go_upto_region 1 with fail
 rw [← hV]
 clear hV
 go_wp2_with fail
 refine (zjr _ bs V (H.out.below BV.out) hl).mono ?_
 rintro e w1 ⟨rfl,S,hb⟩
 have S1:=zaa S.src
 have B1:=zaa hb
 clear S hb
 go_wp2_with fail
 refine (yahx V w1 _ _ _ bs S1.out (by omega)).mono ?_
 rintro e w2 ⟨v2,k',rfl,-,hi,-,ho⟩
 have B2:=zaa (B1.out.trans (ho.below (Nat.le_refl _) B1.out.size))
 have B3:=zaa (zab BV.out B2.out BV.out.size)
 have RW:=zaa ((B2.out.block w.heap.size zV.out).trans RV.out)
 obtain ⟨f,rfl⟩:=hi.form
 have R2:=zaa hi
 clear ho hi S1 B1 RV BV zV B2 H
 obtain ⟨r0,r1,r2,r3,r4,r5,r6,r7,r8,r9,s0,s1,s2,s3,s4,s5,s6,s7,s8,s9⟩:=zaj RW.out
 have OF:=zaa (zbu w2 w.heap.size (.slice f.a0 f.n0 f.c0) (.slice f.a1 f.n1 f.c1) (.slice f.a2 f.n2 f.c2) (.slice f.a3 f.n3 f.c3) (.slice f.a4 f.n4 f.c4) (.slice f.a5 f.n5 f.c5) (.int .i64 f.x) (.int .i64 f.y) (.slice f.a8 f.n8 f.c8) (.bool f.z))
 have FI:=zaa (R2.out.soft (Soft.outside OF.out RW.out rfl))
 have BF:=zaa (B3.out.trans (OF.out.below (B:=w.heap.size) (Nat.le_refl _) B3.out.size))
 clear OF R2 B3
 go_wp2
 refine bodyPost_ret (v:=.agg #[.slice f.a0 f.n0 f.c0,.slice f.a1 f.n1 f.c1,.slice f.a2 f.n2 f.c2,.slice f.a3 f.n3 f.c3,.slice f.a4 f.n4 f.c4,.slice f.a5 f.n5 f.c5,.int .i64 f.x,.int .i64 f.y,.slice f.a8 f.n8 f.c8,.bool f.z]) (by simp [results,Tryz.results5,go_sem,r0,r1,r2,r3,r4,r5,r6,r7,r8,r9]) rfl ?_
 exact ⟨f,rfl,FI.out,BF.out⟩
set_option maxRecDepth 100000 in
set_option maxHeartbeats 4000000 in
theorem zqx (v:Value) (bs:List Int) (w:World) (h:RdB w v bs) (hl:bs.length ≤ 1048576) :
  Calls Tryz.prog 7 #[v] w fun e w' => ∃ p,e = .returned (.string p) ∧ PathD p ∧ Below w.heap.size w w':=by
 have H:=zaa h
 obtain ⟨aC,cC,rfl,_⟩:=h.shape
 clear h
 go_enter Tryz.func7,Tryz.ntmps7
 go_wp2_with fail
 refine (zjr _ bs w H.out hl).mono ?_
 rintro e w1 ⟨rfl,S,hb⟩
 have S1:=zaa S.src
 clear S hb
 go_wp2_with fail
 refine (zfj w w1 _ _ _ bs S1.out (by omega)).mono ?_
 rintro e w2 ⟨s,rfl,hs,S,-⟩
 have E:=zaa hs
 have B:=zaa S.below
 clear hs S
 go_wp2
 go_ret
 exact ⟨_,rfl,E.out,B.out⟩
theorem zek {c w':World} {b:Nat} {o:Obj} {B:Nat} (h:c.heap[b]? = some o) (hb:Below B c w') (hB:b < B):w'.heap[b]? = some o:=(hb.block b hB).trans h
theorem zpn {c:World} {b:Nat} {o:Obj} (h:c.heap[b]? = some o):b < c.heap.size:=(Array.getElem?_eq_some_iff.1 h).1
set_option maxHeartbeats 1000000 in
theorem zhe (va vb:Value) (l:List Se) (w:World) (ha:RdE w va l) (hb:RdE w vb l) (hn:l.length ≤ 2147483648) :
  Calls Tryz.prog 10 #[va,vb] w fun e w' => e = .returned (.bool true) ∧ Below w.heap.size w w':=by
 obtain ⟨ao,cap,rfl,hcap,hc⟩:=ha.shape
 obtain ⟨ao2,cap2,rfl,hcap2,hc2⟩:=hb.shape
 clear ha hb
 go_enter Tryz.func10,Tryz.ntmps10
 go_wp2
 go_loopw [5] (fun i wr => ∃ k:Nat,k ≤ l.length ∧ i = .int .i64 k ∧ Below w.heap.size w wr) (fun i _ => l.length - (intOf i).toNat)
 case atStart => exact ⟨0,by omega,rfl,Below.refl _ _⟩
 case round =>
  obtain ⟨k,hk,rfl,hbw⟩:=hrel
  by_cases hlt:k < l.length
  ·obtain ⟨b,o,rfl,hbl,hcell⟩:=hc (by omega)
   obtain ⟨b2,o2,rfl,hbl2,hcell2⟩:=hc2 (by omega)
   obtain ⟨c0,c1⟩:=hcell k hlt
   obtain ⟨d0,d1⟩:=hcell2 k hlt
   have e0:=(hbw.cell (p:=⟨b,o + k * 2,none⟩) hbl).trans c0
   have e1:=(hbw.cell (p:=⟨b,o + k * 2 + 1,none⟩) hbl).trans c1
   have f0:=(hbw.cell (p:=⟨b2,o2 + k * 2,none⟩) hbl2).trans d0
   have f1:=(hbw.cell (p:=⟨b2,o2 + k * 2 + 1,none⟩) hbl2).trans d1
   have hlt':(k:Int) < (l.length:Int):=by omega
   have hge:(0:Int) ≤ (k:Int):=by omega
   clear hcell hcell2 hc hc2 c0 c1 d0 d1
   go_wp2
   go_quiet (fail)
   go_wp2
   go_roundw
   case rel => exact ⟨k + 1,by omega,by go_num,Below.drewN'' hbw _⟩
   case measure => simp [intOf]; omega
  ·go_wp2
   go_ret
   exact ⟨rfl,hbw⟩
set_option maxRecDepth 100000 in
set_option maxHeartbeats 16000000 in
theorem zqa (va vb:Value) (ns:List Ino) (ds:List Den) (w:World) (ha:RdIm w va ns ds) (hb:RdIm w vb ns ds) (hn:ns.length ≤ 1048576) (hd:ds.length ≤ 1048576) :
  Calls Tryz.prog 13 #[va,vb] w fun e w' => e = .returned (.bool true) ∧ Below w.heap.size w w':=by
 obtain ⟨vW,vP,rfl,h1,h2⟩:=ha
 obtain ⟨uW,uP,rfl,k1,k2⟩:=hb
 obtain ⟨a1,c1,rfl,-,g1⟩:=h1.shape
 obtain ⟨a2,c2,rfl,-,g2⟩:=h2.shape
 obtain ⟨a3,c3,rfl,-,g3⟩:=k1.shape
 obtain ⟨a4,c4,rfl,-,g4⟩:=k2.shape
 clear h1 h2 k1 k2
 obtain ⟨V,hV⟩:∃ V,V = (w.alloc (.cells #[.slice a1 ns.length c1,.slice a2 ds.length c2] 42)).alloc (.cells #[.slice a3 ns.length c3,.slice a4 ds.length c4] 42):=⟨_,rfl⟩
 have BV:Hid (Below w.heap.size w V):=by rw [hV]; exact ((Below.refl _ _).alloc (Nat.le_refl _) _).alloc (by simp) _
 have MB:Hid (∀ w',Below V.heap.size V w' → w'.heap[w.heap.size]? = some (.cells #[.slice a1 ns.length c1,.slice a2 ds.length c2] 42 (0,0)) ∧ w'.heap[w.heap.size + 1]? = some (.cells #[.slice a3 ns.length c3,.slice a4 ds.length c4] 42 (0,0))):=fun w' hb => by
  have e1:V.heap[w.heap.size]? = some (.cells #[.slice a1 ns.length c1,.slice a2 ds.length c2] 42 (0,0)):=by rw [hV]; exact zak (zah rfl)
  have e2:V.heap[w.heap.size + 1]? = some (.cells #[.slice a3 ns.length c3,.slice a4 ds.length c4] 42 (0,0)):=by rw [hV]; exact zah (by simp)
  exact ⟨zek e1 hb (zpn e1),zek e2 hb (zpn e2)⟩
 have GI:Hid (∀ k (h:k < ns.length),∃ b o b2 o2,a1 = some ⟨b,o,none⟩ ∧ a3 = some ⟨b2,o2,none⟩ ∧ ∀ w',Below V.heap.size V w' → (w'.cell? ⟨b,o + k * 11,none⟩ = some (.int .i64 ns[k].kind) ∧ w'.cell? ⟨b,o + k * 11 + 1,none⟩ = some (.int .i64 ns[k].size) ∧ w'.cell? ⟨b,o + k * 11 + 2,none⟩ = some (.int .i64 ns[k].links) ∧ w'.cell? ⟨b,o + k * 11 + 3,none⟩ = some (.int .i64 ns[k].m0) ∧ w'.cell? ⟨b,o + k * 11 + 4,none⟩ = some (.int .i64 ns[k].m1) ∧ w'.cell? ⟨b,o + k * 11 + 5,none⟩ = some (.int .i64 ns[k].m2) ∧ w'.cell? ⟨b,o + k * 11 + 6,none⟩ = some (.int .i64 ns[k].m3) ∧ w'.cell? ⟨b,o + k * 11 + 7,none⟩ = some (.int .i64 ns[k].m4) ∧ w'.cell? ⟨b,o + k * 11 + 8,none⟩ = some (.int .i64 ns[k].m5) ∧ w'.cell? ⟨b,o + k * 11 + 9,none⟩ = some (.int .i64 ns[k].m6) ∧ w'.cell? ⟨b,o + k * 11 + 10,none⟩ = some (.int .i64 ns[k].m7)) ∧ (w'.cell? ⟨b2,o2 + k * 11,none⟩ = some (.int .i64 ns[k].kind) ∧ w'.cell? ⟨b2,o2 + k * 11 + 1,none⟩ = some (.int .i64 ns[k].size) ∧ w'.cell? ⟨b2,o2 + k * 11 + 2,none⟩ = some (.int .i64 ns[k].links) ∧ w'.cell? ⟨b2,o2 + k * 11 + 3,none⟩ = some (.int .i64 ns[k].m0) ∧ w'.cell? ⟨b2,o2 + k * 11 + 4,none⟩ = some (.int .i64 ns[k].m1) ∧ w'.cell? ⟨b2,o2 + k * 11 + 5,none⟩ = some (.int .i64 ns[k].m2) ∧ w'.cell? ⟨b2,o2 + k * 11 + 6,none⟩ = some (.int .i64 ns[k].m3) ∧ w'.cell? ⟨b2,o2 + k * 11 + 7,none⟩ = some (.int .i64 ns[k].m4) ∧ w'.cell? ⟨b2,o2 + k * 11 + 8,none⟩ = some (.int .i64 ns[k].m5) ∧ w'.cell? ⟨b2,o2 + k * 11 + 9,none⟩ = some (.int .i64 ns[k].m6) ∧ w'.cell? ⟨b2,o2 + k * 11 + 10,none⟩ = some (.int .i64 ns[k].m7))):=fun k h => by
  obtain ⟨b,o,e1,l1,s1⟩:=g1 (by omega)
  obtain ⟨b2,o2,e2,l2,s2⟩:=g3 (by omega)
  refine ⟨b,o,b2,o2,e1,e2,fun w' hb' => ?_⟩
  have hb:=zab BV.out hb' BV.out.size
  obtain ⟨p0,p1,p2,p3,p4,p5,p6,p7,p8,p9,p10⟩:=s1 k h
  obtain ⟨q0,q1,q2,q3,q4,q5,q6,q7,q8,q9,q10⟩:=s2 k h
  exact ⟨⟨(hb.cell (p:=⟨b,o + k * 11,none⟩) l1).trans p0,(hb.cell (p:=⟨b,o + k * 11 + 1,none⟩) l1).trans p1,(hb.cell (p:=⟨b,o + k * 11 + 2,none⟩) l1).trans p2,(hb.cell (p:=⟨b,o + k * 11 + 3,none⟩) l1).trans p3,(hb.cell (p:=⟨b,o + k * 11 + 4,none⟩) l1).trans p4,(hb.cell (p:=⟨b,o + k * 11 + 5,none⟩) l1).trans p5,(hb.cell (p:=⟨b,o + k * 11 + 6,none⟩) l1).trans p6,(hb.cell (p:=⟨b,o + k * 11 + 7,none⟩) l1).trans p7,(hb.cell (p:=⟨b,o + k * 11 + 8,none⟩) l1).trans p8,(hb.cell (p:=⟨b,o + k * 11 + 9,none⟩) l1).trans p9,(hb.cell (p:=⟨b,o + k * 11 + 10,none⟩) l1).trans p10⟩,(hb.cell (p:=⟨b2,o2 + k * 11,none⟩) l2).trans q0,(hb.cell (p:=⟨b2,o2 + k * 11 + 1,none⟩) l2).trans q1,(hb.cell (p:=⟨b2,o2 + k * 11 + 2,none⟩) l2).trans q2,(hb.cell (p:=⟨b2,o2 + k * 11 + 3,none⟩) l2).trans q3,(hb.cell (p:=⟨b2,o2 + k * 11 + 4,none⟩) l2).trans q4,(hb.cell (p:=⟨b2,o2 + k * 11 + 5,none⟩) l2).trans q5,(hb.cell (p:=⟨b2,o2 + k * 11 + 6,none⟩) l2).trans q6,(hb.cell (p:=⟨b2,o2 + k * 11 + 7,none⟩) l2).trans q7,(hb.cell (p:=⟨b2,o2 + k * 11 + 8,none⟩) l2).trans q8,(hb.cell (p:=⟨b2,o2 + k * 11 + 9,none⟩) l2).trans q9,(hb.cell (p:=⟨b2,o2 + k * 11 + 10,none⟩) l2).trans q10⟩
 have GD:Hid (∀ k (h:k < ds.length),∃ b o b2 o2,a2 = some ⟨b,o,none⟩ ∧ a4 = some ⟨b2,o2,none⟩ ∧ ∀ w',Below V.heap.size V w' → (w'.cell? ⟨b,o + k * 3,none⟩ = some (.int .i64 ds[k].dir) ∧ w'.cell? ⟨b,o + k * 3 + 1,none⟩ = some (.string ds[k].name) ∧ w'.cell? ⟨b,o + k * 3 + 2,none⟩ = some (.int .i64 ds[k].child)) ∧ (w'.cell? ⟨b2,o2 + k * 3,none⟩ = some (.int .i64 ds[k].dir) ∧ w'.cell? ⟨b2,o2 + k * 3 + 1,none⟩ = some (.string ds[k].name) ∧ w'.cell? ⟨b2,o2 + k * 3 + 2,none⟩ = some (.int .i64 ds[k].child))):=fun k h => by
  obtain ⟨b,o,e1,l1,s1⟩:=g2 (by omega)
  obtain ⟨b2,o2,e2,l2,s2⟩:=g4 (by omega)
  refine ⟨b,o,b2,o2,e1,e2,fun w' hb' => ?_⟩
  have hb:=zab BV.out hb' BV.out.size
  obtain ⟨p0,p1,p2⟩:=s1 k h
  obtain ⟨q0,q1,q2⟩:=s2 k h
  exact ⟨⟨(hb.cell (p:=⟨b,o + k * 3,none⟩) l1).trans p0,(hb.cell (p:=⟨b,o + k * 3 + 1,none⟩) l1).trans p1,(hb.cell (p:=⟨b,o + k * 3 + 2,none⟩) l1).trans p2⟩,(hb.cell (p:=⟨b2,o2 + k * 3,none⟩) l2).trans q0,(hb.cell (p:=⟨b2,o2 + k * 3 + 1,none⟩) l2).trans q1,(hb.cell (p:=⟨b2,o2 + k * 3 + 2,none⟩) l2).trans q2⟩
 clear g1 g2 g3 g4
 obtain ⟨y1,y2⟩:=MB.out V (Below.refl _ _)
 obtain ⟨y10,y11,-⟩:=zac y1
 obtain ⟨y20,y21,-⟩:=zac y2
 go_enter Tryz.func13,Tryz.ntmps13
 go_upto_region 1 with fail
 rw [← hV]
 clear hV y1 y2
 go_wp2_with fail
 clear y10 y11 y20 y21
 go_loopw [5] (fun i wr => ∃ k:Nat,k ≤ ns.length ∧ i = .int .i64 k ∧ Hid (Below V.heap.size V wr)) (fun i _ => ns.length - (intOf i).toNat)
 case atStart => exact ⟨0,by omega,rfl,Below.refl _ _⟩
 case round =>
  obtain ⟨k,hk,rfl,J⟩:=hrel
  obtain ⟨y1,y2⟩:=MB.out wr J.out
  obtain ⟨y10,y11,-⟩:=zac y1
  obtain ⟨y20,y21,-⟩:=zac y2
  clear y1 y2
  by_cases hlt:k < ns.length
  ·obtain ⟨b,o,b2,o2,e1,e3,hc⟩:=GI.out k hlt
   subst e1
   subst e3
   obtain ⟨⟨p0,p1,p2,p3,p4,p5,p6,p7,p8,p9,p10⟩,q0,q1,q2,q3,q4,q5,q6,q7,q8,q9,q10⟩:=hc wr J.out
   generalize ns[k] = x at *
   have hlt':(k:Int) < (ns.length:Int):=by omega
   have hge:(0:Int) ≤ (k:Int):=by omega
   have J1:Hid (∀ n,Below V.heap.size V (wr.drewN n)):=fun n => Below.drewN'' J.out n
   have EA:zsb [x.kind,x.size,x.links,x.m0,x.m1,x.m2,x.m3,x.m4,x.m5,x.m6,x.m7] [x.kind,x.size,x.links,x.m0,x.m1,x.m2,x.m3,x.m4,x.m5,x.m6,x.m7] = true:=zyd rfl
   clear hc GI GD MB J
   go_wp2_with fail
   go_quiet (fail)
   go_wp2
   go_roundw
   case rel => exact ⟨k + 1,by omega,by go_num,J1.out _⟩
   case measure => simp [intOf]; omega
  ·have hlt':¬ (k:Int) < (ns.length:Int):=by omega
   go_wp2_with fail
   clear y10 y11 y20 y21
   go_loopw [6] (fun i wr2 => ∃ k:Nat,k ≤ ds.length ∧ i = .int .i64 k ∧ Hid (Below V.heap.size V wr2)) (fun i _ => ds.length - (intOf i).toNat)
   case atStart => exact ⟨0,by omega,rfl,J⟩
   case round =>
    obtain ⟨m,hm,rfl,J2⟩:=hrel
    rename World => wr2
    obtain ⟨y1,y2⟩:=MB.out wr2 J2.out
    obtain ⟨y10,y11,-⟩:=zac y1
    obtain ⟨y20,y21,-⟩:=zac y2
    clear y1 y2
    by_cases hmt:m < ds.length
    ·obtain ⟨b,o,b2,o2,e1,e3,hc⟩:=GD.out m hmt
     subst e1
     subst e3
     obtain ⟨⟨p0,p1,p2⟩,q0,q1,q2⟩:=hc wr2 J2.out
     generalize ds[m] = x at *
     have hmt':(m:Int) < (ds.length:Int):=by omega
     have hge:(0:Int) ≤ (m:Int):=by omega
     have J1:Hid (∀ n,Below V.heap.size V (wr2.drewN n)):=fun n => Below.drewN'' J2.out n
     have EA:zko x.dir x.name x.child x.dir x.name x.child = true:=by unfold zko; simp
     clear hc GI GD MB J J2
     go_wp2_with fail
     go_quiet (fail)
     go_wp2
     go_roundw
     case rel => exact ⟨m + 1,by omega,by go_num,J1.out _⟩
     case measure => simp [intOf]; omega
    ·have hmt':¬ (m:Int) < (ds.length:Int):=by omega
     go_wp2
     go_ret
     exact ⟨rfl,zab BV.out J2.out BV.out.size⟩
end Go.Proofs.YtkdjfhkalelafaaGreatDoor
