/- Several texts laid together: RdE, RdF, DuA, DevI. -/
import Derived.Test.YtlkmnpanddchdaaGreatDoorZAW
import Derived.Test.YtlkmnpanddchdaaGreatDoorZAS
import Derived.Test.YtlkmnpanddchdaaGreatDoorZAJ
import Derived.Deep.RegionWith
import Derived.Test.YtlkmnpanddchdaaGreatDoorZAY
import Derived.Deep.RegionLaw
import Derived.Test.YtlkmnpanddchdaaGreatDoorZAZ
import Derived.Test.YtlkmnpanddchdaaGreatDoorZAG
import Derived.Test.YtlkmnpanddchdaaGreatDoorZAD
import Derived.Test.YtlkmnpanddchdaaGreatDoorZAE
namespace Go.Proofs.YtlkmnpanddchdaaGreatDoor
open Go.RowKit
theorem zxw (a:Option Addr) (n cap:Nat) (hn:8 ≤ n) (w:World):(Instr.arrayAt 195 (.slice a n cap)).run Tryz.prog w = .ok (.pointer a) w:=by
 have h:¬ n < 8:=by omega
 simp [Instr.arrayAt,run_underlying Tryz.underlying195,h,go_sem]
set_option maxRecDepth 100000 in
set_option maxHeartbeats 2000000 in
theorem zvs (b o n c:Nat) (x:Ino) (w:World) (hn:11 ≤ n) (hc:n ≤ c) (hb:b < w.heap.size) (h:∀ j,j < 11 → w.cell? ⟨b,o + j,none⟩ = x.cs[j]?) :
  Calls Tryz.prog 206 #[.slice (some ⟨b,o,none⟩) n c] w fun e w' => e = .returned x.v ∧ Below w.heap.size w w':=by
 have BW:=zaa ((Below.refl w.heap.size w).alloc (Nat.le_refl _) (.cells #[.int .i64 0,.int .i64 0,.int .i64 0,.int .i64 0,.int .i64 0,.int .i64 0,.int .i64 0,.int .i64 0,.int .i64 0,.int .i64 0,.int .i64 0] 197))
 have S:Hid (∀ w',Below w.heap.size w w' → w'.cell? ⟨b,o,none⟩ = some (.int .i64 x.kind) ∧ w'.cell? ⟨b,o + 1,none⟩ = some (.int .i64 x.size) ∧ w'.cell? ⟨b,o + 2,none⟩ = some (.int .i64 x.links) ∧ w'.cell? ⟨b,o + 3,none⟩ = some (.int .i64 x.m0) ∧ w'.cell? ⟨b,o + 3 + 1,none⟩ = some (.int .i64 x.m1) ∧ w'.cell? ⟨b,o + 3 + 2,none⟩ = some (.int .i64 x.m2) ∧ w'.cell? ⟨b,o + 3 + 3,none⟩ = some (.int .i64 x.m3) ∧ w'.cell? ⟨b,o + 3 + 4,none⟩ = some (.int .i64 x.m4) ∧ w'.cell? ⟨b,o + 3 + 5,none⟩ = some (.int .i64 x.m5) ∧ w'.cell? ⟨b,o + 3 + 6,none⟩ = some (.int .i64 x.m6) ∧ w'.cell? ⟨b,o + 3 + 7,none⟩ = some (.int .i64 x.m7)):=fun w' hw' =>
  have g:=fun j (hj:j < 11) => (hw'.cell (p:=⟨b,o + j,none⟩) hb).trans (h j hj)
  ⟨g 0 (by omega),g 1 (by omega),g 2 (by omega),g 3 (by omega),g 4 (by omega),g 5 (by omega),g 6 (by omega),g 7 (by omega),g 8 (by omega),g 9 (by omega),g 10 (by omega)⟩
 obtain ⟨s0,s1,s2,s3,s4,s5,s6,s7,s8,s9,s10⟩:=S.out _ BW.out
 have i0:(0:Int) < (n:Int):=by omega
 have i00:0 < n:=by omega
 have i1:(1:Int) < (n:Int):=by omega
 have i2:(2:Int) < (n:Int):=by omega
 have i3:(11:Int) ≤ (c:Int):=by omega
 have i4:¬ c = 3:=by omega
 have i5:(3:Int) ≤ 11:=by omega
 have har:=zxw (some ⟨b,o + 3,none⟩) 8 (c - 3) (Nat.le_refl _)
 unfold Ino.v
 clear h hn hc
 go_enter Tryz.func206,Tryz.ntmps206
 go_wp2_with fail
 go_region_held3 (fun w' => w'.cell? ⟨b,o,none⟩ = some (.int .i64 x.kind) ∧ w'.cell? ⟨b,o + 1,none⟩ = some (.int .i64 x.size) ∧ w'.cell? ⟨b,o + 2,none⟩ = some (.int .i64 x.links) ∧ w'.cell? ⟨b,o + 3,none⟩ = some (.int .i64 x.m0) ∧ w'.cell? ⟨b,o + 3 + 1,none⟩ = some (.int .i64 x.m1) ∧ w'.cell? ⟨b,o + 3 + 2,none⟩ = some (.int .i64 x.m2) ∧ w'.cell? ⟨b,o + 3 + 3,none⟩ = some (.int .i64 x.m3) ∧ w'.cell? ⟨b,o + 3 + 4,none⟩ = some (.int .i64 x.m4) ∧ w'.cell? ⟨b,o + 3 + 5,none⟩ = some (.int .i64 x.m5) ∧ w'.cell? ⟨b,o + 3 + 6,none⟩ = some (.int .i64 x.m6) ∧ w'.cell? ⟨b,o + 3 + 7,none⟩ = some (.int .i64 x.m7))
  (exact S.out _ (by repeat (first | with_reducible exact BW.out | with_reducible refine zan ?_ _ | with_reducible exact Below.refl _ _ | with_reducible refine Below.drew ?_)))
  (fail)
 all_goals
  go_wp2
  refine bodyPost_ret (v:=.agg #[.int .i64 x.kind,.int .i64 x.size,.int .i64 x.links,.int .i64 x.m0,.int .i64 x.m1,.int .i64 x.m2,.int .i64 x.m3,.int .i64 x.m4,.int .i64 x.m5,.int .i64 x.m6,.int .i64 x.m7]) (by simp [results,Tryz.results206,go_sem]) rfl ⟨rfl,?_⟩
  repeat (first | with_reducible exact Below.refl _ _ | with_reducible refine zan ?_ _ | with_reducible refine Below.drew ?_)
def denZ (z0 z1 z2:Int):Den:=if z2 = 0 then ⟨0,⟨#[]⟩,-1⟩ else ⟨z0,zzv z1,z2 - 1⟩
def zpz (z0 z1 z2:Int):Bool:=if z2 = 0 then z0 == 0 && z1 == 0 else zhd z1
set_option maxRecDepth 100000 in
set_option maxHeartbeats 2000000 in
theorem zra (b o n c:Nat) (z0 z1 z2:Int) (w:World) (hn:3 ≤ n) (_hc:n ≤ c) (hb:b < w.heap.size) (h0:w.cell? ⟨b,o,none⟩ = some (.int .i64 z0)) (h1:w.cell? ⟨b,o + 1,none⟩ = some (.int .i64 z1)) (h2:w.cell? ⟨b,o + 2,none⟩ = some (.int .i64 z2)) (hF:FD w) (r1:z1 ≤ 9223372036854775807) (r2:0 ≤ z2 ∧ z2 ≤ 9223372036854775807) :
  Calls Tryz.prog 207 #[.slice (some ⟨b,o,none⟩) n c] w fun e w' => (∃ s,e = .returned (.tuple #[.agg #[.int .i64 (denZ z0 z1 z2).dir,.string s,.int .i64 (denZ z0 z1 z2).child],.bool (zpz z0 z1 z2)]) ∧ (zpz z0 z1 z2 = true → s = (denZ z0 z1 z2).name)) ∧ Below w.heap.size w w':=by
 have BW:=zaa ((Below.refl w.heap.size w).alloc (Nat.le_refl _) (.cells #[.int .i64 0,.string ⟨#[]⟩,.int .i64 0] 199))
 have S:Hid (∀ w',Below w.heap.size w w' → w'.cell? ⟨b,o,none⟩ = some (.int .i64 z0) ∧ w'.cell? ⟨b,o + 1,none⟩ = some (.int .i64 z1) ∧ w'.cell? ⟨b,o + 2,none⟩ = some (.int .i64 z2)):=fun w' hw' => ⟨(hw'.cell (p:=⟨b,o,none⟩) hb).trans h0,(hw'.cell (p:=⟨b,o + 1,none⟩) hb).trans h1,(hw'.cell (p:=⟨b,o + 2,none⟩) hb).trans h2⟩
 obtain ⟨s0,s1,s2⟩:=S.out _ BW.out
 have F:=zaa hF
 have i0:(0:Int) < (n:Int):=by omega
 have i00:0 < n:=by omega
 have i1:(1:Int) < (n:Int):=by omega
 have i2:(2:Int) < (n:Int):=by omega
 clear h0 h1 h2 hF
 by_cases c2:z2 = 0
 ·subst c2
  have E1:denZ z0 z1 0 = ⟨0,⟨#[]⟩,-1⟩:=by unfold denZ; rw [if_pos rfl]
  have E2:zpz z0 z1 0 = (z0 == 0 && z1 == 0):=by unfold zpz; rw [if_pos rfl]
  rw [E1,E2]
  clear E1 E2
  obtain ⟨f0,f1,f2⟩:=FD.cells (F.out.below BW.out)
  by_cases c0:z0 = 0
  ·have q0:(z0 == 0) = true:=by rw [c0]; rfl
   have EQ:Hid ((z0 == 0 && z1 == 0) = (z1 == 0)):=by unfold Hid; rw [q0]; rfl
   rw [EQ.out]
   clear c0 EQ
   go_enter Tryz.func207,Tryz.ntmps207
   go_wp2_with fail
   go_region_held3 (fun w' => (w'.cell? ⟨b,o,none⟩ = some (.int .i64 z0) ∧ w'.cell? ⟨b,o + 1,none⟩ = some (.int .i64 z1) ∧ w'.cell? ⟨b,o + 2,none⟩ = some (.int .i64 0)) ∧ w'.cell? ⟨2,0,none⟩ = some (.int .i64 0) ∧ w'.cell? ⟨2,1,none⟩ = some (.string ⟨#[]⟩) ∧ w'.cell? ⟨2,2,none⟩ = some (.int .i64 (-1)))
    (exact ⟨S.out _ (by repeat (first | with_reducible exact BW.out | with_reducible refine zan ?_ _ | with_reducible exact Below.refl _ _ | with_reducible refine Below.drew ?_)),FD.cells (F.out.below (by repeat (first | with_reducible exact BW.out | with_reducible refine zan ?_ _ | with_reducible exact Below.refl _ _ | with_reducible refine Below.drew ?_)))⟩)
    (fail)
   all_goals
    go_wp2
    refine bodyPost_ret (v:=.tuple #[.agg #[.int .i64 0,.string ⟨#[]⟩,.int .i64 (-1)],.bool (z1 == 0)]) (by simp [results,Tryz.results207,go_sem]) rfl ?_
    exact ⟨⟨_,rfl,fun _ => rfl⟩,(by repeat (first | with_reducible exact BW.out | with_reducible exact Below.refl _ _ | with_reducible refine zan ?_ _ | with_reducible refine Below.drew ?_ | refine Below.setCell ?_ (by exact Nat.le_refl _) _))⟩
  ·have q0:(z0 == 0) = false:=by rw [beq_eq_false_iff_ne]; exact c0
   have EQ:Hid ((z0 == 0 && z1 == 0) = false):=by unfold Hid; rw [q0]; rfl
   rw [EQ.out]
   clear c0 EQ
   go_enter Tryz.func207,Tryz.ntmps207
   go_wp2_with fail
   go_region
   all_goals
    go_wp2
    refine bodyPost_ret (v:=.tuple #[.agg #[.int .i64 0,.string ⟨#[]⟩,.int .i64 (-1)],.bool false]) (by simp [results,Tryz.results207,go_sem]) rfl ?_
    exact ⟨⟨_,rfl,fun _ => rfl⟩,(by repeat (first | with_reducible exact BW.out | with_reducible exact Below.refl _ _ | with_reducible refine zan ?_ _ | with_reducible refine Below.drew ?_ | refine Below.setCell ?_ (by exact Nat.le_refl _) _))⟩
 ·have q:(z2 == 0) = false:=by rw [beq_eq_false_iff_ne]; exact c2
  have E1:denZ z0 z1 z2 = ⟨z0,zzv z1,z2 - 1⟩:=by unfold denZ; rw [if_neg c2]
  have E2:zpz z0 z1 z2 = zhd z1:=by unfold zpz; rw [if_neg c2]
  rw [E1,E2]
  have LU:=zaa (fun w1 => zkd z1 w1 r1)
  have EU:Hid ((unpC z1 == 0) = zhd z1):=by
   unfold Hid unpC
   cases zhd z1 <;> rfl
  have wp1:IntKind.i64.wrap (z2 - 1) = z2 - 1:=by rw [IntKind.wrap_i64]; omega
  rw [← EU.out]
  clear E1 E2 c2 EU
  generalize unpC z1 = uc at *
  generalize zzv z1 = us at *
  go_enter Tryz.func207,Tryz.ntmps207
  go_wp2_with fail
  refine (LU.out _).mono ?_
  rintro e w1 ⟨rfl,hb1⟩
  have B1:=zaa (zab BW.out hb1 BW.out.size)
  have VB:Hid (w1.heap[w.heap.size]? = some (.cells #[.int .i64 0,.string ⟨#[]⟩,.int .i64 0] 199 (0,0))):=(hb1.block _ (by simp)).trans (zag rfl)
  clear hb1 s0 s1 s2
  obtain ⟨s0,s1,s2⟩:=S.out _ B1.out
  obtain ⟨t0,t1,t2⟩:=zas VB.out
  have u0:=(zbe (xs:=[.int .i64 0,.string ⟨#[]⟩,.int .i64 0]) VB.out 0).2
  have u1:=(zbe (xs:=[.int .i64 0,.string ⟨#[]⟩,.int .i64 0]) VB.out 1).2
  have u2:=(zbe (xs:=[.int .i64 0,.string ⟨#[]⟩,.int .i64 0]) VB.out 2).2
  go_wp2_with fail
  go_region_held3 (fun w' => w'.cell? ⟨b,o,none⟩ = some (.int .i64 z0) ∧ w'.cell? ⟨b,o + 1,none⟩ = some (.int .i64 z1) ∧ w'.cell? ⟨b,o + 2,none⟩ = some (.int .i64 z2))
   (exact S.out _ (by repeat (first | with_reducible exact B1.out | with_reducible refine Below.drew ?_ | refine Below.setCell ?_ (by exact Nat.le_refl _) _)))
   (fail)
  all_goals
   go_wp2
   refine bodyPost_ret (v:=.tuple #[.agg #[.int .i64 z0,.string us,.int .i64 (z2 - 1)],.bool (uc == 0)]) (by simp [results,Tryz.results207,go_sem,t0,t1,t2]) rfl ?_
   exact ⟨⟨_,rfl,fun _ => rfl⟩,(by repeat (first | with_reducible exact B1.out | with_reducible refine Below.drew ?_ | refine Below.setCell ?_ (by exact Nat.le_refl _) _))⟩
theorem zvg {w:World} {base:Nat} {e:TypeId} {size:Nat} {v:Value} {n:Nat} {xs:List Value} (h:w.ownsRow base e size v n xs) (hn:0 < n):∃ b c,v = .slice (some ⟨b,0,none⟩) n c ∧ n ≤ c:=by
 rcases (zai h).shape with ⟨_,e,_⟩ | ⟨b,c,rfl,hc,_⟩
 ·omega
 ·exact ⟨b,c,rfl,hc⟩
theorem yaig (ls:List Int) (k:Nat):denZ (wdI ls (240 + 3 * (k:Int))) (wdI ls (240 + 3 * (k:Int) + 1)) (wdI ls (240 + 3 * (k:Int) + 2)) = zqy ls k ∧ zpz (wdI ls (240 + 3 * (k:Int))) (wdI ls (240 + 3 * (k:Int) + 1)) (wdI ls (240 + 3 * (k:Int) + 2)) = zcy ls k:=⟨rfl,rfl⟩
theorem yatw (ls:List Int) (n j:Nat) (h:n + j < ls.length):ls[n + j] = wdI ls ((n:Int) + (j:Int)):=by
 have:=yaqx h
 rw [← this]
 congr 1
theorem yava (ls:List Int) (i:Nat) (hi:i < 16) (hl:ls.length = 336) (j:Nat) (hj:j < 11):(zav ls)[48 + 12 * i + j]? = (zme ls i).cs[j]?:=by
 rw [zax ls (48 + 12 * i + j) (by omega),yatw ls (48 + 12 * i) j (by omega),show (((48 + 12 * i:Nat):Int) + (j:Int)) = 48 + 12 * (i:Int) + (j:Int) by omega]
 rcases (show j = 0 ∨ j = 1 ∨ j = 2 ∨ j = 3 ∨ j = 4 ∨ j = 5 ∨ j = 6 ∨ j = 7 ∨ j = 8 ∨ j = 9 ∨ j = 10 by omega) with rfl | rfl | rfl | rfl | rfl | rfl | rfl | rfl | rfl | rfl | rfl
 ·simp [zme,Ino.cs]
 all_goals rfl
set_option maxRecDepth 100000 in
set_option maxHeartbeats 4000000 in
theorem zmk (v:Value) (ws:List Int) (ps:List St) (w:World) (h:RdPm w v ws ps) (hw:ws.length ≤ 1048576) (hp:ps.length ≤ 1048576) (hT:TS w) (hE:ED w) (hF:FD w) :
  Calls Tryz.prog 180 #[v] w fun e w' => ∃ v',e = .returned (.tuple #[v',.int .i64 (riC ws ps)]) ∧ RowIm w' w.heap.size w'.heap.size v' (riN ws ps) (riD ws ps) ∧ Below w.heap.size w w':=by
 have HR:=zaa h
 have LS:=zaa (fun w1 h => zrf v ws ps w1 h hw hp)
 have T:=zaa hT
 have E:=zaa hE
 have F:=zaa hF
 obtain ⟨vW,vP,rfl,h1,h2⟩:=h
 obtain ⟨aW,cW,rfl,_,_⟩:=h1.shape
 obtain ⟨aP,cP,rfl,_,_⟩:=h2.shape
 clear h1 h2 hT hE hF
 obtain ⟨W1,hW1⟩:∃ W1,W1 = (w.alloc (.cells #[.slice aW ws.length cW,.slice aP ps.length cP] 40)).alloc (.cells #[.slice none 0 0,.slice none 0 0] 108):=⟨_,rfl⟩
 have hz1:W1.heap.size = w.heap.size + 1 + 1:=by rw [hW1]; simp
 have CA:Hid (∀ w',Below W1.heap.size W1 w' → w'.cell? ⟨w.heap.size,0,none⟩ = some (.slice aW ws.length cW) ∧ w'.cell? ⟨w.heap.size,1,none⟩ = some (.slice aP ps.length cP)):=fun w' hb => by
  have:w'.heap[w.heap.size]? = some (.cells #[.slice aW ws.length cW,.slice aP ps.length cP] 40 (0,0)):=(hb.block _ (by omega)).trans (by rw [hW1]; exact zal (zag rfl))
  exact ⟨(zad this).1,(zad this).2.1⟩
 have CR:Hid (∀ w',Below W1.heap.size W1 w' → w'.heap[w.heap.size + 1]? = some (.cells #[.slice none 0 0,.slice none 0 0] 108 (0,0))):=fun w' hb => (hb.block _ (by omega)).trans (by
  rw [hW1]
  have:=zag (w:=w.alloc (.cells #[.slice aW ws.length cW,.slice aP ps.length cP] 40)) (o:=.cells #[.slice none 0 0,.slice none 0 0] 108) rfl
  rw [World.size_alloc] at this
  exact this)
 have BW:Hid (Below w.heap.size w W1):=by rw [hW1]; exact ((Below.refl _ _).alloc (Nat.le_refl _) _).alloc (by simp) _
 have hz0:w.heap.size + 1 < W1.heap.size:=by omega
 clear hz1
 obtain ⟨x0,x1⟩:=CA.out W1 (Below.refl _ _)
 cases c1:pmB ws ps with
 | false =>
  obtain ⟨E1,E2,E3⟩:=yaid c1
  obtain ⟨S1,S2⟩:=yadd c1
  rw [S1,S2] at LS
  rw [E1,E2,E3]
  clear c1 E1 E2 E3 S1 S2
  go_enter Tryz.func180,Tryz.ntmps180
  go_wp2_with fail
  rw [← hW1]
  clear hW1
  refine (LS.out _ (HR.out.below BW.out)).mono ?_
  rintro e w1 ⟨v1,rfl,_,hb1⟩
  have B1:=zaa hb1
  clear x0 x1 hb1
  have CB:=zaa (CR.out _ B1.out)
  obtain ⟨p0,p1,p2,p3⟩:=zad CB.out
  have BR:Hid (Below w.heap.size w ((w1.setCell ⟨w.heap.size + 1,0,none⟩ (.slice none 0 0)).setCell ⟨w.heap.size + 1,1,none⟩ (.slice none 0 0))):=((zab BW.out B1.out BW.out.size).setCell (by simp only; omega) _).setCell (by simp only; omega) _
  go_wp2
  refine bodyPost_ret (v:=.tuple #[.agg #[.slice none 0 0,.slice none 0 0],.int .i64 1]) (by simp [results,Tryz.results180,go_sem,p0,p1]) rfl ?_
  exact ⟨_,rfl,zdk _ _ _,BR.out⟩
 | true =>
 have C1:=zaa c1
 obtain ⟨S1,S2⟩:=yakt c1
 rw [S1,S2] at LS
 have L336:=zaa (show (zcq ws ps).length = 336 by rw [zof]; exact (zbz c1).1)
 have WR:=zaa (fun z => zpv c1 z)
 have NO:=zaa (fun q => yaap C1.out q)
 have YES:=zaa (fun q => yarp C1.out q)
 have RB:=zaa (show riB (zcq ws ps) = (wdI (zcq ws ps) 0 == 7 && (zez (zcq ws ps) 24 && zsq (zbm (zcq ws ps) 16) (zbx (zcq ws ps) 24))) from rfl)
 have LI:=zaa (fun v w1 h hT hE hF => zin v (zbm (zcq ws ps) 16) (zbx (zcq ws ps) 24) w1 h (by rw [zbn]; omega) (by rw [zbh]; omega) hT hE hF (zut C1.out 16) (zjq _ 24))
 clear c1 S1 S2
 generalize riC ws ps = rc at *
 generalize riN ws ps = rn at *
 generalize riD ws ps = rd at *
 generalize zcq ws ps = ls at *
 go_enter Tryz.func180,Tryz.ntmps180
 go_wp2_with fail
 rw [← hW1]
 clear hW1
 refine (LS.out _ (HR.out.below BW.out)).mono ?_
 rintro e w1 ⟨v1,rfl,hr1,hb1⟩
 have B1:=zaa hb1
 have hzz:W1.heap.size ≤ w1.heap.size:=hb1.size
 obtain ⟨b,c,rfl,hcap⟩:=zvg hr1.1 (by have:=L336.out; omega)
 obtain ⟨_,_,_,hbl,_,hcl⟩:=hr1.at
 have HC:Hid (∀ w',Below w1.heap.size w1 w' → ∀ j,j < 336 → w'.cell? ⟨b,j,none⟩ = (zav ls)[j]?):=fun w' hb j hj => (hb.cell (p:=⟨b,j,none⟩) hbl).trans (hcl j (by have:=L336.out; omega))
 have c336:336 ≤ c:=by have:=L336.out; omega
 simp only [L336.out]
 clear hr1 hb1 hcl hcap x0 x1 LS
 have START:Hid (RimI w1 (w1.alloc (.cells #[.slice none 0 0,.slice none 0 0] 108)) w1.heap.size (.slice none 0 0) (.slice none 0 0) (zbm ls 0) []):=⟨zag rfl,World.ownsRow_nil _ _ _ _,World.ownsRow_nil _ _ _ _,(Below.refl _ _).alloc (Nat.le_refl _) _,Nat.le_refl _⟩
 go_wp2_with fail
 go_loopg [20] 16 (fun g i wr => ∃ k:Nat,k + g = 16 ∧ i = .int .i64 k ∧ Hid (∃ vI vD,RimI w1 wr w1.heap.size vI vD (zbm ls k) []))
 case atStart => exact ⟨0,rfl,rfl,_,_,START.out⟩
 case round =>
  obtain ⟨k,hk,rfl,J⟩:=hrel
  obtain ⟨vI,vD,I⟩:=J.out
  have I:=zaa I
  have k0:(0:Int) ≤ (k:Int):=by omega
  clear J START
  by_cases hlt:k < 16
  ·have k1:(k:Int) < 16:=by omega
   obtain ⟨n,hn⟩:∃ n:Nat,n = 48 + 12 * k:=⟨_,rfl⟩
   have wm:IntKind.i64.wrap (12 * (k:Int)) = 12 * (k:Int):=by rw [IntKind.wrap_i64]; omega
   have wa:IntKind.i64.wrap (48 + 12 * (k:Int)) = (n:Int):=by rw [IntKind.wrap_i64]; omega
   have a0:(0:Int) ≤ (n:Int):=by omega
   have a1:(n:Int) ≤ 336:=by omega
   have a2:(n:Int) ≤ (c:Int):=by omega
   have a3:¬ c = n:=by omega
   have LRI:=zaa (fun w2 (hb:Below wr.heap.size wr w2) => zvs b n (336 - n) (c - n) (zme ls k) w2 (by omega) (by omega) (Nat.lt_of_lt_of_le hbl (zab I.out.b hb I.out.z).size) (fun j hj => by
    have:=HC.out w2 (zab I.out.b hb I.out.z) (n + j) (by omega)
    rw [this,hn]
    exact yava ls k hlt L336.out j hj))
   have MN:=zaa (zpr ls k)
   have ML:=zbn ls k
   unfold Ino.v at LRI
   clear hn
   generalize zme ls k = x at *
   obtain ⟨m0,m1,_,_⟩:=zad I.out.m
   have hzI:=I.out.z
   go_wp2_with fail
   go_region_law (first
     | (go_simp; go_at_call 206; refine (LRI.out _ (by repeat (first | with_reducible exact BF.out | with_reducible exact Below.refl _ _ | with_reducible refine Below.drew ?_))).mono ?_; rintro e w2 ⟨rfl,hb2⟩; have BF:Hid (Below wr.heap.size wr w2):=zkb (by repeat (first | with_reducible exact BF.out | with_reducible exact Below.refl _ _ | with_reducible refine Below.drew ?_)) hb2; clear hb2; have IA:=zaa ((I.out.below BF.out).below ((Below.refl _ _).alloc (Nat.le_refl _) (.cells #[.int .i64 x.kind,.int .i64 x.size,.int .i64 x.links,.int .i64 x.m0,.int .i64 x.m1,.int .i64 x.m2,.int .i64 x.m3,.int .i64 x.m4,.int .i64 x.m5,.int .i64 x.m6,.int .i64 x.m7] 197))); have RX:=zaa (yaqs w2 x); obtain ⟨e0,e1,_,_⟩:=zad (I.out.below BF.out).m; obtain ⟨f0,f1,_,_⟩:=zad IA.out.m)
     | (refine zbw rfl (.tmp 24) (.tmp 31) 105 rfl w1.heap.size 197 (.agg #[.int .i64 0,.int .i64 0,.int .i64 0,.int .i64 0,.int .i64 0,.int .i64 0,.int .i64 0,.int .i64 0,.int .i64 0,.int .i64 0,.int .i64 0]) 11 88 Tryz.underlying105 yakp rfl (by decide) _ _ _ rfl IA.out.i _ 1 _ rfl RX.out (zxl _) (by simp [maxLen]; omega) (by omega) IA.out.z ?_; intro vN wN hownN hgrN; obtain ⟨bN,cN,rfl,_⟩:=zvg hownN (by omega); have GG:=zaa (IA.out.growI x hownN hgrN); obtain ⟨g0,g1,g2,g3⟩:=zad GG.out.1; clear hownN hgrN))
   all_goals
    have G:=zaa GG.out.2
    rw [← MN.out] at G
    simp only [zbn] at G
    go_wp2
    go_roundg (16 - (k + 1))
    case measure => omega
    case rel => exact ⟨k + 1,by omega,by go_num,_,_,G.out⟩
  ·obtain rfl:k = 16:=by omega
   have SE:Hid (∃ vI vD,RimI w1 wr w1.heap.size vI vD (zbm ls 16) (zbx ls 0)):=⟨vI,vD,I.out⟩
   have AG0:Hid (∀ j,j < 0 → zcy ls j = true):=fun j h => absurd h (by omega)
   have BB:=zaa (zab BW.out B1.out BW.out.size)
   clear I
   go_wp2_with fail
   go_loopg [35] 24 (fun g i wq => ∃ k:Nat,k + g = 24 ∧ i = .int .i64 k ∧ Hid ((∃ vI vD,RimI w1 wq w1.heap.size vI vD (zbm ls 16) (zbx ls k)) ∧ ∀ j,j < k → zcy ls j = true))
   case atStart => exact ⟨0,rfl,rfl,SE.out,AG0.out⟩
   case round =>
    obtain ⟨k,hk,rfl,J⟩:=hrel
    obtain ⟨vI,vD,I⟩:=J.out.1
    have I:=zaa I
    have AG:=zaa J.out.2
    have k0:(0:Int) ≤ (k:Int):=by omega
    clear J SE AG0
    by_cases hlt:k < 24
    ·have k1:(k:Int) < 24:=by omega
     obtain ⟨n,hn⟩:∃ n:Nat,n = 240 + 3 * k:=⟨_,rfl⟩
     have wm:IntKind.i64.wrap (3 * (k:Int)) = 3 * (k:Int):=by rw [IntKind.wrap_i64]; omega
     have wa:IntKind.i64.wrap (240 + 3 * (k:Int)) = (n:Int):=by rw [IntKind.wrap_i64]; omega
     have a0:(0:Int) ≤ (n:Int):=by omega
     have a1:(n:Int) ≤ 336:=by omega
     have a2:(n:Int) ≤ (c:Int):=by omega
     have a3:¬ c = n:=by omega
     have r1:=WR.out (240 + 3 * (k:Int) + 1)
     have r2:=WR.out (240 + 3 * (k:Int) + 2)
     have HX:Hid (∀ w2,Below wr.heap.size wr w2 → ∀ j:Nat,j < 3 → w2.cell? ⟨b,n + j,none⟩ = some (.int .i64 (wdI ls (240 + 3 * (k:Int) + (j:Int))))):=fun w2 hb j hj => by
      rw [HC.out w2 (zab I.out.b hb I.out.z) (n + j) (by omega),zax ls (n + j) (by have:=L336.out; omega),yatw ls n j (by have:=L336.out; omega),show ((n:Int) + (j:Int)) = 240 + 3 * (k:Int) + (j:Int) by omega]
     have LRD:=zaa (fun w2 (hb:Below wr.heap.size wr w2) => zra b n (336 - n) (c - n) (wdI ls (240 + 3 * (k:Int))) (wdI ls (240 + 3 * (k:Int) + 1)) (wdI ls (240 + 3 * (k:Int) + 2)) w2 (by omega) (by omega) (Nat.lt_of_lt_of_le hbl (zab I.out.b hb I.out.z).size) (by have:=HX.out w2 hb 0 (by omega); simpa using this) (by have:=HX.out w2 hb 1 (by omega); simpa using this) (by have:=HX.out w2 hb 2 (by omega); simpa using this) (F.out.below (zab BB.out (zab I.out.b hb I.out.z) BB.out.size)) (by omega) (by omega))
     simp only [(yaig ls k).1,(yaig ls k).2] at LRD
     have AGN:Hid (zcy ls k = true → ∀ j,j < k + 1 → zcy ls j = true):=fun q j h => by
      by_cases e:j = k
      ·subst e; exact q
      ·exact AG.out j (by omega)
     have MN:=zaa (zjl ls k)
     have ML:=zbh ls k
     have GF:Hid (zcy ls k = false → zez ls 24 = false):=fun q => zis (n:=24) hlt q
     clear hn HX r1 r2
     generalize zqy ls k = x at *
     generalize zcy ls k = gd at *
     go_wp2_with fail
     refine (LRD.out _ (Below.refl _ _)).mono ?_
     rintro e w2 ⟨⟨s,rfl,hs⟩,hb2⟩
     have B2:=zaa hb2
     clear LRD hb2
     have B3:=zaa (zan B2.out (.cells #[.int .i64 x.dir,.string s,.int .i64 x.child] 199))
     have hz2:wr.heap.size ≤ w2.heap.size:=B2.out.size
     have hz3:w1.heap.size ≤ wr.heap.size:=I.out.z
     cases gd with
     | false =>
      clear hs AGN MN ML
      have CB:=zaa (CR.out _ (zkb B1.out (zab I.out.b B3.out I.out.z)))
      obtain ⟨p0,p1,p2,p3⟩:=zad CB.out
      have EE:=zaa (NO.out (by rw [RB.out,GF.out rfl]; simp))
      have BR:Hid (Below w.heap.size w (((w2.alloc (.cells #[.int .i64 x.dir,.string s,.int .i64 x.child] 199)).setCell ⟨w.heap.size + 1,0,none⟩ (.slice none 0 0)).setCell ⟨w.heap.size + 1,1,none⟩ (.slice none 0 0))):=((zab BB.out (zab I.out.b B3.out I.out.z) BB.out.size).setCell (by simp only; omega) _).setCell (by simp only; omega) _
      go_wp2
      refine bodyPost_ret (v:=.tuple #[.agg #[.slice none 0 0,.slice none 0 0],.int .i64 3]) (by simp [results,Tryz.results180,go_sem,p0,p1]) rfl ?_
      obtain ⟨E1,E2,E3⟩:=EE.out
      rw [E1,E2,E3]
      exact ⟨_,rfl,zdk _ _ _,BR.out⟩
     | true =>
      obtain rfl:=hs rfl
      have AG2:=zaa (AGN.out rfl)
      clear hs GF AGN
      have XB:Hid (BoxZ 199 wr (w2.alloc (.cells #[.int .i64 x.dir,.string x.name,.int .i64 x.child] 199)) w2.heap.size [.int .i64 x.dir,.string x.name,.int .i64 x.child]):=BoxZ.new B2.out
      have e0:=(XB.out.cell 0).1
      have e1:=(XB.out.cell 1).1
      have e2:=(XB.out.cell 2).1
      simp only [List.getElem?_cons_zero,List.getElem?_cons_succ] at e0 e1 e2
      have IR:=zaa (I.out.below B3.out)
      obtain ⟨n0,n1,_,_⟩:=zad IR.out.m
      have IA:=zaa (IR.out.below ((Below.refl _ _).alloc (Nat.le_refl _) (.cells #[.int .i64 x.dir,.string x.name,.int .i64 x.child] 199)))
      have RX:=zaa (yaeu (w2.alloc (.cells #[.int .i64 x.dir,.string x.name,.int .i64 x.child] 199)) x)
      simp only [World.size_alloc] at RX
      have hzA:=IA.out.z
      simp only [World.size_alloc] at hzA
      go_wp2_with (at_builtin; refine zak _ rfl (.tmp 51) (.tmp 53) 106 rfl w1.heap.size 199 (.agg #[.int .i64 0,.string ⟨#[]⟩,.int .i64 0]) 3 32 Tryz.underlying106 zox rfl (by decide) _ _ _ rfl IA.out.d _ 1 _ rfl RX.out (zif _) (by simp [maxLen]; omega) (by omega) IA.out.z ?_)
      intro vN wN hownN hgrN
      obtain ⟨bN,cN,rfl,_⟩:=zvg hownN (by omega)
      obtain ⟨g1,g2⟩:=IA.out.growD x (by rw [zbh]; exact hownN) hgrN
      have G:=zaa g2
      rw [← MN.out] at G
      clear n0 n1 g2 IA RX hownN hgrN ML MN
      obtain ⟨n0,n1,n2,n3⟩:=zad g1
      clear g1
      go_wp2
      go_roundg (24 - (k + 1))
      case measure => omega
      case rel => exact ⟨k + 1,by omega,by go_num,⟨_,_,G.out⟩,AG2.out⟩
    ·obtain rfl:k = 24:=by omega
     have EB:=zaa (zqf (ls:=ls) (n:=24) AG.out)
     rw [EB.out,Bool.true_and] at RB
     rcases (zai I.out.i).shape with ⟨_,e,_⟩ | ⟨b1,c1,rfl,_,_⟩
     ·rw [zbn] at e; omega
     rcases (zai I.out.d).shape with ⟨_,e,_⟩ | ⟨b2,c2,rfl,_,_⟩
     ·rw [zbh] at e; omega
     simp only [zbn,zbh] at I
     have R0:Hid (RowIm wr w1.heap.size wr.heap.size (.agg #[.slice (some ⟨b1,0,none⟩) 16 c1,.slice (some ⟨b2,0,none⟩) 24 c2]) (zbm ls 16) (zbx ls 24)):=⟨_,_,rfl,zai I.out.i,zai I.out.d⟩
     obtain ⟨n0,n1,_,_⟩:=zad I.out.m
     have hzr:w1.heap.size ≤ wr.heap.size:=I.out.z
     have BWr:=zaa (zab BB.out I.out.b BB.out.size)
     have CB:=zaa (CR.out _ (zkb B1.out I.out.b))
     have IM:=zaa I.out.m
     have IL:=I.out.lt
     have h0:wr.cell? ⟨b,0,none⟩ = some (.int .i64 (wdI ls 0)):=by
      rw [HC.out wr I.out.b 0 (by omega),zax ls 0 (by have:=L336.out; omega),yatw ls 0 0 (by have:=L336.out; omega)]
      rfl
     clear AG EB I HC WR
     by_cases z:wdI ls 0 = 7
     case neg =>
      have q:(wdI ls 0 != 7) = true:=by rw [bne_iff_ne]; exact z
      have EE:=zaa (NO.out (by rw [RB.out,show (wdI ls 0 == 7) = false by rw [beq_eq_false_iff_ne]; exact z]; simp))
      obtain ⟨p0,p1,p2,p3⟩:=zad CB.out
      have BR:Hid (Below w.heap.size w ((wr.setCell ⟨w.heap.size + 1,0,none⟩ (.slice none 0 0)).setCell ⟨w.heap.size + 1,1,none⟩ (.slice none 0 0))):=(BWr.out.setCell (by simp only; omega) _).setCell (by simp only; omega) _
      clear z
      go_wp2
      refine bodyPost_ret (v:=.tuple #[.agg #[.slice none 0 0,.slice none 0 0],.int .i64 3]) (by simp [results,Tryz.results180,go_sem,p0,p1]) rfl ?_
      obtain ⟨E1,E2,E3⟩:=EE.out
      rw [E1,E2,E3]
      exact ⟨_,rfl,zdk _ _ _,BR.out⟩
     have q:(wdI ls 0 != 7) = false:=by rw [z]; rfl
     rw [z] at RB
     have LI2:=zaa (LI.out _ wr R0.out.rd (T.out.below BWr.out) (E.out.below BWr.out) (F.out.below BWr.out))
     clear LI
     generalize zsq (zbm ls 16) (zbx ls 24) = ib at *
     rw [z] at h0
     clear z q
     go_wp2_with fail
     refine LI2.out.mono ?_
     rintro e w5 ⟨rfl,hb5⟩
     have hz5:wr.heap.size ≤ w5.heap.size:=hb5.size
     have B5:=zaa (zab BWr.out hb5 BWr.out.size)
     have R5:=zaa (R0.out.below hb5 (Nat.le_refl _))
     have CB5:=zaa ((hb5.block _ (by omega)).trans CB.out)
     have IM5:=zaa ((hb5.block _ IL).trans IM.out)
     clear n0 n1 h0 hb5 R0 CB IM LI2
     obtain ⟨n0,n1,_,_⟩:=zad IM5.out
     obtain ⟨p0,p1,p2,p3⟩:=zad CB5.out
     cases ib with
     | false =>
      have EE:=zaa (NO.out (by rw [RB.out]; rfl))
      have BR:Hid (Below w.heap.size w ((w5.setCell ⟨w.heap.size + 1,0,none⟩ (.slice none 0 0)).setCell ⟨w.heap.size + 1,1,none⟩ (.slice none 0 0))):=(B5.out.setCell (by simp only; omega) _).setCell (by simp only; omega) _
      go_wp2
      refine bodyPost_ret (v:=.tuple #[.agg #[.slice none 0 0,.slice none 0 0],.int .i64 3]) (by simp [results,Tryz.results180,go_sem,p0,p1]) rfl ?_
      obtain ⟨E1,E2,E3⟩:=EE.out
      rw [E1,E2,E3]
      exact ⟨_,rfl,zdk _ _ _,BR.out⟩
     | true =>
      have EE:=zaa (YES.out (by rw [RB.out]; rfl))
      have BR:Hid (Below w.heap.size w ((w5.setCell ⟨w.heap.size + 1,0,none⟩ (.slice (some ⟨b1,0,none⟩) 16 c1)).setCell ⟨w.heap.size + 1,1,none⟩ (.slice (some ⟨b2,0,none⟩) 24 c2))):=(B5.out.setCell (by simp only; omega) _).setCell (by simp only; omega) _
      have RF:=zaa (zls (zwk R5.out CB5.out (.slice (some ⟨b1,0,none⟩) 16 c1) (.slice (some ⟨b2,0,none⟩) 24 c2)) (lo':=w.heap.size) (hi':=((w5.setCell ⟨w.heap.size + 1,0,none⟩ (.slice (some ⟨b1,0,none⟩) 16 c1)).setCell ⟨w.heap.size + 1,1,none⟩ (.slice (some ⟨b2,0,none⟩) 24 c2)).heap.size) (by have:=BB.out.size; omega) (by simp; omega))
      clear CB5 R5 IM5
      go_wp2
      refine bodyPost_ret (v:=.tuple #[.agg #[.slice (some ⟨b1,0,none⟩) 16 c1,.slice (some ⟨b2,0,none⟩) 24 c2],.int .i64 0]) (by simp [results,Tryz.results180,go_sem,p0,p1]) rfl ?_
      obtain ⟨E1,E2,E3⟩:=EE.out
      rw [E1,E2,E3]
      exact ⟨_,rfl,RF.out,BR.out⟩
theorem yavs {ws:List Int} {ps:List St} {es:List Int} {qs:List Se} (h:zbp es qs = false):dvN ws ps es qs = [] ∧ dvD ws ps es qs = []:=(yarh (by rw [h,Bool.and_false])).2
theorem yawc {ws:List Int} {ps:List St} {es:List Int} {qs:List Se} (h:zbp es qs = true):dvN ws ps es qs = riN ws ps ∧ dvD ws ps es qs = riD ws ps:=by
 cases p:pmB ws ps with
 | true => exact (yajv (by rw [p,h]; rfl)).2
 | false =>
  obtain ⟨-,a,b⟩:=yaid p
  obtain ⟨-,c,d⟩:=yarh (ws:=ws) (ps:=ps) (es:=es) (qs:=qs) (by rw [p]; rfl)
  exact ⟨by rw [a,c],by rw [b,d]⟩
theorem zlw {ws:List Int} {ps:List St} {es:List Int} {qs:List Se} (h:¬ dvB ws ps es qs = true):dvN ws ps es qs = [] ∧ dvD ws ps es qs = []:=⟨by unfold dvN; rw [if_neg h],by unfold dvD; rw [if_neg h]⟩
theorem dv_R {ws:List Int} {ps:List St} {es:List Int} {qs:List Se}:∀ k (h:k < (dvN ws ps es qs).length),(dvN ws ps es qs)[k].R:=by
 by_cases c:dvB ws ps es qs = true
 ·obtain ⟨p,-,e,-,-⟩:=yaci c
  rw [e]
  exact zut p 16
 ·rw [(zlw c).1]
  intro k h
  cases h
theorem yatu {ws:List Int} {ps:List St} {es:List Int} {qs:List Se}:∀ k (h:k < (dvD ws ps es qs).length),(dvD ws ps es qs)[k].name.size ≤ maxLen:=by
 by_cases c:dvB ws ps es qs = true
 ·obtain ⟨p,-,-,e,-⟩:=yaci c
  rw [e]
  exact zjq _ 24
 ·rw [(zlw c).2]
  intro k h
  cases h
theorem yaqp (ws:List Int) (ps:List St) (es:List Int) (qs:List Se):(dvN ws ps es qs).length ≤ 1048576 ∧ (dvD ws ps es qs).length ≤ 1048576:=by
 by_cases c:dvB ws ps es qs = true
 ·obtain ⟨-,-,e1,e2,-⟩:=yaci c
  rw [e1,e2,zbn,zbh]
  omega
 ·rw [(zlw c).1,(zlw c).2]
  exact ⟨by simp,by simp⟩
theorem yapb:zsq [] [] = false:=by decide
theorem yauc (ws:List Int) (ps:List St) (es:List Int) (qs:List Se):zsq (dvN ws ps es qs) (dvD ws ps es qs) = dvB ws ps es qs:=by
 by_cases c:dvB ws ps es qs = true
 ·obtain ⟨-,-,e1,e2,h⟩:=yaci c
  rw [e1,e2,h,c]
 ·rw [(zlw c).1,(zlw c).2,yapb]
  exact ((Bool.not_eq_true _).mp c).symm
set_option maxRecDepth 100000 in
set_option maxHeartbeats 4000000 in
theorem ztx (v:Value) (ws:List Int) (ps:List St) (es:List Int) (qs:List Se) (w:World) (h:RdDev w v ws ps es qs) (hw:ws.length ≤ 1048576) (hp:ps.length ≤ 1048576) (he:es.length ≤ 1048576) (hq:qs.length ≤ 1048576) (hT:TS w) (hE:ED w) (hF:FD w) :
  Calls Tryz.prog 140 #[v] w fun e w' => ∃ v',e = .returned v' ∧ RowIm w' w.heap.size w'.heap.size v' (dvN ws ps es qs) (dvD ws ps es qs) ∧ Below w.heap.size w w':=by
 obtain ⟨aW,cW,aP,cP,aS,cS,aQ,cQ,rfl,h1,h2⟩:=h.form
 have LO:=zaa (fun w1 (hb:Below w.heap.size w w1) => zbu _ es qs w1 (h2.below hb) he hq)
 have LR:=zaa (fun w1 (hb:Below w.heap.size w w1) => zmk _ ws ps w1 (h1.below hb) hw hp (hT.below hb) (hE.below hb) (hF.below hb))
 have NO:=zaa (fun q => yavs (ws:=ws) (ps:=ps) (es:=es) (qs:=qs) q)
 have YES:=zaa (fun q => yawc (ws:=ws) (ps:=ps) (es:=es) (qs:=qs) q)
 clear h h1 h2 hT hE hF
 obtain ⟨W1,hW1⟩:∃ W1,W1 = (w.alloc (.cells #[.slice aW ws.length cW,.slice aP ps.length cP,.slice aS es.length cS,.slice aQ qs.length cQ] 45)).alloc (.cells #[.slice none 0 0,.slice none 0 0] 108):=⟨_,rfl⟩
 have hz1:W1.heap.size = w.heap.size + 1 + 1:=by rw [hW1]; simp
 have CA:Hid (∀ w',Below W1.heap.size W1 w' → w'.cell? ⟨w.heap.size,0,none⟩ = some (.slice aW ws.length cW) ∧ w'.cell? ⟨w.heap.size,1,none⟩ = some (.slice aP ps.length cP) ∧ w'.cell? ⟨w.heap.size,2,none⟩ = some (.slice aS es.length cS) ∧ w'.cell? ⟨w.heap.size,3,none⟩ = some (.slice aQ qs.length cQ)):=fun w' hb => by
  have:w'.heap[w.heap.size]? = some (.cells #[.slice aW ws.length cW,.slice aP ps.length cP,.slice aS es.length cS,.slice aQ qs.length cQ] 45 (0,0)):=(hb.block _ (by omega)).trans (by rw [hW1]; exact zal (zag rfl))
  obtain ⟨x0,x1,x2,x3,-,-,-,-⟩:=zaf this
  exact ⟨x0,x1,x2,x3⟩
 have CR:Hid (∀ w',Below W1.heap.size W1 w' → w'.heap[w.heap.size + 1]? = some (.cells #[.slice none 0 0,.slice none 0 0] 108 (0,0))):=fun w' hb => (hb.block _ (by omega)).trans (by
  rw [hW1]
  have:=zag (w:=w.alloc (.cells #[.slice aW ws.length cW,.slice aP ps.length cP,.slice aS es.length cS,.slice aQ qs.length cQ] 45)) (o:=.cells #[.slice none 0 0,.slice none 0 0] 108) rfl
  rw [World.size_alloc] at this
  exact this)
 have BW:Hid (Below w.heap.size w W1):=by rw [hW1]; exact ((Below.refl _ _).alloc (Nat.le_refl _) _).alloc (by simp) _
 have hz0:w.heap.size + 1 < W1.heap.size:=by omega
 clear hz1
 obtain ⟨x0,x1,x2,x3⟩:=CA.out W1 (Below.refl _ _)
 generalize riC ws ps = rc at *
 generalize riN ws ps = rn at *
 generalize riD ws ps = rd at *
 generalize dvN ws ps es qs = dn at *
 generalize dvD ws ps es qs = dd at *
 generalize zbp es qs = ok at *
 go_enter Tryz.func140,Tryz.ntmps140
 go_wp2_with fail
 rw [← hW1]
 clear hW1
 refine (LO.out _ BW.out).mono ?_
 rintro e w1 ⟨rfl,hb1⟩
 have B1:=zaa hb1
 have B1w:=zaa (zab BW.out B1.out BW.out.size)
 clear x0 x1 x2 x3 hb1
 obtain ⟨x0,x1,x2,x3⟩:=CA.out w1 B1.out
 cases ok with
 | false =>
  obtain ⟨rfl,rfl⟩:=NO.out rfl
  have CB:=zaa (CR.out _ B1.out)
  obtain ⟨p0,p1,p2,p3⟩:=zad CB.out
  have BR:Hid (Below w.heap.size w ((w1.setCell ⟨w.heap.size + 1,0,none⟩ (.slice none 0 0)).setCell ⟨w.heap.size + 1,1,none⟩ (.slice none 0 0))):=(B1w.out.setCell (by simp only; omega) _).setCell (by simp only; omega) _
  clear NO YES
  go_wp2
  refine bodyPost_ret (v:=.agg #[.slice none 0 0,.slice none 0 0]) (by simp [results,Tryz.results140,go_sem,p0,p1]) rfl ?_
  exact ⟨_,rfl,zdk _ _ _,BR.out⟩
 | true =>
  obtain ⟨rfl,rfl⟩:=YES.out rfl
  clear NO YES
  go_wp2_with fail
  refine (LR.out _ B1w.out).mono ?_
  rintro e w2 ⟨v2,rfl,⟨vI,vD,rfl,hI,hD⟩,hb2⟩
  obtain ⟨-,a1,c1,hv1,-⟩:=hI.rd
  obtain ⟨-,a2,c2,hv2,-⟩:=hD.rd
  subst hv1
  subst hv2
  have HI:=zaa hI
  have HD:=zaa hD
  have B2:=zaa (zkb B1.out hb2)
  have B3:Hid (Below W1.heap.size W1 (w2.alloc (.cells #[.slice a1 dn.length c1,.slice a2 dd.length c2] 108))):=zan B2.out _
  have hz12:W1.heap.size ≤ w1.heap.size:=B1.out.size
  have hz2:w1.heap.size ≤ w2.heap.size:=hb2.size
  have hzw:w.heap.size ≤ w1.heap.size:=B1w.out.size
  clear x0 x1 x2 x3 hb2 hI hD
  obtain ⟨y0,y1,_,_⟩:=zad (zag (w:=w2) (o:=.cells #[.slice a1 dn.length c1,.slice a2 dd.length c2] 108) rfl)
  obtain ⟨w3,hw3⟩:∃ w3,w3 = w2.alloc (.cells #[.slice a1 dn.length c1,.slice a2 dd.length c2] 108):=⟨_,rfl⟩
  have BC:Hid (Below w2.heap.size w2 w3):=by rw [hw3]; exact (Below.refl _ _).alloc (Nat.le_refl _) _
  rw [← hw3] at B3 y0 y1
  have HI3:=zaa (HI.out.below BC.out (Nat.le_refl _))
  have HD3:=zaa (HD.out.below BC.out (Nat.le_refl _))
  have hz3:w2.heap.size ≤ w3.heap.size:=BC.out.size
  have CB:=zaa (CR.out _ B3.out)
  obtain ⟨p0,p1,p2,p3⟩:=zad CB.out
  have BR:Hid (Below w.heap.size w ((w3.setCell ⟨w.heap.size + 1,0,none⟩ (.slice a1 dn.length c1)).setCell ⟨w.heap.size + 1,1,none⟩ (.slice a2 dd.length c2))):=((zab BW.out B3.out BW.out.size).setCell (by simp only; omega) _).setCell (by simp only; omega) _
  have RF:=zaa (zls (yalo HI3.out HD3.out CB.out (.slice a1 dn.length c1) (.slice a2 dd.length c2)) (lo':=w.heap.size) (hi':=((w3.setCell ⟨w.heap.size + 1,0,none⟩ (.slice a1 dn.length c1)).setCell ⟨w.heap.size + 1,1,none⟩ (.slice a2 dd.length c2)).heap.size) (by omega) (by simp; omega))
  clear CB HI HD HI3 HD3 BC B3 B2 LR LO CA CR
  subst hw3
  go_wp2
  refine bodyPost_ret (v:=.agg #[.slice a1 dn.length c1,.slice a2 dd.length c2]) (by simp [results,Tryz.results140,go_sem,p0,p1]) rfl ?_
  exact ⟨_,rfl,RF.out,BR.out⟩
set_option maxHeartbeats 2000000 in
theorem zcn (v:Value) (ws:List Int) (ps:List St) (es:List Int) (qs:List Se) (w:World) (h:RdDev w v ws ps es qs) (hw:ws.length ≤ 1048576) (hp:ps.length ≤ 1048576) (he:es.length ≤ 1048576) (hq:qs.length ≤ 1048576) :
  Calls Tryz.prog 97 #[v] w fun e w' => e = .returned (.bool (pmB ws ps && zbp es qs)) ∧ Below w.heap.size w w':=by
 obtain ⟨aW,cW,aP,cP,aS,cS,aQ,cQ,rfl,h1,h2⟩:=h.form
 have H1:=zaa h1
 have H2:=zaa h2
 clear h h1 h2
 have hb0:Below w.heap.size w (w.alloc (.cells #[.slice aW ws.length cW,.slice aP ps.length cP,.slice aS es.length cS,.slice aQ qs.length cQ] 45)):=(Below.refl _ _).alloc (Nat.le_refl _) _
 by_cases c:pmB ws ps = true
 ·have C:=zaa c
  rw [c]
  clear c
  go_enter Tryz.func97,Tryz.ntmps97
  go_wp2_with fail
  refine (zaz _ ws ps _ (H1.out.below hb0) hw hp).mono ?_
  rw [C.out]
  rintro e w1 ⟨rfl,hb1⟩
  obtain ⟨x0,x1,x2,x3,-,-,-,-⟩:=zaf ((hb1.block w.heap.size (by simp)).trans (zag rfl))
  have B1:=zaa (zab hb0 hb1 (by simp))
  clear hb0 hb1
  go_wp2_with fail
  refine (zbu _ es qs _ (H2.out.below B1.out) he hq).mono ?_
  rintro e w2 ⟨rfl,hb2⟩
  have B2:=zaa (zab B1.out hb2 B1.out.size)
  clear hb2
  go_wp2
  go_ret
  exact ⟨rfl,B2.out⟩
 ·have c':pmB ws ps = false:=by simpa using c
  have C:=zaa c'
  rw [c']
  clear c c'
  go_enter Tryz.func97,Tryz.ntmps97
  go_wp2_with fail
  refine (zaz _ ws ps _ (H1.out.below hb0) hw hp).mono ?_
  rw [C.out]
  rintro e w1 ⟨rfl,hb1⟩
  have B1:=zaa (zab hb0 hb1 (by simp))
  clear hb0 hb1
  go_wp2
  go_ret
  exact ⟨rfl,B1.out⟩
end Go.Proofs.YtlkmnpanddchdaaGreatDoor
