/- The updates of a page and of a size; the plan to cut: by the program. -/
import Derived.Test.YtkdjfhkalelafaaGreatDoorDuC
import Derived.Test.YtkdjfhkalelafaaGreatDoorZAX
import Derived.Test.YtkdjfhkalelafaaGreatDoorZAT
namespace Go.Proofs.YtkdjfhkalelafaaGreatDoor
open Go.RowKit
set_option maxRecDepth 100000 in
set_option maxHeartbeats 4000000 in
theorem sizeUpdate_any (x:Ino) (i:Int) (sz:Int) (w:World) (hi:0 ≤ i ∧ i < 16) :
  Calls Tryz.prog 88 #[.agg #[.int .i64 x.kind,.int .i64 x.size,.int .i64 x.links,.int .i64 x.m0,.int .i64 x.m1,.int .i64 x.m2,.int .i64 x.m3,.int .i64 x.m4,.int .i64 x.m5,.int .i64 x.m6,.int .i64 x.m7,.int .i64 i],.int .i64 sz] w fun e w' => e = .returned (.agg #[.int .i64 (48 + 12 * i + 1),.int .i64 sz]) ∧ Below w.heap.size w w':=by
 have LU:=zaa (fun w1 => yakn i 1 sz w1 hi (by omega))
 obtain ⟨W,hW⟩:∃ W,W = (w.alloc (.cells #[.int .i64 x.kind,.int .i64 x.size,.int .i64 x.links,.int .i64 x.m0,.int .i64 x.m1,.int .i64 x.m2,.int .i64 x.m3,.int .i64 x.m4,.int .i64 x.m5,.int .i64 x.m6,.int .i64 x.m7,.int .i64 i] 92)).alloc (.cells #[.int .i64 0,.int .i64 0] 83):=⟨_,rfl⟩
 have hzW:W.heap.size = w.heap.size + 1 + 1:=by rw [hW]; simp
 have x11:((w.alloc (.cells #[.int .i64 x.kind,.int .i64 x.size,.int .i64 x.links,.int .i64 x.m0,.int .i64 x.m1,.int .i64 x.m2,.int .i64 x.m3,.int .i64 x.m4,.int .i64 x.m5,.int .i64 x.m6,.int .i64 x.m7,.int .i64 i] 92)).alloc (.cells #[.int .i64 0,.int .i64 0] 83)).cell? ⟨w.heap.size,11,none⟩ = some (.int .i64 i):=(zao (xs:=x.fa i) (zak (zah rfl)) 11).1
 have CR:Hid (∀ w',Below W.heap.size W w' → w'.heap[w.heap.size + 1]? = some (.cells #[.int .i64 0,.int .i64 0] 83 (0,0))):=fun w' hb => (hb.block _ (by omega)).trans (by
  rw [hW]
  have:=zah (w:=w.alloc (.cells #[.int .i64 x.kind,.int .i64 x.size,.int .i64 x.links,.int .i64 x.m0,.int .i64 x.m1,.int .i64 x.m2,.int .i64 x.m3,.int .i64 x.m4,.int .i64 x.m5,.int .i64 x.m6,.int .i64 x.m7,.int .i64 i] 92)) (o:=.cells #[.int .i64 0,.int .i64 0] 83) rfl
  rw [World.size_alloc] at this
  exact this)
 have BW:Hid (Below w.heap.size w W):=by rw [hW]; exact ((Below.refl _ _).alloc (Nat.le_refl _) _).alloc (by simp) _
 clear hzW hi
 go_enter Tryz.func88,Tryz.ntmps88
 go_wp2_with fail
 rw [← hW]
 clear hW x11
 refine (LU.out _).mono ?_
 rintro e w1 ⟨rfl,hb1⟩
 obtain ⟨p0,p1,f0,f1⟩:=zac (CR.out _ hb1)
 have B1:=zaa (zab BW.out hb1 BW.out.size)
 clear hb1 CR
 go_wp2
 refine bodyPost_ret (v:=.agg #[.int .i64 (48 + 12 * i + 1),.int .i64 sz]) (by simp [results,Tryz.results88,go_sem,p0,p1]) rfl ⟨rfl,?_⟩
 repeat (first | with_reducible exact B1.out | refine Below.setCell ?_ (by simp only; omega) _)
set_option maxRecDepth 100000 in
set_option maxHeartbeats 4000000 in
theorem pageUpdate_any (x:Ino) (i:Int) (page z:Int) (w:World) (hi:0 ≤ i ∧ i < 16) (hp:0 ≤ page ∧ page < 8) :
  Calls Tryz.prog 90 #[.agg #[.int .i64 x.kind,.int .i64 x.size,.int .i64 x.links,.int .i64 x.m0,.int .i64 x.m1,.int .i64 x.m2,.int .i64 x.m3,.int .i64 x.m4,.int .i64 x.m5,.int .i64 x.m6,.int .i64 x.m7,.int .i64 i],.int .i64 page,.int .i64 z] w fun e w' => e = .returned (.agg #[.int .i64 (48 + 12 * i + (3 + page)),.int .i64 z]) ∧ Below w.heap.size w w':=by
 have LU:=zaa (fun w1 => yakn i (3 + page) z w1 hi (by omega))
 obtain ⟨W,hW⟩:∃ W,W = (w.alloc (.cells #[.int .i64 x.kind,.int .i64 x.size,.int .i64 x.links,.int .i64 x.m0,.int .i64 x.m1,.int .i64 x.m2,.int .i64 x.m3,.int .i64 x.m4,.int .i64 x.m5,.int .i64 x.m6,.int .i64 x.m7,.int .i64 i] 92)).alloc (.cells #[.int .i64 0,.int .i64 0] 83):=⟨_,rfl⟩
 have hzW:W.heap.size = w.heap.size + 1 + 1:=by rw [hW]; simp
 have x11:((w.alloc (.cells #[.int .i64 x.kind,.int .i64 x.size,.int .i64 x.links,.int .i64 x.m0,.int .i64 x.m1,.int .i64 x.m2,.int .i64 x.m3,.int .i64 x.m4,.int .i64 x.m5,.int .i64 x.m6,.int .i64 x.m7,.int .i64 i] 92)).alloc (.cells #[.int .i64 0,.int .i64 0] 83)).cell? ⟨w.heap.size,11,none⟩ = some (.int .i64 i):=(zao (xs:=x.fa i) (zak (zah rfl)) 11).1
 have CR:Hid (∀ w',Below W.heap.size W w' → w'.heap[w.heap.size + 1]? = some (.cells #[.int .i64 0,.int .i64 0] 83 (0,0))):=fun w' hb => (hb.block _ (by omega)).trans (by
  rw [hW]
  have:=zah (w:=w.alloc (.cells #[.int .i64 x.kind,.int .i64 x.size,.int .i64 x.links,.int .i64 x.m0,.int .i64 x.m1,.int .i64 x.m2,.int .i64 x.m3,.int .i64 x.m4,.int .i64 x.m5,.int .i64 x.m6,.int .i64 x.m7,.int .i64 i] 92)) (o:=.cells #[.int .i64 0,.int .i64 0] 83) rfl
  rw [World.size_alloc] at this
  exact this)
 have BW:Hid (Below w.heap.size w W):=by rw [hW]; exact ((Below.refl _ _).alloc (Nat.le_refl _) _).alloc (by simp) _
 have wp3:IntKind.i64.wrap (3 + page) = 3 + page:=by rw [IntKind.wrap_i64]; omega
 clear hzW hi
 go_enter Tryz.func90,Tryz.ntmps90
 go_wp2_with fail
 rw [← hW]
 clear hW x11
 refine (LU.out _).mono ?_
 rintro e w1 ⟨rfl,hb1⟩
 obtain ⟨p0,p1,f0,f1⟩:=zac (CR.out _ hb1)
 have B1:=zaa (zab BW.out hb1 BW.out.size)
 clear hb1 CR
 go_wp2
 refine bodyPost_ret (v:=.agg #[.int .i64 (48 + 12 * i + (3 + page)),.int .i64 z]) (by simp [results,Tryz.results90,go_sem,p0,p1]) rfl ⟨rfl,?_⟩
 repeat (first | with_reducible exact B1.out | refine Below.setCell ?_ (by simp only; omega) _)
set_option maxRecDepth 100000 in
set_option maxHeartbeats 8000000 in
theorem cutUpdates_any (x:Ino) (i:Int) (n:Nat) (w:World) (hi:0 ≤ i ∧ i < 16) (hn:n ≤ 8) :
  Calls Tryz.prog 42 #[.agg #[.int .i64 x.kind,.int .i64 x.size,.int .i64 x.links,.int .i64 x.m0,.int .i64 x.m1,.int .i64 x.m2,.int .i64 x.m3,.int .i64 x.m4,.int .i64 x.m5,.int .i64 x.m6,.int .i64 x.m7,.int .i64 i,.int .i64 (n:Int)]] w fun r w' => ∃ v',r = .returned v' ∧ Row w' 83 2 w.heap.size w'.heap.size v' (cuU x.map i n 8).length (ses (cuU x.map i n 8)) ∧ Below w.heap.size w w':=by
 have LP:=zaa (fun (m:Nat) (hm:m < 8) w1 => pageUpdate_any x i (m:Int) 0 w1 hi (by omega))
 have LS:=zaa (fun w1 => sizeUpdate_any x i (n:Int) w1 hi)
 obtain ⟨W,hW⟩:∃ W,W = w.alloc (.cells #[.int .i64 x.kind,.int .i64 x.size,.int .i64 x.links,.int .i64 x.m0,.int .i64 x.m1,.int .i64 x.m2,.int .i64 x.m3,.int .i64 x.m4,.int .i64 x.m5,.int .i64 x.m6,.int .i64 x.m7,.int .i64 i,.int .i64 (n:Int)] 99):=⟨_,rfl⟩
 have CA:Hid (∀ w',Below W.heap.size W w' → w'.cell? ⟨w.heap.size,0,none⟩ = some (.int .i64 x.kind) ∧ w'.cell? ⟨w.heap.size,1,none⟩ = some (.int .i64 x.size) ∧ w'.cell? ⟨w.heap.size,2,none⟩ = some (.int .i64 x.links) ∧ w'.cell? ⟨w.heap.size,3,none⟩ = some (.int .i64 x.m0) ∧ w'.cell? ⟨w.heap.size,4,none⟩ = some (.int .i64 x.m1) ∧ w'.cell? ⟨w.heap.size,5,none⟩ = some (.int .i64 x.m2) ∧ w'.cell? ⟨w.heap.size,6,none⟩ = some (.int .i64 x.m3) ∧ w'.cell? ⟨w.heap.size,7,none⟩ = some (.int .i64 x.m4) ∧ w'.cell? ⟨w.heap.size,8,none⟩ = some (.int .i64 x.m5) ∧ w'.cell? ⟨w.heap.size,9,none⟩ = some (.int .i64 x.m6) ∧ w'.cell? ⟨w.heap.size,10,none⟩ = some (.int .i64 x.m7) ∧ w'.cell? ⟨w.heap.size,11,none⟩ = some (.int .i64 i) ∧ w'.cell? ⟨w.heap.size,12,none⟩ = some (.int .i64 (n:Int))):=fun w' hb => by
  have q:w'.heap[w.heap.size]? = some (.cells ([.int .i64 x.kind,.int .i64 x.size,.int .i64 x.links,.int .i64 x.m0,.int .i64 x.m1,.int .i64 x.m2,.int .i64 x.m3,.int .i64 x.m4,.int .i64 x.m5,.int .i64 x.m6,.int .i64 x.m7,.int .i64 i,.int .i64 (n:Int)]:List Value).toArray 99 (0,0)):=(hb.block _ (by rw [hW]; simp)).trans (by rw [hW]; exact zah rfl)
  exact ⟨(zao q 0).1,(zao q 1).1,(zao q 2).1,(zao q 3).1,(zao q 4).1,(zao q 5).1,(zao q 6).1,(zao q 7).1,(zao q 8).1,(zao q 9).1,(zao q 10).1,(zao q 11).1,(zao q 12).1⟩
 have CM:Hid (∀ w',Below W.heap.size W w' → ∀ m,m < 8 → w'.cell? ⟨w.heap.size,3 + m,none⟩ = some (.int .i64 (x.map.getD m 0))):=fun w' hb m hm => by
  have q:w'.heap[w.heap.size]? = some (.cells ([.int .i64 x.kind,.int .i64 x.size,.int .i64 x.links,.int .i64 x.m0,.int .i64 x.m1,.int .i64 x.m2,.int .i64 x.m3,.int .i64 x.m4,.int .i64 x.m5,.int .i64 x.m6,.int .i64 x.m7,.int .i64 i,.int .i64 (n:Int)]:List Value).toArray 99 (0,0)):=(hb.block _ (by rw [hW]; simp)).trans (by rw [hW]; exact zah rfl)
  refine (zao q (3 + m)).1.trans ?_
  rcases (show m = 0 ∨ m = 1 ∨ m = 2 ∨ m = 3 ∨ m = 4 ∨ m = 5 ∨ m = 6 ∨ m = 7 by omega) with rfl | rfl | rfl | rfl | rfl | rfl | rfl | rfl <;> rfl
 have BW:Hid (Below w.heap.size w W):=by rw [hW]; exact (Below.refl _ _).alloc (Nat.le_refl _) _
 obtain ⟨k0,k1,k2,k3,k4,k5,k6,k7,k8,k9,k10,k11,k12⟩:=CA.out _ (Below.refl _ _)
 rw [hW] at k0 k1 k2 k3 k4 k5 k6 k7 k8 k9 k10 k11 k12
 clear hi
 go_enter Tryz.func42,Tryz.ntmps42
 go_wp2_with fail
 rw [← hW]
 clear hW k0 k1 k2 k3 k4 k5 k6 k7 k8 k9 k10 k11 k12
 refine (LS.out _).mono ?_
 rintro r w1 ⟨rfl,hb1⟩
 have ST:Hid (UpI W (w1.alloc (.cells #[.int .i64 (48 + 12 * i + 1),.int .i64 (n:Int)] 83)) (.slice (some ⟨w1.heap.size,0,none⟩) 1 1) (cuU x.map i n n)):=by
  unfold Hid cuU
  rw [yafh]
  exact ⟨World.ownsRow_lit w1 _ 1 hb1.size (by simp [maxLen]) rfl,hb1.alloc hb1.size _⟩
 clear hb1 LS
 have k12:=(CA.out _ ST.out.b).2.2.2.2.2.2.2.2.2.2.2.2
 go_wp2_with fail
 clear k12
 go_loopw [3,4] (fun vL k wr => ∃ m:Nat,n ≤ m ∧ m ≤ 8 ∧ k = .int .i64 (m:Int) ∧ Hid (UpI W wr vL (cuU x.map i n m))) (fun _ k _ => 8 - (intOf k).toNat)
 case atStart => exact ⟨n,Nat.le_refl _,hn,rfl,ST⟩
 case round =>
  obtain ⟨m,hm,hm8,rfl,J⟩:=hrel
  clear ST
  have JW:=zaa (zab BW.out J.out.b BW.out.size)
  have m0:(0:Int) ≤ (m:Int):=by omega
  by_cases hlt:m < 8
  ·have m1:(m:Int) < 8:=by omega
   have e0:=CM.out wr J.out.b m hlt
   have YES:=zaa (fun e => yatc (zs:=x.map) (i:=i) (n:=n) (k:=m) hm e)
   have NO:=zaa (fun e => yauv (zs:=x.map) (i:=i) (n:=n) (k:=m) e)
   have LP2:=zaa (LP.out m hlt)
   have hlen:(cuU x.map i n m).length ≤ 9:=by
    have:=zye x.map i n m
    show (cuT x.map i n m).length + 1 ≤ 9
    omega
   generalize x.map.getD m 0 = z at e0 YES NO
   by_cases q:z = 0
   ·have q':(z == 0) = true:=by rw [q]; rfl
    have G:Hid (UpI W wr u3 (cuU x.map i n (m + 1))):=by
     unfold Hid cuU
     rw [NO.out q]
     exact J.out
    clear q J YES NO
    go_wp2_with fail
    refine (zkh _ _).mono ?_
    rintro r w' ⟨rfl,hw'⟩
    subst w'
    go_wp2
    go_roundw
    case rel => exact ⟨m + 1,by omega,by omega,by go_num,G⟩
    case measure => simp [intOf]; omega
   ·have q':(z == 0) = false:=by rw [beq_eq_false_iff_ne]; exact q
    obtain ⟨k0,k1,k2,k3,k4,k5,k6,k7,k8,k9,k10,k11,k12⟩:=CA.out _ J.out.b
    have MN:Hid (cuU x.map i n (m + 1) = cuU x.map i n m ++ [⟨48 + 12 * i + (3 + (m:Int)),0⟩]):=by
     unfold Hid cuU
     rw [YES.out q]
     rfl
    clear q YES NO
    go_wp2_with fail
    refine (zkh _ _).mono ?_
    rintro r w' ⟨rfl,hw'⟩
    subst w'
    go_wp2_with fail
    refine (LP2.out _).mono ?_
    rintro r w2 ⟨rfl,hb2⟩
    have JB:Hid (UpI W (w2.alloc (.cells #[.int .i64 (48 + 12 * i + (3 + (m:Int))),.int .i64 0] 83)) u3 (cuU x.map i n m)):=(J.out.below hb2).below ((Below.refl _ _).alloc (Nat.le_refl _) _)
    have RB:=zaa (ziq w2 (48 + 12 * i + (3 + (m:Int))) 0)
    have hzb:=JB.out.z
    clear hb2 J k0 k1 k2 k3 k4 k5 k6 k7 k8 k9 k10 k11 k12 e0
    go_wp2_with (at_builtin; refine zae _ rfl (.tmp 25) (.tmp 30) 46 rfl W.heap.size 83 (.agg #[.int .i64 0,.int .i64 0]) 2 16 Tryz.underlying46 zjy rfl (by decide) _ _ _ rfl JB.out.l _ 1 _ rfl RB.out (zew _) (by first | omega | (simp [maxLen]; omega)) (by first | omega | (simp; omega)) hzb ?_)
    intro vN wN hownN hgrN
    have G:=zaa (JB.out.grow [⟨48 + 12 * i + (3 + (m:Int)),0⟩] hownN hgrN)
    rw [← MN.out] at G
    clear hownN hgrN JB RB
    go_wp2
    go_roundw
    case rel => exact ⟨m + 1,by omega,by omega,by go_num,G⟩
    case measure => simp [intOf]; omega
  ·obtain rfl:m = 8:=by omega
   obtain ⟨-,aN,cN,hvN,-⟩:=(zad J.out.l).rd
   subst hvN
   go_wp2
   go_ret
   exact ⟨_,rfl,(zad J.out.l).wide BW.out.size (Nat.le_refl _),JW.out⟩
theorem cu_form {ns:List Ino} {ds:List Den} {s:ByteArray} {size:Int}:cuR ns ds s size = if (flR ns ds s).2 = 0 then cuF ns (flR ns ds s).1 size else ([],(flR ns ds s).2):=by
 unfold cuR flR
 by_cases c:65536 < s.size
 ·rw [if_pos c,if_pos c]
  rfl
 ·rw [if_neg c,if_neg c]
  by_cases d:zcb ns ds = true
  ·rw [if_pos d,if_pos d]
   rfl
  ·rw [if_neg d,if_neg d]
   rfl
set_option maxRecDepth 100000 in
set_option maxHeartbeats 8000000 in
theorem implPlanCut_any (v:Value) (ns:List Ino) (ds:List Den) (s:ByteArray) (size:Int) (w:World) (h:RdIm w v ns ds) (hw:ns.length ≤ 1048576) (hp:ds.length ≤ 1048576) (hT:TS w) (hE:ED w) (hF:FD w) (hr:∀ k (h:k < ns.length),ns[k].R) (hs:∀ k (h:k < ds.length),ds[k].name.size ≤ maxLen) :
  Calls Tryz.prog 16 #[v,.string s,.int .i64 size] w fun e w' => zjo w w' e (cuR ns ds s size):=by
 have LF:=zaa (fun w1 (hb:Below w.heap.size w w1) => findFile_any v ns ds s w1 (h.below hb) hw hp (hT.below hb) (hE.below hb) (hF.below hb) hr hs)
 have EL:=zaa (cu_form (ns:=ns) (ds:=ds) (s:=s) (size:=size))
 have FL:Hid ((flR ns ds s).2 = 0 → ∃ i:Nat,i < 16 ∧ (flR ns ds s).1 = (i:Int)):=fun c => by
  obtain ⟨hi,-,e⟩:=fl_right c
  rw [e] at c ⊢
  obtain ⟨i,h16,ei,-⟩:=zgu (zbz.1 hi) c
  exact ⟨i,h16,ei⟩
 have EF:Hid (∀ i:Nat,∀ x,x = zan ns i → cuF ns (i:Int) size = if 0 ≤ size ∧ size ≤ 8 then (cuU x.map (i:Int) size.toNat 8,0) else ([],4)):=fun i x e => by rw [e]; rfl
 obtain ⟨vW,vP,rfl,h1,h2⟩:=h
 obtain ⟨aW,cW,rfl,_,_⟩:=h1.shape
 obtain ⟨aP,cP,rfl,_,_⟩:=h2.shape
 clear h1 h2 hr hs hT hE hF
 obtain ⟨W,hW⟩:∃ W,W = w.alloc (.cells #[.slice aW ns.length cW,.slice aP ds.length cP] 42):=⟨_,rfl⟩
 obtain ⟨x0,x1,_,_⟩:=zac (zah (w:=w) (o:=.cells #[.slice aW ns.length cW,.slice aP ds.length cP] 42) rfl)
 have BW:Hid (Below w.heap.size w W):=by rw [hW]; exact (Below.refl _ _).alloc (Nat.le_refl _) _
 generalize cuR ns ds s size = res at *
 generalize flR ns ds s = lr at *
 obtain ⟨li,lc⟩:=lr
 obtain ⟨x,hx⟩:∃ x,x = faI ns (li,lc):=⟨_,rfl⟩
 have LF2:=zaa (fun w1 hb => LF.out w1 hb x hx)
 have HX:=zaa hx
 simp only at EL FL LF2
 clear LF hx
 go_enter Tryz.func16,Tryz.ntmps16
 go_wp2_with fail
 rw [← hW]
 clear hW x0 x1
 refine (LF2.out _ BW.out).mono ?_
 rintro e w2 ⟨rfl,hb2⟩
 have B2:=zaa (zab BW.out hb2 BW.out.size)
 clear hb2 LF2
 have BX:=zaa (B2.out.alloc B2.out.size (.cells #[.int .i64 x.kind,.int .i64 x.size,.int .i64 x.links,.int .i64 x.m0,.int .i64 x.m1,.int .i64 x.m2,.int .i64 x.m3,.int .i64 x.m4,.int .i64 x.m5,.int .i64 x.m6,.int .i64 x.m7,.int .i64 li] 92))
 by_cases c:lc = 0
 case neg =>
  rw [if_neg c] at EL
  obtain rfl:=EL.out
  have q:(lc != 0) = true:=by rw [bne_iff_ne]; exact c
  clear EL c FL EF HX
  go_wp2
  go_ret2
  exact zlq BX.out
 subst c
 rw [if_pos rfl] at EL
 obtain ⟨i,i16,ei⟩:=FL.out rfl
 subst ei
 have hx:x = zan ns i:=HX.out.trans ((if_pos rfl).trans (by simp only [Int.toNat_natCast]))
 rw [EF.out i x hx] at EL
 clear FL EF HX hx
 have VX:Hid ((w2.alloc (.cells #[.int .i64 x.kind,.int .i64 x.size,.int .i64 x.links,.int .i64 x.m0,.int .i64 x.m1,.int .i64 x.m2,.int .i64 x.m3,.int .i64 x.m4,.int .i64 x.m5,.int .i64 x.m6,.int .i64 x.m7,.int .i64 (i:Int)] 92)).heap[w2.heap.size]? = some (.cells (x.fa (i:Int)).toArray 92 (0,0))):=zah rfl
 obtain ⟨w3,hw3⟩:∃ w3,w3 = w2.alloc (.cells #[.int .i64 x.kind,.int .i64 x.size,.int .i64 x.links,.int .i64 x.m0,.int .i64 x.m1,.int .i64 x.m2,.int .i64 x.m3,.int .i64 x.m4,.int .i64 x.m5,.int .i64 x.m6,.int .i64 x.m7,.int .i64 (i:Int)] 92):=⟨_,rfl⟩
 rw [← hw3] at VX BX
 by_cases c:0 ≤ size ∧ size ≤ 8
 case neg =>
  rw [if_neg c] at EL
  obtain rfl:=EL.out
  clear EL VX
  go_wp2_with fail
  rw [← hw3]
  refine (zcf _ _ _ (by omega)).mono ?_
  rintro e w' ⟨rfl,hw'⟩
  subst w'
  clear hw3
  go_wp2
  go_ret2
  exact zlq BX.out
 rw [if_pos c] at EL
 obtain ⟨n,rfl⟩:∃ n:Nat,size = (n:Int):=⟨size.toNat,by omega⟩
 rw [Int.toNat_natCast] at EL
 have LC:=zaa (fun w1 => cutUpdates_any x (i:Int) n w1 (by omega) (by omega))
 have KE:w3.cell? ⟨w2.heap.size,0,none⟩ = some (.int .i64 x.kind) ∧ w3.cell? ⟨w2.heap.size,1,none⟩ = some (.int .i64 x.size) ∧ w3.cell? ⟨w2.heap.size,2,none⟩ = some (.int .i64 x.links) ∧ w3.cell? ⟨w2.heap.size,3,none⟩ = some (.int .i64 x.m0) ∧ w3.cell? ⟨w2.heap.size,4,none⟩ = some (.int .i64 x.m1) ∧ w3.cell? ⟨w2.heap.size,5,none⟩ = some (.int .i64 x.m2) ∧ w3.cell? ⟨w2.heap.size,6,none⟩ = some (.int .i64 x.m3) ∧ w3.cell? ⟨w2.heap.size,7,none⟩ = some (.int .i64 x.m4) ∧ w3.cell? ⟨w2.heap.size,8,none⟩ = some (.int .i64 x.m5) ∧ w3.cell? ⟨w2.heap.size,9,none⟩ = some (.int .i64 x.m6) ∧ w3.cell? ⟨w2.heap.size,10,none⟩ = some (.int .i64 x.m7) ∧ w3.cell? ⟨w2.heap.size,11,none⟩ = some (.int .i64 (i:Int)):=⟨(zao VX.out 0).1,(zao VX.out 1).1,(zao VX.out 2).1,(zao VX.out 3).1,(zao VX.out 4).1,(zao VX.out 5).1,(zao VX.out 6).1,(zao VX.out 7).1,(zao VX.out 8).1,(zao VX.out 9).1,(zao VX.out 10).1,(zao VX.out 11).1⟩
 obtain ⟨k0,k1,k2,k3,k4,k5,k6,k7,k8,k9,k10,k11⟩:=KE
 go_wp2_with fail
 rw [← hw3]
 refine (zba _ _ _ (by omega)).mono ?_
 rintro e w' ⟨rfl,hw'⟩
 subst w'
 clear hw3 c VX
 go_wp2_with fail
 refine (LC.out _).mono ?_
 rintro e w4 ⟨v4,rfl,hr4,hb4⟩
 have B4:=zaa (zab BX.out hb4 BX.out.size)
 have R4:=zaa (hr4.wide (lo':=w.heap.size) (hi':=w4.heap.size) BX.out.size (Nat.le_refl _))
 obtain ⟨-,a4,c4,hv4,-⟩:=hr4.rd
 subst hv4
 clear hr4 hb4 k0 k1 k2 k3 k4 k5 k6 k7 k8 k9 k10 k11
 obtain rfl:=EL.out
 go_wp2
 go_ret2
 exact ⟨_,rfl,R4.out,B4.out⟩
end Go.Proofs.YtkdjfhkalelafaaGreatDoor
