/- Several texts laid together: PaC, ShL, PbB, PbE. -/
import Derived.Test.YtkdjfhkalelafaaGreatDoorZAK
import Derived.Deep.LoopGhost
import Derived.WalkMore
import Derived.Test.YtkdjfhkalelafaaGreatDoorRows
import Derived.Shelf.Small.Strs
import Derived.Shelf.Small.Wraps
import Derived.Shelf.Strings.Search3
import Derived.Shelf.Strings.Count
import Derived.Shelf.Strings.Split
import Derived.Test.YtkdjfhkalelafaaGreatDoorZAI
import Derived.Test.YtkdjfhkalelafaaGreatDoorZAJ
import Derived.Test.YtkdjfhkalelafaaGreatDoorZAE
namespace Go.Proofs.YtkdjfhkalelafaaGreatDoor
open Go.RowKit
set_option maxRecDepth 100000 in
set_option maxHeartbeats 2000000 in
theorem zpd (v:Value) (ws:List Ino) (ps:List Den) (i:Int) (w:World) (h:RdIm w v ws ps) (hl:ws.length = 16) (h0:0 ≤ i ∧ i ≤ 15) :
  Calls Tryz.prog 65 #[v,.int .i64 i] w fun e w' => e = .returned (.bool (zai ws i == 2)) ∧ Below w.heap.size w w':=by
 obtain ⟨vW,vP,rfl,h1,h2⟩:=h
 obtain ⟨aW,cW,rfl,_,hcW⟩:=h1.shape
 obtain ⟨aP,cP,rfl,_,_⟩:=h2.shape
 obtain ⟨n,rfl⟩:∃ n:Nat,i = (n:Int):=⟨i.toNat,by omega⟩
 have hn:n < ws.length:=by omega
 obtain ⟨bW,oW,rfl,hblW,hcellW⟩:=hcW (by omega)
 have BW:Hid (Below w.heap.size w (w.alloc (.cells #[.slice (some ⟨bW,oW,none⟩) ws.length cW,.slice aP ps.length cP] 42))):=(Below.refl _ _).alloc (Nat.le_refl _) _
 have k0:=(BW.out.cell (p:=⟨bW,oW + n * 11,none⟩) hblW).trans (hcellW n hn).1
 rw [← zbn hn] at k0
 have n0:(0:Int) ≤ (n:Int):=by omega
 have n1:(n:Int) < (ws.length:Int):=by omega
 clear h1 h2 hcW hcellW hl h0 hn
 generalize zai ws (n:Int) = kk at *
 go_enter Tryz.func65,Tryz.ntmps65
 go_wp2
 go_ret
 exact ⟨rfl,BW.out⟩
theorem yaoh {ps:List Den} (u0:upD ps 0 = -1) {x b:Int} (h:zcr ps 16 x = true) (hx:0 ≤ x) (q:¬ x = b):(x = 0 → zgj ps 16 x b = false) ∧ (¬ x = 0 → 0 ≤ upD ps x ∧ zcr ps 16 (upD ps x) = true ∧ zgj ps 16 x b = zgj ps 16 (upD ps x) b):=by
 have n0:¬ x < 0:=by omega
 have e:zgj ps 16 x b = zgj ps 15 (upD ps x) b:=by rw [show (16:Nat) = 15 + 1 from rfl,zdi,if_neg n0,if_neg q]
 refine ⟨fun z => ?_,fun z => ?_⟩
 ·rw [e,z,u0,zkr ps 15 (-1) b (by omega)]
 ·obtain ⟨h1,h2⟩:=zgh (k:=15) h z
  refine ⟨h1,zqb 15 _ h2,?_⟩
  rw [e,zsh u0 15 16 _ b h2 h1 (by omega)]
def deep (ps:List Den):Nat → Int → Nat
 | 0,_ => 0
 | n + 1,x => if x = 0 then 0 else 1 + deep ps n (upD ps x)
theorem zvr {ps:List Den}:∀ (k n:Nat) (a:Int),zcr ps k a = true → k ≤ n → deep ps n a = deep ps k a
 | 0,_,_,h,_ => by rw [zfd] at h; cases h
 | k + 1,0,_,_,hn => absurd hn (by omega)
 | k + 1,n + 1,a,h,hn => by
  show (if a = 0 then 0 else 1 + deep ps n (upD ps a)) = (if a = 0 then 0 else 1 + deep ps k (upD ps a))
  by_cases r:a = 0
  ·rw [if_pos r,if_pos r]
  ·rw [if_neg r,if_neg r,zvr k n _ (zgh h r).2 (by omega)]
theorem yagc {ps:List Den} {x:Int} (h:zcr ps 16 x = true) (q:¬ x = 0):deep ps 16 (upD ps x) < deep ps 16 x:=by
 have e:deep ps 16 x = 1 + deep ps 15 (upD ps x):=by
  show (if x = 0 then 0 else 1 + deep ps 15 (upD ps x)) = _
  rw [if_neg q]
 rw [e,zvr 15 16 _ (zgh (k:=15) h q).2 (by omega)]
 omega
set_option maxRecDepth 100000 in
set_option maxHeartbeats 4000000 in
theorem zpe (v:Value) (ws:List Ino) (ps:List Den) (a b:Int) (w:World) (h:RdIm w v ws ps) (hw:ws.length ≤ 1048576) (hp:ps.length ≤ 1048576) (hT:TS w) (hE:ED w) (hF:FD w) (hr:∀ k (h:k < ws.length),ws[k].R) (hs:∀ k (h:k < ps.length),ps[k].name.size ≤ maxLen) :
  Calls Tryz.prog 28 #[v,.int .i64 a,.int .i64 b] w fun e w' => e = .returned (.tuple #[.bool (beV ws ps a b),.int .i64 (beC ws ps a b)]) ∧ Below w.heap.size w w':=by
 have HRD:=zaa h
 have LI:=zaa (fun w1 (hb:Below w.heap.size w w1) => zdu v ws ps w1 (h.below hb) hw hp (hT.below hb) (hE.below hb) (hF.below hb) hr hs)
 have LD:=zaa (fun i w1 h (hl:ws.length = 16) (h0:0 ≤ i ∧ i ≤ 15) => zpd v ws ps i w1 h hl h0)
 obtain ⟨vW,vP,rfl,h1,h2⟩:=h
 obtain ⟨aW,cW,rfl,_,_⟩:=h1.shape
 obtain ⟨aP,cP,rfl,_,hcP⟩:=h2.shape
 have HP:=zaa hcP
 clear h1 h2 hr hs hcP hT hE hF
 obtain ⟨W,hW⟩:∃ W,W = w.alloc (.cells #[.slice aW ws.length cW,.slice aP ps.length cP] 42):=⟨_,rfl⟩
 have CA:Hid (∀ w',Below W.heap.size W w' → w'.cell? ⟨w.heap.size,0,none⟩ = some (.slice aW ws.length cW) ∧ w'.cell? ⟨w.heap.size,1,none⟩ = some (.slice aP ps.length cP)):=fun w' hb => by
  have:w'.heap[w.heap.size]? = some (.cells #[.slice aW ws.length cW,.slice aP ps.length cP] 42 (0,0)):=(hb.block _ (by rw [hW]; simp)).trans (by rw [hW]; exact zah rfl)
  exact ⟨(zac this).1,(zac this).2.1⟩
 have BW:Hid (Below w.heap.size w W):=by rw [hW]; exact (Below.refl _ _).alloc (Nat.le_refl _) _
 have hzW:w.heap.size ≤ W.heap.size:=BW.out.size
 cases c1:zcb ws ps with
 | false =>
  obtain ⟨E1,E2⟩:=yati (a:=a) (b:=b) c1
  rw [c1] at LI
  rw [E1,E2]
  clear c1 E1 E2
  go_enter Tryz.func28,Tryz.ntmps28
  go_wp2_with fail
  go_step3
  go_wp2_with fail
  rw [← hW]
  clear hW
  refine (LI.out _ BW.out).mono ?_
  rintro e w1 ⟨rfl,hb1⟩
  have B1:=zaa (zab BW.out hb1 BW.out.size)
  have BA1:=zaa hb1
  obtain ⟨x0,x1⟩:=CA.out _ hb1
  clear hb1
  go_wp2
  try rw [Exit.noGoto_ret]
  go_ret2
  exact ⟨rfl,B1.out⟩
 | true =>
 have C1:=zaa c1
 rw [c1] at LI
 by_cases c2:0 ≤ a ∧ a ≤ 15
 case neg =>
  obtain ⟨E1,E2⟩:=yabq (a:=a) (b:=b) c1 (fun q => c2 q.1)
  rw [E1,E2]
  have C2:Hid (¬ (0 ≤ a ∧ a < 16)):=fun q => c2 (by omega)
  clear c1 E1 E2 c2
  go_enter Tryz.func28,Tryz.ntmps28
  go_wp2_with fail
  go_step3
  go_wp2_with fail
  rw [← hW]
  clear hW
  refine (LI.out _ BW.out).mono ?_
  rintro e w1 ⟨rfl,hb1⟩
  have B1:=zaa (zab BW.out hb1 BW.out.size)
  have BA1:=zaa hb1
  obtain ⟨x0,x1⟩:=CA.out _ hb1
  clear hb1
  go_wp2_with fail
  refine (zcf _ _ _ C2.out).mono ?_
  rintro e w2 ⟨rfl,hw2⟩
  subst w2
  go_wp2
  try rw [Exit.noGoto_ret]
  go_ret2
  exact ⟨rfl,B1.out⟩
 by_cases c3:0 ≤ b ∧ b ≤ 15
 case neg =>
  obtain ⟨E1,E2⟩:=yabq (a:=a) (b:=b) c1 (fun q => c3 q.2)
  rw [E1,E2]
  have C2:Hid (0 ≤ a ∧ a < 16):=by unfold Hid; omega
  have C3:Hid (¬ (0 ≤ b ∧ b < 16)):=fun q => c3 (by omega)
  clear c1 E1 E2 c2 c3
  go_enter Tryz.func28,Tryz.ntmps28
  go_wp2_with fail
  go_step3
  go_wp2_with fail
  rw [← hW]
  clear hW
  refine (LI.out _ BW.out).mono ?_
  rintro e w1 ⟨rfl,hb1⟩
  have B1:=zaa (zab BW.out hb1 BW.out.size)
  have BA1:=zaa hb1
  obtain ⟨x0,x1⟩:=CA.out _ hb1
  clear hb1
  go_wp2_with fail
  refine (zba _ _ _ C2.out).mono ?_
  rintro e w2 ⟨rfl,hw2⟩
  subst w2
  go_wp2_with fail
  refine (zcf _ _ _ C3.out).mono ?_
  rintro e w2 ⟨rfl,hw2⟩
  subst w2
  go_wp2
  try rw [Exit.noGoto_ret]
  go_ret2
  exact ⟨rfl,B1.out⟩
 have L16:=zaa (zat c1).1
 have L24:=zaa (zat c1).2.1
 have U0:=zaa (yake c1)
 have C2:Hid (0 ≤ a ∧ a < 16):=by unfold Hid; omega
 have C3:Hid (0 ≤ b ∧ b < 16):=by unfold Hid; omega
 have D2:=zaa c2
 have D3:=zaa c3
 have NO:=zaa (fun r => yaba C1.out ⟨D2.out,D3.out⟩ r)
 have YES:=zaa (fun r => yaur C1.out ⟨D2.out,D3.out⟩ r)
 have HG:=zaa (fun hk => yadb C1.out D2.out hk)
 have HD:Hid (∀ k (h:k < ps.length),ps[k].child = 0 → False):=fun k h e => by
  rcases zfq C1.out k h with q | q <;> omega
 have LA:=zaa (fun w1 (hb:Below w.heap.size w w1) => LD.out a w1 (HRD.out.below hb) L16.out D2.out)
 have LB:=zaa (fun w1 (hb:Below w.heap.size w w1) => LD.out b w1 (HRD.out.below hb) L16.out D3.out)
 clear c1 c2 c3 LD
 generalize zai ws a = ka at *
 generalize zai ws b = kb at *
 generalize beC ws ps a b = ec at *
 generalize beV ws ps a b = ev at *
 by_cases c4:ka = 2
 case neg =>
  obtain ⟨E1,E2⟩:=NO.out (fun q => c4 q.1)
  have Q1:Hid ((ka == 2) = false):=by unfold Hid; rw [beq_eq_false_iff_ne]; exact c4
  subst E1 E2
  clear c4 NO YES HG
  go_enter Tryz.func28,Tryz.ntmps28
  go_wp2_with fail
  go_step3
  go_wp2_with fail
  rw [← hW]
  clear hW
  refine (LI.out _ BW.out).mono ?_
  rintro e w1 ⟨rfl,hb1⟩
  have B1:=zaa (zab BW.out hb1 BW.out.size)
  have BA1:=zaa hb1
  obtain ⟨x0,x1⟩:=CA.out _ hb1
  clear hb1
  go_wp2_with fail
  refine (zba _ _ _ C2.out).mono ?_
  rintro e w2 ⟨rfl,hw2⟩
  subst w2
  go_wp2_with fail
  refine (zba _ _ _ C3.out).mono ?_
  rintro e w2 ⟨rfl,hw2⟩
  subst w2
  go_wp2_with fail
  refine (LA.out _ B1.out).mono ?_
  rw [Q1.out]
  rintro e w3 ⟨rfl,hb⟩
  have B3:=zaa (zab B1.out hb B1.out.size)
  have BA3:=zaa (zab BA1.out hb BA1.out.size)
  clear hb x0 x1
  obtain ⟨x0,x1⟩:=CA.out _ BA3.out
  go_wp2
  try rw [Exit.noGoto_ret]
  go_ret2
  exact ⟨rfl,B3.out⟩
 by_cases c5:kb = 2
 case neg =>
  obtain ⟨E1,E2⟩:=NO.out (fun q => c5 q.2)
  have Q1:Hid ((ka == 2) = true):=by unfold Hid; rw [c4]; rfl
  have Q2:Hid ((kb == 2) = false):=by unfold Hid; rw [beq_eq_false_iff_ne]; exact c5
  subst E1 E2
  clear c4 c5 NO YES HG
  go_enter Tryz.func28,Tryz.ntmps28
  go_wp2_with fail
  go_step3
  go_wp2_with fail
  rw [← hW]
  clear hW
  refine (LI.out _ BW.out).mono ?_
  rintro e w1 ⟨rfl,hb1⟩
  have B1:=zaa (zab BW.out hb1 BW.out.size)
  have BA1:=zaa hb1
  obtain ⟨x0,x1⟩:=CA.out _ hb1
  clear hb1
  go_wp2_with fail
  refine (zba _ _ _ C2.out).mono ?_
  rintro e w2 ⟨rfl,hw2⟩
  subst w2
  go_wp2_with fail
  refine (zba _ _ _ C3.out).mono ?_
  rintro e w2 ⟨rfl,hw2⟩
  subst w2
  go_wp2_with fail
  refine (LA.out _ B1.out).mono ?_
  rw [Q1.out]
  rintro e w3 ⟨rfl,hb⟩
  have B3:=zaa (zab B1.out hb B1.out.size)
  have BA3:=zaa (zab BA1.out hb BA1.out.size)
  clear hb x0 x1
  obtain ⟨x0,x1⟩:=CA.out _ BA3.out
  go_wp2_with fail
  refine (LB.out _ B3.out).mono ?_
  rw [Q2.out]
  rintro e w4 ⟨rfl,hb⟩
  have B4:=zaa (zab B3.out hb B3.out.size)
  have BA4:=zaa (zab BA3.out hb BA3.out.size)
  clear hb x0 x1
  obtain ⟨x0,x1⟩:=CA.out _ BA4.out
  go_wp2
  try rw [Exit.noGoto_ret]
  go_ret2
  exact ⟨rfl,B4.out⟩
 obtain ⟨E1,E2⟩:=YES.out ⟨c4,c5⟩
 have Q1:Hid ((ka == 2) = true):=by unfold Hid; rw [c4]; rfl
 have Q2:Hid ((kb == 2) = true):=by unfold Hid; rw [c5]; rfl
 have G:=zaa (HG.out c4)
 have ST:=zaa (fun x h hx q => yaoh U0.out (x:=x) (b:=b) h hx q)
 have EV:Hid (ev = zgj ps 16 a b):=E2.trans (zsh U0.out 16 17 a b G.out D2.out.1 (by omega))
 subst E1
 clear c4 c5 NO YES HG E2
 go_enter Tryz.func28,Tryz.ntmps28
 go_wp2_with fail
 go_step3
 go_wp2_with fail
 rw [← hW]
 clear hW
 refine (LI.out _ BW.out).mono ?_
 rintro e w1 ⟨rfl,hb1⟩
 have B1:=zaa (zab BW.out hb1 BW.out.size)
 have BA1:=zaa hb1
 obtain ⟨x0,x1⟩:=CA.out _ hb1
 clear hb1
 go_wp2_with fail
 refine (zba _ _ _ C2.out).mono ?_
 rintro e w2 ⟨rfl,hw2⟩
 subst w2
 go_wp2_with fail
 refine (zba _ _ _ C3.out).mono ?_
 rintro e w2 ⟨rfl,hw2⟩
 subst w2
 go_wp2_with fail
 refine (LA.out _ B1.out).mono ?_
 rw [Q1.out]
 rintro e w3 ⟨rfl,hb⟩
 have B3:=zaa (zab B1.out hb B1.out.size)
 have BA3:=zaa (zab BA1.out hb BA1.out.size)
 clear hb x0 x1
 obtain ⟨x0,x1⟩:=CA.out _ BA3.out
 go_wp2_with fail
 refine (LB.out _ B3.out).mono ?_
 rw [Q2.out]
 rintro e w4 ⟨rfl,hb⟩
 have B4:=zaa (zab B3.out hb B3.out.size)
 have BA4:=zaa (zab BA3.out hb BA3.out.size)
 clear hb x0 x1
 obtain ⟨x0,x1⟩:=CA.out _ BA4.out
 clear B3 BA3 B1 BA1 LA LB LI Q1 Q2 x0 x1
 have hz4:W.heap.size ≤ w4.heap.size:=BA4.out.size
 go_wp2_with fail
 go_step3
 go_wp2_with fail
 go_loopg [1] (deep ps 16 a) (fun g d wr => ∃ z:Int,d = .int .i64 z ∧ Hid ((0 ≤ z ∧ zcr ps 16 z = true) ∧ zgj ps 16 a b = zgj ps 16 z b ∧ Below w4.heap.size w4 wr ∧ deep ps 16 z ≤ g))
 case atStart => exact ⟨a,rfl,⟨D2.out.1,G.out⟩,rfl,Below.refl _ _,Nat.le_refl _⟩
 case round =>
  obtain ⟨z,rfl,J⟩:=hrel
  have JW:=zaa (zab B4.out J.out.2.2.1 B4.out.size)
  have JA:=zaa (zab BA4.out J.out.2.2.1 hz4)
  obtain ⟨x0,x1⟩:=CA.out _ JA.out
  by_cases q:z = b
  ·have q1:(z != b) = false:=by rw [q]; simp
   have E:Hid (ev = true):=by
    unfold Hid
    rw [EV.out,J.out.2.1,q,show (16:Nat) = 15 + 1 from rfl,zdi,if_neg (by have:=J.out.1.1; omega),if_pos rfl]
   clear J q
   obtain rfl:=E.out
   go_wp2
   try rw [Exit.noGoto_ret]
   go_ret2
   exact ⟨rfl,JW.out⟩
  ·have q1:(z != b) = true:=by rw [bne_iff_ne]; exact q
   obtain ⟨S0,S1⟩:=ST.out z J.out.1.2 J.out.1.1 q
   have S0:=zaa S0
   have S1:=zaa S1
   have J3:=zaa J.out.2.2.1
   have DS:=zaa (fun q => yagc (ps:=ps) (x:=z) J.out.1.2 q)
   clear q
   go_wp2_with fail
   generalize gk = G0 at *
   generalize hV:wr = V at *
   clear hV
   have hzV:w4.heap.size ≤ V.heap.size:=J3.out.size
   have JD:=zaa J.out
   clear J
   go_loopg [1,37] ps.length (fun g2 d i wq => ∃ k:Nat,k + g2 = ps.length ∧ d = .int .i64 z ∧ i = .int .i64 k ∧ Hid (Below V.heap.size V wq ∧ ∀ j (h:j < ps.length),j < k → ¬ ps[j].child = z))
   case atStart => exact ⟨0,by omega,rfl,rfl,Below.refl _ _,fun j h a => absurd a (by omega)⟩
   case round =>
    obtain ⟨k,hk,rfl,rfl,K⟩:=hrel
    have KW:=zaa (zab JW.out K.out.1 JW.out.size)
    have K4:=zaa (zab J3.out K.out.1 hzV)
    have k0:(0:Int) ≤ (k:Int):=by omega
    by_cases hlt:k < ps.length
    ·obtain ⟨b0,o0,rfl,hbl,hcell⟩:=HP.out (by omega)
     obtain ⟨a0,a1,a2⟩:=hcell k hlt
     have d0:=(KW.out.cell (p:=⟨b0,o0 + k * 3,none⟩) hbl).trans a0
     have d1:=(KW.out.cell (p:=⟨b0,o0 + k * 3 + 1,none⟩) hbl).trans a1
     have d2:=(KW.out.cell (p:=⟨b0,o0 + k * 3 + 2,none⟩) hbl).trans a2
     have k1:(k:Int) < (ps.length:Int):=by omega
     have HY:=zaa (fun e:ps[k].child = z => ztj hlt K.out.2 e)
     have HX:=zaa (fun (e:¬ ps[k].child = z) j (h:j < ps.length) (a:j < k + 1) => show ¬ ps[j].child = z by
      by_cases q:j = k
      ·subst q; exact e
      ·exact K.out.2 j h (by omega))
     have HZ:=zaa (fun e:ps[k].child = z => fun z0:z = 0 => HD.out k hlt (e.trans z0))
     have K1:=zaa K.out.1
     clear hcell a0 a1 a2 K
     generalize ps[k].child = y at *
     generalize ps[k].dir = yd at *
     generalize ps[k].name = yn at *
     have BX:=zaa ((Below.refl wr.heap.size wr).alloc (Nat.le_refl _) (.cells #[.int .i64 yd,.string yn,.int .i64 y] 69))
     by_cases q:y = z
     ·have q1:(y == z) = true:=beq_iff_eq.2 q
      have E:=zaa (HY.out q)
      have z0:=HZ.out q
      have S2:=zaa (S1.out z0)
      have D2':=zaa (DS.out z0)
      have B5:=zaa (zab K4.out BX.out K4.out.size)
      rw [E.out] at S2 D2'
      clear q HX HY HZ
      go_wp2
      go_roundg (deep ps 16 yd)
      case measure => have:=JD.out.2.2.2; have:=D2'.out; omega
      case rel => exact ⟨yd,rfl,⟨S2.out.1,S2.out.2.1⟩,by rw [JD.out.2.1,S2.out.2.2],B5.out,Nat.le_refl _⟩
     ·have q1:(y == z) = false:=beq_eq_false_iff_ne.2 q
      have E:=zaa (HX.out q)
      have B5:=zaa (zab K1.out BX.out K1.out.size)
      clear q HX HY HZ
      go_wp2
      go_roundg (ps.length - (k + 1))
      case measure => omega
      case rel => exact ⟨k + 1,by omega,rfl,by go_num,B5.out,E.out⟩
    ·obtain rfl:k = ps.length:=by omega
     have E:Hid (ev = false):=by
      unfold Hid
      have un:=zzy (fun j h => K.out.2 j h h)
      have z0:z = 0:=Classical.byContradiction fun n => by have:=(S1.out n).1; omega
      rw [EV.out,JD.out.2.1]
      exact S0.out z0
     clear K
     obtain rfl:=E.out
     go_wp2
     try rw [Exit.noGoto_ret]
     go_ret2
     exact ⟨rfl,KW.out⟩
end Go.Proofs.YtkdjfhkalelafaaGreatDoor

namespace Go.Proofs.YtkdjfhkalelafaaGreatDoor
open Go.Shelf Go.RowKit
def zxn:Go.Shelf.Ren:=⟨fun | 103 => 126 | 210 => 155 | 206 => 172 | n => n,fun | 9 => 9 | 4 => 4 | 24 => 175 | 3 => 3 | n => n,fun | n => n⟩
theorem yaqx:Go.Proofs.Lays.n103 Tryz.prog zxn:={
 mixed:=by kernel_rfl
 f103:=Tryz.func126.trans (congrArg some (by kernel_rfl))
 f206:=Tryz.func172.trans (congrArg some (by kernel_rfl))
 f210:=Tryz.func155.trans (congrArg some (by kernel_rfl))
 t3:=Tryz.underlying3
 a3:=Tryz.isAgg3
 z3:=Tryz.sizeOf3
 v3:=Tryz.zeroValue3
 t4:=Tryz.underlying4
 a4:=Tryz.isAgg4
 z4:=Tryz.sizeOf4
 v4:=Tryz.zeroValue4
 t9:=Tryz.underlying9
 a9:=Tryz.isAgg9
 z9:=Tryz.sizeOf9
 v9:=Tryz.zeroValue9
 t24:=Tryz.underlying175
 a24:=Tryz.isAgg175
 z24:=Tryz.sizeOf175
 v24:=Tryz.zeroValue175 }
def zgw:Go.Shelf.Ren:=⟨fun | 146 => 127 | 221 => 156 | 268 => 173 | 138 => 174 | 143 => 175 | 195 => 181 | 197 => 182 | 218 => 183 | 219 => 184 | 260 => 188 | 217 => 189 | 225 => 190 | 224 => 191 | 267 => 192 | 266 => 193 | 314 => 194 | n => n,fun | 9 => 9 | 31 => 33 | 3 => 3 | 4 => 4 | 0 => 0 | 105 => 216 | 21 => 21 | 5 => 5 | 46 => 221 | 119 => 222 | 139 => 225 | 138 => 224 | 146 => 227 | 51 => 226 | n => n,fun | 1 => 4 | 3 => 5 | 4 => 6 | n => n⟩
theorem zxw:Go.Proofs.Lays.n146 Tryz.prog zgw:={
 mixed:=by kernel_rfl
 f138:=Tryz.func174.trans (congrArg some (by kernel_rfl))
 f143:=Tryz.func175.trans (congrArg some (by kernel_rfl))
 f146:=Tryz.func127.trans (congrArg some (by kernel_rfl))
 f195:=Tryz.func181.trans (congrArg some (by kernel_rfl))
 f197:=Tryz.func182.trans (congrArg some (by kernel_rfl))
 f217:=Tryz.func189.trans (congrArg some (by kernel_rfl))
 f218:=Tryz.func183.trans (congrArg some (by kernel_rfl))
 f219:=Tryz.func184.trans (congrArg some (by kernel_rfl))
 f221:=Tryz.func156.trans (congrArg some (by kernel_rfl))
 f224:=Tryz.func191.trans (congrArg some (by kernel_rfl))
 f225:=Tryz.func190.trans (congrArg some (by kernel_rfl))
 f260:=Tryz.func188.trans (congrArg some (by kernel_rfl))
 f266:=Tryz.func193.trans (congrArg some (by kernel_rfl))
 f267:=Tryz.func192.trans (congrArg some (by kernel_rfl))
 f268:=Tryz.func173.trans (congrArg some (by kernel_rfl))
 f314:=Tryz.func194.trans (congrArg some (by kernel_rfl))
 t0:=Tryz.underlying0
 a0:=Tryz.isAgg0
 z0:=Tryz.sizeOf0
 v0:=Tryz.zeroValue0
 t3:=Tryz.underlying3
 a3:=Tryz.isAgg3
 z3:=Tryz.sizeOf3
 v3:=Tryz.zeroValue3
 t4:=Tryz.underlying4
 a4:=Tryz.isAgg4
 z4:=Tryz.sizeOf4
 v4:=Tryz.zeroValue4
 t5:=Tryz.underlying5
 a5:=Tryz.isAgg5
 z5:=Tryz.sizeOf5
 v5:=Tryz.zeroValue5
 t9:=Tryz.underlying9
 a9:=Tryz.isAgg9
 z9:=Tryz.sizeOf9
 v9:=Tryz.zeroValue9
 t21:=Tryz.underlying21
 a21:=Tryz.isAgg21
 z21:=Tryz.sizeOf21
 v21:=Tryz.zeroValue21
 t31:=Tryz.underlying33
 a31:=Tryz.isAgg33
 z31:=Tryz.sizeOf33
 v31:=Tryz.zeroValue33
 t46:=Tryz.underlying221
 a46:=Tryz.isAgg221
 z46:=Tryz.sizeOf221
 v46:=Tryz.zeroValue221
 t51:=Tryz.underlying226
 a51:=Tryz.isAgg226
 z51:=Tryz.sizeOf226
 v51:=Tryz.zeroValue226
 t105:=Tryz.underlying216
 a105:=Tryz.isAgg216
 z105:=Tryz.sizeOf216
 v105:=Tryz.zeroValue216
 t119:=Tryz.underlying222
 a119:=Tryz.isAgg222
 z119:=Tryz.sizeOf222
 t138:=Tryz.underlying224
 a138:=Tryz.isAgg224
 z138:=Tryz.sizeOf224
 v138:=Tryz.zeroValue224
 t139:=Tryz.underlying225
 a139:=Tryz.isAgg225
 z139:=Tryz.sizeOf225
 v139:=Tryz.zeroValue225
 t146:=Tryz.underlying227
 a146:=Tryz.isAgg227
 z146:=Tryz.sizeOf227
 v146:=Tryz.zeroValue227
 g1:=by kernel_rfl
 g3:=by kernel_rfl
 g4:=by kernel_rfl }
end Go.Proofs.YtkdjfhkalelafaaGreatDoor

namespace Go.Proofs.YtkdjfhkalelafaaGreatDoor
open Go.Shelf Go.RowKit Go.Lib
theorem zsu (s p:ByteArray) (w:World) :
  Calls Tryz.prog 126 #[.string s,.string p] w fun e w' => e = .returned (.tuple #[.string ⟨(Lib.trimPrefix s.data.toList p.data.toList).toArray⟩,.bool (Lib.hasPrefix s.data.toList p.data.toList)]) ∧ w' = w:=Any.strings_CutPrefix yaqx s p w
theorem zzi (x:ByteArray) (w:World):Calls Tryz.prog 175 #[.string x,.string ⟨#[47]⟩] w fun e w' => e = .returned (.int .i64 (Lib.indexB x ⟨#[47]⟩)) ∧ w' = w:=by
 refine (show Calls Tryz.prog 175 #[.string x,.string ⟨#[47]⟩] w fun e w' => e = .returned (.int .i64 (Lib.indexByte x.data.toList 47)) ∧ w' = w from Any.strings_Index_one (ρ:=zgw) { zxw with } x 47 w).mono fun e w' ⟨he,hw⟩ => ⟨?_,hw⟩
 rw [he]
 show _ = Ending.returned (Value.int .i64 (Lib.index x.data.toList [47]))
 rw [Lib.index_one]
theorem zxd (x:ByteArray) (w:World):Calls Tryz.prog 174 #[.string x,.string ⟨#[47]⟩] w fun e w' => e = .returned (.int .i64 (Lib.countB x ⟨#[47]⟩)) ∧ w' = w:=by
 refine (show Calls Tryz.prog 174 #[.string x,.string ⟨#[47]⟩] w fun e w' => e = .returned (.int .i64 (Lib.countByte x.data.toList 47)) ∧ w' = w from Any.strings_Count_one (ρ:=zgw) { zxw with } x 47 w).mono fun e w' ⟨he,hw⟩ => ⟨?_,hw⟩
 rw [he]
 show _ = Ending.returned (Value.int .i64 ((Lib.count x.data.toList [47]:Nat):Int))
 rw [Lib.count_one]
 rfl
set_option maxRecDepth 100000 in
set_option maxHeartbeats 1000000 in
theorem zwx (s:ByteArray) (w:World) (hs:s.size < 4294967281) :
  Calls Tryz.prog 127 #[.string s,.string ⟨#[47]⟩] w fun e w' =>
   e = .returned (.slice (some ⟨w.heap.size,0,none⟩) (pcs s).length (pcs s).length) ∧ w' = w.alloc (.cells (zep (pcs s)).toArray 9):=by
 have hle:=Lib.countB_le ⟨#[47]⟩ (by decide) s.size s (Nat.le_refl _)
 have hlen:=Lib.splitB_all ⟨#[47]⟩ (by decide) 0 _ s rfl
 have c:Calls Tryz.prog 156 #[.string s,.string ⟨#[47]⟩,.int .i64 ((0:Nat):Int),.int .i64 (-1)] w fun e w' =>
   e = .returned (.slice (some ⟨w.heap.size,0,none⟩) (Lib.splitB ⟨#[47]⟩ 0 (Lib.countB s ⟨#[47]⟩ + 1 - 1) s).length (Lib.countB s ⟨#[47]⟩ + 1)) ∧ w' = w.alloc (.cells (Lib.cellsOf (Lib.splitB ⟨#[47]⟩ 0 (Lib.countB s ⟨#[47]⟩ + 1 - 1) s) (Lib.countB s ⟨#[47]⟩ + 1)) 9) :=
  Any.strings_genSplit_core (ρ:=zgw) { zxw with } (by kernel_rfl) s ⟨#[47]⟩ 0 (-1) (Lib.countB s ⟨#[47]⟩ + 1) w hs (by decide) (Nat.zero_le _) (fun x _ _ => zzi x _) (zxd s w) (by decide) (by decide) (by rw [if_pos (by decide)]; omega)
 rw [Nat.add_sub_cancel,hlen] at c
 have e2:Lib.cellsOf (Lib.splitB ⟨#[47]⟩ 0 (Lib.countB s ⟨#[47]⟩) s) (Lib.countB s ⟨#[47]⟩ + 1) = ((Lib.splitB ⟨#[47]⟩ 0 (Lib.countB s ⟨#[47]⟩) s).map Value.string).toArray:=by rw [← hlen]; exact Lib.cellsOf_full _
 rw [e2,zvw,yagf] at c
 have C:=zaa c
 clear c hle hlen e2
 unfold zep
 generalize (pcs s).length = n at *
 generalize ((pcs s).map Value.string).toArray = cs at *
 go_enter Tryz.func127,Tryz.ntmps127
 go_wp2_with (go_at_call 156; refine C.out.mono ?_; rintro e w' ⟨rfl,hw⟩; rw [hw])
 go_ret
 exact ⟨rfl,rfl⟩
end Go.Proofs.YtkdjfhkalelafaaGreatDoor

namespace Go.Proofs.YtkdjfhkalelafaaGreatDoor
open Go.RowKit
def zik (s:ByteArray):ByteArray:=mkB (Lib.trimPrefix s.data.toList [47])
def zqz (s:ByteArray):Bool:=Lib.hasPrefix s.data.toList [47]
theorem yami {s:ByteArray} (h:zqz s = false):spN s = false:=by
 unfold zqz Lib.hasPrefix at h
 unfold spN
 cases hl:s.data.toList with
 | nil => rw [yamc hl]; rfl
 | cons c l =>
  have hc:¬ c = 47:=fun e => by subst e; rw [hl] at h; simp [List.isPrefixOf] at h
  obtain ⟨x,r,e,hx⟩:=yaed hl hc
  rw [e]
  have:x.toList.isEmpty = false:=by
   rw [Lib.toList_data]
   rw [Lib.size_eq] at hx
   cases h:x.data.toList with
   | nil => rw [h] at hx; exact absurd rfl hx
   | cons _ _ => rfl
  show (_ && (x.toList.isEmpty && _)) = false
  rw [this]; simp
theorem yahf {s:ByteArray} (h:zqz s = true):spN s = (decide ((pcs (zik s)).length ≤ 6) && (pcs (zik s)).all nmB) ∧ (pcs s).drop 1 = pcs (zik s):=by
 unfold zqz Lib.hasPrefix at h
 cases hl:s.data.toList with
 | nil => rw [hl] at h; simp [List.isPrefixOf] at h
 | cons c l =>
  have hc:c = 47:=by rw [hl] at h; simp [List.isPrefixOf] at h; exact h.symm
  subst hc
  have hr:zik s = mkB l:=by unfold zik Lib.trimPrefix Lib.hasPrefix; rw [hl]; simp [List.isPrefixOf]
  have hp:=yagj hl
  have p1:=yaeg (zik s)
  unfold spN
  rw [hp,hr]
  rw [hr] at p1
  refine ⟨?_,rfl⟩
  have e1:(mkB [] :: pcs (mkB l)).length = (pcs (mkB l)).length + 1:=rfl
  rw [e1]
  have e2:decide (2 ≤ (pcs (mkB l)).length + 1 ∧ (pcs (mkB l)).length + 1 ≤ 7) = decide ((pcs (mkB l)).length ≤ 6):=by
   by_cases q:(pcs (mkB l)).length ≤ 6
   ·rw [decide_eq_true q,decide_eq_true (by omega)]
   ·rw [decide_eq_false q,decide_eq_false (by omega)]
  rw [e2]
  have e3:((mkB [] :: pcs (mkB l)).getD 0 ⟨#[]⟩).toList.isEmpty = true:=by
   show (mkB []).toList.isEmpty = true
   rw [Lib.toList_data,zia]
   rfl
  rw [e3]
  rfl
theorem yaeo (s:ByteArray):(zik s).size ≤ s.size:=by
 unfold zik
 rw [Lib.size_eq,zia,Lib.size_eq]
 unfold Lib.trimPrefix
 split
 ·rw [List.length_drop]; omega
 ·exact Nat.le_refl _
set_option maxRecDepth 100000 in
set_option maxHeartbeats 4000000 in
theorem zsw (v:Value) (ss:List ByteArray) (w:World) (h:RdT w v ss) (hn:ss.length ≤ 1048576) (hs:∀ k (h:k < ss.length),ss[k].size ≤ maxLen) :
  Calls Tryz.prog 128 #[v,.func (.func 114) #[] #[]] w fun e w' => e = .returned (.bool (ss.all nmB)) ∧ Below w.heap.size w w':=by
 obtain ⟨aP,cP,rfl,_,hcP⟩:=h.shape
 have HP:=zaa hcP
 have HS:=zaa hs
 have SF:Hid (∀ j (h:j < ss.length),nmB ss[j] = false → ss.all nmB = false):=fun j h q => by
  rw [List.all_eq_false]
  exact ⟨ss[j],List.getElem_mem _,by rw [q]; simp⟩
 have SA:Hid ((∀ j (h:j < ss.length),nmB ss[j] = true) → ss.all nmB = true):=fun h => by
  rw [List.all_eq_true]
  intro x hx
  obtain ⟨j,hj,rfl⟩:=List.getElem_of_mem hx
  exact h j hj
 clear h hcP hs
 go_enter Tryz.func128,Tryz.ntmps128
 go_wp2
 go_loopw [6,9] (fun _ i wr => ∃ k:Nat,k ≤ ss.length ∧ i = .int .i64 k ∧ Hid (Below w.heap.size w wr ∧ ∀ j (h:j < ss.length),j < k → nmB ss[j] = true)) (fun _ i _ => ss.length - (intOf i).toNat)
 case atStart => exact ⟨0,by omega,rfl,Below.refl _ _,fun j h a => absurd a (by omega)⟩
 case round =>
  obtain ⟨k,hk,rfl,H⟩:=hrel
  have H1:=zaa H.out.1
  have hz:w.heap.size ≤ wr.heap.size:=H.out.1.size
  by_cases hlt:k < ss.length
  ·obtain ⟨b,o,rfl,hbl,hcell⟩:=HP.out (by omega)
   have d0:=(H1.out.cell (p:=⟨b,o + k,none⟩) hbl).trans (hcell k hlt)
   have k0:(0:Int) ≤ (k:Int):=by omega
   have k1:(k:Int) < (ss.length:Int):=by omega
   have LI:=zaa (fun w1 => zhp ss[k] w1 (HS.out k hlt))
   have H2:Hid (∀ j (h:j < ss.length),j < k → nmB ss[j] = true):=H.out.2
   clear hcell H
   cases q:nmB ss[k] with
   | true =>
    have H':Hid (∀ j (h:j < ss.length),j < k + 1 → nmB ss[j] = true):=fun j h a => by
     by_cases e:j = k
     ·subst e; exact q
     ·exact H2.out j h (by omega)
    rw [q] at LI
    clear q H2
    generalize ss[k] = x at d0 LI
    go_wp2_with fail
    refine (LI.out _).mono ?_
    rintro e w1 ⟨rfl,hb1⟩
    have B3:=zaa (zab H1.out hb1 H1.out.size)
    clear hb1 d0
    go_wp2
    go_roundw
    case rel => exact ⟨k + 1,by omega,by go_num,B3.out,H'.out⟩
    case measure => simp [intOf]; omega
   | false =>
    have E:=zaa (SF.out k hlt q)
    rw [q] at LI
    clear q H2
    generalize ss[k] = x at d0 LI
    go_wp2_with fail
    refine (LI.out _).mono ?_
    rintro e w1 ⟨rfl,hb1⟩
    have B3:=zaa (zab H1.out hb1 H1.out.size)
    clear hb1 d0
    go_wp2
    go_ret
    exact ⟨zag E.out.symm,B3.out⟩
  ·have E:=zaa (SA.out (fun j h => H.out.2 j h (by omega)))
   clear H
   go_wp2
   go_ret
   exact ⟨zag E.out.symm,H1.out⟩
theorem yaoo (w:World) (P:List ByteArray) (h:P.length ≤ 1048576):Row (w.alloc (.cells (zep P).toArray 9)) 9 1 w.heap.size (w.alloc (.cells (zep P).toArray 9)).heap.size (.slice (some ⟨w.heap.size,0,none⟩) P.length P.length) P.length (zep P):=by
 have:=World.ownsRow_lit (e:=9) (size:=1) (base:=w.heap.size) w (zep P).toArray P.length (Nat.le_refl _) (by simp [maxLen]; omega) (by simp [zep])
 exact zad this
set_option maxRecDepth 100000 in
set_option maxHeartbeats 4000000 in
theorem zkx (s:ByteArray) (w:World) :
  Calls Tryz.prog 78 #[.string s] w fun e w' => ∃ v',e = .returned (.tuple #[v',.int .i64 (spC s)]) ∧ Row w' 9 1 w.heap.size w'.heap.size v' (spR s).length (zep (spR s)) ∧ Below w.heap.size w w':=by
 by_cases c1:65536 < s.size
 ·obtain ⟨E1,E2⟩:=yaej c1
  rw [E1,E2]
  have c2:(s.size:Int) > 65536:=by omega
  clear c1 E1 E2
  go_enter Tryz.func78,Tryz.ntmps78
  go_wp2
  go_ret2
  exact ⟨_,rfl,Row.nil _ _ _ _ _,Below.refl _ _⟩
 have c2:¬ (s.size:Int) > 65536:=by omega
 obtain ⟨X1,X2⟩:=zst c1
 cases c3:znw s with
 | true =>
  obtain ⟨E1,E2⟩:=yaat c3
  obtain ⟨E3,E4⟩:=X1 E1
  rw [E3,E4,E2]
  have c4:(s.toList == [47]) = true:=c3
  clear c1 c3 E1 E2 E3 E4 X1 X2
  go_enter Tryz.func78,Tryz.ntmps78
  go_wp2
  go_ret2
  exact ⟨_,rfl,Row.nil _ _ _ _ _,Below.refl _ _⟩
 | false =>
 have c4:(s.toList == [47]) = false:=c3
 have NO:Hid (spN s = false → spC s = 12 ∧ spR s = []):=fun h => X2 (yatf c3 h).1
 have YES:Hid (spN s = true → spC s = 0 ∧ spR s = (pcs s).drop 1):=fun h => by
  obtain ⟨a,b⟩:=yaqe c3 h
  obtain ⟨c,d⟩:=X1 a
  exact ⟨c,d.trans b⟩
 have LP:Hid (∀ w1:World,Calls Tryz.prog 126 #[.string s,.string ⟨#[47]⟩] w1 fun e w' => e = .returned (.tuple #[.string (zik s),.bool (zqz s)]) ∧ w' = w1):=fun w1 => zsu s ⟨#[47]⟩ w1
 have RS:=yaeo s
 have LS:=zaa (fun w1 => zwx (zik s) w1 (by omega))
 have PL:=yakz (zik s)
 have RW:=zaa (fun w1 => yaoo w1 (pcs (zik s)) (by omega))
 have LE:=zaa (fun v w1 h => zsw v (pcs (zik s)) w1 h (by omega) (fun k hk => by have:=yaaw (zik s) k hk; unfold maxLen; omega))
 have AN:=zaa (fun h => yami (s:=s) h)
 have AY:=zaa (fun h => yahf (s:=s) h)
 have BE:=zaa (fun w1:World => (Below.refl w1.heap.size w1).alloc (Nat.le_refl _) (.cells (zep (pcs (zik s))).toArray 9))
 clear c1 c3 X1 X2
 generalize spC s = sc at *
 generalize spR s = sr at *
 generalize spN s = sn at *
 generalize (pcs s).drop 1 = P1 at *
 generalize hRS:zik s = R at *
 generalize zqz s = ah at *
 generalize pcs R = P at *
 clear hRS
 cases ah with
 | false =>
  obtain ⟨e1,e2⟩:=NO.out (AN.out rfl)
  subst e1 e2
  clear NO YES AN AY LE RW
  go_enter Tryz.func78,Tryz.ntmps78
  go_wp2_with fail
  refine (LP.out _).mono ?_
  rintro e w1 ⟨rfl,hw1⟩
  subst w1
  go_wp2_with fail
  refine (LS.out _).mono ?_
  rintro e w1 ⟨rfl,hw1⟩
  have B1:=zaa (BE.out w)
  rw [← hw1] at B1
  clear hw1
  go_wp2
  go_ret2
  exact ⟨_,rfl,Row.nil _ _ _ _ _,B1.out⟩
 | true =>
 obtain ⟨a1,a2⟩:=AY.out rfl
 have A1:=zaa a1
 rw [a2] at YES
 clear a2 AY
 by_cases n1:P.length ≤ 6
 case neg =>
  obtain ⟨e1,e2⟩:=NO.out (by rw [A1.out,decide_eq_false n1]; rfl)
  have n2:(P.length:Int) > 6:=by omega
  subst e1 e2
  clear NO YES AN LE RW A1 a1
  go_enter Tryz.func78,Tryz.ntmps78
  go_wp2_with fail
  refine (LP.out _).mono ?_
  rintro e w1 ⟨rfl,hw1⟩
  subst w1
  go_wp2_with fail
  refine (LS.out _).mono ?_
  rintro e w1 ⟨rfl,hw1⟩
  have B1:=zaa (BE.out w)
  rw [← hw1] at B1
  clear hw1
  go_wp2
  go_ret2
  exact ⟨_,rfl,Row.nil _ _ _ _ _,B1.out⟩
 have n2:¬ (P.length:Int) > 6:=by omega
 have A2:Hid (sn = P.all nmB):=by unfold Hid; rw [A1.out,decide_eq_true n1]; rfl
 clear A1 a1
 cases c5:P.all nmB with
 | false =>
  obtain ⟨e1,e2⟩:=NO.out (by rw [A2.out,c5])
  rw [c5] at LE
  subst e1 e2
  clear NO YES AN A2 c5
  go_enter Tryz.func78,Tryz.ntmps78
  go_wp2_with fail
  refine (LP.out _).mono ?_
  rintro e w1 ⟨rfl,hw1⟩
  subst w1
  go_wp2_with fail
  refine (LS.out _).mono ?_
  rintro e w1 ⟨rfl,hw1⟩
  have B1:=zaa (BE.out w)
  have R1:=zaa (RW.out w)
  rw [← hw1] at B1 R1
  clear hw1 RW BE
  go_wp2_with fail
  refine (LE.out _ _ R1.out.rd).mono ?_
  rintro e w2 ⟨rfl,hb2⟩
  have B2:=zaa (zab B1.out hb2 B1.out.size)
  clear hb2
  go_wp2
  go_ret2
  exact ⟨_,rfl,Row.nil _ _ _ _ _,B2.out⟩
 | true =>
  obtain ⟨e1,e2⟩:=YES.out (by rw [A2.out,c5])
  rw [c5] at LE
  subst e1 e2
  clear NO YES AN A2 c5
  go_enter Tryz.func78,Tryz.ntmps78
  go_wp2_with fail
  refine (LP.out _).mono ?_
  rintro e w1 ⟨rfl,hw1⟩
  subst w1
  go_wp2_with fail
  refine (LS.out _).mono ?_
  rintro e w1 ⟨rfl,hw1⟩
  have B1:=zaa (BE.out w)
  have R1:=zaa (RW.out w)
  rw [← hw1] at B1 R1
  clear hw1 RW BE
  go_wp2_with fail
  refine (LE.out _ _ R1.out.rd).mono ?_
  rintro e w2 ⟨rfl,hb2⟩
  have B2:=zaa (zab B1.out hb2 B1.out.size)
  have R2:=zaa ((R1.out.below hb2 (Nat.le_refl _)).wide (Nat.le_refl _) hb2.size)
  clear hb2
  go_wp2
  go_ret2
  exact ⟨_,rfl,R2.out,B2.out⟩
end Go.Proofs.YtkdjfhkalelafaaGreatDoor
