/- Several texts laid together: ImP, PaA, StA, PbA, PbC. -/
import Derived.Test.YtkdjfhkalelafaaGreatDoorZAH
import Derived.Test.YtkdjfhkalelafaaGreatDoorZAB
import Derived.Test.YtkdjfhkalelafaaGreatDoorZAC
import Derived.Test.YtkdjfhkalelafaaGreatDoorZAE
import Derived.Deep.DeepCutAuto
import Derived.Deep.RegionWith
import Derived.Deep.RegionHeld3
import Derived.Lib.Strings
import Derived.Lib.SplitLaws
import Derived.Lib.IndexBytes
import Derived.Deep.LoopGhost
import Derived.Laws.OwnMore
namespace Go.Proofs.YtkdjfhkalelafaaGreatDoor
open Go.RowKit
theorem zdu (v:Value) (ws:List Ino) (ps:List Den) (w:World) (h:RdIm w v ws ps) (hw:ws.length ≤ 1048576) (hp:ps.length ≤ 1048576) (hT:TS w) (hE:ED w) (hF:FD w) (hr:∀ k (h:k < ws.length),ws[k].R) (hs:∀ k (h:k < ps.length),ps[k].name.size ≤ maxLen) :
  Calls Tryz.prog 23 #[v] w fun e w' => e = .returned (.bool (zcb ws ps)) ∧ Below w.heap.size w w':=by
 rw [← yasn]
 exact yakd v ws ps w h hw hp hT hE hF hr hs
set_option maxRecDepth 100000 in
set_option maxHeartbeats 8000000 in
theorem zho (v:Value) (ws:List Ino) (ps:List Den) (w:World) (h:RdIm w v ws ps) (hw:ws.length ≤ 1048576) (hp:ps.length ≤ 1048576) (hr:∀ k (h:k < ws.length),ws[k].R) (hs:∀ k (h:k < ps.length),ps[k].name.size ≤ maxLen) :
  Calls Tryz.prog 30 #[v] w fun e w' => e = .returned (.bool (zcb ws ps)) ∧ Below w.heap.size w w':=by
 have HRD:=zaa h
 have HR:=zaa hr
 have L1:=zaa (fun w1 h => ztw v ws ps w1 h hw hp)
 have L2:=zaa (fun w1 h (hl:ws.length = 16) => zpz v ws ps w1 h hl hp hs)
 have L3:=zaa (fun w1 h (hl:ws.length = 16) (o:zwt ws = true) => zte v ws ps w1 h hl (fun k hk z hz => zer (ztq o k hk z hz)))
 obtain ⟨vW,vP,rfl,h1,h2⟩:=h
 obtain ⟨aW,cW,rfl,_,hcW⟩:=h1.shape
 obtain ⟨aP,cP,rfl,_,_⟩:=h2.shape
 have HW:=zaa hcW
 clear h1 h2 hr hs hcW
 have CA:Hid (∀ w',Below (w.alloc (.cells #[.slice aW ws.length cW,.slice aP ps.length cP] 42)).heap.size (w.alloc (.cells #[.slice aW ws.length cW,.slice aP ps.length cP] 42)) w' → w'.cell? ⟨w.heap.size,0,none⟩ = some (.slice aW ws.length cW) ∧ w'.cell? ⟨w.heap.size,1,none⟩ = some (.slice aP ps.length cP)):=fun w' hb => by
  have:w'.heap[w.heap.size]? = some (.cells #[.slice aW ws.length cW,.slice aP ps.length cP] 42 (0,0)):=(hb.block _ (by simp)).trans (zah rfl)
  exact ⟨(zac this).1,(zac this).2.1⟩
 have BW:Hid (Below w.heap.size w (w.alloc (.cells #[.slice aW ws.length cW,.slice aP ps.length cP] 42))):=(Below.refl _ _).alloc (Nat.le_refl _) _
 obtain ⟨x0,x1⟩:=CA.out _ (Below.refl _ _)
 have EI:=zaa (show zcb ws ps = (decide (ws.length = 16) && (decide (ps.length = 24) && (zai ws 0 == 2 && (zwt ws && (zim ws ps && (zgg ws ps && zja ws)))))) from rfl)
 by_cases c1:ws.length = 16
 case neg =>
  have E:=zaa (show zcb ws ps = false by rw [EI.out,decide_eq_false c1]; rfl)
  have q:((ws.length:Int) != 16) = true:=by rw [bne_iff_ne]; omega
  clear c1
  go_enter Tryz.func30,Tryz.ntmps30
  go_wp2
  go_ret
  exact ⟨zag E.out.symm,BW.out⟩
 have q:((ws.length:Int) != 16) = false:=by rw [c1]; rfl
 by_cases c2:ps.length = 24
 case neg =>
  have E:=zaa (show zcb ws ps = false by rw [EI.out,decide_eq_false c2,Bool.false_and,Bool.and_false])
  have q2:((ps.length:Int) != 24) = true:=by rw [bne_iff_ne]; omega
  clear c1 c2
  go_enter Tryz.func30,Tryz.ntmps30
  go_wp2
  go_ret
  exact ⟨zag E.out.symm,BW.out⟩
 have q2:((ps.length:Int) != 24) = false:=by rw [c2]; rfl
 obtain ⟨bW,oW,rfl,hblW,hcellW⟩:=HW.out (by omega)
 have HK:=(hcellW 0 (by omega)).1
 rw [show ws[0].kind = zai ws 0 from (zbn (i:=0) (by omega)).symm] at HK
 simp only [Nat.zero_mul,Nat.add_zero] at HK
 have kk:=(BW.out.cell (p:=⟨bW,oW,none⟩) hblW).trans HK
 have len16:(0:Int) < (ws.length:Int):=by omega
 have C1:=zaa c1
 have E1:=zaa (show zcb ws ps = (zai ws 0 == 2 && (zwt ws && (zim ws ps && (zgg ws ps && zja ws)))) by rw [EI.out,decide_eq_true c1,decide_eq_true c2]; rfl)
 have HC:=zaa hcellW
 clear c1 c2 EI HK hcellW HW
 generalize zai ws 0 = k0 at *
 by_cases c3:k0 = 2
 case neg =>
  have q3:(k0 != 2) = true:=by rw [bne_iff_ne]; exact c3
  have E:=zaa (show zcb ws ps = false by rw [E1.out,show (k0 == 2) = false by rw [beq_eq_false_iff_ne]; exact c3]; rfl)
  clear c3
  go_enter Tryz.func30,Tryz.ntmps30
  go_wp2
  go_ret
  exact ⟨zag E.out.symm,BW.out⟩
 have q3:(k0 != 2) = false:=by rw [c3]; rfl
 have E2:=zaa (show zcb ws ps = (zwt ws && (zim ws ps && (zgg ws ps && zja ws))) by rw [E1.out,c3]; rfl)
 clear c3 E1
 go_enter Tryz.func30,Tryz.ntmps30
 go_wp2
 clear x0 x1 kk q q2 q3
 generalize w.alloc (.cells #[.slice (some ⟨bW,oW,none⟩) ws.length cW,.slice aP ps.length cP] 42) = W at *
 have hz:w.heap.size ≤ W.heap.size:=BW.out.size
 go_loopw [3] (fun i wr => ∃ k:Nat,k ≤ ws.length ∧ i = .int .i64 k ∧ Hid (Below W.heap.size W wr ∧ ∀ j (h:j < ws.length),j < k → zdy ws[j] = true)) (fun i _ => ws.length - (intOf i).toNat)
 case atStart => exact ⟨0,by omega,rfl,Below.refl _ _,fun j h a => absurd a (by omega)⟩
 case round =>
  obtain ⟨k,hk,rfl,H⟩:=hrel
  have H1:=zaa H.out.1
  have HF:=zaa (zab BW.out H.out.1 hz)
  obtain ⟨x0,x1⟩:=CA.out wr H.out.1
  by_cases hlt:k < ws.length
  ·obtain ⟨a0,a1,a2,a3,a4,a5,a6,a7,a8,a9,a10⟩:=HC.out k hlt
   have d0:=(HF.out.cell (p:=⟨bW,oW + k * 11,none⟩) hblW).trans a0
   have d1:=(HF.out.cell (p:=⟨bW,oW + k * 11 + 1,none⟩) hblW).trans a1
   have d2:=(HF.out.cell (p:=⟨bW,oW + k * 11 + 2,none⟩) hblW).trans a2
   have d3:=(HF.out.cell (p:=⟨bW,oW + k * 11 + 3,none⟩) hblW).trans a3
   have d4:=(HF.out.cell (p:=⟨bW,oW + k * 11 + 4,none⟩) hblW).trans a4
   have d5:=(HF.out.cell (p:=⟨bW,oW + k * 11 + 5,none⟩) hblW).trans a5
   have d6:=(HF.out.cell (p:=⟨bW,oW + k * 11 + 6,none⟩) hblW).trans a6
   have d7:=(HF.out.cell (p:=⟨bW,oW + k * 11 + 7,none⟩) hblW).trans a7
   have d8:=(HF.out.cell (p:=⟨bW,oW + k * 11 + 8,none⟩) hblW).trans a8
   have d9:=(HF.out.cell (p:=⟨bW,oW + k * 11 + 9,none⟩) hblW).trans a9
   have d10:=(HF.out.cell (p:=⟨bW,oW + k * 11 + 10,none⟩) hblW).trans a10
   have k0':(0:Int) ≤ (k:Int):=by omega
   have k1:(k:Int) < (ws.length:Int):=by omega
   have LI:=zaa (fun w1 => zub ws[k] w1 (HR.out k hlt))
   have H2:Hid (zdy ws[k] = true → ∀ j (h:j < ws.length),j < k + 1 → zdy ws[j] = true):=fun q j h a => by
    by_cases e:j = k
    ·subst e; exact q
    ·exact H.out.2 j h (by omega)
   have H3:=zaa (fun q => yaas hlt q)
   clear a0 a1 a2 a3 a4 a5 a6 a7 a8 a9 a10 H
   generalize ws[k] = x at d0 d1 d2 d3 d4 d5 d6 d7 d8 d9 d10 LI H2 H3
   cases qq:zdy x with
   | true =>
    rw [qq] at LI
    have E:=zaa (H2.out qq)
    clear H2 H3 qq
    go_wp2_with fail
    refine (LI.out _).mono ?_
    rintro e w1 ⟨rfl,hb1⟩
    have B3:=zaa (zab H1.out hb1 H1.out.size)
    clear hb1 d0 d1 d2 d3 d4 d5 d6 d7 d8 d9 d10 x0 x1
    go_wp2
    go_roundw
    case rel => exact ⟨k + 1,by omega,by go_num,B3.out,E.out⟩
    case measure => simp [intOf]; omega
   | false =>
    rw [qq] at LI
    have E:=zaa (show zcb ws ps = false by rw [E2.out,H3.out qq]; rfl)
    clear H2 H3 qq
    go_wp2_with fail
    refine (LI.out _).mono ?_
    rintro e w1 ⟨rfl,hb1⟩
    have B3:=zaa (zab HF.out hb1 HF.out.size)
    clear hb1 d0 d1 d2 d3 d4 d5 d6 d7 d8 d9 d10 x0 x1
    go_wp2
    go_ret
    exact ⟨zag E.out.symm,B3.out⟩
  ·have O:=zaa (yaft (fun j h => H.out.2 j h (by omega)))
   have E3:=zaa (show zcb ws ps = (zim ws ps && (zgg ws ps && zja ws)) by rw [E2.out,O.out]; rfl)
   clear H
   generalize zim ws ps = f1 at *
   generalize zgg ws ps = f2 at *
   generalize zja ws = f3 at *
   go_wp2_with fail
   refine (L2.out _ (HRD.out.below HF.out) C1.out).mono ?_
   rintro e w1 ⟨rfl,hb1⟩
   have B1:=zaa (zab HF.out hb1 HF.out.size)
   have BA:=zaa (zab H1.out hb1 H1.out.size)
   clear hb1 x0 x1
   cases f1 with
   | false =>
    go_wp2
    go_ret
    exact ⟨zag (by rw [E3.out]; rfl),B1.out⟩
   | true =>
   obtain ⟨x0,x1⟩:=CA.out _ BA.out
   go_wp2_with fail
   refine (L1.out _ (HRD.out.below B1.out)).mono ?_
   rintro e w2 ⟨rfl,hb2⟩
   have B2:=zaa (zab B1.out hb2 B1.out.size)
   have BB:=zaa (zab BA.out hb2 BA.out.size)
   clear hb2 x0 x1
   cases f2 with
   | false =>
    go_wp2
    go_ret
    exact ⟨zag (by rw [E3.out]; rfl),B2.out⟩
   | true =>
   obtain ⟨x0,x1⟩:=CA.out _ BB.out
   go_wp2_with fail
   refine (L3.out _ (HRD.out.below B2.out) C1.out O.out).mono ?_
   rintro e w3 ⟨rfl,hb3⟩
   have B3:=zaa (zab B2.out hb3 B2.out.size)
   clear hb3 x0 x1
   go_wp2
   go_ret
   exact ⟨zag (by rw [E3.out]; rfl),B3.out⟩
def zgj (ps:List Den):Nat → Int → Int → Bool
 | 0,_,_ => false
 | n + 1,a,b => if a < 0 then false else if a = b then true else zgj ps n (upD ps a) b
theorem zdi (ps:List Den) (n:Nat) (a b:Int):zgj ps (n + 1) a b = if a < 0 then false else if a = b then true else zgj ps n (upD ps a) b:=rfl
theorem zkr (ps:List Den):∀ (n:Nat) (a b:Int),a < 0 → zgj ps n a b = false
 | 0,_,_,_ => rfl
 | n + 1,a,b,h => by rw [zdi,if_pos h]
theorem zdz (ps:List Den) (n:Nat) (d:Int):zcr ps (n + 1) d = if d = 0 then true else if upD ps d < 0 then false else zcr ps n (upD ps d):=rfl
theorem zfd (ps:List Den) (d:Int):zcr ps 0 d = false:=rfl
theorem zqb {ps:List Den}:∀ (k:Nat) (x:Int),zcr ps k x = true → zcr ps (k + 1) x = true
 | 0,x,h => by rw [zfd] at h; cases h
 | k + 1,x,h => by
  rw [zdz] at h ⊢
  by_cases q:x = 0
  ·rw [if_pos q]
  ·rw [if_neg q] at h ⊢
   by_cases r:upD ps x < 0
   ·rw [if_pos r] at h; cases h
   ·rw [if_neg r] at h ⊢; exact zqb k _ h
theorem zsh {ps:List Den} (u0:upD ps 0 = -1):∀ (k n:Nat) (a b:Int),zcr ps k a = true → 0 ≤ a → k ≤ n → zgj ps n a b = zgj ps k a b
 | 0,_,_,_,h,_,_ => by rw [zfd] at h; cases h
 | k + 1,0,_,_,_,_,hn => absurd hn (by omega)
 | k + 1,n + 1,a,b,h,ha,hn => by
  have n0:¬ a < 0:=by omega
  rw [zdi,zdi,if_neg n0,if_neg n0]
  by_cases q:a = b
  ·rw [if_pos q,if_pos q]
  ·rw [if_neg q,if_neg q]
   rw [zdz] at h
   by_cases r:a = 0
   ·subst r
    rw [u0,zkr ps n (-1) b (by omega),zkr ps k (-1) b (by omega)]
   ·rw [if_neg r] at h
    by_cases s:upD ps a < 0
    ·rw [if_pos s] at h; cases h
    ·rw [if_neg s] at h
     exact zsh u0 k n _ _ h (by omega) (by omega)
theorem zgh {ps:List Den} {k:Nat} {x:Int} (h:zcr ps (k + 1) x = true) (q:¬ x = 0):0 ≤ upD ps x ∧ zcr ps k (upD ps x) = true:=by
 rw [zdz,if_neg q] at h
 by_cases r:upD ps x < 0
 ·rw [if_pos r] at h; cases h
 ·rw [if_neg r] at h; exact ⟨by omega,h⟩
theorem zat {ws:List Ino} {ps:List Den} (h:zcb ws ps = true):ws.length = 16 ∧ ps.length = 24 ∧ zai ws 0 = 2 ∧ zwt ws = true ∧ zim ws ps = true ∧ zgg ws ps = true ∧ zja ws = true:=by
 unfold zcb at h
 simp only [Bool.and_eq_true,decide_eq_true_eq,beq_iff_eq] at h
 exact h
theorem zfq {ws:List Ino} {ps:List Den} (h:zcb ws ps = true) (i:Nat) (hi:i < ps.length):(ps[i].child = -1 ∧ ps[i].name.size = 0) ∨ ((1 ≤ ps[i].child ∧ ps[i].child ≤ 15) ∧ (0 ≤ ps[i].dir ∧ ps[i].dir ≤ 15) ∧ nmB ps[i].name = true ∧ ¬ zai ws ps[i].child = 0 ∧ zai ws ps[i].dir = 2):=by
 obtain ⟨_,_,_,_,he,_,_⟩:=zat h
 have e:=(of_decide_eq_true he:∀ i (h:i < ps.length),zcv ws ps i ps[i] = true) i hi
 unfold zcv at e
 split at e
 ·rename_i c
  left
  refine ⟨c,?_⟩
  unfold Den.freeB at e
  simp only [Bool.and_eq_true,beq_iff_eq] at e
  have:=e.2.1
  first
   | exact this
   | simpa using this
   | (simp at this; rw [this]; rfl)
 ·right
  simp only [Bool.and_eq_true,decide_eq_true_eq,Bool.not_eq_true',beq_eq_false_iff_ne,beq_iff_eq] at e
  exact ⟨e.1,e.2.1,e.2.2.1,e.2.2.2.1,e.2.2.2.2.1⟩
theorem yake {ws:List Ino} {ps:List Den} (h:zcb ws ps = true):upD ps 0 = -1:=by
 apply zzy
 intro j hj e
 rcases zfq h j hj with q | q
 ·omega
 ·omega
theorem yadb {ws:List Ino} {ps:List Den} (h:zcb ws ps = true) {i:Int} (h0:0 ≤ i ∧ i ≤ 15) (hk:zai ws i = 2):zcr ps 16 i = true:=by
 obtain ⟨hl,_,_,_,_,hL,_⟩:=zat h
 obtain ⟨n,rfl⟩:∃ n:Nat,i = (n:Int):=⟨i.toNat,by omega⟩
 have hn:n < ws.length:=by omega
 have:=(of_decide_eq_true hL:∀ i (h:i < ws.length),zgm ps i ws[i] = true) n hn
 unfold zgm at this
 rw [zbn hn] at hk
 simp only [Bool.and_eq_true,Bool.or_eq_true,decide_eq_true_eq] at this
 rcases this.2 with q | q
 ·exact absurd hk q
 ·exact q
def beC (ws:List Ino) (ps:List Den) (a b:Int):Int:=if zcb ws ps = true then (if (0 ≤ a ∧ a ≤ 15) ∧ (0 ≤ b ∧ b ≤ 15) then (if zai ws a = 2 ∧ zai ws b = 2 then 0 else 10) else 4) else 1
def beV (ws:List Ino) (ps:List Den) (a b:Int):Bool:=if beC ws ps a b = 0 then zgj ps 17 a b else false
def zep (ss:List ByteArray):List Value:=ss.map Value.string
theorem zrv (ss:List ByteArray):(zep ss).length = ss.length:=by simp [zep]
theorem zsy (ss:List ByteArray) (k:Nat) (h:k < ss.length):(zep ss)[k]? = some (.string ss[k]):=by simp [zep,h]
theorem zbj (ss:List ByteArray):∀ u ∈ zep ss,u.oneCell' = true:=by
 intro u hu
 simp only [zep,List.mem_map] at hu
 obtain ⟨s,_,rfl⟩:=hu
 rfl
def RdT (w:World) (v:Value) (ss:List ByteArray):Prop:=Rd w 1 v ss.length (zep ss)
theorem RdT.shape {w:World} {v:Value} {ss:List ByteArray} (h:RdT w v ss):∃ ao cap,v = .slice ao ss.length cap ∧ ss.length ≤ cap ∧ (0 < ss.length → ∃ b o,ao = some ⟨b,o,none⟩ ∧ b < w.heap.size ∧ ∀ k (h:k < ss.length),w.cell? ⟨b,o + k,none⟩ = some (.string ss[k])):=by
 obtain ⟨_,ao,cap,rfl,h2,h3⟩:=h
 refine ⟨ao,cap,rfl,h2.1,fun hn => ?_⟩
 obtain ⟨b,o,e,hb,hc⟩:=h3 hn
 exact ⟨b,o,e,hb,fun k hk => (hc k (by omega)).trans (zsy ss k hk)⟩
theorem zff:(Tryz.prog.info? 9).map (fun i => (i.zero,i.size,i.bytes)) = some (some (.string ⟨#[]⟩),1,16):=by kernel_rfl
theorem zio (w1:World) (x:ByteArray):Rd (w1.alloc (.cells #[.string x] 9)) 1 (.slice (some ⟨w1.heap.size,0,none⟩) 1 1) 1 (zep [x]):=by
 refine ⟨rfl,_,_,rfl,⟨Nat.le_refl _,fun e => by cases e⟩,fun _ => ⟨w1.heap.size,0,rfl,by simp,fun j hj => ?_⟩⟩
 obtain rfl:j = 0:=by omega
 exact (zao (xs:=[.string x]) (zah rfl) 0).1
theorem zjf {B:Nat} {a w:World} (h:Below B a w) (n:Nat):Below B a (w.drewN n):=by
 induction n with
 | zero => exact h
 | succ n ih => exact ⟨ih.os,ih.tape,ih.output,ih.size,ih.block⟩
structure SnI (W w:World) (vL:Value) (ss:List ByteArray):Prop where
 l:w.ownsRow W.heap.size 9 1 vL ss.length (zep ss)
 b:Below W.heap.size W w
theorem SnI.z {W w:World} {vL:Value} {ss:List ByteArray} (h:SnI W w vL ss):W.heap.size ≤ w.heap.size:=h.b.size
theorem SnI.below {W w w':World} {vL:Value} {ss:List ByteArray} (h:SnI W w vL ss) (hb:Below w.heap.size w w'):SnI W w' vL ss :=
 ⟨((zad h.l).below hb (Nat.le_refl _)).1,zab h.b hb h.z⟩
theorem yalz (l l':List ByteArray):zep (l ++ l') = zep l ++ zep l':=by simp [zep]
theorem SnI.grow {W w w':World} {vL v':Value} {ss:List ByteArray} (h:SnI W w vL ss) (l:List ByteArray) {m:Nat} (hm:m = l.length) (ho:w'.ownsRow W.heap.size 9 1 v' (ss.length + m) (zep ss ++ zep l)) (hg:w.grownBy w' vL.ownBlock):SnI W w' v' (ss ++ l) :=
 ⟨by rw [yalz,List.length_append,← hm]; exact ho,h.b.grown hg h.z (fun q hq => (h.l.lt q hq).1)⟩
theorem SnI.rd {W w:World} {vL:Value} {ss:List ByteArray} (h:SnI W w vL ss):RdT w vL ss:=(zad h.l).rd
theorem SnI.form {W w:World} {vL:Value} {ss:List ByteArray} (h:SnI W w vL ss) (hn:vL ≠ .slice none 0 0):∃ b c,vL = .slice (some ⟨b,0,none⟩) ss.length c ∧ ss.length ≤ c ∧ W.heap.size ≤ b ∧ b < w.heap.size:=by
 rcases (zad h.l).shape with ⟨e,_⟩ | ⟨b,c,rfl,hc,_⟩
 ·exact absurd e hn
 ·obtain ⟨_,h1,_,h2,_⟩:=(zad h.l).at
  exact ⟨b,c,rfl,hc,h1,h2⟩
theorem SnI.some_ {W w:World} {vL:Value} {ss:List ByteArray} (h:SnI W w vL ss) (hn:0 < ss.length):vL ≠ .slice none 0 0:=by
 rcases (zad h.l).shape with ⟨_,e,_⟩ | ⟨b,c,rfl,_⟩
 ·omega
 ·intro e; cases e
theorem zmp {w:World} {ao:Option Addr} {n c:Nat} {l:List ByteArray} {m:Nat} (h:RdT w (.slice ao n c) l) (hm:m ≤ l.length):Rd w 1 (.slice ao m c) m (zep (l.take m)):=by
 obtain ⟨_,ao',cap,e,h2,h3⟩:=h
 injection e with e1 e2 e3
 subst e1 e2 e3
 have hl:(l.take m).length = m:=by rw [List.length_take]; omega
 refine ⟨by rw [zrv,hl,Nat.mul_one],ao,c,rfl,⟨by omega,h2.2⟩,fun hp => ?_⟩
 obtain ⟨b,o,rfl,hb,hcl⟩:=h3 (by omega)
 refine ⟨b,o,rfl,hb,fun j hj => ?_⟩
 rw [hcl j (by omega),zsy _ _ (by omega),zsy _ _ (by omega),List.getElem_take]
theorem zsp {w:World} {b o n c:Nat} {l:List ByteArray} {m:Nat} (h:RdT w (.slice (some ⟨b,o,none⟩) n c) l) (hm:m ≤ l.length):Rd w 1 (.slice (some ⟨b,o + m,none⟩) (n - m) (c - m)) (n - m) (zep (l.drop m)):=by
 obtain ⟨ao,cap,e,hc,hcell⟩:=h.shape
 injection e with e1 e2 e3
 subst e1 e2 e3
 refine ⟨by rw [zrv,Nat.mul_one,List.length_drop],some ⟨b,o + m,none⟩,c - m,rfl,⟨by omega,fun e => by cases e⟩,fun hp => ?_⟩
 obtain ⟨b',o',e',hb,hcl⟩:=hcell (by omega)
 cases e'
 refine ⟨b,o + m,rfl,hb,fun j hj => ?_⟩
 rw [zsy _ j (by rw [List.length_drop]; omega),List.getElem_drop]
 have:=hcl (m + j) (by omega)
 rw [← Nat.add_assoc] at this
 exact this
theorem yaad {w:World} {a:Addr} {c:Nat} {l:List ByteArray} {m:Nat} (hm:m = l.length):Rd w 1 (.slice (some a) 0 c) 0 (zep (l.drop m)) :=
 ⟨by rw [zrv,List.length_drop]; omega,some a,c,rfl,⟨Nat.zero_le _,fun e => by cases e⟩,fun h => absurd h (by omega)⟩
def Ord (ss:List ByteArray):Prop:=ss.Pairwise fun a b => a.toList ≤ b.toList
theorem yahi {ss:List ByteArray} {x:ByteArray} {k:Nat} (hk:k ≤ ss.length) (h:Ord ss) (h1:∀ i (h:i < ss.length),k ≤ i → x.toList < ss[i].toList) (h2:∀ i (h:i < ss.length),i + 1 = k → ss[i].toList ≤ x.toList):Ord (ss.take k ++ [x] ++ ss.drop k):=by
 have ht:∀ a ∈ ss.take k,a.toList ≤ x.toList:=by
  intro a ha
  obtain ⟨i,hi,rfl⟩:=List.mem_take_iff_getElem.1 ha
  have hi:=Nat.lt_min.1 hi
  by_cases e:i + 1 = k
  ·exact h2 i hi.2 e
  ·have h3:=h2 (k - 1) (by omega) (by omega)
   exact List.le_trans (List.pairwise_iff_getElem.1 h i (k - 1) hi.2 (by omega) (by omega)) h3
 have hd:∀ a ∈ ss.drop k,x.toList ≤ a.toList:=by
  intro a ha
  obtain ⟨i,hi,rfl⟩:=List.getElem_of_mem ha
  rw [List.length_drop] at hi
  rw [List.getElem_drop]
  exact List.le_of_lt (h1 (k + i) (by omega) (by omega))
 unfold Ord at h ⊢
 rw [List.append_assoc,List.pairwise_append]
 have h':=h
 rw [← List.take_append_drop k ss,List.pairwise_append] at h'
 refine ⟨h'.1,List.pairwise_append.2 ⟨List.pairwise_singleton _ _,h'.2.1,fun a ha b hb => ?_⟩,fun a ha b hb => ?_⟩
 ·rw [List.mem_singleton.1 ha]; exact hd b hb
 ·rcases List.mem_append.1 hb with hb | hb
  ·rw [List.mem_singleton.1 hb]; exact ht a ha
  ·exact h'.2.2 a ha b hb
theorem yabk (ss:List ByteArray) (x:ByteArray) (k:Nat):(ss.take k ++ [x] ++ ss.drop k).Perm (ss ++ [x]):=by
 rw [List.append_assoc]
 refine List.Perm.trans (List.Perm.append_left _ List.perm_append_comm) ?_
 rw [← List.append_assoc,List.take_append_drop]
def zbt (ps:List Den) (d:Int):List ByteArray:=(ps.filter fun x => decide (¬ x.child < 0 ∧ x.dir = d)).map Den.name
theorem yacm {ps:List Den} {d:Int} {k:Nat} (h:k < ps.length):zbt (ps.take (k + 1)) d = if ¬ ps[k].child < 0 ∧ ps[k].dir = d then zbt (ps.take k) d ++ [ps[k].name] else zbt (ps.take k) d:=by
 unfold zbt
 rw [List.take_succ_eq_append_getElem h,List.filter_append,List.map_append]
 by_cases c:¬ ps[k].child < 0 ∧ ps[k].dir = d
 ·rw [if_pos c]
  simp only [List.filter_cons,decide_eq_true c,if_true,List.filter_nil,List.map_cons,List.map_nil]
 ·rw [if_neg c]
  simp only [List.filter_cons,decide_eq_false c,List.filter_nil]
  simp
def zfr (ss:List ByteArray):List ByteArray:=((ss.map fun s => s.data.toList).mergeSort fun x y => decide (x ≤ y)).map fun l => ⟨l.toArray⟩
theorem zqk (ss:List ByteArray):(zfr ss).length = ss.length:=by unfold zfr; rw [List.length_map,List.length_mergeSort,List.length_map]
theorem yacv {ss l:List ByteArray} (h:Ord ss) (hp:ss.Perm l):ss = zfr l:=by
 have tr:∀ a b c:List UInt8,decide (a ≤ b) = true → decide (b ≤ c) = true → decide (a ≤ c) = true:=fun a b c h1 h2 => by simp only [decide_eq_true_eq] at *; exact List.le_trans h1 h2
 have tot:∀ a b:List UInt8,(decide (a ≤ b) || decide (b ≤ a)) = true:=fun a b => by simp only [Bool.or_eq_true,decide_eq_true_eq]; exact List.le_total a b
 have e:ss.map (fun s => s.data.toList) = (l.map fun s => s.data.toList).mergeSort fun x y => decide (x ≤ y):=by
  refine List.Perm.eq_of_pairwise (le:=fun a b => decide (a ≤ b) = true) (fun a b _ _ h1 h2 => ?_) ?_ (List.pairwise_mergeSort tr tot _) ((hp.map _).trans (List.mergeSort_perm _ _).symm)
  ·simp only [decide_eq_true_eq] at h1 h2
   exact List.le_antisymm h1 h2
  ·rw [List.pairwise_map]
   refine List.Pairwise.imp (fun {a b} h => ?_) h
   rw [Lib.toList_data,Lib.toList_data] at h
   exact decide_eq_true h
 unfold zfr
 rw [← e,List.map_map]
 rw [show ((fun l:List UInt8 => (⟨l.toArray⟩:ByteArray)) ∘ fun s:ByteArray => s.data.toList) = id from funext fun s => by simp]
 simp
def mkB (l:List UInt8):ByteArray:=⟨l.toArray⟩
theorem zia (l:List UInt8):(mkB l).data.toList = l:=by simp [mkB]
theorem yajl (s:ByteArray):mkB s.data.toList = s:=by
 obtain ⟨⟨l⟩⟩:=s
 rfl
theorem zkl {a b:ByteArray} (h:a.data.toList = b.data.toList):a = b:=by rw [← yajl a,← yajl b,h]
theorem zpk (s:ByteArray) (a b:Nat):mkB ((s.data.toList.take b).drop a) = s.extract a b:=by
 apply zkl
 rw [zia,Lib.extract_data,List.drop_take]
def zji (cur:List UInt8):List UInt8 → List (List UInt8)
 | [] => [cur]
 | c :: l => if c = 47 then cur :: zji [] l else zji (cur ++ [c]) l
theorem zkq (cur:List UInt8):zji cur [] = [cur]:=rfl
theorem zde (cur:List UInt8) (c:UInt8) (l:List UInt8):zji cur (c :: l) = if c = 47 then cur :: zji [] l else zji (cur ++ [c]) l:=rfl
theorem zua:∀ (l cur:List UInt8),(∀ c ∈ l,¬ c = 47) → zji cur l = [cur ++ l]
 | [],cur,_ => by rw [zkq,List.append_nil]
 | c :: l,cur,h => by
  rw [zde,if_neg (h c (List.mem_cons_self ..)),zua l _ (fun x hx => h x (List.mem_cons_of_mem _ hx)),List.append_assoc]
  rfl
theorem zvh:∀ (l cur r:List UInt8),(∀ c ∈ l,¬ c = 47) → zji cur (l ++ 47 :: r) = (cur ++ l) :: zji [] r
 | [],cur,r,_ => by rw [List.nil_append,zde,if_pos rfl,List.append_nil]
 | c :: l,cur,r,h => by
  rw [List.cons_append,zde,if_neg (h c (List.mem_cons_self ..)),zvh l _ r (fun x hx => h x (List.mem_cons_of_mem _ hx)),List.append_assoc]
  rfl
theorem znx:∀ (l cur:List UInt8),∃ x r,zji cur l = (cur ++ x) :: r
 | [],cur => ⟨[],[],by rw [zkq,List.append_nil]⟩
 | c :: l,cur => by
  rw [zde]
  by_cases h:c = 47
  ·rw [if_pos h]; exact ⟨[],_,by rw [List.append_nil]⟩
  ·rw [if_neg h]
   obtain ⟨x,r,e⟩:=znx l (cur ++ [c])
   exact ⟨c :: x,r,by rw [e,List.append_assoc]; rfl⟩
theorem ztk:∀ (l cur:List UInt8),(zji cur l).length ≤ l.length + 1
 | [],cur => by rw [zkq]; simp
 | c :: l,cur => by
  rw [zde]
  split
  ·have:=ztk l []
   simp only [List.length_cons]; omega
  ·have:=ztk l (cur ++ [c])
   simp only [List.length_cons]; omega
theorem yanc (l cur:List UInt8):1 ≤ (zji cur l).length:=by
 obtain ⟨x,r,e⟩:=znx l cur
 rw [e]; simp
theorem zrq:∀ (l cur x:List UInt8),x ∈ zji cur l → x.length ≤ cur.length + l.length
 | [],cur,x,h => by rw [zkq,List.mem_singleton] at h; rw [h]; simp
 | c :: l,cur,x,h => by
  rw [zde] at h
  split at h
  ·rcases List.mem_cons.1 h with rfl | h
   ·simp
   ·have:=zrq l [] x h
    simp only [List.length_nil,List.length_cons] at *
    omega
  ·have:=zrq l (cur ++ [c]) x h
   simp only [List.length_append,List.length_cons,List.length_nil] at *
   omega
theorem zrc:∀ (k:Nat) (l:List UInt8),Lib.count l [47] = k → Lib.splitK [47] 0 k l = zji [] l
 | 0,l,h => by
  show [l] = _
  rw [Lib.count_one] at h
  rw [zua l [] (fun c hc e => by subst e; have:=List.count_pos_iff.2 hc; omega),List.nil_append]
 | k + 1,l,h => by
  have hm:(47:UInt8) ∈ l:=by
   rw [Lib.count_one] at h
   exact List.count_pos_iff.1 (by omega)
  have hge:=Lib.indexByte_ge l 47
  have hi:Lib.index l [47] = Lib.indexByte l 47:=Lib.index_one l 47
  have hne:¬ Lib.indexByte l 47 = -1:=fun e => by
   obtain ⟨j,hj,e2⟩:=List.getElem_of_mem hm
   exact Lib.indexByte_none e j (by rw [List.getElem?_eq_getElem hj,e2])
  obtain ⟨o,ho⟩:∃ o:Nat,Lib.indexByte l 47 = (o:Int):=⟨(Lib.indexByte l 47).toNat,by omega⟩
  obtain ⟨h1,h2⟩:=Lib.indexByte_some ho
  have hol:o < l.length:=(List.getElem?_eq_some_iff.1 h1).1
  have e0:l = l.take o ++ 47 :: l.drop (o + 1):=by
   have hd:l.drop o = 47 :: l.drop (o + 1):=by
    rw [List.drop_eq_getElem_cons hol,(List.getElem?_eq_some_iff.1 h1).2]
   rw [← hd,List.take_append_drop]
  have hno:∀ c ∈ l.take o,¬ c = 47:=fun c hc e => by
   subst e
   obtain ⟨j,hj,e2⟩:=List.mem_take_iff_getElem.1 hc
   have hj:=Nat.lt_min.1 hj
   exact h2 j hj.1 (by rw [List.getElem?_eq_getElem hj.2,e2])
  unfold Lib.splitK
  rw [hi,ho,if_neg (by simp),Int.toNat_natCast,Nat.add_zero]
  show l.take o :: Lib.splitK [47] 0 k (l.drop (o + 1)) = zji [] l
  have hc:Lib.count (l.drop (o + 1)) [47] = k:=by
   rw [Lib.count_one] at h ⊢
   have hz:(l.take o).count 47 = 0:=List.count_eq_zero.2 (fun hx => hno 47 hx rfl)
   rw [e0,List.count_append,hz,List.count_cons_self] at h
   omega
  rw [zrc k _ hc]
  conv => rhs; rw [e0]
  rw [zvh _ _ _ hno,List.nil_append]
def pcs (s:ByteArray):List ByteArray:=(zji [] s.data.toList).map mkB
theorem zvw (s:ByteArray):Lib.splitB ⟨#[47]⟩ 0 (Lib.countB s ⟨#[47]⟩) s = pcs s:=by
 have h:=Lib.splitB_data ⟨#[47]⟩ 0 (Lib.countB s ⟨#[47]⟩) s
 have h2:=zrc (Lib.countB s ⟨#[47]⟩) s.data.toList rfl
 unfold pcs
 rw [← h2]
 have h3:Lib.splitK [47] 0 (Lib.countB s ⟨#[47]⟩) s.data.toList = (Lib.splitB ⟨#[47]⟩ 0 (Lib.countB s ⟨#[47]⟩) s).map (·.data.toList):=h.symm
 rw [h3,List.map_map]
 have:(mkB ∘ fun x:ByteArray => x.data.toList) = id:=funext fun x => yajl x
 rw [this,List.map_id]
theorem yakz (s:ByteArray):(pcs s).length ≤ s.size + 1:=by
 unfold pcs
 rw [List.length_map,Lib.size_eq]
 exact ztk _ _
theorem yaeg (s:ByteArray):1 ≤ (pcs s).length:=by unfold pcs; rw [List.length_map]; exact yanc _ _
theorem yaaw (s:ByteArray):∀ k (h:k < (pcs s).length),(pcs s)[k].size ≤ s.size:=by
 intro k hk
 have hm:(pcs s)[k] ∈ (zji [] s.data.toList).map mkB:=List.getElem_mem hk
 obtain ⟨x,hx,e⟩:=List.mem_map.1 hm
 have:=zrq _ _ _ hx
 rw [← e,Lib.size_eq,zia,Lib.size_eq]
 simpa using this
theorem yagf (s:ByteArray):Lib.countB s ⟨#[47]⟩ + 1 = (pcs s).length:=by
 rw [← zvw,Lib.splitB_all ⟨#[47]⟩ (by decide) 0 _ s rfl]
theorem yagj {s:ByteArray} {l:List UInt8} (h:s.data.toList = 47 :: l):pcs s = mkB [] :: pcs (mkB l):=by
 unfold pcs
 rw [h,zde,if_pos rfl,zia]
 rfl
theorem yaed {s:ByteArray} {c:UInt8} {l:List UInt8} (h:s.data.toList = c :: l) (hc:¬ c = 47):∃ x r,pcs s = x :: r ∧ ¬ x.size = 0:=by
 unfold pcs
 rw [h,zde,if_neg hc,List.nil_append]
 obtain ⟨x,r,e⟩:=znx l [c]
 refine ⟨mkB ([c] ++ x),r.map mkB,by rw [e]; rfl,?_⟩
 rw [Lib.size_eq,zia]; simp
theorem yamc {s:ByteArray} (h:s.data.toList = []):pcs s = [mkB []]:=by
 unfold pcs
 rw [h]
 rfl
theorem yaep (s:ByteArray) (k:Nat) (h:k < s.size):s.data.toList[k]'(by rw [← Lib.size_eq]; exact h) = s[k]:=by
 rw [Array.getElem_toList]
 rfl
theorem yaim (c:UInt8):((c.toNat:Int) == 47) = decide (c = 47):=by
 by_cases h:c = 47
 ·subst h; rfl
 ·rw [decide_eq_false h,beq_eq_false_iff_ne]
  intro e
  apply h
  apply UInt8.toNat_inj.1
  show c.toNat = 47
  omega
theorem yajk (l:List UInt8):zji [] l = [] ++ zji ((l.take 0).drop 0) (l.drop 0):=by simp
theorem yaru {l:List UInt8} {ds:List (List UInt8)} {k f:Nat} (hk:k < l.length) (h:zji [] l = ds ++ zji ((l.take k).drop f) (l.drop k)) (hc:l[k] = 47) :
  zji [] l = (ds ++ [(l.take k).drop f]) ++ zji ((l.take (k + 1)).drop (k + 1)) (l.drop (k + 1)):=by
 rw [List.drop_eq_getElem_cons hk,zde,if_pos hc] at h
 rw [h,List.append_assoc,List.drop_of_length_le (l:=l.take (k + 1)) (by rw [List.length_take]; omega)]
 rfl
theorem yaus {l:List UInt8} {ds:List (List UInt8)} {k f:Nat} (hk:k < l.length) (hf:f ≤ k) (h:zji [] l = ds ++ zji ((l.take k).drop f) (l.drop k)) (hc:¬ l[k] = 47) :
  zji [] l = ds ++ zji ((l.take (k + 1)).drop f) (l.drop (k + 1)):=by
 rw [List.drop_eq_getElem_cons hk,zde,if_neg hc] at h
 rw [h,List.take_succ_eq_append_getElem hk,List.drop_append_of_le_length (by rw [List.length_take]; omega)]
theorem yarx {s:ByteArray} {ds:List (List UInt8)} {f:Nat} (h:zji [] s.data.toList = ds ++ zji ((s.data.toList.take s.size).drop f) (s.data.toList.drop s.size)):pcs s = ds.map mkB ++ [s.extract f s.size]:=by
 unfold pcs
 rw [h,List.drop_of_length_le (l:=s.data.toList) (by rw [← Lib.size_eq]; exact Nat.le_refl _),zkq,List.map_append]
 show ds.map mkB ++ [mkB _] = _
 rw [zpk]
set_option maxRecDepth 100000 in
set_option maxHeartbeats 4000000 in
theorem yadl (s:ByteArray) (w:World) (hs:s.size ≤ 65536) :
  Calls Tryz.prog 154 #[.string s,.int .u8 47] w fun e w' => ∃ v',e = .returned v' ∧ Row w' 9 1 w.heap.size w'.heap.size v' (pcs s).length (zep (pcs s)) ∧ Below w.heap.size w w':=by
 have START:Hid (SnI w (w.alloc (.cells #[] 9)) (.slice (some ⟨w.heap.size,0,none⟩) 0 0) []):=⟨World.ownsRow_lit w #[] 0 (Nat.le_refl _) (by simp [maxLen]) (by simp),(Below.refl _ _).alloc (Nat.le_refl _) _⟩
 have HL:=zaa (Lib.size_eq s)
 go_enter Tryz.func154,Tryz.ntmps154
 go_wp2
 go_loopg [5,6,7] s.size (fun g vL fr i wr => ∃ (k f:Nat) (ds:List (List UInt8)),k + g = s.size ∧ f ≤ k ∧ fr = .int .i64 f ∧ i = .int .i64 k ∧ vL ≠ .slice none 0 0 ∧ ds.length ≤ k ∧ Hid (SnI w wr vL (ds.map mkB) ∧ zji [] s.data.toList = ds ++ zji ((s.data.toList.take k).drop f) (s.data.toList.drop k)))
 case atStart => exact ⟨0,0,[],by omega,by omega,rfl,rfl,(fun e => by cases e),Nat.le_refl _,START.out,yajk _⟩
 case round =>
  obtain ⟨k,f,ds,hkg,hf,rfl,rfl,hv,hd,I⟩:=hrel
  clear START
  have k0:(0:Int) ≤ (k:Int):=by omega
  have f0:(0:Int) ≤ (f:Int):=by omega
  have fk:(f:Int) ≤ (k:Int):=by omega
  have DL:(ds.map mkB).length = ds.length:=List.length_map ..
  by_cases hlt:k < s.size
  ·have k1:(k:Int) < (s.size:Int):=by omega
   have k2:(k:Int) ≤ (s.size:Int):=by omega
   have hkl:k < s.data.toList.length:=by rw [← HL.out]; exact hlt
   by_cases c:s[k] = 47
   ·have q:((s[k].toNat:Int) == 47) = true:=by rw [yaim,decide_eq_true c]
    have N:=zaa (yaru hkl I.out.2 (by rw [yaep s k hlt]; exact c))
    have MN:Hid ((ds ++ [(s.data.toList.take k).drop f]).map mkB = ds.map mkB ++ [s.extract f k]):=by unfold Hid; rw [List.map_append,← zpk]; rfl
    have JB:Hid (SnI w (wr.alloc (.cells #[.string (s.extract f k)] 9)) u5 (ds.map mkB)):=I.out.1.below ((Below.refl _ _).alloc (Nat.le_refl _) _)
    have RB:=zaa (zio wr (s.extract f k))
    have hzb:=JB.out.z
    simp only [World.size_alloc] at hzb
    clear I c
    go_wp2_with (at_builtin; refine zae _ rfl (.tmp 20) (.tmp 25) 33 rfl w.heap.size 9 (.string ⟨#[]⟩) 1 16 Tryz.underlying33 zff rfl (by decide) _ _ _ rfl JB.out.l _ 1 _ rfl RB.out (zbj _) (by simp [maxLen]; omega) (by simp; omega) JB.out.z ?_)
    intro vN wN hownN hgrN
    have G:=zaa (JB.out.grow [s.extract f k] rfl (by rw [List.length_map]; exact hownN) hgrN)
    rw [← MN.out] at G
    have hv2:=zaa (G.out.some_ (by simp))
    clear hownN hgrN JB RB q MN hv
    go_wp2
    go_roundg (s.size - (k + 1))
    case measure => omega
    case rel => exact ⟨k + 1,k + 1,ds ++ [(s.data.toList.take k).drop f],by omega,Nat.le_refl _,by go_num,by go_num,hv2.out,by simp; omega,G.out,N.out⟩
   ·have q:((s[k].toNat:Int) == 47) = false:=by rw [yaim,decide_eq_false c]
    have N:=zaa (yaus hkl hf I.out.2 (by rw [yaep s k hlt]; exact c))
    have I1:=zaa I.out.1
    have HV:=zaa hv
    clear I c DL hv
    go_wp2
    go_roundg (s.size - (k + 1))
    case measure => omega
    case rel => exact ⟨k + 1,f,ds,by omega,by omega,rfl,by go_num,HV.out,by omega,I1.out,N.out⟩
  ·obtain rfl:k = s.size:=by omega
   have MN:=zaa (yarx I.out.2)
   have JB:Hid (SnI w (wr.alloc (.cells #[.string (s.extract f s.size)] 9)) u5 (ds.map mkB)):=I.out.1.below ((Below.refl _ _).alloc (Nat.le_refl _) _)
   have RB:=zaa (zio wr (s.extract f s.size))
   have hzb:=JB.out.z
   simp only [World.size_alloc] at hzb
   clear I
   go_wp2_with (at_builtin; refine zae _ rfl (.tmp 29) (.tmp 33) 33 rfl w.heap.size 9 (.string ⟨#[]⟩) 1 16 Tryz.underlying33 zff rfl (by decide) _ _ _ rfl JB.out.l _ 1 _ rfl RB.out (zbj _) (by simp [maxLen]; omega) (by simp; omega) JB.out.z ?_)
   intro vN wN hownN hgrN
   have G:=zaa (JB.out.grow [s.extract f s.size] rfl (by rw [List.length_map]; exact hownN) hgrN)
   rw [← MN.out] at G
   clear hownN hgrN JB RB MN hv
   go_wp2
   go_ret
   exact ⟨_,rfl,zad G.out.l,G.out.b⟩
end Go.Proofs.YtkdjfhkalelafaaGreatDoor
