/- Several texts laid together: PiN, PiO, ImO. -/
import Derived.Test.YtkdjfhkalelafaaGreatDoorZAG
import Derived.Test.YtkdjfhkalelafaaGreatDoorZAF
namespace Go.Proofs.YtkdjfhkalelafaaGreatDoor
open Go.RowKit
def sixC (f:Int → Int):List Value:=(List.range 16).map fun (j:Nat) => .int .i64 (f (j:Int))
theorem znm (f:Int → Int) (j:Nat) (h:j < 16):(sixC f)[j]? = some (.int .i64 (f (j:Int))):=by
 unfold sixC
 rw [List.getElem?_map,List.getElem?_range h]
 rfl
theorem yage (f:Int → Int) (n:Nat) (i:Int):zdd f (n + 1) i = f (zdd f n i):=by
 rw [zey f n 1 i]; rfl
set_option maxRecDepth 100000 in
set_option maxHeartbeats 4000000 in
theorem zoa (f:Int → Int) (i:Int) (w:World) (hr:∀ n,0 ≤ zdd f n i ∧ zdd f n i ≤ 15) :
  Calls Tryz.prog 112 #[.agg (sixC f).toArray,.int .i64 i] w fun e w' => e = .returned (.bool (zdd f 16 i == 0)) ∧ Below w.heap.size w w':=by
 have HR:=zaa hr
 have C0:Hid (∀ j,j < 16 → (w.alloc (.cells (sixC f).toArray 165)).cell? ⟨w.heap.size,j,none⟩ = some (.int .i64 (f (j:Int)))):=fun j hj => (zao (xs:=sixC f) (zah rfl) j).1.trans (znm f j hj)
 have BW:=zaa ((Below.refl w.heap.size w).alloc (Nat.le_refl _) (.cells (sixC f).toArray 165))
 have G0:zdd f 0 i = i:=rfl
 clear hr
 go_enter Tryz.func112,Tryz.ntmps112
 go_wp2
 generalize w.alloc (.cells (sixC f).toArray 165) = W at *
 go_loopw [1,5] (fun v k wr => ∃ m:Nat,m ≤ 16 ∧ k = .int .i64 m ∧ v = .int .i64 (zdd f m i) ∧ wr = W) (fun _ k _ => 16 - (intOf k).toNat)
 case atStart => exact ⟨0,by omega,rfl,by rw [G0],rfl⟩
 case round =>
  obtain ⟨m,hm,rfl,rfl,rfl⟩:=hrel
  by_cases hlt:m < 16
  ·obtain ⟨r0,r1⟩:=HR.out m
   obtain ⟨c,hc⟩:∃ c:Nat,zdd f m i = (c:Int):=⟨(zdd f m i).toNat,by omega⟩
   have NX:=zaa (yage f m i)
   rw [hc] at NX
   rw [hc] at r0 r1
   have g:=C0.out c (by omega)
   have m0:(0:Int) ≤ (m:Int):=by omega
   have m1:(m:Int) < 16:=by omega
   have c1:(c:Int) < 16:=by omega
   rw [hc]
   clear hc G0
   generalize f (c:Int) = z at g NX
   go_wp2
   go_roundw
   case rel => exact ⟨m + 1,by omega,by go_num,by rw [NX.out],trivial⟩
   case measure => simp [intOf]; omega
  ·obtain rfl:m = 16:=by omega
   generalize hZ:zdd f 16 i = z
   have HZ:=zaa hZ
   clear hZ
   go_wp2
   go_ret
   exact ⟨zag (by rw [HZ.out]),BW.out⟩
def upC (ts:List Den) (k:Nat):List Value:=sixC (upA ts k)
theorem yaao {ts:List Den} {k:Nat} (hk:k < ts.length) (j:Int):upA ts (k + 1) j = if ts[k].child = j then ts[k].dir else upA ts k j:=by
 show (if (ts.getD k ⟨0,⟨#[]⟩,0⟩).child = j then (ts.getD k ⟨0,⟨#[]⟩,0⟩).dir else upA ts k j) = _
 rw [List.getD_eq_getElem?_getD,List.getElem?_eq_getElem hk]; rfl
theorem yamu {ts:List Den} {k c:Nat} (hk:k < ts.length) (hc:c < 16) (e:ts[k].child = (c:Int)):(upC ts k).set c (.int .i64 ts[k].dir) = upC ts (k + 1):=by
 apply List.ext_getElem?
 intro j
 have hl:(upC ts k).length = 16:=by simp [upC,sixC]
 by_cases hj:j < 16
 ·rw [yajf (by omega)]
  unfold upC
  rw [znm _ j hj,znm _ j hj,yaao hk,e]
  by_cases h:j = c
  ·subst h; rw [if_pos rfl,if_pos rfl]
  ·rw [if_neg h,if_neg (by omega)]
 ·rw [List.getElem?_eq_none (by simp [upC,sixC]; omega),List.getElem?_eq_none (by simp [upC,sixC]; omega)]
theorem yavn {ws:List Ino} {ts:List Den} (h:∀ i (h:i < ws.length),ws[i].kind = 2 → zdd (upA ts ts.length) 16 (i:Int) = 0):dhB ws ts = true:=decide_eq_true h
theorem yars {ws:List Ino} {ts:List Den} {i:Nat} (hi:i < ws.length) (hk:ws[i].kind = 2) (h:¬ zdd (upA ts ts.length) 16 (i:Int) = 0):dhB ws ts = false:=decide_eq_false (fun x => h (x i hi hk))
theorem zwm {ts:List Den} (hT:∀ k (h:k < ts.length),0 ≤ ts[k].dir ∧ ts[k].dir ≤ 15):∀ (k:Nat) (_:k ≤ ts.length) (j:Int),0 ≤ upA ts k j ∧ upA ts k j ≤ 15
 | 0,_,_ => by show (0:Int) ≤ 0 ∧ (0:Int) ≤ 15; omega
 | k + 1,hk,j => by
  rw [yaao (by omega)]
  split
  ·exact hT k (by omega)
  ·exact zwm hT k (by omega) j
theorem zqe {f:Int → Int} (hf:∀ j,0 ≤ f j ∧ f j ≤ 15):∀ (n:Nat) (i:Int),0 ≤ i ∧ i ≤ 15 → 0 ≤ zdd f n i ∧ zdd f n i ≤ 15
 | 0,_,h => h
 | n + 1,i,_ => zqe hf n (f i) (hf i)
set_option maxRecDepth 100000 in
set_option maxHeartbeats 4000000 in
theorem zjg (vW v:Value) (ws:List Ino) (ts:List Den) (w:World) (hw:RdN w vW ws) (h:RdD w v ts) (hl:ws.length = 16) (hn:ts.length ≤ 4096) (hT:∀ k (h:k < ts.length),(0 ≤ ts[k].child ∧ ts[k].child ≤ 15) ∧ (0 ≤ ts[k].dir ∧ ts[k].dir ≤ 15)) :
  Calls Tryz.prog 59 #[vW,v] w fun e w' => e = .returned (.bool (dhB ws ts)) ∧ Below w.heap.size w w':=by
 obtain ⟨aW,cW,rfl,_,hcW⟩:=hw.shape
 obtain ⟨aP,cP,rfl,_,hcP⟩:=h.shape
 have HW:=zaa hcW
 have HP:=zaa hcP
 have HT:=zaa hT
 have HL:=zaa hl
 have UB:=zaa (zwm (fun k h => (hT k h).2) ts.length (Nat.le_refl _))
 have S0:Hid ((w.alloc (.cells #[.int .i64 0,.int .i64 0,.int .i64 0,.int .i64 0,.int .i64 0,.int .i64 0,.int .i64 0,.int .i64 0,.int .i64 0,.int .i64 0,.int .i64 0,.int .i64 0,.int .i64 0,.int .i64 0,.int .i64 0,.int .i64 0] 165)).heap[w.heap.size]? = some (.cells (upC ts 0).toArray 165 (0,0)) ∧ Below w.heap.size w (w.alloc (.cells #[.int .i64 0,.int .i64 0,.int .i64 0,.int .i64 0,.int .i64 0,.int .i64 0,.int .i64 0,.int .i64 0,.int .i64 0,.int .i64 0,.int .i64 0,.int .i64 0,.int .i64 0,.int .i64 0,.int .i64 0,.int .i64 0] 165))):=⟨zah rfl,(Below.refl _ _).alloc (Nat.le_refl _) _⟩
 clear h hw hcW hcP hT hl
 go_enter Tryz.func59,Tryz.ntmps59
 go_wp2
 go_loopw [7,12] (fun _ i wr => ∃ k:Nat,k ≤ ts.length ∧ i = .int .i64 k ∧ Hid (wr.heap[w.heap.size]? = some (.cells (upC ts k).toArray 165 (0,0)) ∧ Below w.heap.size w wr)) (fun _ i _ => ts.length - (intOf i).toNat)
 case atStart => exact ⟨0,by omega,rfl,S0⟩
 case round =>
  obtain ⟨k,hk,rfl,I⟩:=hrel
  have hz:w.heap.size ≤ wr.heap.size:=I.out.2.size
  have hzz:w.heap.size < wr.heap.size:=(Array.getElem?_eq_some_iff.1 I.out.1).1
  clear S0
  by_cases hlt:k < ts.length
  ·obtain ⟨b,o,rfl,hbl,hcell⟩:=HP.out (by omega)
   obtain ⟨a0,a1,a2⟩:=hcell k hlt
   have d0:=(I.out.2.cell (p:=⟨b,o + k * 3,none⟩) hbl).trans a0
   have d1:=(I.out.2.cell (p:=⟨b,o + k * 3 + 1,none⟩) hbl).trans a1
   have d2:=(I.out.2.cell (p:=⟨b,o + k * 3 + 2,none⟩) hbl).trans a2
   have k0:(0:Int) ≤ (k:Int):=by omega
   have k1:(k:Int) < (ts.length:Int):=by omega
   obtain ⟨c1,c2⟩:=(HT.out k hlt).1
   obtain ⟨c,hc⟩:∃ c:Nat,ts[k].child = (c:Int):=⟨ts[k].child.toNat,by omega⟩
   have LS:=zaa (yamu hlt (c:=c) (by omega) hc)
   rw [hc] at d2 c1 c2
   have LA:=zaa (znm (upA ts k) c (by omega))
   have g1:=(zao (xs:=upC ts k) I.out.1 c).1.trans LA.out
   have g2:=(zao I.out.1 c).2
   clear a0 a1 a2 hcell hc
   generalize ts[k].dir = xd at *
   generalize ts[k].name = xs at *
   generalize upA ts k (c:Int) = z at *
   have BA:Hid (Below wr.heap.size wr (wr.alloc (.cells #[.int .i64 xd,.string xs,.int .i64 (c:Int)] 69))):=(Below.refl _ _).alloc (Nat.le_refl _) _
   have g3:=(BA.out.cell (p:=⟨w.heap.size,c,none⟩) hzz).trans g1
   have g4:(wr.alloc (.cells #[.int .i64 xd,.string xs,.int .i64 (c:Int)] 69)).frozen? ⟨w.heap.size,c,none⟩ = false:=(zao (zak I.out.1) c).2
   have c16:(c:Int) < 16:=by omega
   have G:Hid (((wr.setCell ⟨w.heap.size,c,none⟩ (.int .i64 xd)).alloc (.cells #[.int .i64 xd,.string xs,.int .i64 (c:Int)] 69)).heap[w.heap.size]? = some (.cells (upC ts (k + 1)).toArray 165 (0,0)) ∧ Below w.heap.size w ((wr.setCell ⟨w.heap.size,c,none⟩ (.int .i64 xd)).alloc (.cells #[.int .i64 xd,.string xs,.int .i64 (c:Int)] 69))):=by
    refine ⟨?_,(I.out.2.setCell (Nat.le_refl _) _).alloc (by simp; omega) _⟩
    rw [← LS.out]
    exact zak (zch I.out.1 c _)
   clear I LS LA BA
   go_wp2
   go_roundw
   case rel => exact ⟨k + 1,by omega,by go_num,G⟩
   case measure => simp [intOf]; omega
  ·obtain rfl:k = ts.length:=by omega
   have START:Hid (Below wr.heap.size wr wr):=Below.refl _ _
   have HC:Hid (∀ w',Below wr.heap.size wr w' → ∀ j,j < 16 → w'.cell? ⟨w.heap.size,j,none⟩ = some (.int .i64 (upA ts ts.length (j:Int)))):=fun w' hb j hj => by
    have:=(hb.block _ hzz).trans I.out.1
    exact (zao (xs:=upC ts ts.length) this j).1.trans (znm _ j hj)
   have BW:=zaa I.out.2
   have LR:=zaa (fun (i:Nat) (hi:i < 16) w1 => zoa (upA ts ts.length) (i:Int) w1 (fun n => zqe UB.out n _ (by omega)))
   have MK:=zaa (fun h => yavn (ws:=ws) (ts:=ts) h)
   have NO:=zaa (fun i hi hk h => yars (ws:=ws) (ts:=ts) (i:=i) hi hk h)
   generalize hV:wr = V at *
   generalize upA ts ts.length = f at *
   clear hV I UB
   go_wp2
   go_loopw [8,9,24] (fun _ _ i wq => ∃ m:Nat,m ≤ ws.length ∧ i = .int .i64 m ∧ Hid (Below V.heap.size V wq ∧ ∀ j (h:j < ws.length),j < m → ws[j].kind = 2 → zdd f 16 (j:Int) = 0)) (fun _ _ i _ => ws.length - (intOf i).toNat)
   case atStart => exact ⟨0,by omega,rfl,START.out,fun j h a => absurd a (by omega)⟩
   case round =>
    obtain ⟨m,hm,rfl,J⟩:=hrel
    have J1:=zaa J.out.1
    have JW:=zaa (zab BW.out J.out.1 hz)
    have hzq:V.heap.size ≤ wr.heap.size:=J.out.1.size
    by_cases hlm:m < ws.length
    ·obtain ⟨b,o,rfl,hbl,hcell⟩:=HW.out (by omega)
     obtain ⟨a0,a1,a2,a3,a4,a5,a6,a7,a8,a9,a10⟩:=hcell m hlm
     have d0:=(JW.out.cell (p:=⟨b,o + m * 11,none⟩) hbl).trans a0
     have d1:=(JW.out.cell (p:=⟨b,o + m * 11 + 1,none⟩) hbl).trans a1
     have d2:=(JW.out.cell (p:=⟨b,o + m * 11 + 2,none⟩) hbl).trans a2
     have d3:=(JW.out.cell (p:=⟨b,o + m * 11 + 3,none⟩) hbl).trans a3
     have d4:=(JW.out.cell (p:=⟨b,o + m * 11 + 4,none⟩) hbl).trans a4
     have d5:=(JW.out.cell (p:=⟨b,o + m * 11 + 5,none⟩) hbl).trans a5
     have d6:=(JW.out.cell (p:=⟨b,o + m * 11 + 6,none⟩) hbl).trans a6
     have d7:=(JW.out.cell (p:=⟨b,o + m * 11 + 7,none⟩) hbl).trans a7
     have d8:=(JW.out.cell (p:=⟨b,o + m * 11 + 8,none⟩) hbl).trans a8
     have d9:=(JW.out.cell (p:=⟨b,o + m * 11 + 9,none⟩) hbl).trans a9
     have d10:=(JW.out.cell (p:=⟨b,o + m * 11 + 10,none⟩) hbl).trans a10
     have m0:(0:Int) ≤ (m:Int):=by omega
     have m1:(m:Int) < (ws.length:Int):=by omega
     have m16:m < 16:=by have:=HL.out; omega
     have B2:=zaa (J1.out.alloc hzq (.cells ws[m].cs.toArray 66))
     have BF:=zaa (zab BW.out B2.out hz)
     have LM:=zaa (fun w1 => LR.out m m16 w1)
     have J2:Hid ((ws[m].kind = 2 → zdd f 16 (m:Int) = 0) → ∀ j (h:j < ws.length),j < m + 1 → ws[j].kind = 2 → zdd f 16 (j:Int) = 0):=fun q j h a => by
      by_cases e:j = m
      ·subst e; exact q
      ·exact J.out.2 j h (by omega)
     have J3:=zaa (fun hk q => NO.out m hlm hk q)
     clear a0 a1 a2 a3 a4 a5 a6 a7 a8 a9 a10 hcell J
     generalize ws[m] = x at d0 d1 d2 d3 d4 d5 d6 d7 d8 d9 d10 B2 BF J2 J3
     by_cases r:x.kind = 2
     ·have r1:(x.kind == 2) = true:=by rw [r]; rfl
      have ZC:=HC.out _ B2.out
      have z0:=ZC 0 (by omega)
      have z1:=ZC 1 (by omega)
      have z2:=ZC 2 (by omega)
      have z3:=ZC 3 (by omega)
      have z4:=ZC 4 (by omega)
      have z5:=ZC 5 (by omega)
      have z6:=ZC 6 (by omega)
      have z7:=ZC 7 (by omega)
      have z8:=ZC 8 (by omega)
      have z9:=ZC 9 (by omega)
      have z10:=ZC 10 (by omega)
      have z11:=ZC 11 (by omega)
      have z12:=ZC 12 (by omega)
      have z13:=ZC 13 (by omega)
      have z14:=ZC 14 (by omega)
      have z15:=ZC 15 (by omega)
      clear ZC
      unfold Ino.cs at B2 BF z0 z1 z2 z3 z4 z5 z6 z7 z8 z9 z10 z11 z12 z13 z14 z15
      unfold sixC at LM
      by_cases q:zdd f 16 (m:Int) = 0
      ·have q1:(zdd f 16 (m:Int) == 0) = true:=by rw [q]; rfl
       have E:=zaa (J2.out (fun _ => q))
       rw [q1] at LM
       clear q J2 J3 r q1
       go_wp2_with fail
       refine (LM.out _).mono ?_
       rintro e w1 ⟨rfl,hb1⟩
       have B3:=zaa (zab B2.out hb1 B2.out.size)
       clear hb1 d0 d1 d2 d3 d4 d5 d6 d7 d8 d9 d10 z0 z1 z2 z3 z4 z5 z6 z7 z8 z9 z10 z11 z12 z13 z14 z15
       go_wp2
       go_roundw
       case rel => exact ⟨m + 1,by omega,by go_num,B3.out,E.out⟩
       case measure => simp [intOf]; omega
      ·have q1:(zdd f 16 (m:Int) == 0) = false:=by rw [beq_eq_false_iff_ne]; exact q
       have E:=zaa (J3.out r q)
       rw [q1] at LM
       clear q J2 J3 r q1
       go_wp2_with fail
       refine (LM.out _).mono ?_
       rintro e w1 ⟨rfl,hb1⟩
       have B3:=zaa (zab BF.out hb1 BF.out.size)
       clear hb1 d0 d1 d2 d3 d4 d5 d6 d7 d8 d9 d10 z0 z1 z2 z3 z4 z5 z6 z7 z8 z9 z10 z11 z12 z13 z14 z15
       go_wp2
       go_ret
       exact ⟨zag E.out.symm,B3.out⟩
     ·have r1:(x.kind == 2) = false:=by rw [beq_eq_false_iff_ne]; exact r
      have E:=zaa (J2.out (fun e => absurd e r))
      unfold Ino.cs at B2 BF
      clear r J2 J3
      go_wp2
      go_roundw
      case rel => exact ⟨m + 1,by omega,by go_num,B2.out,E.out⟩
      case measure => simp [intOf]; omega
    ·have E:=zaa (MK.out (fun j h => J.out.2 j h (by omega)))
     clear J
     go_wp2
     go_ret
     exact ⟨zag E.out.symm,JW.out⟩
def pimB (ws:List Ino) (ps:List Den):Bool:=zhg ws ps && (zai ws 0 == 2 && (zpo ws (zas ps) && (zoo ((zas ps).map zil) && (lcB ws (zas ps) && (dhB ws (zas ps) && zfl (zap ws))))))
theorem yabw {ws:List Ino} {ps:List Den} (h:zhg ws ps = true):ws.length = 16 ∧ ps.length = 24 ∧ zwt ws = true ∧ okDs ps = true:=by
 unfold zhg at h
 simp only [Bool.and_eq_true,decide_eq_true_eq] at h
 exact h
theorem zyx {ps:List Den} (h:okDs ps = true):∀ k (h:k < (zas ps).length),(0 ≤ (zas ps)[k].child ∧ (zas ps)[k].child ≤ 15) ∧ (0 ≤ (zas ps)[k].dir ∧ (zas ps)[k].dir ≤ 15):=by
 have h:=of_decide_eq_true h
 intro k hk
 obtain ⟨hm,hf⟩:=List.mem_filter.1 (List.getElem_mem hk)
 obtain ⟨i,hi,e⟩:=List.getElem_of_mem hm
 have o:=h i hi
 rw [e] at o
 have c:=zmf o (fun q => by rw [(zti o).2 q] at hf; cases hf)
 exact ⟨by omega,c.2.1⟩
set_option maxRecDepth 100000 in
set_option maxHeartbeats 8000000 in
theorem yakd (v:Value) (ws:List Ino) (ps:List Den) (w:World) (h:RdIm w v ws ps) (hw:ws.length ≤ 1048576) (hp:ps.length ≤ 1048576) (hT:TS w) (hE:ED w) (hF:FD w) (hr:∀ k (h:k < ws.length),ws[k].R) (hs:∀ k (h:k < ps.length),ps[k].name.size ≤ maxLen) :
  Calls Tryz.prog 23 #[v] w fun e w' => e = .returned (.bool (pimB ws ps)) ∧ Below w.heap.size w w':=by
 have LP:=zaa (fun w1 (hb:Below w.heap.size w w1) => zyb v ws ps w1 (h.below hb) hw hp (hT.below hb) (hE.below hb) (hF.below hb) hr hs)
 obtain ⟨vW,vP,rfl,h1,h2⟩:=h
 have RW:=zaa h1
 have RP:=zaa h2
 obtain ⟨aW,cW,rfl,_,hcW⟩:=h1.shape
 obtain ⟨aP,cP,rfl,_,_⟩:=h2.shape
 have BW:=zaa ((Below.refl w.heap.size w).alloc (Nat.le_refl _) (.cells #[.slice aW ws.length cW,.slice aP ps.length cP] 42))
 have CA:Hid (∀ w',Below (w.alloc (.cells #[.slice aW ws.length cW,.slice aP ps.length cP] 42)).heap.size (w.alloc (.cells #[.slice aW ws.length cW,.slice aP ps.length cP] 42)) w' → w'.cell? ⟨w.heap.size,0,none⟩ = some (.slice aW ws.length cW) ∧ w'.cell? ⟨w.heap.size,1,none⟩ = some (.slice aP ps.length cP)):=fun w' hb => by
  have:w'.heap[w.heap.size]? = some (.cells #[.slice aW ws.length cW,.slice aP ps.length cP] 42 (0,0)):=(hb.block _ (by simp)).trans (zah rfl)
  exact ⟨(zac this).1,(zac this).2.1⟩
 obtain ⟨x0,x1⟩:=CA.out _ (Below.refl _ _)
 have F:=zaa hF
 clear h1 h2 hT hE hF hr hs
 cases c1:zhg ws ps with
 | false =>
  have E:=zaa (show pimB ws ps = false by unfold pimB; rw [c1]; rfl)
  rw [c1] at LP
  clear c1 hcW
  go_enter Tryz.func23,Tryz.ntmps23
  go_wp2_with fail
  refine (LP.out _ BW.out).mono ?_
  rintro e w1 ⟨rfl,hb1⟩
  have B1:=zaa (zab BW.out hb1 BW.out.size)
  clear hb1 x0 x1
  go_wp2
  go_ret
  exact ⟨zag E.out.symm,B1.out⟩
 | true =>
 obtain ⟨l1,l2,o1,o2⟩:=yabw c1
 have E0:=zaa (show pimB ws ps = (zai ws 0 == 2 && (zpo ws (zas ps) && (zoo ((zas ps).map zil) && (lcB ws (zas ps) && (dhB ws (zas ps) && zfl (zap ws)))))) by unfold pimB; rw [c1,Bool.true_and])
 rw [c1] at LP
 obtain ⟨bW,oW,rfl,hblW,hcellW⟩:=hcW (by omega)
 have HK:=(hcellW 0 (by omega)).1
 rw [show ws[0].kind = zai ws 0 from (zbn (i:=0) (by omega)).symm] at HK
 simp only [Nat.zero_mul,Nat.add_zero] at HK
 have KK:Hid (∀ w',Below w.heap.size w w' → w'.cell? ⟨bW,oW,none⟩ = some (.int .i64 (zai ws 0))):=fun w' hb => (hb.cell (p:=⟨bW,oW,none⟩) hblW).trans HK
 have TR:=zaa (zyx o2)
 have tl:(zas ps).length ≤ 24:=by have:=zwo ps; omega
 have ml:(zap ws).length ≤ 128:=by have:=zic ws; omega
 have len16:(0:Int) < (ws.length:Int):=by omega
 have L1:=zaa l1
 have L2:=zaa l2
 have LT:=zaa (fun w1 (hb:Below w.heap.size w w1) => zme (.slice aP ps.length cP) ps w1 (Rd.below RP.out hb) (by omega) (F.out.below hb))
 have LM:=zaa (fun w1 (hb:Below w.heap.size w w1) => zkz (.slice (some ⟨bW,oW,none⟩) ws.length cW) ws w1 (Rd.below RW.out hb) (by omega))
 have LK:=zaa (fun v w1 (hb:Below w.heap.size w w1) h => zvc (.slice (some ⟨bW,oW,none⟩) ws.length cW) v ws (zas ps) w1 (Rd.below RW.out hb) h l1 (by omega) TR.out)
 have LC:=zaa (fun v w1 (hb:Below w.heap.size w w1) h => zmd (.slice (some ⟨bW,oW,none⟩) ws.length cW) v ws (zas ps) w1 (Rd.below RW.out hb) h l1 (by omega) (fun k hk => (TR.out k hk).1))
 have LH:=zaa (fun v w1 (hb:Below w.heap.size w w1) h => zjg (.slice (some ⟨bW,oW,none⟩) ws.length cW) v ws (zas ps) w1 (Rd.below RW.out hb) h l1 (by omega) TR.out)
 have LO:=zaa (fun v w1 h => zrw v (zas ps) w1 h (by omega))
 have LI:=zaa (fun v w1 h => zmc v (zap ws) w1 h (by omega))
 clear l1 l2 o1 o2 c1 hcW hcellW HK TR F RP RW
 generalize zai ws 0 = k0 at *
 generalize zas ps = ts at *
 generalize zap ws = ms at *
 generalize zpo ws ts = f1 at *
 generalize zoo (ts.map zil) = f2 at *
 generalize lcB ws ts = f3 at *
 generalize dhB ws ts = f4 at *
 generalize zfl ms = f5 at *
 by_cases c2:k0 = 2
 case neg =>
  have q:(k0 != 2) = true:=by rw [bne_iff_ne]; exact c2
  have E:=zaa (show pimB ws ps = false by rw [E0.out,show (k0 == 2) = false by rw [beq_eq_false_iff_ne]; exact c2]; rfl)
  clear c2
  go_enter Tryz.func23,Tryz.ntmps23
  go_wp2_with fail
  refine (LP.out _ BW.out).mono ?_
  rintro e w1 ⟨rfl,hb1⟩
  have B1:=zaa (zab BW.out hb1 BW.out.size)
  clear x0 x1
  obtain ⟨x0,x1⟩:=CA.out _ hb1
  have kk:=KK.out _ B1.out
  clear hb1
  go_wp2
  go_ret
  exact ⟨zag E.out.symm,B1.out⟩
 have q:(k0 != 2) = false:=by rw [c2]; rfl
 have E1:=zaa (show pimB ws ps = (f1 && (f2 && (f3 && (f4 && f5)))) by rw [E0.out,c2]; rfl)
 clear c2 E0
 go_enter Tryz.func23,Tryz.ntmps23
 go_wp2_with fail
 refine (LP.out _ BW.out).mono ?_
 rintro e w1 ⟨rfl,hb1⟩
 have B1:=zaa (zab BW.out hb1 BW.out.size)
 have BA:=zaa hb1
 clear x0 x1 LP
 obtain ⟨x0,x1⟩:=CA.out _ hb1
 have kk:=KK.out _ B1.out
 clear hb1
 go_wp2_with fail
 refine (LT.out _ B1.out).mono ?_
 rintro e w2 ⟨v2,rfl,hr2,hb2⟩
 obtain ⟨-,aT,cT,hvT,-⟩:=hr2.rd
 subst hvT
 have hz1:w.heap.size ≤ w1.heap.size:=B1.out.size
 have hz2:w1.heap.size ≤ w2.heap.size:=hb2.size
 have R2:=zaa hr2.rd
 have B2:=zaa (zab B1.out hb2 hz1)
 have BA2:=zaa (zab BA.out hb2 BA.out.size)
 clear hr2 x0 x1 kk B1 BA KK LT hb2
 obtain ⟨x0,x1⟩:=CA.out _ BA2.out
 go_wp2_with fail
 refine (LK.out _ _ B2.out R2.out).mono ?_
 rintro e w3 ⟨rfl,hb3⟩
 have hz3:w2.heap.size ≤ w3.heap.size:=hb3.size
 have R3:=zaa (Rd.below R2.out hb3)
 have B3:=zaa (zab B2.out hb3 (by omega))
 have BA3:=zaa (zab BA2.out hb3 (by have:=BA2.out.size; omega))
 clear hb3 x0 x1 R2 B2 BA2
 cases f1 with
 | false =>
  go_wp2
  go_ret
  exact ⟨zag (by rw [E1.out]; rfl),B3.out⟩
 | true =>
 go_wp2_with fail
 refine (LO.out _ _ R3.out).mono ?_
 rintro e w4 ⟨rfl,hb4⟩
 have hz4:w3.heap.size ≤ w4.heap.size:=hb4.size
 have R4:=zaa (Rd.below R3.out hb4)
 have B4:=zaa (zab B3.out hb4 (by omega))
 have BA4:=zaa (zab BA3.out hb4 (by have:=BA3.out.size; omega))
 clear hb4 R3 B3 BA3
 cases f2 with
 | false =>
  go_wp2
  go_ret
  exact ⟨zag (by rw [E1.out]; rfl),B4.out⟩
 | true =>
 obtain ⟨x0,x1⟩:=CA.out _ BA4.out
 go_wp2_with fail
 refine (LC.out _ _ B4.out R4.out).mono ?_
 rintro e w5 ⟨rfl,hb5⟩
 have hz5:w4.heap.size ≤ w5.heap.size:=hb5.size
 have R5:=zaa (Rd.below R4.out hb5)
 have B5:=zaa (zab B4.out hb5 (by omega))
 have BA5:=zaa (zab BA4.out hb5 (by have:=BA4.out.size; omega))
 clear hb5 x0 x1 R4 B4 BA4
 cases f3 with
 | false =>
  go_wp2
  go_ret
  exact ⟨zag (by rw [E1.out]; rfl),B5.out⟩
 | true =>
 obtain ⟨x0,x1⟩:=CA.out _ BA5.out
 go_wp2_with fail
 refine (LH.out _ _ B5.out R5.out).mono ?_
 rintro e w6 ⟨rfl,hb6⟩
 have hz6:w5.heap.size ≤ w6.heap.size:=hb6.size
 have B6:=zaa (zab B5.out hb6 (by omega))
 have BA6:=zaa (zab BA5.out hb6 (by have:=BA5.out.size; omega))
 clear hb6 x0 x1 R5 B5 BA5
 cases f4 with
 | false =>
  go_wp2
  go_ret
  exact ⟨zag (by rw [E1.out]; rfl),B6.out⟩
 | true =>
 obtain ⟨x0,x1⟩:=CA.out _ BA6.out
 go_wp2_with fail
 refine (LM.out _ B6.out).mono ?_
 rintro e w7 ⟨v7,rfl,hr7,hb7⟩
 obtain ⟨-,aM,cM,hvM,-⟩:=hr7.rd
 subst hvM
 have B7:=zaa (zab B6.out hb7 (by omega))
 have R7:=zaa hr7.rd
 clear hb7 hr7 x0 x1 B6 BA6
 go_wp2_with fail
 refine (LI.out _ _ R7.out).mono ?_
 rintro e w' ⟨rfl,hw'⟩
 subst w'
 go_wp2
 go_ret
 exact ⟨zag (by rw [E1.out]; rfl),B7.out⟩
def zja (ws:List Ino):Bool:=zfl (zbp (zap ws) 1) && zfl (zbp (zap ws) 2)
def zcb (ws:List Ino) (ps:List Den):Bool:=decide (ws.length = 16) && (decide (ps.length = 24) && (zai ws 0 == 2 && (zwt ws && (zim ws ps && (zgg ws ps && zja ws)))))
theorem zfn {x:Ino} (h:zdy x = true):(∀ z ∈ x.map,zet z = true) ∧ (x.kind = 2 → x.links = 1):=by
 unfold zdy at h
 simp only [Bool.and_eq_true,decide_eq_true_eq] at h
 obtain ⟨_,_,_,d,f⟩:=h
 refine ⟨fun z hz => ?_,fun k => ?_⟩
 ·obtain ⟨i,hi,rfl⟩:=List.getElem_of_mem hz
  have:=zjd d i hi
  rw [List.getD_eq_getElem?_getD,List.getElem?_eq_getElem hi] at this
  unfold zqr at this
  simp only [Option.getD_some,Bool.and_eq_true] at this
  exact this.1
 ·unfold zfb at f
  rw [if_neg (by omega),if_pos k] at f
  simp only [Bool.and_eq_true,beq_iff_eq] at f
  exact f.2
theorem zer {z:Int} (h:zet z = true):0 ≤ z ∧ z ≤ 1048576:=by
 unfold zet zhh at h
 simp only [Bool.and_eq_true,decide_eq_true_eq] at h
 omega
theorem ztq {ws:List Ino} (h:zwt ws = true):∀ i (h:i < ws.length),∀ z ∈ ws[i].map,zet z = true:=fun i hi => (zfn ((of_decide_eq_true h:∀ k (h:k < ws.length),zdy ws[k] = true) i hi)).1
theorem yasn (ws:List Ino) (ps:List Den):pimB ws ps = zcb ws ps:=by
 unfold pimB zcb zhg
 by_cases l1:ws.length = 16
 case neg => simp [l1]
 by_cases l2:ps.length = 24
 case neg => simp [l2]
 rw [decide_eq_true l1,decide_eq_true l2,Bool.true_and,Bool.true_and,Bool.true_and,Bool.true_and]
 cases o1:zwt ws
 ·simp
 cases o2:okDs ps
 ·have:zim ws ps = false:=by
   rw [Bool.eq_false_iff]
   intro e
   rw [yasj e] at o2
   cases o2
  rw [this]; simp
 rw [yarv o2]
 cases f1:zpo ws (zas ps)
 ·simp
 cases f2:zoo ((zas ps).map zil)
 ·simp
 rw [yamg l1 (fun i hi => (zfn ((of_decide_eq_true o1:∀ k (h:k < ws.length),zdy ws[k] = true) i hi)).2) o2 f1]
 have s1:zja ws = zfl (zap ws):=zpc (fun e he => (zoj (ztq o1) e he).2)
 rw [s1]
 simp [Bool.and_assoc]
set_option maxRecDepth 100000 in
set_option maxHeartbeats 4000000 in
theorem zte (v:Value) (ws:List Ino) (ps:List Den) (w:World) (h:RdIm w v ws ps) (hn:ws.length = 16) (hr:∀ k (h:k < ws.length),∀ z ∈ ws[k].map,0 ≤ z ∧ z ≤ 1048576) :
  Calls Tryz.prog 73 #[v] w fun e w' => e = .returned (.bool (zja ws)) ∧ Below w.heap.size w w':=by
 have HR:=zaa h
 have LU:=zaa (fun t w1 h => zpi v ws ps t w1 h (by omega) hr)
 have UL:=zaa (fun t => show (zbp (zap ws) t).length ≤ 128 by have:=zlc (zap ws) t; have:=zic ws; omega)
 obtain ⟨vW,vP,rfl,h1,h2⟩:=h
 obtain ⟨aW,cW,rfl,_,_⟩:=h1.shape
 obtain ⟨aP,cP,rfl,_,_⟩:=h2.shape
 clear h1 h2 hr hn
 obtain ⟨W,hW⟩:∃ W,W = w.alloc (.cells #[.slice aW ws.length cW,.slice aP ps.length cP] 42):=⟨_,rfl⟩
 have CA:Hid (∀ w',Below W.heap.size W w' → w'.cell? ⟨w.heap.size,0,none⟩ = some (.slice aW ws.length cW) ∧ w'.cell? ⟨w.heap.size,1,none⟩ = some (.slice aP ps.length cP)):=fun w' hb => by
  have:w'.heap[w.heap.size]? = some (.cells #[.slice aW ws.length cW,.slice aP ps.length cP] 42 (0,0)):=(hb.block _ (by rw [hW]; simp)).trans (by rw [hW]; exact zah rfl)
  exact ⟨(zac this).1,(zac this).2.1⟩
 have BW:Hid (Below w.heap.size w W):=by rw [hW]; exact (Below.refl _ _).alloc (Nat.le_refl _) _
 have hz:w.heap.size ≤ W.heap.size:=BW.out.size
 have SG:=zaa (show zja ws = (zfl (zbp (zap ws) 1) && zfl (zbp (zap ws) 2)) from rfl)
 generalize zbp (zap ws) = uf at *
 go_enter Tryz.func73,Tryz.ntmps73
 go_wp2
 rw [← hW]
 clear hW
 go_loopw [3] (fun i wr => ∃ t:Nat,(1 ≤ t ∧ t ≤ 3) ∧ i = .int .i64 t ∧ Hid (Below W.heap.size W wr ∧ ∀ s:Nat,1 ≤ s → s < t → zfl (uf (s:Int)) = true)) (fun i _ => 3 - (intOf i).toNat)
 case atStart => exact ⟨1,by omega,rfl,Below.refl _ _,fun s h a => absurd a (by omega)⟩
 case round =>
  obtain ⟨t,ht,rfl,J⟩:=hrel
  have J1:=zaa J.out.1
  have JW:=zaa (zab BW.out J.out.1 hz)
  obtain ⟨x0,x1⟩:=CA.out wr J.out.1
  by_cases hlt:t ≤ 2
  ·have t2:(t:Int) ≤ 2:=by omega
   have t1:(0:Int) ≤ (t:Int):=by omega
   have JS:=zaa J.out.2
   have NO:Hid (zfl (uf (t:Int)) = false → zja ws = false):=fun q => by
    rw [SG.out]
    rcases (show t = 1 ∨ t = 2 by omega) with rfl | rfl
    ·rw [show ((1:Nat):Int) = 1 from rfl] at q; rw [q]; rfl
    ·rw [show ((2:Nat):Int) = 2 from rfl] at q; rw [q,Bool.and_false]
   clear J
   go_wp2_with fail
   refine (LU.out _ _ (HR.out.below JW.out)).mono ?_
   rintro e w1 ⟨v1,rfl,hr1,hb1⟩
   obtain ⟨-,aL,cL,hvL,hcap,-⟩:=hr1.rd
   have hcap1:=hcap.1
   subst hvL
   have R1:Hid (RdI w1 (.slice aL (uf (t:Int)).length cL) (uf (t:Int))):=hr1.rd
   have B1:=zaa (zab J1.out hb1 J1.out.size)
   have B2:=zaa (zab BW.out B1.out hz)
   have ul:=UL.out (t:Int)
   have JN:Hid (zfl (uf (t:Int)) = true → ∀ s:Nat,1 ≤ s → s < t + 1 → zfl (uf (s:Int)) = true):=fun q s h a => by
    by_cases e:s = t
    ·subst e; exact q
    ·exact JS.out s h (by omega)
   clear hr1 hb1 x0 x1 hcap JS
   generalize uf (t:Int) = zs at *
   obtain ⟨aZ,cZ,e,_,hcZ⟩:=R1.out.shape
   have HZ:=zaa hcZ
   obtain ⟨rfl,rfl⟩:aZ = aL ∧ cZ = cL:=by cases e; exact ⟨rfl,rfl⟩
   clear e hcZ
   go_wp2
   go_loopw [5] (fun i wq => ∃ k:Nat,k ≤ zs.length ∧ i = .int .i64 k ∧ Hid (Below w1.heap.size w1 wq ∧ ∀ j (h:j < zs.length),j < k → zhv (zs.take j) zs[j] = false)) (fun i _ => zs.length - (intOf i).toNat)
   case atStart => exact ⟨0,by omega,rfl,Below.refl _ _,fun j h a => absurd a (by omega)⟩
   case round =>
    obtain ⟨k,hk,rfl,H⟩:=hrel
    have k0:(0:Int) ≤ (k:Int):=by omega
    have H1:=zaa H.out.1
    have HB:=zaa (zab B1.out H.out.1 B1.out.size)
    have HF:=zaa (zab B2.out H.out.1 B2.out.size)
    by_cases hlk:k < zs.length
    ·obtain ⟨b,o,rfl,hbl,hcell⟩:=HZ.out (by omega)
     have hck:=(H1.out.cell (p:=⟨b,o + k,none⟩) hbl).trans (hcell k hlk)
     have k1:(k:Int) < (zs.length:Int):=by omega
     have k2:(k:Int) ≤ (cZ:Int):=by omega
     have hblr:b < wr.heap.size:=by have:=H1.out.size; omega
     have RT:=zaa (RdI.take (Rd.below R1.out H1.out) hk)
     have LT:=zaa (show (zs.take k).length ≤ 1048576 by rw [List.length_take]; omega)
     clear hcell
     cases q:zhv (zs.take k) zs[k] with
     | false =>
      have H':Hid (∀ j (h:j < zs.length),j < k + 1 → zhv (zs.take j) zs[j] = false):=fun j h a => by
       by_cases e:j = k
       ·subst e; exact q
       ·exact H.out.2 j h (by omega)
      have Q:=zaa q
      clear q H
      generalize zs[k] = z at hck Q
      go_wp2
      have RB:Hid (∀ w',Below wr.heap.size wr w' → RdI w' (.slice (some ⟨b,o,none⟩) k cZ) (zs.take k)):=fun w' hb => Rd.below RT.out hb
      have SK:Hid (∀ w',Below wr.heap.size wr w' → w'.cell? ⟨b,o + k,none⟩ = some (.int .i64 z)):=fun w' hb => (hb.cell (p:=⟨b,o + k,none⟩) hblr).trans hck
      go_region_held3 (fun w' => w'.cell? ⟨b,o + k,none⟩ = some (.int .i64 z))
       (exact SK.out _ (by repeat (first | exact Below.refl _ _ | refine Below.drew ?_)))
       (first
        | (go_at_call 120; refine (zlf _ (zs.take k) z _ (RB.out _ (by repeat (first | exact Below.refl _ _ | refine Below.drew ?_))) LT.out).mono ?_; rw [Q.out]; rintro e w' ⟨rfl,hw'⟩; subst w'))
      all_goals
       clear SK RB hck
       go_wp2
       go_roundw
       case rel => exact ⟨k + 1,by omega,by go_num,(by repeat (first | exact H1.out | refine Below.drew ?_)),H'.out⟩
       case measure => simp [intOf]; omega
     | true =>
      have E:=zaa (NO.out (zuz hlk q))
      have Q:=zaa q
      clear q H
      generalize zs[k] = z at hck Q
      go_wp2
      have RB:Hid (∀ w',Below wr.heap.size wr w' → RdI w' (.slice (some ⟨b,o,none⟩) k cZ) (zs.take k)):=fun w' hb => Rd.below RT.out hb
      have SK:Hid (∀ w',Below wr.heap.size wr w' → w'.cell? ⟨b,o + k,none⟩ = some (.int .i64 z)):=fun w' hb => (hb.cell (p:=⟨b,o + k,none⟩) hblr).trans hck
      go_region_held3 (fun w' => w'.cell? ⟨b,o + k,none⟩ = some (.int .i64 z))
       (exact SK.out _ (by repeat (first | exact Below.refl _ _ | refine Below.drew ?_)))
       (first
        | (go_at_call 120; refine (zlf _ (zs.take k) z _ (RB.out _ (by repeat (first | exact Below.refl _ _ | refine Below.drew ?_))) LT.out).mono ?_; rw [Q.out]; rintro e w' ⟨rfl,hw'⟩; subst w'))
      all_goals
       clear SK RB hck
       go_wp2
       go_ret
       exact ⟨zag E.out.symm,(by repeat (first | exact HF.out | refine Below.drew ?_))⟩
    ·have E:=zaa (JN.out (yabl (fun j h => H.out.2 j h (by omega))))
     clear H
     go_wp2
     go_roundw
     case rel => exact ⟨t + 1,by omega,by go_num,HB.out,E.out⟩
     case measure => simp [intOf]; omega
  ·obtain rfl:t = 3:=by omega
   have E:=zaa (show zja ws = true by
    have e1:zfl (uf 1) = true:=J.out.2 1 (by omega) (by omega)
    have e2:zfl (uf 2) = true:=J.out.2 2 (by omega) (by omega)
    rw [SG.out,e1,e2]; rfl)
   clear J
   go_wp2
   go_ret
   exact ⟨zag E.out.symm,JW.out⟩
end Go.Proofs.YtkdjfhkalelafaaGreatDoor
