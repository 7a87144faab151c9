/- Several texts laid together: ImN, PiK, PiL, PiM. -/
import Derived.Test.YtkdjfhkalelafaaGreatDoorZAF
import Derived.Test.YtkdjfhkalelafaaGreatDoorZAC
import Derived.Test.YtkdjfhkalelafaaGreatDoorZAE
import Derived.Laws.Cover3
namespace Go.Proofs.YtkdjfhkalelafaaGreatDoor
open Go.RowKit
def zev (ws:List Ino) (t:Int) (k j:Nat):List Int:=zbp (ztp ws k j) t
theorem zxp (ws:List Ino) (t:Int) (k:Nat):zev ws t k 0 = zbp (zap (ws.take k)) t:=by unfold zev; rw [zvp]
theorem zxv {ws:List Ino} {k:Nat} (t:Int) (hk:k < ws.length):zev ws t k 8 = zbp (zap (ws.take (k + 1))) t:=by unfold zev; rw [ztz hk]
theorem zyi {ws:List Ino} {k:Nat} (t:Int) (hk:k < ws.length) {j:Nat} (hj:j < 8):zev ws t k (j + 1) = if ¬ ws[k].map.getD j 0 = 0 ∧ ws[k].map.getD j 0 % 4 = t then zev ws t k j ++ [ws[k].map.getD j 0 / 4] else zev ws t k j:=by
 unfold zev
 rw [zui hk hj]
 generalize ws[k].map.getD j 0 = z
 by_cases h0:z = 0
 ·rw [if_pos h0,if_neg (fun h => h.1 h0)]
 ·rw [if_neg h0]
  unfold zbp
  rw [List.filter_append,List.map_append]
  by_cases h1:z % 4 = t
  ·rw [if_pos ⟨h0,h1⟩]; simp [h1]
  ·rw [if_neg (fun h => h1 h.2)]; simp [h1]
theorem zlc (l:List Int) (t:Int):(zbp l t).length ≤ l.length:=by
 unfold zbp
 rw [List.length_map]
 exact List.length_filter_le _ _
set_option maxRecDepth 100000 in
set_option maxHeartbeats 4000000 in
theorem zpi (v:Value) (ws:List Ino) (ps:List Den) (t:Int) (w:World) (h:RdIm w v ws ps) (hn:ws.length ≤ 4096) (hr:∀ k (h:k < ws.length),∀ z ∈ ws[k].map,0 ≤ z ∧ z ≤ 1048576) :
  Calls Tryz.prog 119 #[v,.int .i64 t] w fun e w' => ∃ v',e = .returned v' ∧ Row w' 3 1 w.heap.size w'.heap.size v' (zbp (zap ws) t).length (zdh (zbp (zap ws) t)) ∧ Below w.heap.size w w':=by
 obtain ⟨vW,vP,rfl,h1,h2⟩:=h
 obtain ⟨aW,cW,rfl,_,hcW⟩:=h1.shape
 have HW:=zaa hcW
 have HR:=zaa hr
 obtain ⟨aP,cP,rfl,_,_⟩:=h2.shape
 clear h1 h2 hcW hr
 obtain ⟨W,hW⟩:∃ W,W = w.alloc (.cells #[.slice aW ws.length cW,.slice aP ps.length cP] 42):=⟨_,rfl⟩
 have CA:Hid (∀ w',Below W.heap.size W w' → w'.cell? ⟨w.heap.size,0,none⟩ = some (.slice aW ws.length cW)):=fun w' hb => by
  have:w'.heap[w.heap.size]? = some (.cells #[.slice aW ws.length cW,.slice aP ps.length cP] 42 (0,0)):=(hb.block _ (by rw [hW]; simp)).trans (by rw [hW]; exact zah rfl)
  exact (zac this).1
 have BW:Hid (Below w.heap.size w W):=by rw [hW]; exact (Below.refl _ _).alloc (Nat.le_refl _) _
 have hz:w.heap.size ≤ W.heap.size:=BW.out.size
 have START:Hid (InI W (W.alloc (.cells #[] 3)) (.slice (some ⟨W.heap.size,0,none⟩) 0 0) (zbp (zap (ws.take 0)) t)):=⟨World.ownsRow_lit W #[] 0 (Nat.le_refl _) (by simp [maxLen]) (by simp),(Below.refl _ _).alloc (Nat.le_refl _) _⟩
 go_enter Tryz.func119,Tryz.ntmps119
 go_wp2
 rw [hW] at START
 simp only [World.size_alloc] at START
 go_loopw [5,6] (fun vL i wr => ∃ k:Nat,k ≤ ws.length ∧ i = .int .i64 k ∧ Hid (InI W wr vL (zbp (zap (ws.take k)) t))) (fun _ i _ => ws.length - (intOf i).toNat)
 case atStart => exact ⟨0,by omega,rfl,by rw [hW]; exact START.out⟩
 case round =>
  obtain ⟨k,hk,rfl,I⟩:=hrel
  clear START hW
  have x0:=CA.out wr I.out.b
  have hzr:W.heap.size ≤ wr.heap.size:=I.out.z
  have k0:(0:Int) ≤ (k:Int):=by omega
  by_cases hlt:k < ws.length
  ·obtain ⟨b,o,rfl,hbl,hcell⟩:=HW.out (by omega)
   have k1:(k:Int) < (ws.length:Int):=by omega
   have MZ:=zaa (zxp ws t k)
   have MF:=zaa (zxv t hlt)
   have MS:=zaa (fun j (hj:j < 8) => zyi t hlt hj)
   have ML:=zaa (fun j (hj:j ≤ 8) => Nat.le_trans (zlc (ztp ws k j) t) (yabt ws k j hlt hj))
   have ST:Hid (InI W wr u5 (zev ws t k 0)):=by unfold Hid; rw [MZ.out]; exact I.out
   have HM:Hid (∀ w',Below w.heap.size w w' → ∀ j,j < 8 → w'.cell? ⟨b,o + k * 11 + 3 + j,none⟩ = some (.int .i64 (ws[k].map.getD j 0))):=fun w' hb j hj => by
    obtain ⟨a0,a1,a2,a3,a4,a5,a6,a7,a8,a9,a10⟩:=hcell k hlt
    rcases (show j = 0 ∨ j = 1 ∨ j = 2 ∨ j = 3 ∨ j = 4 ∨ j = 5 ∨ j = 6 ∨ j = 7 by omega) with rfl | rfl | rfl | rfl | rfl | rfl | rfl | rfl
    ·exact (hb.cell (p:=⟨b,o + k * 11 + 3,none⟩) hbl).trans a3
    ·exact (hb.cell (p:=⟨b,o + k * 11 + 4,none⟩) hbl).trans a4
    ·exact (hb.cell (p:=⟨b,o + k * 11 + 5,none⟩) hbl).trans a5
    ·exact (hb.cell (p:=⟨b,o + k * 11 + 6,none⟩) hbl).trans a6
    ·exact (hb.cell (p:=⟨b,o + k * 11 + 7,none⟩) hbl).trans a7
    ·exact (hb.cell (p:=⟨b,o + k * 11 + 8,none⟩) hbl).trans a8
    ·exact (hb.cell (p:=⟨b,o + k * 11 + 9,none⟩) hbl).trans a9
    ·exact (hb.cell (p:=⟨b,o + k * 11 + 10,none⟩) hbl).trans a10
   have HZ:Hid (∀ j,j < 8 → 0 ≤ ws[k].map.getD j 0 ∧ ws[k].map.getD j 0 ≤ 1048576):=fun j hj => by
    have e:ws[k].map.getD j 0 = ws[k].map[j]'hj:=by rw [List.getD_eq_getElem?_getD,List.getElem?_eq_getElem (show j < ws[k].map.length from hj)]; rfl
    rw [e]
    exact HR.out k hlt _ (List.getElem_mem _)
   clear I hcell
   generalize ws[k] = x at *
   go_wp2
   clear x0
   go_loopw [5,7] (fun vL i wq => ∃ j:Nat,j ≤ 8 ∧ i = .int .i64 j ∧ Hid (InI W wq vL (zev ws t k j))) (fun _ i _ => 8 - (intOf i).toNat)
   case atStart => exact ⟨0,by omega,rfl,ST⟩
   case round =>
    obtain ⟨j,hj,rfl,J⟩:=hrel
    clear ST
    have y0:=CA.out wr J.out.b
    have JW:=zaa (zab BW.out J.out.b hz)
    have hzj:W.heap.size ≤ wr.heap.size:=J.out.z
    have j0:(0:Int) ≤ (j:Int):=by omega
    by_cases hlj:j < 8
    ·have j1:(j:Int) < 8:=by omega
     have e0:=HM.out wr JW.out j hlj
     obtain ⟨b0,b1⟩:=HZ.out j hlj
     have MJ:=zaa (MS.out j hlj)
     have hlen:(zev ws t k j).length ≤ 8 * ws.length:=ML.out j (by omega)
     generalize x.map.getD j 0 = z at e0 b0 b1 MJ
     by_cases q:z = 0
     ·have q':(z != 0) = false:=by rw [q]; rfl
      have G:Hid (InI W wr u5 (zev ws t k (j + 1))):=by unfold Hid; rw [MJ.out,if_neg (fun h => h.1 q)]; exact J.out
      clear q J MJ
      go_wp2
      go_roundw
      case rel => exact ⟨j + 1,by omega,by go_num,G⟩
      case measure => simp [intOf]; omega
     ·have q':(z != 0) = true:=by rw [bne_iff_ne]; exact q
      by_cases r:z % 4 = t
      ·have r':(z % 4 == t) = true:=by rw [beq_iff_eq]; exact r
       have JB:Hid (InI W (wr.alloc (.cells #[.int .i64 (z / 4)] 3)) u5 (zev ws t k j)):=J.out.below ((Below.refl _ _).alloc (Nat.le_refl _) _)
       have RB:=zaa (yafd wr (z / 4))
       have hzb:=JB.out.z
       have MN:Hid (zev ws t k (j + 1) = zev ws t k j ++ [z / 4]):=by unfold Hid; rw [MJ.out,if_pos ⟨q,r⟩]
       clear q r J MJ
       go_wp2_with (at_builtin; refine zae _ rfl (.tmp 37) (.tmp 40) 23 rfl W.heap.size 3 (.int .i64 0) 1 8 Tryz.underlying23 zld rfl (by decide) _ _ _ rfl JB.out.l _ 1 _ rfl RB.out (zzf _) (by simp [maxLen]; omega) (by omega) (by omega) ?_)
       intro vN wN hownN hgrN
       have G:=zaa (JB.out.grow (z / 4) hownN hgrN)
       rw [← MN.out] at G
       clear hownN hgrN JB RB
       go_wp2
       go_roundw
       case rel => exact ⟨j + 1,by omega,by go_num,G⟩
       case measure => simp [intOf]; omega
      ·have r':(z % 4 == t) = false:=by rw [beq_eq_false_iff_ne]; exact r
       have G:Hid (InI W wr u5 (zev ws t k (j + 1))):=by unfold Hid; rw [MJ.out,if_neg (fun h => r h.2)]; exact J.out
       clear q r J MJ
       go_wp2
       go_roundw
       case rel => exact ⟨j + 1,by omega,by go_num,G⟩
       case measure => simp [intOf]; omega
    ·obtain rfl:j = 8:=by omega
     have G:Hid (InI W wr u5 (zbp (zap (ws.take (k + 1))) t)):=by unfold Hid; rw [← MF.out]; exact J.out
     clear J
     go_wp2
     go_roundw
     case rel => exact ⟨k + 1,by omega,by go_num,G⟩
     case measure => simp [intOf]; omega
  ·obtain rfl:k = ws.length:=by omega
   have E:=zaa (show zbp (zap (ws.take ws.length)) t = zbp (zap ws) t by rw [List.take_length])
   rw [E.out] at I
   obtain ⟨-,aL,cL,hvL,-⟩:=(zad I.out.l).rd
   subst hvL
   go_wp2
   go_ret
   exact ⟨_,rfl,(zad I.out.l).wide hz (Nat.le_refl _),zab BW.out I.out.b hz⟩
def zwt (ws:List Ino):Bool:=decide (∀ k (h:k < ws.length),zdy ws[k] = true)
theorem yaft {ws:List Ino} (h:∀ k (h:k < ws.length),zdy ws[k] = true):zwt ws = true:=decide_eq_true h
theorem yaas {ws:List Ino} {k:Nat} (hk:k < ws.length) (h:zdy ws[k] = false):zwt ws = false:=decide_eq_false (fun x => by have:=x k hk; rw [h] at this; cases this)
theorem yaqq {ps:List Den} (h:∀ k (h:k < ps.length),ps[k].okB = true):okDs ps = true:=decide_eq_true h
theorem yann {ps:List Den} {k:Nat} (hk:k < ps.length) (h:ps[k].okB = false):okDs ps = false:=decide_eq_false (fun x => by have:=x k hk; rw [h] at this; cases this)
set_option maxRecDepth 100000 in
set_option maxHeartbeats 4000000 in
theorem zpq (v:Value) (ws:List Ino) (w:World) (h:RdN w v ws) (hn:ws.length ≤ 1048576) (hT:TS w) (hE:ED w) (hr:∀ k (h:k < ws.length),ws[k].R) :
  Calls Tryz.prog 107 #[v,.func (.func 108) #[] #[]] w fun e w' => e = .returned (.bool (zwt ws)) ∧ Below w.heap.size w w':=by
 obtain ⟨aW,cW,rfl,_,hcW⟩:=h.shape
 have HW:=zaa hcW
 have T:=zaa hT
 have E0:=zaa hE
 have HR:=zaa hr
 clear h hcW hT hE hr
 go_enter Tryz.func107,Tryz.ntmps107
 go_wp2
 go_loopw [6,9] (fun _ i wr => ∃ k:Nat,k ≤ ws.length ∧ i = .int .i64 k ∧ Hid (Below w.heap.size w wr ∧ ∀ j (h:j < ws.length),j < k → zdy ws[j] = true)) (fun _ i _ => ws.length - (intOf i).toNat)
 case atStart => exact ⟨0,by omega,rfl,Below.refl _ _,fun j h a => absurd a (by omega)⟩
 case round =>
  obtain ⟨k,hk,rfl,H⟩:=hrel
  have H1:=zaa H.out.1
  have hz:w.heap.size ≤ wr.heap.size:=H.out.1.size
  by_cases hlt:k < ws.length
  ·obtain ⟨b,o,rfl,hbl,hcell⟩:=HW.out (by omega)
   obtain ⟨a0,a1,a2,a3,a4,a5,a6,a7,a8,a9,a10⟩:=hcell k hlt
   have d0:=(H1.out.cell (p:=⟨b,o + k * 11,none⟩) hbl).trans a0
   have d1:=(H1.out.cell (p:=⟨b,o + k * 11 + 1,none⟩) hbl).trans a1
   have d2:=(H1.out.cell (p:=⟨b,o + k * 11 + 2,none⟩) hbl).trans a2
   have d3:=(H1.out.cell (p:=⟨b,o + k * 11 + 3,none⟩) hbl).trans a3
   have d4:=(H1.out.cell (p:=⟨b,o + k * 11 + 4,none⟩) hbl).trans a4
   have d5:=(H1.out.cell (p:=⟨b,o + k * 11 + 5,none⟩) hbl).trans a5
   have d6:=(H1.out.cell (p:=⟨b,o + k * 11 + 6,none⟩) hbl).trans a6
   have d7:=(H1.out.cell (p:=⟨b,o + k * 11 + 7,none⟩) hbl).trans a7
   have d8:=(H1.out.cell (p:=⟨b,o + k * 11 + 8,none⟩) hbl).trans a8
   have d9:=(H1.out.cell (p:=⟨b,o + k * 11 + 9,none⟩) hbl).trans a9
   have d10:=(H1.out.cell (p:=⟨b,o + k * 11 + 10,none⟩) hbl).trans a10
   have k0:(0:Int) ≤ (k:Int):=by omega
   have k1:(k:Int) < (ws.length:Int):=by omega
   have B2:=zaa (H1.out.alloc hz (.cells ws[k].cs.toArray 66))
   have LI:=zaa (fun w1 (h:Below w.heap.size w w1) => zym ws[k] w1 (T.out.below h) (E0.out.below h) (HR.out k hlt))
   have H2:Hid (∀ j (h:j < ws.length),j < k → zdy ws[j] = true):=H.out.2
   clear a0 a1 a2 a3 a4 a5 a6 a7 a8 a9 a10 hcell H
   cases q:zdy ws[k] with
   | true =>
    have H':Hid (∀ j (h:j < ws.length),j < k + 1 → zdy ws[j] = true):=fun j h a => by
     by_cases e:j = k
     ·subst e; exact q
     ·exact H2.out j h (by omega)
    rw [q] at LI
    clear q H2
    generalize ws[k] = x at d0 d1 d2 d3 d4 d5 d6 d7 d8 d9 d10 B2 LI
    go_wp2_with fail
    refine (LI.out _ B2.out).mono ?_
    rintro e w1 ⟨rfl,hb1⟩
    have B3:=zaa (zab B2.out hb1 B2.out.size)
    clear hb1 d0 d1 d2 d3 d4 d5 d6 d7 d8 d9 d10
    go_wp2
    go_roundw
    case rel => exact ⟨k + 1,by omega,by go_num,B3.out,H'.out⟩
    case measure => simp [intOf]; omega
   | false =>
    have E:=zaa (yaas hlt q)
    rw [q] at LI
    clear q H2
    generalize ws[k] = x at d0 d1 d2 d3 d4 d5 d6 d7 d8 d9 d10 B2 LI
    go_wp2_with fail
    refine (LI.out _ B2.out).mono ?_
    rintro e w1 ⟨rfl,hb1⟩
    have B3:=zaa (zab B2.out hb1 B2.out.size)
    clear hb1 d0 d1 d2 d3 d4 d5 d6 d7 d8 d9 d10
    go_wp2
    go_ret
    exact ⟨zag E.out.symm,B3.out⟩
  ·have E:=zaa (yaft (fun j h => H.out.2 j h (by omega)))
   clear H
   go_wp2
   go_ret
   exact ⟨zag E.out.symm,H1.out⟩
set_option maxRecDepth 100000 in
set_option maxHeartbeats 4000000 in
theorem zng (v:Value) (ps:List Den) (w:World) (h:RdD w v ps) (hn:ps.length ≤ 1048576) (hF:FD w) (hs:∀ k (h:k < ps.length),ps[k].name.size ≤ maxLen) :
  Calls Tryz.prog 109 #[v,.func (.func 67) #[] #[]] w fun e w' => e = .returned (.bool (okDs ps)) ∧ Below w.heap.size w w':=by
 obtain ⟨aP,cP,rfl,_,hcP⟩:=h.shape
 have HP:=zaa hcP
 have F:=zaa hF
 have HS:=zaa hs
 clear h hcP hF hs
 go_enter Tryz.func109,Tryz.ntmps109
 go_wp2
 go_loopw [6,9] (fun _ i wr => ∃ k:Nat,k ≤ ps.length ∧ i = .int .i64 k ∧ Hid (Below w.heap.size w wr ∧ ∀ j (h:j < ps.length),j < k → ps[j].okB = true)) (fun _ i _ => ps.length - (intOf i).toNat)
 case atStart => exact ⟨0,by omega,rfl,Below.refl _ _,fun j h a => absurd a (by omega)⟩
 case round =>
  obtain ⟨k,hk,rfl,H⟩:=hrel
  have H1:=zaa H.out.1
  have hz:w.heap.size ≤ wr.heap.size:=H.out.1.size
  by_cases hlt:k < ps.length
  ·obtain ⟨b,o,rfl,hbl,hcell⟩:=HP.out (by omega)
   obtain ⟨a0,a1,a2⟩:=hcell k hlt
   have d0:=(H1.out.cell (p:=⟨b,o + k * 3,none⟩) hbl).trans a0
   have d1:=(H1.out.cell (p:=⟨b,o + k * 3 + 1,none⟩) hbl).trans a1
   have d2:=(H1.out.cell (p:=⟨b,o + k * 3 + 2,none⟩) hbl).trans a2
   have k0:(0:Int) ≤ (k:Int):=by omega
   have k1:(k:Int) < (ps.length:Int):=by omega
   have B2:=zaa (H1.out.alloc hz (.cells #[.int .i64 ps[k].dir,.string ps[k].name,.int .i64 ps[k].child] 69))
   have LI:=zaa (fun w1 (h:Below w.heap.size w w1) => zll ps[k] w1 (F.out.below h) (HS.out k hlt))
   have H2:Hid (∀ j (h:j < ps.length),j < k → ps[j].okB = true):=H.out.2
   clear a0 a1 a2 hcell H
   cases q:ps[k].okB with
   | true =>
    have H':Hid (∀ j (h:j < ps.length),j < k + 1 → ps[j].okB = true):=fun j h a => by
     by_cases e:j = k
     ·subst e; exact q
     ·exact H2.out j h (by omega)
    rw [q] at LI
    clear q H2
    generalize ps[k] = x at d0 d1 d2 B2 LI
    go_wp2_with fail
    refine (LI.out _ B2.out).mono ?_
    rintro e w1 ⟨rfl,hb1⟩
    have B3:=zaa (zab B2.out hb1 B2.out.size)
    clear hb1 d0 d1 d2
    go_wp2
    go_roundw
    case rel => exact ⟨k + 1,by omega,by go_num,B3.out,H'.out⟩
    case measure => simp [intOf]; omega
   | false =>
    have E:=zaa (yann hlt q)
    rw [q] at LI
    clear q H2
    generalize ps[k] = x at d0 d1 d2 B2 LI
    go_wp2_with fail
    refine (LI.out _ B2.out).mono ?_
    rintro e w1 ⟨rfl,hb1⟩
    have B3:=zaa (zab B2.out hb1 B2.out.size)
    clear hb1 d0 d1 d2
    go_wp2
    go_ret
    exact ⟨zag E.out.symm,B3.out⟩
  ·have E:=zaa (yaqq (fun j h => H.out.2 j h (by omega)))
   clear H
   go_wp2
   go_ret
   exact ⟨zag E.out.symm,H1.out⟩
def zhg (ws:List Ino) (ps:List Den):Bool:=decide (ws.length = 16) && (decide (ps.length = 24) && (zwt ws && okDs ps))
set_option maxRecDepth 100000 in
set_option maxHeartbeats 4000000 in
theorem zyb (v:Value) (ws:List Ino) (ps:List Den) (w:World) (h:RdIm w v ws ps) (hw:ws.length ≤ 1048576) (hp:ps.length ≤ 1048576) (hT:TS w) (hE:ED w) (hF:FD w) (hr:∀ k (h:k < ws.length),ws[k].R) (hs:∀ k (h:k < ps.length),ps[k].name.size ≤ maxLen) :
  Calls Tryz.prog 54 #[v] w fun e w' => e = .returned (.bool (zhg ws ps)) ∧ Below w.heap.size w w':=by
 obtain ⟨vW,vP,rfl,h1,h2⟩:=h
 have RW:=zaa h1
 have RP:=zaa h2
 obtain ⟨aW,cW,rfl,_,_⟩:=h1.shape
 obtain ⟨aP,cP,rfl,_,_⟩:=h2.shape
 have BW:=zaa ((Below.refl w.heap.size w).alloc (Nat.le_refl _) (.cells #[.slice aW ws.length cW,.slice aP ps.length cP] 42))
 have CA:Hid (∀ w',Below (w.alloc (.cells #[.slice aW ws.length cW,.slice aP ps.length cP] 42)).heap.size (w.alloc (.cells #[.slice aW ws.length cW,.slice aP ps.length cP] 42)) w' → w'.cell? ⟨w.heap.size,0,none⟩ = some (.slice aW ws.length cW) ∧ w'.cell? ⟨w.heap.size,1,none⟩ = some (.slice aP ps.length cP)):=fun w' hb => by
  have:w'.heap[w.heap.size]? = some (.cells #[.slice aW ws.length cW,.slice aP ps.length cP] 42 (0,0)):=(hb.block _ (by simp)).trans (zah rfl)
  exact ⟨(zac this).1,(zac this).2.1⟩
 have LN:=zaa (fun w1 (hb:Below w.heap.size w w1) => zpq (.slice aW ws.length cW) ws w1 (Rd.below RW.out hb) hw (hT.below hb) (hE.below hb) hr)
 have LD:=zaa (fun w1 (hb:Below w.heap.size w w1) => zng (.slice aP ps.length cP) ps w1 (Rd.below RP.out hb) hp (hF.below hb) hs)
 obtain ⟨x0,x1⟩:=CA.out _ (Below.refl _ _)
 clear h1 h2 hT hE hF hr hs
 by_cases c1:ws.length = 16
 case neg =>
  have E:=zaa (show zhg ws ps = false by unfold zhg; rw [decide_eq_false c1]; rfl)
  have q:((ws.length:Int) == 16) = false:=by rw [beq_eq_false_iff_ne]; omega
  clear c1
  go_enter Tryz.func54,Tryz.ntmps54
  go_wp2
  go_ret
  exact ⟨zag E.out.symm,BW.out⟩
 have q:((ws.length:Int) == 16) = true:=by rw [beq_iff_eq]; omega
 by_cases c2:ps.length = 24
 case neg =>
  have E:=zaa (show zhg ws ps = false by unfold zhg; rw [decide_eq_false c2,Bool.false_and,Bool.and_false])
  have q2:((ps.length:Int) == 24) = false:=by rw [beq_eq_false_iff_ne]; omega
  clear c1 c2
  go_enter Tryz.func54,Tryz.ntmps54
  go_wp2
  go_ret
  exact ⟨zag E.out.symm,BW.out⟩
 have q2:((ps.length:Int) == 24) = true:=by rw [beq_iff_eq]; omega
 have E:=zaa (show zhg ws ps = (zwt ws && okDs ps) by unfold zhg; rw [decide_eq_true c1,decide_eq_true c2]; rfl)
 clear c1 c2
 cases q3:zwt ws with
 | false =>
  rw [q3] at E LN
  clear q3
  go_enter Tryz.func54,Tryz.ntmps54
  go_wp2_with fail
  refine (LN.out _ BW.out).mono ?_
  rintro e w1 ⟨rfl,hb1⟩
  have B1:=zaa (zab BW.out hb1 BW.out.size)
  clear hb1 x0 x1
  go_wp2
  go_ret
  exact ⟨zag (by rw [E.out]; rfl),B1.out⟩
 | true =>
  rw [q3] at E LN
  clear q3
  go_enter Tryz.func54,Tryz.ntmps54
  go_wp2_with fail
  refine (LN.out _ BW.out).mono ?_
  rintro e w1 ⟨rfl,hb1⟩
  have B1:=zaa (zab BW.out hb1 BW.out.size)
  clear x0 x1
  obtain ⟨x0,x1⟩:=CA.out _ hb1
  clear hb1
  go_wp2_with fail
  refine (LD.out _ B1.out).mono ?_
  rintro e w2 ⟨rfl,hb2⟩
  have B2:=zaa (zab B1.out hb2 B1.out.size)
  clear hb2 x0 x1
  go_wp2
  go_ret
  exact ⟨zag (by rw [E.out]; rfl),B2.out⟩
@[go_sem] theorem yato (a:Option Addr) (l c:Nat) (w:World):(binOp .eql 40 (.slice a l c) (.slice none 0 0)).run Tryz.prog w = .ok (.bool a.isNone) w:=by
 simp only [binOp]
 simp [run_equal_slice_nil w 40 69 a l c Tryz.underlying40]
set_option maxRecDepth 100000 in
set_option maxHeartbeats 4000000 in
theorem zwp (v:Value) (ps:List Den) (w:World) (h:RdD w v ps) (hn:ps.length ≤ 4096) :
  Calls Tryz.prog 110 #[v] w fun e w' => ∃ v',e = .returned v' ∧ Row w' 69 3 w.heap.size w'.heap.size v' ps.length (dens ps) ∧ Below w.heap.size w w':=by
 have HR:=zaa h
 obtain ⟨ao,cap,rfl,_,hc⟩:=h.shape
 clear h
 cases ao with
 | none =>
  have hl:ps.length = 0:=by
   rcases Nat.eq_zero_or_pos ps.length with e | e
   ·exact e
   ·obtain ⟨b,o,e1,_⟩:=hc e
    cases e1
  have hps:ps = []:=List.eq_nil_of_length_eq_zero hl
  subst hps
  clear hc hl
  go_enter Tryz.func110,Tryz.ntmps110
  go_wp2
  go_ret
  exact ⟨_,rfl,Row.nil _ _ _ _ _,Below.refl _ _⟩
 | some a =>
  have BB:=zaa ((Below.refl w.heap.size w).alloc (Nat.le_refl _) (.cells #[] 69))
  have OB:=zaa (World.ownsRow_lit (e:=69) (size:=3) w #[] 0 (Nat.le_refl _) (by simp [maxLen]) (by simp))
  have RB:Hid (Rd (w.alloc (.cells #[] 69)) 3 (.slice (some a) ps.length cap) ps.length (dens ps)):=Rd.below HR.out BB.out
  have hz:w.heap.size ≤ (w.alloc (.cells #[] 69)).heap.size:=BB.out.size
  clear hc
  go_enter Tryz.func110,Tryz.ntmps110
  go_wp2_with (at_builtin; refine zae _ rfl (.tmp 5) (.tmp 6) 40 rfl w.heap.size 69 (.agg #[.int .i64 0,.string ⟨#[]⟩,.int .i64 0]) 3 32 Tryz.underlying40 znb rfl (by decide) _ 0 [] rfl OB.out _ ps.length (dens ps) rfl RB.out (zhr _) (by simp [maxLen]; omega) (by omega) hz ?_)
  intro vN wN hownN hgrN
  have ON:=zaa hownN
  have BN:=zaa (BB.out.grown hgrN hz (fun q hq => (OB.out.lt q hq).1))
  clear hownN hgrN
  obtain ⟨-,aL,cL,hvL,-⟩:=(zad ON.out).rd
  subst hvL
  go_wp2
  go_ret
  exact ⟨_,rfl,zad ON.out,BN.out⟩
def zgi (ds:List Den) (k:Nat):List Den:=(ds.take k).map zil ++ ds.drop k
theorem zra (ds:List Den) (k:Nat):(zgi ds k).length = ds.length:=by
 unfold zgi
 rw [List.length_append,List.length_map,List.length_take,List.length_drop]
 omega
theorem zyo (ds:List Den):zgi ds 0 = ds:=by simp [zgi]
theorem yaby (ds:List Den):zgi ds ds.length = ds.map zil:=by simp [zgi]
theorem zyq {ds:List Den} {k:Nat} (h:k < ds.length):(dens (zgi ds k)).set (k * 3 + 2) (.int .i64 (-1)) = dens (zgi ds (k + 1)):=by
 have e1:ds.drop k = ds[k] :: ds.drop (k + 1):=List.drop_eq_getElem_cons h
 have l1:(dens ((ds.take k).map zil)).length = k * 3:=by rw [yaay,List.length_map,List.length_take]; congr 1; omega
 unfold zgi
 rw [e1,List.take_succ_eq_append_getElem h,List.map_append,zkv,zkv,zkv,List.set_append_right _ _ (by omega),l1,List.append_assoc]
 congr 1
 rw [show k * 3 + 2 - k * 3 = 2 by omega]
 rfl
theorem yakp (ps:List Den) (k:Nat) (h:k < ps.length):(dens ps)[k * 3 + 2]? = some (.int .i64 ps[k].child):=zbo _ 3 Den.cells_len ps k 2 h (by omega)
set_option maxRecDepth 100000 in
set_option maxHeartbeats 4000000 in
theorem zrw (v:Value) (ds:List Den) (w:World) (h:RdD w v ds) (hn:ds.length ≤ 4096) :
  Calls Tryz.prog 57 #[v] w fun e w' => e = .returned (.bool (zoo (ds.map zil))) ∧ Below w.heap.size w w':=by
 have HR:=zaa h
 obtain ⟨ao,cap,rfl,_,_⟩:=h.shape
 clear h
 go_enter Tryz.func57,Tryz.ntmps57
 go_wp2_with fail
 refine (zwp _ ds _ HR.out hn).mono ?_
 rintro e w1 ⟨vN,rfl,hr1,hb1⟩
 obtain ⟨-,aN,cN,hvN,-⟩:=hr1.rd
 subst hvN
 have R1:=zaa hr1
 have B1:=zaa hb1
 have hz1:w.heap.size ≤ w1.heap.size:=hb1.size
 clear hr1 hb1
 go_wp2
 go_loopw [4,9] (fun _ i wr => ∃ k:Nat,k ≤ ds.length ∧ i = .int .i64 k ∧ Hid (Row wr 69 3 w.heap.size w1.heap.size (.slice aN ds.length cN) ds.length (dens (zgi ds k)) ∧ Below w.heap.size w wr)) (fun _ i _ => ds.length - (intOf i).toNat)
 case atStart => exact ⟨0,by omega,rfl,by rw [zyo]; exact R1.out,B1.out⟩
 case round =>
  obtain ⟨k,hk,rfl,H⟩:=hrel
  by_cases hlt:k < ds.length
  ·rcases Row.shape H.out.1 with ⟨_,e,_⟩ | ⟨b,cap',e,_,_⟩
   ·exact absurd e (by omega)
   obtain ⟨rfl,rfl⟩:aN = some ⟨b,0,none⟩ ∧ cN = cap':=by cases e; exact ⟨rfl,rfl⟩
   obtain ⟨_,l1,l2,l3,fr,ce⟩:=Row.at H.out.1
   have f0:=fr (k * 3 + 2)
   have c0:=(ce (k * 3 + 2) (by omega)).trans (yakp (zgi ds k) k (by rw [zra]; exact hlt))
   have k0:(0:Int) ≤ (k:Int):=by omega
   have k1:(k:Int) < (ds.length:Int):=by omega
   have G:Hid (Row (wr.setCell ⟨b,k * 3 + 2,none⟩ (.int .i64 (-1))) 69 3 w.heap.size w1.heap.size (.slice (some ⟨b,0,none⟩) ds.length cN) ds.length (dens (zgi ds (k + 1))) ∧ Below w.heap.size w (wr.setCell ⟨b,k * 3 + 2,none⟩ (.int .i64 (-1)))):=by
    refine ⟨?_,H.out.2.setCell l1 _⟩
    rw [← zyq hlt]
    exact Row.stored H.out.1 _ _
   clear H fr ce R1 e
   generalize ((zgi ds k)[k]'(by rw [zra]; exact hlt)).child = z at c0
   go_wp2
   go_roundw
   case rel => exact ⟨k + 1,by omega,by go_num,G⟩
   case measure => simp [intOf]; omega
  ·obtain rfl:k = ds.length:=by omega
   have LA:=zaa (yaby ds)
   rw [LA.out] at H
   have R2:Hid (RdD wr (.slice aN ds.length cN) (ds.map zil)):=by
    unfold Hid RdD
    rw [List.length_map]
    exact H.out.1.rd
   have B2:=zaa H.out.2
   have hl:(ds.map zil).length ≤ 1048576:=by rw [List.length_map]; omega
   have HL:=zaa hl
   clear H hl
   go_wp2_with fail
   refine (zmb _ (ds.map zil) _ R2.out HL.out).mono ?_
   rintro e w2 ⟨rfl,hb2⟩
   have B3:=zaa (zab B2.out hb2 B2.out.size)
   clear hb2
   go_wp2
   go_ret
   exact ⟨rfl,B3.out⟩
theorem yalw {ws:List Ino} {ts:List Den} (h:∀ k (h:k < ts.length),fitB ws ts[k] = true):zpo ws ts = true:=decide_eq_true h
theorem yagh {ws:List Ino} {ts:List Den} {k:Nat} (hk:k < ts.length) (h:fitB ws ts[k] = false):zpo ws ts = false:=decide_eq_false (fun x => by have:=x k hk; rw [h] at this; cases this)
set_option maxRecDepth 100000 in
set_option maxHeartbeats 4000000 in
theorem zvc (vW v:Value) (ws:List Ino) (ts:List Den) (w:World) (hw:RdN w vW ws) (h:RdD w v ts) (hl:ws.length = 16) (hn:ts.length ≤ 4096) (hT:∀ k (h:k < ts.length),(0 ≤ ts[k].child ∧ ts[k].child ≤ 15) ∧ (0 ≤ ts[k].dir ∧ ts[k].dir ≤ 15)) :
  Calls Tryz.prog 56 #[vW,v] w fun e w' => e = .returned (.bool (zpo ws ts)) ∧ Below w.heap.size w w':=by
 obtain ⟨aW,cW,rfl,_,hcW⟩:=hw.shape
 obtain ⟨aP,cP,rfl,_,hcP⟩:=h.shape
 have HW:=zaa hcW
 have HP:=zaa hcP
 have HT:=zaa hT
 have HL:=zaa hl
 have hl':(16:Int) ≤ (ws.length:Int):=by omega
 clear h hw hcW hcP hT hl
 go_enter Tryz.func56,Tryz.ntmps56
 go_wp2
 go_loopw [6,9] (fun _ i wr => ∃ k:Nat,k ≤ ts.length ∧ i = .int .i64 k ∧ Hid (Below w.heap.size w wr ∧ ∀ j (h:j < ts.length),j < k → fitB ws ts[j] = true)) (fun _ i _ => ts.length - (intOf i).toNat)
 case atStart => exact ⟨0,by omega,rfl,Below.refl _ _,fun j h a => absurd a (by omega)⟩
 case round =>
  obtain ⟨k,hk,rfl,H⟩:=hrel
  have H1:=zaa H.out.1
  have hz:w.heap.size ≤ wr.heap.size:=H.out.1.size
  by_cases hlt:k < ts.length
  ·obtain ⟨b,o,rfl,hbl,hcell⟩:=HP.out (by omega)
   obtain ⟨bW,oW,rfl,hblW,hcellW⟩:=HW.out (by have:=HL.out; omega)
   obtain ⟨a0,a1,a2⟩:=hcell k hlt
   have d0:=(H1.out.cell (p:=⟨b,o + k * 3,none⟩) hbl).trans a0
   have d1:=(H1.out.cell (p:=⟨b,o + k * 3 + 1,none⟩) hbl).trans a1
   have d2:=(H1.out.cell (p:=⟨b,o + k * 3 + 2,none⟩) hbl).trans a2
   have k0:(0:Int) ≤ (k:Int):=by omega
   have k1:(k:Int) < (ts.length:Int):=by omega
   obtain ⟨⟨c1,c2⟩,c3,c4⟩:=HT.out k hlt
   have H2:Hid (fitB ws ts[k] = true → ∀ j (h:j < ts.length),j < k + 1 → fitB ws ts[j] = true):=fun q j h a => by
    by_cases e:j = k
    ·subst e; exact q
    ·exact H.out.2 j h (by omega)
   have H3:=zaa (fun q => yagh (ws:=ws) hlt q)
   clear a0 a1 a2 hcell H
   generalize ts[k] = x at *
   obtain ⟨xd,xs,xc⟩:=x
   simp only at d0 d1 d2 c1 c2 c3 c4
   obtain ⟨d,rfl⟩:∃ d:Nat,xd = (d:Int):=⟨xd.toNat,by omega⟩
   obtain ⟨c,rfl⟩:∃ c:Nat,xc = (c:Int):=⟨xc.toNat,by omega⟩
   have hd:d < ws.length:=by omega
   have hc:c < ws.length:=by omega
   have B2:=zaa (H1.out.alloc hz (.cells #[.int .i64 (d:Int),.string xs,.int .i64 (c:Int)] 69))
   have g0:=(B2.out.cell (p:=⟨bW,oW + d * 11,none⟩) hblW).trans (hcellW d hd).1
   have g1:=(B2.out.cell (p:=⟨bW,oW + c * 11,none⟩) hblW).trans (hcellW c hc).1
   have FB:=zaa (show fitB ws ⟨(d:Int),xs,(c:Int)⟩ = (ws[d].kind == 2 && !(ws[c].kind == 0)) by unfold fitB; rw [zbn hd,zbn hc])
   have d5:(d:Int) < (ws.length:Int):=by omega
   have c5:(c:Int) < (ws.length:Int):=by omega
   clear hcellW
   generalize ws[d].kind = kd at g0 FB
   generalize ws[c].kind = kc at g1 FB
   by_cases q:kd = 2
   ·have q1:(kd != 2) = false:=by rw [q]; rfl
    by_cases r:kc = 0
    ·have r1:(kc == 0) = true:=by rw [r]; rfl
     have E:=zaa (H3.out (by rw [FB.out,r1]; simp))
     clear q r H2 H3 FB
     go_wp2
     go_ret
     exact ⟨zag E.out.symm,B2.out⟩
    ·have r1:(kc == 0) = false:=by rw [beq_eq_false_iff_ne]; exact r
     have E:=zaa (H2.out (by rw [FB.out,r1,q]; rfl))
     clear q r H2 H3 FB
     go_wp2
     go_roundw
     case rel => exact ⟨k + 1,by omega,by go_num,B2.out,E.out⟩
     case measure => simp [intOf]; omega
   ·have q1:(kd != 2) = true:=by rw [bne_iff_ne]; exact q
    have E:=zaa (H3.out (by rw [FB.out,show (kd == 2) = false by rw [beq_eq_false_iff_ne]; exact q]; rfl))
    clear q H2 H3 FB
    go_wp2
    go_ret
    exact ⟨zag E.out.symm,B2.out⟩
  ·have E:=zaa (yalw (ws:=ws) (fun j h => H.out.2 j h (by omega)))
   clear H
   go_wp2
   go_ret
   exact ⟨zag E.out.symm,H1.out⟩
def zwr (ts:List Den) (k j:Nat):Int:=(if j = 0 then 1 else 0) + (zlr ts j k:Int)
def lnkC (ts:List Den) (k:Nat):List Value:=(List.range 16).map fun j => .int .i64 (zwr ts k j)
theorem zrn (ts:List Den) (k j:Nat) (h:j < 16):(lnkC ts k)[j]? = some (.int .i64 (zwr ts k j)):=by
 unfold lnkC
 rw [List.getElem?_map,List.getElem?_range h]
 rfl
theorem yacc (ts:List Den) (k j:Nat):0 ≤ zwr ts k j ∧ zwr ts k j ≤ 1 + k:=by
 have:=yagn ts j k
 unfold zwr
 split <;> omega
theorem yagz {ts:List Den} {k c:Nat} (hk:k < ts.length) (hc:c < 16) (e:ts[k].child = (c:Int)):(lnkC ts k).set c (.int .i64 (zwr ts k c + 1)) = lnkC ts (k + 1):=by
 apply List.ext_getElem?
 intro j
 have hl:(lnkC ts k).length = 16:=by simp [lnkC]
 by_cases hj:j < 16
 ·rw [yajf (by omega),zrn ts (k + 1) j hj,zrn ts k j hj]
  by_cases h:j = c
  ·subst h
   rw [if_pos rfl]
   unfold zwr
   rw [zkm hk,e]
   simp
   omega
  ·rw [if_neg h]
   unfold zwr
   rw [zkm hk,e]
   have:((c:Int) == (j:Int)) = false:=by rw [beq_eq_false_iff_ne]; omega
   rw [this]
   simp
 ·rw [List.getElem?_eq_none (by simp [lnkC]; omega),List.getElem?_eq_none (by simp [lnkC]; omega)]
theorem yatz {ws:List Ino} {ts:List Den} (h:∀ i (h:i < ws.length),ws[i].links = zwr ts ts.length i):lcB ws ts = true:=decide_eq_true h
theorem yark {ws:List Ino} {ts:List Den} {i:Nat} (hi:i < ws.length) (h:¬ ws[i].links = zwr ts ts.length i):lcB ws ts = false:=decide_eq_false (fun x => h (x i hi))
set_option maxRecDepth 100000 in
set_option maxHeartbeats 4000000 in
theorem zmd (vW v:Value) (ws:List Ino) (ts:List Den) (w:World) (hw:RdN w vW ws) (h:RdD w v ts) (hl:ws.length = 16) (hn:ts.length ≤ 4096) (hT:∀ k (h:k < ts.length),0 ≤ ts[k].child ∧ ts[k].child ≤ 15) :
  Calls Tryz.prog 58 #[vW,v] w fun e w' => e = .returned (.bool (lcB ws ts)) ∧ Below w.heap.size w w':=by
 obtain ⟨aW,cW,rfl,_,hcW⟩:=hw.shape
 obtain ⟨aP,cP,rfl,_,hcP⟩:=h.shape
 have HW:=zaa hcW
 have HP:=zaa hcP
 have HT:=zaa hT
 have HL:=zaa hl
 have S0:Hid ((w.alloc (.cells #[.int .i64 1,.int .i64 0,.int .i64 0,.int .i64 0,.int .i64 0,.int .i64 0,.int .i64 0,.int .i64 0,.int .i64 0,.int .i64 0,.int .i64 0,.int .i64 0,.int .i64 0,.int .i64 0,.int .i64 0,.int .i64 0] 165)).heap[w.heap.size]? = some (.cells (lnkC ts 0).toArray 165 (0,0)) ∧ Below w.heap.size w (w.alloc (.cells #[.int .i64 1,.int .i64 0,.int .i64 0,.int .i64 0,.int .i64 0,.int .i64 0,.int .i64 0,.int .i64 0,.int .i64 0,.int .i64 0,.int .i64 0,.int .i64 0,.int .i64 0,.int .i64 0,.int .i64 0,.int .i64 0] 165))):=⟨zah rfl,(Below.refl _ _).alloc (Nat.le_refl _) _⟩
 clear h hw hcW hcP hT hl
 go_enter Tryz.func58,Tryz.ntmps58
 go_wp2
 go_loopw [7,13] (fun _ i wr => ∃ k:Nat,k ≤ ts.length ∧ i = .int .i64 k ∧ Hid (wr.heap[w.heap.size]? = some (.cells (lnkC ts k).toArray 165 (0,0)) ∧ Below w.heap.size w wr)) (fun _ i _ => ts.length - (intOf i).toNat)
 case atStart => exact ⟨0,by omega,rfl,S0⟩
 case round =>
  obtain ⟨k,hk,rfl,I⟩:=hrel
  have hz:w.heap.size ≤ wr.heap.size:=I.out.2.size
  have hzz:w.heap.size < wr.heap.size:=(Array.getElem?_eq_some_iff.1 I.out.1).1
  clear S0
  by_cases hlt:k < ts.length
  ·obtain ⟨b,o,rfl,hbl,hcell⟩:=HP.out (by omega)
   obtain ⟨a0,a1,a2⟩:=hcell k hlt
   have d0:=(I.out.2.cell (p:=⟨b,o + k * 3,none⟩) hbl).trans a0
   have d1:=(I.out.2.cell (p:=⟨b,o + k * 3 + 1,none⟩) hbl).trans a1
   have d2:=(I.out.2.cell (p:=⟨b,o + k * 3 + 2,none⟩) hbl).trans a2
   have k0:(0:Int) ≤ (k:Int):=by omega
   have k1:(k:Int) < (ts.length:Int):=by omega
   obtain ⟨c1,c2⟩:=HT.out k hlt
   obtain ⟨c,hc⟩:∃ c:Nat,ts[k].child = (c:Int):=⟨ts[k].child.toNat,by omega⟩
   have LS:=zaa (yagz hlt (c:=c) (by omega) hc)
   rw [hc] at d2 c1 c2
   obtain ⟨v0,v1⟩:=yacc ts k c
   have LA:=zaa (zrn ts k c (by omega))
   have g1:=(zao I.out.1 c).1.trans LA.out
   have g2:=(zao I.out.1 c).2
   clear a0 a1 a2 hcell hc
   generalize ts[k].dir = xd at *
   generalize ts[k].name = xs at *
   generalize zwr ts k c = z at *
   have BA:Hid (Below wr.heap.size wr (wr.alloc (.cells #[.int .i64 xd,.string xs,.int .i64 (c:Int)] 69))):=(Below.refl _ _).alloc (Nat.le_refl _) _
   have g3:=(BA.out.cell (p:=⟨w.heap.size,c,none⟩) hzz).trans g1
   have g4:(wr.alloc (.cells #[.int .i64 xd,.string xs,.int .i64 (c:Int)] 69)).frozen? ⟨w.heap.size,c,none⟩ = false:=(zao (zak I.out.1) c).2
   have c16:(c:Int) < 16:=by omega
   have G:Hid (((wr.setCell ⟨w.heap.size,c,none⟩ (.int .i64 (z + 1))).alloc (.cells #[.int .i64 xd,.string xs,.int .i64 (c:Int)] 69)).heap[w.heap.size]? = some (.cells (lnkC ts (k + 1)).toArray 165 (0,0)) ∧ Below w.heap.size w ((wr.setCell ⟨w.heap.size,c,none⟩ (.int .i64 (z + 1))).alloc (.cells #[.int .i64 xd,.string xs,.int .i64 (c:Int)] 69))):=by
    refine ⟨?_,(I.out.2.setCell (Nat.le_refl _) _).alloc (by simp; omega) _⟩
    rw [← LS.out]
    exact zak (zch I.out.1 c _)
   clear I LS LA BA
   go_wp2
   go_roundw
   case rel => exact ⟨k + 1,by omega,by go_num,G⟩
   case measure => simp [intOf]; omega
  ·obtain rfl:k = ts.length:=by omega
   have START:Hid (Below wr.heap.size wr wr):=Below.refl _ _
   have HC:Hid (∀ w',Below wr.heap.size wr w' → ∀ j,j < 16 → w'.cell? ⟨w.heap.size,j,none⟩ = some (.int .i64 (zwr ts ts.length j))):=fun w' hb j hj => by
    have:=(hb.block _ hzz).trans I.out.1
    exact (zao this j).1.trans (zrn ts ts.length j hj)
   have BW:=zaa I.out.2
   generalize hV:wr = V at *
   clear hV I
   go_wp2
   go_loopw [8,9,26] (fun _ _ i wq => ∃ m:Nat,m ≤ ws.length ∧ i = .int .i64 m ∧ Hid (Below V.heap.size V wq ∧ ∀ j (h:j < ws.length),j < m → ws[j].links = zwr ts ts.length j)) (fun _ _ i _ => ws.length - (intOf i).toNat)
   case atStart => exact ⟨0,by omega,rfl,START.out,fun j h a => absurd a (by omega)⟩
   case round =>
    obtain ⟨m,hm,rfl,J⟩:=hrel
    have J1:=zaa J.out.1
    have JW:=zaa (zab BW.out J.out.1 hz)
    have hzq:V.heap.size ≤ wr.heap.size:=J.out.1.size
    by_cases hlm:m < ws.length
    ·obtain ⟨b,o,rfl,hbl,hcell⟩:=HW.out (by omega)
     obtain ⟨a0,a1,a2,a3,a4,a5,a6,a7,a8,a9,a10⟩:=hcell m hlm
     have d0:=(JW.out.cell (p:=⟨b,o + m * 11,none⟩) hbl).trans a0
     have d1:=(JW.out.cell (p:=⟨b,o + m * 11 + 1,none⟩) hbl).trans a1
     have d2:=(JW.out.cell (p:=⟨b,o + m * 11 + 2,none⟩) hbl).trans a2
     have d3:=(JW.out.cell (p:=⟨b,o + m * 11 + 3,none⟩) hbl).trans a3
     have d4:=(JW.out.cell (p:=⟨b,o + m * 11 + 4,none⟩) hbl).trans a4
     have d5:=(JW.out.cell (p:=⟨b,o + m * 11 + 5,none⟩) hbl).trans a5
     have d6:=(JW.out.cell (p:=⟨b,o + m * 11 + 6,none⟩) hbl).trans a6
     have d7:=(JW.out.cell (p:=⟨b,o + m * 11 + 7,none⟩) hbl).trans a7
     have d8:=(JW.out.cell (p:=⟨b,o + m * 11 + 8,none⟩) hbl).trans a8
     have d9:=(JW.out.cell (p:=⟨b,o + m * 11 + 9,none⟩) hbl).trans a9
     have d10:=(JW.out.cell (p:=⟨b,o + m * 11 + 10,none⟩) hbl).trans a10
     have m0:(0:Int) ≤ (m:Int):=by omega
     have m1:(m:Int) < (ws.length:Int):=by omega
     have m16:(m:Int) < 16:=by have:=HL.out; omega
     have B2:=zaa (J1.out.alloc hzq (.cells ws[m].cs.toArray 66))
     have l1:=HC.out _ B2.out m (by omega)
     have J2:Hid (ws[m].links = zwr ts ts.length m → ∀ j (h:j < ws.length),j < m + 1 → ws[j].links = zwr ts ts.length j):=fun q j h a => by
      by_cases e:j = m
      ·subst e; exact q
      ·exact J.out.2 j h (by omega)
     have J3:=zaa (fun q => yark (ts:=ts) hlm q)
     clear a0 a1 a2 a3 a4 a5 a6 a7 a8 a9 a10 hcell J
     generalize zwr ts ts.length m = z at l1 J2 J3
     generalize ws[m] = x at d0 d1 d2 d3 d4 d5 d6 d7 d8 d9 d10 B2 l1 J2 J3
     have BF:=zaa (zab BW.out B2.out hz)
     unfold Ino.cs at B2 BF l1
     by_cases q:x.links = z
     ·have q1:(x.links != z) = false:=by rw [q]; simp
      have E:=zaa (J2.out q)
      clear q J2 J3
      go_wp2
      go_quiet (fail)
      go_wp2
      go_roundw
      case rel => exact ⟨m + 1,by omega,by go_num,zgn B2.out _,E.out⟩
      case measure => simp [intOf]; omega
     ·have q1:(x.links != z) = true:=by rw [bne_iff_ne]; exact q
      have E:=zaa (J3.out q)
      clear q J2 J3
      go_wp2
      go_quiet (fail)
      go_wp2
      go_ret
      exact ⟨zag E.out.symm,zgn BF.out _⟩
    ·have E:=zaa (yatz (ts:=ts) (fun j h => J.out.2 j h (by omega)))
     clear J
     go_wp2
     go_ret
     exact ⟨zag E.out.symm,JW.out⟩
end Go.Proofs.YtkdjfhkalelafaaGreatDoor
