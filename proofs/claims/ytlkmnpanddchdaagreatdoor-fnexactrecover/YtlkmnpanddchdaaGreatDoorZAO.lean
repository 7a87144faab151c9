/- Several texts laid together: PiG, PiH, TrA, ImL, PiJ. -/
import Derived.Test.YtlkmnpanddchdaaGreatDoorZAJ
import Derived.Test.YtlkmnpanddchdaaGreatDoorZAN
import Derived.Test.YtlkmnpanddchdaaGreatDoorZAD
namespace Go.Proofs.YtlkmnpanddchdaaGreatDoor
open Go.RowKit
theorem yauo {zs:List Int} {n:Int} {k:Nat} (hk:k < zs.length) (h:n = zs[k]):zsz zs n = true:=by
 unfold zsz
 rw [List.contains_eq_any_beq,List.any_eq_true]
 exact ⟨zs[k],List.getElem_mem _,by rw [h]; simp⟩
set_option maxHeartbeats 2000000 in
theorem zxz (v:Value) (zs:List Int) (n:Int) (w:World) (h:RdI w v zs) (hn:zs.length ≤ 1048576) :
  Calls Tryz.prog 214 #[v,.int .i64 n] w fun e w' => ∃ r:Int,e = .returned (.int .i64 r) ∧ (decide (0 ≤ r) = zsz zs n) ∧ w' = w:=by
 obtain ⟨aZ,cZ,rfl,_,hcZ⟩:=h.shape
 have HZ:=zaa hcZ
 clear h hcZ
 go_enter Tryz.func214,Tryz.ntmps214
 go_wp2
 go_loop [5,8] (fun _ i => ∃ k:Nat,k ≤ zs.length ∧ i = .int .i64 k ∧ Hid (∀ j (h:j < zs.length),j < k → ¬ zs[j] = n)) (fun _ i => zs.length - (intOf i).toNat)
 case atStart => exact ⟨0,by omega,rfl,fun j h a => absurd a (by omega)⟩
 case round =>
  obtain ⟨k,hk,rfl,H⟩:=hrel
  by_cases hlt:k < zs.length
  ·obtain ⟨b,o,rfl,hbl,hcell⟩:=HZ.out (by omega)
   have hck:=hcell k hlt
   clear hcell
   by_cases q:n = zs[k]
   ·have q':(n == zs[k]) = true:=by rw [beq_iff_eq]; exact q
    have E:=zaa (yauo hlt q)
    clear q H
    generalize zs[k] = z at *
    go_wp2
    go_ret
    exact ⟨_,rfl,by rw [E.out]; exact decide_eq_true (by omega),rfl⟩
   ·have q':(n == zs[k]) = false:=by rw [beq_eq_false_iff_ne]; exact q
    have H':Hid (∀ j (h:j < zs.length),j < k + 1 → ¬ zs[j] = n):=fun j h a => by
     by_cases e:j = k
     ·subst e; exact fun e => q e.symm
     ·exact H.out j h (by omega)
    clear q H
    generalize zs[k] = z at hck q'
    go_wp2
    go_round
    case rel => exact ⟨k + 1,by omega,by go_num,H'⟩
    case measure => simp [intOf]; omega
  ·have E:=zaa (yaih (fun j h => H.out j h (by omega)))
   clear H
   go_wp2
   go_ret
   exact ⟨_,rfl,by rw [E.out]; rfl,rfl⟩
theorem zih (v:Value) (zs:List Int) (n:Int) (w:World) (h:RdI w v zs) (hn:zs.length ≤ 1048576) :
  Calls Tryz.prog 204 #[v,.int .i64 n] w fun e w' => e = .returned (.bool (zsz zs n)) ∧ w' = w:=by
 have HZ:=zaa h
 obtain ⟨aZ,cZ,rfl,_,_⟩:=h.shape
 clear h
 go_enter Tryz.func204,Tryz.ntmps204
 go_wp2_with fail
 refine (zxz _ zs n _ HZ.out hn).mono ?_
 rintro e w' ⟨r,rfl,hr,hw'⟩
 subst w'
 have R:=zaa hr
 clear hr
 go_wp2
 go_ret
 exact ⟨zae R.out,rfl⟩
theorem Rd.take {w:World} {size:Nat} {ao:Option Addr} {n c:Nat} {xs:List Value} {m:Nat} (h:Rd w size (.slice ao n c) n xs) (hm:m ≤ n):Rd w size (.slice ao m c) m (xs.take (m * size)):=by
 obtain ⟨h1,ao',cap,e,h2,h3⟩:=h
 cases e
 have hms:m * size ≤ n * size:=Nat.mul_le_mul_right _ hm
 refine ⟨by rw [List.length_take,h1]; omega,ao,c,rfl,⟨by omega,h2.2⟩,fun hp => ?_⟩
 obtain ⟨b,o,e1,e2,e3⟩:=h3 (by omega)
 exact ⟨b,o,e1,e2,fun j hj => by rw [e3 j (by omega),List.getElem?_take,if_pos hj]⟩
theorem RdI.take {w:World} {ao:Option Addr} {c:Nat} {zs:List Int} {m:Nat} (h:RdI w (.slice ao zs.length c) zs) (hm:m ≤ zs.length):RdI w (.slice ao m c) (zs.take m):=by
 have:=Rd.take h hm
 unfold RdI
 have e:(zs.take m).length = m:=by rw [List.length_take]; omega
 have e2:zav (zs.take m) = (zav zs).take (m * 1):=by rw [Nat.mul_one]; simp [zav,List.map_take]
 rw [e,e2]
 exact this
def zgb (zs:List Int):Bool:=decide (∀ k (h:k < zs.length),zsz (zs.take k) zs[k] = false)
theorem yacq {zs:List Int} (h:∀ k (h:k < zs.length),zsz (zs.take k) zs[k] = false):zgb zs = true:=decide_eq_true h
theorem zwx {zs:List Int} {k:Nat} (hk:k < zs.length) (h:zsz (zs.take k) zs[k] = true):zgb zs = false:=decide_eq_false (fun x => by have:=x k hk; rw [h] at this; cases this)
set_option maxHeartbeats 2000000 in
theorem zns (v:Value) (zs:List Int) (w:World) (h:RdI w v zs) (hn:zs.length ≤ 1048576) :
  Calls Tryz.prog 178 #[v] w fun e w' => e = .returned (.bool (zgb zs)) ∧ w' = w:=by
 have HR:=zaa h
 obtain ⟨aZ,cZ,rfl,hcap,hcZ⟩:=h.shape
 have HZ:=zaa hcZ
 clear h hcZ
 go_enter Tryz.func178,Tryz.ntmps178
 go_wp2
 go_loop [3,4,7] (fun _ _ i => ∃ k:Nat,k ≤ zs.length ∧ i = .int .i64 k ∧ Hid (∀ j (h:j < zs.length),j < k → zsz (zs.take j) zs[j] = false)) (fun _ _ i => zs.length - (intOf i).toNat)
 case atStart => exact ⟨0,by omega,rfl,fun j h a => absurd a (by omega)⟩
 case round =>
  obtain ⟨k,hk,rfl,H⟩:=hrel
  by_cases hlt:k < zs.length
  ·obtain ⟨b,o,rfl,hbl,hcell⟩:=HZ.out (by omega)
   have hck:=hcell k hlt
   have RT:=zaa (RdI.take HR.out hk)
   have LT:=zaa (show (zs.take k).length ≤ 1048576 by rw [List.length_take]; omega)
   clear hcell
   cases q:zsz (zs.take k) zs[k] with
   | false =>
    have H':Hid (∀ j (h:j < zs.length),j < k + 1 → zsz (zs.take j) zs[j] = false):=fun j h a => by
     by_cases e:j = k
     ·subst e; exact q
     ·exact H.out j h (by omega)
    have Q:=zaa q
    clear q H
    generalize zs[k] = z at hck Q
    go_wp2_with (go_at_call 204; refine (zih _ (zs.take k) z _ RT.out LT.out).mono ?_; rw [Q.out]; rintro e w' ⟨rfl,rfl⟩)
    go_round
    case rel => exact ⟨k + 1,by omega,by go_num,H'⟩
    case measure => simp [intOf]; omega
   | true =>
    have E:=zaa (zwx hlt q)
    have Q:=zaa q
    clear q H
    generalize zs[k] = z at hck Q
    go_wp2_with (go_at_call 204; refine (zih _ (zs.take k) z _ RT.out LT.out).mono ?_; rw [Q.out]; rintro e w' ⟨rfl,rfl⟩)
    go_ret
    exact ⟨zae E.out.symm,rfl⟩
  ·have E:=zaa (yacq (fun j h => H.out j h (by omega)))
   clear H
   go_wp2
   go_ret
   exact ⟨zae E.out.symm,rfl⟩
structure InI (W w:World) (vL:Value) (zs:List Int):Prop where
 l:w.ownsRow W.heap.size 3 1 vL zs.length (zav zs)
 b:Below W.heap.size W w
theorem InI.z {W w:World} {vL:Value} {zs:List Int} (h:InI W w vL zs):W.heap.size ≤ w.heap.size:=h.b.size
theorem InI.below {W w w':World} {vL:Value} {zs:List Int} (h:InI W w vL zs) (hb:Below w.heap.size w w'):InI W w' vL zs :=
 ⟨((zai h.l).below hb (Nat.le_refl _)).1,zab h.b hb h.z⟩
theorem InI.grow {W w w':World} {vL v':Value} {zs:List Int} (h:InI W w vL zs) (x:Int) (ho:w'.ownsRow W.heap.size 3 1 v' (zs.length + 1) (zav zs ++ [.int .i64 x])) (hg:w.grownBy w' vL.ownBlock):InI W w' v' (zs ++ [x]) :=
 ⟨by rw [zhr,List.length_append]; exact ho,h.b.grown hg h.z (fun q hq => (h.l.lt q hq).1)⟩
theorem yaag (x:Int):∀ u ∈ [Value.int .i64 x],u.oneCell' = true:=by
 intro u hu
 rw [List.mem_singleton.1 hu]
 rfl
def yagr (zs:List Int):List Int:=zs.filter fun z => z != 0
def zbk (ws:List Ino):List Int:=ws.flatMap fun x => yagr x.map
def zvv (ws:List Ino) (k:Nat) (j:Nat):List Int:=zbk (ws.take k) ++ yagr (((ws[k]?).map Ino.map).getD [] |>.take j)
theorem zzk (ws:List Ino) (k:Nat):zvv ws k 0 = zbk (ws.take k):=by simp [zvv,yagr]
theorem zwu {ws:List Ino} {k:Nat} (hk:k < ws.length) {j:Nat} (hj:j < 8):zvv ws k (j + 1) = if ws[k].map.getD j 0 = 0 then zvv ws k j else zvv ws k j ++ [ws[k].map.getD j 0]:=by
 have hl:j < ws[k].map.length:=hj
 have e:ws[k].map.getD j 0 = ws[k].map[j]:=by rw [List.getD_eq_getElem?_getD,List.getElem?_eq_getElem hl]; rfl
 unfold zvv yagr
 rw [List.getElem?_eq_getElem hk]
 simp only [Option.map_some,Option.getD_some]
 rw [List.take_succ_eq_append_getElem hl,List.filter_append,e]
 by_cases h:ws[k].map[j] = 0
 ·rw [if_pos h,h]; simp
 ·rw [if_neg h]; simp [h]
theorem zyw {ws:List Ino} {k:Nat} (hk:k < ws.length):zvv ws k 8 = zbk (ws.take (k + 1)):=by
 unfold zvv zbk
 rw [List.getElem?_eq_getElem hk,List.take_succ_eq_append_getElem hk,List.flatMap_append]
 simp [Ino.map]
theorem zyg (zs:List Int):(yagr zs).length ≤ zs.length:=List.length_filter_le _ _
theorem zlp (ws:List Ino):(zbk ws).length ≤ 8 * ws.length:=by
 induction ws with
 | nil => simp [zbk]
 | cons x ws ih =>
  have h1:=zyg x.map
  have h2:x.map.length = 8:=rfl
  unfold zbk at *
  rw [List.flatMap_cons,List.length_append,List.length_cons]
  omega
theorem yaeh (ws:List Ino) (k j:Nat) (hk:k < ws.length) (hj:j ≤ 8):(zvv ws k j).length ≤ 8 * ws.length:=by
 have h1:=zlp (ws.take k)
 have h2:=zyg (((ws[k]?).map Ino.map).getD [] |>.take j)
 have h3:(((ws[k]?).map Ino.map).getD [] |>.take j).length ≤ j:=by rw [List.length_take]; omega
 unfold zvv
 rw [List.length_append]
 rw [List.length_take] at h1
 omega
set_option maxRecDepth 100000 in
theorem idx8 (x:Ino) (j:Nat) (hj:j < 8) (w:World):(Instr.index 195 (.agg #[.int .i64 x.m0,.int .i64 x.m1,.int .i64 x.m2,.int .i64 x.m3,.int .i64 x.m4,.int .i64 x.m5,.int .i64 x.m6,.int .i64 x.m7]) (.int .i64 (j:Int))).run Tryz.prog w = .ok (.int .i64 (x.map.getD j 0)) w:=by
 rcases (show j = 0 ∨ j = 1 ∨ j = 2 ∨ j = 3 ∨ j = 4 ∨ j = 5 ∨ j = 6 ∨ j = 7 by omega) with rfl | rfl | rfl | rfl | rfl | rfl | rfl | rfl <;> simp [Instr.index,run_underlying Tryz.underlying195,asIntOf,Ino.map,go_sem]
set_option maxRecDepth 100000 in
set_option maxHeartbeats 4000000 in
theorem zml (v:Value) (ws:List Ino) (w:World) (h:RdN w v ws) (hn:ws.length ≤ 4096) :
  Calls Tryz.prog 179 #[v] w fun e w' => ∃ v',e = .returned v' ∧ Row w' 3 1 w.heap.size w'.heap.size v' (zbk ws).length (zav (zbk ws)) ∧ Below w.heap.size w w':=by
 obtain ⟨aW,cW,rfl,_,hcW⟩:=h.shape
 have HW:=zaa hcW
 clear h hcW
 go_enter Tryz.func179,Tryz.ntmps179
 go_wp2
 go_loopw [3,5,7,10] (fun vL _ _ i wr => ∃ k:Nat,k ≤ ws.length ∧ i = .int .i64 k ∧ Hid (InI w wr vL (zbk (ws.take k))) ∧ w.heap.size ≤ wr.heap.size) (fun _ _ _ i _ => ws.length - (intOf i).toNat)
 case atStart => exact ⟨0,by omega,rfl,⟨World.ownsRow_nil _ _ _ _,Below.refl _ _⟩,Nat.le_refl _⟩
 case round =>
  obtain ⟨k,hk,rfl,I,hz⟩:=hrel
  by_cases hlt:k < ws.length
  ·obtain ⟨b,o,rfl,hbl,hcell⟩:=HW.out (by omega)
   obtain ⟨a0,a1,a2,a3,a4,a5,a6,a7,a8,a9,a10⟩:=hcell k hlt
   have d0:=(I.out.b.cell (p:=⟨b,o + k * 11,none⟩) hbl).trans a0
   have d1:=(I.out.b.cell (p:=⟨b,o + k * 11 + 1,none⟩) hbl).trans a1
   have d2:=(I.out.b.cell (p:=⟨b,o + k * 11 + 2,none⟩) hbl).trans a2
   have d3:=(I.out.b.cell (p:=⟨b,o + k * 11 + 3,none⟩) hbl).trans a3
   have d4:=(I.out.b.cell (p:=⟨b,o + k * 11 + 4,none⟩) hbl).trans a4
   have d5:=(I.out.b.cell (p:=⟨b,o + k * 11 + 5,none⟩) hbl).trans a5
   have d6:=(I.out.b.cell (p:=⟨b,o + k * 11 + 6,none⟩) hbl).trans a6
   have d7:=(I.out.b.cell (p:=⟨b,o + k * 11 + 7,none⟩) hbl).trans a7
   have d8:=(I.out.b.cell (p:=⟨b,o + k * 11 + 8,none⟩) hbl).trans a8
   have d9:=(I.out.b.cell (p:=⟨b,o + k * 11 + 9,none⟩) hbl).trans a9
   have d10:=(I.out.b.cell (p:=⟨b,o + k * 11 + 10,none⟩) hbl).trans a10
   have k0:(0:Int) ≤ (k:Int):=by omega
   have k1:(k:Int) < (ws.length:Int):=by omega
   have MZ:=zaa (zzk ws k)
   have MF:=zaa (zyw hlt)
   have MS:=zaa (fun j (hj:j < 8) => zwu hlt hj)
   have ML:=zaa (fun j (hj:j ≤ 8) => yaeh ws k j hlt hj)
   have HM:=zaa (fun j (hj:j < 8) => ws[k].at j hj)
   clear a0 a1 a2 a3 a4 a5 a6 a7 a8 a9 a10 hcell
   generalize ws[k] = x at *
   have START:Hid (InI w (wr.alloc (.cells x.cs.toArray 197)) u3 (zvv ws k 0)):=by
    have:=I.out.below ((Below.refl wr.heap.size wr).alloc (Nat.le_refl _) (.cells x.cs.toArray 197))
    unfold Hid
    rw [MZ.out]
    exact this
   unfold Ino.cs at START
   have hz0:=START.out.z
   clear I
   go_wp2
   go_loopw [3,7,16] (fun vL _ i wq => ∃ j:Nat,j ≤ 8 ∧ i = .int .i64 j ∧ Hid (InI w wq vL (zvv ws k j)) ∧ w.heap.size ≤ wq.heap.size) (fun _ _ i _ => 8 - (intOf i).toNat)
   case atStart => exact ⟨0,by omega,rfl,START,hz0⟩
   case round =>
    obtain ⟨j,hj,rfl,J,hzj⟩:=hrel
    clear START hz0 d0 d1 d2 d3 d4 d5 d6 d7 d8 d9 d10
    have j0:(0:Int) ≤ (j:Int):=by omega
    by_cases hlj:j < 8
    ·have j1:(j:Int) < 8:=by omega
     have ix:=idx8 x j hlj
     have MJ:=zaa (MS.out j hlj)
     have hlen:=ML.out j (by omega)
     generalize x.map.getD j 0 = z at ix MJ
     by_cases q:z = 0
     ·have q':(z != 0) = false:=by rw [q]; rfl
      have G:Hid (InI w wr u3 (zvv ws k (j + 1))):=by unfold Hid; rw [MJ.out,if_pos q]; exact J.out
      clear q J MJ
      go_wp2
      go_roundw
      case rel => exact ⟨j + 1,by omega,by go_num,G,hzj⟩
      case measure => simp [intOf]; omega
     ·have q':(z != 0) = true:=by rw [bne_iff_ne]; exact q
      have JB:Hid (InI w (wr.alloc (.cells #[.int .i64 z] 3)) u3 (zvv ws k j)):=J.out.below ((Below.refl _ _).alloc (Nat.le_refl _) _)
      have RB:=zaa (znh wr z)
      have hzb:=JB.out.z
      have MN:Hid (zvv ws k (j + 1) = zvv ws k j ++ [z]):=by unfold Hid; rw [MJ.out,if_neg q]
      clear q J MJ
      go_wp2_with (at_builtin; refine zak _ rfl (.tmp 21) (.tmp 23) 22 rfl w.heap.size 3 (.int .i64 0) 1 8 Tryz.underlying22 zga rfl (by decide) _ _ _ rfl JB.out.l _ 1 _ rfl RB.out (yaag _) (by simp [maxLen]; omega) (by omega) (by omega) ?_)
      intro vN wN hownN hgrN
      have G:=zaa (JB.out.grow z hownN hgrN)
      rw [← MN.out] at G
      have hzN:=G.out.z
      clear hownN hgrN JB RB
      go_wp2
      go_roundw
      case rel => exact ⟨j + 1,by omega,by go_num,G,hzN⟩
      case measure => simp [intOf]; omega
    ·obtain rfl:j = 8:=by omega
     have G:Hid (InI w wr u3 (zbk (ws.take (k + 1)))):=by unfold Hid; rw [← MF.out]; exact J.out
     clear J
     go_wp2
     go_roundw
     case rel => exact ⟨k + 1,by omega,by go_num,G,hzj⟩
     case measure => simp [intOf]; omega
  ·obtain rfl:k = ws.length:=by omega
   have E:=zaa (show zbk (ws.take ws.length) = zbk ws by rw [List.take_length])
   rw [E.out] at I
   obtain ⟨-,aL,cL,hvL,-⟩:=(zai I.out.l).rd
   subst hvL
   go_wp2
   go_ret
   exact ⟨_,rfl,zai I.out.l,I.out.b⟩
def zju (hs:List Int):Bool:=decide (hs.length = 128 ∧ ∀ k (h:k < hs.length),0 ≤ hs[k] ∧ hs[k] ≤ 64)
def zgq (n:Nat):List Int:=List.replicate n 1
theorem yaja (n:Nat):zgq (n + 1) = zgq n ++ [1]:=by unfold zgq; rw [List.replicate_succ',]
theorem zkz (n:Nat):(zgq n).length = n:=by simp [zgq]
set_option maxRecDepth 100000 in
set_option maxHeartbeats 4000000 in
theorem yagy (w:World):Calls Tryz.prog 132 #[] w fun e w' => ∃ v',e = .returned v' ∧ Row w' 3 1 w.heap.size w'.heap.size v' (zgq 128).length (zav (zgq 128)) ∧ Below w.heap.size w w':=by
 have START:Hid (InI w (w.alloc (.cells #[] 3)) (.slice (some ⟨w.heap.size,0,none⟩) 0 0) (zgq 0)):=⟨World.ownsRow_lit w #[] 0 (Nat.le_refl _) (by simp [maxLen]) (by simp),(Below.refl _ _).alloc (Nat.le_refl _) _⟩
 go_enter Tryz.func132,Tryz.ntmps132
 go_wp2
 go_loopw [1,2] (fun vL i wr => ∃ m:Nat,m ≤ 128 ∧ i = .int .i64 (m:Int) ∧ Hid (InI w wr vL (zgq m))) (fun _ i _ => 128 - (intOf i).toNat)
 case atStart => exact ⟨0,by omega,rfl,START⟩
 case round =>
  obtain ⟨m,hm,rfl,J⟩:=hrel
  clear START
  have m0:(0:Int) ≤ (m:Int):=by omega
  by_cases hlt:m < 128
  ·have m1:(m:Int) < 128:=by omega
   have EM:=zaa (yaja m)
   have l2:(zgq m).length ≤ 128:=by rw [zkz]; omega
   have JB:Hid (InI w (wr.alloc (.cells #[.int .i64 1] 3)) u1 (zgq m)):=J.out.below ((Below.refl _ _).alloc (Nat.le_refl _) _)
   have RB:=zaa (znh wr 1)
   have hzb:=JB.out.z
   clear J
   go_wp2_with (at_builtin; refine zak _ rfl (.tmp 8) (.tmp 9) 22 rfl w.heap.size 3 (.int .i64 0) 1 8 Tryz.underlying22 zga rfl (by decide) _ _ _ rfl JB.out.l _ 1 _ rfl RB.out (yaag _) (by first | omega | (simp [maxLen]; omega)) (by first | omega | (simp; omega)) hzb ?_)
   intro vN wN hownN hgrN
   have G:=zaa (JB.out.grow 1 hownN hgrN)
   rw [← EM.out] at G
   clear hownN hgrN JB RB
   go_wp2
   go_roundw
   case rel => exact ⟨m + 1,by omega,by go_num,G⟩
   case measure => simp [intOf]; omega
  ·obtain rfl:m = 128:=by omega
   obtain ⟨-,aN,cN,hvN,-⟩:=(zai J.out.l).rd
   subst hvN
   go_wp2
   go_ret
   exact ⟨_,rfl,zai J.out.l,J.out.b⟩
set_option maxRecDepth 100000 in
set_option maxHeartbeats 4000000 in
theorem zrl (v:Value) (hs:List Int) (w:World) (h:RdI w v hs) (_hn:hs.length ≤ 1048576):Calls Tryz.prog 67 #[v] w fun e w' => e = .returned (.bool (zju hs)) ∧ w' = w:=by
 have NO:=zaa (fun h => show zju hs = false from decide_eq_false h)
 have YES:=zaa (fun h => show zju hs = true from decide_eq_true h)
 obtain ⟨ao,cap,rfl,hcap,hc⟩:=h.shape
 by_cases c1:(hs.length:Int) > 4096
 ·rw [NO.out (fun q => by omega)]
  go_enter Tryz.func67,Tryz.ntmps67
  go_wp2
  go_ret
  exact ⟨rfl,rfl⟩
 by_cases c2:hs.length = 128
 case neg =>
  rw [NO.out (fun q => c2 q.1)]
  have q:((hs.length:Int) != 128) = true:=by rw [bne_iff_ne]; omega
  go_enter Tryz.func67,Tryz.ntmps67
  go_wp2
  go_ret
  exact ⟨rfl,rfl⟩
 obtain ⟨b,o,rfl,hbl,hcell⟩:=hc (by omega)
 have HC:=zaa hcell
 have L128:=zaa c2
 rw [show zju hs = zju hs from rfl]
 generalize hb:zju hs = hB at *
 clear hb hcell c1
 rw [c2]
 clear c2 hcap
 go_enter Tryz.func67,Tryz.ntmps67
 go_wp2
 go_loopw [3] (fun i wr => ∃ m:Nat,m ≤ 128 ∧ i = .int .i64 (m:Int) ∧ wr = w ∧ Hid (∀ k (h:k < hs.length),k < m → 0 ≤ hs[k] ∧ hs[k] ≤ 64)) (fun i _ => 128 - (intOf i).toNat)
 case atStart => exact ⟨0,by omega,rfl,rfl,fun k _ hk => absurd hk (by omega)⟩
 case round =>
  obtain ⟨m,hm,rfl,rfl,J⟩:=hrel
  have m0:(0:Int) ≤ (m:Int):=by omega
  by_cases hlt:m < 128
  ·have m1:(m:Int) < 128:=by omega
   have hl:m < hs.length:=by have:=L128.out; omega
   have e0:=HC.out m hl
   by_cases q:0 ≤ hs[m] ∧ hs[m] ≤ 64
   ·have G:Hid (∀ k (h:k < hs.length),k < m + 1 → 0 ≤ hs[k] ∧ hs[k] ≤ 64):=fun k hk hkm => by
     rcases Nat.lt_succ_iff_lt_or_eq.1 hkm with r | rfl
     ·exact J.out k hk r
     ·exact q
    generalize hs[m] = z at *
    clear J
    go_wp2_with fail
    refine (zay _ _ _ _ q).mono ?_
    rintro e w' ⟨rfl,hw'⟩
    subst w'
    go_wp2
    go_roundw
    case rel => exact ⟨m + 1,by omega,by go_num,(by first | rfl | trivial),G⟩
    case measure => simp [intOf]; omega
   ·have E:=zaa (NO.out (fun r => q (r.2 m hl)))
    generalize hs[m] = z at *
    obtain rfl:=E.out
    go_wp2_with fail
    refine (zds _ _ _ _ q).mono ?_
    rintro e w' ⟨rfl,hw'⟩
    subst w'
    go_wp2
    go_ret
    exact ⟨rfl,rfl⟩
  ·obtain rfl:m = 128:=by omega
   have E:=zaa (YES.out ⟨L128.out,fun k hk => J.out k hk (by have:=L128.out; omega)⟩)
   obtain rfl:=E.out
   go_wp2
   go_ret
   exact ⟨rfl,rfl⟩
def zod (ds:List Den) (c:Int) (k:Nat):Nat:=((ds.take k).filter fun x => x.child == c).length
theorem yakn (ds:List Den) (c:Int):zod ds c 0 = 0:=rfl
theorem zkv {ds:List Den} {c:Int} {k:Nat} (h:k < ds.length):zod ds c (k + 1) = zod ds c k + (if (ds[k].child == c) = true then 1 else 0):=by
 unfold zod
 rw [List.take_succ_eq_append_getElem h,List.filter_append,List.length_append]
 congr 1
 cases q:ds[k].child == c <;> simp [List.filter,q]
theorem yalj (ds:List Den) (c:Int) (k:Nat):zod ds c k ≤ k:=by
 unfold zod
 exact Nat.le_trans (List.length_filter_le _ _) (by simp; omega)
def zlq (ps:List Den) (i:Nat) (x:Ino):Bool:=decide ((if i = 0 then 1 else 0) + (zod ps i ps.length:Int) = x.links) && (decide (¬ x.kind = 2) || zgx ps 16 i)
def zig (ws:List Ino) (ps:List Den):Bool:=decide (∀ i (h:i < ws.length),zlq ps i ws[i] = true)
theorem yahc {ws:List Ino} {ps:List Den} {i:Nat} (h:i < ws.length) (q:zlq ps i ws[i] = false):zig ws ps = false:=decide_eq_false (fun e => by rw [e i h] at q; cases q)
theorem yacy (w:World):Calls Tryz.prog 192 #[.bool true] w fun e w' => e = .returned (.int .i64 1) ∧ w' = w:=zsx true w
theorem yadu (w:World):Calls Tryz.prog 192 #[.bool false] w fun e w' => e = .returned (.int .i64 0) ∧ w' = w:=zsx false w
set_option maxRecDepth 100000 in
set_option maxHeartbeats 4000000 in
theorem zwp (v:Value) (ws:List Ino) (ps:List Den) (w:World) (h:RdIm w v ws ps) (hm:ws.length ≤ 1048576) (hn:ps.length ≤ 1048576) :
  Calls Tryz.prog 165 #[v] w fun e w' => e = .returned (.bool (zig ws ps)) ∧ Below w.heap.size w w':=by
 have HR:=zaa h
 obtain ⟨vW,vP,rfl,h1,h2⟩:=h
 obtain ⟨aW,cW,rfl,_,hcW⟩:=h1.shape
 obtain ⟨aP,cP,rfl,_,hcP⟩:=h2.shape
 have HW:=zaa hcW
 have HZ:=zaa hcP
 clear h1 h2 hcP hcW
 obtain ⟨W,hW⟩:∃ W,W = w.alloc (.cells #[.slice aW ws.length cW,.slice aP ps.length cP] 108):=⟨_,rfl⟩
 have CA:Hid (∀ w',Below W.heap.size W w' → w'.cell? ⟨w.heap.size,0,none⟩ = some (.slice aW ws.length cW) ∧ w'.cell? ⟨w.heap.size,1,none⟩ = some (.slice aP ps.length cP)):=fun w' hb => by
  have:w'.heap[w.heap.size]? = some (.cells #[.slice aW ws.length cW,.slice aP ps.length cP] 108 (0,0)):=(hb.block _ (by rw [hW]; simp)).trans (by rw [hW]; exact zag rfl)
  exact ⟨(zad this).1,(zad this).2.1⟩
 have BW:Hid (Below w.heap.size w W):=by rw [hW]; exact (Below.refl _ _).alloc (Nat.le_refl _) _
 have hz:w.heap.size ≤ W.heap.size:=BW.out.size
 have LH:=zaa (fun d w1 h => zxy (.agg #[.slice aW ws.length cW,.slice aP ps.length cP]) ws ps d w1 h hn)
 go_enter Tryz.func165,Tryz.ntmps165
 go_wp2
 rw [← hW]
 clear hW
 go_loopw [3] (fun i wr => ∃ k:Nat,k ≤ ws.length ∧ i = .int .i64 k ∧ Hid (Below W.heap.size W wr ∧ ∀ j (h:j < ws.length),j < k → zlq ps j ws[j] = true)) (fun i _ => ws.length - (intOf i).toNat)
 case atStart => exact ⟨0,by omega,rfl,Below.refl _ _,fun j h a => absurd a (by omega)⟩
 case round =>
  obtain ⟨i,hi,rfl,J⟩:=hrel
  obtain ⟨x0,x1⟩:=CA.out wr J.out.1
  by_cases hlt:i < ws.length
  ·have i0:(0:Int) ≤ (i:Int):=by omega
   have i1:(i:Int) < (ws.length:Int):=by omega
   obtain ⟨b0,HB,b1,LB⟩:∃ b0:Int,Hid (b0 = if i = 0 then 1 else 0) ∧ (0 ≤ b0 ∧ b0 ≤ 1) ∧ Hid (∀ w1:World,Calls Tryz.prog 192 #[.bool ((i:Int) == 0)] w1 fun e w' => e = .returned (.int .i64 b0) ∧ w' = w1):=by
    by_cases q:i = 0
    ·refine ⟨1,zaa (by rw [if_pos q]),by omega,fun w1 => ?_⟩
     rw [show ((i:Int) == 0) = true by rw [beq_iff_eq]; omega]
     exact yacy w1
    ·refine ⟨0,zaa (by rw [if_neg q]),by omega,fun w1 => ?_⟩
     rw [show ((i:Int) == 0) = false by rw [beq_eq_false_iff_ne]; omega]
     exact yadu w1
   have START:Hid (Below W.heap.size W wr):=J.out.1
   go_wp2_with (go_at_call 192; refine (LB.out _).mono ?_; rintro e w' ⟨rfl,hw'⟩; subst w')
   go_loopw [4,5] (fun n kk wq => ∃ k:Nat,k ≤ ps.length ∧ kk = .int .i64 k ∧ n = .int .i64 (b0 + (zod ps i k:Int)) ∧ Hid (Below W.heap.size W wq)) (fun _ kk _ => ps.length - (intOf kk).toNat)
   case atStart => exact ⟨0,by omega,rfl,by rw [yakn]; simp,START⟩
   case round =>
    obtain ⟨k,hk,rfl,rfl,K⟩:=hrel
    obtain ⟨y0,y1⟩:=CA.out wr K.out
    have B:=zaa (zab BW.out K.out hz)
    have cl:=yalj ps i k
    have k0:(0:Int) ≤ (k:Int):=by omega
    clear x0 x1 START
    by_cases hlk:k < ps.length
    ·obtain ⟨b,o,rfl,hbl,hcell⟩:=HZ.out (by omega)
     obtain ⟨_,_,c2⟩:=hcell k hlk
     have d2:=(B.out.cell (p:=⟨b,o + k * 3 + 2,none⟩) hbl).trans c2
     have k1:(k:Int) < (ps.length:Int):=by omega
     obtain ⟨t,HT,t1,LT⟩:∃ t:Int,Hid ((zod ps i (k + 1):Int) = (zod ps i k:Int) + t) ∧ (0 ≤ t ∧ t ≤ 1) ∧ Hid (∀ w1:World,Calls Tryz.prog 192 #[.bool (ps[k].child == (i:Int))] w1 fun e w' => e = .returned (.int .i64 t) ∧ w' = w1):=by
      cases q:(ps[k].child == (i:Int))
      ·refine ⟨0,zaa (by rw [zkv hlk,q]; simp),by omega,fun w1 => ?_⟩
       exact yadu w1
      ·refine ⟨1,zaa (by rw [zkv hlk,q]; simp),by omega,fun w1 => ?_⟩
       exact yacy w1
     clear hcell c2
     generalize ps[k].child = z at *
     have cc0:(0:Int) ≤ (zod ps i k:Int) ∧ (zod ps i k:Int) ≤ 1048576:=by omega
     generalize (zod ps i k:Int) = cc at *
     go_wp2_with (go_at_call 192; refine (LT.out _).mono ?_; rintro e w' ⟨rfl,hw'⟩; subst w')
     go_roundw
     case rel => exact ⟨k + 1,by omega,by go_num,by rw [HT.out,Int.add_assoc],K⟩
     case measure => simp [intOf]; omega
    ·obtain rfl:k = ps.length:=by omega
     obtain ⟨b,o,rfl,hbl,hcell⟩:=HW.out (by omega)
     obtain ⟨c0,_,c2,_⟩:=hcell i hlt
     have d0:=(B.out.cell (p:=⟨b,o + i * 11,none⟩) hbl).trans c0
     have d2:=(B.out.cell (p:=⟨b,o + i * 11 + 2,none⟩) hbl).trans c2
     have EL:=zaa (show zlq ps i ws[i] = (decide (b0 + (zod ps i ps.length:Int) = ws[i].links) && (decide (¬ ws[i].kind = 2) || zgx ps 16 i)) by unfold zlq; rw [HB.out])
     have NO:=zaa (fun e => yahc (ps:=ps) hlt e)
     have YES:=zaa (fun (e:zlq ps i ws[i] = true) j (h:j < ws.length) (a:j < i + 1) => show zlq ps j ws[j] = true by
      by_cases q:j = i
      ·subst q; exact e
      ·exact J.out.2 j h (by omega))
     clear hcell c0 c2 J HB LB
     have cc0:(0:Int) ≤ (zod ps i ps.length:Int) ∧ (zod ps i ps.length:Int) ≤ 1048576:=by omega
     generalize (zod ps i ps.length:Int) = cc at *
     generalize zlq ps i ws[i] = lb at EL NO YES
     generalize ws[i].links = zl at *
     generalize ws[i].kind = zk at *
     by_cases q:b0 + cc = zl
     ·by_cases r:zk = 2
      ·subst r
       cases hh:zgx ps 16 i with
       | true =>
        have E:=zaa (YES.out (by rw [EL.out,decide_eq_true q,hh]; rfl))
        have HH:=zaa hh
        have R:=zaa (HR.out.below B.out)
        have q1:(b0 + cc != zl) = false:=by rw [q]; simp
        clear hh EL NO YES q
        go_wp2_with fail
        refine (LH.out _ _ R.out).mono ?_
        rw [HH.out]
        rintro e w1 ⟨rfl,hb1⟩
        have B1:=zaa (zab K.out hb1 K.out.size)
        clear hb1
        go_wp2
        go_roundw
        case rel => exact ⟨i + 1,by omega,by go_num,B1.out,E.out⟩
        case measure => simp [intOf]; omega
       | false =>
        have E:=zaa (NO.out (by rw [EL.out,hh]; simp))
        have HH:=zaa hh
        have R:=zaa (HR.out.below B.out)
        have q1:(b0 + cc != zl) = false:=by rw [q]; simp
        clear hh EL NO YES q
        go_wp2_with fail
        refine (LH.out _ _ R.out).mono ?_
        rw [HH.out]
        rintro e w1 ⟨rfl,hb1⟩
        have B1:=zaa (zab B.out hb1 B.out.size)
        clear hb1
        go_wp2
        go_ret
        exact ⟨zae E.out.symm,B1.out⟩
      ·have E:Hid (Below W.heap.size W wr ∧ ∀ j (h:j < ws.length),j < i + 1 → zlq ps j ws[j] = true):=⟨K.out,YES.out (by rw [EL.out,decide_eq_true q,decide_eq_true r]; rfl)⟩
       have r1:(zk == 2) = false:=beq_eq_false_iff_ne.2 r
       have q1:(b0 + cc != zl) = false:=by rw [q]; simp
       clear EL NO YES q r
       go_wp2
       go_roundw
       case rel => exact ⟨i + 1,by omega,by go_num,E⟩
       case measure => simp [intOf]; omega
     ·have q1:(b0 + cc != zl) = true:=by rw [bne_iff_ne]; exact q
      have E:=zaa (NO.out (by rw [EL.out,decide_eq_false q]; rfl))
      clear q EL NO YES
      go_wp2
      go_ret
      exact ⟨zae E.out.symm,B.out⟩
  ·obtain rfl:i = ws.length:=by omega
   have E:=zaa (show zig ws ps = true from decide_eq_true (fun j h => J.out.2 j h h))
   go_wp2
   go_ret
   exact ⟨zae E.out.symm,zab BW.out J.out.1 hz⟩
def zix (x:Den):Den:=⟨x.dir,x.name,-1⟩
def hasD (ps:List Den) (x:Den):Bool:=ps.any fun y => zno x.dir x.name x.child y.dir y.name y.child
def zpc (ps:List Den):Bool:=decide (∀ k (h:k < ps.length),hasD (ps.take k) ps[k] = false)
theorem yati {ps:List Den} {x:Den} {k:Nat} (hk:k < ps.length) (h:zno x.dir x.name x.child ps[k].dir ps[k].name ps[k].child = true):hasD ps x = true:=by
 unfold hasD
 rw [List.any_eq_true]
 exact ⟨ps[k],List.getElem_mem _,h⟩
theorem yans {ps:List Den} {x:Den} (h:∀ j (h:j < ps.length),zno x.dir x.name x.child ps[j].dir ps[j].name ps[j].child = false):hasD ps x = false:=by
 unfold hasD
 rw [List.any_eq_false]
 intro y hy
 obtain ⟨j,hj,rfl⟩:=List.getElem_of_mem hy
 rw [h j hj]
 decide
theorem yapg {ps:List Den} (h:∀ k (h:k < ps.length),hasD (ps.take k) ps[k] = false):zpc ps = true:=decide_eq_true h
theorem yajh {ps:List Den} {k:Nat} (hk:k < ps.length) (h:hasD (ps.take k) ps[k] = true):zpc ps = false:=decide_eq_false (fun x => by have:=x k hk; rw [h] at this; cases this)
theorem RdD.take {w:World} {ao:Option Addr} {c:Nat} {ps:List Den} {m:Nat} (h:RdD w (.slice ao ps.length c) ps) (hm:m ≤ ps.length):RdD w (.slice ao m c) (ps.take m):=by
 have:=Rd.take h hm
 unfold RdD
 have e:(ps.take m).length = m:=by rw [List.length_take]; omega
 have e2:zhl (ps.take m) = (zhl ps).take (m * 3):=by
  have hl:=yadf (ps.take m)
  have e3:zhl ps = zhl (ps.take m) ++ zhl (ps.drop m):=by
   unfold zhl
   rw [← List.flatMap_append,List.take_append_drop]
  rw [e3]
  exact (List.take_left' (by rw [hl,e])).symm
 rw [e,e2]
 exact this
theorem below_drewN {B:Nat} {a w:World} (h:Below B a w) (n:Nat):Below B a (w.drewN n):=by
 induction n with
 | zero => exact h
 | succ n ih => exact ⟨ih.os,ih.tape,ih.output,ih.size,ih.block⟩
set_option maxRecDepth 100000 in
set_option maxHeartbeats 4000000 in
theorem zyt (v:Value) (ps:List Den) (x:Den) (w:World) (h:RdD w v ps) (hn:ps.length ≤ 1048576) :
  Calls Tryz.prog 219 #[v,x.v] w fun e w' => ∃ r:Int,e = .returned (.int .i64 r) ∧ (decide (0 ≤ r) = hasD ps x) ∧ Below w.heap.size w w':=by
 obtain ⟨aZ,cZ,rfl,_,hcZ⟩:=h.shape
 have HZ:=zaa hcZ
 have BW:=zaa ((Below.refl w.heap.size w).alloc (Nat.le_refl _) (.cells #[.int .i64 x.dir,.string x.name,.int .i64 x.child] 199))
 have CB:Hid (∀ w',Below (w.alloc (.cells #[.int .i64 x.dir,.string x.name,.int .i64 x.child] 199)).heap.size (w.alloc (.cells #[.int .i64 x.dir,.string x.name,.int .i64 x.child] 199)) w' → w'.cell? ⟨w.heap.size,0,none⟩ = some (.int .i64 x.dir) ∧ w'.cell? ⟨w.heap.size,1,none⟩ = some (.string x.name) ∧ w'.cell? ⟨w.heap.size,2,none⟩ = some (.int .i64 x.child)):=fun w' hb => zas ((hb.block _ (by simp)).trans (zag rfl))
 have hz:w.heap.size ≤ (w.alloc (.cells #[.int .i64 x.dir,.string x.name,.int .i64 x.child] 199)).heap.size:=BW.out.size
 obtain ⟨W,hW⟩:∃ W,W = w.alloc (.cells #[.int .i64 x.dir,.string x.name,.int .i64 x.child] 199):=⟨_,rfl⟩
 rw [← hW] at BW CB hz
 rw [show x.v = .agg #[.int .i64 x.dir,.string x.name,.int .i64 x.child] from rfl]
 clear h hcZ
 go_enter Tryz.func219,Tryz.ntmps219
 go_wp2
 rw [← hW]
 clear hW
 go_loopw [5,8] (fun _ i wr => ∃ k:Nat,k ≤ ps.length ∧ i = .int .i64 k ∧ Hid (Below W.heap.size W wr ∧ ∀ j (h:j < ps.length),j < k → zno x.dir x.name x.child ps[j].dir ps[j].name ps[j].child = false)) (fun _ i _ => ps.length - (intOf i).toNat)
 case atStart => exact ⟨0,by omega,rfl,Below.refl _ _,fun j h a => absurd a (by omega)⟩
 case round =>
  obtain ⟨k,hk,rfl,H⟩:=hrel
  by_cases hlt:k < ps.length
  ·obtain ⟨b,o,rfl,hbl,hcell⟩:=HZ.out (by omega)
   obtain ⟨x0,x1,x2⟩:=CB.out wr H.out.1
   have B0:=zaa (zab BW.out H.out.1 hz)
   obtain ⟨a0,a1,a2⟩:=hcell k hlt
   have d0:=(B0.out.cell (p:=⟨b,o + k * 3,none⟩) hbl).trans a0
   have d1:=(B0.out.cell (p:=⟨b,o + k * 3 + 1,none⟩) hbl).trans a1
   have d2:=(B0.out.cell (p:=⟨b,o + k * 3 + 2,none⟩) hbl).trans a2
   have k0:(0:Int) ≤ (k:Int):=by omega
   have k1:(k:Int) < (ps.length:Int):=by omega
   clear hcell a0 a1 a2
   cases q:zno x.dir x.name x.child ps[k].dir ps[k].name ps[k].child with
   | true =>
    have E:=zaa (yati hlt q)
    clear H
    generalize ps[k] = y at *
    go_wp2
    go_quiet (fail)
    go_wp2
    go_ret
    exact ⟨_,rfl,by rw [E.out]; exact decide_eq_true (by omega),below_drewN B0.out _⟩
   | false =>
    have H':Hid (∀ j (h:j < ps.length),j < k + 1 → zno x.dir x.name x.child ps[j].dir ps[j].name ps[j].child = false):=fun j h a => by
     by_cases e:j = k
     ·subst e; exact q
     ·exact H.out.2 j h (by omega)
    have H1:=zaa H.out.1
    clear H
    generalize ps[k] = y at d0 d1 d2 q
    go_wp2
    go_quiet (fail)
    go_wp2
    go_roundw
    case rel => exact ⟨k + 1,by omega,by go_num,below_drewN H1.out _,H'.out⟩
    case measure => simp [intOf]; omega
  ·have E:=zaa (yans (fun j h => H.out.2 j h (by omega)))
   have B0:=zaa (zab BW.out H.out.1 hz)
   clear H
   go_wp2
   go_ret
   exact ⟨_,rfl,by rw [E.out]; rfl,B0.out⟩
set_option maxRecDepth 100000 in
set_option maxHeartbeats 4000000 in
theorem zij (v:Value) (ps:List Den) (x:Den) (w:World) (h:RdD w v ps) (hn:ps.length ≤ 1048576) :
  Calls Tryz.prog 213 #[v,x.v] w fun e w' => e = .returned (.bool (hasD ps x)) ∧ Below w.heap.size w w':=by
 have HZ:=zaa h
 obtain ⟨aZ,cZ,rfl,_,_⟩:=h.shape
 have BW:=zaa ((Below.refl w.heap.size w).alloc (Nat.le_refl _) (.cells #[.int .i64 x.dir,.string x.name,.int .i64 x.child] 199))
 have LI:=zaa (fun w1 h => zyt (.slice aZ ps.length cZ) ps x w1 h hn)
 obtain ⟨x0,x1,x2⟩:=zas (zag (w:=w) (o:=.cells #[.int .i64 x.dir,.string x.name,.int .i64 x.child] 199) rfl)
 rw [show x.v = .agg #[.int .i64 x.dir,.string x.name,.int .i64 x.child] from rfl]
 clear h
 go_enter Tryz.func213,Tryz.ntmps213
 go_wp2_with fail
 refine (LI.out _ (Rd.below HZ.out BW.out)).mono ?_
 rintro e w1 ⟨r,rfl,hr,hb⟩
 have R:=zaa hr
 have B1:=zaa (zab BW.out hb BW.out.size)
 clear hr hb x0 x1 x2
 go_wp2
 go_ret
 exact ⟨zae R.out,B1.out⟩
set_option maxRecDepth 100000 in
set_option maxHeartbeats 4000000 in
theorem znt (v:Value) (ps:List Den) (w:World) (h:RdD w v ps) (hn:ps.length ≤ 1048576) :
  Calls Tryz.prog 202 #[v] w fun e w' => e = .returned (.bool (zpc ps)) ∧ Below w.heap.size w w':=by
 have HR:=zaa h
 obtain ⟨aZ,cZ,rfl,hcap,hcZ⟩:=h.shape
 have HZ:=zaa hcZ
 clear h hcZ
 go_enter Tryz.func202,Tryz.ntmps202
 go_wp2
 go_loopw [3,4,7] (fun _ _ i wr => ∃ k:Nat,k ≤ ps.length ∧ i = .int .i64 k ∧ Hid (Below w.heap.size w wr ∧ ∀ j (h:j < ps.length),j < k → hasD (ps.take j) ps[j] = false)) (fun _ _ i _ => ps.length - (intOf i).toNat)
 case atStart => exact ⟨0,by omega,rfl,Below.refl _ _,fun j h a => absurd a (by omega)⟩
 case round =>
  obtain ⟨k,hk,rfl,H⟩:=hrel
  by_cases hlt:k < ps.length
  ·obtain ⟨b,o,rfl,hbl,hcell⟩:=HZ.out (by omega)
   obtain ⟨a0,a1,a2⟩:=hcell k hlt
   have d0:=(H.out.1.cell (p:=⟨b,o + k * 3,none⟩) hbl).trans a0
   have d1:=(H.out.1.cell (p:=⟨b,o + k * 3 + 1,none⟩) hbl).trans a1
   have d2:=(H.out.1.cell (p:=⟨b,o + k * 3 + 2,none⟩) hbl).trans a2
   have k0:(0:Int) ≤ (k:Int):=by omega
   have k1:(k:Int) < (ps.length:Int):=by omega
   have k2:(k:Int) ≤ (cZ:Int):=by omega
   have RT:=zaa (RdD.take HR.out hk)
   have LT:=zaa (show (ps.take k).length ≤ 1048576 by rw [List.length_take]; omega)
   have hz:w.heap.size ≤ wr.heap.size:=H.out.1.size
   have H1:=zaa H.out.1
   clear hcell a0 a1 a2
   obtain ⟨wb,hwb⟩:∃ wb:World,wb = wr.alloc (.cells #[.int .i64 ps[k].dir,.string ps[k].name,.int .i64 ps[k].child] 199):=⟨_,rfl⟩
   have B2:Hid (Below w.heap.size w wb):=by rw [hwb]; exact H1.out.alloc hz _
   have SK:Hid (∀ w',Below wb.heap.size wb w' → w'.cell? ⟨wr.heap.size,0,none⟩ = some (.int .i64 ps[k].dir) ∧ w'.cell? ⟨wr.heap.size,1,none⟩ = some (.string ps[k].name) ∧ w'.cell? ⟨wr.heap.size,2,none⟩ = some (.int .i64 ps[k].child)):=fun w' hb => zas ((hb.block _ (by rw [hwb]; simp)).trans (by rw [hwb]; exact zag rfl))
   cases q:hasD (ps.take k) ps[k] with
   | false =>
    have H':Hid (∀ j (h:j < ps.length),j < k + 1 → hasD (ps.take j) ps[j] = false):=fun j h a => by
     by_cases e:j = k
     ·subst e; exact q
     ·exact H.out.2 j h (by omega)
    have Q:=zaa q
    clear q H
    generalize ps[k] = x at d0 d1 d2 Q hwb SK
    go_wp2_with fail
    rw [← hwb]
    clear hwb
    go_region_held3 (fun w' => w'.cell? ⟨wr.heap.size,0,none⟩ = some (.int .i64 x.dir) ∧ w'.cell? ⟨wr.heap.size,1,none⟩ = some (.string x.name) ∧ w'.cell? ⟨wr.heap.size,2,none⟩ = some (.int .i64 x.child))
     (exact SK.out _ (by repeat (first | exact BF.out | exact Below.refl _ _ | refine Below.drew ?_)))
     (first
      | (go_at_call 213; refine (zij _ (ps.take k) x _ (Rd.below RT.out (zab B2.out (by repeat (first | exact Below.refl _ _ | refine Below.drew ?_)) B2.out.size)) LT.out).mono ?_; rw [Q.out]; rintro e w1 ⟨rfl,hb1⟩; have BF:Hid (Below wb.heap.size wb w1):=(by first | exact hb1 | exact zab (by repeat (first | exact Below.refl _ _ | refine Below.drew ?_)) hb1 (Nat.le_refl _))))
    all_goals
     have B3:=zaa (zab B2.out BF.out B2.out.size)
     clear hb1 BF SK d0 d1 d2
     go_wp2
     go_roundw
     case rel => exact ⟨k + 1,by omega,by go_num,(by repeat (first | exact B3.out | refine Below.drew ?_)),H'.out⟩
     case measure => simp [intOf]; omega
   | true =>
    have E:=zaa (yajh hlt q)
    have Q:=zaa q
    clear q H
    generalize ps[k] = x at d0 d1 d2 Q hwb SK
    go_wp2_with fail
    rw [← hwb]
    clear hwb
    go_region_held3 (fun w' => w'.cell? ⟨wr.heap.size,0,none⟩ = some (.int .i64 x.dir) ∧ w'.cell? ⟨wr.heap.size,1,none⟩ = some (.string x.name) ∧ w'.cell? ⟨wr.heap.size,2,none⟩ = some (.int .i64 x.child))
     (exact SK.out _ (by repeat (first | exact BF.out | exact Below.refl _ _ | refine Below.drew ?_)))
     (first
      | (go_at_call 213; refine (zij _ (ps.take k) x _ (Rd.below RT.out (zab B2.out (by repeat (first | exact Below.refl _ _ | refine Below.drew ?_)) B2.out.size)) LT.out).mono ?_; rw [Q.out]; rintro e w1 ⟨rfl,hb1⟩; have BF:Hid (Below wb.heap.size wb w1):=(by first | exact hb1 | exact zab (by repeat (first | exact Below.refl _ _ | refine Below.drew ?_)) hb1 (Nat.le_refl _))))
    all_goals
     have B3:=zaa (zab B2.out BF.out B2.out.size)
     clear hb1 BF SK d0 d1 d2
     go_wp2
     go_ret
     exact ⟨zae E.out.symm,(by repeat (first | exact B3.out | refine Below.drew ?_))⟩
  ·have E:=zaa (yapg (fun j h => H.out.2 j h (by omega)))
   have H1:=zaa H.out.1
   clear H
   go_wp2
   go_ret
   exact ⟨zae E.out.symm,H1.out⟩
end Go.Proofs.YtlkmnpanddchdaaGreatDoor
