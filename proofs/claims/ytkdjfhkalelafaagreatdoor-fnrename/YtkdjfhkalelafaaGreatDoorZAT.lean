/- Several texts laid together: PlD, PcD, PlM, PlO. -/
import Derived.Test.YtkdjfhkalelafaaGreatDoorZAL
import Derived.Test.YtkdjfhkalelafaaGreatDoorZAD
import Derived.Test.YtkdjfhkalelafaaGreatDoorZAE
import Derived.Deep.RegionLaw
import Derived.Test.YtkdjfhkalelafaaGreatDoorZAJ
import Derived.Deep.RegionHeld3
namespace Go.Proofs.YtkdjfhkalelafaaGreatDoor
open Go.RowKit
set_option maxRecDepth 100000 in
set_option maxHeartbeats 2000000 in
theorem zgb (v:Value) (ws:List Ino) (ps:List Den) (w:World) (h:RdIm w v ws ps) (hl:ps.length ≤ 4096) :
  Calls Tryz.prog 186 #[v] w fun e w' => e = .returned (.int .i64 (feI ps)) ∧ Below w.heap.size w w':=by
 obtain ⟨vW,vP,rfl,h1,h2⟩:=h
 obtain ⟨aW,cW,rfl,_,_⟩:=h1.shape
 obtain ⟨aP,cP,rfl,_,hcP⟩:=h2.shape
 have HP:=zaa hcP
 clear h1 h2 hcP
 have CA:Hid (∀ w',Below (w.alloc (.cells #[.slice aW ws.length cW,.slice aP ps.length cP] 42)).heap.size (w.alloc (.cells #[.slice aW ws.length cW,.slice aP ps.length cP] 42)) w' → w'.cell? ⟨w.heap.size,0,none⟩ = some (.slice aW ws.length cW) ∧ w'.cell? ⟨w.heap.size,1,none⟩ = some (.slice aP ps.length cP)):=fun w' hb => by
  have:w'.heap[w.heap.size]? = some (.cells #[.slice aW ws.length cW,.slice aP ps.length cP] 42 (0,0)):=(hb.block _ (by simp)).trans (zah rfl)
  exact ⟨(zac this).1,(zac this).2.1⟩
 have BW:Hid (Below w.heap.size w (w.alloc (.cells #[.slice aW ws.length cW,.slice aP ps.length cP] 42))):=(Below.refl _ _).alloc (Nat.le_refl _) _
 obtain ⟨W,hW⟩:∃ W,W = w.alloc (.cells #[.slice aW ws.length cW,.slice aP ps.length cP] 42):=⟨_,rfl⟩
 rw [← hW] at CA BW
 obtain ⟨y0,y1⟩:=CA.out _ (Below.refl _ _)
 have EF:=zaa (show feI ps = zby (fun i => decide (zal ps i < 0)) ps.length from rfl)
 go_enter Tryz.func186,Tryz.ntmps186
 go_wp2
 rw [← hW]
 clear hW
 go_loopw [3] (fun i wr => ∃ k:Nat,k ≤ ps.length ∧ i = .int .i64 k ∧ wr = W ∧ Hid (∀ j,j < k → decide (zal ps j < 0) = false)) (fun i _ => ps.length - (intOf i).toNat)
 case atStart => exact ⟨0,by omega,rfl,rfl,fun j a => absurd a (by omega)⟩
 case round =>
  obtain ⟨k,hk,rfl,rfl,H⟩:=hrel
  have k0:(0:Int) ≤ (k:Int):=by omega
  by_cases hlt:k < ps.length
  ·obtain ⟨b,o,rfl,hbl,hcell⟩:=HP.out (by omega)
   have d0:=(BW.out.cell (p:=⟨b,o + k * 3 + 2,none⟩) hbl).trans (hcell k hlt).2.2
   rw [← zbh hlt] at d0
   have k1:(k:Int) < (ps.length:Int):=by omega
   clear hcell
   by_cases q:zal ps k < 0
   ·have E:=zaa (EF.out.trans (ztc (p:=fun i => decide (zal ps i < 0)) hlt H.out (decide_eq_true q)))
    clear H
    generalize zal ps k = z at d0 q
    go_wp2
    go_ret
    exact ⟨zct E.out.symm,BW.out⟩
   ·have H':Hid (∀ j,j < k + 1 → decide (zal ps j < 0) = false):=fun j a => by
     by_cases e:j = k
     ·subst e; exact decide_eq_false q
     ·exact H.out j (by omega)
    clear H
    generalize zal ps k = z at d0 q
    go_wp2
    go_roundw
    case rel => exact ⟨k + 1,by omega,by go_num,trivial,H'⟩
    case measure => simp [intOf]; omega
  ·have E:=zaa (EF.out.trans (zli (p:=fun i => decide (zal ps i < 0)) (n:=ps.length) (fun j hj => H.out j (by omega))))
   have k2:¬ (k:Int) < (ps.length:Int):=by omega
   clear H
   go_wp2
   go_ret
   exact ⟨zct E.out.symm,BW.out⟩
set_option maxRecDepth 100000 in
set_option maxHeartbeats 2000000 in
theorem yakn (i f x:Int) (w:World) (hi:0 ≤ i ∧ i < 16) (hf:0 ≤ f ∧ f < 11) :
  Calls Tryz.prog 135 #[.int .i64 i,.int .i64 f,.int .i64 x] w fun e w' => e = .returned (.agg #[.int .i64 (48 + 12 * i + f),.int .i64 x]) ∧ Below w.heap.size w w':=by
 obtain ⟨k1,k2⟩:=yapx hi hf
 have K1:=zaa k1
 have K2:=zaa k2
 clear k1 k2
 generalize 48 + 12 * i + f = at_ at *
 have BW:=zaa ((Below.refl w.heap.size w).alloc (Nat.le_refl _) (.cells #[.int .i64 0,.int .i64 0] 83))
 go_enter Tryz.func135,Tryz.ntmps135
 go_wp2_with fail
 refine (ztm _ _ _).mono ?_
 rw [K1.out,K2.out]
 rintro e w' ⟨rfl,hw'⟩
 subst w'
 go_wp2
 refine bodyPost_ret (v:=.agg #[.int .i64 at_,.int .i64 x]) (by simp [results,Tryz.results135,go_sem]) rfl ⟨rfl,?_⟩
 repeat (first | exact BW.out | exact Below.refl _ _ | refine Below.setCell ?_ (by exact Nat.le_refl _) _ | refine Below.alloc ?_ (by simp) _)
def pfC (ws:List Ino) (ps:List Den) (ss:List ByteArray):Int:=if ss.any (fun s => decide (65536 < s.size)) = true then 2 else if zcb ws ps = true then 0 else 1
set_option maxRecDepth 100000 in
set_option maxHeartbeats 4000000 in
theorem zta (v vL:Value) (ws:List Ino) (ps:List Den) (ss:List ByteArray) (w:World) (h:RdIm w v ws ps) (hL:RdT w vL ss) (hn:ss.length ≤ 4096) (hw:ws.length ≤ 1048576) (hp:ps.length ≤ 1048576) (hT:TS w) (hE:ED w) (hF:FD w) (hr:∀ k (h:k < ws.length),ws[k].R) (hs:∀ k (h:k < ps.length),ps[k].name.size ≤ maxLen) :
  Calls Tryz.prog 25 #[v,vL] w fun e w' => e = .returned (.int .i64 (pfC ws ps ss)) ∧ Below w.heap.size w w':=by
 have LI:=zaa (fun w1 (hb:Below w.heap.size w w1) => zdu v ws ps w1 (h.below hb) hw hp (hT.below hb) (hE.below hb) (hF.below hb) hr hs)
 have EC:=zaa (show pfC ws ps ss = if ss.any (fun s => decide (65536 < s.size)) = true then 2 else if zcb ws ps = true then 0 else 1 from rfl)
 obtain ⟨vW,vP,rfl,h1,h2⟩:=h
 obtain ⟨aW,cW,rfl,_,_⟩:=h1.shape
 obtain ⟨aP,cP,rfl,_,_⟩:=h2.shape
 obtain ⟨aL,cL,rfl,_,hcL⟩:=hL.shape
 have HL:=zaa hcL
 clear h1 h2 hr hs hT hE hF hL hcL
 obtain ⟨W,hW⟩:∃ W,W = w.alloc (.cells #[.slice aW ws.length cW,.slice aP ps.length cP] 42):=⟨_,rfl⟩
 have BW:Hid (Below w.heap.size w W):=by rw [hW]; exact (Below.refl _ _).alloc (Nat.le_refl _) _
 obtain ⟨x0,x1⟩:W.cell? ⟨w.heap.size,0,none⟩ = some (.slice aW ws.length cW) ∧ W.cell? ⟨w.heap.size,1,none⟩ = some (.slice aP ps.length cP):=by
  have:W.heap[w.heap.size]? = some (.cells #[.slice aW ws.length cW,.slice aP ps.length cP] 42 (0,0)):=by rw [hW]; exact zah rfl
  exact ⟨(zac this).1,(zac this).2.1⟩
 generalize pfC ws ps ss = r at *
 go_enter Tryz.func25,Tryz.ntmps25
 go_wp2
 rw [← hW]
 clear hW
 go_loopw [6,9] (fun _ i wr => ∃ k:Nat,k ≤ ss.length ∧ i = .int .i64 k ∧ wr = W ∧ Hid (∀ j (h:j < ss.length),j < k → ¬ 65536 < ss[j].size)) (fun _ i _ => ss.length - (intOf i).toNat)
 case atStart => exact ⟨0,by omega,rfl,rfl,fun j _ a => absurd a (by omega)⟩
 case round =>
  obtain ⟨k,hk,rfl,rfl,H⟩:=hrel
  have k0:(0:Int) ≤ (k:Int):=by omega
  by_cases hlt:k < ss.length
  ·obtain ⟨b,o,rfl,hbl,hcell⟩:=HL.out (by omega)
   have d0:=(BW.out.cell (p:=⟨b,o + k,none⟩) hbl).trans (hcell k hlt)
   have k1:(k:Int) < (ss.length:Int):=by omega
   clear hcell
   by_cases q:65536 < ss[k].size
   ·have E:Hid (r = 2):=EC.out.trans (if_pos (List.any_eq_true.2 ⟨ss[k],List.getElem_mem hlt,decide_eq_true q⟩))
    obtain rfl:=E.out
    have q1:(ss[k].size:Int) > 65536:=by omega
    clear H E EC q
    generalize ss[k] = s at *
    go_wp2
    go_ret
    exact ⟨rfl,BW.out⟩
   ·have H':Hid (∀ j (h:j < ss.length),j < k + 1 → ¬ 65536 < ss[j].size):=fun j h a => by
     by_cases e:j = k
     ·subst e; exact q
     ·exact H.out j h (by omega)
    have q1:¬ (ss[k].size:Int) > 65536:=by omega
    clear H q
    generalize ss[k] = s at *
    go_wp2
    go_roundw
    case rel => exact ⟨k + 1,by omega,by go_num,trivial,H'⟩
    case measure => simp [intOf]; omega
  ·have E:Hid (r = if zcb ws ps = true then 0 else 1):=EC.out.trans (if_neg (by
    rw [List.any_eq_true]
    rintro ⟨s,hs,q⟩
    obtain ⟨j,hj,rfl⟩:=List.getElem_of_mem hs
    exact H.out j hj (by omega) (by simpa using q)))
   clear H EC
   cases c:zcb ws ps with
   | true =>
    rw [c] at E LI
    obtain rfl:=E.out
    clear E c
    go_wp2_with fail
    refine (LI.out _ BW.out).mono ?_
    rintro e w1 ⟨rfl,hb1⟩
    have B1:=zaa (zab BW.out hb1 BW.out.size)
    clear hb1 x0 x1
    go_wp2
    go_ret
    exact ⟨rfl,B1.out⟩
   | false =>
    rw [c] at E LI
    obtain rfl:=E.out
    clear E c
    go_wp2_with fail
    refine (LI.out _ BW.out).mono ?_
    rintro e w1 ⟨rfl,hb1⟩
    have B1:=zaa (zab BW.out hb1 BW.out.size)
    clear hb1 x0 x1
    go_wp2
    go_ret
    exact ⟨rfl,B1.out⟩
set_option maxRecDepth 100000 in
set_option maxHeartbeats 4000000 in
theorem zds (v:Value) (ws:List Ino) (ps:List Den) (s:ByteArray) (w:World) (h:RdIm w v ws ps) (hi:zcb ws ps = true) (hs:s.size ≤ 65536) :
  Calls Tryz.prog 74 #[v,.string s] w fun e w' => e = .returned (.tuple #[.int .i64 (paI ws ps s).1,.string (paI ws ps s).2.1,.int .i64 (paI ws ps s).2.2]) ∧ Below w.heap.size w w':=by
 have HR:=zaa h
 have LS:=zaa (fun w1 => zlm s w1 hs)
 have LW:=zaa (fun vL ns w1 h hL hn => znf v vL ws ps ns w1 h hL hi hn)
 have WR:=zaa (fun ns => zjx hi ns 0 (by omega))
 have SL:=zaa (@zss s)
 have EL:=zaa (show paI ws ps s = if spB s = true then paL ws ps (spL s) else (0,⟨#[]⟩,12) from rfl)
 have L16:=zaa (zat hi).1
 obtain ⟨vW,vP,rfl,h1,h2⟩:=h
 obtain ⟨aW,cW,rfl,_,hcW⟩:=h1.shape
 obtain ⟨aP,cP,rfl,_,_⟩:=h2.shape
 obtain ⟨bW,oW,rfl,hblW,hcellW⟩:=hcW (by have:=L16.out; omega)
 have HW:Hid (∀ w',Below w.heap.size w w' → ∀ n:Nat,n < 16 → w'.cell? ⟨bW,oW + n * 11,none⟩ = some (.int .i64 (zai ws n))):=fun w' hb n hn => by
  have hnl:n < ws.length:=by have:=L16.out; omega
  rw [zbn hnl]
  exact (hb.cell (p:=⟨bW,oW + n * 11,none⟩) hblW).trans (hcellW n hnl).1
 clear h1 h2 hi hcW hcellW
 have CA:Hid (∀ w',Below (w.alloc (.cells #[.slice (some ⟨bW,oW,none⟩) ws.length cW,.slice aP ps.length cP] 42)).heap.size (w.alloc (.cells #[.slice (some ⟨bW,oW,none⟩) ws.length cW,.slice aP ps.length cP] 42)) w' → w'.cell? ⟨w.heap.size,0,none⟩ = some (.slice (some ⟨bW,oW,none⟩) ws.length cW) ∧ w'.cell? ⟨w.heap.size,1,none⟩ = some (.slice aP ps.length cP)):=fun w' hb => by
  have:w'.heap[w.heap.size]? = some (.cells #[.slice (some ⟨bW,oW,none⟩) ws.length cW,.slice aP ps.length cP] 42 (0,0)):=(hb.block _ (by simp)).trans (zah rfl)
  exact ⟨(zac this).1,(zac this).2.1⟩
 have BW:Hid (Below w.heap.size w (w.alloc (.cells #[.slice (some ⟨bW,oW,none⟩) ws.length cW,.slice aP ps.length cP] 42))):=(Below.refl _ _).alloc (Nat.le_refl _) _
 generalize hres:paI ws ps s = res at *
 clear hres
 cases c:spB s with
 | false =>
  rw [c] at LS EL
  obtain rfl:=EL.out
  clear EL LW
  go_enter Tryz.func74,Tryz.ntmps74
  go_wp2_with fail
  refine (LS.out _).mono ?_
  rintro e w1 ⟨v1,rfl,hr1,hb1⟩
  have B1:=zaa (zab BW.out hb1 BW.out.size)
  clear hr1 hb1
  go_wp2
  go_ret3
  exact ⟨rfl,B1.out⟩
 | true =>
 rw [c] at LS EL
 have EL2:Hid (res = paL ws ps (spL s)):=EL
 clear EL c
 generalize spL s = ns at *
 by_cases c1:ns = []
 ·subst c1
  obtain rfl:=EL2.out
  clear EL2 LW
  go_enter Tryz.func74,Tryz.ntmps74
  go_wp2_with fail
  refine (LS.out _).mono ?_
  rintro e w1 ⟨v1,rfl,hr1,hb1⟩
  have B1:=zaa (zab BW.out hb1 BW.out.size)
  obtain ⟨aL,cL,rfl,_,_⟩:=hr1.shape
  clear hr1 hb1
  simp only [List.length_nil]
  go_wp2
  go_ret3
  exact ⟨rfl,B1.out⟩
 obtain ⟨xs,x,rfl⟩:=zyz c1
 rw [zid] at EL2
 clear c1
 have EP:=zaa (show paN ws ps xs x = if (wk ws ps 0 xs).2 = 0 then (if zai ws (wk ws ps 0 xs).1 = 2 then ((wk ws ps 0 xs).1,x,0) else (0,⟨#[]⟩,10)) else (0,⟨#[]⟩,(wk ws ps 0 xs).2) from rfl)
 rw [EP.out] at EL2
 clear EP
 have sl:=SL.out
 rw [List.length_append,List.length_cons,List.length_nil,Nat.zero_add] at sl
 have wr1:=WR.out xs
 have LW2:=zaa (fun vL w1 h hL => LW.out vL xs w1 h hL (by omega))
 obtain ⟨z,hz⟩:∃ z:Nat,(wk ws ps 0 xs).1 = (z:Int):=⟨((wk ws ps 0 xs).1).toNat,by omega⟩
 have z16:z < 16:=by omega
 rw [hz] at EL2 LW2
 clear LW WR SL wr1 hz
 generalize (wk ws ps 0 xs).2 = wc at *
 go_enter Tryz.func74,Tryz.ntmps74
 go_wp2_with fail
 refine (LS.out _).mono ?_
 rintro e w1 ⟨v1,rfl,hr1,hb1⟩
 have B1:=zaa (zab BW.out hb1 BW.out.size)
 have BA:=zaa hb1
 have hbn:(w.alloc (.cells #[.slice (some ⟨bW,oW,none⟩) ws.length cW,.slice aP ps.length cP] 42)).heap.size ≤ w1.heap.size:=hb1.size
 obtain ⟨x0,x1⟩:=CA.out _ hb1
 have R1:=zaa hr1
 obtain ⟨aL,cL,rfl,hcap,hcL⟩:=hr1.shape
 obtain ⟨b,o,rfl,hbl,hcell⟩:=hcL (by rw [List.length_append]; simp)
 have hx:w1.cell? ⟨b,o + xs.length,none⟩ = some (.string x):=by
  have:=hcell xs.length (by rw [List.length_append]; simp)
  simpa using this
 have RT:Hid (RdT w1 (.slice (some ⟨b,o,none⟩) xs.length cL) xs):=by
  have:=zmp R1.out (m:=xs.length) (by rw [List.length_append]; omega)
  rw [List.take_left] at this
  exact this
 rw [List.length_append,List.length_cons,List.length_nil,Nat.zero_add] at hcap
 simp only [List.length_append,List.length_cons,List.length_nil,Nat.zero_add]
 clear hr1 hb1 hcL hcell R1 LS
 generalize xs.length = n at *
 have n0:(((n + 1:Nat):Int) == 0) = false:=by rw [beq_eq_false_iff_ne]; omega
 have nw:IntKind.i64.wrap (((n + 1:Nat):Int) - 1) = (n:Int):=by
  rw [show (((n + 1:Nat):Int) - 1) = (n:Int) by omega,IntKind.wrap_i64]
  omega
 have ncap:(n:Int) ≤ (cL:Int):=by omega
 have nw2:IntKind.i64.wrap ((n:Int) + 1 - 1) = (n:Int):=by rw [IntKind.wrap_i64]; omega
 have nw3:IntKind.i64.wrap (n:Int) = (n:Int):=by rw [IntKind.wrap_i64]; omega
 have nn0:(0:Int) ≤ (n:Int):=by omega
 have nn1:(n:Int) < ((n + 1:Nat):Int):=by omega
 have nn2:(n:Int) < (n:Int) + 1:=by omega
 have z0:(0:Int) ≤ (z:Int):=by omega
 have z1:(z:Int) < (ws.length:Int):=by have:=L16.out; omega
 have SK:Hid (∀ w',Below w1.heap.size w1 w' → w'.cell? ⟨w.heap.size,0,none⟩ = some (.slice (some ⟨bW,oW,none⟩) ws.length cW) ∧ w'.cell? ⟨w.heap.size,1,none⟩ = some (.slice aP ps.length cP)):=fun w' hb => CA.out w' (zab BA.out hb hbn)
 have HX:Hid (∀ w',Below w1.heap.size w1 w' → w'.cell? ⟨b,o + n,none⟩ = some (.string x)):=fun w' hb => (hb.cell (p:=⟨b,o + n,none⟩) hbl).trans hx
 have LW3:=zaa (fun w2 (hb:Below w1.heap.size w1 w2) => LW2.out _ w2 (HR.out.below (zab B1.out hb B1.out.size)) (Rd.below RT.out hb))
 clear LW2 RT hx
 by_cases q:wc = 0
 case neg =>
  rw [if_neg q] at EL2
  obtain rfl:=EL2.out
  have q1:(wc != 0) = true:=by rw [bne_iff_ne]; exact q
  clear EL2 q
  go_wp2_with fail
  go_region_held3 (fun w' => w'.cell? ⟨w.heap.size,0,none⟩ = some (.slice (some ⟨bW,oW,none⟩) ws.length cW) ∧ w'.cell? ⟨w.heap.size,1,none⟩ = some (.slice aP ps.length cP))
   (exact SK.out _ (by repeat (first | exact BF.out | exact Below.refl _ _ | refine Below.drew ?_)))
   (first
    | (go_at_call 122; refine (LW3.out _ (by repeat (first | exact Below.refl _ _ | refine Below.drew ?_))).mono ?_; rintro e w2 ⟨rfl,hb2⟩; have BF:Hid (Below w1.heap.size w1 w2):=(by first | exact hb2 | exact zab (by repeat (first | exact Below.refl _ _ | refine Below.drew ?_)) hb2 (Nat.le_refl _)); clear hb2))
  all_goals
   have B3:=zaa (zab B1.out BF.out B1.out.size)
   clear SK x0 x1
   go_wp2
   go_ret3
   exact ⟨rfl,(by repeat (first | exact B3.out | refine Below.drew ?_))⟩
 rw [if_pos q] at EL2
 subst q
 have HZ:=zaa (fun w' hb => HW.out w' hb z z16)
 by_cases r:zai ws z = 2
 case neg =>
  rw [if_neg r] at EL2
  obtain rfl:=EL2.out
  have r1:(zai ws z != 2) = true:=by rw [bne_iff_ne]; exact r
  clear EL2 r
  generalize zai ws z = kz at *
  go_wp2_with fail
  go_region_held3 (fun w' => w'.cell? ⟨w.heap.size,0,none⟩ = some (.slice (some ⟨bW,oW,none⟩) ws.length cW) ∧ w'.cell? ⟨w.heap.size,1,none⟩ = some (.slice aP ps.length cP))
   (exact SK.out _ (by repeat (first | exact BF.out | exact Below.refl _ _ | refine Below.drew ?_)))
   (first
    | (go_at_call 122; refine (LW3.out _ (by repeat (first | exact Below.refl _ _ | refine Below.drew ?_))).mono ?_; rintro e w2 ⟨rfl,hb2⟩; have BF:Hid (Below w1.heap.size w1 w2):=(by first | exact hb2 | exact zab (by repeat (first | exact Below.refl _ _ | refine Below.drew ?_)) hb2 (Nat.le_refl _)); clear hb2))
  all_goals
   have B3:=zaa (zab B1.out BF.out B1.out.size)
   clear x0 x1
   obtain ⟨x0,x1⟩:=SK.out _ BF.out
   have y0:=HZ.out _ B3.out
   clear SK
   go_wp2
   go_ret3
   exact ⟨rfl,(by repeat (first | exact B3.out | refine Below.drew ?_))⟩
 rw [if_pos r] at EL2
 obtain rfl:=EL2.out
 have r1:(zai ws z != 2) = false:=by rw [r]; rfl
 clear EL2 r
 generalize zai ws z = kz at *
 go_wp2_with fail
 go_region_held3 (fun w' => w'.cell? ⟨w.heap.size,0,none⟩ = some (.slice (some ⟨bW,oW,none⟩) ws.length cW) ∧ w'.cell? ⟨w.heap.size,1,none⟩ = some (.slice aP ps.length cP))
  (exact SK.out _ (by repeat (first | exact BF.out | exact Below.refl _ _ | refine Below.drew ?_)))
  (first
   | (go_at_call 122; refine (LW3.out _ (by repeat (first | exact Below.refl _ _ | refine Below.drew ?_))).mono ?_; rintro e w2 ⟨rfl,hb2⟩; have BF:Hid (Below w1.heap.size w1 w2):=(by first | exact hb2 | exact zab (by repeat (first | exact Below.refl _ _ | refine Below.drew ?_)) hb2 (Nat.le_refl _)); clear hb2))
 all_goals
  have B3:=zaa (zab B1.out BF.out B1.out.size)
  clear x0 x1
  obtain ⟨x0,x1⟩:=SK.out _ BF.out
  have y0:=HZ.out _ B3.out
  have hx:=HX.out _ BF.out
  clear SK
  go_wp2_with fail
  go_region_held3 (fun w' => w'.cell? ⟨b,o + n,none⟩ = some (.string x))
   (exact HX.out _ (by repeat (first | exact BF.out | refine Below.drew ?_)))
   (fail)
  all_goals
   go_wp2
   go_ret3
   exact ⟨rfl,(by repeat (first | exact B3.out | refine Below.drew ?_))⟩
def zjo (w w':World) (e:Ending) (r:List Se × Int):Prop:=∃ v',e = .returned (.tuple #[v',.int .i64 r.2]) ∧ Row w' 83 2 w.heap.size w'.heap.size v' r.1.length (ses r.1) ∧ Below w.heap.size w w'
theorem upn {w w1:World} (B:Below w.heap.size w w1):Row (w1.alloc (.cells #[] 83)) 83 2 w.heap.size (w1.alloc (.cells #[] 83)).heap.size (.slice (some ⟨w1.heap.size,0,none⟩) 0 0) 0 [] ∧ Below w.heap.size w (w1.alloc (.cells #[] 83)) :=
 ⟨(zmu w1 _ _).wide B.size (Nat.le_refl _),B.alloc B.size _⟩
theorem zcc {w w1:World} {c:Int} (B:Below w.heap.size w w1):zjo w (w1.alloc (.cells #[] 83)) (.returned (.tuple #[.slice (some ⟨w1.heap.size,0,none⟩) 0 0,.int .i64 c])) ([],c) :=
 ⟨_,rfl,(upn B).1,(upn B).2⟩
theorem zsm {w w1:World} {b:Nat} {c:Int} (B:Below w.heap.size w w1) (hb:b = w1.heap.size):zjo w (w1.alloc (.cells #[] 83)) (.returned (.tuple #[.slice (some ⟨b,0,none⟩) 0 0,.int .i64 c])) ([],c):=by
 subst hb
 exact zcc B
theorem yaav {w w1:World} {v:Value} {L:List Se} (c:Int) (h:UpI w w1 v L):zjo w w1 (.returned (.tuple #[v,.int .i64 c])) (L,c) :=
 ⟨_,rfl,zad h.l,h.b⟩
theorem zlq {w w1:World} {c:Int} (B:Below w.heap.size w w1):zjo w w1 (.returned (.tuple #[.slice none 0 0,.int .i64 c])) ([],c) :=
 ⟨_,rfl,Row.nil _ _ _ _ _,B⟩
set_option maxRecDepth 100000 in
set_option maxHeartbeats 8000000 in
theorem zoc (v:Value) (ws:List Ino) (ps:List Den) (s:ByteArray) (kind:Int) (w:World) (h:RdIm w v ws ps) (hi:zcb ws ps = true) (hs:s.size ≤ 65536) :
  Calls Tryz.prog 177 #[v,.string s,.int .i64 kind] w fun e w' => zjo w w' e (mkI ws ps s kind):=by
 have HR:=zaa h
 have LP:=zaa (fun w1 (hb:Below w.heap.size w w1) => zds v ws ps s w1 (h.below hb) hi hs)
 have LE:=zaa (fun d nm w1 (hb:Below w.heap.size w w1) => zen v ws ps d nm w1 (h.below hb) (by have:=(zat hi).2.1; omega))
 have LI:=zaa (fun w1 (hb:Below w.heap.size w w1) => zly v ws ps w1 (h.below hb) (by have:=(zat hi).1; omega))
 have LK:=zaa (fun w1 (hb:Below w.heap.size w w1) => zgb v ws ps w1 (h.below hb) (by have:=(zat hi).2.1; omega))
 have EL:=zaa (show mkI ws ps s kind = if (paI ws ps s).2.2 = 0 then mkN ws ps kind (paI ws ps s).1 (paI ws ps s).2.1 else ([],(paI ws ps s).2.2) from rfl)
 have EN:=zaa (fun d nm => show mkN ws ps kind d nm = if 0 ≤ zkf ps d nm then ([],8) else if fiI ws < 0 then ([],7) else if feI ps < 0 then ([],7) else (mkU (fiI ws) (feI ps) kind d nm,0) from rfl)
 have PO:=zaa (fun c => zhf (s:=s) hi c)
 have f1:=yamd hi
 have f2:=zzx hi
 have FP:=zaa (@yauy ws)
 rw [show zby (fun i => decide (1 ≤ i) && zai ws (i:Int) == 0) ws.length = fiI ws from rfl] at LI
 obtain ⟨vW,vP,rfl,h1,h2⟩:=h
 obtain ⟨aW,cW,rfl,_,_⟩:=h1.shape
 obtain ⟨aP,cP,rfl,_,_⟩:=h2.shape
 clear h1 h2 hi hs
 have CA:Hid (∀ w',Below (w.alloc (.cells #[.slice aW ws.length cW,.slice aP ps.length cP] 42)).heap.size (w.alloc (.cells #[.slice aW ws.length cW,.slice aP ps.length cP] 42)) w' → w'.cell? ⟨w.heap.size,0,none⟩ = some (.slice aW ws.length cW) ∧ w'.cell? ⟨w.heap.size,1,none⟩ = some (.slice aP ps.length cP)):=fun w' hb => by
  have:w'.heap[w.heap.size]? = some (.cells #[.slice aW ws.length cW,.slice aP ps.length cP] 42 (0,0)):=(hb.block _ (by simp)).trans (zah rfl)
  exact ⟨(zac this).1,(zac this).2.1⟩
 have BW:Hid (Below w.heap.size w (w.alloc (.cells #[.slice aW ws.length cW,.slice aP ps.length cP] 42))):=(Below.refl _ _).alloc (Nat.le_refl _) _
 have hz:w.heap.size < (w.alloc (.cells #[.slice aW ws.length cW,.slice aP ps.length cP] 42)).heap.size:=by simp
 obtain ⟨x0,x1⟩:=CA.out _ (Below.refl _ _)
 generalize mkI ws ps s kind = res at *
 generalize paI ws ps s = pr at *
 generalize fiI ws = fi at *
 generalize feI ps = fe at *
 obtain ⟨pd,pn,pc⟩:=pr
 simp only at EL PO LP
 go_enter Tryz.func177,Tryz.ntmps177
 go_wp2_with fail
 refine (LP.out _ BW.out).mono ?_
 rintro e w1 ⟨rfl,hb1⟩
 have A1:=zaa hb1
 have B1:=zaa (zab BW.out hb1 BW.out.size)
 have z1:(w.alloc (.cells #[.slice aW ws.length cW,.slice aP ps.length cP] 42)).heap.size ≤ w1.heap.size:=hb1.size
 clear x0 x1
 obtain ⟨x0,x1⟩:=CA.out _ hb1
 clear hb1 LP
 by_cases c:pc = 0
 case neg =>
  rw [if_neg c] at EL
  obtain rfl:=EL.out
  have q:(pc != 0) = true:=by rw [bne_iff_ne]; exact c
  clear EL c x0 x1
  go_wp2
  go_ret2
  exact zcc B1.out
 rw [if_pos c] at EL
 subst c
 obtain ⟨p1,p2,p3⟩:=PO.out rfl
 have NM:=zaa p3
 rw [EN.out] at EL
 clear PO p2 p3 EN
 have LE2:=zaa (fun w1 hb => LE.out pd pn w1 hb)
 generalize zkf ps pd pn = ei at *
 clear LE
 go_wp2_with fail
 refine (LE2.out _ B1.out).mono ?_
 rintro e w2 ⟨rfl,hb2⟩
 have A2:=zaa (zab A1.out hb2 z1)
 have B2:=zaa (zab B1.out hb2 B1.out.size)
 have z2:(w.alloc (.cells #[.slice aW ws.length cW,.slice aP ps.length cP] 42)).heap.size ≤ w2.heap.size:=A2.out.size
 clear x0 x1
 obtain ⟨x0,x1⟩:=CA.out _ A2.out
 clear hb2 LE2 A1 B1
 by_cases c:0 ≤ ei
 ·rw [if_pos c] at EL
  obtain rfl:=EL.out
  have c1:ei ≥ 0:=c
  clear EL x0 x1 c
  go_wp2
  go_ret2
  exact zcc B2.out
 rw [if_neg c] at EL
 have c1:¬ ei ≥ 0:=c
 clear c
 go_wp2_with fail
 refine (LI.out _ B2.out).mono ?_
 rintro e w3 ⟨rfl,hb3⟩
 have A3:=zaa (zab A2.out hb3 z2)
 have B3:=zaa (zab B2.out hb3 B2.out.size)
 have z3:(w.alloc (.cells #[.slice aW ws.length cW,.slice aP ps.length cP] 42)).heap.size ≤ w3.heap.size:=A3.out.size
 clear x0 x1
 obtain ⟨x0,x1⟩:=CA.out _ A3.out
 clear hb3 LI A2 B2 c1
 go_wp2_with fail
 refine (LK.out _ B3.out).mono ?_
 rintro e w4 ⟨rfl,hb4⟩
 have B4:=zaa (zab B3.out hb4 B3.out.size)
 clear hb4 LK A3 B3 x0 x1 CA
 by_cases c2:fi < 0
 ·rw [if_pos c2] at EL
  obtain rfl:=EL.out
  clear EL
  go_wp2
  go_ret2
  exact zcc B4.out
 rw [if_neg c2] at EL
 by_cases c3:fe < 0
 ·rw [if_pos c3] at EL
  obtain rfl:=EL.out
  clear EL
  go_wp2
  go_ret2
  exact zcc B4.out
 rw [if_neg c3] at EL
 have fp:=FP.out (by omega)
 have LN:=zaa (fun w1 => zfp fe ⟨pd,pn,fi⟩ w1 (by omega) (show -1 ≤ fi ∧ fi ≤ 15 by omega) (.inr NM.out))
 have EU:=zaa (show mkU fi fe kind pd pn = [⟨48 + 12 * fi,kind⟩,⟨48 + 12 * fi + 2,1⟩] ++ enL fe ⟨pd,pn,fi⟩ from rfl)
 have LV:=zaa (show (Den.mk pd pn fi).v = .agg #[.int .i64 pd,.string pn,.int .i64 fi] from rfl)
 rw [LV.out] at LN
 have l3:(enL fe ⟨pd,pn,fi⟩).length ≤ 3:=Nat.le_refl _
 generalize enL fe ⟨pd,pn,fi⟩ = L at *
 have fr:0 ≤ fi ∧ fi < 16:=by omega
 go_wp2_with (go_at_call 93; refine (zbc _ _ _ fr (by omega)).mono ?_; rintro e w' ⟨rfl,hw'⟩; subst w')
 have J5:Hid (UpI w (w4.alloc (.cells #[.int .i64 (48 + 12 * fi),.int .i64 kind,.int .i64 (48 + 12 * fi + 2),.int .i64 1] 83)) (.slice (some ⟨w4.heap.size,0,none⟩) 2 2) [⟨48 + 12 * fi,kind⟩,⟨48 + 12 * fi + 2,1⟩]):=⟨World.ownsRow_lit w4 _ 2 B4.out.size (by simp [maxLen]) rfl,B4.out.alloc B4.out.size _⟩
 refine (LN.out _).mono ?_
 rintro e w6 ⟨v6,rfl,hr6,hb6⟩
 have J6:=zaa (J5.out.below hb6)
 have R6:=zaa hr6.rd
 obtain ⟨-,aL,cL,hvL,-⟩:=hr6.rd
 subst hvL
 have z6:w.heap.size ≤ w6.heap.size:=J6.out.z
 clear hr6 hb6 J5 LN
 go_wp2_with (at_builtin; refine zae _ rfl (.tmp 50) (.tmp 56) 46 rfl w.heap.size 83 (.agg #[.int .i64 0,.int .i64 0]) 2 16 Tryz.underlying46 zjy rfl (by decide) _ _ _ rfl J6.out.l _ _ _ rfl R6.out (zew _) (by simp [maxLen]; omega) (by simp; omega) z6 ?_)
 intro vN wN hownN hgrN
 have G:=zaa (J6.out.grow L hownN hgrN)
 rw [← EU.out] at G
 obtain ⟨-,aN,cN,hvN,-⟩:=(zad hownN).rd
 subst hvN
 obtain rfl:=EL.out
 clear hownN hgrN J6 R6 EL
 go_wp2
 go_ret2
 exact yaav 0 G.out
theorem UpI.wide {w w3 w1:World} {v:Value} {L:List Se} (h:UpI w3 w1 v L) (B:Below w.heap.size w w3):UpI w w1 v L:=⟨((zad h.l).wide B.size (Nat.le_refl _)).1,zab B h.b B.size⟩
theorem yacr {ps:List Den} {d:Int} (h:¬ zbt ps d = []):0 < (zfr (zbt ps d)).length:=by
 rw [zqk]
 exact List.length_pos_iff.2 h
theorem yacd {ps:List Den} {d:Int} (h:zbt ps d = []):(zfr (zbt ps d)).length = 0:=by
 rw [zqk,h]
 rfl
set_option maxRecDepth 100000 in
set_option maxHeartbeats 16000000 in
theorem zrx (v:Value) (ws:List Ino) (ps:List Den) (s:ByteArray) (w:World) (h:RdIm w v ws ps) (hi:zcb ws ps = true) (hs:s.size ≤ 65536) :
  Calls Tryz.prog 178 #[v,.string s] w fun e w' => zjo w w' e (rmI ws ps s):=by
 have LP:=zaa (fun w1 (hb:Below w.heap.size w w1) => zds v ws ps s w1 (h.below hb) hi hs)
 have LE:=zaa (fun d nm w1 (hb:Below w.heap.size w w1) => zen v ws ps d nm w1 (h.below hb) (by have:=(zat hi).2.1; omega))
 have LN:=zaa (fun d w1 (hb:Below w.heap.size w w1) => zlt v ws ps d w1 (h.below hb) (by have:=(zat hi).2.1; omega))
 have EL:=zaa (show rmI ws ps s = if (paI ws ps s).2.2 = 0 then rmN ws ps (paI ws ps s).1 (paI ws ps s).2.1 else ([],(paI ws ps s).2.2) from rfl)
 have EN:=zaa (fun d nm => show rmN ws ps d nm = match zax ps d nm with | none => ([],5) | some k => rmC ws ps k from rfl)
 have EC:=zaa (fun k => show rmC ws ps k = if zai ws (zal ps k) = 2 ∧ ¬ zbt ps (zal ps k) = [] then ([],11) else (rmU (k:Int) (zal ps k) (zeo ws (zal ps k)),0) from rfl)
 have CR:=zaa (fun d nm k e => zeb hi (d:=d) (nm:=nm) (k:=k) e)
 have LR:=zaa (fun i h0 => zqm hi (i:=i) h0)
 obtain ⟨l16,l24,_⟩:=zat hi
 have L16:=zaa l16
 have L24:=zaa l24
 obtain ⟨vW,vP,rfl,h1,h2⟩:=h
 obtain ⟨aW,cW,rfl,_,hcW⟩:=h1.shape
 obtain ⟨aP,cP,rfl,_,hcP⟩:=h2.shape
 obtain ⟨bW,oW,rfl,hblW,hcellW⟩:=hcW (by omega)
 obtain ⟨bP,oP,rfl,hblP,hcellP⟩:=hcP (by omega)
 have HW:=zaa hcellW
 have HP:=zaa hcellP
 clear h1 h2 hi hs hcW hcP hcellW hcellP l16 l24
 have CA:Hid (∀ w',Below (w.alloc (.cells #[.slice (some ⟨bW,oW,none⟩) ws.length cW,.slice (some ⟨bP,oP,none⟩) ps.length cP] 42)).heap.size (w.alloc (.cells #[.slice (some ⟨bW,oW,none⟩) ws.length cW,.slice (some ⟨bP,oP,none⟩) ps.length cP] 42)) w' → w'.cell? ⟨w.heap.size,0,none⟩ = some (.slice (some ⟨bW,oW,none⟩) ws.length cW) ∧ w'.cell? ⟨w.heap.size,1,none⟩ = some (.slice (some ⟨bP,oP,none⟩) ps.length cP)):=fun w' hb => by
  have:w'.heap[w.heap.size]? = some (.cells #[.slice (some ⟨bW,oW,none⟩) ws.length cW,.slice (some ⟨bP,oP,none⟩) ps.length cP] 42 (0,0)):=(hb.block _ (by simp)).trans (zah rfl)
  exact ⟨(zac this).1,(zac this).2.1⟩
 have BW:Hid (Below w.heap.size w (w.alloc (.cells #[.slice (some ⟨bW,oW,none⟩) ws.length cW,.slice (some ⟨bP,oP,none⟩) ps.length cP] 42))):=(Below.refl _ _).alloc (Nat.le_refl _) _
 obtain ⟨x0,x1⟩:=CA.out _ (Below.refl _ _)
 obtain ⟨W,hW⟩:∃ W,W = w.alloc (.cells #[.slice (some ⟨bW,oW,none⟩) ws.length cW,.slice (some ⟨bP,oP,none⟩) ps.length cP] 42):=⟨_,rfl⟩
 rw [← hW] at CA BW
 have hz:w.heap.size < W.heap.size:=by rw [hW]; simp
 generalize rmI ws ps s = res at *
 generalize paI ws ps s = pr at *
 obtain ⟨pd,pn,pc⟩:=pr
 simp only at EL LP
 go_enter Tryz.func178,Tryz.ntmps178
 go_wp2_with fail
 rw [← hW]
 clear hW x0 x1
 refine (LP.out _ BW.out).mono ?_
 rintro e w1 ⟨rfl,hb1⟩
 have A1:=zaa hb1
 have B1:=zaa (zab BW.out hb1 BW.out.size)
 obtain ⟨x0,x1⟩:=CA.out _ hb1
 clear hb1 LP
 by_cases c:pc = 0
 case neg =>
  rw [if_neg c] at EL
  obtain rfl:=EL.out
  have q:(pc != 0) = true:=by rw [bne_iff_ne]; exact c
  clear EL c x0 x1
  go_wp2
  go_ret2
  exact zcc B1.out
 rw [if_pos c] at EL
 subst c
 rw [EN.out] at EL
 have LE2:=zaa (fun w1 hb => LE.out pd pn w1 hb)
 clear EN LE
 cases he:zax ps pd pn with
 | none =>
  rw [he] at EL
  obtain rfl:=EL.out
  have e1:=(zhw (ps:=ps) (d:=pd) (nm:=pn)).1 he
  generalize zkf ps pd pn = ei at *
  clear EL he
  go_wp2_with fail
  refine (LE2.out _ B1.out).mono ?_
  rintro e w2 ⟨rfl,hb2⟩
  have B2:=zaa (zab B1.out hb2 B1.out.size)
  clear hb2 x0 x1
  have e2:ei < 0:=by omega
  clear e1
  go_wp2
  go_ret2
  exact zcc B2.out
 | some k =>
 rw [he] at EL
 have EL2:Hid (res = rmC ws ps k):=EL.out
 rw [EC.out] at EL2
 rw [zow he] at LE2
 obtain ⟨k1,k2⟩:=CR.out _ _ _ he
 have lr:=LR.out _ k2
 have HPk:=zaa (fun w' (hb:Below w.heap.size w w') => ((hb.cell (p:=⟨bP,oP + k * 3 + 2,none⟩) hblP).trans (HP.out k k1).2.2).trans (by rw [← zbh k1]))
 have LNk:=zaa (fun w1 hb => LN.out (zal ps k) w1 hb)
 have KN:=zaa (@yacr ps (zal ps k))
 have KM:=zaa (@yacd ps (zal ps k))
 obtain ⟨i,hi'⟩:∃ i:Nat,zal ps k = (i:Int):=⟨(zal ps k).toNat,by omega⟩
 rw [hi'] at EL2 lr HPk LNk KN KM
 have i1:i < ws.length:=by have:=L16.out; omega
 have CI:=zaa (HW.out i i1)
 rw [← zbn i1,← zhm i1] at CI
 have k24:k < 24:=by have:=L24.out; omega
 have i16:i < 16:=by omega
 have kl:(k:Int) < (ps.length:Int):=by omega
 have il:(i:Int) < (ws.length:Int):=by omega
 have k0:(0:Int) ≤ (k:Int):=by omega
 have i0:(0:Int) ≤ (i:Int):=by omega
 clear EL EC CR LR he HP HW LN hi' k2 hblP L16 L24
 generalize ws[i] = xi at *
 generalize zai ws (i:Int) = kd at *
 generalize zeo ws (i:Int) = lk at *
 generalize zbt ps (i:Int) = nms at *
 go_wp2_with fail
 refine (LE2.out _ B1.out).mono ?_
 rintro e w2 ⟨rfl,hb2⟩
 have A2:=zaa (zab A1.out hb2 A1.out.size)
 have B2:=zaa (zab B1.out hb2 B1.out.size)
 have z2:W.heap.size ≤ w2.heap.size:=A2.out.size
 clear x0 x1 hb2 A1 B1 LE2
 obtain ⟨x0,x1⟩:=CA.out _ A2.out
 have y0:=HPk.out _ B2.out
 obtain ⟨c0,c1,c2,c3,c4,c5,c6,c7,c8,c9,c10⟩:=CI.out
 have d0:=(B2.out.cell (p:=⟨bW,oW + i * 11,none⟩) hblW).trans c0
 have d1:=(B2.out.cell (p:=⟨bW,oW + i * 11 + 1,none⟩) hblW).trans c1
 have d2:=(B2.out.cell (p:=⟨bW,oW + i * 11 + 2,none⟩) hblW).trans c2
 have d3:=(B2.out.cell (p:=⟨bW,oW + i * 11 + 3,none⟩) hblW).trans c3
 have d4:=(B2.out.cell (p:=⟨bW,oW + i * 11 + 4,none⟩) hblW).trans c4
 have d5:=(B2.out.cell (p:=⟨bW,oW + i * 11 + 5,none⟩) hblW).trans c5
 have d6:=(B2.out.cell (p:=⟨bW,oW + i * 11 + 6,none⟩) hblW).trans c6
 have d7:=(B2.out.cell (p:=⟨bW,oW + i * 11 + 7,none⟩) hblW).trans c7
 have d8:=(B2.out.cell (p:=⟨bW,oW + i * 11 + 8,none⟩) hblW).trans c8
 have d9:=(B2.out.cell (p:=⟨bW,oW + i * 11 + 9,none⟩) hblW).trans c9
 have d10:=(B2.out.cell (p:=⟨bW,oW + i * 11 + 10,none⟩) hblW).trans c10
 clear c0 c1 c2 c3 c4 c5 c6 c7 c8 c9 c10 CI
 have AX:=zaa (A2.out.alloc A2.out.size (.cells #[.int .i64 kd,.int .i64 xi.size,.int .i64 lk,.int .i64 xi.m0,.int .i64 xi.m1,.int .i64 xi.m2,.int .i64 xi.m3,.int .i64 xi.m4,.int .i64 xi.m5,.int .i64 xi.m6,.int .i64 xi.m7] 66))
 have BX:=zaa (B2.out.alloc B2.out.size (.cells #[.int .i64 kd,.int .i64 xi.size,.int .i64 lk,.int .i64 xi.m0,.int .i64 xi.m1,.int .i64 xi.m2,.int .i64 xi.m3,.int .i64 xi.m4,.int .i64 xi.m5,.int .i64 xi.m6,.int .i64 xi.m7] 66))
 have VX:Hid ((w2.alloc (.cells #[.int .i64 kd,.int .i64 xi.size,.int .i64 lk,.int .i64 xi.m0,.int .i64 xi.m1,.int .i64 xi.m2,.int .i64 xi.m3,.int .i64 xi.m4,.int .i64 xi.m5,.int .i64 xi.m6,.int .i64 xi.m7] 66)).heap[w2.heap.size]? = some (.cells #[.int .i64 kd,.int .i64 xi.size,.int .i64 lk,.int .i64 xi.m0,.int .i64 xi.m1,.int .i64 xi.m2,.int .i64 xi.m3,.int .i64 xi.m4,.int .i64 xi.m5,.int .i64 xi.m6,.int .i64 xi.m7] 66 (0,0))):=zah rfl
 have EU:=zaa (show rmU (k:Int) (i:Int) lk = enL (k:Int) freeD ++ (if 1 < lk then [⟨48 + 12 * (i:Int) + 2,lk - 1⟩] else wrL (i:Int) zhu 8) from rfl)
 generalize rmU (k:Int) (i:Int) lk = ru at *
 have LA:=zaa (fun w1 => zfp (k:Int) freeD w1 (by omega) (by decide) (.inl rfl))
 rw [show freeD.v = .agg #[.int .i64 0,.string ⟨#[]⟩,.int .i64 (-1)] from rfl] at LA
 have l3:(enL (k:Int) freeD).length ≤ 3:=Nat.le_refl _
 generalize enL (k:Int) freeD = EN at *
 have LW:=zaa (fun w1 => zur (i:Int) zhu w1 (by omega))
 rw [show zhu.v = .agg #[.int .i64 0,.int .i64 0,.int .i64 0,.int .i64 0,.int .i64 0,.int .i64 0,.int .i64 0,.int .i64 0,.int .i64 0,.int .i64 0,.int .i64 0] from rfl] at LW
 have l11:(wrL (i:Int) zhu 8).length ≤ 11:=by rw [zxi]; omega
 generalize wrL (i:Int) zhu 8 = WL at *
 have wpl:IntKind.i64.wrap (lk - 1) = lk - 1:=by rw [IntKind.wrap_i64]; omega
 have CASES:(kd = 2 ∧ ¬ nms = []) ∨ ((kd = 2 ∧ nms = []) ∨ ¬ kd = 2):=by
  by_cases q:kd = 2
  ·by_cases r:nms = []
   ·exact .inr (.inl ⟨q,r⟩)
   ·exact .inl ⟨q,r⟩
  ·exact .inr (.inr q)
 rcases CASES with ⟨q,r⟩ | CASES
 ·rw [if_pos ⟨q,r⟩] at EL2
  obtain rfl:=EL2.out
  have KN2:=KN.out r
  have q1:(kd == 2) = true:=by rw [q]; rfl
  clear EL2 q KM LA LW EU r KN
  generalize (zfr nms).length = nl at *
  have nlp:(nl:Int) > 0:=by omega
  obtain ⟨x0',x1'⟩:=CA.out _ AX.out
  go_wp2_with fail
  refine (LNk.out _ BX.out).mono ?_
  rintro e w3 ⟨v3,rfl,hr3,hb3⟩
  have B3:=zaa (zab BX.out hb3 BX.out.size)
  obtain ⟨-,aL,cL,hvL,-⟩:=hr3.rd
  subst hvL
  clear hr3 hb3 x0 x1 x0' x1' y0 d0 d1 d2 d3 d4 d5 d6 d7 d8 d9 d10
  go_wp2
  go_ret2
  exact zcc B3.out
 have EL3:Hid (res = (ru,0)):=EL2.out.trans (if_neg (by rintro ⟨a,b⟩; rcases CASES with ⟨_,r⟩ | r; exact b r; exact r a))
 clear EL2
 obtain rfl:=EL3.out
 clear EL3
 rcases CASES with ⟨q,r⟩ | q
 case' inl =>
  have KM2:=KM.out r
  have q1:(kd == 2) = true:=by rw [q]; rfl
  clear q KM r KN
  generalize (zfr nms).length = nl at *
  subst KM2
  obtain ⟨x0',x1'⟩:=CA.out _ AX.out
  go_wp2_with fail
  refine (LNk.out _ BX.out).mono ?_
  rintro e w3 ⟨v3,rfl,hr3,hb3⟩
  have A3:=zaa (zab AX.out hb3 AX.out.size)
  have B3:=zaa (zab BX.out hb3 BX.out.size)
  have V3:=zaa ((hb3.block w2.heap.size (by simp)).trans VX.out)
  obtain ⟨-,aL,cL,hvL,-⟩:=hr3.rd
  subst hvL
  clear hr3 hb3 x0 x1 x0' x1' y0 d0 d1 d2 d3 d4 d5 d6 d7 d8 d9 d10 A2 B2 AX BX VX q1
  go_wp2_with fail
 case' inr =>
  have q1:(kd == 2) = false:=by rw [beq_eq_false_iff_ne]; exact q
  clear q KM KN
  go_wp2_with fail
  obtain ⟨w3,hw3⟩:∃ w3,w3 = w2.alloc (.cells #[.int .i64 kd,.int .i64 xi.size,.int .i64 lk,.int .i64 xi.m0,.int .i64 xi.m1,.int .i64 xi.m2,.int .i64 xi.m3,.int .i64 xi.m4,.int .i64 xi.m5,.int .i64 xi.m6,.int .i64 xi.m7] 66):=⟨_,rfl⟩
  rw [← hw3]
  rw [← hw3] at AX BX VX
  have A3:=AX
  have B3:=BX
  have V3:=VX
  clear hw3 AX BX VX x0 x1 y0 d0 d1 d2 d3 d4 d5 d6 d7 d8 d9 d10 A2 B2 q1
 all_goals
  have SK:Hid (∀ w',Below w3.heap.size w3 w' → w'.cell? ⟨w2.heap.size,2,none⟩ = some (.int .i64 lk)):=fun w' hb => (zao (xs:=[.int .i64 kd,.int .i64 xi.size,.int .i64 lk,.int .i64 xi.m0,.int .i64 xi.m1,.int .i64 xi.m2,.int .i64 xi.m3,.int .i64 xi.m4,.int .i64 xi.m5,.int .i64 xi.m6,.int .i64 xi.m7]) ((hb.block _ ((Array.getElem?_eq_some_iff.1 V3.out).1)).trans V3.out) 2).1
  clear V3 CA LNk
  refine (LA.out _).mono ?_
  rintro e w4 ⟨v4,rfl,hr4,hb4⟩
  have J4:Hid (UpI w3 w4 v4 EN):=⟨hr4.1,hb4⟩
  obtain ⟨-,aE,cE,hvE,-⟩:=hr4.rd
  subst hvE
  have y2:=SK.out _ hb4
  clear hr4 hb4 LA
  by_cases r:1 < lk
  ·rw [if_pos r] at EU
   have r1:lk > 1:=r
   have JA:=zaa (J4.out.below ((Below.refl _ _).alloc (Nat.le_refl _) (.cells #[.int .i64 (48 + 12 * (i:Int) + 2),.int .i64 (lk - 1)] 83)))
   have JB:=zaa ((J4.out.below ((Below.refl w4.heap.size w4).drew)).below ((Below.refl _ _).alloc (Nat.le_refl _) (.cells #[.int .i64 (48 + 12 * (i:Int) + 2),.int .i64 (lk - 1)] 83)))
   have RA:=zaa (ziq w4 (48 + 12 * (i:Int) + 2) (lk - 1))
   have RB:=zaa (ziq w4.drew (48 + 12 * (i:Int) + 2) (lk - 1))
   have fr:0 ≤ (i:Int) ∧ (i:Int) < 16:=by omega
   clear LW r
   go_wp2_with fail
   go_region_held3 (fun w' => w'.cell? ⟨w2.heap.size,2,none⟩ = some (.int .i64 lk))
    (first | exact SK.out _ G.out.b | exact SK.out _ J4.out.b | exact SK.out _ J4.out.b.drew | exact SK.out _ JA.out.b | exact SK.out _ JB.out.b)
    (first
     | (go_at_call 93; refine (zbc _ _ _ fr (by omega)).mono ?_; rintro e w' ⟨rfl,hw'⟩; subst w')
     | (refine zam rfl (.tmp 59) (.tmp 66) 46 rfl w3.heap.size 83 (.agg #[.int .i64 0,.int .i64 0]) 2 16 Tryz.underlying46 zjy rfl (by decide) _ EN.length (ses EN) rfl (by first | exact JA.out.l | exact JB.out.l) _ 1 (ses [⟨48 + 12 * (i:Int) + 2,lk - 1⟩]) rfl (by first | exact RA.out | exact RB.out) (zew _) (by simp [maxLen]; omega) (by omega) (by first | exact JA.out.z | exact JB.out.z) ?_; intro vN wN hownN hgrN; have G:=(by first | exact zaa (JA.out.grow [⟨48 + 12 * (i:Int) + 2,lk - 1⟩] hownN hgrN) | exact zaa (JB.out.grow [⟨48 + 12 * (i:Int) + 2,lk - 1⟩] hownN hgrN):Hid (UpI w3 wN vN (EN ++ [⟨48 + 12 * (i:Int) + 2,lk - 1⟩]))); clear hownN hgrN))
   all_goals
    rw [← EU.out] at G
    have G2:=zaa (G.out.wide B3.out)
    obtain ⟨-,aN,cN,hvN,-⟩:=(zad G2.out.l).rd
    subst hvN
    clear J4 JA JB RA RB y2 SK G
    go_wp2
    go_ret2
    exact yaav 0 G2.out
  ·rw [if_neg r] at EU
   have r1:¬ lk > 1:=r
   clear r SK
   go_wp2_with fail
   refine (LW.out _).mono ?_
   rintro e w5 ⟨v5,rfl,hr5,hb5⟩
   have J5:=zaa (J4.out.below hb5)
   have R5:=zaa hr5.rd
   obtain ⟨-,aF,cF,hvF,-⟩:=hr5.rd
   subst hvF
   have z5:w3.heap.size ≤ w5.heap.size:=J5.out.z
   clear hr5 hb5 J4 LW y2
   go_wp2_with (at_builtin; refine zae _ rfl (.tmp 68) (.tmp 71) 46 rfl w3.heap.size 83 (.agg #[.int .i64 0,.int .i64 0]) 2 16 Tryz.underlying46 zjy rfl (by decide) _ _ _ rfl J5.out.l _ _ _ rfl R5.out (zew _) (by simp [maxLen]; omega) (by omega) z5 ?_)
   intro vN wN hownN hgrN
   have G:=zaa (J5.out.grow WL hownN hgrN)
   rw [← EU.out] at G
   have G2:=zaa (G.out.wide B3.out)
   obtain ⟨-,aN,cN,hvN,-⟩:=(zad G2.out.l).rd
   subst hvN
   clear hownN hgrN J5 R5 G
   go_wp2
   go_ret2
   exact yaav 0 G2.out
end Go.Proofs.YtkdjfhkalelafaaGreatDoor
