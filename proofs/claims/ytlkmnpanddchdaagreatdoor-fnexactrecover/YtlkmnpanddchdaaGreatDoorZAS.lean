/- Several texts laid together: ImP, PmSeen, NmU, RdA, PmUnsure. -/
import Derived.Test.YtlkmnpanddchdaaGreatDoorZAR
import Derived.Test.YtlkmnpanddchdaaGreatDoorZAE
import Derived.Test.YtlkmnpanddchdaaGreatDoorZAI
import Derived.Test.YtlkmnpanddchdaaGreatDoorZAD
namespace Go.Proofs.YtlkmnpanddchdaaGreatDoor
open Go.RowKit
theorem zin (v:Value) (ws:List Ino) (ps:List Den) (w:World) (h:RdIm w v ws ps) (hw:ws.length ≤ 1048576) (hp:ps.length ≤ 1048576) (hT:TS w) (hE:ED w) (hF:FD w) (hr:∀ k (h:k < ws.length),ws[k].R) (hs:∀ k (h:k < ps.length),ps[k].name.size ≤ maxLen) :
  Calls Tryz.prog 139 #[v] w fun e w' => e = .returned (.bool (zsq ws ps)) ∧ Below w.heap.size w w':=by
 rw [← yast]
 exact yaku v ws ps w h hw hp hT hE hF hr hs
set_option maxRecDepth 100000 in
set_option maxHeartbeats 8000000 in
theorem zpg (v:Value) (ws:List Ino) (ps:List Den) (w:World) (h:RdIm w v ws ps) (hw:ws.length ≤ 1048576) (hp:ps.length ≤ 1048576) (hr:∀ k (h:k < ws.length),ws[k].R) (hs:∀ k (h:k < ps.length),ps[k].name.size ≤ maxLen) :
  Calls Tryz.prog 119 #[v] w fun e w' => e = .returned (.bool (zsq ws ps)) ∧ Below w.heap.size w w':=by
 have HRD:=zaa h
 have HR:=zaa hr
 have L1:=zaa (fun w1 h => zwp v ws ps w1 h hw hp)
 have L2:=zaa (fun w1 h (hl:ws.length = 16) => zro v ws ps w1 h hl hp hs)
 have L3:=zaa (fun w1 h (hl:ws.length = 16) (o:okNs ws = true) => ztu v ws ps w1 h hl (fun k hk z hz => yalk (zyo o k hk z hz)))
 obtain ⟨vW,vP,rfl,h1,h2⟩:=h
 obtain ⟨aW,cW,rfl,_,hcW⟩:=h1.shape
 obtain ⟨aP,cP,rfl,_,_⟩:=h2.shape
 have HW:=zaa hcW
 clear h1 h2 hr hs hcW
 have CA:Hid (∀ w',Below (w.alloc (.cells #[.slice aW ws.length cW,.slice aP ps.length cP] 108)).heap.size (w.alloc (.cells #[.slice aW ws.length cW,.slice aP ps.length cP] 108)) w' → w'.cell? ⟨w.heap.size,0,none⟩ = some (.slice aW ws.length cW) ∧ w'.cell? ⟨w.heap.size,1,none⟩ = some (.slice aP ps.length cP)):=fun w' hb => by
  have:w'.heap[w.heap.size]? = some (.cells #[.slice aW ws.length cW,.slice aP ps.length cP] 108 (0,0)):=(hb.block _ (by simp)).trans (zag rfl)
  exact ⟨(zad this).1,(zad this).2.1⟩
 have BW:Hid (Below w.heap.size w (w.alloc (.cells #[.slice aW ws.length cW,.slice aP ps.length cP] 108))):=(Below.refl _ _).alloc (Nat.le_refl _) _
 obtain ⟨x0,x1⟩:=CA.out _ (Below.refl _ _)
 have EI:=zaa (show zsq ws ps = (decide (ws.length = 16) && (decide (ps.length = 24) && (zco ws 0 == 2 && (okNs ws && (zkw ws ps && (zig ws ps && zoq ws)))))) from rfl)
 by_cases c1:ws.length = 16
 case neg =>
  have E:=zaa (show zsq ws ps = false by rw [EI.out,decide_eq_false c1]; rfl)
  have q:((ws.length:Int) != 16) = true:=by rw [bne_iff_ne]; omega
  clear c1
  go_enter Tryz.func119,Tryz.ntmps119
  go_wp2
  go_ret
  exact ⟨zae E.out.symm,BW.out⟩
 have q:((ws.length:Int) != 16) = false:=by rw [c1]; rfl
 by_cases c2:ps.length = 24
 case neg =>
  have E:=zaa (show zsq ws ps = false by rw [EI.out,decide_eq_false c2,Bool.false_and,Bool.and_false])
  have q2:((ps.length:Int) != 24) = true:=by rw [bne_iff_ne]; omega
  clear c1 c2
  go_enter Tryz.func119,Tryz.ntmps119
  go_wp2
  go_ret
  exact ⟨zae E.out.symm,BW.out⟩
 have q2:((ps.length:Int) != 24) = false:=by rw [c2]; rfl
 obtain ⟨bW,oW,rfl,hblW,hcellW⟩:=HW.out (by omega)
 have HK:=(hcellW 0 (by omega)).1
 rw [show ws[0].kind = zco ws 0 from (zex (i:=0) (by omega)).symm] at HK
 simp only [Nat.zero_mul,Nat.add_zero] at HK
 have kk:=(BW.out.cell (p:=⟨bW,oW,none⟩) hblW).trans HK
 have len16:(0:Int) < (ws.length:Int):=by omega
 have C1:=zaa c1
 have E1:=zaa (show zsq ws ps = (zco ws 0 == 2 && (okNs ws && (zkw ws ps && (zig ws ps && zoq ws)))) by rw [EI.out,decide_eq_true c1,decide_eq_true c2]; rfl)
 have HC:=zaa hcellW
 clear c1 c2 EI HK hcellW HW
 generalize zco ws 0 = k0 at *
 by_cases c3:k0 = 2
 case neg =>
  have q3:(k0 != 2) = true:=by rw [bne_iff_ne]; exact c3
  have E:=zaa (show zsq ws ps = false by rw [E1.out,show (k0 == 2) = false by rw [beq_eq_false_iff_ne]; exact c3]; rfl)
  clear c3
  go_enter Tryz.func119,Tryz.ntmps119
  go_wp2
  go_ret
  exact ⟨zae E.out.symm,BW.out⟩
 have q3:(k0 != 2) = false:=by rw [c3]; rfl
 have E2:=zaa (show zsq ws ps = (okNs ws && (zkw ws ps && (zig ws ps && zoq ws))) by rw [E1.out,c3]; rfl)
 clear c3 E1
 go_enter Tryz.func119,Tryz.ntmps119
 go_wp2
 clear x0 x1 kk q q2 q3
 generalize w.alloc (.cells #[.slice (some ⟨bW,oW,none⟩) ws.length cW,.slice aP ps.length cP] 108) = W at *
 have hz:w.heap.size ≤ W.heap.size:=BW.out.size
 go_loopw [3] (fun i wr => ∃ k:Nat,k ≤ ws.length ∧ i = .int .i64 k ∧ Hid (Below W.heap.size W wr ∧ ∀ j (h:j < ws.length),j < k → ziy ws[j] = true)) (fun i _ => ws.length - (intOf i).toNat)
 case atStart => exact ⟨0,by omega,rfl,Below.refl _ _,fun j h a => absurd a (by omega)⟩
 case round =>
  obtain ⟨k,hk,rfl,H⟩:=hrel
  have H1:=zaa H.out.1
  have HF:=zaa (zab BW.out H.out.1 hz)
  obtain ⟨x0,x1⟩:=CA.out wr H.out.1
  by_cases hlt:k < ws.length
  ·obtain ⟨a0,a1,a2,a3,a4,a5,a6,a7,a8,a9,a10⟩:=HC.out k hlt
   have d0:=(HF.out.cell (p:=⟨bW,oW + k * 11,none⟩) hblW).trans a0
   have d1:=(HF.out.cell (p:=⟨bW,oW + k * 11 + 1,none⟩) hblW).trans a1
   have d2:=(HF.out.cell (p:=⟨bW,oW + k * 11 + 2,none⟩) hblW).trans a2
   have d3:=(HF.out.cell (p:=⟨bW,oW + k * 11 + 3,none⟩) hblW).trans a3
   have d4:=(HF.out.cell (p:=⟨bW,oW + k * 11 + 4,none⟩) hblW).trans a4
   have d5:=(HF.out.cell (p:=⟨bW,oW + k * 11 + 5,none⟩) hblW).trans a5
   have d6:=(HF.out.cell (p:=⟨bW,oW + k * 11 + 6,none⟩) hblW).trans a6
   have d7:=(HF.out.cell (p:=⟨bW,oW + k * 11 + 7,none⟩) hblW).trans a7
   have d8:=(HF.out.cell (p:=⟨bW,oW + k * 11 + 8,none⟩) hblW).trans a8
   have d9:=(HF.out.cell (p:=⟨bW,oW + k * 11 + 9,none⟩) hblW).trans a9
   have d10:=(HF.out.cell (p:=⟨bW,oW + k * 11 + 10,none⟩) hblW).trans a10
   have k0':(0:Int) ≤ (k:Int):=by omega
   have k1:(k:Int) < (ws.length:Int):=by omega
   have LI:=zaa (fun w1 => zxe ws[k] w1 (HR.out k hlt))
   have H2:Hid (ziy ws[k] = true → ∀ j (h:j < ws.length),j < k + 1 → ziy ws[j] = true):=fun q j h a => by
    by_cases e:j = k
    ·subst e; exact q
    ·exact H.out.2 j h (by omega)
   have H3:=zaa (fun q => yadx hlt q)
   clear a0 a1 a2 a3 a4 a5 a6 a7 a8 a9 a10 H
   generalize ws[k] = x at d0 d1 d2 d3 d4 d5 d6 d7 d8 d9 d10 LI H2 H3
   cases qq:ziy x with
   | true =>
    rw [qq] at LI
    have E:=zaa (H2.out qq)
    clear H2 H3 qq
    go_wp2_with fail
    refine (LI.out _).mono ?_
    rintro e w1 ⟨rfl,hb1⟩
    have B3:=zaa (zab H1.out hb1 H1.out.size)
    clear hb1 d0 d1 d2 d3 d4 d5 d6 d7 d8 d9 d10 x0 x1
    go_wp2
    go_roundw
    case rel => exact ⟨k + 1,by omega,by go_num,B3.out,E.out⟩
    case measure => simp [intOf]; omega
   | false =>
    rw [qq] at LI
    have E:=zaa (show zsq ws ps = false by rw [E2.out,H3.out qq]; rfl)
    clear H2 H3 qq
    go_wp2_with fail
    refine (LI.out _).mono ?_
    rintro e w1 ⟨rfl,hb1⟩
    have B3:=zaa (zab HF.out hb1 HF.out.size)
    clear hb1 d0 d1 d2 d3 d4 d5 d6 d7 d8 d9 d10 x0 x1
    go_wp2
    go_ret
    exact ⟨zae E.out.symm,B3.out⟩
  ·have O:=zaa (yaic (fun j h => H.out.2 j h (by omega)))
   have E3:=zaa (show zsq ws ps = (zkw ws ps && (zig ws ps && zoq ws)) by rw [E2.out,O.out]; rfl)
   clear H
   generalize zkw ws ps = f1 at *
   generalize zig ws ps = f2 at *
   generalize zoq ws = f3 at *
   go_wp2_with fail
   refine (L2.out _ (HRD.out.below HF.out) C1.out).mono ?_
   rintro e w1 ⟨rfl,hb1⟩
   have B1:=zaa (zab HF.out hb1 HF.out.size)
   have BA:=zaa (zab H1.out hb1 H1.out.size)
   clear hb1 x0 x1
   cases f1 with
   | false =>
    go_wp2
    go_ret
    exact ⟨zae (by rw [E3.out]; rfl),B1.out⟩
   | true =>
   obtain ⟨x0,x1⟩:=CA.out _ BA.out
   go_wp2_with fail
   refine (L1.out _ (HRD.out.below B1.out)).mono ?_
   rintro e w2 ⟨rfl,hb2⟩
   have B2:=zaa (zab B1.out hb2 B1.out.size)
   have BB:=zaa (zab BA.out hb2 BA.out.size)
   clear hb2 x0 x1
   cases f2 with
   | false =>
    go_wp2
    go_ret
    exact ⟨zae (by rw [E3.out]; rfl),B2.out⟩
   | true =>
   obtain ⟨x0,x1⟩:=CA.out _ BB.out
   go_wp2_with fail
   refine (L3.out _ (HRD.out.below B2.out) C1.out O.out).mono ?_
   rintro e w3 ⟨rfl,hb3⟩
   have B3:=zaa (zab B2.out hb3 B2.out.size)
   clear hb3 x0 x1
   go_wp2
   go_ret
   exact ⟨zae (by rw [E3.out]; rfl),B3.out⟩
def zcq (ws:List Int) (ps:List St):List Int:=ps.foldl (fun acc p => acc.set p.at_.toNat p.val) ws
theorem yaim (ws:List Int) (ps:List St) (p:St):zcq ws (ps ++ [p]) = (zcq ws ps).set p.at_.toNat p.val:=by simp [zcq]
theorem zof (ws:List Int):∀ ps:List St,(zcq ws ps).length = ws.length:=by
 intro ps
 unfold zcq
 induction ps generalizing ws with
 | nil => rfl
 | cons p ps ih => rw [List.foldl_cons,ih]; simp
theorem yamr:∀ (ps:List St) (ws:List Int) (k:Nat) (hk:k < ws.length) (_:∀ p ∈ ps,0 ≤ p.at_) (hk':k < (zcq ws ps).length),(zcq ws ps)[k] = zja (k:Int) ws[k] ps
 | [],ws,k,hk,_,_ => rfl
 | p :: ps,ws,k,hk,h0,hk' => by
  have hk2:k < (ws.set p.at_.toNat p.val).length:=by simpa using hk
  have:=yamr ps (ws.set p.at_.toNat p.val) k hk2 (fun q hq => h0 q (by simp [hq])) hk'
  show (zcq (ws.set p.at_.toNat p.val) ps)[k] = zja (k:Int) (if p.at_ = (k:Int) then p.val else ws[k]) ps
  rw [this,List.getElem_set]
  have hp:=h0 p (by simp)
  by_cases e:p.at_ = (k:Int)
  ·rw [if_pos (by omega),if_pos e]
  ·rw [if_neg (by omega),if_neg e]
def zrt (ws:List Int) (ps:List St):Int:=if pmB ws ps = true then 0 else 1
def yahi (ws:List Int) (ps:List St):List Int:=if pmB ws ps = true then zcq ws ps else []
theorem yadd {ws:List Int} {ps:List St} (h:pmB ws ps = false):zrt ws ps = 1 ∧ yahi ws ps = []:=by
 unfold zrt yahi
 rw [h]
 exact ⟨rfl,rfl⟩
theorem yakt {ws:List Int} {ps:List St} (h:pmB ws ps = true):zrt ws ps = 0 ∧ yahi ws ps = zcq ws ps:=by
 unfold zrt yahi
 rw [h]
 exact ⟨rfl,rfl⟩
set_option maxRecDepth 100000 in
set_option maxHeartbeats 4000000 in
theorem zrf (v:Value) (ws:List Int) (ps:List St) (w:World) (h:RdPm w v ws ps) (hw:ws.length ≤ 1048576) (hp:ps.length ≤ 1048576) :
  Calls Tryz.prog 205 #[v] w fun e w' => ∃ v',e = .returned (.tuple #[v',.int .i64 (zrt ws ps)]) ∧ Row w' 3 1 w.heap.size w'.heap.size v' (yahi ws ps).length (zav (yahi ws ps)) ∧ Below w.heap.size w w':=by
 have HR:=zaa h
 obtain ⟨vW,vP,rfl,h1,h2⟩:=h
 have H1:=zaa h1
 obtain ⟨aW,cW,rfl,_⟩:=h1.shape
 obtain ⟨aP,cP,rfl,_,hcP⟩:=h2.shape
 have HP:=zaa hcP
 clear h1 h2 hcP
 have hb0:Below w.heap.size w (w.alloc (.cells #[.slice aW ws.length cW,.slice aP ps.length cP] 40)):=(Below.refl _ _).alloc (Nat.le_refl _) _
 by_cases hc:pmB ws ps = true
 ·obtain ⟨e1,e2⟩:=yakt hc
  rw [e1,e2]
  clear e1 e2
  have OK:=zaa (yakv hc)
  go_enter Tryz.func205,Tryz.ntmps205
  go_wp2_with fail
  refine (zaz _ ws ps _ (HR.out.below hb0) hw hp).mono ?_
  rintro e w1 ⟨rfl,hb1⟩
  have hz1:w.heap.size + 1 ≤ w1.heap.size:=by have:=hb1.size; simp at this; omega
  have V0:=(hb1.block w.heap.size (by simp <;> omega)).trans (zag rfl)
  obtain ⟨x1,x2,x3,x4⟩:=zad V0
  have B1:=zaa (zab hb0 hb1 (by simp <;> omega))
  have VH:=zaa V0
  clear hb0 hb1 V0
  go_wp2_with (at_builtin; refine zak _ rfl (.const (.slice none 0 0)) (.tmp 11) 22 rfl w1.heap.size 3 (.int .i64 0) 1 8 Tryz.underlying22 zga rfl (by decide) _ 0 [] rfl (World.ownsRow_nil _ _ _ _) _ ws.length (zav ws) rfl (Rd.below H1.out B1.out) (zed ws) (by simp [maxLen]; omega) (by omega) (Nat.le_refl _) ?_)
  intro v2 w2 hown2 hgr2
  have hown2:w2.ownsRow w1.heap.size 3 1 v2 ws.length (zav ws):=by simpa using hown2
  obtain ⟨aW2,cW2,rfl⟩:=RdI.form (zai hown2).rd rfl
  have hz2:w1.heap.size ≤ w2.heap.size:=hgr2.size
  have B2:=B1.out.grown hgr2 (by omega) (fun k hk => by cases hk)
  have V0:=(hgr2.block w.heap.size (by omega) (by simp [Value.ownBlock])).trans VH.out
  obtain ⟨z1,z2,z3,z4⟩:=zad V0
  have START:=zaa (And.intro (zai hown2) B2)
  clear x1 x2 x3 x4 hown2 hgr2 B2 V0
  go_wp2
  go_loopw [6,16] (fun _ i wr => ∃ m:Nat,m ≤ ps.length ∧ i = .int .i64 m ∧ Row wr 3 1 w1.heap.size w2.heap.size (.slice aW2 ws.length cW2) ws.length (zav (zcq ws (ps.take m))) ∧ Below w.heap.size w wr ∧ w2.heap.size ≤ wr.heap.size) (fun _ i _ => ps.length - (intOf i).toNat)
  case atStart => exact ⟨0,by omega,rfl,START.out.1,START.out.2,Nat.le_refl _⟩
  case round =>
   obtain ⟨m,hm,rfl,hrow,hb,hz⟩:=hrel
   by_cases hlt:m < ps.length
   ·obtain ⟨b,o,rfl,hbl,hcell⟩:=HP.out (by omega)
    obtain ⟨e0,e1,e2⟩:=hcell m hlt
    have d0:=(hb.cell (p:=⟨b,o + m * 3,none⟩) hbl).trans e0
    have d1:=(hb.cell (p:=⟨b,o + m * 3 + 1,none⟩) hbl).trans e1
    have d2:=(hb.cell (p:=⟨b,o + m * 3 + 2,none⟩) hbl).trans e2
    obtain ⟨q0,q1⟩:=OK.out m hlt
    obtain ⟨_,aw',cw',ew',_,hcw⟩:=hrow.rd
    cases ew'
    obtain ⟨bw,ow,rfl,hblw,_⟩:=hcw (by omega)
    obtain ⟨rfl,hb1,_,_,hfrw,hclw⟩:=(hrow.alloc hz (.cells #[.int .i64 ps[m].at_,.int .i64 ps[m].val,.bool ps[m].fl] 153)).at
    have hj:ps[m].at_.toNat < (zcq ws (ps.take m)).length:=by rw [zof]; omega
    have g0:=hfrw ps[m].at_.toNat
    have g1:=(hclw ps[m].at_.toNat (by omega)).trans (zax _ _ hj)
    have F:Hid (Row ((wr.setCell ⟨bw,ps[m].at_.toNat,none⟩ (.int .i64 ps[m].val)).alloc (.cells #[.int .i64 ps[m].at_,.int .i64 ps[m].val,.bool ps[m].fl] 153)) 3 1 w1.heap.size w2.heap.size (.slice (some ⟨bw,0,none⟩) ws.length cW2) ws.length (zav (zcq ws (ps.take (m + 1))))):=by
     rw [zbb ps m hlt,yaim,← zem]
     exact (hrow.stored _ _).alloc (by simp; omega) _
    have G:=zaa ((hb.setCell (p:=⟨bw,ps[m].at_.toNat,none⟩) (by simp only; omega) (.int .i64 ps[m].val)).alloc (by simp; omega) (.cells #[.int .i64 ps[m].at_,.int .i64 ps[m].val,.bool ps[m].fl] 153))
    clear hrow hcell e0 e1 e2 hcw hfrw hclw
    go_wp2
    go_roundw
    case rel => exact ⟨m + 1,by omega,by go_num,F.out,G.out,by simp; omega⟩
    case measure => simp [intOf]; omega
   ·have e:m = ps.length:=by omega
    subst e
    have R:=zaa hrow
    clear hrow
    go_wp2
    go_ret2
    refine ⟨_,rfl,?_,hb⟩
    have:=R.out
    rw [List.take_length] at this
    rw [zof]
    exact this.wide (by omega) hz
 ·have hc':pmB ws ps = false:=by simpa using hc
  clear hc
  obtain ⟨e1,e2⟩:=yadd hc'
  rw [e1,e2]
  clear e1 e2
  go_enter Tryz.func205,Tryz.ntmps205
  go_wp2_with fail
  refine (zaz _ ws ps _ (HR.out.below hb0) hw hp).mono ?_
  rintro e w1 ⟨rfl,hb1⟩
  have B1:=zaa (zab hb0 hb1 (by simp <;> omega))
  clear hb0 hb1
  go_wp2
  go_ret2
  exact ⟨_,rfl,Row.nil _ _ _ _ _,B1.out⟩
def arrD (ds:List Nat) (j:Nat):Value:=if j < 6 - ds.length then .int .u8 0 else .int .u8 (96 + ((ds[j - (6 - ds.length)]?.getD 0:Nat):Int))
theorem yaob (j:Nat) (h:j < 6):arrD [] j = .int .u8 0:=by unfold arrD; rw [if_pos (by simpa using h)]
theorem yajc (d:Nat) (ds:List Nat) (h:ds.length < 6) (j:Nat):(if j = 6 - ds.length - 1 then Value.int .u8 (96 + (d:Int)) else arrD ds j) = arrD (d :: ds) j:=by
 unfold arrD
 by_cases e:j = 6 - ds.length - 1
 ·subst e
  rw [if_pos rfl,if_neg (by simp only [List.length_cons]; omega)]
  simp only [List.length_cons]
  rw [show 6 - ds.length - 1 - (6 - (ds.length + 1)) = 0 by omega]
  rfl
 ·rw [if_neg e]
  simp only [List.length_cons]
  by_cases e2:j < 6 - ds.length
  ·rw [if_pos e2,if_pos (by omega)]
  ·rw [if_neg e2,if_neg (by omega),show j - (6 - (ds.length + 1)) = (j - (6 - ds.length)) + 1 by omega]
   rfl
theorem yagz (ds:List Nat):strOfNums (ds.map fun d => (96:Int) + (d:Nat)) = zct ds:=by
 unfold strOfNums zct
 rw [List.map_map]
 congr 2
theorem yaub (w:World) (b l:Nat) (h1:1 ≤ l) (h6:l ≤ 6):(Instr.sliceAt 246 (.pointer (some ⟨b,0,none⟩)) (some (.int .i64 (6 - (l:Int)))) none none).run Tryz.prog w = .ok (.slice (some ⟨b,6 - l,none⟩) l l) w:=by
 have al:Tryz.prog.arrayLen 246 = 6:=by kernel_rfl
 rw [run_sliceAt_array_l w 246 ⟨b,0,none⟩ (by kernel_rfl) .i64 (6 - (l:Int)) (by omega) (by rw [al]; omega),al]
 have sz:(sizeOf (Tryz.prog.elem 246)).run Tryz.prog w = .ok 1 w:=by kernel_rfl
 rw [sz]
 simp only [Result.andThen,slicedAt]
 rw [if_neg (by omega),show (6 - (l:Int)).toNat = 6 - l by omega,show 6 - (6 - l) = l by omega,Nat.mul_one]
 simp [Addr.add]
 omega
set_option maxRecDepth 100000 in
set_option maxHeartbeats 4000000 in
theorem zkd (n:Int) (w:World) (hn:n ≤ 9223372036854775807):Calls Tryz.prog 215 #[.int .i64 n] w fun e w' => e = .returned (.tuple #[.string (zzv n),.int .i64 (unpC n)]) ∧ Below w.heap.size w w':=by
 by_cases c0:n < 1
 ·have E:=zaa (yabz (yaay (n:=n) (by omega)))
  go_enter Tryz.func215,Tryz.ntmps215
  go_wp2
  go_ret2
  exact ⟨yaea E.out.1.symm E.out.2.symm,Below.refl _ _⟩
 obtain ⟨N,rfl⟩:=Int.eq_ofNat_of_zero_le (show 0 ≤ n by omega)
 have START:Hid ((w.alloc (.cells #[.int .u8 0,.int .u8 0,.int .u8 0,.int .u8 0,.int .u8 0,.int .u8 0] 246)).rowIs w.heap.size 246 6 (arrD [])):=by
  refine World.rowIs_alloc w #[.int .u8 0,.int .u8 0,.int .u8 0,.int .u8 0,.int .u8 0,.int .u8 0] 246 (arrD []) (fun i hi => ?_)
  have hi':i < 6:=hi
  rw [yaob i hi']
  rcases (show i = 0 ∨ i = 1 ∨ i = 2 ∨ i = 3 ∨ i = 4 ∨ i = 5 by omega) with rfl | rfl | rfl | rfl | rfl | rfl <;> rfl
 have BH:Hid (Below w.heap.size w (w.alloc (.cells #[.int .u8 0,.int .u8 0,.int .u8 0,.int .u8 0,.int .u8 0,.int .u8 0] 246))):=(Below.refl _ _).alloc (Nat.le_refl _) _
 go_enter Tryz.func215,Tryz.ntmps215
 go_wp2
 go_loopw [0,5,6] (fun x f _ wr => ∃ (m:Nat) (ds:List Nat),x = .int .i64 (m:Int) ∧ f = .int .i64 (6 - (ds.length:Int)) ∧ m ≤ N ∧ ds.length ≤ 6 ∧ Hid (Dg N m ds) ∧ Hid (wr.rowIs w.heap.size 246 6 (arrD ds)) ∧ Hid (Below w.heap.size w wr)) (fun x _ _ _ => (intOf x).toNat)
 case atStart => exact ⟨N,[],rfl,rfl,Nat.le_refl _,by simp,Dg.start N,START.out,BH.out⟩
 case round =>
  obtain ⟨m,ds,rfl,rfl,hm,hl,D,R,B⟩:=hrel
  by_cases c1:0 < m
  ·have m0:(0:Int) < (m:Int):=by omega
   by_cases c2:m % 27 = 0
   ·have E:=zaa (yabz (yacu D.out c1 c2))
    have c2':((m:Int) % 27 == 0) = true:=by rw [beq_iff_eq]; omega
    go_wp2
    go_ret2
    exact ⟨yaea E.out.1.symm E.out.2.symm,B.out⟩
   ·have c2':((m:Int) % 27 == 0) = false:=by rw [beq_eq_false_iff_ne]; omega
    by_cases c3:6 ≤ ds.length
    ·have E:=zaa (yabz (yaqb D.out c1 c3))
     have c3':((6:Int) - (ds.length:Int) == 0) = true:=by rw [beq_iff_eq]; omega
     go_wp2
     go_ret2
     exact ⟨yaea E.out.1.symm E.out.2.symm,B.out⟩
    ·have c3':((6:Int) - (ds.length:Int) == 0) = false:=by rw [beq_eq_false_iff_ne]; omega
     have D2:=zaa (D.out.step c1 c2)
     have g0:=R.out.frozen (6 - ds.length - 1)
     have g1:=R.out.cell (show 6 - ds.length - 1 < 6 by omega)
     generalize hv:arrD ds (6 - ds.length - 1) = v0 at g1
     have ev:(97 + (m:Int) % 27 - 1) = 96 + ((m % 27:Nat):Int):=by omega
     have R2:Hid ((wr.setCell ⟨w.heap.size,6 - ds.length - 1,none⟩ (.int .u8 (97 + (m:Int) % 27 - 1))).rowIs w.heap.size 246 6 (arrD (m % 27 :: ds))):=by
      rw [ev]
      exact (R.out.set (6 - ds.length - 1) (.int .u8 (96 + ((m % 27:Nat):Int)))).congr (fun j _ => yajc (m % 27) ds (by omega) j)
     have B2:Hid (Below w.heap.size w (wr.setCell ⟨w.heap.size,6 - ds.length - 1,none⟩ (.int .u8 (97 + (m:Int) % 27 - 1)))):=B.out.setCell (by simp only; omega) _
     clear ev
     clear hv
     go_wp2
     go_roundw
     case rel => exact ⟨m / 27,m % 27 :: ds,by go_num,by go_num,by omega,by simp; omega,D2.out,R2.out,B2.out⟩
     case measure => simp [intOf]; omega
  ·obtain rfl:m = 0:=by omega
   have E:=zaa (yaof D.out (by omega) hl)
   have hconv:=fun cap => run_convert_bytes_arg (P:=Tryz.prog) wr 204 5 Tryz.underlying204 Tryz.underlying5 w.heap.size (6 - ds.length) ds.length cap (ds.map fun d => (96:Int) + (d:Nat)) (by simp) (fun i hi => by
    rw [R.out.cell (show 6 - ds.length + i < 6 by omega)]
    unfold arrD
    rw [if_neg (by omega),show 6 - ds.length + i - (6 - ds.length) = i by omega]
    simp [List.getD,hi]) 9 Tryz.underlying9
   rw [yagz] at hconv
   have l1:1 ≤ ds.length:=by
    have:=yalg (n:=N) (by omega)
    rw [D.out.done] at this
    exact this
   have hsl:=yaub wr w.heap.size ds.length l1 hl
   have hcv:=hconv ds.length
   clear hconv
   go_wp2
   go_ret2
   exact ⟨yaea E.out.1.symm E.out.2.symm,B.out⟩
set_option maxRecDepth 100000 in
set_option maxHeartbeats 4000000 in
theorem zvc (n:Int) (w:World) (hn:n ≤ 9223372036854775807):Calls Tryz.prog 162 #[.int .i64 n] w fun e w' => (∃ s,e = .returned (.tuple #[.string s,.bool (zhd n)]) ∧ (zhd n = true → s = zzv n)) ∧ Below w.heap.size w w':=by
 obtain ⟨N,hN,hN2,hN3⟩:∃ N:Nat,(0 < n → n = (N:Int)) ∧ (¬ 0 < n → N = 0) ∧ N ≤ 9223372036854775807:=⟨n.toNat,fun h => by omega,fun h => by omega,by omega⟩
 have hdl:(zuh N).length ≤ 14:=yaqk 14 N (by omega)
 go_enter Tryz.func162,Tryz.ntmps162
 go_wp2
 go_loopw [0,4,5] (fun x o _ wr => ∃ (y:Int) (ds:List Nat),x = .int .i64 y ∧ o = .string (zct ds) ∧ y ≤ 9223372036854775807 ∧ Hid ((0 < n → ∃ m:Nat,y = (m:Int) ∧ Dg N m ds) ∧ (¬ 0 < n → ¬ 0 < y ∧ ds = [])) ∧ Hid (Below w.heap.size w wr)) (fun x _ _ _ => (intOf x).toNat)
 case atStart => exact ⟨n,[],rfl,rfl,hn,⟨fun h => ⟨N,hN h,Dg.start N⟩,fun h => ⟨h,rfl⟩⟩,Below.refl _ _⟩
 case round =>
  obtain ⟨y,ds,rfl,rfl,hy,D,B⟩:=hrel
  by_cases c1:0 < y
  ·have hp:0 < n:=by
    rcases Decidable.em (0 < n) with h | h
    ·exact h
    ·exact absurd c1 (D.out.2 h).1
   obtain ⟨m,rfl,D1⟩:=D.out.1 hp
   have D0:=zaa D1
   clear D D1
   by_cases c2:m % 27 = 0
   ·have E:Hid (zhd n = false):=by
     rw [hN hp]
     exact yacu D0.out (by omega) c2
    have c2':((m:Int) % 27 == 0) = true:=by rw [beq_iff_eq]; omega
    go_wp2
    go_ret2
    exact ⟨⟨_,yari rfl E.out.symm,fun h => by rw [E.out] at h; cases h⟩,B.out⟩
   ·have c2':((m:Int) % 27 == 0) = false:=by rw [beq_eq_false_iff_ne]; omega
    have D2:=zaa (D0.out.step (by omega) c2)
    have hl14:ds.length ≤ 14:=Nat.le_trans D0.out.len hdl
    have hcv:=run_convert_bytes_arg (P:=Tryz.prog) (wr.alloc (.cells #[.int .u8 (97 + (m:Int) % 27 - 1)] 5)) 204 5 Tryz.underlying204 Tryz.underlying5 wr.heap.size 0 1 1 [97 + (m:Int) % 27 - 1] rfl (fun i hi => by
     obtain rfl:i = 0:=by omega
     exact World.cell?_alloc_mark wr #[.int .u8 (97 + (m:Int) % 27 - 1)] 5 (0,0) 0) 9 Tryz.underlying9
    have eb:strOfNums [97 + (m:Int) % 27 - 1] = ⟨#[UInt8.ofNat (96 + m % 27)]⟩:=by
     unfold strOfNums
     simp only [List.map_cons,List.map_nil]
     rw [show (97 + (m:Int) % 27 - 1).toNat = 96 + m % 27 by omega]
    rw [eb] at hcv
    have had:=run_string_add_sum (P:=Tryz.prog) (wr.alloc (.cells #[.int .u8 (97 + (m:Int) % 27 - 1)] 5)) ⟨#[UInt8.ofNat (96 + m % 27)]⟩ (zct ds) (by rw [zci]; show 1 + _ ≤ _; omega)
    rw [zxa] at had
    have B2:Hid (Below w.heap.size w (wr.alloc (.cells #[.int .u8 (97 + (m:Int) % 27 - 1)] 5))):=B.out.alloc B.out.size _
    clear eb
    generalize hbb:(⟨#[UInt8.ofNat (96 + m % 27)]⟩:ByteArray) = bb at hcv had
    clear hbb
    go_wp2
    go_roundw
    case rel => exact ⟨(m:Int) / 27,m % 27 :: ds,rfl,rfl,by omega,⟨fun _ => ⟨m / 27,by omega,D2.out⟩,fun h => absurd hp h⟩,B2.out⟩
    case measure => simp [intOf]; omega
  ·have LEN:Hid (ds.length ≤ 14 ∧ nmB (zct ds) = zhd n ∧ (zhd n = true → zct ds = zzv n)):=by
    rcases Decidable.em (0 < n) with hp | hp
    ·obtain ⟨m,em,D1⟩:=D.out.1 hp
     obtain rfl:m = 0:=by omega
     have en:=hN hp
     have hl:=D1.len
     have hd:=D1.done
     refine ⟨by omega,?_,fun h => ?_⟩
     ·by_cases c6:ds.length ≤ 6
      ·have h1:1 ≤ ds.length:=by rw [← hd]; exact yalg (by omega)
       rw [yacb D1.ok h1 c6,en]
       exact (decide_eq_true ⟨by omega,by rw [Int.toNat_natCast,hd]; exact fun d x => (D1.ok d x).1,by rw [Int.toNat_natCast,hd]; exact c6⟩).symm
      ·rw [zvd (by rw [zci]; omega),en]
       exact (decide_eq_false (fun x => by have:=x.2.2; rw [Int.toNat_natCast,hd] at this; omega)).symm
     ·unfold zzv
      rw [if_pos h,en,Int.toNat_natCast,hd]
    ·obtain ⟨_,rfl⟩:=D.out.2 hp
     refine ⟨by simp,?_,fun h => ?_⟩
     ·rw [zyz (by rw [zci]; simp),yaay hp]
     ·rw [yaay hp] at h; cases h
   have hsz:(zct ds).size ≤ maxLen:=by
    have:=LEN.out.1
    rw [zci]
    unfold maxLen
    omega
   go_wp2_with (go_at_call 190; refine (zfs _ _ hsz).mono ?_; rintro e w' ⟨rfl,rfl⟩)
   go_ret2
   exact ⟨⟨_,yari rfl LEN.out.2.1,LEN.out.2.2⟩,B.out⟩
def wdI (ls:List Int) (z:Int):Int:=ls.getD z.toNat 0
theorem yaqx {ls:List Int} {n:Nat} (h:n < ls.length):wdI ls (n:Int) = ls[n]:=by
 unfold wdI
 rw [Int.toNat_natCast,List.getD_eq_getElem?_getD,List.getElem?_eq_getElem h]; rfl
def zme (ls:List Int) (i:Nat):Ino:=⟨wdI ls (48 + 12 * (i:Int)),wdI ls (48 + 12 * (i:Int) + 1),wdI ls (48 + 12 * (i:Int) + 2),wdI ls (48 + 12 * (i:Int) + 3),wdI ls (48 + 12 * (i:Int) + 4),wdI ls (48 + 12 * (i:Int) + 5),wdI ls (48 + 12 * (i:Int) + 6),wdI ls (48 + 12 * (i:Int) + 7),wdI ls (48 + 12 * (i:Int) + 8),wdI ls (48 + 12 * (i:Int) + 9),wdI ls (48 + 12 * (i:Int) + 10)⟩
def zqy (ls:List Int) (k:Nat):Den:=if wdI ls (240 + 3 * (k:Int) + 2) = 0 then ⟨0,⟨#[]⟩,-1⟩ else ⟨wdI ls (240 + 3 * (k:Int)),zzv (wdI ls (240 + 3 * (k:Int) + 1)),wdI ls (240 + 3 * (k:Int) + 2) - 1⟩
def zcy (ls:List Int) (k:Nat):Bool:=if wdI ls (240 + 3 * (k:Int) + 2) = 0 then wdI ls (240 + 3 * (k:Int)) == 0 && wdI ls (240 + 3 * (k:Int) + 1) == 0 else zhd (wdI ls (240 + 3 * (k:Int) + 1))
def zbm (ls:List Int) (n:Nat):List Ino:=(List.range n).map (zme ls)
def zbx (ls:List Int) (n:Nat):List Den:=(List.range n).map (zqy ls)
def zez (ls:List Int) (n:Nat):Bool:=(List.range n).all (zcy ls)
theorem zpr (ls:List Int) (n:Nat):zbm ls (n + 1) = zbm ls n ++ [zme ls n]:=by unfold zbm; rw [List.range_succ,List.map_append]; rfl
theorem zjl (ls:List Int) (n:Nat):zbx ls (n + 1) = zbx ls n ++ [zqy ls n]:=by unfold zbx; rw [List.range_succ,List.map_append]; rfl
theorem zbn (ls:List Int) (n:Nat):(zbm ls n).length = n:=by simp [zbm]
theorem zbh (ls:List Int) (n:Nat):(zbx ls n).length = n:=by simp [zbx]
theorem zis {ls:List Int} {n k:Nat} (hk:k < n) (h:zcy ls k = false):zez ls n = false:=by
 unfold zez
 rw [List.all_eq_false]
 exact ⟨k,List.mem_range.2 hk,by rw [h]; simp⟩
theorem zqf {ls:List Int} {n:Nat} (h:∀ k,k < n → zcy ls k = true):zez ls n = true:=by
 unfold zez
 rw [List.all_eq_true]
 intro k hk
 exact h k (List.mem_range.1 hk)
def riB (ls:List Int):Bool:=wdI ls 0 == 7 && (zez ls 24 && zsq (zbm ls 16) (zbx ls 24))
def riC (ws:List Int) (ps:List St):Int:=if pmB ws ps = true then (if riB (zcq ws ps) = true then 0 else 3) else 1
def riN (ws:List Int) (ps:List St):List Ino:=if riC ws ps = 0 then zbm (zcq ws ps) 16 else []
def riD (ws:List Int) (ps:List St):List Den:=if riC ws ps = 0 then zbx (zcq ws ps) 24 else []
theorem yaov {ws:List Int} {ps:List St} (h:pmB ws ps = true):∀ k (h:k < (zcq ws ps).length),zao (zcq ws ps)[k] = true:=by
 have h1:=zuj h
 have h2:∀ p ∈ ps,zao p.val = true:=fun p hp => by
  obtain ⟨i,hi,rfl⟩:=List.getElem_of_mem hp
  exact (zhs h i hi).2
 clear h
 have gen:∀ (ps:List St) (ws:List Int),(∀ x ∈ ws,zao x = true) → (∀ p ∈ ps,zao p.val = true) → ∀ x ∈ zcq ws ps,zao x = true:=by
  intro ps
  induction ps with
  | nil => intro ws h _ x hx; exact h x hx
  | cons p ps ih =>
   intro ws h1 h2 x hx
   refine ih (ws.set p.at_.toNat p.val) (fun y hy => ?_) (fun q hq => h2 q (List.mem_cons_of_mem _ hq)) x hx
   rcases List.mem_or_eq_of_mem_set hy with hy | hy
   ·exact h1 y hy
   ·rw [hy]; exact h2 p (List.mem_cons_self ..)
 intro k hk
 exact gen ps ws (fun x hx => by obtain ⟨i,hi,rfl⟩:=List.getElem_of_mem hx; exact h1 i hi) h2 _ (List.getElem_mem hk)
theorem zpv {ws:List Int} {ps:List St} (h:pmB ws ps = true) (z:Int):0 ≤ wdI (zcq ws ps) z ∧ wdI (zcq ws ps) z < 1099511627776:=by
 unfold wdI
 rw [List.getD_eq_getElem?_getD]
 by_cases c:z.toNat < (zcq ws ps).length
 ·rw [List.getElem?_eq_getElem c]
  have:=yaov h _ c
  unfold zao at this
  simp at this
  simpa using this
 ·rw [List.getElem?_eq_none (by omega)]
  exact ⟨by simp,by simp⟩
theorem yasb {ws:List Int} {ps:List St} (h:pmB ws ps = true) (i:Nat):(zme (zcq ws ps) i).R:=by
 intro z hz
 have all:∀ y,-9223372036854775808 ≤ wdI (zcq ws ps) y ∧ wdI (zcq ws ps) y ≤ 9223372036854775807:=fun y => by have:=zpv h y; omega
 simp only [Ino.map,zme,List.mem_cons,List.not_mem_nil,or_false] at hz
 rcases hz with rfl | rfl | rfl | rfl | rfl | rfl | rfl | rfl <;> exact all _
theorem yanb (n:Int):(zzv n).size ≤ 6:=by
 unfold zzv
 split
 ·rename_i h
  have:=(of_decide_eq_true h).2.2
  show ((zuh n.toNat).map fun d => UInt8.ofNat (96 + d)).toArray.size ≤ 6
  simpa using this
 ·exact Nat.zero_le _
theorem yaff (ls:List Int) (k:Nat):(zqy ls k).name.size ≤ maxLen:=by
 unfold zqy
 split
 ·exact Nat.zero_le _
 ·have:=yanb (wdI ls (240 + 3 * (k:Int) + 1))
  show (zzv _).size ≤ maxLen
  unfold maxLen
  omega
theorem yaqt (v:Value) (ws:List Int) (ps:List St) (z:Int) (w:World) (h:RdPm w v ws ps) (hp:pmB ws ps = true) (h0:0 ≤ z ∧ z < 336) :
  Calls Tryz.prog 118 #[v,.int .i64 z] w fun e w' => e = .returned (.int .i64 (wdI (zcq ws ps) z)) ∧ Below w.heap.size w w':=by
 obtain ⟨n,rfl⟩:∃ n:Nat,z = (n:Int):=⟨z.toNat,by omega⟩
 obtain ⟨l1,l2⟩:=zbz hp
 have hn:n < ws.length:=by omega
 rw [yaqx (by rw [zof]; exact hn),yamr ps ws n hn (fun p hq => by obtain ⟨i,hi,rfl⟩:=List.getElem_of_mem hq; exact (zsk hp i hi).1)]
 exact zjz v ws ps n w h (by omega) (by omega) hn
def zgn (ps:List St) (k:Nat):Bool:=ps.any (fun p => p.at_ == (k:Int))
def zbg (ps:List St) (m:Nat):List Nat:=(List.range m).filter (zgn ps)
def zhk (ps:List St) (m:Nat):List Int:=(zbg ps m).map (fun (k:Nat) => (k:Int))
theorem zwj (ps:List St) (m:Nat):zbg ps (m + 1) = if zgn ps m = true then zbg ps m ++ [m] else zbg ps m:=by
 unfold zbg
 rw [List.range_succ,List.filter_append]
 by_cases h:zgn ps m = true
 ·rw [if_pos h]; simp [h]
 ·rw [if_neg h]; simp [h]
theorem yaej {ps:List St} {m:Nat} (h:zgn ps m = true):zhk ps (m + 1) = zhk ps m ++ [(m:Int)]:=by
 unfold zhk
 rw [zwj,if_pos h,List.map_append]
 rfl
theorem zzc {ps:List St} {m:Nat} (h:zgn ps m = false):zhk ps (m + 1) = zhk ps m:=by
 unfold zhk
 rw [zwj,if_neg (by rw [h]; simp)]
theorem zux (ps:List St) (m:Nat):(zhk ps m).length ≤ m:=by
 unfold zhk zbg
 rw [List.length_map]
 have:=List.length_filter_le (zgn ps) (List.range m)
 simpa using this
theorem yakj {ps:List St} {m j:Nat} (hj:j < ps.length) (h:ps[j].at_ = (m:Int)):zgn ps m = true:=by
 unfold zgn
 rw [List.any_eq_true]
 exact ⟨ps[j],List.getElem_mem hj,by simpa using h⟩
theorem yafr {ps:List St} {m:Nat} (h:∀ j (hj:j < ps.length),¬ ps[j].at_ = (m:Int)):zgn ps m = false:=by
 unfold zgn
 rw [List.any_eq_false]
 intro p hp
 obtain ⟨i,hi,rfl⟩:=List.getElem_of_mem hp
 simpa using h i hi
set_option maxRecDepth 100000 in
set_option maxHeartbeats 4000000 in
theorem zve (v:Value) (ws:List Int) (ps:List St) (w:World) (h:RdPm w v ws ps) (hp:ps.length ≤ 1048576) :
  Calls Tryz.prog 120 #[v] w fun e w' => ∃ v',e = .returned v' ∧ Row w' 3 1 w.heap.size w'.heap.size v' (zhk ps 336).length (zav (zhk ps 336)) ∧ Below w.heap.size w w':=by
 obtain ⟨vW,vP,rfl,h1,h2⟩:=h
 obtain ⟨aW,cW,rfl,_⟩:=h1.shape
 obtain ⟨aP,cP,rfl,_,hcP⟩:=h2.shape
 have HP:=zaa hcP
 clear h1 h2 hcP
 have hb0:Below w.heap.size w (w.alloc (.cells #[.slice aW ws.length cW,.slice aP ps.length cP] 40)):=(Below.refl _ _).alloc (Nat.le_refl _) _
 have ho:((w.alloc (.cells #[.slice aW ws.length cW,.slice aP ps.length cP] 40)).alloc (.cells #[] 3)).ownsRow (w.heap.size + 1) 3 1 (.slice (some ⟨w.heap.size + 1,0,none⟩) 0 0) 0 []:=by
  simpa using World.ownsRow_lit (base:=w.heap.size + 1) (e:=3) (size:=1) (w.alloc (.cells #[.slice aW ws.length cW,.slice aP ps.length cP] 40)) #[] 0 (by simp) (by simp) rfl
 have START:=zaa (And.intro ho (And.intro (zal (o:=.cells #[] 3) (zag (w:=w) (o:=.cells #[.slice aW ws.length cW,.slice aP ps.length cP] 40) rfl)) (hb0.alloc (by simp) (.cells #[] 3))))
 clear hb0 ho
 go_enter Tryz.func120,Tryz.ntmps120
 go_wp2
 go_loopw [3,4,5] (fun vL i _ wr => ∃ m:Nat,m ≤ 336 ∧ i = .int .i64 m ∧ Hid (wr.ownsRow (w.heap.size + 1) 3 1 vL (zhk ps m).length (zav (zhk ps m)) ∧ wr.heap[w.heap.size]? = some (.cells #[.slice aW ws.length cW,.slice aP ps.length cP] 40 (0,0)) ∧ Below w.heap.size w wr) ∧ w.heap.size + 1 ≤ wr.heap.size) (fun _ i _ _ => 336 - (intOf i).toNat)
 case atStart => exact ⟨0,by omega,rfl,⟨by simpa [zhk,zbg,zav] using START.out.1,START.out.2⟩,by simp⟩
 case round =>
  obtain ⟨m,hm,rfl,I,hz⟩:=hrel
  obtain ⟨y1,y2,y3,y4⟩:=zad I.out.2.1
  by_cases hlt:m < 336
  ·go_wp2
   go_loop [3,5] (fun vL i => ∃ n:Nat,n ≤ ps.length ∧ i = .int .i64 n ∧ vL = u3 ∧ Hid (∀ j (hj:j < ps.length),j < n → ¬ ps[j].at_ = (m:Int))) (fun _ i => ps.length - (intOf i).toNat)
   case atStart => exact ⟨0,by omega,rfl,rfl,fun j _ h => absurd h (by omega)⟩
   case round =>
    obtain ⟨n,hn,rfl,rfl,H⟩:=hrel
    by_cases hlt2:n < ps.length
    ·obtain ⟨b,o,rfl,hbl,hcell⟩:=HP.out (by omega)
     have d0:=(I.out.2.2.cell (p:=⟨b,o + n * 3,none⟩) hbl).trans (hcell n hlt2).1
     clear hcell
     by_cases c:ps[n].at_ = (m:Int)
     ·have c':(ps[n].at_ == (m:Int)) = true:=by simpa using c
      have E:=zaa (yaej (yakj hlt2 c))
      clear c H
      have O2:=zaa (I.out.1.alloc (.cells #[.int .i64 (m:Int)] 3))
      have HRD:=zaa (znh wr (m:Int))
      have hle:=zux ps m
      go_wp2_with (at_builtin; refine zak _ rfl (.tmp 26) (.tmp 28) 22 rfl (w.heap.size + 1) 3 (.int .i64 0) 1 8 Tryz.underlying22 zga rfl (by decide) _ _ _ rfl O2.out _ 1 _ rfl HRD.out (by simp [Value.oneCell']) (by simp [maxLen]; omega) (by omega) (by simp; omega) ?_)
      intro vN wN hownN hgrN
      have hl:=fun k hk => (O2.out.lt k hk).1
      have hzN:=hgrN.size
      simp only [World.size_alloc] at hzN
      have G:Hid (wN.ownsRow (w.heap.size + 1) 3 1 vN (zhk ps (m + 1)).length (zav (zhk ps (m + 1))) ∧ wN.heap[w.heap.size]? = some (.cells #[.slice aW ws.length cW,.slice (some ⟨b,o,none⟩) ps.length cP] 40 (0,0)) ∧ Below w.heap.size w wN):=by
       refine ⟨?_,(hgrN.block w.heap.size (by simp; omega) (fun e => by have:=hl _ e.symm; omega)).trans (zal I.out.2.1),(I.out.2.2.alloc (by omega) (.cells #[.int .i64 (m:Int)] 3)).grown hgrN (by simp; omega) (fun k hk => by have:=hl k hk; omega)⟩
       rw [E.out,zhr,List.length_append]
       exact hownN
      clear hownN hgrN hl
      go_wp2
      go_roundw
      case rel => exact ⟨m + 1,by omega,by go_num,G,by omega⟩
      case measure => simp [intOf]; omega
     ·have c':(ps[n].at_ == (m:Int)) = false:=by simpa using c
      have C:=zaa c
      clear c
      go_wp2
      go_round
      case rel =>
       refine ⟨n + 1,by omega,by go_num,rfl,fun j hj hjn => ?_⟩
       by_cases e:j = n
       ·subst e; exact C.out
       ·exact H.out j hj (by omega)
      case measure => simp [intOf]; omega
    ·have E:=zaa (zzc (yafr (fun j hj => H.out j hj (by omega))))
     clear H
     go_wp2
     go_roundw
     case rel => exact ⟨m + 1,by omega,by go_num,by rw [E.out]; exact I,hz⟩
     case measure => simp [intOf]; omega
  ·have e:m = 336:=by omega
   subst e
   obtain ⟨aL,cL,hvL⟩:=RdI.form (zai I.out.1).rd rfl
   subst hvL
   go_wp2
   go_ret
   exact ⟨_,rfl,(zai I.out.1).wide (by omega) (Nat.le_refl _),I.out.2.2⟩
def unsZ (ws:List Int) (ps:List St):List Int:=if pmB ws ps = true then zhk ps 336 else []
theorem yamh {ws:List Int} {ps:List St} (h:pmB ws ps = false):zrt ws ps = 1 ∧ unsZ ws ps = []:=by
 unfold zrt unsZ
 rw [h]
 exact ⟨rfl,rfl⟩
theorem yakc {ws:List Int} {ps:List St} (h:pmB ws ps = true):zrt ws ps = 0 ∧ unsZ ws ps = zhk ps 336:=by
 unfold zrt unsZ
 rw [h]
 exact ⟨rfl,rfl⟩
end Go.Proofs.YtlkmnpanddchdaaGreatDoor
