/- What is renamed is found beneath its new name alone, the same inode; renamed back all is as it was: the walk of the law. -/
import Derived.Test.YtkdjfhkalelafaaGreatDoorRnM
import Derived.Test.YtkdjfhkalelafaaGreatDoorZBL
import Derived.Test.YtkdjfhkalelafaaGreatDoorZBM
import Derived.Test.YtkdjfhkalelafaaGreatDoorZBP
import Derived.Test.YtkdjfhkalelafaaGreatDoorZBO
import Derived.BigQuiet
namespace Go.Proofs.YtkdjfhkalelafaaGreatDoor
open Go.RowKit
theorem yanw (f:FV) (w:World) (h:FsIdle w (.agg #[.slice f.a0 f.n0 f.c0,.slice f.a1 f.n1 f.c1,.slice f.a2 f.n2 f.c2,.slice f.a3 f.n3 f.c3,.slice f.a4 f.n4 f.c4,.slice f.a5 f.n5 f.c5,.int .i64 f.x,.int .i64 f.y,.slice f.a8 f.n8 f.c8,.bool f.z])):∃ ws es ns ds,Idle ws es ns ds ∧ RdPm w (.agg #[.slice f.a0 f.n0 f.c0,.slice f.a1 f.n1 f.c1]) ws []:=by
 obtain ⟨ws,es,ns,ds,hs,⟨aW,cW,aP,cP,aS,cS,aQ,cQ,aH,cH,aT,cT,aN,cN,ev,a,b,c,d⟩,hi,hh⟩:=h
 simp only [Value.agg.injEq,Array.mk.injEq,List.cons.injEq,Value.slice.injEq,and_true] at ev
 obtain ⟨⟨e1,e2,e3⟩,⟨e4,e5,e6⟩,-⟩:=ev
 rw [e1,e2,e3,e4,e5,e6]
 refine ⟨ws,es,ns,ds,hi,?_⟩
 obtain ⟨_,_,_,_,e1,q,_⟩:=a
 simp only [Value.agg.injEq,Array.mk.injEq,List.cons.injEq,and_true] at e1
 obtain ⟨rfl,rfl,-,-⟩:=e1
 exact q
theorem yabs {ws es:List Int} {ns:List Ino} {ds:List Den} (h:Idle ws es ns ds):(∀ k (h:k < ns.length),ns[k].R) ∧ ∀ k (h:k < ds.length),ds[k].name.size ≤ maxLen:=by
 have q:=zzz h.pm 16
 have r:=zpf (zcg ws []) 24
 rw [show zbe (zcg ws []) 16 = ns from h.wi.inos] at q
 rw [show zbi (zcg ws []) 24 = ds from h.wi.dens] at r
 exact ⟨q,r⟩
theorem zrt {ws es:List Int} {ns:List Ino} {ds:List Den} (h:Idle ws es ns ds):riC ws [] = 0 ∧ riN ws [] = ns ∧ riD ws [] = ds:=by
 have c:riC ws [] = 0:=by unfold riC; rw [if_pos h.pm,if_pos (show riB (zcg ws []) = true from h.wi.ri)]
 exact ⟨c,by unfold riN; rw [if_pos c]; exact h.wi.inos,by unfold riD; rw [if_pos c]; exact h.wi.dens⟩
set_option maxRecDepth 100000 in
set_option maxHeartbeats 64000000 in
theorem zup (vA vB:Value) (cs ms:List Int) (w:World) (hA:RdB w vA cs) (hB:RdB w vB ms) (hT:TS w) (hE:ED w) (hF:FD w) :
  Calls Tryz.prog 3 #[vA,vB] w fun e w' => e = .returned (.bool true) ∧ Below w.heap.size w w':=by
 obtain ⟨aA,cA,rfl,_⟩:=hA.shape
 obtain ⟨aB,cB,rfl,_⟩:=hB.shape
 have HA:=zaa hA
 have HB:=zaa hB
 have GT:=zaa (And.intro hT (And.intro hE hF))
 clear hA hB hT hE hF
 by_cases c1:1048576 < cs.length
 ·go_enter Tryz.func3,Tryz.ntmps3
  go_wp2
  go_ret
  exact ⟨rfl,Below.refl _ _⟩
 by_cases c2:1048576 < ms.length
 ·go_enter Tryz.func3,Tryz.ntmps3
  go_wp2
  go_ret
  exact ⟨rfl,Below.refl _ _⟩
 go_enter Tryz.func3,Tryz.ntmps3
 go_wp2_with fail
 refine (yanz _ cs w HA.out (by omega)).mono ?_
 rintro e w1 ⟨f,rfl,hi,hb1⟩
 obtain ⟨ws,es,ns,ds,I,pm⟩:=yanw f w1 hi
 have q1:=zxz f w1
 obtain ⟨W1,hW1⟩:∃ W1,W1 = w1.alloc (.cells #[.slice f.a0 f.n0 f.c0,.slice f.a1 f.n1 f.c1,.slice f.a2 f.n2 f.c2,.slice f.a3 f.n3 f.c3] 31):=⟨_,rfl⟩
 have A1:Hid (Below w1.heap.size w1 W1):=by rw [hW1]; exact (Below.refl _ _).alloc (Nat.le_refl _) _
 have B1:=zaa (zab hb1 A1.out hb1.size)
 have M1:Hid (W1.heap[w1.heap.size]? = some (.cells #[.slice f.a0 f.n0 f.c0,.slice f.a1 f.n1 f.c1,.slice f.a2 f.n2 f.c2,.slice f.a3 f.n3 f.c3] 31 (0,0))):=by rw [hW1]; exact zah rfl
 have PM:=zaa (RdPm.below pm A1.out)
 have HI:=zaa I
 have HZ:=zaa (show cs.length ≤ 1048576 ∧ ms.length ≤ 1048576 by omega)
 clear hi hb1 pm I
 go_upto_region 4 with fail
 rw [← hW1]
 clear hW1 q1 c1 c2
 obtain ⟨mb,hmb⟩:∃ mb,mb = w1.heap.size:=⟨_,rfl⟩
 rw [← hmb] at M1
 rw [← hmb]
 clear hmb A1
 have KR:Hid (Calls Tryz.prog 6 #[.agg #[.slice f.a0 f.n0 f.c0,.slice f.a1 f.n1 f.c1]] W1 fun e w' => ∃ v',e = .returned (.tuple #[v',.int .i64 0]) ∧ RdIm w' v' ns ds ∧ Below W1.heap.size W1 w'):=by
  have l:=HI.out.wi.len
  have q:=zea _ ws [] W1 PM.out (by omega) (by simp) (GT.out.1.below B1.out) (GT.out.2.1.below B1.out) (GT.out.2.2.below B1.out)
  rw [(zrt HI.out).1,(zrt HI.out).2.1,(zrt HI.out).2.2] at q
  refine q.mono ?_
  rintro e w' ⟨v',rfl,r,hb⟩
  exact ⟨v',rfl,r.rd,hb⟩
 obtain ⟨y0,y1,y2,y3,-⟩:=zaq M1.out
 go_wp2_with fail
 refine KR.out.mono ?_
 rintro e w2 ⟨v2,rfl,hr2,hb2⟩
 have R2:=zaa hr2
 obtain ⟨vI,vD,rfl,h1,h2⟩:=hr2
 have l16:=HI.out.wi.img.l16
 have l24:=HI.out.wi.img.l24
 obtain ⟨aW,cW,rfl,_,hcW⟩:=h1.shape
 obtain ⟨aP,cP,rfl,_,_⟩:=h2.shape
 obtain ⟨bW,oW,rfl,hblW,hcellW⟩:=hcW (by omega)
 obtain ⟨W2,hW2⟩:∃ W2,W2 = w2.alloc (.cells #[.slice (some ⟨bW,oW,none⟩) ns.length cW,.slice aP ds.length cP] 42):=⟨_,rfl⟩
 have A2:Hid (Below w2.heap.size w2 W2):=by rw [hW2]; exact (Below.refl _ _).alloc (Nat.le_refl _) _
 have H2:=zaa (zab hb2 A2.out hb2.size)
 have B2:=zaa (zab B1.out H2.out B1.out.size)
 have M2:Hid (W2.heap[w2.heap.size]? = some (.cells #[.slice (some ⟨bW,oW,none⟩) ns.length cW,.slice aP ds.length cP] 42 (0,0))):=by rw [hW2]; exact zah rfl
 have RI:=zaa (R2.out.below A2.out)
 have PW:=zaa (RdPm.below PM.out H2.out)
 have MD:Hid (∀ w',Below W2.heap.size W2 w' → w'.heap[mb]? = some (.cells #[.slice f.a0 f.n0 f.c0,.slice f.a1 f.n1 f.c1,.slice f.a2 f.n2 f.c2,.slice f.a3 f.n3 f.c3] 31 (0,0))):=fun w' hb => by
  have e1:=zek M1.out H2.out (zpn M1.out)
  exact zek e1 hb (zpn e1)
 have GW:Hid (TS W2 ∧ ED W2 ∧ FD W2):=⟨GT.out.1.below B2.out,GT.out.2.1.below B2.out,GT.out.2.2.below B2.out⟩
 have GR:=zaa (yabs HI.out)
 have L16:=zaa l16
 have L24:=zaa l24
 have IM:=zaa HI.out.img
 clear h1 h2 hcW hcellW hblW hb2 R2 KR y0 y1 y2 y3 M1 PM GT l16 l24
 go_upto_region 5 with fail
 rw [← hW2]
 clear hW2
 obtain ⟨ib,hib⟩:∃ ib,ib = w2.heap.size:=⟨_,rfl⟩
 rw [← hib] at M2
 rw [← hib]
 clear hib A2 H2
 have MB:Hid (∀ w',Below W2.heap.size W2 w' → w'.heap[ib]? = some (.cells #[.slice (some ⟨bW,oW,none⟩) ns.length cW,.slice aP ds.length cP] 42 (0,0))):=fun w' hb => zek M2.out hb (zpn M2.out)
 clear M2
 go_wp2_with fail
 refine (zqx _ cs W2 (HA.out.below B2.out) HZ.out.1).mono ?_
 rintro e w3 ⟨s,rfl,hs,hb3⟩
 have J2:=zaa hb3
 have HS:=zaa hs
 have sz:=hs.size
 clear hb3 hs HA
 go_wp2_with fail
 refine (zqx _ ms w3 (HB.out.below (zab B2.out J2.out B2.out.size)) HZ.out.2).mono ?_
 rintro e w4 ⟨t,rfl,ht,hb4⟩
 have J3:=zaa (zab J2.out hb4 J2.out.size)
 have HT:=zaa ht
 have tz:=ht.size
 clear hb4 ht HB HZ J2
 have eM:Hid (rnR ns ds s t = rnI ns ds s t):=by unfold Hid rnR; rw [if_neg (by omega),if_neg (by omega),if_pos IM.out]
 have PI:=zaa (fun w' (hb:Below W2.heap.size W2 w') => zfo (.agg #[.slice (some ⟨bW,oW,none⟩) ns.length cW,.slice aP ds.length cP]) ns ds s t w' (RI.out.below hb) (by have:=L16.out; omega) (by have:=L24.out; omega) (GW.out.1.below hb) (GW.out.2.1.below hb) (GW.out.2.2.below hb) GR.out.1 GR.out.2)
 have PS:=zaa (fun w' (hb:Below W2.heap.size W2 w') => zka (.agg #[.slice (some ⟨bW,oW,none⟩) ns.length cW,.slice aP ds.length cP]) ns ds s t w' (RI.out.below hb) (by have:=L16.out; omega) (by have:=L24.out; omega) GR.out.1 GR.out.2)
 simp only [eM.out,zjo] at PI PS
 clear eM
 by_cases bz:(rnI ns ds s t).2 = 0
 case neg =>
  rw [yavg bz] at PI PS
  generalize (rnI ns ds s t).2 = b at *
  obtain ⟨us,eu⟩:∃ us:List Se,us = []:=⟨_,rfl⟩
  rw [← eu] at PI PS
  have ul:us.length ≤ 0:=by rw [eu]; simp
  have ue:=zaa eu
  have d1:(b == 0) = false:=by rw [beq_eq_false_iff_ne]; exact bz
  clear HI PW MD GW GR L16 L24 IM eu HT HS RI
  obtain ⟨x0,x1,-,-⟩:=zac (MB.out _ J3.out)
  go_wp2_with fail
  refine (PI.out _ J3.out).mono ?_
  rintro e u1 ⟨v1,rfl,hr1,hb1⟩
  have J4:=zaa (zab J3.out hb1 J3.out.size)
  have L1:Hid (RdE u1 v1 us):=hr1.rd
  obtain ⟨aL,cL,hv1,-,-⟩:=L1.out.shape
  subst hv1
  clear hr1 hb1 x0 x1 PI
  obtain ⟨x0,x1,-,-⟩:=zac (MB.out _ J4.out)
  go_wp2_with fail
  refine (PS.out _ J4.out).mono ?_
  rintro e u2 ⟨v2,rfl,hr2,hb2⟩
  have J5:=zaa (zab J4.out hb2 J4.out.size)
  have L2:Hid (RdE u2 v2 us):=hr2.rd
  obtain ⟨aM,cM,hv2,-,-⟩:=L2.out.shape
  subst hv2
  have L1b:Hid (RdE u2 _ us):=Rd.below L1.out hb2
  clear hr2 hb2 x0 x1 PS L1
  go_wp2_with fail
  refine (zhe _ _ us u2 L1b.out L2.out (by omega)).mono ?_
  rintro e u4 ⟨rfl,hb4⟩
  have J7:=zaa (zab J5.out hb4 J5.out.size)
  have L1d:Hid (RdE u4 _ us):=Rd.below L1b.out hb4
  clear hb4 L1b L2 J4 J5 J3
  have BF:=zaa (zab B2.out J7.out B2.out.size)
  have u0:=ue.out
  subst u0
  go_wp2
  go_ret
  exact ⟨rfl,BF.out⟩
 obtain ⟨us,eU⟩:∃ us,rnI ns ds s t = (us,0):=⟨(rnI ns ds s t).1,Prod.ext rfl bz⟩
 obtain ⟨u16,⟨a1,a2,a3,r1⟩,i,ds',vs,r2,r3,I2,lw,lt,ls,rt,v16,⟨b1,b2,b3,b4⟩,q2,q3⟩:=yalm HI.out HS.out HT.out eU
 rw [eU] at PI PS
 simp only at PI PS
 have N1:=zaa I2.wi.img.l16
 have N2:=zaa I2.wi.img.l24
 have RR:=zaa (yabs I2)
 have IM2:=zaa I2.img
 have KA:Hid (∀ w' vL,Below W2.heap.size W2 w' → RdE w' vL us → Calls Tryz.prog 12 #[.agg #[.slice f.a0 f.n0 f.c0,.slice f.a1 f.n1 f.c1],vL] w' fun e w2 => ∃ v',e = .returned (.tuple #[v',.int .i64 0]) ∧ RdPm w2 v' (zbk ws us) [] ∧ Below w'.heap.size w' w2):=fun w' vL hb hl => by
  have l:=HI.out.wi.len
  have q:=zeu _ vL ws [] us w' (RdPm.below PW.out hb) hl (by omega) (by simp) (by omega)
  rw [a1,a2,a3] at q
  refine q.mono ?_
  rintro e w2 ⟨v',rfl,r,hb2⟩
  exact ⟨v',rfl,r.rd,hb2⟩
 have KB:Hid (∀ w' vv vL,RdPm w' vv (zbk ws us) [] → RdE w' vL vs → Calls Tryz.prog 12 #[vv,vL] w' fun e w2 => ∃ v',e = .returned (.tuple #[v',.int .i64 0]) ∧ RdPm w2 v' (zbk (zbk ws us) vs) [] ∧ Below w'.heap.size w' w2):=fun w' vv vL hr hl => by
  have l:=I2.wi.len
  have q:=zeu vv vL (zbk ws us) [] vs w' hr hl (by omega) (by simp) (by omega)
  rw [b1,b2,b3] at q
  refine q.mono ?_
  rintro e w2 ⟨v',rfl,r,hb2⟩
  exact ⟨v',rfl,r.rd,hb2⟩
 have KX:Hid (∀ w' vv,Below W2.heap.size W2 w' → RdPm w' vv (zbk ws us) [] → Calls Tryz.prog 6 #[vv] w' fun e w2 => ∃ v',e = .returned (.tuple #[v',.int .i64 0]) ∧ RdIm w2 v' ns ds' ∧ Below w'.heap.size w' w2):=fun w' vv hb hr => by
  have l:(zbk ws us).length ≤ 1048576:=by rw [zdw,HI.out.wi.len]; omega
  have q:=zea vv _ [] w' hr l (by simp) (GW.out.1.below hb) (GW.out.2.1.below hb) (GW.out.2.2.below hb)
  rw [r1,r2,r3] at q
  refine q.mono ?_
  rintro e w2 ⟨v',rfl,r,hb2⟩
  exact ⟨v',rfl,r.rd,hb2⟩
 have KY:Hid (∀ w' vv,Below W2.heap.size W2 w' → RdPm w' vv (zbk (zbk ws us) vs) [] → Calls Tryz.prog 6 #[vv] w' fun e w2 => ∃ v',e = .returned (.tuple #[v',.int .i64 0]) ∧ RdIm w2 v' ns ds ∧ Below w'.heap.size w' w2):=fun w' vv hb hr => by
  have l:(zbk (zbk ws us) vs).length ≤ 1048576:=by rw [zdw,zdw,HI.out.wi.len]; omega
  have q:=zea vv _ [] w' hr l (by simp) (GW.out.1.below hb) (GW.out.2.1.below hb) (GW.out.2.2.below hb)
  rw [b4,q2,q3] at q
  refine q.mono ?_
  rintro e w2 ⟨v',rfl,r,hb2⟩
  exact ⟨v',rfl,r.rd,hb2⟩
 have LW:Hid (∀ w' vv,Below W2.heap.size W2 w' → RdIm w' vv ns ds → Calls Tryz.prog 11 #[vv,.string s] w' fun e w2 => e = .returned (.tuple #[.int .i64 i,.int .i64 0]) ∧ Below w'.heap.size w' w2):=fun w' vv hb hr => by
  have q:=zfw vv _ _ s w' hr (by have:=L16.out; omega) (by have:=L24.out; omega) (GW.out.1.below hb) (GW.out.2.1.below hb) (GW.out.2.2.below hb) GR.out.1 GR.out.2
  rw [show lkR ns ds s = (i,0) by unfold lkR; rw [if_neg (by omega),if_pos IM.out,lw]] at q
  exact q
 have LT:Hid (∀ w' vv,Below W2.heap.size W2 w' → RdIm w' vv ns ds' → Calls Tryz.prog 11 #[vv,.string t] w' fun e w2 => e = .returned (.tuple #[.int .i64 i,.int .i64 0]) ∧ Below w'.heap.size w' w2):=fun w' vv hb hr => by
  have q:=zfw vv _ _ t w' hr (by have:=L16.out; omega) (by have:=N2.out; omega) (GW.out.1.below hb) (GW.out.2.1.below hb) (GW.out.2.2.below hb) RR.out.1 RR.out.2
  rw [show lkR ns ds' t = (i,0) by unfold lkR; rw [if_neg (by omega),if_pos IM2.out,lt]] at q
  exact q
 have LS:Hid (∀ w' vv,Below W2.heap.size W2 w' → RdIm w' vv ns ds' → Calls Tryz.prog 11 #[vv,.string s] w' fun e w2 => e = .returned (.tuple #[.int .i64 0,.int .i64 5]) ∧ Below w'.heap.size w' w2):=fun w' vv hb hr => by
  have q:=zfw vv _ _ s w' hr (by have:=L16.out; omega) (by have:=N2.out; omega) (GW.out.1.below hb) (GW.out.2.1.below hb) (GW.out.2.2.below hb) RR.out.1 RR.out.2
  rw [show lkR ns ds' s = (0,5) by unfold lkR; rw [if_neg (by omega),if_pos IM2.out,ls]] at q
  exact q
 have PR:Hid (∀ w' vv,Below W2.heap.size W2 w' → RdIm w' vv ns ds' → Calls Tryz.prog 8 #[vv,.string t,.string s] w' fun e w2 => ∃ v',e = .returned (.tuple #[v',.int .i64 0]) ∧ RdE w2 v' vs ∧ Below w'.heap.size w' w2):=fun w' vv hb hr => by
  have q:=zfo vv ns ds' t s w' hr (by have:=N1.out; omega) (by have:=N2.out; omega) (GW.out.1.below hb) (GW.out.2.1.below hb) (GW.out.2.2.below hb) RR.out.1 RR.out.2
  rw [show rnR ns ds' t s = (vs,0) by unfold rnR; rw [if_neg (by omega),if_neg (by omega),if_pos IM2.out,rt]] at q
  refine q.mono ?_
  rintro e w2 ⟨v',h1,h3,h2⟩
  exact ⟨v',h1,h3.rd,h2⟩
 have ul:=u16
 clear HI PW GW GR IM a1 a2 a3 r1 r2 r3 b1 b2 b3 b4 q2 q3 lw lt ls rt I2 RR IM2 bz eU HT HS
 generalize zbk (zbk ws us) vs = ws3 at *
 generalize zbk ws us = ws' at *
 obtain ⟨x0,x1,-,-⟩:=zac (MB.out _ J3.out)
 go_wp2_with fail
 refine (PI.out _ J3.out).mono ?_
 rintro e u1 ⟨v1,rfl,hr1,hb1⟩
 have J4:=zaa (zab J3.out hb1 J3.out.size)
 have L1:Hid (RdE u1 v1 us):=hr1.rd
 obtain ⟨aL,cL,hv1,-,-⟩:=L1.out.shape
 subst hv1
 clear hr1 hb1 x0 x1 PI
 obtain ⟨x0,x1,-,-⟩:=zac (MB.out _ J4.out)
 go_wp2_with fail
 refine (PS.out _ J4.out).mono ?_
 rintro e u2 ⟨v2,rfl,hr2,hb2⟩
 have J5:=zaa (zab J4.out hb2 J4.out.size)
 have L2:Hid (RdE u2 v2 us):=hr2.rd
 obtain ⟨aM,cM,hv2,-,-⟩:=L2.out.shape
 subst hv2
 have L1b:Hid (RdE u2 _ us):=Rd.below L1.out hb2
 clear hr2 hb2 x0 x1 PS L1
 go_wp2_with fail
 refine (zhe _ _ us u2 L1b.out L2.out (by omega)).mono ?_
 rintro e u4 ⟨rfl,hb4⟩
 have J7:=zaa (zab J5.out hb4 J5.out.size)
 have L1d:Hid (RdE u4 _ us):=Rd.below L1b.out hb4
 clear hb4 L1b L2 J4 J5 J3
 obtain ⟨x0,x1,-,-⟩:=zac (MB.out _ J7.out)
 go_wp2_with fail
 refine (LW.out _ _ J7.out (RI.out.below J7.out)).mono ?_
 rintro e u4b ⟨rfl,hb4b⟩
 have J7b:=zaa (zab J7.out hb4b J7.out.size)
 have L1e:=zaa (Rd.below L1d.out hb4b)
 clear hb4b x0 x1 LW J7 L1d
 obtain ⟨y0,y1,y2,y3,-⟩:=zaq (MD.out _ J7b.out)
 go_wp2_with fail
 refine (KA.out _ _ J7b.out L1e.out).mono ?_
 rintro e u5 ⟨v5,rfl,hr5,hb5⟩
 have J8:=zaa (zab J7b.out hb5 J7b.out.size)
 have P5:=zaa hr5
 obtain ⟨vW5,vP5,rfl,p51,p52⟩:=hr5
 obtain ⟨-,g1,g2,hv51,-⟩:=p51
 obtain ⟨-,g3,g4,hv52,-⟩:=p52
 subst hv51
 subst hv52
 obtain ⟨W5,hW5⟩:∃ W5,W5 = u5.alloc (.cells #[.slice g1 ws'.length g2,.slice g3 ([]:List St).length g4] 26):=⟨_,rfl⟩
 have A5:Hid (Below u5.heap.size u5 W5):=by rw [hW5]; exact (Below.refl _ _).alloc (Nat.le_refl _) _
 have S5:Hid (W5.heap[u5.heap.size]? = some (.cells #[.slice g1 ws'.length g2,.slice g3 ([]:List St).length g4] 26 (0,0))):=by rw [hW5]; exact zah rfl
 have J9:=zaa (zab J8.out A5.out J8.out.size)
 have P5w:=zaa (RdPm.below P5.out A5.out)
 simp only [List.length_nil] at hW5 S5 P5w
 clear hb5 y0 y1 y2 y3 J7b J8 P5 A5 KA L1e
 go_upto_region 15 with fail
 rw [← hW5]
 clear hW5
 obtain ⟨z0,z1,-,-⟩:=zac S5.out
 go_wp2_with fail
 refine (KX.out _ _ J9.out P5w.out).mono ?_
 rintro e u6 ⟨v6,rfl,hr6,hb6⟩
 have J10:=zaa (zab J9.out hb6 J9.out.size)
 have R6:=zaa hr6
 obtain ⟨vI6,vD6,rfl,h61,h62⟩:=hr6
 obtain ⟨a6,k6,rfl,_,hc6⟩:=h61.shape
 obtain ⟨a7,k7,rfl,_,_⟩:=h62.shape
 obtain ⟨b6,o6,rfl,hbl6,hcell6⟩:=hc6 (by have:=N1.out; omega)
 obtain ⟨W6,hW6⟩:∃ W6,W6 = u6.alloc (.cells #[.slice (some ⟨b6,o6,none⟩) ns.length k6,.slice a7 ds'.length k7] 42):=⟨_,rfl⟩
 have A6:Hid (Below u6.heap.size u6 W6):=by rw [hW6]; exact (Below.refl _ _).alloc (Nat.le_refl _) _
 have S6:Hid (W6.heap[u6.heap.size]? = some (.cells #[.slice (some ⟨b6,o6,none⟩) ns.length k6,.slice a7 ds'.length k7] 42 (0,0))):=by rw [hW6]; exact zah rfl
 have J11:=zaa (zab J10.out A6.out J10.out.size)
 have R6w:=zaa (R6.out.below A6.out)
 have S5w:=zaa (zek (zek S5.out hb6 (zpn S5.out)) A6.out (zpn (zek S5.out hb6 (zpn S5.out))))
 have P6w:=zaa (RdPm.below (RdPm.below P5w.out hb6) A6.out)
 clear R6 hb6 z0 z1 S5 J9 P5w KX hc6 hcell6 hbl6 h61 h62 J10 A6
 go_upto_region 16 with fail
 rw [← hW6]
 clear hW6
 obtain ⟨pb,hpb⟩:∃ pb,pb = u5.heap.size:=⟨_,rfl⟩
 obtain ⟨xb,hxb⟩:∃ xb,xb = u6.heap.size:=⟨_,rfl⟩
 rw [← hpb] at S5w
 rw [← hxb] at S6
 rw [← hpb,← hxb]
 clear hpb hxb
 have K6:Hid (∀ w',Below W6.heap.size W6 w' → (w'.heap[pb]? = some (.cells #[.slice g1 ws'.length g2,.slice g3 0 g4] 26 (0,0)) ∧ w'.heap[xb]? = some (.cells #[.slice (some ⟨b6,o6,none⟩) ns.length k6,.slice a7 ds'.length k7] 42 (0,0))) ∧ Below W2.heap.size W2 w'):=fun w' hb => ⟨⟨zek S5w.out hb (zpn S5w.out),zek S6.out hb (zpn S6.out)⟩,zab J11.out hb J11.out.size⟩
 have RX6:Hid (∀ w',Below W6.heap.size W6 w' → RdIm w' (.agg #[.slice (some ⟨b6,o6,none⟩) ns.length k6,.slice a7 ds'.length k7]) ns ds'):=fun w' hb => R6w.out.below hb
 have RP6:Hid (∀ w',Below W6.heap.size W6 w' → RdPm w' (.agg #[.slice g1 ws'.length g2,.slice g3 0 g4]) ws' []):=fun w' hb => RdPm.below P6w.out hb
 have Y0:=zaa (Below.refl W6.heap.size W6)
 clear S5w S6 J11 R6w P6w
 obtain ⟨y0,y1,-,-⟩:=zac (K6.out _ Y0.out).1.2
 go_wp2_with fail
 refine (LT.out _ _ (K6.out _ Y0.out).2 (RX6.out _ Y0.out)).mono ?_
 rintro e u7 ⟨rfl,hb7⟩
 have Y7:=zaa (zab Y0.out hb7 Y0.out.size)
 clear hb7 y0 y1 LT Y0
 obtain ⟨y0,y1,-,-⟩:=zac (K6.out _ Y7.out).1.2
 go_wp2_with fail
 refine (LS.out _ _ (K6.out _ Y7.out).2 (RX6.out _ Y7.out)).mono ?_
 rintro e u8 ⟨rfl,hb8⟩
 have Y8:=zaa (zab Y7.out hb8 Y7.out.size)
 clear hb8 y0 y1 LS Y7
 obtain ⟨y0,y1,-,-⟩:=zac (K6.out _ Y8.out).1.2
 go_wp2_with fail
 refine (PR.out _ _ (K6.out _ Y8.out).2 (RX6.out _ Y8.out)).mono ?_
 rintro e u9 ⟨v9,rfl,hr9,hb9⟩
 have Y9:=zaa (zab Y8.out hb9 Y8.out.size)
 have L9:=zaa hr9
 obtain ⟨aV,cV,hv9,-,-⟩:=L9.out.shape
 subst hv9
 clear hr9 hb9 y0 y1 PR Y8
 obtain ⟨y0,y1,-,-⟩:=zac (K6.out _ Y9.out).1.1
 go_wp2_with fail
 refine (KB.out _ _ _ (RP6.out _ Y9.out) L9.out).mono ?_
 rintro e t1 ⟨v10,rfl,hr10,hb10⟩
 have Y10:=zaa (zab Y9.out hb10 Y9.out.size)
 have P10:=zaa hr10
 obtain ⟨vW10,vP10,rfl,p101,p102⟩:=hr10
 obtain ⟨-,s1,s2,hv101,-⟩:=p101
 obtain ⟨-,s3,s4,hv102,-⟩:=p102
 subst hv101
 subst hv102
 obtain ⟨W7,hW7⟩:∃ W7,W7 = t1.alloc (.cells #[.slice s1 ws3.length s2,.slice s3 ([]:List St).length s4] 26):=⟨_,rfl⟩
 have A7:Hid (Below t1.heap.size t1 W7):=by rw [hW7]; exact (Below.refl _ _).alloc (Nat.le_refl _) _
 have S7:Hid (W7.heap[t1.heap.size]? = some (.cells #[.slice s1 ws3.length s2,.slice s3 ([]:List St).length s4] 26 (0,0))):=by rw [hW7]; exact zah rfl
 have Y11:=zaa (zab Y10.out A7.out Y10.out.size)
 have P7w:=zaa (RdPm.below P10.out A7.out)
 simp only [List.length_nil] at hW7 S7 P7w
 clear hb10 y0 y1 Y9 Y10 P10 A7 KB L9
 go_upto_region 20 with fail
 rw [← hW7]
 clear hW7
 obtain ⟨z0,z1,-,-⟩:=zac S7.out
 go_wp2_with fail
 refine (KY.out _ _ (K6.out _ Y11.out).2 P7w.out).mono ?_
 rintro e t2 ⟨v11,rfl,hr11,hb11⟩
 have Y12:=zaa (zab Y11.out hb11 Y11.out.size)
 have R11:=zaa hr11
 obtain ⟨vI11,vD11,rfl,h111,h112⟩:=hr11
 obtain ⟨-,e1,e2,hv111,-⟩:=h111
 obtain ⟨-,e3,e4,hv112,-⟩:=h112
 subst hv111
 subst hv112
 obtain ⟨W8,hW8⟩:∃ W8,W8 = t2.alloc (.cells #[.slice e1 ns.length e2,.slice e3 ds.length e4] 42):=⟨_,rfl⟩
 have A8:Hid (Below t2.heap.size t2 W8):=by rw [hW8]; exact (Below.refl _ _).alloc (Nat.le_refl _) _
 have S8:Hid (W8.heap[t2.heap.size]? = some (.cells #[.slice e1 ns.length e2,.slice e3 ds.length e4] 42 (0,0))):=by rw [hW8]; exact zah rfl
 have Y13:=zaa (zab Y12.out A8.out Y12.out.size)
 have R8w:=zaa (R11.out.below A8.out)
 clear hb11 z0 z1 S7 P7w KY Y11 Y12 R11 A8
 go_upto_region 21 with fail
 rw [← hW8]
 clear hW8
 have J14:=zaa (K6.out _ Y13.out).2
 obtain ⟨x0,x1,-,-⟩:=zac (MB.out _ J14.out)
 obtain ⟨y0,y1,-,-⟩:=zac S8.out
 go_wp2_with fail
 refine (zqa _ _ ns ds W8 R8w.out (RI.out.below J14.out) (by have:=L16.out; omega) (by have:=L24.out; omega)).mono ?_
 rintro e t4 ⟨rfl,hb14⟩
 have BF:=zaa (zab B2.out (zab J14.out hb14 J14.out.size) B2.out.size)
 clear hb14
 go_wp2
 go_ret
 exact ⟨rfl,BF.out⟩
end Go.Proofs.YtkdjfhkalelafaaGreatDoor
