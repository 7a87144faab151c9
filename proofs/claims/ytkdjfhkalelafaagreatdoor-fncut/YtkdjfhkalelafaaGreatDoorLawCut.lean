/- A file that is cut has its first pages alone; made longer it has noughts: the walk of the law. -/
import Derived.Test.YtkdjfhkalelafaaGreatDoorCtM
import Derived.Test.YtkdjfhkalelafaaGreatDoorZAQ
import Derived.Test.YtkdjfhkalelafaaGreatDoorDuD
import Derived.Test.YtkdjfhkalelafaaGreatDoorDuE
import Derived.Test.YtkdjfhkalelafaaGreatDoorZAX
import Derived.Test.YtkdjfhkalelafaaGreatDoorZBL
import Derived.Test.YtkdjfhkalelafaaGreatDoorZBM
import Derived.Test.YtkdjfhkalelafaaGreatDoorZBO
import Derived.BigQuiet
namespace Go.Proofs.YtkdjfhkalelafaaGreatDoor
open Go.RowKit
theorem idle_pmC (f:FV) (w:World) (h:FsIdle w (.agg #[.slice f.a0 f.n0 f.c0,.slice f.a1 f.n1 f.c1,.slice f.a2 f.n2 f.c2,.slice f.a3 f.n3 f.c3,.slice f.a4 f.n4 f.c4,.slice f.a5 f.n5 f.c5,.int .i64 f.x,.int .i64 f.y,.slice f.a8 f.n8 f.c8,.bool f.z])):∃ ws es ns ds,Idle ws es ns ds ∧ RdDev w (.agg #[.slice f.a0 f.n0 f.c0,.slice f.a1 f.n1 f.c1,.slice f.a2 f.n2 f.c2,.slice f.a3 f.n3 f.c3]) ws [] es []:=by
 obtain ⟨ws,es,ns,ds,hs,⟨aW,cW,aP,cP,aS,cS,aQ,cQ,aH,cH,aT,cT,aN,cN,ev,a,b,c,d⟩,hi,hh⟩:=h
 simp only [Value.agg.injEq,Array.mk.injEq,List.cons.injEq,Value.slice.injEq,and_true] at ev
 obtain ⟨⟨e1,e2,e3⟩,⟨e4,e5,e6⟩,⟨e7,e8,e9⟩,⟨e10,e11,e12⟩,-⟩:=ev
 rw [e1,e2,e3,e4,e5,e6,e7,e8,e9,e10,e11,e12]
 exact ⟨ws,es,ns,ds,hi,a⟩
theorem dev_two {w:World} {a b c d:Value} {ws:List Int} {ps:List St} {es:List Int} {qs:List Se} (h:RdDev w (.agg #[a,b,c,d]) ws ps es qs):RdPm w (.agg #[a,b]) ws ps ∧ RdBlk w (.agg #[c,d]) es qs:=by
 obtain ⟨_,_,_,_,e,p,q⟩:=h
 simp only [Value.agg.injEq,Array.mk.injEq,List.cons.injEq,and_true] at e
 obtain ⟨rfl,rfl,rfl,rfl⟩:=e
 exact ⟨p,q⟩
theorem idle_RMC {ws es:List Int} {ns:List Ino} {ds:List Den} (h:Idle ws es ns ds):(∀ k (h:k < ns.length),ns[k].R) ∧ ∀ k (h:k < ds.length),ds[k].name.size ≤ maxLen:=by
 have q:=zzz h.pm 16
 have r:=zpf (zcg ws []) 24
 rw [show zbe (zcg ws []) 16 = ns from h.wi.inos] at q
 rw [show zbi (zcg ws []) 24 = ds from h.wi.dens] at r
 exact ⟨q,r⟩
theorem idle_riC {ws es:List Int} {ns:List Ino} {ds:List Den} (h:Idle ws es ns ds):riC ws [] = 0 ∧ riN ws [] = ns ∧ riD ws [] = ds:=by
 have c:riC ws [] = 0:=by unfold riC; rw [if_pos h.pm,if_pos (show riB (zcg ws []) = true from h.wi.ri)]
 exact ⟨c,by unfold riN; rw [if_pos c]; exact h.wi.inos,by unfold riD; rw [if_pos c]; exact h.wi.dens⟩
set_option maxRecDepth 100000 in
set_option maxHeartbeats 64000000 in
theorem fnCut_law (vA vB:Value) (cs ms:List Int) (w:World) (hA:RdB w vA cs) (hB:RdB w vB ms) (hT:TS w) (hE:ED w) (hF:FD w) (hN:NW w) :
  Calls Tryz.prog 4 #[vA,vB] w fun e w' => e = .returned (.bool true) ∧ Below w.heap.size w w':=by
 obtain ⟨aA,cA,rfl,_⟩:=hA.shape
 obtain ⟨aB,cB,rfl,_⟩:=hB.shape
 have HA:=zaa hA
 have HB:=zaa hB
 have GT:=zaa (And.intro hT (And.intro hE hF))
 have GN:=zaa hN
 clear hA hB hT hE hF hN
 by_cases c1:1048576 < cs.length
 ·go_enter Tryz.func4,Tryz.ntmps4
  go_wp2
  go_ret
  exact ⟨rfl,Below.refl _ _⟩
 by_cases c2:1048576 < ms.length
 ·go_enter Tryz.func4,Tryz.ntmps4
  go_wp2
  go_ret
  exact ⟨rfl,Below.refl _ _⟩
 go_enter Tryz.func4,Tryz.ntmps4
 go_wp2_with fail
 refine (yanz _ cs w HA.out (by omega)).mono ?_
 rintro e w1 ⟨f,rfl,hi,hb1⟩
 obtain ⟨ws,es,ns,ds,I,dv⟩:=idle_pmC f w1 hi
 have pm:=(dev_two dv).1
 have q1:=zxz f w1
 obtain ⟨W1,hW1⟩:∃ W1,W1 = w1.alloc (.cells #[.slice f.a0 f.n0 f.c0,.slice f.a1 f.n1 f.c1,.slice f.a2 f.n2 f.c2,.slice f.a3 f.n3 f.c3] 31):=⟨_,rfl⟩
 have A1:Hid (Below w1.heap.size w1 W1):=by rw [hW1]; exact (Below.refl _ _).alloc (Nat.le_refl _) _
 have B1:=zaa (zab hb1 A1.out hb1.size)
 have M1:Hid (W1.heap[w1.heap.size]? = some (.cells #[.slice f.a0 f.n0 f.c0,.slice f.a1 f.n1 f.c1,.slice f.a2 f.n2 f.c2,.slice f.a3 f.n3 f.c3] 31 (0,0))):=by rw [hW1]; exact zah rfl
 have PM:=zaa (RdPm.below pm A1.out)
 have DV:=zaa (dv.below A1.out)
 have HI:=zaa I
 have HZ:=zaa (show cs.length ≤ 1048576 ∧ ms.length ≤ 1048576 by omega)
 clear hi hb1 pm dv I
 go_upto_region 4 with fail
 rw [← hW1]
 clear hW1 q1 c1 c2
 obtain ⟨mb,hmb⟩:∃ mb,mb = w1.heap.size:=⟨_,rfl⟩
 rw [← hmb] at M1
 rw [← hmb]
 clear hmb A1
 have KR:Hid (Calls Tryz.prog 6 #[.agg #[.slice f.a0 f.n0 f.c0,.slice f.a1 f.n1 f.c1]] W1 fun e w' => ∃ v',e = .returned (.tuple #[v',.int .i64 0]) ∧ RdIm w' v' ns ds ∧ Below W1.heap.size W1 w'):=by
  have l:=HI.out.wi.len
  have q:=zea _ ws [] W1 PM.out (by omega) (by simp) (GT.out.1.below B1.out) (GT.out.2.1.below B1.out) (GT.out.2.2.below B1.out)
  rw [(idle_riC HI.out).1,(idle_riC HI.out).2.1,(idle_riC HI.out).2.2] at q
  refine q.mono ?_
  rintro e w' ⟨v',rfl,r,hb⟩
  exact ⟨v',rfl,r.rd,hb⟩
 obtain ⟨y0,y1,y2,y3,-⟩:=zaq M1.out
 go_wp2_with fail
 refine KR.out.mono ?_
 rintro e w2 ⟨v2,rfl,hr2,hb2⟩
 have R2:=zaa hr2
 obtain ⟨vI,vD,rfl,h1,h2⟩:=hr2
 have l16:=HI.out.wi.img.l16
 have l24:=HI.out.wi.img.l24
 obtain ⟨aW,cW,rfl,_,hcW⟩:=h1.shape
 obtain ⟨aP,cP,rfl,_,_⟩:=h2.shape
 obtain ⟨bW,oW,rfl,hblW,hcellW⟩:=hcW (by omega)
 obtain ⟨W2,hW2⟩:∃ W2,W2 = w2.alloc (.cells #[.slice (some ⟨bW,oW,none⟩) ns.length cW,.slice aP ds.length cP] 42):=⟨_,rfl⟩
 have A2:Hid (Below w2.heap.size w2 W2):=by rw [hW2]; exact (Below.refl _ _).alloc (Nat.le_refl _) _
 have H2:=zaa (zab hb2 A2.out hb2.size)
 have B2:=zaa (zab B1.out H2.out B1.out.size)
 have M2:Hid (W2.heap[w2.heap.size]? = some (.cells #[.slice (some ⟨bW,oW,none⟩) ns.length cW,.slice aP ds.length cP] 42 (0,0))):=by rw [hW2]; exact zah rfl
 have RI:=zaa (R2.out.below A2.out)
 have DW:=zaa (DV.out.below H2.out)
 have MD:Hid (∀ w',Below W2.heap.size W2 w' → w'.heap[mb]? = some (.cells #[.slice f.a0 f.n0 f.c0,.slice f.a1 f.n1 f.c1,.slice f.a2 f.n2 f.c2,.slice f.a3 f.n3 f.c3] 31 (0,0))):=fun w' hb => by
  have e1:=zek M1.out H2.out (zpn M1.out)
  exact zek e1 hb (zpn e1)
 have GW:Hid (TS W2 ∧ ED W2 ∧ FD W2 ∧ NW W2):=⟨GT.out.1.below B2.out,GT.out.2.1.below B2.out,GT.out.2.2.below B2.out,GN.out.below B2.out⟩
 have GR:=zaa (idle_RMC HI.out)
 have L16:=zaa l16
 have L24:=zaa l24
 have IM:=zaa HI.out.img
 clear h1 h2 hcW hcellW hblW hb2 R2 KR y0 y1 y2 y3 M1 PM DV HA GT GN l16 l24
 go_upto_region 5 with fail
 rw [← hW2]
 clear hW2
 obtain ⟨ib,hib⟩:∃ ib,ib = w2.heap.size:=⟨_,rfl⟩
 rw [← hib] at M2
 rw [← hib]
 clear hib A2 H2
 have MB:Hid (∀ w',Below W2.heap.size W2 w' → w'.heap[ib]? = some (.cells #[.slice (some ⟨bW,oW,none⟩) ns.length cW,.slice aP ds.length cP] 42 (0,0))):=fun w' hb => zek M2.out hb (zpn M2.out)
 clear M2
 go_wp2_with fail
 refine (zqx _ ms W2 (HB.out.below B2.out) HZ.out.2).mono ?_
 rintro e w3 ⟨s,rfl,hs,hb3⟩
 have J2:=zaa hb3
 have sz:=hs.size
 clear hb3 hs
 go_wp2_with fail
 refine (yawg _ ms 0 9 w3 (HB.out.below (zab B2.out J2.out B2.out.size)) HZ.out.2 (by omega) (by omega) (by omega) (by omega)).mono ?_
 rintro e w4 ⟨rfl,hb4⟩
 obtain ⟨r0,r1⟩:0 ≤ atV ms 0 9 ∧ atV ms 0 9 < 9:=yaxr ms 0 9 (by omega)
 generalize atV ms 0 9 = r at *
 have J3a:=zaa (zab J2.out hb4 J2.out.size)
 clear hb4 HB HZ J2
 have pe:=ps_idle HI.out (s:=s) (by omega)
 have pcd:(psR ws [] es [] s).2 = (flI ns ds s).2:=by rw [pe]; exact ps_codes
 have ccd:(cuI ns ds s r).2 = (flI ns ds s).2:=cu_codes ⟨r0,by omega⟩
 have eM:Hid (cuR ns ds s r = cuI ns ds s r):=by unfold Hid cuR; rw [if_neg (by omega),if_pos IM.out]
 have WL:=zaa (And.intro HI.out.wi.len (zej HI.out.bk).1)
 have PB:Hid (∀ w',Below W2.heap.size W2 w' → Calls Tryz.prog 15 #[.agg #[.slice f.a0 f.n0 f.c0,.slice f.a1 f.n1 f.c1,.slice f.a2 f.n2 f.c2,.slice f.a3 f.n3 f.c3],.string s] w' fun e w2 => ∃ v',e = .returned (.tuple #[v',.int .i64 (flI ns ds s).2]) ∧ RdI w2 v' (psR ws [] es [] s).1 ∧ Below w'.heap.size w' w2):=fun w' hb => by
  have q:=implPagesOf_any _ ws [] es [] s w' (DW.out.below hb) (by have:=WL.out; omega) (by simp) (by have:=WL.out; omega) (by simp) (GW.out.1.below hb) (GW.out.2.1.below hb) (GW.out.2.2.1.below hb) (GW.out.2.2.2.below hb)
  rw [pcd] at q
  refine q.mono ?_
  rintro e w2 ⟨v',rfl,r,hb2⟩
  exact ⟨v',rfl,r.rd,hb2⟩
 have PI0:Hid (∀ w',Below W2.heap.size W2 w' → Calls Tryz.prog 16 #[.agg #[.slice (some ⟨bW,oW,none⟩) ns.length cW,.slice aP ds.length cP],.string s,.int .i64 r] w' fun e w2 => zjo w' w2 e ((cuI ns ds s r).1,(flI ns ds s).2)):=fun w' hb => by
  have q:=implPlanCut_any (.agg #[.slice (some ⟨bW,oW,none⟩) ns.length cW,.slice aP ds.length cP]) ns ds s r w' (RI.out.below hb) (by have:=L16.out; omega) (by have:=L24.out; omega) (GW.out.1.below hb) (GW.out.2.1.below hb) (GW.out.2.2.1.below hb) GR.out.1 GR.out.2
  rw [eM.out] at q
  rw [← ccd]
  exact q
 have PS0:Hid (∀ w',Below W2.heap.size W2 w' → Calls Tryz.prog 17 #[.agg #[.slice (some ⟨bW,oW,none⟩) ns.length cW,.slice aP ds.length cP],.string s,.int .i64 r] w' fun e w2 => zjo w' w2 e ((cuI ns ds s r).1,(flI ns ds s).2)):=fun w' hb => by
  have q:=yaie (.agg #[.slice (some ⟨bW,oW,none⟩) ns.length cW,.slice aP ds.length cP]) ns ds s r w' (RI.out.below hb) (by have:=L16.out; omega) (by have:=L24.out; omega) GR.out.1 GR.out.2
  rw [eM.out] at q
  rw [← ccd]
  exact q
 simp only [zjo] at PI0 PS0
 clear eM RI GR
 by_cases bz:(flI ns ds s).2 = 0
 case neg =>
  have ue0:=yaxm (ns:=ns) (ds:=ds) (s:=s) (g:=r) (by rw [ccd]; exact bz)
  clear pcd ccd pe
  rw [ue0] at PI0 PS0
  generalize (flI ns ds s).2 = b at *
  obtain ⟨us,eu⟩:∃ us:List Se,us = []:=⟨_,rfl⟩
  rw [← eu] at PI0 PS0
  have ul:us.length ≤ 0:=by rw [eu]; simp
  have ue:=zaa eu
  have d1:(b == 0) = false:=by rw [beq_eq_false_iff_ne]; exact bz
  clear HI DW GW L16 L24 IM eu ue0 WL
  obtain ⟨y0,y1,y2,y3,-⟩:=zaq (MD.out _ J3a.out)
  go_wp2_with fail
  refine (PB.out _ J3a.out).mono ?_
  rintro e w5 ⟨vb,rfl,hrb,hb5a⟩
  have J5a:=zaa (zab J3a.out hb5a J3a.out.size)
  have MD5:=zaa (fun w' (hb:Below w5.heap.size w5 w') => MD.out w' (zab J5a.out hb J5a.out.size))
  have MB5:=zaa (fun w' (hb:Below w5.heap.size w5 w') => MB.out w' (zab J5a.out hb J5a.out.size))
  have RB5:Hid (∀ w',Below w5.heap.size w5 w' → RdI w' vb (psR ws [] es [] s).1):=fun w' hb => Rd.below hrb hb
  have PI:=zaa (fun w' (hb:Below w5.heap.size w5 w') => PI0.out w' (zab J5a.out hb J5a.out.size))
  have PS:=zaa (fun w' (hb:Below w5.heap.size w5 w') => PS0.out w' (zab J5a.out hb J5a.out.size))
  obtain ⟨aB0,cB0,hvb,-,-⟩:=hrb.shape
  subst hvb
  have J3:=zaa (Below.refl w5.heap.size w5)
  clear y0 y1 y2 y3 hrb hb5a J3a PB PI0 PS0
  obtain ⟨x0,x1,-,-⟩:=zac (MB5.out _ J3.out)
  go_wp2_with fail
  refine (PI.out _ J3.out).mono ?_
  rintro e u1 ⟨v1,rfl,hr1,hb1⟩
  have J4:=zaa (zab J3.out hb1 J3.out.size)
  have L1:Hid (RdE u1 v1 us):=hr1.rd
  obtain ⟨aL,cL,hv1,-,-⟩:=L1.out.shape
  subst hv1
  clear hr1 hb1 x0 x1 PI
  obtain ⟨x0,x1,-,-⟩:=zac (MB5.out _ J4.out)
  go_wp2_with fail
  refine (PS.out _ J4.out).mono ?_
  rintro e u2 ⟨v2,rfl,hr2,hb2⟩
  have J5:=zaa (zab J4.out hb2 J4.out.size)
  have L2:Hid (RdE u2 v2 us):=hr2.rd
  obtain ⟨aM,cM,hv2,-,-⟩:=L2.out.shape
  subst hv2
  have L1b:Hid (RdE u2 _ us):=Rd.below L1.out hb2
  clear hr2 hb2 x0 x1 PS L1
  go_wp2_with fail
  refine (zhe _ _ us u2 L1b.out L2.out (by omega)).mono ?_
  rintro e u4 ⟨rfl,hb4⟩
  have J7:=zaa (zab J5.out hb4 J5.out.size)
  have L1d:Hid (RdE u4 _ us):=Rd.below L1b.out hb4
  clear hb4 L1b L2 J4 J5 J3
  have BF:=zaa (zab B2.out (zab J5a.out J7.out J5a.out.size) B2.out.size)
  have u0:=ue.out
  subst u0
  go_wp2
  go_ret
  exact ⟨rfl,BF.out⟩
 obtain ⟨us,eU⟩:∃ us,cuI ns ds s r = (us,0):=⟨(cuI ns ds s r).1,Prod.ext rfl (ccd.trans bz)⟩
 obtain ⟨u16,⟨a1,a2,a3⟩,L,L',q1,q2,q3,l8,l8',HV⟩:=cu_found HI.out (by omega) eU
 have HVV:=zaa HV
 rw [eU,bz] at PI0 PS0
 rw [bz,q1] at PB
 simp only at PI0 PS0 PB
 have KA:Hid (∀ w' vL,Below W2.heap.size W2 w' → RdE w' vL us → Calls Tryz.prog 12 #[.agg #[.slice f.a0 f.n0 f.c0,.slice f.a1 f.n1 f.c1],vL] w' fun e w2 => ∃ v',e = .returned (.tuple #[v',.int .i64 0]) ∧ RdPm w2 v' (zbk ws us) [] ∧ Below w'.heap.size w' w2):=fun w' vL hb hl => by
  have q:=zeu _ vL ws [] us w' (RdPm.below (dev_two DW.out).1 hb) hl (by have:=WL.out; omega) (by simp) (by omega)
  rw [a1,a2,a3] at q
  refine q.mono ?_
  rintro e w2 ⟨v',rfl,r,hb2⟩
  exact ⟨v',rfl,r.rd,hb2⟩
 have PC:Hid (∀ w' va vb,Below W2.heap.size W2 w' → RdPm w' (.agg #[va,vb]) (zbk ws us) [] → Calls Tryz.prog 15 #[.agg #[va,vb,.slice f.a2 f.n2 f.c2,.slice f.a3 f.n3 f.c3],.string s] w' fun e w2 => ∃ v',e = .returned (.tuple #[v',.int .i64 0]) ∧ RdI w2 v' L' ∧ Below w'.heap.size w' w2):=fun w' va vb hb hr => by
  have l:(zbk ws us).length ≤ 1048576:=by rw [zdw]; have:=WL.out; omega
  have q:=implPagesOf_any (.agg #[va,vb,.slice f.a2 f.n2 f.c2,.slice f.a3 f.n3 f.c3]) (zbk ws us) [] es [] s w' ⟨_,_,_,_,rfl,hr,((dev_two DW.out).2).below hb⟩ l (by simp) (by have:=WL.out; omega) (by simp) (GW.out.1.below hb) (GW.out.2.1.below hb) (GW.out.2.2.1.below hb) (GW.out.2.2.2.below hb)
  rw [q2] at q
  refine q.mono ?_
  rintro e w2 ⟨v',rfl,r,hb2⟩
  exact ⟨v',rfl,r.rd,hb2⟩
 have ul:=u16
 subst q3
 clear HI DW GW IM a1 a2 a3 q1 q2 bz eU pcd ccd pe HV WL L16 L24 r0 r1
 generalize zbk ws us = ws' at *
 obtain ⟨y0,y1,y2,y3,-⟩:=zaq (MD.out _ J3a.out)
 go_wp2_with fail
 refine (PB.out _ J3a.out).mono ?_
 rintro e w5 ⟨vb,rfl,hrb,hb5a⟩
 have J5a:=zaa (zab J3a.out hb5a J3a.out.size)
 have MD5:=zaa (fun w' (hb:Below w5.heap.size w5 w') => MD.out w' (zab J5a.out hb J5a.out.size))
 have MB5:=zaa (fun w' (hb:Below w5.heap.size w5 w') => MB.out w' (zab J5a.out hb J5a.out.size))
 have RB5:Hid (∀ w',Below w5.heap.size w5 w' → RdI w' vb L):=fun w' hb => Rd.below hrb hb
 have PI:=zaa (fun w' (hb:Below w5.heap.size w5 w') => PI0.out w' (zab J5a.out hb J5a.out.size))
 have PS:=zaa (fun w' (hb:Below w5.heap.size w5 w') => PS0.out w' (zab J5a.out hb J5a.out.size))
 obtain ⟨aB0,cB0,hvb,-,-⟩:=hrb.shape
 subst hvb
 have J3:=zaa (Below.refl w5.heap.size w5)
 clear y0 y1 y2 y3 hrb hb5a J3a PB PI0 PS0
 obtain ⟨x0,x1,-,-⟩:=zac (MB5.out _ J3.out)
 go_wp2_with fail
 refine (PI.out _ J3.out).mono ?_
 rintro e u1 ⟨v1,rfl,hr1,hb1⟩
 have J4:=zaa (zab J3.out hb1 J3.out.size)
 have L1:Hid (RdE u1 v1 us):=hr1.rd
 obtain ⟨aL,cL,hv1,-,-⟩:=L1.out.shape
 subst hv1
 clear hr1 hb1 x0 x1 PI
 obtain ⟨x0,x1,-,-⟩:=zac (MB5.out _ J4.out)
 go_wp2_with fail
 refine (PS.out _ J4.out).mono ?_
 rintro e u2 ⟨v2,rfl,hr2,hb2⟩
 have J5:=zaa (zab J4.out hb2 J4.out.size)
 have L2:Hid (RdE u2 v2 us):=hr2.rd
 obtain ⟨aM,cM,hv2,-,-⟩:=L2.out.shape
 subst hv2
 have L1b:Hid (RdE u2 _ us):=Rd.below L1.out hb2
 clear hr2 hb2 x0 x1 PS L1
 go_wp2_with fail
 refine (zhe _ _ us u2 L1b.out L2.out (by omega)).mono ?_
 rintro e u4 ⟨rfl,hb4⟩
 have J7:=zaa (zab J5.out hb4 J5.out.size)
 have L1d:Hid (RdE u4 _ us):=Rd.below L1b.out hb4
 clear hb4 L1b L2 J4 J5 J3
 obtain ⟨y0,y1,y2,y3,-⟩:=zaq (MD5.out _ J7.out)
 go_wp2_with fail
 refine (KA.out _ _ (zab J5a.out J7.out J5a.out.size) L1d.out).mono ?_
 rintro e u5 ⟨v5,rfl,hr5,hb5⟩
 have J8:=zaa (zab J7.out hb5 J7.out.size)
 have P5:=zaa hr5
 obtain ⟨vW5,vP5,rfl,p51,p52⟩:=hr5
 obtain ⟨-,g1,g2,hv51,-⟩:=p51
 obtain ⟨-,g3,g4,hv52,-⟩:=p52
 subst hv51
 subst hv52
 obtain ⟨W5,hW5⟩:∃ W5,W5 = u5.alloc (.cells #[.slice g1 ws'.length g2,.slice g3 ([]:List St).length g4] 26):=⟨_,rfl⟩
 have A5:Hid (Below u5.heap.size u5 W5):=by rw [hW5]; exact (Below.refl _ _).alloc (Nat.le_refl _) _
 have S5:Hid (W5.heap[u5.heap.size]? = some (.cells #[.slice g1 ws'.length g2,.slice g3 ([]:List St).length g4] 26 (0,0))):=by rw [hW5]; exact zah rfl
 have J9:=zaa (zab J8.out A5.out J8.out.size)
 have P5w:=zaa (RdPm.below P5.out A5.out)
 simp only [List.length_nil] at hW5 S5 P5w
 clear hb5 y0 y1 y2 y3 J7 J8 P5 A5 KA L1d
 go_upto_region 15 with fail
 rw [← hW5]
 clear hW5
 obtain ⟨z0,z1,-,-⟩:=zac S5.out
 obtain ⟨-,-,y2,y3,-⟩:=zaq (MD5.out _ J9.out)
 go_wp2_with fail
 refine (PC.out _ _ _ (zab J5a.out J9.out J5a.out.size) P5w.out).mono ?_
 rintro e u6 ⟨v6,rfl,hr6,hb6⟩
 have J10:=zaa (zab J9.out hb6 J9.out.size)
 have RA:=zaa hr6
 have RB:=zaa (RB5.out _ J10.out)
 obtain ⟨aB,cB,eB,-,hcB⟩:=RB.out.shape
 obtain ⟨aC,cC,eC,-,hcC⟩:=RA.out.shape
 cases eB
 subst eC
 have BF:=zaa (zab B2.out (zab J5a.out J10.out J5a.out.size) B2.out.size)
 clear hr6 hb6 z0 z1 y2 y3 PC J9 J10 S5 P5w RA RB RB5 MD5 MB5 J5a MD MB
 have HB2:=zaa hcB
 have HC2:=zaa hcC
 clear hcB hcC
 have lcap:(L'.length:Int) ≤ 8:=by omega
 go_wp2
 go_loop [20,21] (fun i _ => ∃ k:Nat,k ≤ L'.length ∧ i = .int .i64 k) (fun i _ => L'.length - (intOf i).toNat)
 case atStart => exact ⟨0,by omega,rfl⟩
 case round =>
  obtain ⟨k,hk,rfl⟩:=hrel
  by_cases hlt:k < L'.length
  ·obtain ⟨b2,o2,rfl,hbl2,hcell2⟩:=HC2.out (by omega)
   have hc:=hcell2 k hlt
   rw [HVV.out k hlt] at hc
   have hlt':(k:Int) < (L'.length:Int):=by omega
   clear hcell2
   by_cases kl:k < L.length
   ·obtain ⟨b1,o1,rfl,hbl1,hcell1⟩:=HB2.out (by omega)
    have hd:=hcell1 k kl
    rw [dif_pos kl] at hc
    have kl':(k:Int) < (L.length:Int):=by omega
    clear hcell1
    generalize L[k] = x at *
    go_wp2
    go_round
    case rel => exact ⟨k + 1,by omega,by go_num⟩
    case measure => simp [intOf]; omega
   ·rw [dif_neg kl] at hc
    have kl':¬ (k:Int) < (L.length:Int):=by omega
    go_wp2
    go_round
    case rel => exact ⟨k + 1,by omega,by go_num⟩
    case measure => simp [intOf]; omega
  ·have hlt':¬ (k:Int) < (L'.length:Int):=by omega
   go_wp2
   go_ret
   exact ⟨rfl,BF.out⟩
end Go.Proofs.YtkdjfhkalelafaaGreatDoor
