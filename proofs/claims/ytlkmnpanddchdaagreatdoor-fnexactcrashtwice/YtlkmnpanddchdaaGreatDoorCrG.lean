/- CrashFs: by the program. -/
import Derived.Test.YtlkmnpanddchdaaGreatDoorCrE
namespace Go.Proofs.YtlkmnpanddchdaaGreatDoor
open Go.RowKit
theorem yarr {w w1:World} {vZ:Value} {zs:List Int} (t:TypeId) (hz:RdI w vZ zs) (hn:zs.length ≤ 1048576) (hb:Below w.heap.size w w1):RdL (w1.alloc (.cells #[vZ] t)) (.slice (some ⟨w1.heap.size,0,none⟩) 1 1) [(vZ,zs)]:=by
 have hb2:Below w.heap.size w (w1.alloc (.cells #[vZ] t)):=hb.alloc hb.size _
 refine ⟨⟨rfl,_,_,rfl,⟨by simp,fun e => by cases e⟩,fun _ => ⟨_,_,rfl,by simp,fun j hj => ?_⟩⟩,fun k hk => ?_⟩
 ·have:j = 0:=by simp at hj; omega
  subst this
  exact (zcc (zag rfl)).1
 ·have:k = 0:=by simpa using hk
  subst this
  exact ⟨Rd.below hz hb2,hn⟩
theorem yahu (ws:List Int) (ps:List St) (es:List Int) (qs:List Se) (hs:List Int) (td:List Mi) (cd vl:Int) (nm:List ByteArray) (fr:Bool) (vZ:Value) (zs:List Int) :
  (¬ cfC ws ps es qs hs td cd vl nm fr [(vZ,zs)] = 0 ∧ crfR ws ps es qs hs td cd vl nm fr zs = (d0,cfC ws ps es qs hs td cd vl nm fr [(vZ,zs)])) ∨ (cfC ws ps es qs hs td cd vl nm fr [(vZ,zs)] = 0 ∧ crfR ws ps es qs hs td cd vl nm fr zs = (⟨cwW ws ps zs,[],cwE es qs zs,[]⟩,0) ∧ zs.length ≤ 4096 ∧ fsB ws ps es qs hs td cd vl nm fr = true ∧ zaw zs = true):=by
 unfold cfC crfR
 rw [yadp,yadp]
 by_cases c1:4096 < zs.length
 ·have e:zie zs = false:=decide_eq_false (by omega)
  rw [if_pos c1,e,if_neg (by exact Bool.false_ne_true)]
  exact .inl ⟨by decide,rfl⟩
 ·have e:zie zs = true:=decide_eq_true (by omega)
  rw [if_neg c1,if_pos e]
  by_cases c2:fsB ws ps es qs hs td cd vl nm fr = true
  ·rw [if_pos c2,if_pos c2]
   by_cases c3:zaw zs = true
   ·rw [if_pos c3,if_pos c3]
    exact .inr ⟨rfl,rfl,by omega,c2,c3⟩
   ·rw [if_neg c3,if_neg c3]
    exact .inl ⟨by decide,rfl⟩
  ·rw [if_neg c2,if_neg c2]
   exact .inl ⟨by decide,rfl⟩
set_option maxRecDepth 100000 in
set_option maxHeartbeats 8000000 in
theorem yamd (v:Value) (ws:List Int) (ps:List St) (es:List Int) (qs:List Se) (hs:List Int) (td:List Mi) (cd vl:Int) (nm:List ByteArray) (fr:Bool) (vZ:Value) (zs:List Int) (w:World) (h:RdF w v ws ps es qs hs td cd vl nm fr) (hz:RdI w vZ zs) (hws:ws.length ≤ 1048576) (hps:ps.length ≤ 1048576) (hes:es.length ≤ 1048576) (hqs:qs.length ≤ 1048576) (hhs:hs.length ≤ 1048576) (htd:td.length ≤ 1048576) (hnm:nm.length ≤ 1048576) (hzl:zs.length ≤ 1048576) (hS:SB w) (hT:TS w) (hE:ED w) (hF:FD w) (hN:NW w) :
  Calls Tryz.prog 10 #[v,vZ] w fun e w' => yauz w w' e (crfR ws ps es qs hs td cd vl nm fr zs):=by
 have LF:=zaa (fun w1 (hb:Below w.heap.size w w1) => zjd v ws ps es qs hs td cd vl nm fr (.slice (some ⟨w1.heap.size,0,none⟩) 1 1) [(vZ,zs)] (w1.alloc (.cells #[vZ] 22)) (h.below (hb.alloc hb.size _)) (yarr 22 hz hzl hb) hws hps hes hqs hhs htd hnm (by simp) (hS.below (hb.alloc hb.size _)) (hT.below (hb.alloc hb.size _)) (hE.below (hb.alloc hb.size _)) (hF.below (hb.alloc hb.size _)))
 have CC:=yahu ws ps es qs hs td cd vl nm fr vZ zs
 have HZ:=zaa hz
 obtain ⟨aZ,cZ,rfl,-⟩:=hz.shape
 obtain ⟨aW,cW,aP,cP,aS,cS,aQ,cQ,aH,cH,aT,cT,aN,cN,rfl,d1,-⟩:=id h
 have HD:=zaa d1
 have HN:=zaa hN
 clear h d1 hz hS hT hE hF hN
 obtain ⟨V,hV⟩:∃ V,V = ((w.alloc (.cells #[.slice aW ws.length cW,.slice aP ps.length cP,.slice aS es.length cS,.slice aQ qs.length cQ,.slice aH hs.length cH,.slice aT td.length cT,.int .i64 cd,.int .i64 vl,.slice aN nm.length cN,.bool fr] 51)).alloc (.cells #[.slice none 0 0,.slice none 0 0,.slice none 0 0,.slice none 0 0] 45)):=⟨_,rfl⟩
 have zV:w.heap.size + 2 ≤ V.heap.size:=by rw [hV]; simp <;> omega
 have B_V:Hid (Below w.heap.size w V):=by rw [hV]; exact (((Below.refl _ _).alloc (by simp <;> omega) _).alloc (by simp <;> omega) _)
 have X0_V:Hid (V.heap[w.heap.size]? = some (.cells #[.slice aW ws.length cW,.slice aP ps.length cP,.slice aS es.length cS,.slice aQ qs.length cQ,.slice aH hs.length cH,.slice aT td.length cT,.int .i64 cd,.int .i64 vl,.slice aN nm.length cN,.bool fr] 51 (0,0))):=by rw [hV]; exact (zal (zag rfl))
 have X1_V:Hid (V.heap[w.heap.size + 1]? = some (.cells #[.slice none 0 0,.slice none 0 0,.slice none 0 0,.slice none 0 0] 45 (0,0))):=by rw [hV]; exact (zag (by simp))
 rcases CC with ⟨cne,eR⟩ | ⟨c0,eR,hl,c2,c3⟩
 ·have ER:=zaa eR
  clear eR HZ HD HN
  generalize cfC ws ps es qs hs td cd vl nm fr [(.slice aZ zs.length cZ,zs)] = c at *
  go_enter Tryz.func10,Tryz.ntmps10
  go_upto_region 1 with fail
  rw [← hV]
  clear hV
  obtain ⟨c0_0,c0_1,c0_2,c0_3,c0_4,c0_5,c0_6,c0_7,c0_8,c0_9,-⟩:=zam X0_V.out
  go_wp2_with fail
  refine (LF.out V B_V.out).mono ?_
  rintro e w1 ⟨rfl,hb⟩
  clear c0_0 c0_1 c0_2 c0_3 c0_4 c0_5 c0_6 c0_7 c0_8 c0_9
  have hb:Below V.heap.size V w1:=zab ((Below.refl _ _).alloc (Nat.le_refl _) _) hb (by simp)
  have zw1:V.heap.size ≤ w1.heap.size:=hb.size
  have B_w1:=zaa (zab B_V.out hb B_V.out.size)
  have X0_w1:=zaa (zac X0_V.out hb (zah X0_V.out))
  have X1_w1:=zaa (zac X1_V.out hb (zah X1_V.out))
  clear B_V hb X0_V X1_V LF
  obtain ⟨e0,e1,e2,e3,f0,f1,f2,f3⟩:=zaf X1_w1.out
  obtain ⟨w2,hw2⟩:∃ w2,w2 = zlf w1 (w.heap.size + 1) (.slice none 0 0) (.slice none 0 0) (.slice none 0 0) (.slice none 0 0):=⟨_,rfl⟩
  have Ow2:Outside (w.heap.size + 1) (w.heap.size + 1 + 1) w1 w2:=by rw [hw2]; exact zbd _ _ _ _ _ _
  have zw2:w1.heap.size ≤ w2.heap.size ∧ w2.heap.size ≤ w1.heap.size:=by rw [hw2,zba]; exact ⟨Nat.le_refl _,Nat.le_refl _⟩
  have B_w2:=zaa (B_w1.out.trans (Ow2.below (B:=w.heap.size) (by omega) B_w1.out.size))
  unfold zlf at hw2
  clear Ow2
  go_wp2
  refine bodyPost_ret (v:=.tuple #[.agg #[.slice none 0 0,.slice none 0 0,.slice none 0 0,.slice none 0 0],.int .i64 c]) (by simp [results,Tryz.results10,go_sem,e0,e1,e2,e3]) rfl ?_
  rw [← hw2]
  rw [ER.out]
  exact ⟨_,rfl,RowDev.zero _ _ _ (by omega),B_w2.out⟩
 ·rw [c0] at LF
  have Y:=yaes c2
  have ER:=zaa eR
  have CR:=zaa (fun w1 (hb:Below w.heap.size w w1) bK hK => zmg _ _ bK 22 ws ps es qs zs w1 (HD.out.below hb) (Rd.below HZ.out hb) hK (HN.out.below hb) hws hps hes hqs hl Y.pm Y.bl c3)
  clear eR HZ HD HN Y c2 c3 c0
  generalize cwW ws ps zs = W1 at *
  generalize cwE es qs zs = E1 at *
  go_enter Tryz.func10,Tryz.ntmps10
  go_upto_region 1 with fail
  rw [← hV]
  clear hV
  obtain ⟨c0_0,c0_1,c0_2,c0_3,c0_4,c0_5,c0_6,c0_7,c0_8,c0_9,-⟩:=zam X0_V.out
  go_wp2_with fail
  refine (LF.out V B_V.out).mono ?_
  rintro e w1 ⟨rfl,hb⟩
  clear c0_0 c0_1 c0_2 c0_3 c0_4 c0_5 c0_6 c0_7 c0_8 c0_9
  have hb:Below V.heap.size V w1:=zab ((Below.refl _ _).alloc (Nat.le_refl _) _) hb (by simp)
  have zw1:V.heap.size ≤ w1.heap.size:=hb.size
  have B_w1:=zaa (zab B_V.out hb B_V.out.size)
  have X0_w1:=zaa (zac X0_V.out hb (zah X0_V.out))
  have X1_w1:=zaa (zac X1_V.out hb (zah X1_V.out))
  clear B_V hb X0_V X1_V LF
  go_wp2_with fail
  refine (zgs aZ zs.length cZ w1).mono ?_
  rintro e w2 ⟨rfl,hw2⟩
  have hb:Below w1.heap.size w1 w2:=by rw [hw2]; exact (Below.refl _ _).alloc (Nat.le_refl _) _
  obtain ⟨bK,hbK⟩:∃ bK:Nat,bK = w1.heap.size:=⟨_,rfl⟩
  have K2:Hid (w2.heap[bK]? = some (.cells #[.slice aZ zs.length cZ] 22 (0,0))):=by rw [hw2,hbK]; exact zag rfl
  rw [← hbK]
  clear hbK hw2
  have zw2:w1.heap.size ≤ w2.heap.size:=hb.size
  have B_w2:=zaa (zab B_w1.out hb B_w1.out.size)
  have X0_w2:=zaa (zac X0_w1.out hb (zah X0_w1.out))
  have X1_w2:=zaa (zac X1_w1.out hb (zah X1_w1.out))
  clear B_w1 hb X0_w1 X1_w1
  obtain ⟨c0_0,c0_1,c0_2,c0_3,c0_4,c0_5,c0_6,c0_7,c0_8,c0_9,-⟩:=zam X0_w2.out
  go_wp2_with fail
  refine (CR.out w2 B_w2.out bK K2.out).mono ?_
  rintro e w3 ⟨v3,rfl,hr,hb⟩
  clear c0_0 c0_1 c0_2 c0_3 c0_4 c0_5 c0_6 c0_7 c0_8 c0_9
  obtain ⟨iW,jW,iP,jP,iS,jS,iQ,jQ,ei,-,-⟩:=hr.rd.form
  cases ei
  have QD:=zaa hr
  have zw3:w2.heap.size ≤ w3.heap.size:=hb.size
  have B_w3:=zaa (zab B_w2.out hb B_w2.out.size)
  have X1_w3:=zaa (zac X1_w2.out hb (zah X1_w2.out))
  clear hr hb CR B_w2 X0_w2 X1_w2 K2
  obtain ⟨e0,e1,e2,e3,f0,f1,f2,f3⟩:=zaf X1_w3.out
  have O:=zbd w3 (w.heap.size + 1) (.slice iW W1.length jW) (.slice iP ([]:List St).length jP) (.slice iS E1.length jS) (.slice iQ ([]:List Se).length jQ)
  have Z:=zba w3 (w.heap.size + 1) (.slice iW W1.length jW) (.slice iP ([]:List St).length jP) (.slice iS E1.length jS) (.slice iQ ([]:List Se).length jQ)
  have B_w4:=zaa (B_w3.out.trans (O.below (B:=w.heap.size) (by omega) B_w3.out.size))
  have QD4:=zaa (QD.out.outside O (by omega) (Nat.le_refl _))
  have Z1:=zaa (Nat.le_of_eq Z.symm)
  unfold zlf at B_w4 QD4 Z1
  clear O Z QD
  go_wp2
  refine bodyPost_ret (v:=.tuple #[.agg #[.slice iW W1.length jW,.slice iP ([]:List St).length jP,.slice iS E1.length jS,.slice iQ ([]:List Se).length jQ],.int .i64 0]) (by simp [results,Tryz.results10,go_sem,e0,e1,e2,e3]) rfl ?_
  rw [ER.out]
  exact ⟨_,rfl,QD4.out.wide (by omega) Z1.out,B_w4.out⟩
end Go.Proofs.YtlkmnpanddchdaaGreatDoor
