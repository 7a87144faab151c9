/- All pages of a file: by the program. -/
import Derived.Test.YtkdjfhkalelafaaGreatDoorDuC
import Derived.Test.YtkdjfhkalelafaaGreatDoorZAW
import Derived.Test.YtkdjfhkalelafaaGreatDoorZAD
namespace Go.Proofs.YtkdjfhkalelafaaGreatDoor
open Go.RowKit
theorem ps_form {ws:List Int} {ps:List St} {es:List Int} {qs:List Se} {s:ByteArray}:psR ws ps es qs s = if (flR (dvN ws ps es qs) (dvD ws ps es qs) s).2 = 0 then (pgL ws ps es qs (zan (dvN ws ps es qs) (flR (dvN ws ps es qs) (dvD ws ps es qs) s).1.toNat) (zan (dvN ws ps es qs) (flR (dvN ws ps es qs) (dvD ws ps es qs) s).1.toNat).size.toNat,0) else ([],(flR (dvN ws ps es qs) (dvD ws ps es qs) s).2):=by
 unfold psR flR
 rw [dv_img]
 by_cases c:65536 < s.size
 ·rw [if_pos c,if_pos c]
  rfl
 ·rw [if_neg c,if_neg c]
  by_cases d:dvB ws ps es qs = true
  ·rw [if_pos d,if_pos d,← (yaxs d).2.2.1,← (yaxs d).2.2.2.1]
   rfl
  ·rw [if_neg d,if_neg d]
   rfl
set_option maxRecDepth 100000 in
set_option maxHeartbeats 8000000 in
theorem implPagesOf_any (v:Value) (ws:List Int) (ps:List St) (es:List Int) (qs:List Se) (s:ByteArray) (w:World) (h:RdDev w v ws ps es qs) (hw:ws.length ≤ 1048576) (hp:ps.length ≤ 1048576) (he:es.length ≤ 1048576) (hq:qs.length ≤ 1048576) (hT:TS w) (hE:ED w) (hF:FD w) (hN:NW w) :
  Calls Tryz.prog 15 #[v,.string s] w fun e w' => ∃ v',e = .returned (.tuple #[v',.int .i64 (psR ws ps es qs s).2]) ∧ Row w' 3 1 w.heap.size w'.heap.size v' (psR ws ps es qs s).1.length (zdh (psR ws ps es qs s).1) ∧ Below w.heap.size w w':=by
 have LI:=zaa (fun w1 (hb:Below w.heap.size w w1) => seenImage_any v ws ps es qs w1 (h.below hb) hw hp he hq (hT.below hb) (hE.below hb) (hF.below hb))
 have LF:=zaa (fun v2 w1 (hb:Below w.heap.size w w1) h2 => findFile_any v2 (dvN ws ps es qs) (dvD ws ps es qs) s w1 h2 (dv_len ws ps es qs).1 (dv_len ws ps es qs).2 (hT.below hb) (hE.below hb) (hF.below hb) dv_R dv_name)
 have LV:=zaa (fun hP hB w1 (hb:Below w.heap.size w w1) z (hz:zet z = true) => wordOfE_any v ws ps es qs z w1 (h.below hb) hP hB hz (hT.below hb) (hN.below hb))
 have EL:=zaa (ps_form (ws:=ws) (ps:=ps) (es:=es) (qs:=qs) (s:=s))
 have FL:=zaa (fun h => dv_fl (ws:=ws) (ps:=ps) (es:=es) (qs:=qs) (s:=s) h)
 have OK:Hid (zcb (dvN ws ps es qs) (dvD ws ps es qs) = true → ∀ i:Nat,i < 16 → ∀ x,x = zan (dvN ws ps es qs) i → (0 ≤ x.size ∧ x.size ≤ 8) ∧ ∀ j:Nat,j < 8 → zet (x.map.getD j 0) = true):=fun hi i h16 x e => by
  have q:=(zbz.1 hi).ok i h16
  rw [← e] at q
  refine ⟨(zcp q).2.1,fun j hj => (zfn q).1 _ ?_⟩
  rw [List.getD_eq_getElem?_getD,List.getElem?_eq_getElem (show j < x.map.length from hj)]
  exact List.getElem_mem _
 obtain ⟨dW,eW,dP,eP,dS,eS,dQ,eQ,rfl,-,-⟩:=h.form
 clear h hT hE hF hN
 obtain ⟨W,hW⟩:∃ W,W = w.alloc (.cells #[.slice dW ws.length eW,.slice dP ps.length eP,.slice dS es.length eS,.slice dQ qs.length eQ] 31):=⟨_,rfl⟩
 have CD:Hid (∀ w',Below W.heap.size W w' → w'.cell? ⟨w.heap.size,0,none⟩ = some (.slice dW ws.length eW) ∧ w'.cell? ⟨w.heap.size,1,none⟩ = some (.slice dP ps.length eP) ∧ w'.cell? ⟨w.heap.size,2,none⟩ = some (.slice dS es.length eS) ∧ w'.cell? ⟨w.heap.size,3,none⟩ = some (.slice dQ qs.length eQ)):=fun w' hb => by
  have:w'.heap[w.heap.size]? = some (.cells #[.slice dW ws.length eW,.slice dP ps.length eP,.slice dS es.length eS,.slice dQ qs.length eQ] 31 (0,0)):=(hb.block _ (by rw [hW]; simp)).trans (by rw [hW]; exact zah rfl)
  obtain ⟨x0,x1,x2,x3,-,-,-,-⟩:=zaq this
  exact ⟨x0,x1,x2,x3⟩
 have BW:Hid (Below w.heap.size w W):=by rw [hW]; exact (Below.refl _ _).alloc (Nat.le_refl _) _
 obtain ⟨x0,x1,x2,x3⟩:=CD.out _ (Below.refl _ _)
 generalize dvN ws ps es qs = dn at *
 generalize dvD ws ps es qs = dd at *
 generalize psR ws ps es qs s = res at *
 generalize hfl:flR dn dd s = lr at *
 obtain ⟨li,lc⟩:=lr
 obtain ⟨x,hx⟩:∃ x,x = faI dn (li,lc):=⟨_,rfl⟩
 have LF2:=zaa (fun v2 w1 hb h2 => LF.out v2 w1 hb h2 x hx)
 have HX:=zaa hx
 simp only at EL FL LF2
 clear LF hfl hx
 go_enter Tryz.func15,Tryz.ntmps15
 go_wp2_with fail
 rw [← hW]
 clear hW
 refine (LI.out _ BW.out).mono ?_
 rintro e w1 ⟨v1,rfl,hR,hb1⟩
 have A1:=zaa hb1
 have B1:=zaa (zab BW.out hb1 BW.out.size)
 have R1:=zaa hR.rd
 clear hR hb1 x0 x1 x2 x3 LI
 go_wp2_with fail
 refine (LF2.out _ _ B1.out R1.out).mono ?_
 rintro e w2 ⟨rfl,hb2⟩
 have A2:=zaa (zts A1.out hb2)
 have B2:=zaa (zab B1.out hb2 B1.out.size)
 clear hb2 A1 B1 R1 LF2
 have BX:=zaa (B2.out.alloc B2.out.size (.cells #[.int .i64 x.kind,.int .i64 x.size,.int .i64 x.links,.int .i64 x.m0,.int .i64 x.m1,.int .i64 x.m2,.int .i64 x.m3,.int .i64 x.m4,.int .i64 x.m5,.int .i64 x.m6,.int .i64 x.m7,.int .i64 li] 92))
 by_cases c:lc = 0
 case neg =>
  rw [if_neg c] at EL
  obtain rfl:=EL.out
  have q:(lc != 0) = true:=by rw [bne_iff_ne]; exact c
  clear EL c FL OK LV HX
  go_wp2
  go_ret2
  exact ⟨_,rfl,Row.nil _ _ _ _ _,BX.out⟩
 subst c
 rw [if_pos rfl] at EL
 obtain ⟨hP,hB,hi,i,i16,ei⟩:=FL.out rfl
 have LV2:=zaa (LV.out hP hB)
 subst ei
 have hx:x = zan dn i:=HX.out.trans ((if_pos rfl).trans (by simp only [Int.toNat_natCast]))
 obtain ⟨⟨z0,z8⟩,ti⟩:=OK.out hi i i16 x hx
 have TI:=zaa ti
 simp only [Int.toNat_natCast] at EL
 rw [← hx] at EL
 clear FL OK LV HX hP hB hi ti hx
 have VX:Hid ((w2.alloc (.cells #[.int .i64 x.kind,.int .i64 x.size,.int .i64 x.links,.int .i64 x.m0,.int .i64 x.m1,.int .i64 x.m2,.int .i64 x.m3,.int .i64 x.m4,.int .i64 x.m5,.int .i64 x.m6,.int .i64 x.m7,.int .i64 (i:Int)] 92)).heap[w2.heap.size]? = some (.cells (x.fa (i:Int)).toArray 92 (0,0))):=zah rfl
 have AX:=zaa (A2.out.alloc A2.out.size (.cells #[.int .i64 x.kind,.int .i64 x.size,.int .i64 x.links,.int .i64 x.m0,.int .i64 x.m1,.int .i64 x.m2,.int .i64 x.m3,.int .i64 x.m4,.int .i64 x.m5,.int .i64 x.m6,.int .i64 x.m7,.int .i64 (i:Int)] 92))
 obtain ⟨w3,hw3⟩:∃ w3,w3 = w2.alloc (.cells #[.int .i64 x.kind,.int .i64 x.size,.int .i64 x.links,.int .i64 x.m0,.int .i64 x.m1,.int .i64 x.m2,.int .i64 x.m3,.int .i64 x.m4,.int .i64 x.m5,.int .i64 x.m6,.int .i64 x.m7,.int .i64 (i:Int)] 92):=⟨_,rfl⟩
 rw [← hw3] at VX AX BX
 have hz3:w2.heap.size < w3.heap.size:=(Array.getElem?_eq_some_iff.1 VX.out).1
 have KS:Hid (∀ w',Below w3.heap.size w3 w' → w'.cell? ⟨w2.heap.size,1,none⟩ = some (.int .i64 x.size)):=fun w' hb => (hb.cell (p:=⟨w2.heap.size,1,none⟩) hz3).trans (zao VX.out 1).1
 have KM:Hid (∀ w',Below w3.heap.size w3 w' → ∀ m,m < 8 → w'.cell? ⟨w2.heap.size,3 + m,none⟩ = some (.int .i64 (x.map.getD m 0))):=fun w' hb m hm => ((hb.cell (p:=⟨w2.heap.size,3 + m,none⟩) hz3).trans (zao VX.out (3 + m)).1).trans (x.faM _ m hm)
 have y1:=KS.out _ (Below.refl _ _)
 clear VX A2 B2
 obtain ⟨N,hN⟩:∃ N:Nat,x.size = (N:Int):=⟨x.size.toNat,by omega⟩
 have N8:N ≤ 8:=by omega
 have EN:=zaa (show x.size.toNat = N by omega)
 rw [EN.out] at EL
 have KE:Hid (∀ w',Below w3.heap.size w3 w' → w'.cell? ⟨w.heap.size,0,none⟩ = some (.slice dW ws.length eW) ∧ w'.cell? ⟨w.heap.size,1,none⟩ = some (.slice dP ps.length eP) ∧ w'.cell? ⟨w.heap.size,2,none⟩ = some (.slice dS es.length eS) ∧ w'.cell? ⟨w.heap.size,3,none⟩ = some (.slice dQ qs.length eQ)):=fun w' hb => CD.out w' (zts AX.out hb)
 rw [hN] at KS y1
 have START:Hid (InI w3 w3 (.slice none 0 0) (pgL ws ps es qs x 0)):=⟨World.ownsRow_nil _ _ _ _,Below.refl _ _⟩
 have nn:(0:Int) ≤ (N:Int):=by omega
 have n8:(N:Int) ≤ 8:=by omega
 have hsl:∀ w1,(Instr.sliceAt 64 (.pointer (some ⟨w2.heap.size,3,none⟩)) none (some (.int .i64 x.size)) none).run Tryz.prog w1 = .ok (.slice (some ⟨w2.heap.size,3,none⟩) N 8) w1:=fun w1 => by rw [hN]; exact yasw w1 _ N N8
 clear hN EN z0 z8 CD AX
 go_wp2
 rw [← hw3]
 clear hw3 y1
 go_loopw [8,28] (fun vL k wr => ∃ m:Nat,m ≤ N ∧ k = .int .i64 (m:Int) ∧ Hid (InI w3 wr vL (pgL ws ps es qs x m))) (fun _ k _ => N - (intOf k).toNat)
 case atStart => exact ⟨0,by omega,rfl,START⟩
 case round =>
  obtain ⟨m,hm,rfl,J⟩:=hrel
  clear START
  have m0:(0:Int) ≤ (m:Int):=by omega
  have JW:=zaa (zab BX.out J.out.b BX.out.size)
  by_cases hlt:m < N
  ·have m1:(m:Int) < (N:Int):=by omega
   have m8:m < 8:=by omega
   have LV3:=zaa (fun w1 hb => LV2.out w1 hb _ (TI.out m m8))
   have EM:=zaa (yawi ws ps es qs x m)
   have l2:(pgL ws ps es qs x m).length ≤ 8:=by rw [yaxc]; omega
   have y2:=KM.out wr J.out.b m m8
   obtain ⟨r0,r1,r2,r3⟩:=KE.out wr J.out.b
   generalize pgV ws ps es qs (x.map.getD m 0) = y at *
   generalize x.map.getD m 0 = z at *
   go_wp2_with fail
   refine (LV3.out _ JW.out).mono ?_
   rintro e w5 ⟨rfl,hb5⟩
   have JB:Hid (InI w3 (w5.alloc (.cells #[.int .i64 y] 3)) u8 (pgL ws ps es qs x m)):=(J.out.below hb5).below ((Below.refl _ _).alloc (Nat.le_refl _) _)
   have RB:=zaa (yafd w5 y)
   have hzb:=JB.out.z
   clear hb5 r0 r1 r2 r3 y2
   go_wp2_with (at_builtin; refine zae _ rfl (.tmp 32) (.tmp 36) 23 rfl w3.heap.size 3 (.int .i64 0) 1 8 Tryz.underlying23 zld rfl (by decide) _ _ _ rfl JB.out.l _ 1 _ rfl RB.out (zzf _) (by first | omega | (simp [maxLen]; omega)) (by first | omega | (simp; omega)) hzb ?_)
   intro vN wN hownN hgrN
   have G:=zaa (JB.out.grow y hownN hgrN)
   rw [← EM.out] at G
   clear hownN hgrN JB RB J
   go_wp2
   go_roundw
   case rel => exact ⟨m + 1,by omega,by go_num,G⟩
   case measure => simp [intOf]; omega
  ·obtain rfl:m = N:=by omega
   obtain ⟨-,aN,cN,hvN,-⟩:=(zad J.out.l).rd
   subst hvN
   obtain rfl:=EL.out
   go_wp2
   go_ret2
   exact ⟨_,rfl,(zad J.out.l).wide BX.out.size (Nat.le_refl _),JW.out⟩
end Go.Proofs.YtkdjfhkalelafaaGreatDoor
