/- Several texts laid together: PlC, PlN, PlR. -/
import Derived.Test.YtkdjfhkalelafaaGreatDoorZBM
import Derived.Test.YtkdjfhkalelafaaGreatDoorZBO
import Derived.Test.YtkdjfhkalelafaaGreatDoorZAT
import Derived.Deep.RegionHeld3
import Derived.Test.YtkdjfhkalelafaaGreatDoorZAU
namespace Go.Proofs.YtkdjfhkalelafaaGreatDoor
open Go.RowKit Go.Maps
theorem yapz {ws:List Ino} {ps:List Den} {s:ByteArray} (h:(paR ws ps s).2.2 = 0):zcb ws ps = true ∧ paR ws ps s = paI ws ps s:=by
 unfold paR at h ⊢
 split at h
 ·cases h
 ·rename_i c
  rw [if_neg c]
  split at h
  ·rename_i c1
   exact ⟨c1,if_pos c1⟩
  ·cases h
def yacp:Den:=⟨0,⟨#[]⟩,0⟩
def erN (ps:List Den) (d:Int) (nm:ByteArray):Int × Int:=match zax ps d nm with | none => (0,5) | some k => ((k:Int),0)
def erR (ws:List Ino) (ps:List Den) (s:ByteArray):Int × Int:=if (paR ws ps s).2.2 = 0 then erN ps (paR ws ps s).1 (paR ws ps s).2.1 else (0,(paR ws ps s).2.2)
def nnN (ps:List Den) (d:Int) (nm:ByteArray):Den × Int:=match zax ps d nm with | none => (⟨d,nm,0⟩,0) | some _ => (yacp,8)
def nnR (ws:List Ino) (ps:List Den) (s:ByteArray):Den × Int:=if (paR ws ps s).2.2 = 0 then nnN ps (paR ws ps s).1 (paR ws ps s).2.1 else (yacp,(paR ws ps s).2.2)
theorem yahc {ws:List Ino} {ps:List Den} (h:zcb ws ps = true) (d:Int) (nm:ByteArray) :
  (zax ps d nm = none ∧ Maps.has (mpD ps d ps.length) (zpw nm) = false) ∨ (∃ k:Nat,zax ps d nm = some k ∧ Maps.has (mpD ps d ps.length) (zpw nm) = true ∧ (mpD ps d ps.length).atKey (zpw nm) (.lit (.int .i64 0)) = .lit (.int .i64 (k:Int))):=by
 obtain ⟨A,B⟩:=yarj h d nm (.lit (.int .i64 0))
 cases e:zax ps d nm with
 | none => exact .inl ⟨rfl,A e⟩
 | some k => exact .inr ⟨k,rfl,B k e⟩
theorem znn {w w':World} {b:Nat} (h:w.grownBy w' (some b)) {a:Addr} (ha:w.heap.size ≤ a.block) (u:Value):w.grownBy (w'.setCell a u) (some b) :=
 ⟨h.os,h.tape,h.output,by simpa [World.setCell] using h.size,fun k hk hn => (Below.heap_setCell _ _ _ _ (by omega)).trans (h.block k hk hn)⟩
theorem Mp.set {w:World} {b:Nat} {D:DataW Unit} (h:Mp w b D) {a:Addr} (ha:b ≠ a.block) (u:Value):Mp (w.setCell a u) b D:=World.ownsMap.setCell h ha u
set_option maxRecDepth 100000 in
set_option maxHeartbeats 4000000 in
theorem zxh (v:Value) (ws:List Ino) (ps:List Den) (s:ByteArray) (b:Nat) (D:DataW Unit) (w:World) (h:RdIm w v ws ps) (hw:ws.length ≤ 1048576) (hp:ps.length ≤ 1048576) (hT:TS w) (hE:ED w) (hF:FD w) (hr:∀ k (h:k < ws.length),ws[k].R) (hs:∀ k (h:k < ps.length),ps[k].name.size ≤ maxLen) (hm:Mp w b D) :
  Calls Tryz.prog 26 #[.map (some b),v,.string s] w fun e w' => e = .returned (.tuple #[.int .i64 (erR ws ps s).1,.int .i64 (erR ws ps s).2]) ∧ (∃ D',Mp w' b D') ∧ w.grownBy w' (some b):=by
 have LP:=zaa (fun w1 (hb:Below w.heap.size w w1) => zit v ws ps s w1 (h.below hb) hw hp (hT.below hb) (hE.below hb) (hF.below hb) hr hs)
 have LT:=zaa (fun d w1 (hb:Below w.heap.size w w1) (hi:zcb ws ps = true) => zqd v ws ps d b D w1 (h.below hb) hi (hm.below hb) (hF.below hb))
 have EL:=zaa (show erR ws ps s = if (paR ws ps s).2.2 = 0 then erN ps (paR ws ps s).1 (paR ws ps s).2.1 else (0,(paR ws ps s).2.2) from rfl)
 have OKP:=zaa (fun q => yapz (ws:=ws) (ps:=ps) (s:=s) q)
 have NMP:=zaa (fun (hi:zcb ws ps = true) (c:(paI ws ps s).2.2 = 0) => (zhf hi c).2.2)
 have M:=zaa hm
 obtain ⟨vW,vP,rfl,h1,h2⟩:=h
 obtain ⟨aW,cW,rfl,_,_⟩:=h1.shape
 obtain ⟨aP,cP,rfl,_,_⟩:=h2.shape
 clear h1 h2 hr hs hT hE hF hm
 have CA:Hid (∀ w',Below (w.alloc (.cells #[.slice aW ws.length cW,.slice aP ps.length cP] 42)).heap.size (w.alloc (.cells #[.slice aW ws.length cW,.slice aP ps.length cP] 42)) w' → w'.cell? ⟨w.heap.size,0,none⟩ = some (.slice aW ws.length cW) ∧ w'.cell? ⟨w.heap.size,1,none⟩ = some (.slice aP ps.length cP)):=fun w' hb => by
  have:w'.heap[w.heap.size]? = some (.cells #[.slice aW ws.length cW,.slice aP ps.length cP] 42 (0,0)):=(hb.block _ (by simp)).trans (zah rfl)
  exact ⟨(zac this).1,(zac this).2.1⟩
 have BW:Hid (Below w.heap.size w (w.alloc (.cells #[.slice aW ws.length cW,.slice aP ps.length cP] 42))):=(Below.refl _ _).alloc (Nat.le_refl _) _
 obtain ⟨x0,x1⟩:=CA.out _ (Below.refl _ _)
 generalize hpr:paR ws ps s = pr at *
 have HPR:=zaa hpr
 clear hpr
 generalize erR ws ps s = res at *
 obtain ⟨pd,pn,pc⟩:=pr
 simp only at EL OKP LP
 go_enter Tryz.func26,Tryz.ntmps26
 go_wp2_with fail
 refine (LP.out _ BW.out).mono ?_
 rintro e w1 ⟨rfl,hb1⟩
 have B1:=zaa (zab BW.out hb1 BW.out.size)
 clear x0 x1
 obtain ⟨x0,x1⟩:=CA.out _ hb1
 clear hb1 LP CA
 by_cases c:pc = 0
 case neg =>
  rw [if_neg c] at EL
  obtain rfl:=EL.out
  have q:(pc != 0) = true:=by rw [bne_iff_ne]; exact c
  clear EL c OKP NMP LT x0 x1
  go_wp2
  go_ret2
  exact ⟨rfl,⟨D,M.out.below B1.out⟩,grownB B1.out _⟩
 rw [if_pos c] at EL
 subst c
 obtain ⟨hi,hpp⟩:=OKP.out rfl
 have NM:Hid (nmB pn = true):=by
  have:=NMP.out hi (by rw [← hpp])
  rw [← hpp] at this
  exact this
 have key:Hid (keyOf Tryz.prog 9 (.string pn) = some (zpw pn)):=WideMaps.keyOf_string_mk strU (by have:=(zdc NM.out).2.1; unfold maxLen; omega)
 have LT2:=zaa (fun w1 hb => LT.out pd w1 hb hi)
 have ML:=yahc hi pd pn
 have EN:=zaa (show erN ps pd pn = match zax ps pd pn with | none => (0,5) | some k => ((k:Int),0) from rfl)
 rw [EN.out] at EL
 clear OKP NMP LT hpp HPR hi EN NM
 generalize mpD ps pd ps.length = D2 at *
 go_wp2_with fail
 refine (LT2.out _ B1.out).mono ?_
 rintro e w2 ⟨rfl,hm2,hg2⟩
 have M2:=zaa hm2
 have G2:=zaa ((grownB B1.out (some b)).trans hg2)
 clear hm2 hg2 LT2 x0 x1
 rcases ML with ⟨e1,e2⟩ | ⟨k,e1,e2,e3⟩
 ·rw [e1] at EL
  obtain rfl:=EL.out
  have E2:=zaa e2
  clear EL e1 e2
  go_wp2_with (at_lookup; refine wpList_lookup_own_ok_int _ rfl _ _ 76 rfl 9 3 .i64 strK mapU intU (intZ _) b 4096 D2 rfl M2.out _ _ rfl key.out ?_)
  intro c hat hwc
  rw [E2.out]
  clear hat hwc
  go_wp2
  go_ret2
  exact ⟨rfl,⟨D2,M2.out⟩,G2.out⟩
 ·rw [e1] at EL
  obtain rfl:=EL.out
  have E2:=zaa e2
  have E3:=zaa e3
  clear EL e1 e2 e3
  go_wp2_with (at_lookup; refine wpList_lookup_own_ok_int _ rfl _ _ 76 rfl 9 3 .i64 strK mapU intU (intZ _) b 4096 D2 rfl M2.out _ _ rfl key.out ?_)
  intro c hat hwc
  rw [E2.out]
  have ck:c = (k:Int):=by
   rw [E3.out] at hat
   injection hat with hat
   injection hat with _ hat
   exact hat.symm
  subst ck
  clear hat hwc E3
  go_wp2
  go_ret2
  exact ⟨rfl,⟨D2,M2.out⟩,G2.out⟩
set_option maxRecDepth 100000 in
set_option maxHeartbeats 4000000 in
theorem zyg (v:Value) (ws:List Ino) (ps:List Den) (s:ByteArray) (b:Nat) (D:DataW Unit) (w:World) (h:RdIm w v ws ps) (hw:ws.length ≤ 1048576) (hp:ps.length ≤ 1048576) (hT:TS w) (hE:ED w) (hF:FD w) (hr:∀ k (h:k < ws.length),ws[k].R) (hs:∀ k (h:k < ps.length),ps[k].name.size ≤ maxLen) (hm:Mp w b D) :
  Calls Tryz.prog 27 #[.map (some b),v,.string s] w fun e w' => e = .returned (.tuple #[.agg #[.int .i64 (nnR ws ps s).1.dir,.string (nnR ws ps s).1.name,.int .i64 (nnR ws ps s).1.child],.int .i64 (nnR ws ps s).2]) ∧ (∃ D',Mp w' b D') ∧ w.grownBy w' (some b):=by
 have LP:=zaa (fun w1 (hb:Below w.heap.size w w1) => zit v ws ps s w1 (h.below hb) hw hp (hT.below hb) (hE.below hb) (hF.below hb) hr hs)
 have LT:=zaa (fun d w1 (hb:Below w.heap.size w w1) (hi:zcb ws ps = true) => zqd v ws ps d b D w1 (h.below hb) hi (hm.below hb) (hF.below hb))
 have EL:=zaa (show nnR ws ps s = if (paR ws ps s).2.2 = 0 then nnN ps (paR ws ps s).1 (paR ws ps s).2.1 else (yacp,(paR ws ps s).2.2) from rfl)
 have OKP:=zaa (fun q => yapz (ws:=ws) (ps:=ps) (s:=s) q)
 have NMP:=zaa (fun (hi:zcb ws ps = true) (c:(paI ws ps s).2.2 = 0) => (zhf hi c).2.2)
 have M:=zaa hm
 have bl:=hm.lt
 obtain ⟨vW,vP,rfl,h1,h2⟩:=h
 obtain ⟨aW,cW,rfl,_,_⟩:=h1.shape
 obtain ⟨aP,cP,rfl,_,_⟩:=h2.shape
 clear h1 h2 hr hs hT hE hF hm
 obtain ⟨W,hW⟩:∃ W,W = (w.alloc (.cells #[.slice aW ws.length cW,.slice aP ps.length cP] 42)).alloc (.cells #[.int .i64 0,.string ⟨#[]⟩,.int .i64 0] 69):=⟨_,rfl⟩
 have CA:Hid (∀ w',Below W.heap.size W w' → w'.cell? ⟨w.heap.size,0,none⟩ = some (.slice aW ws.length cW) ∧ w'.cell? ⟨w.heap.size,1,none⟩ = some (.slice aP ps.length cP)):=fun w' hb => by
  have:w'.heap[w.heap.size]? = some (.cells #[.slice aW ws.length cW,.slice aP ps.length cP] 42 (0,0)):=(hb.block _ (by rw [hW]; simp; omega)).trans (by rw [hW]; exact zak (zah rfl))
  exact ⟨(zac this).1,(zac this).2.1⟩
 have CB:Hid (W.heap[w.heap.size + 1]? = some (.cells #[.int .i64 0,.string ⟨#[]⟩,.int .i64 0] 69 (0,0))):=by
  unfold Hid
  rw [hW]
  exact zah (by simp)
 have BW:Hid (Below w.heap.size w W):=by rw [hW]; exact ((Below.refl _ _).alloc (Nat.le_refl _) _).alloc (by simp) _
 have hWz:W.heap.size = w.heap.size + 2:=by rw [hW]; simp
 have hWz2:w.heap.size + 1 < W.heap.size:=by omega
 obtain ⟨x0,x1⟩:=CA.out _ (Below.refl _ _)
 generalize hpr:paR ws ps s = pr at *
 have HPR:=zaa hpr
 clear hpr hWz
 generalize nnR ws ps s = res at *
 obtain ⟨pd,pn,pc⟩:=pr
 simp only at EL OKP LP
 go_enter Tryz.func27,Tryz.ntmps27
 go_wp2_with fail
 rw [← hW]
 clear hW
 refine (LP.out _ BW.out).mono ?_
 rintro e w1 ⟨rfl,hb1⟩
 have B1:=zaa (zab BW.out hb1 BW.out.size)
 have V1:Hid (w1.heap[w.heap.size + 1]? = some (.cells #[.int .i64 0,.string ⟨#[]⟩,.int .i64 0] 69 (0,0))):=(hb1.block _ hWz2).trans CB.out
 clear x0 x1
 obtain ⟨x0,x1⟩:=CA.out _ hb1
 clear hb1 LP CA CB
 by_cases c:pc = 0
 case neg =>
  rw [if_neg c] at EL
  obtain rfl:=EL.out
  have q:(pc != 0) = true:=by rw [bne_iff_ne]; exact c
  clear EL c OKP NMP LT x0 x1
  obtain ⟨t0,t1,t2⟩:=zay V1.out
  have u0:=(zao (xs:=[.int .i64 0,.string ⟨#[]⟩,.int .i64 0]) V1.out 0).2
  have u1:=(zao (xs:=[.int .i64 0,.string ⟨#[]⟩,.int .i64 0]) V1.out 1).2
  have u2:=(zao (xs:=[.int .i64 0,.string ⟨#[]⟩,.int .i64 0]) V1.out 2).2
  go_wp2
  refine bodyPost_ret (v:=.tuple #[.agg #[.int .i64 0,.string ⟨#[]⟩,.int .i64 0],.int .i64 pc]) (by simp [results,Tryz.results27,go_sem,t0,t1,t2]) rfl ⟨rfl,⟨D,?_⟩,?_⟩
  ·repeat (first | exact M.out.below B1.out | refine Mp.set ?_ (by simp only; omega) _)
  ·repeat (first | exact grownB B1.out _ | refine znn ?_ (by simp only; omega) _)
 rw [if_pos c] at EL
 subst c
 obtain ⟨hi,hpp⟩:=OKP.out rfl
 have NM:Hid (nmB pn = true):=by
  have:=NMP.out hi (by rw [← hpp])
  rw [← hpp] at this
  exact this
 have key:Hid (keyOf Tryz.prog 9 (.string pn) = some (zpw pn)):=WideMaps.keyOf_string_mk strU (by have:=(zdc NM.out).2.1; unfold maxLen; omega)
 have LT2:=zaa (fun w1 hb => LT.out pd w1 hb hi)
 have ML:=yahc hi pd pn
 have EN:=zaa (show nnN ps pd pn = match zax ps pd pn with | none => (⟨pd,pn,0⟩,0) | some _ => (yacp,8) from rfl)
 rw [EN.out] at EL
 clear OKP NMP LT hpp HPR hi EN NM
 generalize mpD ps pd ps.length = D2 at *
 go_wp2_with fail
 refine (LT2.out _ B1.out).mono ?_
 rintro e w2 ⟨rfl,hm2,hg2⟩
 have M2:=zaa hm2
 have G2:=zaa ((grownB B1.out (some b)).trans hg2)
 have V2:Hid (w2.heap[w.heap.size + 1]? = some (.cells #[.int .i64 0,.string ⟨#[]⟩,.int .i64 0] 69 (0,0))):=(hg2.block _ ((Array.getElem?_eq_some_iff.1 V1.out).1) (by intro e; injection e with e; omega)).trans V1.out
 obtain ⟨t0,t1,t2⟩:=zay V2.out
 have u0:=(zao (xs:=[.int .i64 0,.string ⟨#[]⟩,.int .i64 0]) V2.out 0).2
 have u1:=(zao (xs:=[.int .i64 0,.string ⟨#[]⟩,.int .i64 0]) V2.out 1).2
 have u2:=(zao (xs:=[.int .i64 0,.string ⟨#[]⟩,.int .i64 0]) V2.out 2).2
 clear hm2 hg2 LT2 x0 x1
 rcases ML with ⟨e1,e2⟩ | ⟨k,e1,e2,e3⟩
 ·rw [e1] at EL
  obtain rfl:=EL.out
  have E2:=zaa e2
  clear EL e1 e2
  go_wp2_with (at_lookup; refine wpList_lookup_own_ok_int _ rfl _ _ 76 rfl 9 3 .i64 strK mapU intU (intZ _) b 4096 D2 rfl M2.out _ _ rfl key.out ?_)
  intro c hat hwc
  rw [E2.out]
  clear hat hwc
  go_wp2
  refine bodyPost_ret (v:=.tuple #[.agg #[.int .i64 pd,.string pn,.int .i64 0],.int .i64 0]) (by simp [results,Tryz.results27,go_sem,t0,t1,t2]) rfl ⟨rfl,⟨D2,?_⟩,?_⟩
  ·repeat (first | exact M2.out | refine Mp.set ?_ (by simp only; omega) _)
  ·repeat (first | exact G2.out | refine znn ?_ (by simp only; omega) _)
 ·rw [e1] at EL
  obtain rfl:=EL.out
  have E2:=zaa e2
  have E3:=zaa e3
  clear EL e1 e2 e3
  go_wp2_with (at_lookup; refine wpList_lookup_own_ok_int _ rfl _ _ 76 rfl 9 3 .i64 strK mapU intU (intZ _) b 4096 D2 rfl M2.out _ _ rfl key.out ?_)
  intro c hat hwc
  rw [E2.out]
  clear hat hwc E3
  go_wp2
  refine bodyPost_ret (v:=.tuple #[.agg #[.int .i64 0,.string ⟨#[]⟩,.int .i64 0],.int .i64 8]) (by simp [results,Tryz.results27,go_sem,t0,t1,t2]) rfl ⟨rfl,⟨D2,?_⟩,?_⟩
  ·repeat (first | exact M2.out | refine Mp.set ?_ (by simp only; omega) _)
  ·repeat (first | exact G2.out | refine znn ?_ (by simp only; omega) _)
end Go.Proofs.YtkdjfhkalelafaaGreatDoor

namespace Go.Proofs.YtkdjfhkalelafaaGreatDoor
open Go.RowKit Go.Maps
theorem yath {ws:List Ino} {ps:List Den} {s t:ByteArray}:pfC ws ps [s,t] = if 65536 < s.size then 2 else if 65536 < t.size then 2 else if zcb ws ps = true then 0 else 1:=by
 unfold pfC
 by_cases c:65536 < s.size <;> by_cases c':65536 < t.size <;> simp [c,c']
theorem ztx {ws:List Ino} {ps:List Den} {s:ByteArray} (h:¬ 65536 < s.size) (hi:zcb ws ps = true):paR ws ps s = paI ws ps s:=by
 unfold paR
 rw [if_neg h,if_pos hi]
theorem yaxn {k:Int} {x:Den} (hk:0 ≤ k ∧ k ≤ 23) (hx:x.okB = true):duC k x = 0 ∧ duL k x = enL k x:=by
 unfold duC duL
 exact ⟨by rw [if_pos hk,if_pos hx],by rw [if_pos hk,if_pos hx]⟩
theorem yasq {d c:Int} {nm:ByteArray} (hd:0 ≤ d ∧ d ≤ 15) (hn:nmB nm = true) (hc:1 ≤ c ∧ c ≤ 15):(Den.mk d nm c).okB = true:=by
 unfold Den.okB
 rw [decide_eq_true hd,decide_eq_true hc,hn]
 simp
theorem yaso {w:World}:Mp (w.alloc (.map #[] 0)) w.heap.size (.map []):=(World.ownsMap_made w _ _ _).mono (by omega)
theorem zoy {W a w':World} {b:Nat} (h:Below W.heap.size W a) (hg:a.grownBy w' (some b)) (hb:W.heap.size ≤ b):Below W.heap.size W w':=h.grown hg h.size (fun j hj => by cases hj; exact hb)
end Go.Proofs.YtkdjfhkalelafaaGreatDoor

namespace Go.Proofs.YtkdjfhkalelafaaGreatDoor
open Go.RowKit Go.Maps
theorem yakt {ws:List Ino} {ps:List Den} (h:zcb ws ps = true) {d:Int} {nm:ByteArray} {k:Nat} (e:zax ps d nm = some k):1 ≤ zal ps k:=by
 obtain ⟨hk,q⟩:=zmv e
 have:=ztu q
 rw [zbh hk]
 rcases zfq h k hk with r | r
 ·omega
 ·exact r.1.1
set_option maxRecDepth 100000 in
set_option maxHeartbeats 16000000 in
theorem zfo (v:Value) (ws:List Ino) (ps:List Den) (s t:ByteArray) (w:World) (h:RdIm w v ws ps) (hw:ws.length ≤ 1048576) (hp:ps.length ≤ 1048576) (hT:TS w) (hE:ED w) (hF:FD w) (hr:∀ k (h:k < ws.length),ws[k].R) (hs:∀ k (h:k < ps.length),ps[k].name.size ≤ maxLen) :
  Calls Tryz.prog 8 #[v,.string s,.string t] w fun e w' => zjo w w' e (rnR ws ps s t):=by
 have LF:=zaa (fun vL w1 (hb:Below w.heap.size w w1) hL => zta v vL ws ps [s,t] w1 (h.below hb) hL (by simp) hw hp (hT.below hb) (hE.below hb) (hF.below hb) hr hs)
 have LN:=zaa (fun b D w1 (hb:Below w.heap.size w w1) hm => zyg v ws ps t b D w1 (h.below hb) hw hp (hT.below hb) (hE.below hb) (hF.below hb) hr hs hm)
 have LD:=zaa (fun k x w1 (hb:Below w.heap.size w w1) hs => zhy k x w1 (hF.below hb) hs)
 rw [yath] at LF
 have ER:=zaa (show nnR ws ps t = if (paR ws ps t).2.2 = 0 then nnN ps (paR ws ps t).1 (paR ws ps t).2.1 else (yacp,(paR ws ps t).2.2) from rfl)
 have EM:=zaa (fun d nm => show nnN ps d nm = match zax ps d nm with | none => (⟨d,nm,0⟩,0) | some _ => (yacp,8) from rfl)
 have PR:=zaa (@ztx ws ps t)
 have PO:=zaa (fun hi c => zhf (ws:=ws) (ps:=ps) (s:=t) hi c)
 have ENO:=zaa (fun d nm => @zhw ps d nm)
 have PA:=zaa (fun hi => zat (ws:=ws) (ps:=ps) hi)
 have LL:=zaa (fun b D w1 (hb:Below w.heap.size w w1) hm => zxh v ws ps s b D w1 (h.below hb) hw hp (hT.below hb) (hE.below hb) (hF.below hb) hr hs hm)
 have LB:=zaa (fun a b w1 (hb:Below w.heap.size w w1) => zpe v ws ps a b w1 (h.below hb) hw hp (hT.below hb) (hE.below hb) (hF.below hb) hr hs)
 have EL:=zaa (show rnR ws ps s t = if 65536 < s.size then ([],2) else if 65536 < t.size then ([],2) else if zcb ws ps = true then rnI ws ps s t else ([],1) from rfl)
 have EI:=zaa (show rnI ws ps s t = if (paI ws ps s).2.2 = 0 then rnE ws ps t (paI ws ps s).1 (paI ws ps s).2.1 else ([],(paI ws ps s).2.2) from rfl)
 have EE:=zaa (fun d nm => show rnE ws ps t d nm = match zax ps d nm with | none => ([],5) | some k => rnP ws ps t k from rfl)
 have EP:=zaa (fun k => show rnP ws ps t k = if (paI ws ps t).2.2 = 0 then rnN ws ps k (paI ws ps t).1 (paI ws ps t).2.1 else ([],(paI ws ps t).2.2) from rfl)
 have EN:=zaa (fun k d nm => show rnN ws ps k d nm = if 0 ≤ zkf ps d nm then ([],8) else if zai ws (zal ps k) = 2 ∧ zgj ps 17 d (zal ps k) = true then ([],13) else (enL (k:Int) ⟨d,nm,zal ps k⟩,0) from rfl)
 have RR0:=zaa (show erR ws ps s = if (paR ws ps s).2.2 = 0 then erN ps (paR ws ps s).1 (paR ws ps s).2.1 else (0,(paR ws ps s).2.2) from rfl)
 have RN:=zaa (fun d nm => show erN ps d nm = match zax ps d nm with | none => (0,5) | some k => ((k:Int),0) from rfl)
 have PRs:=zaa (@ztx ws ps s)
 have CR:=zaa (fun hi d nm k e => And.intro (zeb (ws:=ws) (ps:=ps) hi (d:=d) (nm:=nm) (k:=k) e) (yakt hi e))
 have BE1:=zaa (fun hi a b q r => yaur (ws:=ws) (ps:=ps) (a:=a) (b:=b) hi q r)
 have BE2:=zaa (fun hi a b q r => yaba (ws:=ws) (ps:=ps) (a:=a) (b:=b) hi q r)
 obtain ⟨vW,vP,rfl,h1,h2⟩:=h
 obtain ⟨aW,cW,rfl,_,hcW⟩:=h1.shape
 obtain ⟨aP,cP,rfl,_,hcP⟩:=h2.shape
 have HW:=zaa hcW
 have HP:=zaa hcP
 clear h1 h2 hr hs hT hE hF hcW hcP
 have CA:Hid (∀ w',Below (w.alloc (.cells #[.slice aW ws.length cW,.slice aP ps.length cP] 42)).heap.size (w.alloc (.cells #[.slice aW ws.length cW,.slice aP ps.length cP] 42)) w' → w'.cell? ⟨w.heap.size,0,none⟩ = some (.slice aW ws.length cW) ∧ w'.cell? ⟨w.heap.size,1,none⟩ = some (.slice aP ps.length cP)):=fun w' hb => by
  have:w'.heap[w.heap.size]? = some (.cells #[.slice aW ws.length cW,.slice aP ps.length cP] 42 (0,0)):=(hb.block _ (by simp)).trans (zah rfl)
  exact ⟨(zac this).1,(zac this).2.1⟩
 have BW:Hid (Below w.heap.size w (w.alloc (.cells #[.slice aW ws.length cW,.slice aP ps.length cP] 42))):=(Below.refl _ _).alloc (Nat.le_refl _) _
 obtain ⟨x0,x1⟩:=CA.out _ (Below.refl _ _)
 generalize hmr:rnR ws ps s t = res at *
 clear hmr
 obtain ⟨W,hW⟩:∃ W,W = w.alloc (.cells #[.slice aW ws.length cW,.slice aP ps.length cP] 42):=⟨_,rfl⟩
 have RS:Hid (RdT (W.alloc (.cells #[.string s,.string t] 9)) (.slice (some ⟨W.heap.size,0,none⟩) 2 2) [s,t]):=by
  refine ⟨rfl,_,_,rfl,⟨Nat.le_refl _,fun e => by cases e⟩,fun _ => ⟨W.heap.size,0,rfl,by simp,fun j hj => ?_⟩⟩
  have e0:=(zao (xs:=[.string s,.string t]) (zah (w:=W) (o:=.cells #[.string s,.string t] 9) rfl) j).1
  rw [Nat.zero_add]
  rw [e0]
  rfl
 have hz:w.heap.size < W.heap.size:=by rw [hW]; simp
 have BS:Hid (Below W.heap.size W (W.alloc (.cells #[.string s,.string t] 9))):=(Below.refl _ _).alloc (Nat.le_refl _) _
 have hWs:W.heap.size = w.heap.size + 1:=by rw [hW]; simp
 rw [hWs] at RS
 rw [← hW] at CA BW
 have hmm:=@run_makeMap Tryz.prog
 go_enter Tryz.func8,Tryz.ntmps8
 go_wp2_with fail
 rw [← hW]
 clear hW x0 x1 hWs
 refine (LF.out _ _ (zab BW.out BS.out (by omega)) RS.out).mono ?_
 rintro e w1 ⟨rfl,hb1⟩
 have A1:=zaa (zab BS.out hb1 BS.out.size)
 have B1:=zaa (zab BW.out A1.out (by omega))
 clear hb1 BS RS LF
 by_cases c1:65536 < s.size
 ·rw [if_pos c1]
  rw [if_pos c1] at EL
  obtain rfl:=EL.out
  go_wp2
  go_ret2
  exact zlq B1.out
 rw [if_neg c1]
 rw [if_neg c1] at EL
 by_cases c1t:65536 < t.size
 ·rw [if_pos c1t]
  rw [if_pos c1t] at EL
  obtain rfl:=EL.out
  go_wp2
  go_ret2
  exact zlq B1.out
 rw [if_neg c1t]
 rw [if_neg c1t] at EL
 cases hi:zcb ws ps with
 | false =>
  rw [hi] at EL
  obtain rfl:=EL.out
  go_wp2
  go_ret2
  exact zlq B1.out
 | true =>
 rw [if_pos rfl]
 rw [hi,if_pos rfl] at EL
 have PE:=PR.out c1t hi
 have PO2:=zaa (PO.out hi)
 obtain ⟨l16,l24,_⟩:=PA.out hi
 have L16:=zaa l16
 have L24:=zaa l24
 obtain ⟨bW,oW,rfl,hblW,hcellW⟩:=HW.out (by omega)
 obtain ⟨bP,oP,rfl,hblP,hcellP⟩:=HP.out (by omega)
 have HWc:Hid (∀ i (h:i < ws.length) w',Below w.heap.size w w' → w'.cell? ⟨bW,oW + i * 11,none⟩ = some (.int .i64 (zai ws (i:Int))) ∧ w'.cell? ⟨bW,oW + i * 11 + 2,none⟩ = some (.int .i64 (zeo ws (i:Int)))):=fun i h w' hb =>
  ⟨((hb.cell (p:=⟨bW,oW + i * 11,none⟩) hblW).trans (hcellW i h).1).trans (by rw [← zbn h]),((hb.cell (p:=⟨bW,oW + i * 11 + 2,none⟩) hblW).trans (hcellW i h).2.2.1).trans (by rw [← zhm h])⟩
 have HPc:Hid (∀ k (h:k < ps.length) w',Below w.heap.size w w' → w'.cell? ⟨bP,oP + k * 3 + 2,none⟩ = some (.int .i64 (zal ps k))):=fun k h w' hb =>
  ((hb.cell (p:=⟨bP,oP + k * 3 + 2,none⟩) hblP).trans (hcellP k h).2.2).trans (by rw [← zbh h])
 rw [PE] at ER
 clear PE PR PO PA HW HP hcellW hcellP l16 l24
 rw [PRs.out c1 hi] at RR0
 rw [EI.out] at EL
 have CRi:=zaa (CR.out hi)
 have BEa:=zaa (BE1.out hi)
 have BEb:=zaa (BE2.out hi)
 clear PRs EI c1 c1t hi CR BE1 BE2 HWc hblW
 generalize paI ws ps t = pt at *
 generalize paI ws ps s = pr at *
 obtain ⟨pd,pn,pc⟩:=pr
 obtain ⟨td,tn,tc⟩:=pt
 simp only at EL PO2 ER RR0 EP
 generalize nnR ws ps t = nn at *
 obtain ⟨⟨nd,nname,nch⟩,nc⟩:=nn
 generalize erR ws ps s = er at *
 obtain ⟨ek,ec⟩:=er
 simp only at LN LL
 have M1:Hid (Mp (w1.alloc (.map #[] 0)) w1.heap.size (.map [])):=yaso
 have A1m:=zaa (A1.out.alloc A1.out.size (.map #[] 0))
 have B1m:=zaa (B1.out.alloc B1.out.size (.map #[] 0))
 have z1:W.heap.size ≤ w1.heap.size:=A1.out.size
 obtain ⟨x0,x1⟩:=CA.out _ A1m.out
 go_wp2_with fail
 refine (LL.out _ _ _ B1m.out M1.out).mono ?_
 rintro e w2 ⟨rfl,⟨D2,hm2⟩,hg2⟩
 have A2:=zaa (zoy A1m.out hg2 z1)
 have B2:=zaa (zab BW.out A2.out (by omega))
 have M2:=zaa hm2
 clear x0 x1 hg2 LL M1 A1 B1 A1m B1m hmm hm2
 by_cases c:pc = 0
 case neg =>
  rw [if_neg c] at EL RR0
  obtain rfl:=EL.out
  have e2:=RR0.out
  simp only [Prod.mk.injEq] at e2
  obtain ⟨-,rfl⟩:=e2
  have q:(ec != 0) = true:=by rw [bne_iff_ne]; exact c
  clear c EL RR0
  go_wp2
  go_ret2
  exact zlq B2.out
 rw [if_pos c] at EL RR0
 subst c
 rw [RN.out] at RR0
 rw [EE.out] at EL
 clear EE RN
 cases he:zax ps pd pn with
 | none =>
  rw [he] at EL RR0
  obtain rfl:=EL.out
  have e2:=RR0.out
  simp only [Prod.mk.injEq] at e2
  obtain ⟨-,rfl⟩:=e2
  clear EL RR0
  go_wp2
  go_ret2
  exact zlq B2.out
 | some k =>
 rw [he] at EL RR0
 have e2:=RR0.out
 simp only [Prod.mk.injEq] at e2
 obtain ⟨rfl,rfl⟩:=e2
 have EL2:Hid (res = rnP ws ps t k):=EL.out
 rw [EP.out] at EL2
 obtain ⟨⟨k1,k2⟩,k3⟩:=CRi.out _ _ _ he
 have EN2:=zaa (EN.out k)
 have HPk:=zaa (HPc.out k k1)
 obtain ⟨i,hi'⟩:∃ i:Nat,zal ps k = (i:Int):=⟨(zal ps k).toNat,by omega⟩
 rw [hi'] at EN2 HPk k3
 have k24:k < 24:=by have:=L24.out; omega
 have i16:i < 16:=by omega
 have kl:(k:Int) < (ps.length:Int):=by omega
 have k0:(0:Int) ≤ (k:Int):=by omega
 have i0:(0:Int) ≤ (i:Int):=by omega
 clear EL EP EN CRi HPc he hi' k2 RR0
 obtain ⟨x0,x1⟩:=CA.out _ A2.out
 go_wp2_with fail
 refine (LN.out _ _ _ B2.out M2.out).mono ?_
 rintro e w4 ⟨rfl,-,hg4⟩
 have A4:=zaa (zoy A2.out hg4 z1)
 have B4:=zaa (zab BW.out A4.out (by omega))
 have z4:W.heap.size ≤ w4.heap.size:=A4.out.size
 clear x0 x1 hg4 LN M2 A2 B2
 have AX:=zaa (A4.out.alloc A4.out.size (.cells #[.int .i64 nd,.string nname,.int .i64 nch] 69))
 have BX:=zaa (B4.out.alloc B4.out.size (.cells #[.int .i64 nd,.string nname,.int .i64 nch] 69))
 by_cases c:tc = 0
 case neg =>
  rw [if_neg c] at EL2 ER
  obtain rfl:=EL2.out
  have e2:=ER.out
  simp only [Prod.mk.injEq] at e2
  obtain ⟨-,rfl⟩:=e2
  have q:(nc != 0) = true:=by rw [bne_iff_ne]; exact c
  clear c EL2 ER
  go_wp2
  go_ret2
  exact zlq BX.out
 rw [if_pos c] at EL2 ER
 subst c
 rw [EM.out] at ER
 rw [EN2.out] at EL2
 obtain ⟨p1,p2,p3⟩:=PO2.out rfl
 have NM:=zaa p3
 have EO:=ENO.out td tn
 clear PO2 p3 EM EN2 ENO
 cases he:zax ps td tn with
 | some k' =>
  have e8:0 ≤ zkf ps td tn:=by rw [zow he]; omega
  rw [if_pos e8] at EL2
  rw [he] at ER
  obtain rfl:=EL2.out
  have e2:=ER.out
  simp only [Prod.mk.injEq] at e2
  obtain ⟨-,rfl⟩:=e2
  clear e8 EL2 ER he EO
  go_wp2
  go_ret2
  exact zlq BX.out
 | none =>
 have e8:=EO.1 he
 rw [if_neg (by omega)] at EL2
 rw [he] at ER
 have e2:=ER.out
 simp only [Prod.mk.injEq,Den.mk.injEq] at e2
 obtain ⟨⟨rfl,rfl,rfl⟩,rfl⟩:=e2
 clear e8 ER he EO
 obtain ⟨w5,hw5⟩:∃ w5,w5 = w4.alloc (.cells #[.int .i64 nd,.string nname,.int .i64 (i:Int)] 69):=⟨_,rfl⟩
 have V5:Hid (w5.heap[w4.heap.size]? = some (.cells #[.int .i64 nd,.string nname,.int .i64 (i:Int)] 69 (0,0))):=by rw [hw5]; exact zah rfl
 have A5:Hid (Below W.heap.size W w5):=by rw [hw5]; exact A4.out.alloc A4.out.size _
 have B5:=zaa (zab BW.out A5.out (by omega))
 obtain ⟨x0,x1⟩:=CA.out _ AX.out
 obtain ⟨x0',x1'⟩:=CA.out _ A5.out
 rw [hw5] at x0' x1'
 have y0:=HPk.out _ BX.out
 obtain ⟨d1,d2⟩:=yaxn (k:=(k:Int)) (x:=⟨nd,nname,(i:Int)⟩) (by omega) (yasq p1 NM.out (by omega))
 have LD2:=zaa (fun w1 hb => LD.out (k:Int) ⟨nd,nname,(i:Int)⟩ w1 hb (by show nname.size ≤ maxLen; have:=(zdc NM.out).2.1; unfold maxLen; omega))
 rw [d1,d2,show (Den.mk nd nname (i:Int)).v = .agg #[.int .i64 nd,.string nname,.int .i64 (i:Int)] from rfl] at LD2
 have BV:Hid (beV ws ps nd (i:Int) = true ↔ zai ws (i:Int) = 2 ∧ zgj ps 17 nd (i:Int) = true):=by
  show _ ↔ _
  by_cases q:zai ws (i:Int) = 2
  ·rw [(BEa.out nd (i:Int) ⟨p1,by omega⟩ ⟨p2,q⟩).2]
   exact ⟨fun h => ⟨q,h⟩,fun h => h.2⟩
  ·rw [(BEb.out nd (i:Int) ⟨p1,by omega⟩ (fun h => q h.2)).2]
   exact ⟨fun h => (by cases h),fun h => absurd h.1 q⟩
 have LB2:=zaa (fun w1 hb => LB.out nd (i:Int) w1 hb)
 clear LB BEa BEb d1 d2 LD
 generalize enL (k:Int) ⟨nd,nname,(i:Int)⟩ = L at *
 generalize beV ws ps nd (i:Int) = bv at *
 generalize beC ws ps nd (i:Int) = bc at *
 go_wp2_with fail
 rw [← hw5]
 clear hw5 x0 x1 x0' x1' y0 AX BX A4 B4 HPk
 refine (LB2.out _ B5.out).mono ?_
 rintro e w6 ⟨rfl,hb6⟩
 have B6:=zaa (zab B5.out hb6 B5.out.size)
 have V6:Hid (w6.heap[w4.heap.size]? = some (.cells #[.int .i64 nd,.string nname,.int .i64 (i:Int)] 69 (0,0))):=(hb6.block _ ((Array.getElem?_eq_some_iff.1 V5.out).1)).trans V5.out
 clear hb6 LB2 A5 B5 V5 CA
 cases bv with
 | true =>
  rw [if_pos (BV.out.1 rfl)] at EL2
  obtain rfl:=EL2.out
  clear EL2 BV
  go_wp2
  go_ret2
  exact zlq B6.out
 | false =>
 rw [if_neg (fun h => by cases BV.out.2 h)] at EL2
 obtain rfl:=EL2.out
 obtain ⟨t0,t1,t2⟩:=zay V6.out
 clear EL2 BV
 go_wp2_with fail
 refine (LD2.out _ B6.out).mono ?_
 rintro e w7 ⟨v7,rfl,hr7,hb7⟩
 have R7:=zaa (hr7.wide B6.out.size (Nat.le_refl _))
 have B7:=zaa (zab B6.out hb7 B6.out.size)
 obtain ⟨-,aE,cE,hvE,-⟩:=hr7.rd
 subst hvE
 clear hr7 hb7 t0 t1 t2
 go_wp2
 go_ret2
 exact ⟨_,rfl,R7.out,B7.out⟩
end Go.Proofs.YtkdjfhkalelafaaGreatDoor
