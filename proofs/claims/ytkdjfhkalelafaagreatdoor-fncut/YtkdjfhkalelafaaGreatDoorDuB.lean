/- The file of a path: by the program. -/
import Derived.Test.YtkdjfhkalelafaaGreatDoorDuA
import Derived.Test.YtkdjfhkalelafaaGreatDoorZBO
import Derived.Test.YtkdjfhkalelafaaGreatDoorZBN
import Derived.Test.YtkdjfhkalelafaaGreatDoorZBP
namespace Go.Proofs.YtkdjfhkalelafaaGreatDoor
open Go.RowKit
def flR (ns:List Ino) (ds:List Den) (s:ByteArray):Int × Int:=if 65536 < s.size then (0,2) else if zcb ns ds = true then flI ns ds s else (0,1)
def faI (ns:List Ino) (r:Int × Int):Ino:=if r.2 = 0 then zan ns r.1.toNat else zhu
theorem fl_right {ns:List Ino} {ds:List Den} {s:ByteArray} (h:(flR ns ds s).2 = 0):zcb ns ds = true ∧ ¬ 65536 < s.size ∧ flR ns ds s = flI ns ds s:=by
 unfold flR at h ⊢
 by_cases c:65536 < s.size
 ·rw [if_pos c] at h
  simp at h
 ·rw [if_neg c] at h ⊢
  by_cases d:zcb ns ds = true
  ·rw [if_pos d]
   exact ⟨d,c,rfl⟩
  ·rw [if_neg d] at h
   simp at h
theorem fl_ways (ns:List Ino) (ds:List Den) (s:ByteArray):(¬ (lkR ns ds s).2 = 0 ∧ flR ns ds s = (0,(lkR ns ds s).2)) ∨ ((lkR ns ds s).2 = 0 ∧ zcb ns ds = true ∧ ∃ i:Nat,i < 16 ∧ (lkR ns ds s).1 = (i:Int) ∧ ((zai ns (i:Int) = 2 ∧ flR ns ds s = (0,9)) ∨ (¬ zai ns (i:Int) = 2 ∧ flR ns ds s = ((i:Int),0)))):=by
 unfold lkR flR
 by_cases c:65536 < s.size
 ·rw [if_pos c,if_pos c]
  exact .inl ⟨by simp,rfl⟩
 ·rw [if_neg c,if_neg c]
  by_cases d:zcb ns ds = true
  ·rw [if_pos d,if_pos d]
   unfold flI
   by_cases e:(lkI ns ds s).2 = 0
   ·rw [if_pos e]
    refine .inr ⟨e,d,?_⟩
    by_cases f:zai ns (lkI ns ds s).1 = 2
    ·have k:=yaah (s:=s) d
     rw [if_neg (by rw [f]; omega)]
     exact ⟨(lkI ns ds s).1.toNat,by omega,by omega,.inl ⟨by rw [show (((lkI ns ds s).1.toNat:Nat):Int) = (lkI ns ds s).1 by omega]; exact f,rfl⟩⟩
    ·obtain ⟨i,ei,hi,-,k⟩:=zmj (zbz.1 d) e f
     have k1:zai ns (lkI ns ds s).1 = 1:=by
      rw [ei,zbn (show i < ns.length by have:=(zat d).1; omega),← zca]
      exact k
     rw [if_pos k1]
     exact ⟨i,hi,ei,.inr ⟨by rw [← ei]; exact f,by rw [ei]⟩⟩
   ·rw [if_neg e]
    exact .inl ⟨e,rfl⟩
  ·rw [if_neg d,if_neg d]
   exact .inl ⟨by simp,rfl⟩
set_option maxRecDepth 100000 in
set_option maxHeartbeats 8000000 in
theorem findFile_any (v:Value) (ns:List Ino) (ds:List Den) (s:ByteArray) (w:World) (h:RdIm w v ns ds) (hw:ns.length ≤ 1048576) (hp:ds.length ≤ 1048576) (hT:TS w) (hE:ED w) (hF:FD w) (hr:∀ k (h:k < ns.length),ns[k].R) (hs:∀ k (h:k < ds.length),ds[k].name.size ≤ maxLen) :
  ∀ x,x = faI ns (flR ns ds s) → Calls Tryz.prog 38 #[v,.string s] w fun e w' => e = .returned (.tuple #[.agg #[.int .i64 x.kind,.int .i64 x.size,.int .i64 x.links,.int .i64 x.m0,.int .i64 x.m1,.int .i64 x.m2,.int .i64 x.m3,.int .i64 x.m4,.int .i64 x.m5,.int .i64 x.m6,.int .i64 x.m7,.int .i64 (flR ns ds s).1],.int .i64 (flR ns ds s).2]) ∧ Below w.heap.size w w':=by
 intro x hx
 have HX:=zaa hx
 have LL:=zaa (fun w1 (hb:Below w.heap.size w w1) => zfw v ns ds s w1 (h.below hb) hw hp (hT.below hb) (hE.below hb) (hF.below hb) hr hs)
 have LD:=zaa (fun (hi:zcb ns ds = true) (i:Nat) (h16:i < 16) w1 (hb:Below w.heap.size w w1) => zpd v ns ds (i:Int) w1 (h.below hb) (zat hi).1 (by omega))
 have WAYS:=zaa (fl_ways ns ds s)
 have L16:=zaa (fun hi => (zat (ws:=ns) (ps:=ds) hi).1)
 obtain ⟨vW,vP,rfl,h1,h2⟩:=h
 obtain ⟨aW,cW,rfl,_,hcW⟩:=h1.shape
 obtain ⟨aP,cP,rfl,_,hcP⟩:=h2.shape
 have HW:=zaa hcW
 clear h1 h2 hr hs hT hE hF hcW hcP hx hw hp
 obtain ⟨W,hW⟩:∃ W,W = (w.alloc (.cells #[.slice aW ns.length cW,.slice aP ds.length cP] 42)).alloc (.cells #[.int .i64 0,.int .i64 0,.int .i64 0,.int .i64 0,.int .i64 0,.int .i64 0,.int .i64 0,.int .i64 0,.int .i64 0,.int .i64 0,.int .i64 0,.int .i64 0] 92):=⟨_,rfl⟩
 have hzW:W.heap.size = w.heap.size + 1 + 1:=by rw [hW]; simp
 have CA:Hid (∀ w',Below W.heap.size W w' → w'.cell? ⟨w.heap.size,0,none⟩ = some (.slice aW ns.length cW) ∧ w'.cell? ⟨w.heap.size,1,none⟩ = some (.slice aP ds.length cP)):=fun w' hb => by
  have:w'.heap[w.heap.size]? = some (.cells #[.slice aW ns.length cW,.slice aP ds.length cP] 42 (0,0)):=(hb.block _ (by omega)).trans (by rw [hW]; exact zak (zah rfl))
  exact ⟨(zac this).1,(zac this).2.1⟩
 have CR:Hid (∀ w',Below W.heap.size W w' → w'.heap[w.heap.size + 1]? = some (.cells ([.int .i64 0,.int .i64 0,.int .i64 0,.int .i64 0,.int .i64 0,.int .i64 0,.int .i64 0,.int .i64 0,.int .i64 0,.int .i64 0,.int .i64 0,.int .i64 0]:List Value).toArray 92 (0,0))):=fun w' hb => (hb.block _ (by omega)).trans (by
  rw [hW]
  have:=zah (w:=w.alloc (.cells #[.slice aW ns.length cW,.slice aP ds.length cP] 42)) (o:=.cells #[.int .i64 0,.int .i64 0,.int .i64 0,.int .i64 0,.int .i64 0,.int .i64 0,.int .i64 0,.int .i64 0,.int .i64 0,.int .i64 0,.int .i64 0,.int .i64 0] 92) rfl
  rw [World.size_alloc] at this
  exact this)
 have BW:Hid (Below w.heap.size w W):=by rw [hW]; exact ((Below.refl _ _).alloc (Nat.le_refl _) _).alloc (by simp) _
 have hz0:w.heap.size + 1 < W.heap.size:=by omega
 clear hzW
 obtain ⟨x0,x1⟩:=CA.out _ (Below.refl _ _)
 generalize flR ns ds s = res at *
 generalize lkR ns ds s = lr at *
 obtain ⟨li,lc⟩:=lr
 simp only at WAYS LL
 go_enter Tryz.func38,Tryz.ntmps38
 go_wp2_with fail
 rw [← hW]
 clear hW x0 x1
 refine (LL.out _ BW.out).mono ?_
 rintro e w1 ⟨rfl,hb1⟩
 have A1:=zaa hb1
 have B1:=zaa (zab BW.out A1.out BW.out.size)
 have hz1:w.heap.size + 1 < w1.heap.size:=Nat.lt_of_lt_of_le hz0 A1.out.size
 clear hb1 LL
 rcases WAYS.out with ⟨c,rfl⟩ | ⟨rfl,hi,i,i16,rfl,c⟩
 ·have q:(lc != 0) = true:=by rw [bne_iff_ne]; exact c
  obtain rfl:x = zhu:=HX.out.trans (if_neg c)
  have E:=zaa (zao (CR.out _ A1.out))
  have p0:=(E.out 0).1
  have f0:=(E.out 0).2
  have p1:=(E.out 1).1
  have f1:=(E.out 1).2
  have p2:=(E.out 2).1
  have f2:=(E.out 2).2
  have p3:=(E.out 3).1
  have f3:=(E.out 3).2
  have p4:=(E.out 4).1
  have f4:=(E.out 4).2
  have p5:=(E.out 5).1
  have f5:=(E.out 5).2
  have p6:=(E.out 6).1
  have f6:=(E.out 6).2
  have p7:=(E.out 7).1
  have f7:=(E.out 7).2
  have p8:=(E.out 8).1
  have f8:=(E.out 8).2
  have p9:=(E.out 9).1
  have f9:=(E.out 9).2
  have p10:=(E.out 10).1
  have f10:=(E.out 10).2
  have p11:=(E.out 11).1
  have f11:=(E.out 11).2
  simp only [List.getElem?_cons_zero,List.getElem?_cons_succ] at p0 p1 p2 p3 p4 p5 p6 p7 p8 p9 p10 p11
  clear CR CA WAYS LD HW L16 c
  go_wp2
  refine bodyPost_ret (v:=.tuple #[.agg #[.int .i64 0,.int .i64 0,.int .i64 0,.int .i64 0,.int .i64 0,.int .i64 0,.int .i64 0,.int .i64 0,.int .i64 0,.int .i64 0,.int .i64 0,.int .i64 0],.int .i64 lc]) (by simp [results,Tryz.results38,go_sem,p0,p1,p2,p3,p4,p5,p6,p7,p8,p9,p10,p11]) rfl ⟨rfl,?_⟩
  repeat (first | with_reducible exact B1.out | refine Below.setCell ?_ (by simp only; omega) _)
 ·have LD2:=zaa (LD.out hi i i16)
  have i1:i < ns.length:=by have:=L16.out hi; omega
  have i0:(0:Int) ≤ (i:Int):=by omega
  have il:(i:Int) < (ns.length:Int):=by omega
  obtain ⟨bW,oW,rfl,hblW,hcellW⟩:=HW.out (by omega)
  have HC:Hid (∀ k (h:k < ns.length) (x:Ino),x = ns[k] → ∀ w',Below w.heap.size w w' → w'.cell? ⟨bW,oW + k * 11,none⟩ = some (.int .i64 x.kind) ∧ w'.cell? ⟨bW,oW + k * 11 + 1,none⟩ = some (.int .i64 x.size) ∧ w'.cell? ⟨bW,oW + k * 11 + 2,none⟩ = some (.int .i64 x.links) ∧ w'.cell? ⟨bW,oW + k * 11 + 3,none⟩ = some (.int .i64 x.m0) ∧ w'.cell? ⟨bW,oW + k * 11 + 4,none⟩ = some (.int .i64 x.m1) ∧ w'.cell? ⟨bW,oW + k * 11 + 5,none⟩ = some (.int .i64 x.m2) ∧ w'.cell? ⟨bW,oW + k * 11 + 6,none⟩ = some (.int .i64 x.m3) ∧ w'.cell? ⟨bW,oW + k * 11 + 7,none⟩ = some (.int .i64 x.m4) ∧ w'.cell? ⟨bW,oW + k * 11 + 8,none⟩ = some (.int .i64 x.m5) ∧ w'.cell? ⟨bW,oW + k * 11 + 9,none⟩ = some (.int .i64 x.m6) ∧ w'.cell? ⟨bW,oW + k * 11 + 10,none⟩ = some (.int .i64 x.m7)):=fun k h x e w' hb => by
   obtain ⟨a0,a1,a2,a3,a4,a5,a6,a7,a8,a9,a10⟩:=hcellW k h
   subst e
   exact ⟨(hb.cell (p:=⟨bW,oW + k * 11,none⟩) hblW).trans a0,(hb.cell (p:=⟨bW,oW + k * 11 + 1,none⟩) hblW).trans a1,(hb.cell (p:=⟨bW,oW + k * 11 + 2,none⟩) hblW).trans a2,(hb.cell (p:=⟨bW,oW + k * 11 + 3,none⟩) hblW).trans a3,(hb.cell (p:=⟨bW,oW + k * 11 + 4,none⟩) hblW).trans a4,(hb.cell (p:=⟨bW,oW + k * 11 + 5,none⟩) hblW).trans a5,(hb.cell (p:=⟨bW,oW + k * 11 + 6,none⟩) hblW).trans a6,(hb.cell (p:=⟨bW,oW + k * 11 + 7,none⟩) hblW).trans a7,(hb.cell (p:=⟨bW,oW + k * 11 + 8,none⟩) hblW).trans a8,(hb.cell (p:=⟨bW,oW + k * 11 + 9,none⟩) hblW).trans a9,(hb.cell (p:=⟨bW,oW + k * 11 + 10,none⟩) hblW).trans a10⟩
  clear hcellW HW L16 LD WAYS hi
  obtain ⟨x0,x1⟩:=CA.out _ A1.out
  generalize hkd:zai ns (i:Int) = kd at *
  rcases c with ⟨rfl,rfl⟩ | ⟨c,rfl⟩
  ·obtain rfl:x = zhu:=HX.out.trans (if_neg (by simp))
   go_wp2_with fail
   refine (LD2.out _ B1.out).mono ?_
   rintro e w2 ⟨rfl,hb2⟩
   have A2:=zaa (zts A1.out hb2)
   have B2:=zaa (zab B1.out hb2 B1.out.size)
   have hz2:w.heap.size + 1 < w2.heap.size:=Nat.lt_of_lt_of_le hz1 hb2.size
   clear hb2 x0 x1
   have E:=zaa (zao (CR.out _ A2.out))
   have p0:=(E.out 0).1
   have f0:=(E.out 0).2
   have p1:=(E.out 1).1
   have f1:=(E.out 1).2
   have p2:=(E.out 2).1
   have f2:=(E.out 2).2
   have p3:=(E.out 3).1
   have f3:=(E.out 3).2
   have p4:=(E.out 4).1
   have f4:=(E.out 4).2
   have p5:=(E.out 5).1
   have f5:=(E.out 5).2
   have p6:=(E.out 6).1
   have f6:=(E.out 6).2
   have p7:=(E.out 7).1
   have f7:=(E.out 7).2
   have p8:=(E.out 8).1
   have f8:=(E.out 8).2
   have p9:=(E.out 9).1
   have f9:=(E.out 9).2
   have p10:=(E.out 10).1
   have f10:=(E.out 10).2
   have p11:=(E.out 11).1
   have f11:=(E.out 11).2
   simp only [List.getElem?_cons_zero,List.getElem?_cons_succ] at p0 p1 p2 p3 p4 p5 p6 p7 p8 p9 p10 p11
   clear CR CA LD2 hkd
   go_wp2
   refine bodyPost_ret (v:=.tuple #[.agg #[.int .i64 0,.int .i64 0,.int .i64 0,.int .i64 0,.int .i64 0,.int .i64 0,.int .i64 0,.int .i64 0,.int .i64 0,.int .i64 0,.int .i64 0,.int .i64 0],.int .i64 9]) (by simp [results,Tryz.results38,go_sem,p0,p1,p2,p3,p4,p5,p6,p7,p8,p9,p10,p11]) rfl ⟨rfl,?_⟩
   repeat (first | with_reducible exact B2.out | refine Below.setCell ?_ (by simp only; omega) _)
  ·have hxi:x = ns[i]:=by
    rw [HX.out]
    unfold faI
    rw [if_pos rfl,Int.toNat_natCast,zca i1]
   have q:(kd == 2) = false:=by rw [beq_eq_false_iff_ne]; exact c
   have HC2:=zaa (HC.out i i1 x hxi)
   clear HX hxi HC c hkd
   go_wp2_with fail
   refine (LD2.out _ B1.out).mono ?_
   rintro e w2 ⟨rfl,hb2⟩
   have A2:=zaa (zts A1.out hb2)
   have B2:=zaa (zab B1.out hb2 B1.out.size)
   have hz2:w.heap.size + 1 < w2.heap.size:=Nat.lt_of_lt_of_le hz1 hb2.size
   clear hb2 x0 x1
   have E:=zaa (zao (CR.out _ A2.out))
   have p0:=(E.out 0).1
   have f0:=(E.out 0).2
   have p1:=(E.out 1).1
   have f1:=(E.out 1).2
   have p2:=(E.out 2).1
   have f2:=(E.out 2).2
   have p3:=(E.out 3).1
   have f3:=(E.out 3).2
   have p4:=(E.out 4).1
   have f4:=(E.out 4).2
   have p5:=(E.out 5).1
   have f5:=(E.out 5).2
   have p6:=(E.out 6).1
   have f6:=(E.out 6).2
   have p7:=(E.out 7).1
   have f7:=(E.out 7).2
   have p8:=(E.out 8).1
   have f8:=(E.out 8).2
   have p9:=(E.out 9).1
   have f9:=(E.out 9).2
   have p10:=(E.out 10).1
   have f10:=(E.out 10).2
   have p11:=(E.out 11).1
   have f11:=(E.out 11).2
   simp only [List.getElem?_cons_zero,List.getElem?_cons_succ] at p0 p1 p2 p3 p4 p5 p6 p7 p8 p9 p10 p11
   obtain ⟨x0,x1⟩:=CA.out _ A2.out
   obtain ⟨a0,a1,a2,a3,a4,a5,a6,a7,a8,a9,a10⟩:=HC2.out _ B2.out
   clear CR CA LD2 HC2
   go_wp2
   refine bodyPost_ret (v:=.tuple #[.agg #[.int .i64 x.kind,.int .i64 x.size,.int .i64 x.links,.int .i64 x.m0,.int .i64 x.m1,.int .i64 x.m2,.int .i64 x.m3,.int .i64 x.m4,.int .i64 x.m5,.int .i64 x.m6,.int .i64 x.m7,.int .i64 (i:Int)],.int .i64 0]) (by simp [results,Tryz.results38,go_sem,p0,p1,p2,p3,p4,p5,p6,p7,p8,p9,p10,p11]) rfl ⟨rfl,?_⟩
   repeat (first | with_reducible exact B2.out | refine Below.setCell ?_ (by simp only; omega) _)
end Go.Proofs.YtkdjfhkalelafaaGreatDoor
