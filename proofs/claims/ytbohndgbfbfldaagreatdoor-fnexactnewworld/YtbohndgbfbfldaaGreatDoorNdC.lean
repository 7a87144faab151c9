/- New devices, by the model: five boxes made in any order. -/
import Derived.Test.YtbohndgbfbfldaaGreatDoorZAY
import Derived.Test.YtbohndgbfbfldaaGreatDoorOrdI
import Derived.Deep.RegionHeld3
import Derived.Deep.DeepCutAuto
set_option maxRecDepth 100000
set_option maxHeartbeats 4000000
namespace Go.Proofs.YtbohndgbfbfldaaGreatDoor
open Go.RowKit
theorem zdm {P:Program} {ops:Array Oper} {Q:Exit→Act→World→Prop} {J:Act→World→Prop} {a:Act} {w:World} {i:Nat} {o:Oper} (ho:ops[i]?=some o)
  (h:∀ K:Act→World→Prop,(∀ a' w',J a' w'→K a' w')→(if Region.wanted o (yielded ops a.tmps)=true then o.wp P a w K Q else K (a.put o.dst undef) w)):wpOp P ops Q i J a w:=by
 have h1:=h J (fun _ _ h=>h);unfold wpOp;rw[ho];simp only
 by_cases c:Region.wanted o (yielded ops a.tmps)=true
 ·rw[if_pos c] at h1 ⊢;exact .inl h1
 ·rw[if_neg c] at h1 ⊢;exact h1
theorem zxz {l:Array Bool} {i:Nat} (hi:i < l.size) (j:Nat):(l.setIfInBounds i true).getD j false=if j=i then true else l.getD j false:=by
 rw[Array.getD_eq_getD_getElem?,Array.getD_eq_getD_getElem?,Array.getElem?_setIfInBounds]
 by_cases e:i=j
 ·subst e;rw[if_pos rfl,if_pos hi,if_pos rfl];rfl
 ·rw[if_neg e,if_neg (fun h=>e h.symm)]
theorem zxq {l:Array Bool} {i:Nat} (hi:i < l.size) (h:l.getD i true=false):l.getD i false=false:=by
 rw[Array.getD_eq_getD_getElem?,Array.getElem?_eq_getElem hi] at h ⊢;exact h
structure NdF (w0:World) (d:Nat→Bool) (wx:World) (x1 x2 x3 x4 x5 x6 x7 x8:Value):Prop where
 b:Below w0.heap.size w0 wx
 f0:d 0=true→∃ b,x2=.slice (some ⟨b,0,none⟩) 336 336∧wx.heap[b]?=some (.cells n336 3 (0,0))∧w0.heap.size≤b
 f1:d 1=true→∃ q,x3=.slice q 0 0
 f2:d 2=true→d 0=true∧d 1=true∧x4=.agg #[x2,x3]
 f3:d 3=true→∃ b,x5=.slice (some ⟨b,0,none⟩) 32 32∧wx.heap[b]?=some (.cells n32 3 (0,0))∧w0.heap.size≤b
 f4:d 4=true→∃ q,x6=.slice q 0 0
 f5:d 5=true→d 3=true∧d 4=true∧x7=.agg #[x5,x6]
 f6:d 6=true→d 2=true∧d 5=true∧x8=.agg #[x2,x3,x5,x6]
 f7:d 7=true→∃ b,x1=.pointer (some ⟨b,0,none⟩)∧w0.heap.size≤b∧(d 8=false→wx.heap[b]?=some (.cells #[.slice none 0 0,.slice none 0 0,.slice none 0 0,.slice none 0 0] 30 (0,0)))∧(d 8=true→wx.heap[b]?=some (.cells #[x2,x3,x5,x6] 30 (0,0)))
 f8:d 8=true→d 6=true∧d 7=true
def NdI (w0:World) (p:Value) (l:Array Bool) (a:Act) (wx:World):Prop :=
 l.size=9∧∃ x1 x2 x3 x4 x5 x6 x7 x8,a={ tmps:=#[p,x1,x2,x3,x4,x5,x6,x7,x8,undef,undef,undef,undef,undef,undef,undef,undef,undef,undef,undef,undef,undef,undef,undef],defers:=[] }∧NdF w0 (fun j=>l.getD j false) wx x1 x2 x3 x4 x5 x6 x7 x8
theorem NdF.off {w0 wx:World} {d:Nat→Bool} {x1 x2 x3 x4 x5 x6 x7 x8:Value} (h:NdF w0 d wx x1 x2 x3 x4 x5 x6 x7 x8):(d 0=false→d 2=false)∧(d 1=false→d 2=false)∧(d 3=false→d 5=false)∧(d 4=false→d 5=false)∧(d 2=false→d 6=false)∧(d 5=false→d 6=false)∧(d 6=false→d 8=false)∧(d 7=false→d 8=false):=by
 have g2:=h.f2;have g5:=h.f5;have g6:=h.f6;have g8:=h.f8;clear h;refine ⟨fun q=>?_,fun q=>?_,fun q=>?_,fun q=>?_,fun q=>?_,fun q=>?_,fun q=>?_,fun q=>?_⟩ <;> (apply Bool.eq_false_iff.2;intro r)
 ·rw[(g2 r).1] at q;cases q
 ·rw[(g2 r).2.1] at q;cases q
 ·rw[(g5 r).1] at q;cases q
 ·rw[(g5 r).2.1] at q;cases q
 ·rw[(g6 r).1] at q;cases q
 ·rw[(g6 r).2.1] at q;cases q
 ·rw[(g8 r).1] at q;cases q
 ·rw[(g8 r).2] at q;cases q
theorem NdF.alloc {w0 wx:World} {d:Nat→Bool} {x1 x2 x3 x4 x5 x6 x7 x8:Value} (h:NdF w0 d wx x1 x2 x3 x4 x5 x6 x7 x8) (o:Obj):NdF w0 d (wx.alloc o) x1 x2 x3 x4 x5 x6 x7 x8 :=
 ⟨h.b.alloc h.b.size o,fun q=>let ⟨b,e,g,z⟩:=h.f0 q;⟨b,e,zao g,z⟩,h.f1,h.f2,fun q=>let ⟨b,e,g,z⟩:=h.f3 q;⟨b,e,zao g,z⟩,h.f4,h.f5,h.f6,
  fun q=>let ⟨b,e,z,g1,g2⟩:=h.f7 q;⟨b,e,z,fun r=>zao (g1 r),fun r=>zao (g2 r)⟩,h.f8⟩
def upN (d:Nat→Bool) (i:Nat):Nat→Bool:=fun j=>if j=i then true else d j
theorem zht {b:Bool} (h:b=false):¬ b=true:=by rw[h];decide
section
variable {w0 wx:World} {d:Nat→Bool} {x1 x2 x3 x4 x5 x6 x7 x8:Value}
theorem NdF.s0 (h:NdF w0 d wx x1 x2 x3 x4 x5 x6 x7 x8) (q:d 0=false):NdF w0 (upN d 0) (wx.alloc (.cells n336 3)) x1 (.slice (some ⟨wx.heap.size,0,none⟩) 336 336) x3 x4 x5 x6 x7 x8:=by
 obtain ⟨o1,_,_,_,o5,_,o7,_⟩:=h.off;have d2:=o1 q;have d6:=o5 d2;have d8:=o7 d6;have g:=h.alloc (.cells n336 3);exact ⟨g.b,fun _=>⟨_,rfl,zae rfl,h.b.size⟩,g.f1,fun r=>absurd r (zht d2),g.f3,g.f4,g.f5,fun r=>absurd r (zht d6),fun r=>let ⟨b,e,z,g1,_⟩:=g.f7 r;⟨b,e,z,fun _=>g1 d8,fun r=>absurd r (zht d8)⟩,fun r=>absurd r (zht d8)⟩
theorem NdF.s1 (h:NdF w0 d wx x1 x2 x3 x4 x5 x6 x7 x8) (q:d 1=false) (o:Obj) (y:Option Addr):NdF w0 (upN d 1) (wx.alloc o) x1 x2 (.slice y 0 0) x4 x5 x6 x7 x8:=by
 obtain ⟨_,o1,_,_,o5,_,o7,_⟩:=h.off;have d2:=o1 q;have d6:=o5 d2;have d8:=o7 d6;have g:=h.alloc o;exact ⟨g.b,g.f0,fun _=>⟨_,rfl⟩,fun r=>absurd r (zht d2),g.f3,g.f4,g.f5,fun r=>absurd r (zht d6),fun r=>let ⟨b,e,z,g1,_⟩:=g.f7 r;⟨b,e,z,fun _=>g1 d8,fun r=>absurd r (zht d8)⟩,fun r=>absurd r (zht d8)⟩
theorem NdF.s2 (h:NdF w0 d wx x1 x2 x3 x4 x5 x6 x7 x8) (q:d 2=false) (q0:d 0=true) (q1:d 1=true):NdF w0 (upN d 2) wx x1 x2 x3 (.agg #[x2,x3]) x5 x6 x7 x8:=by
 obtain ⟨_,_,_,_,o5,_,o7,_⟩:=h.off;have d6:=o5 q;exact ⟨h.b,h.f0,h.f1,fun _=>⟨q0,q1,rfl⟩,h.f3,h.f4,h.f5,fun r=>absurd r (zht d6),h.f7,fun r=>absurd r (zht (o7 d6))⟩
theorem NdF.s3 (h:NdF w0 d wx x1 x2 x3 x4 x5 x6 x7 x8) (q:d 3=false):NdF w0 (upN d 3) (wx.alloc (.cells n32 3)) x1 x2 x3 x4 (.slice (some ⟨wx.heap.size,0,none⟩) 32 32) x6 x7 x8:=by
 obtain ⟨_,_,o1,_,_,o5,o7,_⟩:=h.off;have d2:=o1 q;have d6:=o5 d2;have d8:=o7 d6;have g:=h.alloc (.cells n32 3);exact ⟨g.b,g.f0,g.f1,g.f2,fun _=>⟨_,rfl,zae rfl,h.b.size⟩,g.f4,fun r=>absurd r (zht d2),fun r=>absurd r (zht d6),fun r=>let ⟨b,e,z,g1,_⟩:=g.f7 r;⟨b,e,z,fun _=>g1 d8,fun r=>absurd r (zht d8)⟩,fun r=>absurd r (zht d8)⟩
theorem NdF.s4 (h:NdF w0 d wx x1 x2 x3 x4 x5 x6 x7 x8) (q:d 4=false) (o:Obj) (y:Option Addr):NdF w0 (upN d 4) (wx.alloc o) x1 x2 x3 x4 x5 (.slice y 0 0) x7 x8:=by
 obtain ⟨_,_,_,o1,_,o5,o7,_⟩:=h.off;have d2:=o1 q;have d6:=o5 d2;have d8:=o7 d6;have g:=h.alloc o;exact ⟨g.b,g.f0,g.f1,g.f2,g.f3,fun _=>⟨_,rfl⟩,fun r=>absurd r (zht d2),fun r=>absurd r (zht d6),fun r=>let ⟨b,e,z,g1,_⟩:=g.f7 r;⟨b,e,z,fun _=>g1 d8,fun r=>absurd r (zht d8)⟩,fun r=>absurd r (zht d8)⟩
theorem NdF.s5 (h:NdF w0 d wx x1 x2 x3 x4 x5 x6 x7 x8) (q:d 5=false) (q0:d 3=true) (q1:d 4=true):NdF w0 (upN d 5) wx x1 x2 x3 x4 x5 x6 (.agg #[x5,x6]) x8:=by
 obtain ⟨_,_,_,_,_,o5,o7,_⟩:=h.off;have d6:=o5 q;exact ⟨h.b,h.f0,h.f1,h.f2,h.f3,h.f4,fun _=>⟨q0,q1,rfl⟩,fun r=>absurd r (zht d6),h.f7,fun r=>absurd r (zht (o7 d6))⟩
theorem NdF.s6 (h:NdF w0 d wx x1 x2 x3 x4 x5 x6 x7 x8) (q:d 6=false) (q0:d 2=true) (q1:d 5=true):NdF w0 (upN d 6) wx x1 x2 x3 x4 x5 x6 x7 (.agg #[x2,x3,x5,x6]):=by
 obtain ⟨_,_,_,_,_,_,o7,_⟩:=h.off;exact ⟨h.b,h.f0,h.f1,h.f2,h.f3,h.f4,h.f5,fun _=>⟨q0,q1,rfl⟩,h.f7,fun r=>absurd r (zht (o7 q))⟩
theorem NdF.s7 (h:NdF w0 d wx x1 x2 x3 x4 x5 x6 x7 x8) (q:d 7=false):NdF w0 (upN d 7) (wx.alloc (.cells #[.slice none 0 0,.slice none 0 0,.slice none 0 0,.slice none 0 0] 30)) (.pointer (some ⟨wx.heap.size,0,none⟩)) x2 x3 x4 x5 x6 x7 x8:=by
 obtain ⟨_,_,_,_,_,_,_,o8⟩:=h.off;have d8:=o8 q;have g:=h.alloc (.cells #[.slice none 0 0,.slice none 0 0,.slice none 0 0,.slice none 0 0] 30);exact ⟨g.b,g.f0,g.f1,g.f2,g.f3,g.f4,g.f5,g.f6,fun _=>⟨_,rfl,h.b.size,fun _=>zae rfl,fun r=>absurd r (zht d8)⟩,fun r=>absurd r (zht d8)⟩
theorem NdF.s8 (h:NdF w0 d wx x1 x2 x3 x4 x5 x6 x7 x8) (q:d 8=false) (q6:d 6=true) (q7:d 7=true) {b:Nat} (e:x1=.pointer (some ⟨b,0,none⟩)) :
  NdF w0 (upN d 8) ((((wx.setCell ⟨b,0,none⟩ x2).setCell ⟨b,1,none⟩ x3).setCell ⟨b,2,none⟩ x5).setCell ⟨b,3,none⟩ x6) x1 x2 x3 x4 x5 x6 x7 x8:=by
 obtain ⟨b',e',z,g1,_⟩:=h.f7 q7;rw[e] at e'
 cases e'
 have hb:=g1 q;have F:=zal (zal (zal (zal (xs:=[.slice none 0 0,.slice none 0 0,.slice none 0 0,.slice none 0 0]) hb 0 x2) 1 x3) 2 x5) 3 x6
 have O:∀ c,c≠b→((((wx.setCell ⟨b,0,none⟩ x2).setCell ⟨b,1,none⟩ x3).setCell ⟨b,2,none⟩ x5).setCell ⟨b,3,none⟩ x6).heap[c]?=wx.heap[c]?:=fun c hc=>by
  rw[Below.heap_setCell _ _ _ _ hc,Below.heap_setCell _ _ _ _ hc,Below.heap_setCell _ _ _ _ hc,Below.heap_setCell _ _ _ _ hc]
 have N:∀ c (ys:Array Value),wx.heap[c]?=some (.cells ys 3 (0,0))→c≠b:=fun c ys h1 h2=>by
  subst h2;rw[hb] at h1
  cases h1
 refine ⟨(((h.b.setCell z _).setCell z _).setCell z _).setCell z _,fun r=>?_,h.f1,h.f2,fun r=>?_,h.f4,h.f5,h.f6,fun r=>⟨b,e,z,fun r=>(by cases r),fun _=>F⟩,fun _=>⟨q6,q7⟩⟩
 ·obtain ⟨c,e1,e2,e3⟩:=h.f0 r;exact ⟨c,e1,(O c (N c _ e2)).trans e2,e3⟩
 ·obtain ⟨c,e1,e2,e3⟩:=h.f3 r;exact ⟨c,e1,(O c (N c _ e2)).trans e2,e3⟩
end
theorem ztn:n336.size=336:=by unfold n336;rw[List.size_toArray,zbz,zbg]
theorem zwy:n32.size=32:=by unfold n32;rw[List.size_toArray,zbz,zdp]
theorem NdF.all {w0 wx:World} {d:Nat→Bool} {x1 x2 x3 x4 x5 x6 x7 x8:Value} (h:NdF w0 d wx x1 x2 x3 x4 x5 x6 x7 x8) (q0:d 0=true) (q1:d 1=true) (q3:d 3=true) (q4:d 4=true) (q7:d 7=true) (q8:d 8=true):NDr w0 x1 wx:=by
 obtain ⟨b,rfl,e1,e2⟩:=h.f0 q0;obtain ⟨y,rfl⟩:=h.f1 q1;obtain ⟨c,rfl,g1,g2⟩:=h.f3 q3;obtain ⟨y',rfl⟩:=h.f4 q4;obtain ⟨bx,rfl,z,_,k2⟩:=h.f7 q7;have k:=k2 q8;refine NDr.mk (NDc.mk0 k e1 g1 (fun e=>?_) (fun e=>?_) (fun e=>?_) e2 g2 z h.b)
 ·subst e;rw[e1] at g1;have this:n336.size=n32.size:=congrArg (fun o:Option Obj=>match o with | some (.cells c _ _)=>c.size | _=>0) g1;rw[ztn,zwy] at this
  cases this
 ·subst e;rw[e1] at k;injection k with k;injection k with _ k2
  cases k2
 ·subst e;rw[g1] at k;injection k with k;injection k with _ k2
  cases k2
theorem yafl {l:Array Bool} {i:Nat} (hl:l.size=9) (hi:i < 9):(fun j=>(l.setIfInBounds i true).getD j false)=upN (fun j=>l.getD j false) i:=funext fun j=>by rw[zxz (by omega)];rfl
theorem NdI.mk {w0:World} {p:Value} {l:Array Bool} {i:Nat} (hl:l.size=9) (hi:i < 9) {wx:World} {x1 x2 x3 x4 x5 x6 x7 x8:Value} (h:NdF w0 (upN (fun j=>l.getD j false) i) wx x1 x2 x3 x4 x5 x6 x7 x8) :
  NdI w0 p (l.setIfInBounds i true) { tmps:=#[p,x1,x2,x3,x4,x5,x6,x7,x8,undef,undef,undef,undef,undef,undef,undef,undef,undef,undef,undef,undef,undef,undef,undef],defers:=[] } wx :=
 ⟨by rw[Array.size_setIfInBounds];exact hl,_,_,_,_,_,_,_,_,rfl,by rw[yafl hl hi];exact h⟩
theorem zck {md:Region.Mode} {ops:Array Oper} {l:Array Bool} {i:Nat} {o:Oper} (hr:Region.ready md ops l=[]) (ho:ops[i]?=some o) (ha:o.after.all (fun e=>l.getD e.on false)=true):¬ l.getD i true=false:=fun h=>by
 have:i∈Region.ready md ops l:=by
  unfold Region.ready;rw[List.mem_filter,List.mem_range];refine ⟨(Array.getElem?_eq_some_iff.1 ho).1,?_⟩;rw[ho,h];simp only[Bool.not_false,Bool.true_and,Option.map_some,Option.getD_some,Array.all_eq_true_iff_forall_mem] at ha ⊢;intro e he;rw[ha e he,Bool.or_true]
 rw[hr] at this
 cases this
theorem zfe (w:World) :
  Calls Tryz.prog 97 #[] w fun e w'=>∃ v',e=.returned v'∧RdDev w' v' ndW [] zbu []∧Below w.heap.size w w':=by
 have k1:=zge;have k2:=zjs;go_enter Tryz.func97,Tryz.ntmps97;go_upto_region 1 with fail
 obtain ⟨w0,hw0⟩:∃ w0:World,w0=w.alloc (.cells #[.slice none 0 0,.slice none 0 0,.slice none 0 0,.slice none 0 0] 30):=⟨_,rfl⟩
 have V0:Hid (w0.heap[w.heap.size]?=some (.cells #[.slice none 0 0,.slice none 0 0,.slice none 0 0,.slice none 0 0] 30 (0,0))):=by rw[hw0];exact zae rfl
 have B0:Hid (Below w.heap.size w w0):=by rw[hw0];exact (Below.refl _ _).alloc (Nat.le_refl _) _
 have hz0:w.heap.size < w0.heap.size:=by rw[hw0];simp
 rw[← hw0];clear hw0
 go_cut [1] (fun s wx=>NDr w0 s wx)
 case first =>
  clear B0 V0;refine wp_region_any (by kernel_rfl) ?_;refine zmu (NdI w0 (.pointer (some ⟨w.heap.size,0,none⟩))) ?_ ?_ _ _ _ _ (by decide) ?_
  ·rintro l a wx ⟨hl,x1,x2,x3,x4,x5,x6,x7,x8,rfl,F⟩ i hi;obtain ⟨hi9,hn,o,ho,hd⟩:=zkw hi;clear hi;have hi9:i < 9:=hi9;have nd:=zxq (by omega) hn;have FH:=zaa F;clear F
   rcases (show i=0∨i=1∨i=2∨i=3∨i=4∨i=5∨i=6∨i=7∨i=8 by omega) with rfl | rfl | rfl | rfl | rfl | rfl | rfl | rfl | rfl
   ·refine zdm rfl (fun K hK=>?_);go_simp;refine hK _ _ ?_;exact NdI.mk hl (by omega) (FH.o.s0 nd)
   ·refine zdm rfl (fun K hK=>?_);go_simp;refine hK _ _ ?_;exact NdI.mk hl (by omega) (FH.o.s1 nd _ _)
   ·have e:o=_:=Option.some.inj (ho.symm.trans rfl);subst e;have q0:=hd ⟨0,.data⟩ (by simp) rfl;have q1:=hd ⟨1,.data⟩ (by simp) rfl;obtain ⟨b,rfl,_,_⟩:=FH.o.f0 q0;obtain ⟨y,rfl⟩:=FH.o.f1 q1;clear ho hd;refine zdm rfl (fun K hK=>?_);go_simp;refine hK _ _ ?_;exact NdI.mk hl (by omega) (FH.o.s2 nd q0 q1)
   ·refine zdm rfl (fun K hK=>?_);go_simp;refine hK _ _ ?_;exact NdI.mk hl (by omega) (FH.o.s3 nd)
   ·refine zdm rfl (fun K hK=>?_);go_simp;refine hK _ _ ?_;exact NdI.mk hl (by omega) (FH.o.s4 nd _ _)
   ·have e:o=_:=Option.some.inj (ho.symm.trans rfl);subst e;have q0:=hd ⟨3,.data⟩ (by simp) rfl;have q1:=hd ⟨4,.data⟩ (by simp) rfl;obtain ⟨b,rfl,_,_⟩:=FH.o.f3 q0;obtain ⟨y,rfl⟩:=FH.o.f4 q1;clear ho hd;refine zdm rfl (fun K hK=>?_);go_simp;refine hK _ _ ?_;exact NdI.mk hl (by omega) (FH.o.s5 nd q0 q1)
   ·have e:o=_:=Option.some.inj (ho.symm.trans rfl);subst e;have q2:=hd ⟨2,.data⟩ (by simp) rfl;have q5:=hd ⟨5,.data⟩ (by simp) rfl;clear ho hd;obtain ⟨q0,q1,rfl⟩:=FH.o.f2 q2;obtain ⟨q3,q4,rfl⟩:=FH.o.f5 q5;obtain ⟨b,rfl,_,_⟩:=FH.o.f0 q0;obtain ⟨y,rfl⟩:=FH.o.f1 q1;obtain ⟨b',rfl,_,_⟩:=FH.o.f3 q3;obtain ⟨y',rfl⟩:=FH.o.f4 q4;refine zdm rfl (fun K hK=>?_);go_simp;refine hK _ _ ?_;exact NdI.mk hl (by omega) (FH.o.s6 nd q2 q5)
   ·refine zdm rfl (fun K hK=>?_);go_simp;refine hK _ _ ?_;exact NdI.mk hl (by omega) (FH.o.s7 nd)
   ·have e:o=_:=Option.some.inj (ho.symm.trans rfl);subst e;have q6:=hd ⟨6,.data⟩ (by simp) rfl;have q7:=hd ⟨7,.data⟩ (by simp) rfl;clear ho hd;obtain ⟨q2,q5,rfl⟩:=FH.o.f6 q6;obtain ⟨q0,q1,rfl⟩:=FH.o.f2 q2;obtain ⟨q3,q4,rfl⟩:=FH.o.f5 q5;obtain ⟨b,rfl,_,_⟩:=FH.o.f0 q0;obtain ⟨y,rfl⟩:=FH.o.f1 q1;obtain ⟨b',rfl,_,_⟩:=FH.o.f3 q3;obtain ⟨y',rfl⟩:=FH.o.f4 q4;obtain ⟨bx,rfl,_,g1,_⟩:=FH.o.f7 q7;obtain ⟨c0,c1,c2,c3,c4,c5,c6,c7⟩:=zaj (g1 nd);refine zdm rfl (fun K hK=>?_);go_simp;refine hK _ _ ?_;exact NdI.mk hl (by omega) (FH.o.s8 nd q6 q7 rfl)
  ·rintro l a wx ⟨hl,x1,x2,x3,x4,x5,x6,x7,x8,rfl,F⟩ hr
   have D:∀ i,i < 9→l.getD i false=true∨l.getD i true=false:=fun i hi=>by
    rw[Array.getD_eq_getD_getElem?,Array.getD_eq_getD_getElem?,Array.getElem?_eq_getElem (by omega)];simp only[Option.getD_some]
    cases l[i] <;> simp
   have d0:l.getD 0 false=true:=(D 0 (by omega)).resolve_right (zck hr rfl (by show Array.all (#[]:Array Edge) (fun e=>l.getD e.on false)=true;simp only[List.all_toArray,List.all_nil]));have d1:l.getD 1 false=true:=(D 1 (by omega)).resolve_right (zck hr rfl (by show Array.all (#[]:Array Edge) (fun e=>l.getD e.on false)=true;simp only[List.all_toArray,List.all_nil]));have d3:l.getD 3 false=true:=(D 3 (by omega)).resolve_right (zck hr rfl (by show Array.all (#[]:Array Edge) (fun e=>l.getD e.on false)=true;simp only[List.all_toArray,List.all_nil]));have d4:l.getD 4 false=true:=(D 4 (by omega)).resolve_right (zck hr rfl (by show Array.all (#[]:Array Edge) (fun e=>l.getD e.on false)=true;simp only[List.all_toArray,List.all_nil]));have d7:l.getD 7 false=true:=(D 7 (by omega)).resolve_right (zck hr rfl (by show Array.all (#[]:Array Edge) (fun e=>l.getD e.on false)=true;simp only[List.all_toArray,List.all_nil]));have d2:l.getD 2 false=true:=(D 2 (by omega)).resolve_right (zck hr rfl (by show Array.all (#[⟨0,.data⟩,⟨1,.data⟩]:Array Edge) (fun e=>l.getD e.on false)=true;simp only[List.all_toArray,List.all_cons,List.all_nil,d0,d1,Bool.and_self]));have d5:l.getD 5 false=true:=(D 5 (by omega)).resolve_right (zck hr rfl (by show Array.all (#[⟨3,.data⟩,⟨4,.data⟩]:Array Edge) (fun e=>l.getD e.on false)=true;simp only[List.all_toArray,List.all_cons,List.all_nil,d3,d4,Bool.and_self]));have d6:l.getD 6 false=true:=(D 6 (by omega)).resolve_right (zck hr rfl (by show Array.all (#[⟨2,.data⟩,⟨5,.data⟩]:Array Edge) (fun e=>l.getD e.on false)=true;simp only[List.all_toArray,List.all_cons,List.all_nil,d2,d5,Bool.and_self]));have d8:l.getD 8 false=true:=(D 8 (by omega)).resolve_right (zck hr rfl (by show Array.all (#[⟨7,.data⟩,⟨6,.data⟩,⟨0,.phase⟩,⟨1,.phase⟩,⟨2,.phase⟩,⟨3,.phase⟩,⟨4,.phase⟩,⟨5,.phase⟩,⟨6,.phase⟩,⟨7,.phase⟩]:Array Edge) (fun e=>l.getD e.on false)=true;simp only[List.all_toArray,List.all_cons,List.all_nil,d0,d1,d2,d3,d4,d5,d6,d7,Bool.and_self]));have N:=F.all d0 d1 d3 d4 d7 d8;clear D hr;go_wp2_with fail
   go_meet
   exact N
  ·refine ⟨rfl,_,_,_,_,_,_,_,_,rfl,?_⟩
   have Z:∀ j,(Array.replicate 9 false).getD j false=true→False:=fun j h=>by
    rw[Array.getD_eq_getD_getElem?,Array.getElem?_replicate] at h
    split at h <;> cases h
   exact ⟨(Below.refl _ _).drew,fun h=>(Z _ h).elim,fun h=>(Z _ h).elim,fun h=>(Z _ h).elim,fun h=>(Z _ h).elim,fun h=>(Z _ h).elim,fun h=>(Z _ h).elim,fun h=>(Z _ h).elim,fun h=>(Z _ h).elim,fun h=>(Z _ h).elim⟩
 case rest =>
 obtain ⟨bw,bs,bx,aP,aQ,rfl,hN⟩:=hcut
 rename World=>w1
 have N1:=zaa hN;clear k1 k2 hN;obtain ⟨c0,f0⟩:=N1.o.at 0 (by rw[zbg];omega);obtain ⟨x0,x1,x2,x3,_,_,_,_⟩:=zaj N1.o.hx;generalize zdj[0]'(by rw[zbg];omega)=z0 at c0
 obtain ⟨w2,hw2⟩:∃ w2,w2=w1.setCell ⟨bw,0,none⟩ (.int .i64 7):=⟨_,rfl⟩
 have N2:Hid (NDc w0 w2 bw bs bx (.slice aP 0 0) (.slice aQ 0 0) (zdj.set 0 7)):=by rw[hw2];exact N1.o.store 0 7
 go_upto_region 3 with fail;rw[← hw2];clear hw2 N1 c0 f0 x0 x1 x2 x3;obtain ⟨c0,f0⟩:=N2.o.at 48 (by rw[List.length_set,zbg];omega);obtain ⟨x0,x1,x2,x3,_,_,_,_⟩:=zaj N2.o.hx;generalize (zdj.set 0 7)[48]'(by rw[List.length_set,zbg];omega)=z1 at c0;have N3:=zaa (N2.o.store 48 2);obtain ⟨y0,-,-,-,-,-,-,-⟩:=zaj N3.o.hx
 go_cut [1] (fun s wx=>s=.pointer (some ⟨bx,0,none⟩)∧NDc w0 wx bw bs bx (.slice aP 0 0) (.slice aQ 0 0) ((zdj.set 0 7).set 48 2))
 case first =>
  go_region_held3 (fun w'=>w'.cell? ⟨bx,0,none⟩=some (.slice (some ⟨bw,0,none⟩) 336 336)) (first | exact x0 | exact y0)
   (first | (go_at_call 152;refine (zgk _ _ _ (by omega) (by omega)).mono ?_;rintro e w' ⟨rfl,hw'⟩;subst w'))
  all_goals
   go_wp2_with fail
   go_meet
   exact ⟨rfl,(by repeat (first | exact N3.o | refine NDc.drew ?_))⟩
 case rest =>
 obtain ⟨rfl,hN⟩:=hcut
 rename World=>w3
 clear N2 N3 c0 f0 x0 x1 x2 x3 y0;have N3:=zaa hN;clear hN;obtain ⟨c0,f0⟩:=N3.o.at 50 (by rw[List.length_set,List.length_set,zbg];omega);obtain ⟨x0,x1,x2,x3,_,_,_,_⟩:=zaj N3.o.hx;generalize ((zdj.set 0 7).set 48 2)[50]'(by rw[List.length_set,List.length_set,zbg];omega)=z2 at c0;have N4:=zaa (N3.o.store 50 1);obtain ⟨y0,-,-,-,-,-,-,-⟩:=zaj N4.o.hx;go_upto_region 4 with fail
 go_cut [1] (fun s wx=>s=.pointer (some ⟨bx,0,none⟩)∧NDc w0 wx bw bs bx (.slice aP 0 0) (.slice aQ 0 0) ndW)
 case first =>
  go_region_held3 (fun w'=>w'.cell? ⟨bx,0,none⟩=some (.slice (some ⟨bw,0,none⟩) 336 336)) (first | exact x0 | exact y0)
   (first | (go_at_call 152;refine (zgk _ _ _ (by omega) (by omega)).mono ?_;rintro e w' ⟨rfl,hw'⟩;subst w'))
  all_goals
   go_wp2_with fail
   go_meet
   exact ⟨rfl,(by repeat (first | exact N4.o | refine NDc.drew ?_))⟩
 case rest =>
 obtain ⟨rfl,hN⟩:=hcut
 rename World=>wr
 clear N3 N4 c0 f0 x0 x1 x2 x3 y0;have N:=zaa hN;clear hN;obtain ⟨x0,x1,x2,x3,_,_,_,_⟩:=zaj N.o.hx;have VR:=zaa ((N.o.b.block _ hz0).trans V0.o);obtain ⟨y0,y1,y2,y3,y4,y5,y6,y7⟩:=zaj VR.o;have F:=zaa (zal (zal (zal (zal (xs:=[.slice none 0 0,.slice none 0 0,.slice none 0 0,.slice none 0 0]) VR.o 0 (.slice (some ⟨bw,0,none⟩) 336 336)) 1 (.slice aP 0 0)) 2 (.slice (some ⟨bs,0,none⟩) 32 32)) 3 (.slice aQ 0 0));have l1:=N.o.l1;have l2:=N.o.l2
 have O:∀ c,c≠w.heap.size→((((wr.setCell ⟨w.heap.size,0,none⟩ (.slice (some ⟨bw,0,none⟩) 336 336)).setCell ⟨w.heap.size,1,none⟩ (.slice aP 0 0)).setCell ⟨w.heap.size,2,none⟩ (.slice (some ⟨bs,0,none⟩) 32 32)).setCell ⟨w.heap.size,3,none⟩ (.slice aQ 0 0)).heap[c]?=wr.heap[c]?:=fun c hc=>by
  rw[Below.heap_setCell _ _ _ _ hc,Below.heap_setCell _ _ _ _ hc,Below.heap_setCell _ _ _ _ hc,Below.heap_setCell _ _ _ _ hc]
 have RF:Hid (RdDev ((((wr.setCell ⟨w.heap.size,0,none⟩ (.slice (some ⟨bw,0,none⟩) 336 336)).setCell ⟨w.heap.size,1,none⟩ (.slice aP 0 0)).setCell ⟨w.heap.size,2,none⟩ (.slice (some ⟨bs,0,none⟩) 32 32)).setCell ⟨w.heap.size,3,none⟩ (.slice aQ 0 0)) (.agg #[.slice (some ⟨bw,0,none⟩) 336 336,.slice aP 0 0,.slice (some ⟨bs,0,none⟩) 32 32,.slice aQ 0 0]) ndW [] zbu []) :=
  ⟨_,_,_,_,rfl,⟨_,_,rfl,zqr ((O bw (by omega)).trans N.o.hw) zfr,zqo _ _ _⟩,⟨_,_,rfl,zqr ((O bs (by omega)).trans N.o.hs) zdp,zqo _ _ _⟩⟩
 have BF:Hid (Below w.heap.size w ((((wr.setCell ⟨w.heap.size,0,none⟩ (.slice (some ⟨bw,0,none⟩) 336 336)).setCell ⟨w.heap.size,1,none⟩ (.slice aP 0 0)).setCell ⟨w.heap.size,2,none⟩ (.slice (some ⟨bs,0,none⟩) 32 32)).setCell ⟨w.heap.size,3,none⟩ (.slice aQ 0 0))):=by
  show Below _ _ _
  repeat (refine Below.setCell ?_ (by simp only;omega) _)
  exact B0.o.trans (N.o.b.mono (by omega))
 clear O;go_wp2;generalize ((((wr.setCell ⟨w.heap.size,0,none⟩ (.slice (some ⟨bw,0,none⟩) 336 336)).setCell ⟨w.heap.size,1,none⟩ (.slice aP 0 0)).setCell ⟨w.heap.size,2,none⟩ (.slice (some ⟨bs,0,none⟩) 32 32)).setCell ⟨w.heap.size,3,none⟩ (.slice aQ 0 0))=wz at F RF BF ⊢;obtain ⟨t0,t1,t2,t3,-,-,-,-⟩:=zaj F.o;refine bodyPost_ret (v:=.agg #[.slice (some ⟨bw,0,none⟩) 336 336,.slice aP 0 0,.slice (some ⟨bs,0,none⟩) 32 32,.slice aQ 0 0]) (by simp[results,Tryz.results97,go_sem,t0,t1,t2,t3]) rfl ?_;exact ⟨_,rfl,RF.o,BF.o⟩
end Go.Proofs.YtbohndgbfbfldaaGreatDoor
