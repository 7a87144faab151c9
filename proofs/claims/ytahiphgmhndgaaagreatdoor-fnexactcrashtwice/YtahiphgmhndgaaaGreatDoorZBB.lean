/- Several texts laid together: OrdI, NdC, TrD. -/
import Derived.Test.YtahiphgmhndgaaaGreatDoorZAA
import Derived.Orders
import Derived.Test.YtahiphgmhndgaaaGreatDoorZBA
import Derived.Deep.RegionHeld3
import Derived.Deep.DeepCutAuto
import Derived.Test.YtahiphgmhndgaaaGreatDoorZAP
import Derived.Laws.CopyOwn
import Derived.Laws.Cover3
set_option maxRecDepth 100000
set_option maxHeartbeats 4000000
namespace Go.Proofs.YtahiphgmhndgaaaGreatDoor
open Go.RowKit
def yamq (l:Array Bool):Nat:=(l.toList.filter fun b=>!b).length
theorem zxe {l:Array Bool} {i:Nat} (h:l.getD i true=false):yamq (l.setIfInBounds i true)+1=yamq l:=by
 have hi:i < l.size:=by
  rcases Nat.lt_or_ge i l.size with h1 | h1
  ·exact h1
  ·rw[Array.getD_eq_getD_getElem?,Array.getElem?_eq_none h1] at h;cases h
 have he:l[i]=false:=by
  rw[Array.getD_eq_getD_getElem?,Array.getElem?_eq_getElem hi] at h;exact h
 obtain ⟨l⟩:=l;simp only[List.size_toArray] at hi;simp only[List.getElem_toArray] at he;unfold yamq;simp only[List.setIfInBounds_toArray]
 have e:l=l.take i ++ l[i] :: l.drop (i+1):=by rw[List.getElem_cons_drop,List.take_append_drop]
 have e':l.set i true=l.take i ++ true :: l.drop (i+1):=by rw[List.set_eq_take_append_cons_drop,if_pos hi]
 rw[e']
 conv=>rhs;rw[e]
 rw[he,List.filter_append,List.filter_append,List.length_append,List.length_append];simp;omega
theorem zue {md:Region.Mode} {ops:Array Oper} {l:Array Bool} {i:Nat} (h:i∈Region.ready md ops l):i < ops.size∧l.getD i true=false∧∃ o,ops[i]?=some o∧∀ e∈o.after,Region.binds md e=true→l.getD e.on false=true:=by
 unfold Region.ready at h;rw[List.mem_filter,List.mem_range,Bool.and_eq_true] at h;obtain ⟨h1,h2,h3⟩:=h;refine ⟨h1,by simpa using h2,ops[i],Array.getElem?_eq_getElem h1,fun e he hb=>?_⟩;rw[Array.getElem?_eq_getElem h1] at h3;simp only[Option.map_some,Option.getD_some,Array.all_eq_true_iff_forall_mem] at h3;have:=h3 e he;rw[hb] at this;simpa using this
theorem zxu {P:Program} {md:Region.Mode} {ops:Array Oper} {Q:Exit→Act→World→Prop} (Inv:Array Bool→Act→World→Prop)
  (step:∀ l a w,Inv l a w→∀ i∈Region.ready md ops l,wpOp P ops Q i (Inv (l.setIfInBounds i true)) a w)
  (done:∀ l a w,Inv l a w→Region.ready md ops l=[]→Q .normal a w):∀ fuel l a w,yamq l≤fuel→Inv l a w→wpAny P md ops Q fuel l a w
 | 0,l,a,w,hf,h=>by
  have hr:Region.ready md ops l=[]:=by
   rw[List.eq_nil_iff_forall_not_mem];intro i hi;have:=zxe (zue hi).2.1;omega
  exact ⟨hr,done l a w h hr⟩
 | fuel+1,l,a,w,hf,h=>by
  refine ⟨fun hr=>done l a w h hr,fun i hi=>?_⟩;refine wpOp_mono (fun a' w' h'=>zxu Inv step done fuel _ a' w' ?_ h') (step l a w h i hi);have:=zxe (zue hi).2.1;omega
end Go.Proofs.YtahiphgmhndgaaaGreatDoor

namespace Go.Proofs.YtahiphgmhndgaaaGreatDoor
open Go.RowKit
theorem zgq {P:Program} {ops:Array Oper} {Q:Exit→Act→World→Prop} {J:Act→World→Prop} {a:Act} {w:World} {i:Nat} {o:Oper} (ho:ops[i]?=some o)
  (h:∀ K:Act→World→Prop,(∀ a' w',J a' w'→K a' w')→(if Region.wanted o (yielded ops a.tmps)=true then o.wp P a w K Q else K (a.put o.dst undef) w)):wpOp P ops Q i J a w:=by
 have h1:=h J (fun _ _ h=>h);unfold wpOp;rw[ho];simp only
 by_cases c:Region.wanted o (yielded ops a.tmps)=true
 ·rw[if_pos c] at h1 ⊢;exact .inl h1
 ·rw[if_neg c] at h1 ⊢;exact h1
theorem yaot {l:Array Bool} {i:Nat} (hi:i < l.size) (j:Nat):(l.setIfInBounds i true).getD j false=if j=i then true else l.getD j false:=by
 rw[Array.getD_eq_getD_getElem?,Array.getD_eq_getD_getElem?,Array.getElem?_setIfInBounds]
 by_cases e:i=j
 ·subst e;rw[if_pos rfl,if_pos hi,if_pos rfl];rfl
 ·rw[if_neg e,if_neg (fun h=>e h.symm)]
theorem yant {l:Array Bool} {i:Nat} (hi:i < l.size) (h:l.getD i true=false):l.getD i false=false:=by
 rw[Array.getD_eq_getD_getElem?,Array.getElem?_eq_getElem hi] at h ⊢;exact h
structure NdF (w0:World) (d:Nat→Bool) (wx:World) (x1 x2 x3 x4 x5 x6 x7 x8:Value):Prop where
 b:Below w0.heap.size w0 wx
 f0:d 0=true→∃ b,x2=.slice (some ⟨b,0,none⟩) 336 336∧wx.heap[b]?=some (.cells n336 3 (0,0))∧w0.heap.size≤b
 f1:d 1=true→∃ q,x3=.slice q 0 0
 f2:d 2=true→d 0=true∧d 1=true∧x4=.agg #[x2,x3]
 f3:d 3=true→∃ b,x5=.slice (some ⟨b,0,none⟩) 32 32∧wx.heap[b]?=some (.cells n32 3 (0,0))∧w0.heap.size≤b
 f4:d 4=true→∃ q,x6=.slice q 0 0
 f5:d 5=true→d 3=true∧d 4=true∧x7=.agg #[x5,x6]
 f6:d 6=true→d 2=true∧d 5=true∧x8=.agg #[x2,x3,x5,x6]
 f7:d 7=true→∃ b,x1=.pointer (some ⟨b,0,none⟩)∧w0.heap.size≤b∧(d 8=false→wx.heap[b]?=some (.cells #[.slice none 0 0,.slice none 0 0,.slice none 0 0,.slice none 0 0] 45 (0,0)))∧(d 8=true→wx.heap[b]?=some (.cells #[x2,x3,x5,x6] 45 (0,0)))
 f8:d 8=true→d 6=true∧d 7=true
def NdI (w0:World) (p:Value) (l:Array Bool) (a:Act) (wx:World):Prop :=
 l.size=9∧∃ x1 x2 x3 x4 x5 x6 x7 x8,a={ tmps:=#[p,x1,x2,x3,x4,x5,x6,x7,x8,undef,undef,undef,undef,undef,undef,undef,undef,undef,undef,undef,undef,undef,undef,undef],defers:=[] }∧NdF w0 (fun j=>l.getD j false) wx x1 x2 x3 x4 x5 x6 x7 x8
theorem NdF.off {w0 wx:World} {d:Nat→Bool} {x1 x2 x3 x4 x5 x6 x7 x8:Value} (h:NdF w0 d wx x1 x2 x3 x4 x5 x6 x7 x8):(d 0=false→d 2=false)∧(d 1=false→d 2=false)∧(d 3=false→d 5=false)∧(d 4=false→d 5=false)∧(d 2=false→d 6=false)∧(d 5=false→d 6=false)∧(d 6=false→d 8=false)∧(d 7=false→d 8=false):=by
 have g2:=h.f2;have g5:=h.f5;have g6:=h.f6;have g8:=h.f8;clear h;refine ⟨fun q=>?_,fun q=>?_,fun q=>?_,fun q=>?_,fun q=>?_,fun q=>?_,fun q=>?_,fun q=>?_⟩ <;> (apply Bool.eq_false_iff.2;intro r)
 ·rw[(g2 r).1] at q;cases q
 ·rw[(g2 r).2.1] at q;cases q
 ·rw[(g5 r).1] at q;cases q
 ·rw[(g5 r).2.1] at q;cases q
 ·rw[(g6 r).1] at q;cases q
 ·rw[(g6 r).2.1] at q;cases q
 ·rw[(g8 r).1] at q;cases q
 ·rw[(g8 r).2] at q;cases q
theorem NdF.alloc {w0 wx:World} {d:Nat→Bool} {x1 x2 x3 x4 x5 x6 x7 x8:Value} (h:NdF w0 d wx x1 x2 x3 x4 x5 x6 x7 x8) (o:Obj):NdF w0 d (wx.alloc o) x1 x2 x3 x4 x5 x6 x7 x8 :=
 ⟨h.b.alloc h.b.size o,fun q=>let ⟨b,e,g,z⟩:=h.f0 q;⟨b,e,zal g,z⟩,h.f1,h.f2,fun q=>let ⟨b,e,g,z⟩:=h.f3 q;⟨b,e,zal g,z⟩,h.f4,h.f5,h.f6,
  fun q=>let ⟨b,e,z,g1,g2⟩:=h.f7 q;⟨b,e,z,fun r=>zal (g1 r),fun r=>zal (g2 r)⟩,h.f8⟩
def upN (d:Nat→Bool) (i:Nat):Nat→Bool:=fun j=>if j=i then true else d j
theorem zoy {b:Bool} (h:b=false):¬ b=true:=by rw[h];decide
section
variable {w0 wx:World} {d:Nat→Bool} {x1 x2 x3 x4 x5 x6 x7 x8:Value}
theorem NdF.s0 (h:NdF w0 d wx x1 x2 x3 x4 x5 x6 x7 x8) (q:d 0=false):NdF w0 (upN d 0) (wx.alloc (.cells n336 3)) x1 (.slice (some ⟨wx.heap.size,0,none⟩) 336 336) x3 x4 x5 x6 x7 x8:=by
 obtain ⟨o1,_,_,_,o5,_,o7,_⟩:=h.off;have d2:=o1 q;have d6:=o5 d2;have d8:=o7 d6;have g:=h.alloc (.cells n336 3);exact ⟨g.b,fun _=>⟨_,rfl,zag rfl,h.b.size⟩,g.f1,fun r=>absurd r (zoy d2),g.f3,g.f4,g.f5,fun r=>absurd r (zoy d6),fun r=>let ⟨b,e,z,g1,_⟩:=g.f7 r;⟨b,e,z,fun _=>g1 d8,fun r=>absurd r (zoy d8)⟩,fun r=>absurd r (zoy d8)⟩
theorem NdF.s1 (h:NdF w0 d wx x1 x2 x3 x4 x5 x6 x7 x8) (q:d 1=false) (o:Obj) (y:Option Addr):NdF w0 (upN d 1) (wx.alloc o) x1 x2 (.slice y 0 0) x4 x5 x6 x7 x8:=by
 obtain ⟨_,o1,_,_,o5,_,o7,_⟩:=h.off;have d2:=o1 q;have d6:=o5 d2;have d8:=o7 d6;have g:=h.alloc o;exact ⟨g.b,g.f0,fun _=>⟨_,rfl⟩,fun r=>absurd r (zoy d2),g.f3,g.f4,g.f5,fun r=>absurd r (zoy d6),fun r=>let ⟨b,e,z,g1,_⟩:=g.f7 r;⟨b,e,z,fun _=>g1 d8,fun r=>absurd r (zoy d8)⟩,fun r=>absurd r (zoy d8)⟩
theorem NdF.s2 (h:NdF w0 d wx x1 x2 x3 x4 x5 x6 x7 x8) (q:d 2=false) (q0:d 0=true) (q1:d 1=true):NdF w0 (upN d 2) wx x1 x2 x3 (.agg #[x2,x3]) x5 x6 x7 x8:=by
 obtain ⟨_,_,_,_,o5,_,o7,_⟩:=h.off;have d6:=o5 q;exact ⟨h.b,h.f0,h.f1,fun _=>⟨q0,q1,rfl⟩,h.f3,h.f4,h.f5,fun r=>absurd r (zoy d6),h.f7,fun r=>absurd r (zoy (o7 d6))⟩
theorem NdF.s3 (h:NdF w0 d wx x1 x2 x3 x4 x5 x6 x7 x8) (q:d 3=false):NdF w0 (upN d 3) (wx.alloc (.cells n32 3)) x1 x2 x3 x4 (.slice (some ⟨wx.heap.size,0,none⟩) 32 32) x6 x7 x8:=by
 obtain ⟨_,_,o1,_,_,o5,o7,_⟩:=h.off;have d2:=o1 q;have d6:=o5 d2;have d8:=o7 d6;have g:=h.alloc (.cells n32 3);exact ⟨g.b,g.f0,g.f1,g.f2,fun _=>⟨_,rfl,zag rfl,h.b.size⟩,g.f4,fun r=>absurd r (zoy d2),fun r=>absurd r (zoy d6),fun r=>let ⟨b,e,z,g1,_⟩:=g.f7 r;⟨b,e,z,fun _=>g1 d8,fun r=>absurd r (zoy d8)⟩,fun r=>absurd r (zoy d8)⟩
theorem NdF.s4 (h:NdF w0 d wx x1 x2 x3 x4 x5 x6 x7 x8) (q:d 4=false) (o:Obj) (y:Option Addr):NdF w0 (upN d 4) (wx.alloc o) x1 x2 x3 x4 x5 (.slice y 0 0) x7 x8:=by
 obtain ⟨_,_,_,o1,_,o5,o7,_⟩:=h.off;have d2:=o1 q;have d6:=o5 d2;have d8:=o7 d6;have g:=h.alloc o;exact ⟨g.b,g.f0,g.f1,g.f2,g.f3,fun _=>⟨_,rfl⟩,fun r=>absurd r (zoy d2),fun r=>absurd r (zoy d6),fun r=>let ⟨b,e,z,g1,_⟩:=g.f7 r;⟨b,e,z,fun _=>g1 d8,fun r=>absurd r (zoy d8)⟩,fun r=>absurd r (zoy d8)⟩
theorem NdF.s5 (h:NdF w0 d wx x1 x2 x3 x4 x5 x6 x7 x8) (q:d 5=false) (q0:d 3=true) (q1:d 4=true):NdF w0 (upN d 5) wx x1 x2 x3 x4 x5 x6 (.agg #[x5,x6]) x8:=by
 obtain ⟨_,_,_,_,_,o5,o7,_⟩:=h.off;have d6:=o5 q;exact ⟨h.b,h.f0,h.f1,h.f2,h.f3,h.f4,fun _=>⟨q0,q1,rfl⟩,fun r=>absurd r (zoy d6),h.f7,fun r=>absurd r (zoy (o7 d6))⟩
theorem NdF.s6 (h:NdF w0 d wx x1 x2 x3 x4 x5 x6 x7 x8) (q:d 6=false) (q0:d 2=true) (q1:d 5=true):NdF w0 (upN d 6) wx x1 x2 x3 x4 x5 x6 x7 (.agg #[x2,x3,x5,x6]):=by
 obtain ⟨_,_,_,_,_,_,o7,_⟩:=h.off;exact ⟨h.b,h.f0,h.f1,h.f2,h.f3,h.f4,h.f5,fun _=>⟨q0,q1,rfl⟩,h.f7,fun r=>absurd r (zoy (o7 q))⟩
theorem NdF.s7 (h:NdF w0 d wx x1 x2 x3 x4 x5 x6 x7 x8) (q:d 7=false):NdF w0 (upN d 7) (wx.alloc (.cells #[.slice none 0 0,.slice none 0 0,.slice none 0 0,.slice none 0 0] 45)) (.pointer (some ⟨wx.heap.size,0,none⟩)) x2 x3 x4 x5 x6 x7 x8:=by
 obtain ⟨_,_,_,_,_,_,_,o8⟩:=h.off;have d8:=o8 q;have g:=h.alloc (.cells #[.slice none 0 0,.slice none 0 0,.slice none 0 0,.slice none 0 0] 45);exact ⟨g.b,g.f0,g.f1,g.f2,g.f3,g.f4,g.f5,g.f6,fun _=>⟨_,rfl,h.b.size,fun _=>zag rfl,fun r=>absurd r (zoy d8)⟩,fun r=>absurd r (zoy d8)⟩
theorem NdF.s8 (h:NdF w0 d wx x1 x2 x3 x4 x5 x6 x7 x8) (q:d 8=false) (q6:d 6=true) (q7:d 7=true) {b:Nat} (e:x1=.pointer (some ⟨b,0,none⟩)) :
  NdF w0 (upN d 8) ((((wx.setCell ⟨b,0,none⟩ x2).setCell ⟨b,1,none⟩ x3).setCell ⟨b,2,none⟩ x5).setCell ⟨b,3,none⟩ x6) x1 x2 x3 x4 x5 x6 x7 x8:=by
 obtain ⟨b',e',z,g1,_⟩:=h.f7 q7;rw[e] at e'
 cases e'
 have hb:=g1 q;have F:=zci (zci (zci (zci (xs:=[.slice none 0 0,.slice none 0 0,.slice none 0 0,.slice none 0 0]) hb 0 x2) 1 x3) 2 x5) 3 x6
 have O:∀ c,c≠b→((((wx.setCell ⟨b,0,none⟩ x2).setCell ⟨b,1,none⟩ x3).setCell ⟨b,2,none⟩ x5).setCell ⟨b,3,none⟩ x6).heap[c]?=wx.heap[c]?:=fun c hc=>by
  rw[Below.heap_setCell _ _ _ _ hc,Below.heap_setCell _ _ _ _ hc,Below.heap_setCell _ _ _ _ hc,Below.heap_setCell _ _ _ _ hc]
 have N:∀ c (ys:Array Value),wx.heap[c]?=some (.cells ys 3 (0,0))→c≠b:=fun c ys h1 h2=>by
  subst h2;rw[hb] at h1
  cases h1
 refine ⟨(((h.b.setCell z _).setCell z _).setCell z _).setCell z _,fun r=>?_,h.f1,h.f2,fun r=>?_,h.f4,h.f5,h.f6,fun r=>⟨b,e,z,fun r=>(by cases r),fun _=>F⟩,fun _=>⟨q6,q7⟩⟩
 ·obtain ⟨c,e1,e2,e3⟩:=h.f0 r;exact ⟨c,e1,(O c (N c _ e2)).trans e2,e3⟩
 ·obtain ⟨c,e1,e2,e3⟩:=h.f3 r;exact ⟨c,e1,(O c (N c _ e2)).trans e2,e3⟩
end
theorem yalb:n336.size=336:=by unfold n336;rw[List.size_toArray,zdg,zet]
theorem yaol:n32.size=32:=by unfold n32;rw[List.size_toArray,zdg,zuh]
theorem NdF.all {w0 wx:World} {d:Nat→Bool} {x1 x2 x3 x4 x5 x6 x7 x8:Value} (h:NdF w0 d wx x1 x2 x3 x4 x5 x6 x7 x8) (q0:d 0=true) (q1:d 1=true) (q3:d 3=true) (q4:d 4=true) (q7:d 7=true) (q8:d 8=true):NDr w0 x1 wx:=by
 obtain ⟨b,rfl,e1,e2⟩:=h.f0 q0;obtain ⟨y,rfl⟩:=h.f1 q1;obtain ⟨c,rfl,g1,g2⟩:=h.f3 q3;obtain ⟨y',rfl⟩:=h.f4 q4;obtain ⟨bx,rfl,z,_,k2⟩:=h.f7 q7;have k:=k2 q8;refine NDr.mk (NDc.mk0 k e1 g1 (fun e=>?_) (fun e=>?_) (fun e=>?_) e2 g2 z h.b)
 ·subst e;rw[e1] at g1;have this:n336.size=n32.size:=congrArg (fun o:Option Obj=>match o with | some (.cells c _ _)=>c.size | _=>0) g1;rw[yalb,yaol] at this
  cases this
 ·subst e;rw[e1] at k;injection k with k;injection k with _ k2
  cases k2
 ·subst e;rw[g1] at k;injection k with k;injection k with _ k2
  cases k2
theorem yawg {l:Array Bool} {i:Nat} (hl:l.size=9) (hi:i < 9):(fun j=>(l.setIfInBounds i true).getD j false)=upN (fun j=>l.getD j false) i:=funext fun j=>by rw[yaot (by omega)];rfl
theorem NdI.mk {w0:World} {p:Value} {l:Array Bool} {i:Nat} (hl:l.size=9) (hi:i < 9) {wx:World} {x1 x2 x3 x4 x5 x6 x7 x8:Value} (h:NdF w0 (upN (fun j=>l.getD j false) i) wx x1 x2 x3 x4 x5 x6 x7 x8) :
  NdI w0 p (l.setIfInBounds i true) { tmps:=#[p,x1,x2,x3,x4,x5,x6,x7,x8,undef,undef,undef,undef,undef,undef,undef,undef,undef,undef,undef,undef,undef,undef,undef],defers:=[] } wx :=
 ⟨by rw[Array.size_setIfInBounds];exact hl,_,_,_,_,_,_,_,_,rfl,by rw[yawg hl hi];exact h⟩
theorem zfi {md:Region.Mode} {ops:Array Oper} {l:Array Bool} {i:Nat} {o:Oper} (hr:Region.ready md ops l=[]) (ho:ops[i]?=some o) (ha:o.after.all (fun e=>l.getD e.on false)=true):¬ l.getD i true=false:=fun h=>by
 have:i∈Region.ready md ops l:=by
  unfold Region.ready;rw[List.mem_filter,List.mem_range];refine ⟨(Array.getElem?_eq_some_iff.1 ho).1,?_⟩;rw[ho,h];simp only[Bool.not_false,Bool.true_and,Option.map_some,Option.getD_some,Array.all_eq_true_iff_forall_mem] at ha ⊢;intro e he;rw[ha e he,Bool.or_true]
 rw[hr] at this
 cases this
theorem zlb (w:World) :
  Calls Tryz.prog 161 #[] w fun e w'=>∃ v',e=.returned v'∧RdDev w' v' ndW [] zs32 []∧Below w.heap.size w w':=by
 have k1:=zwn;have k2:=yagj;go_enter Tryz.func161,Tryz.ntmps161;go_upto_region 1 with fail
 obtain ⟨w0,hw0⟩:∃ w0:World,w0=w.alloc (.cells #[.slice none 0 0,.slice none 0 0,.slice none 0 0,.slice none 0 0] 45):=⟨_,rfl⟩
 have V0:Hid (w0.heap[w.heap.size]?=some (.cells #[.slice none 0 0,.slice none 0 0,.slice none 0 0,.slice none 0 0] 45 (0,0))):=by rw[hw0];exact zag rfl
 have B0:Hid (Below w.heap.size w w0):=by rw[hw0];exact (Below.refl _ _).alloc (Nat.le_refl _) _
 have hz0:w.heap.size < w0.heap.size:=by rw[hw0];simp
 rw[← hw0];clear hw0
 go_cut [1] (fun s wx=>NDr w0 s wx)
 case first =>
  clear B0 V0;refine wp_region_any (by kernel_rfl) ?_;refine zxu (NdI w0 (.pointer (some ⟨w.heap.size,0,none⟩))) ?_ ?_ _ _ _ _ (by decide) ?_
  ·rintro l a wx ⟨hl,x1,x2,x3,x4,x5,x6,x7,x8,rfl,F⟩ i hi;obtain ⟨hi9,hn,o,ho,hd⟩:=zue hi;clear hi;have hi9:i < 9:=hi9;have nd:=yant (by omega) hn;have FH:=zaa F;clear F
   rcases (show i=0∨i=1∨i=2∨i=3∨i=4∨i=5∨i=6∨i=7∨i=8 by omega) with rfl | rfl | rfl | rfl | rfl | rfl | rfl | rfl | rfl
   ·refine zgq rfl (fun K hK=>?_);go_simp;refine hK _ _ ?_;exact NdI.mk hl (by omega) (FH.o.s0 nd)
   ·refine zgq rfl (fun K hK=>?_);go_simp;refine hK _ _ ?_;exact NdI.mk hl (by omega) (FH.o.s1 nd _ _)
   ·have e:o=_:=Option.some.inj (ho.symm.trans rfl);subst e;have q0:=hd ⟨0,.data⟩ (by simp) rfl;have q1:=hd ⟨1,.data⟩ (by simp) rfl;obtain ⟨b,rfl,_,_⟩:=FH.o.f0 q0;obtain ⟨y,rfl⟩:=FH.o.f1 q1;clear ho hd;refine zgq rfl (fun K hK=>?_);go_simp;refine hK _ _ ?_;exact NdI.mk hl (by omega) (FH.o.s2 nd q0 q1)
   ·refine zgq rfl (fun K hK=>?_);go_simp;refine hK _ _ ?_;exact NdI.mk hl (by omega) (FH.o.s3 nd)
   ·refine zgq rfl (fun K hK=>?_);go_simp;refine hK _ _ ?_;exact NdI.mk hl (by omega) (FH.o.s4 nd _ _)
   ·have e:o=_:=Option.some.inj (ho.symm.trans rfl);subst e;have q0:=hd ⟨3,.data⟩ (by simp) rfl;have q1:=hd ⟨4,.data⟩ (by simp) rfl;obtain ⟨b,rfl,_,_⟩:=FH.o.f3 q0;obtain ⟨y,rfl⟩:=FH.o.f4 q1;clear ho hd;refine zgq rfl (fun K hK=>?_);go_simp;refine hK _ _ ?_;exact NdI.mk hl (by omega) (FH.o.s5 nd q0 q1)
   ·have e:o=_:=Option.some.inj (ho.symm.trans rfl);subst e;have q2:=hd ⟨2,.data⟩ (by simp) rfl;have q5:=hd ⟨5,.data⟩ (by simp) rfl;clear ho hd;obtain ⟨q0,q1,rfl⟩:=FH.o.f2 q2;obtain ⟨q3,q4,rfl⟩:=FH.o.f5 q5;obtain ⟨b,rfl,_,_⟩:=FH.o.f0 q0;obtain ⟨y,rfl⟩:=FH.o.f1 q1;obtain ⟨b',rfl,_,_⟩:=FH.o.f3 q3;obtain ⟨y',rfl⟩:=FH.o.f4 q4;refine zgq rfl (fun K hK=>?_);go_simp;refine hK _ _ ?_;exact NdI.mk hl (by omega) (FH.o.s6 nd q2 q5)
   ·refine zgq rfl (fun K hK=>?_);go_simp;refine hK _ _ ?_;exact NdI.mk hl (by omega) (FH.o.s7 nd)
   ·have e:o=_:=Option.some.inj (ho.symm.trans rfl);subst e;have q6:=hd ⟨6,.data⟩ (by simp) rfl;have q7:=hd ⟨7,.data⟩ (by simp) rfl;clear ho hd;obtain ⟨q2,q5,rfl⟩:=FH.o.f6 q6;obtain ⟨q0,q1,rfl⟩:=FH.o.f2 q2;obtain ⟨q3,q4,rfl⟩:=FH.o.f5 q5;obtain ⟨b,rfl,_,_⟩:=FH.o.f0 q0;obtain ⟨y,rfl⟩:=FH.o.f1 q1;obtain ⟨b',rfl,_,_⟩:=FH.o.f3 q3;obtain ⟨y',rfl⟩:=FH.o.f4 q4;obtain ⟨bx,rfl,_,g1,_⟩:=FH.o.f7 q7;obtain ⟨c0,c1,c2,c3,c4,c5,c6,c7⟩:=zaf (g1 nd);refine zgq rfl (fun K hK=>?_);go_simp;refine hK _ _ ?_;exact NdI.mk hl (by omega) (FH.o.s8 nd q6 q7 rfl)
  ·rintro l a wx ⟨hl,x1,x2,x3,x4,x5,x6,x7,x8,rfl,F⟩ hr
   have D:∀ i,i < 9→l.getD i false=true∨l.getD i true=false:=fun i hi=>by
    rw[Array.getD_eq_getD_getElem?,Array.getD_eq_getD_getElem?,Array.getElem?_eq_getElem (by omega)];simp only[Option.getD_some]
    cases l[i] <;> simp
   have d0:l.getD 0 false=true:=(D 0 (by omega)).resolve_right (zfi hr rfl (by show Array.all (#[]:Array Edge) (fun e=>l.getD e.on false)=true;simp only[List.all_toArray,List.all_nil]));have d1:l.getD 1 false=true:=(D 1 (by omega)).resolve_right (zfi hr rfl (by show Array.all (#[]:Array Edge) (fun e=>l.getD e.on false)=true;simp only[List.all_toArray,List.all_nil]));have d3:l.getD 3 false=true:=(D 3 (by omega)).resolve_right (zfi hr rfl (by show Array.all (#[]:Array Edge) (fun e=>l.getD e.on false)=true;simp only[List.all_toArray,List.all_nil]));have d4:l.getD 4 false=true:=(D 4 (by omega)).resolve_right (zfi hr rfl (by show Array.all (#[]:Array Edge) (fun e=>l.getD e.on false)=true;simp only[List.all_toArray,List.all_nil]));have d7:l.getD 7 false=true:=(D 7 (by omega)).resolve_right (zfi hr rfl (by show Array.all (#[]:Array Edge) (fun e=>l.getD e.on false)=true;simp only[List.all_toArray,List.all_nil]));have d2:l.getD 2 false=true:=(D 2 (by omega)).resolve_right (zfi hr rfl (by show Array.all (#[⟨0,.data⟩,⟨1,.data⟩]:Array Edge) (fun e=>l.getD e.on false)=true;simp only[List.all_toArray,List.all_cons,List.all_nil,d0,d1,Bool.and_self]));have d5:l.getD 5 false=true:=(D 5 (by omega)).resolve_right (zfi hr rfl (by show Array.all (#[⟨3,.data⟩,⟨4,.data⟩]:Array Edge) (fun e=>l.getD e.on false)=true;simp only[List.all_toArray,List.all_cons,List.all_nil,d3,d4,Bool.and_self]));have d6:l.getD 6 false=true:=(D 6 (by omega)).resolve_right (zfi hr rfl (by show Array.all (#[⟨2,.data⟩,⟨5,.data⟩]:Array Edge) (fun e=>l.getD e.on false)=true;simp only[List.all_toArray,List.all_cons,List.all_nil,d2,d5,Bool.and_self]));have d8:l.getD 8 false=true:=(D 8 (by omega)).resolve_right (zfi hr rfl (by show Array.all (#[⟨7,.data⟩,⟨6,.data⟩,⟨0,.phase⟩,⟨1,.phase⟩,⟨2,.phase⟩,⟨3,.phase⟩,⟨4,.phase⟩,⟨5,.phase⟩,⟨6,.phase⟩,⟨7,.phase⟩]:Array Edge) (fun e=>l.getD e.on false)=true;simp only[List.all_toArray,List.all_cons,List.all_nil,d0,d1,d2,d3,d4,d5,d6,d7,Bool.and_self]));have N:=F.all d0 d1 d3 d4 d7 d8;clear D hr;go_wp2_with fail
   go_meet
   exact N
  ·refine ⟨rfl,_,_,_,_,_,_,_,_,rfl,?_⟩
   have Z:∀ j,(Array.replicate 9 false).getD j false=true→False:=fun j h=>by
    rw[Array.getD_eq_getD_getElem?,Array.getElem?_replicate] at h
    split at h <;> cases h
   exact ⟨(Below.refl _ _).drew,fun h=>(Z _ h).elim,fun h=>(Z _ h).elim,fun h=>(Z _ h).elim,fun h=>(Z _ h).elim,fun h=>(Z _ h).elim,fun h=>(Z _ h).elim,fun h=>(Z _ h).elim,fun h=>(Z _ h).elim,fun h=>(Z _ h).elim⟩
 case rest =>
 obtain ⟨bw,bs,bx,aP,aQ,rfl,hN⟩:=hcut
 rename World=>w1
 have N1:=zaa hN;clear k1 k2 hN;obtain ⟨c0,f0⟩:=N1.o.at 0 (by rw[zet];omega);obtain ⟨x0,x1,x2,x3,_,_,_,_⟩:=zaf N1.o.hx;generalize zpo[0]'(by rw[zet];omega)=z0 at c0
 obtain ⟨w2,hw2⟩:∃ w2,w2=w1.setCell ⟨bw,0,none⟩ (.int .i64 7):=⟨_,rfl⟩
 have N2:Hid (NDc w0 w2 bw bs bx (.slice aP 0 0) (.slice aQ 0 0) (zpo.set 0 7)):=by rw[hw2];exact N1.o.store 0 7
 go_upto_region 3 with fail;rw[← hw2];clear hw2 N1 c0 f0 x0 x1 x2 x3;obtain ⟨c0,f0⟩:=N2.o.at 48 (by rw[List.length_set,zet];omega);obtain ⟨x0,x1,x2,x3,_,_,_,_⟩:=zaf N2.o.hx;generalize (zpo.set 0 7)[48]'(by rw[List.length_set,zet];omega)=z1 at c0;have N3:=zaa (N2.o.store 48 2);obtain ⟨y0,-,-,-,-,-,-,-⟩:=zaf N3.o.hx
 go_cut [1] (fun s wx=>s=.pointer (some ⟨bx,0,none⟩)∧NDc w0 wx bw bs bx (.slice aP 0 0) (.slice aQ 0 0) ((zpo.set 0 7).set 48 2))
 case first =>
  go_region_held3 (fun w'=>w'.cell? ⟨bx,0,none⟩=some (.slice (some ⟨bw,0,none⟩) 336 336)) (first | exact x0 | exact y0)
   (first | (go_at_call 152;refine (zgd _ _ _ (by omega) (by omega)).mono ?_;rintro e w' ⟨rfl,hw'⟩;subst w'))
  all_goals
   go_wp2_with fail
   go_meet
   exact ⟨rfl,(by repeat (first | exact N3.o | refine NDc.drew ?_))⟩
 case rest =>
 obtain ⟨rfl,hN⟩:=hcut
 rename World=>w3
 clear N2 N3 c0 f0 x0 x1 x2 x3 y0;have N3:=zaa hN;clear hN;obtain ⟨c0,f0⟩:=N3.o.at 50 (by rw[List.length_set,List.length_set,zet];omega);obtain ⟨x0,x1,x2,x3,_,_,_,_⟩:=zaf N3.o.hx;generalize ((zpo.set 0 7).set 48 2)[50]'(by rw[List.length_set,List.length_set,zet];omega)=z2 at c0;have N4:=zaa (N3.o.store 50 1);obtain ⟨y0,-,-,-,-,-,-,-⟩:=zaf N4.o.hx;go_upto_region 4 with fail
 go_cut [1] (fun s wx=>s=.pointer (some ⟨bx,0,none⟩)∧NDc w0 wx bw bs bx (.slice aP 0 0) (.slice aQ 0 0) ndW)
 case first =>
  go_region_held3 (fun w'=>w'.cell? ⟨bx,0,none⟩=some (.slice (some ⟨bw,0,none⟩) 336 336)) (first | exact x0 | exact y0)
   (first | (go_at_call 152;refine (zgd _ _ _ (by omega) (by omega)).mono ?_;rintro e w' ⟨rfl,hw'⟩;subst w'))
  all_goals
   go_wp2_with fail
   go_meet
   exact ⟨rfl,(by repeat (first | exact N4.o | refine NDc.drew ?_))⟩
 case rest =>
 obtain ⟨rfl,hN⟩:=hcut
 rename World=>wr
 clear N3 N4 c0 f0 x0 x1 x2 x3 y0;have N:=zaa hN;clear hN;obtain ⟨x0,x1,x2,x3,_,_,_,_⟩:=zaf N.o.hx;have VR:=zaa ((N.o.b.block _ hz0).trans V0.o);obtain ⟨y0,y1,y2,y3,y4,y5,y6,y7⟩:=zaf VR.o;have F:=zaa (zci (zci (zci (zci (xs:=[.slice none 0 0,.slice none 0 0,.slice none 0 0,.slice none 0 0]) VR.o 0 (.slice (some ⟨bw,0,none⟩) 336 336)) 1 (.slice aP 0 0)) 2 (.slice (some ⟨bs,0,none⟩) 32 32)) 3 (.slice aQ 0 0));have l1:=N.o.l1;have l2:=N.o.l2
 have O:∀ c,c≠w.heap.size→((((wr.setCell ⟨w.heap.size,0,none⟩ (.slice (some ⟨bw,0,none⟩) 336 336)).setCell ⟨w.heap.size,1,none⟩ (.slice aP 0 0)).setCell ⟨w.heap.size,2,none⟩ (.slice (some ⟨bs,0,none⟩) 32 32)).setCell ⟨w.heap.size,3,none⟩ (.slice aQ 0 0)).heap[c]?=wr.heap[c]?:=fun c hc=>by
  rw[Below.heap_setCell _ _ _ _ hc,Below.heap_setCell _ _ _ _ hc,Below.heap_setCell _ _ _ _ hc,Below.heap_setCell _ _ _ _ hc]
 have RF:Hid (RdDev ((((wr.setCell ⟨w.heap.size,0,none⟩ (.slice (some ⟨bw,0,none⟩) 336 336)).setCell ⟨w.heap.size,1,none⟩ (.slice aP 0 0)).setCell ⟨w.heap.size,2,none⟩ (.slice (some ⟨bs,0,none⟩) 32 32)).setCell ⟨w.heap.size,3,none⟩ (.slice aQ 0 0)) (.agg #[.slice (some ⟨bw,0,none⟩) 336 336,.slice aP 0 0,.slice (some ⟨bs,0,none⟩) 32 32,.slice aQ 0 0]) ndW [] zs32 []) :=
  ⟨_,_,_,_,rfl,⟨_,_,rfl,yaco ((O bw (by omega)).trans N.o.hw) yahs,yaeb _ _ _⟩,⟨_,_,rfl,yaco ((O bs (by omega)).trans N.o.hs) zuh,yaeb _ _ _⟩⟩
 have BF:Hid (Below w.heap.size w ((((wr.setCell ⟨w.heap.size,0,none⟩ (.slice (some ⟨bw,0,none⟩) 336 336)).setCell ⟨w.heap.size,1,none⟩ (.slice aP 0 0)).setCell ⟨w.heap.size,2,none⟩ (.slice (some ⟨bs,0,none⟩) 32 32)).setCell ⟨w.heap.size,3,none⟩ (.slice aQ 0 0))):=by
  show Below _ _ _
  repeat (refine Below.setCell ?_ (by simp only;omega) _)
  exact B0.o.trans (N.o.b.mono (by omega))
 clear O;go_wp2;generalize ((((wr.setCell ⟨w.heap.size,0,none⟩ (.slice (some ⟨bw,0,none⟩) 336 336)).setCell ⟨w.heap.size,1,none⟩ (.slice aP 0 0)).setCell ⟨w.heap.size,2,none⟩ (.slice (some ⟨bs,0,none⟩) 32 32)).setCell ⟨w.heap.size,3,none⟩ (.slice aQ 0 0))=wz at F RF BF ⊢;obtain ⟨t0,t1,t2,t3,-,-,-,-⟩:=zaf F.o;refine bodyPost_ret (v:=.agg #[.slice (some ⟨bw,0,none⟩) 336 336,.slice aP 0 0,.slice (some ⟨bs,0,none⟩) 32 32,.slice aQ 0 0]) (by simp[results,Tryz.results161,go_sem,t0,t1,t2,t3]) rfl ?_;exact ⟨_,rfl,RF.o,BF.o⟩
end Go.Proofs.YtahiphgmhndgaaaGreatDoor

namespace Go.Proofs.YtahiphgmhndgaaaGreatDoor
open Go.RowKit
theorem mul_one (w:World):Calls Tryz.prog 197 #[.int .u64 1,.int .u64 128] w fun e w'=>e=.returned (.tuple #[.int .u64 0,.int .u64 128])∧w'=w:=by
 go_enter Tryz.func197,Tryz.ntmps197;go_wp2;go_ret2;exact ⟨rfl,rfl⟩
theorem yasf (w:World):Calls Tryz.prog 178 #[.int .u64 1,.int .u64 128] w fun e w'=>e=.returned (.tuple #[.int .u64 0,.int .u64 128])∧w'=w:=by
 go_enter Tryz.func178,Tryz.ntmps178;go_wp2_with fail;refine (mul_one _).mono ?_;rintro e w' ⟨rfl,hw'⟩;subst w';go_wp2;go_ret2;exact ⟨rfl,rfl⟩
def isH (n:Int):Bool:=decide (0≤n∧n < 65)
def ztj (zs:List Int):Bool:=decide (∀ k (h:k < zs.length),isH zs[k]=true)
theorem yahv {zs:List Int} (h:∀ k (h:k < zs.length),isH zs[k]=true):ztj zs=true:=decide_eq_true h
theorem yagt {zs:List Int} {k:Nat} (hk:k < zs.length) (h:isH zs[k]=false):ztj zs=false:=decide_eq_false (fun x=>by have:=x k hk;rw[h] at this;cases this)
theorem yagm {hs:List Int}:zjt hs=(decide (hs.length=128) && ztj hs):=by
 unfold zjt ztj isH;rw[Bool.eq_iff_iff,Bool.and_eq_true];simp only[decide_eq_true_eq];constructor
 ·exact fun h=>⟨h.1,fun k hk=>⟨(h.2 k hk).1,by have:=(h.2 k hk).2;omega⟩⟩
 ·exact fun h=>⟨h.1,fun k hk=>⟨(h.2 k hk).1,by have:=(h.2 k hk).2;omega⟩⟩
theorem zsd (n:Int) (w:World):Calls Tryz.prog 163 #[.int .i64 n] w fun e w'=>e=.returned (.bool (isH n))∧w'=w:=by
 by_cases h:0≤n∧n < 65
 ·have e:isH n=true:=decide_eq_true h;rw[e];clear e;go_enter Tryz.func163,Tryz.ntmps163;go_wp2_with fail;refine (zaq _ _ _ h).mono ?_;rintro e w' ⟨rfl,hw'⟩;subst w';go_wp2;go_ret;exact ⟨rfl,rfl⟩
 ·have e:isH n=false:=decide_eq_false h;rw[e];clear e;go_enter Tryz.func163,Tryz.ntmps163;go_wp2_with fail;refine (zbc _ _ _ h).mono ?_;rintro e w' ⟨rfl,hw'⟩;subst w';go_wp2;go_ret;exact ⟨rfl,rfl⟩
theorem zvk (v:Value) (zs:List Int) (w:World) (h:RdI w v zs) (hn:zs.length≤2147483648) :
  Calls Tryz.prog 131 #[v,.func (.func 163) #[] #[]] w fun e w'=>e=.returned (.bool (ztj zs))∧w'=w:=by
 obtain ⟨ao,cap,rfl,_,hc⟩:=h.shape;clear h;go_enter Tryz.func131,Tryz.ntmps131;go_wp2
 go_loop [6,9] (fun _ i=>∃ k:Nat,k≤zs.length∧i=.int .i64 k∧Hid (∀ j (h:j < zs.length),j < k→isH zs[j]=true)) (fun _ i=>zs.length - (intOf i).toNat)
 case atStart=>exact ⟨0,by omega,rfl,fun j h a=>absurd a (by omega)⟩
 case round =>
  obtain ⟨k,hk,rfl,H⟩:=hrel
  by_cases hlt:k < zs.length
  ·obtain ⟨b,o,rfl,hbl,hcell⟩:=hc (by omega);have hck:=hcell k hlt;clear hcell hc
   by_cases q:isH zs[k]=true
   ·go_wp2_with (go_at_call 163;refine (zsd _ _).mono ?_;rintro e w' ⟨rfl,rfl⟩)
    go_round
    case rel =>
     refine ⟨k+1,by omega,by go_num,fun j h a=>?_⟩
     by_cases e:j=k
     ·subst e;exact q
     ·exact H.o j h (by omega)
    case measure=>simp[intOf];omega
   ·have q':isH zs[k]=false:=by simpa using q
    have E:=zaa (yagt hlt q');go_wp2_with (go_at_call 163;refine (zsd _ _).mono ?_;rintro e w' ⟨rfl,rfl⟩);go_ret;exact ⟨zae E.o.symm,rfl⟩
  ·have E:=zaa (yahv (fun j h=>H.o j h (by omega)));clear H;go_wp2;go_ret;exact ⟨zae E.o.symm,rfl⟩
theorem zrn (v:Value) (hs:List Int) (w:World) (h:RdI w v hs) (hn:hs.length≤1048576):Calls Tryz.prog 127 #[v] w fun e w'=>e=.returned (.bool (zjt hs))∧w'=w:=by
 have LE:=zaa (zvk v hs w h (by omega));obtain ⟨ao,cap,rfl,-,-⟩:=h.shape;rw[yagm];clear h;generalize ztj hs=b at *
 by_cases c:hs.length=128
 ·rw[decide_eq_true c,Bool.true_and]
  have q:((hs.length:Int) == 128)=true:=by rw[beq_iff_eq];omega
  clear c;go_enter Tryz.func127,Tryz.ntmps127;go_wp2_with fail;refine LE.o.mono ?_;rintro e w' ⟨rfl,hw'⟩;subst w';go_wp2;go_ret;exact ⟨rfl,rfl⟩
 ·rw[decide_eq_false c,Bool.false_and]
  have q:((hs.length:Int) == 128)=false:=by rw[beq_eq_false_iff_ne];omega
  clear c LE;go_enter Tryz.func127,Tryz.ntmps127;go_wp2;go_ret;exact ⟨rfl,rfl⟩
@[go_sem] theorem yavb (a:Option Addr) (l c:Nat) (w:World):(binOp .eql 22 (.slice a l c) (.slice none 0 0)).run Tryz.prog w=.ok (.bool a.isNone) w:=by
 simp only[binOp];simp[run_equal_slice_nil w 22 3 a l c Tryz.underlying22]
end Go.Proofs.YtahiphgmhndgaaaGreatDoor
