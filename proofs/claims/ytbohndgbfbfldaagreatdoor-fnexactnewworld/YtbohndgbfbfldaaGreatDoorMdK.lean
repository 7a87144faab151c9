/- A new model: by the model of the document. -/
import Derived.Test.YtbohndgbfbfldaaGreatDoorZAW
import Derived.Deep.LoopGhost
import Derived.Deep.DeepCutAuto
import Derived.Deep.RegionWith
set_option maxRecDepth 100000
set_option maxHeartbeats 4000000
namespace Go.Proofs.YtbohndgbfbfldaaGreatDoor
open Go.RowKit
theorem zew {α:Type} (f:α→List Value) (n:Nat) (hf:∀ x,(f x).length=n):∀ (l:List α) (k j:Nat) (hk:k < l.length) (_:j < n) (y:α) (v:Value) (_:f y=(f l[k]).set j v),(l.flatMap f).set (k*n+j) v=(l.set k y).flatMap f
 | [],k,j,hk,_,_,_,_=>by simp at hk
 | x :: l,0,j,_,hj,y,v,hy=>by
  rw[List.flatMap_cons,Nat.zero_mul,Nat.zero_add,List.set_append_left _ _ (by rw[hf];exact hj),List.set_cons_zero,List.flatMap_cons,hy];rfl
 | x :: l,k+1,j,hk,hj,y,v,hy=>by
  have e:(k+1)*n+j=n+(k*n+j):=by rw[Nat.add_mul];omega
  rw[List.flatMap_cons,e,List.set_append_right _ _ (by rw[hf];omega),hf,show n+(k*n+j) - n=k*n+j by omega,List.set_cons_succ,List.flatMap_cons]
  congr 1
  exact zew f n hf l k j (by simpa using hk) hj y v (by simpa using hy)
theorem zyx (us:List (Th×Value)) (k:Nat) (hk:k < us.length) (v:Value):(thv us).set (k*3+2) v=thv (us.set k (us[k].1,v)):=zew thc 3 zes us k 2 hk (by omega) _ v rfl
def nwT:List Th:=⟨2,1,[]⟩ :: List.replicate 15 ⟨0,0,[]⟩
def nwD:List Den:=List.replicate 24 ⟨0,⟨#[]⟩,-1⟩
def zU:List (Th×Value):=List.replicate 16 (thZ,.slice none 0 0)
def zD:List Den:=List.replicate 24 ⟨0,⟨#[]⟩,0⟩
def zUA:Array Value:=(thv zU).toArray
def zDA:Array Value:=(zbm zD).toArray
theorem yadw:madeCells #[Value.int .i64 0,.int .i64 0,.slice none 0 0] (16*3)=zUA:=by kernel_rfl
theorem yaed:madeCells #[Value.int .i64 0,.string ⟨#[]⟩,.int .i64 0] (24*3)=zDA:=by kernel_rfl
theorem zry (w:World):(Instr.makeSlice 37 (.int .i64 16) (.int .i64 16)).run Tryz.prog w=.ok (.slice (some ⟨w.heap.size,0,none⟩) 16 16) (w.alloc (.cells zUA 128)):=by
 rw[← yadw];exact zbc (P:=Tryz.prog) 37 128 (.agg #[.int .i64 0,.int .i64 0,.slice none 0 0]) 3 40 Tryz.underlying37 znl .i64 .i64 16 (by decide) (by decide) w
theorem zrq (w:World):(Instr.makeSlice 38 (.int .i64 24) (.int .i64 24)).run Tryz.prog w=.ok (.slice (some ⟨w.heap.size,0,none⟩) 24 24) (w.alloc (.cells zDA 143)):=by
 rw[← yaed];exact zbc (P:=Tryz.prog) 38 143 (.agg #[.int .i64 0,.string ⟨#[]⟩,.int .i64 0]) 3 32 Tryz.underlying38 zla .i64 .i64 24 (by decide) (by decide) w
structure NMc (w0 wx:World) (bt bd bx:Nat) (us:List (Th×Value)) (ds:List Den):Prop where
 ht:wx.heap[bt]?=some (.cells (thv us).toArray 128 (0,0))
 hd:wx.heap[bd]?=some (.cells (zbm ds).toArray 143 (0,0))
 hx:wx.heap[bx]?=some (.cells #[.slice (some ⟨bt,0,none⟩) 16 16,.slice (some ⟨bd,0,none⟩) 24 24] 40 (0,0))
 d1:¬ bt=bd
 d2:¬ bt=bx
 d3:¬ bd=bx
 l1:w0.heap.size≤bt
 l2:w0.heap.size≤bd
 l3:w0.heap.size≤bx
 b:Below w0.heap.size w0 wx
def NMr (w0:World) (s:Value) (wx:World):Prop:=∃ (bt bd bx:Nat),s=.pointer (some ⟨bx,0,none⟩)∧NMc w0 wx bt bd bx zU zD
theorem NMc.below {w0 wx wy:World} {bt bd bx:Nat} {us:List (Th×Value)} {ds:List Den} (h:NMc w0 wx bt bd bx us ds) (hb:Below wx.heap.size wx wy):NMc w0 wy bt bd bx us ds :=
 ⟨(hb.block _ (Array.getElem?_eq_some_iff.1 h.ht).1).trans h.ht,(hb.block _ (Array.getElem?_eq_some_iff.1 h.hd).1).trans h.hd,(hb.block _ (Array.getElem?_eq_some_iff.1 h.hx).1).trans h.hx,h.d1,h.d2,h.d3,h.l1,h.l2,h.l3,zab h.b hb h.b.size⟩
theorem NMc.setT {w0 wx:World} {bt bd bx:Nat} {us:List (Th×Value)} {ds:List Den} (h:NMc w0 wx bt bd bx us ds) (j:Nat) (v:Value) {us':List (Th×Value)} (e:(thv us).set j v=thv us'):NMc w0 (wx.setCell ⟨bt,j,none⟩ v) bt bd bx us' ds:=by
 have d1:=h.d1;have d2:=h.d2;refine ⟨?_,(Below.heap_setCell _ _ _ _ (by simp only;omega)).trans h.hd,(Below.heap_setCell _ _ _ _ (by simp only;omega)).trans h.hx,h.d1,h.d2,h.d3,h.l1,h.l2,h.l3,h.b.setCell h.l1 _⟩;rw[← e];exact zal h.ht j _
theorem NMc.setD {w0 wx:World} {bt bd bx:Nat} {us:List (Th×Value)} {ds:List Den} (h:NMc w0 wx bt bd bx us ds) (j:Nat) (v:Value) {ds':List Den} (e:(zbm ds).set j v=zbm ds'):NMc w0 (wx.setCell ⟨bd,j,none⟩ v) bt bd bx us ds':=by
 have d1:=h.d1;have d3:=h.d3;refine ⟨(Below.heap_setCell _ _ _ _ (by simp only;omega)).trans h.ht,?_,(Below.heap_setCell _ _ _ _ (by simp only;omega)).trans h.hx,h.d1,h.d2,h.d3,h.l1,h.l2,h.l3,h.b.setCell h.l2 _⟩;rw[← e];exact zal h.hd j _
theorem NMr.mk {w0 wx:World} {bt bd bx:Nat} (hx:wx.heap[bx]?=some (.cells #[.slice (some ⟨bt,0,none⟩) 16 16,.slice (some ⟨bd,0,none⟩) 24 24] 40 (0,0))) (ht:wx.heap[bt]?=some (.cells zUA 128 (0,0))) (hd:wx.heap[bd]?=some (.cells zDA 143 (0,0))) (d1:¬ bt=bd) (d2:¬ bt=bx) (d3:¬ bd=bx) (l1:w0.heap.size≤bt) (l2:w0.heap.size≤bd) (l3:w0.heap.size≤bx) (b:Below w0.heap.size w0 wx):NMr w0 (.pointer (some ⟨bx,0,none⟩)) wx :=
 ⟨bt,bd,bx,rfl,ht,hd,hx,d1,d2,d3,l1,l2,l3,b⟩
def NwMd (lo:Nat) (w':World) (v:Value):Prop:=∀ w9:World,(∀ b,lo≤b→b < w'.heap.size→w9.heap[b]?=w'.heap[b]?)→RdMd w9 v nwT nwD
theorem zfy (w0:World) (a b c:Obj):(((w0.alloc a).alloc b).alloc c).heap[w0.heap.size]?=some a:=zao (zao (zae rfl))
theorem zfo (w0:World) (a b c:Obj):(((w0.alloc a).alloc b).alloc c).heap[w0.heap.size+1]?=some b:=by
 have q:=zae (w:=w0.alloc a) (o:=b) rfl;rw[World.size_alloc] at q;exact zao q
theorem zfu (w0:World) (a b c:Obj):(((w0.alloc a).alloc b).alloc c).heap[w0.heap.size+1+1]?=some c:=by
 have q:=zae (w:=(w0.alloc a).alloc b) (o:=c) rfl;rw[World.size_alloc,World.size_alloc] at q;exact q
theorem zfs (w0:World) (a b c:Obj):Below w0.heap.size w0 (((w0.alloc a).alloc b).alloc c):=(((Below.refl _ _).alloc (Nat.le_refl _) _).alloc (by simp) _).alloc (by simp;omega) _
theorem yabx {us:List (Th×Value)} {k:Nat} {v:Value} (h:us.map Prod.fst=List.replicate 16 thZ) (hk:k < us.length):(us.set k (us[k].1,v)).map Prod.fst=List.replicate 16 thZ:=by
 rw[List.map_set,← h]
 show (us.map Prod.fst).set k us[k].1=us.map Prod.fst
 rw[show us[k].1=(us.map Prod.fst)[k]'(by rw[List.length_map];exact hk) by simp,List.set_getElem_self]
theorem yaau {w:World} {b n size:Nat} {t:TypeId} {xs:List Value} (h:w.heap[b]?=some (.cells xs.toArray t (0,0))) (hn:xs.length=n*size):Rd w size (.slice (some ⟨b,0,none⟩) n n) n xs:=by
 refine ⟨hn,some ⟨b,0,none⟩,n,rfl,⟨Nat.le_refl _,fun e=>by cases e⟩,fun _=>⟨b,0,rfl,(Array.getElem?_eq_some_iff.1 h).1,fun j hj=>?_⟩⟩;rw[Nat.zero_add];exact (zag h j).1
theorem zxt (w:World) (a:Option Addr):RdI w (.slice a 0 0) []:=⟨rfl,a,0,rfl,⟨Nat.le_refl _,fun _=>rfl⟩,fun h=>absurd h (by decide)⟩
def dsK (k:Nat):List Den:=List.replicate k ⟨0,⟨#[]⟩,-1⟩ ++ List.replicate (24 - k) ⟨0,⟨#[]⟩,0⟩
theorem zpo {k:Nat} (h:k≤24):(dsK k).length=24:=by simp[dsK];omega
theorem yaan {k:Nat} (h:k < 24):(dsK k)[k]'(by rw[zpo (by omega)];exact h)=⟨0,⟨#[]⟩,0⟩:=by
 simp only[dsK];rw[List.getElem_append_right (by simp)];simp
theorem yacv {k:Nat} (h:k < 24):(dsK k).set k ⟨0,⟨#[]⟩,-1⟩=dsK (k+1):=by
 unfold dsK;rw[List.set_append_right _ _ (by simp),List.length_replicate,Nat.sub_self,show 24 - k=(24 - (k+1))+1 by omega,List.replicate_succ,List.set_cons_zero,List.replicate_succ',List.append_assoc];rfl
theorem zus {k:Nat} (h:k < 24):(zbm (dsK k)).set (k*3+2) (.int .i64 (-1))=zbm (dsK (k+1)):=by
 rw[← yacv h];refine zew Den.cells 3 Den.cells_len (dsK k) k 2 (by rw[zpo (by omega)];exact h) (by omega) _ _ ?_;rw[yaan h];rfl
theorem zzp {k:Nat} (h:k < 24):(zbm (dsK k))[k*3+2]?=some (.int .i64 0):=by
 rw[zqj (dsK k) k (by rw[zpo (by omega)];exact h),yaan h]
theorem yabf {us:List (Th×Value)} (h2:us.map Prod.fst=List.replicate 16 thZ) (v:Value):(us.set 0 (⟨2,1,[]⟩,v)).map Prod.fst=nwT:=by
 rw[List.map_set,h2];rfl
theorem zzt {us:List (Th×Value)} (h1:us.length=16) (v:Value):(((thv us).set 0 (.int .i64 2)).set 1 (.int .i64 1)).set 2 v=thv (us.set 0 (⟨2,1,[]⟩,v)):=by
 cases us with
 | nil=>cases h1
 | cons u us =>
  obtain ⟨⟨a,b,c⟩,d⟩:=u;rfl
theorem zsj (w:World) :
  Calls Tryz.prog 42 #[] w fun e w'=>∃ v',e=.returned v'∧NwMd w.heap.size w' v'∧Below w.heap.size w w':=by
 have k1:=zry;have k2:=zrq
 obtain ⟨w0,hw0⟩:∃ w0:World,w0=w.alloc (.cells #[.slice none 0 0,.slice none 0 0] 40):=⟨_,rfl⟩
 have V0:Hid (w0.heap[w.heap.size]?=some (.cells #[.slice none 0 0,.slice none 0 0] 40 (0,0))):=by rw[hw0];exact zae rfl
 have B0:Hid (Below w.heap.size w w0):=by rw[hw0];exact (Below.refl _ _).alloc (Nat.le_refl _) _
 have hz0:w.heap.size < w0.heap.size:=by rw[hw0];simp
 go_enter Tryz.func42,Tryz.ntmps42;go_upto_region 1 with fail;rw[← hw0];clear hw0
 go_cut [1] (fun s wx=>NMr w0 s wx)
 case first =>
  clear B0 V0
  go_region
  all_goals
   go_wp2_with fail
   go_meet
   first
    | exact NMr.mk (bt:=w0.heap.size) (bd:=w0.heap.size+1) (zfu w0 _ _ _) (zfy w0 _ _ _) (zfo w0 _ _ _) (by omega) (by omega) (by omega) (by omega) (by omega) (by omega) (zfs w0 _ _ _).drew
    | exact NMr.mk (bt:=w0.heap.size) (bd:=w0.heap.size+1+1) (zfo w0 _ _ _) (zfy w0 _ _ _) (zfu w0 _ _ _) (by omega) (by omega) (by omega) (by omega) (by omega) (by omega) (zfs w0 _ _ _).drew
    | exact NMr.mk (bt:=w0.heap.size+1) (bd:=w0.heap.size) (zfu w0 _ _ _) (zfo w0 _ _ _) (zfy w0 _ _ _) (by omega) (by omega) (by omega) (by omega) (by omega) (by omega) (zfs w0 _ _ _).drew
    | exact NMr.mk (bt:=w0.heap.size+1+1) (bd:=w0.heap.size) (zfo w0 _ _ _) (zfu w0 _ _ _) (zfy w0 _ _ _) (by omega) (by omega) (by omega) (by omega) (by omega) (by omega) (zfs w0 _ _ _).drew
    | exact NMr.mk (bt:=w0.heap.size+1) (bd:=w0.heap.size+1+1) (zfy w0 _ _ _) (zfo w0 _ _ _) (zfu w0 _ _ _) (by omega) (by omega) (by omega) (by omega) (by omega) (by omega) (zfs w0 _ _ _).drew
    | exact NMr.mk (bt:=w0.heap.size+1+1) (bd:=w0.heap.size+1) (zfy w0 _ _ _) (zfu w0 _ _ _) (zfo w0 _ _ _) (by omega) (by omega) (by omega) (by omega) (by omega) (by omega) (zfs w0 _ _ _).drew
 case rest =>
  obtain ⟨bt,bd,bx,rfl,N0⟩:=hcut
  rename World=>wx
  have N:=zaa N0;clear N0 k1 k2;obtain ⟨x0,x1,-,-⟩:=zac N.o.hx
  have START:Hid (zU.length=16∧zU.map Prod.fst=List.replicate 16 thZ∧(∀ u∈zU,∃ a,u.2=.slice a 0 0)∧NMc w0 wx bt bd bx zU zD):=⟨rfl,rfl,fun u hu=>⟨none,by rw[List.eq_of_mem_replicate hu]⟩,N.o⟩
  go_wp2;clear x0 x1 N
  go_loopg [2] 16 (fun g i wr=>∃ k:Nat,k+g=16∧i=.int .i64 k∧Hid (∃ us,us.length=16∧us.map Prod.fst=List.replicate 16 thZ∧(∀ u∈us,∃ a,u.2=.slice a 0 0)∧NMc w0 wr bt bd bx us zD))
  case atStart=>exact ⟨0,rfl,rfl,_,START.o⟩
  case round =>
   obtain ⟨k,hk,rfl,J⟩:=hrel;obtain ⟨us,j1,j2,j3,j4⟩:=J.o;have J1:=zaa j1;have J2:=zaa j2;have J3:=zaa j3;have J4:=zaa j4;clear J START j1 j2 j3 j4;obtain ⟨x0,x1,-,-⟩:=zac J4.o.hx
   by_cases hlt:k < 16
   ·have hku:k < us.length:=by have:=J1.o;omega
    have m0:(0:Int)≤(k:Int):=by omega
    have m1:(k:Int) < 16:=by omega
    have J5:=zaa (J4.o.below ((Below.refl wr.heap.size wr).alloc (Nat.le_refl _) (.cells #[] 3)));obtain ⟨y0,y1,-,-⟩:=zac J5.o.hx;obtain ⟨e0,e1⟩:=zag J5.o.ht (k*3+2);rw[zko us k hku] at e0;obtain ⟨a,ea⟩:=J3.o _ (List.getElem_mem hku);rw[ea] at e0;have G:=zaa (J5.o.setT (k*3+2) (.slice (some ⟨wr.heap.size,0,none⟩) 0 0) (zyx us k hku _))
    have G1:Hid ((us.set k (us[k].1,.slice (some ⟨wr.heap.size,0,none⟩) 0 0)).length=16):=by unfold Hid;rw[List.length_set];exact J1.o
    have G2:=zaa (yabx (v:=.slice (some ⟨wr.heap.size,0,none⟩) 0 0) J2.o hku)
    have G3:Hid (∀ u∈us.set k (us[k].1,.slice (some ⟨wr.heap.size,0,none⟩) 0 0),∃ a,u.2=.slice a 0 0):=fun u hu=>by
     rcases List.mem_or_eq_of_mem_set hu with q | q
     ·exact J3.o u q
     ·exact ⟨_,by rw[q]⟩
    clear J1 J2 J3 J4 J5 ea;go_wp2
    go_roundg (16 - (k+1))
    case measure=>omega
    case rel=>exact ⟨k+1,by omega,by go_num,_,G1.o,G2.o,G3.o,G.o⟩
   ·obtain rfl:k=16:=by omega
    clear hlt
    have hku:0 < us.length:=by have:=J1.o;omega
    have J5:=zaa (J4.o.below ((Below.refl wr.heap.size wr).alloc (Nat.le_refl _) (.cells #[] 3)));obtain ⟨y0,y1,-,-⟩:=zac J5.o.hx;obtain ⟨e0,f0⟩:=zag J5.o.ht 0;obtain ⟨e1,f1⟩:=zag J5.o.ht 1;obtain ⟨e2,f2⟩:=zag J5.o.ht 2;have q0:=zlh us 0 hku;have q1:=zlt us 0 hku;have q2:=zko us 0 hku;simp only[Nat.zero_mul,Nat.zero_add] at q0 q1 q2;rw[q0] at e0;rw[q1] at e1;rw[q2] at e2
    have G:Hid (NMc w0 ((((wr.alloc (.cells #[] 3)).setCell ⟨bt,0,none⟩ (.int .i64 2)).setCell ⟨bt,1,none⟩ (.int .i64 1)).setCell ⟨bt,2,none⟩ (.slice (some ⟨wr.heap.size,0,none⟩) 0 0)) bt bd bx (us.set 0 (⟨2,1,[]⟩,.slice (some ⟨wr.heap.size,0,none⟩) 0 0)) zD):=by
     have e:=zzt J1.o (.slice (some ⟨wr.heap.size,0,none⟩) 0 0);have hd1:=J5.o.d1;have hd2:=J5.o.d2;refine ⟨?_,?_,?_,J5.o.d1,J5.o.d2,J5.o.d3,J5.o.l1,J5.o.l2,J5.o.l3,((J5.o.b.setCell J5.o.l1 _).setCell J5.o.l1 _).setCell J5.o.l1 _⟩
     ·rw[← e];exact zal (zal (zal J5.o.ht 0 _) 1 _) 2 _
     ·rw[Below.heap_setCell _ _ _ _ (by simp only;omega),Below.heap_setCell _ _ _ _ (by simp only;omega),Below.heap_setCell _ _ _ _ (by simp only;omega)];exact J5.o.hd
     ·rw[Below.heap_setCell _ _ _ _ (by simp only;omega),Below.heap_setCell _ _ _ _ (by simp only;omega),Below.heap_setCell _ _ _ _ (by simp only;omega)];exact J5.o.hx
    have G2:=zaa (yabf J2.o (.slice (some ⟨wr.heap.size,0,none⟩) 0 0))
    have G3:Hid (∀ u∈us.set 0 (⟨2,1,[]⟩,.slice (some ⟨wr.heap.size,0,none⟩) 0 0),∃ a,u.2=.slice a 0 0):=fun u hu=>by
     rcases List.mem_or_eq_of_mem_set hu with q | q
     ·exact J3.o u q
     ·exact ⟨_,by rw[q]⟩
    have G1:Hid ((us.set 0 (⟨2,1,[]⟩,Value.slice (some ⟨wr.heap.size,0,none⟩) 0 0)).length=16):=by unfold Hid;rw[List.length_set];exact J1.o
    clear J1 J2 J3 J4 J5 q0 q1 q2;generalize us[0].1.kind=s0 at *;generalize us[0].1.links=s1 at *;generalize us[0].2=s2 at *;clear hku;generalize us.set 0 (⟨2,1,[]⟩,Value.slice (some ⟨wr.heap.size,0,none⟩) 0 0)=vs at *
    obtain ⟨wy,hwy⟩:∃ wy,wy=(((wr.alloc (.cells #[] 3)).setCell ⟨bt,0,none⟩ (.int .i64 2)).setCell ⟨bt,1,none⟩ (.int .i64 1)).setCell ⟨bt,2,none⟩ (.slice (some ⟨wr.heap.size,0,none⟩) 0 0):=⟨_,rfl⟩
    rw[← hwy] at G;go_upto_region 7 with fail;rw[← hwy];clear hwy x0 x1 y0 y1 e0 e1 e2 f0 f1 f2;go_wp2
    go_loopg [3] 24 (fun g i wz=>∃ k:Nat,k+g=24∧i=.int .i64 k∧Hid (NMc w0 wz bt bd bx vs (dsK k)))
    case atStart=>exact ⟨0,rfl,rfl,G.o⟩
    case round =>
     obtain ⟨k,hk,rfl,J⟩:=hrel;clear G;obtain ⟨x0,x1,-,-⟩:=zac J.o.hx
     by_cases hlt:k < 24
     ·have m0:(0:Int)≤(k:Int):=by omega
      have m1:(k:Int) < 24:=by omega
      obtain ⟨e0,e1⟩:=zag J.o.hd (k*3+2);rw[zzp hlt] at e0;have H:=zaa (J.o.setD (k*3+2) (.int .i64 (-1)) (zus hlt));clear J;go_wp2
      go_roundg (24 - (k+1))
      case measure=>omega
      case rel=>exact ⟨k+1,by omega,by go_num,H.o⟩
     ·obtain rfl:k=24:=by omega
      have hb:=J.o.b;have B9:=zaa (zab B0.o hb B0.o.size);have V9:=zaa ((hb.block _ hz0).trans V0.o);have l1:=J.o.l1;have l2:=J.o.l2;have zr:=hb.size;have ltT:=(Array.getElem?_eq_some_iff.1 J.o.ht).1;have ltD:=(Array.getElem?_eq_some_iff.1 J.o.hd).1
      have RT:Hid (∀ u0 u1,NwMd w.heap.size ((wr.setCell ⟨w.heap.size,0,none⟩ u0).setCell ⟨w.heap.size,1,none⟩ u1) (.agg #[.slice (some ⟨bt,0,none⟩) 16 16,.slice (some ⟨bd,0,none⟩) 24 24])):=fun u0 u1 w9 hs=>by
       have ht:w9.heap[bt]?=some (.cells (thv vs).toArray 128 (0,0)):=by
        rw[hs bt (by omega) (by simpa using ltT),Below.heap_setCell _ _ _ _ (by simp only;omega),Below.heap_setCell _ _ _ _ (by simp only;omega)];exact J.o.ht
       have hd:w9.heap[bd]?=some (.cells (zbm (dsK 24)).toArray 143 (0,0)):=by
        rw[hs bd (by omega) (by simpa using ltD),Below.heap_setCell _ _ _ _ (by simp only;omega),Below.heap_setCell _ _ _ _ (by simp only;omega)];exact J.o.hd
       refine ⟨_,_,rfl,⟨vs,G2.o,?_,fun k hk=>?_⟩,?_⟩
       ·rw[G1.o];exact yaau ht (by rw[zhw,G1.o])
       ·obtain ⟨a,ea⟩:=G3.o _ (List.getElem_mem hk)
        have e:vs[k].1.pages=[]:=by
         have q:vs[k].1=nwT[k]'(by rw[← G2.o,List.length_map];exact hk):=by
          have:=G2.o;simp only[← this,List.getElem_map]
         rw[q]
         have q2:∀ t∈nwT,t.pages=[]:=by
          intro t ht
          rcases List.mem_cons.1 ht with rfl | ht
          ·rfl
          ·rw[List.eq_of_mem_replicate ht]
         exact q2 _ (List.getElem_mem _)
        rw[ea,e];exact zxt _ a
       ·exact yaau hd (by rw[zee];rfl)
      obtain ⟨p0,p1,p2,p3⟩:=zac V9.o;clear J hb G1 G2 G3;go_wp2;have S2:((wr.setCell ⟨w.heap.size,0,none⟩ (.slice (some ⟨bt,0,none⟩) 16 16)).setCell ⟨w.heap.size,1,none⟩ (.slice (some ⟨bd,0,none⟩) 24 24)).heap[w.heap.size]?=some (.cells #[.slice (some ⟨bt,0,none⟩) 16 16,.slice (some ⟨bd,0,none⟩) 24 24] 40 (0,0)):=zal (xs:=[.slice (some ⟨bt,0,none⟩) 16 16,.slice none 0 0]) (zcx V9.o (.slice (some ⟨bt,0,none⟩) 16 16)) 1 _;obtain ⟨s0,s1,-,-⟩:=zac S2;refine bodyPost_ret (v:=.agg #[.slice (some ⟨bt,0,none⟩) 16 16,.slice (some ⟨bd,0,none⟩) 24 24]) (by simp[results,Tryz.results42,go_sem,s0,s1]) rfl ?_;exact ⟨_,rfl,RT.o _ _,(B9.o.setCell (by simp only;omega) _).setCell (by simp only;omega) _⟩
end Go.Proofs.YtbohndgbfbfldaaGreatDoor
