/- Several texts laid together: DuB, LastW, BlkReadI. -/
import Derived.Test.YtpgoeagccmcifaaGreatDoorZBQ
import Derived.Test.YtpgoeagccmcifaaGreatDoorZBR
import Derived.Test.YtpgoeagccmcifaaGreatDoorZAM
import Derived.Test.YtpgoeagccmcifaaGreatDoorZAE
import Derived.Test.YtpgoeagccmcifaaGreatDoorZAV
import Derived.Test.YtpgoeagccmcifaaGreatDoorZAW
import Derived.Deep.RegionHeld3
import Derived.Maps.OwnSet
import Derived.Deep.LoopGhost
import Derived.Test.YtpgoeagccmcifaaGreatDoorZBC
set_option maxRecDepth 100000
set_option maxHeartbeats 8000000
namespace Go.Proofs.YtpgoeagccmcifaaGreatDoor
open Go.RowKit
def flR (ns:List Ino) (ds:List Den) (s:ByteArray):Int×Int:=if 65536 < s.size then (0,2) else if zcj ns ds=true then flI ns ds s else (0,1)
def faI (ns:List Ino) (r:Int×Int):Ino:=if r.2=0 then zan ns r.1.toNat else zhc
theorem yaua {ns:List Ino} {ds:List Den} {s:ByteArray} (h:(flR ns ds s).2=0):zcj ns ds=true∧¬ 65536 < s.size∧flR ns ds s=flI ns ds s:=by
 unfold flR at h ⊢
 by_cases c:65536 < s.size
 ·rw[if_pos c] at h;simp at h
 ·rw[if_neg c] at h ⊢
  by_cases d:zcj ns ds=true
  ·rw[if_pos d];exact ⟨d,c,rfl⟩
  ·rw[if_neg d] at h;simp at h
theorem yavw (ns:List Ino) (ds:List Den) (s:ByteArray):(¬ (lkR ns ds s).2=0∧flR ns ds s=(0,(lkR ns ds s).2))∨((lkR ns ds s).2=0∧zcj ns ds=true∧∃ i:Nat,i < 16∧(lkR ns ds s).1=(i:Int)∧((zal ns (i:Int)=2∧flR ns ds s=(0,9))∨(¬ zal ns (i:Int)=2∧flR ns ds s=((i:Int),0)))):=by
 unfold lkR flR
 by_cases c:65536 < s.size
 ·rw[if_pos c,if_pos c];exact .inl ⟨by simp,rfl⟩
 ·rw[if_neg c,if_neg c]
  by_cases d:zcj ns ds=true
  ·rw[if_pos d,if_pos d];unfold flI
   by_cases e:(lkI ns ds s).2=0
   ·rw[if_pos e];refine .inr ⟨e,d,?_⟩
    by_cases f:zal ns (lkI ns ds s).1=2
    ·have k:=zzs (s:=s) d;rw[if_neg (by rw[f];omega)];exact ⟨(lkI ns ds s).1.toNat,by omega,by omega,.inl ⟨by rw[show (((lkI ns ds s).1.toNat:Nat):Int)=(lkI ns ds s).1 by omega];exact f,rfl⟩⟩
    ·obtain ⟨i,ei,hi,-,k⟩:=zmw (zbt.1 d) e f
     have k1:zal ns (lkI ns ds s).1=1:=by
      rw[ei,zbv (show i < ns.length by have:=(zba d).1;omega),← zbp];exact k
     rw[if_pos k1];exact ⟨i,hi,ei,.inr ⟨by rw[← ei];exact f,by rw[ei]⟩⟩
   ·rw[if_neg e];exact .inl ⟨e,rfl⟩
  ·rw[if_neg d,if_neg d];exact .inl ⟨by simp,rfl⟩
theorem ziy (v:Value) (ns:List Ino) (ds:List Den) (s:ByteArray) (w:World) (h:RdIm w v ns ds) (hw:ns.length≤1048576) (hp:ds.length≤1048576) (hT:TS w) (hE:ED w) (hF:FD w) (hr:∀ k (h:k < ns.length),ns[k].R) (hs:∀ k (h:k < ds.length),ds[k].name.size≤maxLen) :
  ∀ x,x=faI ns (flR ns ds s)→Calls Tryz.prog 18 #[v,.string s] w fun e w'=>e=.returned (.tuple #[.agg #[.int .i64 x.kind,.int .i64 x.size,.int .i64 x.links,.int .i64 x.m0,.int .i64 x.m1,.int .i64 x.m2,.int .i64 x.m3,.int .i64 x.m4,.int .i64 x.m5,.int .i64 x.m6,.int .i64 x.m7,.int .i64 (flR ns ds s).1],.int .i64 (flR ns ds s).2])∧Below w.heap.size w w':=by
 intro x hx;have HX:=zaa hx;have LL:=zaa (fun w1 (hb:Below w.heap.size w w1)=>zsx v ns ds s w1 (h.below hb) hw hp (hT.below hb) (hE.below hb) (hF.below hb) hr hs);have LD:=zaa (fun (hi:zcj ns ds=true) (i:Nat) (h16:i < 16) w1 (hb:Below w.heap.size w w1)=>zxq v ns ds (i:Int) w1 (h.below hb) (zba hi).1 (by omega));have WAYS:=zaa (yavw ns ds s);have L16:=zaa (fun hi=>(zba (ws:=ns) (ps:=ds) hi).1);obtain ⟨vW,vP,rfl,h1,h2⟩:=h;obtain ⟨aW,cW,rfl,_,hcW⟩:=h1.shape;obtain ⟨aP,cP,rfl,_,hcP⟩:=h2.shape;have HW:=zaa hcW;clear h1 h2 hr hs hT hE hF hcW hcP hx hw hp
 obtain ⟨W,hW⟩:∃ W,W=(w.alloc (.cells #[.slice aW ns.length cW,.slice aP ds.length cP] 67)).alloc (.cells #[.int .i64 0,.int .i64 0,.int .i64 0,.int .i64 0,.int .i64 0,.int .i64 0,.int .i64 0,.int .i64 0,.int .i64 0,.int .i64 0,.int .i64 0,.int .i64 0] 61):=⟨_,rfl⟩
 have hzW:W.heap.size=w.heap.size+1+1:=by rw[hW];simp
 have CA:Hid (∀ w',Below W.heap.size W w'→w'.cell? ⟨w.heap.size,0,none⟩=some (.slice aW ns.length cW)∧w'.cell? ⟨w.heap.size,1,none⟩=some (.slice aP ds.length cP)):=fun w' hb=>by
  have:w'.heap[w.heap.size]?=some (.cells #[.slice aW ns.length cW,.slice aP ds.length cP] 67 (0,0)):=(hb.block _ (by omega)).trans (by rw[hW];exact zaj (zag rfl));exact ⟨(zac this).1,(zac this).2.1⟩
 have CR:Hid (∀ w',Below W.heap.size W w'→w'.heap[w.heap.size+1]?=some (.cells ([.int .i64 0,.int .i64 0,.int .i64 0,.int .i64 0,.int .i64 0,.int .i64 0,.int .i64 0,.int .i64 0,.int .i64 0,.int .i64 0,.int .i64 0,.int .i64 0]:List Value).toArray 61 (0,0))):=fun w' hb=>(hb.block _ (by omega)).trans (by
  rw[hW];have:=zag (w:=w.alloc (.cells #[.slice aW ns.length cW,.slice aP ds.length cP] 67)) (o:=.cells #[.int .i64 0,.int .i64 0,.int .i64 0,.int .i64 0,.int .i64 0,.int .i64 0,.int .i64 0,.int .i64 0,.int .i64 0,.int .i64 0,.int .i64 0,.int .i64 0] 61) rfl;rw[World.size_alloc] at this
  exact this)
 have BW:Hid (Below w.heap.size w W):=by rw[hW];exact ((Below.refl _ _).alloc (Nat.le_refl _) _).alloc (by simp) _
 have hz0:w.heap.size+1 < W.heap.size:=by omega
 clear hzW;obtain ⟨x0,x1⟩:=CA.o _ (Below.refl _ _);generalize flR ns ds s=res at *;generalize lkR ns ds s=lr at *;obtain ⟨li,lc⟩:=lr;simp only at WAYS LL;go_enter Tryz.func18,Tryz.ntmps18;go_wp2_with fail;rw[← hW];clear hW x0 x1;refine (LL.o _ BW.o).mono ?_;rintro e w1 ⟨rfl,hb1⟩;have A1:=zaa hb1;have B1:=zaa (zab BW.o A1.o BW.o.size);have hz1:w.heap.size+1 < w1.heap.size:=Nat.lt_of_lt_of_le hz0 A1.o.size;clear hb1 LL
 rcases WAYS.o with ⟨c,rfl⟩ | ⟨rfl,hi,i,i16,rfl,c⟩
 ·have q:(lc != 0)=true:=by rw[bne_iff_ne];exact c
  obtain rfl:x=zhc:=HX.o.trans (if_neg c);have E:=zaa (zak (CR.o _ A1.o));have p0:=(E.o 0).1;have f0:=(E.o 0).2;have p1:=(E.o 1).1;have f1:=(E.o 1).2;have p2:=(E.o 2).1;have f2:=(E.o 2).2;have p3:=(E.o 3).1;have f3:=(E.o 3).2;have p4:=(E.o 4).1;have f4:=(E.o 4).2;have p5:=(E.o 5).1;have f5:=(E.o 5).2;have p6:=(E.o 6).1;have f6:=(E.o 6).2;have p7:=(E.o 7).1;have f7:=(E.o 7).2;have p8:=(E.o 8).1;have f8:=(E.o 8).2;have p9:=(E.o 9).1;have f9:=(E.o 9).2;have p10:=(E.o 10).1;have f10:=(E.o 10).2;have p11:=(E.o 11).1;have f11:=(E.o 11).2;simp only[List.getElem?_cons_zero,List.getElem?_cons_succ] at p0 p1 p2 p3 p4 p5 p6 p7 p8 p9 p10 p11;clear CR CA WAYS LD HW L16 c;go_wp2;refine bodyPost_ret (v:=.tuple #[.agg #[.int .i64 0,.int .i64 0,.int .i64 0,.int .i64 0,.int .i64 0,.int .i64 0,.int .i64 0,.int .i64 0,.int .i64 0,.int .i64 0,.int .i64 0,.int .i64 0],.int .i64 lc]) (by simp[results,Tryz.results18,go_sem,p0,p1,p2,p3,p4,p5,p6,p7,p8,p9,p10,p11]) rfl ⟨rfl,?_⟩
  repeat (first | with_reducible exact B1.o | refine Below.setCell ?_ (by simp only;omega) _)
 ·have LD2:=zaa (LD.o hi i i16)
  have i1:i < ns.length:=by have:=L16.o hi;omega
  have i0:(0:Int)≤(i:Int):=by omega
  have il:(i:Int) < (ns.length:Int):=by omega
  obtain ⟨bW,oW,rfl,hblW,hcellW⟩:=HW.o (by omega)
  have HC:Hid (∀ k (h:k < ns.length) (x:Ino),x=ns[k]→∀ w',Below w.heap.size w w'→w'.cell? ⟨bW,oW+k*11,none⟩=some (.int .i64 x.kind)∧w'.cell? ⟨bW,oW+k*11+1,none⟩=some (.int .i64 x.size)∧w'.cell? ⟨bW,oW+k*11+2,none⟩=some (.int .i64 x.links)∧w'.cell? ⟨bW,oW+k*11+3,none⟩=some (.int .i64 x.m0)∧w'.cell? ⟨bW,oW+k*11+4,none⟩=some (.int .i64 x.m1)∧w'.cell? ⟨bW,oW+k*11+5,none⟩=some (.int .i64 x.m2)∧w'.cell? ⟨bW,oW+k*11+6,none⟩=some (.int .i64 x.m3)∧w'.cell? ⟨bW,oW+k*11+7,none⟩=some (.int .i64 x.m4)∧w'.cell? ⟨bW,oW+k*11+8,none⟩=some (.int .i64 x.m5)∧w'.cell? ⟨bW,oW+k*11+9,none⟩=some (.int .i64 x.m6)∧w'.cell? ⟨bW,oW+k*11+10,none⟩=some (.int .i64 x.m7)):=fun k h x e w' hb=>by
   obtain ⟨a0,a1,a2,a3,a4,a5,a6,a7,a8,a9,a10⟩:=hcellW k h;subst e;exact ⟨(hb.cell (p:=⟨bW,oW+k*11,none⟩) hblW).trans a0,(hb.cell (p:=⟨bW,oW+k*11+1,none⟩) hblW).trans a1,(hb.cell (p:=⟨bW,oW+k*11+2,none⟩) hblW).trans a2,(hb.cell (p:=⟨bW,oW+k*11+3,none⟩) hblW).trans a3,(hb.cell (p:=⟨bW,oW+k*11+4,none⟩) hblW).trans a4,(hb.cell (p:=⟨bW,oW+k*11+5,none⟩) hblW).trans a5,(hb.cell (p:=⟨bW,oW+k*11+6,none⟩) hblW).trans a6,(hb.cell (p:=⟨bW,oW+k*11+7,none⟩) hblW).trans a7,(hb.cell (p:=⟨bW,oW+k*11+8,none⟩) hblW).trans a8,(hb.cell (p:=⟨bW,oW+k*11+9,none⟩) hblW).trans a9,(hb.cell (p:=⟨bW,oW+k*11+10,none⟩) hblW).trans a10⟩
  clear hcellW HW L16 LD WAYS hi;obtain ⟨x0,x1⟩:=CA.o _ A1.o;generalize hkd:zal ns (i:Int)=kd at *
  rcases c with ⟨rfl,rfl⟩ | ⟨c,rfl⟩
  ·obtain rfl:x=zhc:=HX.o.trans (if_neg (by simp));go_wp2_with fail;refine (LD2.o _ B1.o).mono ?_;rintro e w2 ⟨rfl,hb2⟩;have A2:=zaa (zim A1.o hb2);have B2:=zaa (zab B1.o hb2 B1.o.size);have hz2:w.heap.size+1 < w2.heap.size:=Nat.lt_of_lt_of_le hz1 hb2.size;clear hb2 x0 x1;have E:=zaa (zak (CR.o _ A2.o));have p0:=(E.o 0).1;have f0:=(E.o 0).2;have p1:=(E.o 1).1;have f1:=(E.o 1).2;have p2:=(E.o 2).1;have f2:=(E.o 2).2;have p3:=(E.o 3).1;have f3:=(E.o 3).2;have p4:=(E.o 4).1;have f4:=(E.o 4).2;have p5:=(E.o 5).1;have f5:=(E.o 5).2;have p6:=(E.o 6).1;have f6:=(E.o 6).2;have p7:=(E.o 7).1;have f7:=(E.o 7).2;have p8:=(E.o 8).1;have f8:=(E.o 8).2;have p9:=(E.o 9).1;have f9:=(E.o 9).2;have p10:=(E.o 10).1;have f10:=(E.o 10).2;have p11:=(E.o 11).1;have f11:=(E.o 11).2;simp only[List.getElem?_cons_zero,List.getElem?_cons_succ] at p0 p1 p2 p3 p4 p5 p6 p7 p8 p9 p10 p11;clear CR CA LD2 hkd;go_wp2;refine bodyPost_ret (v:=.tuple #[.agg #[.int .i64 0,.int .i64 0,.int .i64 0,.int .i64 0,.int .i64 0,.int .i64 0,.int .i64 0,.int .i64 0,.int .i64 0,.int .i64 0,.int .i64 0,.int .i64 0],.int .i64 9]) (by simp[results,Tryz.results18,go_sem,p0,p1,p2,p3,p4,p5,p6,p7,p8,p9,p10,p11]) rfl ⟨rfl,?_⟩
   repeat (first | with_reducible exact B2.o | refine Below.setCell ?_ (by simp only;omega) _)
  ·have hxi:x=ns[i]:=by
    rw[HX.o];unfold faI;rw[if_pos rfl,Int.toNat_natCast,zbp i1]
   have q:(kd == 2)=false:=by rw[beq_eq_false_iff_ne];exact c
   have HC2:=zaa (HC.o i i1 x hxi);clear HX hxi HC c hkd;go_wp2_with fail;refine (LD2.o _ B1.o).mono ?_;rintro e w2 ⟨rfl,hb2⟩;have A2:=zaa (zim A1.o hb2);have B2:=zaa (zab B1.o hb2 B1.o.size);have hz2:w.heap.size+1 < w2.heap.size:=Nat.lt_of_lt_of_le hz1 hb2.size;clear hb2 x0 x1;have E:=zaa (zak (CR.o _ A2.o));have p0:=(E.o 0).1;have f0:=(E.o 0).2;have p1:=(E.o 1).1;have f1:=(E.o 1).2;have p2:=(E.o 2).1;have f2:=(E.o 2).2;have p3:=(E.o 3).1;have f3:=(E.o 3).2;have p4:=(E.o 4).1;have f4:=(E.o 4).2;have p5:=(E.o 5).1;have f5:=(E.o 5).2;have p6:=(E.o 6).1;have f6:=(E.o 6).2;have p7:=(E.o 7).1;have f7:=(E.o 7).2;have p8:=(E.o 8).1;have f8:=(E.o 8).2;have p9:=(E.o 9).1;have f9:=(E.o 9).2;have p10:=(E.o 10).1;have f10:=(E.o 10).2;have p11:=(E.o 11).1;have f11:=(E.o 11).2;simp only[List.getElem?_cons_zero,List.getElem?_cons_succ] at p0 p1 p2 p3 p4 p5 p6 p7 p8 p9 p10 p11;obtain ⟨x0,x1⟩:=CA.o _ A2.o;obtain ⟨a0,a1,a2,a3,a4,a5,a6,a7,a8,a9,a10⟩:=HC2.o _ B2.o;clear CR CA LD2 HC2;go_wp2;refine bodyPost_ret (v:=.tuple #[.agg #[.int .i64 x.kind,.int .i64 x.size,.int .i64 x.links,.int .i64 x.m0,.int .i64 x.m1,.int .i64 x.m2,.int .i64 x.m3,.int .i64 x.m4,.int .i64 x.m5,.int .i64 x.m6,.int .i64 x.m7,.int .i64 (i:Int)],.int .i64 0]) (by simp[results,Tryz.results18,go_sem,p0,p1,p2,p3,p4,p5,p6,p7,p8,p9,p10,p11]) rfl ⟨rfl,?_⟩
   repeat (first | with_reducible exact B2.o | refine Below.setCell ?_ (by simp only;omega) _)
def NW (w:World):Prop:=∃ t fr,w.heap[1]?=some (.cells #[.int .i64 (-1),.int .i64 0] t fr)
theorem NW.lt {w:World} (h:NW w):1 < w.heap.size:=by
 obtain ⟨t,fr,h⟩:=h;exact (Array.getElem?_eq_some_iff.1 h).1
theorem NW.later {w w':World} {B:Nat} (h:NW w) (hB:1 < B) (hb:Below B w w'):NW w':=by
 obtain ⟨t,fr,h⟩:=h;exact ⟨t,fr,(hb.block 1 hB).trans h⟩
theorem NW.below {w w':World} (h:NW w) (hb:Below w.heap.size w w'):NW w':=h.later h.lt hb
theorem NW.cells {w:World} (h:NW w):w.cell? ⟨1,0,none⟩=some (.int .i64 (-1))∧w.cell? ⟨1,1,none⟩=some (.int .i64 0):=by
 obtain ⟨t,fr,h⟩:=h;simp[World.cell?,h]
def zlz (at_:Int) (acc:Se×Int) (p:Se):Se×Int:=if p.at_=at_∧0 < acc.2 then (p,acc.2 - 1) else acc
def lwR (at_ most:Int) (ps:List Se):Se×Int:=ps.foldl (zlz at_) (⟨-1,0⟩,most)
def zzg (at_ most:Int) (ps:List Se):Se:=(lwR at_ most ps).1
theorem yaec (at_ most:Int) (ps:List Se) (p:Se):lwR at_ most (ps ++ [p])=zlz at_ (lwR at_ most ps) p:=by simp[lwR]
theorem yaxe {at_ most:Int} {ps:List Se} {m:Nat} (hm:m < ps.length) (h:ps[m].at_=at_) (h0:0 < (lwR at_ most (ps.take m)).2):lwR at_ most (ps.take (m+1))=(ps[m],(lwR at_ most (ps.take m)).2 - 1):=by
 rw[zcv ps m hm,yaec];unfold zlz;rw[if_pos ⟨h,h0⟩]
theorem yafy {at_ most:Int} {ps:List Se} {m:Nat} (hm:m < ps.length) (h:¬ (ps[m].at_=at_∧0 < (lwR at_ most (ps.take m)).2)):lwR at_ most (ps.take (m+1))=lwR at_ most (ps.take m):=by
 rw[zcv ps m hm,yaec];unfold zlz;rw[if_neg h]
structure LwInv (w wr:World) (s:Se):Prop where
 last:wr.heap[w.heap.size+1]?=some (.cells #[.int .i64 s.at_,.int .i64 s.val] 150 (0,0))
 res:wr.heap[w.heap.size]?=some (.cells #[.int .i64 0,.int .i64 0] 150 (0,0))
 below:Below w.heap.size w wr
theorem LwInv.alloc {w wr:World} {s:Se} (h:LwInv w wr s) (o:Obj):LwInv w (wr.alloc o) s :=
 ⟨zaj h.last,zaj h.res,h.below.alloc h.below.size o⟩
theorem LwInv.set {w wr:World} {s:Se} (h:LwInv w wr s) (p:Se):LwInv w ((wr.setCell ⟨w.heap.size+1,0,none⟩ (.int .i64 p.at_)).setCell ⟨w.heap.size+1,1,none⟩ (.int .i64 p.val)) p :=
 ⟨znc (zmk h.last _) _,by rw[Below.heap_setCell _ _ _ _ (by simp only;omega),Below.heap_setCell _ _ _ _ (by simp only;omega)];exact h.res,(h.below.setCell (by simp only;omega) _).setCell (by simp only;omega) _⟩
theorem zwv (v:Value) (ps:List Se) (at_ most:Int) (w:World) (h:RdE w v ps) (hG:NW w) (hp:ps.length≤1048576) (h0:0≤most) (h1:most≤400) :
  Calls Tryz.prog 104 #[v,.int .i64 at_,.int .i64 most] w fun e w'=>e=.returned (.agg #[.int .i64 (zzg at_ most ps).at_,.int .i64 (zzg at_ most ps).val])∧Below w.heap.size w w':=by
 obtain ⟨aP,cP,rfl,_,hcP⟩:=h.shape;have HP:=zaa hcP;have hw0:=hG.lt;have hb0:Below w.heap.size w (w.alloc (.cells #[.int .i64 0,.int .i64 0] 150)):=(Below.refl _ _).alloc (Nat.le_refl _) _;obtain ⟨g0,g1⟩:=(hG.below hb0).cells
 have INV:Hid (LwInv w ((w.alloc (.cells #[.int .i64 0,.int .i64 0] 150)).alloc (.cells #[.int .i64 (-1),.int .i64 0] 150)) (lwR at_ most (ps.take 0)).1) :=
  ⟨zag (by simp),zaj (zag rfl),hb0.alloc (by simp) _⟩
 clear h hcP hb0;go_enter Tryz.func104,Tryz.ntmps104;go_wp2
 go_loopw [2,9,13] (fun mo _ i wr=>∃ m:Nat,m≤ps.length∧i=.int .i64 m∧mo=.int .i64 (lwR at_ most (ps.take m)).2∧(0≤(lwR at_ most (ps.take m)).2∧(lwR at_ most (ps.take m)).2≤most)∧Hid (LwInv w wr (lwR at_ most (ps.take m)).1)) (fun _ _ i _=>ps.length - (intOf i).toNat)
 case atStart=>exact ⟨0,by omega,rfl,rfl,⟨h0,Int.le_refl _⟩,INV⟩
 case round =>
  obtain ⟨m,hm,rfl,rfl,⟨hm0,hm1⟩,I⟩:=hrel
  by_cases hlt:m < ps.length
  ·obtain ⟨b,o,rfl,hbl,hcell⟩:=HP.o (by omega);obtain ⟨c0,c1⟩:=hcell m hlt;have d0:=(I.o.below.cell (p:=⟨b,o+m*2,none⟩) hbl).trans c0;have d1:=(I.o.below.cell (p:=⟨b,o+m*2+1,none⟩) hbl).trans c1;have hzr:w.heap.size+2≤wr.heap.size:=(Array.getElem?_eq_some_iff.1 I.o.last).1;obtain ⟨y0,y1,y2,y3⟩:=zac (zaj (o:=.cells #[.int .i64 ps[m].at_,.int .i64 ps[m].val] 150) I.o.last);clear hcell c0 c1
   by_cases q:ps[m].at_=at_
   ·have q':(ps[m].at_ == at_)=true:=by simpa using q
    by_cases q2:0 < (lwR at_ most (ps.take m)).2
    ·have E:=zaa (yaxe hlt q q2);have I1:=zaa ((I.o.alloc (.cells #[.int .i64 ps[m].at_,.int .i64 ps[m].val] 150)).set ps[m]);have I2:=zaa ((I.o.set ps[m]).alloc (.cells #[.int .i64 ps[m].at_,.int .i64 ps[m].val] 150));generalize (lwR at_ most (ps.take m)).2=mo at *;clear q;go_wp2
     go_roundw
     case rel =>
      refine ⟨m+1,by omega,by go_num,?_,?_,?_⟩
      ·rw[E.o]
      ·rw[E.o];exact ⟨by show 0≤mo - 1;omega,by show mo - 1≤most;omega⟩
      ·rw[E.o]
       first | exact I1 | exact I2
     case measure=>simp[intOf];omega
    ·have E:=zaa (yafy hlt (fun c=>q2 c.2));have I1:=zaa (I.o.alloc (.cells #[.int .i64 ps[m].at_,.int .i64 ps[m].val] 150))
     have e0:(lwR at_ most (ps.take m)).2=0:=by omega
     have E0:=zaa e0;rw[e0];clear e0 q q2;go_wp2
     go_roundw
     case rel =>
      refine ⟨m+1,by omega,by go_num,?_,?_,?_⟩
      ·rw[E.o,E0.o]
      ·rw[E.o];exact ⟨hm0,hm1⟩
      ·rw[E.o];exact I1
     case measure=>simp[intOf];omega
   ·have q':(ps[m].at_ == at_)=false:=by simpa using q
    have E:=zaa (yafy (most:=most) hlt (fun c=>q c.1));have I1:=zaa (I.o.alloc (.cells #[.int .i64 ps[m].at_,.int .i64 ps[m].val] 150));clear q;go_wp2
    go_roundw
    case rel =>
     refine ⟨m+1,by omega,by go_num,?_,?_,?_⟩
     ·rw[E.o]
     ·rw[E.o];exact ⟨hm0,hm1⟩
     ·rw[E.o];exact I1
    case measure=>simp[intOf];omega
  ·have e:m=ps.length:=by omega
   subst e;rw[List.take_length] at I;obtain ⟨y0,y1,y2,y3⟩:=zac I.o.last;obtain ⟨t0,t1,t2,t3⟩:=zac I.o.res;go_wp2;refine bodyPost_ret (v:=.agg #[.int .i64 (lwR at_ most ps).1.at_,.int .i64 (lwR at_ most ps).1.val]) (by simp[results,Tryz.results104,go_sem,t0,t1]) rfl ?_;exact ⟨rfl,(I.o.below.setCell (by simp only;omega) _).setCell (by simp only;omega) _⟩
theorem zle (at_:Int):∀ (ps:List Se) (s:Se) (mo:Int),(ps.length:Int)≤mo→((∀ p∈ps,¬ p.at_=at_)∧(ps.foldl (zlz at_) (s,mo)).1=s)∨((ps.foldl (zlz at_) (s,mo)).1.at_=at_∧∀ d,zhi at_ d ps=(ps.foldl (zlz at_) (s,mo)).1.val)
 | [],s,mo,_=>.inl ⟨by simp,rfl⟩
 | p :: ps,s,mo,h=>by
  have h':(ps.length:Int)+1≤mo:=by simpa using h
  by_cases c:p.at_=at_
  ·have e:zlz at_ (s,mo) p=(p,mo - 1):=if_pos ⟨c,by show 0 < mo;omega⟩;rw[List.foldl_cons,e]
   rcases zle at_ ps p (mo - 1) (by omega) with ⟨h1,h2⟩ | ⟨h1,h2⟩
   ·right;rw[h2];refine ⟨c,fun d=>?_⟩
    show zhi at_ (if p.at_=at_ then p.val else d) ps=p.val
    rw[if_pos c];exact zhf h1
   ·exact .inr ⟨h1,fun d=>h2 _⟩
  ·have e:zlz at_ (s,mo) p=(s,mo):=if_neg (fun x=>c x.1);rw[List.foldl_cons,e]
   rcases zle at_ ps s mo (by omega) with ⟨h1,h2⟩ | ⟨h1,h2⟩
   ·left;refine ⟨fun q hq=>?_,h2⟩
    rcases List.mem_cons.1 hq with rfl | hq
    ·exact c
    ·exact h1 q hq
   ·exact .inr ⟨h1,fun d=>h2 _⟩
theorem yahk {at_:Int} {ps:List Se} (h:ps.length≤400):((∀ p∈ps,¬ p.at_=at_)∧zzg at_ 400 ps=⟨-1,0⟩)∨((zzg at_ 400 ps).at_=at_∧∀ d,zhi at_ d ps=(zzg at_ 400 ps).val) :=
 zle at_ ps ⟨-1,0⟩ 400 (by omega)
theorem zsk (v:Value) (ws:List Int) (ps:List Se) (at_:Int) (w:World) (h:RdBlk w v ws ps) (hG:NW w) (hw:ws.length≤1048576) (hp:ps.length≤1048576) :
  Calls Tryz.prog 51 #[v,.int .i64 at_] w fun e w'=>e=.returned (.tuple #[.int .i64 (yaby ws ps at_),.int .i64 (zms ws ps at_)])∧Below w.heap.size w w':=by
 have HR:=zaa h;obtain ⟨vW,vP,rfl,h1,h2⟩:=h;have H2:=zaa h2;obtain ⟨aW,cW,rfl,_,hcW⟩:=h1.shape;obtain ⟨aP,cP,rfl,_⟩:=h2.shape;clear h1 h2;have hb0:Below w.heap.size w (w.alloc (.cells #[.slice aW ws.length cW,.slice aP ps.length cP] 29)):=(Below.refl _ _).alloc (Nat.le_refl _) _
 rcases zul ws ps at_ with hc | ⟨hc,hok,k,rfl,hk,hkl⟩
 ·have hne:(zms ws ps at_ != 0)=true:=by rcases hc with hc | hc <;> simp[hc]
  have E:=zaa (yalf (ws:=ws) (ps:=ps) (at_:=at_) (by rcases hc with hc | hc <;> simp[hc]));clear hc hcW;go_enter Tryz.func51,Tryz.ntmps51;go_wp2_with (go_at_call 103;refine (zcz _ ws ps _ _ (HR.o.below hb0) hw hp).mono ?_;rintro e w1 ⟨rfl,hb1⟩);go_ret2;exact ⟨zdi E.o.symm rfl,zab hb0 hb1 (by simp)⟩
 ·have E:=zaa (yare hc hkl);have C:=zaa hc;obtain ⟨bW,oW,rfl,hbW,hcellW⟩:=hcW (by omega);have hcw:=zaa (hcellW k hkl);have LF:=zaa (yahk (at_:=(k:Int)) (ps:=ps) (zci hok).2);clear hc hcW hcellW;go_enter Tryz.func51,Tryz.ntmps51;go_wp2_with fail;refine (zcz _ ws ps _ _ (HR.o.below hb0) hw hp).mono ?_;rw[C.o];rintro e w1 ⟨rfl,hb1⟩;have V1:=(hb1.block w.heap.size (by simp)).trans (zag rfl);obtain ⟨x1,x2,_,_⟩:=zac V1;have B1:=zaa (zab hb0 hb1 (by simp))
  have hz1:w.heap.size+1≤w1.heap.size:=by have:=hb1.size;simp at this;omega
  have VH:=zaa V1;have G1:=zaa (hG.below B1.o);clear V1 hb1 hb0;go_wp2_with fail;refine (zwv _ ps _ _ _ (Rd.below H2.o B1.o) G1.o hp (by omega) (by omega)).mono ?_
  rcases LF.o with ⟨hn,hl⟩ | ⟨ha,hl⟩
  ·rw[hl];rintro e w2 ⟨rfl,hb2⟩;have hz2:=hb2.size;have B2:=zaa (zab B1.o hb2 (by omega))
   have hb3:=zab B1.o hb2 (by omega) |>.alloc (by omega) (.cells #[.int .i64 (-1),.int .i64 0] 150)
   obtain ⟨g0,g1⟩:=((G1.o.below hb2).below ((Below.refl _ _).alloc (Nat.le_refl _) (.cells #[.int .i64 (-1),.int .i64 0] 150))).cells;obtain ⟨x1',x2',_,_⟩:=zac (zaj (o:=.cells #[.int .i64 (-1),.int .i64 0] 150) ((hb2.block w.heap.size (by omega)).trans VH.o));have hcw1:=(hb3.cell (p:=⟨bW,oW+k,none⟩) hbW).trans hcw.o;have B3:=zaa hb3;have E2:=zaa (zhf (d:=ws[k]) hn);clear hb2 hb3 hn hl x1 x2;go_wp2;go_ret2;exact ⟨zdi (E.o.trans E2.o).symm C.o.symm,B3.o⟩
  ·rw[ha];rintro e w2 ⟨rfl,hb2⟩;have hz2:=hb2.size
   have hb3:=zab B1.o hb2 (by omega) |>.alloc (by omega) (.cells #[.int .i64 (k:Int),.int .i64 (zzg (k:Int) 400 ps).val] 150)
   obtain ⟨g0,g1⟩:=((G1.o.below hb2).below ((Below.refl _ _).alloc (Nat.le_refl _) (.cells #[.int .i64 (k:Int),.int .i64 (zzg (k:Int) 400 ps).val] 150))).cells;have B3:=zaa hb3;have E2:=zaa (hl ws[k])
   have kn:((k:Int) == -1)=false:=by first | (simp;done) | (simp;omega)
   clear hb2 hb3 ha hl x1 x2;generalize (zzg (k:Int) 400 ps).val=y at *;go_wp2;go_ret2;exact ⟨zdi (E.o.trans E2.o).symm C.o.symm,B3.o⟩
end Go.Proofs.YtpgoeagccmcifaaGreatDoor
