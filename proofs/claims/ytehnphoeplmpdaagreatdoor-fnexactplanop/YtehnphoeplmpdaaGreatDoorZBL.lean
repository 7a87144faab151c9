/- Several texts laid together: DuB, DuJ. -/
import Derived.Test.YtehnphoeplmpdaaGreatDoorZBF
import Derived.Test.YtehnphoeplmpdaaGreatDoorZBH
import Derived.Test.YtehnphoeplmpdaaGreatDoorZBG
import Derived.Test.YtehnphoeplmpdaaGreatDoorPlR
import Derived.Test.YtehnphoeplmpdaaGreatDoorZAE
import Derived.Test.YtehnphoeplmpdaaGreatDoorZAB
set_option maxRecDepth 100000
set_option maxHeartbeats 8000000
namespace Go.Proofs.YtehnphoeplmpdaaGreatDoor
open Go.RowKit
def flR (ns:List Ino) (ds:List Den) (s:ByteArray):Int×Int:=if 65536 < s.size then (0,2) else if zay ns ds=true then flI ns ds s else (0,1)
def faI (ns:List Ino) (r:Int×Int):Ino:=if r.2=0 then zci ns r.1.toNat else zav
theorem yaaf {ns:List Ino} {ds:List Den} {s:ByteArray} (h:(flR ns ds s).2=0):zay ns ds=true∧¬ 65536 < s.size∧flR ns ds s=flI ns ds s:=by
 unfold flR at h ⊢
 by_cases c:65536 < s.size
 ·rw[if_pos c] at h;simp at h
 ·rw[if_neg c] at h ⊢
  by_cases d:zay ns ds=true
  ·rw[if_pos d];exact ⟨d,c,rfl⟩
  ·rw[if_neg d] at h;simp at h
theorem yaqg (ns:List Ino) (ds:List Den) (s:ByteArray):(¬ (lkR ns ds s).2=0∧flR ns ds s=(0,(lkR ns ds s).2))∨((lkR ns ds s).2=0∧zay ns ds=true∧∃ i:Nat,i < 16∧(lkR ns ds s).1=(i:Int)∧((zai ns (i:Int)=2∧flR ns ds s=(0,9))∨(¬ zai ns (i:Int)=2∧flR ns ds s=((i:Int),0)))):=by
 unfold lkR flR
 by_cases c:65536 < s.size
 ·rw[if_pos c,if_pos c];exact .inl ⟨by simp,rfl⟩
 ·rw[if_neg c,if_neg c]
  by_cases d:zay ns ds=true
  ·rw[if_pos d,if_pos d];unfold flI
   by_cases e:(lkI ns ds s).2=0
   ·rw[if_pos e];refine .inr ⟨e,d,?_⟩
    by_cases f:zai ns (lkI ns ds s).1=2
    ·have k:=zmq (s:=s) d;rw[if_neg (by rw[f];omega)];exact ⟨(lkI ns ds s).1.toNat,by omega,by omega,.inl ⟨by rw[show (((lkI ns ds s).1.toNat:Nat):Int)=(lkI ns ds s).1 by omega];exact f,rfl⟩⟩
    ·obtain ⟨i,ei,hi,-,k⟩:=zne (zca.1 d) e f
     have k1:zai ns (lkI ns ds s).1=1:=by
      rw[ei,zba (show i < ns.length by have:=(zao d).1;omega),← zcn];exact k
     rw[if_pos k1];exact ⟨i,hi,ei,.inr ⟨by rw[← ei];exact f,by rw[ei]⟩⟩
   ·rw[if_neg e];exact .inl ⟨e,rfl⟩
  ·rw[if_neg d,if_neg d];exact .inl ⟨by simp,rfl⟩
theorem zhp (v:Value) (ns:List Ino) (ds:List Den) (s:ByteArray) (w:World) (h:RdIm w v ns ds) (hw:ns.length≤1048576) (hp:ds.length≤1048576) (hT:TS w) (hE:ED w) (hF:FD w) (hr:∀ k (h:k < ns.length),ns[k].R) (hs:∀ k (h:k < ds.length),ds[k].name.size≤maxLen) :
  ∀ x,x=faI ns (flR ns ds s)→Calls Tryz.prog 170 #[v,.string s] w fun e w'=>e=.returned (.tuple #[.agg #[.int .i64 x.kind,.int .i64 x.size,.int .i64 x.links,.int .i64 x.m0,.int .i64 x.m1,.int .i64 x.m2,.int .i64 x.m3,.int .i64 x.m4,.int .i64 x.m5,.int .i64 x.m6,.int .i64 x.m7,.int .i64 (flR ns ds s).1],.int .i64 (flR ns ds s).2])∧Below w.heap.size w w':=by
 intro x hx;have HX:=zaa hx;have LL:=zaa (fun w1 (hb:Below w.heap.size w w1)=>zdu v ns ds s w1 (h.below hb) hw hp (hT.below hb) (hE.below hb) (hF.below hb) hr hs);have LD:=zaa (fun (hi:zay ns ds=true) (i:Nat) (h16:i < 16) w1 (hb:Below w.heap.size w w1)=>zid v ns ds (i:Int) w1 (h.below hb) (zao hi).1 (by omega));have WAYS:=zaa (yaqg ns ds s);have L16:=zaa (fun hi=>(zao (ws:=ns) (ps:=ds) hi).1);obtain ⟨vW,vP,rfl,h1,h2⟩:=h;obtain ⟨aW,cW,rfl,_,hcW⟩:=h1.shape;obtain ⟨aP,cP,rfl,_,hcP⟩:=h2.shape;have HW:=zaa hcW;clear h1 h2 hr hs hT hE hF hcW hcP hx hw hp
 obtain ⟨W,hW⟩:∃ W,W=(w.alloc (.cells #[.slice aW ns.length cW,.slice aP ds.length cP] 79)).alloc (.cells #[.int .i64 0,.int .i64 0,.int .i64 0,.int .i64 0,.int .i64 0,.int .i64 0,.int .i64 0,.int .i64 0,.int .i64 0,.int .i64 0,.int .i64 0,.int .i64 0] 148):=⟨_,rfl⟩
 have hzW:W.heap.size=w.heap.size+1+1:=by rw[hW];simp
 have CA:Hid (∀ w',Below W.heap.size W w'→w'.cell? ⟨w.heap.size,0,none⟩=some (.slice aW ns.length cW)∧w'.cell? ⟨w.heap.size,1,none⟩=some (.slice aP ds.length cP)):=fun w' hb=>by
  have:w'.heap[w.heap.size]?=some (.cells #[.slice aW ns.length cW,.slice aP ds.length cP] 79 (0,0)):=(hb.block _ (by omega)).trans (by rw[hW];exact zat (zah rfl));exact ⟨(zac this).1,(zac this).2.1⟩
 have CR:Hid (∀ w',Below W.heap.size W w'→w'.heap[w.heap.size+1]?=some (.cells ([.int .i64 0,.int .i64 0,.int .i64 0,.int .i64 0,.int .i64 0,.int .i64 0,.int .i64 0,.int .i64 0,.int .i64 0,.int .i64 0,.int .i64 0,.int .i64 0]:List Value).toArray 148 (0,0))):=fun w' hb=>(hb.block _ (by omega)).trans (by
  rw[hW];have:=zah (w:=w.alloc (.cells #[.slice aW ns.length cW,.slice aP ds.length cP] 79)) (o:=.cells #[.int .i64 0,.int .i64 0,.int .i64 0,.int .i64 0,.int .i64 0,.int .i64 0,.int .i64 0,.int .i64 0,.int .i64 0,.int .i64 0,.int .i64 0,.int .i64 0] 148) rfl;rw[World.size_alloc] at this
  exact this)
 have BW:Hid (Below w.heap.size w W):=by rw[hW];exact ((Below.refl _ _).alloc (Nat.le_refl _) _).alloc (by simp) _
 have hz0:w.heap.size+1 < W.heap.size:=by omega
 clear hzW;obtain ⟨x0,x1⟩:=CA.o _ (Below.refl _ _);generalize flR ns ds s=res at *;generalize lkR ns ds s=lr at *;obtain ⟨li,lc⟩:=lr;simp only at WAYS LL;go_enter Tryz.func170,Tryz.ntmps170;go_wp2_with fail;rw[← hW];clear hW x0 x1;refine (LL.o _ BW.o).mono ?_;rintro e w1 ⟨rfl,hb1⟩;have A1:=zaa hb1;have B1:=zaa (zab BW.o A1.o BW.o.size);have hz1:w.heap.size+1 < w1.heap.size:=Nat.lt_of_lt_of_le hz0 A1.o.size;clear hb1 LL
 rcases WAYS.o with ⟨c,rfl⟩ | ⟨rfl,hi,i,i16,rfl,c⟩
 ·have q:(lc != 0)=true:=by rw[bne_iff_ne];exact c
  obtain rfl:x=zav:=HX.o.trans (if_neg c);have E:=zaa (zae (CR.o _ A1.o));have p0:=(E.o 0).1;have f0:=(E.o 0).2;have p1:=(E.o 1).1;have f1:=(E.o 1).2;have p2:=(E.o 2).1;have f2:=(E.o 2).2;have p3:=(E.o 3).1;have f3:=(E.o 3).2;have p4:=(E.o 4).1;have f4:=(E.o 4).2;have p5:=(E.o 5).1;have f5:=(E.o 5).2;have p6:=(E.o 6).1;have f6:=(E.o 6).2;have p7:=(E.o 7).1;have f7:=(E.o 7).2;have p8:=(E.o 8).1;have f8:=(E.o 8).2;have p9:=(E.o 9).1;have f9:=(E.o 9).2;have p10:=(E.o 10).1;have f10:=(E.o 10).2;have p11:=(E.o 11).1;have f11:=(E.o 11).2;simp only[List.getElem?_cons_zero,List.getElem?_cons_succ] at p0 p1 p2 p3 p4 p5 p6 p7 p8 p9 p10 p11;clear CR CA WAYS LD HW L16 c;go_wp2;refine bodyPost_ret (v:=.tuple #[.agg #[.int .i64 0,.int .i64 0,.int .i64 0,.int .i64 0,.int .i64 0,.int .i64 0,.int .i64 0,.int .i64 0,.int .i64 0,.int .i64 0,.int .i64 0,.int .i64 0],.int .i64 lc]) (by simp[results,Tryz.results170,go_sem,p0,p1,p2,p3,p4,p5,p6,p7,p8,p9,p10,p11]) rfl ⟨rfl,?_⟩
  repeat (first | with_reducible exact B1.o | refine Below.setCell ?_ (by simp only;omega) _)
 ·have LD2:=zaa (LD.o hi i i16)
  have i1:i < ns.length:=by have:=L16.o hi;omega
  have i0:(0:Int)≤(i:Int):=by omega
  have il:(i:Int) < (ns.length:Int):=by omega
  obtain ⟨bW,oW,rfl,hblW,hcellW⟩:=HW.o (by omega)
  have HC:Hid (∀ k (h:k < ns.length) (x:Ino),x=ns[k]→∀ w',Below w.heap.size w w'→w'.cell? ⟨bW,oW+k*11,none⟩=some (.int .i64 x.kind)∧w'.cell? ⟨bW,oW+k*11+1,none⟩=some (.int .i64 x.size)∧w'.cell? ⟨bW,oW+k*11+2,none⟩=some (.int .i64 x.links)∧w'.cell? ⟨bW,oW+k*11+3,none⟩=some (.int .i64 x.m0)∧w'.cell? ⟨bW,oW+k*11+4,none⟩=some (.int .i64 x.m1)∧w'.cell? ⟨bW,oW+k*11+5,none⟩=some (.int .i64 x.m2)∧w'.cell? ⟨bW,oW+k*11+6,none⟩=some (.int .i64 x.m3)∧w'.cell? ⟨bW,oW+k*11+7,none⟩=some (.int .i64 x.m4)∧w'.cell? ⟨bW,oW+k*11+8,none⟩=some (.int .i64 x.m5)∧w'.cell? ⟨bW,oW+k*11+9,none⟩=some (.int .i64 x.m6)∧w'.cell? ⟨bW,oW+k*11+10,none⟩=some (.int .i64 x.m7)):=fun k h x e w' hb=>by
   obtain ⟨a0,a1,a2,a3,a4,a5,a6,a7,a8,a9,a10⟩:=hcellW k h;subst e;exact ⟨(hb.cell (p:=⟨bW,oW+k*11,none⟩) hblW).trans a0,(hb.cell (p:=⟨bW,oW+k*11+1,none⟩) hblW).trans a1,(hb.cell (p:=⟨bW,oW+k*11+2,none⟩) hblW).trans a2,(hb.cell (p:=⟨bW,oW+k*11+3,none⟩) hblW).trans a3,(hb.cell (p:=⟨bW,oW+k*11+4,none⟩) hblW).trans a4,(hb.cell (p:=⟨bW,oW+k*11+5,none⟩) hblW).trans a5,(hb.cell (p:=⟨bW,oW+k*11+6,none⟩) hblW).trans a6,(hb.cell (p:=⟨bW,oW+k*11+7,none⟩) hblW).trans a7,(hb.cell (p:=⟨bW,oW+k*11+8,none⟩) hblW).trans a8,(hb.cell (p:=⟨bW,oW+k*11+9,none⟩) hblW).trans a9,(hb.cell (p:=⟨bW,oW+k*11+10,none⟩) hblW).trans a10⟩
  clear hcellW HW L16 LD WAYS hi;obtain ⟨x0,x1⟩:=CA.o _ A1.o;generalize hkd:zai ns (i:Int)=kd at *
  rcases c with ⟨rfl,rfl⟩ | ⟨c,rfl⟩
  ·obtain rfl:x=zav:=HX.o.trans (if_neg (by simp));go_wp2_with fail;refine (LD2.o _ B1.o).mono ?_;rintro e w2 ⟨rfl,hb2⟩;have A2:=zaa (zfh A1.o hb2);have B2:=zaa (zab B1.o hb2 B1.o.size);have hz2:w.heap.size+1 < w2.heap.size:=Nat.lt_of_lt_of_le hz1 hb2.size;clear hb2 x0 x1;have E:=zaa (zae (CR.o _ A2.o));have p0:=(E.o 0).1;have f0:=(E.o 0).2;have p1:=(E.o 1).1;have f1:=(E.o 1).2;have p2:=(E.o 2).1;have f2:=(E.o 2).2;have p3:=(E.o 3).1;have f3:=(E.o 3).2;have p4:=(E.o 4).1;have f4:=(E.o 4).2;have p5:=(E.o 5).1;have f5:=(E.o 5).2;have p6:=(E.o 6).1;have f6:=(E.o 6).2;have p7:=(E.o 7).1;have f7:=(E.o 7).2;have p8:=(E.o 8).1;have f8:=(E.o 8).2;have p9:=(E.o 9).1;have f9:=(E.o 9).2;have p10:=(E.o 10).1;have f10:=(E.o 10).2;have p11:=(E.o 11).1;have f11:=(E.o 11).2;simp only[List.getElem?_cons_zero,List.getElem?_cons_succ] at p0 p1 p2 p3 p4 p5 p6 p7 p8 p9 p10 p11;clear CR CA LD2 hkd;go_wp2;refine bodyPost_ret (v:=.tuple #[.agg #[.int .i64 0,.int .i64 0,.int .i64 0,.int .i64 0,.int .i64 0,.int .i64 0,.int .i64 0,.int .i64 0,.int .i64 0,.int .i64 0,.int .i64 0,.int .i64 0],.int .i64 9]) (by simp[results,Tryz.results170,go_sem,p0,p1,p2,p3,p4,p5,p6,p7,p8,p9,p10,p11]) rfl ⟨rfl,?_⟩
   repeat (first | with_reducible exact B2.o | refine Below.setCell ?_ (by simp only;omega) _)
  ·have hxi:x=ns[i]:=by
    rw[HX.o];unfold faI;rw[if_pos rfl,Int.toNat_natCast,zcn i1]
   have q:(kd == 2)=false:=by rw[beq_eq_false_iff_ne];exact c
   have HC2:=zaa (HC.o i i1 x hxi);clear HX hxi HC c hkd;go_wp2_with fail;refine (LD2.o _ B1.o).mono ?_;rintro e w2 ⟨rfl,hb2⟩;have A2:=zaa (zfh A1.o hb2);have B2:=zaa (zab B1.o hb2 B1.o.size);have hz2:w.heap.size+1 < w2.heap.size:=Nat.lt_of_lt_of_le hz1 hb2.size;clear hb2 x0 x1;have E:=zaa (zae (CR.o _ A2.o));have p0:=(E.o 0).1;have f0:=(E.o 0).2;have p1:=(E.o 1).1;have f1:=(E.o 1).2;have p2:=(E.o 2).1;have f2:=(E.o 2).2;have p3:=(E.o 3).1;have f3:=(E.o 3).2;have p4:=(E.o 4).1;have f4:=(E.o 4).2;have p5:=(E.o 5).1;have f5:=(E.o 5).2;have p6:=(E.o 6).1;have f6:=(E.o 6).2;have p7:=(E.o 7).1;have f7:=(E.o 7).2;have p8:=(E.o 8).1;have f8:=(E.o 8).2;have p9:=(E.o 9).1;have f9:=(E.o 9).2;have p10:=(E.o 10).1;have f10:=(E.o 10).2;have p11:=(E.o 11).1;have f11:=(E.o 11).2;simp only[List.getElem?_cons_zero,List.getElem?_cons_succ] at p0 p1 p2 p3 p4 p5 p6 p7 p8 p9 p10 p11;obtain ⟨x0,x1⟩:=CA.o _ A2.o;obtain ⟨a0,a1,a2,a3,a4,a5,a6,a7,a8,a9,a10⟩:=HC2.o _ B2.o;clear CR CA LD2 HC2;go_wp2;refine bodyPost_ret (v:=.tuple #[.agg #[.int .i64 x.kind,.int .i64 x.size,.int .i64 x.links,.int .i64 x.m0,.int .i64 x.m1,.int .i64 x.m2,.int .i64 x.m3,.int .i64 x.m4,.int .i64 x.m5,.int .i64 x.m6,.int .i64 x.m7,.int .i64 (i:Int)],.int .i64 0]) (by simp[results,Tryz.results170,go_sem,p0,p1,p2,p3,p4,p5,p6,p7,p8,p9,p10,p11]) rfl ⟨rfl,?_⟩
   repeat (first | with_reducible exact B2.o | refine Below.setCell ?_ (by simp only;omega) _)
def FtIs (x:Ino) (li lc:Int) (ok:Prop) (y:Ino) (n c:Int):Prop:=(¬ lc=0∧y=zav∧n=0∧c=lc)∨(lc=0∧¬ ok∧y=zav∧n=0∧c=4)∨(lc=0∧ok∧y=x∧n=li∧c=0)
theorem zqs (v:Value) (ns:List Ino) (ds:List Den) (s:ByteArray) (page:Int) (w:World) (h:RdIm w v ns ds) (hw:ns.length≤1048576) (hp:ds.length≤1048576) (hT:TS w) (hE:ED w) (hF:FD w) (hr:∀ k (h:k < ns.length),ns[k].R) (hs:∀ k (h:k < ds.length),ds[k].name.size≤maxLen) (x:Ino) (li lc:Int) (hx:x=faI ns (flR ns ds s)) (hl:flR ns ds s=(li,lc)) (y:Ino) (n c:Int) (hy:FtIs x li lc (0≤page∧page < x.size) y n c) :
  Calls Tryz.prog 97 #[v,.string s,.int .i64 page] w fun e w'=>e=.returned (.tuple #[.agg #[.int .i64 y.kind,.int .i64 y.size,.int .i64 y.links,.int .i64 y.m0,.int .i64 y.m1,.int .i64 y.m2,.int .i64 y.m3,.int .i64 y.m4,.int .i64 y.m5,.int .i64 y.m6,.int .i64 y.m7,.int .i64 n],.int .i64 c])∧Below w.heap.size w w':=by
 have LF:=zaa (fun w1 (hb:Below w.heap.size w w1)=>zhp v ns ds s w1 (h.below hb) hw hp (hT.below hb) (hE.below hb) (hF.below hb) hr hs x hx);rw[hl] at LF;obtain ⟨vW,vP,rfl,h1,h2⟩:=h;obtain ⟨aW,cW,rfl,_,_⟩:=h1.shape;obtain ⟨aP,cP,rfl,_,_⟩:=h2.shape;clear h1 h2 hr hs hT hE hF hx hl hw hp
 obtain ⟨W,hW⟩:∃ W,W=(w.alloc (.cells #[.slice aW ns.length cW,.slice aP ds.length cP] 79)).alloc (.cells #[.int .i64 0,.int .i64 0,.int .i64 0,.int .i64 0,.int .i64 0,.int .i64 0,.int .i64 0,.int .i64 0,.int .i64 0,.int .i64 0,.int .i64 0,.int .i64 0] 148):=⟨_,rfl⟩
 have hzW:W.heap.size=w.heap.size+1+1:=by rw[hW];simp
 have CA:Hid (∀ w',Below W.heap.size W w'→w'.cell? ⟨w.heap.size,0,none⟩=some (.slice aW ns.length cW)∧w'.cell? ⟨w.heap.size,1,none⟩=some (.slice aP ds.length cP)):=fun w' hb=>by
  have:w'.heap[w.heap.size]?=some (.cells #[.slice aW ns.length cW,.slice aP ds.length cP] 79 (0,0)):=(hb.block _ (by omega)).trans (by rw[hW];exact zat (zah rfl));exact ⟨(zac this).1,(zac this).2.1⟩
 have CR:Hid (∀ w',Below W.heap.size W w'→w'.heap[w.heap.size+1]?=some (.cells ([.int .i64 0,.int .i64 0,.int .i64 0,.int .i64 0,.int .i64 0,.int .i64 0,.int .i64 0,.int .i64 0,.int .i64 0,.int .i64 0,.int .i64 0,.int .i64 0]:List Value).toArray 148 (0,0))):=fun w' hb=>(hb.block _ (by omega)).trans (by
  rw[hW];have:=zah (w:=w.alloc (.cells #[.slice aW ns.length cW,.slice aP ds.length cP] 79)) (o:=.cells #[.int .i64 0,.int .i64 0,.int .i64 0,.int .i64 0,.int .i64 0,.int .i64 0,.int .i64 0,.int .i64 0,.int .i64 0,.int .i64 0,.int .i64 0,.int .i64 0] 148) rfl;rw[World.size_alloc] at this
  exact this)
 have BW:Hid (Below w.heap.size w W):=by rw[hW];exact ((Below.refl _ _).alloc (Nat.le_refl _) _).alloc (by simp) _
 have hz0:w.heap.size+1 < W.heap.size:=by omega
 clear hzW;obtain ⟨x0,x1⟩:=CA.o _ (Below.refl _ _);go_enter Tryz.func97,Tryz.ntmps97;go_wp2_with fail;rw[← hW];clear hW x0 x1;refine (LF.o _ BW.o).mono ?_;rintro e w1 ⟨rfl,hb1⟩
 obtain ⟨w2,hw2⟩:∃ w2,w2=w1.alloc (.cells #[.int .i64 x.kind,.int .i64 x.size,.int .i64 x.links,.int .i64 x.m0,.int .i64 x.m1,.int .i64 x.m2,.int .i64 x.m3,.int .i64 x.m4,.int .i64 x.m5,.int .i64 x.m6,.int .i64 x.m7,.int .i64 li] 148):=⟨_,rfl⟩
 have BC:Hid (Below w1.heap.size w1 w2):=by rw[hw2];exact (Below.refl _ _).alloc (Nat.le_refl _) _
 have A2:=zaa (zfh hb1 BC.o);have B2:=zaa (zab BW.o A2.o BW.o.size);have hz2:w.heap.size+1 < w2.heap.size:=Nat.lt_of_lt_of_le hz0 A2.o.size
 have VX:Hid (w2.heap[w1.heap.size]?=some (.cells ([.int .i64 x.kind,.int .i64 x.size,.int .i64 x.links,.int .i64 x.m0,.int .i64 x.m1,.int .i64 x.m2,.int .i64 x.m3,.int .i64 x.m4,.int .i64 x.m5,.int .i64 x.m6,.int .i64 x.m7,.int .i64 li]:List Value).toArray 148 (0,0))):=by rw[hw2];exact zah rfl
 have hz3:w1.heap.size < w2.heap.size:=(Array.getElem?_eq_some_iff.1 VX.o).1
 have ne:¬ w1.heap.size=w.heap.size+1:=by have:=hb1.size;omega
 clear hb1 LF BC;have E:=zaa (zae (CR.o _ A2.o));have p0:=(E.o 0).1;have f0:=(E.o 0).2;have p1:=(E.o 1).1;have f1:=(E.o 1).2;have p2:=(E.o 2).1;have f2:=(E.o 2).2;have p3:=(E.o 3).1;have f3:=(E.o 3).2;have p4:=(E.o 4).1;have f4:=(E.o 4).2;have p5:=(E.o 5).1;have f5:=(E.o 5).2;have p6:=(E.o 6).1;have f6:=(E.o 6).2;have p7:=(E.o 7).1;have f7:=(E.o 7).2;have p8:=(E.o 8).1;have f8:=(E.o 8).2;have p9:=(E.o 9).1;have f9:=(E.o 9).2;have p10:=(E.o 10).1;have f10:=(E.o 10).2;have p11:=(E.o 11).1;have f11:=(E.o 11).2;simp only[List.getElem?_cons_zero,List.getElem?_cons_succ] at p0 p1 p2 p3 p4 p5 p6 p7 p8 p9 p10 p11;have G:=zaa (zae VX.o);have g0:=(G.o 0).1;have g1:=(G.o 1).1;have g2:=(G.o 2).1;have g3:=(G.o 3).1;have g4:=(G.o 4).1;have g5:=(G.o 5).1;have g6:=(G.o 6).1;have g7:=(G.o 7).1;have g8:=(G.o 8).1;have g9:=(G.o 9).1;have g10:=(G.o 10).1;have g11:=(G.o 11).1;simp only[List.getElem?_cons_zero,List.getElem?_cons_succ] at g0 g1 g2 g3 g4 g5 g6 g7 g8 g9 g10 g11;clear CR CA E G;rw[hw2] at p0 p1 p2 p3 p4 p5 p6 p7 p8 p9 p10 p11 f0 f1 f2 f3 f4 f5 f6 f7 f8 f9 f10 f11 g0 g1 g2 g3 g4 g5 g6 g7 g8 g9 g10 g11
 rcases hy with ⟨c0,rfl,rfl,rfl⟩ | ⟨rfl,c0,rfl,rfl,rfl⟩ | ⟨rfl,c0,rfl,rfl,rfl⟩
 ·have q:(c != 0)=true:=by rw[bne_iff_ne];exact c0
  go_wp2;rw[← hw2];rw[← hw2] at p0 p1 p2 p3 p4 p5 p6 p7 p8 p9 p10 p11 f0 f1 f2 f3 f4 f5 f6 f7 f8 f9 f10 f11;refine bodyPost_ret (v:=.tuple #[.agg #[.int .i64 0,.int .i64 0,.int .i64 0,.int .i64 0,.int .i64 0,.int .i64 0,.int .i64 0,.int .i64 0,.int .i64 0,.int .i64 0,.int .i64 0,.int .i64 0],.int .i64 c]) (by simp[results,Tryz.results97,go_sem,p0,p1,p2,p3,p4,p5,p6,p7,p8,p9,p10,p11]) rfl ⟨rfl,?_⟩
  repeat (first | with_reducible exact B2.o | refine Below.setCell ?_ (by simp only;omega) _)
 ·go_wp2_with fail;refine (zbi _ _ _ c0).mono ?_;rintro e w' ⟨rfl,hw'⟩;subst w';go_wp2;rw[← hw2];rw[← hw2] at p0 p1 p2 p3 p4 p5 p6 p7 p8 p9 p10 p11 f0 f1 f2 f3 f4 f5 f6 f7 f8 f9 f10 f11;refine bodyPost_ret (v:=.tuple #[.agg #[.int .i64 0,.int .i64 0,.int .i64 0,.int .i64 0,.int .i64 0,.int .i64 0,.int .i64 0,.int .i64 0,.int .i64 0,.int .i64 0,.int .i64 0,.int .i64 0],.int .i64 4]) (by simp[results,Tryz.results97,go_sem,p0,p1,p2,p3,p4,p5,p6,p7,p8,p9,p10,p11]) rfl ⟨rfl,?_⟩
  repeat (first | with_reducible exact B2.o | refine Below.setCell ?_ (by simp only;omega) _)
 ·go_wp2_with fail;refine (zaq _ _ _ c0).mono ?_;rintro e w' ⟨rfl,hw'⟩;subst w';go_wp2;rw[← hw2];rw[← hw2] at p0 p1 p2 p3 p4 p5 p6 p7 p8 p9 p10 p11 f0 f1 f2 f3 f4 f5 f6 f7 f8 f9 f10 f11;refine bodyPost_ret (v:=.tuple #[.agg #[.int .i64 y.kind,.int .i64 y.size,.int .i64 y.links,.int .i64 y.m0,.int .i64 y.m1,.int .i64 y.m2,.int .i64 y.m3,.int .i64 y.m4,.int .i64 y.m5,.int .i64 y.m6,.int .i64 y.m7,.int .i64 n],.int .i64 0]) (by simp[results,Tryz.results97,go_sem,p0,p1,p2,p3,p4,p5,p6,p7,p8,p9,p10,p11]) rfl ⟨rfl,?_⟩
  repeat (first | with_reducible exact B2.o | refine Below.setCell ?_ (by simp only;omega) _)
theorem zoz (v:Value) (ns:List Ino) (ds:List Den) (s:ByteArray) (page val:Int) (w:World) (h:RdIm w v ns ds) (hw:ns.length≤1048576) (hp:ds.length≤1048576) (hT:TS w) (hE:ED w) (hF:FD w) (hr:∀ k (h:k < ns.length),ns[k].R) (hs:∀ k (h:k < ds.length),ds[k].name.size≤maxLen) (x:Ino) (li lc:Int) (hx:x=faI ns (flR ns ds s)) (hl:flR ns ds s=(li,lc)) (y:Ino) (n c:Int) (hy:FtIs x li lc ((0≤page∧page < 8)∧zbb val=true) y n c) :
  Calls Tryz.prog 178 #[v,.string s,.int .i64 page,.int .i64 val] w fun e w'=>e=.returned (.tuple #[.agg #[.int .i64 y.kind,.int .i64 y.size,.int .i64 y.links,.int .i64 y.m0,.int .i64 y.m1,.int .i64 y.m2,.int .i64 y.m3,.int .i64 y.m4,.int .i64 y.m5,.int .i64 y.m6,.int .i64 y.m7,.int .i64 n],.int .i64 c])∧Below w.heap.size w w':=by
 have LF:=zaa (fun w1 (hb:Below w.heap.size w w1)=>zhp v ns ds s w1 (h.below hb) hw hp (hT.below hb) (hE.below hb) (hF.below hb) hr hs x hx);rw[hl] at LF;obtain ⟨vW,vP,rfl,h1,h2⟩:=h;obtain ⟨aW,cW,rfl,_,_⟩:=h1.shape;obtain ⟨aP,cP,rfl,_,_⟩:=h2.shape;clear h1 h2 hr hs hT hE hF hx hl hw hp
 obtain ⟨W,hW⟩:∃ W,W=(w.alloc (.cells #[.slice aW ns.length cW,.slice aP ds.length cP] 79)).alloc (.cells #[.int .i64 0,.int .i64 0,.int .i64 0,.int .i64 0,.int .i64 0,.int .i64 0,.int .i64 0,.int .i64 0,.int .i64 0,.int .i64 0,.int .i64 0,.int .i64 0] 148):=⟨_,rfl⟩
 have hzW:W.heap.size=w.heap.size+1+1:=by rw[hW];simp
 have CA:Hid (∀ w',Below W.heap.size W w'→w'.cell? ⟨w.heap.size,0,none⟩=some (.slice aW ns.length cW)∧w'.cell? ⟨w.heap.size,1,none⟩=some (.slice aP ds.length cP)):=fun w' hb=>by
  have:w'.heap[w.heap.size]?=some (.cells #[.slice aW ns.length cW,.slice aP ds.length cP] 79 (0,0)):=(hb.block _ (by omega)).trans (by rw[hW];exact zat (zah rfl));exact ⟨(zac this).1,(zac this).2.1⟩
 have CR:Hid (∀ w',Below W.heap.size W w'→w'.heap[w.heap.size+1]?=some (.cells ([.int .i64 0,.int .i64 0,.int .i64 0,.int .i64 0,.int .i64 0,.int .i64 0,.int .i64 0,.int .i64 0,.int .i64 0,.int .i64 0,.int .i64 0,.int .i64 0]:List Value).toArray 148 (0,0))):=fun w' hb=>(hb.block _ (by omega)).trans (by
  rw[hW];have:=zah (w:=w.alloc (.cells #[.slice aW ns.length cW,.slice aP ds.length cP] 79)) (o:=.cells #[.int .i64 0,.int .i64 0,.int .i64 0,.int .i64 0,.int .i64 0,.int .i64 0,.int .i64 0,.int .i64 0,.int .i64 0,.int .i64 0,.int .i64 0,.int .i64 0] 148) rfl;rw[World.size_alloc] at this
  exact this)
 have BW:Hid (Below w.heap.size w W):=by rw[hW];exact ((Below.refl _ _).alloc (Nat.le_refl _) _).alloc (by simp) _
 have hz0:w.heap.size+1 < W.heap.size:=by omega
 clear hzW;obtain ⟨x0,x1⟩:=CA.o _ (Below.refl _ _);go_enter Tryz.func178,Tryz.ntmps178;go_wp2_with fail;rw[← hW];clear hW x0 x1;refine (LF.o _ BW.o).mono ?_;rintro e w1 ⟨rfl,hb1⟩
 obtain ⟨w2,hw2⟩:∃ w2,w2=w1.alloc (.cells #[.int .i64 x.kind,.int .i64 x.size,.int .i64 x.links,.int .i64 x.m0,.int .i64 x.m1,.int .i64 x.m2,.int .i64 x.m3,.int .i64 x.m4,.int .i64 x.m5,.int .i64 x.m6,.int .i64 x.m7,.int .i64 li] 148):=⟨_,rfl⟩
 have BC:Hid (Below w1.heap.size w1 w2):=by rw[hw2];exact (Below.refl _ _).alloc (Nat.le_refl _) _
 have A2:=zaa (zfh hb1 BC.o);have B2:=zaa (zab BW.o A2.o BW.o.size);have hz2:w.heap.size+1 < w2.heap.size:=Nat.lt_of_lt_of_le hz0 A2.o.size
 have VX:Hid (w2.heap[w1.heap.size]?=some (.cells ([.int .i64 x.kind,.int .i64 x.size,.int .i64 x.links,.int .i64 x.m0,.int .i64 x.m1,.int .i64 x.m2,.int .i64 x.m3,.int .i64 x.m4,.int .i64 x.m5,.int .i64 x.m6,.int .i64 x.m7,.int .i64 li]:List Value).toArray 148 (0,0))):=by rw[hw2];exact zah rfl
 have hz3:w1.heap.size < w2.heap.size:=(Array.getElem?_eq_some_iff.1 VX.o).1
 have ne:¬ w1.heap.size=w.heap.size+1:=by have:=hb1.size;omega
 clear hb1 LF BC;have E:=zaa (zae (CR.o _ A2.o));have p0:=(E.o 0).1;have f0:=(E.o 0).2;have p1:=(E.o 1).1;have f1:=(E.o 1).2;have p2:=(E.o 2).1;have f2:=(E.o 2).2;have p3:=(E.o 3).1;have f3:=(E.o 3).2;have p4:=(E.o 4).1;have f4:=(E.o 4).2;have p5:=(E.o 5).1;have f5:=(E.o 5).2;have p6:=(E.o 6).1;have f6:=(E.o 6).2;have p7:=(E.o 7).1;have f7:=(E.o 7).2;have p8:=(E.o 8).1;have f8:=(E.o 8).2;have p9:=(E.o 9).1;have f9:=(E.o 9).2;have p10:=(E.o 10).1;have f10:=(E.o 10).2;have p11:=(E.o 11).1;have f11:=(E.o 11).2;simp only[List.getElem?_cons_zero,List.getElem?_cons_succ] at p0 p1 p2 p3 p4 p5 p6 p7 p8 p9 p10 p11;have G:=zaa (zae VX.o);have g0:=(G.o 0).1;have g1:=(G.o 1).1;have g2:=(G.o 2).1;have g3:=(G.o 3).1;have g4:=(G.o 4).1;have g5:=(G.o 5).1;have g6:=(G.o 6).1;have g7:=(G.o 7).1;have g8:=(G.o 8).1;have g9:=(G.o 9).1;have g10:=(G.o 10).1;have g11:=(G.o 11).1;simp only[List.getElem?_cons_zero,List.getElem?_cons_succ] at g0 g1 g2 g3 g4 g5 g6 g7 g8 g9 g10 g11;clear CR CA E G;rw[hw2] at p0 p1 p2 p3 p4 p5 p6 p7 p8 p9 p10 p11 f0 f1 f2 f3 f4 f5 f6 f7 f8 f9 f10 f11 g0 g1 g2 g3 g4 g5 g6 g7 g8 g9 g10 g11
 rcases hy with ⟨c0,rfl,rfl,rfl⟩ | ⟨rfl,c0,rfl,rfl,rfl⟩ | ⟨rfl,c0,rfl,rfl,rfl⟩
 ·have q:(c != 0)=true:=by rw[bne_iff_ne];exact c0
  go_wp2;rw[← hw2];rw[← hw2] at p0 p1 p2 p3 p4 p5 p6 p7 p8 p9 p10 p11 f0 f1 f2 f3 f4 f5 f6 f7 f8 f9 f10 f11;refine bodyPost_ret (v:=.tuple #[.agg #[.int .i64 0,.int .i64 0,.int .i64 0,.int .i64 0,.int .i64 0,.int .i64 0,.int .i64 0,.int .i64 0,.int .i64 0,.int .i64 0,.int .i64 0,.int .i64 0],.int .i64 c]) (by simp[results,Tryz.results178,go_sem,p0,p1,p2,p3,p4,p5,p6,p7,p8,p9,p10,p11]) rfl ⟨rfl,?_⟩
  repeat (first | with_reducible exact B2.o | refine Below.setCell ?_ (by simp only;omega) _)
 ·go_wp2_with fail
  by_cases ci:0≤page∧page < 8
  case' pos =>
   have cw:zbb val=false:=by
    cases q:zbb val with
    | false=>rfl
    | true=>exact absurd ⟨ci,q⟩ c0
   refine (zaq _ _ _ ci).mono ?_;rintro e w' ⟨rfl,hw'⟩;subst w';go_wp2_with fail;refine (zdo _ _).mono ?_;rw[cw];rintro e w' ⟨rfl,hw'⟩;subst w'
  case' neg =>
   refine (zbi _ _ _ ci).mono ?_;rintro e w' ⟨rfl,hw'⟩;subst w'
  all_goals
   go_wp2;rw[← hw2];rw[← hw2] at p0 p1 p2 p3 p4 p5 p6 p7 p8 p9 p10 p11 f0 f1 f2 f3 f4 f5 f6 f7 f8 f9 f10 f11;refine bodyPost_ret (v:=.tuple #[.agg #[.int .i64 0,.int .i64 0,.int .i64 0,.int .i64 0,.int .i64 0,.int .i64 0,.int .i64 0,.int .i64 0,.int .i64 0,.int .i64 0,.int .i64 0,.int .i64 0],.int .i64 4]) (by simp[results,Tryz.results178,go_sem,p0,p1,p2,p3,p4,p5,p6,p7,p8,p9,p10,p11]) rfl ⟨rfl,?_⟩
   repeat (first | with_reducible exact B2.o | refine Below.setCell ?_ (by simp only;omega) _)
 ·go_wp2_with fail;obtain ⟨ci,cw⟩:=c0;refine (zaq _ _ _ ci).mono ?_;rintro e w' ⟨rfl,hw'⟩;subst w';go_wp2_with fail;refine (zdo _ _).mono ?_;rw[cw];rintro e w' ⟨rfl,hw'⟩;subst w';go_wp2;rw[← hw2];rw[← hw2] at p0 p1 p2 p3 p4 p5 p6 p7 p8 p9 p10 p11 f0 f1 f2 f3 f4 f5 f6 f7 f8 f9 f10 f11;refine bodyPost_ret (v:=.tuple #[.agg #[.int .i64 y.kind,.int .i64 y.size,.int .i64 y.links,.int .i64 y.m0,.int .i64 y.m1,.int .i64 y.m2,.int .i64 y.m3,.int .i64 y.m4,.int .i64 y.m5,.int .i64 y.m6,.int .i64 y.m7,.int .i64 n],.int .i64 0]) (by simp[results,Tryz.results178,go_sem,p0,p1,p2,p3,p4,p5,p6,p7,p8,p9,p10,p11]) rfl ⟨rfl,?_⟩
  repeat (first | with_reducible exact B2.o | refine Below.setCell ?_ (by simp only;omega) _)
end Go.Proofs.YtehnphoeplmpdaaGreatDoor
