import Derived.Test.YtdiaiejmoocpmaaGreatDoorZBR
import Derived.Maps.OwnSet
set_option maxRecDepth 100000
set_option maxHeartbeats 8000000
namespace Go.Proofs.YtdiaiejmoocpmaaGreatDoor
open Go.RowKit
def flR(ns:List Ino)(ds:List Den)(s:ByteArray):Int×Int:=if 65536<s.size then(0,2)else if zck ns ds=true then flI ns ds s else(0,1)
def faI(ns:List Ino)(r:Int×Int):Ino:=if r.2=0 then zan ns r.1.toNat else zcf
theorem yauf{ns:List Ino}{ds:List Den}{s:ByteArray}(h:(flR ns ds s).2=0):zck ns ds=true/\¬ 65536<s.size/\flR ns ds s=flI ns ds s:=by
 unfold flR at h ⊢
 by_cases c:65536<s.size
 ·rw[if_pos c]at h;simp at h
 ·rw[if_neg c]at h ⊢
  by_cases d:zck ns ds=true
  ·rw[if_pos d];exact⟨d,c,rfl⟩
  ·rw[if_neg d]at h;simp at h
theorem yawd(ns:List Ino)(ds:List Den)(s:ByteArray):(¬ (lkR ns ds s).2=0/\flR ns ds s=(0,(lkR ns ds s).2))\/((lkR ns ds s).2=0/\zck ns ds=true/\∃ i:Nat,i<16/\(lkR ns ds s).1=(i:Int)/\((zal ns (i:Int)=2/\flR ns ds s=(0,9))\/(¬ zal ns (i:Int)=2/\flR ns ds s=((i:Int),0)))):=by
 unfold lkR flR
 by_cases c:65536<s.size
 ·rw[if_pos c,if_pos c];exact .inl ⟨by simp,rfl⟩
 ·rw[if_neg c,if_neg c]
  by_cases d:zck ns ds=true
  ·rw[if_pos d,if_pos d];unfold flI
   by_cases e:(lkI ns ds s).2=0
   ·rw[if_pos e];refine .inr ⟨e,d,?_⟩
    by_cases f:zal ns (lkI ns ds s).1=2
    ·have k:=zzq (s:=s) d;rw[if_neg (by rw[f];omega)];exact⟨(lkI ns ds s).1.toNat,by omega,by omega,.inl ⟨by rw[show(((lkI ns ds s).1.toNat:Nat):Int)=(lkI ns ds s).1 by omega];exact f,rfl⟩⟩
    ·obtain⟨i,ei,hi,-,k⟩:=zmc (zbu.1 d) e f
     have k1:zal ns (lkI ns ds s).1=1:=by
      rw[ei,zbv (show i<ns.length by have:=(zba d).1;omega),<- zbp];exact k
     rw[if_pos k1];exact⟨i,hi,ei,.inr ⟨by rw[<- ei];exact f,by rw[ei]⟩⟩
   ·rw[if_neg e];exact .inl ⟨e,rfl⟩
  ·rw[if_neg d,if_neg d];exact .inl ⟨by simp,rfl⟩
theorem zjl(v:Value)(ns:List Ino)(ds:List Den)(s:ByteArray)(w:World)(h:RdIm w v ns ds)(hw:ns.length<=1048576)(hp:ds.length<=1048576)(hT:TS w)(hE:ED w)(hF:FD w)(hr:∀ k (h:k<ns.length),ns[k].R)(hs:∀ k (h:k<ds.length),ds[k].name.size<=maxLen) :
  ∀ x,x=faI ns (flR ns ds s)->zC 18 #[v,.string s] w fun e w'=>e=.returned (.tuple #[.agg #[.I x.kind,.I x.size,.I x.links,.I x.m0,.I x.m1,.I x.m2,.I x.m3,.I x.m4,.I x.m5,.I x.m6,.I x.m7,.I (flR ns ds s).1],.I (flR ns ds s).2])/\zB w w':=by
 intro x hx;have HX:=zaa hx;have LL:=zaa (fun w1 (hb:zB w w1)=>ztl v ns ds s w1 (h.below hb) hw hp (hT.below hb) (hE.below hb) (hF.below hb) hr hs);have LD:=zaa (fun(hi:zck ns ds=true) (i:Nat) (h16:i<16) w1 (hb:zB w w1)=>yaap v ns ds (i:Int) w1 (h.below hb) (zba hi).1 (by omega));have WAYS:=zaa (yawd ns ds s);have L16:=zaa (fun hi=>(zba (ws:=ns) (ps:=ds) hi).1);obtain⟨vW,vP,rfl,h1,h2⟩:=h;obtain⟨aW,cW,rfl,_,hcW⟩:=h1.shape;obtain⟨aP,cP,rfl,_,hcP⟩:=h2.shape;have HW:=zaa hcW;clear h1 h2 hr hs hT hE hF hcW hcP hx hw hp
 obtain⟨W,hW⟩:=zE ((w.alloc (.cells #[.slice aW ns.length cW,.slice aP ds.length cP] 67)).alloc (.cells #[.I 0,.I 0,.I 0,.I 0,.I 0,.I 0,.I 0,.I 0,.I 0,.I 0,.I 0,.I 0] 61))
 have hzW:W.heap.size=w.heap.size+1+1:=by rw[hW];simp
 have CA:Hid (∀ w',zB W w'->w'.cell? ⟨w.heap.size,0,none⟩=some (.slice aW ns.length cW)/\w'.cell? ⟨w.heap.size,1,none⟩=some (.slice aP ds.length cP)):=fun w' hb=>by
  have:w'.heap[w.heap.size]?=some (.cells #[.slice aW ns.length cW,.slice aP ds.length cP] 67 (0,0)):=(hb.block _ (by omega)).trans (by rw[hW];exact zaj (zaf rfl));exact⟨(zac this).1,(zac this).2.1⟩
 have CR:Hid (∀ w',zB W w'->w'.heap[w.heap.size+1]?=some (.cells ([.I 0,.I 0,.I 0,.I 0,.I 0,.I 0,.I 0,.I 0,.I 0,.I 0,.I 0,.I 0]:List Value).toArray 61 (0,0))):=fun w' hb=>(hb.block _ (by omega)).trans (by
  rw[hW];have:=zaf (w:=w.alloc (.cells #[.slice aW ns.length cW,.slice aP ds.length cP] 67)) (o:=.cells #[.I 0,.I 0,.I 0,.I 0,.I 0,.I 0,.I 0,.I 0,.I 0,.I 0,.I 0,.I 0] 61) rfl;rw[World.size_alloc]at this
  exact this)
 have BW:Hid (zB w W):=by rw[hW];exact(zR.alloc zL _).alloc (by simp) _
 have hz0:w.heap.size+1<W.heap.size:=by omega
 clear hzW;obtain⟨x0,x1⟩:=CA.o _ zR;generalize flR ns ds s=res at *;generalize lkR ns ds s=lr at *;obtain⟨li,lc⟩:=lr;simp only at WAYS LL;go_enter Tryz.func18,Tryz.ntmps18;go_wp2_with fail;rw[<- hW];clear hW x0 x1;refine(LL.o _ BW.o).mono ?_;rintro e w1 ⟨rfl,hb1⟩;have A1:=zaa hb1;have B1:=zaa (zab BW.o A1.o BW.o.size);have hz1:w.heap.size+1<w1.heap.size:=Nat.lt_of_lt_of_le hz0 A1.o.size;clear hb1 LL
 rcases WAYS.o with ⟨c,rfl⟩ | ⟨rfl,hi,i,i16,rfl,c⟩
 ·have q:(lc != 0)=true:=by rw[bne_iff_ne];exact c
  obtain rfl:x=zcf:=HX.o.trans (if_neg c);have E:=zaa (zak (CR.o _ A1.o));have p0:=(E.o 0).1;have f0:=(E.o 0).2;have p1:=(E.o 1).1;have f1:=(E.o 1).2;have p2:=(E.o 2).1;have f2:=(E.o 2).2;have p3:=(E.o 3).1;have f3:=(E.o 3).2;have p4:=(E.o 4).1;have f4:=(E.o 4).2;have p5:=(E.o 5).1;have f5:=(E.o 5).2;have p6:=(E.o 6).1;have f6:=(E.o 6).2;have p7:=(E.o 7).1;have f7:=(E.o 7).2;have p8:=(E.o 8).1;have f8:=(E.o 8).2;have p9:=(E.o 9).1;have f9:=(E.o 9).2;have p10:=(E.o 10).1;have f10:=(E.o 10).2;have p11:=(E.o 11).1;have f11:=(E.o 11).2;simp only[List.getElem?_cons_zero,List.getElem?_cons_succ]at p0 p1 p2 p3 p4 p5 p6 p7 p8 p9 p10 p11;clear CR CA WAYS LD HW L16 c;go_wp2;refine bodyPost_ret (v:=.tuple #[.agg #[.I 0,.I 0,.I 0,.I 0,.I 0,.I 0,.I 0,.I 0,.I 0,.I 0,.I 0,.I 0],.I lc]) (by simp[results,Tryz.results18,go_sem,p0,p1,p2,p3,p4,p5,p6,p7,p8,p9,p10,p11]) rfl ⟨rfl,?_⟩
  repeat (first | with_reducible exact B1.o | refine Below.setCell ?_ (by simp only;omega) _)
 ·have LD2:=zaa (LD.o hi i i16)
  have i1:i<ns.length:=by have:=L16.o hi;omega
  have i0:(0:Int)<=(i:Int):=by omega
  have il:(i:Int)<(ns.length:Int):=by omega
  obtain⟨bW,oW,rfl,hblW,hcellW⟩:=HW.o (by omega)
  have HC:Hid (∀ k (h:k<ns.length) (x:Ino),x=ns[k]->∀ w',zB w w'->w'.cell? ⟨bW,oW+k*11,none⟩=some (.I x.kind)/\w'.cell? ⟨bW,oW+k*11+1,none⟩=some (.I x.size)/\w'.cell? ⟨bW,oW+k*11+2,none⟩=some (.I x.links)/\w'.cell? ⟨bW,oW+k*11+3,none⟩=some (.I x.m0)/\w'.cell? ⟨bW,oW+k*11+4,none⟩=some (.I x.m1)/\w'.cell? ⟨bW,oW+k*11+5,none⟩=some (.I x.m2)/\w'.cell? ⟨bW,oW+k*11+6,none⟩=some (.I x.m3)/\w'.cell? ⟨bW,oW+k*11+7,none⟩=some (.I x.m4)/\w'.cell? ⟨bW,oW+k*11+8,none⟩=some (.I x.m5)/\w'.cell? ⟨bW,oW+k*11+9,none⟩=some (.I x.m6)/\w'.cell? ⟨bW,oW+k*11+10,none⟩=some (.I x.m7)):=fun k h x e w' hb=>by
   obtain⟨a0,a1,a2,a3,a4,a5,a6,a7,a8,a9,a10⟩:=hcellW k h;subst e;exact⟨(hb.cell (p:=⟨bW,oW+k*11,none⟩) hblW).trans a0,(hb.cell (p:=⟨bW,oW+k*11+1,none⟩) hblW).trans a1,(hb.cell (p:=⟨bW,oW+k*11+2,none⟩) hblW).trans a2,(hb.cell (p:=⟨bW,oW+k*11+3,none⟩) hblW).trans a3,(hb.cell (p:=⟨bW,oW+k*11+4,none⟩) hblW).trans a4,(hb.cell (p:=⟨bW,oW+k*11+5,none⟩) hblW).trans a5,(hb.cell (p:=⟨bW,oW+k*11+6,none⟩) hblW).trans a6,(hb.cell (p:=⟨bW,oW+k*11+7,none⟩) hblW).trans a7,(hb.cell (p:=⟨bW,oW+k*11+8,none⟩) hblW).trans a8,(hb.cell (p:=⟨bW,oW+k*11+9,none⟩) hblW).trans a9,(hb.cell (p:=⟨bW,oW+k*11+10,none⟩) hblW).trans a10⟩
  clear hcellW HW L16 LD WAYS hi;obtain⟨x0,x1⟩:=CA.o _ A1.o;generalize hkd:zal ns (i:Int)=kd at *
  rcases c with ⟨rfl,rfl⟩ | ⟨c,rfl⟩
  ·obtain rfl:x=zcf:=HX.o.trans (if_neg (by simp));go_wp2_with fail;refine(LD2.o _ B1.o).mono ?_;rintro e w2 ⟨rfl,hb2⟩;have A2:=zaa (zik A1.o hb2);have B2:=zaa (zab B1.o hb2 B1.o.size);have hz2:w.heap.size+1<w2.heap.size:=Nat.lt_of_lt_of_le hz1 hb2.size;clear hb2 x0 x1;have E:=zaa (zak (CR.o _ A2.o));have p0:=(E.o 0).1;have f0:=(E.o 0).2;have p1:=(E.o 1).1;have f1:=(E.o 1).2;have p2:=(E.o 2).1;have f2:=(E.o 2).2;have p3:=(E.o 3).1;have f3:=(E.o 3).2;have p4:=(E.o 4).1;have f4:=(E.o 4).2;have p5:=(E.o 5).1;have f5:=(E.o 5).2;have p6:=(E.o 6).1;have f6:=(E.o 6).2;have p7:=(E.o 7).1;have f7:=(E.o 7).2;have p8:=(E.o 8).1;have f8:=(E.o 8).2;have p9:=(E.o 9).1;have f9:=(E.o 9).2;have p10:=(E.o 10).1;have f10:=(E.o 10).2;have p11:=(E.o 11).1;have f11:=(E.o 11).2;simp only[List.getElem?_cons_zero,List.getElem?_cons_succ]at p0 p1 p2 p3 p4 p5 p6 p7 p8 p9 p10 p11;clear CR CA LD2 hkd;go_wp2;refine bodyPost_ret (v:=.tuple #[.agg #[.I 0,.I 0,.I 0,.I 0,.I 0,.I 0,.I 0,.I 0,.I 0,.I 0,.I 0,.I 0],.I 9]) (by simp[results,Tryz.results18,go_sem,p0,p1,p2,p3,p4,p5,p6,p7,p8,p9,p10,p11]) rfl ⟨rfl,?_⟩
   repeat (first | with_reducible exact B2.o | refine Below.setCell ?_ (by simp only;omega) _)
  ·have hxi:x=ns[i]:=by
    rw[HX.o];unfold faI;rw[if_pos rfl,Int.toNat_natCast,zbp i1]
   have q:(kd == 2)=false:=by rw[beq_eq_false_iff_ne];exact c
   have HC2:=zaa (HC.o i i1 x hxi);clear HX hxi HC c hkd;go_wp2_with fail;refine(LD2.o _ B1.o).mono ?_;rintro e w2 ⟨rfl,hb2⟩;have A2:=zaa (zik A1.o hb2);have B2:=zaa (zab B1.o hb2 B1.o.size);have hz2:w.heap.size+1<w2.heap.size:=Nat.lt_of_lt_of_le hz1 hb2.size;clear hb2 x0 x1;have E:=zaa (zak (CR.o _ A2.o));have p0:=(E.o 0).1;have f0:=(E.o 0).2;have p1:=(E.o 1).1;have f1:=(E.o 1).2;have p2:=(E.o 2).1;have f2:=(E.o 2).2;have p3:=(E.o 3).1;have f3:=(E.o 3).2;have p4:=(E.o 4).1;have f4:=(E.o 4).2;have p5:=(E.o 5).1;have f5:=(E.o 5).2;have p6:=(E.o 6).1;have f6:=(E.o 6).2;have p7:=(E.o 7).1;have f7:=(E.o 7).2;have p8:=(E.o 8).1;have f8:=(E.o 8).2;have p9:=(E.o 9).1;have f9:=(E.o 9).2;have p10:=(E.o 10).1;have f10:=(E.o 10).2;have p11:=(E.o 11).1;have f11:=(E.o 11).2;simp only[List.getElem?_cons_zero,List.getElem?_cons_succ]at p0 p1 p2 p3 p4 p5 p6 p7 p8 p9 p10 p11;obtain⟨x0,x1⟩:=CA.o _ A2.o;obtain⟨a0,a1,a2,a3,a4,a5,a6,a7,a8,a9,a10⟩:=HC2.o _ B2.o;clear CR CA LD2 HC2;go_wp2;refine bodyPost_ret (v:=.tuple #[.agg #[.I x.kind,.I x.size,.I x.links,.I x.m0,.I x.m1,.I x.m2,.I x.m3,.I x.m4,.I x.m5,.I x.m6,.I x.m7,.I (i:Int)],.I 0]) (by simp[results,Tryz.results18,go_sem,p0,p1,p2,p3,p4,p5,p6,p7,p8,p9,p10,p11]) rfl ⟨rfl,?_⟩
   repeat (first | with_reducible exact B2.o | refine Below.setCell ?_ (by simp only;omega) _)
def FtIs(x:Ino)(li lc:Int)(ok:Prop)(y:Ino)(n c:Int):Prop:=(¬ lc=0/\y=zcf/\n=0/\c=lc)\/(lc=0/\¬ ok/\y=zcf/\n=0/\c=4)\/(lc=0/\ok/\y=x/\n=li/\c=0)
theorem zth(v:Value)(ns:List Ino)(ds:List Den)(s:ByteArray)(page:Int)(w:World)(h:RdIm w v ns ds)(hw:ns.length<=1048576)(hp:ds.length<=1048576)(hT:TS w)(hE:ED w)(hF:FD w)(hr:∀ k (h:k<ns.length),ns[k].R)(hs:∀ k (h:k<ds.length),ds[k].name.size<=maxLen)(x:Ino)(li lc:Int)(hx:x=faI ns (flR ns ds s))(hl:flR ns ds s=(li,lc))(y:Ino)(n c:Int)(hy:FtIs x li lc (0<=page/\page<x.size) y n c) :
  zC 34 #[v,.string s,.I page] w fun e w'=>e=.returned (.tuple #[.agg #[.I y.kind,.I y.size,.I y.links,.I y.m0,.I y.m1,.I y.m2,.I y.m3,.I y.m4,.I y.m5,.I y.m6,.I y.m7,.I n],.I c])/\zB w w':=by
 have LF:=zaa (fun w1 (hb:zB w w1)=>zjl v ns ds s w1 (h.below hb) hw hp (hT.below hb) (hE.below hb) (hF.below hb) hr hs x hx);rw[hl]at LF;obtain⟨vW,vP,rfl,h1,h2⟩:=h;obtain⟨aW,cW,rfl,_,_⟩:=h1.shape;obtain⟨aP,cP,rfl,_,_⟩:=h2.shape;clear h1 h2 hr hs hT hE hF hx hl hw hp
 obtain⟨W,hW⟩:=zE ((w.alloc (.cells #[.slice aW ns.length cW,.slice aP ds.length cP] 67)).alloc (.cells #[.I 0,.I 0,.I 0,.I 0,.I 0,.I 0,.I 0,.I 0,.I 0,.I 0,.I 0,.I 0] 61))
 have hzW:W.heap.size=w.heap.size+1+1:=by rw[hW];simp
 have CA:Hid (∀ w',zB W w'->w'.cell? ⟨w.heap.size,0,none⟩=some (.slice aW ns.length cW)/\w'.cell? ⟨w.heap.size,1,none⟩=some (.slice aP ds.length cP)):=fun w' hb=>by
  have:w'.heap[w.heap.size]?=some (.cells #[.slice aW ns.length cW,.slice aP ds.length cP] 67 (0,0)):=(hb.block _ (by omega)).trans (by rw[hW];exact zaj (zaf rfl));exact⟨(zac this).1,(zac this).2.1⟩
 have CR:Hid (∀ w',zB W w'->w'.heap[w.heap.size+1]?=some (.cells ([.I 0,.I 0,.I 0,.I 0,.I 0,.I 0,.I 0,.I 0,.I 0,.I 0,.I 0,.I 0]:List Value).toArray 61 (0,0))):=fun w' hb=>(hb.block _ (by omega)).trans (by
  rw[hW];have:=zaf (w:=w.alloc (.cells #[.slice aW ns.length cW,.slice aP ds.length cP] 67)) (o:=.cells #[.I 0,.I 0,.I 0,.I 0,.I 0,.I 0,.I 0,.I 0,.I 0,.I 0,.I 0,.I 0] 61) rfl;rw[World.size_alloc]at this
  exact this)
 have BW:Hid (zB w W):=by rw[hW];exact(zR.alloc zL _).alloc (by simp) _
 have hz0:w.heap.size+1<W.heap.size:=by omega
 clear hzW;obtain⟨x0,x1⟩:=CA.o _ zR;go_enter Tryz.func34,Tryz.ntmps34;go_wp2_with fail;rw[<- hW];clear hW x0 x1;refine(LF.o _ BW.o).mono ?_;rintro e w1 ⟨rfl,hb1⟩
 obtain⟨w2,hw2⟩:=zE (w1.alloc (.cells #[.I x.kind,.I x.size,.I x.links,.I x.m0,.I x.m1,.I x.m2,.I x.m3,.I x.m4,.I x.m5,.I x.m6,.I x.m7,.I li] 61))
 have BC:Hid (zB w1 w2):=by rw[hw2];exact zR.alloc zL _
 have A2:=zaa (zik hb1 BC.o);have B2:=zaa (zab BW.o A2.o BW.o.size);have hz2:w.heap.size+1<w2.heap.size:=Nat.lt_of_lt_of_le hz0 A2.o.size
 have VX:Hid (w2.heap[w1.heap.size]?=some (.cells ([.I x.kind,.I x.size,.I x.links,.I x.m0,.I x.m1,.I x.m2,.I x.m3,.I x.m4,.I x.m5,.I x.m6,.I x.m7,.I li]:List Value).toArray 61 (0,0))):=by rw[hw2];exact zaf rfl
 have hz3:w1.heap.size<w2.heap.size:=(Array.getElem?_eq_some_iff.1 VX.o).1
 have ne:¬ w1.heap.size=w.heap.size+1:=by have:=hb1.size;omega
 clear hb1 LF BC;have E:=zaa (zak (CR.o _ A2.o));have p0:=(E.o 0).1;have f0:=(E.o 0).2;have p1:=(E.o 1).1;have f1:=(E.o 1).2;have p2:=(E.o 2).1;have f2:=(E.o 2).2;have p3:=(E.o 3).1;have f3:=(E.o 3).2;have p4:=(E.o 4).1;have f4:=(E.o 4).2;have p5:=(E.o 5).1;have f5:=(E.o 5).2;have p6:=(E.o 6).1;have f6:=(E.o 6).2;have p7:=(E.o 7).1;have f7:=(E.o 7).2;have p8:=(E.o 8).1;have f8:=(E.o 8).2;have p9:=(E.o 9).1;have f9:=(E.o 9).2;have p10:=(E.o 10).1;have f10:=(E.o 10).2;have p11:=(E.o 11).1;have f11:=(E.o 11).2;simp only[List.getElem?_cons_zero,List.getElem?_cons_succ]at p0 p1 p2 p3 p4 p5 p6 p7 p8 p9 p10 p11;have G:=zaa (zak VX.o);have g0:=(G.o 0).1;have g1:=(G.o 1).1;have g2:=(G.o 2).1;have g3:=(G.o 3).1;have g4:=(G.o 4).1;have g5:=(G.o 5).1;have g6:=(G.o 6).1;have g7:=(G.o 7).1;have g8:=(G.o 8).1;have g9:=(G.o 9).1;have g10:=(G.o 10).1;have g11:=(G.o 11).1;simp only[List.getElem?_cons_zero,List.getElem?_cons_succ]at g0 g1 g2 g3 g4 g5 g6 g7 g8 g9 g10 g11;clear CR CA E G;rw[hw2]at p0 p1 p2 p3 p4 p5 p6 p7 p8 p9 p10 p11 f0 f1 f2 f3 f4 f5 f6 f7 f8 f9 f10 f11 g0 g1 g2 g3 g4 g5 g6 g7 g8 g9 g10 g11
 rcases hy with ⟨c0,rfl,rfl,rfl⟩ | ⟨rfl,c0,rfl,rfl,rfl⟩ | ⟨rfl,c0,rfl,rfl,rfl⟩
 ·have q:(c != 0)=true:=by rw[bne_iff_ne];exact c0
  go_wp2;rw[<- hw2];rw[<- hw2]at p0 p1 p2 p3 p4 p5 p6 p7 p8 p9 p10 p11 f0 f1 f2 f3 f4 f5 f6 f7 f8 f9 f10 f11;refine bodyPost_ret (v:=.tuple #[.agg #[.I 0,.I 0,.I 0,.I 0,.I 0,.I 0,.I 0,.I 0,.I 0,.I 0,.I 0,.I 0],.I c]) (by simp[results,Tryz.results34,go_sem,p0,p1,p2,p3,p4,p5,p6,p7,p8,p9,p10,p11]) rfl ⟨rfl,?_⟩
  repeat (first | with_reducible exact B2.o | refine Below.setCell ?_ (by simp only;omega) _)
 ·go_wp2_with fail;refine(zbe _ _ _ c0).mono ?_;rintro e w' ⟨rfl,hw'⟩;subst w';go_wp2;rw[<- hw2];rw[<- hw2]at p0 p1 p2 p3 p4 p5 p6 p7 p8 p9 p10 p11 f0 f1 f2 f3 f4 f5 f6 f7 f8 f9 f10 f11;refine bodyPost_ret (v:=.tuple #[.agg #[.I 0,.I 0,.I 0,.I 0,.I 0,.I 0,.I 0,.I 0,.I 0,.I 0,.I 0,.I 0],.I 4]) (by simp[results,Tryz.results34,go_sem,p0,p1,p2,p3,p4,p5,p6,p7,p8,p9,p10,p11]) rfl ⟨rfl,?_⟩
  repeat (first | with_reducible exact B2.o | refine Below.setCell ?_ (by simp only;omega) _)
 ·go_wp2_with fail;refine(zaq _ _ _ c0).mono ?_;rintro e w' ⟨rfl,hw'⟩;subst w';go_wp2;rw[<- hw2];rw[<- hw2]at p0 p1 p2 p3 p4 p5 p6 p7 p8 p9 p10 p11 f0 f1 f2 f3 f4 f5 f6 f7 f8 f9 f10 f11;refine bodyPost_ret (v:=.tuple #[.agg #[.I y.kind,.I y.size,.I y.links,.I y.m0,.I y.m1,.I y.m2,.I y.m3,.I y.m4,.I y.m5,.I y.m6,.I y.m7,.I n],.I 0]) (by simp[results,Tryz.results34,go_sem,p0,p1,p2,p3,p4,p5,p6,p7,p8,p9,p10,p11]) rfl ⟨rfl,?_⟩
  repeat (first | with_reducible exact B2.o | refine Below.setCell ?_ (by simp only;omega) _)
theorem zqx(v:Value)(ns:List Ino)(ds:List Den)(s:ByteArray)(page val:Int)(w:World)(h:RdIm w v ns ds)(hw:ns.length<=1048576)(hp:ds.length<=1048576)(hT:TS w)(hE:ED w)(hF:FD w)(hr:∀ k (h:k<ns.length),ns[k].R)(hs:∀ k (h:k<ds.length),ds[k].name.size<=maxLen)(x:Ino)(li lc:Int)(hx:x=faI ns (flR ns ds s))(hl:flR ns ds s=(li,lc))(y:Ino)(n c:Int)(hy:FtIs x li lc ((0<=page/\page<8)/\zat val=true) y n c) :
  zC 21 #[v,.string s,.I page,.I val] w fun e w'=>e=.returned (.tuple #[.agg #[.I y.kind,.I y.size,.I y.links,.I y.m0,.I y.m1,.I y.m2,.I y.m3,.I y.m4,.I y.m5,.I y.m6,.I y.m7,.I n],.I c])/\zB w w':=by
 have LF:=zaa (fun w1 (hb:zB w w1)=>zjl v ns ds s w1 (h.below hb) hw hp (hT.below hb) (hE.below hb) (hF.below hb) hr hs x hx);rw[hl]at LF;obtain⟨vW,vP,rfl,h1,h2⟩:=h;obtain⟨aW,cW,rfl,_,_⟩:=h1.shape;obtain⟨aP,cP,rfl,_,_⟩:=h2.shape;clear h1 h2 hr hs hT hE hF hx hl hw hp
 obtain⟨W,hW⟩:=zE ((w.alloc (.cells #[.slice aW ns.length cW,.slice aP ds.length cP] 67)).alloc (.cells #[.I 0,.I 0,.I 0,.I 0,.I 0,.I 0,.I 0,.I 0,.I 0,.I 0,.I 0,.I 0] 61))
 have hzW:W.heap.size=w.heap.size+1+1:=by rw[hW];simp
 have CA:Hid (∀ w',zB W w'->w'.cell? ⟨w.heap.size,0,none⟩=some (.slice aW ns.length cW)/\w'.cell? ⟨w.heap.size,1,none⟩=some (.slice aP ds.length cP)):=fun w' hb=>by
  have:w'.heap[w.heap.size]?=some (.cells #[.slice aW ns.length cW,.slice aP ds.length cP] 67 (0,0)):=(hb.block _ (by omega)).trans (by rw[hW];exact zaj (zaf rfl));exact⟨(zac this).1,(zac this).2.1⟩
 have CR:Hid (∀ w',zB W w'->w'.heap[w.heap.size+1]?=some (.cells ([.I 0,.I 0,.I 0,.I 0,.I 0,.I 0,.I 0,.I 0,.I 0,.I 0,.I 0,.I 0]:List Value).toArray 61 (0,0))):=fun w' hb=>(hb.block _ (by omega)).trans (by
  rw[hW];have:=zaf (w:=w.alloc (.cells #[.slice aW ns.length cW,.slice aP ds.length cP] 67)) (o:=.cells #[.I 0,.I 0,.I 0,.I 0,.I 0,.I 0,.I 0,.I 0,.I 0,.I 0,.I 0,.I 0] 61) rfl;rw[World.size_alloc]at this
  exact this)
 have BW:Hid (zB w W):=by rw[hW];exact(zR.alloc zL _).alloc (by simp) _
 have hz0:w.heap.size+1<W.heap.size:=by omega
 clear hzW;obtain⟨x0,x1⟩:=CA.o _ zR;go_enter Tryz.func21,Tryz.ntmps21;go_wp2_with fail;rw[<- hW];clear hW x0 x1;refine(LF.o _ BW.o).mono ?_;rintro e w1 ⟨rfl,hb1⟩
 obtain⟨w2,hw2⟩:=zE (w1.alloc (.cells #[.I x.kind,.I x.size,.I x.links,.I x.m0,.I x.m1,.I x.m2,.I x.m3,.I x.m4,.I x.m5,.I x.m6,.I x.m7,.I li] 61))
 have BC:Hid (zB w1 w2):=by rw[hw2];exact zR.alloc zL _
 have A2:=zaa (zik hb1 BC.o);have B2:=zaa (zab BW.o A2.o BW.o.size);have hz2:w.heap.size+1<w2.heap.size:=Nat.lt_of_lt_of_le hz0 A2.o.size
 have VX:Hid (w2.heap[w1.heap.size]?=some (.cells ([.I x.kind,.I x.size,.I x.links,.I x.m0,.I x.m1,.I x.m2,.I x.m3,.I x.m4,.I x.m5,.I x.m6,.I x.m7,.I li]:List Value).toArray 61 (0,0))):=by rw[hw2];exact zaf rfl
 have hz3:w1.heap.size<w2.heap.size:=(Array.getElem?_eq_some_iff.1 VX.o).1
 have ne:¬ w1.heap.size=w.heap.size+1:=by have:=hb1.size;omega
 clear hb1 LF BC;have E:=zaa (zak (CR.o _ A2.o));have p0:=(E.o 0).1;have f0:=(E.o 0).2;have p1:=(E.o 1).1;have f1:=(E.o 1).2;have p2:=(E.o 2).1;have f2:=(E.o 2).2;have p3:=(E.o 3).1;have f3:=(E.o 3).2;have p4:=(E.o 4).1;have f4:=(E.o 4).2;have p5:=(E.o 5).1;have f5:=(E.o 5).2;have p6:=(E.o 6).1;have f6:=(E.o 6).2;have p7:=(E.o 7).1;have f7:=(E.o 7).2;have p8:=(E.o 8).1;have f8:=(E.o 8).2;have p9:=(E.o 9).1;have f9:=(E.o 9).2;have p10:=(E.o 10).1;have f10:=(E.o 10).2;have p11:=(E.o 11).1;have f11:=(E.o 11).2;simp only[List.getElem?_cons_zero,List.getElem?_cons_succ]at p0 p1 p2 p3 p4 p5 p6 p7 p8 p9 p10 p11;have G:=zaa (zak VX.o);have g0:=(G.o 0).1;have g1:=(G.o 1).1;have g2:=(G.o 2).1;have g3:=(G.o 3).1;have g4:=(G.o 4).1;have g5:=(G.o 5).1;have g6:=(G.o 6).1;have g7:=(G.o 7).1;have g8:=(G.o 8).1;have g9:=(G.o 9).1;have g10:=(G.o 10).1;have g11:=(G.o 11).1;simp only[List.getElem?_cons_zero,List.getElem?_cons_succ]at g0 g1 g2 g3 g4 g5 g6 g7 g8 g9 g10 g11;clear CR CA E G;rw[hw2]at p0 p1 p2 p3 p4 p5 p6 p7 p8 p9 p10 p11 f0 f1 f2 f3 f4 f5 f6 f7 f8 f9 f10 f11 g0 g1 g2 g3 g4 g5 g6 g7 g8 g9 g10 g11
 rcases hy with ⟨c0,rfl,rfl,rfl⟩ | ⟨rfl,c0,rfl,rfl,rfl⟩ | ⟨rfl,c0,rfl,rfl,rfl⟩
 ·have q:(c != 0)=true:=by rw[bne_iff_ne];exact c0
  go_wp2;rw[<- hw2];rw[<- hw2]at p0 p1 p2 p3 p4 p5 p6 p7 p8 p9 p10 p11 f0 f1 f2 f3 f4 f5 f6 f7 f8 f9 f10 f11;refine bodyPost_ret (v:=.tuple #[.agg #[.I 0,.I 0,.I 0,.I 0,.I 0,.I 0,.I 0,.I 0,.I 0,.I 0,.I 0,.I 0],.I c]) (by simp[results,Tryz.results21,go_sem,p0,p1,p2,p3,p4,p5,p6,p7,p8,p9,p10,p11]) rfl ⟨rfl,?_⟩
  repeat (first | with_reducible exact B2.o | refine Below.setCell ?_ (by simp only;omega) _)
 ·go_wp2_with fail
  by_cases ci:0<=page/\page<8
  case' pos =>
   have cw:zat val=false:=by
    cases q:zat val with
    | false=>rfl
    | true=>exact absurd ⟨ci,q⟩ c0
   refine(zaq _ _ _ ci).mono ?_;rintro e w' ⟨rfl,hw'⟩;subst w';go_wp2_with fail;refine(zce _ _).mono ?_;rw[cw];rintro e w' ⟨rfl,hw'⟩;subst w'
  case' neg =>
   refine(zbe _ _ _ ci).mono ?_;rintro e w' ⟨rfl,hw'⟩;subst w'
  all_goals
   go_wp2;rw[<- hw2];rw[<- hw2]at p0 p1 p2 p3 p4 p5 p6 p7 p8 p9 p10 p11 f0 f1 f2 f3 f4 f5 f6 f7 f8 f9 f10 f11;refine bodyPost_ret (v:=.tuple #[.agg #[.I 0,.I 0,.I 0,.I 0,.I 0,.I 0,.I 0,.I 0,.I 0,.I 0,.I 0,.I 0],.I 4]) (by simp[results,Tryz.results21,go_sem,p0,p1,p2,p3,p4,p5,p6,p7,p8,p9,p10,p11]) rfl ⟨rfl,?_⟩
   repeat (first | with_reducible exact B2.o | refine Below.setCell ?_ (by simp only;omega) _)
 ·go_wp2_with fail;obtain⟨ci,cw⟩:=c0;refine(zaq _ _ _ ci).mono ?_;rintro e w' ⟨rfl,hw'⟩;subst w';go_wp2_with fail;refine(zce _ _).mono ?_;rw[cw];rintro e w' ⟨rfl,hw'⟩;subst w';go_wp2;rw[<- hw2];rw[<- hw2]at p0 p1 p2 p3 p4 p5 p6 p7 p8 p9 p10 p11 f0 f1 f2 f3 f4 f5 f6 f7 f8 f9 f10 f11;refine bodyPost_ret (v:=.tuple #[.agg #[.I y.kind,.I y.size,.I y.links,.I y.m0,.I y.m1,.I y.m2,.I y.m3,.I y.m4,.I y.m5,.I y.m6,.I y.m7,.I n],.I 0]) (by simp[results,Tryz.results21,go_sem,p0,p1,p2,p3,p4,p5,p6,p7,p8,p9,p10,p11]) rfl ⟨rfl,?_⟩
  repeat (first | with_reducible exact B2.o | refine Below.setCell ?_ (by simp only;omega) _)
def NW(w:World):Prop:=∃ t fr,w.heap[2]?=some (.cells #[.I (-1),.I 0] t fr)
theorem NW.lt{w:World}(h:NW w):2<w.heap.size:=by
 obtain⟨t,fr,h⟩:=h;exact(Array.getElem?_eq_some_iff.1 h).1
theorem NW.later{w w':World}{B:Nat}(h:NW w)(hB:2<B)(hb:Below B w w'):NW w':=by
 obtain⟨t,fr,h⟩:=h;exact⟨t,fr,(hb.block 2 hB).trans h⟩
theorem NW.below{w w':World}(h:NW w)(hb:zB w w'):NW w':=h.later h.lt hb
theorem NW.cells{w:World}(h:NW w):w.cell? ⟨2,0,none⟩=some (.I (-1))/\w.cell? ⟨2,1,none⟩=some (.I 0):=by
 obtain⟨t,fr,h⟩:=h;simp[World.cell?,h]
def zms(at_:Int)(acc:Se×Int)(p:Se):Se×Int:=if p.at_=at_/\0<acc.2 then(p,acc.2-1)else acc
def lwR(at_ most:Int)(ps:List Se):Se×Int:=ps.foldl (zms at_) (⟨-1,0⟩,most)
def zym(at_ most:Int)(ps:List Se):Se:=(lwR at_ most ps).1
theorem yagm(at_ most:Int)(ps:List Se)(p:Se):lwR at_ most (ps++[p])=zms at_ (lwR at_ most ps) p:=by simp[lwR]
theorem yayb{at_ most:Int}{ps:List Se}{m:Nat}(hm:m<ps.length)(h:ps[m].at_=at_)(h0:0<(lwR at_ most (ps.take m)).2):lwR at_ most (ps.take (m+1))=(ps[m],(lwR at_ most (ps.take m)).2-1):=by
 rw[zdb ps m hm,yagm];unfold zms;rw[if_pos ⟨h,h0⟩]
theorem yafp{at_ most:Int}{ps:List Se}{m:Nat}(hm:m<ps.length)(h:¬ (ps[m].at_=at_/\0<(lwR at_ most (ps.take m)).2)):lwR at_ most (ps.take (m+1))=lwR at_ most (ps.take m):=by
 rw[zdb ps m hm,yagm];unfold zms;rw[if_neg h]
structure LwInv(w wr:World)(s:Se):Prop where
 last:wr.heap[w.heap.size+1]?=some (.cells #[.I s.at_,.I s.val] 153 (0,0))
 res:wr.heap[w.heap.size]?=some (.cells #[.I 0,.I 0] 153 (0,0))
 below:zB w wr
theorem LwInv.alloc{w wr:World}{s:Se}(h:LwInv w wr s)(o:Obj):LwInv w (wr.alloc o) s :=
 ⟨zaj h.last,zaj h.res,h.below.alloc h.below.size o⟩
theorem LwInv.set{w wr:World}{s:Se}(h:LwInv w wr s)(p:Se):LwInv w ((wr.setCell ⟨w.heap.size+1,0,none⟩ (.I p.at_)).setCell ⟨w.heap.size+1,1,none⟩ (.I p.val)) p :=
 ⟨zmw (zmu h.last _) _,by rw[Below.heap_setCell _ _ _ _ (by simp only;omega),Below.heap_setCell _ _ _ _ (by simp only;omega)];exact h.res,(h.below.setCell (by simp only;omega) _).setCell (by simp only;omega) _⟩
theorem zut(v:Value)(ps:List Se)(at_ most:Int)(w:World)(h:RdE w v ps)(hG:NW w)(hp:ps.length<=1048576)(h0:0<=most)(h1:most<=400) :
  zC 125 #[v,.I at_,.I most] w fun e w'=>e=.returned (.agg #[.I (zym at_ most ps).at_,.I (zym at_ most ps).val])/\zB w w':=by
 obtain⟨aP,cP,rfl,_,hcP⟩:=h.shape;have HP:=zaa hcP;have hw0:=hG.lt;have hb0:zB w (w.alloc (.cells #[.I 0,.I 0] 153)):=zR.alloc zL _;obtain⟨g0,g1⟩:=(hG.below hb0).cells
 have INV:Hid (LwInv w ((w.alloc (.cells #[.I 0,.I 0] 153)).alloc (.cells #[.I (-1),.I 0] 153)) (lwR at_ most (ps.take 0)).1) :=
  ⟨zaf (by simp),zaj (zaf rfl),hb0.alloc (by simp) _⟩
 clear h hcP hb0;go_enter Tryz.func125,Tryz.ntmps125;go_wp2
 go_loopw [2,9,13] (fun mo _ i wr=>∃ m:Nat,m<=ps.length/\i=.I m/\mo=.I (lwR at_ most (ps.take m)).2/\(0<=(lwR at_ most (ps.take m)).2/\(lwR at_ most (ps.take m)).2<=most)/\Hid (LwInv w wr (lwR at_ most (ps.take m)).1)) (fun _ _ i _=>ps.length-(intOf i).toNat)
 case atStart=>exact⟨0,by omega,rfl,rfl,⟨h0,Int.le_refl _⟩,INV⟩
 case round =>
  obtain⟨m,hm,rfl,rfl,⟨hm0,hm1⟩,I⟩:=hrel
  by_cases hlt:m<ps.length
  ·obtain⟨b,o,rfl,hbl,hcell⟩:=HP.o (by omega);obtain⟨c0,c1⟩:=hcell m hlt;have d0:=(I.o.below.cell (p:=⟨b,o+m*2,none⟩) hbl).trans c0;have d1:=(I.o.below.cell (p:=⟨b,o+m*2+1,none⟩) hbl).trans c1;have hzr:w.heap.size+2<=wr.heap.size:=(Array.getElem?_eq_some_iff.1 I.o.last).1;obtain⟨y0,y1,y2,y3⟩:=zac (zaj (o:=.cells #[.I ps[m].at_,.I ps[m].val] 153) I.o.last);clear hcell c0 c1
   by_cases q:ps[m].at_=at_
   ·have q':(ps[m].at_ == at_)=true:=by simpa using q
    by_cases q2:0<(lwR at_ most (ps.take m)).2
    ·have E:=zaa (yayb hlt q q2);have I1:=zaa ((I.o.alloc (.cells #[.I ps[m].at_,.I ps[m].val] 153)).set ps[m]);have I2:=zaa ((I.o.set ps[m]).alloc (.cells #[.I ps[m].at_,.I ps[m].val] 153));generalize (lwR at_ most (ps.take m)).2=mo at *;clear q;go_wp2
     go_roundw
     case rel =>
      refine⟨m+1,by omega,by go_num,?_,?_,?_⟩
      ·rw[E.o]
      ·rw[E.o];exact⟨by show 0<=mo-1;omega,by show mo-1<=most;omega⟩
      ·rw[E.o]
       first | exact I1 | exact I2
     case measure=>simp[intOf];omega
    ·have E:=zaa (yafp hlt (fun c=>q2 c.2));have I1:=zaa (I.o.alloc (.cells #[.I ps[m].at_,.I ps[m].val] 153))
     have e0:(lwR at_ most (ps.take m)).2=0:=by omega
     have E0:=zaa e0;rw[e0];clear e0 q q2;go_wp2
     go_roundw
     case rel =>
      refine⟨m+1,by omega,by go_num,?_,?_,?_⟩
      ·rw[E.o,E0.o]
      ·rw[E.o];exact⟨hm0,hm1⟩
      ·rw[E.o];exact I1
     case measure=>simp[intOf];omega
   ·have q':(ps[m].at_ == at_)=false:=by simpa using q
    have E:=zaa (yafp (most:=most) hlt (fun c=>q c.1));have I1:=zaa (I.o.alloc (.cells #[.I ps[m].at_,.I ps[m].val] 153));clear q;go_wp2
    go_roundw
    case rel =>
     refine⟨m+1,by omega,by go_num,?_,?_,?_⟩
     ·rw[E.o]
     ·rw[E.o];exact⟨hm0,hm1⟩
     ·rw[E.o];exact I1
    case measure=>simp[intOf];omega
  ·have e:m=ps.length:=by omega
   subst e;rw[List.take_length]at I;obtain⟨y0,y1,y2,y3⟩:=zac I.o.last;obtain⟨t0,t1,t2,t3⟩:=zac I.o.res;go_wp2;refine bodyPost_ret (v:=.agg #[.I (lwR at_ most ps).1.at_,.I (lwR at_ most ps).1.val]) (by simp[results,Tryz.results125,go_sem,t0,t1]) rfl ?_;exact⟨rfl,(I.o.below.setCell (by simp only;omega) _).setCell (by simp only;omega) _⟩
end Go.Proofs.YtdiaiejmoocpmaaGreatDoor
