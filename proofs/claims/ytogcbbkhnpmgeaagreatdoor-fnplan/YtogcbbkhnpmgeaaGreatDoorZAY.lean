import Derived.Test.YtogcbbkhnpmgeaaGreatDoorZAV
import Derived.Test.YtogcbbkhnpmgeaaGreatDoorZAX
set_option maxRecDepth 100000
set_option maxHeartbeats 4000000
namespace Go.Proofs.YtogcbbkhnpmgeaaGreatDoor
open Go.RowKit
theorem zju(v:Value)(ws:List Int)(ps:List St)(es:List Int)(qs:List Se)(e:Int)(w:World)(h:RdDev w v ws ps es qs)(hP:pmB ws ps=true)(hB:zfp es qs=true)(te:zer e=true) :
  zC 145 #[v,.I e] w fun r w'=>r=.returned (.I (pgV ws ps es qs e))/\zB w w':=by
 obtain⟨aW,cW,aP,cP,aS,cS,aQ,cQ,rfl,h1,h2⟩:=h.form
 have te':0<=e/\((e%4=0/\e/4=0)\/(e%4=1/\0<=e/4/\e/4<24)\/(e%4=2/\0<=e/4/\e/4<32)):=by
  unfold zer zfl at te;rw[Bool.and_eq_true,decide_eq_true_eq,decide_eq_true_eq]at te;exact te
 have wl:=zgj hP;have el:=zdu hB;have BW:Hid (zB w (w.alloc (.cells #[.slice aW ws.length cW,.slice aP ps.length cP,.slice aS es.length cS,.slice aQ qs.length cQ] 31))):=zR.alloc zL _;have LT:=zaa (fun w1=>zew e w1 te'.1 (by omega));have EV:=zaa (show pgV ws ps es qs e=if e%4=1 then ldW ws ps (312+e/4).toNat else if e%4=2 then zhq (e/4) (es[(e/4).toNat]?.getD 0) qs else 0 from rfl)
 have L1:Hid (∀ (k:Nat),k<24->∀ w1,zB w w1->zC 139 #[.agg #[.slice aW ws.length cW,.slice aP ps.length cP],.I (312+(k:Int))] w1 fun r w'=>r=.returned (.I (ldW ws ps (312+k)))/\zB w1 w'):=fun k hk w1 hb=>by
  have:=zrq _ ws ps (312+k) w1 (h1.below hb) (by omega) (by omega) (by omega);rw[<- ybbf,show((312+k:Nat):Int)=312+(k:Int) by omega]at this;exact this
 have L2:Hid (∀ (k:Nat),k<32->∀ w1,zB w w1->zC 196 #[.agg #[.slice aS es.length cS,.slice aQ qs.length cQ],.I (k:Int)] w1 fun r w'=>r=.returned (.I (zhq (k:Int) (es[k]?.getD 0) qs))/\zB w1 w'):=fun k hk w1 hb=>by
  have:=yacu _ es qs k w1 (h2.below hb) (by omega) (by omega) (by omega);rw[show(es[k]?.getD 0)=es[k]'(by omega) by simp[show k<es.length by omega]];exact this
 clear h h1 h2 te hP hB wl el;generalize pgV ws ps es qs e=r at *;generalize e%4=t at *;generalize e/4=a at *
 rcases te'.2 with ⟨rfl,rfl⟩ | ⟨rfl,a0,a1⟩ | ⟨rfl,a0,a1⟩
 ·rw[if_neg (by omega),if_neg (by omega)]at EV;obtain rfl:=EV.o;clear te' L1 L2 EV;go_enter Tryz.func145,Tryz.ntmps145;go_wp2_with fail;refine(LT.o _).mono ?_;rintro r w1 ⟨rfl,rfl⟩;go_wp2;go_ret;exact⟨rfl,BW.o⟩
 ·obtain⟨k,rfl⟩:∃ k:Nat,a=(k:Int):=⟨a.toNat,by omega⟩
  rw[if_pos rfl,show(312+(k:Int)).toNat=312+k by omega]at EV;obtain rfl:=EV.o
  have k24:k<24:=by omega
  have Q:=zaa (L1.o k k24);clear te' L1 L2 EV a0 a1;go_enter Tryz.func145,Tryz.ntmps145;go_wp2_with fail;refine(LT.o _).mono ?_;rintro r w1 ⟨rfl,rfl⟩;go_wp2_with fail;refine(Q.o _ BW.o).mono ?_;rintro r w2 ⟨rfl,hb2⟩;have B2:=zaa (zab BW.o hb2 BW.o.size);clear hb2;go_wp2;go_ret;exact⟨rfl,B2.o⟩
 ·obtain⟨k,rfl⟩:∃ k:Nat,a=(k:Int):=⟨a.toNat,by omega⟩
  rw[if_neg (by omega),if_pos rfl,Int.toNat_natCast]at EV;obtain rfl:=EV.o
  have k32:k<32:=by omega
  have Q:=zaa (L2.o k k32);clear te' L1 L2 EV a0 a1;go_enter Tryz.func145,Tryz.ntmps145;go_wp2_with fail;refine(LT.o _).mono ?_;rintro r w1 ⟨rfl,rfl⟩;go_wp2_with fail;refine(Q.o _ BW.o).mono ?_;rintro r w2 ⟨rfl,hb2⟩;have B2:=zaa (zab BW.o hb2 BW.o.size);clear hb2;go_wp2;go_ret;exact⟨rfl,B2.o⟩
theorem zky(v:Value)(ns:List Ino)(ds:List Den)(s:ByteArray)(w:World)(h:RdIm w v ns ds)(hi:zbg ns ds=true)(hs:s.size<=65536) :
  zC 92 #[v,.string s] w fun e w'=>e=.returned (.tuple #[.I (flI ns ds s).1,.I (flI ns ds s).2])/\zB w w':=by
 have LL:=zaa (fun w1 (hb:zB w w1)=>zfu v ns ds s w1 (h.below hb) hi hs);have EL:=zaa (show flI ns ds s=if (lkI ns ds s).2=0 then(if zaj ns (lkI ns ds s).1=1 then((lkI ns ds s).1,0) else(0,9)) else(0,(lkI ns ds s).2)from rfl);have LO:=zaa (zoe (s:=s) hi);obtain⟨l16,l24,_⟩:=zas hi;have L16:=zaa l16;obtain⟨vW,vP,rfl,h1,h2⟩:=h;obtain⟨aW,cW,rfl,_,hcW⟩:=h1.shape;obtain⟨aP,cP,rfl,_,hcP⟩:=h2.shape;obtain⟨bW,oW,rfl,hblW,hcellW⟩:=hcW (by omega)
 have HW:Hid (∀ i (h:i<ns.length) w',zB w w'->w'.cell? ⟨bW,oW+i*11,none⟩=some (.I (zaj ns (i:Int)))):=fun i h w' hb =>
  ((hb.cell (p:=⟨bW,oW+i*11,none⟩) hblW).trans (hcellW i h).1).trans (by rw[<- zbk h])
 clear h1 h2 hi hs hcW hcP hcellW l16 l24
 have CA:Hid (∀ w',Below (w.alloc (.cells #[.slice (some ⟨bW,oW,none⟩) ns.length cW,.slice aP ds.length cP] 51)).heap.size (w.alloc (.cells #[.slice (some ⟨bW,oW,none⟩) ns.length cW,.slice aP ds.length cP] 51)) w'->w'.cell? ⟨w.heap.size,0,none⟩=some (.slice (some ⟨bW,oW,none⟩) ns.length cW)/\w'.cell? ⟨w.heap.size,1,none⟩=some (.slice aP ds.length cP)):=fun w' hb=>by
  have:w'.heap[w.heap.size]?=some (.cells #[.slice (some ⟨bW,oW,none⟩) ns.length cW,.slice aP ds.length cP] 51 (0,0)):=(hb.block _ (by simp)).trans (zaf rfl);exact⟨(zac this).1,(zac this).2.1⟩
 have BW:Hid (zB w (w.alloc (.cells #[.slice (some ⟨bW,oW,none⟩) ns.length cW,.slice aP ds.length cP] 51))):=zR.alloc zL _;obtain⟨x0,x1⟩:=CA.o _ zR
 obtain⟨W,hW⟩:=zE (w.alloc (.cells #[.slice (some ⟨bW,oW,none⟩) ns.length cW,.slice aP ds.length cP] 51))
 rw[<- hW]at CA BW
 have hz:w.heap.size<W.heap.size:=by rw[hW];simp
 generalize flI ns ds s=res at *;generalize lkI ns ds s=lr at *;obtain⟨li,lc⟩:=lr;simp only at EL LO LL
 obtain⟨i,rfl⟩:∃ i:Nat,li=(i:Int):=⟨li.toNat,by have:=LO.o;omega⟩
 have i1:i<ns.length:=by have:=LO.o;have:=L16.o;omega
 have i0:(0:Int)<=(i:Int):=by omega
 have il:(i:Int)<(ns.length:Int):=by omega
 have HWi:=zaa (HW.o i i1);clear HW LO;generalize zaj ns (i:Int)=kd at *;go_enter Tryz.func92,Tryz.ntmps92;go_wp2_with fail;rw[<- hW];clear hW x0 x1;refine(LL.o _ BW.o).mono ?_;rintro e w1 ⟨rfl,hb1⟩;have A1:=zaa hb1;have B1:=zaa (zab BW.o A1.o BW.o.size);obtain⟨x0,x1⟩:=CA.o _ A1.o;clear hb1
 by_cases c:lc=0
 case neg =>
  rw[if_neg c]at EL;obtain rfl:=EL.o
  have q:(lc != 0)=true:=by rw[bne_iff_ne];exact c
  go_wp2;go_ret2;exact⟨rfl,B1.o⟩
 subst c;rw[if_pos rfl]at EL;have y0:=HWi.o _ B1.o
 by_cases c:kd=1
 ·rw[if_pos c]at EL;obtain rfl:=EL.o
  have q:(kd != 1)=false:=by rw[c];rfl
  go_wp2;go_ret2;exact⟨rfl,B1.o⟩
 ·rw[if_neg c]at EL;obtain rfl:=EL.o
  have q:(kd != 1)=true:=by rw[bne_iff_ne];exact c
  go_wp2;go_ret2;exact⟨rfl,B1.o⟩
theorem zgu{a b c:World}(h1:zB a b)(h2:zB b c):zB a c:=zab h1 h2 h1.size
structure RimI(W w:World)(bM:Nat)(vI vD:Value)(xs:List Ino)(ds:List Den):Prop where
 m:w.heap[bM]?=some (.cells #[vI,vD] 51 (0,0))
 i:w.ownsRow W.heap.size 87 11 vI xs.length (inos xs)
 d:w.ownsRow W.heap.size 90 3 vD ds.length (dens ds)
 b:zB W w
 hb:W.heap.size<=bM
theorem RimI.lt{W w:World}{bM:Nat}{vI vD:Value}{xs:List Ino}{ds:List Den}(h:RimI W w bM vI vD xs ds):bM<w.heap.size:=(Array.getElem?_eq_some_iff.1 h.m).1
theorem RimI.z{W w:World}{bM:Nat}{vI vD:Value}{xs:List Ino}{ds:List Den}(h:RimI W w bM vI vD xs ds):W.heap.size<=w.heap.size:=h.b.size
theorem RimI.below{W w w':World}{bM:Nat}{vI vD:Value}{xs:List Ino}{ds:List Den}(h:RimI W w bM vI vD xs ds)(hb:zB w w'):RimI W w' bM vI vD xs ds :=
 ⟨(hb.block _ h.lt).trans h.m,((zad h.i).below hb zL).1,((zad h.d).below hb zL).1,zab h.b hb h.z,h.hb⟩
theorem zdc{w:World}{base:Nat}{e t:TypeId}{size:Nat}{v:Value}{n:Nat}{xs:List Value}{b:Nat}{cs:Array Value}{fr:Nat×Nat}(h:w.ownsRow base e size v n xs)(hb:w.heap[b]?=some (.cells cs t fr))(hne:e≠t):v.ownBlock≠some b:=by
 intro hv;obtain⟨_,h1 | ⟨g,cap,cur,e1,_,hg,_⟩⟩:=h
 ·rw[h1.1]at hv;cases hv
 ·rw[e1]at hv
  have:g=b:=by simpa[Value.ownBlock]using hv
  subst this;rw[hg]at hb;injection hb with hb;injection hb with _ ht _;exact hne ht
theorem znf:(87:Nat)≠51:=by decide
theorem zns:(90:Nat)≠51:=by decide
theorem yant:(87:Nat)≠90:=by decide
theorem yatp(l l':List Ino):inos (l++l')=inos l++inos l':=by simp[inos]
theorem yaaj(l:List Ino):∀ u∈inos l,u.oneCell'=true:=by
 intro u hu;simp only[inos,List.mem_flatMap]at hu;obtain⟨m,_,hm⟩:=hu;simp[Ino.cs]at hm
 rcases hm with rfl|rfl|rfl|rfl|rfl|rfl|rfl|rfl|rfl|rfl|rfl<;>rfl
theorem RimI.growI{W w w':World}{bM:Nat}{vI vD v':Value}{xs:List Ino}{ds:List Den}(h:RimI W w bM vI vD xs ds)(x:Ino)(ho:w'.ownsRow W.heap.size 87 11 v' (xs.length+1) (inos xs++inos [x]))(hg:w.grownBy w' vI.ownBlock) :
  w'.heap[bM]?=some (.cells #[vI,vD] 51 (0,0))/\RimI W (w'.setCell ⟨bM,0,none⟩ v') bM v' vD (xs++[x]) ds:=by
 have hm:w'.heap[bM]?=some (.cells #[vI,vD] 51 (0,0)):=(hg.block _ h.lt (zdc h.i h.m znf).symm).trans h.m;have hd:=(Row.apart (zad h.d) (zad h.i) (Ne.symm yant) hg).1;have hbw:=h.b.grown hg h.z (fun q hq=>(h.i.lt q hq).1);have hm2:(w'.setCell ⟨bM,0,none⟩ v').heap[bM]?=some (.cells #[v',vD] 51 (0,0)):=zco (xs:=[vI,vD]) hm 0 v';refine⟨hm,hm2,?_,?_,hbw.setCell h.hb _,h.hb⟩
 ·rw[yatp,List.length_append];exact ownsRow_setCell_other ho (zdc ho hm znf) _
 ·exact ownsRow_setCell_other hd (zdc hd hm zns) _
theorem RimI.growD{W w w':World}{bM:Nat}{vI vD v':Value}{xs:List Ino}{ds:List Den}(h:RimI W w bM vI vD xs ds)(x:Den)(ho:w'.ownsRow W.heap.size 90 3 v' (ds.length+1) (dens ds++dens [x]))(hg:w.grownBy w' vD.ownBlock) :
  w'.heap[bM]?=some (.cells #[vI,vD] 51 (0,0))/\RimI W (w'.setCell ⟨bM,1,none⟩ v') bM vI v' xs (ds++[x]):=by
 have hm:w'.heap[bM]?=some (.cells #[vI,vD] 51 (0,0)):=(hg.block _ h.lt (zdc h.d h.m zns).symm).trans h.m;have hd:=(Row.apart (zad h.i) (zad h.d) yant hg).1;have hbw:=h.b.grown hg h.z (fun q hq=>(h.d.lt q hq).1);have hm2:(w'.setCell ⟨bM,1,none⟩ v').heap[bM]?=some (.cells #[vI,v'] 51 (0,0)):=zco (xs:=[vI,vD]) hm 1 v';refine⟨hm,hm2,?_,?_,hbw.setCell h.hb _,h.hb⟩
 ·exact ownsRow_setCell_other hd (zdc hd hm znf) _
 ·rw[zmz,List.length_append];exact ownsRow_setCell_other ho (zdc ho hm zns) _
theorem zat{a w:World}(h:zB a w)(o:Obj):zB a (w.alloc o):=h.alloc h.size o
structure BoxZ(t:TypeId)(wr w:World)(b:Nat)(cs:List Value):Prop where
 ge:wr.heap.size<=b
 at_:w.heap[b]?=some (.cells cs.toArray t (0,0))
theorem BoxZ.new{t:TypeId}{wr Y:World}{cs:List Value}(h:zB wr Y):BoxZ t wr (Y.alloc (.cells cs.toArray t)) Y.heap.size cs:=⟨h.size,zaf rfl⟩
theorem BoxZ.drew{t:TypeId}{wr w:World}{b:Nat}{cs:List Value}(h:BoxZ t wr w b cs):BoxZ t wr w.drew b cs:=⟨h.ge,h.at_⟩
theorem BoxZ.lt{t:TypeId}{wr w:World}{b:Nat}{cs:List Value}(h:BoxZ t wr w b cs):b<w.heap.size:=(Array.getElem?_eq_some_iff.1 h.at_).1
theorem BoxZ.below{t:TypeId}{wr X w:World}{b:Nat}{cs:List Value}(h:BoxZ t wr X b cs)(hb:zB X w):BoxZ t wr w b cs:=⟨h.ge,(hb.block _ h.lt).trans h.at_⟩
theorem BoxZ.put{t:TypeId}{wr w:World}{b:Nat}{cs:List Value}(h:BoxZ t wr w b cs)(j:Nat)(u:Value):BoxZ t wr (w.setCell ⟨b,j,none⟩ u) b (cs.set j u):=⟨h.ge,zco h.at_ j u⟩
theorem BoxZ.cell{t:TypeId}{wr w:World}{b:Nat}{cs:List Value}(h:BoxZ t wr w b cs)(j:Nat):w.cell? ⟨b,j,none⟩=cs[j]?/\w.frozen? ⟨b,j,none⟩=false:=zag h.at_ j
end Go.Proofs.YtogcbbkhnpmgeaaGreatDoor
