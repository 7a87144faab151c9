import Derived.Test.YtfagbapgnocjiaaGreatDoorRdC
import Derived.Test.YtfagbapgnocjiaaGreatDoorZBI
set_option maxRecDepth 100000
set_option maxHeartbeats 16000000
namespace Go.Proofs.YtfagbapgnocjiaaGreatDoor
open Go.RowKit
theorem yake{ws:List Int}{ps:List St}(h:pmB ws ps=true)(n:Nat):∀ k (hk:k<(zbq (zdv ws ps) n).length),(zbq (zdv ws ps) n)[k].R:=by
 intro k hk;have hm:(zbq (zdv ws ps) n)[k]∈(List.range n).map (zee (zdv ws ps)):=List.getElem_mem hk;obtain⟨j,_,e⟩:=List.mem_map.1 hm;rw[<- e];exact yaqd h j
theorem zxu(ls:List Int)(n:Nat):∀ k (hk:k<(zby ls n).length),(zby ls n)[k].name.size<=maxLen:=by
 intro k hk;have hm:(zby ls n)[k]∈(List.range n).map (zfo ls):=List.getElem_mem hk;obtain⟨j,_,e⟩:=List.mem_map.1 hm;rw[<- e];exact yabe ls j
theorem zwz(vd v:Value)(ws:List Int)(ps:List St)(es:List Int)(qs:List Se)(ns:List Ino)(ds:List Den)(s:ByteArray)(page:Int)(w:World)(hd:RdDev w vd ws ps es qs)(hP:pmB ws ps=true)(hB:zpe es qs=true)(h:RdIm w v ns ds)(hi:zbo ns ds=true)(hs:s.size<=65536) :
  zC 163 #[vd,v,.string s,.I page] w fun e w'=>e=.returned (.tuple #[.I (rpI ws ps es qs ns ds s page).1,.I (rpI ws ps es qs ns ds s page).2])/\zB w w':=by
 have LV:=zaa (fun w1 (hb:zB w w1) z (hz:zel z=true)=>zgy vd ws ps es qs z w1 (hd.below hb) hP hB hz);have LL:=zaa (fun w1 (hb:zB w w1)=>zhz v ns ds s w1 (h.below hb) hi hs);have EL:=zaa (show rpI ws ps es qs ns ds s page=if (flI ns ds s).2=0 then rpF ws ps es qs ns (flI ns ds s).1 page else(0,(flI ns ds s).2)from rfl);have LO:=zaa (fun c=>zgp (s:=s) (zbv.1 hi) c);have EF:=zaa (fun i=>show rpF ws ps es qs ns i page=if 0<=page/\page<zdl ns i then(pgV ws ps es qs (zms ns i page),0) else(0,4)from rfl)
 have SZ:Hid (∀ i:Nat,i<16->0<=zdl ns (i:Int)/\zdl ns (i:Int)<=8):=fun i hk=>(zcf ((zbv.1 hi).ok i hk)).2.1
 have TI:Hid (∀ i:Nat,i<16->∀ j:Nat,j<8->zel (zms ns (i:Int) (j:Int))=true):=fun i hk j hj=>by
  refine(zfk ((zbv.1 hi).ok i hk)).1 _ ?_
  show(zal ns i).map.getD j 0∈_
  rw[List.getD_eq_getElem?_getD,List.getElem?_eq_getElem (show j<(zal ns i).map.length from hj)];exact List.getElem_mem _
 obtain⟨l16,l24,_⟩:=zao hi;have L16:=zaa l16;obtain⟨dW,eW,dP,eP,dS,eS,dQ,eQ,rfl,-,-⟩:=hd.form;obtain⟨vW,vP,rfl,h1,h2⟩:=h;obtain⟨aW,cW,rfl,_,hcW⟩:=h1.shape;obtain⟨aP,cP,rfl,_,hcP⟩:=h2.shape;obtain⟨bW,oW,rfl,hblW,hcellW⟩:=hcW (by omega)
 have HM:Hid (∀ k,k<16->∀ w',zB w w'->w'.cell? ⟨bW,oW+k*11+1,none⟩=some (.I (zdl ns (k:Int)))/\∀ j,j<8->w'.cell? ⟨bW,oW+k*11+3+j,none⟩=some (.I (zms ns (k:Int) (j:Int)))):=fun k hk w' hb=>by
  unfold zdl zms;rw[Int.toNat_natCast,zcc (by omega:k<ns.length)];obtain⟨a0,a1,a2,a3,a4,a5,a6,a7,a8,a9,a10⟩:=hcellW k (by omega);refine⟨(hb.cell (p:=⟨bW,oW+k*11+1,none⟩) hblW).trans a1,fun j hj=>?_⟩;rw[Int.toNat_natCast]
  rcases(show j=0\/j=1\/j=2\/j=3\/j=4\/j=5\/j=6\/j=7 by omega)with rfl|rfl|rfl|rfl|rfl|rfl|rfl|rfl
  ·exact(hb.cell (p:=⟨bW,oW+k*11+3,none⟩) hblW).trans a3
  ·exact(hb.cell (p:=⟨bW,oW+k*11+4,none⟩) hblW).trans a4
  ·exact(hb.cell (p:=⟨bW,oW+k*11+5,none⟩) hblW).trans a5
  ·exact(hb.cell (p:=⟨bW,oW+k*11+6,none⟩) hblW).trans a6
  ·exact(hb.cell (p:=⟨bW,oW+k*11+7,none⟩) hblW).trans a7
  ·exact(hb.cell (p:=⟨bW,oW+k*11+8,none⟩) hblW).trans a8
  ·exact(hb.cell (p:=⟨bW,oW+k*11+9,none⟩) hblW).trans a9
  ·exact(hb.cell (p:=⟨bW,oW+k*11+10,none⟩) hblW).trans a10
 clear h1 h2 hi hs hcW hcP hcellW l16 l24 hd hP hB
 obtain⟨W,hW⟩:=zE ((w.alloc (.cells #[.slice dW ws.length eW,.slice dP ps.length eP,.slice dS es.length eS,.slice dQ qs.length eQ] 78)).alloc (.cells #[.slice (some ⟨bW,oW,none⟩) ns.length cW,.slice aP ds.length cP] 26))
 have hzW:W.heap.size=w.heap.size+1+1:=by rw[hW];simp
 have CD:Hid (∀ w',zB W w'->w'.cell? ⟨w.heap.size,0,none⟩=some (.slice dW ws.length eW)/\w'.cell? ⟨w.heap.size,1,none⟩=some (.slice dP ps.length eP)/\w'.cell? ⟨w.heap.size,2,none⟩=some (.slice dS es.length eS)/\w'.cell? ⟨w.heap.size,3,none⟩=some (.slice dQ qs.length eQ)):=fun w' hb=>by
  have:w'.heap[w.heap.size]?=some (.cells #[.slice dW ws.length eW,.slice dP ps.length eP,.slice dS es.length eS,.slice dQ qs.length eQ] 78 (0,0)):=(hb.block _ (by omega)).trans (by rw[hW];exact zak (zai rfl));obtain⟨x0,x1,x2,x3,-,-,-,-⟩:=zas this;exact⟨x0,x1,x2,x3⟩
 have CA:Hid (∀ w',zB W w'->w'.cell? ⟨w.heap.size+1,0,none⟩=some (.slice (some ⟨bW,oW,none⟩) ns.length cW)/\w'.cell? ⟨w.heap.size+1,1,none⟩=some (.slice aP ds.length cP)):=fun w' hb=>by
  have:w'.heap[w.heap.size+1]?=some (.cells #[.slice (some ⟨bW,oW,none⟩) ns.length cW,.slice aP ds.length cP] 26 (0,0)):=(hb.block _ (by omega)).trans (by
   rw[hW];have:=zai (w:=w.alloc (.cells #[.slice dW ws.length eW,.slice dP ps.length eP,.slice dS es.length eS,.slice dQ qs.length eQ] 78)) (o:=.cells #[.slice (some ⟨bW,oW,none⟩) ns.length cW,.slice aP ds.length cP] 26) rfl;rw[World.size_alloc]at this
   exact this)
  exact⟨(zad this).1,(zad this).2.1⟩
 have BW:Hid (zB w W):=by rw[hW];exact(zR.alloc zL _).alloc (by simp) _
 obtain⟨x0,x1⟩:=CA.o _ zR
 have hz:w.heap.size+1<W.heap.size:=by omega
 clear hzW;generalize rpI ws ps es qs ns ds s page=res at *;generalize flI ns ds s=lr at *;obtain⟨li,lc⟩:=lr;simp only at EL LO LL;go_enter Tryz.func163,Tryz.ntmps163;go_wp2_with fail;rw[<- hW];clear hW x0 x1;refine(LL.o _ BW.o).mono ?_;rintro e w1 ⟨rfl,hb1⟩;have A1:=zaa hb1;have B1:=zaa (zab BW.o A1.o BW.o.size);clear hb1 LL
 by_cases c:lc=0
 case neg =>
  rw[if_neg c]at EL;obtain rfl:=EL.o
  have q:(lc != 0)=true:=by rw[bne_iff_ne];exact c
  clear EL LO c;go_wp2;go_ret2;exact⟨rfl,B1.o⟩
 subst c;rw[if_pos rfl]at EL;obtain⟨i,i16,ei,-⟩:=LO.o rfl;subst ei;rw[EF.o]at EL;have HMi:=zaa (HM.o i i16);have TIi:=zaa (TI.o i i16);obtain⟨z0,z8⟩:=SZ.o i i16
 have i1:i<ns.length:=by have:=L16.o;omega
 have i0:(0:Int)<=(i:Int):=by omega
 have il:(i:Int)<(ns.length:Int):=by omega
 clear HM EF LO L16 SZ TI;obtain⟨x0,x1⟩:=CA.o _ A1.o;have y0:=(HMi.o _ B1.o).1;generalize zdl ns (i:Int)=sz at *
 by_cases c:0<=page/\page<sz
 case neg =>
  rw[if_neg c]at EL;obtain rfl:=EL.o;clear EL;go_wp2_with fail;refine(zfi _ _ _ _ (by omega)).mono ?_;rintro e w' ⟨rfl,hw'⟩;subst w';go_wp2;go_ret2;exact⟨rfl,B1.o⟩
 rw[if_pos c]at EL
 obtain⟨j,rfl⟩:∃ j:Nat,page=(j:Int):=⟨page.toNat,by omega⟩
 have j8:j<8:=by omega
 have te:=zaa (TIi.o j j8);have LV2:=zaa (fun w1 hb=>LV.o w1 hb _ te.o)
 have j0:(0:Int)<=(j:Int):=by omega
 have j1:(j:Int)<8:=by omega
 have KE:Hid (∀ w',zB W w'->w'.cell? ⟨w.heap.size,0,none⟩=some (.slice dW ws.length eW)/\w'.cell? ⟨w.heap.size,1,none⟩=some (.slice dP ps.length eP)/\w'.cell? ⟨w.heap.size,2,none⟩=some (.slice dS es.length eS)/\w'.cell? ⟨w.heap.size,3,none⟩=some (.slice dQ qs.length eQ)/\w'.cell? ⟨w.heap.size+1,0,none⟩=some (.slice (some ⟨bW,oW,none⟩) ns.length cW)/\w'.cell? ⟨bW,oW+i*11+3+j,none⟩=some (.I (zms ns (i:Int) (j:Int)))):=fun w' hb =>
  ⟨(CD.o w' hb).1,(CD.o w' hb).2.1,(CD.o w' hb).2.2.1,(CD.o w' hb).2.2.2,(CA.o w' hb).1,(HMi.o w' (zab BW.o hb BW.o.size)).2 j j8⟩
 generalize zms ns (i:Int) (j:Int)=pz at *;go_wp2_with fail;refine(zbi _ _ _ _ (by omega)).mono ?_;rintro e w' ⟨rfl,hw'⟩;subst w';clear c y0 HMi TIi te LV CD CA x0 x1;obtain⟨x0,x1,x2,x3,x4,x5⟩:=KE.o _ A1.o;go_wp2_with fail
 go_region_held3 (fun w'=>w'.cell? ⟨w.heap.size,0,none⟩=some (.slice dW ws.length eW)/\w'.cell? ⟨w.heap.size,1,none⟩=some (.slice dP ps.length eP)/\w'.cell? ⟨w.heap.size,2,none⟩=some (.slice dS es.length eS)/\w'.cell? ⟨w.heap.size,3,none⟩=some (.slice dQ qs.length eQ)/\w'.cell? ⟨w.heap.size+1,0,none⟩=some (.slice (some ⟨bW,oW,none⟩) ns.length cW)/\w'.cell? ⟨bW,oW+i*11+3+j,none⟩=some (.I pz))
  (first | with_reducible exact KE.o _ A2.o | with_reducible exact KE.o _ A1.o | with_reducible exact KE.o _ A1.o.drew)
  (first
   | (go_at_call 143;refine(LV2.o _ (by first | with_reducible exact B1.o | with_reducible exact B1.o.drew)).mono ?_;rintro e w2 ⟨rfl,hb2⟩;have A2:=zaa (zab A1.o (zdn hb2) A1.o.size);have B2:=zaa (zab B1.o (zdn hb2) B1.o.size);clear hb2;obtain⟨r0,r1,r2,r3,r4,r5⟩:=KE.o _ A2.o))
 all_goals
  obtain rfl:=EL.o;go_wp2;go_ret2;exact⟨rfl,B2.o⟩
def yaff(w w':World)(e:Ending)(r:List Mi×Int):Prop:=∃ v',e=.returned (.tuple #[v',.I r.2])/\Row w' 173 3 w.heap.size w'.heap.size v' r.1.length (mis r.1)/\zB w w'
theorem zfl{w w1:World}{n:Nat}{c:Int}(B:zB w w1)(e:n=w1.heap.size):yaff w (w1.alloc (.cells #[] 173)) (.returned (.tuple #[.slice (some ⟨n,0,none⟩) 0 0,.I c])) ([],c):=by
 subst e;exact⟨_,rfl,(zlq w1 _ _).wide B.size zL,B.alloc B.size _⟩
structure MiI(W w:World)(vL:Value)(ls:List Mi):Prop where
 l:w.ownsRow W.heap.size 173 3 vL ls.length (mis ls)
 b:zB W w
theorem MiI.z{W w:World}{vL:Value}{ls:List Mi}(h:MiI W w vL ls):W.heap.size<=w.heap.size:=h.b.size
theorem MiI.below{W w w':World}{vL:Value}{ls:List Mi}(h:MiI W w vL ls)(hb:zB w w'):MiI W w' vL ls :=
 ⟨((zac h.l).below hb zL).1,zab h.b hb h.z⟩
theorem MiI.grow{W w w':World}{vL v':Value}{ls:List Mi}(h:MiI W w vL ls)(ms:List Mi)(ho:w'.ownsRow W.heap.size 173 3 v' (ls.length+ms.length) (mis ls++mis ms))(hg:w.grownBy w' vL.ownBlock):MiI W w' v' (ls++ms) :=
 ⟨by rw[zpk,List.length_append];exact ho,h.b.grown hg h.z (fun q hq=>(h.l.lt q hq).1)⟩
theorem yath:(208:Nat)≠173:=by decide
structure WrI(W w:World)(vL vU:Value)(ls:List Mi)(us:List Se):Prop where
 l:w.ownsRow W.heap.size 173 3 vL ls.length (mis ls)
 u:w.ownsRow W.heap.size 208 2 vU us.length (ses us)
 b:zB W w
theorem WrI.z{W w:World}{vL vU:Value}{ls:List Mi}{us:List Se}(h:WrI W w vL vU ls us):W.heap.size<=w.heap.size:=h.b.size
theorem WrI.mi{W w:World}{vL vU:Value}{ls:List Mi}{us:List Se}(h:WrI W w vL vU ls us):MiI W w vL ls:=⟨h.l,h.b⟩
theorem WrI.below{W w w':World}{vL vU:Value}{ls:List Mi}{us:List Se}(h:WrI W w vL vU ls us)(hb:zB w w'):WrI W w' vL vU ls us :=
 ⟨((zac h.l).below hb zL).1,((zac h.u).below hb zL).1,zab h.b hb h.z⟩
theorem WrI.growU{W w w':World}{vL vU v':Value}{ls:List Mi}{us:List Se}(h:WrI W w vL vU ls us)(ms:List Se)(ho:w'.ownsRow W.heap.size 208 2 v' (us.length+ms.length) (ses us++ses ms))(hg:w.grownBy w' vU.ownBlock):WrI W w' vL v' ls (us++ms) :=
 ⟨(Row.apart (zac h.l) (zac h.u) (Ne.symm yath) hg).1,by rw[yahw,List.length_append];exact ho,h.b.grown hg h.z (fun q hq=>(h.u.lt q hq).1)⟩
theorem yagg(i page size e:Int):(wrU i page size e).length<=2:=by
 unfold wrU
 split<;>simp
theorem yasl{i:Nat}{p:Nat}(hi:i<16)(hp:p<8)(size e:Int):∀ k (h:k<(wrU (i:Int) (p:Int) size e).length),0<=(wrU (i:Int) (p:Int) size e)[k].at_/\(wrU (i:Int) (p:Int) size e)[k].at_<336:=by
 intro k h;have m:=List.getElem_mem h
 revert m
 generalize (wrU (i:Int) (p:Int) size e)[k]=u;unfold wrU;intro m
 rcases List.mem_cons.1 m with rfl | m
 ·exact⟨by show 0<=48+12*(i:Int)+(3+(p:Int));omega,by show 48+12*(i:Int)+(3+(p:Int))<336;omega⟩
 ·split at m
  ·rw[List.mem_singleton.1 m];exact⟨by show 0<=48+12*(i:Int)+1;omega,by show 48+12*(i:Int)+1<336;omega⟩
  ·cases m
theorem zvj(v:Value)(ns:List Ino)(ds:List Den)(s:ByteArray)(page x:Int)(w:World)(h:RdIm w v ns ds)(hi:zbo ns ds=true)(hs:s.size<=65536) :
  zC 162 #[v,.string s,.I page,.I x] w fun e w'=>yaff w w' e (wrI ns ds s page x):=by
 have LL:=zaa (fun w1 (hb:zB w w1)=>zhz v ns ds s w1 (h.below hb) hi hs);have EL:=zaa (show wrI ns ds s page x=if (flI ns ds s).2=0 then wrF ns (flI ns ds s).1 page x else([],(flI ns ds s).2)from rfl);have LO:=zaa (fun c=>zgp (s:=s) (zbv.1 hi) c);obtain⟨l16,l24,_⟩:=zao hi
 have TR:∀ k (h:k<ns.length),∀ z∈ns[k].map,0<=z/\z<=1048576:=fun k hk z hz=>by
  have t:=(zfk ((zbv.1 hi).ok k (by omega))).1 z (by rw[zcc hk];exact hz);unfold zel zgt at t;rw[Bool.and_eq_true,decide_eq_true_eq,decide_eq_true_eq]at t;omega
 have LF1:Hid (∀ w1,zB w w1->zC 141 #[v,.I 1,.I 24] w1 fun e w'=>e=.returned (.I (fpI ns))/\zB w1 w'):=fun w1 hb=>zgg v ns ds 1 24 w1 (h.below hb) (by omega) TR (by omega)
 have LF2:Hid (∀ w1,zB w w1->zC 141 #[v,.I 2,.I 32] w1 fun e w'=>e=.returned (.I (fsI ns))/\zB w1 w'):=fun w1 hb=>zgg v ns ds 2 32 w1 (h.below hb) (by omega) TR (by omega)
 have L16:=zaa l16
 have F1:Hid (0<=fpI ns->∃ k:Nat,k<24/\fpI ns=(k:Int)):=fun c=>by
  obtain⟨k,a,b,-⟩:=zcw c;exact⟨k,a,b⟩
 have F2:Hid (0<=fsI ns->∃ k:Nat,k<32/\fsI ns=(k:Int)):=fun c=>by
  obtain⟨k,a,b,-⟩:=zcw c;exact⟨k,a,b⟩
 have EF:=zaa (fun i=>show wrF ns i page x=if (0<=page/\page<8)/\zbz x=true then(if fpI ns<0/\fsI ns<0 then([],7) else((if 0<=fpI ns then⟨1,312+fpI ns,x⟩::zbg [312+fpI ns] else[⟨4,fsI ns,x⟩,⟨5,0,0⟩])++zdh (zdq (wrU i page (zdl ns i) (if 0<=fpI ns then 4*fpI ns+1 else 4*fsI ns+2))),0)) else([],4)from rfl);obtain⟨vW,vP,rfl,h1,h2⟩:=h;obtain⟨aW,cW,rfl,_,hcW⟩:=h1.shape;obtain⟨aP,cP,rfl,_,hcP⟩:=h2.shape;obtain⟨bW,oW,rfl,hblW,hcellW⟩:=hcW (by omega)
 have HM:Hid (∀ k,k<16->∀ w',zB w w'->w'.cell? ⟨bW,oW+k*11+1,none⟩=some (.I (zdl ns (k:Int)))):=fun k hk w' hb=>by
  unfold zdl;rw[Int.toNat_natCast,zcc (by omega:k<ns.length)];exact(hb.cell (p:=⟨bW,oW+k*11+1,none⟩) hblW).trans (hcellW k (by omega)).2.1
 clear h1 h2 hi hs hcW hcP hcellW l16 l24 TR
 obtain⟨W,hW⟩:=zE (w.alloc (.cells #[.slice (some ⟨bW,oW,none⟩) ns.length cW,.slice aP ds.length cP] 26))
 have CA:Hid (∀ w',zB W w'->w'.cell? ⟨w.heap.size,0,none⟩=some (.slice (some ⟨bW,oW,none⟩) ns.length cW)/\w'.cell? ⟨w.heap.size,1,none⟩=some (.slice aP ds.length cP)):=fun w' hb=>by
  have:w'.heap[w.heap.size]?=some (.cells #[.slice (some ⟨bW,oW,none⟩) ns.length cW,.slice aP ds.length cP] 26 (0,0)):=(hb.block _ (by rw[hW];simp)).trans (by rw[hW];exact zai rfl);exact⟨(zad this).1,(zad this).2.1⟩
 have BW:Hid (zB w W):=by rw[hW];exact zR.alloc zL _
 obtain⟨x0,x1⟩:=CA.o _ zR
 have hz:w.heap.size<W.heap.size:=by rw[hW];simp
 generalize wrI ns ds s page x=res at *;generalize flI ns ds s=lr at *;obtain⟨li,lc⟩:=lr;simp only at EL LO LL;go_enter Tryz.func162,Tryz.ntmps162;go_wp2_with fail;rw[<- hW];clear hW x0 x1;refine(LL.o _ BW.o).mono ?_;rintro e w1 ⟨rfl,hb1⟩;have A1:=zaa hb1;have B1:=zaa (zab BW.o A1.o BW.o.size);clear hb1 LL
 by_cases c:lc=0
 case neg =>
  rw[if_neg c]at EL;obtain rfl:=EL.o
  have q:(lc != 0)=true:=by rw[bne_iff_ne];exact c
  clear EL LO c;go_wp2;go_ret2;exact zfl B1.o rfl
 subst c;rw[if_pos rfl]at EL;obtain⟨i,i16,ei,-⟩:=LO.o rfl;subst ei;rw[EF.o]at EL;have HS:=zaa (HM.o i i16)
 have i1:i<ns.length:=by have:=L16.o;omega
 have i0:(0:Int)<=(i:Int):=by omega
 have il:(i:Int)<(ns.length:Int):=by omega
 have ir:0<=(i:Int)/\(i:Int)<16:=by omega
 clear HM EF LO L16;generalize zdl ns (i:Int)=sz at *
 by_cases c:0<=page/\page<8
 case neg =>
  rw[if_neg (fun q=>c q.1)]at EL;obtain rfl:=EL.o;clear EL;go_wp2_with fail;refine(zfi _ _ _ _ (by omega)).mono ?_;rintro e w' ⟨rfl,hw'⟩;subst w';go_wp2;go_ret2;exact zfl B1.o rfl
 obtain⟨p,rfl⟩:∃ p:Nat,page=(p:Int):=⟨page.toNat,by omega⟩
 have p8:p<8:=by omega
 go_wp2_with fail;refine(zbi _ _ _ _ (by omega)).mono ?_;rintro e w' ⟨rfl,hw'⟩;subst w';go_wp2_with fail;refine(zwo _ _).mono ?_;rintro e w' ⟨rfl,hw'⟩;subst w'
 cases cx:zbz x with
 | false =>
  rw[if_neg (fun q=>by rw[cx]at q;cases q.2)]at EL;obtain rfl:=EL.o;clear EL;go_wp2;go_ret2;exact zfl B1.o rfl
 | true =>
 rw[if_pos ⟨c,cx⟩]at EL;clear c cx
 have EW:Hid ((sz<=(p:Int)->∀ E,wrU (i:Int) (p:Int) sz E=[⟨48+12*(i:Int)+(3+(p:Int)),E⟩]++[⟨48+12*(i:Int)+1,(p:Int)+1⟩])/\(¬ sz<=(p:Int)->∀ E,wrU (i:Int) (p:Int) sz E=[⟨48+12*(i:Int)+(3+(p:Int)),E⟩])) :=
  ⟨fun q E=>by unfold wrU;rw[if_pos q];rfl,fun q E=>by unfold wrU;rw[if_neg q]⟩
 have LPl0:=zaa (fun E v w1 (h:RdE w1 v (wrU (i:Int) (p:Int) sz E))=>zmg v (wrU (i:Int) (p:Int) sz E) w1 h (by have:=yagg (i:Int) (p:Int) sz E;omega) (yasl i16 p8 sz E));have PN0:=zaa (fun E=>Nat.le_trans (zjb (wrU (i:Int) (p:Int) sz E)) (show 6*(wrU (i:Int) (p:Int) sz E).length+8<=20 by have:=yagg (i:Int) (p:Int) sz E;omega))
 have M0:Hid (MiI W (w1.alloc (.cells #[] 173)) (.slice (some ⟨w1.heap.size,0,none⟩) 0 0) []):=⟨((zlq w1 173 3).wide A1.o.size zL).1,A1.o.alloc A1.o.size _⟩
 obtain⟨x0,x1⟩:=CA.o _ M0.o.b;have B2:=zaa (zab BW.o M0.o.b BW.o.size);go_wp2_with fail
 obtain⟨w2,hw2⟩:=zE (w1.alloc (.cells #[] 173))
 rw[<- hw2]at M0 B2 x0 x1 ⊢;clear hw2;refine(LF1.o _ B2.o).mono ?_;rintro e w3 ⟨rfl,hb3⟩;have M3:=zaa (M0.o.below hb3);have B3:=zaa (zab BW.o M3.o.b BW.o.size);clear hb3 M0 x0 x1 B2 A1 B1 LF1;generalize fpI ns=fp at *;generalize fsI ns=fs at *
 by_cases c:0<=fp
 ·rw[if_neg (fun q=>by omega),if_pos c,if_pos c]at EL;obtain⟨k,k24,ek⟩:=F1.o c;subst ek;have c':(k:Int)>=0:=c;clear F1 F2 LF2
  have kr:0<=(k:Int)/\(k:Int)<32:=by omega
  go_wp2_with fail;refine(zcv _ _ _).mono ?_;rintro e w4 ⟨rfl,hb4⟩;have M4:=zaa ((M3.o.below hb4).below (zR.alloc zL (.cells #[.I 1,.I (312+(k:Int)),.I x] 173)));have R4:=zaa (zpi w4 1 (312+(k:Int)) x);have hz4:=M4.o.z;clear hb4 M3;go_wp2_with (at_builtin;refine zaf _ rfl (.tmp 41) (.tmp 46) 79 rfl W.heap.size 173 (.agg #[.I 0,.I 0,.I 0]) 3 24 Tryz.underlying79 zbr rfl (by decide) _ _ _ rfl M4.o.l _ 1 _ rfl R4.o (zhy _) (by first | omega | (simp[maxLen];done) | (simp[maxLen];omega)) (by first | omega | (simp;done) | (simp;omega)) hz4 ?_);intro v5 w5 hown5 hgr5;have M5:=zaa (M4.o.grow [⟨1,312+(k:Int),x⟩] (by rw[zlv];exact hown5) hgr5);have M6:=zaa (M5.o.below (zR.alloc zL (.cells #[.I (312+(k:Int))] 3)));have R6:=zaa (zkg w5 (312+(k:Int)));clear hown5 hgr5 M4 R4 M5;go_wp2_with fail;refine(zcu _ [312+(k:Int)] _ R6.o (by simp) (by intro j h;simp at h;subst h;simp;omega)).mono ?_;rintro e w7 ⟨v7,rfl,hr7,hb7⟩;have M7:=zaa (M6.o.below hb7);have R7:=zaa hr7.rd;have hz7:=M7.o.z;have l7:(zbg [312+(k:Int)]).length<=2:=zbp [312+(k:Int)];have EX:Hid ((⟨1,312+(k:Int),x⟩:Mi)::zbg [312+(k:Int)]=([]++[⟨1,312+(k:Int),x⟩])++zbg [312+(k:Int)]):=rfl;rw[EX.o]at EL;clear hr7 hb7 M6 R6 EX;generalize zbg [312+(k:Int)]=FL at *;go_wp2_with (at_builtin;refine zaf _ rfl (.tmp 48) (.tmp 52) 79 rfl W.heap.size 173 (.agg #[.I 0,.I 0,.I 0]) 3 24 Tryz.underlying79 zbr rfl (by decide) _ _ _ rfl M7.o.l _ _ _ rfl R7.o (zct _) (by first | omega | (simp[maxLen];done) | (simp[maxLen];omega)) (by first | omega | (simp;done) | (simp;omega)) hz7 ?_);intro vT wT hownT hgrT;have M:=zaa (M7.o.grow FL hownT hgrT)
  have lT:(([]++[(⟨1,312+(k:Int),x⟩:Mi)])++FL).length<=3:=by simp;omega
  generalize ([]++[(⟨1,312+(k:Int),x⟩:Mi)])++FL=L at *;clear hownT hgrT M7 R7;go_wp2_with fail;refine(zfh _ _ _ (by omega) kr).mono ?_;rintro e w' ⟨rfl,hw'⟩;subst w';have LPl:=zaa (LPl0.o (4*(k:Int)+1));have PN:=PN0.o (4*(k:Int)+1);have EW:=zaa (And.intro (fun q=>EW.o.1 q (4*(k:Int)+1)) (fun q=>EW.o.2 q (4*(k:Int)+1)));generalize 4*(k:Int)+1=E at *;generalize zdh (zdq (wrU (i:Int) (p:Int) sz E))=PL at *;clear LPl0 PN0
  have SU:Hid (WrI W (wT.alloc (.cells #[.I (48+12*(i:Int)+(3+(p:Int))),.I E] 208)) vT (.slice (some ⟨wT.heap.size,0,none⟩) 1 1) L [⟨48+12*(i:Int)+(3+(p:Int)),E⟩]) :=
   ⟨((zac M.o.l).below (zR.alloc zL _) zL).1,World.ownsRow_lit wT _ 1 M.o.b.size (by simp[maxLen]) rfl,M.o.b.alloc M.o.b.size _⟩
  have pr:0<=3+(p:Int)/\3+(p:Int)<11:=by omega
  go_wp2_with fail;refine(zay _ _ _ ir pr).mono ?_;rintro e w' ⟨rfl,hw'⟩;subst w';obtain⟨x0,x1⟩:=CA.o _ SU.o.b;have y0:=HS.o _ (zab BW.o SU.o.b BW.o.size);clear M
  by_cases cs:sz<=(p:Int)
  ·have cs':(p:Int)>=sz:=cs;have SV:=zaa (SU.o.below (zR.alloc zL (.cells #[.I (48+12*(i:Int)+1),.I ((p:Int)+1)] 208)));have RV:=zaa (zir (wT.alloc (.cells #[.I (48+12*(i:Int)+(3+(p:Int))),.I E] 208)) (48+12*(i:Int)+1) ((p:Int)+1));have hzv:=SV.o.z;simp only[World.size_alloc]at RV;go_wp2_with fail;refine(zay _ _ _ ir (by omega)).mono ?_;rintro e w' ⟨rfl,hw'⟩;subst w';clear SU;go_wp2_with (at_builtin;refine zaf _ rfl (.tmp 85) (.tmp 91) 189 rfl W.heap.size 208 (.agg #[.I 0,.I 0]) 2 16 Tryz.underlying189 zkv rfl (by decide) _ _ _ rfl SV.o.u _ 1 _ rfl RV.o (zff _) (by first | omega | (simp[maxLen])) (by first | omega | simp) hzv ?_);intro vU wU hownU hgrU;have SW:=zaa (SV.o.growU [⟨48+12*(i:Int)+1,(p:Int)+1⟩] hownU hgrU);obtain⟨-,aU,kU,hvU,-⟩:=(zac hownU).rd;subst hvU;clear hownU hgrU SV RV x0 x1 y0;have EU:=zaa (EW.o.1 cs);have UL:Hid (([⟨48+12*(i:Int)+(3+(p:Int)),E⟩]++[⟨48+12*(i:Int)+1,(p:Int)+1⟩]:List Se)=wrU (i:Int) (p:Int) sz E):=EU.o.symm;rw[UL.o]at SW;go_wp2_with fail;refine(LPl.o _ _ (zac SW.o.u).rd).mono ?_;rintro e wP ⟨vP,rfl,hrP,hbP⟩;have MP:=zaa ((SW.o.mi).below hbP);have RP:=zaa hrP.rd;have hzp:=MP.o.z;clear hrP hbP SW;go_wp2_with (at_builtin;refine zaf _ rfl (.tmp 93) (.tmp 95) 79 rfl W.heap.size 173 (.agg #[.I 0,.I 0,.I 0]) 3 24 Tryz.underlying79 zbr rfl (by decide) _ _ _ rfl MP.o.l _ _ _ rfl RP.o (zct _) (by first | omega | (simp[maxLen];done) | (simp[maxLen];omega)) (by first | omega | (simp;done) | (simp;omega)) hzp ?_);intro vN wN hownN hgrN;have G:=zaa (MP.o.grow _ hownN hgrN);obtain⟨-,aN,kN,hvN,-⟩:=(zac hownN).rd;subst hvN;obtain rfl:=EL.o;clear hownN hgrN MP RP;go_wp2;go_ret2;exact⟨_,rfl,(zac G.o.l).wide (by have:=BW.o.size;omega) zL,zab BW.o G.o.b BW.o.size⟩
  ·have cs':¬ (p:Int)>=sz:=cs;have SW:=SU;have EU:=zaa (EW.o.2 (by omega));have UL:Hid (([⟨48+12*(i:Int)+(3+(p:Int)),E⟩]:List Se)=wrU (i:Int) (p:Int) sz E):=EU.o.symm;rw[UL.o]at SW;clear SU;go_wp2_with fail;refine(LPl.o _ _ (zac SW.o.u).rd).mono ?_;rintro e wP ⟨vP,rfl,hrP,hbP⟩;have MP:=zaa ((SW.o.mi).below hbP);have RP:=zaa hrP.rd;have hzp:=MP.o.z;clear hrP hbP SW;go_wp2_with (at_builtin;refine zaf _ rfl (.tmp 93) (.tmp 95) 79 rfl W.heap.size 173 (.agg #[.I 0,.I 0,.I 0]) 3 24 Tryz.underlying79 zbr rfl (by decide) _ _ _ rfl MP.o.l _ _ _ rfl RP.o (zct _) (by first | omega | (simp[maxLen];done) | (simp[maxLen];omega)) (by first | omega | (simp;done) | (simp;omega)) hzp ?_);intro vN wN hownN hgrN;have G:=zaa (MP.o.grow _ hownN hgrN);obtain⟨-,aN,kN,hvN,-⟩:=(zac hownN).rd;subst hvN;obtain rfl:=EL.o;clear hownN hgrN MP RP;go_wp2;go_ret2;exact⟨_,rfl,(zac G.o.l).wide (by have:=BW.o.size;omega) zL,zab BW.o G.o.b BW.o.size⟩
 ·have c':¬ fp>=0:=c;obtain⟨x0,x1⟩:=CA.o _ M3.o.b;go_wp2_with fail;refine(LF2.o _ B3.o).mono ?_;rintro e w4 ⟨rfl,hb4⟩;have M4:=zaa (M3.o.below hb4);have B4:=zaa (zab BW.o M4.o.b BW.o.size);clear hb4 M3 x0 x1 B3 LF2
  by_cases d:0<=fs
  case neg =>
   have d':¬ fs>=0:=d;rw[if_pos ⟨by omega,by omega⟩]at EL;obtain rfl:=EL.o;clear EL;go_wp2;go_ret2;exact zfl B4.o rfl
  rw[if_neg (fun q=>by omega),if_neg (by omega:¬ 0<=fp),if_neg (by omega:¬ 0<=fp)]at EL;obtain⟨k,k32,ek⟩:=F2.o d;subst ek;have d':(k:Int)>=0:=d;clear F1 F2
  have kr:0<=(k:Int)/\(k:Int)<32:=by omega
  have M5:=zaa (M4.o.below (zR.alloc zL (.cells #[.I 4,.I (k:Int),.I x,.I 5,.I 0,.I 0] 173)));have R5:=zaa (yahp w4 4 (k:Int) x 5 0 0);have hz5:=M5.o.z;clear M4;go_wp2_with (at_builtin;refine zaf _ rfl (.tmp 60) (.tmp 65) 79 rfl W.heap.size 173 (.agg #[.I 0,.I 0,.I 0]) 3 24 Tryz.underlying79 zbr rfl (by decide) _ _ _ rfl M5.o.l _ 2 _ rfl R5.o (zct _) (by first | omega | (simp[maxLen];done) | (simp[maxLen];omega)) (by first | omega | (simp;done) | (simp;omega)) hz5 ?_);intro vT wT hownT hgrT;have M:=zaa (M5.o.grow [⟨4,(k:Int),x⟩,⟨5,0,0⟩] hownT hgrT);have EX:Hid ([(⟨4,(k:Int),x⟩:Mi),⟨5,0,0⟩]=[]++[⟨4,(k:Int),x⟩,⟨5,0,0⟩]):=rfl;rw[EX.o]at EL
  have lT:([]++[(⟨4,(k:Int),x⟩:Mi),⟨5,0,0⟩]).length<=3:=by simp
  generalize []++[(⟨4,(k:Int),x⟩:Mi),⟨5,0,0⟩]=L at *;clear hownT hgrT M5 R5 EX;go_wp2_with fail;refine(zfh _ _ _ (by omega) kr).mono ?_;rintro e w' ⟨rfl,hw'⟩;subst w';have LPl:=zaa (LPl0.o (4*(k:Int)+2));have PN:=PN0.o (4*(k:Int)+2);have EW:=zaa (And.intro (fun q=>EW.o.1 q (4*(k:Int)+2)) (fun q=>EW.o.2 q (4*(k:Int)+2)));generalize 4*(k:Int)+2=E at *;generalize zdh (zdq (wrU (i:Int) (p:Int) sz E))=PL at *;clear LPl0 PN0
  have SU:Hid (WrI W (wT.alloc (.cells #[.I (48+12*(i:Int)+(3+(p:Int))),.I E] 208)) vT (.slice (some ⟨wT.heap.size,0,none⟩) 1 1) L [⟨48+12*(i:Int)+(3+(p:Int)),E⟩]) :=
   ⟨((zac M.o.l).below (zR.alloc zL _) zL).1,World.ownsRow_lit wT _ 1 M.o.b.size (by simp[maxLen]) rfl,M.o.b.alloc M.o.b.size _⟩
  have pr:0<=3+(p:Int)/\3+(p:Int)<11:=by omega
  go_wp2_with fail;refine(zay _ _ _ ir pr).mono ?_;rintro e w' ⟨rfl,hw'⟩;subst w';obtain⟨x0,x1⟩:=CA.o _ SU.o.b;have y0:=HS.o _ (zab BW.o SU.o.b BW.o.size);clear M
  by_cases cs:sz<=(p:Int)
  ·have cs':(p:Int)>=sz:=cs;have SV:=zaa (SU.o.below (zR.alloc zL (.cells #[.I (48+12*(i:Int)+1),.I ((p:Int)+1)] 208)));have RV:=zaa (zir (wT.alloc (.cells #[.I (48+12*(i:Int)+(3+(p:Int))),.I E] 208)) (48+12*(i:Int)+1) ((p:Int)+1));have hzv:=SV.o.z;simp only[World.size_alloc]at RV;go_wp2_with fail;refine(zay _ _ _ ir (by omega)).mono ?_;rintro e w' ⟨rfl,hw'⟩;subst w';clear SU;go_wp2_with (at_builtin;refine zaf _ rfl (.tmp 85) (.tmp 91) 189 rfl W.heap.size 208 (.agg #[.I 0,.I 0]) 2 16 Tryz.underlying189 zkv rfl (by decide) _ _ _ rfl SV.o.u _ 1 _ rfl RV.o (zff _) (by first | omega | (simp[maxLen])) (by first | omega | simp) hzv ?_);intro vU wU hownU hgrU;have SW:=zaa (SV.o.growU [⟨48+12*(i:Int)+1,(p:Int)+1⟩] hownU hgrU);obtain⟨-,aU,kU,hvU,-⟩:=(zac hownU).rd;subst hvU;clear hownU hgrU SV RV x0 x1 y0;have EU:=zaa (EW.o.1 cs);have UL:Hid (([⟨48+12*(i:Int)+(3+(p:Int)),E⟩]++[⟨48+12*(i:Int)+1,(p:Int)+1⟩]:List Se)=wrU (i:Int) (p:Int) sz E):=EU.o.symm;rw[UL.o]at SW;go_wp2_with fail;refine(LPl.o _ _ (zac SW.o.u).rd).mono ?_;rintro e wP ⟨vP,rfl,hrP,hbP⟩;have MP:=zaa ((SW.o.mi).below hbP);have RP:=zaa hrP.rd;have hzp:=MP.o.z;clear hrP hbP SW;go_wp2_with (at_builtin;refine zaf _ rfl (.tmp 93) (.tmp 95) 79 rfl W.heap.size 173 (.agg #[.I 0,.I 0,.I 0]) 3 24 Tryz.underlying79 zbr rfl (by decide) _ _ _ rfl MP.o.l _ _ _ rfl RP.o (zct _) (by first | omega | (simp[maxLen];done) | (simp[maxLen];omega)) (by first | omega | (simp;done) | (simp;omega)) hzp ?_);intro vN wN hownN hgrN;have G:=zaa (MP.o.grow _ hownN hgrN);obtain⟨-,aN,kN,hvN,-⟩:=(zac hownN).rd;subst hvN;obtain rfl:=EL.o;clear hownN hgrN MP RP;go_wp2;go_ret2;exact⟨_,rfl,(zac G.o.l).wide (by have:=BW.o.size;omega) zL,zab BW.o G.o.b BW.o.size⟩
  ·have cs':¬ (p:Int)>=sz:=cs;have SW:=SU;have EU:=zaa (EW.o.2 (by omega));have UL:Hid (([⟨48+12*(i:Int)+(3+(p:Int)),E⟩]:List Se)=wrU (i:Int) (p:Int) sz E):=EU.o.symm;rw[UL.o]at SW;clear SU;go_wp2_with fail;refine(LPl.o _ _ (zac SW.o.u).rd).mono ?_;rintro e wP ⟨vP,rfl,hrP,hbP⟩;have MP:=zaa ((SW.o.mi).below hbP);have RP:=zaa hrP.rd;have hzp:=MP.o.z;clear hrP hbP SW;go_wp2_with (at_builtin;refine zaf _ rfl (.tmp 93) (.tmp 95) 79 rfl W.heap.size 173 (.agg #[.I 0,.I 0,.I 0]) 3 24 Tryz.underlying79 zbr rfl (by decide) _ _ _ rfl MP.o.l _ _ _ rfl RP.o (zct _) (by first | omega | (simp[maxLen];done) | (simp[maxLen];omega)) (by first | omega | (simp;done) | (simp;omega)) hzp ?_);intro vN wN hownN hgrN;have G:=zaa (MP.o.grow _ hownN hgrN);obtain⟨-,aN,kN,hvN,-⟩:=(zac hownN).rd;subst hvN;obtain rfl:=EL.o;clear hownN hgrN MP RP;go_wp2;go_ret2;exact⟨_,rfl,(zac G.o.l).wide (by have:=BW.o.size;omega) zL,zab BW.o G.o.b BW.o.size⟩
end Go.Proofs.YtfagbapgnocjiaaGreatDoor
