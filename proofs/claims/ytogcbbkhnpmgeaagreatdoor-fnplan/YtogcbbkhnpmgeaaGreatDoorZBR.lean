import Derived.Test.YtogcbbkhnpmgeaaGreatDoorDuF
import Derived.Test.YtogcbbkhnpmgeaaGreatDoorZBQ
set_option maxRecDepth 100000
set_option maxHeartbeats 8000000
namespace Go.Proofs.YtogcbbkhnpmgeaaGreatDoor
open Go.RowKit
theorem yaai{ws:List Ino}{ps:List Den}{s:ByteArray}{kind:Int}(h:s.size<=65536)(hi:zbg ws ps=true)(hk:1<=kind/\kind<=2):mkR ws ps s kind=mkI ws ps s kind:=by
 unfold mkR;rw[if_neg (by omega),if_pos hi,if_pos hk]
theorem yamx{ws:List Ino}{ps:List Den}{s:ByteArray}(h:s.size<=65536)(hi:zbg ws ps=true):rmR ws ps s=rmI ws ps s:=by
 unfold rmR;rw[if_neg (by omega),if_pos hi]
theorem yard{ws:List Ino}{ps:List Den}{s t:ByteArray}(h:s.size<=65536)(k:t.size<=65536)(hi:zbg ws ps=true):lnR ws ps s t=lnI ws ps s t:=by
 unfold lnR;rw[if_neg (by omega),if_neg (by omega),if_pos hi]
theorem yalb{ws:List Ino}{ps:List Den}{s t:ByteArray}(h:s.size<=65536)(k:t.size<=65536)(hi:zbg ws ps=true):rnR ws ps s t=rnI ws ps s t:=by
 unfold rnR;rw[if_neg (by omega),if_neg (by omega),if_pos hi]
theorem yamc{ws:List Ino}{ps:List Den}{s:ByteArray}{g:Int}(h:s.size<=65536)(hi:zbg ws ps=true):cuR ws ps s g=cuI ws ps s g:=by
 unfold cuR;rw[if_neg (by omega),if_pos hi]
theorem zvl(v:Value)(ns:List Ino)(ds:List Den)(k:Int)(p t:ByteArray)(g y:Int)(w:World)(h:RdIm w v ns ds)(hi:zbg ns ds=true)(hp:p.size<=65536)(ht:t.size<=65536)(hw:ns.length<=1048576)(hd:ds.length<=1048576)(hT:TS w)(hE:ED w)(hF:FD w)(hr:∀ k (h:k<ns.length),ns[k].R)(hs:∀ k (h:k<ds.length),ds[k].name.size<=maxLen) :
  zC 71 #[v,.agg #[.I k,.string p,.string t,.I g,.I y]] w fun e w'=>zgh w w' e (uoI ns ds k p t g):=by
 have L1:Hid (∀ w1,zB w w1->zC 131 #[v,.string p,.I 1] w1 fun e w'=>zgh w1 w' e (mkI ns ds p 1)):=fun w1 hb=>by
  have q:=ziq v ns ds p 1 w1 (h.below hb) hw hd (hT.below hb) (hE.below hb) (hF.below hb) hr hs;rw[yaai hp hi (by omega)]at q;exact q
 have L2:Hid (∀ w1,zB w w1->zC 131 #[v,.string p,.I 2] w1 fun e w'=>zgh w1 w' e (mkI ns ds p 2)):=fun w1 hb=>by
  have q:=ziq v ns ds p 2 w1 (h.below hb) hw hd (hT.below hb) (hE.below hb) (hF.below hb) hr hs;rw[yaai hp hi (by omega)]at q;exact q
 have L3:Hid (∀ w1,zB w w1->zC 132 #[v,.string p] w1 fun e w'=>zgh w1 w' e (rmI ns ds p)):=fun w1 hb=>by
  have q:=zmy v ns ds p w1 (h.below hb) hw hd (hT.below hb) (hE.below hb) (hF.below hb) hr hs;rw[yamx hp hi]at q;exact q
 have L4:Hid (∀ w1,zB w w1->zC 133 #[v,.string p,.string t] w1 fun e w'=>zgh w1 w' e (lnI ns ds p t)):=fun w1 hb=>by
  have q:=zox v ns ds p t w1 (h.below hb) hw hd (hT.below hb) (hE.below hb) (hF.below hb) hr hs;rw[yard hp ht hi]at q;exact q
 have L5:Hid (∀ w1,zB w w1->zC 134 #[v,.string p,.string t] w1 fun e w'=>zgh w1 w' e (rnI ns ds p t)):=fun w1 hb=>by
  have q:=zmu v ns ds p t w1 (h.below hb) hw hd (hT.below hb) (hE.below hb) (hF.below hb) hr hs;rw[yalb hp ht hi]at q;exact q
 have L6:Hid (∀ w1,zB w w1->zC 16 #[v,.string p,.I g] w1 fun e w'=>zgh w1 w' e (cuI ns ds p g)):=fun w1 hb=>by
  have q:=zrx v ns ds p g w1 (h.below hb) hw hd (hT.below hb) (hE.below hb) (hF.below hb) hr hs;rw[yamc hp hi]at q;exact q
 have EL:=zaa (show uoI ns ds k p t g=if k=1 then mkI ns ds p 1 else if k=2 then mkI ns ds p 2 else if k=3 then rmI ns ds p else if k=4 then lnI ns ds p t else if k=5 then rnI ns ds p t else cuI ns ds p g from rfl);obtain⟨vW,vP,rfl,h1,h2⟩:=h;obtain⟨aW,cW,rfl,_,_⟩:=h1.shape;obtain⟨aP,cP,rfl,_,_⟩:=h2.shape;clear h1 h2 hi hp ht hT hE hF hr hs
 obtain⟨W,hW⟩:=zE ((w.alloc (.cells #[.slice aW ns.length cW,.slice aP ds.length cP] 51)).alloc (.cells #[.I k,.string p,.string t,.I g,.I y] 40))
 have BW:Hid (zB w W):=by rw[hW];exact(zR.alloc zL _).alloc (by simp) _
 rw[EL.o]
 by_cases c1:k=1
 case pos =>
  rw[if_pos c1];have LL:=L1;clear EL L1 L2 L3 L4 L5 L6;subst c1;generalize mkI ns ds p 1=res at *;go_enter Tryz.func71,Tryz.ntmps71;go_wp2_with fail;rw[<- hW];clear hW;refine(LL.o _ BW.o).mono ?_;rintro e w1 ⟨v1,rfl,hr1,hb1⟩;have R1:=zaa (hr1.wide BW.o.size zL);have B1:=zaa (zab BW.o hb1 BW.o.size);obtain⟨-,aL,cL,hvL,-⟩:=hr1.rd;subst hvL;clear hr1 hb1;go_wp2;go_ret2;exact⟨_,rfl,R1.o,B1.o⟩
 have q1:(k == 1)=false:=by rw[beq_eq_false_iff_ne];exact c1
 by_cases c2:k=2
 case pos =>
  rw[if_neg c1,if_pos c2];have LL:=L2;clear EL L1 L2 L3 L4 L5 L6;subst c2;generalize mkI ns ds p 2=res at *;go_enter Tryz.func71,Tryz.ntmps71;go_wp2_with fail;rw[<- hW];clear hW;refine(LL.o _ BW.o).mono ?_;rintro e w1 ⟨v1,rfl,hr1,hb1⟩;have R1:=zaa (hr1.wide BW.o.size zL);have B1:=zaa (zab BW.o hb1 BW.o.size);obtain⟨-,aL,cL,hvL,-⟩:=hr1.rd;subst hvL;clear hr1 hb1;go_wp2;go_ret2;exact⟨_,rfl,R1.o,B1.o⟩
 have q2:(k == 2)=false:=by rw[beq_eq_false_iff_ne];exact c2
 by_cases c3:k=3
 case pos =>
  rw[if_neg c1,if_neg c2,if_pos c3];have LL:=L3;clear EL L1 L2 L3 L4 L5 L6;subst c3;generalize rmI ns ds p=res at *;go_enter Tryz.func71,Tryz.ntmps71;go_wp2_with fail;rw[<- hW];clear hW;refine(LL.o _ BW.o).mono ?_;rintro e w1 ⟨v1,rfl,hr1,hb1⟩;have R1:=zaa (hr1.wide BW.o.size zL);have B1:=zaa (zab BW.o hb1 BW.o.size);obtain⟨-,aL,cL,hvL,-⟩:=hr1.rd;subst hvL;clear hr1 hb1;go_wp2;go_ret2;exact⟨_,rfl,R1.o,B1.o⟩
 have q3:(k == 3)=false:=by rw[beq_eq_false_iff_ne];exact c3
 by_cases c4:k=4
 case pos =>
  rw[if_neg c1,if_neg c2,if_neg c3,if_pos c4];have LL:=L4;clear EL L1 L2 L3 L4 L5 L6;subst c4;generalize lnI ns ds p t=res at *;go_enter Tryz.func71,Tryz.ntmps71;go_wp2_with fail;rw[<- hW];clear hW;refine(LL.o _ BW.o).mono ?_;rintro e w1 ⟨v1,rfl,hr1,hb1⟩;have R1:=zaa (hr1.wide BW.o.size zL);have B1:=zaa (zab BW.o hb1 BW.o.size);obtain⟨-,aL,cL,hvL,-⟩:=hr1.rd;subst hvL;clear hr1 hb1;go_wp2;go_ret2;exact⟨_,rfl,R1.o,B1.o⟩
 have q4:(k == 4)=false:=by rw[beq_eq_false_iff_ne];exact c4
 by_cases c5:k=5
 case pos =>
  rw[if_neg c1,if_neg c2,if_neg c3,if_neg c4,if_pos c5];have LL:=L5;clear EL L1 L2 L3 L4 L5 L6;subst c5;generalize rnI ns ds p t=res at *;go_enter Tryz.func71,Tryz.ntmps71;go_wp2_with fail;rw[<- hW];clear hW;refine(LL.o _ BW.o).mono ?_;rintro e w1 ⟨v1,rfl,hr1,hb1⟩;have R1:=zaa (hr1.wide BW.o.size zL);have B1:=zaa (zab BW.o hb1 BW.o.size);obtain⟨-,aL,cL,hvL,-⟩:=hr1.rd;subst hvL;clear hr1 hb1;go_wp2;go_ret2;exact⟨_,rfl,R1.o,B1.o⟩
 have q5:(k == 5)=false:=by rw[beq_eq_false_iff_ne];exact c5
 rw[if_neg c1,if_neg c2,if_neg c3,if_neg c4,if_neg c5];have LL:=L6;clear EL L1 L2 L3 L4 L5 L6;generalize cuI ns ds p g=res at *;go_enter Tryz.func71,Tryz.ntmps71;go_wp2_with fail;rw[<- hW];clear hW;refine(LL.o _ BW.o).mono ?_;rintro e w1 ⟨v1,rfl,hr1,hb1⟩;have R1:=zaa (hr1.wide BW.o.size zL);have B1:=zaa (zab BW.o hb1 BW.o.size);obtain⟨-,aL,cL,hvL,-⟩:=hr1.rd;subst hvL;clear hr1 hb1;go_wp2;go_ret2;exact⟨_,rfl,R1.o,B1.o⟩
def osR(ws:List Int)(ps:List St)(es:List Int)(qs:List Se)(ns:List Ino)(ds:List Den)(k:Int)(p t:ByteArray)(g y:Int):List Mi×Int:=if k=6 then wrR ws ps es qs p g y else(zct (zdj (uoI ns ds k p t g).1),(uoI ns ds k p t g).2)
theorem yama:zct (zdj [])=[]:=zum [] (by simp)
theorem yaeb(vd v:Value)(ws:List Int)(ps:List St)(es:List Int)(qs:List Se)(ns:List Ino)(ds:List Den)(k:Int)(p t:ByteArray)(g y:Int)(w:World)(hd:RdDev w vd ws ps es qs)(h:RdIm w v ns ds)(hi:zbg ns ds=true)(hp:p.size<=65536)(ht:t.size<=65536)(hw0:ws.length<=1048576)(hp0:ps.length<=1048576)(he0:es.length<=1048576)(hq0:qs.length<=1048576)(hT:TS w)(hE:ED w)(hF:FD w)(hw:ns.length<=1048576)(hdl:ds.length<=1048576)(hr:∀ k (h:k<ns.length),ns[k].R)(hs:∀ k (h:k<ds.length),ds[k].name.size<=maxLen) :
  zC 28 #[vd,v,.agg #[.I k,.string p,.string t,.I g,.I y]] w fun e w'=>zsz w w' e (osR ws ps es qs ns ds k p t g y):=by
 have LW:=zaa (fun w1 (hb:zB w w1)=>znn vd ws ps es qs p g y w1 (hd.below hb) hw0 hp0 he0 hq0 (hT.below hb) (hE.below hb) (hF.below hb));have LU:=zaa (fun w1 (hb:zB w w1)=>zvl v ns ds k p t g y w1 (h.below hb) hi hp ht hw hdl (hT.below hb) (hE.below hb) (hF.below hb) hr hs);have LJ:=zaa (fun vu w1 h=>zgf vu (uoI ns ds k p t g).1 w1 h (by have:=(yazf (k:=k) (p:=p) (t:=t) (g:=g) (zbs.1 hi)).1;omega));have UJ:=zaa (fun c=>ybdz (k:=k) (p:=p) (t:=t) (g:=g) (zbs.1 hi) c);have UN:=zaa (fun c=>yarw (ns:=ns) (ds:=ds) (k:=k) (p:=p) (t:=t) (g:=g) c);have EO:=zaa (show osR ws ps es qs ns ds k p t g y=if k=6 then wrR ws ps es qs p g y else(zct (zdj (uoI ns ds k p t g).1),(uoI ns ds k p t g).2)from rfl);obtain⟨dW,eW,dP,eP,dS,eS,dQ,eQ,rfl,-,-⟩:=hd.form;obtain⟨vW,vP,rfl,h1,h2⟩:=h;obtain⟨aW,cW,rfl,_,_⟩:=h1.shape;obtain⟨aP,cP,rfl,_,_⟩:=h2.shape;clear h1 h2 hd hi hT hE hF hr hs
 obtain⟨W,hW⟩:=zE (((w.alloc (.cells #[.slice dW ws.length eW,.slice dP ps.length eP,.slice dS es.length eS,.slice dQ qs.length eQ] 31)).alloc (.cells #[.slice aW ns.length cW,.slice aP ds.length cP] 51)).alloc (.cells #[.I k,.string p,.string t,.I g,.I y] 40))
 have BW:Hid (zB w W):=by
  rw[hW]
  repeat (first | exact zR | refine Below.alloc ?_ (by first | exact Nat.le_refl _ | (simp only[World.size_alloc];omega)) _)
 generalize osR ws ps es qs ns ds k p t g y=res at *;generalize wrR ws ps es qs p g y=wres at *;generalize uoI ns ds k p t g=R at *;obtain⟨us,cd⟩:=R;simp only at UJ UN EO LJ
 by_cases c6:k=6
 ·subst c6;rw[if_pos rfl]at EO;obtain rfl:=EO.o;clear LU LJ UJ UN EO;go_enter Tryz.func28,Tryz.ntmps28;go_wp2_with fail;rw[<- hW];clear hW;refine(LW.o _ BW.o).mono ?_;rintro e w1 ⟨v1,rfl,hr1,hb1⟩;have B1:=zaa (zab BW.o hb1 BW.o.size);have R1:=zaa (hr1.wide (lo':=w.heap.size) (hi':=w1.heap.size) BW.o.size zL);clear hr1 hb1;go_wp2;go_ret2;exact⟨_,rfl,R1.o,B1.o⟩
 rw[if_neg c6]at EO
 have q6:(k == 6)=false:=by rw[beq_eq_false_iff_ne];exact c6
 clear c6 LW;simp only[zgh]at LU;go_enter Tryz.func28,Tryz.ntmps28;go_wp2_with fail;rw[<- hW];clear hW;refine(LU.o _ BW.o).mono ?_;rintro e w1 ⟨v1,rfl,hr1,hb1⟩;have B1:=zaa (zab BW.o hb1 BW.o.size);have R1:=zaa hr1.rd;clear hr1 hb1 LU
 by_cases c:cd=0
 case neg =>
  have q:(cd != 0)=true:=by rw[bne_iff_ne];exact c
  rw[UN.o c,yama]at EO;obtain rfl:=EO.o;clear c EO UN UJ LJ;go_wp2;go_ret2;exact yamy B1.o
 subst c;obtain⟨j1,j2⟩:=UJ.o rfl;rw[j1,j2]at LJ;obtain rfl:=EO.o;clear UN UJ EO j1 j2;go_wp2_with fail;refine(LJ.o _ _ R1.o).mono ?_;rintro e w2 ⟨v2,rfl,hr2,hb2⟩;have B2:=zaa (zab B1.o hb2 B1.o.size);have R2:=zaa (hr2.wide (lo':=w.heap.size) (hi':=w2.heap.size) B1.o.size zL);clear hr2 hb2;go_wp2;go_ret2;exact⟨_,rfl,R2.o,B2.o⟩
def soR(ns:List Ino)(r:Int×Int):Int×Int:=if r.2=0 then(stV (zan ns r.1.toNat),0) else(0,r.2)
theorem yagb{ws:List Ino}{ps:List Den}{s:ByteArray}(h:s.size<=65536)(hi:zbg ws ps=true):lkR ws ps s=lkI ws ps s:=yaar (by omega) hi
theorem yahw(v:Value)(ns:List Ino)(ds:List Den)(s:ByteArray)(w:World)(h:RdIm w v ns ds)(hi:zbg ns ds=true)(hl:s.size<=65536)(hw:ns.length<=1048576)(hp:ds.length<=1048576)(hT:TS w)(hE:ED w)(hF:FD w)(hr:∀ k (h:k<ns.length),ns[k].R)(hs:∀ k (h:k<ds.length),ds[k].name.size<=maxLen) :
  zC 26 #[v,.string s] w fun e w'=>e=.returned (.tuple #[.I (soR ns (lkI ns ds s)).1,.I (soR ns (lkI ns ds s)).2])/\zB w w':=by
 have LL:Hid (∀ w1,zB w w1->zC 68 #[v,.string s] w1 fun e w'=>e=.returned (.tuple #[.I (lkI ns ds s).1,.I (lkI ns ds s).2])/\zB w1 w'):=fun w1 hb=>by
  have q:=zfc v ns ds s w1 (h.below hb) hw hp (hT.below hb) (hE.below hb) (hF.below hb) hr hs;rw[yagb hl hi]at q;exact q
 have LO:=zaa (zoe (s:=s) hi);have OK:=zaa (fun i (h16:i<16)=>zch ((zbs.1 hi).ok i h16));have EL:=zaa (fun r=>show soR ns r=if r.2=0 then(stV (zan ns r.1.toNat),0) else(0,r.2)from rfl);obtain⟨l16,l24,_⟩:=zas hi;have L16:=zaa l16;obtain⟨vW,vP,rfl,h1,h2⟩:=h;obtain⟨aW,cW,rfl,_,hcW⟩:=h1.shape;obtain⟨aP,cP,rfl,_,_⟩:=h2.shape;obtain⟨bW,oW,rfl,hblW,hcellW⟩:=hcW (by omega)
 have HC:Hid (∀ i:Nat,i<16->∀ x,x=zan ns i->∀ w',zB w w'->w'.cell? ⟨bW,oW+i*11,none⟩=some (.I x.kind)/\w'.cell? ⟨bW,oW+i*11+1,none⟩=some (.I x.size)/\w'.cell? ⟨bW,oW+i*11+2,none⟩=some (.I x.links)/\w'.cell? ⟨bW,oW+i*11+3,none⟩=some (.I x.m0)/\w'.cell? ⟨bW,oW+i*11+4,none⟩=some (.I x.m1)/\w'.cell? ⟨bW,oW+i*11+5,none⟩=some (.I x.m2)/\w'.cell? ⟨bW,oW+i*11+6,none⟩=some (.I x.m3)/\w'.cell? ⟨bW,oW+i*11+7,none⟩=some (.I x.m4)/\w'.cell? ⟨bW,oW+i*11+8,none⟩=some (.I x.m5)/\w'.cell? ⟨bW,oW+i*11+9,none⟩=some (.I x.m6)/\w'.cell? ⟨bW,oW+i*11+10,none⟩=some (.I x.m7)):=fun i h16 x hx w' hb=>by
  rw[hx,zca (by omega:i<ns.length)];obtain⟨a0,a1,a2,a3,a4,a5,a6,a7,a8,a9,a10⟩:=hcellW i (by omega);exact⟨(hb.cell (p:=⟨bW,oW+i*11,none⟩) hblW).trans a0,(hb.cell (p:=⟨bW,oW+i*11+1,none⟩) hblW).trans a1,(hb.cell (p:=⟨bW,oW+i*11+2,none⟩) hblW).trans a2,(hb.cell (p:=⟨bW,oW+i*11+3,none⟩) hblW).trans a3,(hb.cell (p:=⟨bW,oW+i*11+4,none⟩) hblW).trans a4,(hb.cell (p:=⟨bW,oW+i*11+5,none⟩) hblW).trans a5,(hb.cell (p:=⟨bW,oW+i*11+6,none⟩) hblW).trans a6,(hb.cell (p:=⟨bW,oW+i*11+7,none⟩) hblW).trans a7,(hb.cell (p:=⟨bW,oW+i*11+8,none⟩) hblW).trans a8,(hb.cell (p:=⟨bW,oW+i*11+9,none⟩) hblW).trans a9,(hb.cell (p:=⟨bW,oW+i*11+10,none⟩) hblW).trans a10⟩
 clear h1 h2 hr hs hT hE hF hcW hcellW hi l16 l24
 obtain⟨W,hW⟩:=zE (w.alloc (.cells #[.slice (some ⟨bW,oW,none⟩) ns.length cW,.slice aP ds.length cP] 51))
 have CA:Hid (∀ w',zB W w'->w'.cell? ⟨w.heap.size,0,none⟩=some (.slice (some ⟨bW,oW,none⟩) ns.length cW)/\w'.cell? ⟨w.heap.size,1,none⟩=some (.slice aP ds.length cP)):=fun w' hb=>by
  have:w'.heap[w.heap.size]?=some (.cells #[.slice (some ⟨bW,oW,none⟩) ns.length cW,.slice aP ds.length cP] 51 (0,0)):=(hb.block _ (by rw[hW];simp)).trans (by rw[hW];exact zaf rfl);exact⟨(zac this).1,(zac this).2.1⟩
 have BW:Hid (zB w W):=by rw[hW];exact zR.alloc zL _
 generalize lkI ns ds s=lr at *;obtain⟨li,lc⟩:=lr;have EB:=zaa (EL.o (li,lc));generalize soR ns (li,lc)=res at *;simp only at LO LL EB;clear EL;go_enter Tryz.func26,Tryz.ntmps26;go_wp2_with fail;rw[<- hW];clear hW;refine(LL.o _ BW.o).mono ?_;rintro e w1 ⟨rfl,hb1⟩;have A1:=zaa hb1;have B1:=zaa (zab BW.o A1.o BW.o.size);clear hb1 LL
 by_cases c:lc=0
 case neg =>
  rw[if_neg c]at EB;obtain rfl:=EB.o
  have q:(lc != 0)=true:=by rw[bne_iff_ne];exact c
  clear EB c;go_wp2;go_ret2;exact⟨rfl,B1.o⟩
 subst c;rw[if_pos rfl]at EB
 obtain⟨i,rfl⟩:∃ i:Nat,li=(i:Int):=⟨li.toNat,by have:=LO.o;omega⟩
 have i16:i<16:=by have:=LO.o;omega
 have i0:(0:Int)<=(i:Int):=by omega
 have il:(i:Int)<(ns.length:Int):=by have:=L16.o;omega
 obtain⟨x,hx⟩:=zE (zan ns i)
 rw[Int.toNat_natCast,<- hx]at EB;have OK2:=zaa (OK.o i i16);rw[<- hx]at OK2;obtain⟨⟨k0,k2⟩,⟨z0,z8⟩,⟨l0,l24⟩,-⟩:=OK2.o;obtain⟨a0,a1,a2,a3,a4,a5,a6,a7,a8,a9,a10⟩:=HC.o i i16 x hx _ B1.o;obtain⟨x0,x1⟩:=CA.o _ A1.o;have BX:=zaa (B1.o.alloc B1.o.size (.cells #[.I x.kind,.I x.size,.I x.links,.I x.m0,.I x.m1,.I x.m2,.I x.m3,.I x.m4,.I x.m5,.I x.m6,.I x.m7] 87));have VX:Hid ((w1.alloc (.cells #[.I x.kind,.I x.size,.I x.links,.I x.m0,.I x.m1,.I x.m2,.I x.m3,.I x.m4,.I x.m5,.I x.m6,.I x.m7] 87)).heap[w1.heap.size]?=some (.cells x.cs.toArray 87 (0,0))):=zaf rfl
 obtain⟨w2,hw2⟩:=zE (w1.alloc (.cells #[.I x.kind,.I x.size,.I x.links,.I x.m0,.I x.m1,.I x.m2,.I x.m3,.I x.m4,.I x.m5,.I x.m6,.I x.m7] 87))
 rw[<- hw2]at BX VX;clear OK OK2 HC CA hx LO;go_upto_region 5 with fail;rw[<- hw2];clear hw2 a0 a1 a2 a3 a4 a5 a6 a7 a8 a9 a10 x0 x1;have y0:w2.cell? ⟨w1.heap.size,0,none⟩=some (.I x.kind):=(zag VX.o 0).1;have y1:w2.cell? ⟨w1.heap.size,1,none⟩=some (.I x.size):=(zag VX.o 1).1;have y2:w2.cell? ⟨w1.heap.size,2,none⟩=some (.I x.links):=(zag VX.o 2).1;have EV:=zaa (show stV x=100*x.kind+10*x.size+min 9 x.links from rfl);generalize stV x=sv at *;generalize x.kind=xk at *;generalize x.size=xs at *;generalize x.links=xl at *;clear VX
 obtain⟨mm,em,em2,m0,m9⟩:∃ mm:Int,min 9 xl=mm/\min xl 9=mm/\0<=mm/\mm<=9:=⟨min 9 xl,rfl,Int.min_comm _ _,by omega,by omega⟩
 rw[em]at EV;rw[EV.o]at EB;obtain rfl:=EB.o;clear EV EB;go_wp2;go_ret2;exact⟨rfl,BX.o⟩
def naR(ns:List Ino)(ds:List Den)(r:Int×Int):List ByteArray×Int:=if r.2=0 then(if zaj ns r.1=2 then(zdl (zbm ds r.1),0) else([],10)) else([],r.2)
theorem yagt{ns:List Ino}{ds:List Den}{i:Int}(hi:zbg ns ds=true)(h:0<=i/\i<=15):eoC ns ds i=(naR ns ds (i,0)).2/\eoL ns ds i=(naR ns ds (i,0)).1:=by
 have e:eoC ns ds i=(naR ns ds (i,0)).2:=by
  unfold eoC naR;rw[if_pos hi,if_pos h,if_pos rfl];simp only
  split<;>rfl
 refine⟨e,?_⟩;unfold eoL;rw[e];unfold naR;rw[if_pos rfl];simp only
 split<;>simp
theorem yadf(v:Value)(ns:List Ino)(ds:List Den)(s:ByteArray)(w:World)(h:RdIm w v ns ds)(hi:zbg ns ds=true)(hl:s.size<=65536)(hw:ns.length<=1048576)(hp:ds.length<=1048576)(hT:TS w)(hE:ED w)(hF:FD w)(hr:∀ k (h:k<ns.length),ns[k].R)(hs:∀ k (h:k<ds.length),ds[k].name.size<=maxLen) :
  zC 27 #[v,.string s] w fun e w'=>∃ v',e=.returned (.tuple #[v',.I (naR ns ds (lkI ns ds s)).2])/\Row w' 9 1 w.heap.size w'.heap.size v' (naR ns ds (lkI ns ds s)).1.length (zee (naR ns ds (lkI ns ds s)).1)/\zB w w':=by
 have LL:Hid (∀ w1,zB w w1->zC 68 #[v,.string s] w1 fun e w'=>e=.returned (.tuple #[.I (lkI ns ds s).1,.I (lkI ns ds s).2])/\zB w1 w'):=fun w1 hb=>by
  have q:=zfc v ns ds s w1 (h.below hb) hw hp (hT.below hb) (hE.below hb) (hF.below hb) hr hs;rw[yagb hl hi]at q;exact q
 have LE:Hid (∀ i:Int,0<=i/\i<=15->∀ w1,zB w w1->zC 69 #[v,.I i] w1 fun e w'=>∃ v',e=.returned (.tuple #[v',.I (naR ns ds (i,0)).2])/\Row w' 9 1 w1.heap.size w'.heap.size v' (naR ns ds (i,0)).1.length (zee (naR ns ds (i,0)).1)/\zB w1 w'):=fun i h15 w1 hb=>by
  have q:=zne v ns ds i w1 (h.below hb) hw hp (hT.below hb) (hE.below hb) (hF.below hb) hr hs;rw[(yagt hi h15).1,(yagt hi h15).2]at q;exact q
 have LO:=zaa (zoe (s:=s) hi)
 have NO:Hid (∀ r:Int×Int,¬ r.2=0->naR ns ds r=([],r.2)):=fun r c=>if_neg c
 obtain⟨vW,vP,rfl,h1,h2⟩:=h;obtain⟨aW,cW,rfl,_,_⟩:=h1.shape;obtain⟨aP,cP,rfl,_,_⟩:=h2.shape;clear h1 h2 hr hs hT hE hF hi
 obtain⟨W,hW⟩:=zE (w.alloc (.cells #[.slice aW ns.length cW,.slice aP ds.length cP] 51))
 have CA:Hid (∀ w',zB W w'->w'.cell? ⟨w.heap.size,0,none⟩=some (.slice aW ns.length cW)/\w'.cell? ⟨w.heap.size,1,none⟩=some (.slice aP ds.length cP)):=fun w' hb=>by
  have:w'.heap[w.heap.size]?=some (.cells #[.slice aW ns.length cW,.slice aP ds.length cP] 51 (0,0)):=(hb.block _ (by rw[hW];simp)).trans (by rw[hW];exact zaf rfl);exact⟨(zac this).1,(zac this).2.1⟩
 have BW:Hid (zB w W):=by rw[hW];exact zR.alloc zL _
 generalize lkI ns ds s=lr at *;obtain⟨li,lc⟩:=lr;simp only at LO LL;have NO2:=zaa (NO.o (li,lc));have LE2:=zaa (LE.o li LO.o)
 by_cases c:lc=0
 case neg =>
  have E:=zaa (NO2.o c);generalize naR ns ds (li,lc)=res at *;obtain rfl:=E.o
  have q:(lc != 0)=true:=by rw[bne_iff_ne];exact c
  clear E c NO NO2 LE LE2;go_enter Tryz.func27,Tryz.ntmps27;go_wp2_with fail;rw[<- hW];clear hW;refine(LL.o _ BW.o).mono ?_;rintro e w1 ⟨rfl,hb1⟩;have B1:=zaa (zab BW.o hb1 BW.o.size);clear hb1 LL;go_wp2;go_ret2;exact⟨_,rfl,Row.nil _ _ _ _ _,B1.o⟩
 subst c;clear NO NO2 LE;generalize naR ns ds (li,0)=res at *;obtain⟨NN,nc⟩:=res;simp only at LE2;go_enter Tryz.func27,Tryz.ntmps27;go_wp2_with fail;rw[<- hW];clear hW;refine(LL.o _ BW.o).mono ?_;rintro e w1 ⟨rfl,hb1⟩;have A1:=zaa hb1;have B1:=zaa (zab BW.o hb1 BW.o.size);clear hb1 LL;obtain⟨x0,x1⟩:=CA.o _ A1.o;go_wp2_with fail;refine(LE2.o _ B1.o).mono ?_;rintro e w2 ⟨v2,rfl,hr2,hb2⟩;have B2:=zaa (zab B1.o hb2 B1.o.size);have R2:=zaa (hr2.wide (lo':=w.heap.size) (hi':=w2.heap.size) B1.o.size zL);clear hr2 hb2 x0 x1;go_wp2;go_ret2;exact⟨_,rfl,R2.o,B2.o⟩
def opEq(k:Int)(p t:ByteArray)(g x:Int)(k':Int)(p' t':ByteArray)(g' x':Int):Bool:=k == k'&&(p.toList == p'.toList&&(t.toList == t'.toList&&(g == g'&&x == x')))
@[go_sem ↓] theorem eqOp(k:Int)(p t:ByteArray)(g x:Int)(k':Int)(p' t':ByteArray)(g' x':Int)(w:World):(Op.equalIn 10000 40 (.agg #[.I k,.string p,.string t,.I g,.I x]) (.agg #[.I k',.string p',.string t',.I g',.I x'])).run Tryz.prog w=.ok (opEq k p t g x k' p' t' g' x') w:=by
 unfold opEq
 cases g0:(k == k')
 ·go_simp
 cases g1:(p.toList == p'.toList)
 ·go_simp
 cases g2:(t.toList == t'.toList)
 ·go_simp
 cases g3:(g == g')
 ·go_simp
 cases g4:(x == x')
 ·go_simp
 ·go_simp
theorem yavw:(⟨#[]⟩:ByteArray).toList=[]:=(zqa _).2 rfl
theorem zhd(t:ByteArray)(g x:Int):opEq 0 ⟨#[]⟩ t g x 0 ⟨#[]⟩ ⟨#[]⟩ 0 0=decide (t.size=0/\g=0/\x=0):=by
 unfold opEq;rw[Bool.eq_iff_iff];simp only[Bool.and_eq_true,beq_iff_eq,decide_eq_true_eq,yavw,true_and];rw[zqa t]
theorem ybej{k:Int}{p t:ByteArray}{g x:Int}(hp:¬ 65536<p.size)(ht:¬ 65536<t.size)(hk:1<=k/\k<=10){P:Prop}[Decidable P](h:P↔((k=4\/k=5\/t.size=0)/\(k=6\/x=0)/\((6<=k/\k<=8)\/g=0))):opB k p t g x=decide P:=by
 unfold opB;rw[decide_eq_decide,h];exact⟨fun q=>q.2.2.2,fun q=>⟨hk,by omega,by omega,q⟩⟩
theorem yaom{k:Int}{p t:ByteArray}{g x:Int}(h:¬ ((1<=k/\k<=10)/\p.size<=65536/\t.size<=65536)):opB k p t g x=false:=decide_eq_false (fun q=>h ⟨q.1,q.2.1,q.2.2.1⟩)
theorem zoj(k:Int)(p t:ByteArray)(g x:Int)(w:World) :
  zC 11 #[.agg #[.I k,.string p,.string t,.I g,.I x]] w fun e w'=>e=.returned (.bool (opB k p t g x))/\zB w w':=by
 by_cases c1:65536<p.size
 ·rw[yaom (fun h=>by omega)]
  have q:(p.size:Int)>65536:=by omega
  clear c1;go_enter Tryz.func11,Tryz.ntmps11;go_wp2;go_ret;exact⟨rfl,zR.alloc zL _⟩
 have q1:¬ (p.size:Int)>65536:=by omega
 by_cases c2:65536<t.size
 ·rw[yaom (fun h=>by omega)]
  have q:(t.size:Int)>65536:=by omega
  clear c1 c2;go_enter Tryz.func11,Tryz.ntmps11;go_wp2;go_ret;exact⟨rfl,zR.alloc zL _⟩
 have q2:¬ (t.size:Int)>65536:=by omega
 by_cases hk:1<=k/\k<=10
 case neg =>
  rw[yaom (fun h=>hk h.1)]
  have k1:(k == 1)=false:=by rw[beq_eq_false_iff_ne];omega
  have k2:(k == 2)=false:=by rw[beq_eq_false_iff_ne];omega
  have k3:(k == 3)=false:=by rw[beq_eq_false_iff_ne];omega
  have k4:(k == 4)=false:=by rw[beq_eq_false_iff_ne];omega
  have k5:(k == 5)=false:=by rw[beq_eq_false_iff_ne];omega
  have k6:(k == 6)=false:=by rw[beq_eq_false_iff_ne];omega
  have k7:(k == 7)=false:=by rw[beq_eq_false_iff_ne];omega
  have k8:(k == 8)=false:=by rw[beq_eq_false_iff_ne];omega
  have k9:(k == 9)=false:=by rw[beq_eq_false_iff_ne];omega
  have k10:(k == 10)=false:=by rw[beq_eq_false_iff_ne];omega
  clear c1 c2 hk;go_enter Tryz.func11,Tryz.ntmps11;go_wp2;go_ret;exact⟨rfl,by repeat (first | exact zR | refine Below.setCell ?_ (by simp only;omega) _ | refine Below.alloc ?_ (by simp) _)⟩
 have OI:=zaa (fun(P:Prop) (_:Decidable P) h=>ybej (k:=k) (p:=p) (t:=t) (g:=g) (x:=x) c1 c2 hk (P:=P) h);clear c1 c2
 rcases(show k=1\/k=2\/k=3\/k=4\/k=5\/k=6\/k=7\/k=8\/k=9\/k=10 by omega)with rfl|rfl|rfl|rfl|rfl|rfl|rfl|rfl|rfl|rfl
 ·have E:Hid (opB 1 p t g x=opEq 0 ⟨#[]⟩ t g x 0 ⟨#[]⟩ ⟨#[]⟩ 0 0):=by
   unfold Hid;rw[zhd];exact OI.o _ _ ⟨fun q=>⟨by omega,by omega,by omega⟩,fun q=>⟨by first | rfl | omega,by omega,by omega⟩⟩
  rw[E.o];clear E OI hk;go_enter Tryz.func11,Tryz.ntmps11;go_wp2;go_ret;exact⟨rfl,by repeat (first | exact zR | refine Below.setCell ?_ (by simp only;omega) _ | refine Below.alloc ?_ (by simp) _)⟩
 ·have E:Hid (opB 2 p t g x=opEq 0 ⟨#[]⟩ t g x 0 ⟨#[]⟩ ⟨#[]⟩ 0 0):=by
   unfold Hid;rw[zhd];exact OI.o _ _ ⟨fun q=>⟨by omega,by omega,by omega⟩,fun q=>⟨by first | rfl | omega,by omega,by omega⟩⟩
  rw[E.o];clear E OI hk;go_enter Tryz.func11,Tryz.ntmps11;go_wp2;go_ret;exact⟨rfl,by repeat (first | exact zR | refine Below.setCell ?_ (by simp only;omega) _ | refine Below.alloc ?_ (by simp) _)⟩
 ·have E:Hid (opB 3 p t g x=opEq 0 ⟨#[]⟩ t g x 0 ⟨#[]⟩ ⟨#[]⟩ 0 0):=by
   unfold Hid;rw[zhd];exact OI.o _ _ ⟨fun q=>⟨by omega,by omega,by omega⟩,fun q=>⟨by first | rfl | omega,by omega,by omega⟩⟩
  rw[E.o];clear E OI hk;go_enter Tryz.func11,Tryz.ntmps11;go_wp2;go_ret;exact⟨rfl,by repeat (first | exact zR | refine Below.setCell ?_ (by simp only;omega) _ | refine Below.alloc ?_ (by simp) _)⟩
 ·have E:Hid (opB 4 p t g x=opEq 0 ⟨#[]⟩ ⟨#[]⟩ g x 0 ⟨#[]⟩ ⟨#[]⟩ 0 0):=by
   unfold Hid;rw[zhd];exact OI.o _ _ ⟨fun q=>⟨by omega,by omega,by omega⟩,fun q=>⟨by first | rfl | omega,by omega,by omega⟩⟩
  rw[E.o];clear E OI hk;go_enter Tryz.func11,Tryz.ntmps11;go_wp2;go_ret;exact⟨rfl,by repeat (first | exact zR | refine Below.setCell ?_ (by simp only;omega) _ | refine Below.alloc ?_ (by simp) _)⟩
 ·have E:Hid (opB 5 p t g x=opEq 0 ⟨#[]⟩ ⟨#[]⟩ g x 0 ⟨#[]⟩ ⟨#[]⟩ 0 0):=by
   unfold Hid;rw[zhd];exact OI.o _ _ ⟨fun q=>⟨by omega,by omega,by omega⟩,fun q=>⟨by first | rfl | omega,by omega,by omega⟩⟩
  rw[E.o];clear E OI hk;go_enter Tryz.func11,Tryz.ntmps11;go_wp2;go_ret;exact⟨rfl,by repeat (first | exact zR | refine Below.setCell ?_ (by simp only;omega) _ | refine Below.alloc ?_ (by simp) _)⟩
 ·have E:Hid (opB 6 p t g x=opEq 0 ⟨#[]⟩ t 0 0 0 ⟨#[]⟩ ⟨#[]⟩ 0 0):=by
   unfold Hid;rw[zhd];exact OI.o _ _ ⟨fun q=>⟨by omega,by omega,by omega⟩,fun q=>⟨by first | rfl | omega,by omega,by omega⟩⟩
  rw[E.o];clear E OI hk;go_enter Tryz.func11,Tryz.ntmps11;go_wp2;go_ret;exact⟨rfl,by repeat (first | exact zR | refine Below.setCell ?_ (by simp only;omega) _ | refine Below.alloc ?_ (by simp) _)⟩
 ·have E:Hid (opB 7 p t g x=opEq 0 ⟨#[]⟩ t 0 x 0 ⟨#[]⟩ ⟨#[]⟩ 0 0):=by
   unfold Hid;rw[zhd];exact OI.o _ _ ⟨fun q=>⟨by omega,by omega,by omega⟩,fun q=>⟨by first | rfl | omega,by omega,by omega⟩⟩
  rw[E.o];clear E OI hk;go_enter Tryz.func11,Tryz.ntmps11;go_wp2;go_ret;exact⟨rfl,by repeat (first | exact zR | refine Below.setCell ?_ (by simp only;omega) _ | refine Below.alloc ?_ (by simp) _)⟩
 ·have E:Hid (opB 8 p t g x=opEq 0 ⟨#[]⟩ t 0 x 0 ⟨#[]⟩ ⟨#[]⟩ 0 0):=by
   unfold Hid;rw[zhd];exact OI.o _ _ ⟨fun q=>⟨by omega,by omega,by omega⟩,fun q=>⟨by first | rfl | omega,by omega,by omega⟩⟩
  rw[E.o];clear E OI hk;go_enter Tryz.func11,Tryz.ntmps11;go_wp2;go_ret;exact⟨rfl,by repeat (first | exact zR | refine Below.setCell ?_ (by simp only;omega) _ | refine Below.alloc ?_ (by simp) _)⟩
 ·have E:Hid (opB 9 p t g x=opEq 0 ⟨#[]⟩ t g x 0 ⟨#[]⟩ ⟨#[]⟩ 0 0):=by
   unfold Hid;rw[zhd];exact OI.o _ _ ⟨fun q=>⟨by omega,by omega,by omega⟩,fun q=>⟨by first | rfl | omega,by omega,by omega⟩⟩
  rw[E.o];clear E OI hk;go_enter Tryz.func11,Tryz.ntmps11;go_wp2;go_ret;exact⟨rfl,by repeat (first | exact zR | refine Below.setCell ?_ (by simp only;omega) _ | refine Below.alloc ?_ (by simp) _)⟩
 ·have E:Hid (opB 10 p t g x=opEq 0 ⟨#[]⟩ t g x 0 ⟨#[]⟩ ⟨#[]⟩ 0 0):=by
   unfold Hid;rw[zhd];exact OI.o _ _ ⟨fun q=>⟨by omega,by omega,by omega⟩,fun q=>⟨by first | rfl | omega,by omega,by omega⟩⟩
  rw[E.o];clear E OI hk;go_enter Tryz.func11,Tryz.ntmps11;go_wp2;go_ret;exact⟨rfl,by repeat (first | exact zR | refine Below.setCell ?_ (by simp only;omega) _ | refine Below.alloc ?_ (by simp) _)⟩
end Go.Proofs.YtogcbbkhnpmgeaaGreatDoor
