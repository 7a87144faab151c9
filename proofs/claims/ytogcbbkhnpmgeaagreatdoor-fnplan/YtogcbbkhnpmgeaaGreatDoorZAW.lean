import Derived.Test.YtogcbbkhnpmgeaaGreatDoorZAS
set_option maxRecDepth 100000
set_option maxHeartbeats 8000000
namespace Go.Proofs.YtogcbbkhnpmgeaaGreatDoor
open Go.RowKit
theorem zhn(v:Value)(ws:List Ino)(ps:List Den)(w:World)(h:RdIm w v ws ps)(hl:ps.length<=4096) :
  zC 201 #[v] w fun e w'=>e=.returned (.I (feI ps))/\zB w w':=by
 obtain⟨vW,vP,rfl,h1,h2⟩:=h;obtain⟨aW,cW,rfl,_,_⟩:=h1.shape;obtain⟨aP,cP,rfl,_,hcP⟩:=h2.shape;have HP:=zaa hcP;clear h1 h2 hcP
 have CA:Hid (∀ w',Below (w.alloc (.cells #[.slice aW ws.length cW,.slice aP ps.length cP] 51)).heap.size (w.alloc (.cells #[.slice aW ws.length cW,.slice aP ps.length cP] 51)) w'->w'.cell? ⟨w.heap.size,0,none⟩=some (.slice aW ws.length cW)/\w'.cell? ⟨w.heap.size,1,none⟩=some (.slice aP ps.length cP)):=fun w' hb=>by
  have:w'.heap[w.heap.size]?=some (.cells #[.slice aW ws.length cW,.slice aP ps.length cP] 51 (0,0)):=(hb.block _ (by simp)).trans (zaf rfl);exact⟨(zac this).1,(zac this).2.1⟩
 have BW:Hid (zB w (w.alloc (.cells #[.slice aW ws.length cW,.slice aP ps.length cP] 51))):=zR.alloc zL _
 obtain⟨W,hW⟩:=zE (w.alloc (.cells #[.slice aW ws.length cW,.slice aP ps.length cP] 51))
 rw[<- hW]at CA BW;obtain⟨y0,y1⟩:=CA.o _ zR;have EF:=zaa (show feI ps=zba (fun i=>decide (zao ps i<0)) ps.length from rfl);go_enter Tryz.func201,Tryz.ntmps201;go_wp2;rw[<- hW];clear hW
 go_loopw [3] (fun i wr=>∃ k:Nat,k<=ps.length/\i=.I k/\wr=W/\Hid (∀ j,j<k->decide (zao ps j<0)=false)) (fun i _=>ps.length-(intOf i).toNat)
 case atStart=>exact⟨0,by omega,rfl,rfl,fun j a=>absurd a (by omega)⟩
 case round =>
  obtain⟨k,hk,rfl,rfl,H⟩:=hrel
  have k0:(0:Int)<=(k:Int):=by omega
  by_cases hlt:k<ps.length
  ·obtain⟨b,o,rfl,hbl,hcell⟩:=HP.o (by omega);have d0:=(BW.o.cell (p:=⟨b,o+k*3+2,none⟩) hbl).trans (hcell k hlt).2.2;rw[<- zbn hlt]at d0
   have k1:(k:Int)<(ps.length:Int):=by omega
   clear hcell
   by_cases q:zao ps k<0
   ·have E:=zaa (EF.o.trans (zgt (p:=fun i=>decide (zao ps i<0)) hlt H.o (decide_eq_true q)));clear H;generalize zao ps k=z at d0 q;go_wp2;go_ret;exact⟨zcx E.o.symm,BW.o⟩
   ·have H':Hid (∀ j,j<k+1->decide (zao ps j<0)=false):=fun j a=>by
     by_cases e:j=k
     ·subst e;exact decide_eq_false q
     ·exact H.o j (by omega)
    clear H;generalize zao ps k=z at d0 q;go_wp2
    go_roundw
    case rel=>exact⟨k+1,by omega,by go_num,trivial,H'⟩
    case measure=>simp[intOf];omega
  ·have E:=zaa (EF.o.trans (zek (p:=fun i=>decide (zao ps i<0)) (n:=ps.length) (fun j hj=>H.o j (by omega))))
   have k2:¬ (k:Int)<(ps.length:Int):=by omega
   clear H;go_wp2;go_ret;exact⟨zcx E.o.symm,BW.o⟩
theorem yakn(x:Den):zix freeD.dir freeD.name freeD.child x.dir x.name x.child=x.freeB:=by
 rw[<- zmd x];unfold zix freeD;rw[Bool.eq_iff_iff];simp only[Bool.and_eq_true,beq_iff_eq];exact⟨fun h=>⟨h.1.symm,h.2.1.symm,h.2.2.symm⟩,fun h=>⟨h.1.symm,h.2.1.symm,h.2.2.symm⟩⟩
theorem zvx(v:Value)(ps:List Den)(w:World)(h:RdD w v ps)(hn:ps.length<=1048576)(hfc:∀ j (h:j<ps.length),(!ps[j].freeB)=decide (0<=ps[j].child)) :
  zC 214 #[v,.agg #[.I 0,.string ⟨#[]⟩,.I (-1)]] w fun e w'=>e=.returned (.I (feI ps))/\zB w w':=by
 have EF:=zaa (show feI ps=zba (fun i=>decide (zao ps i<0)) ps.length from rfl)
 have HF:Hid (∀ j (h:j<ps.length),zix 0 ⟨#[]⟩ (-1) ps[j].dir ps[j].name ps[j].child=decide (zao ps j<0)):=fun j h=>by
  rw[show zix 0 ⟨#[]⟩ (-1) ps[j].dir ps[j].name ps[j].child=ps[j].freeB from yakn ps[j],zbn h];have:=hfc j h;rw[Bool.eq_iff_iff,decide_eq_true_eq]
  cases e:ps[j].freeB
  ·rw[e]at this
   have:0<=ps[j].child:=by simpa using this.symm
   simp;exact this
  ·rw[e]at this
   have:¬ 0<=ps[j].child:=by simpa using this.symm
   simp;omega
 obtain⟨aZ,cZ,rfl,_,hcZ⟩:=h.shape;have HZ:=zaa hcZ;have BW:=zaa ((Below.refl w.heap.size w).alloc zL (.cells #[.I 0,.string ⟨#[]⟩,.I (-1)] 90))
 have CB:Hid (∀ w',Below (w.alloc (.cells #[.I 0,.string ⟨#[]⟩,.I (-1)] 90)).heap.size (w.alloc (.cells #[.I 0,.string ⟨#[]⟩,.I (-1)] 90)) w'->w'.cell? ⟨w.heap.size,0,none⟩=some (.I 0)/\w'.cell? ⟨w.heap.size,1,none⟩=some (.string ⟨#[]⟩)/\w'.cell? ⟨w.heap.size,2,none⟩=some (.I (-1))):=fun w' hb=>zax ((hb.block _ (by simp)).trans (zaf rfl))
 have hz:w.heap.size<=(w.alloc (.cells #[.I 0,.string ⟨#[]⟩,.I (-1)] 90)).heap.size:=BW.o.size
 obtain⟨W,hW⟩:=zE (w.alloc (.cells #[.I 0,.string ⟨#[]⟩,.I (-1)] 90))
 rw[<- hW]at BW CB hz;clear h hcZ hfc;go_enter Tryz.func214,Tryz.ntmps214;go_wp2;rw[<- hW];clear hW
 go_loopw [5,8] (fun _ i wr=>∃ k:Nat,k<=ps.length/\i=.I k/\Hid (zB W wr/\∀ j,j<k->decide (zao ps j<0)=false)) (fun _ i _=>ps.length-(intOf i).toNat)
 case atStart=>exact⟨0,by omega,rfl,zR,fun j a=>absurd a (by omega)⟩
 case round =>
  obtain⟨k,hk,rfl,H⟩:=hrel
  by_cases hlt:k<ps.length
  ·obtain⟨b,o,rfl,hbl,hcell⟩:=HZ.o (by omega);obtain⟨x0,x1,x2⟩:=CB.o wr H.o.1;have B0:=zaa (zab BW.o H.o.1 hz);obtain⟨a0,a1,a2⟩:=hcell k hlt;have d0:=(B0.o.cell (p:=⟨b,o+k*3,none⟩) hbl).trans a0;have d1:=(B0.o.cell (p:=⟨b,o+k*3+1,none⟩) hbl).trans a1;have d2:=(B0.o.cell (p:=⟨b,o+k*3+2,none⟩) hbl).trans a2
   have k0:(0:Int)<=(k:Int):=by omega
   have k1:(k:Int)<(ps.length:Int):=by omega
   have Q:=zaa (HF.o k hlt);clear hcell a0 a1 a2
   cases q:zix 0 ⟨#[]⟩ (-1) ps[k].dir ps[k].name ps[k].child with
   | true =>
    have E:=zaa (EF.o.trans (zgt (p:=fun i=>decide (zao ps i<0)) hlt H.o.2 (by show decide (zao ps k<0)=true;rw[<- Q.o,q])));clear H Q;generalize ps[k]=y at *;go_wp2
    go_quiet (fail)
    go_wp2;go_ret;exact⟨zcx E.o.symm,zdn B0.o _⟩
   | false =>
    have H':Hid (∀ j,j<k+1->decide (zao ps j<0)=false):=fun j a=>by
     by_cases e:j=k
     ·subst e;rw[<- Q.o];exact q
     ·exact H.o.2 j (by omega)
    have H1:=zaa H.o.1;clear H Q;generalize ps[k]=y at d0 d1 d2 q;go_wp2
    go_quiet (fail)
    go_wp2
    go_roundw
    case rel=>exact⟨k+1,by omega,by go_num,zdn H1.o _,H'.o⟩
    case measure=>simp[intOf];omega
  ·have E:=zaa (EF.o.trans (zek (p:=fun i=>decide (zao ps i<0)) (n:=ps.length) (fun j h=>H.o.2 j (by omega))));have B0:=zaa (zab BW.o H.o.1 hz);clear H;go_wp2;go_ret;exact⟨zcx E.o.symm,B0.o⟩
theorem znb(v:Value)(ws:List Ino)(ps:List Den)(w:World)(h:RdIm w v ws ps)(hi:zbg ws ps=true)(hF:FD w) :
  zC 185 #[v] w fun e w'=>e=.returned (.tuple #[.I (zhh (feI ps)),.I (zhf (feI ps))])/\zB w w':=by
 obtain⟨vW,vP,rfl,h1,h2⟩:=h;have LX:=zaa (fun w1 (hb:zB w w1)=>zvx vP ps w1 (Rd.below h2 hb) (by have:=(zas hi).2.1;omega) (fun j hj=>zui hi j hj));obtain⟨aW,cW,rfl,_,_⟩:=h1.shape;obtain⟨aP,cP,rfl,_,_⟩:=h2.shape;clear h1 h2 hi
 have CA:Hid (∀ w',Below (w.alloc (.cells #[.slice aW ws.length cW,.slice aP ps.length cP] 51)).heap.size (w.alloc (.cells #[.slice aW ws.length cW,.slice aP ps.length cP] 51)) w'->w'.cell? ⟨w.heap.size,0,none⟩=some (.slice aW ws.length cW)/\w'.cell? ⟨w.heap.size,1,none⟩=some (.slice aP ps.length cP)):=fun w' hb=>by
  have:w'.heap[w.heap.size]?=some (.cells #[.slice aW ws.length cW,.slice aP ps.length cP] 51 (0,0)):=(hb.block _ (by simp)).trans (zaf rfl);exact⟨(zac this).1,(zac this).2.1⟩
 have BW:Hid (zB w (w.alloc (.cells #[.slice aW ws.length cW,.slice aP ps.length cP] 51))):=zR.alloc zL _;obtain⟨x0,x1⟩:=CA.o _ zR;obtain⟨f0,f1,f2⟩:=FD.cells (hF.below BW.o);generalize feI ps=r at *;clear hF CA;go_enter Tryz.func185,Tryz.ntmps185;go_wp2_with fail;refine(LX.o _ BW.o).mono ?_;rintro e w1 ⟨rfl,hb1⟩;have B1:=zaa (zab BW.o hb1 BW.o.size);clear hb1 x0 x1 f0 f1 f2
 by_cases q:r<0
 ·go_wp2;go_ret2;exact⟨zcg (show(0:Int)=zhh r from(if_pos q).symm) (show(7:Int)=zhf r from(if_pos q).symm),B1.o⟩
 ·go_wp2;go_ret2;exact⟨zcg (by unfold zhh;rw[if_neg (by omega)]) (by unfold zhf;rw[if_neg (by omega)]),B1.o⟩
theorem zdm(i f x:Int)(w:World)(hi:0<=i/\i<16)(hf:0<=f/\f<11) :
  zC 153 #[.I i,.I f,.I x] w fun e w'=>e=.returned (.agg #[.I (48+12*i+f),.I x])/\zB w w':=by
 obtain⟨k1,k2⟩:=yago hi hf;have K1:=zaa k1;have K2:=zaa k2;clear k1 k2;generalize 48+12*i+f=at_ at *;have BW:=zaa ((Below.refl w.heap.size w).alloc zL (.cells #[.I 0,.I 0] 104));go_enter Tryz.func153,Tryz.ntmps153;go_wp2_with fail;refine(zfo _ _ _).mono ?_;rw[K1.o,K2.o];rintro e w' ⟨rfl,hw'⟩;subst w';go_wp2;refine bodyPost_ret (v:=.agg #[.I at_,.I x]) (by simp[results,Tryz.results153,go_sem]) rfl ⟨rfl,?_⟩
 repeat (first | exact BW.o | exact zR | refine Below.setCell ?_ (by exact Nat.le_refl _) _ | refine Below.alloc ?_ (by simp) _)
def unL(i:Int)(x:Ino):List Se:=if 1<x.links then[⟨48+12*i+2,x.links-1⟩]else wrL i zbb 8
theorem yaxi{i:Int}(hi:0<=i/\i<16):iuC i zbb=0/\iuL i zbb=wrL i zbb 8:=by
 have z:zed zbb=true:=by decide
 exact⟨by unfold iuC;rw[if_pos (by omega),if_pos z],by unfold iuL;rw[if_pos (by omega),if_pos z]⟩
theorem znh(i:Int)(x:Ino)(w:World)(hi:0<=i/\i<16)(hl:x.links<=24)(hT:TS w)(hE:ED w) :
  zC 189 #[.I i,x.v] w fun e w'=>∃ v',e=.returned v'/\Row w' 104 2 w.heap.size w'.heap.size v' (unL i x).length (ses (unL i x))/\zB w w':=by
 have hv:x.v=.agg x.cs.toArray:=rfl;have LU:=zaa (fun y w1=>zdm i 2 y w1 hi (by omega));have LI:=zaa (fun w1 (hb:zB w w1)=>zki i zbb w1 (hT.below hb) (hE.below hb) (by intro z hz;simp[zbb,Ino.map]at hz;omega));obtain⟨q1,q2⟩:=yaxi hi;have Q1:=zaa q1;have Q2:=zaa q2;have EU:=zaa (show unL i x=if 1<x.links then[⟨48+12*i+2,x.links-1⟩]else wrL i zbb 8 from rfl)
 obtain⟨W,hW⟩:=zE (w.alloc (.cells x.cs.toArray 87))
 have CA:Hid (∀ w',zB W w'->∀ j,w'.cell? ⟨w.heap.size,j,none⟩=x.cs[j]?):=fun w' hb j=>by
  have:w'.heap[w.heap.size]?=some (.cells x.cs.toArray 87 (0,0)):=(hb.block _ (by rw[hW];simp)).trans (by rw[hW];exact zaf rfl);exact(zag (xs:=x.cs) this j).1
 have BW:Hid (zB w W):=by rw[hW];exact zR.alloc zL _
 have c2:(w.alloc (.cells x.cs.toArray 87)).cell? ⟨w.heap.size,2,none⟩=some (.I x.links):=by rw[<- hW];exact CA.o W zR 2
 rw[hv];clear hT hE q1 q2 CA;generalize unL i x=L at *
 by_cases q:1<x.links
 ·rw[if_pos q]at EU;obtain rfl:=EU.o
  have wp1:IntKind.i64.wrap (x.links-1)=x.links-1:=by rw[IntKind.wrap_i64];omega
  have q1:x.links>1:=q;clear EU LI Q1 Q2;generalize x.links=l at *;go_enter Tryz.func189,Tryz.ntmps189;go_wp2_with fail;rw[<- hW];clear hW;refine(LU.o _ _).mono ?_;rintro e w1 ⟨rfl,hb1⟩;have B1:=zaa (zab BW.o hb1 BW.o.size);clear hb1 c2;go_wp2;go_ret;exact⟨_,rfl,(zad (World.ownsRow_lit w1 _ 1 zL (by simp[maxLen]) rfl)).wide B1.o.size zL,B1.o.alloc B1.o.size _⟩
 ·rw[if_neg q]at EU;obtain rfl:=EU.o;have q1:¬ x.links>1:=q;clear EU LU;generalize x.links=l at *;go_enter Tryz.func189,Tryz.ntmps189;go_wp2_with fail;rw[<- hW];clear hW;refine(LI.o _ BW.o).mono ?_;rw[Q1.o,Q2.o];rintro e w1 ⟨v1,rfl,hr1,hb1⟩;have B1:=zaa (zab BW.o hb1 BW.o.size);have R1:=zaa (hr1.wide BW.o.size zL);obtain⟨-,aL,cL,hvL,-⟩:=hr1.rd;subst hvL;clear hb1 hr1 c2;go_wp2;go_ret;exact⟨_,rfl,R1.o,B1.o⟩
def pfC(ws:List Ino)(ps:List Den)(ss:List ByteArray):Int:=if ss.any (fun s=>decide (65536<s.size))=true then 2 else if zbg ws ps=true then 0 else 1
theorem zip(v vL:Value)(ws:List Ino)(ps:List Den)(ss:List ByteArray)(w:World)(h:RdIm w v ws ps)(hL:RdT w vL ss)(hn:ss.length<=4096)(hw:ws.length<=1048576)(hp:ps.length<=1048576)(hT:TS w)(hE:ED w)(hF:FD w)(hr:∀ k (h:k<ws.length),ws[k].R)(hs:∀ k (h:k<ps.length),ps[k].name.size<=maxLen) :
  zC 182 #[v,vL] w fun e w'=>e=.returned (.I (pfC ws ps ss))/\zB w w':=by
 have LI:=zaa (fun w1 (hb:zB w w1)=>zby v ws ps w1 (h.below hb) hw hp (hT.below hb) (hE.below hb) (hF.below hb) hr hs);have EC:=zaa (show pfC ws ps ss=if ss.any (fun s=>decide (65536<s.size))=true then 2 else if zbg ws ps=true then 0 else 1 from rfl);obtain⟨vW,vP,rfl,h1,h2⟩:=h;obtain⟨aW,cW,rfl,_,_⟩:=h1.shape;obtain⟨aP,cP,rfl,_,_⟩:=h2.shape;obtain⟨aL,cL,rfl,_,hcL⟩:=hL.shape;have HL:=zaa hcL;clear h1 h2 hr hs hT hE hF hL hcL
 obtain⟨W,hW⟩:=zE (w.alloc (.cells #[.slice aW ws.length cW,.slice aP ps.length cP] 51))
 have BW:Hid (zB w W):=by rw[hW];exact zR.alloc zL _
 obtain⟨x0,x1⟩:W.cell? ⟨w.heap.size,0,none⟩=some (.slice aW ws.length cW)/\W.cell? ⟨w.heap.size,1,none⟩=some (.slice aP ps.length cP):=by
  have:W.heap[w.heap.size]?=some (.cells #[.slice aW ws.length cW,.slice aP ps.length cP] 51 (0,0)):=by rw[hW];exact zaf rfl
  exact⟨(zac this).1,(zac this).2.1⟩
 generalize pfC ws ps ss=r at *;go_enter Tryz.func182,Tryz.ntmps182;go_wp2;rw[<- hW];clear hW
 go_loopw [6,9] (fun _ i wr=>∃ k:Nat,k<=ss.length/\i=.I k/\wr=W/\Hid (∀ j (h:j<ss.length),j<k->¬ 65536<ss[j].size)) (fun _ i _=>ss.length-(intOf i).toNat)
 case atStart=>exact⟨0,by omega,rfl,rfl,fun j _ a=>absurd a (by omega)⟩
 case round =>
  obtain⟨k,hk,rfl,rfl,H⟩:=hrel
  have k0:(0:Int)<=(k:Int):=by omega
  by_cases hlt:k<ss.length
  ·obtain⟨b,o,rfl,hbl,hcell⟩:=HL.o (by omega);have d0:=(BW.o.cell (p:=⟨b,o+k,none⟩) hbl).trans (hcell k hlt)
   have k1:(k:Int)<(ss.length:Int):=by omega
   clear hcell
   by_cases q:65536<ss[k].size
   ·have E:Hid (r=2):=EC.o.trans (if_pos (List.any_eq_true.2 ⟨ss[k],List.getElem_mem hlt,decide_eq_true q⟩));obtain rfl:=E.o
    have q1:(ss[k].size:Int)>65536:=by omega
    clear H E EC q;generalize ss[k]=s at *;go_wp2;go_ret;exact⟨rfl,BW.o⟩
   ·have H':Hid (∀ j (h:j<ss.length),j<k+1->¬ 65536<ss[j].size):=fun j h a=>by
     by_cases e:j=k
     ·subst e;exact q
     ·exact H.o j h (by omega)
    have q1:¬ (ss[k].size:Int)>65536:=by omega
    clear H q;generalize ss[k]=s at *;go_wp2
    go_roundw
    case rel=>exact⟨k+1,by omega,by go_num,trivial,H'⟩
    case measure=>simp[intOf];omega
  ·have E:Hid (r=if zbg ws ps=true then 0 else 1):=EC.o.trans (if_neg (by
    rw[List.any_eq_true];rintro⟨s,hs,q⟩;obtain⟨j,hj,rfl⟩:=List.getElem_of_mem hs
    exact H.o j hj (by omega) (by simpa using q)))
   clear H EC
   cases c:zbg ws ps with
   | true =>
    rw[c]at E LI;obtain rfl:=E.o;clear E c;go_wp2_with fail;refine(LI.o _ BW.o).mono ?_;rintro e w1 ⟨rfl,hb1⟩;have B1:=zaa (zab BW.o hb1 BW.o.size);clear hb1 x0 x1;go_wp2;go_ret;exact⟨rfl,B1.o⟩
   | false =>
    rw[c]at E LI;obtain rfl:=E.o;clear E c;go_wp2_with fail;refine(LI.o _ BW.o).mono ?_;rintro e w1 ⟨rfl,hb1⟩;have B1:=zaa (zab BW.o hb1 BW.o.size);clear hb1 x0 x1;go_wp2;go_ret;exact⟨rfl,B1.o⟩
theorem zeo(v:Value)(ws:List Ino)(ps:List Den)(s:ByteArray)(w:World)(h:RdIm w v ws ps)(hi:zbg ws ps=true)(hs:s.size<=65536) :
  zC 199 #[v,.string s] w fun e w'=>e=.returned (.tuple #[.I (paI ws ps s).1,.string (paI ws ps s).2.1,.I (paI ws ps s).2.2])/\zB w w':=by
 have HR:=zaa h;have LS:=zaa (fun w1=>zoo s w1 hs);have LW:=zaa (fun vL ns w1 h hL hn=>zqz v vL ws ps ns w1 h hL hi hn);have WR:=zaa (fun ns=>zme hi ns 0 (by omega));have SL:=zaa (@zvh s);have EL:=zaa (show paI ws ps s=if spB s=true then paL ws ps (spL s) else(0,⟨#[]⟩,12)from rfl);have L16:=zaa (zas hi).1;obtain⟨vW,vP,rfl,h1,h2⟩:=h;obtain⟨aW,cW,rfl,_,hcW⟩:=h1.shape;obtain⟨aP,cP,rfl,_,_⟩:=h2.shape;obtain⟨bW,oW,rfl,hblW,hcellW⟩:=hcW (by have:=L16.o;omega)
 have HW:Hid (∀ w',zB w w'->∀ n:Nat,n<16->w'.cell? ⟨bW,oW+n*11,none⟩=some (.I (zaj ws n))):=fun w' hb n hn=>by
  have hnl:n<ws.length:=by have:=L16.o;omega
  rw[zbk hnl];exact(hb.cell (p:=⟨bW,oW+n*11,none⟩) hblW).trans (hcellW n hnl).1
 clear h1 h2 hi hcW hcellW
 have CA:Hid (∀ w',Below (w.alloc (.cells #[.slice (some ⟨bW,oW,none⟩) ws.length cW,.slice aP ps.length cP] 51)).heap.size (w.alloc (.cells #[.slice (some ⟨bW,oW,none⟩) ws.length cW,.slice aP ps.length cP] 51)) w'->w'.cell? ⟨w.heap.size,0,none⟩=some (.slice (some ⟨bW,oW,none⟩) ws.length cW)/\w'.cell? ⟨w.heap.size,1,none⟩=some (.slice aP ps.length cP)):=fun w' hb=>by
  have:w'.heap[w.heap.size]?=some (.cells #[.slice (some ⟨bW,oW,none⟩) ws.length cW,.slice aP ps.length cP] 51 (0,0)):=(hb.block _ (by simp)).trans (zaf rfl);exact⟨(zac this).1,(zac this).2.1⟩
 have BW:Hid (zB w (w.alloc (.cells #[.slice (some ⟨bW,oW,none⟩) ws.length cW,.slice aP ps.length cP] 51))):=zR.alloc zL _;generalize hres:paI ws ps s=res at *;clear hres
 cases c:spB s with
 | false =>
  rw[c]at LS EL;obtain rfl:=EL.o;clear EL LW;go_enter Tryz.func199,Tryz.ntmps199;go_wp2_with fail;refine(LS.o _).mono ?_;rintro e w1 ⟨v1,rfl,hr1,hb1⟩;have B1:=zaa (zab BW.o hb1 BW.o.size);clear hr1 hb1;go_wp2;go_ret3;exact⟨rfl,B1.o⟩
 | true =>
 rw[c]at LS EL;have EL2:Hid (res=paL ws ps (spL s)):=EL;clear EL c;generalize spL s=ns at *
 by_cases c1:ns=[]
 ·subst c1;obtain rfl:=EL2.o;clear EL2 LW;go_enter Tryz.func199,Tryz.ntmps199;go_wp2_with fail;refine(LS.o _).mono ?_;rintro e w1 ⟨v1,rfl,hr1,hb1⟩;have B1:=zaa (zab BW.o hb1 BW.o.size);obtain⟨aL,cL,rfl,_,_⟩:=hr1.shape;clear hr1 hb1;simp only[List.length_nil];go_wp2;go_ret3;exact⟨rfl,B1.o⟩
 obtain⟨xs,x,rfl⟩:=yadl c1;rw[zxa]at EL2;clear c1;have EP:=zaa (show paN ws ps xs x=if (wk ws ps 0 xs).2=0 then(if zaj ws (wk ws ps 0 xs).1=2 then((wk ws ps 0 xs).1,x,0) else(0,⟨#[]⟩,10)) else(0,⟨#[]⟩,(wk ws ps 0 xs).2)from rfl);rw[EP.o]at EL2;clear EP;have sl:=SL.o;rw[List.length_append,List.length_cons,List.length_nil,Nat.zero_add]at sl;have wr1:=WR.o xs;have LW2:=zaa (fun vL w1 h hL=>LW.o vL xs w1 h hL (by omega))
 obtain⟨z,hz⟩:∃ z:Nat,(wk ws ps 0 xs).1=(z:Int):=⟨((wk ws ps 0 xs).1).toNat,by omega⟩
 have z16:z<16:=by omega
 rw[hz]at EL2 LW2;clear LW WR SL wr1 hz;generalize (wk ws ps 0 xs).2=wc at *;go_enter Tryz.func199,Tryz.ntmps199;go_wp2_with fail;refine(LS.o _).mono ?_;rintro e w1 ⟨v1,rfl,hr1,hb1⟩;have B1:=zaa (zab BW.o hb1 BW.o.size);have BA:=zaa hb1;have hbn:(w.alloc (.cells #[.slice (some ⟨bW,oW,none⟩) ws.length cW,.slice aP ps.length cP] 51)).heap.size<=w1.heap.size:=hb1.size;obtain⟨x0,x1⟩:=CA.o _ hb1;have R1:=zaa hr1;obtain⟨aL,cL,rfl,hcap,hcL⟩:=hr1.shape;obtain⟨b,o,rfl,hbl,hcell⟩:=hcL (by rw[List.length_append];simp)
 have hx:w1.cell? ⟨b,o+xs.length,none⟩=some (.string x):=by
  have:=hcell xs.length (by rw[List.length_append];simp);simpa using this
 have RT:Hid (RdT w1 (.slice (some ⟨b,o,none⟩) xs.length cL) xs):=by
  have:=zpn R1.o (m:=xs.length) (by rw[List.length_append];omega);rw[List.take_left]at this;exact this
 rw[List.length_append,List.length_cons,List.length_nil,Nat.zero_add]at hcap;simp only[List.length_append,List.length_cons,List.length_nil,Nat.zero_add];clear hr1 hb1 hcL hcell R1 LS;generalize xs.length=n at *
 have n0:(((n+1:Nat):Int) == 0)=false:=by rw[beq_eq_false_iff_ne];omega
 have nw:IntKind.i64.wrap (((n+1:Nat):Int)-1)=(n:Int):=by
  rw[show(((n+1:Nat):Int)-1)=(n:Int) by omega,IntKind.wrap_i64];omega
 have ncap:(n:Int)<=(cL:Int):=by omega
 have nw2:IntKind.i64.wrap ((n:Int)+1-1)=(n:Int):=by rw[IntKind.wrap_i64];omega
 have nw3:IntKind.i64.wrap (n:Int)=(n:Int):=by rw[IntKind.wrap_i64];omega
 have nn0:(0:Int)<=(n:Int):=by omega
 have nn1:(n:Int)<((n+1:Nat):Int):=by omega
 have nn2:(n:Int)<(n:Int)+1:=by omega
 have z0:(0:Int)<=(z:Int):=by omega
 have z1:(z:Int)<(ws.length:Int):=by have:=L16.o;omega
 have SK:Hid (∀ w',zB w1 w'->w'.cell? ⟨w.heap.size,0,none⟩=some (.slice (some ⟨bW,oW,none⟩) ws.length cW)/\w'.cell? ⟨w.heap.size,1,none⟩=some (.slice aP ps.length cP)):=fun w' hb=>CA.o w' (zab BA.o hb hbn)
 have HX:Hid (∀ w',zB w1 w'->w'.cell? ⟨b,o+n,none⟩=some (.string x)):=fun w' hb=>(hb.cell (p:=⟨b,o+n,none⟩) hbl).trans hx
 have LW3:=zaa (fun w2 (hb:zB w1 w2)=>LW2.o _ w2 (HR.o.below (zab B1.o hb B1.o.size)) (Rd.below RT.o hb));clear LW2 RT hx
 by_cases q:wc=0
 case neg =>
  rw[if_neg q]at EL2;obtain rfl:=EL2.o
  have q1:(wc != 0)=true:=by rw[bne_iff_ne];exact q
  clear EL2 q;go_wp2_with fail
  go_region_held3 (fun w'=>w'.cell? ⟨w.heap.size,0,none⟩=some (.slice (some ⟨bW,oW,none⟩) ws.length cW)/\w'.cell? ⟨w.heap.size,1,none⟩=some (.slice aP ps.length cP))
   (exact SK.o _ (by repeat (first | exact BF.o | exact zR | refine Below.drew ?_)))
   (first
    | (go_at_call 147;refine(LW3.o _ (by repeat (first | exact zR | refine Below.drew ?_))).mono ?_;rintro e w2 ⟨rfl,hb2⟩;have BF:Hid (zB w1 w2):=(by first | exact hb2 | exact zab (by repeat (first | exact zR | refine Below.drew ?_)) hb2 zL);clear hb2))
  all_goals
   have B3:=zaa (zab B1.o BF.o B1.o.size);clear SK x0 x1;go_wp2;go_ret3;exact⟨rfl,(by repeat (first | exact B3.o | refine Below.drew ?_))⟩
 rw[if_pos q]at EL2;subst q;have HZ:=zaa (fun w' hb=>HW.o w' hb z z16)
 by_cases r:zaj ws z=2
 case neg =>
  rw[if_neg r]at EL2;obtain rfl:=EL2.o
  have r1:(zaj ws z != 2)=true:=by rw[bne_iff_ne];exact r
  clear EL2 r;generalize zaj ws z=kz at *;go_wp2_with fail
  go_region_held3 (fun w'=>w'.cell? ⟨w.heap.size,0,none⟩=some (.slice (some ⟨bW,oW,none⟩) ws.length cW)/\w'.cell? ⟨w.heap.size,1,none⟩=some (.slice aP ps.length cP))
   (exact SK.o _ (by repeat (first | exact BF.o | exact zR | refine Below.drew ?_)))
   (first
    | (go_at_call 147;refine(LW3.o _ (by repeat (first | exact zR | refine Below.drew ?_))).mono ?_;rintro e w2 ⟨rfl,hb2⟩;have BF:Hid (zB w1 w2):=(by first | exact hb2 | exact zab (by repeat (first | exact zR | refine Below.drew ?_)) hb2 zL);clear hb2))
  all_goals
   have B3:=zaa (zab B1.o BF.o B1.o.size);clear x0 x1;obtain⟨x0,x1⟩:=SK.o _ BF.o;have y0:=HZ.o _ B3.o;clear SK;go_wp2;go_ret3;exact⟨rfl,(by repeat (first | exact B3.o | refine Below.drew ?_))⟩
 rw[if_pos r]at EL2;obtain rfl:=EL2.o
 have r1:(zaj ws z != 2)=false:=by rw[r];rfl
 clear EL2 r;generalize zaj ws z=kz at *;go_wp2_with fail
 go_region_held3 (fun w'=>w'.cell? ⟨w.heap.size,0,none⟩=some (.slice (some ⟨bW,oW,none⟩) ws.length cW)/\w'.cell? ⟨w.heap.size,1,none⟩=some (.slice aP ps.length cP))
  (exact SK.o _ (by repeat (first | exact BF.o | exact zR | refine Below.drew ?_)))
  (first
   | (go_at_call 147;refine(LW3.o _ (by repeat (first | exact zR | refine Below.drew ?_))).mono ?_;rintro e w2 ⟨rfl,hb2⟩;have BF:Hid (zB w1 w2):=(by first | exact hb2 | exact zab (by repeat (first | exact zR | refine Below.drew ?_)) hb2 zL);clear hb2))
 all_goals
  have B3:=zaa (zab B1.o BF.o B1.o.size);clear x0 x1;obtain⟨x0,x1⟩:=SK.o _ BF.o;have y0:=HZ.o _ B3.o;have hx:=HX.o _ BF.o;clear SK;go_wp2_with fail
  go_region_held3 (fun w'=>w'.cell? ⟨b,o+n,none⟩=some (.string x))
   (exact HX.o _ (by repeat (first | exact BF.o | refine Below.drew ?_)))
   (fail)
  all_goals
   go_wp2;go_ret3;exact⟨rfl,(by repeat (first | exact B3.o | refine Below.drew ?_))⟩
theorem zvy{w x:World}(h:zB w x)(o:Obj):zB w (x.alloc o):=h.alloc h.size o
def zgh(w w':World)(e:Ending)(r:List Se×Int):Prop:=∃ v',e=.returned (.tuple #[v',.I r.2])/\Row w' 104 2 w.heap.size w'.heap.size v' r.1.length (ses r.1)/\zB w w'
theorem upn{w w1:World}(B:zB w w1):Row (w1.alloc (.cells #[] 104)) 104 2 w.heap.size (w1.alloc (.cells #[] 104)).heap.size (.slice (some ⟨w1.heap.size,0,none⟩) 0 0) 0 []/\zB w (w1.alloc (.cells #[] 104)) :=
 ⟨(zmw w1 _ _).wide B.size zL,B.alloc B.size _⟩
theorem zde{w w1:World}{c:Int}(B:zB w w1):zgh w (w1.alloc (.cells #[] 104)) (.returned (.tuple #[.slice (some ⟨w1.heap.size,0,none⟩) 0 0,.I c])) ([],c) :=
 ⟨_,rfl,(upn B).1,(upn B).2⟩
theorem zqw{w w1:World}{v:Value}{L:List Se}(c:Int)(h:UpI w w1 v L):zgh w w1 (.returned (.tuple #[v,.I c])) (L,c) :=
 ⟨_,rfl,zad h.l,h.b⟩
theorem zcu{w w1:World}{c:Int}(B:zB w w1):zgh w w1 (.returned (.tuple #[.N,.I c])) ([],c) :=
 ⟨_,rfl,Row.nil _ _ _ _ _,B⟩
theorem zqr(v:Value)(ws:List Ino)(ps:List Den)(s:ByteArray)(kind:Int)(w:World)(h:RdIm w v ws ps)(hi:zbg ws ps=true)(hs:s.size<=65536) :
  zC 148 #[v,.string s,.I kind] w fun e w'=>zgh w w' e (mkI ws ps s kind):=by
 have HR:=zaa h;have LP:=zaa (fun w1 (hb:zB w w1)=>zeo v ws ps s w1 (h.below hb) hi hs);have LE:=zaa (fun d nm w1 (hb:zB w w1)=>zfg v ws ps d nm w1 (h.below hb) (by have:=(zas hi).2.1;omega));have LI:=zaa (fun w1 (hb:zB w w1)=>zou v ws ps w1 (h.below hb) (by have:=(zas hi).1;omega));have LK:=zaa (fun w1 (hb:zB w w1)=>zhn v ws ps w1 (h.below hb) (by have:=(zas hi).2.1;omega));have EL:=zaa (show mkI ws ps s kind=if (paI ws ps s).2.2=0 then mkN ws ps kind (paI ws ps s).1 (paI ws ps s).2.1 else([],(paI ws ps s).2.2)from rfl);have EN:=zaa (fun d nm=>show mkN ws ps kind d nm=if 0<=zkq ps d nm then([],8)else if fiI ws<0 then([],7)else if feI ps<0 then([],7) else(mkU (fiI ws) (feI ps) kind d nm,0)from rfl);have PO:=zaa (fun c=>zgq (s:=s) hi c);have f1:=yagr hi;have f2:=zpd hi;have FP:=zaa (@yawn ws);rw[show zba (fun i=>decide (1<=i)&&zaj ws (i:Int) == 0) ws.length=fiI ws from rfl]at LI;obtain⟨vW,vP,rfl,h1,h2⟩:=h;obtain⟨aW,cW,rfl,_,_⟩:=h1.shape;obtain⟨aP,cP,rfl,_,_⟩:=h2.shape;clear h1 h2 hi hs
 have CA:Hid (∀ w',Below (w.alloc (.cells #[.slice aW ws.length cW,.slice aP ps.length cP] 51)).heap.size (w.alloc (.cells #[.slice aW ws.length cW,.slice aP ps.length cP] 51)) w'->w'.cell? ⟨w.heap.size,0,none⟩=some (.slice aW ws.length cW)/\w'.cell? ⟨w.heap.size,1,none⟩=some (.slice aP ps.length cP)):=fun w' hb=>by
  have:w'.heap[w.heap.size]?=some (.cells #[.slice aW ws.length cW,.slice aP ps.length cP] 51 (0,0)):=(hb.block _ (by simp)).trans (zaf rfl);exact⟨(zac this).1,(zac this).2.1⟩
 have BW:Hid (zB w (w.alloc (.cells #[.slice aW ws.length cW,.slice aP ps.length cP] 51))):=zR.alloc zL _
 have hz:w.heap.size<(w.alloc (.cells #[.slice aW ws.length cW,.slice aP ps.length cP] 51)).heap.size:=by simp
 obtain⟨x0,x1⟩:=CA.o _ zR;generalize mkI ws ps s kind=res at *;generalize paI ws ps s=pr at *;generalize fiI ws=fi at *;generalize feI ps=fe at *;obtain⟨pd,pn,pc⟩:=pr;simp only at EL PO LP;go_enter Tryz.func148,Tryz.ntmps148;go_wp2_with fail;refine(LP.o _ BW.o).mono ?_;rintro e w1 ⟨rfl,hb1⟩;have A1:=zaa hb1;have B1:=zaa (zab BW.o hb1 BW.o.size);have z1:(w.alloc (.cells #[.slice aW ws.length cW,.slice aP ps.length cP] 51)).heap.size<=w1.heap.size:=hb1.size;clear x0 x1;obtain⟨x0,x1⟩:=CA.o _ hb1;clear hb1 LP
 by_cases c:pc=0
 case neg =>
  rw[if_neg c]at EL;obtain rfl:=EL.o
  have q:(pc != 0)=true:=by rw[bne_iff_ne];exact c
  clear EL c x0 x1;go_wp2;go_ret2;exact zde B1.o
 rw[if_pos c]at EL;subst c;obtain⟨p1,p2,p3⟩:=PO.o rfl;have NM:=zaa p3;rw[EN.o]at EL;clear PO p2 p3 EN;have LE2:=zaa (fun w1 hb=>LE.o pd pn w1 hb);generalize zkq ps pd pn=ei at *;clear LE;go_wp2_with fail;refine(LE2.o _ B1.o).mono ?_;rintro e w2 ⟨rfl,hb2⟩;have A2:=zaa (zab A1.o hb2 z1);have B2:=zaa (zab B1.o hb2 B1.o.size);have z2:(w.alloc (.cells #[.slice aW ws.length cW,.slice aP ps.length cP] 51)).heap.size<=w2.heap.size:=A2.o.size;clear x0 x1;obtain⟨x0,x1⟩:=CA.o _ A2.o;clear hb2 LE2 A1 B1
 by_cases c:0<=ei
 ·rw[if_pos c]at EL;obtain rfl:=EL.o;have c1:ei>=0:=c;clear EL x0 x1 c;go_wp2;go_ret2;exact zde B2.o
 rw[if_neg c]at EL;have c1:¬ ei>=0:=c;clear c;go_wp2_with fail;refine(LI.o _ B2.o).mono ?_;rintro e w3 ⟨rfl,hb3⟩;have A3:=zaa (zab A2.o hb3 z2);have B3:=zaa (zab B2.o hb3 B2.o.size);have z3:(w.alloc (.cells #[.slice aW ws.length cW,.slice aP ps.length cP] 51)).heap.size<=w3.heap.size:=A3.o.size;clear x0 x1;obtain⟨x0,x1⟩:=CA.o _ A3.o;clear hb3 LI A2 B2 c1;go_wp2_with fail;refine(LK.o _ B3.o).mono ?_;rintro e w4 ⟨rfl,hb4⟩;have B4:=zaa (zab B3.o hb4 B3.o.size);clear hb4 LK A3 B3 x0 x1 CA
 by_cases c2:fi<0
 ·rw[if_pos c2]at EL;obtain rfl:=EL.o;clear EL;go_wp2;go_ret2;exact zde B4.o
 rw[if_neg c2]at EL
 by_cases c3:fe<0
 ·rw[if_pos c3]at EL;obtain rfl:=EL.o;clear EL;go_wp2;go_ret2;exact zde B4.o
 rw[if_neg c3]at EL;have fp:=FP.o (by omega);have LN:=zaa (fun w1=>zgx fe ⟨pd,pn,fi⟩ w1 (by omega) (show -1<=fi/\fi<=15 by omega) (.inr NM.o));have EU:=zaa (show mkU fi fe kind pd pn=[⟨48+12*fi,kind⟩,⟨48+12*fi+2,1⟩]++enL fe ⟨pd,pn,fi⟩from rfl);have LV:=zaa (show(Den.mk pd pn fi).v=.agg #[.I pd,.string pn,.I fi]from rfl);rw[LV.o]at LN;have l3:(enL fe ⟨pd,pn,fi⟩).length<=3:=Nat.le_refl _;generalize enL fe ⟨pd,pn,fi⟩=L at *
 have fr:0<=fi/\fi<16:=by omega
 go_wp2_with (go_at_call 93;refine(zbh _ _ _ fr (by omega)).mono ?_;rintro e w' ⟨rfl,hw'⟩;subst w')
 have J5:Hid (UpI w (w4.alloc (.cells #[.I (48+12*fi),.I kind,.I (48+12*fi+2),.I 1] 104)) (.slice (some ⟨w4.heap.size,0,none⟩) 2 2) [⟨48+12*fi,kind⟩,⟨48+12*fi+2,1⟩]):=⟨World.ownsRow_lit w4 _ 2 B4.o.size (by simp[maxLen]) rfl,B4.o.alloc B4.o.size _⟩
 refine(LN.o _).mono ?_;rintro e w6 ⟨v6,rfl,hr6,hb6⟩;have J6:=zaa (J5.o.below hb6);have R6:=zaa hr6.rd;obtain⟨-,aL,cL,hvL,-⟩:=hr6.rd;subst hvL;have z6:w.heap.size<=w6.heap.size:=J6.o.z;clear hr6 hb6 J5 LN;go_wp2_with (at_builtin;refine zae _ rfl (.tmp 50) (.tmp 56) 58 rfl w.heap.size 104 (.agg #[.I 0,.I 0]) 2 16 Tryz.underlying58 zgr rfl (by decide) _ _ _ rfl J6.o.l _ _ _ rfl R6.o (zdi _) (by simp[maxLen];omega) (by simp;omega) z6 ?_);intro vN wN hownN hgrN;have G:=zaa (J6.o.grow L hownN hgrN);rw[<- EU.o]at G;obtain⟨-,aN,cN,hvN,-⟩:=(zad hownN).rd;subst hvN;obtain rfl:=EL.o;clear hownN hgrN J6 R6 EL;go_wp2;go_ret2;exact zqw 0 G.o
end Go.Proofs.YtogcbbkhnpmgeaaGreatDoor
