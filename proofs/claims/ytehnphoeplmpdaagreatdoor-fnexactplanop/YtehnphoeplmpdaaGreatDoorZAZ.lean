/- Several texts laid together: PlD, PcD. -/
import Derived.Test.YtehnphoeplmpdaaGreatDoorZAS
import Derived.Test.YtehnphoeplmpdaaGreatDoorZAG
import Derived.Test.YtehnphoeplmpdaaGreatDoorZAH
import Derived.Test.YtehnphoeplmpdaaGreatDoorZAO
set_option maxRecDepth 100000
set_option maxHeartbeats 4000000
namespace Go.Proofs.YtehnphoeplmpdaaGreatDoor
open Go.RowKit
theorem zfv (v:Value) (ws:List Ino) (ps:List Den) (w:World) (h:RdIm w v ws ps) (hl:ps.length≤4096) :
  Calls Tryz.prog 227 #[v] w fun e w'=>e=.returned (.int .i64 (feI ps))∧Below w.heap.size w w':=by
 obtain ⟨vW,vP,rfl,h1,h2⟩:=h;obtain ⟨aW,cW,rfl,_,_⟩:=h1.shape;obtain ⟨aP,cP,rfl,_,hcP⟩:=h2.shape;have HP:=zaa hcP;clear h1 h2 hcP
 have CA:Hid (∀ w',Below (w.alloc (.cells #[.slice aW ws.length cW,.slice aP ps.length cP] 79)).heap.size (w.alloc (.cells #[.slice aW ws.length cW,.slice aP ps.length cP] 79)) w'→w'.cell? ⟨w.heap.size,0,none⟩=some (.slice aW ws.length cW)∧w'.cell? ⟨w.heap.size,1,none⟩=some (.slice aP ps.length cP)):=fun w' hb=>by
  have:w'.heap[w.heap.size]?=some (.cells #[.slice aW ws.length cW,.slice aP ps.length cP] 79 (0,0)):=(hb.block _ (by simp)).trans (zah rfl);exact ⟨(zac this).1,(zac this).2.1⟩
 have BW:Hid (Below w.heap.size w (w.alloc (.cells #[.slice aW ws.length cW,.slice aP ps.length cP] 79))):=(Below.refl _ _).alloc (Nat.le_refl _) _
 obtain ⟨W,hW⟩:∃ W,W=w.alloc (.cells #[.slice aW ws.length cW,.slice aP ps.length cP] 79):=⟨_,rfl⟩
 rw[← hW] at CA BW;obtain ⟨y0,y1⟩:=CA.o _ (Below.refl _ _);have EF:=zaa (show feI ps=zas (fun i=>decide (zaj ps i < 0)) ps.length from rfl);go_enter Tryz.func227,Tryz.ntmps227;go_wp2;rw[← hW];clear hW
 go_loopw [3] (fun i wr=>∃ k:Nat,k≤ps.length∧i=.int .i64 k∧wr=W∧Hid (∀ j,j < k→decide (zaj ps j < 0)=false)) (fun i _=>ps.length - (intOf i).toNat)
 case atStart=>exact ⟨0,by omega,rfl,rfl,fun j a=>absurd a (by omega)⟩
 case round =>
  obtain ⟨k,hk,rfl,rfl,H⟩:=hrel
  have k0:(0:Int)≤(k:Int):=by omega
  by_cases hlt:k < ps.length
  ·obtain ⟨b,o,rfl,hbl,hcell⟩:=HP.o (by omega);have d0:=(BW.o.cell (p:=⟨b,o+k*3+2,none⟩) hbl).trans (hcell k hlt).2.2;rw[← zbc hlt] at d0
   have k1:(k:Int) < (ps.length:Int):=by omega
   clear hcell
   by_cases q:zaj ps k < 0
   ·have E:=zaa (EF.o.trans (zfl (p:=fun i=>decide (zaj ps i < 0)) hlt H.o (decide_eq_true q)));clear H;generalize zaj ps k=z at d0 q;go_wp2;go_ret;exact ⟨zcd E.o.symm,BW.o⟩
   ·have H':Hid (∀ j,j < k+1→decide (zaj ps j < 0)=false):=fun j a=>by
     by_cases e:j=k
     ·subst e;exact decide_eq_false q
     ·exact H.o j (by omega)
    clear H;generalize zaj ps k=z at d0 q;go_wp2
    go_roundw
    case rel=>exact ⟨k+1,by omega,by go_num,trivial,H'⟩
    case measure=>simp[intOf];omega
  ·have E:=zaa (EF.o.trans (zdh (p:=fun i=>decide (zaj ps i < 0)) (n:=ps.length) (fun j hj=>H.o j (by omega))))
   have k2:¬ (k:Int) < (ps.length:Int):=by omega
   clear H;go_wp2;go_ret;exact ⟨zcd E.o.symm,BW.o⟩
theorem yahb (x:Den):zhe freeD.dir freeD.name freeD.child x.dir x.name x.child=x.freeB:=by
 rw[← zjy x];unfold zhe freeD;rw[Bool.eq_iff_iff];simp only[Bool.and_eq_true,beq_iff_eq];exact ⟨fun h=>⟨h.1.symm,h.2.1.symm,h.2.2.symm⟩,fun h=>⟨h.1.symm,h.2.1.symm,h.2.2.symm⟩⟩
theorem zsz (v:Value) (ps:List Den) (w:World) (h:RdD w v ps) (hn:ps.length≤1048576) (hfc:∀ j (h:j < ps.length),(!ps[j].freeB)=decide (0≤ps[j].child)) :
  Calls Tryz.prog 278 #[v,.agg #[.int .i64 0,.string ⟨#[]⟩,.int .i64 (-1)]] w fun e w'=>e=.returned (.int .i64 (feI ps))∧Below w.heap.size w w':=by
 have EF:=zaa (show feI ps=zas (fun i=>decide (zaj ps i < 0)) ps.length from rfl)
 have HF:Hid (∀ j (h:j < ps.length),zhe 0 ⟨#[]⟩ (-1) ps[j].dir ps[j].name ps[j].child=decide (zaj ps j < 0)):=fun j h=>by
  rw[show zhe 0 ⟨#[]⟩ (-1) ps[j].dir ps[j].name ps[j].child=ps[j].freeB from yahb ps[j],zbc h];have:=hfc j h;rw[Bool.eq_iff_iff,decide_eq_true_eq]
  cases e:ps[j].freeB
  ·rw[e] at this
   have:0≤ps[j].child:=by simpa using this.symm
   simp;exact this
  ·rw[e] at this
   have:¬ 0≤ps[j].child:=by simpa using this.symm
   simp;omega
 obtain ⟨aZ,cZ,rfl,_,hcZ⟩:=h.shape;have HZ:=zaa hcZ;have BW:=zaa ((Below.refl w.heap.size w).alloc (Nat.le_refl _) (.cells #[.int .i64 0,.string ⟨#[]⟩,.int .i64 (-1)] 185))
 have CB:Hid (∀ w',Below (w.alloc (.cells #[.int .i64 0,.string ⟨#[]⟩,.int .i64 (-1)] 185)).heap.size (w.alloc (.cells #[.int .i64 0,.string ⟨#[]⟩,.int .i64 (-1)] 185)) w'→w'.cell? ⟨w.heap.size,0,none⟩=some (.int .i64 0)∧w'.cell? ⟨w.heap.size,1,none⟩=some (.string ⟨#[]⟩)∧w'.cell? ⟨w.heap.size,2,none⟩=some (.int .i64 (-1))):=fun w' hb=>zaz ((hb.block _ (by simp)).trans (zah rfl))
 have hz:w.heap.size≤(w.alloc (.cells #[.int .i64 0,.string ⟨#[]⟩,.int .i64 (-1)] 185)).heap.size:=BW.o.size
 obtain ⟨W,hW⟩:∃ W,W=w.alloc (.cells #[.int .i64 0,.string ⟨#[]⟩,.int .i64 (-1)] 185):=⟨_,rfl⟩
 rw[← hW] at BW CB hz;clear h hcZ hfc;go_enter Tryz.func278,Tryz.ntmps278;go_wp2;rw[← hW];clear hW
 go_loopw [5,8] (fun _ i wr=>∃ k:Nat,k≤ps.length∧i=.int .i64 k∧Hid (Below W.heap.size W wr∧∀ j,j < k→decide (zaj ps j < 0)=false)) (fun _ i _=>ps.length - (intOf i).toNat)
 case atStart=>exact ⟨0,by omega,rfl,Below.refl _ _,fun j a=>absurd a (by omega)⟩
 case round =>
  obtain ⟨k,hk,rfl,H⟩:=hrel
  by_cases hlt:k < ps.length
  ·obtain ⟨b,o,rfl,hbl,hcell⟩:=HZ.o (by omega);obtain ⟨x0,x1,x2⟩:=CB.o wr H.o.1;have B0:=zaa (zab BW.o H.o.1 hz);obtain ⟨a0,a1,a2⟩:=hcell k hlt;have d0:=(B0.o.cell (p:=⟨b,o+k*3,none⟩) hbl).trans a0;have d1:=(B0.o.cell (p:=⟨b,o+k*3+1,none⟩) hbl).trans a1;have d2:=(B0.o.cell (p:=⟨b,o+k*3+2,none⟩) hbl).trans a2
   have k0:(0:Int)≤(k:Int):=by omega
   have k1:(k:Int) < (ps.length:Int):=by omega
   have Q:=zaa (HF.o k hlt);clear hcell a0 a1 a2
   cases q:zhe 0 ⟨#[]⟩ (-1) ps[k].dir ps[k].name ps[k].child with
   | true =>
    have E:=zaa (EF.o.trans (zfl (p:=fun i=>decide (zaj ps i < 0)) hlt H.o.2 (by show decide (zaj ps k < 0)=true;rw[← Q.o,q])));clear H Q;generalize ps[k]=y at *;go_wp2
    go_quiet (fail)
    go_wp2;go_ret;exact ⟨zcd E.o.symm,below_drewN B0.o _⟩
   | false =>
    have H':Hid (∀ j,j < k+1→decide (zaj ps j < 0)=false):=fun j a=>by
     by_cases e:j=k
     ·subst e;rw[← Q.o];exact q
     ·exact H.o.2 j (by omega)
    have H1:=zaa H.o.1;clear H Q;generalize ps[k]=y at d0 d1 d2 q;go_wp2
    go_quiet (fail)
    go_wp2
    go_roundw
    case rel=>exact ⟨k+1,by omega,by go_num,below_drewN H1.o _,H'.o⟩
    case measure=>simp[intOf];omega
  ·have E:=zaa (EF.o.trans (zdh (p:=fun i=>decide (zaj ps i < 0)) (n:=ps.length) (fun j h=>H.o.2 j (by omega))));have B0:=zaa (zab BW.o H.o.1 hz);clear H;go_wp2;go_ret;exact ⟨zcd E.o.symm,B0.o⟩
theorem zkr (v:Value) (ws:List Ino) (ps:List Den) (w:World) (h:RdIm w v ws ps) (hi:zay ws ps=true) (hF:FD w) :
  Calls Tryz.prog 253 #[v] w fun e w'=>e=.returned (.tuple #[.int .i64 (zgb (feI ps)),.int .i64 (zfq (feI ps))])∧Below w.heap.size w w':=by
 obtain ⟨vW,vP,rfl,h1,h2⟩:=h;have LX:=zaa (fun w1 (hb:Below w.heap.size w w1)=>zsz vP ps w1 (Rd.below h2 hb) (by have:=(zao hi).2.1;omega) (fun j hj=>zrd hi j hj));obtain ⟨aW,cW,rfl,_,_⟩:=h1.shape;obtain ⟨aP,cP,rfl,_,_⟩:=h2.shape;clear h1 h2 hi
 have CA:Hid (∀ w',Below (w.alloc (.cells #[.slice aW ws.length cW,.slice aP ps.length cP] 79)).heap.size (w.alloc (.cells #[.slice aW ws.length cW,.slice aP ps.length cP] 79)) w'→w'.cell? ⟨w.heap.size,0,none⟩=some (.slice aW ws.length cW)∧w'.cell? ⟨w.heap.size,1,none⟩=some (.slice aP ps.length cP)):=fun w' hb=>by
  have:w'.heap[w.heap.size]?=some (.cells #[.slice aW ws.length cW,.slice aP ps.length cP] 79 (0,0)):=(hb.block _ (by simp)).trans (zah rfl);exact ⟨(zac this).1,(zac this).2.1⟩
 have BW:Hid (Below w.heap.size w (w.alloc (.cells #[.slice aW ws.length cW,.slice aP ps.length cP] 79))):=(Below.refl _ _).alloc (Nat.le_refl _) _;obtain ⟨x0,x1⟩:=CA.o _ (Below.refl _ _);obtain ⟨f0,f1,f2⟩:=FD.cells (hF.below BW.o);generalize feI ps=r at *;clear hF CA;go_enter Tryz.func253,Tryz.ntmps253;go_wp2_with fail;refine (LX.o _ BW.o).mono ?_;rintro e w1 ⟨rfl,hb1⟩;have B1:=zaa (zab BW.o hb1 BW.o.size);clear hb1 x0 x1 f0 f1 f2
 by_cases q:r < 0
 ·go_wp2;go_ret2;exact ⟨zbt (show (0:Int)=zgb r from (if_pos q).symm) (show (7:Int)=zfq r from (if_pos q).symm),B1.o⟩
 ·go_wp2;go_ret2;exact ⟨zbt (by unfold zgb;rw[if_neg (by omega)]) (by unfold zfq;rw[if_neg (by omega)]),B1.o⟩
theorem zcr (i f x:Int) (w:World) (hi:0≤i∧i < 16) (hf:0≤f∧f < 11) :
  Calls Tryz.prog 255 #[.int .i64 i,.int .i64 f,.int .i64 x] w fun e w'=>e=.returned (.agg #[.int .i64 (48+12*i+f),.int .i64 x])∧Below w.heap.size w w':=by
 obtain ⟨k1,k2⟩:=yaai hi hf;have K1:=zaa k1;have K2:=zaa k2;clear k1 k2;generalize 48+12*i+f=at_ at *;have BW:=zaa ((Below.refl w.heap.size w).alloc (Nat.le_refl _) (.cells #[.int .i64 0,.int .i64 0] 180));go_enter Tryz.func255,Tryz.ntmps255;go_wp2_with fail;refine (zen _ _ _).mono ?_;rw[K1.o,K2.o];rintro e w' ⟨rfl,hw'⟩;subst w';go_wp2;refine bodyPost_ret (v:=.agg #[.int .i64 at_,.int .i64 x]) (by simp[results,Tryz.results255,go_sem]) rfl ⟨rfl,?_⟩
 repeat (first | exact BW.o | exact Below.refl _ _ | refine Below.setCell ?_ (by exact Nat.le_refl _) _ | refine Below.alloc ?_ (by simp) _)
def unL (i:Int) (x:Ino):List Se:=if 1 < x.links then [⟨48+12*i+2,x.links - 1⟩] else wrL i zav 8
theorem yapw {i:Int} (hi:0≤i∧i < 16):iuC i zav=0∧iuL i zav=wrL i zav 8:=by
 have z:zes zav=true:=by decide
 exact ⟨by unfold iuC;rw[if_pos (by omega),if_pos z],by unfold iuL;rw[if_pos (by omega),if_pos z]⟩
theorem zlc (i:Int) (x:Ino) (w:World) (hi:0≤i∧i < 16) (hl:x.links≤24) (hT:TS w) (hE:ED w) :
  Calls Tryz.prog 258 #[.int .i64 i,x.v] w fun e w'=>∃ v',e=.returned v'∧Row w' 180 2 w.heap.size w'.heap.size v' (unL i x).length (ses (unL i x))∧Below w.heap.size w w':=by
 have hv:x.v=.agg x.cs.toArray:=rfl;have LU:=zaa (fun y w1=>zcr i 2 y w1 hi (by omega));have LI:=zaa (fun w1 (hb:Below w.heap.size w w1)=>zir i zav w1 (hT.below hb) (hE.below hb) (by intro z hz;simp[zav,Ino.map] at hz;omega));obtain ⟨q1,q2⟩:=yapw hi;have Q1:=zaa q1;have Q2:=zaa q2;have EU:=zaa (show unL i x=if 1 < x.links then [⟨48+12*i+2,x.links - 1⟩] else wrL i zav 8 from rfl)
 obtain ⟨W,hW⟩:∃ W,W=w.alloc (.cells x.cs.toArray 133):=⟨_,rfl⟩
 have CA:Hid (∀ w',Below W.heap.size W w'→∀ j,w'.cell? ⟨w.heap.size,j,none⟩=x.cs[j]?):=fun w' hb j=>by
  have:w'.heap[w.heap.size]?=some (.cells x.cs.toArray 133 (0,0)):=(hb.block _ (by rw[hW];simp)).trans (by rw[hW];exact zah rfl);exact (zae (xs:=x.cs) this j).1
 have BW:Hid (Below w.heap.size w W):=by rw[hW];exact (Below.refl _ _).alloc (Nat.le_refl _) _
 have c2:(w.alloc (.cells x.cs.toArray 133)).cell? ⟨w.heap.size,2,none⟩=some (.int .i64 x.links):=by rw[← hW];exact CA.o W (Below.refl _ _) 2
 rw[hv];clear hT hE q1 q2 CA;generalize unL i x=L at *
 by_cases q:1 < x.links
 ·rw[if_pos q] at EU;obtain rfl:=EU.o
  have wp1:IntKind.i64.wrap (x.links - 1)=x.links - 1:=by rw[IntKind.wrap_i64];omega
  have q1:x.links > 1:=q;clear EU LI Q1 Q2;generalize x.links=l at *;go_enter Tryz.func258,Tryz.ntmps258;go_wp2_with fail;rw[← hW];clear hW;refine (LU.o _ _).mono ?_;rintro e w1 ⟨rfl,hb1⟩;have B1:=zaa (zab BW.o hb1 BW.o.size);clear hb1 c2;go_wp2;go_ret;exact ⟨_,rfl,(zad (World.ownsRow_lit w1 _ 1 (Nat.le_refl _) (by simp[maxLen]) rfl)).wide B1.o.size (Nat.le_refl _),B1.o.alloc B1.o.size _⟩
 ·rw[if_neg q] at EU;obtain rfl:=EU.o;have q1:¬ x.links > 1:=q;clear EU LU;generalize x.links=l at *;go_enter Tryz.func258,Tryz.ntmps258;go_wp2_with fail;rw[← hW];clear hW;refine (LI.o _ BW.o).mono ?_;rw[Q1.o,Q2.o];rintro e w1 ⟨v1,rfl,hr1,hb1⟩;have B1:=zaa (zab BW.o hb1 BW.o.size);have R1:=zaa (hr1.wide BW.o.size (Nat.le_refl _));obtain ⟨-,aL,cL,hvL,-⟩:=hr1.rd;subst hvL;clear hb1 hr1 c2;go_wp2;go_ret;exact ⟨_,rfl,R1.o,B1.o⟩
def pfC (ws:List Ino) (ps:List Den) (ss:List ByteArray):Int:=if ss.any (fun s=>decide (65536 < s.size))=true then 2 else if zay ws ps=true then 0 else 1
theorem zgj (v vL:Value) (ws:List Ino) (ps:List Den) (ss:List ByteArray) (w:World) (h:RdIm w v ws ps) (hL:RdT w vL ss) (hn:ss.length≤4096) (hw:ws.length≤1048576) (hp:ps.length≤1048576) (hT:TS w) (hE:ED w) (hF:FD w) (hr:∀ k (h:k < ws.length),ws[k].R) (hs:∀ k (h:k < ps.length),ps[k].name.size≤maxLen) :
  Calls Tryz.prog 250 #[v,vL] w fun e w'=>e=.returned (.int .i64 (pfC ws ps ss))∧Below w.heap.size w w':=by
 have LI:=zaa (fun w1 (hb:Below w.heap.size w w1)=>zbp v ws ps w1 (h.below hb) hw hp (hT.below hb) (hE.below hb) (hF.below hb) hr hs);have EC:=zaa (show pfC ws ps ss=if ss.any (fun s=>decide (65536 < s.size))=true then 2 else if zay ws ps=true then 0 else 1 from rfl);obtain ⟨vW,vP,rfl,h1,h2⟩:=h;obtain ⟨aW,cW,rfl,_,_⟩:=h1.shape;obtain ⟨aP,cP,rfl,_,_⟩:=h2.shape;obtain ⟨aL,cL,rfl,_,hcL⟩:=hL.shape;have HL:=zaa hcL;clear h1 h2 hr hs hT hE hF hL hcL
 obtain ⟨W,hW⟩:∃ W,W=w.alloc (.cells #[.slice aW ws.length cW,.slice aP ps.length cP] 79):=⟨_,rfl⟩
 have BW:Hid (Below w.heap.size w W):=by rw[hW];exact (Below.refl _ _).alloc (Nat.le_refl _) _
 obtain ⟨x0,x1⟩:W.cell? ⟨w.heap.size,0,none⟩=some (.slice aW ws.length cW)∧W.cell? ⟨w.heap.size,1,none⟩=some (.slice aP ps.length cP):=by
  have:W.heap[w.heap.size]?=some (.cells #[.slice aW ws.length cW,.slice aP ps.length cP] 79 (0,0)):=by rw[hW];exact zah rfl
  exact ⟨(zac this).1,(zac this).2.1⟩
 generalize pfC ws ps ss=r at *;go_enter Tryz.func250,Tryz.ntmps250;go_wp2;rw[← hW];clear hW
 go_loopw [6,9] (fun _ i wr=>∃ k:Nat,k≤ss.length∧i=.int .i64 k∧wr=W∧Hid (∀ j (h:j < ss.length),j < k→¬ 65536 < ss[j].size)) (fun _ i _=>ss.length - (intOf i).toNat)
 case atStart=>exact ⟨0,by omega,rfl,rfl,fun j _ a=>absurd a (by omega)⟩
 case round =>
  obtain ⟨k,hk,rfl,rfl,H⟩:=hrel
  have k0:(0:Int)≤(k:Int):=by omega
  by_cases hlt:k < ss.length
  ·obtain ⟨b,o,rfl,hbl,hcell⟩:=HL.o (by omega);have d0:=(BW.o.cell (p:=⟨b,o+k,none⟩) hbl).trans (hcell k hlt)
   have k1:(k:Int) < (ss.length:Int):=by omega
   clear hcell
   by_cases q:65536 < ss[k].size
   ·have E:Hid (r=2):=EC.o.trans (if_pos (List.any_eq_true.2 ⟨ss[k],List.getElem_mem hlt,decide_eq_true q⟩));obtain rfl:=E.o
    have q1:(ss[k].size:Int) > 65536:=by omega
    clear H E EC q;generalize ss[k]=s at *;go_wp2;go_ret;exact ⟨rfl,BW.o⟩
   ·have H':Hid (∀ j (h:j < ss.length),j < k+1→¬ 65536 < ss[j].size):=fun j h a=>by
     by_cases e:j=k
     ·subst e;exact q
     ·exact H.o j h (by omega)
    have q1:¬ (ss[k].size:Int) > 65536:=by omega
    clear H q;generalize ss[k]=s at *;go_wp2
    go_roundw
    case rel=>exact ⟨k+1,by omega,by go_num,trivial,H'⟩
    case measure=>simp[intOf];omega
  ·have E:Hid (r=if zay ws ps=true then 0 else 1):=EC.o.trans (if_neg (by
    rw[List.any_eq_true];rintro ⟨s,hs,q⟩;obtain ⟨j,hj,rfl⟩:=List.getElem_of_mem hs
    exact H.o j hj (by omega) (by simpa using q)))
   clear H EC
   cases c:zay ws ps with
   | true =>
    rw[c] at E LI;obtain rfl:=E.o;clear E c;go_wp2_with fail;refine (LI.o _ BW.o).mono ?_;rintro e w1 ⟨rfl,hb1⟩;have B1:=zaa (zab BW.o hb1 BW.o.size);clear hb1 x0 x1;go_wp2;go_ret;exact ⟨rfl,B1.o⟩
   | false =>
    rw[c] at E LI;obtain rfl:=E.o;clear E c;go_wp2_with fail;refine (LI.o _ BW.o).mono ?_;rintro e w1 ⟨rfl,hb1⟩;have B1:=zaa (zab BW.o hb1 BW.o.size);clear hb1 x0 x1;go_wp2;go_ret;exact ⟨rfl,B1.o⟩
theorem zdl (v:Value) (ws:List Ino) (ps:List Den) (s:ByteArray) (w:World) (h:RdIm w v ws ps) (hi:zay ws ps=true) (hs:s.size≤65536) :
  Calls Tryz.prog 225 #[v,.string s] w fun e w'=>e=.returned (.tuple #[.int .i64 (paI ws ps s).1,.string (paI ws ps s).2.1,.int .i64 (paI ws ps s).2.2])∧Below w.heap.size w w':=by
 have HR:=zaa h;have LS:=zaa (fun w1=>zmc s w1 hs);have LW:=zaa (fun vL ns w1 h hL hn=>zow v vL ws ps ns w1 h hL hi hn);have WR:=zaa (fun ns=>zkk hi ns 0 (by omega));have SL:=zaa (@zse s);have EL:=zaa (show paI ws ps s=if spB s=true then paL ws ps (spL s) else (0,⟨#[]⟩,12) from rfl);have L16:=zaa (zao hi).1;obtain ⟨vW,vP,rfl,h1,h2⟩:=h;obtain ⟨aW,cW,rfl,_,hcW⟩:=h1.shape;obtain ⟨aP,cP,rfl,_,_⟩:=h2.shape;obtain ⟨bW,oW,rfl,hblW,hcellW⟩:=hcW (by have:=L16.o;omega)
 have HW:Hid (∀ w',Below w.heap.size w w'→∀ n:Nat,n < 16→w'.cell? ⟨bW,oW+n*11,none⟩=some (.int .i64 (zai ws n))):=fun w' hb n hn=>by
  have hnl:n < ws.length:=by have:=L16.o;omega
  rw[zba hnl];exact (hb.cell (p:=⟨bW,oW+n*11,none⟩) hblW).trans (hcellW n hnl).1
 clear h1 h2 hi hcW hcellW
 have CA:Hid (∀ w',Below (w.alloc (.cells #[.slice (some ⟨bW,oW,none⟩) ws.length cW,.slice aP ps.length cP] 79)).heap.size (w.alloc (.cells #[.slice (some ⟨bW,oW,none⟩) ws.length cW,.slice aP ps.length cP] 79)) w'→w'.cell? ⟨w.heap.size,0,none⟩=some (.slice (some ⟨bW,oW,none⟩) ws.length cW)∧w'.cell? ⟨w.heap.size,1,none⟩=some (.slice aP ps.length cP)):=fun w' hb=>by
  have:w'.heap[w.heap.size]?=some (.cells #[.slice (some ⟨bW,oW,none⟩) ws.length cW,.slice aP ps.length cP] 79 (0,0)):=(hb.block _ (by simp)).trans (zah rfl);exact ⟨(zac this).1,(zac this).2.1⟩
 have BW:Hid (Below w.heap.size w (w.alloc (.cells #[.slice (some ⟨bW,oW,none⟩) ws.length cW,.slice aP ps.length cP] 79))):=(Below.refl _ _).alloc (Nat.le_refl _) _;generalize hres:paI ws ps s=res at *;clear hres
 cases c:spB s with
 | false =>
  rw[c] at LS EL;obtain rfl:=EL.o;clear EL LW;go_enter Tryz.func225,Tryz.ntmps225;go_wp2_with fail;refine (LS.o _).mono ?_;rintro e w1 ⟨v1,rfl,hr1,hb1⟩;have B1:=zaa (zab BW.o hb1 BW.o.size);clear hr1 hb1;go_wp2;go_ret3;exact ⟨rfl,B1.o⟩
 | true =>
 rw[c] at LS EL;have EL2:Hid (res=paL ws ps (spL s)):=EL;clear EL c;generalize spL s=ns at *
 by_cases c1:ns=[]
 ·subst c1;obtain rfl:=EL2.o;clear EL2 LW;go_enter Tryz.func225,Tryz.ntmps225;go_wp2_with fail;refine (LS.o _).mono ?_;rintro e w1 ⟨v1,rfl,hr1,hb1⟩;have B1:=zaa (zab BW.o hb1 BW.o.size);obtain ⟨aL,cL,rfl,_,_⟩:=hr1.shape;clear hr1 hb1;simp only[List.length_nil];go_wp2;go_ret3;exact ⟨rfl,B1.o⟩
 obtain ⟨xs,x,rfl⟩:=zxw c1;rw[ztg] at EL2;clear c1;have EP:=zaa (show paN ws ps xs x=if (wk ws ps 0 xs).2=0 then (if zai ws (wk ws ps 0 xs).1=2 then ((wk ws ps 0 xs).1,x,0) else (0,⟨#[]⟩,10)) else (0,⟨#[]⟩,(wk ws ps 0 xs).2) from rfl);rw[EP.o] at EL2;clear EP;have sl:=SL.o;rw[List.length_append,List.length_cons,List.length_nil,Nat.zero_add] at sl;have wr1:=WR.o xs;have LW2:=zaa (fun vL w1 h hL=>LW.o vL xs w1 h hL (by omega))
 obtain ⟨z,hz⟩:∃ z:Nat,(wk ws ps 0 xs).1=(z:Int):=⟨((wk ws ps 0 xs).1).toNat,by omega⟩
 have z16:z < 16:=by omega
 rw[hz] at EL2 LW2;clear LW WR SL wr1 hz;generalize (wk ws ps 0 xs).2=wc at *;go_enter Tryz.func225,Tryz.ntmps225;go_wp2_with fail;refine (LS.o _).mono ?_;rintro e w1 ⟨v1,rfl,hr1,hb1⟩;have B1:=zaa (zab BW.o hb1 BW.o.size);have BA:=zaa hb1;have hbn:(w.alloc (.cells #[.slice (some ⟨bW,oW,none⟩) ws.length cW,.slice aP ps.length cP] 79)).heap.size≤w1.heap.size:=hb1.size;obtain ⟨x0,x1⟩:=CA.o _ hb1;have R1:=zaa hr1;obtain ⟨aL,cL,rfl,hcap,hcL⟩:=hr1.shape;obtain ⟨b,o,rfl,hbl,hcell⟩:=hcL (by rw[List.length_append];simp)
 have hx:w1.cell? ⟨b,o+xs.length,none⟩=some (.string x):=by
  have:=hcell xs.length (by rw[List.length_append];simp);simpa using this
 have RT:Hid (RdT w1 (.slice (some ⟨b,o,none⟩) xs.length cL) xs):=by
  have:=znk R1.o (m:=xs.length) (by rw[List.length_append];omega);rw[List.take_left] at this;exact this
 rw[List.length_append,List.length_cons,List.length_nil,Nat.zero_add] at hcap;simp only[List.length_append,List.length_cons,List.length_nil,Nat.zero_add];clear hr1 hb1 hcL hcell R1 LS;generalize xs.length=n at *
 have n0:(((n+1:Nat):Int) == 0)=false:=by rw[beq_eq_false_iff_ne];omega
 have nw:IntKind.i64.wrap (((n+1:Nat):Int) - 1)=(n:Int):=by
  rw[show (((n+1:Nat):Int) - 1)=(n:Int) by omega,IntKind.wrap_i64];omega
 have ncap:(n:Int)≤(cL:Int):=by omega
 have nw2:IntKind.i64.wrap ((n:Int)+1 - 1)=(n:Int):=by rw[IntKind.wrap_i64];omega
 have nw3:IntKind.i64.wrap (n:Int)=(n:Int):=by rw[IntKind.wrap_i64];omega
 have nn0:(0:Int)≤(n:Int):=by omega
 have nn1:(n:Int) < ((n+1:Nat):Int):=by omega
 have nn2:(n:Int) < (n:Int)+1:=by omega
 have z0:(0:Int)≤(z:Int):=by omega
 have z1:(z:Int) < (ws.length:Int):=by have:=L16.o;omega
 have SK:Hid (∀ w',Below w1.heap.size w1 w'→w'.cell? ⟨w.heap.size,0,none⟩=some (.slice (some ⟨bW,oW,none⟩) ws.length cW)∧w'.cell? ⟨w.heap.size,1,none⟩=some (.slice aP ps.length cP)):=fun w' hb=>CA.o w' (zab BA.o hb hbn)
 have HX:Hid (∀ w',Below w1.heap.size w1 w'→w'.cell? ⟨b,o+n,none⟩=some (.string x)):=fun w' hb=>(hb.cell (p:=⟨b,o+n,none⟩) hbl).trans hx
 have LW3:=zaa (fun w2 (hb:Below w1.heap.size w1 w2)=>LW2.o _ w2 (HR.o.below (zab B1.o hb B1.o.size)) (Rd.below RT.o hb));clear LW2 RT hx
 by_cases q:wc=0
 case neg =>
  rw[if_neg q] at EL2;obtain rfl:=EL2.o
  have q1:(wc != 0)=true:=by rw[bne_iff_ne];exact q
  clear EL2 q;go_wp2_with fail
  go_region_held3 (fun w'=>w'.cell? ⟨w.heap.size,0,none⟩=some (.slice (some ⟨bW,oW,none⟩) ws.length cW)∧w'.cell? ⟨w.heap.size,1,none⟩=some (.slice aP ps.length cP))
   (exact SK.o _ (by repeat (first | exact BF.o | exact Below.refl _ _ | refine Below.drew ?_)))
   (first
    | (go_at_call 146;refine (LW3.o _ (by repeat (first | exact Below.refl _ _ | refine Below.drew ?_))).mono ?_;rintro e w2 ⟨rfl,hb2⟩;have BF:Hid (Below w1.heap.size w1 w2):=(by first | exact hb2 | exact zab (by repeat (first | exact Below.refl _ _ | refine Below.drew ?_)) hb2 (Nat.le_refl _));clear hb2))
  all_goals
   have B3:=zaa (zab B1.o BF.o B1.o.size);clear SK x0 x1;go_wp2;go_ret3;exact ⟨rfl,(by repeat (first | exact B3.o | refine Below.drew ?_))⟩
 rw[if_pos q] at EL2;subst q;have HZ:=zaa (fun w' hb=>HW.o w' hb z z16)
 by_cases r:zai ws z=2
 case neg =>
  rw[if_neg r] at EL2;obtain rfl:=EL2.o
  have r1:(zai ws z != 2)=true:=by rw[bne_iff_ne];exact r
  clear EL2 r;generalize zai ws z=kz at *;go_wp2_with fail
  go_region_held3 (fun w'=>w'.cell? ⟨w.heap.size,0,none⟩=some (.slice (some ⟨bW,oW,none⟩) ws.length cW)∧w'.cell? ⟨w.heap.size,1,none⟩=some (.slice aP ps.length cP))
   (exact SK.o _ (by repeat (first | exact BF.o | exact Below.refl _ _ | refine Below.drew ?_)))
   (first
    | (go_at_call 146;refine (LW3.o _ (by repeat (first | exact Below.refl _ _ | refine Below.drew ?_))).mono ?_;rintro e w2 ⟨rfl,hb2⟩;have BF:Hid (Below w1.heap.size w1 w2):=(by first | exact hb2 | exact zab (by repeat (first | exact Below.refl _ _ | refine Below.drew ?_)) hb2 (Nat.le_refl _));clear hb2))
  all_goals
   have B3:=zaa (zab B1.o BF.o B1.o.size);clear x0 x1;obtain ⟨x0,x1⟩:=SK.o _ BF.o;have y0:=HZ.o _ B3.o;clear SK;go_wp2;go_ret3;exact ⟨rfl,(by repeat (first | exact B3.o | refine Below.drew ?_))⟩
 rw[if_pos r] at EL2;obtain rfl:=EL2.o
 have r1:(zai ws z != 2)=false:=by rw[r];rfl
 clear EL2 r;generalize zai ws z=kz at *;go_wp2_with fail
 go_region_held3 (fun w'=>w'.cell? ⟨w.heap.size,0,none⟩=some (.slice (some ⟨bW,oW,none⟩) ws.length cW)∧w'.cell? ⟨w.heap.size,1,none⟩=some (.slice aP ps.length cP))
  (exact SK.o _ (by repeat (first | exact BF.o | exact Below.refl _ _ | refine Below.drew ?_)))
  (first
   | (go_at_call 146;refine (LW3.o _ (by repeat (first | exact Below.refl _ _ | refine Below.drew ?_))).mono ?_;rintro e w2 ⟨rfl,hb2⟩;have BF:Hid (Below w1.heap.size w1 w2):=(by first | exact hb2 | exact zab (by repeat (first | exact Below.refl _ _ | refine Below.drew ?_)) hb2 (Nat.le_refl _));clear hb2))
 all_goals
  have B3:=zaa (zab B1.o BF.o B1.o.size);clear x0 x1;obtain ⟨x0,x1⟩:=SK.o _ BF.o;have y0:=HZ.o _ B3.o;have hx:=HX.o _ BF.o;clear SK;go_wp2_with fail
  go_region_held3 (fun w'=>w'.cell? ⟨b,o+n,none⟩=some (.string x))
   (exact HX.o _ (by repeat (first | exact BF.o | refine Below.drew ?_)))
   (fail)
  all_goals
   go_wp2;go_ret3;exact ⟨rfl,(by repeat (first | exact B3.o | refine Below.drew ?_))⟩
end Go.Proofs.YtehnphoeplmpdaaGreatDoor
