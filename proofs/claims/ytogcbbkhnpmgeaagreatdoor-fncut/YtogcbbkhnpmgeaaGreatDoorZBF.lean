import Derived.Test.YtogcbbkhnpmgeaaGreatDoorDtH
set_option maxRecDepth 100000
set_option maxHeartbeats 8000000
namespace Go.Proofs.YtogcbbkhnpmgeaaGreatDoor
open Go.RowKit
theorem zpv(v:Value)(ns:List Ino)(ds:List Den)(s:ByteArray)(size:Int)(w:World)(h:RdIm w v ns ds)(hi:zcr ns ds=true)(hs:s.size<=65536) :
  zC 42 #[v,.string s,.I size] w fun e w'=>zhy w w' e (cuI ns ds s size):=by
 have LL:=zaa (fun w1 (hb:zB w w1)=>zis v ns ds s w1 (h.below hb) hi hs);have EL:=zaa (show cuI ns ds s size=if (flI ns ds s).2=0 then cuF ns (flI ns ds s).1 size else([],(flI ns ds s).2)from rfl);have LO:=zaa (fun c=>zfh (s:=s) (zbi.1 hi) c);obtain⟨l16,l24,_⟩:=zaw hi;have L16:=zaa l16;obtain⟨vW,vP,rfl,h1,h2⟩:=h;obtain⟨aW,cW,rfl,_,hcW⟩:=h1.shape;obtain⟨aP,cP,rfl,_,hcP⟩:=h2.shape;obtain⟨bW,oW,rfl,hblW,hcellW⟩:=hcW (by omega)
 have HM:Hid (∀ k,k<16->∀ w',zB w w'->∀ j,j<8->w'.cell? ⟨bW,oW+k*11+3+j,none⟩=some (.I ((zam ns k).map.getD j 0))):=fun k hk w' hb j hj=>by
  rw[zbj (by omega:k<ns.length)];obtain⟨a0,a1,a2,a3,a4,a5,a6,a7,a8,a9,a10⟩:=hcellW k (by omega)
  rcases(show j=0\/j=1\/j=2\/j=3\/j=4\/j=5\/j=6\/j=7 by omega)with rfl|rfl|rfl|rfl|rfl|rfl|rfl|rfl
  ·exact(hb.cell (p:=⟨bW,oW+k*11+3,none⟩) hblW).trans a3
  ·exact(hb.cell (p:=⟨bW,oW+k*11+4,none⟩) hblW).trans a4
  ·exact(hb.cell (p:=⟨bW,oW+k*11+5,none⟩) hblW).trans a5
  ·exact(hb.cell (p:=⟨bW,oW+k*11+6,none⟩) hblW).trans a6
  ·exact(hb.cell (p:=⟨bW,oW+k*11+7,none⟩) hblW).trans a7
  ·exact(hb.cell (p:=⟨bW,oW+k*11+8,none⟩) hblW).trans a8
  ·exact(hb.cell (p:=⟨bW,oW+k*11+9,none⟩) hblW).trans a9
  ·exact(hb.cell (p:=⟨bW,oW+k*11+10,none⟩) hblW).trans a10
 clear h1 h2 hi hs hcW hcP hcellW l16 l24
 obtain⟨W,hW⟩:=zE (w.alloc (.cells #[.slice (some ⟨bW,oW,none⟩) ns.length cW,.slice aP ds.length cP] 51))
 have CA:Hid (∀ w',zB W w'->w'.cell? ⟨w.heap.size,0,none⟩=some (.slice (some ⟨bW,oW,none⟩) ns.length cW)/\w'.cell? ⟨w.heap.size,1,none⟩=some (.slice aP ds.length cP)):=fun w' hb=>by
  have:w'.heap[w.heap.size]?=some (.cells #[.slice (some ⟨bW,oW,none⟩) ns.length cW,.slice aP ds.length cP] 51 (0,0)):=(hb.block _ (by rw[hW];simp)).trans (by rw[hW];exact zah rfl);exact⟨(zac this).1,(zac this).2.1⟩
 have BW:Hid (zB w W):=by rw[hW];exact zR.alloc zL _
 obtain⟨x0,x1⟩:=CA.o _ zR
 have hz:w.heap.size<W.heap.size:=by rw[hW];simp
 generalize cuI ns ds s size=res at *;generalize flI ns ds s=lr at *;obtain⟨li,lc⟩:=lr;simp only at EL LO LL;go_enter Tryz.func42,Tryz.ntmps42;go_wp2_with fail;rw[<- hW];clear hW x0 x1;refine(LL.o _ BW.o).mono ?_;rintro e w1 ⟨rfl,hb1⟩;have A1:=zaa hb1;have B1:=zaa (zab BW.o A1.o BW.o.size);clear hb1 LL
 by_cases c:lc=0
 case neg =>
  rw[if_neg c]at EL;obtain rfl:=EL.o
  have q:(lc != 0)=true:=by rw[bne_iff_ne];exact c
  clear EL LO c;go_wp2;go_ret2;exact zcj B1.o
 subst c;rw[if_pos rfl]at EL;obtain⟨i,i16,ei,-⟩:=LO.o rfl;subst ei;have EC:=zaa (show cuF ns (i:Int) size=if 0<=size/\size<=8 then(cuU (zam ns i).map (i:Int) size.toNat 8,0) else([],4)from rfl);rw[EC.o]at EL;have HMi:=zaa (HM.o i i16)
 have i1:i<ns.length:=by have:=L16.o;omega
 have i0:(0:Int)<=(i:Int):=by omega
 have il:(i:Int)<(ns.length:Int):=by omega
 have ir:0<=(i:Int)/\(i:Int)<16:=by omega
 clear HM EC LO L16
 by_cases c:0<=size/\size<=8
 case neg =>
  rw[if_neg c]at EL;obtain rfl:=EL.o;clear EL;go_wp2_with fail;refine(zfl _ _ _ _ c).mono ?_;rintro e w' ⟨rfl,hw'⟩;subst w';go_wp2;go_ret2;exact zcj B1.o
 rw[if_pos c]at EL
 obtain⟨n,rfl⟩:∃ n:Nat,size=(n:Int):=⟨size.toNat,by omega⟩
 rw[Int.toNat_natCast]at EL
 have n8:n<=8:=by omega
 generalize (zam ns i).map=zs at *;go_wp2_with fail;refine(zbg _ _ _ _ c).mono ?_;rintro e w' ⟨rfl,hw'⟩;subst w';clear c;go_wp2_with (go_at_call 93;refine(zay _ _ _ ir (by omega)).mono ?_;rintro e w' ⟨rfl,hw'⟩;subst w')
 have ST:Hid (UpI W (w1.alloc (.cells #[.I (48+12*(i:Int)+1),.I (n:Int)] 104)) (.slice (some ⟨w1.heap.size,0,none⟩) 1 1) (cuU zs (i:Int) n n)):=by
  unfold Hid cuU;rw[zvc];exact⟨World.ownsRow_lit w1 _ 1 A1.o.size (by simp[maxLen]) rfl,A1.o.alloc A1.o.size _⟩
 go_loopw [10,11] (fun vL k wr=>∃ m:Nat,n<=m/\m<=8/\k=.I (m:Int)/\Hid (UpI W wr vL (cuU zs (i:Int) n m))) (fun _ k _=>8-(intOf k).toNat)
 case atStart=>exact⟨n,Nat.le_refl _,n8,rfl,ST⟩
 case round =>
  obtain⟨m,hm,hm8,rfl,J⟩:=hrel;clear ST A1 B1;obtain⟨x0,x1⟩:=CA.o _ J.o.b;have JW:=zaa (zab BW.o J.o.b BW.o.size);have hzj:W.heap.size<=wr.heap.size:=J.o.z
  have m0:(0:Int)<=(m:Int):=by omega
  by_cases hlt:m<8
  ·have m1:(m:Int)<8:=by omega
   have e0:=HMi.o wr JW.o m hlt;have YES:=zaa (fun e=>yaiq (zs:=zs) (i:=(i:Int)) (n:=n) (k:=m) hm e);have NO:=zaa (fun e=>yapb (zs:=zs) (i:=(i:Int)) (n:=n) (k:=m) e)
   have hlen:(cuU zs (i:Int) n m).length<=9:=by
    have:=zrp zs (i:Int) n m
    show(cuT zs (i:Int) n m).length+1<=9
    omega
   generalize zs.getD m 0=z at e0 YES NO
   by_cases q:z=0
   ·have q':(z != 0)=false:=by rw[q];rfl
    have G:Hid (UpI W wr u10 (cuU zs (i:Int) n (m+1))):=by
     unfold Hid cuU;rw[NO.o q];exact J.o
    clear q J YES NO;go_wp2
    go_roundw
    case rel=>exact⟨m+1,by omega,by omega,by go_num,G⟩
    case measure=>simp[intOf];omega
   ·have q':(z != 0)=true:=by rw[bne_iff_ne];exact q
    have JB:Hid (UpI W (wr.alloc (.cells #[.I (48+12*(i:Int)+(3+(m:Int))),.I 0] 104)) u10 (cuU zs (i:Int) n m)):=J.o.below (zR.alloc zL _);have RB:=zaa (zig wr (48+12*(i:Int)+(3+(m:Int))) 0);have hzb:=JB.o.z
    have MN:Hid (cuU zs (i:Int) n (m+1)=cuU zs (i:Int) n m++[⟨48+12*(i:Int)+(3+(m:Int)),0⟩]):=by
     unfold Hid cuU;rw[YES.o q];rfl
    have mr:0<=3+(m:Int)/\3+(m:Int)<11:=by omega
    clear q J YES NO;go_wp2_with fail;refine(zay _ _ _ ir mr).mono ?_;rintro e w' ⟨rfl,hw'⟩;subst w';go_wp2_with (at_builtin;refine zae _ rfl (.tmp 45) (.tmp 51) 58 rfl W.heap.size 104 (.agg #[.I 0,.I 0]) 2 16 Tryz.underlying58 zkb rfl (by decide) _ _ _ rfl JB.o.l _ 1 _ rfl RB.o (zev _) (by first | omega | (simp[maxLen];omega)) (by first | omega | (simp;omega)) hzb ?_);intro vN wN hownN hgrN;have G:=zaa (JB.o.grow [⟨48+12*(i:Int)+(3+(m:Int)),0⟩] hownN hgrN);rw[<- MN.o]at G;clear hownN hgrN JB RB;go_wp2
    go_roundw
    case rel=>exact⟨m+1,by omega,by omega,by go_num,G⟩
    case measure=>simp[intOf];omega
  ·obtain rfl:m=8:=by omega
   obtain rfl:=EL.o;obtain⟨-,aN,cN,hvN,-⟩:=(zad J.o.l).rd;subst hvN;go_wp2;go_ret2;exact⟨_,rfl,(zad J.o.l).wide (by omega) zL,JW.o⟩
theorem znl(v:Value)(ws:List Ino)(ps:List Den)(s:ByteArray)(size:Int)(w:World)(h:RdIm w v ws ps)(hw:ws.length<=1048576)(hp:ps.length<=1048576)(hr:∀ k (h:k<ws.length),ws[k].R)(hs:∀ k (h:k<ps.length),ps[k].name.size<=maxLen) :
  zC 17 #[v,.string s,.I size] w fun e w'=>zhy w w' e (cuR ws ps s size):=by
 have LI:=zaa (fun w1 (hb:zB w w1)=>zoc v ws ps w1 (h.below hb) hw hp hr hs);have LL:=zaa (fun w1 (hb:zB w w1) hi hs=>zpv v ws ps s size w1 (h.below hb) hi hs);have EL:=zaa (show cuR ws ps s size=if 65536<s.size then([],2)else if zcr ws ps=true then cuI ws ps s size else([],1)from rfl);obtain⟨vW,vP,rfl,h1,h2⟩:=h;obtain⟨aW,cW,rfl,_,_⟩:=h1.shape;obtain⟨aP,cP,rfl,_,_⟩:=h2.shape;clear h1 h2 hr hs
 have CA:Hid (∀ w',Below (w.alloc (.cells #[.slice aW ws.length cW,.slice aP ps.length cP] 51)).heap.size (w.alloc (.cells #[.slice aW ws.length cW,.slice aP ps.length cP] 51)) w'->w'.cell? ⟨w.heap.size,0,none⟩=some (.slice aW ws.length cW)/\w'.cell? ⟨w.heap.size,1,none⟩=some (.slice aP ps.length cP)):=fun w' hb=>by
  have:w'.heap[w.heap.size]?=some (.cells #[.slice aW ws.length cW,.slice aP ps.length cP] 51 (0,0)):=(hb.block _ (by simp)).trans (zah rfl);exact⟨(zac this).1,(zac this).2.1⟩
 have BW:Hid (zB w (w.alloc (.cells #[.slice aW ws.length cW,.slice aP ps.length cP] 51))):=zR.alloc zL _;obtain⟨x0,x1⟩:=CA.o _ zR;generalize cuR ws ps s size=res at *;generalize cuI ws ps s size=r1 at *
 by_cases c1:65536<s.size
 ·rw[if_pos c1]at EL
  have c2:(s.size:Int)>65536:=by omega
  obtain rfl:=EL.o;clear EL c1 LL;go_enter Tryz.func17,Tryz.ntmps17;go_wp2;go_ret2;exact yalq BW.o (World.size_alloc _ _).symm
 rw[if_neg c1]at EL
 have c2:¬ (s.size:Int)>65536:=by omega
 have LL2:=zaa (fun w1 h hi=>LL.o w1 h hi (by omega));clear LL c1;generalize hi:zcr ws ps=ib at *;go_enter Tryz.func17,Tryz.ntmps17;go_wp2_with fail;refine(LI.o _ BW.o).mono ?_;rintro e w1 ⟨rfl,hb1⟩;have B1:=zaa (zab BW.o hb1 BW.o.size);clear x0 x1;obtain⟨x0,x1⟩:=CA.o _ hb1;clear hb1
 cases ib with
 | false =>
  obtain rfl:=EL.o;clear EL LL2 x0 x1;go_wp2;go_ret2;exact zcj B1.o
 | true =>
  rw[if_pos rfl]at EL;have LL3:=zaa (fun w1 h=>LL2.o w1 h rfl);clear LL2;obtain rfl:=EL.o;clear EL;go_wp2_with fail;refine(LL3.o _ B1.o).mono ?_;rintro e w2 ⟨v2,rfl,hr2,hb2⟩;have R2:=zaa (hr2.wide B1.o.size zL);have B2:=zaa (zab B1.o hb2 B1.o.size);obtain⟨-,aL,cL,hvL,-⟩:=hr2.rd;subst hvL;clear hr2 hb2;go_wp2;go_ret2;exact⟨_,rfl,R2.o,B2.o⟩
def uoI(ns:List Ino)(ds:List Den)(k:Int)(p t:ByteArray)(g:Int):List Se×Int:=if k=1 then mkI ns ds p 1 else if k=2 then mkI ns ds p 2 else if k=3 then rmI ns ds p else if k=4 then lnI ns ds p t else if k=5 then rnI ns ds p t else cuI ns ds p g
theorem zpn(v:Value)(ns:List Ino)(ds:List Den)(k:Int)(p t:ByteArray)(g y:Int)(w:World)(h:RdIm w v ns ds)(hi:zcr ns ds=true)(hp:p.size<=65536)(ht:t.size<=65536) :
  zC 80 #[v,.agg #[.I k,.string p,.string t,.I g,.I y]] w fun e w'=>zhy w w' e (uoI ns ds k p t g):=by
 have L1:=zaa (fun w1 (hb:zB w w1)=>zox v ns ds p 1 w1 (h.below hb) hi hp);have L2:=zaa (fun w1 (hb:zB w w1)=>zox v ns ds p 2 w1 (h.below hb) hi hp);have L3:=zaa (fun w1 (hb:zB w w1)=>zsp v ns ds p w1 (h.below hb) hi hp);have L4:=zaa (fun w1 (hb:zB w w1)=>zyo v ns ds p t w1 (h.below hb) hi ⟨hp,ht⟩);have L5:=zaa (fun w1 (hb:zB w w1)=>zsb v ns ds p t w1 (h.below hb) hi ⟨hp,ht⟩);have L6:=zaa (fun w1 (hb:zB w w1)=>zpv v ns ds p g w1 (h.below hb) hi hp);have EL:=zaa (show uoI ns ds k p t g=if k=1 then mkI ns ds p 1 else if k=2 then mkI ns ds p 2 else if k=3 then rmI ns ds p else if k=4 then lnI ns ds p t else if k=5 then rnI ns ds p t else cuI ns ds p g from rfl);obtain⟨vW,vP,rfl,h1,h2⟩:=h;obtain⟨aW,cW,rfl,_,_⟩:=h1.shape;obtain⟨aP,cP,rfl,_,_⟩:=h2.shape;clear h1 h2 hi hp ht
 obtain⟨W,hW⟩:=zE ((w.alloc (.cells #[.slice aW ns.length cW,.slice aP ds.length cP] 51)).alloc (.cells #[.I k,.string p,.string t,.I g,.I y] 40))
 have BW:Hid (zB w W):=by rw[hW];exact(zR.alloc zL _).alloc (by simp) _
 rw[EL.o]
 by_cases c1:k=1
 case pos =>
  rw[if_pos c1];have LL:=L1;clear EL L1 L2 L3 L4 L5 L6;subst c1;generalize mkI ns ds p 1=res at *;go_enter Tryz.func80,Tryz.ntmps80;go_wp2_with fail;rw[<- hW];clear hW;refine(LL.o _ BW.o).mono ?_;rintro e w1 ⟨v1,rfl,hr1,hb1⟩;have R1:=zaa (hr1.wide BW.o.size zL);have B1:=zaa (zab BW.o hb1 BW.o.size);obtain⟨-,aL,cL,hvL,-⟩:=hr1.rd;subst hvL;clear hr1 hb1;go_wp2;go_ret2;exact⟨_,rfl,R1.o,B1.o⟩
 have q1:(k == 1)=false:=by rw[beq_eq_false_iff_ne];exact c1
 by_cases c2:k=2
 case pos =>
  rw[if_neg c1,if_pos c2];have LL:=L2;clear EL L1 L2 L3 L4 L5 L6;subst c2;generalize mkI ns ds p 2=res at *;go_enter Tryz.func80,Tryz.ntmps80;go_wp2_with fail;rw[<- hW];clear hW;refine(LL.o _ BW.o).mono ?_;rintro e w1 ⟨v1,rfl,hr1,hb1⟩;have R1:=zaa (hr1.wide BW.o.size zL);have B1:=zaa (zab BW.o hb1 BW.o.size);obtain⟨-,aL,cL,hvL,-⟩:=hr1.rd;subst hvL;clear hr1 hb1;go_wp2;go_ret2;exact⟨_,rfl,R1.o,B1.o⟩
 have q2:(k == 2)=false:=by rw[beq_eq_false_iff_ne];exact c2
 by_cases c3:k=3
 case pos =>
  rw[if_neg c1,if_neg c2,if_pos c3];have LL:=L3;clear EL L1 L2 L3 L4 L5 L6;subst c3;generalize rmI ns ds p=res at *;go_enter Tryz.func80,Tryz.ntmps80;go_wp2_with fail;rw[<- hW];clear hW;refine(LL.o _ BW.o).mono ?_;rintro e w1 ⟨v1,rfl,hr1,hb1⟩;have R1:=zaa (hr1.wide BW.o.size zL);have B1:=zaa (zab BW.o hb1 BW.o.size);obtain⟨-,aL,cL,hvL,-⟩:=hr1.rd;subst hvL;clear hr1 hb1;go_wp2;go_ret2;exact⟨_,rfl,R1.o,B1.o⟩
 have q3:(k == 3)=false:=by rw[beq_eq_false_iff_ne];exact c3
 by_cases c4:k=4
 case pos =>
  rw[if_neg c1,if_neg c2,if_neg c3,if_pos c4];have LL:=L4;clear EL L1 L2 L3 L4 L5 L6;subst c4;generalize lnI ns ds p t=res at *;go_enter Tryz.func80,Tryz.ntmps80;go_wp2_with fail;rw[<- hW];clear hW;refine(LL.o _ BW.o).mono ?_;rintro e w1 ⟨v1,rfl,hr1,hb1⟩;have R1:=zaa (hr1.wide BW.o.size zL);have B1:=zaa (zab BW.o hb1 BW.o.size);obtain⟨-,aL,cL,hvL,-⟩:=hr1.rd;subst hvL;clear hr1 hb1;go_wp2;go_ret2;exact⟨_,rfl,R1.o,B1.o⟩
 have q4:(k == 4)=false:=by rw[beq_eq_false_iff_ne];exact c4
 by_cases c5:k=5
 case pos =>
  rw[if_neg c1,if_neg c2,if_neg c3,if_neg c4,if_pos c5];have LL:=L5;clear EL L1 L2 L3 L4 L5 L6;subst c5;generalize rnI ns ds p t=res at *;go_enter Tryz.func80,Tryz.ntmps80;go_wp2_with fail;rw[<- hW];clear hW;refine(LL.o _ BW.o).mono ?_;rintro e w1 ⟨v1,rfl,hr1,hb1⟩;have R1:=zaa (hr1.wide BW.o.size zL);have B1:=zaa (zab BW.o hb1 BW.o.size);obtain⟨-,aL,cL,hvL,-⟩:=hr1.rd;subst hvL;clear hr1 hb1;go_wp2;go_ret2;exact⟨_,rfl,R1.o,B1.o⟩
 have q5:(k == 5)=false:=by rw[beq_eq_false_iff_ne];exact c5
 rw[if_neg c1,if_neg c2,if_neg c3,if_neg c4,if_neg c5];have LL:=L6;clear EL L1 L2 L3 L4 L5 L6;generalize cuI ns ds p g=res at *;go_enter Tryz.func80,Tryz.ntmps80;go_wp2_with fail;rw[<- hW];clear hW;refine(LL.o _ BW.o).mono ?_;rintro e w1 ⟨v1,rfl,hr1,hb1⟩;have R1:=zaa (hr1.wide BW.o.size zL);have B1:=zaa (zab BW.o hb1 BW.o.size);obtain⟨-,aL,cL,hvL,-⟩:=hr1.rd;subst hvL;clear hr1 hb1;go_wp2;go_ret2;exact⟨_,rfl,R1.o,B1.o⟩
def Wv(us:List Se):Prop:=∀ u∈us,0<=u.val/\u.val<1099511627776
theorem Wv.app{us vs:List Se}(h:Wv us)(k:Wv vs):Wv (us++vs):=fun u hu=>by
 rcases List.mem_append.1 hu with q | q
 ·exact h u q
 ·exact k u q
theorem Wv.one{a x:Int}(h:0<=x/\x<1099511627776):Wv [⟨a,x⟩]:=fun u hu=>by
 rw[List.mem_singleton.1 hu];exact h
theorem Wv.cons{a x:Int}{us:List Se}(h:0<=x/\x<1099511627776)(k:Wv us):Wv (⟨a,x⟩::us):=fun u hu=>by
 rcases List.mem_cons.1 hu with rfl | q
 ·exact h
 ·exact k u q
theorem zzr{k:Int}{x:Den}(hd:0<=x.dir/\x.dir<=15)(hn:nmB x.name=true\/x.name.size=0)(hc:-1<=x.child/\x.child<=15):Wv (enL k x):=by
 unfold enL;refine Wv.cons (by omega) (Wv.cons ?_ (Wv.one (by omega)))
 rcases hn with q | q
 ·have:=yaqz (s:=x.name) (k:=x.name.size) (fun j hj _=>(zeq q).2.2 j hj) (zeq q).2.1;omega
 ·rw[yaqy q];omega
theorem yasi{i:Int}:Wv (wrL i zgg 8):=fun u hu=>by
 unfold wrL at hu
 rcases List.mem_append.1 hu with q | q
 ·simp only[List.mem_cons,List.not_mem_nil,or_false]at q
  rcases q with rfl|rfl|rfl
  all_goals exact⟨Int.le_refl 0,show(0:Int)<1099511627776 by decide⟩
 ·obtain⟨j,hj,rfl⟩:=List.mem_map.1 q;have hj8:=List.mem_range.1 hj
  have e:zgg.map.getD j 0=0:=by
   rcases(show j=0\/j=1\/j=2\/j=3\/j=4\/j=5\/j=6\/j=7 by omega)with rfl|rfl|rfl|rfl|rfl|rfl|rfl|rfl<;>rfl
  exact⟨by show 0<=zgg.map.getD j 0;rw[e];omega,by show zgg.map.getD j 0<1099511627776;rw[e];omega⟩
theorem yaun{ws:List Ino}{ps:List Den}{s:ByteArray}{kind:Int}{us:List Se}(h:Img ws ps)(hk:1<=kind/\kind<=2)(e:mkI ws ps s kind=(us,0)):Wv us:=by
 unfold mkI at e
 by_cases c:(paI ws ps s).2.2=0
 ·rw[if_pos c]at e;obtain⟨p1,-,p3⟩:=zju (zbi.2 h) c;unfold mkN at e
  split at e
  ·simp at e
  ·split at e
   ·simp at e
   ·rename_i f1
    split at e
    ·simp at e
    ·obtain⟨rfl,-⟩:=Prod.mk.inj e;obtain⟨i,ei,hi,-⟩:=zxf h f1;rw[ei];unfold mkU;exact Wv.app (Wv.cons (by omega) (Wv.one (by omega))) (zzr p1 (.inl p3) (by show -1<=(i:Int)/\(i:Int)<=15;omega))
 ·rw[if_neg c]at e;exact absurd (Prod.mk.inj e).2 c
theorem yaef{ws:List Ino}{ps:List Den}(h:Img ws ps){i:Nat}(hi:i<16):0<=zen ws (i:Int)/\zen ws (i:Int)<=24:=(zbr (h.ok i hi)).2.2.1
theorem yave{ws:List Ino}{ps:List Den}{s:ByteArray}{us:List Se}(h:Img ws ps)(e:rmI ws ps s=(us,0)):Wv us:=by
 unfold rmI at e
 by_cases c:(paI ws ps s).2.2=0
 ·rw[if_pos c]at e;unfold rmN at e
  cases q:zbs ps (paI ws ps s).1 (paI ws ps s).2.1 with
  | none=>rw[q]at e;simp at e
  | some k =>
   rw[q]at e;simp only at e;obtain⟨hk,i,ei,_,hi,-⟩:=zlb h q;unfold rmC at e
   split at e
   ·simp at e
   ·obtain⟨rfl,-⟩:=Prod.mk.inj e;have l:=yaef h hi;rw[ei];unfold rmU;have f:Wv (enL (k:Int) freeD):=zzr (by decide) (.inr rfl) (by decide)
    split
    ·exact Wv.app f (Wv.one (by omega))
    ·exact Wv.app f yasi
 ·rw[if_neg c]at e;exact absurd (Prod.mk.inj e).2 c
theorem yavw{ws:List Ino}{ps:List Den}{s t:ByteArray}{us:List Se}(h:Img ws ps)(e:lnI ws ps s t=(us,0)):Wv us:=by
 unfold lnI at e
 by_cases c0:(lkI ws ps s).2=0
 ·rw[if_pos c0]at e
  split at e
  ·simp at e
  ·rename_i kk;obtain⟨i,ei,hi,_,_⟩:=zjy h c0 kk;unfold lnP at e
   by_cases c:(paI ws ps t).2.2=0
   ·rw[if_pos c]at e;obtain⟨p1,-,p3⟩:=zju (zbi.2 h) c;unfold lnN at e
    split at e
    ·simp at e
    ·split at e
     ·simp at e
     ·obtain⟨rfl,-⟩:=Prod.mk.inj e;have l:=yaef h hi;rw[ei];exact Wv.app (zzr p1 (.inl p3) (by show -1<=(i:Int)/\(i:Int)<=15;omega)) (Wv.one (by omega))
   ·rw[if_neg c]at e;exact absurd (Prod.mk.inj e).2 c
 ·rw[if_neg c0]at e;exact absurd (Prod.mk.inj e).2 c0
theorem yavf{ws:List Ino}{ps:List Den}{s t:ByteArray}{us:List Se}(h:Img ws ps)(e:rnI ws ps s t=(us,0)):Wv us:=by
 unfold rnI at e
 by_cases c:(paI ws ps s).2.2=0
 ·rw[if_pos c]at e;unfold rnE at e
  cases q:zbs ps (paI ws ps s).1 (paI ws ps s).2.1 with
  | none=>rw[q]at e;simp at e
  | some k =>
   rw[q]at e;simp only at e;obtain⟨hk,i,ei,_,hi,-⟩:=zlb h q;unfold rnP at e
   by_cases d:(paI ws ps t).2.2=0
   ·rw[if_pos d]at e;obtain⟨p1,-,p3⟩:=zju (zbi.2 h) d;unfold rnN at e
    split at e
    ·simp at e
    ·split at e
     ·simp at e
     ·obtain⟨rfl,-⟩:=Prod.mk.inj e;rw[ei];exact zzr p1 (.inl p3) (by show -1<=(i:Int)/\(i:Int)<=15;omega)
   ·rw[if_neg d]at e;exact absurd (Prod.mk.inj e).2 d
 ·rw[if_neg c]at e;exact absurd (Prod.mk.inj e).2 c
theorem yaov{ns:List Ino}{ds:List Den}{s:ByteArray}{g:Int}{us:List Se}(h:Img ns ds)(e:cuI ns ds s g=(us,0)):UpIn us/\us.length<=16/\Wv us:=by
 unfold cuI at e
 by_cases c:(flI ns ds s).2=0
 ·rw[if_pos c]at e;obtain⟨i,hi,ei,-⟩:=zfh h c;rw[ei]at e;unfold cuF at e
  split at e
  ·rename_i d;obtain⟨rfl,-⟩:=Prod.mk.inj e;have l:=zrp (zam ns ((i:Nat):Int).toNat).map (i:Int) g.toNat 8;unfold cuU;refine⟨fun u hu=>?_,by show(cuT _ _ _ _).length+1<=16;omega,Wv.cons (by omega) (fun u hu=>?_)⟩
   ·rcases List.mem_cons.1 hu with rfl | q
    ·exact⟨by show 48<=48+12*(i:Int)+1;omega,by show 48+12*(i:Int)+1<312;omega⟩
    ·exact yauq hi (Nat.le_refl 8) u q
   ·unfold cuT at hu;obtain⟨j,-,rfl⟩:=List.mem_map.1 hu;exact⟨Int.le_refl 0,show(0:Int)<1099511627776 by decide⟩
  ·simp at e
 ·rw[if_neg c]at e;exact absurd (Prod.mk.inj e).2 c
theorem yava{ws:List Ino}{ps:List Den}{s:ByteArray}{kind:Int}:¬ (mkI ws ps s kind).2=0->(mkI ws ps s kind).1=[]:=by
 unfold mkI mkN
 repeat' split
 all_goals simp
theorem yavj{ws:List Ino}{ps:List Den}{s:ByteArray}:¬ (rmI ws ps s).2=0->(rmI ws ps s).1=[]:=by
 unfold rmI rmN rmC
 repeat' split
 all_goals simp
theorem yavi{ws:List Ino}{ps:List Den}{s t:ByteArray}:¬ (lnI ws ps s t).2=0->(lnI ws ps s t).1=[]:=by
 unfold lnI lnP lnN
 repeat' split
 all_goals simp
theorem yavy{ws:List Ino}{ps:List Den}{s t:ByteArray}:¬ (rnI ws ps s t).2=0->(rnI ws ps s t).1=[]:=by
 unfold rnI rnE rnP rnN
 repeat' split
 all_goals simp
theorem yatl{ns:List Ino}{ds:List Den}{s:ByteArray}{g:Int}:¬ (cuI ns ds s g).2=0->(cuI ns ds s g).1=[]:=by
 unfold cuI cuF
 repeat' split
 all_goals simp
theorem yatj{ns:List Ino}{ds:List Den}{k:Int}{p t:ByteArray}{g:Int}:¬ (uoI ns ds k p t g).2=0->(uoI ns ds k p t g).1=[]:=by
 unfold uoI
 split
 ·exact yava
 split
 ·exact yava
 split
 ·exact yavj
 split
 ·exact yavi
 split
 ·exact yavy
 ·exact yatl
theorem yapc{ns:List Ino}{ds:List Den}{k:Int}{p t:ByteArray}{g:Int}(h:Img ns ds)(c:(uoI ns ds k p t g).2=0):UpIn (uoI ns ds k p t g).1/\(uoI ns ds k p t g).1.length<=16/\Wv (uoI ns ds k p t g).1:=by
 have E:∀ r:List Se×Int,r.2=0->r=(r.1,0):=fun r q=>by rw[<- q]
 revert c
 unfold uoI
 by_cases c1:k=1
 ·rw[if_pos c1]
  exact fun c=>⟨(yamh h (E _ c)).1,(yamh h (E _ c)).2,yaun h ⟨by decide,by decide⟩ (E _ c)⟩
 rw[if_neg c1]
 by_cases c2:k=2
 ·rw[if_pos c2]
  exact fun c=>⟨(yamh h (E _ c)).1,(yamh h (E _ c)).2,yaun h ⟨by decide,by decide⟩ (E _ c)⟩
 rw[if_neg c2]
 by_cases c3:k=3
 ·rw[if_pos c3]
  exact fun c=>⟨(yatt h (E _ c)).1,(yatt h (E _ c)).2,yave h (E _ c)⟩
 rw[if_neg c3]
 by_cases c4:k=4
 ·rw[if_pos c4]
  exact fun c=>⟨(yatw h (E _ c)).1,(yatw h (E _ c)).2,yavw h (E _ c)⟩
 rw[if_neg c4]
 by_cases c5:k=5
 ·rw[if_pos c5]
  exact fun c=>⟨(yate h (E _ c)).1,(yate h (E _ c)).2,yavf h (E _ c)⟩
 rw[if_neg c5]
 exact fun c=>yaov h (E _ c)
theorem yatr{ns:List Ino}{ds:List Den}{k:Int}{p t:ByteArray}{g:Int}(h:Img ns ds):(uoI ns ds k p t g).1.length<=64/\∀ j (q:j<(uoI ns ds k p t g).1.length),0<=(uoI ns ds k p t g).1[j].at_/\(uoI ns ds k p t g).1[j].at_<336:=by
 by_cases c:(uoI ns ds k p t g).2=0
 ·obtain⟨a,b,-⟩:=yapc h c;refine⟨by omega,fun j q=>?_⟩;have:=a _ (List.getElem_mem q);omega
 ·have e:=yatj c;exact⟨by rw[e];simp,fun j q=>by rw[e]at q;cases q⟩
theorem yafm(ps:List Se):∀ u∈ses ps,u.oneCell'=true:=by
 intro u hu;simp only[ses,List.mem_flatMap,Se.cells]at hu;obtain⟨s,_,hs⟩:=hu;simp at hs
 rcases hs with rfl|rfl<;>rfl
theorem yaku(ps:List Se)(s:Se):ses (ps++[s])=ses ps++s.cells:=by simp[ses]
theorem RdE.form{w:World}{v:Value}{ps:List Se}(h:RdE w v ps){n:Nat}(hn:ps.length=n):∃ ao cap,v=.slice ao n cap:=by
 obtain⟨ao,cap,e,_⟩:=h.shape;exact⟨ao,cap,by rw[<- hn];exact e⟩
theorem yast(w1:World)(a x:Int):Rd (w1.alloc (.cells #[.I a,.I x] 160)) 2 (.slice (some ⟨w1.heap.size,0,none⟩) 1 1) 1 (Se.cells ⟨a,x⟩):=by
 refine⟨rfl,_,_,rfl,⟨Nat.le_refl _,fun e=>by cases e⟩,fun _=>⟨w1.heap.size,0,rfl,by simp,fun j hj=>?_⟩⟩;obtain⟨e0,e1,_,_⟩:=zac (zah (w:=w1) (o:=.cells #[.I a,.I x] 160) rfl);rw[Nat.zero_add]
 rcases(show j=0\/j=1 from by omega)with rfl|rfl
 ·exact e0
 ·exact e1
end Go.Proofs.YtogcbbkhnpmgeaaGreatDoor
