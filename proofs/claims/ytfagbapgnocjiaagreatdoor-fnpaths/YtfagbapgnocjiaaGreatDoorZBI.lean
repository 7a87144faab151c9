import Derived.Test.YtfagbapgnocjiaaGreatDoorZBK
set_option maxRecDepth 100000
set_option maxHeartbeats 8000000
namespace Go.Proofs.YtfagbapgnocjiaaGreatDoor
open Go.RowKit
theorem zgy(v:Value)(ws:List Int)(ps:List St)(es:List Int)(qs:List Se)(e:Int)(w:World)(h:RdDev w v ws ps es qs)(hP:pmB ws ps=true)(hB:zpe es qs=true)(te:zel e=true) :
  zC 143 #[v,.I e] w fun r w'=>r=.returned (.I (pgV ws ps es qs e))/\zB w w':=by
 obtain⟨aW,cW,aP,cP,aS,cS,aQ,cQ,rfl,h1,h2⟩:=h.form
 have te':0<=e/\((e%4=0/\e/4=0)\/(e%4=1/\0<=e/4/\e/4<24)\/(e%4=2/\0<=e/4/\e/4<32)):=by
  unfold zel zgt at te;rw[Bool.and_eq_true,decide_eq_true_eq,decide_eq_true_eq]at te;exact te
 have wl:=zhx hP;have el:=zet hB;have BW:Hid (zB w (w.alloc (.cells #[.slice aW ws.length cW,.slice aP ps.length cP,.slice aS es.length cS,.slice aQ qs.length cQ] 78))):=zR.alloc zL _;have LT:=zaa (fun w1=>zef e w1 te'.1 (by omega));have EV:=zaa (show pgV ws ps es qs e=if e%4=1 then ldW ws ps (312+e/4).toNat else if e%4=2 then zkx (e/4) (es[(e/4).toNat]?.getD 0) qs else 0 from rfl)
 have L1:Hid (∀ (k:Nat),k<24->∀ w1,zB w w1->zC 55 #[.agg #[.slice aW ws.length cW,.slice aP ps.length cP],.I (312+(k:Int))] w1 fun r w'=>r=.returned (.I (ldW ws ps (312+k)))/\zB w1 w'):=fun k hk w1 hb=>by
  have:=zmo _ ws ps (312+k) w1 (h1.below hb) (by omega) (by omega) (by omega);rw[<- yarm,show((312+k:Nat):Int)=312+(k:Int) by omega]at this;exact this
 have L2:Hid (∀ (k:Nat),k<32->∀ w1,zB w w1->zC 168 #[.agg #[.slice aS es.length cS,.slice aQ qs.length cQ],.I (k:Int)] w1 fun r w'=>r=.returned (.I (zkx (k:Int) (es[k]?.getD 0) qs))/\zB w1 w'):=fun k hk w1 hb=>by
  have:=zxz _ es qs k w1 (h2.below hb) (by omega) (by omega) (by omega);rw[show(es[k]?.getD 0)=es[k]'(by omega) by simp[show k<es.length by omega]];exact this
 clear h h1 h2 te hP hB wl el;generalize pgV ws ps es qs e=r at *;generalize e%4=t at *;generalize e/4=a at *
 rcases te'.2 with ⟨rfl,rfl⟩ | ⟨rfl,a0,a1⟩ | ⟨rfl,a0,a1⟩
 ·rw[if_neg (by omega),if_neg (by omega)]at EV;obtain rfl:=EV.o;clear te' L1 L2 EV;go_enter Tryz.func143,Tryz.ntmps143;go_wp2_with fail;refine(LT.o _).mono ?_;rintro r w1 ⟨rfl,rfl⟩;go_wp2;go_ret;exact⟨rfl,BW.o⟩
 ·obtain⟨k,rfl⟩:∃ k:Nat,a=(k:Int):=⟨a.toNat,by omega⟩
  rw[if_pos rfl,show(312+(k:Int)).toNat=312+k by omega]at EV;obtain rfl:=EV.o
  have k24:k<24:=by omega
  have Q:=zaa (L1.o k k24);clear te' L1 L2 EV a0 a1;go_enter Tryz.func143,Tryz.ntmps143;go_wp2_with fail;refine(LT.o _).mono ?_;rintro r w1 ⟨rfl,rfl⟩;go_wp2_with fail;refine(Q.o _ BW.o).mono ?_;rintro r w2 ⟨rfl,hb2⟩;have B2:=zaa (zab BW.o hb2 BW.o.size);clear hb2;go_wp2;go_ret;exact⟨rfl,B2.o⟩
 ·obtain⟨k,rfl⟩:∃ k:Nat,a=(k:Int):=⟨a.toNat,by omega⟩
  rw[if_neg (by omega),if_pos rfl,Int.toNat_natCast]at EV;obtain rfl:=EV.o
  have k32:k<32:=by omega
  have Q:=zaa (L2.o k k32);clear te' L1 L2 EV a0 a1;go_enter Tryz.func143,Tryz.ntmps143;go_wp2_with fail;refine(LT.o _).mono ?_;rintro r w1 ⟨rfl,rfl⟩;go_wp2_with fail;refine(Q.o _ BW.o).mono ?_;rintro r w2 ⟨rfl,hb2⟩;have B2:=zaa (zab BW.o hb2 BW.o.size);clear hb2;go_wp2;go_ret;exact⟨rfl,B2.o⟩
theorem zhz(v:Value)(ns:List Ino)(ds:List Den)(s:ByteArray)(w:World)(h:RdIm w v ns ds)(hi:zbo ns ds=true)(hs:s.size<=65536) :
  zC 177 #[v,.string s] w fun e w'=>e=.returned (.tuple #[.I (flI ns ds s).1,.I (flI ns ds s).2])/\zB w w':=by
 have LL:=zaa (fun w1 (hb:zB w w1)=>zeu v ns ds s w1 (h.below hb) hi hs);have EL:=zaa (show flI ns ds s=if (lkI ns ds s).2=0 then(if zag ns (lkI ns ds s).1=1 then((lkI ns ds s).1,0) else(0,9)) else(0,(lkI ns ds s).2)from rfl);have LO:=zaa (yaab (s:=s) hi);obtain⟨l16,l24,_⟩:=zao hi;have L16:=zaa l16;obtain⟨vW,vP,rfl,h1,h2⟩:=h;obtain⟨aW,cW,rfl,_,hcW⟩:=h1.shape;obtain⟨aP,cP,rfl,_,hcP⟩:=h2.shape;obtain⟨bW,oW,rfl,hblW,hcellW⟩:=hcW (by omega)
 have HW:Hid (∀ i (h:i<ns.length) w',zB w w'->w'.cell? ⟨bW,oW+i*11,none⟩=some (.I (zag ns (i:Int)))):=fun i h w' hb =>
  ((hb.cell (p:=⟨bW,oW+i*11,none⟩) hblW).trans (hcellW i h).1).trans (by rw[<- zbc h])
 clear h1 h2 hi hs hcW hcP hcellW l16 l24
 have CA:Hid (∀ w',Below (w.alloc (.cells #[.slice (some ⟨bW,oW,none⟩) ns.length cW,.slice aP ds.length cP] 26)).heap.size (w.alloc (.cells #[.slice (some ⟨bW,oW,none⟩) ns.length cW,.slice aP ds.length cP] 26)) w'->w'.cell? ⟨w.heap.size,0,none⟩=some (.slice (some ⟨bW,oW,none⟩) ns.length cW)/\w'.cell? ⟨w.heap.size,1,none⟩=some (.slice aP ds.length cP)):=fun w' hb=>by
  have:w'.heap[w.heap.size]?=some (.cells #[.slice (some ⟨bW,oW,none⟩) ns.length cW,.slice aP ds.length cP] 26 (0,0)):=(hb.block _ (by simp)).trans (zai rfl);exact⟨(zad this).1,(zad this).2.1⟩
 have BW:Hid (zB w (w.alloc (.cells #[.slice (some ⟨bW,oW,none⟩) ns.length cW,.slice aP ds.length cP] 26))):=zR.alloc zL _;obtain⟨x0,x1⟩:=CA.o _ zR
 obtain⟨W,hW⟩:=zE (w.alloc (.cells #[.slice (some ⟨bW,oW,none⟩) ns.length cW,.slice aP ds.length cP] 26))
 rw[<- hW]at CA BW
 have hz:w.heap.size<W.heap.size:=by rw[hW];simp
 generalize flI ns ds s=res at *;generalize lkI ns ds s=lr at *;obtain⟨li,lc⟩:=lr;simp only at EL LO LL
 obtain⟨i,rfl⟩:∃ i:Nat,li=(i:Int):=⟨li.toNat,by have:=LO.o;omega⟩
 have i1:i<ns.length:=by have:=LO.o;have:=L16.o;omega
 have i0:(0:Int)<=(i:Int):=by omega
 have il:(i:Int)<(ns.length:Int):=by omega
 have HWi:=zaa (HW.o i i1);clear HW LO;generalize zag ns (i:Int)=kd at *;go_enter Tryz.func177,Tryz.ntmps177;go_wp2_with fail;rw[<- hW];clear hW x0 x1;refine(LL.o _ BW.o).mono ?_;rintro e w1 ⟨rfl,hb1⟩;have A1:=zaa hb1;have B1:=zaa (zab BW.o A1.o BW.o.size);obtain⟨x0,x1⟩:=CA.o _ A1.o;clear hb1
 by_cases c:lc=0
 case neg =>
  rw[if_neg c]at EL;obtain rfl:=EL.o
  have q:(lc != 0)=true:=by rw[bne_iff_ne];exact c
  go_wp2;go_ret2;exact⟨rfl,B1.o⟩
 subst c;rw[if_pos rfl]at EL;have y0:=HWi.o _ B1.o
 by_cases c:kd=1
 ·rw[if_pos c]at EL;obtain rfl:=EL.o
  have q:(kd != 1)=false:=by rw[c];rfl
  go_wp2;go_ret2;exact⟨rfl,B1.o⟩
 ·rw[if_neg c]at EL;obtain rfl:=EL.o
  have q:(kd != 1)=true:=by rw[bne_iff_ne];exact c
  go_wp2;go_ret2;exact⟨rfl,B1.o⟩
theorem yacw(v:Value)(ns:List Ino)(ds:List Den)(s:ByteArray)(size:Int)(w:World)(h:RdIm w v ns ds)(hi:zbo ns ds=true)(hs:s.size<=65536) :
  zC 183 #[v,.string s,.I size] w fun e w'=>zru w w' e (cuI ns ds s size):=by
 have LL:=zaa (fun w1 (hb:zB w w1)=>zhz v ns ds s w1 (h.below hb) hi hs);have EL:=zaa (show cuI ns ds s size=if (flI ns ds s).2=0 then cuF ns (flI ns ds s).1 size else([],(flI ns ds s).2)from rfl);have LO:=zaa (fun c=>zgp (s:=s) (zbv.1 hi) c);obtain⟨l16,l24,_⟩:=zao hi;have L16:=zaa l16;obtain⟨vW,vP,rfl,h1,h2⟩:=h;obtain⟨aW,cW,rfl,_,hcW⟩:=h1.shape;obtain⟨aP,cP,rfl,_,hcP⟩:=h2.shape;obtain⟨bW,oW,rfl,hblW,hcellW⟩:=hcW (by omega)
 have HM:Hid (∀ k,k<16->∀ w',zB w w'->∀ j,j<8->w'.cell? ⟨bW,oW+k*11+3+j,none⟩=some (.I ((zal ns k).map.getD j 0))):=fun k hk w' hb j hj=>by
  rw[zcc (by omega:k<ns.length)];obtain⟨a0,a1,a2,a3,a4,a5,a6,a7,a8,a9,a10⟩:=hcellW k (by omega)
  rcases(show j=0\/j=1\/j=2\/j=3\/j=4\/j=5\/j=6\/j=7 by omega)with rfl|rfl|rfl|rfl|rfl|rfl|rfl|rfl
  ·exact(hb.cell (p:=⟨bW,oW+k*11+3,none⟩) hblW).trans a3
  ·exact(hb.cell (p:=⟨bW,oW+k*11+4,none⟩) hblW).trans a4
  ·exact(hb.cell (p:=⟨bW,oW+k*11+5,none⟩) hblW).trans a5
  ·exact(hb.cell (p:=⟨bW,oW+k*11+6,none⟩) hblW).trans a6
  ·exact(hb.cell (p:=⟨bW,oW+k*11+7,none⟩) hblW).trans a7
  ·exact(hb.cell (p:=⟨bW,oW+k*11+8,none⟩) hblW).trans a8
  ·exact(hb.cell (p:=⟨bW,oW+k*11+9,none⟩) hblW).trans a9
  ·exact(hb.cell (p:=⟨bW,oW+k*11+10,none⟩) hblW).trans a10
 clear h1 h2 hi hs hcW hcP hcellW l16 l24
 obtain⟨W,hW⟩:=zE (w.alloc (.cells #[.slice (some ⟨bW,oW,none⟩) ns.length cW,.slice aP ds.length cP] 26))
 have CA:Hid (∀ w',zB W w'->w'.cell? ⟨w.heap.size,0,none⟩=some (.slice (some ⟨bW,oW,none⟩) ns.length cW)/\w'.cell? ⟨w.heap.size,1,none⟩=some (.slice aP ds.length cP)):=fun w' hb=>by
  have:w'.heap[w.heap.size]?=some (.cells #[.slice (some ⟨bW,oW,none⟩) ns.length cW,.slice aP ds.length cP] 26 (0,0)):=(hb.block _ (by rw[hW];simp)).trans (by rw[hW];exact zai rfl);exact⟨(zad this).1,(zad this).2.1⟩
 have BW:Hid (zB w W):=by rw[hW];exact zR.alloc zL _
 obtain⟨x0,x1⟩:=CA.o _ zR
 have hz:w.heap.size<W.heap.size:=by rw[hW];simp
 generalize cuI ns ds s size=res at *;generalize flI ns ds s=lr at *;obtain⟨li,lc⟩:=lr;simp only at EL LO LL;go_enter Tryz.func183,Tryz.ntmps183;go_wp2_with fail;rw[<- hW];clear hW x0 x1;refine(LL.o _ BW.o).mono ?_;rintro e w1 ⟨rfl,hb1⟩;have A1:=zaa hb1;have B1:=zaa (zab BW.o A1.o BW.o.size);clear hb1 LL
 by_cases c:lc=0
 case neg =>
  rw[if_neg c]at EL;obtain rfl:=EL.o
  have q:(lc != 0)=true:=by rw[bne_iff_ne];exact c
  clear EL LO c;go_wp2;go_ret2;exact zck B1.o
 subst c;rw[if_pos rfl]at EL;obtain⟨i,i16,ei,-⟩:=LO.o rfl;subst ei;have EC:=zaa (show cuF ns (i:Int) size=if 0<=size/\size<=8 then(cuU (zal ns i).map (i:Int) size.toNat 8,0) else([],4)from rfl);rw[EC.o]at EL;have HMi:=zaa (HM.o i i16)
 have i1:i<ns.length:=by have:=L16.o;omega
 have i0:(0:Int)<=(i:Int):=by omega
 have il:(i:Int)<(ns.length:Int):=by omega
 have ir:0<=(i:Int)/\(i:Int)<16:=by omega
 clear HM EC LO L16
 by_cases c:0<=size/\size<=8
 case neg =>
  rw[if_neg c]at EL;obtain rfl:=EL.o;clear EL;go_wp2_with fail;refine(zfi _ _ _ _ c).mono ?_;rintro e w' ⟨rfl,hw'⟩;subst w';go_wp2;go_ret2;exact zck B1.o
 rw[if_pos c]at EL
 obtain⟨n,rfl⟩:∃ n:Nat,size=(n:Int):=⟨size.toNat,by omega⟩
 rw[Int.toNat_natCast]at EL
 have n8:n<=8:=by omega
 generalize (zal ns i).map=zs at *;go_wp2_with fail;refine(zbi _ _ _ _ c).mono ?_;rintro e w' ⟨rfl,hw'⟩;subst w';clear c;go_wp2_with (go_at_call 56;refine(zay _ _ _ ir (by omega)).mono ?_;rintro e w' ⟨rfl,hw'⟩;subst w')
 have ST:Hid (UpI W (w1.alloc (.cells #[.I (48+12*(i:Int)+1),.I (n:Int)] 208)) (.slice (some ⟨w1.heap.size,0,none⟩) 1 1) (cuU zs (i:Int) n n)):=by
  unfold Hid cuU;rw[yadc];exact⟨World.ownsRow_lit w1 _ 1 A1.o.size (by simp[maxLen]) rfl,A1.o.alloc A1.o.size _⟩
 go_loopw [10,11] (fun vL k wr=>∃ m:Nat,n<=m/\m<=8/\k=.I (m:Int)/\Hid (UpI W wr vL (cuU zs (i:Int) n m))) (fun _ k _=>8-(intOf k).toNat)
 case atStart=>exact⟨n,Nat.le_refl _,n8,rfl,ST⟩
 case round =>
  obtain⟨m,hm,hm8,rfl,J⟩:=hrel;clear ST A1 B1;obtain⟨x0,x1⟩:=CA.o _ J.o.b;have JW:=zaa (zab BW.o J.o.b BW.o.size);have hzj:W.heap.size<=wr.heap.size:=J.o.z
  have m0:(0:Int)<=(m:Int):=by omega
  by_cases hlt:m<8
  ·have m1:(m:Int)<8:=by omega
   have e0:=HMi.o wr JW.o m hlt;have YES:=zaa (fun e=>yaqe (zs:=zs) (i:=(i:Int)) (n:=n) (k:=m) hm e);have NO:=zaa (fun e=>yark (zs:=zs) (i:=(i:Int)) (n:=n) (k:=m) e)
   have hlen:(cuU zs (i:Int) n m).length<=9:=by
    have:=zyh zs (i:Int) n m
    show(cuT zs (i:Int) n m).length+1<=9
    omega
   generalize zs.getD m 0=z at e0 YES NO
   by_cases q:z=0
   ·have q':(z != 0)=false:=by rw[q];rfl
    have G:Hid (UpI W wr u10 (cuU zs (i:Int) n (m+1))):=by
     unfold Hid cuU;rw[NO.o q];exact J.o
    clear q J YES NO;go_wp2
    go_roundw
    case rel=>exact⟨m+1,by omega,by omega,by go_num,G⟩
    case measure=>simp[intOf];omega
   ·have q':(z != 0)=true:=by rw[bne_iff_ne];exact q
    have JB:Hid (UpI W (wr.alloc (.cells #[.I (48+12*(i:Int)+(3+(m:Int))),.I 0] 208)) u10 (cuU zs (i:Int) n m)):=J.o.below (zR.alloc zL _);have RB:=zaa (zir wr (48+12*(i:Int)+(3+(m:Int))) 0);have hzb:=JB.o.z
    have MN:Hid (cuU zs (i:Int) n (m+1)=cuU zs (i:Int) n m++[⟨48+12*(i:Int)+(3+(m:Int)),0⟩]):=by
     unfold Hid cuU;rw[YES.o q];rfl
    have mr:0<=3+(m:Int)/\3+(m:Int)<11:=by omega
    clear q J YES NO;go_wp2_with fail;refine(zay _ _ _ ir mr).mono ?_;rintro e w' ⟨rfl,hw'⟩;subst w';go_wp2_with (at_builtin;refine zaf _ rfl (.tmp 45) (.tmp 51) 189 rfl W.heap.size 208 (.agg #[.I 0,.I 0]) 2 16 Tryz.underlying189 zkv rfl (by decide) _ _ _ rfl JB.o.l _ 1 _ rfl RB.o (zff _) (by first | omega | (simp[maxLen];omega)) (by first | omega | (simp;omega)) hzb ?_);intro vN wN hownN hgrN;have G:=zaa (JB.o.grow [⟨48+12*(i:Int)+(3+(m:Int)),0⟩] hownN hgrN);rw[<- MN.o]at G;clear hownN hgrN JB RB;go_wp2
    go_roundw
    case rel=>exact⟨m+1,by omega,by omega,by go_num,G⟩
    case measure=>simp[intOf];omega
  ·obtain rfl:m=8:=by omega
   obtain rfl:=EL.o;obtain⟨-,aN,cN,hvN,-⟩:=(zac J.o.l).rd;subst hvN;go_wp2;go_ret2;exact⟨_,rfl,(zac J.o.l).wide (by omega) zL,JW.o⟩
def znq:List Int:=(((List.replicate 336 (0:Int)).set 0 7).set 48 2).set 50 1
theorem yafq:znq.length=336:=by kernel_rfl
theorem yacc:zbq znq 16=⟨2,0,1,0,0,0,0,0,0,0,0⟩::List.replicate 15 zhe:=by kernel_rfl
theorem yacm:zcm znq 24=true:=by kernel_rfl
theorem yabp:zby znq 24=List.replicate 24 freeD:=by kernel_rfl
theorem yahe:zbo (⟨2,0,1,0,0,0,0,0,0,0,0⟩::List.replicate 15 zhe) (List.replicate 24 freeD)=true:=by kernel_rfl
theorem yamu:Wi znq (⟨2,0,1,0,0,0,0,0,0,0,0⟩::List.replicate 15 zhe) (List.replicate 24 freeD) :=
 ⟨yafq,by kernel_rfl,yacm,yacc,yabp,zbv.1 yahe⟩
def wrW(ls:List Int)(ns:List Ino)(x:Int):List Int:=if 0<=fpI ns then ls.set (312+fpI ns).toNat x else ls
theorem yaos(ls:List Int)(ns:List Ino)(x:Int):zon (ls,[]) (wrS ns x)=(wrW ls ns x,[]):=by
 unfold wrS wrW
 by_cases c:0<=fpI ns
 ·rw[if_pos c,if_pos c];exact zik [up (312+fpI ns) x] ls
 ·rw[if_neg c,if_neg c];rfl
theorem yaov(ls:List Int)(ns:List Ino)(x:Int):(wrW ls ns x).length=ls.length:=by
 unfold wrW
 split
 ·rw[List.length_set]
 ·rfl
theorem yanp{ls:List Int}{ns:List Ino}{x:Int}(hl:ls.length=336){z:Int}(hz:0<=z/\z<312):wdI (wrW ls ns x) z=wdI ls z:=by
 unfold wrW
 by_cases c:0<=fpI ns
 ·rw[if_pos c];obtain⟨k,hk,e,-⟩:=zcw c;have e':fpI ns=(k:Int):=e;rw[zdx (by omega) (by rw[e'];omega) (by omega),if_neg (by omega)]
 ·rw[if_neg c]
theorem yakh{ls:List Int}{ns:List Ino}{ds:List Den}(h:Wi ls ns ds)(c0:wdI ls 8=0){s:ByteArray}{page x:Int}{l:List Mi}(e:wrI ns ds s page x=(l,0)) :
  ∃ i p:Nat,∃ ls',i<16/\p<8/\(flI ns ds s).1=(i:Int)/\page=(p:Int)/\zon (ls,[]) l=(ls',[])/\wdI ls' 8=0/\Wi ls' (ns.set i (inoM (zal ns i).kind (if (p:Int)<(zal ns i).size then(zal ns i).size else(p:Int)+1) (zal ns i).links ((zal ns i).map.set p (wrE ns)))) ds:=by
 unfold wrI at e
 by_cases c:(flI ns ds s).2=0
 ·rw[if_pos c]at e;obtain⟨i,hi,ei,k⟩:=zgp h.img c;rw[ei]at e;unfold wrF at e
  by_cases d:(0<=page/\page<8)/\zbz x=true
  ·rw[if_pos d]at e
   by_cases f:fpI ns<0/\fsI ns<0
   ·rw[if_pos f]at e;simp at e
   ·rw[if_neg f]at e
    obtain⟨p,rfl⟩:∃ p:Nat,page=(p:Int):=⟨page.toNat,by omega⟩
    have hp:p<8:=by omega
    obtain⟨te,he,new⟩:=yagp f
    have l1:(wrW ls ns x).length=336:=by rw[yaov];exact h.len
    have h1:Wi (wrW ls ns x) ns ds:=zre h l1 (fun z hz=>yanp h.len (by omega));have q:=zrd h1 hi k hp te he new
    have c1:wdI (wrW ls ns x) 8=0:=by rw[yanp h.len (by omega)];exact c0
    have sz:zdl ns (i:Int)=(zal ns i).size:=by unfold zdl;rw[Int.toNat_natCast]
    rw[sz]at e;obtain⟨rfl,-⟩:=Prod.mk.inj e;refine⟨i,p,zng (wrW ls ns x) (wrU (i:Int) (p:Int) (zal ns i).size (wrE ns)),hi,hp,ei,rfl,?_,zod l1 c1,yajn l1 ?_ q.1 q.2⟩
    ·rw[zdb,yaos,zvw]
    ·unfold wrU
     split<;>simp
  ·rw[if_neg d]at e;simp at e
 ·rw[if_neg c]at e;exact absurd (Prod.mk.inj e).2 c
theorem zqm{i:Nat}(hi:i<16){f:Int}(hf:0<=f/\f<11)(x:Int):UpIn [⟨48+12*(i:Int)+f,x⟩]:=fun u hu=>by
 rw[List.mem_singleton.1 hu];exact⟨by show 48<=48+12*(i:Int)+f;omega,by show 48+12*(i:Int)+f<312;omega⟩
theorem yamp{ws:List Ino}{ps:List Den}{s:ByteArray}{kind:Int}{us:List Se}(h:Img ws ps)(e:mkI ws ps s kind=(us,0)):UpIn us/\us.length<=16:=by
 unfold mkI at e
 by_cases c:(paI ws ps s).2.2=0
 ·rw[if_pos c]at e;unfold mkN at e
  split at e
  ·simp at e
  ·split at e
   ·simp at e
   ·rename_i f1
    split at e
    ·simp at e
    ·rename_i f2;obtain⟨rfl,-⟩:=Prod.mk.inj e;obtain⟨i,ei,hi,-⟩:=zwn h f1;obtain⟨k,ek,hk,-⟩:=zsa h f2;rw[ei,ek];unfold mkU;refine⟨UpIn.app (fun u hu=>?_) (zoo hk _),by simp[enL]⟩
     rcases List.mem_cons.1 hu with rfl | hu
     ·exact⟨by show 48<=48+12*(i:Int);omega,by show 48+12*(i:Int)<312;omega⟩
     ·exact zqm hi (by omega) 1 u hu
 ·rw[if_neg c]at e;exact absurd (Prod.mk.inj e).2 c
theorem yasc{i:Nat}(hi:i<16)(x:Ino){k:Nat}(hk:k<=8):UpIn (wrL (i:Int) x k):=by
 unfold wrL;refine UpIn.app (fun u hu=>?_) (fun u hu=>?_)
 ·simp only[List.mem_cons,List.not_mem_nil,or_false]at hu
  rcases hu with rfl|rfl|rfl
  ·exact⟨by show 48<=48+12*(i:Int);omega,by show 48+12*(i:Int)<312;omega⟩
  ·exact⟨by show 48<=48+12*(i:Int)+1;omega,by show 48+12*(i:Int)+1<312;omega⟩
  ·exact⟨by show 48<=48+12*(i:Int)+2;omega,by show 48+12*(i:Int)+2<312;omega⟩
 ·obtain⟨j,hj,rfl⟩:=List.mem_map.1 hu;have:=List.mem_range.1 hj;exact⟨by show 48<=48+12*(i:Int)+(3+(j:Int));omega,by show 48+12*(i:Int)+(3+(j:Int))<312;omega⟩
theorem yasv{ws:List Ino}{ps:List Den}{s:ByteArray}{us:List Se}(h:Img ws ps)(e:rmI ws ps s=(us,0)):UpIn us/\us.length<=16:=by
 unfold rmI at e
 by_cases c:(paI ws ps s).2.2=0
 ·rw[if_pos c]at e;unfold rmN at e
  cases q:zbj ps (paI ws ps s).1 (paI ws ps s).2.1 with
  | none=>rw[q]at e;simp at e
  | some k =>
   rw[q]at e;simp only at e;obtain⟨hk,i,ei,_,hi,-⟩:=zkt h q;unfold rmC at e
   split at e
   ·simp at e
   ·obtain⟨rfl,-⟩:=Prod.mk.inj e;rw[ei];unfold rmU
    split
    ·exact⟨UpIn.app (zoo hk _) (zqm hi (by omega) _),by simp[enL]⟩
    ·exact⟨UpIn.app (zoo hk _) (yasc hi _ zL),by rw[List.length_append,zxt];simp[enL]⟩
 ·rw[if_neg c]at e;exact absurd (Prod.mk.inj e).2 c
theorem yaro{ws:List Ino}{ps:List Den}{s t:ByteArray}{us:List Se}(h:Img ws ps)(e:lnI ws ps s t=(us,0)):UpIn us/\us.length<=16:=by
 unfold lnI at e
 by_cases c0:(lkI ws ps s).2=0
 ·rw[if_pos c0]at e
  split at e
  ·simp at e
  ·rename_i kk;obtain⟨i,ei,hi,_,_⟩:=zlg h c0 kk;unfold lnP at e
   by_cases c:(paI ws ps t).2.2=0
   ·rw[if_pos c]at e;unfold lnN at e
    split at e
    ·simp at e
    ·split at e
     ·simp at e
     ·rename_i f2;obtain⟨rfl,-⟩:=Prod.mk.inj e;obtain⟨k,ek,hk,-⟩:=zsa h f2;rw[ei,ek];exact⟨UpIn.app (zoo hk _) (zqm hi (by omega) _),by simp[enL]⟩
   ·rw[if_neg c]at e;exact absurd (Prod.mk.inj e).2 c
 ·rw[if_neg c0]at e;exact absurd (Prod.mk.inj e).2 c0
theorem yare{ws:List Ino}{ps:List Den}{s t:ByteArray}{us:List Se}(h:Img ws ps)(e:rnI ws ps s t=(us,0)):UpIn us/\us.length<=16:=by
 unfold rnI at e
 by_cases c:(paI ws ps s).2.2=0
 ·rw[if_pos c]at e;unfold rnE at e
  cases q:zbj ps (paI ws ps s).1 (paI ws ps s).2.1 with
  | none=>rw[q]at e;simp at e
  | some k =>
   rw[q]at e;simp only at e;obtain⟨hk,-⟩:=zkt h q;unfold rnP at e
   by_cases d:(paI ws ps t).2.2=0
   ·rw[if_pos d]at e;unfold rnN at e
    split at e
    ·simp at e
    ·split at e
     ·simp at e
     ·obtain⟨rfl,-⟩:=Prod.mk.inj e;exact⟨zoo hk _,by simp[enL]⟩
   ·rw[if_neg d]at e;exact absurd (Prod.mk.inj e).2 d
 ·rw[if_neg c]at e;exact absurd (Prod.mk.inj e).2 c
theorem yamd{ls:List Int}{ns:List Ino}{ds:List Den}(h:Wi ls ns ds)(c0:wdI ls 8=0){us:List Se}(ui:UpIn us/\us.length<=16){ns':List Ino}{ds':List Den}(q:Wi (zco ls us) ns' ds') :
  ∃ ls',zon (ls,[]) (zdh (zdq us))=(ls',[])/\wdI ls' 8=0/\Wi ls' ns' ds' :=
 ⟨zng ls us,zvw ls us,zod h.len c0,yajn h.len ui.2 ui.1 q⟩
def siC(ws:List Ino)(ps:List Den)(s:ByteArray):Int:=if 65536<s.size then 2 else if zbo ws ps=true then spC s else 1
def siL(ws:List Ino)(ps:List Den)(s:ByteArray):List ByteArray:=if zbo ws ps=true then spR s else[]
theorem zuk{s:ByteArray}:∀ k (h:k<(spL s).length),1<=(spL s)[k].size:=by
 intro k hk;have hm:(spL s)[k]∈spL s:=List.getElem_mem hk;generalize (spL s)[k]=x at hm;unfold spL at hm
 split at hm
 ·cases hm
 ·split at hm
  ·rename_i h;unfold spN at h;simp only[Bool.and_eq_true,List.all_eq_true]at h;exact(zes (h.2.2 x hm)).1
  ·cases hm
theorem yaqv(ws:List Ino)(ps:List Den)(s:ByteArray):(¬ siC ws ps s=0->lkR ws ps s=(0,siC ws ps s)/\paR ws ps s=(0,⟨#[]⟩,siC ws ps s))/\(siC ws ps s=0->zbo ws ps=true/\siL ws ps s=spL s/\lkR ws ps s=wk ws ps 0 (spL s)/\paR ws ps s=paL ws ps (spL s)):=by
 unfold siC lkR paR siL
 by_cases c1:65536<s.size
 ·rw[if_pos c1,if_pos c1,if_pos c1];exact⟨fun _=>⟨rfl,rfl⟩,fun h=>by cases h⟩
 ·rw[if_neg c1,if_neg c1,if_neg c1]
  by_cases c2:zbo ws ps=true
  ·rw[if_pos c2,if_pos c2,if_pos c2,if_pos c2];obtain⟨X1,X2⟩:=zsl c1;unfold lkI paI
   cases c3:spB s with
   | false =>
    obtain⟨e1,e2⟩:=X2 c3;rw[e1,e2];exact⟨fun _=>⟨rfl,rfl⟩,fun h=>by cases h⟩
   | true =>
    obtain⟨e1,e2⟩:=X1 c3;rw[e1,e2];exact⟨fun h=>absurd rfl h,fun _=>⟨c2,rfl,rfl,rfl⟩⟩
  ·rw[if_neg c2,if_neg c2,if_neg c2,if_neg c2];exact⟨fun _=>⟨rfl,rfl⟩,fun h=>by cases h⟩
theorem znz(v:Value)(ws:List Ino)(ps:List Den)(s:ByteArray)(w:World)(h:RdIm w v ws ps)(hw:ws.length<=1048576)(hp:ps.length<=1048576)(hT:TS w)(hE:ED w)(hF:FD w)(hr:∀ k (h:k<ws.length),ws[k].R)(hs:∀ k (h:k<ps.length),ps[k].name.size<=maxLen) :
  zC 24 #[v,.string s] w fun e w'=>∃ v',e=.returned (.tuple #[v',.I (siC ws ps s)])/\RdT w' v' (siL ws ps s)/\zB w w':=by
 have HR:=zaa h;have LI:=zaa (fun w1 (hb:zB w w1)=>zdo v ws ps w1 (h.below hb) hw hp (hT.below hb) (hE.below hb) (hF.below hb) hr hs);have LS:=zaa (fun w1=>zec s w1);have EC:=zaa (show siC ws ps s=if 65536<s.size then 2 else if zbo ws ps=true then spC s else 1 from rfl);have EL:=zaa (show siL ws ps s=if zbo ws ps=true then spR s else[]from rfl);have XL:=zaa (fun h=>yaid (s:=s) h)
 have X0:Hid (¬ 65536<s.size->¬ spC s=2):=fun h=>by
  obtain⟨X1,X2⟩:=zsl h
  cases c:spB s
  ·rw[(X2 c).1];decide
  ·rw[(X1 c).1];decide
 obtain⟨vW,vP,rfl,h1,h2⟩:=h;obtain⟨aW,cW,rfl,_,_⟩:=h1.shape;obtain⟨aP,cP,rfl,_,_⟩:=h2.shape;clear h1 h2 hr hs hT hE hF
 have CA:Hid (∀ w',Below (w.alloc (.cells #[.slice aW ws.length cW,.slice aP ps.length cP] 26)).heap.size (w.alloc (.cells #[.slice aW ws.length cW,.slice aP ps.length cP] 26)) w'->w'.cell? ⟨w.heap.size,0,none⟩=some (.slice aW ws.length cW)/\w'.cell? ⟨w.heap.size,1,none⟩=some (.slice aP ps.length cP)):=fun w' hb=>by
  have:w'.heap[w.heap.size]?=some (.cells #[.slice aW ws.length cW,.slice aP ps.length cP] 26 (0,0)):=(hb.block _ (by simp)).trans (zai rfl);exact⟨(zad this).1,(zad this).2.1⟩
 have BW:Hid (zB w (w.alloc (.cells #[.slice aW ws.length cW,.slice aP ps.length cP] 26))):=zR.alloc zL _;generalize siC ws ps s=sc at *;generalize siL ws ps s=sl at *
 by_cases c1:65536<s.size
 ·obtain⟨e1,e2⟩:=XL.o c1;rw[if_pos c1]at EC
  have E2:Hid (sl=[]):=by unfold Hid;rw[EL.o,e2];split<;>rfl
  rw[e1,e2]at LS;obtain rfl:=EC.o;obtain rfl:=E2.o;clear EC EL E2 c1 e1 e2;go_enter Tryz.func24,Tryz.ntmps24;go_wp2_with fail;refine(LS.o _).mono ?_;rintro e w1 ⟨v1,rfl,hr1,hb1⟩;have B1:=zaa (zab BW.o hb1 BW.o.size);have R1:Hid (RdT w1 v1 []):=hr1.rd;clear hr1 hb1;go_wp2;go_ret2;exact⟨_,rfl,R1.o,B1.o⟩
 have q2:Hid ((spC s != 2)=true):=by unfold Hid;rw[bne_iff_ne];exact X0.o c1
 rw[if_neg c1]at EC;clear XL X0 c1;generalize spC s=cc at *;generalize spR s=rr at *;have q3:=q2.o
 cases c3:zbo ws ps with
 | false =>
  rw[c3]at EC EL LI;obtain rfl:=EC.o;obtain rfl:=EL.o;clear EC EL c3;go_enter Tryz.func24,Tryz.ntmps24;go_wp2_with fail;refine(LS.o _).mono ?_;rintro e w1 ⟨v1,rfl,hr1,hb1⟩;have B1:=zaa (zab BW.o hb1 BW.o.size);obtain⟨x0,x1⟩:=CA.o _ hb1;clear hr1 hb1;go_wp2_with fail;refine(LI.o _ B1.o).mono ?_;rintro e w2 ⟨rfl,hb2⟩;have B2:=zaa (zab B1.o hb2 B1.o.size);clear hb2 x0 x1;go_wp2;go_ret2;exact⟨_,rfl,yajq _,B2.o⟩
 | true =>
  rw[c3]at EC EL LI;obtain rfl:sc=cc:=EC.o;obtain rfl:sl=rr:=EL.o;clear EC EL c3;go_enter Tryz.func24,Tryz.ntmps24;go_wp2_with fail;refine(LS.o _).mono ?_;rintro e w1 ⟨v1,rfl,hr1,hb1⟩;have B1:=zaa (zab BW.o hb1 BW.o.size);have R1:Hid (RdT w1 v1 sl):=hr1.rd;obtain⟨x0,x1⟩:=CA.o _ hb1;clear hr1 hb1;go_wp2_with fail;refine(LI.o _ B1.o).mono ?_;rintro e w2 ⟨rfl,hb2⟩;have B2:=zaa (zab B1.o hb2 B1.o.size);have R2:Hid (RdT w2 v1 sl):=Rd.below R1.o hb2;clear hb2 x0 x1;go_wp2;go_ret2;exact⟨_,rfl,R2.o,B2.o⟩
theorem zox(v:Value)(ws:List Ino)(ps:List Den)(s:ByteArray)(w:World)(h:RdIm w v ws ps)(hw:ws.length<=1048576)(hp:ps.length<=1048576)(hT:TS w)(hE:ED w)(hF:FD w)(hr:∀ k (h:k<ws.length),ws[k].R)(hs:∀ k (h:k<ps.length),ps[k].name.size<=maxLen) :
  zC 7 #[v,.string s] w fun e w'=>e=.returned (.tuple #[.I (lkR ws ps s).1,.I (lkR ws ps s).2])/\zB w w':=by
 have HR:=zaa h;have LS:=zaa (fun w1 (hb:zB w w1)=>znz v ws ps s w1 (h.below hb) hw hp (hT.below hb) (hE.below hb) (hF.below hb) hr hs);have LG:=zaa (fun vL w1 h hL hi=>zpm v vL ws ps (spL s) w1 h hL hi (by have:=@zoj s;omega) zuk);obtain⟨NO,YES⟩:=yaqv ws ps s;have NO:=zaa NO;have YES:=zaa YES;obtain⟨vW,vP,rfl,h1,h2⟩:=h;obtain⟨aW,cW,rfl,_,_⟩:=h1.shape;obtain⟨aP,cP,rfl,_,_⟩:=h2.shape;clear h1 h2 hr hs hT hE hF
 have CA:Hid (∀ w',Below (w.alloc (.cells #[.slice aW ws.length cW,.slice aP ps.length cP] 26)).heap.size (w.alloc (.cells #[.slice aW ws.length cW,.slice aP ps.length cP] 26)) w'->w'.cell? ⟨w.heap.size,0,none⟩=some (.slice aW ws.length cW)/\w'.cell? ⟨w.heap.size,1,none⟩=some (.slice aP ps.length cP)):=fun w' hb=>by
  have:w'.heap[w.heap.size]?=some (.cells #[.slice aW ws.length cW,.slice aP ps.length cP] 26 (0,0)):=(hb.block _ (by simp)).trans (zai rfl);exact⟨(zad this).1,(zad this).2.1⟩
 have BW:Hid (zB w (w.alloc (.cells #[.slice aW ws.length cW,.slice aP ps.length cP] 26))):=zR.alloc zL _;obtain⟨x0,x1⟩:=CA.o _ zR;generalize siC ws ps s=sc at *;generalize siL ws ps s=sl at *;generalize lkR ws ps s=res at *;generalize paR ws ps s=res2 at *
 by_cases c:sc=0
 ·obtain⟨c1,rfl,rfl,_⟩:=YES.o c;have C1:=zaa c1;subst c;clear NO YES c1;generalize wk ws ps 0 (spL s)=r1 at *;go_enter Tryz.func7,Tryz.ntmps7;go_wp2_with fail;refine(LS.o _ BW.o).mono ?_;rintro e w1 ⟨v1,rfl,hr1,hb1⟩;have B1:=zaa (zab BW.o hb1 BW.o.size);have R1:=zaa hr1;clear x0 x1;obtain⟨x0,x1⟩:=CA.o _ hb1;clear hr1 hb1;go_wp2_with fail;refine(LG.o _ _ (HR.o.below B1.o) R1.o C1.o).mono ?_;rintro e w2 ⟨rfl,hb2⟩;have B2:=zaa (zab B1.o hb2 B1.o.size);clear hb2 x0 x1;go_wp2;go_ret2;exact⟨rfl,B2.o⟩
 ·obtain⟨rfl,_⟩:=NO.o c
  have q:(sc != 0)=true:=by rw[bne_iff_ne];exact c
  clear NO YES c;go_enter Tryz.func7,Tryz.ntmps7;go_wp2_with fail;refine(LS.o _ BW.o).mono ?_;rintro e w1 ⟨v1,rfl,hr1,hb1⟩;have B1:=zaa (zab BW.o hb1 BW.o.size);clear hr1 hb1 x0 x1;go_wp2;go_ret2;exact⟨rfl,B1.o⟩
end Go.Proofs.YtfagbapgnocjiaaGreatDoor
