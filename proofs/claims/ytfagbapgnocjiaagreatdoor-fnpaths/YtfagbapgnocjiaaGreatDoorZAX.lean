import Derived.Test.YtfagbapgnocjiaaGreatDoorZAU
set_option maxRecDepth 100000
set_option maxHeartbeats 8000000
namespace Go.Proofs.YtfagbapgnocjiaaGreatDoor
open Go.RowKit
theorem zsv{ws:List Ino}{ps:List Den}(h:zbo ws ps=true){j:Nat}(hj:j<ps.length)(hc:1<=ps[j].child):ps[j].name.size<=6:=by
 rcases zdg h j hj with r | r
 ·omega
 ·have:=r.2.2.1;unfold nmB at this;exact(of_decide_eq_true this).2.1
theorem yagn(ws:List Ino)(ps:List Den)(n:Nat)(d:Int)(hd:ByteArray)(ns:List ByteArray)(m:Nat):(ztp ws ps n d hd (ns.take m)).length<=(ztp ws ps n d hd ns).length:=by
 have e:ztp ws ps n d hd ns=ztp ws ps n d hd (ns.take m)++ztp ws ps n d hd (ns.drop m):=by
  unfold ztp;rw[<- List.flatMap_append,List.take_append_drop]
 rw[e,List.length_append];omega
theorem OutI.row{W w:World}{b0 lo:Nat}{v:Value}{ss:List ByteArray}(h:OutI W w b0 v ss)(hr:Row w 9 1 lo w.heap.size (.slice (some ⟨b0,0,none⟩) 0 0) 0 [])(hl:lo<=W.heap.size):Row w 9 1 lo w.heap.size v ss.length (zcs ss):=by
 rcases h with ⟨rfl,rfl,_⟩ | ⟨h,_⟩
 ·exact hr
 ·exact(zac h.l).wide hl zL
theorem zut(a b:ByteArray):(a++⟨#[47]⟩++b).size=a.size+1+b.size:=by
 rw[ByteArray.size_append,ByteArray.size_append];rfl
theorem zsw{ws:List Ino}{ps:List Den}(hi:zbo ws ps=true):∀ (n kd:Nat) (d:Int) (hd:ByteArray) (v:Value) (w:World),kd+n=16->dep ps kd d->(0<=d/\d<=15)->zag ws d=2->hd.size<=7*kd->RdIm w v ws ps ->
  zC 23 #[v,.I d,.string hd] w fun e w'=>∃ v',e=.returned v'/\Row w' 9 1 w.heap.size w'.heap.size v' (zrg ws ps n d hd).length (zcs (zrg ws ps n d hd))/\zB w w':=by
 intro n
 induction n with
 | zero=>intro kd d hd v w hkn hdep h0 hk;exact absurd (zna hi h0 hk hdep) (by omega)
 | succ n IH =>
 intro kd d hd v w hkn hdep hd0 hkd hhd h;have HR:=zaa h;have LE:=zaa (fun nm w1 h=>zdf v ws ps d nm w1 h (by have:=(zao hi).2.1;omega));have LN:=zaa (fun w1 h=>zgu v ws ps d w1 h (by have:=(zao hi).2.1;omega));have LP:=zaa (fun(j:Nat) (hj:j<ps.length) (e:ps[j].dir=d) (c:1<=ps[j].child/\ps[j].child<=15) (q:zag ws ps[j].child=2) s w1 (hs:s.size<=7*(kd+1)) h=>IH (kd+1) ps[j].child s v w1 (by omega) (zgl hi hj c q (by rw[e];exact hdep)) (by omega) q hs h);have NE:=zaa (fun nm (hm:nm∈zbk (zaw ps d))=>yaam hi hm)
 have LEN:=zaa (fun(m:Nat) (hm:m<=(zbk (zaw ps d)).length)=>show(ztp ws ps n d hd ((zbk (zaw ps d)).take m)).length<=24 from by
  refine Nat.le_trans ?_ (zrl hi (n+1) kd d hd hdep);rw[yaaj]
  exact yagn ws ps n d hd _ m)
 have SUCC:=zaa (fun(m:Nat) (hm:m<(zbk (zaw ps d)).length)=>yaej ws ps n d hd hm);have ALL:=zaa (yaaj ws ps n d hd);have Z0:=zaa (yaia ws ps n d hd (zbk (zaw ps d)));have NSZ:=zaa (fun(j:Nat) (hj:j<ps.length) (c:1<=ps[j].child)=>zsv hi hj c);have PL:=zaa (fun(j:Nat) (hj:j<ps.length) (e:ps[j].dir=d) (c:1<=ps[j].child/\ps[j].child<=15) (q:zag ws ps[j].child=2) s=>zrl hi n (kd+1) ps[j].child s (zgl hi hj c q (by rw[e];exact hdep)));clear IH;obtain⟨vW,vP,rfl,h1,h2⟩:=h;obtain⟨aW,cW,rfl,_,hcW⟩:=h1.shape;obtain⟨aP,cP,rfl,_,hcP⟩:=h2.shape;have L16:=zaa (zao hi).1;have L24:=zaa (zao hi).2.1;obtain⟨bW,oW,rfl,hblW,hcellW⟩:=hcW (by have:=L16.o;omega);obtain⟨bP,oP,rfl,hblP,hcellP⟩:=hcP (by have:=L24.o;omega)
 have HW:Hid (∀ w',zB w w'->∀ n:Nat,n<16->w'.cell? ⟨bW,oW+n*11,none⟩=some (.I (zag ws n))):=fun w' hb n hn=>by
  have hnl:n<ws.length:=by have:=L16.o;omega
  rw[zbc hnl];exact(hb.cell (p:=⟨bW,oW+n*11,none⟩) hblW).trans (hcellW n hnl).1
 have HP:Hid (∀ w',zB w w'->∀ k (h:k<ps.length),w'.cell? ⟨bP,oP+k*3+2,none⟩=some (.I ps[k].child)):=fun w' hb k hk=>(hb.cell (p:=⟨bP,oP+k*3+2,none⟩) hblP).trans (hcellP k hk).2.2
 clear h1 h2 hcW hcP hcellW hcellP hi hdep hkd
 obtain⟨W,hW⟩:=zE ((w.alloc (.cells #[.slice (some ⟨bW,oW,none⟩) ws.length cW,.slice (some ⟨bP,oP,none⟩) ps.length cP] 26)).alloc (.cells #[] 9))
 have hz1:W.heap.size=w.heap.size+1+1:=by rw[hW];simp
 have CA:Hid (∀ w',zB W w'->w'.cell? ⟨w.heap.size,0,none⟩=some (.slice (some ⟨bW,oW,none⟩) ws.length cW)/\w'.cell? ⟨w.heap.size,1,none⟩=some (.slice (some ⟨bP,oP,none⟩) ps.length cP)):=fun w' hb=>by
  have:w'.heap[w.heap.size]?=some (.cells #[.slice (some ⟨bW,oW,none⟩) ws.length cW,.slice (some ⟨bP,oP,none⟩) ps.length cP] 26 (0,0)):=(hb.block _ (by omega)).trans (by rw[hW];exact zak (zai rfl));exact⟨(zad this).1,(zad this).2.1⟩
 have R0:Hid (Row W 9 1 w.heap.size W.heap.size (.slice (some ⟨w.heap.size+1,0,none⟩) 0 0) 0 []):=by
  have:=zmx (w.alloc (.cells #[.slice (some ⟨bW,oW,none⟩) ws.length cW,.slice (some ⟨bP,oP,none⟩) ps.length cP] 26));rw[<- hW,World.size_alloc]at this;exact this.wide (by omega) zL
 have BW:Hid (zB w W):=by rw[hW];exact(zR.alloc zL _).alloc (by simp) _
 have hz:w.heap.size<=W.heap.size:=BW.o.size;obtain⟨x0,x1⟩:=CA.o W zR;go_enter Tryz.func23,Tryz.ntmps23;go_wp2_with fail;rw[<- hW];clear hW hz1;refine(LN.o _ (HR.o.below BW.o)).mono ?_;rintro e w1 ⟨vN,rfl,hrN,hbN⟩
 have hNS:(zbk (zaw ps d)).length<=24:=by
  rw[zex,<- L24.o];exact zte ps d
 generalize zbk (zaw ps d)=NS at *;have RN:Hid (RdT w1 vN NS):=hrN.rd;have BN:=zaa hbN;obtain⟨aN,cN,rfl,_,hcN⟩:=RN.o.shape;have HN:=zaa hcN;have hzN:W.heap.size<=w1.heap.size:=hbN.size;clear hrN hbN hcN LN x0 x1;have START:Hid (OutI w1 w1 (w.heap.size+1) (.slice (some ⟨w.heap.size+1,0,none⟩) 0 0) (ztp ws ps n d hd (NS.take 0))):=.inl ⟨rfl,Z0.o,zR⟩;clear Z0;go_wp2_with fail
 go_loopg [7,9] NS.length (fun g o i wr=>∃ k:Nat,k+g=NS.length/\i=.I k/\Hid (OutI w1 wr (w.heap.size+1) o (ztp ws ps n d hd (NS.take k))))
 case atStart=>exact⟨0,by omega,rfl,START.o⟩
 case round =>
  obtain⟨k,hk,rfl,J⟩:=hrel;clear START
  have k0:(0:Int)<=(k:Int):=by omega
  have B1:=zaa J.o.b;have BB:=zaa (zab BW.o (zab BN.o B1.o hzN) hz)
  by_cases hlt:k<NS.length
  ·have k1:(k:Int)<(NS.length:Int):=by omega
   obtain⟨bN,oN,rfl,hblN,hcell⟩:=HN.o (by omega)
   have CN:Hid (∀ w',zB w1 w'->w'.cell? ⟨bN,oN+k,none⟩=some (.string NS[k])):=fun w' hb=>(hb.cell (p:=⟨bN,oN+k,none⟩) hblN).trans (hcell k hlt)
   obtain⟨j,hj,ej,ed,en,ec,c1,c2⟩:=NE.o NS[k] (List.getElem_mem hlt);have SU:=zaa (SUCC.o k hlt);rw[ec]at SU;have nsz:=NSZ.o j hj c1;rw[en]at nsz
   have EI:Hid (zjr ps d NS[k]=(j:Int)):=by unfold Hid zjr;rw[ej]
   have LE2:=zaa (fun w2 (hb:zB w w2)=>LE.o NS[k] w2 (HR.o.below hb));rw[EI.o]at LE2;have HJ:=zaa (fun w' (hb:zB w w')=>HP.o w' hb j hj);have LP2:=zaa (fun(q:zag ws ps[j].child=2) s w2 hs (hb:zB w w2)=>LP.o j hj ed ⟨c1,c2⟩ q s w2 hs (HR.o.below hb));have PL2:=zaa (fun(q:zag ws ps[j].child=2) s=>PL.o j hj ed ⟨c1,c2⟩ q s);have l1:=LEN.o k (by omega);clear hcell NE LE LP PL NSZ LEN SUCC EI ej ed en ec HP
   have j0:(0:Int)<=(j:Int):=by omega
   have j1:(j:Int)<(ps.length:Int):=by omega
   obtain⟨y,hy⟩:∃ y:Nat,ps[j].child=(y:Int):=⟨ps[j].child.toNat,by omega⟩
   rw[hy]at SU HJ LP2 PL2 c1 c2;clear hy
   have y0:(0:Int)<=(y:Int):=by omega
   have y1:(y:Int)<(ws.length:Int):=by have:=L16.o;omega
   have HK:=zaa (fun w' (hb:zB w w')=>HW.o w' hb y (by omega));clear HW;generalize NS[k]=nm at *
   obtain⟨p,hp⟩:=zE (hd++⟨#[47]⟩++nm)
   have psz:p.size<=7*(kd+1):=by rw[hp,zut];omega
   have SP:=zaa hp;rw[<- hp]at SU;generalize ztp ws ps n d hd (NS.take k)=P at *;obtain⟨bO,cO,rfl⟩:=J.o.form;have JB:=zaa (J.o.below (zR.alloc zL (.cells #[.string p] 9)));have RB:=zaa (zfw wr p);have n0:=CN.o wr B1.o;subst hp;go_wp2_with (at_builtin;refine zfr rfl (.tmp 29) (.tmp 31) rfl rfl JB.o rfl RB.o (.inr (by simp)) (by simp;omega) ?_);intro vA wA OA0;have OA:=zaa OA0;clear OA0 SP;generalize hd++⟨#[47]⟩++nm=p at *;obtain⟨bA,cA,rfl⟩:=OA.o.form
   have hl:(P++[p]).length=P.length+1:=by simp
   rw[hl]at OA;clear hl;have A1:=zaa OA.o.b;have AB:=zaa (zab BW.o (zab BN.o A1.o hzN) hz)
   have SK:Hid (∀ w',zB wA w'->((w'.cell? ⟨w.heap.size,0,none⟩=some (.slice (some ⟨bW,oW,none⟩) ws.length cW)/\w'.cell? ⟨w.heap.size,1,none⟩=some (.slice (some ⟨bP,oP,none⟩) ps.length cP))/\w'.cell? ⟨bN,oN+k,none⟩=some (.string nm))/\w'.cell? ⟨bP,oP+j*3+2,none⟩=some (.I (y:Int))):=fun w' hb=>⟨⟨CA.o w' (zab BN.o (zab A1.o hb A1.o.size) hzN),CN.o w' (zab A1.o hb A1.o.size)⟩,HJ.o w' (zab AB.o hb AB.o.size)⟩
   have LE3:=zaa (fun w2 (hb:zB wA w2)=>LE2.o w2 (zab AB.o hb AB.o.size));clear n0 JB RB J LE2 HJ;obtain⟨⟨⟨x0,x1⟩,n1⟩,m0⟩:=SK.o wA zR;go_wp2_with fail
   go_region_held3 (fun w'=>((w'.cell? ⟨w.heap.size,0,none⟩=some (.slice (some ⟨bW,oW,none⟩) ws.length cW)/\w'.cell? ⟨w.heap.size,1,none⟩=some (.slice (some ⟨bP,oP,none⟩) ps.length cP))/\w'.cell? ⟨bN,oN+k,none⟩=some (.string nm))/\w'.cell? ⟨bP,oP+j*3+2,none⟩=some (.I (y:Int)))
    (exact SK.o _ (by repeat (first | with_reducible exact BF.o | with_reducible exact zR | with_reducible refine Below.drew ?_)))
    (first
     | (go_at_call 50;refine(LE3.o _ (by repeat (first | with_reducible exact BF.o | with_reducible exact zR | with_reducible refine Below.drew ?_))).mono ?_;rintro e w2 ⟨rfl,hb1⟩;have BF:Hid (zB wA w2):=(by first | exact hb1 | exact zab (by repeat (first | with_reducible exact BF.o | with_reducible exact zR | with_reducible refine Below.drew ?_)) hb1 zL);clear hb1))
   all_goals
    have B3:=zaa (zab AB.o BF.o AB.o.size);have ky:=HK.o _ B3.o;obtain⟨⟨⟨y2,y3⟩,_⟩,_⟩:=SK.o _ BF.o;have O2:=zaa (OA.o.below BF.o);clear SK x0 x1 n1 m0 OA LE3 HK
    by_cases q:zag ws (y:Int)=2
    ·rw[if_pos q]at SU;rw[q]at ky;have LP3:=zaa (LP2.o q p _ psz B3.o);have l2:=PL2.o q p;clear LP2 PL2 q;go_wp2_with fail;refine LP3.o.mono ?_;rintro e w3 ⟨v3,rfl,hr3,hb3⟩;have O3:=zaa (O2.o.below hb3);have R3:Hid (RdT w3 v3 (zrg ws ps n (y:Int) p)):=hr3.rd;obtain⟨a3,c3,rfl,_⟩:=R3.o.shape;clear O2 hr3 hb3 LP3 ky y2 y3 B3 BF;generalize zrg ws ps n (y:Int) p=L at *;go_wp2_with (at_builtin;refine zfr rfl (.tmp 52) (.tmp 56) rfl rfl O3.o rfl R3.o (.inl (by simp)) (by simp;omega) ?_);intro vB wB OB0
     have OB:Hid (OutI w1 wB (w.heap.size+1) vB (ztp ws ps n d hd (NS.take (k+1)))):=by unfold Hid;rw[SU.o,List.append_assoc];exact OB0
     clear OB0 O3 R3 SU;go_wp2
     go_roundg (NS.length-(k+1))
     case measure=>omega
     case rel=>exact⟨k+1,by omega,by go_num,OB.o⟩
    ·rw[if_neg q,List.append_nil]at SU
     have OB:Hid (OutI w1 w2 (w.heap.size+1) (.slice (some ⟨bA,0,none⟩) (P.length+1) cA) (ztp ws ps n d hd (NS.take (k+1)))):=by unfold Hid;rw[SU.o];exact O2.o
     have q1:(zag ws (y:Int) == 2)=false:=by rw[beq_eq_false_iff_ne];exact q
     clear O2 SU LP2 PL2;go_wp2
     go_roundg (NS.length-(k+1))
     case measure=>omega
     case rel=>exact⟨k+1,by omega,by go_num,OB.o⟩
  ·obtain rfl:k=NS.length:=by omega
   rw[List.take_length,<- ALL.o]at J;have RF:=zaa (J.o.row (R0.o.below (zab BN.o B1.o hzN) zL |>.wide zL (by have:=B1.o.size;omega)) (by omega));clear J ALL SUCC LEN NE LE LP PL NSZ HW HP HN CA;go_wp2;go_ret;exact⟨_,rfl,RF.o,BB.o⟩
theorem zdi(v:Value)(ws:List Ino)(ps:List Den)(s:ByteArray)(w:World)(h:RdIm w v ws ps)(hi:zbo ws ps=true)(hs:s.size<=65536) :
  zC 187 #[v,.string s] w fun e w'=>e=.returned (.tuple #[.I (paI ws ps s).1,.string (paI ws ps s).2.1,.I (paI ws ps s).2.2])/\zB w w':=by
 have HR:=zaa h;have LS:=zaa (fun w1=>zko s w1 hs);have LW:=zaa (fun vL ns w1 h hL hn=>znb v vL ws ps ns w1 h hL hi hn);have WR:=zaa (fun ns=>zjm hi ns 0 (by omega));have SL:=zaa (@zoj s);have EL:=zaa (show paI ws ps s=if spB s=true then paL ws ps (spL s) else(0,⟨#[]⟩,12)from rfl);have L16:=zaa (zao hi).1;obtain⟨vW,vP,rfl,h1,h2⟩:=h;obtain⟨aW,cW,rfl,_,hcW⟩:=h1.shape;obtain⟨aP,cP,rfl,_,_⟩:=h2.shape;obtain⟨bW,oW,rfl,hblW,hcellW⟩:=hcW (by have:=L16.o;omega)
 have HW:Hid (∀ w',zB w w'->∀ n:Nat,n<16->w'.cell? ⟨bW,oW+n*11,none⟩=some (.I (zag ws n))):=fun w' hb n hn=>by
  have hnl:n<ws.length:=by have:=L16.o;omega
  rw[zbc hnl];exact(hb.cell (p:=⟨bW,oW+n*11,none⟩) hblW).trans (hcellW n hnl).1
 clear h1 h2 hi hcW hcellW
 have CA:Hid (∀ w',Below (w.alloc (.cells #[.slice (some ⟨bW,oW,none⟩) ws.length cW,.slice aP ps.length cP] 26)).heap.size (w.alloc (.cells #[.slice (some ⟨bW,oW,none⟩) ws.length cW,.slice aP ps.length cP] 26)) w'->w'.cell? ⟨w.heap.size,0,none⟩=some (.slice (some ⟨bW,oW,none⟩) ws.length cW)/\w'.cell? ⟨w.heap.size,1,none⟩=some (.slice aP ps.length cP)):=fun w' hb=>by
  have:w'.heap[w.heap.size]?=some (.cells #[.slice (some ⟨bW,oW,none⟩) ws.length cW,.slice aP ps.length cP] 26 (0,0)):=(hb.block _ (by simp)).trans (zai rfl);exact⟨(zad this).1,(zad this).2.1⟩
 have BW:Hid (zB w (w.alloc (.cells #[.slice (some ⟨bW,oW,none⟩) ws.length cW,.slice aP ps.length cP] 26))):=zR.alloc zL _;generalize hres:paI ws ps s=res at *;clear hres
 cases c:spB s with
 | false =>
  rw[c]at LS EL;obtain rfl:=EL.o;clear EL LW;go_enter Tryz.func187,Tryz.ntmps187;go_wp2_with fail;refine(LS.o _).mono ?_;rintro e w1 ⟨v1,rfl,hr1,hb1⟩;have B1:=zaa (zab BW.o hb1 BW.o.size);clear hr1 hb1;go_wp2;go_ret3;exact⟨rfl,B1.o⟩
 | true =>
 rw[c]at LS EL;have EL2:Hid (res=paL ws ps (spL s)):=EL;clear EL c;generalize spL s=ns at *
 by_cases c1:ns=[]
 ·subst c1;obtain rfl:=EL2.o;clear EL2 LW;go_enter Tryz.func187,Tryz.ntmps187;go_wp2_with fail;refine(LS.o _).mono ?_;rintro e w1 ⟨v1,rfl,hr1,hb1⟩;have B1:=zaa (zab BW.o hb1 BW.o.size);obtain⟨aL,cL,rfl,_,_⟩:=hr1.shape;clear hr1 hb1;simp only[List.length_nil];go_wp2;go_ret3;exact⟨rfl,B1.o⟩
 obtain⟨xs,x,rfl⟩:=zxj c1;rw[zly]at EL2;clear c1;have EP:=zaa (show paN ws ps xs x=if (wk ws ps 0 xs).2=0 then(if zag ws (wk ws ps 0 xs).1=2 then((wk ws ps 0 xs).1,x,0) else(0,⟨#[]⟩,10)) else(0,⟨#[]⟩,(wk ws ps 0 xs).2)from rfl);rw[EP.o]at EL2;clear EP;have sl:=SL.o;rw[List.length_append,List.length_cons,List.length_nil,Nat.zero_add]at sl;have wr1:=WR.o xs;have LW2:=zaa (fun vL w1 h hL=>LW.o vL xs w1 h hL (by omega))
 obtain⟨z,hz⟩:∃ z:Nat,(wk ws ps 0 xs).1=(z:Int):=⟨((wk ws ps 0 xs).1).toNat,by omega⟩
 have z16:z<16:=by omega
 rw[hz]at EL2 LW2;clear LW WR SL wr1 hz;generalize (wk ws ps 0 xs).2=wc at *;go_enter Tryz.func187,Tryz.ntmps187;go_wp2_with fail;refine(LS.o _).mono ?_;rintro e w1 ⟨v1,rfl,hr1,hb1⟩;have B1:=zaa (zab BW.o hb1 BW.o.size);have BA:=zaa hb1;have hbn:(w.alloc (.cells #[.slice (some ⟨bW,oW,none⟩) ws.length cW,.slice aP ps.length cP] 26)).heap.size<=w1.heap.size:=hb1.size;obtain⟨x0,x1⟩:=CA.o _ hb1;have R1:=zaa hr1;obtain⟨aL,cL,rfl,hcap,hcL⟩:=hr1.shape;obtain⟨b,o,rfl,hbl,hcell⟩:=hcL (by rw[List.length_append];simp)
 have hx:w1.cell? ⟨b,o+xs.length,none⟩=some (.string x):=by
  have:=hcell xs.length (by rw[List.length_append];simp);simpa using this
 have RT:Hid (RdT w1 (.slice (some ⟨b,o,none⟩) xs.length cL) xs):=by
  have:=zlf R1.o (m:=xs.length) (by rw[List.length_append];omega);rw[List.take_left]at this;exact this
 rw[List.length_append,List.length_cons,List.length_nil,Nat.zero_add]at hcap;simp only[List.length_append,List.length_cons,List.length_nil,Nat.zero_add];clear hr1 hb1 hcL hcell R1 LS;generalize xs.length=n at *
 have n0:(((n+1:Nat):Int) == 0)=false:=by rw[beq_eq_false_iff_ne];omega
 have nw:IntKind.i64.wrap (((n+1:Nat):Int)-1)=(n:Int):=by
  rw[show(((n+1:Nat):Int)-1)=(n:Int) by omega,IntKind.wrap_i64];omega
 have ncap:(n:Int)<=(cL:Int):=by omega
 have nw2:IntKind.i64.wrap ((n:Int)+1-1)=(n:Int):=by rw[IntKind.wrap_i64];omega
 have nw3:IntKind.i64.wrap (n:Int)=(n:Int):=by rw[IntKind.wrap_i64];omega
 have nn0:(0:Int)<=(n:Int):=by omega
 have nn1:(n:Int)<((n+1:Nat):Int):=by omega
 have nn2:(n:Int)<(n:Int)+1:=by omega
 have z0:(0:Int)<=(z:Int):=by omega
 have z1:(z:Int)<(ws.length:Int):=by have:=L16.o;omega
 have SK:Hid (∀ w',zB w1 w'->w'.cell? ⟨w.heap.size,0,none⟩=some (.slice (some ⟨bW,oW,none⟩) ws.length cW)/\w'.cell? ⟨w.heap.size,1,none⟩=some (.slice aP ps.length cP)):=fun w' hb=>CA.o w' (zab BA.o hb hbn)
 have HX:Hid (∀ w',zB w1 w'->w'.cell? ⟨b,o+n,none⟩=some (.string x)):=fun w' hb=>(hb.cell (p:=⟨b,o+n,none⟩) hbl).trans hx
 have LW3:=zaa (fun w2 (hb:zB w1 w2)=>LW2.o _ w2 (HR.o.below (zab B1.o hb B1.o.size)) (Rd.below RT.o hb));clear LW2 RT hx
 by_cases q:wc=0
 case neg =>
  rw[if_neg q]at EL2;obtain rfl:=EL2.o
  have q1:(wc != 0)=true:=by rw[bne_iff_ne];exact q
  clear EL2 q;go_wp2_with fail
  go_region_held3 (fun w'=>w'.cell? ⟨w.heap.size,0,none⟩=some (.slice (some ⟨bW,oW,none⟩) ws.length cW)/\w'.cell? ⟨w.heap.size,1,none⟩=some (.slice aP ps.length cP))
   (exact SK.o _ (by repeat (first | exact BF.o | exact zR | refine Below.drew ?_)))
   (first
    | (go_at_call 167;refine(LW3.o _ (by repeat (first | exact zR | refine Below.drew ?_))).mono ?_;rintro e w2 ⟨rfl,hb2⟩;have BF:Hid (zB w1 w2):=(by first | exact hb2 | exact zab (by repeat (first | exact zR | refine Below.drew ?_)) hb2 zL);clear hb2))
  all_goals
   have B3:=zaa (zab B1.o BF.o B1.o.size);clear SK x0 x1;go_wp2;go_ret3;exact⟨rfl,(by repeat (first | exact B3.o | refine Below.drew ?_))⟩
 rw[if_pos q]at EL2;subst q;have HZ:=zaa (fun w' hb=>HW.o w' hb z z16)
 by_cases r:zag ws z=2
 case neg =>
  rw[if_neg r]at EL2;obtain rfl:=EL2.o
  have r1:(zag ws z != 2)=true:=by rw[bne_iff_ne];exact r
  clear EL2 r;generalize zag ws z=kz at *;go_wp2_with fail
  go_region_held3 (fun w'=>w'.cell? ⟨w.heap.size,0,none⟩=some (.slice (some ⟨bW,oW,none⟩) ws.length cW)/\w'.cell? ⟨w.heap.size,1,none⟩=some (.slice aP ps.length cP))
   (exact SK.o _ (by repeat (first | exact BF.o | exact zR | refine Below.drew ?_)))
   (first
    | (go_at_call 167;refine(LW3.o _ (by repeat (first | exact zR | refine Below.drew ?_))).mono ?_;rintro e w2 ⟨rfl,hb2⟩;have BF:Hid (zB w1 w2):=(by first | exact hb2 | exact zab (by repeat (first | exact zR | refine Below.drew ?_)) hb2 zL);clear hb2))
  all_goals
   have B3:=zaa (zab B1.o BF.o B1.o.size);clear x0 x1;obtain⟨x0,x1⟩:=SK.o _ BF.o;have y0:=HZ.o _ B3.o;clear SK;go_wp2;go_ret3;exact⟨rfl,(by repeat (first | exact B3.o | refine Below.drew ?_))⟩
 rw[if_pos r]at EL2;obtain rfl:=EL2.o
 have r1:(zag ws z != 2)=false:=by rw[r];rfl
 clear EL2 r;generalize zag ws z=kz at *;go_wp2_with fail
 go_region_held3 (fun w'=>w'.cell? ⟨w.heap.size,0,none⟩=some (.slice (some ⟨bW,oW,none⟩) ws.length cW)/\w'.cell? ⟨w.heap.size,1,none⟩=some (.slice aP ps.length cP))
  (exact SK.o _ (by repeat (first | exact BF.o | exact zR | refine Below.drew ?_)))
  (first
   | (go_at_call 167;refine(LW3.o _ (by repeat (first | exact zR | refine Below.drew ?_))).mono ?_;rintro e w2 ⟨rfl,hb2⟩;have BF:Hid (zB w1 w2):=(by first | exact hb2 | exact zab (by repeat (first | exact zR | refine Below.drew ?_)) hb2 zL);clear hb2))
 all_goals
  have B3:=zaa (zab B1.o BF.o B1.o.size);clear x0 x1;obtain⟨x0,x1⟩:=SK.o _ BF.o;have y0:=HZ.o _ B3.o;have hx:=HX.o _ BF.o;clear SK;go_wp2_with fail
  go_region_held3 (fun w'=>w'.cell? ⟨b,o+n,none⟩=some (.string x))
   (exact HX.o _ (by repeat (first | exact BF.o | refine Below.drew ?_)))
   (fail)
  all_goals
   go_wp2;go_ret3;exact⟨rfl,(by repeat (first | exact B3.o | refine Below.drew ?_))⟩
end Go.Proofs.YtfagbapgnocjiaaGreatDoor
