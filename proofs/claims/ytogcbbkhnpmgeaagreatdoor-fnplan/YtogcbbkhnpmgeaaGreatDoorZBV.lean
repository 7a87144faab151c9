import Derived.Test.YtogcbbkhnpmgeaaGreatDoorZBT
set_option maxRecDepth 100000
set_option maxHeartbeats 16000000
namespace Go.Proofs.YtogcbbkhnpmgeaaGreatDoor
open Go.RowKit
theorem zvj(vd v:Value)(ws:List Int)(ps:List St)(es:List Int)(qs:List Se)(ns:List Ino)(ds:List Den)(i p:Nat)(w:World)(hd:RdDev w vd ws ps es qs)(hP:pmB ws ps=true)(hB:zfp es qs=true)(h:RdIm w v ns ds)(hi:zbg ns ds=true)(i16:i<16)(p8:p<8) :
  zC 107 #[vd,v,.I (i:Int),.I (p:Int)] w fun e w'=>zsz w w' e (deF ns (enI ns (i:Int) (p:Int)) (pgV ws ps es qs (enI ns (i:Int) (p:Int))) (i:Int) (p:Int)):=by
 have TE:zer (enI ns (i:Int) (p:Int))=true:=by
  unfold enI;rw[Int.toNat_natCast,Int.toNat_natCast];exact yaot hi i16 p
 have LV:=zaa (fun w1 (hb:zB w w1)=>zju vd ws ps es qs (enI ns (i:Int) (p:Int)) w1 (hd.below hb) hP hB TE);obtain⟨z0,z1⟩:=zeq TE;obtain⟨l16,l24,_⟩:=zas hi
 have TR:∀ k (h:k<ns.length),∀ z∈ns[k].map,0<=z/\z<=1048576:=fun k hk z hz=>by
  have t:=(zfs ((zbs.1 hi).ok k (by omega))).1 z (by rw[zca hk];exact hz);exact zeq t
 have LF:Hid (∀ w1,zB w w1->zC 141 #[v,.I 2,.I 32] w1 fun e w'=>e=.returned (.I (fsI ns))/\zB w1 w'):=fun w1 hb=>zib v ns ds 2 32 w1 (h.below hb) (by omega) TR (by omega)
 have L16:=zaa l16
 have F1:Hid (0<=fsI ns->∃ k:Nat,k<32/\fsI ns=(k:Int)):=fun c=>by
  obtain⟨k,a,b,-⟩:=zdt c;exact⟨k,a,b⟩
 have EL:=zaa (fun x=>show deF ns (enI ns (i:Int) (p:Int)) x (i:Int) (p:Int)=if enI ns (i:Int) (p:Int)=0\/¬ enI ns (i:Int) (p:Int)%4=1 then([],5)else if fsI ns<0 then([],7) else(deS ns x++swL (i:Int) (p:Int) (4*fsI ns+2),0)from rfl);obtain⟨vW,vP,rfl,h1,h2⟩:=h;obtain⟨aW,cW,rfl,_,hcW⟩:=h1.shape;obtain⟨aP,cP,rfl,_,hcP⟩:=h2.shape;obtain⟨bW,oW,rfl,hblW,hcellW⟩:=hcW (by omega)
 have HM:Hid (∀ w',zB w w'->w'.cell? ⟨bW,oW+i*11+3+p,none⟩=some (.I (enI ns (i:Int) (p:Int)))):=fun w' hb=>by
  unfold enI;rw[Int.toNat_natCast,Int.toNat_natCast,zca (by have:=L16.o;omega:i<ns.length)];obtain⟨a0,a1,a2,a3,a4,a5,a6,a7,a8,a9,a10⟩:=hcellW i (by have:=L16.o;omega)
  rcases(show p=0\/p=1\/p=2\/p=3\/p=4\/p=5\/p=6\/p=7 by omega)with rfl|rfl|rfl|rfl|rfl|rfl|rfl|rfl
  ·exact(hb.cell (p:=⟨bW,oW+i*11+3,none⟩) hblW).trans a3
  ·exact(hb.cell (p:=⟨bW,oW+i*11+4,none⟩) hblW).trans a4
  ·exact(hb.cell (p:=⟨bW,oW+i*11+5,none⟩) hblW).trans a5
  ·exact(hb.cell (p:=⟨bW,oW+i*11+6,none⟩) hblW).trans a6
  ·exact(hb.cell (p:=⟨bW,oW+i*11+7,none⟩) hblW).trans a7
  ·exact(hb.cell (p:=⟨bW,oW+i*11+8,none⟩) hblW).trans a8
  ·exact(hb.cell (p:=⟨bW,oW+i*11+9,none⟩) hblW).trans a9
  ·exact(hb.cell (p:=⟨bW,oW+i*11+10,none⟩) hblW).trans a10
 obtain⟨dW,eW,dP,eP,dS,eS,dQ,eQ,rfl,-,-⟩:=hd.form
 have i1:(i:Int)<(ns.length:Int):=by have:=L16.o;omega
 have i0:(0:Int)<=(i:Int):=by omega
 have p0:(0:Int)<=(p:Int):=by omega
 have p1:(p:Int)<8:=by omega
 clear h1 h2 hi hcW hcP hcellW l16 l24 TR hd hP hB L16 TE
 obtain⟨W0,hW0⟩:=zE (w.alloc (.cells #[.slice dW ws.length eW,.slice dP ps.length eP,.slice dS es.length eS,.slice dQ qs.length eQ] 31))
 obtain⟨W,hW⟩:=zE (W0.alloc (.cells #[.slice (some ⟨bW,oW,none⟩) ns.length cW,.slice aP ds.length cP] 51))
 have z0':W0.heap.size=w.heap.size+1:=by rw[hW0];simp
 have CA:Hid (∀ w',zB W w'->w'.cell? ⟨w.heap.size+1,0,none⟩=some (.slice (some ⟨bW,oW,none⟩) ns.length cW)/\w'.cell? ⟨w.heap.size+1,1,none⟩=some (.slice aP ds.length cP)):=fun w' hb=>by
  have:w'.heap[w.heap.size+1]?=some (.cells #[.slice (some ⟨bW,oW,none⟩) ns.length cW,.slice aP ds.length cP] 51 (0,0)):=(hb.block _ (by rw[hW];simp;omega)).trans (by rw[hW,<- z0'];exact zaf rfl);exact⟨(zac this).1,(zac this).2.1⟩
 have CD:Hid (∀ w',zB W w'->w'.cell? ⟨w.heap.size,0,none⟩=some (.slice dW ws.length eW)/\w'.cell? ⟨w.heap.size,1,none⟩=some (.slice dP ps.length eP)/\w'.cell? ⟨w.heap.size,2,none⟩=some (.slice dS es.length eS)/\w'.cell? ⟨w.heap.size,3,none⟩=some (.slice dQ qs.length eQ)):=fun w' hb=>by
  have:w'.heap[w.heap.size]?=some (.cells #[.slice dW ws.length eW,.slice dP ps.length eP,.slice dS es.length eS,.slice dQ qs.length eQ] 31 (0,0)):=(hb.block _ (by rw[hW];simp;omega)).trans (by
   rw[hW]
   exact(((Below.refl W0.heap.size W0).alloc zL _).block _ (by omega)).trans (by rw[hW0];exact zaf rfl))
  obtain⟨a,b,c,d,-⟩:=zaq this;exact⟨a,b,c,d⟩
 have BW:Hid (zB w W):=by rw[hW,hW0];exact(zR.alloc zL _).alloc (by simp) _
 generalize enI ns (i:Int) (p:Int)=e at *;generalize pgV ws ps es qs e=x at *;have EL1:=zaa (EL.o x);have te:Int.tmod e 4=e%4:=Int.tmod_eq_emod_of_nonneg z0;clear EL z0';generalize deF ns e x (i:Int) (p:Int)=res at *;obtain⟨x0,x1⟩:=CA.o _ zR;have e0:=HM.o _ BW.o;go_enter Tryz.func107,Tryz.ntmps107;go_upto_region 1 with fail;rw[<- hW0,<- hW];clear hW hW0
 by_cases c1:e=0
 ·rw[if_pos (.inl c1)]at EL1;obtain rfl:=EL1.o;subst c1;clear EL1 LV LF;go_wp2;go_ret2;exact zhc BW.o rfl
 have q1:(e == 0)=false:=by rw[beq_eq_false_iff_ne];exact c1
 by_cases c2:e%4=1
 case neg =>
  rw[if_pos (.inr c2)]at EL1;obtain rfl:=EL1.o
  have q2:(e%4 != 1)=true:=by rw[bne_iff_ne];exact c2
  clear EL1 LV LF c1 c2;go_wp2;go_ret2;exact zhc BW.o rfl
 have q2:(e%4 != 1)=false:=by rw[bne_eq_false_iff_eq];exact c2
 rw[if_neg (fun h=>h.elim c1 (fun h=>h c2))]at EL1;clear c1 c2;go_wp2_with fail;refine(LF.o _ BW.o).mono ?_;rintro r w1 ⟨rfl,hb1⟩;have A1:=zaa hb1;have B1:=zaa (zab BW.o hb1 BW.o.size);clear hb1 x0 x1 e0 LF
 by_cases c:fsI ns<0
 ·rw[if_pos c]at EL1;obtain rfl:=EL1.o;generalize fsI ns=fr at *;clear EL1 LV F1;go_wp2;go_ret2;exact zhc B1.o rfl
 rw[if_neg c]at EL1;obtain⟨k,k1,ek⟩:=F1.o (by omega);have KS:=zaa ek;rw[ek]at EL1 ⊢
 have c':¬ (k:Int)<0:=by omega
 clear F1 c ek;obtain⟨x0,x1,x2,x3⟩:=CD.o _ A1.o;have EX:=zaa (show deS ns x=[⟨4,(k:Int),x⟩,⟨5,0,0⟩] by unfold deS;rw[KS.o]);rw[EX.o]at EL1;have l7:=yabs (i:Int) (p:Int) (4*(k:Int)+2);have LSw:=zaa (fun w1=>zoh (i:Int) (p:Int) (4*(k:Int)+2) w1 ⟨i0,by omega⟩ ⟨p0,p1⟩)
 have kr:0<=(k:Int)/\(k:Int)<32:=by omega
 clear EX KS;generalize swL (i:Int) (p:Int) (4*(k:Int)+2)=SW at *;go_wp2_with fail;refine(LV.o _ B1.o).mono ?_;rintro r w2 ⟨rfl,hb2⟩;have B2:=zaa (zab B1.o hb2 B1.o.size)
 have M2:Hid (MiI w (w2.alloc (.cells #[.I 4,.I (k:Int),.I x,.I 5,.I 0,.I 0] 82)) (.slice (some ⟨w2.heap.size,0,none⟩) 2 2) [⟨4,(k:Int),x⟩,⟨5,0,0⟩]):=⟨World.ownsRow_lit w2 _ 2 B2.o.size (by simp[maxLen]) rfl,B2.o.alloc B2.o.size _⟩
 clear hb2 x0 x1 x2 x3 LV;go_wp2_with fail;refine(zgs _ _ _ (by omega) kr).mono ?_;rintro r w' ⟨rfl,hw'⟩;subst w';go_wp2_with fail;refine(LSw.o _).mono ?_;rintro r w7 ⟨v7,rfl,hr7,hb7⟩;have M7:=zaa (M2.o.below hb7);have R7:=zaa hr7.rd;have hz7:=M7.o.z;clear hr7 hb7 M2 LSw;go_wp2_with (at_builtin;refine zae _ rfl (.tmp 41) (.tmp 46) 32 rfl w.heap.size 82 (.agg #[.I 0,.I 0,.I 0]) 3 24 Tryz.underlying32 zbp rfl (by decide) _ _ _ rfl M7.o.l _ _ _ rfl R7.o (zcj _) (by first | omega | (simp[maxLen];done) | (simp[maxLen];omega)) (by first | omega | (simp;done) | (simp;omega)) hz7 ?_);intro vT wT hownT hgrT;have M:=zaa (M7.o.grow SW hownT hgrT);obtain⟨-,aT,cT,hvT,-⟩:=(zad hownT).rd;subst hvT;obtain rfl:=EL1.o;clear hownT hgrT M7 R7 EL1;go_wp2;go_ret2;exact⟨_,rfl,zad M.o.l,M.o.b⟩
theorem ztc(vd v:Value)(ws:List Int)(ps:List St)(es:List Int)(qs:List Se)(ns:List Ino)(ds:List Den)(i p:Nat)(w:World)(hd:RdDev w vd ws ps es qs)(hP:pmB ws ps=true)(hB:zfp es qs=true)(h:RdIm w v ns ds)(hi:zbg ns ds=true)(i16:i<16)(p8:p<8) :
  zC 106 #[vd,v,.I (i:Int),.I (p:Int)] w fun e w'=>zsz w w' e (prF ns (enI ns (i:Int) (p:Int)) (pgV ws ps es qs (enI ns (i:Int) (p:Int))) (i:Int) (p:Int)):=by
 have TE:zer (enI ns (i:Int) (p:Int))=true:=by
  unfold enI;rw[Int.toNat_natCast,Int.toNat_natCast];exact yaot hi i16 p
 have LV:=zaa (fun w1 (hb:zB w w1)=>zju vd ws ps es qs (enI ns (i:Int) (p:Int)) w1 (hd.below hb) hP hB TE);obtain⟨z0,z1⟩:=zeq TE;obtain⟨l16,l24,_⟩:=zas hi
 have TR:∀ k (h:k<ns.length),∀ z∈ns[k].map,0<=z/\z<=1048576:=fun k hk z hz=>by
  have t:=(zfs ((zbs.1 hi).ok k (by omega))).1 z (by rw[zca hk];exact hz);exact zeq t
 have LF:Hid (∀ w1,zB w w1->zC 141 #[v,.I 1,.I 24] w1 fun e w'=>e=.returned (.I (fpI ns))/\zB w1 w'):=fun w1 hb=>zib v ns ds 1 24 w1 (h.below hb) (by omega) TR (by omega)
 have L16:=zaa l16
 have F1:Hid (0<=fpI ns->∃ k:Nat,k<24/\fpI ns=(k:Int)):=fun c=>by
  obtain⟨k,a,b,-⟩:=zdt c;exact⟨k,a,b⟩
 have EL:=zaa (fun x=>show prF ns (enI ns (i:Int) (p:Int)) x (i:Int) (p:Int)=if enI ns (i:Int) (p:Int)=0\/¬ enI ns (i:Int) (p:Int)%4=2 then([],5)else if fpI ns<0 then([],7) else(prS ns x++swL (i:Int) (p:Int) (4*fpI ns+1),0)from rfl);obtain⟨vW,vP,rfl,h1,h2⟩:=h;obtain⟨aW,cW,rfl,_,hcW⟩:=h1.shape;obtain⟨aP,cP,rfl,_,hcP⟩:=h2.shape;obtain⟨bW,oW,rfl,hblW,hcellW⟩:=hcW (by omega)
 have HM:Hid (∀ w',zB w w'->w'.cell? ⟨bW,oW+i*11+3+p,none⟩=some (.I (enI ns (i:Int) (p:Int)))):=fun w' hb=>by
  unfold enI;rw[Int.toNat_natCast,Int.toNat_natCast,zca (by have:=L16.o;omega:i<ns.length)];obtain⟨a0,a1,a2,a3,a4,a5,a6,a7,a8,a9,a10⟩:=hcellW i (by have:=L16.o;omega)
  rcases(show p=0\/p=1\/p=2\/p=3\/p=4\/p=5\/p=6\/p=7 by omega)with rfl|rfl|rfl|rfl|rfl|rfl|rfl|rfl
  ·exact(hb.cell (p:=⟨bW,oW+i*11+3,none⟩) hblW).trans a3
  ·exact(hb.cell (p:=⟨bW,oW+i*11+4,none⟩) hblW).trans a4
  ·exact(hb.cell (p:=⟨bW,oW+i*11+5,none⟩) hblW).trans a5
  ·exact(hb.cell (p:=⟨bW,oW+i*11+6,none⟩) hblW).trans a6
  ·exact(hb.cell (p:=⟨bW,oW+i*11+7,none⟩) hblW).trans a7
  ·exact(hb.cell (p:=⟨bW,oW+i*11+8,none⟩) hblW).trans a8
  ·exact(hb.cell (p:=⟨bW,oW+i*11+9,none⟩) hblW).trans a9
  ·exact(hb.cell (p:=⟨bW,oW+i*11+10,none⟩) hblW).trans a10
 obtain⟨dW,eW,dP,eP,dS,eS,dQ,eQ,rfl,-,-⟩:=hd.form
 have i1:(i:Int)<(ns.length:Int):=by have:=L16.o;omega
 have i0:(0:Int)<=(i:Int):=by omega
 have p0:(0:Int)<=(p:Int):=by omega
 have p1:(p:Int)<8:=by omega
 clear h1 h2 hi hcW hcP hcellW l16 l24 TR hd hP hB L16 TE
 obtain⟨W0,hW0⟩:=zE (w.alloc (.cells #[.slice dW ws.length eW,.slice dP ps.length eP,.slice dS es.length eS,.slice dQ qs.length eQ] 31))
 obtain⟨W,hW⟩:=zE (W0.alloc (.cells #[.slice (some ⟨bW,oW,none⟩) ns.length cW,.slice aP ds.length cP] 51))
 have z0':W0.heap.size=w.heap.size+1:=by rw[hW0];simp
 have CA:Hid (∀ w',zB W w'->w'.cell? ⟨w.heap.size+1,0,none⟩=some (.slice (some ⟨bW,oW,none⟩) ns.length cW)/\w'.cell? ⟨w.heap.size+1,1,none⟩=some (.slice aP ds.length cP)):=fun w' hb=>by
  have:w'.heap[w.heap.size+1]?=some (.cells #[.slice (some ⟨bW,oW,none⟩) ns.length cW,.slice aP ds.length cP] 51 (0,0)):=(hb.block _ (by rw[hW];simp;omega)).trans (by rw[hW,<- z0'];exact zaf rfl);exact⟨(zac this).1,(zac this).2.1⟩
 have CD:Hid (∀ w',zB W w'->w'.cell? ⟨w.heap.size,0,none⟩=some (.slice dW ws.length eW)/\w'.cell? ⟨w.heap.size,1,none⟩=some (.slice dP ps.length eP)/\w'.cell? ⟨w.heap.size,2,none⟩=some (.slice dS es.length eS)/\w'.cell? ⟨w.heap.size,3,none⟩=some (.slice dQ qs.length eQ)):=fun w' hb=>by
  have:w'.heap[w.heap.size]?=some (.cells #[.slice dW ws.length eW,.slice dP ps.length eP,.slice dS es.length eS,.slice dQ qs.length eQ] 31 (0,0)):=(hb.block _ (by rw[hW];simp;omega)).trans (by
   rw[hW]
   exact(((Below.refl W0.heap.size W0).alloc zL _).block _ (by omega)).trans (by rw[hW0];exact zaf rfl))
  obtain⟨a,b,c,d,-⟩:=zaq this;exact⟨a,b,c,d⟩
 have BW:Hid (zB w W):=by rw[hW,hW0];exact(zR.alloc zL _).alloc (by simp) _
 generalize enI ns (i:Int) (p:Int)=e at *;generalize pgV ws ps es qs e=x at *;have EL1:=zaa (EL.o x);have te:Int.tmod e 4=e%4:=Int.tmod_eq_emod_of_nonneg z0;clear EL z0';generalize prF ns e x (i:Int) (p:Int)=res at *;obtain⟨x0,x1⟩:=CA.o _ zR;have e0:=HM.o _ BW.o;go_enter Tryz.func106,Tryz.ntmps106;go_upto_region 1 with fail;rw[<- hW0,<- hW];clear hW hW0
 by_cases c1:e=0
 ·rw[if_pos (.inl c1)]at EL1;obtain rfl:=EL1.o;subst c1;clear EL1 LV LF;go_wp2;go_ret2;exact zhc BW.o rfl
 have q1:(e == 0)=false:=by rw[beq_eq_false_iff_ne];exact c1
 by_cases c2:e%4=2
 case neg =>
  rw[if_pos (.inr c2)]at EL1;obtain rfl:=EL1.o
  have q2:(e%4 != 2)=true:=by rw[bne_iff_ne];exact c2
  clear EL1 LV LF c1 c2;go_wp2;go_ret2;exact zhc BW.o rfl
 have q2:(e%4 != 2)=false:=by rw[bne_eq_false_iff_eq];exact c2
 rw[if_neg (fun h=>h.elim c1 (fun h=>h c2))]at EL1;clear c1 c2;go_wp2_with fail;refine(LF.o _ BW.o).mono ?_;rintro r w1 ⟨rfl,hb1⟩;have A1:=zaa hb1;have B1:=zaa (zab BW.o hb1 BW.o.size);clear hb1 x0 x1 e0 LF
 by_cases c:fpI ns<0
 ·rw[if_pos c]at EL1;obtain rfl:=EL1.o;generalize fpI ns=fr at *;clear EL1 LV F1;go_wp2;go_ret2;exact zhc B1.o rfl
 rw[if_neg c]at EL1;obtain⟨k,k1,ek⟩:=F1.o (by omega);have KS:=zaa ek;rw[ek]at EL1 ⊢
 have c':¬ (k:Int)<0:=by omega
 clear F1 c ek;obtain⟨x0,x1,x2,x3⟩:=CD.o _ A1.o
 have wpk:IntKind.i64.wrap (312+(k:Int))=312+(k:Int):=by rw[IntKind.wrap_i64];omega
 have EX:=zaa (show prS ns x=[⟨1,312+(k:Int),x⟩]++zbe [312+(k:Int)] by unfold prS;rw[KS.o];rfl);rw[EX.o]at EL1;have l7:=yabs (i:Int) (p:Int) (4*(k:Int)+1);have LSw:=zaa (fun w1=>zoh (i:Int) (p:Int) (4*(k:Int)+1) w1 ⟨i0,by omega⟩ ⟨p0,p1⟩)
 have kr:0<=(k:Int)/\(k:Int)<32:=by omega
 have l6:(zbe [312+(k:Int)]).length<=2:=zbo [312+(k:Int)];have LFl:=zaa (fun v w1 h=>zdq v [312+(k:Int)] w1 h (by simp) (by intro j h;simp at h;subst h;simp;omega));clear EX KS;generalize swL (i:Int) (p:Int) (4*(k:Int)+1)=SW at *;generalize zbe [312+(k:Int)]=FL at *;go_wp2_with fail;refine(LV.o _ B1.o).mono ?_;rintro r w2 ⟨rfl,hb2⟩;have B2:=zaa (zab B1.o hb2 B1.o.size);clear hb2 x0 x1 x2 x3 LV;go_wp2_with fail;refine(zdo _ _ _).mono ?_;rintro r w4 ⟨rfl,hb4⟩;have B4:=zaa (zab B2.o hb4 B2.o.size)
 have M4:Hid (MiI w (w4.alloc (.cells #[.I 1,.I (312+(k:Int)),.I x] 82)) (.slice (some ⟨w4.heap.size,0,none⟩) 1 1) [⟨1,312+(k:Int),x⟩]):=⟨World.ownsRow_lit w4 _ 1 B4.o.size (by simp[maxLen]) rfl,B4.o.alloc B4.o.size _⟩
 have M6:=zaa (M4.o.below (zR.alloc zL (.cells #[.I (312+(k:Int))] 3)));have R6:=zaa (zln (w4.alloc (.cells #[.I 1,.I (312+(k:Int)),.I x] 82)) (312+(k:Int)));simp only[World.size_alloc]at R6;clear hb4 M4;go_wp2_with fail;refine(LFl.o _ _ R6.o).mono ?_;rintro r w5 ⟨v5,rfl,hr5,hb5⟩;have M5:=zaa (M6.o.below hb5);have R5:=zaa hr5.rd;have hz5:=M5.o.z;clear hr5 hb5 M6 R6 LFl;go_wp2_with (at_builtin;refine zae _ rfl (.tmp 40) (.tmp 44) 32 rfl w.heap.size 82 (.agg #[.I 0,.I 0,.I 0]) 3 24 Tryz.underlying32 zbp rfl (by decide) _ _ _ rfl M5.o.l _ _ _ rfl R5.o (zcj _) (by first | omega | (simp[maxLen];done) | (simp[maxLen];omega)) (by first | omega | (simp;done) | (simp;omega)) hz5 ?_);intro vS wS hownS hgrS;have M6:=zaa (M5.o.grow FL hownS hgrS)
 have l8:([(⟨1,312+(k:Int),x⟩:Mi)]++FL).length<=3:=by simp;omega
 generalize [(⟨1,312+(k:Int),x⟩:Mi)]++FL=LL at *;clear hownS hgrS M5 R5;go_wp2_with fail;refine(zgs _ _ _ (by omega) kr).mono ?_;rintro r w' ⟨rfl,hw'⟩;subst w';go_wp2_with fail;refine(LSw.o _).mono ?_;rintro r w7 ⟨v7,rfl,hr7,hb7⟩;have M7:=zaa (M6.o.below hb7);have R7:=zaa hr7.rd;have hz7:=M7.o.z;clear hr7 hb7 M6 LSw;go_wp2_with (at_builtin;refine zae _ rfl (.tmp 46) (.tmp 51) 32 rfl w.heap.size 82 (.agg #[.I 0,.I 0,.I 0]) 3 24 Tryz.underlying32 zbp rfl (by decide) _ _ _ rfl M7.o.l _ _ _ rfl R7.o (zcj _) (by first | omega | (simp[maxLen];done) | (simp[maxLen];omega)) (by first | omega | (simp;done) | (simp;omega)) hz7 ?_);intro vT wT hownT hgrT;have M:=zaa (M7.o.grow SW hownT hgrT);obtain⟨-,aT,cT,hvT,-⟩:=(zad hownT).rd;subst hvT;obtain rfl:=EL1.o;clear hownT hgrT M7 R7 EL1;go_wp2;go_ret2;exact⟨_,rfl,zad M.o.l,M.o.b⟩
theorem zgk{B:Nat}{a w:World}(h:Below B a w)(q:Nat):Below B a (w.drewN q):=⟨h.os,h.tape,h.output,h.size,h.block⟩
theorem ybas{ns:List Ino}{hs:List Int}{t:Int}{hot:Bool}{b:Int}{i:Nat}(h:pgE ns i=0\/¬ pgE ns i%4=t):pkS ns hs t hot b i=b:=by unfold pkS;rw[if_pos h]
theorem yart{ns:List Ino}{hs:List Int}{t:Int}{hot:Bool}{b:Int}{i:Nat}(h:¬ (pgE ns i=0\/¬ pgE ns i%4=t))(c:b<0\/(hot=true/\hs.getD b.toNat 0<hs.getD i 0)\/(hot=false/\hs.getD i 0<hs.getD b.toNat 0)):pkS ns hs t hot b i=(i:Int):=by unfold pkS;rw[if_neg h,if_pos c]
theorem yayv{ns:List Ino}{hs:List Int}{t:Int}{hot:Bool}{b:Int}{i:Nat}(h:¬ (pgE ns i=0\/¬ pgE ns i%4=t))(c:¬ (b<0\/(hot=true/\hs.getD b.toNat 0<hs.getD i 0)\/(hot=false/\hs.getD i 0<hs.getD b.toNat 0))):pkS ns hs t hot b i=b:=by unfold pkS;rw[if_neg h,if_neg c]
theorem yact(v vh:Value)(ns:List Ino)(ds:List Den)(hs:List Int)(t:Int)(hot:Bool)(w:World)(h:RdIm w v ns ds)(hi:zbg ns ds=true)(hh:RdI w vh hs)(hb:zla hs=true) :
  zC 105 #[v,vh,.I t,.bool hot] w fun e w'=>e=.returned (.I (pkN ns hs t hot 128))/\zB w w':=by
 have TI:=zaa (fun k (hk:k<16) j=>yaot hi hk j);obtain⟨l16,l24,_⟩:=zas hi;have L16:=zaa l16;have L128:=zaa (zcb hb).1;obtain⟨vW,vP,rfl,h1,h2⟩:=h;obtain⟨aW,cW,rfl,_,hcW⟩:=h1.shape;obtain⟨aP,cP,rfl,_,hcP⟩:=h2.shape;obtain⟨aH,cH,rfl,_,hcH⟩:=hh.shape;obtain⟨bW,oW,rfl,hblW,hcellW⟩:=hcW (by omega);obtain⟨bH,oH,rfl,hblH,hcellH⟩:=hcH (by have:=L128.o;omega)
 have HM:Hid (∀ k,k<16->∀ w',zB w w'->∀ j,j<8->w'.cell? ⟨bW,oW+k*11+3+j,none⟩=some (.I ((zan ns k).map.getD j 0))):=fun k hk w' hb j hj=>by
  rw[zca (by have:=L16.o;omega:k<ns.length)];obtain⟨a0,a1,a2,a3,a4,a5,a6,a7,a8,a9,a10⟩:=hcellW k (by omega)
  rcases(show j=0\/j=1\/j=2\/j=3\/j=4\/j=5\/j=6\/j=7 by omega)with rfl|rfl|rfl|rfl|rfl|rfl|rfl|rfl
  ·exact(hb.cell (p:=⟨bW,oW+k*11+3,none⟩) hblW).trans a3
  ·exact(hb.cell (p:=⟨bW,oW+k*11+4,none⟩) hblW).trans a4
  ·exact(hb.cell (p:=⟨bW,oW+k*11+5,none⟩) hblW).trans a5
  ·exact(hb.cell (p:=⟨bW,oW+k*11+6,none⟩) hblW).trans a6
  ·exact(hb.cell (p:=⟨bW,oW+k*11+7,none⟩) hblW).trans a7
  ·exact(hb.cell (p:=⟨bW,oW+k*11+8,none⟩) hblW).trans a8
  ·exact(hb.cell (p:=⟨bW,oW+k*11+9,none⟩) hblW).trans a9
  ·exact(hb.cell (p:=⟨bW,oW+k*11+10,none⟩) hblW).trans a10
 have HH:Hid (∀ k,k<128->∀ w',zB w w'->w'.cell? ⟨bH,oH+k,none⟩=some (.I (hs.getD k 0))):=fun k hk w' hb=>by
  have q:k<hs.length:=by have:=L128.o;omega
  rw[List.getD_eq_getElem?_getD,List.getElem?_eq_getElem q];exact(hb.cell (p:=⟨bH,oH+k,none⟩) hblH).trans (hcellH k q)
 clear h1 h2 hi hcW hcP hcellW hcH hcellH l16 l24 hh hb
 obtain⟨W,hW⟩:=zE (w.alloc (.cells #[.slice (some ⟨bW,oW,none⟩) ns.length cW,.slice aP ds.length cP] 51))
 have CA:Hid (∀ w',zB W w'->w'.cell? ⟨w.heap.size,0,none⟩=some (.slice (some ⟨bW,oW,none⟩) ns.length cW)/\w'.cell? ⟨w.heap.size,1,none⟩=some (.slice aP ds.length cP)):=fun w' hb=>by
  have:w'.heap[w.heap.size]?=some (.cells #[.slice (some ⟨bW,oW,none⟩) ns.length cW,.slice aP ds.length cP] 51 (0,0)):=(hb.block _ (by rw[hW];simp)).trans (by rw[hW];exact zaf rfl);exact⟨(zac this).1,(zac this).2.1⟩
 have BW:Hid (zB w W):=by rw[hW];exact zR.alloc zL _
 have PK:=zaa (fun m=>zyn ns hs t hot m);have PN:=zaa (fun m=>show pkN ns hs t hot (m+1)=pkS ns hs t hot (pkN ns hs t hot m) m from rfl);have P0:=zaa (show pkN ns hs t hot 0=-1 from rfl)
 have PG:=zaa (fun a b (_:b<8)=>show pgE ns (8*a+b)=(zan ns a).map.getD b 0 by
  unfold pgE
  rw[show(8*a+b)/8=a by omega,show(8*a+b)%8=b by omega])
 go_enter Tryz.func105,Tryz.ntmps105;go_upto_region 2 with fail;rw[<- hW];clear hW;go_wp2_with fail
 go_loopw [9,10] (fun b i wr=>∃ m:Nat,m<=128/\i=.I (m:Int)/\b=.I (pkN ns hs t hot m)/\Hid (zB W wr)) (fun _ i _=>128-(intOf i).toNat)
 case atStart=>exact⟨0,by omega,rfl,by rw[P0.o],zR⟩
 case round =>
  obtain⟨m,hm,rfl,rfl,J⟩:=hrel;obtain⟨x0,x1⟩:=CA.o _ J.o;have JW:=zaa (zab BW.o J.o BW.o.size)
  have m0:(0:Int)<=(m:Int):=by omega
  by_cases hlt:m<128
  case neg =>
   obtain rfl:m=128:=by omega
   go_wp2;go_ret;exact⟨rfl,JW.o⟩
  have m1:(m:Int)<128:=by omega
  obtain⟨a,b,ha,hb8,hab⟩:∃ a b:Nat,a<16/\b<8/\m=8*a+b:=⟨m/8,m%8,by omega,by omega,by omega⟩
  have PE:Hid (pgE ns m=(zan ns a).map.getD b 0):=by unfold Hid;rw[hab];exact PG.o a b hb8
  have e0:=HM.o a ha wr JW.o b hb8;rw[<- PE.o]at e0;have hm0:=HH.o m hlt wr JW.o;obtain⟨z0,z1⟩:=zeq (by have:=TI.o a ha b;rw[<- PE.o]at this;exact this);obtain⟨r0,r1⟩:=PK.o m
  have SN:Hid (pgE ns m=0\/¬ pgE ns m%4=t->pkN ns hs t hot (m+1)=pkN ns hs t hot m):=fun h=>(PN.o m).trans (ybas h)
  have ST:Hid (¬ (pgE ns m=0\/¬ pgE ns m%4=t)->(pkN ns hs t hot m<0\/(hot=true/\hs.getD (pkN ns hs t hot m).toNat 0<hs.getD m 0)\/(hot=false/\hs.getD m 0<hs.getD (pkN ns hs t hot m).toNat 0))->pkN ns hs t hot (m+1)=(m:Int)):=fun h c=>(PN.o m).trans (yart h c)
  have SX:Hid (¬ (pgE ns m=0\/¬ pgE ns m%4=t)->¬ (pkN ns hs t hot m<0\/(hot=true/\hs.getD (pkN ns hs t hot m).toNat 0<hs.getD m 0)\/(hot=false/\hs.getD m 0<hs.getD (pkN ns hs t hot m).toNat 0))->pkN ns hs t hot (m+1)=pkN ns hs t hot m):=fun h c=>(PN.o m).trans (yayv h c)
  have tq:Int.tdiv (m:Int) 8=(a:Int):=by rw[Int.tdiv_eq_ediv_of_nonneg (by omega)];omega
  have tr:Int.tmod (m:Int) 8=(b:Int):=by rw[Int.tmod_eq_emod_of_nonneg (by omega)];omega
  have a0:(0:Int)<=(a:Int):=by omega
  have a1:(a:Int)<(ns.length:Int):=by have:=L16.o;omega
  have b0:(0:Int)<=(b:Int):=by omega
  have b1:(b:Int)<8:=by omega
  have mh:(m:Int)<(hs.length:Int):=by have:=L128.o;omega
  have te:Int.tmod (pgE ns m) 4=pgE ns m%4:=Int.tmod_eq_emod_of_nonneg z0
  have HB:Hid (∀ q:Nat,q<128->wr.cell? ⟨bH,oH+q,none⟩=some (.I (hs.getD q 0))):=fun q hq=>HH.o q hq wr JW.o
  have hl:hs.length<=128:=by have:=L128.o;omega
  have HL:=zaa (show 128<=hs.length by have:=L128.o;omega);clear HM TI PG PN PK P0 PE HH L16 L128 hab CA BW;generalize pgE ns m=e at *;generalize pkN ns hs t hot m=pb at *
  obtain⟨nx,hnx⟩:∃ nx,pkN ns hs t hot (m+1)=nx:=⟨_,rfl⟩
  have HN:=zaa hnx;rw[hnx]at SN ST SX;clear hnx
  by_cases c1:e=0
  ·subst c1;obtain rfl:=SN.o (.inl rfl);clear SN ST SX HB hm0 JW;go_wp2
   go_roundw
   case rel=>exact⟨m+1,by omega,by go_num,by rw[HN.o],J⟩
   case measure=>simp[intOf];omega
  have q1:(e == 0)=false:=by rw[beq_eq_false_iff_ne];exact c1
  by_cases c2:e%4=t
  case neg =>
   obtain rfl:=SN.o (.inr c2)
   have q2:(e%4 != t)=true:=by rw[bne_iff_ne];exact c2
   clear SN ST SX HB hm0 JW;go_wp2
   go_roundw
   case rel=>exact⟨m+1,by omega,by go_num,by rw[HN.o],J⟩
   case measure=>simp[intOf];omega
  have q2:(e%4 != t)=false:=by rw[bne_eq_false_iff_eq];exact c2
  have cc:¬ (e=0\/¬ e%4=t):=fun h=>h.elim c1 (fun h=>h c2)
  have ST2:=zaa (ST.o cc);have SX2:=zaa (SX.o cc);clear SN ST SX cc c1 c2
  by_cases c3:pb<0
  ·obtain rfl:=ST2.o (.inl c3);have d3:decide (pb<0)=true:=decide_eq_true c3;clear ST2 SX2 HB JW;go_wp2_with fail
   go_quiet (fail)
   go_wp2
   go_roundw
   case rel=>exact⟨m+1,by omega,by go_num,by rw[HN.o],zgk J.o _⟩
   case measure=>simp[intOf];omega
  obtain⟨q,rfl⟩:∃ q:Nat,pb=(q:Int):=⟨pb.toNat,by omega⟩
  have q128:q<128:=by omega
  have hq0:=HB.o q q128;rw[Int.toNat_natCast]at ST2 SX2;have d3:decide ((q:Int)<0)=false:=decide_eq_false (by omega)
  have qh0:(0:Int)<=(q:Int):=by omega
  have qh:(q:Int)<(hs.length:Int):=by have:=HL.o;omega
  generalize hs.getD q 0=zq at *;generalize hs.getD m 0=zm at *;clear HB c3 JW
  cases hot with
  | true =>
   by_cases c4:zq<zm
   ·obtain rfl:=ST2.o (.inr (.inl ⟨rfl,c4⟩));have d4:decide (zm>zq)=true:=decide_eq_true c4;clear ST2 SX2;go_wp2_with fail
    go_quiet (fail)
    go_wp2
    go_roundw
    case rel=>exact⟨m+1,by omega,by go_num,by rw[HN.o],zgk J.o _⟩
    case measure=>simp[intOf];omega
   ·obtain rfl:=SX2.o (fun h=>by rcases h with h | h | h<;>first | omega | cases h.1);have d4:decide (zm>zq)=false:=decide_eq_false c4;clear ST2 SX2;go_wp2_with fail
    go_quiet (fail)
    go_wp2
    go_roundw
    case rel=>exact⟨m+1,by omega,by go_num,by rw[HN.o],zgk J.o _⟩
    case measure=>simp[intOf];omega
  | false =>
   by_cases c4:zm<zq
   ·obtain rfl:=ST2.o (.inr (.inr ⟨rfl,c4⟩));have d4:decide (zm<zq)=true:=decide_eq_true c4;clear ST2 SX2;go_wp2_with fail
    go_quiet (fail)
    go_wp2
    go_roundw
    case rel=>exact⟨m+1,by omega,by go_num,by rw[HN.o],zgk J.o _⟩
    case measure=>simp[intOf];omega
   ·obtain rfl:=SX2.o (fun h=>by rcases h with h | h | h<;>first | omega | cases h.1);have d4:decide (zm<zq)=false:=decide_eq_false c4;clear ST2 SX2;go_wp2_with fail
    go_quiet (fail)
    go_wp2
    go_roundw
    case rel=>exact⟨m+1,by omega,by go_num,by rw[HN.o],zgk J.o _⟩
    case measure=>simp[intOf];omega
end Go.Proofs.YtogcbbkhnpmgeaaGreatDoor
