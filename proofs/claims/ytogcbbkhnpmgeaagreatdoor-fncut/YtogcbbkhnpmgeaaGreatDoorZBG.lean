import Derived.Test.YtogcbbkhnpmgeaaGreatDoorZBF
set_option maxRecDepth 100000
set_option maxHeartbeats 4000000
namespace Go.Proofs.YtogcbbkhnpmgeaaGreatDoor
open Go.RowKit
def yapz(w:World)(lo hi:Nat)(v:Value)(ws:List Int)(ps:List Se):Prop:=∃ vW vP,v=.agg #[vW,vP]/\Row w 3 1 lo hi vW ws.length (zdb ws)/\Row w 160 2 lo hi vP ps.length (ses ps)
theorem yabm(v:Value)(ws:List Int)(ps:List Se)(w:World)(h:RdBlk w v ws ps)(hw:ws.length<=2147483648)(hp:ps.length<=2147483648) :
  zC 166 #[v] w fun e w'=>∃ v',e=.returned v'/\yapz w' w.heap.size w'.heap.size v' ws ps/\zB w w':=by
 obtain⟨vW,vP,rfl,h1,h2⟩:=h;have H1:=zaa h1;have H2:=zaa h2;obtain⟨aW,cW,rfl,_⟩:=h1.shape;obtain⟨aP,cP,rfl,_⟩:=h2.shape;clear h1 h2
 have hb0:zB w (((w.alloc (.cells #[.slice aW ws.length cW,.slice aP ps.length cP] 29)).alloc (.cells #[.N,.N] 29)).alloc (.cells #[] 3)):=by
  repeat (refine Below.alloc ?_ (by simp<;>omega) _)
  exact zR
 have ho0:(((w.alloc (.cells #[.slice aW ws.length cW,.slice aP ps.length cP] 29)).alloc (.cells #[.N,.N] 29)).alloc (.cells #[] 3)).ownsRow (w.heap.size+2) 3 1 (.slice (some ⟨w.heap.size+1+1,0,none⟩) 0 0) 0 []:=by
  simpa using World.ownsRow_lit (base:=w.heap.size+2) (e:=3) (size:=1) ((w.alloc (.cells #[.slice aW ws.length cW,.slice aP ps.length cP] 29)).alloc (.cells #[.N,.N] 29)) #[] 0 (by simp) (by simp) rfl
 have HO:=zaa ho0;have HB:=zaa hb0;clear ho0 hb0;go_enter Tryz.func166,Tryz.ntmps166;go_wp2_with (at_builtin;refine zae _ rfl (.tmp 3) (.tmp 5) 23 rfl (w.heap.size+2) 3 (.I 0) 1 8 Tryz.underlying23 zjs rfl (by decide) _ 0 [] rfl HO.o _ ws.length (zdb ws) rfl (Rd.below H1.o HB.o) (zfo ws) (by simp[maxLen];omega) (by omega) (by simp) ?_);intro v1 w1 hown1 hgr1
 have hown1:w1.ownsRow (w.heap.size+2) 3 1 v1 ws.length (zdb ws):=by simpa using hown1
 have R1:=zaa (zad hown1);obtain⟨_,a1,c1,rfl,_⟩:=(zad hown1).rd
 have hz1:w.heap.size+3<=w1.heap.size:=by have:=hgr1.size;simp at this;omega
 have V0:=(hgr1.block w.heap.size (by simp<;>omega) (by simp[Value.ownBlock]<;>omega)).trans (zal (zal (zah rfl)));have V1:=(hgr1.block (w.heap.size+1) (by simp<;>omega) (by simp[Value.ownBlock]<;>omega)).trans (zal (zah (by simp)));have B1:=HB.o.grown hgr1 (by simp<;>omega) (fun k hk=>by simp[Value.ownBlock]at hk;omega);have V0':=zal (o:=.cells #[] 160) (zje V0 (.slice a1 ws.length c1));have V1':=zal (o:=.cells #[] 160) ((Below.heap_setCell w1 ⟨w.heap.size,0,none⟩ (.slice a1 ws.length c1) (w.heap.size+1) (by simp)).trans V1);obtain⟨x1,x2,x3,x4⟩:=zac V0;obtain⟨x5,x6,x7,x8⟩:=zac V0';have HV:=zaa (And.intro V0' V1');have hB2:=(B1.setCell (p:=⟨w.heap.size,0,none⟩) zL (.slice a1 ws.length c1)).alloc (by simp;omega) (.cells #[] 160)
 have ho2:((w1.setCell ⟨w.heap.size,0,none⟩ (.slice a1 ws.length c1)).alloc (.cells #[] 160)).ownsRow w1.heap.size 160 2 (.slice (some ⟨w1.heap.size,0,none⟩) 0 0) 0 []:=by
  simpa using World.ownsRow_lit (base:=w1.heap.size) (e:=160) (size:=2) (w1.setCell ⟨w.heap.size,0,none⟩ (.slice a1 ws.length c1)) #[] 0 (by simp) (by simp) rfl
 have HB2:=zaa hB2;have HO2:=zaa ho2;clear hown1 hgr1 V0 V1 B1 V0' V1' hB2 ho2;go_wp2_with (at_builtin;refine zae _ rfl (.tmp 8) (.tmp 10) 27 rfl w1.heap.size 160 (.agg #[.I 0,.I 0]) 2 16 Tryz.underlying27 zxh rfl (by decide) _ 0 [] rfl HO2.o _ ps.length (ses ps) rfl (Rd.below H2.o HB2.o) (yafm ps) (by simp[maxLen];omega) (by omega) (by simp) ?_);intro v2 w2 hown2 hgr2
 have hown2:w2.ownsRow w1.heap.size 160 2 v2 ps.length (ses ps):=by simpa using hown2
 have R2:=zaa (zad hown2);obtain⟨_,a2,c2,rfl,_⟩:=(zad hown2).rd
 have hz2:w1.heap.size+1<=w2.heap.size:=by have:=hgr2.size;simp at this;omega
 have V0:=(hgr2.block w.heap.size (by simp<;>omega) (by simp[Value.ownBlock];omega)).trans HV.o.1;have V1:=(hgr2.block (w.heap.size+1) (by simp<;>omega) (by simp[Value.ownBlock];omega)).trans HV.o.2;have B2:=zaa (HB2.o.grown hgr2 (by simp<;>omega) (fun k hk=>by simp[Value.ownBlock]at hk;omega))
 have K2:Hid (∀ b,w.heap.size+2<=b->b<w1.heap.size->w2.heap[b]?=w1.heap[b]?):=by
  intro b h1 h2;rw[hgr2.block b (by simp<;>omega) (by simp[Value.ownBlock];omega),zer,if_neg (by simp;omega),Below.heap_setCell _ _ _ _ (by simp only;omega)]
 obtain⟨z1,z2,z3,z4⟩:=zac V0;obtain⟨t1,t2,t3,t4⟩:=zac V1;clear hown2 hgr2 V0 V1;go_wp2;refine bodyPost_ret (v:=.agg #[.slice a1 ws.length c1,.slice a2 ps.length c2]) (by simp[results,Tryz.results166,go_sem,t1,t2]) rfl ?_;refine⟨_,rfl,⟨_,_,rfl,(R1.o.same fun b h1 h2=>?_).wide (by omega) (by simp;omega),(R2.o.same fun b h1 h2=>?_).wide (by omega) (by simp)⟩,?_⟩
 ·rw[Below.heap_setCell _ _ _ _ (by simp only;omega),Below.heap_setCell _ _ _ _ (by simp only;omega),Below.heap_setCell _ _ _ _ (by simp only;omega),K2.o b h1 h2]
 ·rw[Below.heap_setCell _ _ _ _ (by simp only;omega),Below.heap_setCell _ _ _ _ (by simp only;omega),Below.heap_setCell _ _ _ _ (by simp only;omega)]
 ·exact((B2.o.setCell (by simp only;omega) _).setCell (by simp only;omega) _).setCell (by simp only;omega) _
theorem zqp(v:Value)(ws:List Int)(ps:List Se)(w:World)(h:RdBlk w v ws ps)(hw:ws.length<=2147483648)(hp:ps.length<=2147483648) :
  zC 166 #[v] w fun e w'=>∃ v',e=.returned v'/\RowBlk w' w.heap.size w'.heap.size v' ws ps/\zB w w' :=
 (yabm v ws ps w h hw hp).mono fun _ _ ⟨v',he,⟨vW,vP,hv,h1,h2⟩,hb⟩=>⟨v',he,⟨vW,vP,hv,h1.z,h2⟩,hb⟩
theorem zvw(vW vP:Value)(ws:List Int)(ps:List Se)(at_ x:Int)(w:World)(h:RdBlk w (.agg #[vW,vP]) ws ps)(hp:ps.length<=1048576) :
  zC 210 #[.agg #[vW,vP],.I at_,.I x] w fun e w'=>∃ vP',e=.returned (.agg #[vW,vP'])/\RdBlk w' (.agg #[vW,vP']) ws (ps++[⟨at_,x⟩])/\(∀ k,vP'.ownBlock=some k->w.heap.size<=k)/\zB w w':=by
 obtain⟨_,_,e0,h1,h2⟩:=h
 cases e0
 have H1:=zaa h1;have H2:=zaa h2;obtain⟨aW,cW,rfl,_⟩:=h1.shape;obtain⟨aP,cP,rfl,_⟩:=h2.shape;clear h1 h2
 have hb0:zB w (((w.alloc (.cells #[.slice aW ws.length cW,.slice aP ps.length cP] 29)).alloc (.cells #[.N,.N] 29)).alloc (.cells #[] 160)):=by
  repeat (refine Below.alloc ?_ (by simp<;>omega) _)
  exact zR
 have ho0:(((w.alloc (.cells #[.slice aW ws.length cW,.slice aP ps.length cP] 29)).alloc (.cells #[.N,.N] 29)).alloc (.cells #[] 160)).ownsRow (w.heap.size+2) 160 2 (.slice (some ⟨w.heap.size+1+1,0,none⟩) 0 0) 0 []:=by
  simpa using World.ownsRow_lit (base:=w.heap.size+2) (e:=160) (size:=2) ((w.alloc (.cells #[.slice aW ws.length cW,.slice aP ps.length cP] 29)).alloc (.cells #[.N,.N] 29)) #[] 0 (by simp) (by simp) rfl
 have HO:=zaa ho0;have HB:=zaa hb0;clear ho0 hb0;go_enter Tryz.func210,Tryz.ntmps210;go_wp2_with (at_builtin;refine zae _ rfl (.tmp 7) (.tmp 9) 27 rfl (w.heap.size+2) 160 (.agg #[.I 0,.I 0]) 2 16 Tryz.underlying27 zxh rfl (by decide) _ 0 [] rfl HO.o _ ps.length (ses ps) rfl (Rd.below H2.o HB.o) (yafm ps) (by simp[maxLen];omega) (by omega) (by simp) ?_);intro v1 w1 hown1 hgr1
 have hown1:w1.ownsRow (w.heap.size+2) 160 2 v1 ps.length (ses ps):=by simpa using hown1
 have hz1:w.heap.size+3<=w1.heap.size:=by have:=hgr1.size;simp at this;omega
 have V0:=(hgr1.block w.heap.size (by simp<;>omega) (by simp[Value.ownBlock]<;>omega)).trans (zal (zal (zah rfl)));have V1:=(hgr1.block (w.heap.size+1) (by simp<;>omega) (by simp[Value.ownBlock]<;>omega)).trans (zal (zah (by simp)));have B1:=HB.o.grown hgr1 (by simp<;>omega) (fun k hk=>by simp[Value.ownBlock]at hk;omega);have hB2:=B1.alloc (by omega) (.cells #[.I at_,.I x] 160);have V0':=zal (o:=.cells #[.I at_,.I x] 160) V0;have V1':=zal (o:=.cells #[.I at_,.I x] 160) V1;have ho2:=hown1.alloc (.cells #[.I at_,.I x] 160);have hr2:=yast w1 at_ x;have HV:=zaa (And.intro V0' V1');have HB2:=zaa hB2;have HO2:=zaa ho2;have HR2:=zaa hr2;clear hown1 hgr1 V0 V1 B1 V0' V1' hB2 ho2 hr2;go_wp2_with (at_builtin;refine zae _ rfl (.tmp 10) (.tmp 14) 27 rfl (w.heap.size+2) 160 (.agg #[.I 0,.I 0]) 2 16 Tryz.underlying27 zxh rfl (by decide) _ ps.length (ses ps) rfl HO2.o _ 1 (Se.cells ⟨at_,x⟩) rfl HR2.o (fun u hu=>by simp[Se.cells]at hu;rcases hu with rfl|rfl<;>rfl) (by simp[maxLen];omega) (by omega) (by simp;omega) ?_);intro v2 w2 hown2 hgr2
 have hr3:RdE w2 v2 (ps++[⟨at_,x⟩]):=by
  have:=(zad hown2).rd;unfold RdE;rw[yaku,List.length_append];exact this
 have L3:=zaa (fun k hk=>(hown2.lt k hk).1);have R3:Hid (RdE w2 v2 (ps++[⟨at_,x⟩])):=hr3;obtain⟨_,a2,c2,e2,_⟩:=hr3;simp only[List.length_append,List.length_singleton]at e2;subst e2
 have hz2:w1.heap.size+1<=w2.heap.size:=by have:=hgr2.size;simp at this;omega
 have hne:∀ b,b<w.heap.size+2->¬ some b=Value.ownBlock v1:=by
  intro b hb e;have:=(HO2.o.lt b e.symm).1;omega
 have V0:=(hgr2.block w.heap.size (by simp<;>omega) (hne _ (by omega))).trans HV.o.1;have V1:=(hgr2.block (w.heap.size+1) (by simp<;>omega) (hne _ (by omega))).trans HV.o.2;have B2:=zaa (HB2.o.grown hgr2 (by simp<;>omega) (fun k hk=>by have:=(HO2.o.lt k hk).1;omega));obtain⟨z1,z2,z3,z4⟩:=zac V0;obtain⟨t1,t2,t3,t4⟩:=zac V1;clear hown2 hgr2 V0 V1;go_wp2;refine bodyPost_ret (v:=.agg #[.slice aW ws.length cW,.slice a2 (ps.length+1) c2]) (by simp[results,Tryz.results210,go_sem,t1,t2]) rfl ?_;have B3:=((B2.o.setCell (p:=⟨w.heap.size,1,none⟩) zL (.slice a2 (ps.length+1) c2)).setCell (p:=⟨w.heap.size+1,0,none⟩) (by simp only;omega) (.slice aW ws.length cW)).setCell (p:=⟨w.heap.size+1,1,none⟩) (by simp only;omega) (.slice a2 (ps.length+1) c2);refine⟨_,rfl,⟨_,_,rfl,Rd.below H1.o B3,Rd.same R3.o (by simp) (fun b _ hb=>?_)⟩,fun b hb=>by have:=L3.o b hb;omega,B3⟩;have:=L3.o b hb;rw[Below.heap_setCell _ _ _ _ (by simp only;omega),Below.heap_setCell _ _ _ _ (by simp only;omega),Below.heap_setCell _ _ _ _ (by simp only;omega)]
theorem zux(v:Value)(ws:List Int)(ps:List Se)(at_ x:Int)(w:World)(h:RdBlk w v ws ps)(hp:ps.length<=1048576) :
  zC 210 #[v,.I at_,.I x] w fun e w'=>∃ v',e=.returned v'/\RdBlk w' v' ws (ps++[⟨at_,x⟩])/\zB w w':=by
 obtain⟨vW,vP,rfl,h1,h2⟩:=h
 exact(zvw vW vP ws ps at_ x w ⟨_,_,rfl,h1,h2⟩ hp).mono fun _ _ ⟨vP',he,hr,_,hb⟩=>⟨_,he,hr,hb⟩
def zxz(ws:List Int)(ps:List Se):List Int:=ps.foldl (fun acc p=>acc.set p.at_.toNat p.val) ws
theorem yaeg(ws:List Int)(ps:List Se)(p:Se):zxz ws (ps++[p])=(zxz ws ps).set p.at_.toNat p.val:=by simp[zxz]
theorem zmq(ws:List Int):∀ ps:List Se,(zxz ws ps).length=ws.length:=by
 intro ps;unfold zxz
 induction ps generalizing ws with
 | nil=>rfl
 | cons p ps ih=>rw[List.foldl_cons,ih];simp
structure BarInv(w wr:World)(eZ:TypeId)(ws:List Int)(ps:List Se)(lo hi:Nat)(vW vP:Value)(m:Nat):Prop where
 words:Row wr eZ 1 lo hi vW ws.length (zdb (zxz ws (ps.take m)))
 pend:Row wr 160 2 lo hi vP ps.length (ses ps)
 box:wr.heap[w.heap.size]?=some (.cells #[vW,vP] 29 (0,0))
 res:wr.heap[w.heap.size+1]?=some (.cells #[.N,.N] 29 (0,0))
 below:zB w wr
 size:hi<=wr.heap.size
theorem BarInv.hit{w wr:World}{eZ:TypeId}{ws:List Int}{ps:List Se}{lo hi:Nat}{b n cap:Nat}{vP:Value}{m:Nat}(h:BarInv w wr eZ ws ps lo hi (.slice (some ⟨b,0,none⟩) n cap) vP m)(he:eZ≠160)(hm:m<ps.length)(hlo:w.heap.size+2<=lo)(hn:n=ws.length) :
  BarInv w (wr.setCell ⟨b,ps[m].at_.toNat,none⟩ (.I ps[m].val)) eZ ws ps lo hi (.slice (some ⟨b,0,none⟩) n cap) vP (m+1):=by
 subst hn;obtain⟨h1,h3,h4,h5,h6,h7⟩:=h
 obtain⟨_,hb1,hb2,_⟩:=h1.at
 have e1:zxz ws (ps.take (m+1))=(zxz ws (ps.take m)).set ps[m].at_.toNat ps[m].val:=by rw[zei ps m hm,yaeg]
 refine⟨?_,?_,?_,?_,?_,?_⟩
 ·rw[e1,<- zho];exact h1.stored _ _
 ·exact h3.apart h1 (Ne.symm he) (World.ownsRow.stored h1.1 _ _).2
 ·rw[Below.heap_setCell _ _ _ _ (by simp only;omega)];exact h4
 ·rw[Below.heap_setCell _ _ _ _ (by simp only;omega)];exact h5
 ·exact h6.setCell (by simp only;omega) _
 ·simpa using h7
theorem BarInv.drew{w wr:World}{eZ:TypeId}{ws:List Int}{ps:List Se}{lo hi:Nat}{vW vP:Value}{m:Nat}(h:BarInv w wr eZ ws ps lo hi vW vP m):BarInv w wr.drew eZ ws ps lo hi vW vP m:=by
 obtain⟨h1,h2,h4,h5,h6,h7⟩:=h;exact⟨h1.same (fun _ _ _=>rfl),h2.same (fun _ _ _=>rfl),h4,h5,h6.drew,h7⟩
theorem zpd(v:Value)(ws:List Int)(ps:List Se)(w:World)(h:RdBlk w v ws ps)(hw:ws.length<=1048576)(hp:ps.length<=1048576)(hok:∀ j (h:j<ps.length),0<=ps[j].at_/\ps[j].at_<ws.length) :
  zC 211 #[v] w fun e w'=>∃ v',e=.returned v'/\RowBlk w' w.heap.size w'.heap.size v' (zxz ws ps) []/\zB w w':=by
 have HR:=zaa h;obtain⟨vW,vP,rfl,h1,h2⟩:=h;obtain⟨aW,cW,rfl,_⟩:=h1.shape;obtain⟨aP,cP,rfl,_⟩:=h2.shape;have HOK:=zaa hok;clear h1 h2 hok
 have hb0:zB w ((w.alloc (.cells #[.slice aW ws.length cW,.slice aP ps.length cP] 29)).alloc (.cells #[.N,.N] 29)):=by
  repeat (refine Below.alloc ?_ (by simp<;>omega) _)
  exact zR
 go_enter Tryz.func211,Tryz.ntmps211;go_wp2_with fail;refine(zqp _ ws ps _ (HR.o.below hb0) (by omega) (by omega)).mono ?_;rintro e w2 ⟨v2,rfl,hr2,hb2⟩;obtain⟨vW2,vP2,rfl,hI2,hS2⟩:=hr2;obtain⟨aW2,cW2,rfl⟩:=RdI.form hI2.rd rfl;obtain⟨aP2,cP2,rfl⟩:=RdE.form hS2.rd rfl;obtain⟨eZ,heZ,hI2⟩:=hI2;simp only[World.size_alloc]at hI2 hS2;have HE:=zaa heZ
 have hz2:w.heap.size+2<=w2.heap.size:=by have:=hb2.size;simp at this;omega
 have V0:=(hb2.block w.heap.size (by simp<;>omega)).trans (zal (zah rfl));have V1:=(hb2.block (w.heap.size+1) (by simp)).trans (zah (by simp));have B2:=zab hb0 hb2 (by simp<;>omega);obtain⟨x1,x2,x3,x4⟩:=zac V0
 have INV:Hid (BarInv w ((w2.setCell ⟨w.heap.size,0,none⟩ (.slice aW2 ws.length cW2)).setCell ⟨w.heap.size,1,none⟩ (.slice aP2 ps.length cP2)) eZ ws ps (w.heap.size+1+1) w2.heap.size (.slice aW2 ws.length cW2) (.slice aP2 ps.length cP2) 0):=by
  refine⟨?_,?_,?_,?_,?_,?_⟩
  ·refine hI2.same fun b hb1 _=>?_
   rw[Below.heap_setCell _ _ _ _ (by simp only;omega),Below.heap_setCell _ _ _ _ (by simp only;omega)]
  ·refine hS2.same fun b hb1 _=>?_
   rw[Below.heap_setCell _ _ _ _ (by simp only;omega),Below.heap_setCell _ _ _ _ (by simp only;omega)]
  ·exact zmm (zje V0 _) _
  ·rw[Below.heap_setCell _ _ _ _ (by simp only;omega),Below.heap_setCell _ _ _ _ (by simp only;omega)];exact V1
  ·exact(B2.setCell (by simp only;omega) _).setCell (by simp only;omega) _
  ·simp
 clear hb0 hb2 hI2 hS2 V0 V1 B2 heZ;go_wp2
 go_loopw [3] (fun i wr=>∃ m:Nat,m<=ps.length/\i=.I m/\Hid (BarInv w wr eZ ws ps (w.heap.size+1+1) w2.heap.size (.slice aW2 ws.length cW2) (.slice aP2 ps.length cP2) m)) (fun i _=>ps.length-(intOf i).toNat)
 case atStart=>exact⟨0,by omega,rfl,INV⟩
 case round =>
  obtain⟨m,hm,rfl,I⟩:=hrel;obtain⟨y1,y2,y3,y4⟩:=zac I.o.box
  by_cases hlt:m<ps.length
  ·obtain⟨_,ao',cap',e',_,hc⟩:=I.o.pend.rd
   cases e'
   obtain⟨b,o,rfl,hbl,_⟩:=hc (by omega)
   obtain⟨rfl,_,_,_,hfr,hcl⟩:=I.o.pend.at
   have e0:=(hcl (m*2) (by omega)).trans (zsh _ m hlt);have e1:=(hcl (m*2+1) (by omega)).trans (yafk _ m hlt);obtain⟨q0,q1⟩:=HOK.o m hlt;obtain⟨_,aw',cw',ew',_,hcw⟩:=I.o.words.rd
   cases ew'
   obtain⟨bw,ow,rfl,hblw,_⟩:=hcw (by omega)
   obtain⟨rfl,_,_,_,hfrw,hclw⟩:=I.o.words.at
   have hj:ps[m].at_.toNat<(zxz ws (ps.take m)).length:=by rw[zmq];omega
   have g0:=hfrw ps[m].at_.toNat;have g1:=(hclw ps[m].at_.toNat (by omega)).trans (zcp _ _ hj);have q1':ps[m].at_<(ws.length:Int):=q1
   have hlt':(m:Int)<(ps.length:Int):=by omega
   have hge:(0:Int)<=(m:Int):=by omega
   clear hc hfr hcl hcw hfrw hclw;go_wp2
   go_region
   all_goals
    go_wp2
    go_roundw
    case rel =>
     refine⟨m+1,by omega,by go_num,?_⟩
     first | exact(I.o.hit HE.o hlt zL rfl).drew | exact I.o.drew.hit HE.o hlt zL rfl
    case measure=>simp[intOf];omega
  ·have e:m=ps.length:=by omega
   subst e;have hsz:=I.o.size;obtain⟨z1,z2,z3,z4⟩:=zac (zal (o:=.cells #[] 160) I.o.box);obtain⟨t1,t2,t3,t4⟩:=zac (zal (o:=.cells #[] 160) I.o.res)
   have ho:(wr.alloc (.cells #[] 160)).ownsRow wr.heap.size 160 2 (.slice (some ⟨wr.heap.size,0,none⟩) 0 0) 0 []:=by
    simpa using World.ownsRow_lit (base:=wr.heap.size) (e:=160) (size:=2) wr #[] 0 (by simp) (by simp) rfl
   have HO:=zaa ho;clear ho;go_wp2;have I2:=I.o;refine bodyPost_ret (v:=.agg #[.slice aW2 ws.length cW2,.slice (some ⟨wr.heap.size,0,none⟩) 0 0]) (by simp[results,Tryz.results211,go_sem,t1,t2]) rfl ?_;refine⟨_,rfl,⟨_,_,rfl,⟨eZ,HE.o,?_⟩,?_⟩,(((I2.below.alloc (by omega) _).setCell (by simp only;omega) _).setCell (by simp only;omega) _).setCell (by simp only;omega) _⟩
   ·rw[zmq];have:=I2.words;rw[List.take_length]at this;refine((this.alloc hsz (.cells #[] 160)).same fun b h1 h2=>?_).wide (by omega) (by simp;omega);rw[Below.heap_setCell _ _ _ _ (by simp only;omega),Below.heap_setCell _ _ _ _ (by simp only;omega),Below.heap_setCell _ _ _ _ (by simp only;omega)]
   ·refine((zad HO.o).same fun b h1 h2=>?_).wide (by omega) (by simp);rw[Below.heap_setCell _ _ _ _ (by simp only;omega),Below.heap_setCell _ _ _ _ (by simp only;omega),Below.heap_setCell _ _ _ _ (by simp only;omega)]
def doW(m:Mi)(ws:List Int)(ps:List St):List Int:=if m.kind=3 then zoq ws ps else ws
def doP(m:Mi)(ps:List St):List St:=if m.kind=1 then ps++[⟨m.at_,m.val,false⟩]else if m.kind=2 then ps.map (fl1 m.at_)else if m.kind=3 then zle ps else ps
def doE(m:Mi)(es:List Int)(qs:List Se):List Int:=if m.kind=5 then zxz es qs else es
def doQ(m:Mi)(qs:List Se):List Se:=if m.kind=4 then qs++[⟨m.at_,m.val⟩]else if m.kind=5 then[]else qs
theorem Rd.boxless{w w':World}{size:Nat}{v:Value}{n:Nat}{xs:List Value}{b:Nat}{cs:Array Value}{t:TypeId}{fr:Nat×Nat}(h:Rd w size v n xs)(h0:0<n*size->∃ z,xs[0]?=some (.I z))(hb:w.heap[b]?=some (.cells cs t fr))(hcs:∀ (o:Nat) (z:Int),¬ cs[o]?=some (.I z))(hz:w.heap.size<=w'.heap.size)(ho:∀ j,j<w.heap.size->¬ j=b->w'.heap[j]?=w.heap[j]?):Rd w' size v n xs:=by
 by_cases hn:0<n*size
 ·refine h.same hz (fun j hj he=>ho j hj (fun e=>?_));subst e;obtain⟨hl,ao,cap,rfl,_,hc⟩:=h
  have hn':0<n:=by
   rcases Nat.eq_zero_or_pos n with e | e
   ·subst e;simp at hn
   ·exact e
  obtain⟨b',o,rfl,_,hc⟩:=hc hn';simp only[Value.ownBlock,Option.some.injEq]at he;subst he;obtain⟨z,e⟩:=h0 hn;have:=hc 0 hn;rw[e]at this;simp only[World.cell?,hb]at this;exact hcs o z (by simpa using this)
 ·obtain⟨h3,ao,cap,rfl,h4,h5⟩:=h;refine⟨h3,ao,cap,rfl,h4,fun hp=>?_⟩;obtain⟨b',o,e,hlt,hc⟩:=h5 hp;exact⟨b',o,e,by omega,fun j hj=>absurd (Nat.lt_of_le_of_lt (Nat.zero_le _) hj) hn⟩
theorem RdI.boxless{w w':World}{v:Value}{zs:List Int}{b:Nat}{cs:Array Value}{t:TypeId}{fr:Nat×Nat}(h:RdI w v zs)(hb:w.heap[b]?=some (.cells cs t fr))(hcs:∀ (o:Nat) (z:Int),¬ cs[o]?=some (.I z))(hz:w.heap.size<=w'.heap.size)(ho:∀ j,j<w.heap.size->¬ j=b->w'.heap[j]?=w.heap[j]?):RdI w' v zs :=
 Rd.boxless h (fun hn=>⟨zs[0]'(by simpa using hn),zcp zs 0 (by simpa using hn)⟩) hb hcs hz ho
theorem RdPm.boxless{w w':World}{v:Value}{ws:List Int}{ps:List St}{b:Nat}{cs:Array Value}{t:TypeId}{fr:Nat×Nat}(h:RdPm w v ws ps)(hb:w.heap[b]?=some (.cells cs t fr))(hcs:∀ (o:Nat) (z:Int),¬ cs[o]?=some (.I z))(hz:w.heap.size<=w'.heap.size)(ho:∀ j,j<w.heap.size->¬ j=b->w'.heap[j]?=w.heap[j]?):RdPm w' v ws ps:=by
 obtain⟨vW,vP,rfl,h1,h2⟩:=h;refine⟨vW,vP,rfl,RdI.boxless h1 hb hcs hz ho,Rd.boxless h2 (fun hn=>?_) hb hcs hz ho⟩
 have hl:0<ps.length:=by omega
 have:=zmx ps 0 hl;rw[Nat.zero_mul]at this;exact⟨_,this⟩
theorem RdBlk.boxless{w w':World}{v:Value}{ws:List Int}{ps:List Se}{b:Nat}{cs:Array Value}{t:TypeId}{fr:Nat×Nat}(h:RdBlk w v ws ps)(hb:w.heap[b]?=some (.cells cs t fr))(hcs:∀ (o:Nat) (z:Int),¬ cs[o]?=some (.I z))(hz:w.heap.size<=w'.heap.size)(ho:∀ j,j<w.heap.size->¬ j=b->w'.heap[j]?=w.heap[j]?):RdBlk w' v ws ps:=by
 obtain⟨vW,vP,rfl,h1,h2⟩:=h;refine⟨vW,vP,rfl,RdI.boxless h1 hb hcs hz ho,Rd.boxless h2 (fun hn=>?_) hb hcs hz ho⟩
 have hl:0<ps.length:=by omega
 have:=zsh ps 0 hl;rw[Nat.zero_mul]at this;exact⟨_,this⟩
theorem zdf{a b c d:Value}(ha:∀ z,¬ a=.I z)(hb:∀ z,¬ b=.I z)(hc:∀ z,¬ c=.I z)(hd:∀ z,¬ d=.I z):∀ (o:Nat) (z:Int),¬ (#[a,b,c,d]:Array Value)[o]?=some (.I z):=fun o z e=>by
 match o with
 | 0=>simp at e;exact ha z e
 | 1=>simp at e;exact hb z e
 | 2=>simp at e;exact hc z e
 | 3=>simp at e;exact hd z e
 | o+4=>simp at e
theorem zaf(a:Option Addr)(n c:Nat)(z:Int):¬ Value.slice a n c=.I z:=fun e=>by cases e
def putD(w:World)(bD bR i j:Nat)(x y a b c d:Value):World:=(((((w.setCell ⟨bD,i,none⟩ x).setCell ⟨bD,j,none⟩ y).setCell ⟨bR,0,none⟩ a).setCell ⟨bR,1,none⟩ b).setCell ⟨bR,2,none⟩ c).setCell ⟨bR,3,none⟩ d
theorem zto(w:World)(bD bR i j:Nat)(x y a b c d:Value):(putD w bD bR i j x y a b c d).heap.size=w.heap.size:=by simp[putD,World.setCell]
theorem yacu(w:World)(bD bR i j:Nat)(x y a b c d:Value)(k:Nat)(h1:¬ k=bD)(h2:¬ k=bR):(putD w bD bR i j x y a b c d).heap[k]?=w.heap[k]?:=by
 unfold putD;rw[Below.heap_setCell _ _ _ _ h2,Below.heap_setCell _ _ _ _ h2,Below.heap_setCell _ _ _ _ h2,Below.heap_setCell _ _ _ _ h2,Below.heap_setCell _ _ _ _ h1,Below.heap_setCell _ _ _ _ h1]
theorem Rd.put{w:World}{size:Nat}{v:Value}{n:Nat}{xs:List Value}{bD bR i j:Nat}{x y a b c d:Value}{cs cs':Array Value}{t t':TypeId}{fr fr':Nat×Nat}(h:Rd w size v n xs)(h0:0<n*size->∃ z,xs[0]?=some (.I z))(hD:w.heap[bD]?=some (.cells cs t fr))(hcs:∀ (o:Nat) (z:Int),¬ cs[o]?=some (.I z))(hR:w.heap[bR]?=some (.cells cs' t' fr'))(hcs':∀ (o:Nat) (z:Int),¬ cs'[o]?=some (.I z)):Rd (putD w bD bR i j x y a b c d) size v n xs:=by
 by_cases e:v.ownBlock=some bD\/v.ownBlock=some bR
 ·obtain⟨h3,ao,cap,rfl,h4,h5⟩:=h;refine⟨h3,ao,cap,rfl,h4,fun hp=>?_⟩;obtain⟨b',o,rfl,hlt,hc⟩:=h5 hp;refine⟨b',o,rfl,by rw[zto];exact hlt,fun k hk=>?_⟩;exfalso;obtain⟨z,ez⟩:=h0 (Nat.lt_of_le_of_lt (Nat.zero_le _) hk);have:=hc 0 (Nat.lt_of_le_of_lt (Nat.zero_le _) hk);rw[ez]at this;simp only[Value.ownBlock,Option.some.injEq]at e
  rcases e with rfl|rfl
  ·simp only[World.cell?,hD]at this;exact hcs o z (by simpa using this)
  ·simp only[World.cell?,hR]at this;exact hcs' o z (by simpa using this)
 ·refine h.same (Nat.le_of_eq (zto ..).symm) (fun k _ he=>yacu _ _ _ _ _ _ _ _ _ _ _ k (fun x=>?_) (fun x=>?_))
  ·subst x;exact e (.inl he)
  ·subst x;exact e (.inr he)
theorem RdI.put{w:World}{v:Value}{zs:List Int}{bD bR i j:Nat}{x y a b c d:Value}{cs cs':Array Value}{t t':TypeId}{fr fr':Nat×Nat}(h:RdI w v zs)(hD:w.heap[bD]?=some (.cells cs t fr))(hcs:∀ (o:Nat) (z:Int),¬ cs[o]?=some (.I z))(hR:w.heap[bR]?=some (.cells cs' t' fr'))(hcs':∀ (o:Nat) (z:Int),¬ cs'[o]?=some (.I z)):RdI (putD w bD bR i j x y a b c d) v zs :=
 Rd.put h (fun hn=>⟨zs[0]'(by simpa using hn),zcp zs 0 (by simpa using hn)⟩) hD hcs hR hcs'
theorem RdPm.put{w:World}{v:Value}{ws:List Int}{ps:List St}{bD bR i j:Nat}{x y a b c d:Value}{cs cs':Array Value}{t t':TypeId}{fr fr':Nat×Nat}(h:RdPm w v ws ps)(hD:w.heap[bD]?=some (.cells cs t fr))(hcs:∀ (o:Nat) (z:Int),¬ cs[o]?=some (.I z))(hR:w.heap[bR]?=some (.cells cs' t' fr'))(hcs':∀ (o:Nat) (z:Int),¬ cs'[o]?=some (.I z)):RdPm (putD w bD bR i j x y a b c d) v ws ps:=by
 obtain⟨vW,vP,rfl,h1,h2⟩:=h;refine⟨vW,vP,rfl,RdI.put h1 hD hcs hR hcs',Rd.put h2 (fun hn=>?_) hD hcs hR hcs'⟩;have:=zmx ps 0 (by omega);rw[Nat.zero_mul]at this;exact⟨_,this⟩
theorem RdBlk.put{w:World}{v:Value}{ws:List Int}{ps:List Se}{bD bR i j:Nat}{x y a b c d:Value}{cs cs':Array Value}{t t':TypeId}{fr fr':Nat×Nat}(h:RdBlk w v ws ps)(hD:w.heap[bD]?=some (.cells cs t fr))(hcs:∀ (o:Nat) (z:Int),¬ cs[o]?=some (.I z))(hR:w.heap[bR]?=some (.cells cs' t' fr'))(hcs':∀ (o:Nat) (z:Int),¬ cs'[o]?=some (.I z)):RdBlk (putD w bD bR i j x y a b c d) v ws ps:=by
 obtain⟨vW,vP,rfl,h1,h2⟩:=h;refine⟨vW,vP,rfl,RdI.put h1 hD hcs hR hcs',Rd.put h2 (fun hn=>?_) hD hcs hR hcs'⟩;have:=zsh ps 0 (by omega);rw[Nat.zero_mul]at this;exact⟨_,this⟩
theorem zgb{B:Nat}{a0 w:World}(h:Below B a0 w){bD bR:Nat}(h1:B<=bD)(h2:B<=bR)(i j:Nat)(x y a b c d:Value):Below B a0 (putD w bD bR i j x y a b c d):=by
 unfold putD
 repeat (refine Below.setCell ?_ (by simp only;omega) _)
 exact h
end Go.Proofs.YtogcbbkhnpmgeaaGreatDoor
