import Derived.Test.YtfagbapgnocjiaaGreatDoorZAX
set_option maxRecDepth 100000
set_option maxHeartbeats 16000000
namespace Go.Proofs.YtfagbapgnocjiaaGreatDoor
open Go.RowKit
theorem zjt{ws:List Ino}:∀ {i:Nat} {x:Ino},i<ws.length->zaq (ws.set i x)=zaq (ws.take i)++zcz x.map++zaq (ws.drop (i+1)):=by
 intro i x h;unfold zaq;rw[List.set_eq_take_append_cons_drop,if_pos h,List.flatMap_append,List.flatMap_cons,List.append_assoc]
theorem zkl{ws:List Ino}{i:Nat}(h:i<ws.length):zaq ws=zaq (ws.take i)++zcz (zal ws i).map++zaq (ws.drop (i+1)):=by
 have:ws=ws.set i (zal ws i):=by
  apply List.ext_getElem?;intro j;rw[List.getElem?_set]
  by_cases e:i=j
  ·subst e;rw[if_pos rfl,if_pos h,zcc h,List.getElem?_eq_getElem h]
  ·rw[if_neg e]
 have q:=zjt (x:=zal ws i) h;rw[<- this]at q;exact q
theorem zli{ws:List Ino}{i:Nat}{x:Ino}(h:i<ws.length)(s:(zaq ws).Pairwise fun x y=>x≠y)(hs:(zcz x.map).Sublist (zcz (zal ws i).map)):(zaq (ws.set i x)).Pairwise fun x y=>x≠y:=by
 rw[zjt h];rw[zkl h]at s;exact s.sublist ((List.Sublist.append (List.Sublist.append (List.Sublist.refl _) hs) (List.Sublist.refl _)))
theorem zlw{ws:List Ino}{i:Nat}(h:i<ws.length)(x:Ino)(c:Int)(hc:0<=c):zag (ws.set i x) c=if c=(i:Int)then x.kind else zag ws c:=by
 obtain⟨n,rfl⟩:∃ n:Nat,c=(n:Int):=⟨c.toNat,by omega⟩
 rw[zbd,zbd,zci h]
 by_cases e:n=i
 ·rw[if_pos e,if_pos (by omega)]
 ·rw[if_neg e,if_neg (by omega)]
theorem Img.ent'{ws:List Ino}{ps:List Den}(h:Img ws ps):∀ k,k<ps.length->zav ps k=freeD\/zhd ws (zav ps k):=fun k hk=>h.ent k (by have:=h.l24;omega)
theorem Img.dir{ws:List Ino}{ps:List Den}(h:Img ws ps){c:Int}(hc:0<=c)(hu:0<=upD ps c):zag ws (upD ps c)=2/\upD ps c<=15:=by
 obtain⟨k,hk,_,e,q⟩:=yanq h.ent' hc hu;rw[<- e];exact⟨q.2.2.2.2,q.2.1.2⟩
theorem Img.rch{ws:List Ino}{ps:List Den}(h:Img ws ps){i:Nat}(hi:i<16)(k:(zal ws i).kind=2):Rch ps (i:Int):=⟨16,h.hang i hi k⟩
theorem Img.free{ws:List Ino}{ps:List Den}(h:Img ws ps){i:Nat}(hi:i<16)(k:(zal ws i).kind=0):zal ws i=zhe/\(∀ j,j<24->¬ (zav ps j).child=(i:Int))/\¬ i=0:=by
 have i0:¬ i=0:=by
  intro e;have:=h.root;rw[show(0:Int)=((0:Nat):Int)from rfl,zbd,<- e,k]at this
  cases this
 have o:=h.ok i hi;unfold zdp zek at o;rw[k,if_pos rfl]at o;simp only[Bool.and_eq_true,decide_eq_true_eq]at o;obtain⟨_,_,_,_,o1,o2,o3⟩:=o;have l:=h.links i hi;rw[if_neg i0,o2]at l
 have c0:zim ps (i:Int)=0:=by omega
 refine⟨?_,fun j hj=>zll c0 j (by rw[h.l24];exact hj),i0⟩;generalize zal ws i=x at *;obtain⟨a,b,c,m0,m1,m2,m3,m4,m5,m6,m7⟩:=x;simp only at k o1 o2;simp only[Ino.map,List.cons.injEq]at o3;obtain⟨rfl,rfl,rfl,rfl,rfl,rfl,rfl,rfl,_⟩:=o3;subst k o1 o2;rfl
theorem yakl {ws:List Ino} {ps:List Den} (h:Img ws ps) {i k:Nat} {kind d:Int} {nm:ByteArray} (hi:i<16) (fi:(zal ws i).kind=0) (hk:k<24) (fk:zav ps k=freeD) (kd:kind=1\/kind=2)
  (hd:0<=d/\d<=15) (dd:zag ws d=2) (hn:nmB nm=true) (new:∀ j,j<24->0<=(zav ps j).child->(zav ps j).dir=d->¬ (zav ps j).name=nm) :
  Img (ws.set i ⟨kind,0,1,0,0,0,0,0,0,0,0⟩) (ps.set k ⟨d,nm,(i:Int)⟩):=by
 obtain⟨zi,nochild,i0⟩:=h.free hi fi
 have hi':i<ws.length:=by rw[h.l16];exact hi
 have hk':k<ps.length:=by rw[h.l24];exact hk
 have hdi:¬ d=(i:Int):=by
  intro e;rw[e,zbd,fi]at dd
  cases dd
 have KA:=fun c hc=>zlw hi' (⟨kind,0,1,0,0,0,0,0,0,0,0⟩:Ino) c hc
 have entn:∀ j,j<24->zav (ps.set k ⟨d,nm,(i:Int)⟩) j=freeD\/zhd (ws.set i ⟨kind,0,1,0,0,0,0,0,0,0,0⟩) (zav (ps.set k ⟨d,nm,(i:Int)⟩) j):=by
  intro j hj;rw[zax hk']
  by_cases e:j=k
  ·rw[if_pos e];right;refine⟨⟨?_,?_⟩,hd,hn,?_,?_⟩
   ·show 1<=(i:Int);omega
   ·show(i:Int)<=15;omega
   ·show ¬ zag _ (i:Int)=0
    rw[KA _ (by omega),if_pos rfl]
    show ¬ kind=0
    omega
   ·show zag _ d=2
    rw[KA _ hd.1,if_neg hdi];exact dd
  ·rw[if_neg e]
   rcases h.ent j hj with q | q
   ·exact .inl q
   ·right;obtain⟨q1,q2,q3,q4,q5⟩:=q;refine⟨q1,q2,q3,?_,?_⟩
    ·rw[KA _ (by omega),if_neg (nochild j hj)];exact q4
    ·rw[KA _ q2.1,if_neg (by intro e;rw[e,zbd,fi]at q5;cases q5)];exact q5
 have entn':∀ j,j<(ps.set k ⟨d,nm,(i:Int)⟩).length->zav (ps.set k ⟨d,nm,(i:Int)⟩) j=freeD\/zhd (ws.set i ⟨kind,0,1,0,0,0,0,0,0,0,0⟩) (zav (ps.set k ⟨d,nm,(i:Int)⟩) j):=fun j hj=>entn j (by rw[List.length_set,h.l24]at hj;exact hj)
 have US:∀ c,0<=c->¬ c=(i:Int)->upD (ps.set k ⟨d,nm,(i:Int)⟩) c=upD ps c:=by
  intro c hc ne;refine zqx (by simp) ?_;intro j hj;rw[zax hk']
  by_cases e:j=k
  ·rw[if_pos e];right;refine⟨fun q=>ne q.symm,?_⟩;rw[e,fk];intro q;have:(-1:Int)=c:=q;omega
  ·rw[if_neg e];exact .inl rfl
 have UI:upD (ps.set k ⟨d,nm,(i:Int)⟩) (i:Int)=d:=by
  have q:=yafo (ps:=ps.set k ⟨d,nm,(i:Int)⟩) (c:=(i:Int)) (k:=k) (by rw[List.length_set];exact hk') (by rw[zax hk',if_pos rfl]) (fun j hj e=>by
   rw[List.length_set,h.l24]at hj;rw[zax hk']at e
   by_cases ej:j=k
   ·exact ej
   ·rw[if_neg ej]at e
    exact absurd e (nochild j hj))
  rw[q,zax hk',if_pos rfl]
 have KEEP:∀ c,Rch ps c->0<=c->¬ c=(i:Int)->Rch (ps.set k ⟨d,nm,(i:Int)⟩) c:=by
  intro c hr hc ne;refine zlj (G:=fun c=>0<=c) (i:=(i:Int)) (fun c hc hu=>⟨?_,hu⟩) (fun c hc ne=>US c hc ne) hr hc ne;intro e;have:=(h.dir hc hu).1;rw[e,zbd,fi]at this
  cases this
 refine⟨by rw[List.length_set];exact h.l16,by rw[List.length_set];exact h.l24,?_,?_,entn,?_,?_,?_,?_⟩
 ·rw[KA 0 (by omega),if_neg (by omega)];exact h.root
 ·intro j hj;rw[zci hi']
  by_cases e:j=i
  ·rw[if_pos e]
   rcases kd with rfl|rfl<;>decide
  ·rw[if_neg e];exact h.ok j hj
 ·intro j l hj hl cj cl ed en;rw[zax hk']at cj ed en;rw[zax hk' _ l]at cl ed en
  by_cases e1:j=k
  ·by_cases e2:l=k
   ·omega
   ·rw[if_pos e1,if_neg e2]at ed en;rw[if_neg e2]at cl;exact absurd en.symm (new l hl cl ed.symm)
  ·by_cases e2:l=k
   ·rw[if_neg e1,if_pos e2]at ed en;rw[if_neg e1]at cj;exact absurd en (new j hj cj ed)
   ·rw[if_neg e1,if_neg e2]at ed en;rw[if_neg e1]at cj;rw[if_neg e2]at cl;exact h.once j l hj hl cj cl ed en
 ·intro j hj;have c:=zgi ps k ⟨d,nm,(i:Int)⟩ (j:Int) hk';rw[fk,if_neg (show ¬ freeD.child=(j:Int) by show ¬ (-1:Int)=(j:Int);omega)]at c;rw[zci hi']
  by_cases e:j=i
  ·rw[if_pos (show(i:Int)=(j:Int) by omega)]at c
   have c0:zim ps (j:Int)=0:=yalr fun l hl=>by rw[h.l24]at hl;rw[e];exact nochild l hl
   rw[if_pos e,if_neg (by omega)]
   show 0+((zim _ (j:Int):Nat):Int)=1
   omega
  ·rw[if_neg (show ¬ (i:Int)=(j:Int) by omega)]at c;rw[if_neg e,<- h.links j hj]
   have:zim (ps.set k ⟨d,nm,(i:Int)⟩) (j:Int)=zim ps (j:Int):=by omega
   rw[this]
 ·intro j hj kj;rw[zci hi']at kj;refine zlh ?_ ⟨by omega,by omega⟩ (yamf entn')
  by_cases e:j=i
  ·rw[e];refine zix (by rw[UI];exact hd.1) ?_;rw[UI]
   obtain⟨n,rfl⟩:∃ n:Nat,d=(n:Int):=⟨d.toNat,by omega⟩
   exact KEEP _ (h.rch (by omega) (by rw[<- zbd];exact dd)) hd.1 hdi
  ·rw[if_neg e]at kj;exact KEEP _ (h.rch hj kj) (by omega) (by omega)
 ·refine zli hi' h.sing ?_;exact List.nil_sublist _
def zru(w w':World)(e:Ending)(r:List Se×Int):Prop:=∃ v',e=.returned (.tuple #[v',.I r.2])/\Row w' 208 2 w.heap.size w'.heap.size v' r.1.length (ses r.1)/\zB w w'
theorem upn{w w1:World}(B:zB w w1):Row (w1.alloc (.cells #[] 208)) 208 2 w.heap.size (w1.alloc (.cells #[] 208)).heap.size (.slice (some ⟨w1.heap.size,0,none⟩) 0 0) 0 []/\zB w (w1.alloc (.cells #[] 208)) :=
 ⟨(zlq w1 _ _).wide B.size zL,B.alloc B.size _⟩
theorem zck{w w1:World}{c:Int}(B:zB w w1):zru w (w1.alloc (.cells #[] 208)) (.returned (.tuple #[.slice (some ⟨w1.heap.size,0,none⟩) 0 0,.I c])) ([],c) :=
 ⟨_,rfl,(upn B).1,(upn B).2⟩
theorem yaaz{w w1:World}{v:Value}{L:List Se}(c:Int)(h:UpI w w1 v L):zru w w1 (.returned (.tuple #[v,.I c])) (L,c) :=
 ⟨_,rfl,zac h.l,h.b⟩
theorem zoe(v:Value)(ws:List Ino)(ps:List Den)(s:ByteArray)(kind:Int)(w:World)(h:RdIm w v ws ps)(hi:zbo ws ps=true)(hs:s.size<=65536) :
  zC 179 #[v,.string s,.I kind] w fun e w'=>zru w w' e (mkI ws ps s kind):=by
 have HR:=zaa h;have LP:=zaa (fun w1 (hb:zB w w1)=>zdi v ws ps s w1 (h.below hb) hi hs);have LE:=zaa (fun d nm w1 (hb:zB w w1)=>zdf v ws ps d nm w1 (h.below hb) (by have:=(zao hi).2.1;omega));have LI:=zaa (fun w1 (hb:zB w w1)=>zld v ws ps w1 (h.below hb) (by have:=(zao hi).1;omega));have LK:=zaa (fun w1 (hb:zB w w1)=>zga v ws ps w1 (h.below hb) (by have:=(zao hi).2.1;omega));have EL:=zaa (show mkI ws ps s kind=if (paI ws ps s).2.2=0 then mkN ws ps kind (paI ws ps s).1 (paI ws ps s).2.1 else([],(paI ws ps s).2.2)from rfl);have EN:=zaa (fun d nm=>show mkN ws ps kind d nm=if 0<=zjr ps d nm then([],8)else if fiI ws<0 then([],7)else if feI ps<0 then([],7) else(mkU (fiI ws) (feI ps) kind d nm,0)from rfl);have PO:=zaa (fun c=>zjp (s:=s) hi c);have f1:=yamy hi;have f2:=zzx hi;have FP:=zaa (@yasd ws);rw[show zbu (fun i=>decide (1<=i)&&zag ws (i:Int) == 0) ws.length=fiI ws from rfl]at LI;obtain⟨vW,vP,rfl,h1,h2⟩:=h;obtain⟨aW,cW,rfl,_,_⟩:=h1.shape;obtain⟨aP,cP,rfl,_,_⟩:=h2.shape;clear h1 h2 hi hs
 have CA:Hid (∀ w',Below (w.alloc (.cells #[.slice aW ws.length cW,.slice aP ps.length cP] 26)).heap.size (w.alloc (.cells #[.slice aW ws.length cW,.slice aP ps.length cP] 26)) w'->w'.cell? ⟨w.heap.size,0,none⟩=some (.slice aW ws.length cW)/\w'.cell? ⟨w.heap.size,1,none⟩=some (.slice aP ps.length cP)):=fun w' hb=>by
  have:w'.heap[w.heap.size]?=some (.cells #[.slice aW ws.length cW,.slice aP ps.length cP] 26 (0,0)):=(hb.block _ (by simp)).trans (zai rfl);exact⟨(zad this).1,(zad this).2.1⟩
 have BW:Hid (zB w (w.alloc (.cells #[.slice aW ws.length cW,.slice aP ps.length cP] 26))):=zR.alloc zL _
 have hz:w.heap.size<(w.alloc (.cells #[.slice aW ws.length cW,.slice aP ps.length cP] 26)).heap.size:=by simp
 obtain⟨x0,x1⟩:=CA.o _ zR;generalize mkI ws ps s kind=res at *;generalize paI ws ps s=pr at *;generalize fiI ws=fi at *;generalize feI ps=fe at *;obtain⟨pd,pn,pc⟩:=pr;simp only at EL PO LP;go_enter Tryz.func179,Tryz.ntmps179;go_wp2_with fail;refine(LP.o _ BW.o).mono ?_;rintro e w1 ⟨rfl,hb1⟩;have A1:=zaa hb1;have B1:=zaa (zab BW.o hb1 BW.o.size);have z1:(w.alloc (.cells #[.slice aW ws.length cW,.slice aP ps.length cP] 26)).heap.size<=w1.heap.size:=hb1.size;clear x0 x1;obtain⟨x0,x1⟩:=CA.o _ hb1;clear hb1 LP
 by_cases c:pc=0
 case neg =>
  rw[if_neg c]at EL;obtain rfl:=EL.o
  have q:(pc != 0)=true:=by rw[bne_iff_ne];exact c
  clear EL c x0 x1;go_wp2;go_ret2;exact zck B1.o
 rw[if_pos c]at EL;subst c;obtain⟨p1,p2,p3⟩:=PO.o rfl;have NM:=zaa p3;rw[EN.o]at EL;clear PO p2 p3 EN;have LE2:=zaa (fun w1 hb=>LE.o pd pn w1 hb);generalize zjr ps pd pn=ei at *;clear LE;go_wp2_with fail;refine(LE2.o _ B1.o).mono ?_;rintro e w2 ⟨rfl,hb2⟩;have A2:=zaa (zab A1.o hb2 z1);have B2:=zaa (zab B1.o hb2 B1.o.size);have z2:(w.alloc (.cells #[.slice aW ws.length cW,.slice aP ps.length cP] 26)).heap.size<=w2.heap.size:=A2.o.size;clear x0 x1;obtain⟨x0,x1⟩:=CA.o _ A2.o;clear hb2 LE2 A1 B1
 by_cases c:0<=ei
 ·rw[if_pos c]at EL;obtain rfl:=EL.o;have c1:ei>=0:=c;clear EL x0 x1 c;go_wp2;go_ret2;exact zck B2.o
 rw[if_neg c]at EL;have c1:¬ ei>=0:=c;clear c;go_wp2_with fail;refine(LI.o _ B2.o).mono ?_;rintro e w3 ⟨rfl,hb3⟩;have A3:=zaa (zab A2.o hb3 z2);have B3:=zaa (zab B2.o hb3 B2.o.size);have z3:(w.alloc (.cells #[.slice aW ws.length cW,.slice aP ps.length cP] 26)).heap.size<=w3.heap.size:=A3.o.size;clear x0 x1;obtain⟨x0,x1⟩:=CA.o _ A3.o;clear hb3 LI A2 B2 c1;go_wp2_with fail;refine(LK.o _ B3.o).mono ?_;rintro e w4 ⟨rfl,hb4⟩;have B4:=zaa (zab B3.o hb4 B3.o.size);clear hb4 LK A3 B3 x0 x1 CA
 by_cases c2:fi<0
 ·rw[if_pos c2]at EL;obtain rfl:=EL.o;clear EL;go_wp2;go_ret2;exact zck B4.o
 rw[if_neg c2]at EL
 by_cases c3:fe<0
 ·rw[if_pos c3]at EL;obtain rfl:=EL.o;clear EL;go_wp2;go_ret2;exact zck B4.o
 rw[if_neg c3]at EL;have fp:=FP.o (by omega);have LN:=zaa (fun w1=>zfg fe ⟨pd,pn,fi⟩ w1 (by omega) (show -1<=fi/\fi<=15 by omega) (.inr NM.o));have EU:=zaa (show mkU fi fe kind pd pn=[⟨48+12*fi,kind⟩,⟨48+12*fi+2,1⟩]++enL fe ⟨pd,pn,fi⟩from rfl);have LV:=zaa (show(Den.mk pd pn fi).v=.agg #[.I pd,.string pn,.I fi]from rfl);rw[LV.o]at LN;have l3:(enL fe ⟨pd,pn,fi⟩).length<=3:=Nat.le_refl _;generalize enL fe ⟨pd,pn,fi⟩=L at *
 have fr:0<=fi/\fi<16:=by omega
 go_wp2_with (go_at_call 56;refine(zay _ _ _ fr (by omega)).mono ?_;rintro e w' ⟨rfl,hw'⟩;subst w')
 have J5:Hid (UpI w (w4.alloc (.cells #[.I (48+12*fi),.I kind,.I (48+12*fi+2),.I 1] 208)) (.slice (some ⟨w4.heap.size,0,none⟩) 2 2) [⟨48+12*fi,kind⟩,⟨48+12*fi+2,1⟩]):=⟨World.ownsRow_lit w4 _ 2 B4.o.size (by simp[maxLen]) rfl,B4.o.alloc B4.o.size _⟩
 refine(LN.o _).mono ?_;rintro e w6 ⟨v6,rfl,hr6,hb6⟩;have J6:=zaa (J5.o.below hb6);have R6:=zaa hr6.rd;obtain⟨-,aL,cL,hvL,-⟩:=hr6.rd;subst hvL;have z6:w.heap.size<=w6.heap.size:=J6.o.z;clear hr6 hb6 J5 LN;go_wp2_with (at_builtin;refine zaf _ rfl (.tmp 50) (.tmp 56) 189 rfl w.heap.size 208 (.agg #[.I 0,.I 0]) 2 16 Tryz.underlying189 zkv rfl (by decide) _ _ _ rfl J6.o.l _ _ _ rfl R6.o (zff _) (by simp[maxLen];omega) (by simp;omega) z6 ?_);intro vN wN hownN hgrN;have G:=zaa (J6.o.grow L hownN hgrN);rw[<- EU.o]at G;obtain⟨-,aN,cN,hvN,-⟩:=(zac hownN).rd;subst hvN;obtain rfl:=EL.o;clear hownN hgrN J6 R6 EL;go_wp2;go_ret2;exact yaaz 0 G.o
theorem UpI.wide{w w3 w1:World}{v:Value}{L:List Se}(h:UpI w3 w1 v L)(B:zB w w3):UpI w w1 v L:=⟨((zac h.l).wide B.size zL).1,zab B h.b B.size⟩
theorem yabq{ps:List Den}{d:Int}(h:¬ zaw ps d=[]):0<(zbk (zaw ps d)).length:=by
 rw[zex];exact List.length_pos_iff.2 h
theorem yacb{ps:List Den}{d:Int}(h:zaw ps d=[]):(zbk (zaw ps d)).length=0:=by
 rw[zex,h];rfl
theorem zqz(v:Value)(ws:List Ino)(ps:List Den)(s:ByteArray)(w:World)(h:RdIm w v ws ps)(hi:zbo ws ps=true)(hs:s.size<=65536) :
  zC 180 #[v,.string s] w fun e w'=>zru w w' e (rmI ws ps s):=by
 have LP:=zaa (fun w1 (hb:zB w w1)=>zdi v ws ps s w1 (h.below hb) hi hs);have LE:=zaa (fun d nm w1 (hb:zB w w1)=>zdf v ws ps d nm w1 (h.below hb) (by have:=(zao hi).2.1;omega));have LN:=zaa (fun d w1 (hb:zB w w1)=>zgu v ws ps d w1 (h.below hb) (by have:=(zao hi).2.1;omega));have EL:=zaa (show rmI ws ps s=if (paI ws ps s).2.2=0 then rmN ws ps (paI ws ps s).1 (paI ws ps s).2.1 else([],(paI ws ps s).2.2)from rfl);have EN:=zaa (fun d nm=>show rmN ws ps d nm=match zbj ps d nm with | none=>([],5) | some k=>rmC ws ps k from rfl);have EC:=zaa (fun k=>show rmC ws ps k=if zag ws (zap ps k)=2/\¬ zaw ps (zap ps k)=[] then([],11) else(rmU (k:Int) (zap ps k) (zeo ws (zap ps k)),0)from rfl);have CR:=zaa (fun d nm k e=>zez hi (d:=d) (nm:=nm) (k:=k) e);have LR:=zaa (fun i h0=>zpx hi (i:=i) h0);obtain⟨l16,l24,_⟩:=zao hi;have L16:=zaa l16;have L24:=zaa l24;obtain⟨vW,vP,rfl,h1,h2⟩:=h;obtain⟨aW,cW,rfl,_,hcW⟩:=h1.shape;obtain⟨aP,cP,rfl,_,hcP⟩:=h2.shape;obtain⟨bW,oW,rfl,hblW,hcellW⟩:=hcW (by omega);obtain⟨bP,oP,rfl,hblP,hcellP⟩:=hcP (by omega);have HW:=zaa hcellW;have HP:=zaa hcellP;clear h1 h2 hi hs hcW hcP hcellW hcellP l16 l24
 have CA:Hid (∀ w',Below (w.alloc (.cells #[.slice (some ⟨bW,oW,none⟩) ws.length cW,.slice (some ⟨bP,oP,none⟩) ps.length cP] 26)).heap.size (w.alloc (.cells #[.slice (some ⟨bW,oW,none⟩) ws.length cW,.slice (some ⟨bP,oP,none⟩) ps.length cP] 26)) w'->w'.cell? ⟨w.heap.size,0,none⟩=some (.slice (some ⟨bW,oW,none⟩) ws.length cW)/\w'.cell? ⟨w.heap.size,1,none⟩=some (.slice (some ⟨bP,oP,none⟩) ps.length cP)):=fun w' hb=>by
  have:w'.heap[w.heap.size]?=some (.cells #[.slice (some ⟨bW,oW,none⟩) ws.length cW,.slice (some ⟨bP,oP,none⟩) ps.length cP] 26 (0,0)):=(hb.block _ (by simp)).trans (zai rfl);exact⟨(zad this).1,(zad this).2.1⟩
 have BW:Hid (zB w (w.alloc (.cells #[.slice (some ⟨bW,oW,none⟩) ws.length cW,.slice (some ⟨bP,oP,none⟩) ps.length cP] 26))):=zR.alloc zL _;obtain⟨x0,x1⟩:=CA.o _ zR
 obtain⟨W,hW⟩:=zE (w.alloc (.cells #[.slice (some ⟨bW,oW,none⟩) ws.length cW,.slice (some ⟨bP,oP,none⟩) ps.length cP] 26))
 rw[<- hW]at CA BW
 have hz:w.heap.size<W.heap.size:=by rw[hW];simp
 generalize rmI ws ps s=res at *;generalize paI ws ps s=pr at *;obtain⟨pd,pn,pc⟩:=pr;simp only at EL LP;go_enter Tryz.func180,Tryz.ntmps180;go_wp2_with fail;rw[<- hW];clear hW x0 x1;refine(LP.o _ BW.o).mono ?_;rintro e w1 ⟨rfl,hb1⟩;have A1:=zaa hb1;have B1:=zaa (zab BW.o hb1 BW.o.size);obtain⟨x0,x1⟩:=CA.o _ hb1;clear hb1 LP
 by_cases c:pc=0
 case neg =>
  rw[if_neg c]at EL;obtain rfl:=EL.o
  have q:(pc != 0)=true:=by rw[bne_iff_ne];exact c
  clear EL c x0 x1;go_wp2;go_ret2;exact zck B1.o
 rw[if_pos c]at EL;subst c;rw[EN.o]at EL;have LE2:=zaa (fun w1 hb=>LE.o pd pn w1 hb);clear EN LE
 cases he:zbj ps pd pn with
 | none =>
  rw[he]at EL;obtain rfl:=EL.o;have e1:=(zmj (ps:=ps) (d:=pd) (nm:=pn)).1 he;generalize zjr ps pd pn=ei at *;clear EL he;go_wp2_with fail;refine(LE2.o _ B1.o).mono ?_;rintro e w2 ⟨rfl,hb2⟩;have B2:=zaa (zab B1.o hb2 B1.o.size);clear hb2 x0 x1
  have e2:ei<0:=by omega
  clear e1;go_wp2;go_ret2;exact zck B2.o
 | some k =>
 rw[he]at EL;have EL2:Hid (res=rmC ws ps k):=EL.o;rw[EC.o]at EL2;rw[zti he]at LE2;obtain⟨k1,k2⟩:=CR.o _ _ _ he;have lr:=LR.o _ k2;have HPk:=zaa (fun w' (hb:zB w w')=>((hb.cell (p:=⟨bP,oP+k*3+2,none⟩) hblP).trans (HP.o k k1).2.2).trans (by rw[<- zch k1]));have LNk:=zaa (fun w1 hb=>LN.o (zap ps k) w1 hb);have KN:=zaa (@yabq ps (zap ps k));have KM:=zaa (@yacb ps (zap ps k))
 obtain⟨i,hi'⟩:∃ i:Nat,zap ps k=(i:Int):=⟨(zap ps k).toNat,by omega⟩
 rw[hi']at EL2 lr HPk LNk KN KM
 have i1:i<ws.length:=by have:=L16.o;omega
 have CI:=zaa (HW.o i i1);rw[<- zbc i1,<- zjf i1]at CI
 have k24:k<24:=by have:=L24.o;omega
 have i16:i<16:=by omega
 have kl:(k:Int)<(ps.length:Int):=by omega
 have il:(i:Int)<(ws.length:Int):=by omega
 have k0:(0:Int)<=(k:Int):=by omega
 have i0:(0:Int)<=(i:Int):=by omega
 clear EL EC CR LR he HP HW LN hi' k2 hblP L16 L24;generalize ws[i]=xi at *;generalize zag ws (i:Int)=kd at *;generalize zeo ws (i:Int)=lk at *;generalize zaw ps (i:Int)=nms at *;go_wp2_with fail;refine(LE2.o _ B1.o).mono ?_;rintro e w2 ⟨rfl,hb2⟩;have A2:=zaa (zab A1.o hb2 A1.o.size);have B2:=zaa (zab B1.o hb2 B1.o.size);have z2:W.heap.size<=w2.heap.size:=A2.o.size;clear x0 x1 hb2 A1 B1 LE2;obtain⟨x0,x1⟩:=CA.o _ A2.o;have y0:=HPk.o _ B2.o;obtain⟨c0,c1,c2,c3,c4,c5,c6,c7,c8,c9,c10⟩:=CI.o;have d0:=(B2.o.cell (p:=⟨bW,oW+i*11,none⟩) hblW).trans c0;have d1:=(B2.o.cell (p:=⟨bW,oW+i*11+1,none⟩) hblW).trans c1;have d2:=(B2.o.cell (p:=⟨bW,oW+i*11+2,none⟩) hblW).trans c2;have d3:=(B2.o.cell (p:=⟨bW,oW+i*11+3,none⟩) hblW).trans c3;have d4:=(B2.o.cell (p:=⟨bW,oW+i*11+4,none⟩) hblW).trans c4;have d5:=(B2.o.cell (p:=⟨bW,oW+i*11+5,none⟩) hblW).trans c5;have d6:=(B2.o.cell (p:=⟨bW,oW+i*11+6,none⟩) hblW).trans c6;have d7:=(B2.o.cell (p:=⟨bW,oW+i*11+7,none⟩) hblW).trans c7;have d8:=(B2.o.cell (p:=⟨bW,oW+i*11+8,none⟩) hblW).trans c8;have d9:=(B2.o.cell (p:=⟨bW,oW+i*11+9,none⟩) hblW).trans c9;have d10:=(B2.o.cell (p:=⟨bW,oW+i*11+10,none⟩) hblW).trans c10;clear c0 c1 c2 c3 c4 c5 c6 c7 c8 c9 c10 CI;have AX:=zaa (A2.o.alloc A2.o.size (.cells #[.I kd,.I xi.size,.I lk,.I xi.m0,.I xi.m1,.I xi.m2,.I xi.m3,.I xi.m4,.I xi.m5,.I xi.m6,.I xi.m7] 41));have BX:=zaa (B2.o.alloc B2.o.size (.cells #[.I kd,.I xi.size,.I lk,.I xi.m0,.I xi.m1,.I xi.m2,.I xi.m3,.I xi.m4,.I xi.m5,.I xi.m6,.I xi.m7] 41));have VX:Hid ((w2.alloc (.cells #[.I kd,.I xi.size,.I lk,.I xi.m0,.I xi.m1,.I xi.m2,.I xi.m3,.I xi.m4,.I xi.m5,.I xi.m6,.I xi.m7] 41)).heap[w2.heap.size]?=some (.cells #[.I kd,.I xi.size,.I lk,.I xi.m0,.I xi.m1,.I xi.m2,.I xi.m3,.I xi.m4,.I xi.m5,.I xi.m6,.I xi.m7] 41 (0,0))):=zai rfl;have EU:=zaa (show rmU (k:Int) (i:Int) lk=enL (k:Int) freeD++(if 1<lk then[⟨48+12*(i:Int)+2,lk-1⟩]else wrL (i:Int) zhe 8)from rfl);generalize rmU (k:Int) (i:Int) lk=ru at *;have LA:=zaa (fun w1=>zfg (k:Int) freeD w1 (by omega) (by decide) (.inl rfl));rw[show freeD.v=.agg #[.I 0,.string ⟨#[]⟩,.I (-1)]from rfl]at LA;have l3:(enL (k:Int) freeD).length<=3:=Nat.le_refl _;generalize enL (k:Int) freeD=EN at *;have LW:=zaa (fun w1=>zvd (i:Int) zhe w1 (by omega));rw[show zhe.v=.agg #[.I 0,.I 0,.I 0,.I 0,.I 0,.I 0,.I 0,.I 0,.I 0,.I 0,.I 0]from rfl]at LW
 have l11:(wrL (i:Int) zhe 8).length<=11:=by rw[zxt];omega
 generalize wrL (i:Int) zhe 8=WL at *
 have wpl:IntKind.i64.wrap (lk-1)=lk-1:=by rw[IntKind.wrap_i64];omega
 have CASES:(kd=2/\¬ nms=[])\/((kd=2/\nms=[])\/¬ kd=2):=by
  by_cases q:kd=2
  ·by_cases r:nms=[]
   ·exact .inr (.inl ⟨q,r⟩)
   ·exact .inl ⟨q,r⟩
  ·exact .inr (.inr q)
 rcases CASES with ⟨q,r⟩ | CASES
 ·rw[if_pos ⟨q,r⟩]at EL2;obtain rfl:=EL2.o;have KN2:=KN.o r
  have q1:(kd == 2)=true:=by rw[q];rfl
  clear EL2 q KM LA LW EU r KN;generalize (zbk nms).length=nl at *
  have nlp:(nl:Int)>0:=by omega
  obtain⟨x0',x1'⟩:=CA.o _ AX.o;go_wp2_with fail;refine(LNk.o _ BX.o).mono ?_;rintro e w3 ⟨v3,rfl,hr3,hb3⟩;have B3:=zaa (zab BX.o hb3 BX.o.size);obtain⟨-,aL,cL,hvL,-⟩:=hr3.rd;subst hvL;clear hr3 hb3 x0 x1 x0' x1' y0 d0 d1 d2 d3 d4 d5 d6 d7 d8 d9 d10;go_wp2;go_ret2;exact zck B3.o
 have EL3:Hid (res=(ru,0)):=EL2.o.trans (if_neg (by rintro⟨a,b⟩;rcases CASES with ⟨_,r⟩ | r;exact b r;exact r a));clear EL2;obtain rfl:=EL3.o;clear EL3
 rcases CASES with ⟨q,r⟩ | q
 case' inl =>
  have KM2:=KM.o r
  have q1:(kd == 2)=true:=by rw[q];rfl
  clear q KM r KN;generalize (zbk nms).length=nl at *;subst KM2;obtain⟨x0',x1'⟩:=CA.o _ AX.o;go_wp2_with fail;refine(LNk.o _ BX.o).mono ?_;rintro e w3 ⟨v3,rfl,hr3,hb3⟩;have A3:=zaa (zab AX.o hb3 AX.o.size);have B3:=zaa (zab BX.o hb3 BX.o.size);have V3:=zaa ((hb3.block w2.heap.size (by simp)).trans VX.o);obtain⟨-,aL,cL,hvL,-⟩:=hr3.rd;subst hvL;clear hr3 hb3 x0 x1 x0' x1' y0 d0 d1 d2 d3 d4 d5 d6 d7 d8 d9 d10 A2 B2 AX BX VX q1;go_wp2_with fail
 case' inr =>
  have q1:(kd == 2)=false:=by rw[beq_eq_false_iff_ne];exact q
  clear q KM KN;go_wp2_with fail
  obtain⟨w3,hw3⟩:=zE (w2.alloc (.cells #[.I kd,.I xi.size,.I lk,.I xi.m0,.I xi.m1,.I xi.m2,.I xi.m3,.I xi.m4,.I xi.m5,.I xi.m6,.I xi.m7] 41))
  rw[<- hw3];rw[<- hw3]at AX BX VX;have A3:=AX;have B3:=BX;have V3:=VX;clear hw3 AX BX VX x0 x1 y0 d0 d1 d2 d3 d4 d5 d6 d7 d8 d9 d10 A2 B2 q1
 all_goals
  have SK:Hid (∀ w',zB w3 w'->w'.cell? ⟨w2.heap.size,2,none⟩=some (.I lk)):=fun w' hb=>(zat (xs:=[.I kd,.I xi.size,.I lk,.I xi.m0,.I xi.m1,.I xi.m2,.I xi.m3,.I xi.m4,.I xi.m5,.I xi.m6,.I xi.m7]) ((hb.block _ ((Array.getElem?_eq_some_iff.1 V3.o).1)).trans V3.o) 2).1
  clear V3 CA LNk;refine(LA.o _).mono ?_;rintro e w4 ⟨v4,rfl,hr4,hb4⟩
  have J4:Hid (UpI w3 w4 v4 EN):=⟨hr4.1,hb4⟩
  obtain⟨-,aE,cE,hvE,-⟩:=hr4.rd;subst hvE;have y2:=SK.o _ hb4;clear hr4 hb4 LA
  by_cases r:1<lk
  ·rw[if_pos r]at EU;have r1:lk>1:=r;have JA:=zaa (J4.o.below (zR.alloc zL (.cells #[.I (48+12*(i:Int)+2),.I (lk-1)] 208)));have JB:=zaa ((J4.o.below ((Below.refl w4.heap.size w4).drew)).below (zR.alloc zL (.cells #[.I (48+12*(i:Int)+2),.I (lk-1)] 208)));have RA:=zaa (zir w4 (48+12*(i:Int)+2) (lk-1));have RB:=zaa (zir w4.drew (48+12*(i:Int)+2) (lk-1))
   have fr:0<=(i:Int)/\(i:Int)<16:=by omega
   clear LW r;go_wp2_with fail
   go_region_held3 (fun w'=>w'.cell? ⟨w2.heap.size,2,none⟩=some (.I lk))
    (first | exact SK.o _ G.o.b | exact SK.o _ J4.o.b | exact SK.o _ J4.o.b.drew | exact SK.o _ JA.o.b | exact SK.o _ JB.o.b)
    (first
     | (go_at_call 56;refine(zay _ _ _ fr (by omega)).mono ?_;rintro e w' ⟨rfl,hw'⟩;subst w')
     | (refine zam rfl (.tmp 59) (.tmp 66) 189 rfl w3.heap.size 208 (.agg #[.I 0,.I 0]) 2 16 Tryz.underlying189 zkv rfl (by decide) _ EN.length (ses EN) rfl (by first | exact JA.o.l | exact JB.o.l) _ 1 (ses [⟨48+12*(i:Int)+2,lk-1⟩]) rfl (by first | exact RA.o | exact RB.o) (zff _) (by simp[maxLen];omega) (by omega) (by first | exact JA.o.z | exact JB.o.z) ?_;intro vN wN hownN hgrN;have G:=(by first | exact zaa (JA.o.grow [⟨48+12*(i:Int)+2,lk-1⟩] hownN hgrN) | exact zaa (JB.o.grow [⟨48+12*(i:Int)+2,lk-1⟩] hownN hgrN):Hid (UpI w3 wN vN (EN++[⟨48+12*(i:Int)+2,lk-1⟩])));clear hownN hgrN))
   all_goals
    rw[<- EU.o]at G;have G2:=zaa (G.o.wide B3.o);obtain⟨-,aN,cN,hvN,-⟩:=(zac G2.o.l).rd;subst hvN;clear J4 JA JB RA RB y2 SK G;go_wp2;go_ret2;exact yaaz 0 G2.o
  ·rw[if_neg r]at EU;have r1:¬ lk>1:=r;clear r SK;go_wp2_with fail;refine(LW.o _).mono ?_;rintro e w5 ⟨v5,rfl,hr5,hb5⟩;have J5:=zaa (J4.o.below hb5);have R5:=zaa hr5.rd;obtain⟨-,aF,cF,hvF,-⟩:=hr5.rd;subst hvF;have z5:w3.heap.size<=w5.heap.size:=J5.o.z;clear hr5 hb5 J4 LW y2;go_wp2_with (at_builtin;refine zaf _ rfl (.tmp 68) (.tmp 71) 189 rfl w3.heap.size 208 (.agg #[.I 0,.I 0]) 2 16 Tryz.underlying189 zkv rfl (by decide) _ _ _ rfl J5.o.l _ _ _ rfl R5.o (zff _) (by simp[maxLen];omega) (by omega) z5 ?_);intro vN wN hownN hgrN;have G:=zaa (J5.o.grow WL hownN hgrN);rw[<- EU.o]at G;have G2:=zaa (G.o.wide B3.o);obtain⟨-,aN,cN,hvN,-⟩:=(zac G2.o.l).rd;subst hvN;clear hownN hgrN J5 R5 G;go_wp2;go_ret2;exact yaaz 0 G2.o
end Go.Proofs.YtfagbapgnocjiaaGreatDoor
