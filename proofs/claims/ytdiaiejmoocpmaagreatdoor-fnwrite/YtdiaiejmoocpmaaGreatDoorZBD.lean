import Derived.Test.YtdiaiejmoocpmaaGreatDoorZBC
set_option maxRecDepth 100000
set_option maxHeartbeats 8000000
namespace Go.Proofs.YtdiaiejmoocpmaaGreatDoor
open Go.RowKit
def doW(m:Mi)(ws:List Int)(ps:List St):List Int:=if m.kind=3 then zkn ws ps else ws
def doP(m:Mi)(ps:List St):List St:=if m.kind=1 then ps++[⟨m.at_,m.val,false⟩]else if m.kind=2 then ps.map (fl1 m.at_)else if m.kind=3 then zhy ps else ps
def doE(m:Mi)(es:List Int)(qs:List Se):List Int:=if m.kind=5 then zua es qs else es
def doQ(m:Mi)(qs:List Se):List Se:=if m.kind=4 then qs++[⟨m.at_,m.val⟩]else if m.kind=5 then[]else qs
theorem Rd.boxless{w w':World}{size:Nat}{v:Value}{n:Nat}{xs:List Value}{b:Nat}{cs:Array Value}{t:TypeId}{fr:Nat×Nat}(h:Rd w size v n xs)(h0:0<n*size->∃ z,xs[0]?=some (.I z))(hb:w.heap[b]?=some (.cells cs t fr))(hcs:∀ (o:Nat) (z:Int),¬ cs[o]?=some (.I z))(hz:w.heap.size<=w'.heap.size)(ho:∀ j,j<w.heap.size->¬ j=b->w'.heap[j]?=w.heap[j]?):Rd w' size v n xs:=by
 by_cases hn:0<n*size
 ·refine h.same hz (fun j hj he=>ho j hj (fun e=>?_));subst e;obtain⟨hl,ao,cap,rfl,_,hc⟩:=h
  have hn':0<n:=by
   rcases Nat.eq_zero_or_pos n with e | e
   ·subst e;simp at hn
   ·exact e
  obtain⟨b',o,rfl,_,hc⟩:=hc hn';simp only[Value.ownBlock,Option.some.injEq]at he;subst he;obtain⟨z,e⟩:=h0 hn;have:=hc 0 hn;rw[e]at this;simp only[World.cell?,hb]at this;exact hcs o z (by simpa using this)
 ·obtain⟨h3,ao,cap,rfl,h4,h5⟩:=h;refine⟨h3,ao,cap,rfl,h4,fun hp=>?_⟩;obtain⟨b',o,e,hlt,hc⟩:=h5 hp;exact⟨b',o,e,by omega,fun j hj=>absurd (Nat.lt_of_le_of_lt (Nat.zero_le _) hj) hn⟩
theorem RdI.boxless{w w':World}{v:Value}{zs:List Int}{b:Nat}{cs:Array Value}{t:TypeId}{fr:Nat×Nat}(h:RdI w v zs)(hb:w.heap[b]?=some (.cells cs t fr))(hcs:∀ (o:Nat) (z:Int),¬ cs[o]?=some (.I z))(hz:w.heap.size<=w'.heap.size)(ho:∀ j,j<w.heap.size->¬ j=b->w'.heap[j]?=w.heap[j]?):RdI w' v zs :=
 Rd.boxless h (fun hn=>⟨zs[0]'(by simpa using hn),zde zs 0 (by simpa using hn)⟩) hb hcs hz ho
theorem RdPm.boxless{w w':World}{v:Value}{ws:List Int}{ps:List St}{b:Nat}{cs:Array Value}{t:TypeId}{fr:Nat×Nat}(h:RdPm w v ws ps)(hb:w.heap[b]?=some (.cells cs t fr))(hcs:∀ (o:Nat) (z:Int),¬ cs[o]?=some (.I z))(hz:w.heap.size<=w'.heap.size)(ho:∀ j,j<w.heap.size->¬ j=b->w'.heap[j]?=w.heap[j]?):RdPm w' v ws ps:=by
 obtain⟨vW,vP,rfl,h1,h2⟩:=h;refine⟨vW,vP,rfl,RdI.boxless h1 hb hcs hz ho,Rd.boxless h2 (fun hn=>?_) hb hcs hz ho⟩
 have hl:0<ps.length:=by omega
 have:=znv ps 0 hl;rw[Nat.zero_mul]at this;exact⟨_,this⟩
theorem RdBlk.boxless{w w':World}{v:Value}{ws:List Int}{ps:List Se}{b:Nat}{cs:Array Value}{t:TypeId}{fr:Nat×Nat}(h:RdBlk w v ws ps)(hb:w.heap[b]?=some (.cells cs t fr))(hcs:∀ (o:Nat) (z:Int),¬ cs[o]?=some (.I z))(hz:w.heap.size<=w'.heap.size)(ho:∀ j,j<w.heap.size->¬ j=b->w'.heap[j]?=w.heap[j]?):RdBlk w' v ws ps:=by
 obtain⟨vW,vP,rfl,h1,h2⟩:=h;refine⟨vW,vP,rfl,RdI.boxless h1 hb hcs hz ho,Rd.boxless h2 (fun hn=>?_) hb hcs hz ho⟩
 have hl:0<ps.length:=by omega
 have:=zvc ps 0 hl;rw[Nat.zero_mul]at this;exact⟨_,this⟩
theorem zee{a b c d:Value}(ha:∀ z,¬ a=.I z)(hb:∀ z,¬ b=.I z)(hc:∀ z,¬ c=.I z)(hd:∀ z,¬ d=.I z):∀ (o:Nat) (z:Int),¬ (#[a,b,c,d]:Array Value)[o]?=some (.I z):=fun o z e=>by
 match o with
 | 0=>simp at e;exact ha z e
 | 1=>simp at e;exact hb z e
 | 2=>simp at e;exact hc z e
 | 3=>simp at e;exact hd z e
 | o+4=>simp at e
theorem zah(a:Option Addr)(n c:Nat)(z:Int):¬ Value.slice a n c=.I z:=fun e=>by cases e
def putD(w:World)(bD bR i j:Nat)(x y a b c d:Value):World:=(((((w.setCell ⟨bD,i,none⟩ x).setCell ⟨bD,j,none⟩ y).setCell ⟨bR,0,none⟩ a).setCell ⟨bR,1,none⟩ b).setCell ⟨bR,2,none⟩ c).setCell ⟨bR,3,none⟩ d
theorem zgg(w:World)(bD bR i j:Nat)(x y a b c d:Value):(putD w bD bR i j x y a b c d).heap.size=w.heap.size:=by simp[putD,World.setCell]
theorem yait(w:World)(bD bR i j:Nat)(x y a b c d:Value)(k:Nat)(h1:¬ k=bD)(h2:¬ k=bR):(putD w bD bR i j x y a b c d).heap[k]?=w.heap[k]?:=by
 unfold putD;rw[Below.heap_setCell _ _ _ _ h2,Below.heap_setCell _ _ _ _ h2,Below.heap_setCell _ _ _ _ h2,Below.heap_setCell _ _ _ _ h2,Below.heap_setCell _ _ _ _ h1,Below.heap_setCell _ _ _ _ h1]
theorem Rd.put{w:World}{size:Nat}{v:Value}{n:Nat}{xs:List Value}{bD bR i j:Nat}{x y a b c d:Value}{cs cs':Array Value}{t t':TypeId}{fr fr':Nat×Nat}(h:Rd w size v n xs)(h0:0<n*size->∃ z,xs[0]?=some (.I z))(hD:w.heap[bD]?=some (.cells cs t fr))(hcs:∀ (o:Nat) (z:Int),¬ cs[o]?=some (.I z))(hR:w.heap[bR]?=some (.cells cs' t' fr'))(hcs':∀ (o:Nat) (z:Int),¬ cs'[o]?=some (.I z)):Rd (putD w bD bR i j x y a b c d) size v n xs:=by
 by_cases e:v.ownBlock=some bD\/v.ownBlock=some bR
 ·obtain⟨h3,ao,cap,rfl,h4,h5⟩:=h;refine⟨h3,ao,cap,rfl,h4,fun hp=>?_⟩;obtain⟨b',o,rfl,hlt,hc⟩:=h5 hp;refine⟨b',o,rfl,by rw[zgg];exact hlt,fun k hk=>?_⟩;exfalso;obtain⟨z,ez⟩:=h0 (Nat.lt_of_le_of_lt (Nat.zero_le _) hk);have:=hc 0 (Nat.lt_of_le_of_lt (Nat.zero_le _) hk);rw[ez]at this;simp only[Value.ownBlock,Option.some.injEq]at e
  rcases e with rfl|rfl
  ·simp only[World.cell?,hD]at this;exact hcs o z (by simpa using this)
  ·simp only[World.cell?,hR]at this;exact hcs' o z (by simpa using this)
 ·refine h.same (Nat.le_of_eq (zgg ..).symm) (fun k _ he=>yait _ _ _ _ _ _ _ _ _ _ _ k (fun x=>?_) (fun x=>?_))
  ·subst x;exact e (.inl he)
  ·subst x;exact e (.inr he)
theorem RdI.put{w:World}{v:Value}{zs:List Int}{bD bR i j:Nat}{x y a b c d:Value}{cs cs':Array Value}{t t':TypeId}{fr fr':Nat×Nat}(h:RdI w v zs)(hD:w.heap[bD]?=some (.cells cs t fr))(hcs:∀ (o:Nat) (z:Int),¬ cs[o]?=some (.I z))(hR:w.heap[bR]?=some (.cells cs' t' fr'))(hcs':∀ (o:Nat) (z:Int),¬ cs'[o]?=some (.I z)):RdI (putD w bD bR i j x y a b c d) v zs :=
 Rd.put h (fun hn=>⟨zs[0]'(by simpa using hn),zde zs 0 (by simpa using hn)⟩) hD hcs hR hcs'
theorem RdPm.put{w:World}{v:Value}{ws:List Int}{ps:List St}{bD bR i j:Nat}{x y a b c d:Value}{cs cs':Array Value}{t t':TypeId}{fr fr':Nat×Nat}(h:RdPm w v ws ps)(hD:w.heap[bD]?=some (.cells cs t fr))(hcs:∀ (o:Nat) (z:Int),¬ cs[o]?=some (.I z))(hR:w.heap[bR]?=some (.cells cs' t' fr'))(hcs':∀ (o:Nat) (z:Int),¬ cs'[o]?=some (.I z)):RdPm (putD w bD bR i j x y a b c d) v ws ps:=by
 obtain⟨vW,vP,rfl,h1,h2⟩:=h;refine⟨vW,vP,rfl,RdI.put h1 hD hcs hR hcs',Rd.put h2 (fun hn=>?_) hD hcs hR hcs'⟩;have:=znv ps 0 (by omega);rw[Nat.zero_mul]at this;exact⟨_,this⟩
theorem RdBlk.put{w:World}{v:Value}{ws:List Int}{ps:List Se}{bD bR i j:Nat}{x y a b c d:Value}{cs cs':Array Value}{t t':TypeId}{fr fr':Nat×Nat}(h:RdBlk w v ws ps)(hD:w.heap[bD]?=some (.cells cs t fr))(hcs:∀ (o:Nat) (z:Int),¬ cs[o]?=some (.I z))(hR:w.heap[bR]?=some (.cells cs' t' fr'))(hcs':∀ (o:Nat) (z:Int),¬ cs'[o]?=some (.I z)):RdBlk (putD w bD bR i j x y a b c d) v ws ps:=by
 obtain⟨vW,vP,rfl,h1,h2⟩:=h;refine⟨vW,vP,rfl,RdI.put h1 hD hcs hR hcs',Rd.put h2 (fun hn=>?_) hD hcs hR hcs'⟩;have:=zvc ps 0 (by omega);rw[Nat.zero_mul]at this;exact⟨_,this⟩
theorem zhk{B:Nat}{a0 w:World}(h:Below B a0 w){bD bR:Nat}(h1:B<=bD)(h2:B<=bR)(i j:Nat)(x y a b c d:Value):Below B a0 (putD w bD bR i j x y a b c d):=by
 unfold putD
 repeat (refine Below.setCell ?_ (by simp only;omega) _)
 exact h
theorem yajh(v:Value)(m:Mi)(ws:List Int)(ps:List St)(es:List Int)(qs:List Se)(w:World)(h:RdDev w v ws ps es qs)(hp1:pmB ws ps=true)(hb1:zdk es qs=true)(hm:miB m=true) :
  zC 132 #[v,m.v] w fun e w'=>∃ v',e=.returned v'/\RdDev w' v' (doW m ws ps) (doP m ps) (doE m es qs) (doQ m qs)/\zB w w':=by
 obtain⟨k,a,x⟩:=m;obtain⟨aW,cW,aP,cP,aS,cS,aQ,cQ,rfl,r1,r2⟩:=h.form;have R1:=zaa r1;have R2:=zaa r2;have HW:=zaa (zfh hp1).1;have hwl:ws.length<=336:=Nat.le_of_eq HW.o;have hpl:ps.length<=400:=(zfh hp1).2;have HE:=zaa (zcj hb1).1;have hel:es.length<=32:=Nat.le_of_eq HE.o;have hql:qs.length<=400:=(zcj hb1).2;have PA:=zaa (fun j (hj:j<ps.length)=>zgf (zmy hp1 j hj).1);have QA:=zaa (fun j (hj:j<qs.length)=>zsm (zni hb1 j hj).1);have hk:=(zjk k a x).1 hm;clear h r1 r2 hp1 hb1 hm
 have hb0:zB w (((w.alloc (.cells #[.slice aW ws.length cW,.slice aP ps.length cP,.slice aS es.length cS,.slice aQ qs.length cQ] 31)).alloc (.cells #[.I k,.I a,.I x] 84)).alloc (.cells #[.N,.N,.N,.N] 31)):=by
  repeat (refine Below.alloc ?_ (by simp<;>omega) _)
  exact zR
 unfold Mi.v;simp only
 rcases(show(k=1/\(0<=a/\a<336))\/(k=2/\(0<=a/\a<336))\/k=3\/(k=4/\(0<=a/\a<32))\/k=5 by omega)with ⟨rfl,ha⟩ | ⟨rfl,ha⟩ | rfl | ⟨rfl,ha⟩ | rfl
 ·clear hk;have D:=zaa (show doW (⟨1,a,x⟩:Mi) ws ps=ws/\doP (⟨1,a,x⟩:Mi) ps=ps++[⟨a,x,false⟩]/\doE (⟨1,a,x⟩:Mi) es qs=es/\doQ (⟨1,a,x⟩:Mi) qs=qs from⟨rfl,rfl,rfl,rfl⟩);go_enter Tryz.func132,Tryz.ntmps132;go_wp2_with fail;refine(yaae _ ws ps a x _ (R1.o.below hb0) (by omega)).mono ?_;rintro e w1 ⟨v1,rfl,hr,hb⟩;have hr':RdPm w1 v1 _ _:=hr;obtain⟨vW1,vP1,rfl,hI,hS⟩:=hr';obtain⟨aW1,cW1,rfl⟩:=RdI.form hI rfl;obtain⟨aP1,cP1,rfl⟩:=RdS.form hS (n:=ps.length+1) (by simp)
  have hz1:w.heap.size+3<=w1.heap.size:=by have:=hb.size;simp at this;omega
  have V0:=(hb.block w.heap.size (by simp<;>omega)).trans (zaj (zaj (zaf rfl)));have V2:=(hb.block (w.heap.size+1+1) (by simp<;>omega)).trans (zaf (by simp));have VM:=(hb.block (w.heap.size+1) (by simp<;>omega)).trans (zaj (zaf (by simp)));have RN:=zaa hr;have RO:=zaa (R2.o.below (zab hb0 hb (by simp<;>omega)));have B1:=zaa (zab hb0 hb (by simp<;>omega));obtain⟨x0,x1,x2,x3,x4,x5,x6,x7⟩:=zai V0;obtain⟨y0,y1,y2,y3,y4,y5,y6,y7⟩:=zai V2;obtain⟨m0,m1,m2⟩:=zay VM;have VH:=zaa (And.intro V0 V2);clear hb0 hb hr hI hS V0 V2 VM;go_wp2;refine bodyPost_ret (v:=.agg #[.slice aW1 ws.length cW1,.slice aP1 (ps.length+1) cP1,.slice aS es.length cS,.slice aQ qs.length cQ]) (by simp[results,Tryz.results132,go_sem,y0,y1,y2,y3]) rfl ?_;refine⟨_,rfl,?_,?_⟩
  ·rw[D.o.1,D.o.2.1,D.o.2.2.1,D.o.2.2.2];exact⟨_,_,_,_,rfl,(RN.o.put (bD:=w.heap.size) (bR:=w.heap.size+1+1) (i:=0) (j:=1) VH.o.1 (zee (zah _ _ _) (zah _ _ _) (zah _ _ _) (zah _ _ _)) VH.o.2 (zee (zah _ _ _) (zah _ _ _) (zah _ _ _) (zah _ _ _))),(RO.o.put (bD:=w.heap.size) (bR:=w.heap.size+1+1) (i:=0) (j:=1) VH.o.1 (zee (zah _ _ _) (zah _ _ _) (zah _ _ _) (zah _ _ _)) VH.o.2 (zee (zah _ _ _) (zah _ _ _) (zah _ _ _) (zah _ _ _)))⟩
  ·exact zhk B1.o zL (by omega) 0 1 _ _ _ _ _ _
 ·clear hk;have D:=zaa (show doW (⟨2,a,x⟩:Mi) ws ps=ws/\doP (⟨2,a,x⟩:Mi) ps=ps.map (fl1 a)/\doE (⟨2,a,x⟩:Mi) es qs=es/\doQ (⟨2,a,x⟩:Mi) qs=qs from⟨rfl,rfl,rfl,rfl⟩)
  obtain⟨q,rfl⟩:∃ q:Nat,a=q:=⟨a.toNat,by omega⟩
  go_enter Tryz.func132,Tryz.ntmps132;go_wp2_with fail;refine(zzg _ ws ps q _ (R1.o.below hb0) (by omega) (by omega) (fun j hj=>PA.o j hj)).mono ?_;rintro e w1 ⟨v1,rfl,hr,hb⟩;have hr':RdPm w1 v1 _ _:=hr;obtain⟨vW1,vP1,rfl,hI,hS⟩:=hr';obtain⟨aW1,cW1,rfl⟩:=RdI.form hI rfl;obtain⟨aP1,cP1,rfl⟩:=RdS.form hS (n:=ps.length) (by simp)
  have hz1:w.heap.size+3<=w1.heap.size:=by have:=hb.size;simp at this;omega
  have V0:=(hb.block w.heap.size (by simp<;>omega)).trans (zaj (zaj (zaf rfl)));have V2:=(hb.block (w.heap.size+1+1) (by simp<;>omega)).trans (zaf (by simp));have VM:=(hb.block (w.heap.size+1) (by simp<;>omega)).trans (zaj (zaf (by simp)));have RN:=zaa hr;have RO:=zaa (R2.o.below (zab hb0 hb (by simp<;>omega)));have B1:=zaa (zab hb0 hb (by simp<;>omega));obtain⟨x0,x1,x2,x3,x4,x5,x6,x7⟩:=zai V0;obtain⟨y0,y1,y2,y3,y4,y5,y6,y7⟩:=zai V2;obtain⟨m0,m1,m2⟩:=zay VM;have VH:=zaa (And.intro V0 V2);clear hb0 hb hr hI hS V0 V2 VM;go_wp2;refine bodyPost_ret (v:=.agg #[.slice aW1 ws.length cW1,.slice aP1 ps.length cP1,.slice aS es.length cS,.slice aQ qs.length cQ]) (by simp[results,Tryz.results132,go_sem,y0,y1,y2,y3]) rfl ?_;refine⟨_,rfl,?_,?_⟩
  ·rw[D.o.1,D.o.2.1,D.o.2.2.1,D.o.2.2.2];exact⟨_,_,_,_,rfl,(RN.o.put (bD:=w.heap.size) (bR:=w.heap.size+1+1) (i:=0) (j:=1) VH.o.1 (zee (zah _ _ _) (zah _ _ _) (zah _ _ _) (zah _ _ _)) VH.o.2 (zee (zah _ _ _) (zah _ _ _) (zah _ _ _) (zah _ _ _))),(RO.o.put (bD:=w.heap.size) (bR:=w.heap.size+1+1) (i:=0) (j:=1) VH.o.1 (zee (zah _ _ _) (zah _ _ _) (zah _ _ _) (zah _ _ _)) VH.o.2 (zee (zah _ _ _) (zah _ _ _) (zah _ _ _) (zah _ _ _)))⟩
  ·exact zhk B1.o zL (by omega) 0 1 _ _ _ _ _ _
 ·clear hk;have D:=zaa (show doW (⟨3,a,x⟩:Mi) ws ps=zkn ws ps/\doP (⟨3,a,x⟩:Mi) ps=zhy ps/\doE (⟨3,a,x⟩:Mi) es qs=es/\doQ (⟨3,a,x⟩:Mi) qs=qs from⟨rfl,rfl,rfl,rfl⟩);go_enter Tryz.func132,Tryz.ntmps132;go_wp2_with fail;refine(yaar _ ws ps _ (R1.o.below hb0) (by omega) (by omega) (fun j hj=>by have:=PA.o j hj;have:=HW.o;omega)).mono ?_;rintro e w1 ⟨v1,rfl,hr,hb⟩;have hr':RdPm w1 v1 _ _:=hr.rd;obtain⟨vW1,vP1,rfl,hI,hS⟩:=hr';obtain⟨aW1,cW1,rfl⟩:=RdI.form hI (zjm ws ps);obtain⟨aP1,cP1,rfl⟩:=RdS.form hS (n:=(zhy ps).length) rfl
  have hz1:w.heap.size+3<=w1.heap.size:=by have:=hb.size;simp at this;omega
  have V0:=(hb.block w.heap.size (by simp<;>omega)).trans (zaj (zaj (zaf rfl)));have V2:=(hb.block (w.heap.size+1+1) (by simp<;>omega)).trans (zaf (by simp));have VM:=(hb.block (w.heap.size+1) (by simp<;>omega)).trans (zaj (zaf (by simp)));have RN:=zaa hr;have RO:=zaa (R2.o.below (zab hb0 hb (by simp<;>omega)));have B1:=zaa (zab hb0 hb (by simp<;>omega));obtain⟨x0,x1,x2,x3,x4,x5,x6,x7⟩:=zai V0;obtain⟨y0,y1,y2,y3,y4,y5,y6,y7⟩:=zai V2;obtain⟨m0,m1,m2⟩:=zay VM;have VH:=zaa (And.intro V0 V2);clear hb0 hb hr hI hS V0 V2 VM;go_wp2;refine bodyPost_ret (v:=.agg #[.slice aW1 ws.length cW1,.slice aP1 ((zhy ps).length) cP1,.slice aS es.length cS,.slice aQ qs.length cQ]) (by simp[results,Tryz.results132,go_sem,y0,y1,y2,y3]) rfl ?_;refine⟨_,rfl,?_,?_⟩
  ·rw[D.o.1,D.o.2.1,D.o.2.2.1,D.o.2.2.2];exact⟨_,_,_,_,rfl,(RN.o.rd.put (bD:=w.heap.size) (bR:=w.heap.size+1+1) (i:=0) (j:=1) VH.o.1 (zee (zah _ _ _) (zah _ _ _) (zah _ _ _) (zah _ _ _)) VH.o.2 (zee (zah _ _ _) (zah _ _ _) (zah _ _ _) (zah _ _ _))),(RO.o.put (bD:=w.heap.size) (bR:=w.heap.size+1+1) (i:=0) (j:=1) VH.o.1 (zee (zah _ _ _) (zah _ _ _) (zah _ _ _) (zah _ _ _)) VH.o.2 (zee (zah _ _ _) (zah _ _ _) (zah _ _ _) (zah _ _ _)))⟩
  ·exact zhk B1.o zL (by omega) 0 1 _ _ _ _ _ _
 ·clear hk;have D:=zaa (show doW (⟨4,a,x⟩:Mi) ws ps=ws/\doP (⟨4,a,x⟩:Mi) ps=ps/\doE (⟨4,a,x⟩:Mi) es qs=es/\doQ (⟨4,a,x⟩:Mi) qs=qs++[⟨a,x⟩] from⟨rfl,rfl,rfl,rfl⟩);go_enter Tryz.func132,Tryz.ntmps132;go_wp2_with fail;refine(zzp _ es qs a x _ (R2.o.below hb0) (by omega)).mono ?_;rintro e w1 ⟨v1,rfl,hr,hb⟩;have hr':RdBlk w1 v1 _ _:=hr;obtain⟨vW1,vP1,rfl,hI,hS⟩:=hr';obtain⟨aW1,cW1,rfl⟩:=RdI.form hI rfl;obtain⟨aP1,cP1,rfl⟩:=RdE.form hS (n:=qs.length+1) (by simp)
  have hz1:w.heap.size+3<=w1.heap.size:=by have:=hb.size;simp at this;omega
  have V0:=(hb.block w.heap.size (by simp<;>omega)).trans (zaj (zaj (zaf rfl)));have V2:=(hb.block (w.heap.size+1+1) (by simp<;>omega)).trans (zaf (by simp));have VM:=(hb.block (w.heap.size+1) (by simp<;>omega)).trans (zaj (zaf (by simp)));have RN:=zaa hr;have RO:=zaa (R1.o.below (zab hb0 hb (by simp<;>omega)));have B1:=zaa (zab hb0 hb (by simp<;>omega));obtain⟨x0,x1,x2,x3,x4,x5,x6,x7⟩:=zai V0;obtain⟨y0,y1,y2,y3,y4,y5,y6,y7⟩:=zai V2;obtain⟨m0,m1,m2⟩:=zay VM;have VH:=zaa (And.intro V0 V2);clear hb0 hb hr hI hS V0 V2 VM;go_wp2;refine bodyPost_ret (v:=.agg #[.slice aW ws.length cW,.slice aP ps.length cP,.slice aW1 es.length cW1,.slice aP1 (qs.length+1) cP1]) (by simp[results,Tryz.results132,go_sem,y0,y1,y2,y3]) rfl ?_;refine⟨_,rfl,?_,?_⟩
  ·rw[D.o.1,D.o.2.1,D.o.2.2.1,D.o.2.2.2];exact⟨_,_,_,_,rfl,(RO.o.put (bD:=w.heap.size) (bR:=w.heap.size+1+1) (i:=2) (j:=3) VH.o.1 (zee (zah _ _ _) (zah _ _ _) (zah _ _ _) (zah _ _ _)) VH.o.2 (zee (zah _ _ _) (zah _ _ _) (zah _ _ _) (zah _ _ _))),(RN.o.put (bD:=w.heap.size) (bR:=w.heap.size+1+1) (i:=2) (j:=3) VH.o.1 (zee (zah _ _ _) (zah _ _ _) (zah _ _ _) (zah _ _ _)) VH.o.2 (zee (zah _ _ _) (zah _ _ _) (zah _ _ _) (zah _ _ _)))⟩
  ·exact zhk B1.o zL (by omega) 2 3 _ _ _ _ _ _
 ·clear hk;have D:=zaa (show doW (⟨5,a,x⟩:Mi) ws ps=ws/\doP (⟨5,a,x⟩:Mi) ps=ps/\doE (⟨5,a,x⟩:Mi) es qs=zua es qs/\doQ (⟨5,a,x⟩:Mi) qs=[] from⟨rfl,rfl,rfl,rfl⟩);go_enter Tryz.func132,Tryz.ntmps132;go_wp2_with fail;refine(zta _ es qs _ (R2.o.below hb0) (by omega) (by omega) (fun j hj=>by have:=QA.o j hj;have:=HE.o;omega)).mono ?_;rintro e w1 ⟨v1,rfl,hr,hb⟩;have hr':RdBlk w1 v1 _ _:=hr.rd;obtain⟨vW1,vP1,rfl,hI,hS⟩:=hr';obtain⟨aW1,cW1,rfl⟩:=RdI.form hI (zjx es qs);obtain⟨aP1,cP1,rfl⟩:=RdE.form hS (n:=0) rfl
  have hz1:w.heap.size+3<=w1.heap.size:=by have:=hb.size;simp at this;omega
  have V0:=(hb.block w.heap.size (by simp<;>omega)).trans (zaj (zaj (zaf rfl)));have V2:=(hb.block (w.heap.size+1+1) (by simp<;>omega)).trans (zaf (by simp));have VM:=(hb.block (w.heap.size+1) (by simp<;>omega)).trans (zaj (zaf (by simp)));have RN:=zaa hr;have RO:=zaa (R1.o.below (zab hb0 hb (by simp<;>omega)));have B1:=zaa (zab hb0 hb (by simp<;>omega));obtain⟨x0,x1,x2,x3,x4,x5,x6,x7⟩:=zai V0;obtain⟨y0,y1,y2,y3,y4,y5,y6,y7⟩:=zai V2;obtain⟨m0,m1,m2⟩:=zay VM;have VH:=zaa (And.intro V0 V2);clear hb0 hb hr hI hS V0 V2 VM;go_wp2;refine bodyPost_ret (v:=.agg #[.slice aW ws.length cW,.slice aP ps.length cP,.slice aW1 es.length cW1,.slice aP1 0 cP1]) (by simp[results,Tryz.results132,go_sem,y0,y1,y2,y3]) rfl ?_;refine⟨_,rfl,?_,?_⟩
  ·rw[D.o.1,D.o.2.1,D.o.2.2.1,D.o.2.2.2];exact⟨_,_,_,_,rfl,(RO.o.put (bD:=w.heap.size) (bR:=w.heap.size+1+1) (i:=2) (j:=3) VH.o.1 (zee (zah _ _ _) (zah _ _ _) (zah _ _ _) (zah _ _ _)) VH.o.2 (zee (zah _ _ _) (zah _ _ _) (zah _ _ _) (zah _ _ _))),(RN.o.rd.put (bD:=w.heap.size) (bR:=w.heap.size+1+1) (i:=2) (j:=3) VH.o.1 (zee (zah _ _ _) (zah _ _ _) (zah _ _ _) (zah _ _ _)) VH.o.2 (zee (zah _ _ _) (zah _ _ _) (zah _ _ _) (zah _ _ _)))⟩
  ·exact zhk B1.o zL (by omega) 2 3 _ _ _ _ _ _
def zza(w:World)(bR:Nat)(a b c d:Value):World:=(((w.setCell ⟨bR,0,none⟩ a).setCell ⟨bR,1,none⟩ b).setCell ⟨bR,2,none⟩ c).setCell ⟨bR,3,none⟩ d
theorem zdr(w:World)(bR:Nat)(a b c d:Value):Outside bR (bR+1) w (zza w bR a b c d):=by
 unfold zza
 repeat (refine Outside.setCell ?_ (by simp only;omega) (by simp only;omega) _)
 exact Outside.refl _ _ _
theorem zdv(w:World)(bR:Nat)(a b c d:Value):(zza w bR a b c d).heap.size=w.heap.size:=by simp[zza,World.setCell]
theorem yaii(v:Value)(ws:List Int)(ps:List St)(es:List Int)(qs:List Se)(w:World)(h:RdDev w v ws ps es qs)(hw:ws.length<=1048576)(hp:ps.length<=1048576)(he:es.length<=1048576)(hq:qs.length<=1048576) :
  zC 95 #[v] w fun e w'=>∃ v',e=.returned v'/\RowDev w' w.heap.size w'.heap.size v' ws ps es qs/\zB w w':=by
 obtain⟨aW,cW,aP,cP,aS,cS,aQ,cQ,rfl,r1,r2⟩:=h.form;have R1:=zaa r1;have R2:=zaa r2;clear h r1 r2
 have hb0:zB w ((w.alloc (.cells #[.slice aW ws.length cW,.slice aP ps.length cP,.slice aS es.length cS,.slice aQ qs.length cQ] 31)).alloc (.cells #[.N,.N,.N,.N] 31)):=by
  repeat (refine Below.alloc ?_ (by simp<;>omega) _)
  exact zR
 go_enter Tryz.func95,Tryz.ntmps95;go_upto_region 1 with fail
 obtain⟨w0,hw0⟩:∃ w0:World,w0=(w.alloc (.cells #[.slice aW ws.length cW,.slice aP ps.length cP,.slice aS es.length cS,.slice aQ qs.length cQ] 31)).alloc (.cells #[.N,.N,.N,.N] 31):=⟨_,rfl⟩
 rw[<- hw0];rw[<- hw0]at hb0
 have hz0:w.heap.size+2<=w0.heap.size:=by rw[hw0];simp
 have V0:Hid (w0.heap[w.heap.size]?=some (.cells #[.slice aW ws.length cW,.slice aP ps.length cP,.slice aS es.length cS,.slice aQ qs.length cQ] 31 (0,0))):=by rw[hw0];exact zaj (zaf rfl)
 have V1:Hid (w0.heap[w.heap.size+1]?=some (.cells #[.N,.N,.N,.N] 31 (0,0))):=by rw[hw0];exact zaf (by simp)
 clear hw0;have B0:=zaa hb0;clear hb0;obtain⟨x0,x1,x2,x3,-,-,-,-⟩:=zai V0.o;obtain⟨y0,y1,y2,y3,y4,y5,y6,y7⟩:=zai V1.o
 go_region_with (first
  | (go_at_call 133;refine(zuk _ ws ps _ (R1.o.below (by first | exact B0.o | exact B0.o.drew)) (by omega) (by omega)).mono ?_;rintro e w1 ⟨v1,rfl,hr1,hb1⟩;obtain⟨aW1,cW1,aP1,cP1,rfl⟩:=hr1.form;have hz1:w0.heap.size<=w1.heap.size:=hb1.size;have B1:Hid (zB w0 w1):=(by first | exact hb1 | exact zab (zR.drew) hb1 zL);have Q1:Hid (RowPm w1 w0.heap.size w1.heap.size (.agg #[.slice aW1 ws.length cW1,.slice aP1 ps.length cP1]) ws ps):=hr1;obtain⟨z0,z1,z2,z3,-,-,-,-⟩:=zai ((B1.o.block w.heap.size (by omega)).trans V0.o);clear hr1 hb1)
  | (go_at_call 134;refine(ztv _ es qs _ (R2.o.below (by first | exact zab B0.o B1.o (by omega) | exact(zab B0.o B1.o (by omega)).drew)) (by omega) (by omega)).mono ?_;rintro e w2 ⟨v2,rfl,hr2,hb2⟩;obtain⟨aS2,cS2,aQ2,cQ2,rfl⟩:=hr2.form;have hz2:w1.heap.size<=w2.heap.size:=hb2.size;have B2:Hid (zB w1 w2):=(by first | exact hb2 | exact zab (zR.drew) hb2 zL);have Q2:Hid (RowBlk w2 w1.heap.size w2.heap.size (.agg #[.slice aS2 es.length cS2,.slice aQ2 qs.length cQ2]) es qs):=hr2;have VR:=zaa ((B2.o.block (w.heap.size+1) (by omega)).trans ((B1.o.block (w.heap.size+1) (by omega)).trans V1.o));obtain⟨t0,t1,t2,t3,t4,t5,t6,t7⟩:=zai VR.o;clear hr2 hb2))
 all_goals
  go_wp2;refine bodyPost_ret (v:=.agg #[.slice aW1 ws.length cW1,.slice aP1 ps.length cP1,.slice aS2 es.length cS2,.slice aQ2 qs.length cQ2]) (by simp[results,Tryz.results95,go_sem,t0,t1,t2,t3]) rfl ?_;have O:=zdr w2 (w.heap.size+1) (.slice aW1 ws.length cW1) (.slice aP1 ps.length cP1) (.slice aS2 es.length cS2) (.slice aQ2 qs.length cQ2);have Z:=zdv w2 (w.heap.size+1) (.slice aW1 ws.length cW1) (.slice aP1 ps.length cP1) (.slice aS2 es.length cS2) (.slice aQ2 qs.length cQ2);refine⟨_,rfl,⟨_,_,_,_,w0.heap.size,w1.heap.size,w1.heap.size,w2.heap.size,rfl,?_,?_,by omega,Nat.le_trans hz2 (Nat.le_of_eq Z.symm),by omega,Nat.le_of_eq Z.symm,.inl zL⟩,?_⟩
  ·exact(Q1.o.below B2.o zL).outside O (by omega) (by omega)
  ·exact Q2.o.outside O (by omega) zL
  ·exact(zab (zab B0.o B1.o (by omega)) B2.o (by omega)).trans (O.below (by omega) (by omega))
def zhb(m:Mi)(ps:List St)(qs:List Se):Bool:=decide ((m.kind=1/\ps.length=400)\/(m.kind=4/\qs.length=400))
def mdC(m:Mi)(ws:List Int)(ps:List St)(es:List Int)(qs:List Se):Int:=if (pmB ws ps&&zdk es qs&&miB m)=true then if zhb m ps qs=true then 7 else 0 else 1
def mdW(m:Mi)(ws:List Int)(ps:List St)(es:List Int)(qs:List Se):List Int:=if mdC m ws ps es qs=0 then doW m ws ps else if mdC m ws ps es qs=7 then ws else[]
def mdP(m:Mi)(ws:List Int)(ps:List St)(es:List Int)(qs:List Se):List St:=if mdC m ws ps es qs=0 then doP m ps else if mdC m ws ps es qs=7 then ps else[]
def mdE(m:Mi)(ws:List Int)(ps:List St)(es:List Int)(qs:List Se):List Int:=if mdC m ws ps es qs=0 then doE m es qs else if mdC m ws ps es qs=7 then es else[]
def mdQ(m:Mi)(ws:List Int)(ps:List St)(es:List Int)(qs:List Se):List Se:=if mdC m ws ps es qs=0 then doQ m qs else if mdC m ws ps es qs=7 then qs else[]
theorem zmf(m:Mi)(ws:List Int)(ps:List St)(es:List Int)(qs:List Se) :
  ((pmB ws ps&&zdk es qs)=false/\mdC m ws ps es qs=1/\mdW m ws ps es qs=[]/\mdP m ws ps es qs=[]/\mdE m ws ps es qs=[]/\mdQ m ws ps es qs=[]) \/
  ((pmB ws ps&&zdk es qs)=true/\miB m=false/\mdC m ws ps es qs=1/\mdW m ws ps es qs=[]/\mdP m ws ps es qs=[]/\mdE m ws ps es qs=[]/\mdQ m ws ps es qs=[]) \/
  ((pmB ws ps&&zdk es qs)=true/\miB m=true/\zhb m ps qs=true/\mdC m ws ps es qs=7/\mdW m ws ps es qs=ws/\mdP m ws ps es qs=ps/\mdE m ws ps es qs=es/\mdQ m ws ps es qs=qs) \/
  ((pmB ws ps&&zdk es qs)=true/\miB m=true/\zhb m ps qs=false/\mdC m ws ps es qs=0/\mdW m ws ps es qs=doW m ws ps/\mdP m ws ps es qs=doP m ps/\mdE m ws ps es qs=doE m es qs/\mdQ m ws ps es qs=doQ m qs):=by
 by_cases c1:(pmB ws ps&&zdk es qs)=true
 ·by_cases c2:miB m=true
  ·by_cases c3:zhb m ps qs=true
   ·have e:mdC m ws ps es qs=7:=by unfold mdC;rw[c1,c2,c3];rfl
    refine .inr (.inr (.inl ⟨c1,c2,c3,e,?_,?_,?_,?_⟩))
    ·unfold mdW;rw[e];rfl
    ·unfold mdP;rw[e];rfl
    ·unfold mdE;rw[e];rfl
    ·unfold mdQ;rw[e];rfl
   ·have c3':zhb m ps qs=false:=by simpa using c3
    have e:mdC m ws ps es qs=0:=by unfold mdC;rw[c1,c2,c3'];rfl
    refine .inr (.inr (.inr ⟨c1,c2,c3',e,?_,?_,?_,?_⟩))
    ·unfold mdW;rw[e];rfl
    ·unfold mdP;rw[e];rfl
    ·unfold mdE;rw[e];rfl
    ·unfold mdQ;rw[e];rfl
  ·have c2':miB m=false:=by simpa using c2
   have e:mdC m ws ps es qs=1:=by unfold mdC;rw[c1,c2'];rfl
   refine .inr (.inl ⟨c1,c2',e,?_,?_,?_,?_⟩)
   ·unfold mdW;rw[e];rfl
   ·unfold mdP;rw[e];rfl
   ·unfold mdE;rw[e];rfl
   ·unfold mdQ;rw[e];rfl
 ·have c1':(pmB ws ps&&zdk es qs)=false:=by simpa using c1
  have e:mdC m ws ps es qs=1:=by unfold mdC;rw[c1'];rfl
  refine .inl ⟨c1',e,?_,?_,?_,?_⟩
  ·unfold mdW;rw[e];rfl
  ·unfold mdP;rw[e];rfl
  ·unfold mdE;rw[e];rfl
  ·unfold mdQ;rw[e];rfl
theorem RowDev.zero(w:World)(lo hi:Nat)(h:lo<=hi):RowDev w lo hi (.agg #[.N,.N,.N,.N]) [] [] [] [] :=
 ⟨_,_,_,_,lo,lo,lo,hi,rfl,RowPm.zero w lo lo,RowBlk.zero w lo hi,Nat.le_refl _,h,Nat.le_refl _,Nat.le_refl _,.inl zL⟩
structure MR where
 c:Int
 W:List Int
 P:List St
 E:List Int
 Q:List Se
def mr:List Mi->List Int->List St->List Int->List Se->MR
 | [],ws,ps,es,qs=>⟨0,ws,ps,es,qs⟩
 | m::l,ws,ps,es,qs=>if zhb m ps qs=true then⟨7,ws,ps,es,qs⟩else mr l (doW m ws ps) (doP m ps) (doE m es qs) (doQ m qs)
theorem zqt:∀ (l l':List Mi) (ws:List Int) (ps:List St) (es:List Int) (qs:List Se),mr (l++l') ws ps es qs=if (mr l ws ps es qs).c=0 then mr l' (mr l ws ps es qs).W (mr l ws ps es qs).P (mr l ws ps es qs).E (mr l ws ps es qs).Q else mr l ws ps es qs
 | [],l',ws,ps,es,qs=>by simp[mr]
 | m::l,l',ws,ps,es,qs=>by
   by_cases c:zhb m ps qs=true
   ·simp[mr,c]
   ·simp only[List.cons_append,mr,if_neg c];exact zqt l l' _ _ _ _
theorem ybbe(m:Mi)(ws:List Int)(ps:List St)(es:List Int)(qs:List Se):mr [m] ws ps es qs=if zhb m ps qs=true then⟨7,ws,ps,es,qs⟩ else⟨0,doW m ws ps,doP m ps,doE m es qs,doQ m qs⟩:=rfl
theorem zqi{ws:List Int}{ps:List St}:pmB ws ps=true↔ws.length=336/\ps.length<=400/\(∀ x∈ws,zat x=true)/\∀ p∈ps,zbn p.at_=true/\zat p.val=true:=by
 constructor
 ·intro h;refine⟨(zfh h).1,(zfh h).2,fun x hx=>?_,fun p hp=>?_⟩
  ·obtain⟨i,hi,rfl⟩:=List.getElem_of_mem hx;exact yaex h i hi
  ·obtain⟨i,hi,rfl⟩:=List.getElem_of_mem hp;exact zmy h i hi
 ·rintro⟨h1,h2,h3,h4⟩;exact yamj h1 h2 (fun k hk=>h3 _ (List.getElem_mem hk)) (fun k hk=>h4 _ (List.getElem_mem hk))
theorem zpr{ws:List Int}{ps:List Se}:zdk ws ps=true↔ws.length=32/\ps.length<=400/\(∀ x∈ws,zat x=true)/\∀ p∈ps,zmm p.at_=true/\zat p.val=true:=by
 constructor
 ·intro h;refine⟨(zcj h).1,(zcj h).2,fun x hx=>?_,fun p hp=>?_⟩
  ·obtain⟨i,hi,rfl⟩:=List.getElem_of_mem hx;exact yamq h i hi
  ·obtain⟨i,hi,rfl⟩:=List.getElem_of_mem hp;exact zni h i hi
 ·rintro⟨h1,h2,h3,h4⟩;exact yadt h1 h2 (fun k hk=>h3 _ (List.getElem_mem hk)) (fun k hk=>h4 _ (List.getElem_mem hk))
theorem yaas:∀ (ps:List St) (ws:List Int),(∀ x∈ws,zat x=true)->(∀ p∈ps,zat p.val=true)->∀ x∈zkn ws ps,zat x=true
 | [],ws,h,_=>h
 | p::ps,ws,h,k=>by
   show ∀ x∈zkn (if p.fl then ws.set p.at_.toNat p.val else ws) ps,zat x=true
   refine yaas ps _ ?_ (fun q hq=>k q (List.mem_cons_of_mem _ hq))
   split
   ·intro x hx
    rcases List.mem_or_eq_of_mem_set hx with hx | rfl
    ·exact h x hx
    ·exact k p (List.mem_cons_self)
   ·exact h
theorem zzw:∀ (ps:List Se) (ws:List Int),(∀ x∈ws,zat x=true)->(∀ p∈ps,zat p.val=true)->∀ x∈zua ws ps,zat x=true
 | [],ws,h,_=>h
 | p::ps,ws,h,k=>by
   show ∀ x∈zua (ws.set p.at_.toNat p.val) ps,zat x=true
   refine zzw ps _ ?_ (fun q hq=>k q (List.mem_cons_of_mem _ hq));intro x hx
   rcases List.mem_or_eq_of_mem_set hx with hx | rfl
   ·exact h x hx
   ·exact k p (List.mem_cons_self)
theorem ybcn{m:Mi}{ws:List Int}{ps:List St}{es:List Int}{qs:List Se}(h:pmB ws ps=true)(hb:zdk es qs=true)(hm:miB m=true)(hf:zhb m ps qs=false):pmB (doW m ws ps) (doP m ps)=true/\zdk (doE m es qs) (doQ m qs)=true:=by
 obtain⟨k,a,x⟩:=m;obtain⟨p1,p2,p3,p4⟩:=zqi.1 h;obtain⟨b1,b2,b3,b4⟩:=zpr.1 hb;have hk:=(zjk k a x).1 hm;have hf':¬ ((k=1/\ps.length=400)\/(k=4/\qs.length=400)):=of_decide_eq_false hf
 rcases(show(k=1/\(0<=a/\a<336)/\0<=x/\x<1099511627776)\/k=2\/k=3\/(k=4/\(0<=a/\a<32)/\0<=x/\x<1099511627776)\/k=5 by omega)with ⟨rfl,ha,hx⟩ | rfl|rfl | ⟨rfl,ha,hx⟩ | rfl
 ·refine⟨zqi.2 ⟨p1,?_,p3,?_⟩,hb⟩
  ·show(ps++[(⟨a,x,false⟩:St)]).length<=400
   simp;omega
  ·intro p hp
   rcases List.mem_append.1 (show p∈ps++[⟨a,x,false⟩]from hp)with hp | hp
   ·exact p4 p hp
   ·rw[List.mem_singleton.1 hp];exact⟨decide_eq_true ha,decide_eq_true hx⟩
 ·refine⟨zqi.2 ⟨p1,?_,p3,?_⟩,hb⟩
  ·show(ps.map (fl1 a)).length<=400
   simpa using p2
  ·intro p hp;obtain⟨q,hq,rfl⟩:=List.mem_map.1 (show p∈ps.map (fl1 a)from hp);have:=p4 q hq;unfold fl1
   split<;>exact this
 ·refine⟨zqi.2 ⟨?_,?_,?_,?_⟩,hb⟩
  ·show(zkn ws ps).length=336
   rw[zjm];exact p1
  ·exact Nat.le_trans (List.length_filter_le _ _) p2
  ·exact yaas ps ws p3 (fun p hp=>(p4 p hp).2)
  ·intro p hp;exact p4 p (List.mem_filter.1 (show p∈ps.filter (fun p=>!p.fl)from hp)).1
 ·refine⟨h,zpr.2 ⟨b1,?_,b3,?_⟩⟩
  ·show(qs++[(⟨a,x⟩:Se)]).length<=400
   simp;omega
  ·intro p hp
   rcases List.mem_append.1 (show p∈qs++[⟨a,x⟩]from hp)with hp | hp
   ·exact b4 p hp
   ·rw[List.mem_singleton.1 hp];exact⟨decide_eq_true ha,decide_eq_true hx⟩
 ·refine⟨h,zpr.2 ⟨?_,Nat.zero_le _,?_,fun p hp=>by cases hp⟩⟩
  ·show(zua es qs).length=32
   rw[zjx];exact b1
  ·exact zzw qs es b3 (fun p hp=>(b4 p hp).2)
theorem yaul:∀ (l:List Mi) (ws:List Int) (ps:List St) (es:List Int) (qs:List Se),pmB ws ps=true->zdk es qs=true->(∀ m∈l,miB m=true)->pmB (mr l ws ps es qs).W (mr l ws ps es qs).P=true/\zdk (mr l ws ps es qs).E (mr l ws ps es qs).Q=true
 | [],ws,ps,es,qs,h,hb,_=>⟨h,hb⟩
 | m::l,ws,ps,es,qs,h,hb,hm=>by
   by_cases c:zhb m ps qs=true
   ·simp only[mr,if_pos c];exact⟨h,hb⟩
   ·simp only[mr,if_neg c];obtain⟨h1,h2⟩:=ybcn h hb (hm m List.mem_cons_self) (by simpa using c);exact yaul l _ _ _ _ h1 h2 (fun q hq=>hm q (List.mem_cons_of_mem _ hq))
theorem yamm{l:List Mi}{i:Nat}(hi:i<l.length){ws:List Int}{ps:List St}{es:List Int}{qs:List Se}{W:List Int}{P:List St}{E:List Int}{Q:List Se}(h:mr (l.take i) ws ps es qs=⟨0,W,P,E,Q⟩)(hf:zhb l[i] P Q=false) :
  mr (l.take (i+1)) ws ps es qs=⟨0,doW l[i] W P,doP l[i] P,doE l[i] E Q,doQ l[i] Q⟩:=by
 rw[List.take_succ_eq_append_getElem hi,zqt,h];simp only[if_true,ybbe];rw[if_neg (by rw[hf];simp)]
theorem yalc{l:List Mi}{i:Nat}(hi:i<l.length){ws:List Int}{ps:List St}{es:List Int}{qs:List Se}{W:List Int}{P:List St}{E:List Int}{Q:List Se}(h:mr (l.take i) ws ps es qs=⟨0,W,P,E,Q⟩)(hf:zhb l[i] P Q=true) :
  mr l ws ps es qs=⟨7,W,P,E,Q⟩:=by
 have e:l=l.take i++l[i]::l.drop (i+1):=by rw[List.getElem_cons_drop];exact(List.take_append_drop i l).symm
 rw[e,zqt,h];simp only[if_true,mr];rw[if_pos hf]
theorem yaut{l:List Mi}{i:Nat}(hi:l.length<=i){ws:List Int}{ps:List St}{es:List Int}{qs:List Se}{W:List Int}{P:List St}{E:List Int}{Q:List Se}(h:mr (l.take i) ws ps es qs=⟨0,W,P,E,Q⟩):mr l ws ps es qs=⟨0,W,P,E,Q⟩:=by
 rw[List.take_of_length_le hi]at h;exact h
def yaps(l:List Mi):Bool:=decide (∀ k (h:k<l.length),miB l[k]=true)
def ms(l:List Mi)(ws:List Int)(ps:List St)(es:List Int)(qs:List Se):MR:=if 4096<l.length then⟨2,[],[],[],[]⟩else if (pmB ws ps&&zdk es qs&&yaps l)=true then mr l ws ps es qs else⟨1,[],[],[],[]⟩
theorem yaww{l:List Mi}{ws:List Int}{ps:List St}{es:List Int}{qs:List Se}(h:4096<l.length):ms l ws ps es qs=⟨2,[],[],[],[]⟩:=by unfold ms;rw[if_pos h]
theorem yavi{l:List Mi}{ws:List Int}{ps:List St}{es:List Int}{qs:List Se}(h:¬ 4096<l.length)(c:(pmB ws ps&&zdk es qs&&yaps l)=false):ms l ws ps es qs=⟨1,[],[],[],[]⟩:=by unfold ms;rw[if_neg h,c];rfl
theorem ybam{l:List Mi}{ws:List Int}{ps:List St}{es:List Int}{qs:List Se}(h:¬ 4096<l.length)(c:(pmB ws ps&&zdk es qs&&yaps l)=true):ms l ws ps es qs=mr l ws ps es qs:=by unfold ms;rw[if_neg h,c];rfl
end Go.Proofs.YtdiaiejmoocpmaaGreatDoor
