import Derived.Test.YtfagbapgnocjiaaGreatDoorZBA
import Derived.Test.YtfagbapgnocjiaaGreatDoorZAR
set_option maxRecDepth 100000
set_option maxHeartbeats 16000000
namespace Go.Proofs.YtfagbapgnocjiaaGreatDoor
open Go.RowKit
structure MR where
 c:Int
 W:List Int
 P:List St
 E:List Int
 Q:List Se
def mr:List Mi->List Int->List St->List Int->List Se->MR
 | [],ws,ps,es,qs=>⟨0,ws,ps,es,qs⟩
 | m::l,ws,ps,es,qs=>if zpf m ps qs=true then⟨7,ws,ps,es,qs⟩else mr l (doW m ws ps) (doP m ps) (doE m es qs) (doQ m qs)
theorem zns:∀ (l l':List Mi) (ws:List Int) (ps:List St) (es:List Int) (qs:List Se),mr (l++l') ws ps es qs=if (mr l ws ps es qs).c=0 then mr l' (mr l ws ps es qs).W (mr l ws ps es qs).P (mr l ws ps es qs).E (mr l ws ps es qs).Q else mr l ws ps es qs
 | [],l',ws,ps,es,qs=>by simp[mr]
 | m::l,l',ws,ps,es,qs=>by
   by_cases c:zpf m ps qs=true
   ·simp[mr,c]
   ·simp only[List.cons_append,mr,if_neg c];exact zns l l' _ _ _ _
theorem yaru(m:Mi)(ws:List Int)(ps:List St)(es:List Int)(qs:List Se):mr [m] ws ps es qs=if zpf m ps qs=true then⟨7,ws,ps,es,qs⟩ else⟨0,doW m ws ps,doP m ps,doE m es qs,doQ m qs⟩:=rfl
theorem zmy{ws:List Int}{ps:List St}:pmB ws ps=true↔ws.length=336/\ps.length<=400/\(∀ x∈ws,zbz x=true)/\∀ p∈ps,zvh p.at_=true/\zbz p.val=true:=by
 constructor
 ·intro h;refine⟨(zhx h).1,(zhx h).2,fun x hx=>?_,fun p hp=>?_⟩
  ·obtain⟨i,hi,rfl⟩:=List.getElem_of_mem hx;exact yaad h i hi
  ·obtain⟨i,hi,rfl⟩:=List.getElem_of_mem hp;exact zjq h i hi
 ·rintro⟨h1,h2,h3,h4⟩;exact yasi h1 h2 (fun k hk=>h3 _ (List.getElem_mem hk)) (fun k hk=>h4 _ (List.getElem_mem hk))
theorem zlu{ws:List Int}{ps:List Se}:zpe ws ps=true↔ws.length=32/\ps.length<=400/\(∀ x∈ws,zbz x=true)/\∀ p∈ps,secB p.at_=true/\zbz p.val=true:=by
 constructor
 ·intro h;refine⟨(zet h).1,(zet h).2,fun x hx=>?_,fun p hp=>?_⟩
  ·obtain⟨i,hi,rfl⟩:=List.getElem_of_mem hx;exact yade h i hi
  ·obtain⟨i,hi,rfl⟩:=List.getElem_of_mem hp;exact zqd h i hi
 ·rintro⟨h1,h2,h3,h4⟩;exact yaoa h1 h2 (fun k hk=>h3 _ (List.getElem_mem hk)) (fun k hk=>h4 _ (List.getElem_mem hk))
theorem ztm:∀ (ps:List St) (ws:List Int),(∀ x∈ws,zbz x=true)->(∀ p∈ps,zbz p.val=true)->∀ x∈zmc ws ps,zbz x=true
 | [],ws,h,_=>h
 | p::ps,ws,h,k=>by
   show ∀ x∈zmc (if p.fl then ws.set p.at_.toNat p.val else ws) ps,zbz x=true
   refine ztm ps _ ?_ (fun q hq=>k q (List.mem_cons_of_mem _ hq))
   split
   ·intro x hx
    rcases List.mem_or_eq_of_mem_set hx with hx | rfl
    ·exact h x hx
    ·exact k p (List.mem_cons_self)
   ·exact h
theorem ztr:∀ (ps:List Se) (ws:List Int),(∀ x∈ws,zbz x=true)->(∀ p∈ps,zbz p.val=true)->∀ x∈zwk ws ps,zbz x=true
 | [],ws,h,_=>h
 | p::ps,ws,h,k=>by
   show ∀ x∈zwk (ws.set p.at_.toNat p.val) ps,zbz x=true
   refine ztr ps _ ?_ (fun q hq=>k q (List.mem_cons_of_mem _ hq));intro x hx
   rcases List.mem_or_eq_of_mem_set hx with hx | rfl
   ·exact h x hx
   ·exact k p (List.mem_cons_self)
theorem yauf{m:Mi}{ws:List Int}{ps:List St}{es:List Int}{qs:List Se}(h:pmB ws ps=true)(hb:zpe es qs=true)(hm:miB m=true)(hf:zpf m ps qs=false):pmB (doW m ws ps) (doP m ps)=true/\zpe (doE m es qs) (doQ m qs)=true:=by
 obtain⟨k,a,x⟩:=m;obtain⟨p1,p2,p3,p4⟩:=zmy.1 h;obtain⟨b1,b2,b3,b4⟩:=zlu.1 hb;have hk:=(zkp k a x).1 hm;have hf':¬ ((k=1/\ps.length=400)\/(k=4/\qs.length=400)):=of_decide_eq_false hf
 rcases(show(k=1/\(0<=a/\a<336)/\0<=x/\x<1099511627776)\/k=2\/k=3\/(k=4/\(0<=a/\a<32)/\0<=x/\x<1099511627776)\/k=5 by omega)with ⟨rfl,ha,hx⟩ | rfl|rfl | ⟨rfl,ha,hx⟩ | rfl
 ·refine⟨zmy.2 ⟨p1,?_,p3,?_⟩,hb⟩
  ·show(ps++[(⟨a,x,false⟩:St)]).length<=400
   simp;omega
  ·intro p hp
   rcases List.mem_append.1 (show p∈ps++[⟨a,x,false⟩]from hp)with hp | hp
   ·exact p4 p hp
   ·rw[List.mem_singleton.1 hp];exact⟨decide_eq_true ha,decide_eq_true hx⟩
 ·refine⟨zmy.2 ⟨p1,?_,p3,?_⟩,hb⟩
  ·show(ps.map (fl1 a)).length<=400
   simpa using p2
  ·intro p hp;obtain⟨q,hq,rfl⟩:=List.mem_map.1 (show p∈ps.map (fl1 a)from hp);have:=p4 q hq;unfold fl1
   split<;>exact this
 ·refine⟨zmy.2 ⟨?_,?_,?_,?_⟩,hb⟩
  ·show(zmc ws ps).length=336
   rw[zma];exact p1
  ·exact Nat.le_trans (List.length_filter_le _ _) p2
  ·exact ztm ps ws p3 (fun p hp=>(p4 p hp).2)
  ·intro p hp;exact p4 p (List.mem_filter.1 (show p∈ps.filter (fun p=>!p.fl)from hp)).1
 ·refine⟨h,zlu.2 ⟨b1,?_,b3,?_⟩⟩
  ·show(qs++[(⟨a,x⟩:Se)]).length<=400
   simp;omega
  ·intro p hp
   rcases List.mem_append.1 (show p∈qs++[⟨a,x⟩]from hp)with hp | hp
   ·exact b4 p hp
   ·rw[List.mem_singleton.1 hp];exact⟨decide_eq_true ha,decide_eq_true hx⟩
 ·refine⟨h,zlu.2 ⟨?_,Nat.zero_le _,?_,fun p hp=>by cases hp⟩⟩
  ·show(zwk es qs).length=32
   rw[zlo];exact b1
  ·exact ztr qs es b3 (fun p hp=>(b4 p hp).2)
theorem yaqh:∀ (l:List Mi) (ws:List Int) (ps:List St) (es:List Int) (qs:List Se),pmB ws ps=true->zpe es qs=true->(∀ m∈l,miB m=true)->pmB (mr l ws ps es qs).W (mr l ws ps es qs).P=true/\zpe (mr l ws ps es qs).E (mr l ws ps es qs).Q=true
 | [],ws,ps,es,qs,h,hb,_=>⟨h,hb⟩
 | m::l,ws,ps,es,qs,h,hb,hm=>by
   by_cases c:zpf m ps qs=true
   ·simp only[mr,if_pos c];exact⟨h,hb⟩
   ·simp only[mr,if_neg c];obtain⟨h1,h2⟩:=yauf h hb (hm m List.mem_cons_self) (by simpa using c);exact yaqh l _ _ _ _ h1 h2 (fun q hq=>hm q (List.mem_cons_of_mem _ hq))
theorem yaqa{l:List Mi}{i:Nat}(hi:i<l.length){ws:List Int}{ps:List St}{es:List Int}{qs:List Se}{W:List Int}{P:List St}{E:List Int}{Q:List Se}(h:mr (l.take i) ws ps es qs=⟨0,W,P,E,Q⟩)(hf:zpf l[i] P Q=false) :
  mr (l.take (i+1)) ws ps es qs=⟨0,doW l[i] W P,doP l[i] P,doE l[i] E Q,doQ l[i] Q⟩:=by
 rw[List.take_succ_eq_append_getElem hi,zns,h];simp only[if_true,yaru];rw[if_neg (by rw[hf];simp)]
theorem yaok{l:List Mi}{i:Nat}(hi:i<l.length){ws:List Int}{ps:List St}{es:List Int}{qs:List Se}{W:List Int}{P:List St}{E:List Int}{Q:List Se}(h:mr (l.take i) ws ps es qs=⟨0,W,P,E,Q⟩)(hf:zpf l[i] P Q=true) :
  mr l ws ps es qs=⟨7,W,P,E,Q⟩:=by
 have e:l=l.take i++l[i]::l.drop (i+1):=by rw[List.getElem_cons_drop];exact(List.take_append_drop i l).symm
 rw[e,zns,h];simp only[if_true,mr];rw[if_pos hf]
theorem yasq{l:List Mi}{i:Nat}(hi:l.length<=i){ws:List Int}{ps:List St}{es:List Int}{qs:List Se}{W:List Int}{P:List St}{E:List Int}{Q:List Se}(h:mr (l.take i) ws ps es qs=⟨0,W,P,E,Q⟩):mr l ws ps es qs=⟨0,W,P,E,Q⟩:=by
 rw[List.take_of_length_le hi]at h;exact h
def yatu(l:List Mi):Bool:=decide (∀ k (h:k<l.length),miB l[k]=true)
def ms(l:List Mi)(ws:List Int)(ps:List St)(es:List Int)(qs:List Se):MR:=if 4096<l.length then⟨2,[],[],[],[]⟩else if (pmB ws ps&&zpe es qs&&yatu l)=true then mr l ws ps es qs else⟨1,[],[],[],[]⟩
theorem yamj{w:World}{b:Nat}{t:TypeId}{x y z u a b' c d:Value}(h:w.heap[b]?=some (.cells #[x,y,z,u] t (0,0))):(putR w b a b' c d).heap[b]?=some (.cells #[a,b',c,d] t (0,0)):=by
 simp[putR,World.setCell,Array.getElem?_modify,h]
theorem belY{a b c:World}(h1:zB a b)(h2:zB b c):zB a c:=zab h1 h2 h1.size
structure MidA(l:List Mi)(ws:List Int)(ps:List St)(es:List Int)(qs:List Se)(w wr:World)(k:Nat)(W:List Int)(P:List St)(E:List Int)(Q:List Se)(a b' c d:Value):Prop where
 run:mr (l.take k) ws ps es qs=⟨0,W,P,E,Q⟩
 box:wr.heap[w.heap.size]?=some (.cells #[a,b',c,d] 78 (0,0))
 res:wr.heap[w.heap.size+1]?=some (.cells #[.N,.N,.N,.N] 78 (0,0))
 rd:RdDev wr (.agg #[a,b',c,d]) W P E Q
 below:zB w wr
 size:w.heap.size+1<wr.heap.size
theorem RdDev.put{w:World}{b:Nat}{ws:List Int}{ps:List St}{es:List Int}{qs:List Se}{v:Value}{x y z u:Value}{t:TypeId}{fr:Nat×Nat}(h:RdDev w v ws ps es qs)(hb:w.heap[b]?=some (.cells #[x,y,z,u] t fr))(hx:∀ n,¬ x=.I n)(hy:∀ n,¬ y=.I n)(hz:∀ n,¬ z=.I n)(hu:∀ n,¬ u=.I n)(p q r s:Value):RdDev (putR w b p q r s) v ws ps es qs:=by
 obtain⟨vW,vP,vS,vQ,rfl,h1,h2⟩:=h;have O:=zhj w b p q r s;have N:=zda hx hy hz hu;exact⟨_,_,_,_,rfl,h1.boxless hb N O.size (fun j hj hn=>O.block j hj (by omega)),h2.boxless hb N O.size (fun j hj hn=>O.block j hj (by omega))⟩
theorem yamk{l:List Mi}{ws:List Int}{ps:List St}{es:List Int}{qs:List Se}(h:(mr l ws ps es qs).c=0){k:Nat}(hk:k<l.length){W:List Int}{P:List St}{E:List Int}{Q:List Se}(r:mr (l.take k) ws ps es qs=⟨0,W,P,E,Q⟩):zpf l[k] P Q=false:=by
 cases f:zpf l[k] P Q with
 | false=>rfl
 | true =>
  rw[yaok hk r f]at h
  cases h
theorem yaci(v vL:Value)(l:List Mi)(ws:List Int)(ps:List St)(es:List Int)(qs:List Se)(W':List Int)(P':List St)(E':List Int)(Q':List Se)(w:World)(h:RdDev w v ws ps es qs)(hL:RdM w vL l)(hp:pmB ws ps=true)(hb:zpe es qs=true)(hm:∀ m∈l,miB m=true)(hl:l.length<=1000)(r:mr l ws ps es qs=⟨0,W',P',E',Q'⟩) :
  zC 115 #[v,vL] w fun e w'=>∃ v',e=.returned v'/\RdDev w' v' W' P' E' Q'/\zB w w':=by
 have HD:=zaa h;have CP:=zaa (And.intro hp hb);have CM:=zaa hm;have C0:=zaa (show(mr l ws ps es qs).c=0 by rw[r]);have RR:=zaa r;obtain⟨aL,cL,rfl,-,hcL⟩:=hL.shape;have HL:=zaa hcL;obtain⟨aW,cW,aP,cP,aS,cS,aQ,cQ,rfl,-,-⟩:=h.form;clear h hL hcL hp hb hm r
 obtain⟨V,hV⟩:=zE ((w.alloc (.cells #[.slice aW ws.length cW,.slice aP ps.length cP,.slice aS es.length cS,.slice aQ qs.length cQ] 78)).alloc (.cells #[.N,.N,.N,.N] 78))
 have hb0:zB w V:=by
  rw[hV]
  repeat (refine Below.alloc ?_ (by simp<;>omega) _)
  exact zR
 have I0:Hid (MidA l ws ps es qs w V 0 ws ps es qs (.slice aW ws.length cW) (.slice aP ps.length cP) (.slice aS es.length cS) (.slice aQ qs.length cQ)) :=
  ⟨rfl,by rw[hV];exact zak (zai rfl),by rw[hV];exact zai (by simp),HD.o.below hb0,hb0,by rw[hV];simp⟩
 clear hb0;go_enter Tryz.func115,Tryz.ntmps115;go_upto_region 1 with fail;rw[<- hV];clear hV;go_wp2_with fail
 go_loopw [5] (fun i wq=>∃ k:Nat,k<=l.length/\i=.I k/\∃ (W:List Int) (P:List St) (E:List Int) (Q:List Se) (d1 d2 d3 d4:Option Addr) (f1 f2 f3 f4:Nat),Hid (MidA l ws ps es qs w wq k W P E Q (.slice d1 W.length f1) (.slice d2 P.length f2) (.slice d3 E.length f3) (.slice d4 Q.length f4))) (fun i _=>l.length-(intOf i).toNat)
 case atStart=>exact⟨0,by omega,rfl,ws,ps,es,qs,_,_,_,_,_,_,_,_,I0⟩
 case round =>
  obtain⟨k,hk,rfl,W,P,E,Q,d1,d2,d3,d4,f1,f2,f3,f4,I⟩:=hrel;clear I0;have hsz:=I.o.size
  by_cases hlt:k<l.length
  ·obtain⟨bL,oL,rfl,hblL,hcellL⟩:=HL.o (by omega);obtain⟨g0,g1,g2⟩:=hcellL k hlt;have e0:=(I.o.below.cell (p:=⟨bL,oL+k*3,none⟩) hblL).trans g0;have e1:=(I.o.below.cell (p:=⟨bL,oL+k*3+1,none⟩) hblL).trans g1;have e2:=(I.o.below.cell (p:=⟨bL,oL+k*3+2,none⟩) hblL).trans g2
   have k0:(0:Int)<=(k:Int):=by omega
   have k1:(k:Int)<(l.length:Int):=by omega
   clear g0 g1 g2 hcellL
   have XO:=zaa (show pmB W P=true/\zpe E Q=true by
    have:=yaqh (l.take k) ws ps es qs CP.o.1 CP.o.2 (fun m hm=>CM.o m (List.mem_of_mem_take hm));rw[I.o.run]at this
    exact this)
   have NX:=zaa (yaqa hlt I.o.run (yamk C0.o hlt I.o.run))
   have LD:Hid (∀ v2 w1,RdDev w1 v2 W P E Q->zC 147 #[v2,.agg #[.I l[k].kind,.I l[k].at_,.I l[k].val]] w1 fun e w'=>∃ v',e=.returned v'/\RdDev w' v' (doW l[k] W P) (doP l[k] P) (doE l[k] E Q) (doQ l[k] Q)/\zB w1 w'):=fun v2 w1 h2=>yady v2 l[k] W P E Q w1 h2 XO.o.1 XO.o.2 (CM.o _ (List.getElem_mem hlt))
   obtain⟨x0,x1,x2,x3,y0,y1,y2,y3⟩:=zas I.o.box;generalize doW l[k] W P=W2 at *;generalize doP l[k] P=P2 at *;generalize doE l[k] E Q=E2 at *;generalize doQ l[k] Q=Q2 at *;generalize l[k]=m at *;go_wp2_with fail
   go_region_law (go_simp;go_at_call 147;refine(LD.o _ _ (I.o.rd.below (by repeat (first | with_reducible exact zR | with_reducible refine Below.drew ?_)))).mono ?_;rintro e wf ⟨vf,rfl,hrf,hbf⟩;have BF:Hid (zB wr wf):=belY (by repeat (first | with_reducible exact zR | with_reducible refine Below.drew ?_)) hbf;have RF:=zaa hrf;obtain⟨i0,j0,i1,j1,i2,j2,i3,j3,rfl,-,-⟩:=hrf.form;have DB:=zaa ((BF.o.block w.heap.size (by omega)).trans I.o.box);obtain⟨z0,z1,z2,z3,z4,z5,z6,z7⟩:=zas DB.o;clear hrf hbf)
   all_goals
    have DR:=zaa ((BF.o.block (w.heap.size+1) (by omega)).trans I.o.res)
    have G:Hid (MidA l ws ps es qs w (putR wf w.heap.size (.slice i0 W2.length j0) (.slice i1 P2.length j1) (.slice i2 E2.length j2) (.slice i3 Q2.length j3)) (k+1) W2 P2 E2 Q2 (.slice i0 W2.length j0) (.slice i1 P2.length j1) (.slice i2 E2.length j2) (.slice i3 Q2.length j3)):=by
     have O:=zhj wf w.heap.size (.slice i0 W2.length j0) (.slice i1 P2.length j1) (.slice i2 E2.length j2) (.slice i3 Q2.length j3);have Z:=zoa wf w.heap.size (.slice i0 W2.length j0) (.slice i1 P2.length j1) (.slice i2 E2.length j2) (.slice i3 Q2.length j3);have zf:=BF.o.size;exact⟨NX.o,yamj DB.o,(O.block _ (by omega) (by omega)).trans DR.o,RF.o.put DB.o (zae _ _ _) (zae _ _ _) (zae _ _ _) (zae _ _ _) _ _ _ _,(zab I.o.below BF.o (by omega)).trans (O.below zL (by omega)),Nat.lt_of_lt_of_eq (show w.heap.size+1<wf.heap.size by omega) Z.symm⟩
    go_wp2
    go_roundw
    case rel=>exact⟨k+1,by omega,by go_num,_,_,_,_,i0,i1,i2,i3,j0,j1,j2,j3,G⟩
    case measure=>simp[intOf];omega
  ·have RUN:=yasq (by omega) I.o.run;rw[RR.o]at RUN;obtain⟨-,rfl,rfl,rfl,rfl⟩:=MR.mk.inj RUN;obtain⟨x0,x1,x2,x3,-,-,-,-⟩:=zas I.o.box;obtain⟨y0,y1,y2,y3,y4,y5,y6,y7⟩:=zas I.o.res;have O:=zaa (zhj wr (w.heap.size+1) (.slice d1 W'.length f1) (.slice d2 P'.length f2) (.slice d3 E'.length f3) (.slice d4 Q'.length f4));have RD:=zaa (I.o.rd.put I.o.res (zae _ _ _) (zae _ _ _) (zae _ _ _) (zae _ _ _) (.slice d1 W'.length f1) (.slice d2 P'.length f2) (.slice d3 E'.length f3) (.slice d4 Q'.length f4));have BD:=zaa (I.o.below.trans (O.o.below (B:=w.heap.size) (by omega) (by omega)));clear O;go_wp2;refine bodyPost_ret (v:=.agg #[.slice d1 W'.length f1,.slice d2 P'.length f2,.slice d3 E'.length f3,.slice d4 Q'.length f4]) (by simp[results,Tryz.results115,go_sem,y0,y1,y2,y3]) rfl ?_;exact⟨_,rfl,RD.o,BD.o⟩
end Go.Proofs.YtfagbapgnocjiaaGreatDoor

namespace Go.Proofs.YtfagbapgnocjiaaGreatDoor
open Go.RowKit
theorem zgb {P:Program} {ops:Array Oper} {Q:Exit->Act->World->Prop} {J:Act->World->Prop} {a:Act} {w:World} {i:Nat} {o:Oper} (ho:ops[i]?=some o)
  (h:∀ K:Act->World->Prop,(∀ a' w',J a' w'->K a' w')->(if Region.wanted o (yielded ops a.tmps)=true then o.wp P a w K Q else K (a.put o.dst undef) w)):wpOp P ops Q i J a w:=by
 have h1:=h J (fun _ _ h=>h);unfold wpOp;rw[ho];simp only
 by_cases c:Region.wanted o (yielded ops a.tmps)=true
 ·rw[if_pos c]at h1 ⊢;exact .inl h1
 ·rw[if_neg c]at h1 ⊢;exact h1
theorem yamw{l:Array Bool}{i:Nat}(hi:i<l.size)(j:Nat):(l.setIfInBounds i true).getD j false=if j=i then true else l.getD j false:=by
 rw[Array.getD_eq_getD_getElem?,Array.getD_eq_getD_getElem?,Array.getElem?_setIfInBounds]
 by_cases e:i=j
 ·subst e;rw[if_pos rfl,if_pos hi,if_pos rfl];rfl
 ·rw[if_neg e,if_neg (fun h=>e h.symm)]
theorem yaki{l:Array Bool}{i:Nat}(hi:i<l.size)(h:l.getD i true=false):l.getD i false=false:=by
 rw[Array.getD_eq_getD_getElem?,Array.getElem?_eq_getElem hi]at h ⊢;exact h
structure NdF(w0:World)(d:Nat->Bool)(wx:World)(x1 x2 x3 x4 x5 x6 x7 x8:Value):Prop where
 b:zB w0 wx
 f0:d 0=true->∃ b,x2=.slice (some ⟨b,0,none⟩) 336 336/\wx.heap[b]?=some (.cells n336 3 (0,0))/\w0.heap.size<=b
 f1:d 1=true->∃ q,x3=.slice q 0 0
 f2:d 2=true->d 0=true/\d 1=true/\x4=.agg #[x2,x3]
 f3:d 3=true->∃ b,x5=.slice (some ⟨b,0,none⟩) 32 32/\wx.heap[b]?=some (.cells n32 3 (0,0))/\w0.heap.size<=b
 f4:d 4=true->∃ q,x6=.slice q 0 0
 f5:d 5=true->d 3=true/\d 4=true/\x7=.agg #[x5,x6]
 f6:d 6=true->d 2=true/\d 5=true/\x8=.agg #[x2,x3,x5,x6]
 f7:d 7=true->∃ b,x1=.pointer (some ⟨b,0,none⟩)/\w0.heap.size<=b/\(d 8=false->wx.heap[b]?=some (.cells #[.N,.N,.N,.N] 78 (0,0)))/\(d 8=true->wx.heap[b]?=some (.cells #[x2,x3,x5,x6] 78 (0,0)))
 f8:d 8=true->d 6=true/\d 7=true
def NdI(w0:World)(p:Value)(l:Array Bool)(a:Act)(wx:World):Prop :=
 l.size=9/\∃ x1 x2 x3 x4 x5 x6 x7 x8,a={ tmps:=#[p,x1,x2,x3,x4,x5,x6,x7,x8,undef,undef,undef,undef,undef,undef,undef,undef,undef,undef,undef,undef,undef,undef,undef],defers:=[] }/\NdF w0 (fun j=>l.getD j false) wx x1 x2 x3 x4 x5 x6 x7 x8
theorem NdF.off{w0 wx:World}{d:Nat->Bool}{x1 x2 x3 x4 x5 x6 x7 x8:Value}(h:NdF w0 d wx x1 x2 x3 x4 x5 x6 x7 x8):(d 0=false->d 2=false)/\(d 1=false->d 2=false)/\(d 3=false->d 5=false)/\(d 4=false->d 5=false)/\(d 2=false->d 6=false)/\(d 5=false->d 6=false)/\(d 6=false->d 8=false)/\(d 7=false->d 8=false):=by
 have g2:=h.f2;have g5:=h.f5;have g6:=h.f6;have g8:=h.f8;clear h;refine⟨fun q=>?_,fun q=>?_,fun q=>?_,fun q=>?_,fun q=>?_,fun q=>?_,fun q=>?_,fun q=>?_⟩<;>(apply Bool.eq_false_iff.2;intro r)
 ·rw[(g2 r).1]at q;cases q
 ·rw[(g2 r).2.1]at q;cases q
 ·rw[(g5 r).1]at q;cases q
 ·rw[(g5 r).2.1]at q;cases q
 ·rw[(g6 r).1]at q;cases q
 ·rw[(g6 r).2.1]at q;cases q
 ·rw[(g8 r).1]at q;cases q
 ·rw[(g8 r).2]at q;cases q
theorem NdF.alloc{w0 wx:World}{d:Nat->Bool}{x1 x2 x3 x4 x5 x6 x7 x8:Value}(h:NdF w0 d wx x1 x2 x3 x4 x5 x6 x7 x8)(o:Obj):NdF w0 d (wx.alloc o) x1 x2 x3 x4 x5 x6 x7 x8 :=
 ⟨h.b.alloc h.b.size o,fun q=>let ⟨b,e,g,z⟩:=h.f0 q;⟨b,e,zak g,z⟩,h.f1,h.f2,fun q=>let ⟨b,e,g,z⟩:=h.f3 q;⟨b,e,zak g,z⟩,h.f4,h.f5,h.f6,
  fun q=>let ⟨b,e,z,g1,g2⟩:=h.f7 q;⟨b,e,z,fun r=>zak (g1 r),fun r=>zak (g2 r)⟩,h.f8⟩
def upN(d:Nat->Bool)(i:Nat):Nat->Bool:=fun j=>if j=i then true else d j
theorem zmz{b:Bool}(h:b=false):¬ b=true:=by rw[h];decide
section
variable {w0 wx:World} {d:Nat->Bool} {x1 x2 x3 x4 x5 x6 x7 x8:Value}
theorem NdF.s0(h:NdF w0 d wx x1 x2 x3 x4 x5 x6 x7 x8)(q:d 0=false):NdF w0 (upN d 0) (wx.alloc (.cells n336 3)) x1 (.slice (some ⟨wx.heap.size,0,none⟩) 336 336) x3 x4 x5 x6 x7 x8:=by
 obtain⟨o1,_,_,_,o5,_,o7,_⟩:=h.off;have d2:=o1 q;have d6:=o5 d2;have d8:=o7 d6;have g:=h.alloc (.cells n336 3);exact⟨g.b,fun _=>⟨_,rfl,zai rfl,h.b.size⟩,g.f1,fun r=>absurd r (zmz d2),g.f3,g.f4,g.f5,fun r=>absurd r (zmz d6),fun r=>let ⟨b,e,z,g1,_⟩:=g.f7 r;⟨b,e,z,fun _=>g1 d8,fun r=>absurd r (zmz d8)⟩,fun r=>absurd r (zmz d8)⟩
theorem NdF.s1(h:NdF w0 d wx x1 x2 x3 x4 x5 x6 x7 x8)(q:d 1=false)(o:Obj)(y:Option Addr):NdF w0 (upN d 1) (wx.alloc o) x1 x2 (.slice y 0 0) x4 x5 x6 x7 x8:=by
 obtain⟨_,o1,_,_,o5,_,o7,_⟩:=h.off;have d2:=o1 q;have d6:=o5 d2;have d8:=o7 d6;have g:=h.alloc o;exact⟨g.b,g.f0,fun _=>⟨_,rfl⟩,fun r=>absurd r (zmz d2),g.f3,g.f4,g.f5,fun r=>absurd r (zmz d6),fun r=>let ⟨b,e,z,g1,_⟩:=g.f7 r;⟨b,e,z,fun _=>g1 d8,fun r=>absurd r (zmz d8)⟩,fun r=>absurd r (zmz d8)⟩
theorem NdF.s2(h:NdF w0 d wx x1 x2 x3 x4 x5 x6 x7 x8)(q:d 2=false)(q0:d 0=true)(q1:d 1=true):NdF w0 (upN d 2) wx x1 x2 x3 (.agg #[x2,x3]) x5 x6 x7 x8:=by
 obtain⟨_,_,_,_,o5,_,o7,_⟩:=h.off;have d6:=o5 q;exact⟨h.b,h.f0,h.f1,fun _=>⟨q0,q1,rfl⟩,h.f3,h.f4,h.f5,fun r=>absurd r (zmz d6),h.f7,fun r=>absurd r (zmz (o7 d6))⟩
theorem NdF.s3(h:NdF w0 d wx x1 x2 x3 x4 x5 x6 x7 x8)(q:d 3=false):NdF w0 (upN d 3) (wx.alloc (.cells n32 3)) x1 x2 x3 x4 (.slice (some ⟨wx.heap.size,0,none⟩) 32 32) x6 x7 x8:=by
 obtain⟨_,_,o1,_,_,o5,o7,_⟩:=h.off;have d2:=o1 q;have d6:=o5 d2;have d8:=o7 d6;have g:=h.alloc (.cells n32 3);exact⟨g.b,g.f0,g.f1,g.f2,fun _=>⟨_,rfl,zai rfl,h.b.size⟩,g.f4,fun r=>absurd r (zmz d2),fun r=>absurd r (zmz d6),fun r=>let ⟨b,e,z,g1,_⟩:=g.f7 r;⟨b,e,z,fun _=>g1 d8,fun r=>absurd r (zmz d8)⟩,fun r=>absurd r (zmz d8)⟩
theorem NdF.s4(h:NdF w0 d wx x1 x2 x3 x4 x5 x6 x7 x8)(q:d 4=false)(o:Obj)(y:Option Addr):NdF w0 (upN d 4) (wx.alloc o) x1 x2 x3 x4 x5 (.slice y 0 0) x7 x8:=by
 obtain⟨_,_,_,o1,_,o5,o7,_⟩:=h.off;have d2:=o1 q;have d6:=o5 d2;have d8:=o7 d6;have g:=h.alloc o;exact⟨g.b,g.f0,g.f1,g.f2,g.f3,fun _=>⟨_,rfl⟩,fun r=>absurd r (zmz d2),fun r=>absurd r (zmz d6),fun r=>let ⟨b,e,z,g1,_⟩:=g.f7 r;⟨b,e,z,fun _=>g1 d8,fun r=>absurd r (zmz d8)⟩,fun r=>absurd r (zmz d8)⟩
theorem NdF.s5(h:NdF w0 d wx x1 x2 x3 x4 x5 x6 x7 x8)(q:d 5=false)(q0:d 3=true)(q1:d 4=true):NdF w0 (upN d 5) wx x1 x2 x3 x4 x5 x6 (.agg #[x5,x6]) x8:=by
 obtain⟨_,_,_,_,_,o5,o7,_⟩:=h.off;have d6:=o5 q;exact⟨h.b,h.f0,h.f1,h.f2,h.f3,h.f4,fun _=>⟨q0,q1,rfl⟩,fun r=>absurd r (zmz d6),h.f7,fun r=>absurd r (zmz (o7 d6))⟩
theorem NdF.s6(h:NdF w0 d wx x1 x2 x3 x4 x5 x6 x7 x8)(q:d 6=false)(q0:d 2=true)(q1:d 5=true):NdF w0 (upN d 6) wx x1 x2 x3 x4 x5 x6 x7 (.agg #[x2,x3,x5,x6]):=by
 obtain⟨_,_,_,_,_,_,o7,_⟩:=h.off;exact⟨h.b,h.f0,h.f1,h.f2,h.f3,h.f4,h.f5,fun _=>⟨q0,q1,rfl⟩,h.f7,fun r=>absurd r (zmz (o7 q))⟩
theorem NdF.s7(h:NdF w0 d wx x1 x2 x3 x4 x5 x6 x7 x8)(q:d 7=false):NdF w0 (upN d 7) (wx.alloc (.cells #[.N,.N,.N,.N] 78)) (.pointer (some ⟨wx.heap.size,0,none⟩)) x2 x3 x4 x5 x6 x7 x8:=by
 obtain⟨_,_,_,_,_,_,_,o8⟩:=h.off;have d8:=o8 q;have g:=h.alloc (.cells #[.N,.N,.N,.N] 78);exact⟨g.b,g.f0,g.f1,g.f2,g.f3,g.f4,g.f5,g.f6,fun _=>⟨_,rfl,h.b.size,fun _=>zai rfl,fun r=>absurd r (zmz d8)⟩,fun r=>absurd r (zmz d8)⟩
theorem NdF.s8(h:NdF w0 d wx x1 x2 x3 x4 x5 x6 x7 x8)(q:d 8=false)(q6:d 6=true)(q7:d 7=true){b:Nat}(e:x1=.pointer (some ⟨b,0,none⟩)) :
  NdF w0 (upN d 8) ((((wx.setCell ⟨b,0,none⟩ x2).setCell ⟨b,1,none⟩ x3).setCell ⟨b,2,none⟩ x5).setCell ⟨b,3,none⟩ x6) x1 x2 x3 x4 x5 x6 x7 x8:=by
 obtain⟨b',e',z,g1,_⟩:=h.f7 q7;rw[e]at e'
 cases e'
 have hb:=g1 q;have F:=zbs (zbs (zbs (zbs (xs:=[.N,.N,.N,.N]) hb 0 x2) 1 x3) 2 x5) 3 x6
 have O:∀ c,c≠b->((((wx.setCell ⟨b,0,none⟩ x2).setCell ⟨b,1,none⟩ x3).setCell ⟨b,2,none⟩ x5).setCell ⟨b,3,none⟩ x6).heap[c]?=wx.heap[c]?:=fun c hc=>by
  rw[Below.heap_setCell _ _ _ _ hc,Below.heap_setCell _ _ _ _ hc,Below.heap_setCell _ _ _ _ hc,Below.heap_setCell _ _ _ _ hc]
 have N:∀ c (ys:Array Value),wx.heap[c]?=some (.cells ys 3 (0,0))->c≠b:=fun c ys h1 h2=>by
  subst h2;rw[hb]at h1
  cases h1
 refine⟨(((h.b.setCell z _).setCell z _).setCell z _).setCell z _,fun r=>?_,h.f1,h.f2,fun r=>?_,h.f4,h.f5,h.f6,fun r=>⟨b,e,z,fun r=>(by cases r),fun _=>F⟩,fun _=>⟨q6,q7⟩⟩
 ·obtain⟨c,e1,e2,e3⟩:=h.f0 r;exact⟨c,e1,(O c (N c _ e2)).trans e2,e3⟩
 ·obtain⟨c,e1,e2,e3⟩:=h.f3 r;exact⟨c,e1,(O c (N c _ e2)).trans e2,e3⟩
end
theorem yagm:n336.size=336:=by unfold n336;rw[List.size_toArray,ziz,zej]
theorem yakr:n32.size=32:=by unfold n32;rw[List.size_toArray,ziz,zza]
theorem NdF.all{w0 wx:World}{d:Nat->Bool}{x1 x2 x3 x4 x5 x6 x7 x8:Value}(h:NdF w0 d wx x1 x2 x3 x4 x5 x6 x7 x8)(q0:d 0=true)(q1:d 1=true)(q3:d 3=true)(q4:d 4=true)(q7:d 7=true)(q8:d 8=true):NDr w0 x1 wx:=by
 obtain⟨b,rfl,e1,e2⟩:=h.f0 q0;obtain⟨y,rfl⟩:=h.f1 q1;obtain⟨c,rfl,g1,g2⟩:=h.f3 q3;obtain⟨y',rfl⟩:=h.f4 q4;obtain⟨bx,rfl,z,_,k2⟩:=h.f7 q7;have k:=k2 q8;refine NDr.mk (NDc.mk0 k e1 g1 (fun e=>?_) (fun e=>?_) (fun e=>?_) e2 g2 z h.b)
 ·subst e;rw[e1]at g1;have this:n336.size=n32.size:=congrArg (fun o:Option Obj=>match o with | some (.cells c _ _)=>c.size | _=>0) g1;rw[yagm,yakr]at this
  cases this
 ·subst e;rw[e1]at k;injection k with k;injection k with _ k2
  cases k2
 ·subst e;rw[g1]at k;injection k with k;injection k with _ k2
  cases k2
theorem yaud{l:Array Bool}{i:Nat}(hl:l.size=9)(hi:i<9):(fun j=>(l.setIfInBounds i true).getD j false)=upN (fun j=>l.getD j false) i:=funext fun j=>by rw[yamw (by omega)];rfl
theorem NdI.mk{w0:World}{p:Value}{l:Array Bool}{i:Nat}(hl:l.size=9)(hi:i<9){wx:World}{x1 x2 x3 x4 x5 x6 x7 x8:Value}(h:NdF w0 (upN (fun j=>l.getD j false) i) wx x1 x2 x3 x4 x5 x6 x7 x8) :
  NdI w0 p (l.setIfInBounds i true) { tmps:=#[p,x1,x2,x3,x4,x5,x6,x7,x8,undef,undef,undef,undef,undef,undef,undef,undef,undef,undef,undef,undef,undef,undef,undef],defers:=[] } wx :=
 ⟨by rw[Array.size_setIfInBounds];exact hl,_,_,_,_,_,_,_,_,rfl,by rw[yaud hl hi];exact h⟩
theorem zer{md:Region.Mode}{ops:Array Oper}{l:Array Bool}{i:Nat}{o:Oper}(hr:Region.ready md ops l=[])(ho:ops[i]?=some o)(ha:o.after.all (fun e=>l.getD e.on false)=true):¬ l.getD i true=false:=fun h=>by
 have:i∈Region.ready md ops l:=by
  unfold Region.ready;rw[List.mem_filter,List.mem_range];refine⟨(Array.getElem?_eq_some_iff.1 ho).1,?_⟩;rw[ho,h];simp only[Bool.not_false,Bool.true_and,Option.map_some,Option.getD_some,Array.all_eq_true_iff_forall_mem]at ha ⊢;intro e he;rw[ha e he,Bool.or_true]
 rw[hr]at this
 cases this
theorem zjl(w:World) :
  zC 107 #[] w fun e w'=>∃ v',e=.returned v'/\RdDev w' v' ndW [] zs32 []/\zB w w':=by
 have k1:=zvl;have k2:=yacj;go_enter Tryz.func107,Tryz.ntmps107;go_upto_region 1 with fail
 obtain⟨w0,hw0⟩:∃ w0:World,w0=w.alloc (.cells #[.N,.N,.N,.N] 78):=⟨_,rfl⟩
 have V0:Hid (w0.heap[w.heap.size]?=some (.cells #[.N,.N,.N,.N] 78 (0,0))):=by rw[hw0];exact zai rfl
 have B0:Hid (zB w w0):=by rw[hw0];exact zR.alloc zL _
 have hz0:w.heap.size<w0.heap.size:=by rw[hw0];simp
 rw[<- hw0];clear hw0
 go_cut [1] (fun s wx=>NDr w0 s wx)
 case first =>
  clear B0 V0;refine wp_region_any (by kernel_rfl) ?_;refine zvk (NdI w0 (.pointer (some ⟨w.heap.size,0,none⟩))) ?_ ?_ _ _ _ _ (by decide) ?_
  ·rintro l a wx ⟨hl,x1,x2,x3,x4,x5,x6,x7,x8,rfl,F⟩ i hi;obtain⟨hi9,hn,o,ho,hd⟩:=zqq hi;clear hi;have hi9:i<9:=hi9;have nd:=yaki (by omega) hn;have FH:=zaa F;clear F
   rcases(show i=0\/i=1\/i=2\/i=3\/i=4\/i=5\/i=6\/i=7\/i=8 by omega)with rfl|rfl|rfl|rfl|rfl|rfl|rfl|rfl|rfl
   ·refine zgb rfl (fun K hK=>?_);go_simp;refine hK _ _ ?_;exact NdI.mk hl (by omega) (FH.o.s0 nd)
   ·refine zgb rfl (fun K hK=>?_);go_simp;refine hK _ _ ?_;exact NdI.mk hl (by omega) (FH.o.s1 nd _ _)
   ·have e:o=_:=Option.some.inj (ho.symm.trans rfl);subst e;have q0:=hd ⟨0,.data⟩ (by simp) rfl;have q1:=hd ⟨1,.data⟩ (by simp) rfl;obtain⟨b,rfl,_,_⟩:=FH.o.f0 q0;obtain⟨y,rfl⟩:=FH.o.f1 q1;clear ho hd;refine zgb rfl (fun K hK=>?_);go_simp;refine hK _ _ ?_;exact NdI.mk hl (by omega) (FH.o.s2 nd q0 q1)
   ·refine zgb rfl (fun K hK=>?_);go_simp;refine hK _ _ ?_;exact NdI.mk hl (by omega) (FH.o.s3 nd)
   ·refine zgb rfl (fun K hK=>?_);go_simp;refine hK _ _ ?_;exact NdI.mk hl (by omega) (FH.o.s4 nd _ _)
   ·have e:o=_:=Option.some.inj (ho.symm.trans rfl);subst e;have q0:=hd ⟨3,.data⟩ (by simp) rfl;have q1:=hd ⟨4,.data⟩ (by simp) rfl;obtain⟨b,rfl,_,_⟩:=FH.o.f3 q0;obtain⟨y,rfl⟩:=FH.o.f4 q1;clear ho hd;refine zgb rfl (fun K hK=>?_);go_simp;refine hK _ _ ?_;exact NdI.mk hl (by omega) (FH.o.s5 nd q0 q1)
   ·have e:o=_:=Option.some.inj (ho.symm.trans rfl);subst e;have q2:=hd ⟨2,.data⟩ (by simp) rfl;have q5:=hd ⟨5,.data⟩ (by simp) rfl;clear ho hd;obtain⟨q0,q1,rfl⟩:=FH.o.f2 q2;obtain⟨q3,q4,rfl⟩:=FH.o.f5 q5;obtain⟨b,rfl,_,_⟩:=FH.o.f0 q0;obtain⟨y,rfl⟩:=FH.o.f1 q1;obtain⟨b',rfl,_,_⟩:=FH.o.f3 q3;obtain⟨y',rfl⟩:=FH.o.f4 q4;refine zgb rfl (fun K hK=>?_);go_simp;refine hK _ _ ?_;exact NdI.mk hl (by omega) (FH.o.s6 nd q2 q5)
   ·refine zgb rfl (fun K hK=>?_);go_simp;refine hK _ _ ?_;exact NdI.mk hl (by omega) (FH.o.s7 nd)
   ·have e:o=_:=Option.some.inj (ho.symm.trans rfl);subst e;have q6:=hd ⟨6,.data⟩ (by simp) rfl;have q7:=hd ⟨7,.data⟩ (by simp) rfl;clear ho hd;obtain⟨q2,q5,rfl⟩:=FH.o.f6 q6;obtain⟨q0,q1,rfl⟩:=FH.o.f2 q2;obtain⟨q3,q4,rfl⟩:=FH.o.f5 q5;obtain⟨b,rfl,_,_⟩:=FH.o.f0 q0;obtain⟨y,rfl⟩:=FH.o.f1 q1;obtain⟨b',rfl,_,_⟩:=FH.o.f3 q3;obtain⟨y',rfl⟩:=FH.o.f4 q4;obtain⟨bx,rfl,_,g1,_⟩:=FH.o.f7 q7;obtain⟨c0,c1,c2,c3,c4,c5,c6,c7⟩:=zas (g1 nd);refine zgb rfl (fun K hK=>?_);go_simp;refine hK _ _ ?_;exact NdI.mk hl (by omega) (FH.o.s8 nd q6 q7 rfl)
  ·rintro l a wx ⟨hl,x1,x2,x3,x4,x5,x6,x7,x8,rfl,F⟩ hr
   have D:∀ i,i<9->l.getD i false=true\/l.getD i true=false:=fun i hi=>by
    rw[Array.getD_eq_getD_getElem?,Array.getD_eq_getD_getElem?,Array.getElem?_eq_getElem (by omega)];simp only[Option.getD_some]
    cases l[i]<;>simp
   have d0:l.getD 0 false=true:=(D 0 (by omega)).resolve_right (zer hr rfl (by show Array.all (#[]:Array Edge) (fun e=>l.getD e.on false)=true;simp only[List.all_toArray,List.all_nil]));have d1:l.getD 1 false=true:=(D 1 (by omega)).resolve_right (zer hr rfl (by show Array.all (#[]:Array Edge) (fun e=>l.getD e.on false)=true;simp only[List.all_toArray,List.all_nil]));have d3:l.getD 3 false=true:=(D 3 (by omega)).resolve_right (zer hr rfl (by show Array.all (#[]:Array Edge) (fun e=>l.getD e.on false)=true;simp only[List.all_toArray,List.all_nil]));have d4:l.getD 4 false=true:=(D 4 (by omega)).resolve_right (zer hr rfl (by show Array.all (#[]:Array Edge) (fun e=>l.getD e.on false)=true;simp only[List.all_toArray,List.all_nil]));have d7:l.getD 7 false=true:=(D 7 (by omega)).resolve_right (zer hr rfl (by show Array.all (#[]:Array Edge) (fun e=>l.getD e.on false)=true;simp only[List.all_toArray,List.all_nil]));have d2:l.getD 2 false=true:=(D 2 (by omega)).resolve_right (zer hr rfl (by show Array.all (#[⟨0,.data⟩,⟨1,.data⟩]:Array Edge) (fun e=>l.getD e.on false)=true;simp only[List.all_toArray,List.all_cons,List.all_nil,d0,d1,Bool.and_self]));have d5:l.getD 5 false=true:=(D 5 (by omega)).resolve_right (zer hr rfl (by show Array.all (#[⟨3,.data⟩,⟨4,.data⟩]:Array Edge) (fun e=>l.getD e.on false)=true;simp only[List.all_toArray,List.all_cons,List.all_nil,d3,d4,Bool.and_self]));have d6:l.getD 6 false=true:=(D 6 (by omega)).resolve_right (zer hr rfl (by show Array.all (#[⟨2,.data⟩,⟨5,.data⟩]:Array Edge) (fun e=>l.getD e.on false)=true;simp only[List.all_toArray,List.all_cons,List.all_nil,d2,d5,Bool.and_self]));have d8:l.getD 8 false=true:=(D 8 (by omega)).resolve_right (zer hr rfl (by show Array.all (#[⟨7,.data⟩,⟨6,.data⟩,⟨0,.phase⟩,⟨1,.phase⟩,⟨2,.phase⟩,⟨3,.phase⟩,⟨4,.phase⟩,⟨5,.phase⟩,⟨6,.phase⟩,⟨7,.phase⟩]:Array Edge) (fun e=>l.getD e.on false)=true;simp only[List.all_toArray,List.all_cons,List.all_nil,d0,d1,d2,d3,d4,d5,d6,d7,Bool.and_self]));have N:=F.all d0 d1 d3 d4 d7 d8;clear D hr;go_wp2_with fail
   go_meet
   exact N
  ·refine⟨rfl,_,_,_,_,_,_,_,_,rfl,?_⟩
   have Z:∀ j,(Array.replicate 9 false).getD j false=true->False:=fun j h=>by
    rw[Array.getD_eq_getD_getElem?,Array.getElem?_replicate]at h
    split at h<;>cases h
   exact⟨zR.drew,fun h=>(Z _ h).elim,fun h=>(Z _ h).elim,fun h=>(Z _ h).elim,fun h=>(Z _ h).elim,fun h=>(Z _ h).elim,fun h=>(Z _ h).elim,fun h=>(Z _ h).elim,fun h=>(Z _ h).elim,fun h=>(Z _ h).elim⟩
 case rest =>
 obtain⟨bw,bs,bx,aP,aQ,rfl,hN⟩:=hcut
 rename World=>w1
 have N1:=zaa hN;clear k1 k2 hN;obtain⟨c0,f0⟩:=N1.o.at 0 (by rw[zej];omega);obtain⟨x0,x1,x2,x3,_,_,_,_⟩:=zas N1.o.hx;generalize zkw[0]'(by rw[zej];omega)=z0 at c0
 obtain⟨w2,hw2⟩:=zE (w1.setCell ⟨bw,0,none⟩ (.I 7))
 have N2:Hid (NDc w0 w2 bw bs bx (.slice aP 0 0) (.slice aQ 0 0) (zkw.set 0 7)):=by rw[hw2];exact N1.o.store 0 7
 go_upto_region 3 with fail;rw[<- hw2];clear hw2 N1 c0 f0 x0 x1 x2 x3;obtain⟨c0,f0⟩:=N2.o.at 48 (by rw[List.length_set,zej];omega);obtain⟨x0,x1,x2,x3,_,_,_,_⟩:=zas N2.o.hx;generalize (zkw.set 0 7)[48]'(by rw[List.length_set,zej];omega)=z1 at c0;have N3:=zaa (N2.o.store 48 2);obtain⟨y0,-,-,-,-,-,-,-⟩:=zas N3.o.hx
 go_cut [1] (fun s wx=>s=.pointer (some ⟨bx,0,none⟩)/\NDc w0 wx bw bs bx (.slice aP 0 0) (.slice aQ 0 0) ((zkw.set 0 7).set 48 2))
 case first =>
  go_region_held3 (fun w'=>w'.cell? ⟨bx,0,none⟩=some (.slice (some ⟨bw,0,none⟩) 336 336)) (first | exact x0 | exact y0)
   (first | (go_at_call 56;refine(zay _ _ _ (by omega) (by omega)).mono ?_;rintro e w' ⟨rfl,hw'⟩;subst w'))
  all_goals
   go_wp2_with fail
   go_meet
   exact⟨rfl,(by repeat (first | exact N3.o | refine NDc.drew ?_))⟩
 case rest =>
 obtain⟨rfl,hN⟩:=hcut
 rename World=>w3
 clear N2 N3 c0 f0 x0 x1 x2 x3 y0;have N3:=zaa hN;clear hN;obtain⟨c0,f0⟩:=N3.o.at 50 (by rw[List.length_set,List.length_set,zej];omega);obtain⟨x0,x1,x2,x3,_,_,_,_⟩:=zas N3.o.hx;generalize ((zkw.set 0 7).set 48 2)[50]'(by rw[List.length_set,List.length_set,zej];omega)=z2 at c0;have N4:=zaa (N3.o.store 50 1);obtain⟨y0,-,-,-,-,-,-,-⟩:=zas N4.o.hx;go_upto_region 4 with fail
 go_cut [1] (fun s wx=>s=.pointer (some ⟨bx,0,none⟩)/\NDc w0 wx bw bs bx (.slice aP 0 0) (.slice aQ 0 0) ndW)
 case first =>
  go_region_held3 (fun w'=>w'.cell? ⟨bx,0,none⟩=some (.slice (some ⟨bw,0,none⟩) 336 336)) (first | exact x0 | exact y0)
   (first | (go_at_call 56;refine(zay _ _ _ (by omega) (by omega)).mono ?_;rintro e w' ⟨rfl,hw'⟩;subst w'))
  all_goals
   go_wp2_with fail
   go_meet
   exact⟨rfl,(by repeat (first | exact N4.o | refine NDc.drew ?_))⟩
 case rest =>
 obtain⟨rfl,hN⟩:=hcut
 rename World=>wr
 clear N3 N4 c0 f0 x0 x1 x2 x3 y0;have N:=zaa hN;clear hN;obtain⟨x0,x1,x2,x3,_,_,_,_⟩:=zas N.o.hx;have VR:=zaa ((N.o.b.block _ hz0).trans V0.o);obtain⟨y0,y1,y2,y3,y4,y5,y6,y7⟩:=zas VR.o;have F:=zaa (zbs (zbs (zbs (zbs (xs:=[.N,.N,.N,.N]) VR.o 0 (.slice (some ⟨bw,0,none⟩) 336 336)) 1 (.slice aP 0 0)) 2 (.slice (some ⟨bs,0,none⟩) 32 32)) 3 (.slice aQ 0 0));have l1:=N.o.l1;have l2:=N.o.l2
 have O:∀ c,c≠w.heap.size->((((wr.setCell ⟨w.heap.size,0,none⟩ (.slice (some ⟨bw,0,none⟩) 336 336)).setCell ⟨w.heap.size,1,none⟩ (.slice aP 0 0)).setCell ⟨w.heap.size,2,none⟩ (.slice (some ⟨bs,0,none⟩) 32 32)).setCell ⟨w.heap.size,3,none⟩ (.slice aQ 0 0)).heap[c]?=wr.heap[c]?:=fun c hc=>by
  rw[Below.heap_setCell _ _ _ _ hc,Below.heap_setCell _ _ _ _ hc,Below.heap_setCell _ _ _ _ hc,Below.heap_setCell _ _ _ _ hc]
 have RF:Hid (RdDev ((((wr.setCell ⟨w.heap.size,0,none⟩ (.slice (some ⟨bw,0,none⟩) 336 336)).setCell ⟨w.heap.size,1,none⟩ (.slice aP 0 0)).setCell ⟨w.heap.size,2,none⟩ (.slice (some ⟨bs,0,none⟩) 32 32)).setCell ⟨w.heap.size,3,none⟩ (.slice aQ 0 0)) (.agg #[.slice (some ⟨bw,0,none⟩) 336 336,.slice aP 0 0,.slice (some ⟨bs,0,none⟩) 32 32,.slice aQ 0 0]) ndW [] zs32 []) :=
  ⟨_,_,_,_,rfl,⟨_,_,rfl,yaaf ((O bw (by omega)).trans N.o.hw) yapz,yaay _ _ _⟩,⟨_,_,rfl,yaaf ((O bs (by omega)).trans N.o.hs) zza,yaay _ _ _⟩⟩
 have BF:Hid (zB w ((((wr.setCell ⟨w.heap.size,0,none⟩ (.slice (some ⟨bw,0,none⟩) 336 336)).setCell ⟨w.heap.size,1,none⟩ (.slice aP 0 0)).setCell ⟨w.heap.size,2,none⟩ (.slice (some ⟨bs,0,none⟩) 32 32)).setCell ⟨w.heap.size,3,none⟩ (.slice aQ 0 0))):=by
  show Below _ _ _
  repeat (refine Below.setCell ?_ (by simp only;omega) _)
  exact B0.o.trans (N.o.b.mono (by omega))
 clear O;go_wp2;generalize ((((wr.setCell ⟨w.heap.size,0,none⟩ (.slice (some ⟨bw,0,none⟩) 336 336)).setCell ⟨w.heap.size,1,none⟩ (.slice aP 0 0)).setCell ⟨w.heap.size,2,none⟩ (.slice (some ⟨bs,0,none⟩) 32 32)).setCell ⟨w.heap.size,3,none⟩ (.slice aQ 0 0))=wz at F RF BF ⊢;obtain⟨t0,t1,t2,t3,-,-,-,-⟩:=zas F.o;refine bodyPost_ret (v:=.agg #[.slice (some ⟨bw,0,none⟩) 336 336,.slice aP 0 0,.slice (some ⟨bs,0,none⟩) 32 32,.slice aQ 0 0]) (by simp[results,Tryz.results107,go_sem,t0,t1,t2,t3]) rfl ?_;exact⟨_,rfl,RF.o,BF.o⟩
end Go.Proofs.YtfagbapgnocjiaaGreatDoor
