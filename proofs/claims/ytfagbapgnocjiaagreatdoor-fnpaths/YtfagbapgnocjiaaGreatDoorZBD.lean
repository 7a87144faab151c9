import Derived.Test.YtfagbapgnocjiaaGreatDoorZAD
import Derived.Deep.RegionHeld3
set_option maxRecDepth 100000
set_option maxHeartbeats 4000000
namespace Go.Proofs.YtfagbapgnocjiaaGreatDoor
open Go.RowKit
def zdv(ws:List Int)(ps:List St):List Int:=ps.foldl (fun acc p=>acc.set p.at_.toNat p.val) ws
theorem zcr(ws:List Int):∀ ps:List St,(zdv ws ps).length=ws.length:=by
 intro ps;unfold zdv
 induction ps generalizing ws with
 | nil=>rfl
 | cons p ps ih=>rw[List.foldl_cons,ih];simp
theorem yahk:∀ (ps:List St) (ws:List Int) (k:Nat) (hk:k<ws.length) (_:∀ p∈ps,0<=p.at_) (hk':k<(zdv ws ps).length),(zdv ws ps)[k]=zjy (k:Int) ws[k] ps
 | [],ws,k,hk,_,_=>rfl
 | p::ps,ws,k,hk,h0,hk'=>by
  have hk2:k<(ws.set p.at_.toNat p.val).length:=by simpa using hk
  have:=yahk ps (ws.set p.at_.toNat p.val) k hk2 (fun q hq=>h0 q (by simp[hq])) hk'
  show(zdv (ws.set p.at_.toNat p.val) ps)[k]=zjy (k:Int) (if p.at_=(k:Int)then p.val else ws[k]) ps
  rw[this,List.getElem_set];have hp:=h0 p (by simp)
  by_cases e:p.at_=(k:Int)
  ·rw[if_pos (by omega),if_pos e]
  ·rw[if_neg (by omega),if_neg e]
theorem zcv(a x:Int)(w:World):zC 142 #[.I a,.I x] w fun e w'=>e=.returned (.agg #[.I 1,.I a,.I x])/\zB w w':=by
 go_enter Tryz.func142,Tryz.ntmps142;go_wp2;refine bodyPost_ret (v:=.agg #[.I 1,.I a,.I x]) (by simp[results,Tryz.results142,go_sem]) rfl ⟨rfl,?_⟩
 repeat (refine Below.alloc ?_ (by simp<;>omega) _)
 exact zR
def zdq(us:List Se):List St:=us.map (fun s=>up s.at_ s.val)
theorem zca(us:List Se):(zdq us).length=us.length:=by simp[zdq]
theorem zsg(us:List Se)(k:Nat)(h:k<us.length):(zdq us)[k]?=some (up us[k].at_ us[k].val):=by simp[zdq,h]
def apM(us:List Se)(m:Nat):List Mi:=((zdq us).take m).map stM
def apP(us:List Se)(m:Nat):List Int:=((zdq us).take m).map (·.at_)
theorem yaiu(us:List Se)(m:Nat):(apM us m).length<=m:=by simp[apM];omega
theorem yajd(us:List Se)(m:Nat):(apP us m).length<=m:=by simp[apP];omega
theorem zjj{α:Type}(l:List α)(m:Nat)(x:α)(h:l[m]?=some x):l.take (m+1)=l.take m++[x]:=by
 rw[List.take_add_one,h];rfl
theorem yamn(us:List Se)(m:Nat)(h:m<us.length):apM us (m+1)=apM us m++[⟨1,us[m].at_,us[m].val⟩]:=by
 unfold apM;rw[zjj _ _ _ (zsg us m h),List.map_append];rfl
theorem yaka(us:List Se)(m:Nat)(h:m<us.length):apP us (m+1)=apP us m++[us[m].at_]:=by
 unfold apP;rw[zjj _ _ _ (zsg us m h),List.map_append];rfl
theorem yapm(us:List Se):apM us us.length=(zdq us).map stM:=by unfold apM;rw[List.take_of_length_le (by rw[zca];omega)]
theorem yapy(us:List Se):apP us us.length=(zdq us).map (·.at_):=by unfold apP;rw[List.take_of_length_le (by rw[zca];omega)]
theorem yais(us:List Se)(m:Nat)(hz:∀ k (h:k<us.length),0<=us[k].at_/\us[k].at_<336):∀ k (h:k<(apP us m).length),0<=(apP us m)[k]/\(apP us m)[k]<336:=by
 intro k h;have h':=h;simp only[apP,List.length_map,List.length_take,zca]at h';have:=hz k (by omega);simpa[apP,zdq,up]using this
structure PlI(w0 w:World)(vL vP:Value)(ls:List Mi)(ps:List Int):Prop where
 l:w.ownsRow w0.heap.size 173 3 vL ls.length (mis ls)
 p:w.ownsRow w0.heap.size 3 1 vP ps.length (zeh ps)
 b:zB w0 w
 z:w0.heap.size<=w.heap.size
theorem yars:(3:Nat)≠173:=by decide
theorem PlI.below{w0 w w':World}{vL vP:Value}{ls:List Mi}{ps:List Int}(h:PlI w0 w vL vP ls ps)(hb:zB w w'):PlI w0 w' vL vP ls ps :=
 ⟨((zac h.l).below hb zL).1,((zac h.p).below hb zL).1,zab h.b hb h.z,Nat.le_trans h.z hb.size⟩
theorem PlI.growL{w0 w w':World}{vL vP v':Value}{ls:List Mi}{ps:List Int}(h:PlI w0 w vL vP ls ps)(ms:List Mi)(ho:w'.ownsRow w0.heap.size 173 3 v' (ls.length+ms.length) (mis ls++mis ms))(hg:w.grownBy w' vL.ownBlock):PlI w0 w' v' vP (ls++ms) ps :=
 ⟨by rw[zpk,List.length_append];exact ho,(Row.apart (zac h.p) (zac h.l) yars hg).1,h.b.grown hg h.z (fun q hq=>(h.l.lt q hq).1),Nat.le_trans h.z hg.size⟩
theorem PlI.growP{w0 w w':World}{vL vP v':Value}{ls:List Mi}{ps:List Int}(h:PlI w0 w vL vP ls ps)(ks:List Int)(ho:w'.ownsRow w0.heap.size 3 1 v' (ps.length+ks.length) (zeh ps++zeh ks))(hg:w.grownBy w' vP.ownBlock):PlI w0 w' vL v' ls (ps++ks) :=
 ⟨(Row.apart (zac h.l) (zac h.p) (Ne.symm yars) hg).1,by rw[List.length_append,show zeh (ps++ks)=zeh ps++zeh ks by simp[zeh]];exact ho,h.b.grown hg h.z (fun q hq=>(h.p.lt q hq).1),Nat.le_trans h.z hg.size⟩
theorem zdn{w w':World}(h:Below w.drew.heap.size w.drew w'):zB w w':=zab ((Below.refl w.heap.size w).drew) h zL
theorem zkg(w1:World)(x:Int):RdI (w1.alloc (.cells #[.I x] 3)) (.slice (some ⟨w1.heap.size,0,none⟩) 1 1) [x]:=by
 refine⟨rfl,_,_,rfl,⟨Nat.le_refl _,fun e=>by cases e⟩,fun _=>⟨w1.heap.size,0,rfl,by simp,fun j hj=>?_⟩⟩
 obtain rfl:j=0:=by simp at hj;omega
 have e:=zai (w:=w1) (o:=.cells #[.I x] 3) rfl;unfold World.cell?;simp only[e];rfl
theorem zlv(m:Mi):mis [m]=m.cells:=by simp[mis]
theorem zth(v:Value)(us:List Se)(w:World)(h:RdE w v us)(hn:us.length<=64)(hz0:∀ k (h:k<us.length),0<=us[k].at_/\us[k].at_<336) :
  zC 184 #[v] w fun e w'=>∃ v',e=.returned v'/\Row w' 173 3 w.heap.size w'.heap.size v' (zht (zdq us)).length (mis (zht (zdq us)))/\zB w w':=by
 obtain⟨aZ,cZ,rfl,_,hcZ⟩:=h.shape;have HZ:=zaa hcZ;have Z0:=zaa hz0;clear h hcZ hz0
 have START:Hid (PlI w ((w.alloc (.cells #[] 173)).alloc (.cells #[] 3)) (.slice (some ⟨w.heap.size,0,none⟩) 0 0) (.slice (some ⟨w.heap.size+1,0,none⟩) 0 0) [] []):=by
  refine⟨?_,?_,((Below.refl w.heap.size w).alloc zL _).alloc (by simp) _,by simp<;>omega⟩
  ·exact((znd w 173 3).alloc zL _).1
  ·simpa[zeh]using World.ownsRow_lit (base:=w.heap.size) (e:=3) (size:=1) (w.alloc (.cells #[] 173)) #[] 0 (by simp) (by simp) (by simp)
 go_enter Tryz.func184,Tryz.ntmps184;go_wp2
 go_loopw [3,4,5] (fun vL vP i wr=>∃ m:Nat,m<=us.length/\i=.I m/\Hid (PlI w wr vL vP (apM us m) (apP us m))/\w.heap.size<=wr.heap.size) (fun _ _ i _=>us.length-(intOf i).toNat)
 case atStart=>exact⟨0,by omega,rfl,by simpa[apM,apP]using START,by simp<;>omega⟩
 case round =>
  obtain⟨m,hm,rfl,J,hz⟩:=hrel
  by_cases hlt:m<us.length
  ·obtain⟨b,o,rfl,hbl,hcell⟩:=HZ.o (by omega);have C0:=(J.o.b.cell (p:=⟨b,o+m*2,none⟩) hbl).trans (hcell m hlt).1;have C1:=(J.o.b.cell (p:=⟨b,o+m*2+1,none⟩) hbl).trans (hcell m hlt).2;have EM:=zaa (yamn us m hlt);have EP:=zaa (yaka us m hlt);have l1:=yaiu us m;have l2:=yajd us m
   have hbr:b<wr.heap.size:=by omega
   have DW:=zaa (hcell m hlt);clear hcell
   have m0:(0:Int)<=(m:Int):=by omega
   have m1:(m:Int)<(us.length:Int):=by omega
   generalize us[m].at_=x at *;generalize us[m].val=y at *;go_wp2_with fail
   go_region_held3 (fun w'=>w'.cell? ⟨b,o+m*2,none⟩=some (.I x)/\w'.cell? ⟨b,o+m*2+1,none⟩=some (.I y)) (first | exact⟨C0,C1⟩ | exact⟨s0,s1⟩ | exact⟨r0,r1⟩ | exact⟨q0,q1⟩)
    (first
     | (go_at_call 142;refine(zcv _ _ _).mono ?_;rintro e w1 ⟨rfl,hb1⟩;have hb1':=zdn hb1;have q0:=(hb1'.cell (p:=⟨b,o+m*2,none⟩) hbr).trans C0;have q1:=(hb1'.cell (p:=⟨b,o+m*2+1,none⟩) hbr).trans C1;have P1:=zaa ((J.o.below hb1').below (zR.alloc zL (.cells #[.I 1,.I x,.I y] 173)));have HRD:=zaa (zpi w1 1 x y);have r0:=(P1.o.b.cell (p:=⟨b,o+m*2,none⟩) hbl).trans DW.o.1;have r1:=(P1.o.b.cell (p:=⟨b,o+m*2+1,none⟩) hbl).trans DW.o.2;have hz1:=P1.o.z;clear hb1 hb1')
     | (refine zam rfl (.tmp 14) (.tmp 26) 79 rfl w.heap.size 173 (.agg #[.I 0,.I 0,.I 0]) 3 24 Tryz.underlying79 zbr rfl (by decide) _ _ _ rfl P1.o.l _ 1 _ rfl HRD.o (zhy _) (by simp[maxLen];omega) (by omega) hz1 ?_;intro vN wN hownN hgrN;have G:=zaa (P1.o.growL [⟨1,x,y⟩] (by rw[zlv];exact hownN) hgrN);have s0:=(G.o.b.cell (p:=⟨b,o+m*2,none⟩) hbl).trans DW.o.1;have s1:=(G.o.b.cell (p:=⟨b,o+m*2+1,none⟩) hbl).trans DW.o.2;clear hownN hgrN))
   all_goals
    have hzG:=G.o.z;clear C0 C1 q0 q1 r0 r1 P1 HRD J;have P2:=zaa (G.o.below (zR.alloc zL (.cells #[.I x] 3)));have HR2:=zaa (zkg wN x);have hz2:=P2.o.z;clear G;go_wp2_with (at_builtin;refine zaf _ rfl (.tmp 28) (.tmp 34) 70 rfl w.heap.size 3 (.I 0) 1 8 Tryz.underlying70 zmu rfl (by decide) _ _ _ rfl P2.o.p _ 1 _ rfl HR2.o (zhg _) (by simp[maxLen];omega) (by omega) hz2 ?_);intro vQ wQ hownQ hgrQ;have G2:=zaa (P2.o.growP [x] hownQ hgrQ);rw[<- EM.o,<- EP.o]at G2;have hz3:=G2.o.z;clear hownQ hgrQ P2 HR2;go_wp2
    go_roundw
    case rel=>exact⟨m+1,by omega,by go_num,G2,hz3⟩
    case measure=>simp[intOf];omega
  ·obtain rfl:m=us.length:=by omega
   have PL:=zaa (yais us us.length Z0.o);have l1:=yaiu us us.length;have l2:=yajd us us.length
   have EE:=zaa (show zht (zdq us)=apM us us.length++zbg (apP us us.length)++[⟨1,8,0⟩]++zbg [8] by
    rw[yapm,yapy];simp[zht,seg,cnt,stM])
   have l3:=zbp (apP us us.length);have l4:=zbp [8];simp only[List.length_cons,List.length_nil]at l4;generalize apM us us.length=A at *;generalize apP us us.length=B at *;go_wp2_with fail;refine(zcu _ B _ (zac J.o.p).rd (by omega) PL.o).mono ?_;rintro e w1 ⟨v1,rfl,hr1,hb1⟩;have P1:=zaa (J.o.below hb1);have R1:=zaa hr1.rd;have hz1:=P1.o.z;clear hr1 hb1 J;go_wp2_with (at_builtin;refine zaf _ rfl (.tmp 36) (.tmp 38) 79 rfl w.heap.size 173 (.agg #[.I 0,.I 0,.I 0]) 3 24 Tryz.underlying79 zbr rfl (by decide) _ _ _ rfl P1.o.l _ _ _ rfl R1.o (zct _) (by simp[maxLen];omega) (by omega) hz1 ?_);intro v2 w2 hown2 hgr2;have P2:=zaa (P1.o.growL _ hown2 hgr2);have hz2:=P2.o.z
   have l5:(A++zbg B).length<=200:=by simp;omega
   generalize A++zbg B=C at *;clear hown2 hgr2 P1 R1;go_wp2_with fail;refine(zcv _ _ _).mono ?_;rintro e w3 ⟨rfl,hb3⟩;have P3:=zaa ((P2.o.below hb3).below (zR.alloc zL (.cells #[.I 1,.I 8,.I 0] 173)));have R3:=zaa (zpi w3 1 8 0);have hz3:=P3.o.z;clear hb3 P2;go_wp2_with (at_builtin;refine zaf _ rfl (.tmp 40) (.tmp 42) 79 rfl w.heap.size 173 (.agg #[.I 0,.I 0,.I 0]) 3 24 Tryz.underlying79 zbr rfl (by decide) _ _ _ rfl P3.o.l _ 1 _ rfl R3.o (zhy _) (by simp[maxLen];omega) (by omega) hz3 ?_);intro v4 w4 hown4 hgr4;have P4:=zaa (P3.o.growL [⟨1,8,0⟩] (by rw[zlv];exact hown4) hgr4)
   have l6:(C++[(⟨1,8,0⟩:Mi)]).length<=201:=by simp;omega
   generalize C++[(⟨1,8,0⟩:Mi)]=D at *;have P5:=zaa (P4.o.below (zR.alloc zL (.cells #[.I 8] 3)));have R5:=zaa (zkg w4 8);clear hown4 hgr4 P3 R3 P4;go_wp2_with fail;refine(zcu _ [8] _ R5.o (by simp) (by intro k h;simp at h;subst h;simp)).mono ?_;rintro e w6 ⟨v6,rfl,hr6,hb6⟩;have P6:=zaa (P5.o.below hb6);have R6:=zaa hr6.rd;have hz6:=P6.o.z;clear hr6 hb6 P5 R5;go_wp2_with (at_builtin;refine zaf _ rfl (.tmp 44) (.tmp 46) 79 rfl w.heap.size 173 (.agg #[.I 0,.I 0,.I 0]) 3 24 Tryz.underlying79 zbr rfl (by decide) _ _ _ rfl P6.o.l _ _ _ rfl R6.o (zct _) (by simp[maxLen];omega) (by omega) hz6 ?_);intro v7 w7 hown7 hgr7;have P7:=zaa (P6.o.growL _ hown7 hgr7);rw[<- EE.o]at P7;obtain⟨aL,cL,hvL⟩:=RdM.form (zac P7.o.l).rd rfl;subst hvL;clear hown7 hgr7 P6 R6;go_wp2;go_ret;exact⟨_,rfl,zac P7.o.l,P7.o.b⟩
theorem zsf(u:St):∀ (l:List St) (i:Nat),jrn i (l++[u])=jrn i l++[⟨9+2*((i+l.length:Nat):Int),u.at_,false⟩,⟨9+2*((i+l.length:Nat):Int)+1,u.val,false⟩]
 | [],i=>by simp[jrn]
 | x::l,i=>by
  rw[List.cons_append,jrn,zsf u l (i+1),jrn,show i+1+l.length=i+(x::l).length by simp;omega];rfl
theorem zmw:∀ (l:List St) (i:Nat),(jrn i l).length=2*l.length
 | [],i=>rfl
 | x::l,i=>by rw[jrn];simp[zmw l (i+1)];omega
def jlM(us:List Se)(m:Nat):List Mi:=(jrn 0 ((zdq us).take m)).map stM
def jlP(us:List Se)(m:Nat):List Int:=(jrn 0 ((zdq us).take m)).map (·.at_)
theorem yafp(us:List Se)(m:Nat):(jlM us m).length<=2*m:=by simp[jlM,zmw];omega
theorem yaeh(us:List Se)(m:Nat):(jlP us m).length<=2*m:=by simp[jlP,zmw];omega
theorem take_len{us:List Se}{m:Nat}(h:m<=us.length):((zdq us).take m).length=m:=by rw[List.length_take,zca];omega
theorem yakz(us:List Se)(m:Nat)(h:m<us.length):jlM us (m+1)=jlM us m++[⟨1,9+2*(m:Int),us[m].at_⟩,⟨1,9+2*(m:Int)+1,us[m].val⟩]:=by
 unfold jlM;rw[zjj _ _ _ (zsg us m h),zsf,take_len (by omega),List.map_append,Nat.zero_add];rfl
theorem yakc(us:List Se)(m:Nat)(h:m<us.length):jlP us (m+1)=jlP us m++[9+2*(m:Int),9+2*(m:Int)+1]:=by
 unfold jlP;rw[zjj _ _ _ (zsg us m h),zsf,take_len (by omega),List.map_append,Nat.zero_add];rfl
theorem yapb(us:List Se):jlM us us.length=(jrn 0 (zdq us)).map stM:=by unfold jlM;rw[List.take_of_length_le (by rw[zca];omega)]
theorem yaoo(us:List Se):jlP us us.length=(jrn 0 (zdq us)).map (·.at_):=by unfold jlP;rw[List.take_of_length_le (by rw[zca];omega)]
theorem ztj:∀ (l:List St) (i:Nat),∀ s∈jrn i l,9+2*(i:Int)<=s.at_/\s.at_<9+2*((i+l.length:Nat):Int)
 | [],i=>by simp[jrn]
 | x::l,i=>by
  intro s hs;rw[jrn]at hs;simp only[List.mem_cons]at hs
  rcases hs with rfl|rfl | hs
  ·simp only[List.length_cons];omega
  ·simp only[List.length_cons];omega
  ·have:=ztj l (i+1) s hs;simp only[List.length_cons];omega
theorem yafb(us:List Se)(m:Nat)(hn:us.length<=64):∀ k (h:k<(jlP us m).length),0<=(jlP us m)[k]/\(jlP us m)[k]<336:=by
 intro k h;have hm:(jlP us m)[k]∈jlP us m:=List.getElem_mem h;generalize (jlP us m)[k]=z at *;simp only[jlP,List.mem_map]at hm;obtain⟨s,hs,rfl⟩:=hm;have:=ztj _ _ s hs
 have hl:((zdq us).take m).length<=64:=by rw[List.length_take,zca];omega
 omega
theorem yaeu{w:World}{b:Nat}{t:TypeId}{x0 x1 x2 x3 x4 x5:Value}(h:w.heap[b]?=some (.cells #[x0,x1,x2,x3,x4,x5] t (0,0)))(j:Nat):w.cell? ⟨b,j,none⟩=[x0,x1,x2,x3,x4,x5][j]?:=by
 unfold World.cell?;simp only[h];simp
theorem yahp(w1:World)(k a x k2 a2 x2:Int):Rd (w1.alloc (.cells #[.I k,.I a,.I x,.I k2,.I a2,.I x2] 173)) 3 (.slice (some ⟨w1.heap.size,0,none⟩) 2 2) 2 (mis [⟨k,a,x⟩,⟨k2,a2,x2⟩]):=by
 refine⟨rfl,_,_,rfl,⟨Nat.le_refl _,fun e=>by cases e⟩,fun _=>⟨w1.heap.size,0,rfl,by simp,fun j hj=>?_⟩⟩;rw[Nat.zero_add,yaeu (zai (w:=w1) rfl)];rfl
theorem yaqp(w1:World)(x y:Int):RdI (w1.alloc (.cells #[.I x,.I y] 3)) (.slice (some ⟨w1.heap.size,0,none⟩) 2 2) [x,y]:=by
 refine⟨rfl,_,_,rfl,⟨Nat.le_refl _,fun e=>by cases e⟩,fun _=>⟨w1.heap.size,0,rfl,by simp,fun j hj=>?_⟩⟩;obtain⟨e0,e1,_,_⟩:=zad (zai (w:=w1) (o:=.cells #[.I x,.I y] 3) rfl)
 rcases(show j=0\/j=1 by simp at hj;omega)with rfl|rfl
 ·exact e0
 ·exact e1
theorem zph(us:List Se):(zht (zdq us)).length<=2*us.length+4:=by
 have h1:=zbp ((zdq us).map (·.at_));have h2:=zbp ((cnt 0).map (·.at_));simp only[List.length_map,zca]at h1 h2;simp only[zht,seg,List.length_append,List.length_map,zca];simp only[cnt,List.length_cons,List.length_nil]at h2 ⊢;omega
theorem zuj(v:Value)(us:List Se)(w:World)(h:RdE w v us)(hn:us.length<=64)(h0:0<us.length)(hz0:∀ k (h:k<us.length),0<=us[k].at_/\us[k].at_<336) :
  zC 165 #[v] w fun e w'=>∃ v',e=.returned v'/\Row w' 173 3 w.heap.size w'.heap.size v' (zdh (zdq us)).length (mis (zdh (zdq us)))/\zB w w':=by
 have HR:=zaa h;obtain⟨aZ,cZ,rfl,_,hcZ⟩:=h.shape;have HZ:=zaa hcZ;have Z0:=zaa hz0;clear h hcZ hz0
 have START:Hid (PlI w ((w.alloc (.cells #[] 173)).alloc (.cells #[] 3)) (.slice (some ⟨w.heap.size,0,none⟩) 0 0) (.slice (some ⟨w.heap.size+1,0,none⟩) 0 0) [] []):=by
  refine⟨?_,?_,((Below.refl w.heap.size w).alloc zL _).alloc (by simp) _,by simp<;>omega⟩
  ·exact((znd w 173 3).alloc zL _).1
  ·simpa[zeh]using World.ownsRow_lit (base:=w.heap.size) (e:=3) (size:=1) (w.alloc (.cells #[] 173)) #[] 0 (by simp) (by simp) (by simp)
 have g0:((us.length:Int) == 0)=false:=by rw[beq_eq_false_iff_ne];omega
 go_enter Tryz.func165,Tryz.ntmps165;go_wp2
 go_loopw [3,4,5,6] (fun vL vP i _ wr=>∃ m:Nat,m<=us.length/\i=.I m/\Hid (PlI w wr vL vP (jlM us m) (jlP us m))/\w.heap.size<=wr.heap.size) (fun _ _ i _ _=>us.length-(intOf i).toNat)
 case atStart=>exact⟨0,by omega,rfl,by simpa[jlM,jlP,jrn]using START,by simp<;>omega⟩
 case round =>
  obtain⟨m,hm,rfl,J,hz⟩:=hrel
  by_cases hlt:m<us.length
  ·obtain⟨b,o,rfl,hbl,hcell⟩:=HZ.o (by omega);have C0:=(J.o.b.cell (p:=⟨b,o+m*2,none⟩) hbl).trans (hcell m hlt).1;have C1:=(J.o.b.cell (p:=⟨b,o+m*2+1,none⟩) hbl).trans (hcell m hlt).2;have EM:=zaa (yakz us m hlt);have EP:=zaa (yakc us m hlt);have l1:=yafp us m;have l2:=yaeh us m
   have hbr:b<wr.heap.size:=by omega
   have DW:=zaa (hcell m hlt);clear hcell
   have m0:(0:Int)<=(m:Int):=by omega
   have m1:(m:Int)<(us.length:Int):=by omega
   generalize us[m].at_=x at *;generalize us[m].val=y at *
   have wp1:IntKind.i64.wrap (9+2*(m:Int)+1)=9+2*(m:Int)+1:=by rw[IntKind.wrap_i64];omega
   go_wp2_with fail
   go_region_held3 (fun w'=>w'.cell? ⟨b,o+m*2,none⟩=some (.I x)/\w'.cell? ⟨b,o+m*2+1,none⟩=some (.I y)) (first | exact⟨C0,C1⟩ | exact⟨s0,s1⟩ | exact⟨r0,r1⟩ | exact⟨t0,t1⟩ | exact⟨q0,q1⟩)
    (first
     | (go_at_call 142;refine(zcv _ _ _).mono ?_;rintro e w2 ⟨rfl,hb2⟩;first
       | (have PT:=zaa (P0.o.below hb2);have t0:=(PT.o.b.cell (p:=⟨b,o+m*2,none⟩) hbl).trans DW.o.1;have t1:=(PT.o.b.cell (p:=⟨b,o+m*2+1,none⟩) hbl).trans DW.o.2;have P1:=zaa (PT.o.below (zR.alloc zL (.cells #[.I 1,.I (9+2*(m:Int)),.I x,.I 1,.I (9+2*(m:Int)+1),.I y] 173)));have HRD:=zaa (yahp w2 1 (9+2*(m:Int)) x 1 (9+2*(m:Int)+1) y);have r0:=(P1.o.b.cell (p:=⟨b,o+m*2,none⟩) hbl).trans DW.o.1;have r1:=(P1.o.b.cell (p:=⟨b,o+m*2+1,none⟩) hbl).trans DW.o.2;have hz1:=P1.o.z;clear hb2)
       | (have hb1':=zdn hb2;have q0:=(hb1'.cell (p:=⟨b,o+m*2,none⟩) hbr).trans C0;have q1:=(hb1'.cell (p:=⟨b,o+m*2+1,none⟩) hbr).trans C1;have P0:=zaa (J.o.below hb1');clear hb2 hb1'))
     | (refine zam rfl (.tmp 22) (.tmp 38) 79 rfl w.heap.size 173 (.agg #[.I 0,.I 0,.I 0]) 3 24 Tryz.underlying79 zbr rfl (by decide) _ _ _ rfl P1.o.l _ 2 _ rfl HRD.o (zct _) (by simp[maxLen];omega) (by omega) hz1 ?_;intro vN wN hownN hgrN;have G:=zaa (P1.o.growL [⟨1,9+2*(m:Int),x⟩,⟨1,9+2*(m:Int)+1,y⟩] hownN hgrN);have s0:=(G.o.b.cell (p:=⟨b,o+m*2,none⟩) hbl).trans DW.o.1;have s1:=(G.o.b.cell (p:=⟨b,o+m*2+1,none⟩) hbl).trans DW.o.2;clear hownN hgrN))
   all_goals
    have hzG:=G.o.z;clear C0 C1 q0 q1 r0 r1 t0 t1 P0 PT P1 HRD J;have P2:=zaa (G.o.below (zR.alloc zL (.cells #[.I (9+2*(m:Int)),.I (9+2*(m:Int)+1)] 3)));have HR2:=zaa (yaqp wN (9+2*(m:Int)) (9+2*(m:Int)+1));have hz2:=P2.o.z;clear G;go_wp2_with (at_builtin;refine zaf _ rfl (.tmp 40) (.tmp 44) 70 rfl w.heap.size 3 (.I 0) 1 8 Tryz.underlying70 zmu rfl (by decide) _ _ _ rfl P2.o.p _ 2 _ rfl HR2.o (zhg _) (by simp[maxLen];omega) (by omega) hz2 ?_);intro vQ wQ hownQ hgrQ;have G2:=zaa (P2.o.growP [9+2*(m:Int),9+2*(m:Int)+1] hownQ hgrQ);rw[<- EM.o,<- EP.o]at G2;have hz3:=G2.o.z;clear hownQ hgrQ P2 HR2;go_wp2
    go_roundw
    case rel=>exact⟨m+1,by omega,by go_num,G2,hz3⟩
    case measure=>simp[intOf];omega
  ·obtain rfl:m=us.length:=by omega
   have PL:=zaa (yafb us us.length hn);have l1:=yafp us us.length;have l2:=yaeh us us.length
   have EE:=zaa (show zdh (zdq us)=jlM us us.length++zbg (jlP us us.length)++[⟨1,8,(us.length:Int)⟩]++zbg [8]++zht (zdq us) by
    rw[yapb,yaoo,zdh,zca,if_neg (by omega)];simp[seg,cnt,stM])
   have l3:=zbp (jlP us us.length);have l4:=zbp [8];have l9:=zph us;simp only[List.length_cons,List.length_nil]at l4;generalize jlM us us.length=A at *;generalize jlP us us.length=B at *;go_wp2_with fail;refine(zcu _ B _ (zac J.o.p).rd (by omega) PL.o).mono ?_;rintro e w1 ⟨v1,rfl,hr1,hb1⟩;have P1:=zaa (J.o.below hb1);have R1:=zaa hr1.rd;have hz1:=P1.o.z;clear hr1 hb1 J;go_wp2_with (at_builtin;refine zaf _ rfl (.tmp 46) (.tmp 48) 79 rfl w.heap.size 173 (.agg #[.I 0,.I 0,.I 0]) 3 24 Tryz.underlying79 zbr rfl (by decide) _ _ _ rfl P1.o.l _ _ _ rfl R1.o (zct _) (by simp[maxLen];omega) (by omega) hz1 ?_);intro v2 w2 hown2 hgr2;have P2:=zaa (P1.o.growL _ hown2 hgr2);have hz2:=P2.o.z
   have l5:(A++zbg B).length<=400:=by simp;omega
   generalize A++zbg B=C at *;clear hown2 hgr2 P1 R1;go_wp2_with fail;refine(zcv _ _ _).mono ?_;rintro e w3 ⟨rfl,hb3⟩;have P3:=zaa ((P2.o.below hb3).below (zR.alloc zL (.cells #[.I 1,.I 8,.I (us.length:Int)] 173)));have R3:=zaa (zpi w3 1 8 (us.length:Int));have hz3:=P3.o.z;clear hb3 P2;go_wp2_with (at_builtin;refine zaf _ rfl (.tmp 50) (.tmp 54) 79 rfl w.heap.size 173 (.agg #[.I 0,.I 0,.I 0]) 3 24 Tryz.underlying79 zbr rfl (by decide) _ _ _ rfl P3.o.l _ 1 _ rfl R3.o (zhy _) (by simp[maxLen];omega) (by omega) hz3 ?_);intro v4 w4 hown4 hgr4;have P4:=zaa (P3.o.growL [⟨1,8,(us.length:Int)⟩] (by rw[zlv];exact hown4) hgr4)
   have l6:(C++[(⟨1,8,(us.length:Int)⟩:Mi)]).length<=401:=by simp;omega
   generalize C++[(⟨1,8,(us.length:Int)⟩:Mi)]=D at *;have P5:=zaa (P4.o.below (zR.alloc zL (.cells #[.I 8] 3)));have R5:=zaa (zkg w4 8);clear hown4 hgr4 P3 R3 P4;go_wp2_with fail;refine(zcu _ [8] _ R5.o (by simp) (by intro k h;simp at h;subst h;simp)).mono ?_;rintro e w6 ⟨v6,rfl,hr6,hb6⟩;have P6:=zaa (P5.o.below hb6);have R6:=zaa hr6.rd;have hz6:=P6.o.z;clear hr6 hb6 P5 R5;go_wp2_with (at_builtin;refine zaf _ rfl (.tmp 56) (.tmp 58) 79 rfl w.heap.size 173 (.agg #[.I 0,.I 0,.I 0]) 3 24 Tryz.underlying79 zbr rfl (by decide) _ _ _ rfl P6.o.l _ _ _ rfl R6.o (zct _) (by simp[maxLen];omega) (by omega) hz6 ?_);intro v7 w7 hown7 hgr7;have P7:=zaa (P6.o.growL _ hown7 hgr7)
   have l7:(D++zbg [8]).length<=403:=by simp;omega
   generalize D++zbg [8]=F at *;clear hown7 hgr7 P6 R6;go_wp2_with fail;refine(zth _ us _ (Rd.below HR.o P7.o.b) hn Z0.o).mono ?_;rintro e w8 ⟨v8,rfl,hr8,hb8⟩;have P8:=zaa (P7.o.below hb8);have R8:=zaa hr8.rd;have hz8:=P8.o.z;clear hr8 hb8 P7;go_wp2_with (at_builtin;refine zaf _ rfl (.tmp 60) (.tmp 62) 79 rfl w.heap.size 173 (.agg #[.I 0,.I 0,.I 0]) 3 24 Tryz.underlying79 zbr rfl (by decide) _ _ _ rfl P8.o.l _ _ _ rfl R8.o (zct _) (by simp[maxLen];omega) (by omega) hz8 ?_);intro v9 w9 hown9 hgr9;have P9:=zaa (P8.o.growL _ hown9 hgr9);rw[<- EE.o]at P9;obtain⟨aL,cL,hvL⟩:=RdM.form (zac P9.o.l).rd rfl;subst hvL;clear hown9 hgr9 P8 R8;go_wp2;go_ret;exact⟨_,rfl,zac P9.o.l,P9.o.b⟩
end Go.Proofs.YtfagbapgnocjiaaGreatDoor
