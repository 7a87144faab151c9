import Derived.Test.YtogcbbkhnpmgeaaGreatDoorZAV
set_option maxRecDepth 100000
set_option maxHeartbeats 4000000
namespace Go.Proofs.YtogcbbkhnpmgeaaGreatDoor
open Go.RowKit
theorem zxb(u:St):∀ (l:List St) (i:Nat),jrn i (l++[u])=jrn i l++[⟨9+2*((i+l.length:Nat):Int),u.at_,false⟩,⟨9+2*((i+l.length:Nat):Int)+1,u.val,false⟩]
 | [],i=>by simp[jrn]
 | x::l,i=>by
  rw[List.cons_append,jrn,zxb u l (i+1),jrn,show i+1+l.length=i+(x::l).length by simp;omega];rfl
theorem zlg:∀ (l:List St) (i:Nat),(jrn i l).length=2*l.length
 | [],i=>rfl
 | x::l,i=>by rw[jrn];simp[zlg l (i+1)];omega
def jlM(us:List Se)(m:Nat):List Mi:=(jrn 0 ((zdj us).take m)).map stM
def jlP(us:List Se)(m:Nat):List Int:=(jrn 0 ((zdj us).take m)).map (·.at_)
theorem yacv(us:List Se)(m:Nat):(jlM us m).length<=2*m:=by simp[jlM,zlg];omega
theorem yalx(us:List Se)(m:Nat):(jlP us m).length<=2*m:=by simp[jlP,zlg];omega
theorem take_len{us:List Se}{m:Nat}(h:m<=us.length):((zdj us).take m).length=m:=by rw[List.length_take,zbt];omega
theorem yage(us:List Se)(m:Nat)(h:m<us.length):jlM us (m+1)=jlM us m++[⟨1,9+2*(m:Int),us[m].at_⟩,⟨1,9+2*(m:Int)+1,us[m].val⟩]:=by
 unfold jlM;rw[zmh _ _ _ (zvc us m h),zxb,take_len (by omega),List.map_append,Nat.zero_add];rfl
theorem yavb(us:List Se)(m:Nat)(h:m<us.length):jlP us (m+1)=jlP us m++[9+2*(m:Int),9+2*(m:Int)+1]:=by
 unfold jlP;rw[zmh _ _ _ (zvc us m h),zxb,take_len (by omega),List.map_append,Nat.zero_add];rfl
theorem yacf(us:List Se):jlM us us.length=(jrn 0 (zdj us)).map stM:=by unfold jlM;rw[List.take_of_length_le (by rw[zbt];omega)]
theorem yaxc(us:List Se):jlP us us.length=(jrn 0 (zdj us)).map (·.at_):=by unfold jlP;rw[List.take_of_length_le (by rw[zbt];omega)]
theorem zrf:∀ (l:List St) (i:Nat),∀ s∈jrn i l,9+2*(i:Int)<=s.at_/\s.at_<9+2*((i+l.length:Nat):Int)
 | [],i=>by simp[jrn]
 | x::l,i=>by
  intro s hs;rw[jrn]at hs;simp only[List.mem_cons]at hs
  rcases hs with rfl|rfl | hs
  ·simp only[List.length_cons];omega
  ·simp only[List.length_cons];omega
  ·have:=zrf l (i+1) s hs;simp only[List.length_cons];omega
theorem yaql(us:List Se)(m:Nat)(hn:us.length<=64):∀ k (h:k<(jlP us m).length),0<=(jlP us m)[k]/\(jlP us m)[k]<336:=by
 intro k h;have hm:(jlP us m)[k]∈jlP us m:=List.getElem_mem h;generalize (jlP us m)[k]=z at *;simp only[jlP,List.mem_map]at hm;obtain⟨s,hs,rfl⟩:=hm;have:=zrf _ _ s hs
 have hl:((zdj us).take m).length<=64:=by rw[List.length_take,zbt];omega
 omega
theorem yarj{w:World}{b:Nat}{t:TypeId}{x0 x1 x2 x3 x4 x5:Value}(h:w.heap[b]?=some (.cells #[x0,x1,x2,x3,x4,x5] t (0,0)))(j:Nat):w.cell? ⟨b,j,none⟩=[x0,x1,x2,x3,x4,x5][j]?:=by
 unfold World.cell?;simp only[h];simp
theorem yadj(w1:World)(k a x k2 a2 x2:Int):Rd (w1.alloc (.cells #[.I k,.I a,.I x,.I k2,.I a2,.I x2] 82)) 3 (.slice (some ⟨w1.heap.size,0,none⟩) 2 2) 2 (mis [⟨k,a,x⟩,⟨k2,a2,x2⟩]):=by
 refine⟨rfl,_,_,rfl,⟨Nat.le_refl _,fun e=>by cases e⟩,fun _=>⟨w1.heap.size,0,rfl,by simp,fun j hj=>?_⟩⟩;rw[Nat.zero_add,yarj (zaf (w:=w1) rfl)];rfl
theorem ybci(w1:World)(x y:Int):RdI (w1.alloc (.cells #[.I x,.I y] 3)) (.slice (some ⟨w1.heap.size,0,none⟩) 2 2) [x,y]:=by
 refine⟨rfl,_,_,rfl,⟨Nat.le_refl _,fun e=>by cases e⟩,fun _=>⟨w1.heap.size,0,rfl,by simp,fun j hj=>?_⟩⟩;obtain⟨e0,e1,_,_⟩:=zac (zaf (w:=w1) (o:=.cells #[.I x,.I y] 3) rfl)
 rcases(show j=0\/j=1 by simp at hj;omega)with rfl|rfl
 ·exact e0
 ·exact e1
theorem znm(us:List Se):(ziw (zdj us)).length<=2*us.length+4:=by
 have h1:=zbo ((zdj us).map (·.at_));have h2:=zbo ((cnt 0).map (·.at_));simp only[List.length_map,zbt]at h1 h2;simp only[ziw,seg,List.length_append,List.length_map,zbt];simp only[cnt,List.length_cons,List.length_nil]at h2 ⊢;omega
theorem yabc(v:Value)(us:List Se)(w:World)(h:RdE w v us)(hn:us.length<=64)(h0:0<us.length)(hz0:∀ k (h:k<us.length),0<=us[k].at_/\us[k].at_<336) :
  zC 81 #[v] w fun e w'=>∃ v',e=.returned v'/\Row w' 82 3 w.heap.size w'.heap.size v' (zct (zdj us)).length (mis (zct (zdj us)))/\zB w w':=by
 have HR:=zaa h;obtain⟨aZ,cZ,rfl,_,hcZ⟩:=h.shape;have HZ:=zaa hcZ;have Z0:=zaa hz0;clear h hcZ hz0
 have START:Hid (PlI w ((w.alloc (.cells #[] 82)).alloc (.cells #[] 3)) (.slice (some ⟨w.heap.size,0,none⟩) 0 0) (.slice (some ⟨w.heap.size+1,0,none⟩) 0 0) [] []):=by
  refine⟨?_,?_,((Below.refl w.heap.size w).alloc zL _).alloc (by simp) _,by simp<;>omega⟩
  ·exact((zst w 82 3).alloc zL _).1
  ·simpa[zeg]using World.ownsRow_lit (base:=w.heap.size) (e:=3) (size:=1) (w.alloc (.cells #[] 82)) #[] 0 (by simp) (by simp) (by simp)
 have g0:((us.length:Int) == 0)=false:=by rw[beq_eq_false_iff_ne];omega
 go_enter Tryz.func81,Tryz.ntmps81;go_wp2
 go_loopw [3,4,5,6] (fun vL vP i _ wr=>∃ m:Nat,m<=us.length/\i=.I m/\Hid (PlI w wr vL vP (jlM us m) (jlP us m))/\w.heap.size<=wr.heap.size) (fun _ _ i _ _=>us.length-(intOf i).toNat)
 case atStart=>exact⟨0,by omega,rfl,by simpa[jlM,jlP,jrn]using START,by simp<;>omega⟩
 case round =>
  obtain⟨m,hm,rfl,J,hz⟩:=hrel
  by_cases hlt:m<us.length
  ·obtain⟨b,o,rfl,hbl,hcell⟩:=HZ.o (by omega);have C0:=(J.o.b.cell (p:=⟨b,o+m*2,none⟩) hbl).trans (hcell m hlt).1;have C1:=(J.o.b.cell (p:=⟨b,o+m*2+1,none⟩) hbl).trans (hcell m hlt).2;have EM:=zaa (yage us m hlt);have EP:=zaa (yavb us m hlt);have l1:=yacv us m;have l2:=yalx us m
   have hbr:b<wr.heap.size:=by omega
   have DW:=zaa (hcell m hlt);clear hcell
   have m0:(0:Int)<=(m:Int):=by omega
   have m1:(m:Int)<(us.length:Int):=by omega
   generalize us[m].at_=x at *;generalize us[m].val=y at *
   have wp1:IntKind.i64.wrap (9+2*(m:Int)+1)=9+2*(m:Int)+1:=by rw[IntKind.wrap_i64];omega
   go_wp2_with fail
   go_region_held3 (fun w'=>w'.cell? ⟨b,o+m*2,none⟩=some (.I x)/\w'.cell? ⟨b,o+m*2+1,none⟩=some (.I y)) (first | exact⟨C0,C1⟩ | exact⟨s0,s1⟩ | exact⟨r0,r1⟩ | exact⟨t0,t1⟩ | exact⟨q0,q1⟩)
    (first
     | (go_at_call 142;refine(zdo _ _ _).mono ?_;rintro e w2 ⟨rfl,hb2⟩;first
       | (have PT:=zaa (P0.o.below hb2);have t0:=(PT.o.b.cell (p:=⟨b,o+m*2,none⟩) hbl).trans DW.o.1;have t1:=(PT.o.b.cell (p:=⟨b,o+m*2+1,none⟩) hbl).trans DW.o.2;have P1:=zaa (PT.o.below (zR.alloc zL (.cells #[.I 1,.I (9+2*(m:Int)),.I x,.I 1,.I (9+2*(m:Int)+1),.I y] 82)));have HRD:=zaa (yadj w2 1 (9+2*(m:Int)) x 1 (9+2*(m:Int)+1) y);have r0:=(P1.o.b.cell (p:=⟨b,o+m*2,none⟩) hbl).trans DW.o.1;have r1:=(P1.o.b.cell (p:=⟨b,o+m*2+1,none⟩) hbl).trans DW.o.2;have hz1:=P1.o.z;clear hb2)
       | (have hb1':=zdv hb2;have q0:=(hb1'.cell (p:=⟨b,o+m*2,none⟩) hbr).trans C0;have q1:=(hb1'.cell (p:=⟨b,o+m*2+1,none⟩) hbr).trans C1;have P0:=zaa (J.o.below hb1');clear hb2 hb1'))
     | (refine zap rfl (.tmp 22) (.tmp 38) 32 rfl w.heap.size 82 (.agg #[.I 0,.I 0,.I 0]) 3 24 Tryz.underlying32 zbp rfl (by decide) _ _ _ rfl P1.o.l _ 2 _ rfl HRD.o (zcj _) (by simp[maxLen];omega) (by omega) hz1 ?_;intro vN wN hownN hgrN;have G:=zaa (P1.o.growL [⟨1,9+2*(m:Int),x⟩,⟨1,9+2*(m:Int)+1,y⟩] hownN hgrN);have s0:=(G.o.b.cell (p:=⟨b,o+m*2,none⟩) hbl).trans DW.o.1;have s1:=(G.o.b.cell (p:=⟨b,o+m*2+1,none⟩) hbl).trans DW.o.2;clear hownN hgrN))
   all_goals
    have hzG:=G.o.z;clear C0 C1 q0 q1 r0 r1 t0 t1 P0 PT P1 HRD J;have P2:=zaa (G.o.below (zR.alloc zL (.cells #[.I (9+2*(m:Int)),.I (9+2*(m:Int)+1)] 3)));have HR2:=zaa (ybci wN (9+2*(m:Int)) (9+2*(m:Int)+1));have hz2:=P2.o.z;clear G;go_wp2_with (at_builtin;refine zae _ rfl (.tmp 40) (.tmp 44) 23 rfl w.heap.size 3 (.I 0) 1 8 Tryz.underlying23 zmo rfl (by decide) _ _ _ rfl P2.o.p _ 2 _ rfl HR2.o (zgp _) (by simp[maxLen];omega) (by omega) hz2 ?_);intro vQ wQ hownQ hgrQ;have G2:=zaa (P2.o.growP [9+2*(m:Int),9+2*(m:Int)+1] hownQ hgrQ);rw[<- EM.o,<- EP.o]at G2;have hz3:=G2.o.z;clear hownQ hgrQ P2 HR2;go_wp2
    go_roundw
    case rel=>exact⟨m+1,by omega,by go_num,G2,hz3⟩
    case measure=>simp[intOf];omega
  ·obtain rfl:m=us.length:=by omega
   have PL:=zaa (yaql us us.length hn);have l1:=yacv us us.length;have l2:=yalx us us.length
   have EE:=zaa (show zct (zdj us)=jlM us us.length++zbe (jlP us us.length)++[⟨1,8,(us.length:Int)⟩]++zbe [8]++ziw (zdj us) by
    rw[yacf,yaxc,zct,zbt,if_neg (by omega)];simp[seg,cnt,stM])
   have l3:=zbo (jlP us us.length);have l4:=zbo [8];have l9:=znm us;simp only[List.length_cons,List.length_nil]at l4;generalize jlM us us.length=A at *;generalize jlP us us.length=B at *;go_wp2_with fail;refine(zdq _ B _ (zad J.o.p).rd (by omega) PL.o).mono ?_;rintro e w1 ⟨v1,rfl,hr1,hb1⟩;have P1:=zaa (J.o.below hb1);have R1:=zaa hr1.rd;have hz1:=P1.o.z;clear hr1 hb1 J;go_wp2_with (at_builtin;refine zae _ rfl (.tmp 46) (.tmp 48) 32 rfl w.heap.size 82 (.agg #[.I 0,.I 0,.I 0]) 3 24 Tryz.underlying32 zbp rfl (by decide) _ _ _ rfl P1.o.l _ _ _ rfl R1.o (zcj _) (by simp[maxLen];omega) (by omega) hz1 ?_);intro v2 w2 hown2 hgr2;have P2:=zaa (P1.o.growL _ hown2 hgr2);have hz2:=P2.o.z
   have l5:(A++zbe B).length<=400:=by simp;omega
   generalize A++zbe B=C at *;clear hown2 hgr2 P1 R1;go_wp2_with fail;refine(zdo _ _ _).mono ?_;rintro e w3 ⟨rfl,hb3⟩;have P3:=zaa ((P2.o.below hb3).below (zR.alloc zL (.cells #[.I 1,.I 8,.I (us.length:Int)] 82)));have R3:=zaa (zjg w3 1 8 (us.length:Int));have hz3:=P3.o.z;clear hb3 P2;go_wp2_with (at_builtin;refine zae _ rfl (.tmp 50) (.tmp 54) 32 rfl w.heap.size 82 (.agg #[.I 0,.I 0,.I 0]) 3 24 Tryz.underlying32 zbp rfl (by decide) _ _ _ rfl P3.o.l _ 1 _ rfl R3.o (zif _) (by simp[maxLen];omega) (by omega) hz3 ?_);intro v4 w4 hown4 hgr4;have P4:=zaa (P3.o.growL [⟨1,8,(us.length:Int)⟩] (by rw[zka];exact hown4) hgr4)
   have l6:(C++[(⟨1,8,(us.length:Int)⟩:Mi)]).length<=401:=by simp;omega
   generalize C++[(⟨1,8,(us.length:Int)⟩:Mi)]=D at *;have P5:=zaa (P4.o.below (zR.alloc zL (.cells #[.I 8] 3)));have R5:=zaa (zln w4 8);clear hown4 hgr4 P3 R3 P4;go_wp2_with fail;refine(zdq _ [8] _ R5.o (by simp) (by intro k h;simp at h;subst h;simp)).mono ?_;rintro e w6 ⟨v6,rfl,hr6,hb6⟩;have P6:=zaa (P5.o.below hb6);have R6:=zaa hr6.rd;have hz6:=P6.o.z;clear hr6 hb6 P5 R5;go_wp2_with (at_builtin;refine zae _ rfl (.tmp 56) (.tmp 58) 32 rfl w.heap.size 82 (.agg #[.I 0,.I 0,.I 0]) 3 24 Tryz.underlying32 zbp rfl (by decide) _ _ _ rfl P6.o.l _ _ _ rfl R6.o (zcj _) (by simp[maxLen];omega) (by omega) hz6 ?_);intro v7 w7 hown7 hgr7;have P7:=zaa (P6.o.growL _ hown7 hgr7)
   have l7:(D++zbe [8]).length<=403:=by simp;omega
   generalize D++zbe [8]=F at *;clear hown7 hgr7 P6 R6;go_wp2_with fail;refine(zyd _ us _ (Rd.below HR.o P7.o.b) hn Z0.o).mono ?_;rintro e w8 ⟨v8,rfl,hr8,hb8⟩;have P8:=zaa (P7.o.below hb8);have R8:=zaa hr8.rd;have hz8:=P8.o.z;clear hr8 hb8 P7;go_wp2_with (at_builtin;refine zae _ rfl (.tmp 60) (.tmp 62) 32 rfl w.heap.size 82 (.agg #[.I 0,.I 0,.I 0]) 3 24 Tryz.underlying32 zbp rfl (by decide) _ _ _ rfl P8.o.l _ _ _ rfl R8.o (zcj _) (by simp[maxLen];omega) (by omega) hz8 ?_);intro v9 w9 hown9 hgr9;have P9:=zaa (P8.o.growL _ hown9 hgr9);rw[<- EE.o]at P9;obtain⟨aL,cL,hvL⟩:=RdM.form (zad P9.o.l).rd rfl;subst hvL;clear hown9 hgr9 P8 R8;go_wp2;go_ret;exact⟨_,rfl,zad P9.o.l,P9.o.b⟩
theorem zum(us:List Se)(h:us.length=0):zct (zdj us)=[]:=by rw[zct,zbt,if_pos h]
theorem zjs(us:List Se):(zct (zdj us)).length<=6*us.length+8:=by
 have h1:=zbo ((jrn 0 (zdj us)).map (·.at_));have h2:=zbo ((cnt (us.length:Int)).map (·.at_));have h3:=znm us;simp only[List.length_map,zbt,zlg]at h1;simp only[cnt,List.length_map,List.length_cons,List.length_nil]at h2;rw[zct]
 split
 ·simp
 ·simp only[seg,cnt,List.length_append,List.length_map,zbt,zlg,List.length_cons,List.length_nil]at *;omega
theorem zqq(v:Value)(us:List Se)(w:World)(h:RdE w v us)(hn:us.length<=64)(hz0:∀ k (h:k<us.length),0<=us[k].at_/\us[k].at_<336) :
  zC 81 #[v] w fun e w'=>∃ v',e=.returned v'/\Row w' 82 3 w.heap.size w'.heap.size v' (zct (zdj us)).length (mis (zct (zdj us)))/\zB w w':=by
 by_cases h0:0<us.length
 ·exact yabc v us w h hn h0 hz0
 ·have RE:=zaa (And.intro (zst w 82 3) ((Below.refl w.heap.size w).alloc zL (.cells #[] 82)));obtain⟨aZ,cZ,rfl,_,hcZ⟩:=h.shape;rw[zum us (by omega)]
  have e0:us.length=0:=by omega
  clear h hcZ hz0;rw[e0]at *;clear e0;go_enter Tryz.func81,Tryz.ntmps81;go_wp2;go_ret;exact⟨_,rfl,RE.o.1,RE.o.2⟩
def jpC(us:List Se):Int:=if 4096<us.length then 2 else if 16<us.length then 6 else if upsB us=true then 0 else 1
def jpL(us:List Se):List Mi:=if jpC us=0 then zct (zdj us) else[]
theorem zpm(us:List Se):(4096<us.length/\jpC us=2/\jpL us=[])\/(¬ 4096<us.length/\16<us.length/\jpC us=6/\jpL us=[])\/(¬ 4096<us.length/\¬ 16<us.length/\upsB us=false/\jpC us=1/\jpL us=[])\/(¬ 4096<us.length/\¬ 16<us.length/\upsB us=true/\jpC us=0/\jpL us=zct (zdj us)):=by
 by_cases c1:4096<us.length
 ·have e:jpC us=2:=by unfold jpC;rw[if_pos c1]
  exact .inl ⟨c1,e,by unfold jpL;rw[e];rfl⟩
 ·by_cases c2:16<us.length
  ·have e:jpC us=6:=by unfold jpC;rw[if_neg c1,if_pos c2]
   exact .inr (.inl ⟨c1,c2,e,by unfold jpL;rw[e];rfl⟩)
  ·by_cases c3:upsB us=true
   ·have e:jpC us=0:=by unfold jpC;rw[if_neg c1,if_neg c2,if_pos c3]
    exact .inr (.inr (.inr ⟨c1,c2,c3,e,by unfold jpL;rw[e];rfl⟩))
   ·have c3':upsB us=false:=by simpa using c3
    have e:jpC us=1:=by unfold jpC;rw[if_neg c1,if_neg c2,c3'];rfl
    exact .inr (.inr (.inl ⟨c1,c2,c3',e,by unfold jpL;rw[e];rfl⟩))
theorem yazm(us:List Se):(jpL us).length<=16777216:=by
 rcases zpm us with ⟨_,_,e⟩ | ⟨_,_,_,e⟩ | ⟨_,_,_,_,e⟩ | ⟨_,_,_,_,e⟩
 ·rw[e];simp
 ·rw[e];simp
 ·rw[e];simp
 ·rw[e];have:=zjs us;omega
theorem zwx{fs:List (Nat×Int)}{g:Nat}:∀ {z:Int},(∀ f∈fs,¬ f.1=g)->zsu fs g z=z:=by
 induction fs with
 | nil=>intro z _;rfl
 | cons f fs ih =>
  intro z h
  show zsu fs g (if f.1=g then f.2 else z)=z
  rw[if_neg (h f (List.mem_cons_self ..))];exact ih (fun q hq=>h q (List.mem_cons_of_mem _ hq))
theorem yatr{fs:List (Nat×Int)}{g:Nat}(h0:∀ f∈fs,f.2=0):∀ {z:Int},(z=0\/∃ f∈fs,f.1=g)->zsu fs g z=0:=by
 induction fs with
 | nil=>intro z h;rcases h with h | ⟨_,h,_⟩;exact h;cases h
 | cons f fs ih =>
  intro z h
  show zsu fs g (if f.1=g then f.2 else z)=0
  refine ih (fun q hq=>h0 q (List.mem_cons_of_mem _ hq)) ?_
  by_cases e:f.1=g
  ·rw[if_pos e];exact .inl (h0 f (List.mem_cons_self ..))
  ·rw[if_neg e]
   rcases h with h | ⟨q,hq,hg⟩
   ·exact .inl h
   ·rcases List.mem_cons.1 hq with rfl | hq
    ·exact absurd hg e
    ·exact .inr ⟨q,hq,hg⟩
def cuFs(zs:List Int)(n:Nat):List (Nat×Int):=((List.range 8).filter fun j=>decide (n<=j)&&!(zs.getD j 0 == 0)).map fun(j:Nat)=>(3+j,0)
theorem yaew(zs:List Int)(i n:Nat):zqo i ((1,(n:Int))::cuFs zs n)=cuU zs (i:Int) n 8:=by
 unfold zqo cuU cuT cuFs;rw[List.map_cons,List.map_map];rfl
theorem zls{zs:List Int}{n:Nat}{f:Nat×Int}(h:f∈cuFs zs n):∃ j,j<8/\n<=j/\f=(3+j,0):=by
 unfold cuFs at h;obtain⟨j,hm,rfl⟩:=List.mem_map.1 h;obtain⟨a,b⟩:=List.mem_filter.1 hm;rw[Bool.and_eq_true,decide_eq_true_eq]at b;exact⟨j,List.mem_range.1 a,b.1,rfl⟩
theorem yans{zs:List Int}{n j:Nat}(hj:j<8):zsu ((1,(n:Int))::cuFs zs n) (3+j) (zs.getD j 0)=(cutM zs n).getD j 0:=by
 show zsu (cuFs zs n) (3+j) (if 1=3+j then(n:Int)else zs.getD j 0)=_
 rw[if_neg (by omega),yapv _ _ _ hj]
 by_cases c:j<n
 ·rw[if_pos c];exact zwx (fun f hf=>by obtain⟨q,_,hq,rfl⟩:=zls hf;show ¬ 3+q=3+j;omega)
 ·rw[if_neg c];refine yatr (fun f hf=>by obtain⟨q,_,_,rfl⟩:=zls hf;rfl) ?_
  by_cases e:zs.getD j 0=0
  ·exact .inl e
  ·refine .inr ⟨(3+j,0),?_,rfl⟩;unfold cuFs;exact List.mem_map.2 ⟨j,List.mem_filter.2 ⟨List.mem_range.2 hj,by rw[decide_eq_true (by omega:n<=j)];simpa using e⟩,rfl⟩
theorem yafo(x:Ino)(n:Nat):inoP x ((1,(n:Int))::cuFs x.map n)=inoM x.kind (n:Int) x.links (cutM x.map n):=by
 have N:∀ g,g<3->¬ g=1->∀ z,zsu ((1,(n:Int))::cuFs x.map n) g z=z:=fun g hg h1 z=>zwx (fun f hf=>by
  rcases List.mem_cons.1 hf with rfl | hf
  ·show ¬ 1=g;omega
  ·obtain⟨q,_,_,rfl⟩:=zls hf;show ¬ 3+q=g;omega)
 have P:=fun j hj=>yans (zs:=x.map) (n:=n) (j:=j) hj
 unfold inoP inoM
 congr 1
 ·exact N 0 (by omega) (by omega) _
 ·show zsu (cuFs x.map n) 1 (n:Int)=(n:Int)
  exact zwx (fun f hf=>by obtain⟨q,_,_,rfl⟩:=zls hf;show ¬ 3+q=1;omega)
 ·exact N 2 (by omega) (by omega) _
 ·exact P 0 (by omega)
 ·exact P 1 (by omega)
 ·exact P 2 (by omega)
 ·exact P 3 (by omega)
 ·exact P 4 (by omega)
 ·exact P 5 (by omega)
 ·exact P 6 (by omega)
 ·exact P 7 (by omega)
theorem ybcl{ls:List Int}{ns:List Ino}{ds:List Den}(h:Wi ls ns ds){s:ByteArray}{size:Int}{us:List Se}(e:cuI ns ds s size=(us,0)) :
  UpIn us/\us.length<=9/\∃ i n:Nat,i<16/\n<=8/\(flI ns ds s).1=(i:Int)/\size=(n:Int)/\Wi (zdh ls us) (ns.set i (inoM (zan ns i).kind (n:Int) (zan ns i).links (cutM (zan ns i).map n))) ds:=by
 unfold cuI at e
 by_cases c:(flI ns ds s).2=0
 ·rw[if_pos c]at e;obtain⟨i,hi,ei,k⟩:=zgm h.img c;rw[ei]at e;unfold cuF at e
  by_cases d:0<=size/\size<=8
  ·rw[if_pos d]at e
   obtain⟨n,rfl⟩:∃ n:Nat,size=(n:Int):=⟨size.toNat,by omega⟩
   rw[Int.toNat_natCast,Int.toNat_natCast]at e;obtain⟨rfl,-⟩:=Prod.mk.inj e;rw[<- yaew]
   have hf:∀ f∈(1,(n:Int))::cuFs (zan ns i).map n,f.1<11:=fun f hf=>by
    rcases List.mem_cons.1 hf with rfl | hf
    ·show 1<11;omega
    ·obtain⟨q,hq,_,rfl⟩:=zls hf;show 3+q<11;omega
   refine⟨zwl hi hf,?_,i,n,hi,by omega,ei,rfl,?_⟩
   ·rw[yaew];have:=zvk (zan ns i).map (i:Int) n 8
    show(cuT (zan ns i).map (i:Int) n 8).length+1<=9
    omega
   ·rw[<- yafo];exact yawo h hi hf (by rw[yafo];exact yayn h.img hi k (by omega))
  ·rw[if_neg d]at e;simp at e
 ·rw[if_neg c]at e;exact absurd (Prod.mk.inj e).2 c
def wrFs(p:Nat)(e size:Int):List (Nat×Int):=(3+p,e)::(if size<=(p:Int) then[(1,(p:Int)+1)] else[])
theorem yasr(i p:Nat)(e size:Int):zqo i (wrFs p e size)=wrU (i:Int) (p:Int) size e:=by
 unfold zqo wrU wrFs;rw[List.map_cons]
 by_cases c:size<=(p:Int)
 ·rw[if_pos c,if_pos c]
  show[(⟨48+12*(i:Int)+((3+p:Nat):Int),e⟩:Se),⟨48+12*(i:Int)+1,(p:Int)+1⟩]=_
  rw[show 48+12*(i:Int)+((3+p:Nat):Int)=48+12*(i:Int)+(3+(p:Int)) by omega]
 ·rw[if_neg c,if_neg c]
  show[(⟨48+12*(i:Int)+((3+p:Nat):Int),e⟩:Se)]=_
  rw[show 48+12*(i:Int)+((3+p:Nat):Int)=48+12*(i:Int)+(3+(p:Int)) by omega]
theorem yaqa{p:Nat}{e size:Int}(hp:p<8):∀ f∈wrFs p e size,f.1<11:=fun f hf=>by
 unfold wrFs at hf
 rcases List.mem_cons.1 hf with rfl | hf
 ·show 3+p<11;omega
 ·by_cases c:size<=(p:Int)
  ·rw[if_pos c,List.mem_singleton]at hf;rw[hf];show 1<11;omega
  ·rw[if_neg c]at hf;cases hf
theorem yagn(x:Ino){p:Nat}(hp:p<8)(e:Int):inoP x (wrFs p e x.size)=inoM x.kind (if (p:Int)<x.size then x.size else(p:Int)+1) x.links (x.map.set p e):=by
 have G:∀ g z,zsu (wrFs p e x.size) g z=if g=1/\x.size<=(p:Int) then(p:Int)+1 else if g=3+p then e else z:=by
  intro g z;unfold wrFs
  by_cases c:x.size<=(p:Int)
  ·rw[if_pos c]
   show(if 1=g then(p:Int)+1 else(if 3+p=g then e else z))=_
   repeat' split
   all_goals omega
  ·rw[if_neg c]
   show(if 3+p=g then e else z)=_
   repeat' split
   all_goals omega
 have M:∀ j,j<8->zsu (wrFs p e x.size) (3+j) (x.map.getD j 0)=(x.map.set p e).getD j 0:=by
  intro j hj;rw[G,if_neg (fun q=>by omega),List.getD_eq_getElem?_getD,List.getD_eq_getElem?_getD,List.getElem?_set]
  by_cases b:j=p
  ·subst b;rw[if_pos rfl,if_pos rfl,if_pos (by show j<8;exact hj)];rfl
  ·rw[if_neg (by omega),if_neg (fun q=>b q.symm)]
 unfold inoP inoM
 congr 1
 ·rw[G,if_neg (fun q=>by omega),if_neg (by omega)]
 ·rw[G]
  by_cases c:(p:Int)<x.size
  ·rw[if_neg (fun q=>by omega),if_neg (by omega),if_pos c]
  ·rw[if_pos ⟨rfl,by omega⟩,if_neg c]
 ·rw[G,if_neg (fun q=>by omega),if_neg (by omega)]
 ·exact M 0 (by omega)
 ·exact M 1 (by omega)
 ·exact M 2 (by omega)
 ·exact M 3 (by omega)
 ·exact M 4 (by omega)
 ·exact M 5 (by omega)
 ·exact M 6 (by omega)
 ·exact M 7 (by omega)
theorem zwo{ls:List Int}{ns:List Ino}{ds:List Den}(h:Wi ls ns ds){i p:Nat}{e:Int}(hi:i<16)(k:(zan ns i).kind=1)(hp:p<8)(te:zer e=true)(he:¬ e=0)(new:¬ e∈zam ns) :
  UpIn (wrU (i:Int) (p:Int) (zan ns i).size e)/\Wi (zdh ls (wrU (i:Int) (p:Int) (zan ns i).size e)) (ns.set i (inoM (zan ns i).kind (if (p:Int)<(zan ns i).size then(zan ns i).size else(p:Int)+1) (zan ns i).links ((zan ns i).map.set p e))) ds:=by
 rw[<- yasr,<- yagn _ hp];exact⟨zwl hi (yaqa hp),yawo h hi (yaqa hp) (by rw[yagn _ hp];exact yanl h.img hi k hp te he new rfl)⟩
theorem yazo{ls:List Int}{ns:List Ino}{ds:List Den}(h:Wi ls ns ds){i p:Nat}{e:Int}(hi:i<16)(hp:p<8)(was:¬ (zan ns i).map.getD p 0=0)(te:zer e=true)(he:¬ e=0)(new:¬ e∈zam ns) :
  Wi (zdh ls [⟨48+12*(i:Int)+(3+(p:Int)),e⟩]) (ns.set i (inoM (zan ns i).kind (zan ns i).size (zan ns i).links ((zan ns i).map.set p e))) ds:=by
 obtain⟨sz,k⟩:=yarh (h.img.ok i hi) hp was;have q:=(zwo h hi k hp te he new).2;unfold wrU at q;rw[if_neg (by omega),if_pos sz]at q;exact q
theorem zdt{p:Nat->Bool}{n:Nat}(h:0<=zba p n):∃ k:Nat,k<n/\zba p n=(k:Int)/\p k=true:=by
 unfold zba at h ⊢
 cases e:(List.range n).find? p with
 | none=>rw[e]at h;exact absurd h (by show ¬ (0:Int)<=-1;omega)
 | some k=>exact⟨k,List.mem_range.1 (List.mem_of_find?_eq_some e),rfl,List.find?_some e⟩
theorem yafe{ns:List Ino}{t:Int}{k:Nat}(ht:0<=t/\t<4)(h:(!zfa (zay (zam ns) t) (k:Int))=true):¬ 4*(k:Int)+t∈zam ns:=by
 intro m;unfold zfa zay at h;rw[Bool.not_eq_true',<- Bool.not_eq_true]at h;refine h (List.contains_iff_mem.2 (List.mem_map.2 ⟨4*(k:Int)+t,List.mem_filter.2 ⟨m,?_⟩,by omega⟩));rw[beq_iff_eq];omega
theorem yakj{ns:List Ino}(h:¬ (fpI ns<0/\fsI ns<0)):zer (wrE ns)=true/\¬ wrE ns=0/\¬ wrE ns∈zam ns:=by
 unfold wrE
 by_cases c:0<=fpI ns
 ·rw[if_pos c];obtain⟨k,hk,e,q⟩:=zdt c;have e':fpI ns=(k:Int):=e;rw[e'];refine⟨?_,by omega,yafe (by omega) q⟩;unfold zer zfl;simp;omega
 ·rw[if_neg c];obtain⟨k,hk,e,q⟩:=zdt (p:=fun i=>!zfa (zay (zam ns) 2) (i:Int)) (n:=32) (by have:¬ fsI ns<0:=fun z=>h ⟨by omega,z⟩;unfold fsI at this;omega);have e':fsI ns=(k:Int):=e;rw[e'];refine⟨?_,by omega,yafe (by omega) q⟩;unfold zer zfl;simp;omega
end Go.Proofs.YtogcbbkhnpmgeaaGreatDoor
