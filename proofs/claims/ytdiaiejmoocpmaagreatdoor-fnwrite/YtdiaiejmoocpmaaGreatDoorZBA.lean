import Derived.Test.YtdiaiejmoocpmaaGreatDoorZAT
set_option maxRecDepth 100000
set_option maxHeartbeats 4000000
namespace Go.Proofs.YtdiaiejmoocpmaaGreatDoor
open Go.RowKit
theorem zuz(u:St):∀ (l:List St) (i:Nat),jrn i (l++[u])=jrn i l++[⟨9+2*((i+l.length:Nat):Int),u.at_,false⟩,⟨9+2*((i+l.length:Nat):Int)+1,u.val,false⟩]
 | [],i=>by simp[jrn]
 | x::l,i=>by
  rw[List.cons_append,jrn,zuz u l (i+1),jrn,show i+1+l.length=i+(x::l).length by simp;omega];rfl
theorem zku:∀ (l:List St) (i:Nat),(jrn i l).length=2*l.length
 | [],i=>rfl
 | x::l,i=>by rw[jrn];simp[zku l (i+1)];omega
def jlM(us:List Se)(m:Nat):List Mi:=(jrn 0 ((zdt us).take m)).map stM
def jlP(us:List Se)(m:Nat):List Int:=(jrn 0 ((zdt us).take m)).map (·.at_)
theorem yade(us:List Se)(m:Nat):(jlM us m).length<=2*m:=by simp[jlM,zku];omega
theorem yamc(us:List Se)(m:Nat):(jlP us m).length<=2*m:=by simp[jlP,zku];omega
theorem take_len{us:List Se}{m:Nat}(h:m<=us.length):((zdt us).take m).length=m:=by rw[List.length_take,zbo];omega
theorem yaer(us:List Se)(m:Nat)(h:m<us.length):jlM us (m+1)=jlM us m++[⟨1,9+2*(m:Int),us[m].at_⟩,⟨1,9+2*(m:Int)+1,us[m].val⟩]:=by
 unfold jlM;rw[zna _ _ _ (zwi us m h),zuz,take_len (by omega),List.map_append,Nat.zero_add];rfl
theorem yasx(us:List Se)(m:Nat)(h:m<us.length):jlP us (m+1)=jlP us m++[9+2*(m:Int),9+2*(m:Int)+1]:=by
 unfold jlP;rw[zna _ _ _ (zwi us m h),zuz,take_len (by omega),List.map_append,Nat.zero_add];rfl
theorem yadg(us:List Se):jlM us us.length=(jrn 0 (zdt us)).map stM:=by unfold jlM;rw[List.take_of_length_le (by rw[zbo];omega)]
theorem yayh(us:List Se):jlP us us.length=(jrn 0 (zdt us)).map (·.at_):=by unfold jlP;rw[List.take_of_length_le (by rw[zbo];omega)]
theorem zrm:∀ (l:List St) (i:Nat),∀ s∈jrn i l,9+2*(i:Int)<=s.at_/\s.at_<9+2*((i+l.length:Nat):Int)
 | [],i=>by simp[jrn]
 | x::l,i=>by
  intro s hs;rw[jrn]at hs;simp only[List.mem_cons]at hs
  rcases hs with rfl|rfl | hs
  ·simp only[List.length_cons];omega
  ·simp only[List.length_cons];omega
  ·have:=zrm l (i+1) s hs;simp only[List.length_cons];omega
theorem yakb(us:List Se)(m:Nat)(hn:us.length<=64):∀ k (h:k<(jlP us m).length),0<=(jlP us m)[k]/\(jlP us m)[k]<336:=by
 intro k h;have hm:(jlP us m)[k]∈jlP us m:=List.getElem_mem h;generalize (jlP us m)[k]=z at *;simp only[jlP,List.mem_map]at hm;obtain⟨s,hs,rfl⟩:=hm;have:=zrm _ _ s hs
 have hl:((zdt us).take m).length<=64:=by rw[List.length_take,zbo];omega
 omega
theorem yanx{w:World}{b:Nat}{t:TypeId}{x0 x1 x2 x3 x4 x5:Value}(h:w.heap[b]?=some (.cells #[x0,x1,x2,x3,x4,x5] t (0,0)))(j:Nat):w.cell? ⟨b,j,none⟩=[x0,x1,x2,x3,x4,x5][j]?:=by
 unfold World.cell?;simp only[h];simp
theorem yacd(w1:World)(k a x k2 a2 x2:Int):Rd (w1.alloc (.cells #[.I k,.I a,.I x,.I k2,.I a2,.I x2] 84)) 3 (.slice (some ⟨w1.heap.size,0,none⟩) 2 2) 2 (mis [⟨k,a,x⟩,⟨k2,a2,x2⟩]):=by
 refine⟨rfl,_,_,rfl,⟨Nat.le_refl _,fun e=>by cases e⟩,fun _=>⟨w1.heap.size,0,rfl,by simp,fun j hj=>?_⟩⟩;rw[Nat.zero_add,yanx (zaf (w:=w1) rfl)];rfl
theorem ybbf(w1:World)(x y:Int):RdI (w1.alloc (.cells #[.I x,.I y] 3)) (.slice (some ⟨w1.heap.size,0,none⟩) 2 2) [x,y]:=by
 refine⟨rfl,_,_,rfl,⟨Nat.le_refl _,fun e=>by cases e⟩,fun _=>⟨w1.heap.size,0,rfl,by simp,fun j hj=>?_⟩⟩;obtain⟨e0,e1,_,_⟩:=zac (zaf (w:=w1) (o:=.cells #[.I x,.I y] 3) rfl)
 rcases(show j=0\/j=1 by simp at hj;omega)with rfl|rfl
 ·exact e0
 ·exact e1
theorem znj(us:List Se):(zis (zdt us)).length<=2*us.length+4:=by
 have h1:=zbi ((zdt us).map (·.at_));have h2:=zbi ((cnt 0).map (·.at_));simp only[List.length_map,zbo]at h1 h2;simp only[zis,seg,List.length_append,List.length_map,zbo];simp only[cnt,List.length_cons,List.length_nil]at h2 ⊢;omega
theorem zxr(v:Value)(us:List Se)(w:World)(h:RdE w v us)(hn:us.length<=64)(h0:0<us.length)(hz0:∀ k (h:k<us.length),0<=us[k].at_/\us[k].at_<336) :
  zC 72 #[v] w fun e w'=>∃ v',e=.returned v'/\Row w' 84 3 w.heap.size w'.heap.size v' (zdc (zdt us)).length (mis (zdc (zdt us)))/\zB w w':=by
 have HR:=zaa h;obtain⟨aZ,cZ,rfl,_,hcZ⟩:=h.shape;have HZ:=zaa hcZ;have Z0:=zaa hz0;clear h hcZ hz0
 have START:Hid (PlI w ((w.alloc (.cells #[] 84)).alloc (.cells #[] 3)) (.slice (some ⟨w.heap.size,0,none⟩) 0 0) (.slice (some ⟨w.heap.size+1,0,none⟩) 0 0) [] []):=by
  refine⟨?_,?_,((Below.refl w.heap.size w).alloc zL _).alloc (by simp) _,by simp<;>omega⟩
  ·exact((zst w 84 3).alloc zL _).1
  ·simpa[zcl]using World.ownsRow_lit (base:=w.heap.size) (e:=3) (size:=1) (w.alloc (.cells #[] 84)) #[] 0 (by simp) (by simp) (by simp)
 have g0:((us.length:Int) == 0)=false:=by rw[beq_eq_false_iff_ne];omega
 go_enter Tryz.func72,Tryz.ntmps72;go_wp2
 go_loopw [3,4,5,6] (fun vL vP i _ wr=>∃ m:Nat,m<=us.length/\i=.I m/\Hid (PlI w wr vL vP (jlM us m) (jlP us m))/\w.heap.size<=wr.heap.size) (fun _ _ i _ _=>us.length-(intOf i).toNat)
 case atStart=>exact⟨0,by omega,rfl,by simpa[jlM,jlP,jrn]using START,by simp<;>omega⟩
 case round =>
  obtain⟨m,hm,rfl,J,hz⟩:=hrel
  by_cases hlt:m<us.length
  ·obtain⟨b,o,rfl,hbl,hcell⟩:=HZ.o (by omega);have C0:=(J.o.b.cell (p:=⟨b,o+m*2,none⟩) hbl).trans (hcell m hlt).1;have C1:=(J.o.b.cell (p:=⟨b,o+m*2+1,none⟩) hbl).trans (hcell m hlt).2;have EM:=zaa (yaer us m hlt);have EP:=zaa (yasx us m hlt);have l1:=yade us m;have l2:=yamc us m
   have hbr:b<wr.heap.size:=by omega
   have DW:=zaa (hcell m hlt);clear hcell
   have m0:(0:Int)<=(m:Int):=by omega
   have m1:(m:Int)<(us.length:Int):=by omega
   generalize us[m].at_=x at *;generalize us[m].val=y at *
   have wp1:IntKind.i64.wrap (9+2*(m:Int)+1)=9+2*(m:Int)+1:=by rw[IntKind.wrap_i64];omega
   go_wp2_with fail
   go_region_held3 (fun w'=>w'.cell? ⟨b,o+m*2,none⟩=some (.I x)/\w'.cell? ⟨b,o+m*2+1,none⟩=some (.I y)) (first | exact⟨C0,C1⟩ | exact⟨s0,s1⟩ | exact⟨r0,r1⟩ | exact⟨t0,t1⟩ | exact⟨q0,q1⟩)
    (first
     | (go_at_call 68;refine(zds _ _ _).mono ?_;rintro e w2 ⟨rfl,hb2⟩;first
       | (have PT:=zaa (P0.o.below hb2);have t0:=(PT.o.b.cell (p:=⟨b,o+m*2,none⟩) hbl).trans DW.o.1;have t1:=(PT.o.b.cell (p:=⟨b,o+m*2+1,none⟩) hbl).trans DW.o.2;have P1:=zaa (PT.o.below (zR.alloc zL (.cells #[.I 1,.I (9+2*(m:Int)),.I x,.I 1,.I (9+2*(m:Int)+1),.I y] 84)));have HRD:=zaa (yacd w2 1 (9+2*(m:Int)) x 1 (9+2*(m:Int)+1) y);have r0:=(P1.o.b.cell (p:=⟨b,o+m*2,none⟩) hbl).trans DW.o.1;have r1:=(P1.o.b.cell (p:=⟨b,o+m*2+1,none⟩) hbl).trans DW.o.2;have hz1:=P1.o.z;clear hb2)
       | (have hb1':=zdx hb2;have q0:=(hb1'.cell (p:=⟨b,o+m*2,none⟩) hbr).trans C0;have q1:=(hb1'.cell (p:=⟨b,o+m*2+1,none⟩) hbr).trans C1;have P0:=zaa (J.o.below hb1');clear hb2 hb1'))
     | (refine zap rfl (.tmp 22) (.tmp 38) 32 rfl w.heap.size 84 (.agg #[.I 0,.I 0,.I 0]) 3 24 Tryz.underlying32 zbj rfl (by decide) _ _ _ rfl P1.o.l _ 2 _ rfl HRD.o (zcg _) (by simp[maxLen];omega) (by omega) hz1 ?_;intro vN wN hownN hgrN;have G:=zaa (P1.o.growL [⟨1,9+2*(m:Int),x⟩,⟨1,9+2*(m:Int)+1,y⟩] hownN hgrN);have s0:=(G.o.b.cell (p:=⟨b,o+m*2,none⟩) hbl).trans DW.o.1;have s1:=(G.o.b.cell (p:=⟨b,o+m*2+1,none⟩) hbl).trans DW.o.2;clear hownN hgrN))
   all_goals
    have hzG:=G.o.z;clear C0 C1 q0 q1 r0 r1 t0 t1 P0 PT P1 HRD J;have P2:=zaa (G.o.below (zR.alloc zL (.cells #[.I (9+2*(m:Int)),.I (9+2*(m:Int)+1)] 3)));have HR2:=zaa (ybbf wN (9+2*(m:Int)) (9+2*(m:Int)+1));have hz2:=P2.o.z;clear G;go_wp2_with (at_builtin;refine zae _ rfl (.tmp 40) (.tmp 44) 23 rfl w.heap.size 3 (.I 0) 1 8 Tryz.underlying23 zim rfl (by decide) _ _ _ rfl P2.o.p _ 2 _ rfl HR2.o (zeg _) (by simp[maxLen];omega) (by omega) hz2 ?_);intro vQ wQ hownQ hgrQ;have G2:=zaa (P2.o.growP [9+2*(m:Int),9+2*(m:Int)+1] hownQ hgrQ);rw[<- EM.o,<- EP.o]at G2;have hz3:=G2.o.z;clear hownQ hgrQ P2 HR2;go_wp2
    go_roundw
    case rel=>exact⟨m+1,by omega,by go_num,G2,hz3⟩
    case measure=>simp[intOf];omega
  ·obtain rfl:m=us.length:=by omega
   have PL:=zaa (yakb us us.length hn);have l1:=yade us us.length;have l2:=yamc us us.length
   have EE:=zaa (show zdc (zdt us)=jlM us us.length++zbb (jlP us us.length)++[⟨1,8,(us.length:Int)⟩]++zbb [8]++zis (zdt us) by
    rw[yadg,yayh,zdc,zbo,if_neg (by omega)];simp[seg,cnt,stM])
   have l3:=zbi (jlP us us.length);have l4:=zbi [8];have l9:=znj us;simp only[List.length_cons,List.length_nil]at l4;generalize jlM us us.length=A at *;generalize jlP us us.length=B at *;go_wp2_with fail;refine(zdw _ B _ (zad J.o.p).rd (by omega) PL.o).mono ?_;rintro e w1 ⟨v1,rfl,hr1,hb1⟩;have P1:=zaa (J.o.below hb1);have R1:=zaa hr1.rd;have hz1:=P1.o.z;clear hr1 hb1 J;go_wp2_with (at_builtin;refine zae _ rfl (.tmp 46) (.tmp 48) 32 rfl w.heap.size 84 (.agg #[.I 0,.I 0,.I 0]) 3 24 Tryz.underlying32 zbj rfl (by decide) _ _ _ rfl P1.o.l _ _ _ rfl R1.o (zcg _) (by simp[maxLen];omega) (by omega) hz1 ?_);intro v2 w2 hown2 hgr2;have P2:=zaa (P1.o.growL _ hown2 hgr2);have hz2:=P2.o.z
   have l5:(A++zbb B).length<=400:=by simp;omega
   generalize A++zbb B=C at *;clear hown2 hgr2 P1 R1;go_wp2_with fail;refine(zds _ _ _).mono ?_;rintro e w3 ⟨rfl,hb3⟩;have P3:=zaa ((P2.o.below hb3).below (zR.alloc zL (.cells #[.I 1,.I 8,.I (us.length:Int)] 84)));have R3:=zaa (zjc w3 1 8 (us.length:Int));have hz3:=P3.o.z;clear hb3 P2;go_wp2_with (at_builtin;refine zae _ rfl (.tmp 50) (.tmp 54) 32 rfl w.heap.size 84 (.agg #[.I 0,.I 0,.I 0]) 3 24 Tryz.underlying32 zbj rfl (by decide) _ _ _ rfl P3.o.l _ 1 _ rfl R3.o (zig _) (by simp[maxLen];omega) (by omega) hz3 ?_);intro v4 w4 hown4 hgr4;have P4:=zaa (P3.o.growL [⟨1,8,(us.length:Int)⟩] (by rw[zjr];exact hown4) hgr4)
   have l6:(C++[(⟨1,8,(us.length:Int)⟩:Mi)]).length<=401:=by simp;omega
   generalize C++[(⟨1,8,(us.length:Int)⟩:Mi)]=D at *;have P5:=zaa (P4.o.below (zR.alloc zL (.cells #[.I 8] 3)));have R5:=zaa (zkv w4 8);clear hown4 hgr4 P3 R3 P4;go_wp2_with fail;refine(zdw _ [8] _ R5.o (by simp) (by intro k h;simp at h;subst h;simp)).mono ?_;rintro e w6 ⟨v6,rfl,hr6,hb6⟩;have P6:=zaa (P5.o.below hb6);have R6:=zaa hr6.rd;have hz6:=P6.o.z;clear hr6 hb6 P5 R5;go_wp2_with (at_builtin;refine zae _ rfl (.tmp 56) (.tmp 58) 32 rfl w.heap.size 84 (.agg #[.I 0,.I 0,.I 0]) 3 24 Tryz.underlying32 zbj rfl (by decide) _ _ _ rfl P6.o.l _ _ _ rfl R6.o (zcg _) (by simp[maxLen];omega) (by omega) hz6 ?_);intro v7 w7 hown7 hgr7;have P7:=zaa (P6.o.growL _ hown7 hgr7)
   have l7:(D++zbb [8]).length<=403:=by simp;omega
   generalize D++zbb [8]=F at *;clear hown7 hgr7 P6 R6;go_wp2_with fail;refine(zyt _ us _ (Rd.below HR.o P7.o.b) hn Z0.o).mono ?_;rintro e w8 ⟨v8,rfl,hr8,hb8⟩;have P8:=zaa (P7.o.below hb8);have R8:=zaa hr8.rd;have hz8:=P8.o.z;clear hr8 hb8 P7;go_wp2_with (at_builtin;refine zae _ rfl (.tmp 60) (.tmp 62) 32 rfl w.heap.size 84 (.agg #[.I 0,.I 0,.I 0]) 3 24 Tryz.underlying32 zbj rfl (by decide) _ _ _ rfl P8.o.l _ _ _ rfl R8.o (zcg _) (by simp[maxLen];omega) (by omega) hz8 ?_);intro v9 w9 hown9 hgr9;have P9:=zaa (P8.o.growL _ hown9 hgr9);rw[<- EE.o]at P9;obtain⟨aL,cL,hvL⟩:=RdM.form (zad P9.o.l).rd rfl;subst hvL;clear hown9 hgr9 P8 R8;go_wp2;go_ret;exact⟨_,rfl,zad P9.o.l,P9.o.b⟩
theorem yahz(us:List Se)(h:us.length=0):zdc (zdt us)=[]:=by rw[zdc,zbo,if_pos h]
theorem ziq(us:List Se):(zdc (zdt us)).length<=6*us.length+8:=by
 have h1:=zbi ((jrn 0 (zdt us)).map (·.at_));have h2:=zbi ((cnt (us.length:Int)).map (·.at_));have h3:=znj us;simp only[List.length_map,zbo,zku]at h1;simp only[cnt,List.length_map,List.length_cons,List.length_nil]at h2;rw[zdc]
 split
 ·simp
 ·simp only[seg,cnt,List.length_append,List.length_map,zbo,zku,List.length_cons,List.length_nil]at *;omega
theorem zqv(v:Value)(us:List Se)(w:World)(h:RdE w v us)(hn:us.length<=64)(hz0:∀ k (h:k<us.length),0<=us[k].at_/\us[k].at_<336) :
  zC 72 #[v] w fun e w'=>∃ v',e=.returned v'/\Row w' 84 3 w.heap.size w'.heap.size v' (zdc (zdt us)).length (mis (zdc (zdt us)))/\zB w w':=by
 by_cases h0:0<us.length
 ·exact zxr v us w h hn h0 hz0
 ·have RE:=zaa (And.intro (zst w 84 3) ((Below.refl w.heap.size w).alloc zL (.cells #[] 84)));obtain⟨aZ,cZ,rfl,_,hcZ⟩:=h.shape;rw[yahz us (by omega)]
  have e0:us.length=0:=by omega
  clear h hcZ hz0;rw[e0]at *;clear e0;go_enter Tryz.func72,Tryz.ntmps72;go_wp2;go_ret;exact⟨_,rfl,RE.o.1,RE.o.2⟩
def jpC(us:List Se):Int:=if 4096<us.length then 2 else if 16<us.length then 6 else if upsB us=true then 0 else 1
def jpL(us:List Se):List Mi:=if jpC us=0 then zdc (zdt us) else[]
theorem zwn(us:List Se):(4096<us.length/\jpC us=2/\jpL us=[])\/(¬ 4096<us.length/\16<us.length/\jpC us=6/\jpL us=[])\/(¬ 4096<us.length/\¬ 16<us.length/\upsB us=false/\jpC us=1/\jpL us=[])\/(¬ 4096<us.length/\¬ 16<us.length/\upsB us=true/\jpC us=0/\jpL us=zdc (zdt us)):=by
 by_cases c1:4096<us.length
 ·have e:jpC us=2:=by unfold jpC;rw[if_pos c1]
  exact .inl ⟨c1,e,by unfold jpL;rw[e];rfl⟩
 ·by_cases c2:16<us.length
  ·have e:jpC us=6:=by unfold jpC;rw[if_neg c1,if_pos c2]
   exact .inr (.inl ⟨c1,c2,e,by unfold jpL;rw[e];rfl⟩)
  ·by_cases c3:upsB us=true
   ·have e:jpC us=0:=by unfold jpC;rw[if_neg c1,if_neg c2,if_pos c3]
    exact .inr (.inr (.inr ⟨c1,c2,c3,e,by unfold jpL;rw[e];rfl⟩))
   ·have c3':upsB us=false:=by simpa using c3
    have e:jpC us=1:=by unfold jpC;rw[if_neg c1,if_neg c2,c3'];rfl
    exact .inr (.inr (.inl ⟨c1,c2,c3',e,by unfold jpL;rw[e];rfl⟩))
theorem yawv(us:List Se):(jpL us).length<=16777216:=by
 rcases zwn us with ⟨_,_,e⟩ | ⟨_,_,_,e⟩ | ⟨_,_,_,_,e⟩ | ⟨_,_,_,_,e⟩
 ·rw[e];simp
 ·rw[e];simp
 ·rw[e];simp
 ·rw[e];have:=ziq us;omega
end Go.Proofs.YtdiaiejmoocpmaaGreatDoor
