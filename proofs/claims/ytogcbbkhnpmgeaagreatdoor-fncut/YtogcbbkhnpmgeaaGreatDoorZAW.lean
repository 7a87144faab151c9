import Derived.Test.YtogcbbkhnpmgeaaGreatDoorZAV
set_option maxRecDepth 100000
set_option maxHeartbeats 4000000
namespace Go.Proofs.YtogcbbkhnpmgeaaGreatDoor
open Go.RowKit
theorem yaap(l:List Mi)(m:Mi):mis (l++[m])=mis l++m.cells:=by simp[mis]
theorem zqr(l l':List Mi):mis (l++l')=mis l++mis l':=by simp[mis]
theorem zit(m:Mi):∀ u∈m.cells,u.oneCell'=true:=by
 intro u hu;simp[Mi.cells]at hu
 rcases hu with rfl|rfl|rfl<;>rfl
theorem zcv(l:List Mi):∀ u∈mis l,u.oneCell'=true:=by
 intro u hu;simp only[mis,List.mem_flatMap]at hu;obtain⟨m,_,hm⟩:=hu;exact zit m u hm
theorem zqj(w1:World)(k a x:Int):Rd (w1.alloc (.cells #[.I k,.I a,.I x] 82)) 3 (.slice (some ⟨w1.heap.size,0,none⟩) 1 1) 1 (Mi.cells ⟨k,a,x⟩):=by
 refine⟨rfl,_,_,rfl,⟨Nat.le_refl _,fun e=>by cases e⟩,fun _=>⟨w1.heap.size,0,rfl,by simp,fun j hj=>?_⟩⟩;obtain⟨e0,e1,e2⟩:=zba (zah (w:=w1) (o:=.cells #[.I k,.I a,.I x] 82) rfl);rw[Nat.zero_add]
 rcases(show j=0\/j=1\/j=2 from by omega)with rfl|rfl|rfl
 ·exact e0
 ·exact e1
 ·exact e2
theorem RdM.form{w:World}{v:Value}{ps:List Mi}(h:RdM w v ps){n:Nat}(hn:ps.length=n):∃ ao cap,v=.slice ao n cap:=by
 obtain⟨ao,cap,e,_⟩:=h.shape;exact⟨ao,cap,hn ▸ e⟩
theorem yach{w:World}{base:Nat}{e:TypeId}{size:Nat}{v:Value}{n:Nat}{xs:List Value}(h:w.ownsRow base e size v n xs)(k:Nat):(w.drewN k).ownsRow base e size v n xs:=by
 induction k with
 | zero=>exact h
 | succ k ih=>exact ih
theorem zwr{B:Nat}{a w:World}(h:Below B a w)(n:Nat):Below B a (w.drewN n):=by
 induction n with
 | zero=>exact h
 | succ n ih=>exact⟨ih.os,ih.tape,ih.output,ih.size,ih.block⟩
theorem yacm(w:World)(n:Nat):(w.drewN n).heap.size=w.heap.size:=by
 induction n with
 | zero=>rfl
 | succ n ih=>exact ih
def zjl(ks:List Int)(i k:Nat):Bool:=(List.range k).any (fun j=>ks[j]?.getD 0/8 == ks[i]?.getD 0/8)
theorem zxw(ks:List Int)(i k:Nat):zjl ks i (k+1)=(zjl ks i k||(ks[k]?.getD 0/8 == ks[i]?.getD 0/8)):=by
 unfold zjl;rw[List.range_succ,List.any_append];simp
theorem yahw(ks:List Int):∀ i,(nl ks i).length<=i
 | 0=>Nat.le_refl _
 | i+1=>by
  rw[nl]
  split
  ·have:=yahw ks i;omega
  ·have:=yahw ks i;simp;omega
theorem zcu(v:Value)(zs:List Int)(w:World)(h:RdI w v zs)(hn:zs.length<=4096)(hz0:∀ k (h:k<zs.length),0<=zs[k]/\zs[k]<336) :
  zC 143 #[v] w fun e w'=>∃ v',e=.returned v'/\Row w' 82 3 w.heap.size w'.heap.size v' (zbf zs).length (mis (zbf zs))/\zB w w':=by
 obtain⟨aZ,cZ,rfl,_,hcZ⟩:=h.shape;have HZ:=zaa hcZ;have Z0:=zaa hz0;clear h hcZ hz0
 have ho:(w.alloc (.cells #[] 82)).ownsRow w.heap.size 82 3 (.slice (some ⟨w.heap.size,0,none⟩) 0 0) 0 []:=by
  simpa using World.ownsRow_lit (base:=w.heap.size) (e:=82) (size:=3) w #[] 0 (by simp) (by simp) rfl
 have START:=zaa (And.intro ho ((Below.refl w.heap.size w).alloc zL (.cells #[] 82)));clear ho;go_enter Tryz.func143,Tryz.ntmps143;go_wp2
 go_loopw [3,4,5,6] (fun vL i _ _ wr=>∃ m:Nat,m<=zs.length/\i=.I m/\Hid (wr.ownsRow w.heap.size 82 3 vL (nl zs m).length (mis (nl zs m))/\zB w wr)/\w.heap.size<=wr.heap.size) (fun _ i _ _ _=>zs.length-(intOf i).toNat)
 case atStart=>exact⟨0,by omega,rfl,⟨by simpa[nl,mis]using START.o.1,START.o.2⟩,by simp⟩
 case round =>
  obtain⟨m,hm,rfl,I,hz⟩:=hrel
  by_cases hlt:m<zs.length
  ·obtain⟨b,o,rfl,hbl,hcell⟩:=HZ.o (by omega);have CELL:=zaa hcell;clear hcell
   have m0:(0:Int)<=(m:Int):=by omega
   have m1:(m:Int)<(zs.length:Int):=by omega
   go_wp2
   go_loopw [5,6] (fun f kk wr2=>∃ k:Nat,k<=m/\kk=.I k/\f=.bool (zjl zs m k)/\Hid (wr2.ownsRow w.heap.size 82 3 u3 (nl zs m).length (mis (nl zs m))/\zB w wr2)/\w.heap.size<=wr2.heap.size) (fun _ kk _=>m-(intOf kk).toNat)
   case atStart=>exact⟨0,by omega,rfl,rfl,I,hz⟩
   case round =>
    obtain⟨k,hk,rfl,rfl,J,hz2⟩:=hrel
    by_cases hlk:k<m
    ·have k0:(0:Int)<=(k:Int):=by omega
     have k1:(k:Int)<(m:Int):=by omega
     have k2:(k:Int)<(zs.length:Int):=by omega
     have hkz:k<zs.length:=by omega
     have d0:=(J.o.2.cell (p:=⟨b,o+k,none⟩) hbl).trans (CELL.o k hkz);have d1:=(J.o.2.cell (p:=⟨b,o+m,none⟩) hbl).trans (CELL.o m hlt);have p0:=Z0.o k hkz;have p1:=Z0.o m hlt;have SU:=zaa (show zjl zs m (k+1)=(zjl zs m k||(zs[k]/8 == zs[m]/8)) by rw[zxw,List.getElem?_eq_getElem hkz,List.getElem?_eq_getElem hlt];rfl);generalize zs[k]=x at *;generalize zs[m]=y at *;generalize zjl zs m k=fb at *
     rcases(show fb=true\/(fb=false/\(x/8 == y/8)=true)\/(fb=false/\(x/8 == y/8)=false) by cases fb<;>cases (x/8 == y/8)<;>simp)with rfl | ⟨rfl,q⟩ | ⟨rfl,q⟩
     all_goals
      go_wp2
      go_quiet (fail)
      go_wp2
      go_roundw
      case rel=>exact⟨k+1,by omega,by go_num,by rw[SU.o];first | rfl | (rw[q];rfl),⟨yach J.o.1 _,zwr J.o.2 _⟩,by rw[yacm];exact hz2⟩
      case measure=>simp[intOf];omega
    ·obtain rfl:k=m:=by omega
     by_cases c:zjl zs k k=true
     ·have E:=zaa (show nl zs (k+1)=nl zs k by rw[nl];exact if_pos c);rw[c];clear c;go_wp2
      go_roundw
      case rel=>exact⟨k+1,by omega,by go_num,by rw[E.o];exact J,hz2⟩
      case measure=>simp[intOf];omega
     ·have c':zjl zs k k=false:=by simpa using c
      have d1:=(J.o.2.cell (p:=⟨b,o+k,none⟩) hbl).trans (CELL.o k hlt)
      have E:=zaa (show nl zs (k+1)=nl zs k++[⟨2,zs[k],0⟩] by
       rw[nl]
       have:¬ yafb zs k=true:=fun x=>c x
       rw[if_neg this,List.getElem?_eq_getElem hlt]
       rfl)
      rw[c'];clear c c';generalize zs[k]=y at *;have O2:=zaa (J.o.1.alloc (.cells #[.I 2,.I y,.I 0] 82));have HRD:=zaa (zqj wr 2 y 0);have hle:=yahw zs k;go_wp2_with (at_builtin;refine zae _ rfl (.tmp 35) (.tmp 41) 32 rfl w.heap.size 82 (.agg #[.I 0,.I 0,.I 0]) 3 24 Tryz.underlying32 zbx rfl (by decide) _ _ _ rfl O2.o _ 1 _ rfl HRD.o (zit _) (by simp[maxLen];omega) (by omega) (by simp;omega) ?_);intro vN wN hownN hgrN
      have hl:=fun q hq=>(O2.o.lt q hq).1
      have hzN:=hgrN.size;simp only[World.size_alloc]at hzN
      have G:Hid (wN.ownsRow w.heap.size 82 3 vN (nl zs (k+1)).length (mis (nl zs (k+1)))/\zB w wN):=by
       refine⟨?_,(J.o.2.alloc (by omega) (.cells #[.I 2,.I y,.I 0] 82)).grown hgrN (by simp;omega) (fun q hq=>hl q hq)⟩;rw[E.o,yaap,List.length_append];exact hownN
      clear hownN hgrN hl;go_wp2
      go_roundw
      case rel=>exact⟨k+1,by omega,by go_num,G,by omega⟩
      case measure=>simp[intOf];omega
  ·obtain rfl:m=zs.length:=by omega
   have E:=zaa (show zbf zs=nl zs zs.length++[⟨3,0,0⟩]from rfl);have O2:=zaa (I.o.1.alloc (.cells #[.I 3,.I 0,.I 0] 82));have HRD:=zaa (zqj wr 3 0 0);have hle:=yahw zs zs.length;go_wp2_with (at_builtin;refine zae _ rfl (.tmp 43) (.tmp 45) 32 rfl w.heap.size 82 (.agg #[.I 0,.I 0,.I 0]) 3 24 Tryz.underlying32 zbx rfl (by decide) _ _ _ rfl O2.o _ 1 _ rfl HRD.o (zit _) (by simp[maxLen];omega) (by omega) (by simp;omega) ?_);intro vN wN hownN hgrN
   have hl:=fun q hq=>(O2.o.lt q hq).1
   have G:Hid (wN.ownsRow w.heap.size 82 3 vN (zbf zs).length (mis (zbf zs))/\zB w wN):=by
    refine⟨?_,(I.o.2.alloc (by omega) (.cells #[.I 3,.I 0,.I 0] 82)).grown hgrN (by simp;omega) (fun q hq=>hl q hq)⟩;rw[E.o,yaap,List.length_append];exact hownN
   clear hownN hgrN hl;obtain⟨aL,cL,hvL⟩:=RdM.form (zad G.o.1).rd rfl;subst hvL;go_wp2;go_ret;exact⟨_,rfl,zad G.o.1,G.o.2⟩
theorem zbv(zs:List Int):(zbf zs).length<=zs.length+1:=by
 unfold zbf;have:=yahw zs zs.length;simp;omega
theorem zne(w:World)(t:TypeId)(size:Nat):Row (w.alloc (.cells #[] t)) t size w.heap.size (w.alloc (.cells #[] t)).heap.size (.slice (some ⟨w.heap.size,0,none⟩) 0 0) 0 [] :=
 zad (by simpa using World.ownsRow_lit (base:=w.heap.size) (e:=t) (size:=size) w #[] 0 (by simp) (by simp) (by simp))
theorem zct(a x:Int)(w:World):zC 142 #[.I a,.I x] w fun e w'=>e=.returned (.agg #[.I 1,.I a,.I x])/\zB w w':=by
 go_enter Tryz.func142,Tryz.ntmps142;go_wp2;refine bodyPost_ret (v:=.agg #[.I 1,.I a,.I x]) (by simp[results,Tryz.results142,go_sem]) rfl ⟨rfl,?_⟩
 repeat (refine Below.alloc ?_ (by simp<;>omega) _)
 exact zR
def upsB(us:List Se):Bool:=decide (∀ k (h:k<us.length),(48<=us[k].at_/\us[k].at_<336)/\0<=us[k].val/\us[k].val<1099511627776)
def zdw(us:List Se):List St:=us.map (fun s=>up s.at_ s.val)
theorem zcf(us:List Se):(zdw us).length=us.length:=by simp[zdw]
theorem zrj(us:List Se)(k:Nat)(h:k<us.length):(zdw us)[k]?=some (up us[k].at_ us[k].val):=by simp[zdw,h]
def apM(us:List Se)(m:Nat):List Mi:=((zdw us).take m).map stM
def apP(us:List Se)(m:Nat):List Int:=((zdw us).take m).map (·.at_)
theorem yaea(us:List Se)(m:Nat):(apM us m).length<=m:=by simp[apM];omega
theorem yaev(us:List Se)(m:Nat):(apP us m).length<=m:=by simp[apP];omega
theorem zke{α:Type}(l:List α)(m:Nat)(x:α)(h:l[m]?=some x):l.take (m+1)=l.take m++[x]:=by
 rw[List.take_add_one,h];rfl
theorem yaoj(us:List Se)(m:Nat)(h:m<us.length):apM us (m+1)=apM us m++[⟨1,us[m].at_,us[m].val⟩]:=by
 unfold apM;rw[zke _ _ _ (zrj us m h),List.map_append];rfl
theorem yakw(us:List Se)(m:Nat)(h:m<us.length):apP us (m+1)=apP us m++[us[m].at_]:=by
 unfold apP;rw[zke _ _ _ (zrj us m h),List.map_append];rfl
theorem yaqk(us:List Se):apM us us.length=(zdw us).map stM:=by unfold apM;rw[List.take_of_length_le (by rw[zcf];omega)]
theorem yarl(us:List Se):apP us us.length=(zdw us).map (·.at_):=by unfold apP;rw[List.take_of_length_le (by rw[zcf];omega)]
theorem yafj(us:List Se)(m:Nat)(hz:∀ k (h:k<us.length),0<=us[k].at_/\us[k].at_<336):∀ k (h:k<(apP us m).length),0<=(apP us m)[k]/\(apP us m)[k]<336:=by
 intro k h;have h':=h;simp only[apP,List.length_map,List.length_take,zcf]at h';have:=hz k (by omega);simpa[apP,zdw,up]using this
structure PlI(w0 w:World)(vL vP:Value)(ls:List Mi)(ps:List Int):Prop where
 l:w.ownsRow w0.heap.size 82 3 vL ls.length (mis ls)
 p:w.ownsRow w0.heap.size 3 1 vP ps.length (zdb ps)
 b:zB w0 w
 z:w0.heap.size<=w.heap.size
theorem yauk:(3:Nat)≠82:=by decide
theorem PlI.below{w0 w w':World}{vL vP:Value}{ls:List Mi}{ps:List Int}(h:PlI w0 w vL vP ls ps)(hb:zB w w'):PlI w0 w' vL vP ls ps :=
 ⟨((zad h.l).below hb zL).1,((zad h.p).below hb zL).1,zab h.b hb h.z,Nat.le_trans h.z hb.size⟩
theorem PlI.growL{w0 w w':World}{vL vP v':Value}{ls:List Mi}{ps:List Int}(h:PlI w0 w vL vP ls ps)(ms:List Mi)(ho:w'.ownsRow w0.heap.size 82 3 v' (ls.length+ms.length) (mis ls++mis ms))(hg:w.grownBy w' vL.ownBlock):PlI w0 w' v' vP (ls++ms) ps :=
 ⟨by rw[zqr,List.length_append];exact ho,(Row.apart (zad h.p) (zad h.l) yauk hg).1,h.b.grown hg h.z (fun q hq=>(h.l.lt q hq).1),Nat.le_trans h.z hg.size⟩
theorem PlI.growP{w0 w w':World}{vL vP v':Value}{ls:List Mi}{ps:List Int}(h:PlI w0 w vL vP ls ps)(ks:List Int)(ho:w'.ownsRow w0.heap.size 3 1 v' (ps.length+ks.length) (zdb ps++zdb ks))(hg:w.grownBy w' vP.ownBlock):PlI w0 w' vL v' ls (ps++ks) :=
 ⟨(Row.apart (zad h.l) (zad h.p) (Ne.symm yauk) hg).1,by rw[List.length_append,show zdb (ps++ks)=zdb ps++zdb ks by simp[zdb]];exact ho,h.b.grown hg h.z (fun q hq=>(h.p.lt q hq).1),Nat.le_trans h.z hg.size⟩
theorem zdr{w w':World}(h:Below w.drew.heap.size w.drew w'):zB w w':=zab ((Below.refl w.heap.size w).drew) h zL
theorem zks(w1:World)(x:Int):RdI (w1.alloc (.cells #[.I x] 3)) (.slice (some ⟨w1.heap.size,0,none⟩) 1 1) [x]:=by
 refine⟨rfl,_,_,rfl,⟨Nat.le_refl _,fun e=>by cases e⟩,fun _=>⟨w1.heap.size,0,rfl,by simp,fun j hj=>?_⟩⟩
 obtain rfl:j=0:=by simp at hj;omega
 have e:=zah (w:=w1) (o:=.cells #[.I x] 3) rfl;unfold World.cell?;simp only[e];rfl
theorem zlz(m:Mi):mis [m]=m.cells:=by simp[mis]
theorem zvx(v:Value)(us:List Se)(w:World)(h:RdE w v us)(hn:us.length<=64)(hz0:∀ k (h:k<us.length),0<=us[k].at_/\us[k].at_<336) :
  zC 152 #[v] w fun e w'=>∃ v',e=.returned v'/\Row w' 82 3 w.heap.size w'.heap.size v' (zid (zdw us)).length (mis (zid (zdw us)))/\zB w w':=by
 obtain⟨aZ,cZ,rfl,_,hcZ⟩:=h.shape;have HZ:=zaa hcZ;have Z0:=zaa hz0;clear h hcZ hz0
 have START:Hid (PlI w ((w.alloc (.cells #[] 82)).alloc (.cells #[] 3)) (.slice (some ⟨w.heap.size,0,none⟩) 0 0) (.slice (some ⟨w.heap.size+1,0,none⟩) 0 0) [] []):=by
  refine⟨?_,?_,((Below.refl w.heap.size w).alloc zL _).alloc (by simp) _,by simp<;>omega⟩
  ·exact((zne w 82 3).alloc zL _).1
  ·simpa[zdb]using World.ownsRow_lit (base:=w.heap.size) (e:=3) (size:=1) (w.alloc (.cells #[] 82)) #[] 0 (by simp) (by simp) (by simp)
 go_enter Tryz.func152,Tryz.ntmps152;go_wp2
 go_loopw [3,4,5] (fun vL vP i wr=>∃ m:Nat,m<=us.length/\i=.I m/\Hid (PlI w wr vL vP (apM us m) (apP us m))/\w.heap.size<=wr.heap.size) (fun _ _ i _=>us.length-(intOf i).toNat)
 case atStart=>exact⟨0,by omega,rfl,by simpa[apM,apP]using START,by simp<;>omega⟩
 case round =>
  obtain⟨m,hm,rfl,J,hz⟩:=hrel
  by_cases hlt:m<us.length
  ·obtain⟨b,o,rfl,hbl,hcell⟩:=HZ.o (by omega);have C0:=(J.o.b.cell (p:=⟨b,o+m*2,none⟩) hbl).trans (hcell m hlt).1;have C1:=(J.o.b.cell (p:=⟨b,o+m*2+1,none⟩) hbl).trans (hcell m hlt).2;have EM:=zaa (yaoj us m hlt);have EP:=zaa (yakw us m hlt);have l1:=yaea us m;have l2:=yaev us m
   have hbr:b<wr.heap.size:=by omega
   have DW:=zaa (hcell m hlt);clear hcell
   have m0:(0:Int)<=(m:Int):=by omega
   have m1:(m:Int)<(us.length:Int):=by omega
   generalize us[m].at_=x at *;generalize us[m].val=y at *;go_wp2_with fail
   go_region_held3 (fun w'=>w'.cell? ⟨b,o+m*2,none⟩=some (.I x)/\w'.cell? ⟨b,o+m*2+1,none⟩=some (.I y)) (first | exact⟨C0,C1⟩ | exact⟨s0,s1⟩ | exact⟨r0,r1⟩ | exact⟨q0,q1⟩)
    (first
     | (go_at_call 142;refine(zct _ _ _).mono ?_;rintro e w1 ⟨rfl,hb1⟩;have hb1':=zdr hb1;have q0:=(hb1'.cell (p:=⟨b,o+m*2,none⟩) hbr).trans C0;have q1:=(hb1'.cell (p:=⟨b,o+m*2+1,none⟩) hbr).trans C1;have P1:=zaa ((J.o.below hb1').below (zR.alloc zL (.cells #[.I 1,.I x,.I y] 82)));have HRD:=zaa (zqj w1 1 x y);have r0:=(P1.o.b.cell (p:=⟨b,o+m*2,none⟩) hbl).trans DW.o.1;have r1:=(P1.o.b.cell (p:=⟨b,o+m*2+1,none⟩) hbl).trans DW.o.2;have hz1:=P1.o.z;clear hb1 hb1')
     | (refine zan rfl (.tmp 14) (.tmp 26) 32 rfl w.heap.size 82 (.agg #[.I 0,.I 0,.I 0]) 3 24 Tryz.underlying32 zbx rfl (by decide) _ _ _ rfl P1.o.l _ 1 _ rfl HRD.o (zit _) (by simp[maxLen];omega) (by omega) hz1 ?_;intro vN wN hownN hgrN;have G:=zaa (P1.o.growL [⟨1,x,y⟩] (by rw[zlz];exact hownN) hgrN);have s0:=(G.o.b.cell (p:=⟨b,o+m*2,none⟩) hbl).trans DW.o.1;have s1:=(G.o.b.cell (p:=⟨b,o+m*2+1,none⟩) hbl).trans DW.o.2;clear hownN hgrN))
   all_goals
    have hzG:=G.o.z;clear C0 C1 q0 q1 r0 r1 P1 HRD J;have P2:=zaa (G.o.below (zR.alloc zL (.cells #[.I x] 3)));have HR2:=zaa (zks wN x);have hz2:=P2.o.z;clear G;go_wp2_with (at_builtin;refine zae _ rfl (.tmp 28) (.tmp 34) 23 rfl w.heap.size 3 (.I 0) 1 8 Tryz.underlying23 zjs rfl (by decide) _ _ _ rfl P2.o.p _ 1 _ rfl HR2.o (zfo _) (by simp[maxLen];omega) (by omega) hz2 ?_);intro vQ wQ hownQ hgrQ;have G2:=zaa (P2.o.growP [x] hownQ hgrQ);rw[<- EM.o,<- EP.o]at G2;have hz3:=G2.o.z;clear hownQ hgrQ P2 HR2;go_wp2
    go_roundw
    case rel=>exact⟨m+1,by omega,by go_num,G2,hz3⟩
    case measure=>simp[intOf];omega
  ·obtain rfl:m=us.length:=by omega
   have PL:=zaa (yafj us us.length Z0.o);have l1:=yaea us us.length;have l2:=yaev us us.length
   have EE:=zaa (show zid (zdw us)=apM us us.length++zbf (apP us us.length)++[⟨1,8,0⟩]++zbf [8] by
    rw[yaqk,yarl];simp[zid,seg,cnt,stM])
   have l3:=zbv (apP us us.length);have l4:=zbv [8];simp only[List.length_cons,List.length_nil]at l4;generalize apM us us.length=A at *;generalize apP us us.length=B at *;go_wp2_with fail;refine(zcu _ B _ (zad J.o.p).rd (by omega) PL.o).mono ?_;rintro e w1 ⟨v1,rfl,hr1,hb1⟩;have P1:=zaa (J.o.below hb1);have R1:=zaa hr1.rd;have hz1:=P1.o.z;clear hr1 hb1 J;go_wp2_with (at_builtin;refine zae _ rfl (.tmp 36) (.tmp 38) 32 rfl w.heap.size 82 (.agg #[.I 0,.I 0,.I 0]) 3 24 Tryz.underlying32 zbx rfl (by decide) _ _ _ rfl P1.o.l _ _ _ rfl R1.o (zcv _) (by simp[maxLen];omega) (by omega) hz1 ?_);intro v2 w2 hown2 hgr2;have P2:=zaa (P1.o.growL _ hown2 hgr2);have hz2:=P2.o.z
   have l5:(A++zbf B).length<=200:=by simp;omega
   generalize A++zbf B=C at *;clear hown2 hgr2 P1 R1;go_wp2_with fail;refine(zct _ _ _).mono ?_;rintro e w3 ⟨rfl,hb3⟩;have P3:=zaa ((P2.o.below hb3).below (zR.alloc zL (.cells #[.I 1,.I 8,.I 0] 82)));have R3:=zaa (zqj w3 1 8 0);have hz3:=P3.o.z;clear hb3 P2;go_wp2_with (at_builtin;refine zae _ rfl (.tmp 40) (.tmp 42) 32 rfl w.heap.size 82 (.agg #[.I 0,.I 0,.I 0]) 3 24 Tryz.underlying32 zbx rfl (by decide) _ _ _ rfl P3.o.l _ 1 _ rfl R3.o (zit _) (by simp[maxLen];omega) (by omega) hz3 ?_);intro v4 w4 hown4 hgr4;have P4:=zaa (P3.o.growL [⟨1,8,0⟩] (by rw[zlz];exact hown4) hgr4)
   have l6:(C++[(⟨1,8,0⟩:Mi)]).length<=201:=by simp;omega
   generalize C++[(⟨1,8,0⟩:Mi)]=D at *;have P5:=zaa (P4.o.below (zR.alloc zL (.cells #[.I 8] 3)));have R5:=zaa (zks w4 8);clear hown4 hgr4 P3 R3 P4;go_wp2_with fail;refine(zcu _ [8] _ R5.o (by simp) (by intro k h;simp at h;subst h;simp)).mono ?_;rintro e w6 ⟨v6,rfl,hr6,hb6⟩;have P6:=zaa (P5.o.below hb6);have R6:=zaa hr6.rd;have hz6:=P6.o.z;clear hr6 hb6 P5 R5;go_wp2_with (at_builtin;refine zae _ rfl (.tmp 44) (.tmp 46) 32 rfl w.heap.size 82 (.agg #[.I 0,.I 0,.I 0]) 3 24 Tryz.underlying32 zbx rfl (by decide) _ _ _ rfl P6.o.l _ _ _ rfl R6.o (zcv _) (by simp[maxLen];omega) (by omega) hz6 ?_);intro v7 w7 hown7 hgr7;have P7:=zaa (P6.o.growL _ hown7 hgr7);rw[<- EE.o]at P7;obtain⟨aL,cL,hvL⟩:=RdM.form (zad P7.o.l).rd rfl;subst hvL;clear hown7 hgr7 P6 R6;go_wp2;go_ret;exact⟨_,rfl,zad P7.o.l,P7.o.b⟩
theorem zqv{ls ls':List Int}{ws:List Ino}{ps:List Den}(h:Wi ls ws ps)(hl:ls'.length=336)(ag:∀ z:Int,z=0\/(48<=z/\z<312)->wdI ls' z=wdI ls z):Wi ls' ws ps:=by
 refine⟨hl,?_,?_,?_,?_,h.img⟩
 ·rw[ag 0 (.inl rfl)];exact h.mark
 ·have g:=h.good;unfold zci at g ⊢;rw[List.all_eq_true]at g ⊢;intro k hk;have q:=g k hk;have:=List.mem_range.1 hk;unfold zbo at q ⊢;rw[ag _ (.inr (by omega)),ag _ (.inr (by omega)),ag _ (.inr (by omega))];exact q
 ·rw[<- h.inos];unfold zbb;apply List.map_congr_left;intro i hi;have:=List.mem_range.1 hi;unfold zdj;rw[ag _ (.inr (by omega)),ag _ (.inr (by omega)),ag _ (.inr (by omega)),ag _ (.inr (by omega)),ag _ (.inr (by omega)),ag _ (.inr (by omega)),ag _ (.inr (by omega)),ag _ (.inr (by omega)),ag _ (.inr (by omega)),ag _ (.inr (by omega)),ag _ (.inr (by omega))]
 ·rw[<- h.dens];unfold zbc;apply List.map_congr_left;intro i hi;have:=List.mem_range.1 hi;unfold zfe;rw[ag _ (.inr (by omega)),ag _ (.inr (by omega)),ag _ (.inr (by omega))]
theorem yasm(us:List Se):∀ ls:List Int,zbz ls (zdw us)=zbu ls us:=by
 induction us with
 | nil=>intro ls;rfl
 | cons u us ih=>intro ls;exact ih _
theorem zwx{z:Int}(hz:0<=z):∀ (S:List St) (ls:List Int),(∀ p∈S,0<=p.at_/\p.at_<(ls.length:Int)/\¬ p.at_=z)->wdI (zbz ls S) z=wdI ls z:=by
 intro S
 induction S with
 | nil=>intro ls _;rfl
 | cons p S ih =>
  intro ls h
  show wdI (zbz (ls.set p.at_.toNat p.val) S) z=_
  rw[ih _ (fun q hq=>by rw[List.length_set];exact h q (List.mem_cons_of_mem _ hq))];obtain⟨a,b,c⟩:=h p (List.mem_cons_self ..);rw[zdy a b hz,if_neg (fun e=>c e.symm)]
def zoa(ls:List Int)(us:List Se):List Int:=if us.length=0 then ls else zbz (zbz (zbz (zbz ls (jrn 0 (zdw us))) (cnt (us.length:Int))) (zdw us)) (cnt 0)
theorem zue(ls:List Int)(us:List Se):zna (ls,[]) (zds (zdw us))=(zoa ls us,[]):=by
 unfold zds zoa zid;rw[zcf]
 by_cases h:us.length=0
 ·rw[if_pos h,if_pos h];rfl
 ·rw[if_neg h,if_neg h,zdg,zdg,zdg,ziv,ziv,ziv,ziv]
theorem yajo(ls:List Int)(us:List Se):(zoa ls us).length=ls.length:=by
 unfold zoa
 split
 ·rfl
 ·rw[zcg,zcg,zcg,zcg]
theorem yans{ls:List Int}{us:List Se}(hl:ls.length=336)(h16:us.length<=16)(ui:UpIn us){z:Int}(hz:z=0\/(48<=z/\z<336)):wdI (zoa ls us) z=wdI (zbu ls us) z:=by
 have hz0:0<=z:=by omega
 unfold zoa
 by_cases h:us.length=0
 ·rw[if_pos h,List.eq_nil_of_length_eq_zero h];rfl
 ·rw[if_neg h,zwx hz0 (cnt 0) _ (fun p hp=>by
   rw[List.mem_singleton.1 hp,zcg,zcg,zcg,hl]
   exact⟨by show(0:Int)<=8;omega,by show(8:Int)<336;omega,by show ¬ (8:Int)=z;omega⟩),yasm]
  have same:∀ (us:List Se) (a b:List Int),a.length=336->b.length=336->UpIn us->wdI a z=wdI b z->wdI (zbu a us) z=wdI (zbu b us) z:=by
   intro us
   induction us with
   | nil=>intro a b _ _ _ e;exact e
   | cons u us ih =>
    intro a b ha hb ui e;have q:=ui u (List.mem_cons_self ..);refine ih _ _ (by rw[List.length_set];exact ha) (by rw[List.length_set];exact hb) (fun v hv=>ui v (List.mem_cons_of_mem _ hv)) ?_;rw[zdy (by omega) (by omega) hz0,zdy (by omega) (by omega) hz0,e]
  refine same us _ _ (by rw[zcg,zcg];exact hl) hl ui ?_
  rw[zwx hz0 (cnt (us.length:Int)) _ (fun p hp=>by
   rw[List.mem_singleton.1 hp,zcg,hl]
   exact⟨by show(0:Int)<=8;omega,by show(8:Int)<336;omega,by show ¬ (8:Int)=z;omega⟩)]
  rw[zwx hz0 (jrn 0 (zdw us)) _ (fun p hp=>by
   have:=yahc (zdw us) 0 p hp;rw[zcf]at this;rw[hl]
   exact⟨by omega,by omega,by omega⟩)]
theorem zor{ls:List Int}{us:List Se}(hl:ls.length=336)(c:wdI ls 8=0):wdI (zoa ls us) 8=0:=by
 unfold zoa
 by_cases h:us.length=0
 ·rw[if_pos h];exact c
 ·rw[if_neg h]
  show wdI ((zbz (zbz (zbz ls (jrn 0 (zdw us))) (cnt (us.length:Int))) (zdw us)).set (8:Int).toNat 0) 8=0
  rw[zdy (by omega) (by rw[zcg,zcg,zcg,hl];omega) (by omega),if_pos rfl]
theorem yagn{ls:List Int}{us:List Se}{ws:List Ino}{ps:List Den}(hl:ls.length=336)(h16:us.length<=16)(ui:UpIn us)(h:Wi (zbu ls us) ws ps):Wi (zoa ls us) ws ps :=
 zqv h (by rw[yajo];exact hl) (fun z hz=>yans hl h16 ui (by omega))
def ldW(ws:List Int)(ps:List St)(k:Nat):Int:=zjb (k:Int) (ws[k]?.getD 0) ps
theorem yatg{ws:List Int}{ps:List St}{k:Nat}(h:k<ws.length):ldW ws ps k=zjb (k:Int) ws[k] ps:=by unfold ldW;simp[h]
def RdBlk(w:World)(v:Value)(ws:List Int)(ps:List Se):Prop:=∃ vW vP,v=.agg #[vW,vP]/\RdI w vW ws/\RdE w vP ps
def RowZ(w:World)(lo hi:Nat)(v:Value)(n:Nat)(xs:List Value):Prop:=∃ e,e≠160/\Row w e 1 lo hi v n xs
theorem RowZ.rd{w:World}{lo hi:Nat}{v:Value}{n:Nat}{xs:List Value}(h:RowZ w lo hi v n xs):Rd w 1 v n xs:=by
 obtain⟨_,_,h⟩:=h;exact h.rd
theorem RowZ.outside{w w':World}{lo hi:Nat}{v:Value}{n:Nat}{xs:List Value}(h:RowZ w lo hi v n xs){lo' hi':Nat}(ho:Outside lo' hi' w w')(hd:hi<=lo'\/hi'<=lo)(hz:hi<=w.heap.size):RowZ w' lo hi v n xs:=by
 obtain⟨e,he,h⟩:=h;exact⟨e,he,h.outside ho hd hz⟩
theorem Row.z{w:World}{lo hi:Nat}{v:Value}{n:Nat}{xs:List Value}(h:Row w 3 1 lo hi v n xs):RowZ w lo hi v n xs:=⟨3,by decide,h⟩
def RowBlk(w:World)(lo hi:Nat)(v:Value)(ws:List Int)(ps:List Se):Prop:=∃ vW vP,v=.agg #[vW,vP]/\RowZ w lo hi vW ws.length (zdb ws)/\Row w 160 2 lo hi vP ps.length (ses ps)
theorem RowBlk.rd{w:World}{lo hi:Nat}{v:Value}{ws:List Int}{ps:List Se}(h:RowBlk w lo hi v ws ps):RdBlk w v ws ps:=by
 obtain⟨vW,vP,rfl,h1,h2⟩:=h;exact⟨vW,vP,rfl,h1.rd,h2.rd⟩
theorem RdBlk.below{w w':World}{v:Value}{ws:List Int}{ps:List Se}(h:RdBlk w v ws ps)(hb:zB w w'):RdBlk w' v ws ps:=by
 obtain⟨vW,vP,rfl,h1,h2⟩:=h;exact⟨vW,vP,rfl,Rd.below h1 hb,Rd.below h2 hb⟩
theorem RowBlk.outside{w w':World}{lo hi:Nat}{v:Value}{ws:List Int}{ps:List Se}(h:RowBlk w lo hi v ws ps){lo' hi':Nat}(ho:Outside lo' hi' w w')(hd:hi<=lo'\/hi'<=lo)(hz:hi<=w.heap.size):RowBlk w' lo hi v ws ps:=by
 obtain⟨vW,vP,rfl,h1,h2⟩:=h;exact⟨vW,vP,rfl,h1.outside ho hd hz,h2.outside ho hd hz⟩
def zfj(ws:List Int)(ps:List Se):Bool:=decide (ws.length=32/\ps.length<=400/\(∀ k (h:k<ws.length),zaz ws[k]=true)/\∀ k (h:k<ps.length),zpa ps[k].at_=true/\zaz ps[k].val=true)
theorem yahl{ws:List Int}{ps:List Se}(h1:ws.length=32)(h2:ps.length<=400)(h3:∀ k (h:k<ws.length),zaz ws[k]=true)(h4:∀ k (h:k<ps.length),zpa ps[k].at_=true/\zaz ps[k].val=true):zfj ws ps=true:=decide_eq_true ⟨h1,h2,h3,h4⟩
theorem zcy{ws:List Int}{ps:List Se}(h:zfj ws ps=true):ws.length=32/\ps.length<=400:=⟨(of_decide_eq_true h).1,(of_decide_eq_true h).2.1⟩
theorem yaej{ws:List Int}{ps:List Se}(h:zfj ws ps=true)(k:Nat)(hk:k<ws.length):zaz ws[k]=true:=(of_decide_eq_true h).2.2.1 k hk
theorem zqs{ws:List Int}{ps:List Se}(h:zfj ws ps=true)(k:Nat)(hk:k<ps.length):zpa ps[k].at_=true/\zaz ps[k].val=true:=(of_decide_eq_true h).2.2.2 k hk
theorem yaie{ws:List Int}{ps:List Se}(h:¬ ws.length=32):zfj ws ps=false:=decide_eq_false (fun x=>h x.1)
theorem yakk{ws:List Int}{ps:List Se}(h:400<ps.length):zfj ws ps=false:=decide_eq_false (fun x=>absurd x.2.1 (by omega))
theorem yaty{ws:List Int}{ps:List Se}{k:Nat}(hk:k<ws.length)(h:zaz ws[k]=false):zfj ws ps=false:=decide_eq_false (fun x=>by have:=x.2.2.1 k hk;rw[h]at this;cases this)
theorem yaug{ws:List Int}{ps:List Se}{k:Nat}(hk:k<ps.length)(h:zpa ps[k].at_=false):zfj ws ps=false:=decide_eq_false (fun x=>by have:=(x.2.2.2 k hk).1;rw[h]at this;cases this)
theorem yasy{ws:List Int}{ps:List Se}{k:Nat}(hk:k<ps.length)(h:zaz ps[k].val=false):zfj ws ps=false:=decide_eq_false (fun x=>by have:=(x.2.2.2 k hk).2;rw[h]at this;cases this)
end Go.Proofs.YtogcbbkhnpmgeaaGreatDoor
