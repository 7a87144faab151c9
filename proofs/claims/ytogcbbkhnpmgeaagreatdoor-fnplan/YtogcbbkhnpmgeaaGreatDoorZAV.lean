import Derived.Test.YtogcbbkhnpmgeaaGreatDoorZAU
set_option maxRecDepth 100000
set_option maxHeartbeats 4000000
namespace Go.Proofs.YtogcbbkhnpmgeaaGreatDoor
open Go.RowKit
theorem zpw(l:List Mi)(m:Mi):mis (l++[m])=mis l++m.cells:=by simp[mis]
theorem zhw(l l':List Mi):mis (l++l')=mis l++mis l':=by simp[mis]
theorem zif(m:Mi):∀ u∈m.cells,u.oneCell'=true:=by
 intro u hu;simp[Mi.cells]at hu
 rcases hu with rfl|rfl|rfl<;>rfl
theorem zcj(l:List Mi):∀ u∈mis l,u.oneCell'=true:=by
 intro u hu;simp only[mis,List.mem_flatMap]at hu;obtain⟨m,_,hm⟩:=hu;exact zif m u hm
theorem zjg(w1:World)(k a x:Int):Rd (w1.alloc (.cells #[.I k,.I a,.I x] 82)) 3 (.slice (some ⟨w1.heap.size,0,none⟩) 1 1) 1 (Mi.cells ⟨k,a,x⟩):=by
 refine⟨rfl,_,_,rfl,⟨Nat.le_refl _,fun e=>by cases e⟩,fun _=>⟨w1.heap.size,0,rfl,by simp,fun j hj=>?_⟩⟩;obtain⟨e0,e1,e2⟩:=zax (zaf (w:=w1) (o:=.cells #[.I k,.I a,.I x] 82) rfl);rw[Nat.zero_add]
 rcases(show j=0\/j=1\/j=2 from by omega)with rfl|rfl|rfl
 ·exact e0
 ·exact e1
 ·exact e2
theorem RdM.form{w:World}{v:Value}{ps:List Mi}(h:RdM w v ps){n:Nat}(hn:ps.length=n):∃ ao cap,v=.slice ao n cap:=by
 obtain⟨ao,cap,e,_⟩:=h.shape;exact⟨ao,cap,hn ▸ e⟩
theorem yaii{w:World}{base:Nat}{e:TypeId}{size:Nat}{v:Value}{n:Nat}{xs:List Value}(h:w.ownsRow base e size v n xs)(k:Nat):(w.drewN k).ownsRow base e size v n xs:=by
 induction k with
 | zero=>exact h
 | succ k ih=>exact ih
theorem yaek{B:Nat}{a w:World}(h:Below B a w)(n:Nat):Below B a (w.drewN n):=by
 induction n with
 | zero=>exact h
 | succ n ih=>exact⟨ih.os,ih.tape,ih.output,ih.size,ih.block⟩
theorem yaiv(w:World)(n:Nat):(w.drewN n).heap.size=w.heap.size:=by
 induction n with
 | zero=>rfl
 | succ n ih=>exact ih
def zlw(ks:List Int)(i k:Nat):Bool:=(List.range k).any (fun j=>ks[j]?.getD 0/8 == ks[i]?.getD 0/8)
theorem yaef(ks:List Int)(i k:Nat):zlw ks i (k+1)=(zlw ks i k||(ks[k]?.getD 0/8 == ks[i]?.getD 0/8)):=by
 unfold zlw;rw[List.range_succ,List.any_append];simp
theorem yack(ks:List Int):∀ i,(nl ks i).length<=i
 | 0=>Nat.le_refl _
 | i+1=>by
  rw[nl]
  split
  ·have:=yack ks i;omega
  ·have:=yack ks i;simp;omega
theorem zdq(v:Value)(zs:List Int)(w:World)(h:RdI w v zs)(hn:zs.length<=4096)(hz0:∀ k (h:k<zs.length),0<=zs[k]/\zs[k]<336) :
  zC 143 #[v] w fun e w'=>∃ v',e=.returned v'/\Row w' 82 3 w.heap.size w'.heap.size v' (zbe zs).length (mis (zbe zs))/\zB w w':=by
 obtain⟨aZ,cZ,rfl,_,hcZ⟩:=h.shape;have HZ:=zaa hcZ;have Z0:=zaa hz0;clear h hcZ hz0
 have ho:(w.alloc (.cells #[] 82)).ownsRow w.heap.size 82 3 (.slice (some ⟨w.heap.size,0,none⟩) 0 0) 0 []:=by
  simpa using World.ownsRow_lit (base:=w.heap.size) (e:=82) (size:=3) w #[] 0 (by simp) (by simp) rfl
 have START:=zaa (And.intro ho ((Below.refl w.heap.size w).alloc zL (.cells #[] 82)));clear ho;go_enter Tryz.func143,Tryz.ntmps143;go_wp2
 go_loopw [3,4,5,6] (fun vL i _ _ wr=>∃ m:Nat,m<=zs.length/\i=.I m/\Hid (wr.ownsRow w.heap.size 82 3 vL (nl zs m).length (mis (nl zs m))/\zB w wr)/\w.heap.size<=wr.heap.size) (fun _ i _ _ _=>zs.length-(intOf i).toNat)
 case atStart=>exact⟨0,by omega,rfl,⟨by simpa[nl,mis]using START.o.1,START.o.2⟩,by simp⟩
 case round =>
  obtain⟨m,hm,rfl,I,hz⟩:=hrel
  by_cases hlt:m<zs.length
  ·obtain⟨b,o,rfl,hbl,hcell⟩:=HZ.o (by omega);have CELL:=zaa hcell;clear hcell
   have m0:(0:Int)<=(m:Int):=by omega
   have m1:(m:Int)<(zs.length:Int):=by omega
   go_wp2
   go_loopw [5,6] (fun f kk wr2=>∃ k:Nat,k<=m/\kk=.I k/\f=.bool (zlw zs m k)/\Hid (wr2.ownsRow w.heap.size 82 3 u3 (nl zs m).length (mis (nl zs m))/\zB w wr2)/\w.heap.size<=wr2.heap.size) (fun _ kk _=>m-(intOf kk).toNat)
   case atStart=>exact⟨0,by omega,rfl,rfl,I,hz⟩
   case round =>
    obtain⟨k,hk,rfl,rfl,J,hz2⟩:=hrel
    by_cases hlk:k<m
    ·have k0:(0:Int)<=(k:Int):=by omega
     have k1:(k:Int)<(m:Int):=by omega
     have k2:(k:Int)<(zs.length:Int):=by omega
     have hkz:k<zs.length:=by omega
     have d0:=(J.o.2.cell (p:=⟨b,o+k,none⟩) hbl).trans (CELL.o k hkz);have d1:=(J.o.2.cell (p:=⟨b,o+m,none⟩) hbl).trans (CELL.o m hlt);have p0:=Z0.o k hkz;have p1:=Z0.o m hlt;have SU:=zaa (show zlw zs m (k+1)=(zlw zs m k||(zs[k]/8 == zs[m]/8)) by rw[yaef,List.getElem?_eq_getElem hkz,List.getElem?_eq_getElem hlt];rfl);generalize zs[k]=x at *;generalize zs[m]=y at *;generalize zlw zs m k=fb at *
     rcases(show fb=true\/(fb=false/\(x/8 == y/8)=true)\/(fb=false/\(x/8 == y/8)=false) by cases fb<;>cases (x/8 == y/8)<;>simp)with rfl | ⟨rfl,q⟩ | ⟨rfl,q⟩
     all_goals
      go_wp2
      go_quiet (fail)
      go_wp2
      go_roundw
      case rel=>exact⟨k+1,by omega,by go_num,by rw[SU.o];first | rfl | (rw[q];rfl),⟨yaii J.o.1 _,yaek J.o.2 _⟩,by rw[yaiv];exact hz2⟩
      case measure=>simp[intOf];omega
    ·obtain rfl:k=m:=by omega
     by_cases c:zlw zs k k=true
     ·have E:=zaa (show nl zs (k+1)=nl zs k by rw[nl];exact if_pos c);rw[c];clear c;go_wp2
      go_roundw
      case rel=>exact⟨k+1,by omega,by go_num,by rw[E.o];exact J,hz2⟩
      case measure=>simp[intOf];omega
     ·have c':zlw zs k k=false:=by simpa using c
      have d1:=(J.o.2.cell (p:=⟨b,o+k,none⟩) hbl).trans (CELL.o k hlt)
      have E:=zaa (show nl zs (k+1)=nl zs k++[⟨2,zs[k],0⟩] by
       rw[nl]
       have:¬ zsc zs k=true:=fun x=>c x
       rw[if_neg this,List.getElem?_eq_getElem hlt]
       rfl)
      rw[c'];clear c c';generalize zs[k]=y at *;have O2:=zaa (J.o.1.alloc (.cells #[.I 2,.I y,.I 0] 82));have HRD:=zaa (zjg wr 2 y 0);have hle:=yack zs k;go_wp2_with (at_builtin;refine zae _ rfl (.tmp 35) (.tmp 41) 32 rfl w.heap.size 82 (.agg #[.I 0,.I 0,.I 0]) 3 24 Tryz.underlying32 zbp rfl (by decide) _ _ _ rfl O2.o _ 1 _ rfl HRD.o (zif _) (by simp[maxLen];omega) (by omega) (by simp;omega) ?_);intro vN wN hownN hgrN
      have hl:=fun q hq=>(O2.o.lt q hq).1
      have hzN:=hgrN.size;simp only[World.size_alloc]at hzN
      have G:Hid (wN.ownsRow w.heap.size 82 3 vN (nl zs (k+1)).length (mis (nl zs (k+1)))/\zB w wN):=by
       refine⟨?_,(J.o.2.alloc (by omega) (.cells #[.I 2,.I y,.I 0] 82)).grown hgrN (by simp;omega) (fun q hq=>hl q hq)⟩;rw[E.o,zpw,List.length_append];exact hownN
      clear hownN hgrN hl;go_wp2
      go_roundw
      case rel=>exact⟨k+1,by omega,by go_num,G,by omega⟩
      case measure=>simp[intOf];omega
  ·obtain rfl:m=zs.length:=by omega
   have E:=zaa (show zbe zs=nl zs zs.length++[⟨3,0,0⟩]from rfl);have O2:=zaa (I.o.1.alloc (.cells #[.I 3,.I 0,.I 0] 82));have HRD:=zaa (zjg wr 3 0 0);have hle:=yack zs zs.length;go_wp2_with (at_builtin;refine zae _ rfl (.tmp 43) (.tmp 45) 32 rfl w.heap.size 82 (.agg #[.I 0,.I 0,.I 0]) 3 24 Tryz.underlying32 zbp rfl (by decide) _ _ _ rfl O2.o _ 1 _ rfl HRD.o (zif _) (by simp[maxLen];omega) (by omega) (by simp;omega) ?_);intro vN wN hownN hgrN
   have hl:=fun q hq=>(O2.o.lt q hq).1
   have G:Hid (wN.ownsRow w.heap.size 82 3 vN (zbe zs).length (mis (zbe zs))/\zB w wN):=by
    refine⟨?_,(I.o.2.alloc (by omega) (.cells #[.I 3,.I 0,.I 0] 82)).grown hgrN (by simp;omega) (fun q hq=>hl q hq)⟩;rw[E.o,zpw,List.length_append];exact hownN
   clear hownN hgrN hl;obtain⟨aL,cL,hvL⟩:=RdM.form (zad G.o.1).rd rfl;subst hvL;go_wp2;go_ret;exact⟨_,rfl,zad G.o.1,G.o.2⟩
def allP(zs:List Int):Bool:=decide (∀ k (h:k<zs.length),0<=zs[k]/\zs[k]<336)
def flC(zs:List Int):Int:=if 4096<zs.length then 2 else if 50<zs.length then 6 else if allP zs=true then 0 else 14
def fpL(zs:List Int):List Mi:=if flC zs=0 then zbe zs else[]
theorem yaey(zs:List Int):(4096<zs.length/\flC zs=2/\fpL zs=[])\/(¬ 4096<zs.length/\50<zs.length/\flC zs=6/\fpL zs=[])\/(¬ 4096<zs.length/\¬ 50<zs.length/\allP zs=false/\flC zs=14/\fpL zs=[])\/(¬ 4096<zs.length/\¬ 50<zs.length/\allP zs=true/\flC zs=0/\fpL zs=zbe zs):=by
 by_cases c1:4096<zs.length
 ·have e:flC zs=2:=by unfold flC;rw[if_pos c1]
  exact .inl ⟨c1,e,by unfold fpL;rw[e];rfl⟩
 ·by_cases c2:50<zs.length
  ·have e:flC zs=6:=by unfold flC;rw[if_neg c1,if_pos c2]
   exact .inr (.inl ⟨c1,c2,e,by unfold fpL;rw[e];rfl⟩)
  ·by_cases c3:allP zs=true
   ·have e:flC zs=0:=by unfold flC;rw[if_neg c1,if_neg c2,if_pos c3]
    exact .inr (.inr (.inr ⟨c1,c2,c3,e,by unfold fpL;rw[e];rfl⟩))
   ·have c3':allP zs=false:=by simpa using c3
    have e:flC zs=14:=by unfold flC;rw[if_neg c1,if_neg c2,c3'];rfl
    exact .inr (.inr (.inl ⟨c1,c2,c3',e,by unfold fpL;rw[e];rfl⟩))
theorem zbo(zs:List Int):(zbe zs).length<=zs.length+1:=by
 unfold zbe;have:=yack zs zs.length;simp;omega
theorem zst(w:World)(t:TypeId)(size:Nat):Row (w.alloc (.cells #[] t)) t size w.heap.size (w.alloc (.cells #[] t)).heap.size (.slice (some ⟨w.heap.size,0,none⟩) 0 0) 0 [] :=
 zad (by simpa using World.ownsRow_lit (base:=w.heap.size) (e:=t) (size:=size) w #[] 0 (by simp) (by simp) (by simp))
theorem zdo(a x:Int)(w:World):zC 142 #[.I a,.I x] w fun e w'=>e=.returned (.agg #[.I 1,.I a,.I x])/\zB w w':=by
 go_enter Tryz.func142,Tryz.ntmps142;go_wp2;refine bodyPost_ret (v:=.agg #[.I 1,.I a,.I x]) (by simp[results,Tryz.results142,go_sem]) rfl ⟨rfl,?_⟩
 repeat (refine Below.alloc ?_ (by simp<;>omega) _)
 exact zR
def upsB(us:List Se):Bool:=decide (∀ k (h:k<us.length),(48<=us[k].at_/\us[k].at_<336)/\0<=us[k].val/\us[k].val<1099511627776)
def zdj(us:List Se):List St:=us.map (fun s=>up s.at_ s.val)
theorem zbt(us:List Se):(zdj us).length=us.length:=by simp[zdj]
theorem zvc(us:List Se)(k:Nat)(h:k<us.length):(zdj us)[k]?=some (up us[k].at_ us[k].val):=by simp[zdj,h]
def apM(us:List Se)(m:Nat):List Mi:=((zdj us).take m).map stM
def apP(us:List Se)(m:Nat):List Int:=((zdj us).take m).map (·.at_)
theorem yadk(us:List Se)(m:Nat):(apM us m).length<=m:=by simp[apM];omega
theorem yamf(us:List Se)(m:Nat):(apP us m).length<=m:=by simp[apP];omega
theorem zmh{α:Type}(l:List α)(m:Nat)(x:α)(h:l[m]?=some x):l.take (m+1)=l.take m++[x]:=by
 rw[List.take_add_one,h];rfl
theorem yahl(us:List Se)(m:Nat)(h:m<us.length):apM us (m+1)=apM us m++[⟨1,us[m].at_,us[m].val⟩]:=by
 unfold apM;rw[zmh _ _ _ (zvc us m h),List.map_append];rfl
theorem yauv(us:List Se)(m:Nat)(h:m<us.length):apP us (m+1)=apP us m++[us[m].at_]:=by
 unfold apP;rw[zmh _ _ _ (zvc us m h),List.map_append];rfl
theorem yadg(us:List Se):apM us us.length=(zdj us).map stM:=by unfold apM;rw[List.take_of_length_le (by rw[zbt];omega)]
theorem yayt(us:List Se):apP us us.length=(zdj us).map (·.at_):=by unfold apP;rw[List.take_of_length_le (by rw[zbt];omega)]
theorem yaqu(us:List Se)(m:Nat)(hz:∀ k (h:k<us.length),0<=us[k].at_/\us[k].at_<336):∀ k (h:k<(apP us m).length),0<=(apP us m)[k]/\(apP us m)[k]<336:=by
 intro k h;have h':=h;simp only[apP,List.length_map,List.length_take,zbt]at h';have:=hz k (by omega);simpa[apP,zdj,up]using this
structure PlI(w0 w:World)(vL vP:Value)(ls:List Mi)(ps:List Int):Prop where
 l:w.ownsRow w0.heap.size 82 3 vL ls.length (mis ls)
 p:w.ownsRow w0.heap.size 3 1 vP ps.length (zeg ps)
 b:zB w0 w
 z:w0.heap.size<=w.heap.size
theorem ybbg:(3:Nat)≠82:=by decide
theorem PlI.below{w0 w w':World}{vL vP:Value}{ls:List Mi}{ps:List Int}(h:PlI w0 w vL vP ls ps)(hb:zB w w'):PlI w0 w' vL vP ls ps :=
 ⟨((zad h.l).below hb zL).1,((zad h.p).below hb zL).1,zab h.b hb h.z,Nat.le_trans h.z hb.size⟩
theorem PlI.growL{w0 w w':World}{vL vP v':Value}{ls:List Mi}{ps:List Int}(h:PlI w0 w vL vP ls ps)(ms:List Mi)(ho:w'.ownsRow w0.heap.size 82 3 v' (ls.length+ms.length) (mis ls++mis ms))(hg:w.grownBy w' vL.ownBlock):PlI w0 w' v' vP (ls++ms) ps :=
 ⟨by rw[zhw,List.length_append];exact ho,(Row.apart (zad h.p) (zad h.l) ybbg hg).1,h.b.grown hg h.z (fun q hq=>(h.l.lt q hq).1),Nat.le_trans h.z hg.size⟩
theorem PlI.growP{w0 w w':World}{vL vP v':Value}{ls:List Mi}{ps:List Int}(h:PlI w0 w vL vP ls ps)(ks:List Int)(ho:w'.ownsRow w0.heap.size 3 1 v' (ps.length+ks.length) (zeg ps++zeg ks))(hg:w.grownBy w' vP.ownBlock):PlI w0 w' vL v' ls (ps++ks) :=
 ⟨(Row.apart (zad h.l) (zad h.p) (Ne.symm ybbg) hg).1,by rw[List.length_append,show zeg (ps++ks)=zeg ps++zeg ks by simp[zeg]];exact ho,h.b.grown hg h.z (fun q hq=>(h.p.lt q hq).1),Nat.le_trans h.z hg.size⟩
theorem zdv{w w':World}(h:Below w.drew.heap.size w.drew w'):zB w w':=zab ((Below.refl w.heap.size w).drew) h zL
theorem zln(w1:World)(x:Int):RdI (w1.alloc (.cells #[.I x] 3)) (.slice (some ⟨w1.heap.size,0,none⟩) 1 1) [x]:=by
 refine⟨rfl,_,_,rfl,⟨Nat.le_refl _,fun e=>by cases e⟩,fun _=>⟨w1.heap.size,0,rfl,by simp,fun j hj=>?_⟩⟩
 obtain rfl:j=0:=by simp at hj;omega
 have e:=zaf (w:=w1) (o:=.cells #[.I x] 3) rfl;unfold World.cell?;simp only[e];rfl
theorem zka(m:Mi):mis [m]=m.cells:=by simp[mis]
theorem zyd(v:Value)(us:List Se)(w:World)(h:RdE w v us)(hn:us.length<=64)(hz0:∀ k (h:k<us.length),0<=us[k].at_/\us[k].at_<336) :
  zC 152 #[v] w fun e w'=>∃ v',e=.returned v'/\Row w' 82 3 w.heap.size w'.heap.size v' (ziw (zdj us)).length (mis (ziw (zdj us)))/\zB w w':=by
 obtain⟨aZ,cZ,rfl,_,hcZ⟩:=h.shape;have HZ:=zaa hcZ;have Z0:=zaa hz0;clear h hcZ hz0
 have START:Hid (PlI w ((w.alloc (.cells #[] 82)).alloc (.cells #[] 3)) (.slice (some ⟨w.heap.size,0,none⟩) 0 0) (.slice (some ⟨w.heap.size+1,0,none⟩) 0 0) [] []):=by
  refine⟨?_,?_,((Below.refl w.heap.size w).alloc zL _).alloc (by simp) _,by simp<;>omega⟩
  ·exact((zst w 82 3).alloc zL _).1
  ·simpa[zeg]using World.ownsRow_lit (base:=w.heap.size) (e:=3) (size:=1) (w.alloc (.cells #[] 82)) #[] 0 (by simp) (by simp) (by simp)
 go_enter Tryz.func152,Tryz.ntmps152;go_wp2
 go_loopw [3,4,5] (fun vL vP i wr=>∃ m:Nat,m<=us.length/\i=.I m/\Hid (PlI w wr vL vP (apM us m) (apP us m))/\w.heap.size<=wr.heap.size) (fun _ _ i _=>us.length-(intOf i).toNat)
 case atStart=>exact⟨0,by omega,rfl,by simpa[apM,apP]using START,by simp<;>omega⟩
 case round =>
  obtain⟨m,hm,rfl,J,hz⟩:=hrel
  by_cases hlt:m<us.length
  ·obtain⟨b,o,rfl,hbl,hcell⟩:=HZ.o (by omega);have C0:=(J.o.b.cell (p:=⟨b,o+m*2,none⟩) hbl).trans (hcell m hlt).1;have C1:=(J.o.b.cell (p:=⟨b,o+m*2+1,none⟩) hbl).trans (hcell m hlt).2;have EM:=zaa (yahl us m hlt);have EP:=zaa (yauv us m hlt);have l1:=yadk us m;have l2:=yamf us m
   have hbr:b<wr.heap.size:=by omega
   have DW:=zaa (hcell m hlt);clear hcell
   have m0:(0:Int)<=(m:Int):=by omega
   have m1:(m:Int)<(us.length:Int):=by omega
   generalize us[m].at_=x at *;generalize us[m].val=y at *;go_wp2_with fail
   go_region_held3 (fun w'=>w'.cell? ⟨b,o+m*2,none⟩=some (.I x)/\w'.cell? ⟨b,o+m*2+1,none⟩=some (.I y)) (first | exact⟨C0,C1⟩ | exact⟨s0,s1⟩ | exact⟨r0,r1⟩ | exact⟨q0,q1⟩)
    (first
     | (go_at_call 142;refine(zdo _ _ _).mono ?_;rintro e w1 ⟨rfl,hb1⟩;have hb1':=zdv hb1;have q0:=(hb1'.cell (p:=⟨b,o+m*2,none⟩) hbr).trans C0;have q1:=(hb1'.cell (p:=⟨b,o+m*2+1,none⟩) hbr).trans C1;have P1:=zaa ((J.o.below hb1').below (zR.alloc zL (.cells #[.I 1,.I x,.I y] 82)));have HRD:=zaa (zjg w1 1 x y);have r0:=(P1.o.b.cell (p:=⟨b,o+m*2,none⟩) hbl).trans DW.o.1;have r1:=(P1.o.b.cell (p:=⟨b,o+m*2+1,none⟩) hbl).trans DW.o.2;have hz1:=P1.o.z;clear hb1 hb1')
     | (refine zap rfl (.tmp 14) (.tmp 26) 32 rfl w.heap.size 82 (.agg #[.I 0,.I 0,.I 0]) 3 24 Tryz.underlying32 zbp rfl (by decide) _ _ _ rfl P1.o.l _ 1 _ rfl HRD.o (zif _) (by simp[maxLen];omega) (by omega) hz1 ?_;intro vN wN hownN hgrN;have G:=zaa (P1.o.growL [⟨1,x,y⟩] (by rw[zka];exact hownN) hgrN);have s0:=(G.o.b.cell (p:=⟨b,o+m*2,none⟩) hbl).trans DW.o.1;have s1:=(G.o.b.cell (p:=⟨b,o+m*2+1,none⟩) hbl).trans DW.o.2;clear hownN hgrN))
   all_goals
    have hzG:=G.o.z;clear C0 C1 q0 q1 r0 r1 P1 HRD J;have P2:=zaa (G.o.below (zR.alloc zL (.cells #[.I x] 3)));have HR2:=zaa (zln wN x);have hz2:=P2.o.z;clear G;go_wp2_with (at_builtin;refine zae _ rfl (.tmp 28) (.tmp 34) 23 rfl w.heap.size 3 (.I 0) 1 8 Tryz.underlying23 zmo rfl (by decide) _ _ _ rfl P2.o.p _ 1 _ rfl HR2.o (zgp _) (by simp[maxLen];omega) (by omega) hz2 ?_);intro vQ wQ hownQ hgrQ;have G2:=zaa (P2.o.growP [x] hownQ hgrQ);rw[<- EM.o,<- EP.o]at G2;have hz3:=G2.o.z;clear hownQ hgrQ P2 HR2;go_wp2
    go_roundw
    case rel=>exact⟨m+1,by omega,by go_num,G2,hz3⟩
    case measure=>simp[intOf];omega
  ·obtain rfl:m=us.length:=by omega
   have PL:=zaa (yaqu us us.length Z0.o);have l1:=yadk us us.length;have l2:=yamf us us.length
   have EE:=zaa (show ziw (zdj us)=apM us us.length++zbe (apP us us.length)++[⟨1,8,0⟩]++zbe [8] by
    rw[yadg,yayt];simp[ziw,seg,cnt,stM])
   have l3:=zbo (apP us us.length);have l4:=zbo [8];simp only[List.length_cons,List.length_nil]at l4;generalize apM us us.length=A at *;generalize apP us us.length=B at *;go_wp2_with fail;refine(zdq _ B _ (zad J.o.p).rd (by omega) PL.o).mono ?_;rintro e w1 ⟨v1,rfl,hr1,hb1⟩;have P1:=zaa (J.o.below hb1);have R1:=zaa hr1.rd;have hz1:=P1.o.z;clear hr1 hb1 J;go_wp2_with (at_builtin;refine zae _ rfl (.tmp 36) (.tmp 38) 32 rfl w.heap.size 82 (.agg #[.I 0,.I 0,.I 0]) 3 24 Tryz.underlying32 zbp rfl (by decide) _ _ _ rfl P1.o.l _ _ _ rfl R1.o (zcj _) (by simp[maxLen];omega) (by omega) hz1 ?_);intro v2 w2 hown2 hgr2;have P2:=zaa (P1.o.growL _ hown2 hgr2);have hz2:=P2.o.z
   have l5:(A++zbe B).length<=200:=by simp;omega
   generalize A++zbe B=C at *;clear hown2 hgr2 P1 R1;go_wp2_with fail;refine(zdo _ _ _).mono ?_;rintro e w3 ⟨rfl,hb3⟩;have P3:=zaa ((P2.o.below hb3).below (zR.alloc zL (.cells #[.I 1,.I 8,.I 0] 82)));have R3:=zaa (zjg w3 1 8 0);have hz3:=P3.o.z;clear hb3 P2;go_wp2_with (at_builtin;refine zae _ rfl (.tmp 40) (.tmp 42) 32 rfl w.heap.size 82 (.agg #[.I 0,.I 0,.I 0]) 3 24 Tryz.underlying32 zbp rfl (by decide) _ _ _ rfl P3.o.l _ 1 _ rfl R3.o (zif _) (by simp[maxLen];omega) (by omega) hz3 ?_);intro v4 w4 hown4 hgr4;have P4:=zaa (P3.o.growL [⟨1,8,0⟩] (by rw[zka];exact hown4) hgr4)
   have l6:(C++[(⟨1,8,0⟩:Mi)]).length<=201:=by simp;omega
   generalize C++[(⟨1,8,0⟩:Mi)]=D at *;have P5:=zaa (P4.o.below (zR.alloc zL (.cells #[.I 8] 3)));have R5:=zaa (zln w4 8);clear hown4 hgr4 P3 R3 P4;go_wp2_with fail;refine(zdq _ [8] _ R5.o (by simp) (by intro k h;simp at h;subst h;simp)).mono ?_;rintro e w6 ⟨v6,rfl,hr6,hb6⟩;have P6:=zaa (P5.o.below hb6);have R6:=zaa hr6.rd;have hz6:=P6.o.z;clear hr6 hb6 P5 R5;go_wp2_with (at_builtin;refine zae _ rfl (.tmp 44) (.tmp 46) 32 rfl w.heap.size 82 (.agg #[.I 0,.I 0,.I 0]) 3 24 Tryz.underlying32 zbp rfl (by decide) _ _ _ rfl P6.o.l _ _ _ rfl R6.o (zcj _) (by simp[maxLen];omega) (by omega) hz6 ?_);intro v7 w7 hown7 hgr7;have P7:=zaa (P6.o.growL _ hown7 hgr7);rw[<- EE.o]at P7;obtain⟨aL,cL,hvL⟩:=RdM.form (zad P7.o.l).rd rfl;subst hvL;clear hown7 hgr7 P6 R6;go_wp2;go_ret;exact⟨_,rfl,zad P7.o.l,P7.o.b⟩
theorem zxi{ls ls':List Int}{ws:List Ino}{ps:List Den}(h:Wi ls ws ps)(hl:ls'.length=336)(ag:∀ z:Int,z=0\/(48<=z/\z<312)->wdI ls' z=wdI ls z):Wi ls' ws ps:=by
 refine⟨hl,?_,?_,?_,?_,h.img⟩
 ·rw[ag 0 (.inl rfl)];exact h.mark
 ·have g:=h.good;unfold zcl at g ⊢;rw[List.all_eq_true]at g ⊢;intro k hk;have q:=g k hk;have:=List.mem_range.1 hk;unfold zcc at q ⊢;rw[ag _ (.inr (by omega)),ag _ (.inr (by omega)),ag _ (.inr (by omega))];exact q
 ·rw[<- h.inos];unfold zbj;apply List.map_congr_left;intro i hi;have:=List.mem_range.1 hi;unfold zeh;rw[ag _ (.inr (by omega)),ag _ (.inr (by omega)),ag _ (.inr (by omega)),ag _ (.inr (by omega)),ag _ (.inr (by omega)),ag _ (.inr (by omega)),ag _ (.inr (by omega)),ag _ (.inr (by omega)),ag _ (.inr (by omega)),ag _ (.inr (by omega)),ag _ (.inr (by omega))]
 ·rw[<- h.dens];unfold zbl;apply List.map_congr_left;intro i hi;have:=List.mem_range.1 hi;unfold zgg;rw[ag _ (.inr (by omega)),ag _ (.inr (by omega)),ag _ (.inr (by omega))]
theorem yazn(us:List Se):∀ ls:List Int,zce ls (zdj us)=zdh ls us:=by
 induction us with
 | nil=>intro ls;rfl
 | cons u us ih=>intro ls;exact ih _
theorem yabw{z:Int}(hz:0<=z):∀ (S:List St) (ls:List Int),(∀ p∈S,0<=p.at_/\p.at_<(ls.length:Int)/\¬ p.at_=z)->wdI (zce ls S) z=wdI ls z:=by
 intro S
 induction S with
 | nil=>intro ls _;rfl
 | cons p S ih =>
  intro ls h
  show wdI (zce (ls.set p.at_.toNat p.val) S) z=_
  rw[ih _ (fun q hq=>by rw[List.length_set];exact h q (List.mem_cons_of_mem _ hq))];obtain⟨a,b,c⟩:=h p (List.mem_cons_self ..);rw[zet a b hz,if_neg (fun e=>c e.symm)]
def zqg(ls:List Int)(us:List Se):List Int:=if us.length=0 then ls else zce (zce (zce (zce ls (jrn 0 (zdj us))) (cnt (us.length:Int))) (zdj us)) (cnt 0)
theorem zzp(ls:List Int)(us:List Se):zrs (ls,[]) (zct (zdj us))=(zqg ls us,[]):=by
 unfold zct zqg ziw;rw[zbt]
 by_cases h:us.length=0
 ·rw[if_pos h,if_pos h];rfl
 ·rw[if_neg h,if_neg h,zei,zei,zei,zlp,zlp,zlp,zlp]
theorem yarc(ls:List Int)(us:List Se):(zqg ls us).length=ls.length:=by
 unfold zqg
 split
 ·rfl
 ·rw[zcp,zcp,zcp,zcp]
theorem yavf{ls:List Int}{us:List Se}(hl:ls.length=336)(h16:us.length<=16)(ui:UpIn us){z:Int}(hz:z=0\/(48<=z/\z<336)):wdI (zqg ls us) z=wdI (zdh ls us) z:=by
 have hz0:0<=z:=by omega
 unfold zqg
 by_cases h:us.length=0
 ·rw[if_pos h,List.eq_nil_of_length_eq_zero h];rfl
 ·rw[if_neg h,yabw hz0 (cnt 0) _ (fun p hp=>by
   rw[List.mem_singleton.1 hp,zcp,zcp,zcp,hl]
   exact⟨by show(0:Int)<=8;omega,by show(8:Int)<336;omega,by show ¬ (8:Int)=z;omega⟩),yazn]
  have same:∀ (us:List Se) (a b:List Int),a.length=336->b.length=336->UpIn us->wdI a z=wdI b z->wdI (zdh a us) z=wdI (zdh b us) z:=by
   intro us
   induction us with
   | nil=>intro a b _ _ _ e;exact e
   | cons u us ih =>
    intro a b ha hb ui e;have q:=ui u (List.mem_cons_self ..);refine ih _ _ (by rw[List.length_set];exact ha) (by rw[List.length_set];exact hb) (fun v hv=>ui v (List.mem_cons_of_mem _ hv)) ?_;rw[zet (by omega) (by omega) hz0,zet (by omega) (by omega) hz0,e]
  refine same us _ _ (by rw[zcp,zcp];exact hl) hl ui ?_
  rw[yabw hz0 (cnt (us.length:Int)) _ (fun p hp=>by
   rw[List.mem_singleton.1 hp,zcp,hl]
   exact⟨by show(0:Int)<=8;omega,by show(8:Int)<336;omega,by show ¬ (8:Int)=z;omega⟩)]
  rw[yabw hz0 (jrn 0 (zdj us)) _ (fun p hp=>by
   have:=yanw (zdj us) 0 p hp;rw[zbt]at this;rw[hl]
   exact⟨by omega,by omega,by omega⟩)]
theorem zqu{ls:List Int}{us:List Se}(hl:ls.length=336)(c:wdI ls 8=0):wdI (zqg ls us) 8=0:=by
 unfold zqg
 by_cases h:us.length=0
 ·rw[if_pos h];exact c
 ·rw[if_neg h]
  show wdI ((zce (zce (zce ls (jrn 0 (zdj us))) (cnt (us.length:Int))) (zdj us)).set (8:Int).toNat 0) 8=0
  rw[zet (by omega) (by rw[zcp,zcp,zcp,hl];omega) (by omega),if_pos rfl]
theorem yaqf{ls:List Int}{us:List Se}{ws:List Ino}{ps:List Den}(hl:ls.length=336)(h16:us.length<=16)(ui:UpIn us)(h:Wi (zdh ls us) ws ps):Wi (zqg ls us) ws ps :=
 zxi h (by rw[yarc];exact hl) (fun z hz=>yavf hl h16 ui (by omega))
def ldW(ws:List Int)(ps:List St)(k:Nat):Int:=zlj (k:Int) (ws[k]?.getD 0) ps
theorem ybbf{ws:List Int}{ps:List St}{k:Nat}(h:k<ws.length):ldW ws ps k=zlj (k:Int) ws[k] ps:=by unfold ldW;simp[h]
def pgV(ws:List Int)(ps:List St)(es:List Int)(qs:List Se)(e:Int):Int:=if e%4=1 then ldW ws ps (312+e/4).toNat else if e%4=2 then zhq (e/4) (es[(e/4).toNat]?.getD 0) qs else 0
def flI(ns:List Ino)(ds:List Den)(s:ByteArray):Int×Int:=if (lkI ns ds s).2=0 then(if zaj ns (lkI ns ds s).1=1 then((lkI ns ds s).1,0) else(0,9)) else(0,(lkI ns ds s).2)
def zel(ns:List Ino)(z:Int):Int:=(zan ns z.toNat).size
def zrt(ns:List Ino)(z:Int)(p:Int):Int:=(zan ns z.toNat).map.getD p.toNat 0
def rpF(ws:List Int)(ps:List St)(es:List Int)(qs:List Se)(ns:List Ino)(i page:Int):Int×Int:=if 0<=page/\page<zel ns i then(pgV ws ps es qs (zrt ns i page),0) else(0,4)
def rpI(ws:List Int)(ps:List St)(es:List Int)(qs:List Se)(ns:List Ino)(ds:List Den)(s:ByteArray)(page:Int):Int×Int:=if (flI ns ds s).2=0 then rpF ws ps es qs ns (flI ns ds s).1 page else(0,(flI ns ds s).2)
def dvB(ws:List Int)(ps:List St)(es:List Int)(qs:List Se):Bool:=(pmB ws ps&&zfp es qs)&&riB (zce ws ps)
def rpR(ws:List Int)(ps:List St)(es:List Int)(qs:List Se)(s:ByteArray)(page:Int):Int×Int:=if 65536<s.size then(0,2)else if dvB ws ps es qs=true then rpI ws ps es qs (zbj (zce ws ps) 16) (zbl (zce ws ps) 24) s page else(0,1)
def fpI(ns:List Ino):Int:=zba (fun i=>!zfa (zay (zam ns) 1) (i:Int)) 24
def fsI(ns:List Ino):Int:=zba (fun i=>!zfa (zay (zam ns) 2) (i:Int)) 32
def wrS(ns:List Ino)(x:Int):List Mi:=if 0<=fpI ns then⟨1,312+fpI ns,x⟩::zbe [312+fpI ns] else[⟨4,fsI ns,x⟩,⟨5,0,0⟩]
def wrE(ns:List Ino):Int:=if 0<=fpI ns then 4*fpI ns+1 else 4*fsI ns+2
def wrU(i page size e:Int):List Se:=⟨48+12*i+(3+page),e⟩::(if size<=page then[⟨48+12*i+1,page+1⟩] else[])
def wrF(ns:List Ino)(i page x:Int):List Mi×Int:=if (0<=page/\page<8)/\zbd x=true then(if fpI ns<0/\fsI ns<0 then([],7) else(wrS ns x++zct (zdj (wrU i page (zel ns i) (wrE ns))),0)) else([],4)
def wrI(ns:List Ino)(ds:List Den)(s:ByteArray)(page x:Int):List Mi×Int:=if (flI ns ds s).2=0 then wrF ns (flI ns ds s).1 page x else([],(flI ns ds s).2)
def wrR(ws:List Int)(ps:List St)(es:List Int)(qs:List Se)(s:ByteArray)(page x:Int):List Mi×Int:=if 65536<s.size then([],2)else if dvB ws ps es qs=true then wrI (zbj (zce ws ps) 16) (zbl (zce ws ps) 24) s page x else([],1)
def cuT(zs:List Int)(i:Int)(n k:Nat):List Se:=((List.range k).filter fun j=>decide (n<=j)&&!(zs.getD j 0 == 0)).map fun(j:Nat)=>⟨48+12*i+(3+(j:Int)),0⟩
def cuU(zs:List Int)(i:Int)(n k:Nat):List Se:=⟨48+12*i+1,(n:Int)⟩::cuT zs i n k
def cuF(ns:List Ino)(i size:Int):List Se×Int:=if 0<=size/\size<=8 then(cuU (zan ns i.toNat).map i size.toNat 8,0) else([],4)
def cuI(ns:List Ino)(ds:List Den)(s:ByteArray)(size:Int):List Se×Int:=if (flI ns ds s).2=0 then cuF ns (flI ns ds s).1 size else([],(flI ns ds s).2)
def cuR(ns:List Ino)(ds:List Den)(s:ByteArray)(size:Int):List Se×Int:=if 65536<s.size then([],2)else if zbg ns ds=true then cuI ns ds s size else([],1)
theorem yaqs{zs:List Int}{i:Int}{n k:Nat}(h:n<=k)(e:¬ zs.getD k 0=0):cuT zs i n (k+1)=cuT zs i n k++[⟨48+12*i+(3+(k:Int)),0⟩]:=by
 unfold cuT;rw[List.range_succ,List.filter_append,List.map_append]
 congr 1
 rw[List.filter_cons_of_pos (by rw[decide_eq_true h];simpa using e)];rfl
theorem yawv{zs:List Int}{i:Int}{n k:Nat}(e:zs.getD k 0=0):cuT zs i n (k+1)=cuT zs i n k:=by
 unfold cuT;rw[List.range_succ,List.filter_append,List.map_append,List.filter_cons_of_neg (by rw[e];simp)];simp
theorem zye(zs:List Int)(i:Int)(n:Nat):cuT zs i n n=[]:=by
 unfold cuT;rw[List.filter_eq_nil_iff.2 (fun j hj=>by have:=List.mem_range.1 hj;simp;omega)];rfl
theorem zvk(zs:List Int)(i:Int)(n k:Nat):(cuT zs i n k).length<=k:=by
 unfold cuT;rw[List.length_map];refine Nat.le_trans (List.length_filter_le _ _) ?_;rw[List.length_range];exact Nat.le_refl _
theorem ybam{zs:List Int}{i n k:Nat}(hi:i<16)(hk:k<=8):UpIn (cuT zs (i:Int) n k):=fun u hu=>by
 unfold cuT at hu;obtain⟨j,hm,rfl⟩:=List.mem_map.1 hu;have:=List.mem_range.1 (List.mem_filter.1 hm).1;exact⟨by show 48<=48+12*(i:Int)+(3+(j:Int));omega,by show 48+12*(i:Int)+(3+(j:Int))<312;omega⟩
theorem zgm{ns:List Ino}{ds:List Den}{s:ByteArray}(I:Img ns ds)(h:(flI ns ds s).2=0):∃ i:Nat,i<16/\(flI ns ds s).1=(i:Int)/\(zan ns i).kind=1:=by
 unfold flI at h ⊢
 by_cases c:(lkI ns ds s).2=0
 ·rw[if_pos c]at h ⊢
  by_cases d:zaj ns (lkI ns ds s).1=1
  ·rw[if_pos d];obtain⟨i,e,hi,_,k⟩:=zmg I c (by rw[d];omega);exact⟨i,hi,e,k⟩
  ·rw[if_neg d]at h;simp at h
 ·rw[if_neg c]at h;exact absurd h c
end Go.Proofs.YtogcbbkhnpmgeaaGreatDoor
