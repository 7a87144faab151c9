import Derived.Test.YtdiaiejmoocpmaaGreatDoorZAS
import Derived.Test.YtdiaiejmoocpmaaGreatDoorZAP
set_option maxRecDepth 100000
set_option maxHeartbeats 4000000
namespace Go.Proofs.YtdiaiejmoocpmaaGreatDoor
open Go.RowKit
theorem zpz(l:List Mi)(m:Mi):mis (l++[m])=mis l++m.cells:=by simp[mis]
theorem zhc(l l':List Mi):mis (l++l')=mis l++mis l':=by simp[mis]
theorem zig(m:Mi):∀ u∈m.cells,u.oneCell'=true:=by
 intro u hu;simp[Mi.cells]at hu
 rcases hu with rfl|rfl|rfl<;>rfl
theorem zcg(l:List Mi):∀ u∈mis l,u.oneCell'=true:=by
 intro u hu;simp only[mis,List.mem_flatMap]at hu;obtain⟨m,_,hm⟩:=hu;exact zig m u hm
theorem zjc(w1:World)(k a x:Int):Rd (w1.alloc (.cells #[.I k,.I a,.I x] 84)) 3 (.slice (some ⟨w1.heap.size,0,none⟩) 1 1) 1 (Mi.cells ⟨k,a,x⟩):=by
 refine⟨rfl,_,_,rfl,⟨Nat.le_refl _,fun e=>by cases e⟩,fun _=>⟨w1.heap.size,0,rfl,by simp,fun j hj=>?_⟩⟩;obtain⟨e0,e1,e2⟩:=zay (zaf (w:=w1) (o:=.cells #[.I k,.I a,.I x] 84) rfl);rw[Nat.zero_add]
 rcases(show j=0\/j=1\/j=2 from by omega)with rfl|rfl|rfl
 ·exact e0
 ·exact e1
 ·exact e2
theorem RdM.form{w:World}{v:Value}{ps:List Mi}(h:RdM w v ps){n:Nat}(hn:ps.length=n):∃ ao cap,v=.slice ao n cap:=by
 obtain⟨ao,cap,e,_⟩:=h.shape;exact⟨ao,cap,hn ▸ e⟩
theorem yahi{w:World}{base:Nat}{e:TypeId}{size:Nat}{v:Value}{n:Nat}{xs:List Value}(h:w.ownsRow base e size v n xs)(k:Nat):(w.drewN k).ownsRow base e size v n xs:=by
 induction k with
 | zero=>exact h
 | succ k ih=>exact ih
theorem yabo{B:Nat}{a w:World}(h:Below B a w)(n:Nat):Below B a (w.drewN n):=by
 induction n with
 | zero=>exact h
 | succ n ih=>exact⟨ih.os,ih.tape,ih.output,ih.size,ih.block⟩
theorem yaic(w:World)(n:Nat):(w.drewN n).heap.size=w.heap.size:=by
 induction n with
 | zero=>rfl
 | succ n ih=>exact ih
def zlt(ks:List Int)(i k:Nat):Bool:=(List.range k).any (fun j=>ks[j]?.getD 0/8 == ks[i]?.getD 0/8)
theorem yacl(ks:List Int)(i k:Nat):zlt ks i (k+1)=(zlt ks i k||(ks[k]?.getD 0/8 == ks[i]?.getD 0/8)):=by
 unfold zlt;rw[List.range_succ,List.any_append];simp
theorem yabr(ks:List Int):∀ i,(nl ks i).length<=i
 | 0=>Nat.le_refl _
 | i+1=>by
  rw[nl]
  split
  ·have:=yabr ks i;omega
  ·have:=yabr ks i;simp;omega
theorem zdw(v:Value)(zs:List Int)(w:World)(h:RdI w v zs)(hn:zs.length<=4096)(hz0:∀ k (h:k<zs.length),0<=zs[k]/\zs[k]<336) :
  zC 69 #[v] w fun e w'=>∃ v',e=.returned v'/\Row w' 84 3 w.heap.size w'.heap.size v' (zbb zs).length (mis (zbb zs))/\zB w w':=by
 obtain⟨aZ,cZ,rfl,_,hcZ⟩:=h.shape;have HZ:=zaa hcZ;have Z0:=zaa hz0;clear h hcZ hz0
 have ho:(w.alloc (.cells #[] 84)).ownsRow w.heap.size 84 3 (.slice (some ⟨w.heap.size,0,none⟩) 0 0) 0 []:=by
  simpa using World.ownsRow_lit (base:=w.heap.size) (e:=84) (size:=3) w #[] 0 (by simp) (by simp) rfl
 have START:=zaa (And.intro ho ((Below.refl w.heap.size w).alloc zL (.cells #[] 84)));clear ho;go_enter Tryz.func69,Tryz.ntmps69;go_wp2
 go_loopw [3,4,5,6] (fun vL i _ _ wr=>∃ m:Nat,m<=zs.length/\i=.I m/\Hid (wr.ownsRow w.heap.size 84 3 vL (nl zs m).length (mis (nl zs m))/\zB w wr)/\w.heap.size<=wr.heap.size) (fun _ i _ _ _=>zs.length-(intOf i).toNat)
 case atStart=>exact⟨0,by omega,rfl,⟨by simpa[nl,mis]using START.o.1,START.o.2⟩,by simp⟩
 case round =>
  obtain⟨m,hm,rfl,I,hz⟩:=hrel
  by_cases hlt:m<zs.length
  ·obtain⟨b,o,rfl,hbl,hcell⟩:=HZ.o (by omega);have CELL:=zaa hcell;clear hcell
   have m0:(0:Int)<=(m:Int):=by omega
   have m1:(m:Int)<(zs.length:Int):=by omega
   go_wp2
   go_loopw [5,6] (fun f kk wr2=>∃ k:Nat,k<=m/\kk=.I k/\f=.bool (zlt zs m k)/\Hid (wr2.ownsRow w.heap.size 84 3 u3 (nl zs m).length (mis (nl zs m))/\zB w wr2)/\w.heap.size<=wr2.heap.size) (fun _ kk _=>m-(intOf kk).toNat)
   case atStart=>exact⟨0,by omega,rfl,rfl,I,hz⟩
   case round =>
    obtain⟨k,hk,rfl,rfl,J,hz2⟩:=hrel
    by_cases hlk:k<m
    ·have k0:(0:Int)<=(k:Int):=by omega
     have k1:(k:Int)<(m:Int):=by omega
     have k2:(k:Int)<(zs.length:Int):=by omega
     have hkz:k<zs.length:=by omega
     have d0:=(J.o.2.cell (p:=⟨b,o+k,none⟩) hbl).trans (CELL.o k hkz);have d1:=(J.o.2.cell (p:=⟨b,o+m,none⟩) hbl).trans (CELL.o m hlt);have p0:=Z0.o k hkz;have p1:=Z0.o m hlt;have SU:=zaa (show zlt zs m (k+1)=(zlt zs m k||(zs[k]/8 == zs[m]/8)) by rw[yacl,List.getElem?_eq_getElem hkz,List.getElem?_eq_getElem hlt];rfl);generalize zs[k]=x at *;generalize zs[m]=y at *;generalize zlt zs m k=fb at *
     rcases(show fb=true\/(fb=false/\(x/8 == y/8)=true)\/(fb=false/\(x/8 == y/8)=false) by cases fb<;>cases (x/8 == y/8)<;>simp)with rfl | ⟨rfl,q⟩ | ⟨rfl,q⟩
     all_goals
      go_wp2
      go_quiet (fail)
      go_wp2
      go_roundw
      case rel=>exact⟨k+1,by omega,by go_num,by rw[SU.o];first | rfl | (rw[q];rfl),⟨yahi J.o.1 _,yabo J.o.2 _⟩,by rw[yaic];exact hz2⟩
      case measure=>simp[intOf];omega
    ·obtain rfl:k=m:=by omega
     by_cases c:zlt zs k k=true
     ·have E:=zaa (show nl zs (k+1)=nl zs k by rw[nl];exact if_pos c);rw[c];clear c;go_wp2
      go_roundw
      case rel=>exact⟨k+1,by omega,by go_num,by rw[E.o];exact J,hz2⟩
      case measure=>simp[intOf];omega
     ·have c':zlt zs k k=false:=by simpa using c
      have d1:=(J.o.2.cell (p:=⟨b,o+k,none⟩) hbl).trans (CELL.o k hlt)
      have E:=zaa (show nl zs (k+1)=nl zs k++[⟨2,zs[k],0⟩] by
       rw[nl]
       have:¬ zrc zs k=true:=fun x=>c x
       rw[if_neg this,List.getElem?_eq_getElem hlt]
       rfl)
      rw[c'];clear c c';generalize zs[k]=y at *;have O2:=zaa (J.o.1.alloc (.cells #[.I 2,.I y,.I 0] 84));have HRD:=zaa (zjc wr 2 y 0);have hle:=yabr zs k;go_wp2_with (at_builtin;refine zae _ rfl (.tmp 35) (.tmp 41) 32 rfl w.heap.size 84 (.agg #[.I 0,.I 0,.I 0]) 3 24 Tryz.underlying32 zbj rfl (by decide) _ _ _ rfl O2.o _ 1 _ rfl HRD.o (zig _) (by simp[maxLen];omega) (by omega) (by simp;omega) ?_);intro vN wN hownN hgrN
      have hl:=fun q hq=>(O2.o.lt q hq).1
      have hzN:=hgrN.size;simp only[World.size_alloc]at hzN
      have G:Hid (wN.ownsRow w.heap.size 84 3 vN (nl zs (k+1)).length (mis (nl zs (k+1)))/\zB w wN):=by
       refine⟨?_,(J.o.2.alloc (by omega) (.cells #[.I 2,.I y,.I 0] 84)).grown hgrN (by simp;omega) (fun q hq=>hl q hq)⟩;rw[E.o,zpz,List.length_append];exact hownN
      clear hownN hgrN hl;go_wp2
      go_roundw
      case rel=>exact⟨k+1,by omega,by go_num,G,by omega⟩
      case measure=>simp[intOf];omega
  ·obtain rfl:m=zs.length:=by omega
   have E:=zaa (show zbb zs=nl zs zs.length++[⟨3,0,0⟩]from rfl);have O2:=zaa (I.o.1.alloc (.cells #[.I 3,.I 0,.I 0] 84));have HRD:=zaa (zjc wr 3 0 0);have hle:=yabr zs zs.length;go_wp2_with (at_builtin;refine zae _ rfl (.tmp 43) (.tmp 45) 32 rfl w.heap.size 84 (.agg #[.I 0,.I 0,.I 0]) 3 24 Tryz.underlying32 zbj rfl (by decide) _ _ _ rfl O2.o _ 1 _ rfl HRD.o (zig _) (by simp[maxLen];omega) (by omega) (by simp;omega) ?_);intro vN wN hownN hgrN
   have hl:=fun q hq=>(O2.o.lt q hq).1
   have G:Hid (wN.ownsRow w.heap.size 84 3 vN (zbb zs).length (mis (zbb zs))/\zB w wN):=by
    refine⟨?_,(I.o.2.alloc (by omega) (.cells #[.I 3,.I 0,.I 0] 84)).grown hgrN (by simp;omega) (fun q hq=>hl q hq)⟩;rw[E.o,zpz,List.length_append];exact hownN
   clear hownN hgrN hl;obtain⟨aL,cL,hvL⟩:=RdM.form (zad G.o.1).rd rfl;subst hvL;go_wp2;go_ret;exact⟨_,rfl,zad G.o.1,G.o.2⟩
def allP(zs:List Int):Bool:=decide (∀ k (h:k<zs.length),0<=zs[k]/\zs[k]<336)
def flC(zs:List Int):Int:=if 4096<zs.length then 2 else if 50<zs.length then 6 else if allP zs=true then 0 else 14
def fpL(zs:List Int):List Mi:=if flC zs=0 then zbb zs else[]
theorem yaee(zs:List Int):(4096<zs.length/\flC zs=2/\fpL zs=[])\/(¬ 4096<zs.length/\50<zs.length/\flC zs=6/\fpL zs=[])\/(¬ 4096<zs.length/\¬ 50<zs.length/\allP zs=false/\flC zs=14/\fpL zs=[])\/(¬ 4096<zs.length/\¬ 50<zs.length/\allP zs=true/\flC zs=0/\fpL zs=zbb zs):=by
 by_cases c1:4096<zs.length
 ·have e:flC zs=2:=by unfold flC;rw[if_pos c1]
  exact .inl ⟨c1,e,by unfold fpL;rw[e];rfl⟩
 ·by_cases c2:50<zs.length
  ·have e:flC zs=6:=by unfold flC;rw[if_neg c1,if_pos c2]
   exact .inr (.inl ⟨c1,c2,e,by unfold fpL;rw[e];rfl⟩)
  ·by_cases c3:allP zs=true
   ·have e:flC zs=0:=by unfold flC;rw[if_neg c1,if_neg c2,if_pos c3]
    exact .inr (.inr (.inr ⟨c1,c2,c3,e,by unfold fpL;rw[e];rfl⟩))
   ·have c3':allP zs=false:=by simpa using c3
    have e:flC zs=14:=by unfold flC;rw[if_neg c1,if_neg c2,c3'];rfl
    exact .inr (.inr (.inl ⟨c1,c2,c3',e,by unfold fpL;rw[e];rfl⟩))
theorem zbi(zs:List Int):(zbb zs).length<=zs.length+1:=by
 unfold zbb;have:=yabr zs zs.length;simp;omega
theorem zst(w:World)(t:TypeId)(size:Nat):Row (w.alloc (.cells #[] t)) t size w.heap.size (w.alloc (.cells #[] t)).heap.size (.slice (some ⟨w.heap.size,0,none⟩) 0 0) 0 [] :=
 zad (by simpa using World.ownsRow_lit (base:=w.heap.size) (e:=t) (size:=size) w #[] 0 (by simp) (by simp) (by simp))
theorem zds(a x:Int)(w:World):zC 68 #[.I a,.I x] w fun e w'=>e=.returned (.agg #[.I 1,.I a,.I x])/\zB w w':=by
 go_enter Tryz.func68,Tryz.ntmps68;go_wp2;refine bodyPost_ret (v:=.agg #[.I 1,.I a,.I x]) (by simp[results,Tryz.results68,go_sem]) rfl ⟨rfl,?_⟩
 repeat (refine Below.alloc ?_ (by simp<;>omega) _)
 exact zR
def upsB(us:List Se):Bool:=decide (∀ k (h:k<us.length),(48<=us[k].at_/\us[k].at_<336)/\0<=us[k].val/\us[k].val<1099511627776)
def zdt(us:List Se):List St:=us.map (fun s=>up s.at_ s.val)
theorem zbo(us:List Se):(zdt us).length=us.length:=by simp[zdt]
theorem zwi(us:List Se)(k:Nat)(h:k<us.length):(zdt us)[k]?=some (up us[k].at_ us[k].val):=by simp[zdt,h]
def apM(us:List Se)(m:Nat):List Mi:=((zdt us).take m).map stM
def apP(us:List Se)(m:Nat):List Int:=((zdt us).take m).map (·.at_)
theorem yacv(us:List Se)(m:Nat):(apM us m).length<=m:=by simp[apM];omega
theorem yalp(us:List Se)(m:Nat):(apP us m).length<=m:=by simp[apP];omega
theorem zna{α:Type}(l:List α)(m:Nat)(x:α)(h:l[m]?=some x):l.take (m+1)=l.take m++[x]:=by
 rw[List.take_add_one,h];rfl
theorem yage(us:List Se)(m:Nat)(h:m<us.length):apM us (m+1)=apM us m++[⟨1,us[m].at_,us[m].val⟩]:=by
 unfold apM;rw[zna _ _ _ (zwi us m h),List.map_append];rfl
theorem yarv(us:List Se)(m:Nat)(h:m<us.length):apP us (m+1)=apP us m++[us[m].at_]:=by
 unfold apP;rw[zna _ _ _ (zwi us m h),List.map_append];rfl
theorem yadm(us:List Se):apM us us.length=(zdt us).map stM:=by unfold apM;rw[List.take_of_length_le (by rw[zbo];omega)]
theorem yawr(us:List Se):apP us us.length=(zdt us).map (·.at_):=by unfold apP;rw[List.take_of_length_le (by rw[zbo];omega)]
theorem yapn(us:List Se)(m:Nat)(hz:∀ k (h:k<us.length),0<=us[k].at_/\us[k].at_<336):∀ k (h:k<(apP us m).length),0<=(apP us m)[k]/\(apP us m)[k]<336:=by
 intro k h;have h':=h;simp only[apP,List.length_map,List.length_take,zbo]at h';have:=hz k (by omega);simpa[apP,zdt,up]using this
structure PlI(w0 w:World)(vL vP:Value)(ls:List Mi)(ps:List Int):Prop where
 l:w.ownsRow w0.heap.size 84 3 vL ls.length (mis ls)
 p:w.ownsRow w0.heap.size 3 1 vP ps.length (zcl ps)
 b:zB w0 w
 z:w0.heap.size<=w.heap.size
theorem yban:(3:Nat)≠84:=by decide
theorem PlI.below{w0 w w':World}{vL vP:Value}{ls:List Mi}{ps:List Int}(h:PlI w0 w vL vP ls ps)(hb:zB w w'):PlI w0 w' vL vP ls ps :=
 ⟨((zad h.l).below hb zL).1,((zad h.p).below hb zL).1,zab h.b hb h.z,Nat.le_trans h.z hb.size⟩
theorem PlI.growL{w0 w w':World}{vL vP v':Value}{ls:List Mi}{ps:List Int}(h:PlI w0 w vL vP ls ps)(ms:List Mi)(ho:w'.ownsRow w0.heap.size 84 3 v' (ls.length+ms.length) (mis ls++mis ms))(hg:w.grownBy w' vL.ownBlock):PlI w0 w' v' vP (ls++ms) ps :=
 ⟨by rw[zhc,List.length_append];exact ho,(Row.apart (zad h.p) (zad h.l) yban hg).1,h.b.grown hg h.z (fun q hq=>(h.l.lt q hq).1),Nat.le_trans h.z hg.size⟩
theorem PlI.growP{w0 w w':World}{vL vP v':Value}{ls:List Mi}{ps:List Int}(h:PlI w0 w vL vP ls ps)(ks:List Int)(ho:w'.ownsRow w0.heap.size 3 1 v' (ps.length+ks.length) (zcl ps++zcl ks))(hg:w.grownBy w' vP.ownBlock):PlI w0 w' vL v' ls (ps++ks) :=
 ⟨(Row.apart (zad h.l) (zad h.p) (Ne.symm yban) hg).1,by rw[List.length_append,show zcl (ps++ks)=zcl ps++zcl ks by simp[zcl]];exact ho,h.b.grown hg h.z (fun q hq=>(h.p.lt q hq).1),Nat.le_trans h.z hg.size⟩
theorem zdx{w w':World}(h:Below w.drew.heap.size w.drew w'):zB w w':=zab ((Below.refl w.heap.size w).drew) h zL
theorem zkv(w1:World)(x:Int):RdI (w1.alloc (.cells #[.I x] 3)) (.slice (some ⟨w1.heap.size,0,none⟩) 1 1) [x]:=by
 refine⟨rfl,_,_,rfl,⟨Nat.le_refl _,fun e=>by cases e⟩,fun _=>⟨w1.heap.size,0,rfl,by simp,fun j hj=>?_⟩⟩
 obtain rfl:j=0:=by simp at hj;omega
 have e:=zaf (w:=w1) (o:=.cells #[.I x] 3) rfl;unfold World.cell?;simp only[e];rfl
theorem zjr(m:Mi):mis [m]=m.cells:=by simp[mis]
theorem zyt(v:Value)(us:List Se)(w:World)(h:RdE w v us)(hn:us.length<=64)(hz0:∀ k (h:k<us.length),0<=us[k].at_/\us[k].at_<336) :
  zC 120 #[v] w fun e w'=>∃ v',e=.returned v'/\Row w' 84 3 w.heap.size w'.heap.size v' (zis (zdt us)).length (mis (zis (zdt us)))/\zB w w':=by
 obtain⟨aZ,cZ,rfl,_,hcZ⟩:=h.shape;have HZ:=zaa hcZ;have Z0:=zaa hz0;clear h hcZ hz0
 have START:Hid (PlI w ((w.alloc (.cells #[] 84)).alloc (.cells #[] 3)) (.slice (some ⟨w.heap.size,0,none⟩) 0 0) (.slice (some ⟨w.heap.size+1,0,none⟩) 0 0) [] []):=by
  refine⟨?_,?_,((Below.refl w.heap.size w).alloc zL _).alloc (by simp) _,by simp<;>omega⟩
  ·exact((zst w 84 3).alloc zL _).1
  ·simpa[zcl]using World.ownsRow_lit (base:=w.heap.size) (e:=3) (size:=1) (w.alloc (.cells #[] 84)) #[] 0 (by simp) (by simp) (by simp)
 go_enter Tryz.func120,Tryz.ntmps120;go_wp2
 go_loopw [3,4,5] (fun vL vP i wr=>∃ m:Nat,m<=us.length/\i=.I m/\Hid (PlI w wr vL vP (apM us m) (apP us m))/\w.heap.size<=wr.heap.size) (fun _ _ i _=>us.length-(intOf i).toNat)
 case atStart=>exact⟨0,by omega,rfl,by simpa[apM,apP]using START,by simp<;>omega⟩
 case round =>
  obtain⟨m,hm,rfl,J,hz⟩:=hrel
  by_cases hlt:m<us.length
  ·obtain⟨b,o,rfl,hbl,hcell⟩:=HZ.o (by omega);have C0:=(J.o.b.cell (p:=⟨b,o+m*2,none⟩) hbl).trans (hcell m hlt).1;have C1:=(J.o.b.cell (p:=⟨b,o+m*2+1,none⟩) hbl).trans (hcell m hlt).2;have EM:=zaa (yage us m hlt);have EP:=zaa (yarv us m hlt);have l1:=yacv us m;have l2:=yalp us m
   have hbr:b<wr.heap.size:=by omega
   have DW:=zaa (hcell m hlt);clear hcell
   have m0:(0:Int)<=(m:Int):=by omega
   have m1:(m:Int)<(us.length:Int):=by omega
   generalize us[m].at_=x at *;generalize us[m].val=y at *;go_wp2_with fail
   go_region_held3 (fun w'=>w'.cell? ⟨b,o+m*2,none⟩=some (.I x)/\w'.cell? ⟨b,o+m*2+1,none⟩=some (.I y)) (first | exact⟨C0,C1⟩ | exact⟨s0,s1⟩ | exact⟨r0,r1⟩ | exact⟨q0,q1⟩)
    (first
     | (go_at_call 68;refine(zds _ _ _).mono ?_;rintro e w1 ⟨rfl,hb1⟩;have hb1':=zdx hb1;have q0:=(hb1'.cell (p:=⟨b,o+m*2,none⟩) hbr).trans C0;have q1:=(hb1'.cell (p:=⟨b,o+m*2+1,none⟩) hbr).trans C1;have P1:=zaa ((J.o.below hb1').below (zR.alloc zL (.cells #[.I 1,.I x,.I y] 84)));have HRD:=zaa (zjc w1 1 x y);have r0:=(P1.o.b.cell (p:=⟨b,o+m*2,none⟩) hbl).trans DW.o.1;have r1:=(P1.o.b.cell (p:=⟨b,o+m*2+1,none⟩) hbl).trans DW.o.2;have hz1:=P1.o.z;clear hb1 hb1')
     | (refine zap rfl (.tmp 14) (.tmp 26) 32 rfl w.heap.size 84 (.agg #[.I 0,.I 0,.I 0]) 3 24 Tryz.underlying32 zbj rfl (by decide) _ _ _ rfl P1.o.l _ 1 _ rfl HRD.o (zig _) (by simp[maxLen];omega) (by omega) hz1 ?_;intro vN wN hownN hgrN;have G:=zaa (P1.o.growL [⟨1,x,y⟩] (by rw[zjr];exact hownN) hgrN);have s0:=(G.o.b.cell (p:=⟨b,o+m*2,none⟩) hbl).trans DW.o.1;have s1:=(G.o.b.cell (p:=⟨b,o+m*2+1,none⟩) hbl).trans DW.o.2;clear hownN hgrN))
   all_goals
    have hzG:=G.o.z;clear C0 C1 q0 q1 r0 r1 P1 HRD J;have P2:=zaa (G.o.below (zR.alloc zL (.cells #[.I x] 3)));have HR2:=zaa (zkv wN x);have hz2:=P2.o.z;clear G;go_wp2_with (at_builtin;refine zae _ rfl (.tmp 28) (.tmp 34) 23 rfl w.heap.size 3 (.I 0) 1 8 Tryz.underlying23 zim rfl (by decide) _ _ _ rfl P2.o.p _ 1 _ rfl HR2.o (zeg _) (by simp[maxLen];omega) (by omega) hz2 ?_);intro vQ wQ hownQ hgrQ;have G2:=zaa (P2.o.growP [x] hownQ hgrQ);rw[<- EM.o,<- EP.o]at G2;have hz3:=G2.o.z;clear hownQ hgrQ P2 HR2;go_wp2
    go_roundw
    case rel=>exact⟨m+1,by omega,by go_num,G2,hz3⟩
    case measure=>simp[intOf];omega
  ·obtain rfl:m=us.length:=by omega
   have PL:=zaa (yapn us us.length Z0.o);have l1:=yacv us us.length;have l2:=yalp us us.length
   have EE:=zaa (show zis (zdt us)=apM us us.length++zbb (apP us us.length)++[⟨1,8,0⟩]++zbb [8] by
    rw[yadm,yawr];simp[zis,seg,cnt,stM])
   have l3:=zbi (apP us us.length);have l4:=zbi [8];simp only[List.length_cons,List.length_nil]at l4;generalize apM us us.length=A at *;generalize apP us us.length=B at *;go_wp2_with fail;refine(zdw _ B _ (zad J.o.p).rd (by omega) PL.o).mono ?_;rintro e w1 ⟨v1,rfl,hr1,hb1⟩;have P1:=zaa (J.o.below hb1);have R1:=zaa hr1.rd;have hz1:=P1.o.z;clear hr1 hb1 J;go_wp2_with (at_builtin;refine zae _ rfl (.tmp 36) (.tmp 38) 32 rfl w.heap.size 84 (.agg #[.I 0,.I 0,.I 0]) 3 24 Tryz.underlying32 zbj rfl (by decide) _ _ _ rfl P1.o.l _ _ _ rfl R1.o (zcg _) (by simp[maxLen];omega) (by omega) hz1 ?_);intro v2 w2 hown2 hgr2;have P2:=zaa (P1.o.growL _ hown2 hgr2);have hz2:=P2.o.z
   have l5:(A++zbb B).length<=200:=by simp;omega
   generalize A++zbb B=C at *;clear hown2 hgr2 P1 R1;go_wp2_with fail;refine(zds _ _ _).mono ?_;rintro e w3 ⟨rfl,hb3⟩;have P3:=zaa ((P2.o.below hb3).below (zR.alloc zL (.cells #[.I 1,.I 8,.I 0] 84)));have R3:=zaa (zjc w3 1 8 0);have hz3:=P3.o.z;clear hb3 P2;go_wp2_with (at_builtin;refine zae _ rfl (.tmp 40) (.tmp 42) 32 rfl w.heap.size 84 (.agg #[.I 0,.I 0,.I 0]) 3 24 Tryz.underlying32 zbj rfl (by decide) _ _ _ rfl P3.o.l _ 1 _ rfl R3.o (zig _) (by simp[maxLen];omega) (by omega) hz3 ?_);intro v4 w4 hown4 hgr4;have P4:=zaa (P3.o.growL [⟨1,8,0⟩] (by rw[zjr];exact hown4) hgr4)
   have l6:(C++[(⟨1,8,0⟩:Mi)]).length<=201:=by simp;omega
   generalize C++[(⟨1,8,0⟩:Mi)]=D at *;have P5:=zaa (P4.o.below (zR.alloc zL (.cells #[.I 8] 3)));have R5:=zaa (zkv w4 8);clear hown4 hgr4 P3 R3 P4;go_wp2_with fail;refine(zdw _ [8] _ R5.o (by simp) (by intro k h;simp at h;subst h;simp)).mono ?_;rintro e w6 ⟨v6,rfl,hr6,hb6⟩;have P6:=zaa (P5.o.below hb6);have R6:=zaa hr6.rd;have hz6:=P6.o.z;clear hr6 hb6 P5 R5;go_wp2_with (at_builtin;refine zae _ rfl (.tmp 44) (.tmp 46) 32 rfl w.heap.size 84 (.agg #[.I 0,.I 0,.I 0]) 3 24 Tryz.underlying32 zbj rfl (by decide) _ _ _ rfl P6.o.l _ _ _ rfl R6.o (zcg _) (by simp[maxLen];omega) (by omega) hz6 ?_);intro v7 w7 hown7 hgr7;have P7:=zaa (P6.o.growL _ hown7 hgr7);rw[<- EE.o]at P7;obtain⟨aL,cL,hvL⟩:=RdM.form (zad P7.o.l).rd rfl;subst hvL;clear hown7 hgr7 P6 R6;go_wp2;go_ret;exact⟨_,rfl,zad P7.o.l,P7.o.b⟩
theorem zva{ls ls':List Int}{ws:List Ino}{ps:List Den}(h:Wi ls ws ps)(hl:ls'.length=336)(ag:∀ z:Int,z=0\/(48<=z/\z<312)->wdI ls' z=wdI ls z):Wi ls' ws ps:=by
 refine⟨hl,?_,?_,?_,?_,h.img⟩
 ·rw[ag 0 (.inl rfl)];exact h.mark
 ·have g:=h.good;unfold zch at g ⊢;rw[List.all_eq_true]at g ⊢;intro k hk;have q:=g k hk;have:=List.mem_range.1 hk;unfold zby at q ⊢;rw[ag _ (.inr (by omega)),ag _ (.inr (by omega)),ag _ (.inr (by omega))];exact q
 ·rw[<- h.inos];unfold zbc;apply List.map_congr_left;intro i hi;have:=List.mem_range.1 hi;unfold zej;rw[ag _ (.inr (by omega)),ag _ (.inr (by omega)),ag _ (.inr (by omega)),ag _ (.inr (by omega)),ag _ (.inr (by omega)),ag _ (.inr (by omega)),ag _ (.inr (by omega)),ag _ (.inr (by omega)),ag _ (.inr (by omega)),ag _ (.inr (by omega)),ag _ (.inr (by omega))]
 ·rw[<- h.dens];unfold zbh;apply List.map_congr_left;intro i hi;have:=List.mem_range.1 hi;unfold zgi;rw[ag _ (.inr (by omega)),ag _ (.inr (by omega)),ag _ (.inr (by omega))]
theorem yayi(us:List Se):∀ ls:List Int,zbs ls (zdt us)=zdl ls us:=by
 induction us with
 | nil=>intro ls;rfl
 | cons u us ih=>intro ls;exact ih _
theorem yacq{z:Int}(hz:0<=z):∀ (S:List St) (ls:List Int),(∀ p∈S,0<=p.at_/\p.at_<(ls.length:Int)/\¬ p.at_=z)->wdI (zbs ls S) z=wdI ls z:=by
 intro S
 induction S with
 | nil=>intro ls _;rfl
 | cons p S ih =>
  intro ls h
  show wdI (zbs (ls.set p.at_.toNat p.val) S) z=_
  rw[ih _ (fun q hq=>by rw[List.length_set];exact h q (List.mem_cons_of_mem _ hq))];obtain⟨a,b,c⟩:=h p (List.mem_cons_self ..);rw[zfa a b hz,if_neg (fun e=>c e.symm)]
def zlp(ls:List Int)(us:List Se):List Int:=if us.length=0 then ls else zbs (zbs (zbs (zbs ls (jrn 0 (zdt us))) (cnt (us.length:Int))) (zdt us)) (cnt 0)
theorem znc(ls:List Int)(us:List Se):zot (ls,[]) (zdc (zdt us))=(zlp ls us,[]):=by
 unfold zdc zlp zis;rw[zbo]
 by_cases h:us.length=0
 ·rw[if_pos h,if_pos h];rfl
 ·rw[if_neg h,if_neg h,zdi,zdi,zdi,zjb,zjb,zjb,zjb]
theorem yapj(ls:List Int)(us:List Se):(zlp ls us).length=ls.length:=by
 unfold zlp
 split
 ·rfl
 ·rw[zcp,zcp,zcp,zcp]
theorem yaen{ls:List Int}{us:List Se}(hl:ls.length=336)(h16:us.length<=16)(ui:UpIn us){z:Int}(hz:z=0\/(48<=z/\z<336)):wdI (zlp ls us) z=wdI (zdl ls us) z:=by
 have hz0:0<=z:=by omega
 unfold zlp
 by_cases h:us.length=0
 ·rw[if_pos h,List.eq_nil_of_length_eq_zero h];rfl
 ·rw[if_neg h,yacq hz0 (cnt 0) _ (fun p hp=>by
   rw[List.mem_singleton.1 hp,zcp,zcp,zcp,hl]
   exact⟨by show(0:Int)<=8;omega,by show(8:Int)<336;omega,by show ¬ (8:Int)=z;omega⟩),yayi]
  have same:∀ (us:List Se) (a b:List Int),a.length=336->b.length=336->UpIn us->wdI a z=wdI b z->wdI (zdl a us) z=wdI (zdl b us) z:=by
   intro us
   induction us with
   | nil=>intro a b _ _ _ e;exact e
   | cons u us ih =>
    intro a b ha hb ui e;have q:=ui u (List.mem_cons_self ..);refine ih _ _ (by rw[List.length_set];exact ha) (by rw[List.length_set];exact hb) (fun v hv=>ui v (List.mem_cons_of_mem _ hv)) ?_;rw[zfa (by omega) (by omega) hz0,zfa (by omega) (by omega) hz0,e]
  refine same us _ _ (by rw[zcp,zcp];exact hl) hl ui ?_
  rw[yacq hz0 (cnt (us.length:Int)) _ (fun p hp=>by
   rw[List.mem_singleton.1 hp,zcp,hl]
   exact⟨by show(0:Int)<=8;omega,by show(8:Int)<336;omega,by show ¬ (8:Int)=z;omega⟩)]
  rw[yacq hz0 (jrn 0 (zdt us)) _ (fun p hp=>by
   have:=yapd (zdt us) 0 p hp;rw[zbo]at this;rw[hl]
   exact⟨by omega,by omega,by omega⟩)]
theorem zrz{ls:List Int}{us:List Se}(hl:ls.length=336)(c:wdI ls 8=0):wdI (zlp ls us) 8=0:=by
 unfold zlp
 by_cases h:us.length=0
 ·rw[if_pos h];exact c
 ·rw[if_neg h]
  show wdI ((zbs (zbs (zbs ls (jrn 0 (zdt us))) (cnt (us.length:Int))) (zdt us)).set (8:Int).toNat 0) 8=0
  rw[zfa (by omega) (by rw[zcp,zcp,zcp,hl];omega) (by omega),if_pos rfl]
theorem yamf{ls:List Int}{us:List Se}{ws:List Ino}{ps:List Den}(hl:ls.length=336)(h16:us.length<=16)(ui:UpIn us)(h:Wi (zdl ls us) ws ps):Wi (zlp ls us) ws ps :=
 zva h (by rw[yapj];exact hl) (fun z hz=>yaen hl h16 ui (by omega))
def ldW(ws:List Int)(ps:List St)(k:Nat):Int:=zli (k:Int) (ws[k]?.getD 0) ps
theorem yazs{ws:List Int}{ps:List St}{k:Nat}(h:k<ws.length):ldW ws ps k=zli (k:Int) ws[k] ps:=by unfold ldW;simp[h]
def RdBlk(w:World)(v:Value)(ws:List Int)(ps:List Se):Prop:=∃ vW vP,v=.agg #[vW,vP]/\RdI w vW ws/\RdE w vP ps
def RowZ(w:World)(lo hi:Nat)(v:Value)(n:Nat)(xs:List Value):Prop:=∃ e,e≠153/\Row w e 1 lo hi v n xs
theorem RowZ.rd{w:World}{lo hi:Nat}{v:Value}{n:Nat}{xs:List Value}(h:RowZ w lo hi v n xs):Rd w 1 v n xs:=by
 obtain⟨_,_,h⟩:=h;exact h.rd
theorem RowZ.same{w w':World}{lo hi:Nat}{v:Value}{n:Nat}{xs:List Value}(h:RowZ w lo hi v n xs)(hs:∀ b,lo<=b->b<hi->w'.heap[b]?=w.heap[b]?):RowZ w' lo hi v n xs:=by
 obtain⟨e,he,h⟩:=h;exact⟨e,he,h.same hs⟩
theorem RowZ.below{w w':World}{lo hi:Nat}{v:Value}{n:Nat}{xs:List Value}(h:RowZ w lo hi v n xs){B:Nat}(hb:Below B w w')(hB:hi<=B):RowZ w' lo hi v n xs:=by
 obtain⟨e,he,h⟩:=h;exact⟨e,he,h.below hb hB⟩
theorem RowZ.outside{w w':World}{lo hi:Nat}{v:Value}{n:Nat}{xs:List Value}(h:RowZ w lo hi v n xs){lo' hi':Nat}(ho:Outside lo' hi' w w')(hd:hi<=lo'\/hi'<=lo)(hz:hi<=w.heap.size):RowZ w' lo hi v n xs:=by
 obtain⟨e,he,h⟩:=h;exact⟨e,he,h.outside ho hd hz⟩
theorem RowZ.wide{w:World}{lo hi:Nat}{v:Value}{n:Nat}{xs:List Value}(h:RowZ w lo hi v n xs){lo' hi':Nat}(h1:lo'<=lo)(h2:hi<=hi'):RowZ w lo' hi' v n xs:=by
 obtain⟨e,he,h⟩:=h;exact⟨e,he,h.wide h1 h2⟩
theorem RowZ.nil(w:World)(lo hi:Nat):RowZ w lo hi (.N) 0 []:=⟨3,by decide,Row.nil _ _ _ _ _⟩
theorem Row.z{w:World}{lo hi:Nat}{v:Value}{n:Nat}{xs:List Value}(h:Row w 3 1 lo hi v n xs):RowZ w lo hi v n xs:=⟨3,by decide,h⟩
def RowBlk(w:World)(lo hi:Nat)(v:Value)(ws:List Int)(ps:List Se):Prop:=∃ vW vP,v=.agg #[vW,vP]/\RowZ w lo hi vW ws.length (zcl ws)/\Row w 153 2 lo hi vP ps.length (ses ps)
theorem RowBlk.rd{w:World}{lo hi:Nat}{v:Value}{ws:List Int}{ps:List Se}(h:RowBlk w lo hi v ws ps):RdBlk w v ws ps:=by
 obtain⟨vW,vP,rfl,h1,h2⟩:=h;exact⟨vW,vP,rfl,h1.rd,h2.rd⟩
theorem RdBlk.below{w w':World}{v:Value}{ws:List Int}{ps:List Se}(h:RdBlk w v ws ps)(hb:zB w w'):RdBlk w' v ws ps:=by
 obtain⟨vW,vP,rfl,h1,h2⟩:=h;exact⟨vW,vP,rfl,Rd.below h1 hb,Rd.below h2 hb⟩
theorem RowBlk.below{w w':World}{lo hi:Nat}{v:Value}{ws:List Int}{ps:List Se}(h:RowBlk w lo hi v ws ps){B:Nat}(hb:Below B w w')(hB:hi<=B):RowBlk w' lo hi v ws ps:=by
 obtain⟨vW,vP,rfl,h1,h2⟩:=h;exact⟨vW,vP,rfl,h1.below hb hB,h2.below hb hB⟩
theorem RowBlk.outside{w w':World}{lo hi:Nat}{v:Value}{ws:List Int}{ps:List Se}(h:RowBlk w lo hi v ws ps){lo' hi':Nat}(ho:Outside lo' hi' w w')(hd:hi<=lo'\/hi'<=lo)(hz:hi<=w.heap.size):RowBlk w' lo hi v ws ps:=by
 obtain⟨vW,vP,rfl,h1,h2⟩:=h;exact⟨vW,vP,rfl,h1.outside ho hd hz,h2.outside ho hd hz⟩
theorem RowBlk.wide{w:World}{lo hi:Nat}{v:Value}{ws:List Int}{ps:List Se}(h:RowBlk w lo hi v ws ps){lo' hi':Nat}(h1:lo'<=lo)(h2:hi<=hi'):RowBlk w lo' hi' v ws ps:=by
 obtain⟨vW,vP,rfl,a,b⟩:=h;exact⟨vW,vP,rfl,a.wide h1 h2,b.wide h1 h2⟩
def zdk(ws:List Int)(ps:List Se):Bool:=decide (ws.length=32/\ps.length<=400/\(∀ k (h:k<ws.length),zat ws[k]=true)/\∀ k (h:k<ps.length),zmm ps[k].at_=true/\zat ps[k].val=true)
theorem yadt{ws:List Int}{ps:List Se}(h1:ws.length=32)(h2:ps.length<=400)(h3:∀ k (h:k<ws.length),zat ws[k]=true)(h4:∀ k (h:k<ps.length),zmm ps[k].at_=true/\zat ps[k].val=true):zdk ws ps=true:=decide_eq_true ⟨h1,h2,h3,h4⟩
theorem zcj{ws:List Int}{ps:List Se}(h:zdk ws ps=true):ws.length=32/\ps.length<=400:=⟨(of_decide_eq_true h).1,(of_decide_eq_true h).2.1⟩
theorem yamq{ws:List Int}{ps:List Se}(h:zdk ws ps=true)(k:Nat)(hk:k<ws.length):zat ws[k]=true:=(of_decide_eq_true h).2.2.1 k hk
theorem zni{ws:List Int}{ps:List Se}(h:zdk ws ps=true)(k:Nat)(hk:k<ps.length):zmm ps[k].at_=true/\zat ps[k].val=true:=(of_decide_eq_true h).2.2.2 k hk
theorem zyb{ws:List Int}{ps:List Se}(h:¬ ws.length=32):zdk ws ps=false:=decide_eq_false (fun x=>h x.1)
theorem zyo{ws:List Int}{ps:List Se}(h:400<ps.length):zdk ws ps=false:=decide_eq_false (fun x=>absurd x.2.1 (by omega))
theorem yavg{ws:List Int}{ps:List Se}{k:Nat}(hk:k<ws.length)(h:zat ws[k]=false):zdk ws ps=false:=decide_eq_false (fun x=>by have:=x.2.2.1 k hk;rw[h]at this;cases this)
theorem yavc{ws:List Int}{ps:List Se}{k:Nat}(hk:k<ps.length)(h:zmm ps[k].at_=false):zdk ws ps=false:=decide_eq_false (fun x=>by have:=(x.2.2.2 k hk).1;rw[h]at this;cases this)
theorem yavs{ws:List Int}{ps:List Se}{k:Nat}(hk:k<ps.length)(h:zat ps[k].val=false):zdk ws ps=false:=decide_eq_false (fun x=>by have:=(x.2.2.2 k hk).2;rw[h]at this;cases this)
theorem zvf(v:Value)(ws:List Int)(ps:List Se)(w:World)(h:RdBlk w v ws ps)(hw:ws.length<=1048576)(hp:ps.length<=1048576) :
  zC 114 #[v] w fun e w'=>e=.returned (.bool (zdk ws ps))/\zB w w':=by
 obtain⟨vW,vP,rfl,h1,h2⟩:=h;obtain⟨aW,cW,rfl,_,hcW⟩:=h1.shape;obtain⟨aP,cP,rfl,_,hcP⟩:=h2.shape;clear h1 h2;have hb0:zB w (w.alloc (.cells #[.slice aW ws.length cW,.slice aP ps.length cP] 29)):=zR.alloc zL _
 by_cases c1:ws.length=32
 case neg =>
  have E:=zaa (zyb (ps:=ps) c1)
  have c1':((ws.length:Int) != 32)=true:=by simp;omega
  clear c1;go_enter Tryz.func114,Tryz.ntmps114;go_wp2;go_ret;exact⟨zag E.o.symm,hb0⟩
 have c1n:((ws.length:Int) != 32)=false:=by simp;omega
 have hpos:0<ws.length:=by omega
 have C1:=zaa c1;clear c1
 by_cases c2:400<ps.length
 ·have E:=zaa (zyo (ws:=ws) c2);go_enter Tryz.func114,Tryz.ntmps114;go_wp2;go_ret;exact⟨zag E.o.symm,hb0⟩
 obtain⟨b,o,rfl,hbl,hcell⟩:=hcW hpos;clear hcW hpos;go_enter Tryz.func114,Tryz.ntmps114;go_wp2
 go_loop [3] (fun i=>∃ k:Nat,k<=ws.length/\i=.I k/\Hid (∀ j (h:j<ws.length),j<k->zat ws[j]=true)) (fun i=>ws.length-(intOf i).toNat)
 case atStart=>exact⟨0,by omega,rfl,fun j h a=>absurd a (by omega)⟩
 case round =>
  obtain⟨k,hk,rfl,H⟩:=hrel
  by_cases hlt:k<ws.length
  ·have hck:=(hb0.cell (p:=⟨b,o+k,none⟩) hbl).trans (hcell k hlt);clear hcell hcP
   by_cases q:zat ws[k]=true
   ·go_wp2_with (go_at_call 66;refine(zci _ _).mono ?_;rintro e w' ⟨rfl,rfl⟩)
    go_round
    case rel =>
     refine⟨k+1,by omega,by go_num,fun j h a=>?_⟩
     by_cases e:j=k
     ·subst e;exact q
     ·exact H.o j h (by omega)
    case measure=>simp[intOf];omega
   ·have q':zat ws[k]=false:=by simpa using q
    have E:=zaa (yavg (ps:=ps) hlt q');go_wp2_with (go_at_call 66;refine(zci _ _).mono ?_;rintro e w' ⟨rfl,rfl⟩);go_ret;exact⟨zag E.o.symm,hb0⟩
  ·have HW:=zaa (fun j (h:j<ws.length)=>H.o j h (by omega));clear H hcell;go_wp2
   go_loop [4] (fun i=>∃ k:Nat,k<=ps.length/\i=.I k/\Hid (∀ j (h:j<ps.length),j<k->zmm ps[j].at_=true/\zat ps[j].val=true)) (fun i=>ps.length-(intOf i).toNat)
   case atStart=>exact⟨0,by omega,rfl,fun j h a=>absurd a (by omega)⟩
   case round =>
    obtain⟨m,hm,rfl,H⟩:=hrel
    by_cases hlt2:m<ps.length
    ·obtain⟨b2,o2,rfl,hbl2,hcell2⟩:=hcP (by omega);obtain⟨d0,d1⟩:=hcell2 m hlt2;have e0:=(hb0.cell (p:=⟨b2,o2+m*2,none⟩) hbl2).trans d0;have e1:=(hb0.cell (p:=⟨b2,o2+m*2+1,none⟩) hbl2).trans d1;clear d0 d1 hcell2 hcP
     by_cases q:zmm ps[m].at_=true
     ·by_cases q2:zat ps[m].val=true
      ·go_wp2_with (first | (go_at_call 65;refine(zjd _ _).mono ?_;rintro e w' ⟨rfl,rfl⟩) | (go_at_call 66;refine(zci _ _).mono ?_;rintro e w' ⟨rfl,rfl⟩))
       go_round
       case rel =>
        refine⟨m+1,by omega,by go_num,fun j h a=>?_⟩
        by_cases e:j=m
        ·subst e;exact⟨q,q2⟩
        ·exact H.o j h (by omega)
       case measure=>simp[intOf];omega
      ·have q2':zat ps[m].val=false:=by simpa using q2
       have E:=zaa (yavs (ws:=ws) hlt2 q2');go_wp2_with (first | (go_at_call 65;refine(zjd _ _).mono ?_;rintro e w' ⟨rfl,rfl⟩) | (go_at_call 66;refine(zci _ _).mono ?_;rintro e w' ⟨rfl,rfl⟩));go_ret;exact⟨zag E.o.symm,hb0⟩
     ·have q':zmm ps[m].at_=false:=by simpa using q
      have E:=zaa (yavc (ws:=ws) hlt2 q');go_wp2_with (first | (go_at_call 65;refine(zjd _ _).mono ?_;rintro e w' ⟨rfl,rfl⟩) | (go_at_call 66;refine(zci _ _).mono ?_;rintro e w' ⟨rfl,rfl⟩));go_ret;exact⟨zag E.o.symm,hb0⟩
    ·have E:=zaa (yadt C1.o (by omega) HW.o (fun j h=>H.o j h (by omega)));go_wp2;go_ret;exact⟨zag E.o.symm,hb0⟩
end Go.Proofs.YtdiaiejmoocpmaaGreatDoor
