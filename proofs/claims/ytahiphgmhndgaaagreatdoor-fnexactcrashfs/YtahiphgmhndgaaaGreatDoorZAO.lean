/- Several texts laid together: JrF, FqF, ImK. -/
import Derived.Test.YtahiphgmhndgaaaGreatDoorZAN
import Derived.Test.YtahiphgmhndgaaaGreatDoorZAL
import Derived.BigRegion
import Derived.BigQuiet
import Derived.Deep.QuietTactic
import Derived.Deep.DeepCutAuto
import Derived.Test.YtahiphgmhndgaaaGreatDoorZAH
import Derived.Test.YtahiphgmhndgaaaGreatDoorZAJ
set_option maxRecDepth 100000
set_option maxHeartbeats 16000000
namespace Go.Proofs.YtahiphgmhndgaaaGreatDoor
open Go.RowKit
theorem zog (l:List Mi) (m:Mi):mis (l ++ [m])=mis l ++ m.cells:=by simp[mis]
theorem zsw (l l':List Mi):mis (l ++ l')=mis l ++ mis l':=by simp[mis]
theorem zju (m:Mi):∀ u∈m.cells,u.oneCell'=true:=by
 intro u hu;simp[Mi.cells] at hu
 rcases hu with rfl | rfl | rfl <;> rfl
theorem zmf (l:List Mi):∀ u∈mis l,u.oneCell'=true:=by
 intro u hu;simp only[mis,List.mem_flatMap] at hu;obtain ⟨m,_,hm⟩:=hu;exact zju m u hm
theorem zmx (w1:World) (k a x:Int):Rd (w1.alloc (.cells #[.int .i64 k,.int .i64 a,.int .i64 x] 98)) 3 (.slice (some ⟨w1.heap.size,0,none⟩) 1 1) 1 (Mi.cells ⟨k,a,x⟩):=by
 refine ⟨rfl,_,_,rfl,⟨Nat.le_refl _,fun e=>by cases e⟩,fun _=>⟨w1.heap.size,0,rfl,by simp,fun j hj=>?_⟩⟩;obtain ⟨e0,e1,e2⟩:=zas (zag (w:=w1) (o:=.cells #[.int .i64 k,.int .i64 a,.int .i64 x] 98) rfl);rw[Nat.zero_add]
 rcases (show j=0∨j=1∨j=2 from by omega) with rfl | rfl | rfl
 ·exact e0
 ·exact e1
 ·exact e2
theorem RdM.form {w:World} {v:Value} {ps:List Mi} (h:RdM w v ps) {n:Nat} (hn:ps.length=n):∃ ao cap,v=.slice ao n cap:=by
 obtain ⟨ao,cap,e,_⟩:=h.shape;exact ⟨ao,cap,hn ▸ e⟩
theorem yagk {w:World} {base:Nat} {e:TypeId} {size:Nat} {v:Value} {n:Nat} {xs:List Value} (h:w.ownsRow base e size v n xs) (k:Nat):(w.drewN k).ownsRow base e size v n xs:=by
 induction k with
 | zero=>exact h
 | succ k ih=>exact ih
theorem yaam {B:Nat} {a w:World} (h:Below B a w) (n:Nat):Below B a (w.drewN n):=by
 induction n with
 | zero=>exact h
 | succ n ih=>exact ⟨ih.os,ih.tape,ih.output,ih.size,ih.block⟩
theorem yafu (w:World) (n:Nat):(w.drewN n).heap.size=w.heap.size:=by
 induction n with
 | zero=>rfl
 | succ n ih=>exact ih
def zkj (ks:List Int) (i k:Nat):Bool:=(List.range k).any (fun j=>ks[j]?.getD 0 / 8 == ks[i]?.getD 0 / 8)
theorem yaao (ks:List Int) (i k:Nat):zkj ks i (k+1)=(zkj ks i k || (ks[k]?.getD 0 / 8 == ks[i]?.getD 0 / 8)):=by
 unfold zkj;rw[List.range_succ,List.any_append];simp
theorem yaax (ks:List Int):∀ i,(nl ks i).length≤i
 | 0=>Nat.le_refl _
 | i+1=>by
  rw[nl]
  split
  ·have:=yaax ks i;omega
  ·have:=yaax ks i;simp;omega
theorem zmu (v:Value) (zs:List Int) (w:World) (h:RdI w v zs) (hn:zs.length≤4096) (hz0:∀ k (h:k < zs.length),0≤zs[k]∧zs[k] < 336) :
  Calls Tryz.prog 120 #[v] w fun e w'=>∃ v',e=.returned v'∧Row w' 98 3 w.heap.size w'.heap.size v' (zcv zs).length (mis (zcv zs))∧Below w.heap.size w w':=by
 obtain ⟨aZ,cZ,rfl,_,hcZ⟩:=h.shape;have HZ:=zaa hcZ;have Z0:=zaa hz0;clear h hcZ hz0
 have ho:(w.alloc (.cells #[] 98)).ownsRow w.heap.size 98 3 (.slice (some ⟨w.heap.size,0,none⟩) 0 0) 0 []:=by
  simpa using World.ownsRow_lit (base:=w.heap.size) (e:=98) (size:=3) w #[] 0 (by simp) (by simp) rfl
 have START:=zaa (And.intro ho ((Below.refl w.heap.size w).alloc (Nat.le_refl _) (.cells #[] 98)));clear ho;go_enter Tryz.func120,Tryz.ntmps120;go_wp2
 go_loopw [3,4,5,6] (fun vL i _ _ wr=>∃ m:Nat,m≤zs.length∧i=.int .i64 m∧Hid (wr.ownsRow w.heap.size 98 3 vL (nl zs m).length (mis (nl zs m))∧Below w.heap.size w wr)∧w.heap.size≤wr.heap.size) (fun _ i _ _ _=>zs.length - (intOf i).toNat)
 case atStart=>exact ⟨0,by omega,rfl,⟨by simpa[nl,mis] using START.o.1,START.o.2⟩,by simp⟩
 case round =>
  obtain ⟨m,hm,rfl,I,hz⟩:=hrel
  by_cases hlt:m < zs.length
  ·obtain ⟨b,o,rfl,hbl,hcell⟩:=HZ.o (by omega);have CELL:=zaa hcell;clear hcell
   have m0:(0:Int)≤(m:Int):=by omega
   have m1:(m:Int) < (zs.length:Int):=by omega
   go_wp2
   go_loopw [5,6] (fun f kk wr2=>∃ k:Nat,k≤m∧kk=.int .i64 k∧f=.bool (zkj zs m k)∧Hid (wr2.ownsRow w.heap.size 98 3 u3 (nl zs m).length (mis (nl zs m))∧Below w.heap.size w wr2)∧w.heap.size≤wr2.heap.size) (fun _ kk _=>m - (intOf kk).toNat)
   case atStart=>exact ⟨0,by omega,rfl,rfl,I,hz⟩
   case round =>
    obtain ⟨k,hk,rfl,rfl,J,hz2⟩:=hrel
    by_cases hlk:k < m
    ·have k0:(0:Int)≤(k:Int):=by omega
     have k1:(k:Int) < (m:Int):=by omega
     have k2:(k:Int) < (zs.length:Int):=by omega
     have hkz:k < zs.length:=by omega
     have d0:=(J.o.2.cell (p:=⟨b,o+k,none⟩) hbl).trans (CELL.o k hkz);have d1:=(J.o.2.cell (p:=⟨b,o+m,none⟩) hbl).trans (CELL.o m hlt);have p0:=Z0.o k hkz;have p1:=Z0.o m hlt;have SU:=zaa (show zkj zs m (k+1)=(zkj zs m k || (zs[k] / 8 == zs[m] / 8)) by rw[yaao,List.getElem?_eq_getElem hkz,List.getElem?_eq_getElem hlt];rfl);generalize zs[k]=x at *;generalize zs[m]=y at *;generalize zkj zs m k=fb at *
     rcases (show fb=true∨(fb=false∧(x / 8 == y / 8)=true)∨(fb=false∧(x / 8 == y / 8)=false) by cases fb <;> cases (x / 8 == y / 8) <;> simp) with rfl | ⟨rfl,q⟩ | ⟨rfl,q⟩
     all_goals
      go_wp2
      go_quiet (fail)
      go_wp2
      go_roundw
      case rel=>exact ⟨k+1,by omega,by go_num,by rw[SU.o];first | rfl | (rw[q];rfl),⟨yagk J.o.1 _,yaam J.o.2 _⟩,by rw[yafu];exact hz2⟩
      case measure=>simp[intOf];omega
    ·obtain rfl:k=m:=by omega
     by_cases c:zkj zs k k=true
     ·have E:=zaa (show nl zs (k+1)=nl zs k by rw[nl];exact if_pos c);rw[c];clear c;go_wp2
      go_roundw
      case rel=>exact ⟨k+1,by omega,by go_num,by rw[E.o];exact J,hz2⟩
      case measure=>simp[intOf];omega
     ·have c':zkj zs k k=false:=by simpa using c
      have d1:=(J.o.2.cell (p:=⟨b,o+k,none⟩) hbl).trans (CELL.o k hlt)
      have E:=zaa (show nl zs (k+1)=nl zs k ++ [⟨2,zs[k],0⟩] by
       rw[nl]
       have:¬ zpw zs k=true:=fun x=>c x
       rw[if_neg this,List.getElem?_eq_getElem hlt]
       rfl)
      rw[c'];clear c c';generalize zs[k]=y at *;have O2:=zaa (J.o.1.alloc (.cells #[.int .i64 2,.int .i64 y,.int .i64 0] 98));have HRD:=zaa (zmx wr 2 y 0);have hle:=yaax zs k;go_wp2_with (at_builtin;refine zak _ rfl (.tmp 35) (.tmp 41) 48 rfl w.heap.size 98 (.agg #[.int .i64 0,.int .i64 0,.int .i64 0]) 3 24 Tryz.underlying48 zem rfl (by decide) _ _ _ rfl O2.o _ 1 _ rfl HRD.o (zju _) (by simp[maxLen];omega) (by omega) (by simp;omega) ?_);intro vN wN hownN hgrN
      have hl:=fun q hq=>(O2.o.lt q hq).1
      have hzN:=hgrN.size;simp only[World.size_alloc] at hzN
      have G:Hid (wN.ownsRow w.heap.size 98 3 vN (nl zs (k+1)).length (mis (nl zs (k+1)))∧Below w.heap.size w wN):=by
       refine ⟨?_,(J.o.2.alloc (by omega) (.cells #[.int .i64 2,.int .i64 y,.int .i64 0] 98)).grown hgrN (by simp;omega) (fun q hq=>hl q hq)⟩;rw[E.o,zog,List.length_append];exact hownN
      clear hownN hgrN hl;go_wp2
      go_roundw
      case rel=>exact ⟨k+1,by omega,by go_num,G,by omega⟩
      case measure=>simp[intOf];omega
  ·obtain rfl:m=zs.length:=by omega
   have E:=zaa (show zcv zs=nl zs zs.length ++ [⟨3,0,0⟩] from rfl);have O2:=zaa (I.o.1.alloc (.cells #[.int .i64 3,.int .i64 0,.int .i64 0] 98));have HRD:=zaa (zmx wr 3 0 0);have hle:=yaax zs zs.length;go_wp2_with (at_builtin;refine zak _ rfl (.tmp 43) (.tmp 45) 48 rfl w.heap.size 98 (.agg #[.int .i64 0,.int .i64 0,.int .i64 0]) 3 24 Tryz.underlying48 zem rfl (by decide) _ _ _ rfl O2.o _ 1 _ rfl HRD.o (zju _) (by simp[maxLen];omega) (by omega) (by simp;omega) ?_);intro vN wN hownN hgrN
   have hl:=fun q hq=>(O2.o.lt q hq).1
   have G:Hid (wN.ownsRow w.heap.size 98 3 vN (zcv zs).length (mis (zcv zs))∧Below w.heap.size w wN):=by
    refine ⟨?_,(I.o.2.alloc (by omega) (.cells #[.int .i64 3,.int .i64 0,.int .i64 0] 98)).grown hgrN (by simp;omega) (fun q hq=>hl q hq)⟩;rw[E.o,zog,List.length_append];exact hownN
   clear hownN hgrN hl;obtain ⟨aL,cL,hvL⟩:=RdM.form (zai G.o.1).rd rfl;subst hvL;go_wp2;go_ret;exact ⟨_,rfl,zai G.o.1,G.o.2⟩
def allP (zs:List Int):Bool:=decide (∀ k (h:k < zs.length),0≤zs[k]∧zs[k] < 336)
def flC (zs:List Int):Int:=if 4096 < zs.length then 2 else if 50 < zs.length then 6 else if allP zs=true then 0 else 14
def fpL (zs:List Int):List Mi:=if flC zs=0 then zcv zs else []
theorem yadj (zs:List Int):(4096 < zs.length∧flC zs=2∧fpL zs=[])∨(¬ 4096 < zs.length∧50 < zs.length∧flC zs=6∧fpL zs=[])∨(¬ 4096 < zs.length∧¬ 50 < zs.length∧allP zs=false∧flC zs=14∧fpL zs=[])∨(¬ 4096 < zs.length∧¬ 50 < zs.length∧allP zs=true∧flC zs=0∧fpL zs=zcv zs):=by
 by_cases c1:4096 < zs.length
 ·have e:flC zs=2:=by unfold flC;rw[if_pos c1]
  exact .inl ⟨c1,e,by unfold fpL;rw[e];rfl⟩
 ·by_cases c2:50 < zs.length
  ·have e:flC zs=6:=by unfold flC;rw[if_neg c1,if_pos c2]
   exact .inr (.inl ⟨c1,c2,e,by unfold fpL;rw[e];rfl⟩)
  ·by_cases c3:allP zs=true
   ·have e:flC zs=0:=by unfold flC;rw[if_neg c1,if_neg c2,if_pos c3]
    exact .inr (.inr (.inr ⟨c1,c2,c3,e,by unfold fpL;rw[e];rfl⟩))
   ·have c3':allP zs=false:=by simpa using c3
    have e:flC zs=14:=by unfold flC;rw[if_neg c1,if_neg c2,c3'];rfl
    exact .inr (.inr (.inl ⟨c1,c2,c3',e,by unfold fpL;rw[e];rfl⟩))
theorem zfl (zs:List Int):(zcv zs).length≤zs.length+1:=by
 unfold zcv;have:=yaax zs zs.length;simp;omega
theorem zph (w:World) (t:TypeId) (size:Nat):Row (w.alloc (.cells #[] t)) t size w.heap.size (w.alloc (.cells #[] t)).heap.size (.slice (some ⟨w.heap.size,0,none⟩) 0 0) 0 [] :=
 zai (by simpa using World.ownsRow_lit (base:=w.heap.size) (e:=t) (size:=size) w #[] 0 (by simp) (by simp) (by simp))
theorem yafw (v:Value) (ws:List Int) (ps:List St) (es:List Int) (qs:List Se) (hs:List Int) (td:List Mi) (cd vl:Int) (nm:List ByteArray) (fr:Bool) (w:World) (h:RdF w v ws ps es qs hs td cd vl nm fr) (hws:ws.length≤1048576) (hps:ps.length≤1048576) (hes:es.length≤1048576) (hqs:qs.length≤1048576) (hhs:hs.length≤1048576) (htd:td.length≤1048576) (hnm:nm.length≤1048576) :
  Calls Tryz.prog 88 #[v] w fun e w'=>∃ v',e=.returned v'∧RowF w' w.heap.size w'.heap.size v' ws ps es qs hs td cd vl nm fr∧Below w.heap.size w w':=by
 obtain ⟨aW,cW,aP,cP,aS,cS,aQ,cQ,aH,cH,aT,cT,aN,cN,rfl,a,b,c,d⟩:=h;have RH:Hid (Rd w 1 (.slice aH hs.length cH) hs.length (zav hs)):=b;have RT:Hid (Rd w 3 (.slice aT td.length cT) td.length (mis td)):=c;have RN:Hid (Rd w 1 (.slice aN nm.length cN) nm.length (zlf nm)):=d;have LO:=zaa (fun w1 (hb:Below w.heap.size w w1)=>zth _ ws ps es qs w1 (a.below hb) hws hps hes hqs);clear a b c d
 obtain ⟨V,hV⟩:∃ V,V=((w.alloc (.cells #[.slice aW ws.length cW,.slice aP ps.length cP,.slice aS es.length cS,.slice aQ qs.length cQ,.slice aH hs.length cH,.slice aT td.length cT,.int .i64 cd,.int .i64 vl,.slice aN nm.length cN,.bool fr] 51)).alloc (.cells #[.slice none 0 0,.slice none 0 0,.slice none 0 0,.slice none 0 0,.slice none 0 0,.slice none 0 0,.int .i64 0,.int .i64 0,.slice none 0 0,.bool false] 51)):=⟨_,rfl⟩
 have zV:w.heap.size+2≤V.heap.size:=by rw[hV];simp <;> omega
 have B_V:Hid (Below w.heap.size w V):=by rw[hV];exact (((Below.refl _ _).alloc (by simp <;> omega) _).alloc (by simp <;> omega) _)
 have X0_V:Hid (V.heap[w.heap.size]?=some (.cells #[.slice aW ws.length cW,.slice aP ps.length cP,.slice aS es.length cS,.slice aQ qs.length cQ,.slice aH hs.length cH,.slice aT td.length cT,.int .i64 cd,.int .i64 vl,.slice aN nm.length cN,.bool fr] 51 (0,0))):=by rw[hV];exact (zal (zag rfl))
 have X1_V:Hid (V.heap[w.heap.size+1]?=some (.cells #[.slice none 0 0,.slice none 0 0,.slice none 0 0,.slice none 0 0,.slice none 0 0,.slice none 0 0,.int .i64 0,.int .i64 0,.slice none 0 0,.bool false] 51 (0,0))):=by rw[hV];exact (zag (by simp))
 go_enter Tryz.func88,Tryz.ntmps88;go_upto_region 1 with fail;rw[← hV];clear hV;obtain ⟨c0_0,c0_1,c0_2,c0_3,-,-,-,-,-,-,-⟩:=zam X0_V.o;go_wp2_with fail;refine (LO.o V B_V.o).mono ?_;rintro e w1 ⟨v1,rfl,hr,hb⟩;obtain ⟨iW,jW,iP,jP,iS,jS,iQ,jQ,rfl,-,-⟩:=hr.rd.form;clear LO;clear c0_0 c0_1 c0_2 c0_3;have zw1:V.heap.size≤w1.heap.size:=hb.size;have B_w1:=zaa (zab B_V.o hb B_V.o.size);have X0_w1:=zaa (zac X0_V.o hb (zah X0_V.o));have X1_w1:=zaa (zac X1_V.o hb (zah X1_V.o));clear B_V hb X0_V X1_V;have RD_w1:=zaa (RowDev.wide hr (lo':=w.heap.size+2) (hi':=w1.heap.size) (by omega) (Nat.le_refl _));clear hr
 obtain ⟨w2,hw2⟩:∃ w2,w2=((((w1.setCell ⟨w.heap.size,0,none⟩ (.slice iW ws.length jW)).setCell ⟨w.heap.size,1,none⟩ (.slice iP ps.length jP)).setCell ⟨w.heap.size,2,none⟩ (.slice iS es.length jS)).setCell ⟨w.heap.size,3,none⟩ (.slice iQ qs.length jQ)):=⟨_,rfl⟩
 have Ow2:Outside (w.heap.size) (w.heap.size+1) w1 w2:=by
  rw[hw2]
  repeat (refine Outside.setCell ?_ (by simp only;omega) (by simp only;omega) _)
  exact Outside.refl _ _ _
 have zw2:w1.heap.size≤w2.heap.size∧w2.heap.size≤w1.heap.size:=by rw[hw2];simp[World.setCell]
 have B_w2:=zaa (B_w1.o.trans (Ow2.below (B:=w.heap.size) (by omega) B_w1.o.size));have X1_w2:=zaa ((Ow2.block (w.heap.size+1) (zah X1_w1.o) (by omega)).trans X1_w1.o)
 have X0_w2:Hid (w2.heap[w.heap.size]?=some (.cells #[.slice iW ws.length jW,.slice iP ps.length jP,.slice iS es.length jS,.slice iQ qs.length jQ,.slice aH hs.length cH,.slice aT td.length cT,.int .i64 cd,.int .i64 vl,.slice aN nm.length cN,.bool fr] 51 (0,0))):=by rw[hw2];exact (zbu (zbq (zbs (zbv X0_w1.o _) _) _) _)
 have RD_w2:=zaa (RD_w1.o.outside Ow2 (by omega) (by omega));clear Ow2;obtain ⟨d0,d1,d2,d3,d4,d5,d6,d7,d8,d9,g0,g1,g2,g3,g4,g5,g6,g7,g8,g9⟩:=zam X0_w1.o;go_upto_region 2 with fail;rw[← hw2];clear hw2;clear d0 d1 d2 d3 d4 d5 d6 d7 d8 d9 g0 g1 g2 g3 g4 g5 g6 g7 g8 g9 B_w1 X0_w1 X1_w1 RD_w1
 have HO:Hid ((w2.alloc (.cells #[] 3)).ownsRow w2.heap.size 3 1 (.slice (some ⟨w2.heap.size,0,none⟩) 0 0) 0 []):=by
  unfold Hid;simpa using World.ownsRow_lit (base:=w2.heap.size) (e:=3) (size:=1) w2 #[] 0 (by simp) (by simp) rfl
 have XA:=zaa (zal (o:=.cells #[] 3) X0_w2.o);obtain ⟨x0,x1,x2,x3,x4,x5,x6,x7,x8,x9,-⟩:=zam XA.o;have SR:Hid (Rd (w2.alloc (.cells #[] 3)) 1 (.slice aH hs.length cH) hs.length (zav hs)):=Rd.below RH.o (B_w2.o.alloc B_w2.o.size _);go_wp2_with (at_builtin;refine zak _ rfl (.tmp 7) (.tmp 9) 22 rfl w2.heap.size 3 (.int .i64 0) 1 8 Tryz.underlying22 zfz rfl (by decide) _ 0 [] rfl HO.o _ (hs.length) (zav hs) rfl SR.o (zdw hs) (by first | omega | (simp[maxLen];omega)) (by first | omega | (simp;omega)) (by simp) ?_);intro vv w3 hown0 hgr
 have hown:w3.ownsRow w2.heap.size 3 1 vv (hs.length) (zav hs):=by simpa using hown0
 have hr:=zai hown;obtain ⟨-,iH,jH,hvv,-⟩:=hr.rd;subst hvv;have hb:Below w2.heap.size w2 w3:=((Below.refl _ _).alloc (Nat.le_refl _) _).grown hgr (by simp) (fun k hk=>by simp[Value.ownBlock] at hk;omega);clear hown hown0 hgr x0 x1 x2 x3 x4 x5 x6 x7 x8 x9 XA HO SR RH;have zw3:w2.heap.size≤w3.heap.size:=hb.size;have B_w3:=zaa (zab B_w2.o hb B_w2.o.size);have X0_w3:=zaa (zac X0_w2.o hb (zah X0_w2.o));have X1_w3:=zaa (zac X1_w2.o hb (zah X1_w2.o));have RD_w3:=zaa (RD_w2.o.below hb (by omega));clear B_w2 hb X0_w2 X1_w2 RD_w2;have RI_w3:=zaa (Row.wide hr (lo':=w2.heap.size) (hi':=w3.heap.size) (Nat.le_refl _) (Nat.le_refl _));clear hr
 obtain ⟨w4,hw4⟩:∃ w4,w4=(w3.setCell ⟨w.heap.size,4,none⟩ (.slice iH hs.length jH)):=⟨_,rfl⟩
 have Ow4:Outside (w.heap.size) (w.heap.size+1) w3 w4:=by
  rw[hw4]
  repeat (refine Outside.setCell ?_ (by simp only;omega) (by simp only;omega) _)
  exact Outside.refl _ _ _
 have zw4:w3.heap.size≤w4.heap.size∧w4.heap.size≤w3.heap.size:=by rw[hw4];simp[World.setCell]
 have B_w4:=zaa (B_w3.o.trans (Ow4.below (B:=w.heap.size) (by omega) B_w3.o.size));have X1_w4:=zaa ((Ow4.block (w.heap.size+1) (zah X1_w3.o) (by omega)).trans X1_w3.o)
 have X0_w4:Hid (w4.heap[w.heap.size]?=some (.cells #[.slice iW ws.length jW,.slice iP ps.length jP,.slice iS es.length jS,.slice iQ qs.length jQ,.slice iH hs.length jH,.slice aT td.length cT,.int .i64 cd,.int .i64 vl,.slice aN nm.length cN,.bool fr] 51 (0,0))):=by rw[hw4];exact (zca X0_w3.o _)
 have RD_w4:=zaa (RD_w3.o.outside Ow4 (by omega) (by omega));have RI_w4:=zaa (RI_w3.o.outside Ow4 (by omega) (by omega));clear Ow4;obtain ⟨d0,d1,d2,d3,d4,d5,d6,d7,d8,d9,g0,g1,g2,g3,g4,g5,g6,g7,g8,g9⟩:=zam X0_w3.o;go_upto_region 3 with fail;rw[← hw4];clear hw4;clear d0 d1 d2 d3 d4 d5 d6 d7 d8 d9 g0 g1 g2 g3 g4 g5 g6 g7 g8 g9 B_w3 X0_w3 X1_w3 RD_w3 RI_w3
 have HO:Hid ((w4.alloc (.cells #[] 98)).ownsRow w4.heap.size 98 3 (.slice (some ⟨w4.heap.size,0,none⟩) 0 0) 0 []):=by
  unfold Hid;simpa using World.ownsRow_lit (base:=w4.heap.size) (e:=98) (size:=3) w4 #[] 0 (by simp) (by simp) rfl
 have XA:=zaa (zal (o:=.cells #[] 98) X0_w4.o);obtain ⟨x0,x1,x2,x3,x4,x5,x6,x7,x8,x9,-⟩:=zam XA.o;have SR:Hid (Rd (w4.alloc (.cells #[] 98)) 3 (.slice aT td.length cT) td.length (mis td)):=Rd.below RT.o (B_w4.o.alloc B_w4.o.size _);go_wp2_with (at_builtin;refine zak _ rfl (.tmp 12) (.tmp 14) 48 rfl w4.heap.size 98 (.agg #[.int .i64 0,.int .i64 0,.int .i64 0]) 3 24 Tryz.underlying48 zem rfl (by decide) _ 0 [] rfl HO.o _ (td.length) (mis td) rfl SR.o (zmf td) (by first | omega | (simp[maxLen];omega)) (by first | omega | (simp;omega)) (by simp) ?_);intro vv w5 hown0 hgr
 have hown:w5.ownsRow w4.heap.size 98 3 vv (td.length) (mis td):=by simpa using hown0
 have hr:=zai hown;obtain ⟨-,iT,jT,hvv,-⟩:=hr.rd;subst hvv;have hb:Below w4.heap.size w4 w5:=((Below.refl _ _).alloc (Nat.le_refl _) _).grown hgr (by simp) (fun k hk=>by simp[Value.ownBlock] at hk;omega);clear hown hown0 hgr x0 x1 x2 x3 x4 x5 x6 x7 x8 x9 XA HO SR RT;have zw5:w4.heap.size≤w5.heap.size:=hb.size;have B_w5:=zaa (zab B_w4.o hb B_w4.o.size);have X0_w5:=zaa (zac X0_w4.o hb (zah X0_w4.o));have X1_w5:=zaa (zac X1_w4.o hb (zah X1_w4.o));have RD_w5:=zaa (RD_w4.o.below hb (by omega));have RI_w5:=zaa (RI_w4.o.below hb (by omega));clear B_w4 hb X0_w4 X1_w4 RD_w4 RI_w4;have RW_w5:=zaa (RowW.of_row (Row.wide hr (lo':=w4.heap.size) (hi':=w5.heap.size) (Nat.le_refl _) (Nat.le_refl _)));clear hr
 obtain ⟨w6,hw6⟩:∃ w6,w6=(w5.setCell ⟨w.heap.size,5,none⟩ (.slice iT td.length jT)):=⟨_,rfl⟩
 have Ow6:Outside (w.heap.size) (w.heap.size+1) w5 w6:=by
  rw[hw6]
  repeat (refine Outside.setCell ?_ (by simp only;omega) (by simp only;omega) _)
  exact Outside.refl _ _ _
 have zw6:w5.heap.size≤w6.heap.size∧w6.heap.size≤w5.heap.size:=by rw[hw6];simp[World.setCell]
 have B_w6:=zaa (B_w5.o.trans (Ow6.below (B:=w.heap.size) (by omega) B_w5.o.size));have X1_w6:=zaa ((Ow6.block (w.heap.size+1) (zah X1_w5.o) (by omega)).trans X1_w5.o)
 have X0_w6:Hid (w6.heap[w.heap.size]?=some (.cells #[.slice iW ws.length jW,.slice iP ps.length jP,.slice iS es.length jS,.slice iQ qs.length jQ,.slice iH hs.length jH,.slice iT td.length jT,.int .i64 cd,.int .i64 vl,.slice aN nm.length cN,.bool fr] 51 (0,0))):=by rw[hw6];exact (zcc X0_w5.o _)
 have RD_w6:=zaa (RD_w5.o.outside Ow6 (by omega) (by omega));have RI_w6:=zaa (RI_w5.o.outside Ow6 (by omega) (by omega));have RW_w6:=zaa (RW_w5.o.outside Ow6 (by omega));clear Ow6;obtain ⟨d0,d1,d2,d3,d4,d5,d6,d7,d8,d9,g0,g1,g2,g3,g4,g5,g6,g7,g8,g9⟩:=zam X0_w5.o;go_upto_region 4 with fail;rw[← hw6];clear hw6;clear d0 d1 d2 d3 d4 d5 d6 d7 d8 d9 g0 g1 g2 g3 g4 g5 g6 g7 g8 g9 B_w5 X0_w5 X1_w5 RD_w5 RI_w5 RW_w5
 have HO:Hid ((w6.alloc (.cells #[] 9)).ownsRow w6.heap.size 9 1 (.slice (some ⟨w6.heap.size,0,none⟩) 0 0) 0 []):=by
  unfold Hid;simpa using World.ownsRow_lit (base:=w6.heap.size) (e:=9) (size:=1) w6 #[] 0 (by simp) (by simp) rfl
 have XA:=zaa (zal (o:=.cells #[] 9) X0_w6.o);obtain ⟨x0,x1,x2,x3,x4,x5,x6,x7,x8,x9,-⟩:=zam XA.o;have SR:Hid (Rd (w6.alloc (.cells #[] 9)) 1 (.slice aN nm.length cN) nm.length (zlf nm)):=Rd.below RN.o (B_w6.o.alloc B_w6.o.size _);go_wp2_with (at_builtin;refine zak _ rfl (.tmp 17) (.tmp 20) 32 rfl w6.heap.size 9 (.string ⟨#[]⟩) 1 16 Tryz.underlying32 yauv rfl (by decide) _ 0 [] rfl HO.o _ (nm.length) (zlf nm) rfl SR.o (yand nm) (by first | omega | (simp[maxLen];omega)) (by first | omega | (simp;omega)) (by simp) ?_);intro vv w7 hown0 hgr
 have hown:w7.ownsRow w6.heap.size 9 1 vv (nm.length) (zlf nm):=by simpa using hown0
 have hr:=zai hown;obtain ⟨-,iN,jN,hvv,-⟩:=hr.rd;subst hvv;have hb:Below w6.heap.size w6 w7:=((Below.refl _ _).alloc (Nat.le_refl _) _).grown hgr (by simp) (fun k hk=>by simp[Value.ownBlock] at hk;omega);clear hown hown0 hgr x0 x1 x2 x3 x4 x5 x6 x7 x8 x9 XA HO SR RN;have zw7:w6.heap.size≤w7.heap.size:=hb.size;have B_w7:=zaa (zab B_w6.o hb B_w6.o.size);have X0_w7:=zaa (zac X0_w6.o hb (zah X0_w6.o));have X1_w7:=zaa (zac X1_w6.o hb (zah X1_w6.o));have RD_w7:=zaa (RD_w6.o.below hb (by omega));have RI_w7:=zaa (RI_w6.o.below hb (by omega));have RW_w7:=zaa (RW_w6.o.below hb (by omega));clear B_w6 hb X0_w6 X1_w6 RD_w6 RI_w6 RW_w6;have RS_w7:=zaa (Row.wide hr (lo':=w6.heap.size) (hi':=w7.heap.size) (Nat.le_refl _) (Nat.le_refl _));clear hr
 obtain ⟨w8,hw8⟩:∃ w8,w8=(w7.setCell ⟨w.heap.size,8,none⟩ (.slice iN nm.length jN)):=⟨_,rfl⟩
 have Ow8:Outside (w.heap.size) (w.heap.size+1) w7 w8:=by
  rw[hw8]
  repeat (refine Outside.setCell ?_ (by simp only;omega) (by simp only;omega) _)
  exact Outside.refl _ _ _
 have zw8:w7.heap.size≤w8.heap.size∧w8.heap.size≤w7.heap.size:=by rw[hw8];simp[World.setCell]
 have B_w8:=zaa (B_w7.o.trans (Ow8.below (B:=w.heap.size) (by omega) B_w7.o.size));have X1_w8:=zaa ((Ow8.block (w.heap.size+1) (zah X1_w7.o) (by omega)).trans X1_w7.o)
 have X0_w8:Hid (w8.heap[w.heap.size]?=some (.cells #[.slice iW ws.length jW,.slice iP ps.length jP,.slice iS es.length jS,.slice iQ qs.length jQ,.slice iH hs.length jH,.slice iT td.length jT,.int .i64 cd,.int .i64 vl,.slice iN nm.length jN,.bool fr] 51 (0,0))):=by rw[hw8];exact (zcd X0_w7.o _)
 have RD_w8:=zaa (RD_w7.o.outside Ow8 (by omega) (by omega));have RI_w8:=zaa (RI_w7.o.outside Ow8 (by omega) (by omega));have RW_w8:=zaa (RW_w7.o.outside Ow8 (by omega));have RS_w8:=zaa (RS_w7.o.outside Ow8 (by omega) (by omega));clear Ow8;obtain ⟨d0,d1,d2,d3,d4,d5,d6,d7,d8,d9,g0,g1,g2,g3,g4,g5,g6,g7,g8,g9⟩:=zam X0_w7.o;go_upto_region 5 with fail;rw[← hw8];clear hw8;clear d0 d1 d2 d3 d4 d5 d6 d7 d8 d9 g0 g1 g2 g3 g4 g5 g6 g7 g8 g9 B_w7 X0_w7 X1_w7 RD_w7 RI_w7 RW_w7 RS_w7;obtain ⟨c0_0,c0_1,c0_2,c0_3,c0_4,c0_5,c0_6,c0_7,c0_8,c0_9,-⟩:=zam X0_w8.o
 obtain ⟨w9,hw9⟩:∃ w9,w9=((((((((((w8.setCell ⟨w.heap.size+1,0,none⟩ (.slice iW ws.length jW)).setCell ⟨w.heap.size+1,1,none⟩ (.slice iP ps.length jP)).setCell ⟨w.heap.size+1,2,none⟩ (.slice iS es.length jS)).setCell ⟨w.heap.size+1,3,none⟩ (.slice iQ qs.length jQ)).setCell ⟨w.heap.size+1,4,none⟩ (.slice iH hs.length jH)).setCell ⟨w.heap.size+1,5,none⟩ (.slice iT td.length jT)).setCell ⟨w.heap.size+1,6,none⟩ (.int .i64 cd)).setCell ⟨w.heap.size+1,7,none⟩ (.int .i64 vl)).setCell ⟨w.heap.size+1,8,none⟩ (.slice iN nm.length jN)).setCell ⟨w.heap.size+1,9,none⟩ (.bool fr)):=⟨_,rfl⟩
 have Ow9:Outside (w.heap.size+1) (w.heap.size+1+1) w8 w9:=by
  rw[hw9]
  repeat (refine Outside.setCell ?_ (by simp only;omega) (by simp only;omega) _)
  exact Outside.refl _ _ _
 have zw9:w8.heap.size≤w9.heap.size∧w9.heap.size≤w8.heap.size:=by rw[hw9];simp[World.setCell]
 have B_w9:=zaa (B_w8.o.trans (Ow9.below (B:=w.heap.size) (by omega) B_w8.o.size));have X0_w9:=zaa ((Ow9.block (w.heap.size) (zah X0_w8.o) (by omega)).trans X0_w8.o)
 have X1_w9:Hid (w9.heap[w.heap.size+1]?=some (.cells #[.slice iW ws.length jW,.slice iP ps.length jP,.slice iS es.length jS,.slice iQ qs.length jQ,.slice iH hs.length jH,.slice iT td.length jT,.int .i64 cd,.int .i64 vl,.slice iN nm.length jN,.bool fr] 51 (0,0))):=by rw[hw9];exact (zcl (zcd (zcg (zcj (zcc (zca (zbu (zbq (zbs (zbv X1_w8.o _) _) _) _) _) _) _) _) _) _)
 have RD_w9:=zaa (RD_w8.o.outside Ow9 (by omega) (by omega));have RI_w9:=zaa (RI_w8.o.outside Ow9 (by omega) (by omega));have RW_w9:=zaa (RW_w8.o.outside Ow9 (by omega));have RS_w9:=zaa (RS_w8.o.outside Ow9 (by omega) (by omega));clear Ow9;obtain ⟨d0,d1,d2,d3,d4,d5,d6,d7,d8,d9,g0,g1,g2,g3,g4,g5,g6,g7,g8,g9⟩:=zam X1_w8.o;go_wp2;refine bodyPost_ret (v:=.agg #[.slice iW ws.length jW,.slice iP ps.length jP,.slice iS es.length jS,.slice iQ qs.length jQ,.slice iH hs.length jH,.slice iT td.length jT,.int .i64 cd,.int .i64 vl,.slice iN nm.length jN,.bool fr]) (by simp[results,Tryz.results88,go_sem,d0,d1,d2,d3,d4,d5,d6,d7,d8,d9]) rfl ?_;rw[← hw9];exact ⟨_,rfl,⟨_,_,_,_,_,_,_,_,_,_,_,_,_,_,_,rfl,RD_w9.o,RI_w9.o,RW_w9.o,RS_w9.o,⟨by omega,by omega,by omega,by omega,by omega,by omega,by omega,by omega,by omega,by omega,by omega,by omega,by omega,by omega⟩⟩,B_w9.o⟩
def zru (zs:List Int) (n:Int):Bool:=zs.contains n
theorem yajp {zs:List Int} {n:Int} (h:∀ j (h:j < zs.length),¬ zs[j]=n):zru zs n=false:=by
 unfold zru;rw[List.contains_eq_any_beq,List.any_eq_false];intro z hz;obtain ⟨j,hj,rfl⟩:=List.getElem_of_mem hz;simp only[beq_iff_eq]
 exact fun e=>h j hj e.symm
theorem zsu (v:Value) (zs:List Int) (n:Int) (w:World) (h:RdI w v zs) (hn:zs.length≤1048576) :
  Calls Tryz.prog 184 #[v,.int .i64 n] w fun e w'=>e=.returned (.bool (zru zs n))∧w'=w:=by
 obtain ⟨aZ,cZ,rfl,_,hcZ⟩:=h.shape;have HZ:=zaa hcZ;clear h hcZ;go_enter Tryz.func184,Tryz.ntmps184;go_wp2
 go_loop [5] (fun i=>∃ k:Nat,k≤zs.length∧i=.int .i64 k∧Hid (∀ j (h:j < zs.length),j < k→¬ zs[j]=n)) (fun i=>zs.length - (intOf i).toNat)
 case atStart=>exact ⟨0,by omega,rfl,fun j h a=>absurd a (by omega)⟩
 case round =>
  obtain ⟨k,hk,rfl,H⟩:=hrel
  by_cases hlt:k < zs.length
  ·obtain ⟨b,o,rfl,hbl,hcell⟩:=HZ.o (by omega);have d0:=hcell k hlt
   have k0:(0:Int)≤(k:Int):=by omega
   have k1:(k:Int) < (zs.length:Int):=by omega
   have HY:=zaa (fun e:zs[k]=n=>show zru zs n=true by unfold zru;rw[← e];exact List.contains_iff_mem.2 (List.getElem_mem hlt))
   have HX:=zaa (fun (e:¬ zs[k]=n) j (h:j < zs.length) (a:j < k+1)=>show ¬ zs[j]=n by
    by_cases q:j=k
    ·subst q;exact e
    ·exact H.o j h (by omega))
   clear hcell;generalize zs[k]=z at *
   by_cases q:z=n
   ·have q1:(z == n)=true:=beq_iff_eq.2 q;have E:=zaa (HY.o q);clear q HX HY;go_wp2;go_ret;exact ⟨zae E.o.symm,rfl⟩
   ·have q1:(z == n)=false:=beq_eq_false_iff_ne.2 q;have E:=zaa (HX.o q);clear q HX HY;go_wp2
    go_round
    case rel=>exact ⟨k+1,by omega,by go_num,E⟩
    case measure=>simp[intOf];omega
  ·obtain rfl:k=zs.length:=by omega
   have E:=zaa (yajp (fun j h=>H.o j h h));go_wp2;go_ret;exact ⟨zae E.o.symm,rfl⟩
theorem zsi (b:Bool) (w:World):Calls Tryz.prog 181 #[.bool b] w fun e w'=>e=.returned (.int .i64 (if b=true then 1 else 0))∧w'=w:=by
 cases b
 all_goals
  go_enter Tryz.func181,Tryz.ntmps181;go_wp2;go_ret;exact ⟨rfl,rfl⟩
def upD (ds:List Den) (c:Int):Int:=((ds.find? fun x=>x.child == c).map Den.dir).getD (-1)
theorem yavt {ds:List Den} {c:Int} (h:∀ j (h:j < ds.length),¬ ds[j].child=c):upD ds c=-1:=by
 unfold upD;rw[List.find?_eq_none.2]
 ·rfl
 ·intro x hx;obtain ⟨j,hj,rfl⟩:=List.getElem_of_mem hx;simp only[beq_iff_eq];exact h j hj
theorem yatm {ds:List Den} {c:Int} {k:Nat} (hk:k < ds.length) (h:∀ j (h:j < ds.length),j < k→¬ ds[j].child=c) (e:ds[k].child=c):upD ds c=ds[k].dir:=by
 unfold upD
 have:ds.find? (fun x=>x.child == c)=some ds[k]:=List.find?_eq_some_iff_getElem.2 ⟨beq_iff_eq.2 e,k,hk,rfl,fun j hj=>by
  have:=h j (by omega) hj
  simp[this]⟩
 rw[this];rfl
theorem yajd (v:Value) (ws:List Ino) (ps:List Den) (c:Int) (w:World) (h:RdIm w v ws ps) (hn:ps.length≤1048576) :
  Calls Tryz.prog 199 #[v,.int .i64 c] w fun e w'=>e=.returned (.int .i64 (upD ps c))∧Below w.heap.size w w':=by
 obtain ⟨vW,vP,rfl,h1,h2⟩:=h;obtain ⟨aW,cW,rfl,_⟩:=h1.shape;obtain ⟨aP,cP,rfl,_,hcP⟩:=h2.shape;have HZ:=zaa hcP;clear h1 h2 hcP
 obtain ⟨W,hW⟩:∃ W,W=w.alloc (.cells #[.slice aW ws.length cW,.slice aP ps.length cP] 102):=⟨_,rfl⟩
 have CA:Hid (∀ w',Below W.heap.size W w'→w'.cell? ⟨w.heap.size,1,none⟩=some (.slice aP ps.length cP)):=fun w' hb=>by
  have:w'.heap[w.heap.size]?=some (.cells #[.slice aW ws.length cW,.slice aP ps.length cP] 102 (0,0)):=(hb.block _ (by rw[hW];simp)).trans (by rw[hW];exact zag rfl);exact (zad this).2.1
 have BW:Hid (Below w.heap.size w W):=by rw[hW];exact (Below.refl _ _).alloc (Nat.le_refl _) _
 have hz:w.heap.size≤W.heap.size:=BW.o.size;go_enter Tryz.func199,Tryz.ntmps199;go_wp2;rw[← hW];clear hW
 go_loopw [5] (fun i wr=>∃ k:Nat,k≤ps.length∧i=.int .i64 k∧Hid (Below W.heap.size W wr∧∀ j (h:j < ps.length),j < k→¬ ps[j].child=c)) (fun i _=>ps.length - (intOf i).toNat)
 case atStart=>exact ⟨0,by omega,rfl,Below.refl _ _,fun j h a=>absurd a (by omega)⟩
 case round =>
  obtain ⟨k,hk,rfl,J⟩:=hrel;have x1:=CA.o wr J.o.1
  by_cases hlt:k < ps.length
  ·obtain ⟨b,o,rfl,hbl,hcell⟩:=HZ.o (by omega);have BR:=zab BW.o J.o.1 hz;obtain ⟨c0,c1,c2⟩:=hcell k hlt;have d0:=(BR.cell (p:=⟨b,o+k*3,none⟩) hbl).trans c0;have d2:=(BR.cell (p:=⟨b,o+k*3+2,none⟩) hbl).trans c2;have B:=zaa BR
   have k0:(0:Int)≤(k:Int):=by omega
   have k1:(k:Int) < (ps.length:Int):=by omega
   have HY:=zaa (fun e:ps[k].child=c=>yatm hlt J.o.2 e)
   have HX:=zaa (fun (e:¬ ps[k].child=c) j (h:j < ps.length) (a:j < k+1)=>show ¬ ps[j].child=c by
    by_cases q:j=k
    ·subst q;exact e
    ·exact J.o.2 j h (by omega))
   clear hcell c0 c1 c2 BR;generalize ps[k].child=z at *;generalize ps[k].dir=y at *
   by_cases q:z=c
   ·have q1:(z == c)=true:=beq_iff_eq.2 q;have E:=zaa (HY.o q);clear q HX HY;go_wp2;go_ret;exact ⟨zhn E.o.symm,B.o⟩
   ·have q1:(z == c)=false:=beq_eq_false_iff_ne.2 q
    have E:Hid (Below W.heap.size W wr∧∀ j (h:j < ps.length),j < k+1→¬ ps[j].child=c):=⟨J.o.1,HX.o q⟩
    clear q HX HY;go_wp2
    go_roundw
    case rel=>exact ⟨k+1,by omega,by go_num,E⟩
    case measure=>simp[intOf];omega
  ·obtain rfl:k=ps.length:=by omega
   have E:=zaa (yavt (fun j h=>J.o.2 j h h));go_wp2;go_ret;exact ⟨zhn E.o.symm,zab BW.o J.o.1 hz⟩
def zgw (ds:List Den):Nat→Int→Bool
 | 0,_=>false
 | n+1,d=>if d=0 then true else if upD ds d < 0 then false else zgw ds n (upD ds d)
theorem zxh (v:Value) (ws:List Ino) (ps:List Den) (c:Int) (w:World) (h:RdIm w v ws ps) (hn:ps.length≤1048576) :
  Calls Tryz.prog 182 #[v,.int .i64 c] w fun e w'=>e=.returned (.bool (zgw ps 16 c))∧Below w.heap.size w w':=by
 have HR:=zaa h;obtain ⟨vW,vP,rfl,h1,h2⟩:=h;obtain ⟨aW,cW,rfl,_⟩:=h1.shape;obtain ⟨aP,cP,rfl,_,hcP⟩:=h2.shape;clear h1 h2 hcP
 obtain ⟨W,hW⟩:∃ W,W=w.alloc (.cells #[.slice aW ws.length cW,.slice aP ps.length cP] 102):=⟨_,rfl⟩
 have CA:Hid (∀ w',Below W.heap.size W w'→w'.cell? ⟨w.heap.size,0,none⟩=some (.slice aW ws.length cW)∧w'.cell? ⟨w.heap.size,1,none⟩=some (.slice aP ps.length cP)):=fun w' hb=>by
  have:w'.heap[w.heap.size]?=some (.cells #[.slice aW ws.length cW,.slice aP ps.length cP] 102 (0,0)):=(hb.block _ (by rw[hW];simp)).trans (by rw[hW];exact zag rfl);exact ⟨(zad this).1,(zad this).2.1⟩
 have BW:Hid (Below w.heap.size w W):=by rw[hW];exact (Below.refl _ _).alloc (Nat.le_refl _) _
 have hz:w.heap.size≤W.heap.size:=BW.o.size;have LU:=zaa (fun d w1 h=>yajd (.agg #[.slice aW ws.length cW,.slice aP ps.length cP]) ws ps d w1 h hn);go_enter Tryz.func182,Tryz.ntmps182;go_wp2;rw[← hW];clear hW
 go_loopw [1,5] (fun d i wr=>∃ (k:Nat) (z:Int),k≤16∧i=.int .i64 k∧d=.int .i64 z∧Hid (Below W.heap.size W wr∧zgw ps 16 c=zgw ps (16 - k) z)) (fun _ i _=>16 - (intOf i).toNat)
 case atStart=>exact ⟨0,c,by omega,rfl,rfl,Below.refl _ _,rfl⟩
 case round =>
  obtain ⟨k,z,hk,rfl,rfl,J⟩:=hrel;obtain ⟨x0,x1⟩:=CA.o wr J.o.1
  by_cases hlt:k < 16
  ·have ES:=zaa (show zgw ps (16 - k) z=if z=0 then true else if upD ps z < 0 then false else zgw ps (16 - (k+1)) (upD ps z) by
    rw[show 16 - k=(16 - (k+1))+1 by omega];rfl)
   have B:=zaa (zab BW.o J.o.1 hz)
   by_cases q:z=0
   ·subst q;have E:=zaa (show zgw ps 16 c=true by rw[J.o.2,ES.o,if_pos rfl]);go_wp2;go_ret;exact ⟨zae E.o.symm,B.o⟩
   ·have q1:(z == 0)=false:=beq_eq_false_iff_ne.2 q;have R:=zaa (HR.o.below B.o)
    by_cases r:upD ps z < 0
    ·have E:=zaa (show zgw ps 16 c=false by rw[J.o.2,ES.o,if_neg q,if_pos r]);go_wp2_with fail;refine (LU.o _ _ R.o).mono ?_;rintro e w1 ⟨rfl,hb1⟩;have B1:=zaa (zab B.o hb1 B.o.size);clear hb1;go_wp2;go_ret;exact ⟨zae E.o.symm,B1.o⟩
    ·have E:=zaa (show zgw ps 16 c=zgw ps (16 - (k+1)) (upD ps z) by rw[J.o.2,ES.o,if_neg q,if_neg r]);go_wp2_with fail;refine (LU.o _ _ R.o).mono ?_;rintro e w1 ⟨rfl,hb1⟩;have B1:=zaa (zab J.o.1 hb1 J.o.1.size);clear hb1;go_wp2
     go_roundw
     case rel=>exact ⟨k+1,_,by omega,by go_num,rfl,B1.o,E.o⟩
     case measure=>simp[intOf];omega
  ·obtain rfl:k=16:=by omega
   have E:=zaa (show zgw ps 16 c=false by rw[J.o.2];rfl);go_wp2;go_ret;exact ⟨zae E.o.symm,zab BW.o J.o.1 hz⟩
end Go.Proofs.YtahiphgmhndgaaaGreatDoor
