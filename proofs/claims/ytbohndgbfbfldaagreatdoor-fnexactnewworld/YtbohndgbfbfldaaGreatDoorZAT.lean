/- Several texts laid together: FqA, FqB. -/
import Derived.Test.YtbohndgbfbfldaaGreatDoorZAS
import Derived.Test.YtbohndgbfbfldaaGreatDoorZAL
set_option maxHeartbeats 4000000
namespace Go.Proofs.YtbohndgbfbfldaaGreatDoor
open Go.RowKit
theorem zlr {w:World} {b i:Nat} {x:Value} (hx:w.cell? ⟨b,i,none⟩=some x) (u:Value) (j:Nat):(w.setCell ⟨b,i,none⟩ u).cell? ⟨b,j,none⟩=if j=i then some u else w.cell? ⟨b,j,none⟩:=by
 unfold World.cell? at hx ⊢;simp only[World.setCell,Array.getElem?_modify]
 cases hw:w.heap[b]? with
 | none=>rw[hw] at hx;cases hx
 | some ob =>
  rw[hw] at hx
  cases ob with
  | cells cs t fr =>
   simp only[Option.isSome_none,Bool.false_eq_true,if_false] at hx;simp only[if_true,Option.map_some,Option.isSome_none,Bool.false_eq_true,if_false];rw[Array.getElem?_setIfInBounds];have hlt:i < cs.size:=(Array.getElem?_eq_some_iff.1 hx).1
   by_cases e:i=j
   ·subst e;simp[hlt]
   ·rw[if_neg e,if_neg (fun h=>e h.symm)]
  | _=>cases hx
theorem zgb (w:World) (b i:Nat) (u:Value) (k j:Nat):(w.setCell ⟨b,i,none⟩ u).frozen? ⟨k,j,none⟩=w.frozen? ⟨k,j,none⟩:=by
 unfold World.frozen?;simp only[World.setCell,Array.getElem?_modify]
 by_cases e:b=k
 ·subst e
  cases hw:w.heap[b]? with
  | none=>simp
  | some ob=>cases ob <;> simp
 ·simp[e]
def RowW (w:World) (lo hi:Nat) (v:Value) (td:List Mi):Prop:=RdM w v td∧(∀ b,v.ownBlock=some b→lo≤b∧b < hi∧b < w.heap.size∧(∀ j,w.frozen? ⟨b,j,none⟩=false)∧∃ o n c,v=.slice (some ⟨b,o,none⟩) n c)
theorem RowW.same {w w':World} {lo hi:Nat} {v:Value} {td:List Mi} (h:RowW w lo hi v td) (hz:w.heap.size≤w'.heap.size) (hs:∀ b,lo≤b→b < hi→b < w.heap.size→w'.heap[b]?=w.heap[b]?):RowW w' lo hi v td :=
 ⟨Rd.same h.1 hz (fun b hb e=>hs b (h.2 b e).1 (h.2 b e).2.1 hb),fun b e=>by
  obtain ⟨h1,h2,h3,h4,h5⟩:=h.2 b e;refine ⟨h1,h2,Nat.lt_of_lt_of_le h3 hz,fun j=>?_,h5⟩;have:=h4 j;unfold World.frozen? at this ⊢;simp only[hs b h1 h2 h3]
  exact this⟩
theorem RowW.below {w w':World} {lo hi:Nat} {v:Value} {td:List Mi} (h:RowW w lo hi v td) {B:Nat} (hb:Below B w w') (hB:hi≤B):RowW w' lo hi v td:=h.same hb.size (fun b _ h2 _=>hb.block b (by omega))
theorem RowW.outside {w w':World} {lo hi:Nat} {v:Value} {td:List Mi} (h:RowW w lo hi v td) {lo' hi':Nat} (ho:Outside lo' hi' w w') (hd:hi≤lo'∨hi'≤lo):RowW w' lo hi v td:=h.same ho.size (fun b h1 h2 h3=>ho.block b h3 (by omega))
theorem RowW.nil (w:World) (lo hi:Nat):RowW w lo hi (.slice none 0 0) []:=⟨(Row.nil w 120 3 lo hi).rd,fun b e=>by cases e⟩
theorem zjd (ao:Option Addr) (cap:Nat) (k0:Int) (w:World):Calls Tryz.prog 54 #[.slice ao 0 cap,.int .i64 k0] w fun e w'=>e=.returned (.int .i64 k0)∧w'=w:=by
 go_enter Tryz.func54,Tryz.ntmps54;go_wp2
 go_loop [1,5] (fun c i=>i=.int .i64 0∧c=.int .i64 k0) (fun _ i=>(intOf i).toNat)
 case atStart=>exact ⟨rfl,rfl⟩
 case round =>
  obtain ⟨rfl,rfl⟩:=hrel;go_wp2;go_ret;exact ⟨rfl,rfl⟩
theorem zjg (v:Value) (td:List Mi) (k0:Int) (lo hi:Nat) (w:World) (h:RowW w lo hi v td) (hn:td.length≤2147483648) (h0:0≤k0) (h1:k0≤1099511627776) :
  Calls Tryz.prog 54 #[v,.int .i64 k0] w fun e w'=>e=.returned (.int .i64 (k0+3*td.length))∧RowW w' lo hi v (zdc k0 td.length)∧Outside lo hi w w':=by
 obtain ⟨⟨hlen,ao,cap,rfl,hcap,hc⟩,hw⟩:=h
 obtain ⟨n,hn'⟩:∃ n,n=td.length:=⟨_,rfl⟩
 rw[← hn'] at hlen hcap hc hn hw ⊢
 have hx:IsMis (mis td) n:=by rw[hn'];exact yafn td
 by_cases hp:0 < n
 ·obtain ⟨b,o,rfl,hbl,hcell⟩:=hc hp;obtain ⟨g1,g2,-,g4,-⟩:=hw b rfl;clear hc hn';generalize mis td=xs at *;have X0:Hid (∀ j,j < n*3→w.cell? ⟨b,o+j,none⟩=xs[j]?):=hcell;have F0:Hid (∀ j,w.frozen? ⟨b,j,none⟩=false):=g4;clear hcell g4 hw;go_enter Tryz.func54,Tryz.ntmps54;go_wp2
  go_loopw [1,5] (fun c i wr=>∃ k:Nat,k≤n∧i=.int .i64 k∧c=.int .i64 (k0+3*k)∧Hid (∃ ys:List Value,ys.length=n*3∧(∀ j,j < n*3→wr.cell? ⟨b,o+j,none⟩=ys[j]?)∧IsMis ys n∧(∀ j,j < k*3→ys[j]?=(mis (zdc k0 n))[j]?)∧(∀ j,wr.frozen? ⟨b,j,none⟩=false)∧Outside b (b+1) w wr)) (fun _ i _=>n - (intOf i).toNat)
  case atStart=>exact ⟨0,by omega,rfl,by simp,⟨xs,hlen,X0.o,hx,fun j hj=>absurd hj (by omega),F0.o,Outside.refl _ _ _⟩⟩
  case round =>
   obtain ⟨k,hk,rfl,rfl,I⟩:=hrel;clear hx X0 F0;obtain ⟨ys,hl,hcl,hys,hd,hfr,hout⟩:=I.o;clear I
   by_cases hlt:k < n
   ·obtain ⟨x,y,z,q0,q1,q2⟩:=hys k hlt;have f0:=hfr (o+k*3);have f1:=hfr (o+k*3+1);have f2:=hfr (o+k*3+2);have e0:=(hcl (k*3) (by omega)).trans q0;have e1:=(hcl (k*3+1) (by omega)).trans q1;have e2:=(hcl (k*3+2) (by omega)).trans q2;rw[← Nat.add_assoc] at e1 e2;have IH:=zaa (hys.put3 hl k (k0+3*k) (k0+3*k+1) (k0+3*k+1+1))
    have DH:Hid (∀ j,j < (k+1)*3→(put3 ys k (.int .i64 (k0+3*k)) (.int .i64 (k0+3*k+1)) (.int .i64 (k0+3*k+1+1)))[j]?=(mis (zdc k0 n))[j]?):=by
     have hk':k < (zdc k0 n).length:=by rw[zau];exact hlt
     have:=zkd (ps:=zdc k0 n) hk' (by rw[zau];exact hl) hd;rw[zmi] at this;exact this
    obtain ⟨w1,hw1⟩:∃ w1,w1=wr.setCell ⟨b,o+k*3,none⟩ (.int .i64 (k0+3*k)):=⟨_,rfl⟩
    obtain ⟨w2,hw2⟩:∃ w2,w2=w1.setCell ⟨b,o+k*3+1,none⟩ (.int .i64 (k0+3*k+1)):=⟨_,rfl⟩
    obtain ⟨w3,hw3⟩:∃ w3,w3=w2.setCell ⟨b,o+k*3+2,none⟩ (.int .i64 (k0+3*k+1+1)):=⟨_,rfl⟩
    have C1:∀ j,w1.cell? ⟨b,j,none⟩=if j=o+k*3 then some (.int .i64 (k0+3*k)) else wr.cell? ⟨b,j,none⟩:=fun j=>by rw[hw1];exact zlr e0 _ j
    have C2:∀ j,w2.cell? ⟨b,j,none⟩=if j=o+k*3+1 then some (.int .i64 (k0+3*k+1)) else w1.cell? ⟨b,j,none⟩:=fun j=>by rw[hw2];exact zlr (by rw[C1,if_neg (by omega)];exact e1) _ j
    have C3:∀ j,w3.cell? ⟨b,j,none⟩=if j=o+k*3+2 then some (.int .i64 (k0+3*k+1+1)) else w2.cell? ⟨b,j,none⟩:=fun j=>by rw[hw3];exact zlr (by rw[C2,if_neg (by omega),C1,if_neg (by omega)];exact e2) _ j
    have CH:Hid (∀ j,j < n*3→w3.cell? ⟨b,o+j,none⟩=(put3 ys k (.int .i64 (k0+3*k)) (.int .i64 (k0+3*k+1)) (.int .i64 (k0+3*k+1+1)))[j]?):=fun j hj=>by
     rw[C3,C2,C1,zdn (by omega)]
     by_cases a2:j=k*3+2
     ·rw[if_pos (by omega),if_pos a2]
     ·by_cases a1:j=k*3+1
      ·rw[if_neg (by omega),if_pos (by omega),if_neg a2,if_pos a1]
      ·by_cases a:j=k*3
       ·rw[if_neg (by omega),if_neg (by omega),if_pos (by omega),if_neg a2,if_neg a1,if_pos a]
       ·rw[if_neg (by omega),if_neg (by omega),if_neg (by omega),if_neg a2,if_neg a1,if_neg a];exact hcl j hj
    have FH:Hid (∀ j,w3.frozen? ⟨b,j,none⟩=false):=fun j=>by rw[hw3,zgb,hw2,zgb,hw1,zgb];exact hfr j
    have OH:Hid (Outside b (b+1) w w3):=by
     rw[hw3,hw2,hw1];exact ((hout.setCell (a:=⟨b,_,none⟩) (Nat.le_refl _) (Nat.lt_succ_self _) _).setCell (a:=⟨b,_,none⟩) (Nat.le_refl _) (Nat.lt_succ_self _) _).setCell (a:=⟨b,_,none⟩) (Nat.le_refl _) (Nat.lt_succ_self _) _
    have LH:Hid ((put3 ys k (.int .i64 (k0+3*k)) (.int .i64 (k0+3*k+1)) (.int .i64 (k0+3*k+1+1))).length=n*3):=by rw[zxm];exact hl
    rw[hw2,hw1] at hw3;clear hys hd hfr hcl q0 q1 q2 C1 C2 C3 hw1 hw2 w1 w2 hout hl;go_wp2;rw[← hw3]
    go_roundw
    case rel=>exact ⟨k+1,by omega,by go_num,by go_num,⟨_,LH.o,CH.o,IH.o,DH.o,FH.o,OH.o⟩⟩
    case measure=>simp[intOf];omega
   ·have e:k=n:=by omega
    subst e;have e:=ztt (ps:=zdc k0 k) (by rw[zau];exact hl) (by rw[zau];exact hd);have CC:=zaa hcl;have FF:=zaa hfr;have OO:=zaa hout;clear hys hd hcl hfr hout;go_wp2;go_ret;rw[e] at CC;have hz:=OO.o.size;refine ⟨rfl,⟨⟨?_,some ⟨b,o,none⟩,cap,?_,?_,fun _=>⟨b,o,rfl,by omega,?_⟩⟩,fun b' e'=>?_⟩,OO.o.mono g1 (by omega)⟩
    ·rw[zau,zwq,zau]
    ·rw[zau]
    ·rw[zau];exact hcap
    ·rw[zau];exact CC.o
    ·cases e'
     exact ⟨g1,g2,Nat.lt_of_lt_of_le hbl hz,FF.o,_,_,_,rfl⟩
 ·obtain rfl:n=0:=by omega
  refine (zjd ao cap k0 w).mono ?_;rintro e w' ⟨rfl,rfl⟩;exact ⟨by simp,⟨⟨rfl,ao,cap,rfl,hcap,fun h=>absurd h (by simp[zdc])⟩,hw⟩,Outside.refl _ _ _⟩
def RdF (w:World) (v:Value) (ws:List Int) (ps:List St) (es:List Int) (qs:List Se) (hs:List Int) (td:List Mi) (cd vl:Int) (nm:List ByteArray) (fr:Bool):Prop :=
 ∃ aW cW aP cP aS cS aQ cQ aH cH aT cT aN cN,v=.agg #[.slice aW ws.length cW,.slice aP ps.length cP,.slice aS es.length cS,.slice aQ qs.length cQ,.slice aH hs.length cH,.slice aT td.length cT,.int .i64 cd,.int .i64 vl,.slice aN nm.length cN,.bool fr]∧RdDev w (.agg #[.slice aW ws.length cW,.slice aP ps.length cP,.slice aS es.length cS,.slice aQ qs.length cQ]) ws ps es qs∧RdI w (.slice aH hs.length cH) hs∧RdM w (.slice aT td.length cT) td∧RdT w (.slice aN nm.length cN) nm
theorem RdF.below {w w':World} {v:Value} {ws:List Int} {ps:List St} {es:List Int} {qs:List Se} {hs:List Int} {td:List Mi} {cd vl:Int} {nm:List ByteArray} {fr:Bool} (h:RdF w v ws ps es qs hs td cd vl nm fr) (s:Below w.heap.size w w'):RdF w' v ws ps es qs hs td cd vl nm fr:=by
 obtain ⟨aW,cW,aP,cP,aS,cS,aQ,cQ,aH,cH,aT,cT,aN,cN,rfl,a,b,c,d⟩:=h;exact ⟨aW,cW,aP,cP,aS,cS,aQ,cQ,aH,cH,aT,cT,aN,cN,rfl,a.below s,Rd.below b s,Rd.below c s,Rd.below d s⟩
structure FarF (lo hi ld ud lh uh lt ut ln un:Nat):Prop where
 d0:lo≤ld
 d1:ud≤hi
 h0:lo≤lh
 h1:uh≤hi
 t0:lo≤lt
 t1:ut≤hi
 n0:lo≤ln
 n1:un≤hi
 dh:ud≤lh∨uh≤ld
 dt:ud≤lt∨ut≤ld
 dn:ud≤ln∨un≤ld
 ht:uh≤lt∨ut≤lh
 hn:uh≤ln∨un≤lh
 tn:ut≤ln∨un≤lt
def RowF (w:World) (lo hi:Nat) (v:Value) (ws:List Int) (ps:List St) (es:List Int) (qs:List Se) (hs:List Int) (td:List Mi) (cd vl:Int) (nm:List ByteArray) (fr:Bool):Prop :=
 ∃ vW vP vS vQ vH vT vN ld ud lh uh lt ut ln un,v=.agg #[vW,vP,vS,vQ,vH,vT,.int .i64 cd,.int .i64 vl,vN,.bool fr]∧RowDev w ld ud (.agg #[vW,vP,vS,vQ]) ws ps es qs∧Row w 3 1 lh uh vH hs.length (zbk hs)∧RowW w lt ut vT td∧Row w 9 1 ln un vN nm.length (zoi nm)∧FarF lo hi ld ud lh uh lt ut ln un
theorem RowF.rd {w:World} {lo hi:Nat} {v:Value} {ws:List Int} {ps:List St} {es:List Int} {qs:List Se} {hs:List Int} {td:List Mi} {cd vl:Int} {nm:List ByteArray} {fr:Bool} (h:RowF w lo hi v ws ps es qs hs td cd vl nm fr):RdF w v ws ps es qs hs td cd vl nm fr:=by
 obtain ⟨vW,vP,vS,vQ,vH,vT,vN,ld,ud,lh,uh,lt,ut,ln,un,rfl,a,b,c,d,-⟩:=h;obtain ⟨aW,cW,aP,cP,aS,cS,aQ,cQ,e,-,-⟩:=a.rd.form
 cases e
 obtain ⟨-,aH,cH,rfl,-⟩:=b.rd;obtain ⟨-,aT,cT,rfl,-⟩:=c.1;obtain ⟨-,aN,cN,rfl,-⟩:=d.rd;exact ⟨aW,cW,aP,cP,aS,cS,aQ,cQ,aH,cH,aT,cT,aN,cN,rfl,a.rd,b.rd,c.1,d.rd⟩
theorem RowF.below {w w':World} {lo hi:Nat} {v:Value} {ws:List Int} {ps:List St} {es:List Int} {qs:List Se} {hs:List Int} {td:List Mi} {cd vl:Int} {nm:List ByteArray} {fr:Bool} (h:RowF w lo hi v ws ps es qs hs td cd vl nm fr) {B:Nat} (hb:Below B w w') (hB:hi≤B):RowF w' lo hi v ws ps es qs hs td cd vl nm fr:=by
 obtain ⟨vW,vP,vS,vQ,vH,vT,vN,ld,ud,lh,uh,lt,ut,ln,un,rfl,a,b,c,d,f⟩:=h;have:=f.d1;have:=f.h1;have:=f.t1;have:=f.n1;exact ⟨vW,vP,vS,vQ,vH,vT,vN,ld,ud,lh,uh,lt,ut,ln,un,rfl,a.below hb (by omega),b.below hb (by omega),c.below hb (by omega),d.below hb (by omega),f⟩
theorem RowF.outside {w w':World} {lo hi:Nat} {v:Value} {ws:List Int} {ps:List St} {es:List Int} {qs:List Se} {hs:List Int} {td:List Mi} {cd vl:Int} {nm:List ByteArray} {fr:Bool} (h:RowF w lo hi v ws ps es qs hs td cd vl nm fr) {lo' hi':Nat} (ho:Outside lo' hi' w w') (hd:hi≤lo'∨hi'≤lo) (hz:hi≤w.heap.size):RowF w' lo hi v ws ps es qs hs td cd vl nm fr:=by
 obtain ⟨vW,vP,vS,vQ,vH,vT,vN,ld,ud,lh,uh,lt,ut,ln,un,rfl,a,b,c,d,f⟩:=h;have:=f.d0;have:=f.h0;have:=f.t0;have:=f.n0;have:=f.d1;have:=f.h1;have:=f.t1;have:=f.n1;exact ⟨vW,vP,vS,vQ,vH,vT,vN,ld,ud,lh,uh,lt,ut,ln,un,rfl,a.outside ho (by omega) (by omega),b.outside ho (by omega) (by omega),c.outside ho (by omega),d.outside ho (by omega) (by omega),f⟩
theorem RowF.wide {w:World} {lo hi:Nat} {v:Value} {ws:List Int} {ps:List St} {es:List Int} {qs:List Se} {hs:List Int} {td:List Mi} {cd vl:Int} {nm:List ByteArray} {fr:Bool} (h:RowF w lo hi v ws ps es qs hs td cd vl nm fr) {lo' hi':Nat} (p:lo'≤lo) (q:hi≤hi'):RowF w lo' hi' v ws ps es qs hs td cd vl nm fr:=by
 obtain ⟨vW,vP,vS,vQ,vH,vT,vN,ld,ud,lh,uh,lt,ut,ln,un,rfl,a,b,c,d,f⟩:=h;exact ⟨vW,vP,vS,vQ,vH,vT,vN,ld,ud,lh,uh,lt,ut,ln,un,rfl,a,b,c,d,⟨Nat.le_trans p f.d0,Nat.le_trans f.d1 q,Nat.le_trans p f.h0,Nat.le_trans f.h1 q,Nat.le_trans p f.t0,Nat.le_trans f.t1 q,Nat.le_trans p f.n0,Nat.le_trans f.n1 q,f.dh,f.dt,f.dn,f.ht,f.hn,f.tn⟩⟩
theorem RowF.form {w:World} {lo hi:Nat} {v:Value} {ws:List Int} {ps:List St} {es:List Int} {qs:List Se} {hs:List Int} {td:List Mi} {cd vl:Int} {nm:List ByteArray} {fr:Bool} (h:RowF w lo hi v ws ps es qs hs td cd vl nm fr):∃ aW cW aP cP aS cS aQ cQ aH cH aT cT aN cN,v=.agg #[.slice aW ws.length cW,.slice aP ps.length cP,.slice aS es.length cS,.slice aQ qs.length cQ,.slice aH hs.length cH,.slice aT td.length cT,.int .i64 cd,.int .i64 vl,.slice aN nm.length cN,.bool fr]:=by
 obtain ⟨aW,cW,aP,cP,aS,cS,aQ,cQ,aH,cH,aT,cT,aN,cN,rfl,-⟩:=h.rd;exact ⟨aW,cW,aP,cP,aS,cS,aQ,cQ,aH,cH,aT,cT,aN,cN,rfl⟩
theorem zlp (ao:Option Addr) (ss:List ByteArray) (cap:Nat) (left:Int) (w:World) (h:RdT w (.slice ao ss.length cap) ss) (hn:ss.length≤maxLen) (hs:∀ k (hk:k < ss.length),ss[k].size≤maxLen) (h0:0≤left) (h1:left≤1048576) :
  Calls Tryz.prog 118 #[.slice ao ss.length cap,.int .i64 left] w fun e w'=>∃ r:Int,e=.returned (.int .i64 r)∧(0≤r→ss.length≤1048576∧r≤1048576)∧-1≤r∧w'=w:=by
 obtain ⟨ao',cap',e,hcap,hc⟩:=h.shape
 cases e
 unfold maxLen at hn hs;clear h;have HC:=zaa hc;have HS:=zaa hs;clear hc hs hcap
 by_cases c:left < (ss.length:Int)
 ·have c':left - (ss.length:Int) < 0:=by omega
  go_enter Tryz.func118,Tryz.ntmps118;go_wp2;go_ret;exact ⟨-1,rfl,fun h=>absurd h (by decide),by decide,rfl⟩
 ·have c':¬ left - (ss.length:Int) < 0:=by omega
  have hl:ss.length≤1048576:=by omega
  go_enter Tryz.func118,Tryz.ntmps118;go_wp2
  go_loop [1,5] (fun l i=>∃ k:Nat,k≤ss.length∧i=.int .i64 k∧∃ z:Int,l=.int .i64 z∧0≤z∧z≤1048576) (fun _ i=>ss.length - (intOf i).toNat)
  case atStart=>exact ⟨0,by omega,rfl,_,rfl,by omega,by omega⟩
  case round =>
   obtain ⟨k,hk,rfl,z,rfl,z0,z1⟩:=hrel
   by_cases hlt:k < ss.length
   ·obtain ⟨b,o,rfl,hbl,hcell⟩:=HC.o (by omega);have hck:=hcell k hlt;have hsz:=HS.o k hlt;clear hcell HC HS;generalize ss[k]=x at hck hsz
    by_cases d:z < (x.size:Int)
    ·have d':z - (x.size:Int) < 0:=by omega
     go_wp2;go_ret;exact ⟨-1,rfl,fun h=>absurd h (by decide),by decide,rfl⟩
    ·have d':¬ z - (x.size:Int) < 0:=by omega
     go_wp2
     go_round
     case rel=>exact ⟨k+1,by omega,by go_num,z - (x.size:Int),by go_num,by omega,by omega⟩
     case measure=>simp[intOf];omega
   ·have e:k=ss.length:=by omega
    subst e;go_wp2;go_ret;exact ⟨z,rfl,fun _=>by omega,by omega,rfl⟩
theorem zmh (c v:Int) (ao:Option Addr) (ss:List ByteArray) (cap:Nat) (left:Int) (w:World) (h:RdT w (.slice ao ss.length cap) ss) (hn:ss.length≤maxLen) (hs:∀ k (hk:k < ss.length),ss[k].size≤maxLen) (h0:0≤left) (h1:left≤1048576) :
  Calls Tryz.prog 69 #[.agg #[.int .i64 c,.int .i64 v,.slice ao ss.length cap],.int .i64 left] w fun e w'=>∃ r:Int,e=.returned (.int .i64 r)∧(0≤r→ss.length≤1048576∧r≤1048576)∧-1≤r∧Below w.heap.size w w':=by
 have BW:Hid (Below w.heap.size w (w.alloc (.cells #[.int .i64 c,.int .i64 v,.slice ao ss.length cap] 59))):=(Below.refl _ _).alloc (Nat.le_refl _) _;have LS:=zaa (zlp ao ss cap left _ (Rd.below h BW.o) hn hs h0 h1);clear h hn hs;go_enter Tryz.func69,Tryz.ntmps69;go_wp2_with fail;refine LS.o.mono ?_;rintro e w1 ⟨r,rfl,hr,hr1,hw1⟩;subst w1;clear LS
 by_cases c:r < 0
 ·go_wp2;go_ret;exact ⟨-1,rfl,fun h=>absurd h (by decide),by decide,BW.o⟩
 ·go_wp2;go_ret;exact ⟨r,rfl,hr,hr1,BW.o⟩
end Go.Proofs.YtbohndgbfbfldaaGreatDoor
