/- File systems: counted, copied, held against one another, marked. -/
import Derived.Test.YtbohndgbfbfldaaGreatDoorZAT
set_option maxRecDepth 100000
set_option maxHeartbeats 8000000
namespace Go.Proofs.YtbohndgbfbfldaaGreatDoor
open Go.RowKit
theorem tenD {w:World} {b:Nat} {t:TypeId} {x0 x1 x2 x3 x4 x5 x6 x7 x8 x9:Value} (h:w.heap[b]?=some (.cells #[x0,x1,x2,x3,x4,x5,x6,x7,x8,x9] t (0,0))):w.cell? ⟨b,0,none⟩=some x0∧w.cell? ⟨b,1,none⟩=some x1∧w.cell? ⟨b,2,none⟩=some x2∧w.cell? ⟨b,3,none⟩=some x3:=by obtain ⟨a,b,c,d,-⟩:=zcv h;exact ⟨a,b,c,d⟩
theorem tenH {w:World} {b:Nat} {t:TypeId} {x0 x1 x2 x3 x4 x5 x6 x7 x8 x9:Value} (h:w.heap[b]?=some (.cells #[x0,x1,x2,x3,x4,x5,x6,x7,x8,x9] t (0,0))):w.cell? ⟨b,4,none⟩=some x4:=(zcv h).2.2.2.2.1
theorem tenT {w:World} {b:Nat} {t:TypeId} {x0 x1 x2 x3 x4 x5 x6 x7 x8 x9:Value} (h:w.heap[b]?=some (.cells #[x0,x1,x2,x3,x4,x5,x6,x7,x8,x9] t (0,0))):w.cell? ⟨b,5,none⟩=some x5:=(zcv h).2.2.2.2.2.1
theorem tenA {w:World} {b:Nat} {t:TypeId} {x0 x1 x2 x3 x4 x5 x6 x7 x8 x9:Value} (h:w.heap[b]?=some (.cells #[x0,x1,x2,x3,x4,x5,x6,x7,x8,x9] t (0,0))):w.cell? ⟨b,6,none⟩=some x6∧w.cell? ⟨b,7,none⟩=some x7∧w.cell? ⟨b,8,none⟩=some x8:=by obtain ⟨-,-,-,-,-,-,a,b,c,-⟩:=zcv h;exact ⟨a,b,c⟩
theorem tenB {w:World} {b:Nat} {t:TypeId} {x0 x1 x2 x3 x4 x5 x6 x7 x8 x9:Value} (h:w.heap[b]?=some (.cells #[x0,x1,x2,x3,x4,x5,x6,x7,x8,x9] t (0,0))):w.cell? ⟨b,9,none⟩=some x9:=(zcv h).2.2.2.2.2.2.2.2.2.1
theorem zaf {c w':World} {b:Nat} {o:Obj} {B:Nat} (h:c.heap[b]?=some o) (hb:Below B c w') (hB:b < B):w'.heap[b]?=some o:=(hb.block b hB).trans h
theorem zap {c:World} {b:Nat} {o:Obj} (h:c.heap[b]?=some o):b < c.heap.size:=(Array.getElem?_eq_some_iff.1 h).1
theorem yafj (aW aP aS aQ aH aT aN:Option Addr) (cW cP cS cQ cH cT cN:Nat) (ws:List Int) (ps:List St) (es:List Int) (qs:List Se) (hs:List Int) (td:List Mi) (cd vl:Int) (nm:List ByteArray) (fr:Bool) (w:World) (hws:ws.length≤maxLen) (hps:ps.length≤maxLen) (hes:es.length≤maxLen) (hqs:qs.length≤maxLen) (hhs:hs.length≤maxLen) (htd:td.length≤maxLen) (hnm:nm.length≤maxLen) (hN:RdT w (.slice aN nm.length cN) nm) (hz:∀ k (hk:k < nm.length),nm[k].size≤maxLen) :
  Calls Tryz.prog 27 #[.agg #[.slice aW ws.length cW,.slice aP ps.length cP,.slice aS es.length cS,.slice aQ qs.length cQ,.slice aH hs.length cH,.slice aT td.length cT,.int .i64 cd,.int .i64 vl,.slice aN nm.length cN,.bool fr],.int .i64 1048576] w fun e w'=>∃ r:Int,e=.returned (.int .i64 r)∧(0≤r→(ws.length≤1048576∧ps.length≤1048576∧es.length≤1048576∧qs.length≤1048576∧hs.length≤1048576∧td.length≤1048576∧nm.length≤1048576)∧r≤1048576)∧-1≤r∧Below w.heap.size w w':=by
 obtain ⟨V,hV⟩:∃ V,V=w.alloc (.cells #[.slice aW ws.length cW,.slice aP ps.length cP,.slice aS es.length cS,.slice aQ qs.length cQ,.slice aH hs.length cH,.slice aT td.length cT,.int .i64 cd,.int .i64 vl,.slice aN nm.length cN,.bool fr] 61):=⟨_,rfl⟩
 have BV:Hid (Below w.heap.size w V):=by rw[hV];exact (Below.refl _ _).alloc (Nat.le_refl _) _
 have XV:Hid (V.heap[w.heap.size]?=some (.cells #[.slice aW ws.length cW,.slice aP ps.length cP,.slice aS es.length cS,.slice aQ qs.length cQ,.slice aH hs.length cH,.slice aT td.length cT,.int .i64 cd,.int .i64 vl,.slice aN nm.length cN,.bool fr] 61 (0,0))):=by rw[hV];exact zae rfl
 have LD:Hid (Calls Tryz.prog 66 #[.agg #[.slice aW ws.length cW,.slice aP ps.length cP,.slice aS es.length cS,.slice aQ qs.length cQ],.int .i64 1048576] V fun e w'=>∃ r:Int,e=.returned (.int .i64 r)∧(0≤r→(ws.length≤1048576∧ps.length≤1048576∧es.length≤1048576∧qs.length≤1048576)∧r≤1048576)∧-1≤r∧Below V.heap.size V w'):=by
  refine (zls aW aP aS aQ ws.length ps.length es.length qs.length cW cP cS cQ V hws hps hes hqs).mono ?_;rintro e w1 ⟨rfl,hb⟩;refine ⟨_,rfl,?_,?_,hb⟩
  ·intro h
   split at h
   ·exact absurd h (by decide)
   ·rename_i c;rw[if_neg c];omega
  ·split <;> omega
 have LH:Hid (∀ (r:Int) w1,0≤r→r≤1048576→Calls Tryz.prog 67 #[.slice aH hs.length cH,.int .i64 r] w1 fun e w'=>∃ q:Int,e=.returned (.int .i64 q)∧(0≤q→hs.length≤1048576∧q≤1048576)∧-1≤q∧w'=w1):=by
  intro r w1 h0 h1;refine (zbw aH hs.length cH r w1 hhs h0 h1).mono ?_;rintro e w1 ⟨rfl,rfl⟩;refine ⟨_,rfl,?_,?_,rfl⟩ <;> unfold zdr
  ·intro h
   split at h
   ·exact absurd h (by decide)
   ·rename_i c;rw[if_neg c];omega
  ·split <;> omega
 have LT:Hid (∀ (r:Int) w1,0≤r→r≤1048576→Calls Tryz.prog 68 #[.slice aT td.length cT,.int .i64 r] w1 fun e w'=>∃ q:Int,e=.returned (.int .i64 q)∧(0≤q→td.length≤1048576∧q≤1048576)∧-1≤q∧w'=w1):=by
  intro r w1 h0 h1;refine (zob aT td.length cT r w1 htd h0 h1).mono ?_;rintro e w1 ⟨rfl,rfl⟩;refine ⟨_,rfl,?_,?_,rfl⟩ <;> unfold zdr
  ·intro h
   split at h
   ·exact absurd h (by decide)
   ·rename_i c;rw[if_neg c];omega
  ·split <;> omega
 have LN:Hid (∀ (r:Int) w1,0≤r→r≤1048576→Below w.heap.size w w1→Calls Tryz.prog 69 #[.agg #[.int .i64 cd,.int .i64 vl,.slice aN nm.length cN],.int .i64 r] w1 fun e w'=>∃ q:Int,e=.returned (.int .i64 q)∧(0≤q→nm.length≤1048576∧q≤1048576)∧-1≤q∧Below w1.heap.size w1 w') :=
  fun r w1 h0 h1 hb=>zmh cd vl aN nm cN r w1 (Rd.below hN hb) hnm hz h0 h1
 clear hws hps hes hqs hhs htd hnm hN hz;have ltV:w.heap.size < V.heap.size:=zap XV.o;go_enter Tryz.func27,Tryz.ntmps27;go_upto_region 1 with fail;rw[← hV];clear hV;obtain ⟨x0,x1,x2,x3⟩:=tenD XV.o;go_wp2_with fail;refine LD.o.mono ?_;rintro e w1 ⟨r1,rfl,s1,m1,hb1⟩;clear x0 x1 x2 x3 LD;have B1:=zaa (zab BV.o hb1 BV.o.size);have X1:=zaa (zaf XV.o hb1 ltV);clear BV XV hb1
 by_cases c1:r1 < 0
 ·clear X1 LH LT LN s1;go_wp2;go_ret;exact ⟨-1,rfl,fun h=>absurd h (by decide),by decide,B1.o⟩
 obtain ⟨g1,q1⟩:=s1 (by omega);have x4:=tenH X1.o;go_wp2_with fail;refine (LH.o r1 w1 (by omega) q1).mono ?_;rintro e w2 ⟨r2,rfl,s2,m2,hw2⟩;subst w2;clear x4 LH
 by_cases c2:r2 < 0
 ·clear X1 LT LN s1 s2;go_wp2;go_ret;exact ⟨-1,rfl,fun h=>absurd h (by decide),by decide,B1.o⟩
 obtain ⟨g2,q2⟩:=s2 (by omega);have x5:=tenT X1.o;go_wp2_with fail;refine (LT.o r2 w1 (by omega) q2).mono ?_;rintro e w2 ⟨r3,rfl,s3,m3,hw2⟩;subst w2;clear x5 LT
 by_cases c3:r3 < 0
 ·clear X1 LN s1 s2 s3;go_wp2;go_ret;exact ⟨-1,rfl,fun h=>absurd h (by decide),by decide,B1.o⟩
 obtain ⟨g3,q3⟩:=s3 (by omega);obtain ⟨x6,x7,x8⟩:=tenA X1.o;go_wp2_with fail;refine (LN.o r3 w1 (by omega) q3 B1.o).mono ?_;rintro e w2 ⟨r4,rfl,s4,m4,hb2⟩;have B2:=zaa (zab B1.o hb2 B1.o.size);clear x6 x7 x8 LN X1 hb2 B1
 by_cases c4:r4 < 0
 ·clear s1 s2 s3 s4;go_wp2;go_ret;exact ⟨-1,rfl,fun h=>absurd h (by decide),by decide,B2.o⟩
 obtain ⟨g4,q4⟩:=s4 (by omega);clear s1 s2 s3 s4;go_wp2;go_ret;exact ⟨r4,rfl,fun _=>⟨by omega,q4⟩,m4,B2.o⟩
theorem zuv (va vb:Value) (ws:List Int) (ps:List St) (es:List Int) (qs:List Se) (hs:List Int) (td:List Mi) (cd vl:Int) (nm:List ByteArray) (fr:Bool) (w:World) (ha:RdF w va ws ps es qs hs td cd vl nm fr) (hb:RdF w vb ws ps es qs hs td cd vl nm fr) (hws:ws.length≤2147483648) (hps:ps.length≤2147483648) (hes:es.length≤2147483648) (hqs:qs.length≤2147483648) (hhs:hs.length≤2147483648) (htd:td.length≤2147483648) (hnm:nm.length≤2147483648) :
  Calls Tryz.prog 17 #[va,vb] w fun e w'=>e=.returned (.bool true)∧Below w.heap.size w w':=by
 obtain ⟨aW,cW,aP,cP,aS,cS,aQ,cQ,aH,cH,aT,cT,aN,cN,rfl,d1,h1,t1,n1⟩:=ha;obtain ⟨bW,dW,bP,dP,bS,dS,bQ,dQ,bH,dH,bT,dT,bN,dN,rfl,d2,h2,t2,n2⟩:=hb;have LD:=zaa (fun w1 (h:Below w.heap.size w w1)=>zjn _ _ ws ps es qs w1 (d1.below h) (d2.below h) hws hps hes hqs);have LH:=zaa (fun w1 (h:Below w.heap.size w w1)=>zdq _ _ hs w1 (Rd.below h1 h) (Rd.below h2 h) hhs);have LT:=zaa (fun w1 (h:Below w.heap.size w w1)=>zkt _ _ td w1 (Rd.below t1 h) (Rd.below t2 h) htd);have LN:=zaa (fun w1 (h:Below w.heap.size w w1)=>zfm cd vl _ _ nm w1 (Rd.below n1 h) (Rd.below n2 h) hnm);clear d1 d2 h1 h2 t1 t2 n1 n2 hws hps hes hqs hhs htd hnm
 obtain ⟨V,hV⟩:∃ V,V=(w.alloc (.cells #[.slice aW ws.length cW,.slice aP ps.length cP,.slice aS es.length cS,.slice aQ qs.length cQ,.slice aH hs.length cH,.slice aT td.length cT,.int .i64 cd,.int .i64 vl,.slice aN nm.length cN,.bool fr] 36)).alloc (.cells #[.slice bW ws.length dW,.slice bP ps.length dP,.slice bS es.length dS,.slice bQ qs.length dQ,.slice bH hs.length dH,.slice bT td.length dT,.int .i64 cd,.int .i64 vl,.slice bN nm.length dN,.bool fr] 36):=⟨_,rfl⟩
 have BV:Hid (Below w.heap.size w V):=by rw[hV];exact ((Below.refl _ _).alloc (Nat.le_refl _) _).alloc (by simp) _
 have XV:Hid (V.heap[w.heap.size]?=some (.cells #[.slice aW ws.length cW,.slice aP ps.length cP,.slice aS es.length cS,.slice aQ qs.length cQ,.slice aH hs.length cH,.slice aT td.length cT,.int .i64 cd,.int .i64 vl,.slice aN nm.length cN,.bool fr] 36 (0,0))):=by rw[hV];exact zao (zae rfl)
 have YV:Hid (V.heap[w.heap.size+1]?=some (.cells #[.slice bW ws.length dW,.slice bP ps.length dP,.slice bS es.length dS,.slice bQ qs.length dQ,.slice bH hs.length dH,.slice bT td.length dT,.int .i64 cd,.int .i64 vl,.slice bN nm.length dN,.bool fr] 36 (0,0))):=by rw[hV];exact zae (by simp)
 have zV:w.heap.size+1 < V.heap.size:=zap YV.o;go_enter Tryz.func17,Tryz.ntmps17;go_upto_region 1 with fail;rw[← hV];clear hV;obtain ⟨-,x0,x1,x2,x3⟩:=And.intro trivial (tenD XV.o);obtain ⟨-,y0,y1,y2,y3⟩:=And.intro trivial (tenD YV.o);go_wp2_with fail;refine (LD.o V BV.o).mono ?_;rintro e w1 ⟨rfl,hbw1⟩;clear x0 x1 x2 x3 y0 y1 y2 y3 LD;have zw1:w.heap.size+1 < w1.heap.size:=Nat.lt_of_lt_of_le zV hbw1.size;have Bw1:=zaa (zab BV.o hbw1 BV.o.size);have Xw1:=zaa (zaf XV.o hbw1 (by omega));have Yw1:=zaa (zaf YV.o hbw1 (by omega));clear BV XV YV hbw1;obtain ⟨-,x0⟩:=And.intro trivial (tenH Xw1.o);obtain ⟨-,y0⟩:=And.intro trivial (tenH Yw1.o);go_wp2_with fail;refine (LH.o w1 Bw1.o).mono ?_;rintro e w2 ⟨rfl,hbw2⟩;clear x0 y0 LH;have zw2:w.heap.size+1 < w2.heap.size:=Nat.lt_of_lt_of_le zw1 hbw2.size;have Bw2:=zaa (zab Bw1.o hbw2 Bw1.o.size);have Xw2:=zaa (zaf Xw1.o hbw2 (by omega));have Yw2:=zaa (zaf Yw1.o hbw2 (by omega));clear Bw1 Xw1 Yw1 hbw2;obtain ⟨-,x0⟩:=And.intro trivial (tenT Xw2.o);obtain ⟨-,y0⟩:=And.intro trivial (tenT Yw2.o);go_wp2_with fail;refine (LT.o w2 Bw2.o).mono ?_;rintro e w3 ⟨rfl,hbw3⟩;clear x0 y0 LT;have zw3:w.heap.size+1 < w3.heap.size:=Nat.lt_of_lt_of_le zw2 hbw3.size;have Bw3:=zaa (zab Bw2.o hbw3 Bw2.o.size);have Xw3:=zaa (zaf Xw2.o hbw3 (by omega));have Yw3:=zaa (zaf Yw2.o hbw3 (by omega));clear Bw2 Xw2 Yw2 hbw3;obtain ⟨-,x0,x1,x2⟩:=And.intro trivial (tenA Xw3.o);obtain ⟨-,y0,y1,y2⟩:=And.intro trivial (tenA Yw3.o);go_wp2_with fail;refine (LN.o w3 Bw3.o).mono ?_;rintro e w4 ⟨rfl,hbw4⟩;clear x0 x1 x2 y0 y1 y2 LN;have zw4:w.heap.size+1 < w4.heap.size:=Nat.lt_of_lt_of_le zw3 hbw4.size;have Bw4:=zaa (zab Bw3.o hbw4 Bw3.o.size);have Xw4:=zaa (zaf Xw3.o hbw4 (by omega));have Yw4:=zaa (zaf Yw3.o hbw4 (by omega));clear Bw3 Xw3 Yw3 hbw4;have x9:=tenB Xw4.o;have y9:=tenB Yw4.o;go_wp2;go_ret;exact ⟨rfl,Bw4.o⟩
def kD (k0:Int) (n m p q:Nat):Int:=k0+n+3*m+p+2*q
def MkF (w:World) (v:Value) (k0:Int) (n m p q a b:Nat) (cd vl:Int) (c:Nat) (fr:Bool):Prop :=
 RdF w v (zcg k0 n) (zca (k0+n) m) (zcg (k0+n+3*m) p) (zcc (k0+n+3*m+p) q) (zcg (kD k0 n m p q) a) (zdc (kD k0 n m p q+a) b) cd vl (zcb (kD k0 n m p q+a+3*b) c) fr
theorem zrj (v:Value) (k0:Int) (n m p q a b:Nat) (cd vl:Int) (c:Nat) (fr:Bool) (w:World) (h:MkF w v k0 n m p q a b cd vl c fr) (hn:n≤4194304) (hm:m≤4194304) (hp:p≤4194304) (hq:q≤4194304) (ha:a≤4194304) (hb:b≤4194304) (hc:c≤4194304) (h0:0≤k0) (h1:k0≤67108864) :
  Calls Tryz.prog 24 #[v,.int .i64 k0] w fun e w'=>e=.returned (.int .i64 (kD k0 n m p q+a+3*b+c))∧Below w.heap.size w w':=by
 obtain ⟨aW,cW,aP,cP,aS,cS,aQ,cQ,aH,cH,aT,cT,aN,cN,rfl,d1,r1,t1,n1⟩:=h;simp only[zas,zav,zaw,zau,zbd] at d1 r1 t1 n1 ⊢;have LD:=zaa (fun w1 (h:Below w.heap.size w w1)=>zhg _ n m p q k0 w1 (d1.below h) (by omega) (by omega) (by omega) (by omega) h0 h1);rw[show (k0+n+3*m+p+2*q:Int)=kD k0 n m p q from rfl] at LD
 have kk0:0≤kD k0 n m p q∧kD k0 n m p q≤268435456:=by unfold kD;omega
 generalize kD k0 n m p q=kk at *;have LH:=zaa (fun w1 (h:Below w.heap.size w w1)=>zcw _ a kk w1 (Rd.below r1 h) (by omega) (by omega) (by omega));have LT:=zaa (fun w1 (h:Below w.heap.size w w1)=>ziz _ b (kk+a) w1 (Rd.below t1 h) (by omega) (by omega) (by omega));have LN:=zaa (fun w1 (h:Below w.heap.size w w1)=>zjh cd vl _ c (kk+a+3*b) w1 (Rd.below n1 h) (by omega) (by omega) (by omega));clear d1 r1 t1 n1
 obtain ⟨V,hV⟩:∃ V,V=w.alloc (.cells #[.slice aW n cW,.slice aP m cP,.slice aS p cS,.slice aQ q cQ,.slice aH a cH,.slice aT b cT,.int .i64 cd,.int .i64 vl,.slice aN c cN,.bool fr] 36):=⟨_,rfl⟩
 have BV:Hid (Below w.heap.size w V):=by rw[hV];exact (Below.refl _ _).alloc (Nat.le_refl _) _
 have XV:Hid (V.heap[w.heap.size]?=some (.cells #[.slice aW n cW,.slice aP m cP,.slice aS p cS,.slice aQ q cQ,.slice aH a cH,.slice aT b cT,.int .i64 cd,.int .i64 vl,.slice aN c cN,.bool fr] 36 (0,0))):=by rw[hV];exact zae rfl
 have zV:w.heap.size < V.heap.size:=zap XV.o;go_enter Tryz.func24,Tryz.ntmps24;go_upto_region 1 with fail;rw[← hV];clear hV;obtain ⟨x0,x1,x2,x3⟩:=tenD XV.o;go_wp2_with fail;refine (LD.o V BV.o).mono ?_;rintro e w1 ⟨rfl,hb1⟩;have B1:=zaa (zab BV.o hb1 BV.o.size);have X1:=zaa (zaf XV.o hb1 zV);clear hb1 x0 x1 x2 x3 LD BV XV;have x4:=tenH X1.o;go_wp2_with fail;refine (LH.o w1 B1.o).mono ?_;rintro e w' ⟨rfl,hw'⟩;subst w';clear x4 LH;have x5:=tenT X1.o;go_wp2_with fail;refine (LT.o w1 B1.o).mono ?_;rintro e w' ⟨rfl,hw'⟩;subst w';clear x5 LT;obtain ⟨x6,x7,x8⟩:=tenA X1.o;go_wp2_with fail;refine (LN.o w1 B1.o).mono ?_;rintro e w2 ⟨rfl,hb2⟩;have B2:=zaa (zab B1.o hb2 B1.o.size);clear hb2 x6 x7 x8 LN X1 B1;go_wp2;go_ret;exact ⟨rfl,B2.o⟩
end Go.Proofs.YtbohndgbfbfldaaGreatDoor
