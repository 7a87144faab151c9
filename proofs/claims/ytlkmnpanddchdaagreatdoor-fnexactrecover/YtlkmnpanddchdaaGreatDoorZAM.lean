/- Several texts laid together: FqC, JrD. -/
import Derived.Test.YtlkmnpanddchdaaGreatDoorZAL
import Derived.Test.YtlkmnpanddchdaaGreatDoorZAA
import Derived.Test.YtlkmnpanddchdaaGreatDoorZAD
namespace Go.Proofs.YtlkmnpanddchdaaGreatDoor
open Go.RowKit
theorem tenD {w:World} {b:Nat} {t:TypeId} {x0 x1 x2 x3 x4 x5 x6 x7 x8 x9:Value} (h:w.heap[b]? = some (.cells #[x0,x1,x2,x3,x4,x5,x6,x7,x8,x9] t (0,0))):w.cell? ⟨b,0,none⟩ = some x0 ∧ w.cell? ⟨b,1,none⟩ = some x1 ∧ w.cell? ⟨b,2,none⟩ = some x2 ∧ w.cell? ⟨b,3,none⟩ = some x3:=by obtain ⟨a,b,c,d,-⟩:=zam h; exact ⟨a,b,c,d⟩
theorem tenH {w:World} {b:Nat} {t:TypeId} {x0 x1 x2 x3 x4 x5 x6 x7 x8 x9:Value} (h:w.heap[b]? = some (.cells #[x0,x1,x2,x3,x4,x5,x6,x7,x8,x9] t (0,0))):w.cell? ⟨b,4,none⟩ = some x4:=(zam h).2.2.2.2.1
theorem tenT {w:World} {b:Nat} {t:TypeId} {x0 x1 x2 x3 x4 x5 x6 x7 x8 x9:Value} (h:w.heap[b]? = some (.cells #[x0,x1,x2,x3,x4,x5,x6,x7,x8,x9] t (0,0))):w.cell? ⟨b,5,none⟩ = some x5:=(zam h).2.2.2.2.2.1
theorem tenA {w:World} {b:Nat} {t:TypeId} {x0 x1 x2 x3 x4 x5 x6 x7 x8 x9:Value} (h:w.heap[b]? = some (.cells #[x0,x1,x2,x3,x4,x5,x6,x7,x8,x9] t (0,0))):w.cell? ⟨b,6,none⟩ = some x6 ∧ w.cell? ⟨b,7,none⟩ = some x7 ∧ w.cell? ⟨b,8,none⟩ = some x8:=by obtain ⟨-,-,-,-,-,-,a,b,c,-⟩:=zam h; exact ⟨a,b,c⟩
theorem tenB {w:World} {b:Nat} {t:TypeId} {x0 x1 x2 x3 x4 x5 x6 x7 x8 x9:Value} (h:w.heap[b]? = some (.cells #[x0,x1,x2,x3,x4,x5,x6,x7,x8,x9] t (0,0))):w.cell? ⟨b,9,none⟩ = some x9:=(zam h).2.2.2.2.2.2.2.2.2.1
theorem zac {c w':World} {b:Nat} {o:Obj} {B:Nat} (h:c.heap[b]? = some o) (hb:Below B c w') (hB:b < B):w'.heap[b]? = some o:=(hb.block b hB).trans h
theorem zah {c:World} {b:Nat} {o:Obj} (h:c.heap[b]? = some o):b < c.heap.size:=(Array.getElem?_eq_some_iff.1 h).1
set_option maxRecDepth 100000 in
set_option maxHeartbeats 8000000 in
theorem yaph (aW aP aS aQ aH aT aN:Option Addr) (cW cP cS cQ cH cT cN:Nat) (ws:List Int) (ps:List St) (es:List Int) (qs:List Se) (hs:List Int) (td:List Mi) (cd vl:Int) (nm:List ByteArray) (fr:Bool) (w:World) (hws:ws.length ≤ maxLen) (hps:ps.length ≤ maxLen) (hes:es.length ≤ maxLen) (hqs:qs.length ≤ maxLen) (hhs:hs.length ≤ maxLen) (htd:td.length ≤ maxLen) (hnm:nm.length ≤ maxLen) (hN:RdT w (.slice aN nm.length cN) nm) (hz:∀ k (hk:k < nm.length),nm[k].size ≤ maxLen) :
  Calls Tryz.prog 6 #[.agg #[.slice aW ws.length cW,.slice aP ps.length cP,.slice aS es.length cS,.slice aQ qs.length cQ,.slice aH hs.length cH,.slice aT td.length cT,.int .i64 cd,.int .i64 vl,.slice aN nm.length cN,.bool fr],.int .i64 1048576] w fun e w' => ∃ r:Int,e = .returned (.int .i64 r) ∧ (0 ≤ r → (ws.length ≤ 1048576 ∧ ps.length ≤ 1048576 ∧ es.length ≤ 1048576 ∧ qs.length ≤ 1048576 ∧ hs.length ≤ 1048576 ∧ td.length ≤ 1048576 ∧ nm.length ≤ 1048576) ∧ r ≤ 1048576) ∧ -1 ≤ r ∧ Below w.heap.size w w':=by
 obtain ⟨V,hV⟩:∃ V,V = w.alloc (.cells #[.slice aW ws.length cW,.slice aP ps.length cP,.slice aS es.length cS,.slice aQ qs.length cQ,.slice aH hs.length cH,.slice aT td.length cT,.int .i64 cd,.int .i64 vl,.slice aN nm.length cN,.bool fr] 36):=⟨_,rfl⟩
 have BV:Hid (Below w.heap.size w V):=by rw [hV]; exact (Below.refl _ _).alloc (Nat.le_refl _) _
 have XV:Hid (V.heap[w.heap.size]? = some (.cells #[.slice aW ws.length cW,.slice aP ps.length cP,.slice aS es.length cS,.slice aQ qs.length cQ,.slice aH hs.length cH,.slice aT td.length cT,.int .i64 cd,.int .i64 vl,.slice aN nm.length cN,.bool fr] 36 (0,0))):=by rw [hV]; exact zag rfl
 have LD:Hid (Calls Tryz.prog 18 #[.agg #[.slice aW ws.length cW,.slice aP ps.length cP,.slice aS es.length cS,.slice aQ qs.length cQ],.int .i64 1048576] V fun e w' => ∃ r:Int,e = .returned (.int .i64 r) ∧ (0 ≤ r → (ws.length ≤ 1048576 ∧ ps.length ≤ 1048576 ∧ es.length ≤ 1048576 ∧ qs.length ≤ 1048576) ∧ r ≤ 1048576) ∧ -1 ≤ r ∧ Below V.heap.size V w'):=by
  refine (zvf aW aP aS aQ ws.length ps.length es.length qs.length cW cP cS cQ V hws hps hes hqs).mono ?_
  rintro e w1 ⟨rfl,hb⟩
  refine ⟨_,rfl,?_,?_,hb⟩
  ·intro h
   split at h
   ·exact absurd h (by decide)
   ·rename_i c
    rw [if_neg c]
    omega
  ·split <;> omega
 have LH:Hid (∀ (r:Int) w1,0 ≤ r → r ≤ 1048576 → Calls Tryz.prog 25 #[.slice aH hs.length cH,.int .i64 r] w1 fun e w' => ∃ q:Int,e = .returned (.int .i64 q) ∧ (0 ≤ q → hs.length ≤ 1048576 ∧ q ≤ 1048576) ∧ -1 ≤ q ∧ w' = w1):=by
  intro r w1 h0 h1
  refine (zek aH hs.length cH r w1 hhs h0 h1).mono ?_
  rintro e w1 ⟨rfl,rfl⟩
  refine ⟨_,rfl,?_,?_,rfl⟩ <;> unfold zhf
  ·intro h
   split at h
   ·exact absurd h (by decide)
   ·rename_i c
    rw [if_neg c]
    omega
  ·split <;> omega
 have LT:Hid (∀ (r:Int) w1,0 ≤ r → r ≤ 1048576 → Calls Tryz.prog 26 #[.slice aT td.length cT,.int .i64 r] w1 fun e w' => ∃ q:Int,e = .returned (.int .i64 q) ∧ (0 ≤ q → td.length ≤ 1048576 ∧ q ≤ 1048576) ∧ -1 ≤ q ∧ w' = w1):=by
  intro r w1 h0 h1
  refine (zxv aT td.length cT r w1 htd h0 h1).mono ?_
  rintro e w1 ⟨rfl,rfl⟩
  refine ⟨_,rfl,?_,?_,rfl⟩ <;> unfold zhf
  ·intro h
   split at h
   ·exact absurd h (by decide)
   ·rename_i c
    rw [if_neg c]
    omega
  ·split <;> omega
 have LN:Hid (∀ (r:Int) w1,0 ≤ r → r ≤ 1048576 → Below w.heap.size w w1 → Calls Tryz.prog 27 #[.agg #[.int .i64 cd,.int .i64 vl,.slice aN nm.length cN],.int .i64 r] w1 fun e w' => ∃ q:Int,e = .returned (.int .i64 q) ∧ (0 ≤ q → nm.length ≤ 1048576 ∧ q ≤ 1048576) ∧ -1 ≤ q ∧ Below w1.heap.size w1 w') :=
  fun r w1 h0 h1 hb => zxx cd vl aN nm cN r w1 (Rd.below hN hb) hnm hz h0 h1
 clear hws hps hes hqs hhs htd hnm hN hz
 have ltV:w.heap.size < V.heap.size:=zah XV.out
 go_enter Tryz.func6,Tryz.ntmps6
 go_upto_region 1 with fail
 rw [← hV]
 clear hV
 obtain ⟨x0,x1,x2,x3⟩:=tenD XV.out
 go_wp2_with fail
 refine LD.out.mono ?_
 rintro e w1 ⟨r1,rfl,s1,m1,hb1⟩
 clear x0 x1 x2 x3 LD
 have B1:=zaa (zab BV.out hb1 BV.out.size)
 have X1:=zaa (zac XV.out hb1 ltV)
 clear BV XV hb1
 by_cases c1:r1 < 0
 ·clear X1 LH LT LN s1
  go_wp2
  go_ret
  exact ⟨-1,rfl,fun h => absurd h (by decide),by decide,B1.out⟩
 obtain ⟨g1,q1⟩:=s1 (by omega)
 have x4:=tenH X1.out
 go_wp2_with fail
 refine (LH.out r1 w1 (by omega) q1).mono ?_
 rintro e w2 ⟨r2,rfl,s2,m2,hw2⟩
 subst w2
 clear x4 LH
 by_cases c2:r2 < 0
 ·clear X1 LT LN s1 s2
  go_wp2
  go_ret
  exact ⟨-1,rfl,fun h => absurd h (by decide),by decide,B1.out⟩
 obtain ⟨g2,q2⟩:=s2 (by omega)
 have x5:=tenT X1.out
 go_wp2_with fail
 refine (LT.out r2 w1 (by omega) q2).mono ?_
 rintro e w2 ⟨r3,rfl,s3,m3,hw2⟩
 subst w2
 clear x5 LT
 by_cases c3:r3 < 0
 ·clear X1 LN s1 s2 s3
  go_wp2
  go_ret
  exact ⟨-1,rfl,fun h => absurd h (by decide),by decide,B1.out⟩
 obtain ⟨g3,q3⟩:=s3 (by omega)
 obtain ⟨x6,x7,x8⟩:=tenA X1.out
 go_wp2_with fail
 refine (LN.out r3 w1 (by omega) q3 B1.out).mono ?_
 rintro e w2 ⟨r4,rfl,s4,m4,hb2⟩
 have B2:=zaa (zab B1.out hb2 B1.out.size)
 clear x6 x7 x8 LN X1 hb2 B1
 by_cases c4:r4 < 0
 ·clear s1 s2 s3 s4
  go_wp2
  go_ret
  exact ⟨-1,rfl,fun h => absurd h (by decide),by decide,B2.out⟩
 obtain ⟨g4,q4⟩:=s4 (by omega)
 clear s1 s2 s3 s4
 go_wp2
 go_ret
 exact ⟨r4,rfl,fun _ => ⟨by omega,q4⟩,m4,B2.out⟩
set_option maxRecDepth 100000 in
set_option maxHeartbeats 8000000 in
theorem zli (va vb:Value) (ws:List Int) (ps:List St) (es:List Int) (qs:List Se) (hs:List Int) (td:List Mi) (cd vl:Int) (nm:List ByteArray) (fr:Bool) (w:World) (ha:RdF w va ws ps es qs hs td cd vl nm fr) (hb:RdF w vb ws ps es qs hs td cd vl nm fr) (hws:ws.length ≤ 2147483648) (hps:ps.length ≤ 2147483648) (hes:es.length ≤ 2147483648) (hqs:qs.length ≤ 2147483648) (hhs:hs.length ≤ 2147483648) (htd:td.length ≤ 2147483648) (hnm:nm.length ≤ 2147483648) :
  Calls Tryz.prog 12 #[va,vb] w fun e w' => e = .returned (.bool true) ∧ Below w.heap.size w w':=by
 obtain ⟨aW,cW,aP,cP,aS,cS,aQ,cQ,aH,cH,aT,cT,aN,cN,rfl,d1,h1,t1,n1⟩:=ha
 obtain ⟨bW,dW,bP,dP,bS,dS,bQ,dQ,bH,dH,bT,dT,bN,dN,rfl,d2,h2,t2,n2⟩:=hb
 have LD:=zaa (fun w1 (h:Below w.heap.size w w1) => zqw _ _ ws ps es qs w1 (d1.below h) (d2.below h) hws hps hes hqs)
 have LH:=zaa (fun w1 (h:Below w.heap.size w w1) => zft _ _ hs w1 (Rd.below h1 h) (Rd.below h2 h) hhs)
 have LT:=zaa (fun w1 (h:Below w.heap.size w w1) => zuo _ _ td w1 (Rd.below t1 h) (Rd.below t2 h) htd)
 have LN:=zaa (fun w1 (h:Below w.heap.size w w1) => zvq cd vl _ _ nm w1 (Rd.below n1 h) (Rd.below n2 h) hnm)
 clear d1 d2 h1 h2 t1 t2 n1 n2 hws hps hes hqs hhs htd hnm
 obtain ⟨V,hV⟩:∃ V,V = (w.alloc (.cells #[.slice aW ws.length cW,.slice aP ps.length cP,.slice aS es.length cS,.slice aQ qs.length cQ,.slice aH hs.length cH,.slice aT td.length cT,.int .i64 cd,.int .i64 vl,.slice aN nm.length cN,.bool fr] 51)).alloc (.cells #[.slice bW ws.length dW,.slice bP ps.length dP,.slice bS es.length dS,.slice bQ qs.length dQ,.slice bH hs.length dH,.slice bT td.length dT,.int .i64 cd,.int .i64 vl,.slice bN nm.length dN,.bool fr] 51):=⟨_,rfl⟩
 have BV:Hid (Below w.heap.size w V):=by rw [hV]; exact ((Below.refl _ _).alloc (Nat.le_refl _) _).alloc (by simp) _
 have XV:Hid (V.heap[w.heap.size]? = some (.cells #[.slice aW ws.length cW,.slice aP ps.length cP,.slice aS es.length cS,.slice aQ qs.length cQ,.slice aH hs.length cH,.slice aT td.length cT,.int .i64 cd,.int .i64 vl,.slice aN nm.length cN,.bool fr] 51 (0,0))):=by rw [hV]; exact zal (zag rfl)
 have YV:Hid (V.heap[w.heap.size + 1]? = some (.cells #[.slice bW ws.length dW,.slice bP ps.length dP,.slice bS es.length dS,.slice bQ qs.length dQ,.slice bH hs.length dH,.slice bT td.length dT,.int .i64 cd,.int .i64 vl,.slice bN nm.length dN,.bool fr] 51 (0,0))):=by rw [hV]; exact zag (by simp)
 have zV:w.heap.size + 1 < V.heap.size:=zah YV.out
 go_enter Tryz.func12,Tryz.ntmps12
 go_upto_region 1 with fail
 rw [← hV]
 clear hV
 obtain ⟨-,x0,x1,x2,x3⟩:=And.intro trivial (tenD XV.out)
 obtain ⟨-,y0,y1,y2,y3⟩:=And.intro trivial (tenD YV.out)
 go_wp2_with fail
 refine (LD.out V BV.out).mono ?_
 rintro e w1 ⟨rfl,hbw1⟩
 clear x0 x1 x2 x3 y0 y1 y2 y3 LD
 have zw1:w.heap.size + 1 < w1.heap.size:=Nat.lt_of_lt_of_le zV hbw1.size
 have Bw1:=zaa (zab BV.out hbw1 BV.out.size)
 have Xw1:=zaa (zac XV.out hbw1 (by omega))
 have Yw1:=zaa (zac YV.out hbw1 (by omega))
 clear BV XV YV hbw1
 obtain ⟨-,x0⟩:=And.intro trivial (tenH Xw1.out)
 obtain ⟨-,y0⟩:=And.intro trivial (tenH Yw1.out)
 go_wp2_with fail
 refine (LH.out w1 Bw1.out).mono ?_
 rintro e w2 ⟨rfl,hbw2⟩
 clear x0 y0 LH
 have zw2:w.heap.size + 1 < w2.heap.size:=Nat.lt_of_lt_of_le zw1 hbw2.size
 have Bw2:=zaa (zab Bw1.out hbw2 Bw1.out.size)
 have Xw2:=zaa (zac Xw1.out hbw2 (by omega))
 have Yw2:=zaa (zac Yw1.out hbw2 (by omega))
 clear Bw1 Xw1 Yw1 hbw2
 obtain ⟨-,x0⟩:=And.intro trivial (tenT Xw2.out)
 obtain ⟨-,y0⟩:=And.intro trivial (tenT Yw2.out)
 go_wp2_with fail
 refine (LT.out w2 Bw2.out).mono ?_
 rintro e w3 ⟨rfl,hbw3⟩
 clear x0 y0 LT
 have zw3:w.heap.size + 1 < w3.heap.size:=Nat.lt_of_lt_of_le zw2 hbw3.size
 have Bw3:=zaa (zab Bw2.out hbw3 Bw2.out.size)
 have Xw3:=zaa (zac Xw2.out hbw3 (by omega))
 have Yw3:=zaa (zac Yw2.out hbw3 (by omega))
 clear Bw2 Xw2 Yw2 hbw3
 obtain ⟨-,x0,x1,x2⟩:=And.intro trivial (tenA Xw3.out)
 obtain ⟨-,y0,y1,y2⟩:=And.intro trivial (tenA Yw3.out)
 go_wp2_with fail
 refine (LN.out w3 Bw3.out).mono ?_
 rintro e w4 ⟨rfl,hbw4⟩
 clear x0 x1 x2 y0 y1 y2 LN
 have zw4:w.heap.size + 1 < w4.heap.size:=Nat.lt_of_lt_of_le zw3 hbw4.size
 have Bw4:=zaa (zab Bw3.out hbw4 Bw3.out.size)
 have Xw4:=zaa (zac Xw3.out hbw4 (by omega))
 have Yw4:=zaa (zac Yw3.out hbw4 (by omega))
 clear Bw3 Xw3 Yw3 hbw4
 have x9:=tenB Xw4.out
 have y9:=tenB Yw4.out
 go_wp2
 go_ret
 exact ⟨rfl,Bw4.out⟩
set_option maxRecDepth 100000 in
set_option maxHeartbeats 8000000 in
theorem zom (v:Value) (ws:List Int) (ps:List St) (es:List Int) (qs:List Se) (hs:List Int) (td:List Mi) (cd vl:Int) (nm:List ByteArray) (fr:Bool) (w:World) (h:RdF w v ws ps es qs hs td cd vl nm fr) (hws:ws.length ≤ 1048576) (hps:ps.length ≤ 1048576) (hes:es.length ≤ 1048576) (hqs:qs.length ≤ 1048576) (hhs:hs.length ≤ 1048576) (htd:td.length ≤ 1048576) (hnm:nm.length ≤ 1048576) :
  Calls Tryz.prog 8 #[v] w fun e w' => ∃ v',e = .returned v' ∧ RowF w' w.heap.size w'.heap.size v' ws ps es qs hs td cd vl nm fr ∧ Below w.heap.size w w':=by
 obtain ⟨aW,cW,aP,cP,aS,cS,aQ,cQ,aH,cH,aT,cT,aN,cN,rfl,d1,h1,t1,n1⟩:=h
 have LD:=zaa (fun w1 (h:Below w.heap.size w w1) => zvl _ ws ps es qs w1 (d1.below h) hws hps hes hqs)
 have LH:=zaa (fun w1 (h:Below w.heap.size w w1) => zcm _ hs w1 (Rd.below h1 h) hhs)
 have LT:=zaa (fun w1 (h:Below w.heap.size w w1) => zyr _ td w1 (Rd.below t1 h) htd)
 have LN:=zaa (fun w1 (h:Below w.heap.size w w1) => zza cd vl _ nm _ w1 (Rd.below n1 h) hnm)
 clear d1 h1 t1 n1 hws hps hes hqs hhs htd hnm
 obtain ⟨V,hV⟩:∃ V,V = ((w.alloc (.cells #[.slice aW ws.length cW,.slice aP ps.length cP,.slice aS es.length cS,.slice aQ qs.length cQ,.slice aH hs.length cH,.slice aT td.length cT,.int .i64 cd,.int .i64 vl,.slice aN nm.length cN,.bool fr] 36)).alloc (.cells #[.slice none 0 0,.slice none 0 0,.slice none 0 0,.slice none 0 0,.slice none 0 0,.slice none 0 0,.int .i64 0,.int .i64 0,.slice none 0 0,.bool false] 51)).alloc (.cells #[.slice none 0 0,.slice none 0 0,.slice none 0 0,.slice none 0 0,.slice none 0 0,.slice none 0 0,.int .i64 0,.int .i64 0,.slice none 0 0,.bool false] 51):=⟨_,rfl⟩
 have zV:V.heap.size = w.heap.size + 1 + 1 + 1:=by rw [hV]; simp
 have BV:Hid (Below w.heap.size w V):=by rw [hV]; exact (((Below.refl _ _).alloc (Nat.le_refl _) _).alloc (by simp) _).alloc (by simp <;> omega) _
 have XV:Hid (V.heap[w.heap.size]? = some (.cells #[.slice aW ws.length cW,.slice aP ps.length cP,.slice aS es.length cS,.slice aQ qs.length cQ,.slice aH hs.length cH,.slice aT td.length cT,.int .i64 cd,.int .i64 vl,.slice aN nm.length cN,.bool fr] 36 (0,0))):=by rw [hV]; exact zal (zal (zag rfl))
 have YV:Hid (V.heap[w.heap.size + 1]? = some (.cells #[.slice none 0 0,.slice none 0 0,.slice none 0 0,.slice none 0 0,.slice none 0 0,.slice none 0 0,.int .i64 0,.int .i64 0,.slice none 0 0,.bool false] 51 (0,0))):=by rw [hV]; exact zal (zag (by simp))
 have ZV:Hid (V.heap[w.heap.size + 1 + 1]? = some (.cells #[.slice none 0 0,.slice none 0 0,.slice none 0 0,.slice none 0 0,.slice none 0 0,.slice none 0 0,.int .i64 0,.int .i64 0,.slice none 0 0,.bool false] 51 (0,0))):=by rw [hV]; exact zag (by simp)
 have zV':w.heap.size + 3 ≤ V.heap.size:=by omega
 clear zV
 go_enter Tryz.func8,Tryz.ntmps8
 go_upto_region 2 with fail
 rw [← hV]
 clear hV
 obtain ⟨-,x0,x1,x2,x3⟩:=And.intro trivial (tenD XV.out)
 go_wp2_with fail
 refine (LD.out V BV.out).mono ?_
 rintro e w1 ⟨v1,rfl,hr,hb⟩
 obtain ⟨eW,fW,eP,fP,eS,fS,eQ,fQ,rfl,-,-⟩:=hr.rd.form
 clear x0 x1 x2 x3 LD
 have zw1:V.heap.size ≤ w1.heap.size:=hb.size
 have Bw1:=zaa (zab BV.out hb BV.out.size)
 have Xw1:=zaa (zac XV.out hb (by omega))
 have Yw1:=zaa (zac YV.out hb (by omega))
 have Zw1:=zaa (zac ZV.out hb (by omega))
 clear BV XV YV ZV hb 
 obtain ⟨u1,hwu1⟩:∃ u1,u1 = ((((w1.setCell ⟨w.heap.size + 1 + 1,0,none⟩ (.slice eW ws.length fW)).setCell ⟨w.heap.size + 1 + 1,1,none⟩ (.slice eP ps.length fP)).setCell ⟨w.heap.size + 1 + 1,2,none⟩ (.slice eS es.length fS)).setCell ⟨w.heap.size + 1 + 1,3,none⟩ (.slice eQ qs.length fQ)):=⟨_,rfl⟩
 have Ou1:Outside (w.heap.size + 2) (w.heap.size + 3) w1 u1:=by rw [hwu1]; (repeat (refine Outside.setCell ?_ (by simp only; omega) (by simp only; omega) _)); exact Outside.refl _ _ _
 have su1:w1.heap.size ≤ u1.heap.size ∧ u1.heap.size ≤ w1.heap.size:=by rw [hwu1]; simp [World.setCell]
 have Bu1:=zaa (Bw1.out.trans (Ou1.below (B:=w.heap.size) (by omega) (by omega)))
 have Xu1:=zaa ((Ou1.block (w.heap.size) (by omega) (by omega)).trans Xw1.out)
 have Yu1:=zaa ((Ou1.block (w.heap.size + 1) (by omega) (by omega)).trans Yw1.out)
 have Zu1:Hid (u1.heap[w.heap.size + 1 + 1]? = some (.cells #[.slice eW ws.length fW,.slice eP ps.length fP,.slice eS es.length fS,.slice eQ qs.length fQ,.slice none 0 0,.slice none 0 0,.int .i64 0,.int .i64 0,.slice none 0 0,.bool false] 51 (0,0))):=by rw [hwu1]; exact yart Zw1.out _ _ _ _
 have RDu1:=zaa ((RowDev.wide hr (lo':=w.heap.size + 3) (hi':=w1.heap.size) (by omega) (Nat.le_refl _)).outside Ou1 (by omega) (Nat.le_refl _))
 clear hr Ou1
 obtain ⟨-,-,-,-,-,-,-,-,-,-,g0,g1,g2,g3,g4,g5,g6,g7,g8,g9⟩:=zam Zw1.out
 obtain ⟨y0,y1,y2,y3,y4,y5,y6,y7,y8,y9,-⟩:=zam Zw1.out
 go_upto_region 3 with fail
 rw [← hwu1]
 clear hwu1 g0 g1 g2 g3 g4 g5 g6 g7 g8 g9 y0 y1 y2 y3 y4 y5 y6 y7 y8 y9 Bw1 Xw1 Yw1 Zw1 
 obtain ⟨-,x0⟩:=And.intro trivial (tenH Xu1.out)
 go_wp2_with fail
 refine (LH.out u1 Bu1.out).mono ?_
 rintro e w2 ⟨v2,rfl,hr,hb⟩
 obtain ⟨-,eH,fH,rfl,-⟩:=hr.rd
 clear x0 LH
 have zw2:u1.heap.size ≤ w2.heap.size:=hb.size
 have Bw2:=zaa (zab Bu1.out hb Bu1.out.size)
 have Xw2:=zaa (zac Xu1.out hb (by omega))
 have Yw2:=zaa (zac Yu1.out hb (by omega))
 have Zw2:=zaa (zac Zu1.out hb (by omega))
 have RDw2:=zaa (RDu1.out.below hb (by omega))
 clear Bu1 Xu1 Yu1 Zu1 hb RDu1
 obtain ⟨u2,hwu2⟩:∃ u2,u2 = (w2.setCell ⟨w.heap.size + 1 + 1,4,none⟩ (.slice eH hs.length fH)):=⟨_,rfl⟩
 have Ou2:Outside (w.heap.size + 2) (w.heap.size + 3) w2 u2:=by rw [hwu2]; (repeat (refine Outside.setCell ?_ (by simp only; omega) (by simp only; omega) _)); exact Outside.refl _ _ _
 have su2:w2.heap.size ≤ u2.heap.size ∧ u2.heap.size ≤ w2.heap.size:=by rw [hwu2]; simp [World.setCell]
 have Bu2:=zaa (Bw2.out.trans (Ou2.below (B:=w.heap.size) (by omega) (by omega)))
 have Xu2:=zaa ((Ou2.block (w.heap.size) (by omega) (by omega)).trans Xw2.out)
 have Yu2:=zaa ((Ou2.block (w.heap.size + 1) (by omega) (by omega)).trans Yw2.out)
 have Zu2:Hid (u2.heap[w.heap.size + 1 + 1]? = some (.cells #[.slice eW ws.length fW,.slice eP ps.length fP,.slice eS es.length fS,.slice eQ qs.length fQ,.slice eH hs.length fH,.slice none 0 0,.int .i64 0,.int .i64 0,.slice none 0 0,.bool false] 51 (0,0))):=by rw [hwu2]; exact zcd Zw2.out _
 have RDu2:=zaa (RDw2.out.outside Ou2 (by omega) (by omega))
 have RHu2:=zaa ((Row.wide hr (lo':=u1.heap.size) (hi':=w2.heap.size) (by omega) (Nat.le_refl _)).outside Ou2 (by omega) (Nat.le_refl _))
 clear hr Ou2
 obtain ⟨-,-,-,-,-,-,-,-,-,-,g0,g1,g2,g3,g4,g5,g6,g7,g8,g9⟩:=zam Zw2.out
 obtain ⟨y0,y1,y2,y3,y4,y5,y6,y7,y8,y9,-⟩:=zam Zw2.out
 go_upto_region 4 with fail
 rw [← hwu2]
 clear hwu2 g0 g1 g2 g3 g4 g5 g6 g7 g8 g9 y0 y1 y2 y3 y4 y5 y6 y7 y8 y9 Bw2 Xw2 Yw2 Zw2 RDw2
 obtain ⟨-,x0⟩:=And.intro trivial (tenT Xu2.out)
 go_wp2_with fail
 refine (LT.out u2 Bu2.out).mono ?_
 rintro e w3 ⟨v3,rfl,hr,hb⟩
 obtain ⟨-,eT,fT,rfl,-⟩:=hr.rd
 clear x0 LT
 have zw3:u2.heap.size ≤ w3.heap.size:=hb.size
 have Bw3:=zaa (zab Bu2.out hb Bu2.out.size)
 have Xw3:=zaa (zac Xu2.out hb (by omega))
 have Yw3:=zaa (zac Yu2.out hb (by omega))
 have Zw3:=zaa (zac Zu2.out hb (by omega))
 have RDw3:=zaa (RDu2.out.below hb (by omega))
 have RHw3:=zaa (RHu2.out.below hb (by omega))
 clear Bu2 Xu2 Yu2 Zu2 hb RDu2 RHu2
 obtain ⟨u3,hwu3⟩:∃ u3,u3 = (w3.setCell ⟨w.heap.size + 1 + 1,5,none⟩ (.slice eT td.length fT)):=⟨_,rfl⟩
 have Ou3:Outside (w.heap.size + 2) (w.heap.size + 3) w3 u3:=by rw [hwu3]; (repeat (refine Outside.setCell ?_ (by simp only; omega) (by simp only; omega) _)); exact Outside.refl _ _ _
 have su3:w3.heap.size ≤ u3.heap.size ∧ u3.heap.size ≤ w3.heap.size:=by rw [hwu3]; simp [World.setCell]
 have Bu3:=zaa (Bw3.out.trans (Ou3.below (B:=w.heap.size) (by omega) (by omega)))
 have Xu3:=zaa ((Ou3.block (w.heap.size) (by omega) (by omega)).trans Xw3.out)
 have Yu3:=zaa ((Ou3.block (w.heap.size + 1) (by omega) (by omega)).trans Yw3.out)
 have Zu3:Hid (u3.heap[w.heap.size + 1 + 1]? = some (.cells #[.slice eW ws.length fW,.slice eP ps.length fP,.slice eS es.length fS,.slice eQ qs.length fQ,.slice eH hs.length fH,.slice eT td.length fT,.int .i64 0,.int .i64 0,.slice none 0 0,.bool false] 51 (0,0))):=by rw [hwu3]; exact zcb Zw3.out _
 have RDu3:=zaa (RDw3.out.outside Ou3 (by omega) (by omega))
 have RHu3:=zaa (RHw3.out.outside Ou3 (by omega) (by omega))
 have RTu3:=zaa ((RowW.wide (RowW.of_row hr) (lo':=u2.heap.size) (hi':=w3.heap.size) (by omega) (Nat.le_refl _)).outside Ou3 (by omega))
 clear hr Ou3
 obtain ⟨-,-,-,-,-,-,-,-,-,-,g0,g1,g2,g3,g4,g5,g6,g7,g8,g9⟩:=zam Zw3.out
 obtain ⟨y0,y1,y2,y3,y4,y5,y6,y7,y8,y9,-⟩:=zam Zw3.out
 go_upto_region 5 with fail
 rw [← hwu3]
 clear hwu3 g0 g1 g2 g3 g4 g5 g6 g7 g8 g9 y0 y1 y2 y3 y4 y5 y6 y7 y8 y9 Bw3 Xw3 Yw3 Zw3 RDw3 RHw3
 obtain ⟨-,x0,x1,x2⟩:=And.intro trivial (tenA Xu3.out)
 go_wp2_with fail
 refine (LN.out u3 Bu3.out).mono ?_
 rintro e w4 ⟨vN,rfl,hr,hb⟩
 obtain ⟨-,eN,fN,rfl,-⟩:=hr.rd
 clear x0 x1 x2 LN
 have zw4:u3.heap.size ≤ w4.heap.size:=hb.size
 have Bw4:=zaa (zab Bu3.out hb Bu3.out.size)
 have Xw4:=zaa (zac Xu3.out hb (by omega))
 have Yw4:=zaa (zac Yu3.out hb (by omega))
 have Zw4:=zaa (zac Zu3.out hb (by omega))
 have RDw4:=zaa (RDu3.out.below hb (by omega))
 have RHw4:=zaa (RHu3.out.below hb (by omega))
 have RTw4:=zaa (RTu3.out.below hb (by omega))
 clear Bu3 Xu3 Yu3 Zu3 hb RDu3 RHu3 RTu3
 obtain ⟨u4,hwu4⟩:∃ u4,u4 = (((w4.setCell ⟨w.heap.size + 1 + 1,6,none⟩ (.int .i64 cd)).setCell ⟨w.heap.size + 1 + 1,7,none⟩ (.int .i64 vl)).setCell ⟨w.heap.size + 1 + 1,8,none⟩ (.slice eN nm.length fN)):=⟨_,rfl⟩
 have Ou4:Outside (w.heap.size + 2) (w.heap.size + 3) w4 u4:=by rw [hwu4]; (repeat (refine Outside.setCell ?_ (by simp only; omega) (by simp only; omega) _)); exact Outside.refl _ _ _
 have su4:w4.heap.size ≤ u4.heap.size ∧ u4.heap.size ≤ w4.heap.size:=by rw [hwu4]; simp [World.setCell]
 have Bu4:=zaa (Bw4.out.trans (Ou4.below (B:=w.heap.size) (by omega) (by omega)))
 have Xu4:=zaa ((Ou4.block (w.heap.size) (by omega) (by omega)).trans Xw4.out)
 have Yu4:=zaa ((Ou4.block (w.heap.size + 1) (by omega) (by omega)).trans Yw4.out)
 have Zu4:Hid (u4.heap[w.heap.size + 1 + 1]? = some (.cells #[.slice eW ws.length fW,.slice eP ps.length fP,.slice eS es.length fS,.slice eQ qs.length fQ,.slice eH hs.length fH,.slice eT td.length fT,.int .i64 cd,.int .i64 vl,.slice eN nm.length fN,.bool false] 51 (0,0))):=by rw [hwu4]; exact zca (zch (zcj Zw4.out _) _) _
 have RDu4:=zaa (RDw4.out.outside Ou4 (by omega) (by omega))
 have RHu4:=zaa (RHw4.out.outside Ou4 (by omega) (by omega))
 have RTu4:=zaa (RTw4.out.outside Ou4 (by omega))
 have RNu4:=zaa ((Row.wide hr (lo':=u3.heap.size) (hi':=w4.heap.size) (by omega) (Nat.le_refl _)).outside Ou4 (by omega) (Nat.le_refl _))
 clear hr Ou4
 obtain ⟨-,-,-,-,-,-,-,-,-,-,g0,g1,g2,g3,g4,g5,g6,g7,g8,g9⟩:=zam Zw4.out
 obtain ⟨y0,y1,y2,y3,y4,y5,y6,y7,y8,y9,-⟩:=zam Zw4.out
 go_upto_region 6 with fail
 rw [← hwu4]
 clear hwu4 g0 g1 g2 g3 g4 g5 g6 g7 g8 g9 y0 y1 y2 y3 y4 y5 y6 y7 y8 y9 Bw4 Xw4 Yw4 Zw4 RDw4 RHw4 RTw4
 have x9:=tenB Xu4.out
 obtain ⟨z0,z1,z2,z3,z4,z5,z6,z7,z8,z9,k0,k1,k2,k3,k4,k5,k6,k7,k8,k9⟩:=zam Zu4.out
 obtain ⟨y0,y1,y2,y3,y4,y5,y6,y7,y8,y9,g0,g1,g2,g3,g4,g5,g6,g7,g8,g9⟩:=zam Yu4.out
 obtain ⟨w5,hw5⟩:∃ w5,w5 = zet (u4.setCell ⟨w.heap.size + 1 + 1,9,none⟩ (.bool fr)) (w.heap.size + 1) (.slice eW ws.length fW) (.slice eP ps.length fP) (.slice eS es.length fS) (.slice eQ qs.length fQ) (.slice eH hs.length fH) (.slice eT td.length fT) (.int .i64 cd) (.int .i64 vl) (.slice eN nm.length fN) (.bool fr):=⟨_,rfl⟩
 have O5:Outside (w.heap.size + 1) (w.heap.size + 3) u4 w5:=by
  rw [hw5]
  unfold zet
  repeat (refine Outside.setCell ?_ (by simp only; omega) (by simp only; omega) _)
  exact Outside.refl _ _ _
 have F5:Hid (RowF w5 w.heap.size w5.heap.size (.agg #[.slice eW ws.length fW,.slice eP ps.length fP,.slice eS es.length fS,.slice eQ qs.length fQ,.slice eH hs.length fH,.slice eT td.length fT,.int .i64 cd,.int .i64 vl,.slice eN nm.length fN,.bool fr]) ws ps es qs hs td cd vl nm fr):=by
  have zz:=O5.size
  refine ⟨_,_,_,_,_,_,_,w.heap.size + 3,w1.heap.size,u1.heap.size,w2.heap.size,u2.heap.size,w3.heap.size,u3.heap.size,w4.heap.size,rfl,RDu4.out.outside O5 (by omega) (by omega),RHu4.out.outside O5 (by omega) (by omega),RTu4.out.outside O5 (by omega),RNu4.out.outside O5 (by omega) (by omega),?_⟩
  exact ⟨by omega,by omega,by omega,by omega,by omega,by omega,by omega,by omega,by omega,by omega,by omega,by omega,by omega,by omega⟩
 have B5:=zaa (Bu4.out.trans (O5.below (B:=w.heap.size) (by omega) (by omega)))
 unfold zet at hw5
 clear O5
 go_wp2
 refine bodyPost_ret (v:=.agg #[.slice eW ws.length fW,.slice eP ps.length fP,.slice eS es.length fS,.slice eQ qs.length fQ,.slice eH hs.length fH,.slice eT td.length fT,.int .i64 cd,.int .i64 vl,.slice eN nm.length fN,.bool fr]) (by simp [results,Tryz.results8,go_sem,y0,y1,y2,y3,y4,y5,y6,y7,y8,y9]) rfl ?_
 rw [← hw5]
 exact ⟨_,rfl,F5.out,B5.out⟩
def kD (k0:Int) (n m p q:Nat):Int:=k0 + n + 3 * m + p + 2 * q
def MkF (w:World) (v:Value) (k0:Int) (n m p q a b:Nat) (cd vl:Int) (c:Nat) (fr:Bool):Prop :=
 RdF w v (zgv k0 n) (zep (k0 + n) m) (zgv (k0 + n + 3 * m) p) (zeq (k0 + n + 3 * m + p) q) (zgv (kD k0 n m p q) a) (zgf (kD k0 n m p q + a) b) cd vl (zev (kD k0 n m p q + a + 3 * b) c) fr
set_option maxRecDepth 100000 in
set_option maxHeartbeats 8000000 in
theorem ztg (v:Value) (ws:List Int) (ps:List St) (es:List Int) (qs:List Se) (hs:List Int) (td:List Mi) (cd vl:Int) (nm:List ByteArray) (fr:Bool) (k0:Int) (lo hi:Nat) (w:World) (h:RowF w lo hi v ws ps es qs hs td cd vl nm fr) (hi1:hi ≤ w.heap.size) (hws:ws.length ≤ 4194304) (hps:ps.length ≤ 4194304) (hes:es.length ≤ 4194304) (hqs:qs.length ≤ 4194304) (hhs:hs.length ≤ 4194304) (htd:td.length ≤ 4194304) (hnm:nm.length ≤ 4194304) (h0:0 ≤ k0) (h1:k0 ≤ 67108864) :
  Calls Tryz.prog 14 #[v,.int .i64 k0] w fun e w' => e = .returned (.int .i64 (kD k0 ws.length ps.length es.length qs.length + hs.length + 3 * td.length + nm.length)) ∧ MkF w' v k0 ws.length ps.length es.length qs.length hs.length td.length cd vl nm.length fr ∧ Outside lo hi w w':=by
 obtain ⟨aW,cW,aP,cP,aS,cS,aQ,cQ,aH,cH,aT,cT,aN,cN,e,-⟩:=h.rd
 subst e
 obtain ⟨vW,vP,vS,vQ,vH,vT,vN,ld,ud,lh,uh,lt,ut,ln,un,e,rD,rH,rT,rN,f⟩:=h
 injection e with e
 injection e with e
 simp only [List.cons.injEq] at e
 obtain ⟨rfl,rfl,rfl,rfl,rfl,rfl,-,-,rfl,-⟩:=e
 obtain ⟨d0,d1,f0,f1,t0,t1,n0,n1,dh,dt,dn,ht,hn,tn⟩:=f
 have R0:=zaa rD
 have R1:=zaa rH
 have R2:=zaa rT
 have R3:=zaa rN
 clear rD rH rT rN
 obtain ⟨V,hV⟩:∃ V,V = w.alloc (.cells #[.slice aW ws.length cW,.slice aP ps.length cP,.slice aS es.length cS,.slice aQ qs.length cQ,.slice aH hs.length cH,.slice aT td.length cT,.int .i64 cd,.int .i64 vl,.slice aN nm.length cN,.bool fr] 51):=⟨_,rfl⟩
 have BV:Below w.heap.size w V:=by rw [hV]; exact (Below.refl _ _).alloc (Nat.le_refl _) _
 have XV:Hid (V.heap[w.heap.size]? = some (.cells #[.slice aW ws.length cW,.slice aP ps.length cP,.slice aS es.length cS,.slice aQ qs.length cQ,.slice aH hs.length cH,.slice aT td.length cT,.int .i64 cd,.int .i64 vl,.slice aN nm.length cN,.bool fr] 51 (0,0))):=by rw [hV]; exact zag rfl
 have zV:w.heap.size < V.heap.size:=zah XV.out
 have OV:=zaa (Outside.of_below (lo:=lo) (hi:=hi) BV)
 have S0:=zaa (R0.out.below BV (by omega))
 have S1:=zaa (R1.out.below BV (by omega))
 have S2:=zaa (R2.out.below BV (by omega))
 have S3:=zaa (R3.out.below BV (by omega))
 clear BV R0 R1 R2 R3
 go_enter Tryz.func14,Tryz.ntmps14
 go_upto_region 1 with fail
 rw [← hV]
 clear hV
 obtain ⟨x0,x1,x2,x3⟩:=tenD XV.out
 go_wp2_with fail
 refine (zpd _ ws ps es qs k0 ld ud V S0.out (by omega) (by omega) (by omega) (by omega) (by omega) h0 (by omega)).mono ?_
 rintro e w1 ⟨rfl,hr,ho⟩
 have z1:V.heap.size ≤ w1.heap.size:=ho.size
 have X1:=zaa ((ho.block _ (by omega) (by omega)).trans XV.out)
 have O1:=zaa (OV.out.trans (ho.mono d0 d1))
 have T0:=zaa hr
 have T1:=zaa (S1.out.outside ho (by omega) (by omega))
 have T2:=zaa (S2.out.outside ho (by omega))
 have T3:=zaa (S3.out.outside ho (by omega) (by omega))
 clear hr ho S0 S1 S2 S3 XV OV x0 x1 x2 x3
 rw [show (k0 + ws.length + 3 * ps.length + es.length + 2 * qs.length:Int) = kD k0 ws.length ps.length es.length qs.length from rfl]
 obtain ⟨kk,hkk⟩:∃ kk:Int,kk = kD k0 ws.length ps.length es.length qs.length:=⟨_,rfl⟩
 rw [← hkk]
 have kk0:0 ≤ kk ∧ kk ≤ 268435456:=by rw [hkk]; unfold kD; omega
 have KK:=zaa hkk
 clear hkk
 have x4:=tenH X1.out
 go_wp2_with fail
 refine (zeu _ hs.length (zav hs) kk lh uh w1 T1.out (fun u hu => by simp only [zav,List.mem_map] at hu; obtain ⟨z,-,rfl⟩:=hu; exact ⟨z,rfl⟩) (by omega) (by omega) (by omega)).mono ?_
 rintro e w2 ⟨rfl,hr,hg,-⟩
 have ho:=Row.grown_outside T1.out hg
 have z2:w1.heap.size ≤ w2.heap.size:=ho.size
 have X2:=zaa ((ho.block _ (by omega) (by omega)).trans X1.out)
 have O2:=zaa (O1.out.trans (ho.mono f0 f1))
 have U0:=zaa (T0.out.outside ho (by omega) (by omega))
 have U1:=zaa hr
 have U2:=zaa (T2.out.outside ho (by omega))
 have U3:=zaa (T3.out.outside ho (by omega) (by omega))
 clear hr ho hg T0 T1 T2 T3 X1 O1 x4
 have x5:=tenT X2.out
 go_wp2_with fail
 refine (zrd _ td (kk + hs.length) lt ut w2 U2.out (by omega) (by omega) (by omega)).mono ?_
 rintro e w3 ⟨rfl,hr,ho⟩
 have z3:w2.heap.size ≤ w3.heap.size:=ho.size
 have X3:=zaa ((ho.block _ (by omega) (by omega)).trans X2.out)
 have O3:=zaa (O2.out.trans (ho.mono t0 t1))
 have Q0:=zaa (U0.out.outside ho (by omega) (by omega))
 have Q1:=zaa (U1.out.outside ho (by omega) (by omega))
 have Q2:=zaa hr
 have Q3:=zaa (U3.out.outside ho (by omega) (by omega))
 clear hr ho U0 U1 U2 U3 X2 O2 x5
 obtain ⟨x6,x7,x8⟩:=tenA X3.out
 go_wp2_with fail
 refine (zqu cd vl _ nm (kk + hs.length + 3 * td.length) ln un w3 Q3.out (by omega) (by omega) (by omega) (by omega)).mono ?_
 rintro e w4 ⟨rfl,hr,wa,hb,hz,hg⟩
 have ho:=Row.grown_outside (Q3.out.below hb (by omega)) hg
 have z4:w3.heap.size ≤ wa.heap.size:=hb.size
 have z5:wa.heap.size ≤ w4.heap.size:=ho.size
 have O4:=zaa ((O3.out.trans (Outside.of_below hb)).trans (ho.mono n0 n1))
 have P0:=zaa ((Q0.out.below hb (by omega)).outside ho (by omega) (by omega))
 have P1:=zaa ((Q1.out.below hb (by omega)).outside ho (by omega) (by omega))
 have P2:=zaa ((Q2.out.below hb (by omega)).outside ho (by omega))
 have P3:=zaa hr
 clear hr ho hg hb Q0 Q1 Q2 Q3 X3 O3 x6 x7 x8
 go_wp2
 go_ret
 have hk:=KK.out
 subst hk
 refine ⟨rfl,?_,O4.out⟩
 refine ⟨aW,cW,aP,cP,aS,cS,aQ,cQ,aH,cH,aT,cT,aN,cN,?_,?_,?_,?_,?_⟩
 ·simp only [zbo,zce,zcf,zby,zcx]
 ·have:=P0.out.rd
  simp only [zbo,zce,zcf]
  exact this
 ·rw [zbo]
  have:=P1.out.rd
  unfold RdI
  rw [zbo]
  exact this
 ·rw [zby]
  exact P2.out.1
 ·rw [zcx]
  have:=P3.out.rd
  unfold RdT
  rw [zcx]
  exact this
set_option maxRecDepth 100000 in
set_option maxHeartbeats 8000000 in
theorem zsi (v:Value) (k0:Int) (n m p q a b:Nat) (cd vl:Int) (c:Nat) (fr:Bool) (w:World) (h:MkF w v k0 n m p q a b cd vl c fr) (hn:n ≤ 4194304) (hm:m ≤ 4194304) (hp:p ≤ 4194304) (hq:q ≤ 4194304) (ha:a ≤ 4194304) (hb:b ≤ 4194304) (hc:c ≤ 4194304) (h0:0 ≤ k0) (h1:k0 ≤ 67108864) :
  Calls Tryz.prog 22 #[v,.int .i64 k0] w fun e w' => e = .returned (.int .i64 (kD k0 n m p q + a + 3 * b + c)) ∧ Below w.heap.size w w':=by
 obtain ⟨aW,cW,aP,cP,aS,cS,aQ,cQ,aH,cH,aT,cT,aN,cN,rfl,d1,r1,t1,n1⟩:=h
 simp only [zbo,zce,zcf,zby,zcx] at d1 r1 t1 n1 ⊢
 have LD:=zaa (fun w1 (h:Below w.heap.size w w1) => zpa _ n m p q k0 w1 (d1.below h) (by omega) (by omega) (by omega) (by omega) h0 h1)
 rw [show (k0 + n + 3 * m + p + 2 * q:Int) = kD k0 n m p q from rfl] at LD
 have kk0:0 ≤ kD k0 n m p q ∧ kD k0 n m p q ≤ 268435456:=by unfold kD; omega
 generalize kD k0 n m p q = kk at *
 have LH:=zaa (fun w1 (h:Below w.heap.size w w1) => zhy _ a kk w1 (Rd.below r1 h) (by omega) (by omega) (by omega))
 have LT:=zaa (fun w1 (h:Below w.heap.size w w1) => zrc _ b (kk + a) w1 (Rd.below t1 h) (by omega) (by omega) (by omega))
 have LN:=zaa (fun w1 (h:Below w.heap.size w w1) => zrk cd vl _ c (kk + a + 3 * b) w1 (Rd.below n1 h) (by omega) (by omega) (by omega))
 clear d1 r1 t1 n1
 obtain ⟨V,hV⟩:∃ V,V = w.alloc (.cells #[.slice aW n cW,.slice aP m cP,.slice aS p cS,.slice aQ q cQ,.slice aH a cH,.slice aT b cT,.int .i64 cd,.int .i64 vl,.slice aN c cN,.bool fr] 51):=⟨_,rfl⟩
 have BV:Hid (Below w.heap.size w V):=by rw [hV]; exact (Below.refl _ _).alloc (Nat.le_refl _) _
 have XV:Hid (V.heap[w.heap.size]? = some (.cells #[.slice aW n cW,.slice aP m cP,.slice aS p cS,.slice aQ q cQ,.slice aH a cH,.slice aT b cT,.int .i64 cd,.int .i64 vl,.slice aN c cN,.bool fr] 51 (0,0))):=by rw [hV]; exact zag rfl
 have zV:w.heap.size < V.heap.size:=zah XV.out
 go_enter Tryz.func22,Tryz.ntmps22
 go_upto_region 1 with fail
 rw [← hV]
 clear hV
 obtain ⟨x0,x1,x2,x3⟩:=tenD XV.out
 go_wp2_with fail
 refine (LD.out V BV.out).mono ?_
 rintro e w1 ⟨rfl,hb1⟩
 have B1:=zaa (zab BV.out hb1 BV.out.size)
 have X1:=zaa (zac XV.out hb1 zV)
 clear hb1 x0 x1 x2 x3 LD BV XV
 have x4:=tenH X1.out
 go_wp2_with fail
 refine (LH.out w1 B1.out).mono ?_
 rintro e w' ⟨rfl,hw'⟩
 subst w'
 clear x4 LH
 have x5:=tenT X1.out
 go_wp2_with fail
 refine (LT.out w1 B1.out).mono ?_
 rintro e w' ⟨rfl,hw'⟩
 subst w'
 clear x5 LT
 obtain ⟨x6,x7,x8⟩:=tenA X1.out
 go_wp2_with fail
 refine (LN.out w1 B1.out).mono ?_
 rintro e w2 ⟨rfl,hb2⟩
 have B2:=zaa (zab B1.out hb2 B1.out.size)
 clear hb2 x6 x7 x8 LN X1 B1
 go_wp2
 go_ret
 exact ⟨rfl,B2.out⟩
theorem MkF.below {w w':World} {v:Value} {k0:Int} {n m p q a b:Nat} {cd vl:Int} {c:Nat} {fr:Bool} (h:MkF w v k0 n m p q a b cd vl c fr) (hb:Below w.heap.size w w'):MkF w' v k0 n m p q a b cd vl c fr:=RdF.below h hb
end Go.Proofs.YtlkmnpanddchdaaGreatDoor

namespace Go.Proofs.YtlkmnpanddchdaaGreatDoor
def up (a v:Int):St:=⟨a,v,false⟩
def stM (p:St):Mi:=⟨1,p.at_,p.val⟩
def zqb (ks:List Int) (i:Nat):Bool:=(List.range i).any (fun k => ks[k]?.getD 0 / 8 == ks[i]?.getD 0 / 8)
def nl (ks:List Int):Nat → List Mi
 | 0 => []
 | i + 1 => if zqb ks i = true then nl ks i else nl ks i ++ [⟨2,ks[i]?.getD 0,0⟩]
def zcv (ks:List Int):List Mi:=nl ks ks.length ++ [⟨3,0,0⟩]
def seg (S:List St):List Mi:=S.map stM ++ zcv (S.map (·.at_))
def cnt (n:Int):List St:=[⟨8,n,false⟩]
def zhh (us:List St):List Mi:=seg us ++ seg (cnt 0)
end Go.Proofs.YtlkmnpanddchdaaGreatDoor
