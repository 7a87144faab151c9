/- An answer is taken: by the model. -/
import Derived.Test.YtkdjfhkalelafaaGreatDoorZBB
namespace Go.Proofs.YtkdjfhkalelafaaGreatDoor
open Go.RowKit
def putA (w:World) (b:Nat) (x y z:Value):World:=(((w.setCell ⟨b,0,none⟩ x).setCell ⟨b,1,none⟩ y).setCell ⟨b,2,none⟩ z)
theorem yaax (w:World) (b:Nat) (x y z:Value):Outside b (b + 1) w (putA w b x y z):=by
 unfold putA
 repeat (refine Outside.setCell ?_ (by simp only; omega) (by simp only; omega) _)
 exact Outside.refl _ _ _
theorem yasg (w:World) (a:Option Addr) (c:Nat) (h:a = none → c = 0):RdM w (.slice a 0 c) []:=⟨rfl,_,_,rfl,⟨Nat.zero_le _,h⟩,fun h => absurd h (by simp)⟩
theorem yajs (w:World) (b:Nat):RdT w (.slice (some ⟨b,0,none⟩) 0 0) []:=⟨rfl,_,_,rfl,⟨Nat.le_refl _,fun e => by cases e⟩,fun h => absurd h (by simp)⟩
set_option maxRecDepth 100000 in
set_option maxHeartbeats 16000000 in
theorem zxj (v:Value) (ws es hs:List Int) (cd vl:Int) (nm:List ByteArray) (w:World) (h:RdFs w v ws es hs [] cd vl nm true) (h1:3 ≤ ws.length) (h2:3 ≤ es.length) (hh:3 ≤ hs.length) :
  Calls Tryz.prog 97 #[v] w fun e w' => ∃ v' a n c,e = .returned (.tuple #[v',.agg #[.int .i64 cd,.int .i64 vl,.slice a n c],.int .i64 0]) ∧ RdFs w' v' ws es hs [] 0 0 [] false ∧ Below w.heap.size w w':=by
 have H1:=zaa h1
 have H2:=zaa h2
 have HH:=zaa hh
 obtain ⟨aW,cW,aP,cP,aS,cS,aQ,cQ,aH,cH,aT,cT,aN,cN,rfl,a,b,c,d⟩:=h
 have RD:=zaa a
 have RH:=zaa b
 have RT:=zaa c
 clear a b c d h1 h2 hh
 rw [show ([]:List Mi).length = 0 from rfl] at RT ⊢
 obtain ⟨V,hV⟩:∃ V,V = ((w.alloc (.cells #[.slice aW ws.length cW,.slice aP 0 cP,.slice aS es.length cS,.slice aQ 0 cQ,.slice aH hs.length cH,.slice aT 0 cT,.int .i64 cd,.int .i64 vl,.slice aN nm.length cN,.bool true] 37)).alloc (.cells zei.toArray 37)).alloc (.cells #[.int .i64 0,.int .i64 0,.slice none 0 0] 35):=⟨_,rfl⟩
 have HZ:Hid (V.heap.size = w.heap.size + 1 + 1 + 1):=by rw [hV]; simp [Hid]
 have BV:Hid (Below w.heap.size w V):=by rw [hV]; exact (((Below.refl _ _).alloc (Nat.le_refl _) _).alloc (by simp) _).alloc (by simp <;> omega) _
 have XV:Hid (V.heap[w.heap.size]? = some (.cells #[.slice aW ws.length cW,.slice aP 0 cP,.slice aS es.length cS,.slice aQ 0 cQ,.slice aH hs.length cH,.slice aT 0 cT,.int .i64 cd,.int .i64 vl,.slice aN nm.length cN,.bool true] 37 (0,0))):=by rw [hV]; exact zak (zak (zah rfl))
 have YV:Hid (V.heap[w.heap.size + 1]? = some (.cells zei.toArray 37 (0,0))):=by rw [hV]; exact zak (zah (by simp))
 have ZV:Hid (V.heap[w.heap.size + 1 + 1]? = some (.cells #[.int .i64 0,.int .i64 0,.slice none 0 0] 35 (0,0))):=by rw [hV]; exact zah (by simp)
 unfold zei at hV
 go_enter Tryz.func97,Tryz.ntmps97
 go_upto_region 1 with fail
 rw [← hV]
 clear hV
 obtain ⟨V2,hV2⟩:∃ V2,V2 = (V.alloc (.cells #[] 9)).alloc (.cells #[.int .i64 0,.int .i64 0,.slice (some ⟨V.heap.size,0,none⟩) 0 0] 35):=⟨_,rfl⟩
 have B2:Hid (Below V.heap.size V V2):=by rw [hV2]; exact ((Below.refl _ _).alloc (Nat.le_refl _) _).alloc (by simp) _
 have N2:Hid (V2.heap[V.heap.size + 1]? = some (.cells #[.int .i64 0,.int .i64 0,.slice (some ⟨V.heap.size,0,none⟩) 0 0] 35 (0,0))):=by rw [hV2]; exact zah (by simp)
 have Z2:Hid (V2.heap.size = V.heap.size + 1 + 1):=by rw [hV2]; simp [Hid]
 have X2:=zaa ((B2.out.block _ (by have q1:=HZ.out; have q2:=Z2.out; omega)).trans XV.out)
 go_upto_region 2 with fail
 rw [← hV2]
 clear hV2
 obtain ⟨x0,x1,x2,x3,x4,x5,x6,x7,x8,x9,-⟩:=zaj X2.out
 obtain ⟨V3,hV3⟩:∃ V3,V3 = V2.alloc (.cells #[.int .i64 cd,.int .i64 vl,.slice aN nm.length cN] 35):=⟨_,rfl⟩
 have B3:Hid (Below V2.heap.size V2 V3):=by rw [hV3]; exact (Below.refl _ _).alloc (Nat.le_refl _) _
 have A3:Hid (V3.heap[V2.heap.size]? = some (.cells #[.int .i64 cd,.int .i64 vl,.slice aN nm.length cN] 35 (0,0))):=by rw [hV3]; exact zah rfl
 have Z3:Hid (V3.heap.size = V2.heap.size + 1):=by rw [hV3]; simp [Hid]
 have X3:=zaa ((B3.out.block _ (by have q1:=HZ.out; have q2:=Z2.out; have q3:=Z3.out; omega)).trans X2.out)
 have N3:=zaa ((B3.out.block _ (by have q1:=HZ.out; have q2:=Z2.out; have q3:=Z3.out; omega)).trans N2.out)
 have BB3:=zaa (zab B2.out B3.out (by have q1:=HZ.out; have q2:=Z2.out; have q3:=Z3.out; omega))
 go_upto_region 7 with fail
 rw [← hV3]
 clear hV3 x0 x1 x2 x3 x4 x5 x6 x7 x8 x9 N2 X2 XV
 obtain ⟨x0,x1,x2,x3,x4,x5,x6,x7,x8,x9,g0,g1,g2,g3,g4,g5,g6,g7,g8,g9⟩:=zaj X3.out
 obtain ⟨n0,n1,n2,-,-,-⟩:=tri3 N3.out
 obtain ⟨V4,hV4⟩:∃ V4,V4 = (((V3.setCell ⟨w.heap.size,6,none⟩ (.int .i64 0)).setCell ⟨w.heap.size,7,none⟩ (.int .i64 0)).setCell ⟨w.heap.size,8,none⟩ (.slice (some ⟨V.heap.size,0,none⟩) 0 0)).setCell ⟨w.heap.size,9,none⟩ (.bool false):=⟨_,rfl⟩
 have X4:Hid (V4.heap[w.heap.size]? = some (.cells #[.slice aW ws.length cW,.slice aP 0 cP,.slice aS es.length cS,.slice aQ 0 cQ,.slice aH hs.length cH,.slice aT 0 cT,.int .i64 0,.int .i64 0,.slice (some ⟨V.heap.size,0,none⟩) 0 0,.bool false] 37 (0,0))):=by rw [hV4]; exact zmx (zkp (zml (zna X3.out _) _) _) _
 have O4:Hid (Outside w.heap.size (w.heap.size + 1) V3 V4):=by
  rw [hV4]
  unfold Hid
  repeat (refine Outside.setCell ?_ (by simp only; omega) (by simp only; omega) _)
  exact Outside.refl _ _ _
 have S4:=zaa (Soft.outside O4.out X3.out rfl)
 have Z5:Hid (V3.heap.size = V4.heap.size):=by rw [hV4]; simp [World.setCell,Hid]
 have A4:=zaa ((O4.out.block _ (by have q1:=HZ.out; have q2:=Z2.out; have q3:=Z3.out; have q5:=Z5.out; omega) (by have q1:=HZ.out; have q2:=Z2.out; have q3:=Z3.out; have q5:=Z5.out; omega)).trans A3.out)
 have Y4:=zaa ((O4.out.block (w.heap.size + 1) (by have q1:=HZ.out; have q2:=Z2.out; have q3:=Z3.out; have q5:=Z5.out; omega) (by have q1:=HZ.out; have q2:=Z2.out; have q3:=Z3.out; have q5:=Z5.out; omega)).trans ((BB3.out.block _ (by have q1:=HZ.out; have q2:=Z2.out; have q3:=Z3.out; have q5:=Z5.out; omega)).trans YV.out))
 have Z4:=zaa ((O4.out.block (w.heap.size + 1 + 1) (by have q1:=HZ.out; have q2:=Z2.out; have q3:=Z3.out; have q5:=Z5.out; omega) (by have q1:=HZ.out; have q2:=Z2.out; have q3:=Z3.out; have q5:=Z5.out; omega)).trans ((BB3.out.block _ (by have q1:=HZ.out; have q2:=Z2.out; have q3:=Z3.out; have q5:=Z5.out; omega)).trans ZV.out))
 have B4:=zaa ((zab BV.out BB3.out (by have q1:=HZ.out; have q2:=Z2.out; have q3:=Z3.out; have q5:=Z5.out; omega)).trans (O4.out.below (B:=w.heap.size) (Nat.le_refl _) (by have q1:=HZ.out; have q2:=Z2.out; have q3:=Z3.out; have q5:=Z5.out; omega)))
 have SV:=zaa ((Soft.of_below BB3.out).trans S4.out)
 go_upto_region 9 with fail
 rw [← hV4]
 clear hV4 x0 x1 x2 x3 x4 x5 x6 x7 x8 x9 g0 g1 g2 g3 g4 g5 g6 g7 g8 g9 n0 n1 n2 X3 N3 A3 YV ZV
 obtain ⟨x0,x1,x2,x3,x4,x5,x6,x7,x8,x9,-⟩:=zaj X4.out
 obtain ⟨n0,n1,n2,-,-,-⟩:=tri3 A4.out
 have Y4':V4.heap[w.heap.size + 1]? = some (.cells #[.slice none 0 0,.slice none 0 0,.slice none 0 0,.slice none 0 0,.slice none 0 0,.slice none 0 0,.int .i64 0,.int .i64 0,.slice none 0 0,.bool false] 37 (0,0)):=Y4.out
 obtain ⟨y0,y1,y2,y3,y4,y5,y6,y7,y8,y9,g0,g1,g2,g3,g4,g5,g6,g7,g8,g9⟩:=zaj Y4'
 obtain ⟨m0,m1,m2,k0,k1,k2⟩:=tri3 Z4.out
 clear Y4'
 have eV:V2.heap.size = w.heap.size + 1 + 1 + 1 + 1 + 1:=by rw [Z2.out,HZ.out]
 rw [eV] at n0 n1 n2 ⊢
 have O5:=zaa (zbu V4 (w.heap.size + 1) (.slice aW ws.length cW) (.slice aP 0 cP) (.slice aS es.length cS) (.slice aQ 0 cQ) (.slice aH hs.length cH) (.slice aT 0 cT) (.int .i64 0) (.int .i64 0) (.slice (some ⟨V.heap.size,0,none⟩) 0 0) (.bool false))
 have E5:=zaa (zre V4 (w.heap.size + 1) (.slice aW ws.length cW) (.slice aP 0 cP) (.slice aS es.length cS) (.slice aQ 0 cQ) (.slice aH hs.length cH) (.slice aT 0 cT) (.int .i64 0) (.int .i64 0) (.slice (some ⟨V.heap.size,0,none⟩) 0 0) (.bool false))
 have S5:=zaa (Soft.outside O5.out Y4.out rfl)
 have Z6:=zaa ((O5.out.block (w.heap.size + 1 + 1) (by have q1:=HZ.out; have q2:=Z2.out; have q3:=Z3.out; have q5:=Z5.out; omega) (by omega)).trans Z4.out)
 have B5:=zaa (B4.out.trans (O5.out.below (B:=w.heap.size) (by omega) (by have q1:=HZ.out; have q2:=Z2.out; have q3:=Z3.out; have q5:=Z5.out; omega)))
 obtain ⟨V5,hV5⟩:∃ V5,V5 = zga V4 (w.heap.size + 1) (.slice aW ws.length cW) (.slice aP 0 cP) (.slice aS es.length cS) (.slice aQ 0 cQ) (.slice aH hs.length cH) (.slice aT 0 cT) (.int .i64 0) (.int .i64 0) (.slice (some ⟨V.heap.size,0,none⟩) 0 0) (.bool false):=⟨_,rfl⟩
 rw [← hV5] at O5 S5 Z6 B5 E5
 have O6:=zaa (yaax V5 (w.heap.size + 1 + 1) (.int .i64 cd) (.int .i64 vl) (.slice aN nm.length cN))
 have S6:=zaa (((SV.out.trans S5.out).trans (Soft.outside O6.out Z6.out rfl)).drew)
 have B6:=zaa (B5.out.trans (O6.out.below (B:=w.heap.size) (by omega) (by have q6:=E5.out; have q1:=HZ.out; have q2:=Z2.out; have q3:=Z3.out; have q5:=Z5.out; omega))).drew
 have F6:Hid (RdFs (putA V5 (w.heap.size + 1 + 1) (.int .i64 cd) (.int .i64 vl) (.slice aN nm.length cN)).drew (.agg #[.slice aW ws.length cW,.slice aP 0 cP,.slice aS es.length cS,.slice aQ 0 cQ,.slice aH hs.length cH,.slice aT 0 cT,.int .i64 0,.int .i64 0,.slice (some ⟨V.heap.size,0,none⟩) 0 0,.bool false]) ws es hs [] 0 0 [] false) :=
  ⟨aW,cW,aP,cP,aS,cS,aQ,cQ,aH,cH,aT,cT,_,_,rfl,(RD.out.below BV.out).soft S6.out H1.out H2.out,RdI.soft (Rd.below RH.out BV.out) S6.out HH.out,RdM.soft (Rd.below RT.out BV.out) S6.out,yajs _ _⟩
 unfold zga at hV5
 clear O5 S5 Z6 B5 E5 O6 S6 SV S4 O4 X4 A4 Y4 Z4 B4 BB3 B3 B2 Z2 Z3 Z5 RD RH RT
 go_wp2_with fail
 go_region
 all_goals
  go_wp2_with fail
  rw [← hV5]
  refine bodyPost_ret (v:=.tuple #[.agg #[.slice aW ws.length cW,.slice aP 0 cP,.slice aS es.length cS,.slice aQ 0 cQ,.slice aH hs.length cH,.slice aT 0 cT,.int .i64 0,.int .i64 0,.slice (some ⟨V.heap.size,0,none⟩) 0 0,.bool false],.agg #[.int .i64 cd,.int .i64 vl,.slice aN nm.length cN],.int .i64 0]) (by simp [results,Tryz.results97,go_sem,hV5,y0,y1,y2,y3,y4,y5,y6,y7,y8,y9,m0,m1,m2]) rfl ?_
  exact ⟨_,_,_,_,rfl,F6.out,B6.out⟩
end Go.Proofs.YtkdjfhkalelafaaGreatDoor
