/- A move is begun: by the model. -/
import Derived.Test.YtkdjfhkalelafaaGreatDoorZBF
import Derived.Test.YtkdjfhkalelafaaGreatDoorZBG
namespace Go.Proofs.YtkdjfhkalelafaaGreatDoor
open Go.RowKit
def MvOK (ws es:List Int) (td:List Mi):Prop:=(∃ ws' es' ns' ds',mr td ws [] es [] = ⟨0,ws',[],es',[]⟩ ∧ Idle ws' es' ns' ds') ∧ (∀ m ∈ td,miB m = true) ∧ td.length ≤ 200
set_option maxRecDepth 100000 in
set_option maxHeartbeats 32000000 in
theorem zyh (v:Value) (pr:Bool) (ws es hs:List Int) (ns:List Ino) (ds:List Den) (w:World) (h:RdFs w v ws es hs [] 0 0 [] false) (hi:Idle ws es ns ds) (hh:zjp hs = true) :
  Calls Tryz.prog 49 #[v,.bool pr] w fun e w' => ∃ v' c td,e = .returned (.tuple #[v',.int .i64 c]) ∧ RdFs w' v' ws es hs td 0 0 [] false ∧ MvOK ws es td ∧ Below w.heap.size w w':=by
 have H1:Hid (3 ≤ ws.length):=(zce hi).1
 have H2:Hid (3 ≤ es.length):=(zce hi).2
 have H3:Hid (3 ≤ hs.length):=by have:=(zbq hh).1; unfold Hid; omega
 have NONE:Hid (MvOK ws es []):=⟨zuf hi,(fun m hm => nomatch hm),Nat.zero_le _⟩
 obtain ⟨aW,cW,aP,cP,aS,cS,aQ,cQ,aH,cH,aT,cT,aN,cN,rfl,a,b,c,d⟩:=h
 have RD:=zaa a
 have RH:=zaa b
 have RT:=zaa c
 have RN:=zaa d
 have LR:Hid (∀ w1,Below w.heap.size w w1 → Calls Tryz.prog 99 #[.agg #[.slice aW ws.length cW,.slice aP 0 cP]] w1 fun e w' => (∃ v',e = .returned (.tuple #[v',.bool true]) ∧ RowIm w' w1.heap.size w'.heap.size v' ns ds) ∧ Below w1.heap.size w1 w'):=fun w1 hb => by
  obtain ⟨_,_,_,_,e1,q,_⟩:=a.below hb
  simp only [Value.agg.injEq,Array.mk.injEq,List.cons.injEq,and_true] at e1
  obtain ⟨rfl,rfl,-,-⟩:=e1
  refine (znd _ ws [] w1 q hi.pm).mono ?_
  rintro e w' ⟨⟨v',rfl,h1,_⟩,hb'⟩
  have gd:zcm (zcg ws []) 24 = true:=hi.wi.good
  refine ⟨⟨v',by rw [gd],?_⟩,hb'⟩
  have:=h1 gd
  rw [show zbe (zcg ws []) 16 = ns from hi.wi.inos,show zbi (zcg ws []) 24 = ds from hi.wi.dens] at this
  exact this
 have LK0:=zaa (fun t v2 w1 (hb:Below w.heap.size w w1) (h2:RdIm w1 v2 ns ds) => zwv v2 (.slice aH hs.length cH) ns ds hs t pr w1 h2 hi.img (Rd.below b hb) hh)
 have LD:=zaa (fun (i p:Nat) (h16:i < 16) (h8:p < 8) v2 w1 (hb:Below w.heap.size w w1) (h2:RdIm w1 v2 ns ds) => zsi _ v2 ws [] es [] ns ds i p w1 (a.below hb) hi.pm hi.bk h2 hi.img h16 h8)
 have LP:=zaa (fun (i p:Nat) (h16:i < 16) (h8:p < 8) v2 w1 (hb:Below w.heap.size w w1) (h2:RdIm w1 v2 ns ds) => zpt _ v2 ws [] es [] ns ds i p w1 (a.below hb) hi.pm hi.bk h2 hi.img h16 h8)
 have EN:∀ i p:Nat,enI ns (i:Int) (p:Int) = (zan ns i).map.getD p 0:=fun i p => by unfold enI; rw [Int.toNat_natCast,Int.toNat_natCast]
 have MD:Hid (∀ i p:Nat,i < 16 → p < 8 → (deF ns (enI ns (i:Int) (p:Int)) (pgV ws [] es [] (enI ns (i:Int) (p:Int))) (i:Int) (p:Int)).2 = 0 → MvOK ws es (deF ns (enI ns (i:Int) (p:Int)) (pgV ws [] es [] (enI ns (i:Int) (p:Int))) (i:Int) (p:Int)).1):=fun i p h16 h8 => by rw [EN]; exact fun c => zxq hi h16 h8 _ c
 have MP:Hid (∀ i p:Nat,i < 16 → p < 8 → (prF ns (enI ns (i:Int) (p:Int)) (pgV ws [] es [] (enI ns (i:Int) (p:Int))) (i:Int) (p:Int)).2 = 0 → MvOK ws es (prF ns (enI ns (i:Int) (p:Int)) (pgV ws [] es [] (enI ns (i:Int) (p:Int))) (i:Int) (p:Int)).1):=fun i p h16 h8 => by rw [EN]; exact fun c => zuc hi h16 h8 _ c
 have PK:=zaa (fun t => zun ns hs t pr 128)
 clear a b c d hi hh EN
 simp only [List.length_nil] at RT RN ⊢
 obtain ⟨V,hV⟩:∃ V,V = (w.alloc (.cells #[.slice aW ws.length cW,.slice aP 0 cP,.slice aS es.length cS,.slice aQ 0 cQ,.slice aH hs.length cH,.slice aT 0 cT,.int .i64 0,.int .i64 0,.slice aN 0 cN,.bool false] 37)).alloc (.cells zei.toArray 37):=⟨_,rfl⟩
 have HZ:Hid (V.heap.size = w.heap.size + 1 + 1):=by rw [hV]; simp [Hid]
 have BV:Hid (Below w.heap.size w V):=by rw [hV]; exact ((Below.refl _ _).alloc (Nat.le_refl _) _).alloc (by simp) _
 have XV:Hid (V.heap[w.heap.size]? = some (.cells #[.slice aW ws.length cW,.slice aP 0 cP,.slice aS es.length cS,.slice aQ 0 cQ,.slice aH hs.length cH,.slice aT 0 cT,.int .i64 0,.int .i64 0,.slice aN 0 cN,.bool false] 37 (0,0))):=by rw [hV]; exact zak (zah rfl)
 have YV:Hid (V.heap[w.heap.size + 1]? = some (.cells zei.toArray 37 (0,0))):=by rw [hV]; exact zah (by simp)
 unfold zei at hV
 go_enter Tryz.func49,Tryz.ntmps49
 go_upto_region 1 with fail
 rw [← hV]
 clear hV
 obtain ⟨x0,x1,x2,x3,x4,x5,x6,x7,x8,x9,-⟩:=zaj XV.out
 go_wp2_with fail
 refine (LR.out _ BV.out).mono ?_
 rintro e w1 ⟨⟨v1,rfl,hr1⟩,hb1⟩
 have HR1:=zaa hr1
 obtain ⟨vI,vD,rfl,hI,hD⟩:=hr1
 obtain ⟨-,a1,k1,hv1,-⟩:=hI.rd
 obtain ⟨-,a2,k2,hv2,-⟩:=hD.rd
 subst hv1
 subst hv2
 have z1:Hid (V.heap.size ≤ w1.heap.size):=hb1.size
 obtain ⟨V1,hV1⟩:∃ V1,V1 = w1.alloc (.cells #[.slice a1 ns.length k1,.slice a2 ds.length k2] 42):=⟨_,rfl⟩
 have BC:Hid (Below w1.heap.size w1 V1):=by rw [hV1]; exact (Below.refl _ _).alloc (Nat.le_refl _) _
 have BV1:=zaa (zab hb1 BC.out hb1.size)
 have I1:Hid (V1.heap[w1.heap.size]? = some (.cells #[.slice a1 ns.length k1,.slice a2 ds.length k2] 42 (0,0))):=by rw [hV1]; exact zah rfl
 have RI1:=zaa (HR1.out.below BC.out (Nat.le_refl _)).rd
 have X1:=zaa ((BV1.out.block _ (by have q:=HZ.out; omega)).trans XV.out)
 have Y1:=zaa ((BV1.out.block _ (by have q:=HZ.out; omega)).trans YV.out)
 have B1:=zaa (zab BV.out BV1.out BV.out.size)
 have l1:Hid (w1.heap.size < V1.heap.size):=(Array.getElem?_eq_some_iff.1 I1.out).1
 clear x0 x1 x2 x3 x4 x5 x6 x7 x8 x9 hI hD HR1 LR hb1 XV YV BV1 BC
 go_upto_region 4 with fail
 rw [← hV1]
 clear hV1
 obtain ⟨x0,x1,x2,x3,x4,x5,x6,x7,x8,x9,-⟩:=zaj X1.out
 obtain ⟨i0,i1,-,-⟩:=zac I1.out
 cases pr with
 | false =>
  have LK:=zaa (LK0.out 1)
  obtain ⟨pr0,pr1⟩:=PK.out 1
  clear LK0 PK MP
  generalize pkN ns hs 1 false 128 = pk at *
  go_wp2_with fail
  refine (LK.out _ _ B1.out RI1.out).mono ?_
  rintro e w2 ⟨rfl,hb2⟩
  have z2:Hid (V1.heap.size ≤ w2.heap.size):=hb2.size
  have X2:=zaa ((hb2.block _ (by have q:=HZ.out; have q1:=z1.out; have q2:=l1.out; omega)).trans X1.out)
  have I2:=zaa ((hb2.block _ l1.out).trans I1.out)
  have Y2:=zaa ((hb2.block _ (by have q:=HZ.out; have q1:=z1.out; have q2:=l1.out; omega)).trans Y1.out)
  have B2:=zaa (zab B1.out hb2 B1.out.size)
  have RI2:=zaa (RI1.out.below hb2)
  clear x0 x1 x2 x3 x4 x5 x6 x7 x8 x9 i0 i1 hb2 LK X1 I1 Y1 RI1
  by_cases ck:pk < 0
  ·have XU:=X2
   have YU:=Y2
   have BU:=B2
   have zU:Hid (V.heap.size ≤ w2.heap.size):=by have q1:=z1.out; have q2:=l1.out; have q3:=z2.out; unfold Hid; omega
   have RDU:=zaa (RD.out.below B2.out)
   have RHU:Hid (RdI w2 (.slice aH hs.length cH) hs):=Rd.below RH.out B2.out
   have RTU:Hid (RdM w2 (.slice aT 0 cT) []):=Rd.below RT.out B2.out
   have RNU:Hid (RdT w2 (.slice aN 0 cN) []):=Rd.below RN.out B2.out
   clear X2 Y2 I2 RI2 B2 LD LP RD RH RT RN
   obtain ⟨x0,x1,x2,x3,x4,x5,x6,x7,x8,x9,-⟩:=zaj XU.out
   have YU':w2.heap[w.heap.size + 1]? = some (.cells #[.slice none 0 0,.slice none 0 0,.slice none 0 0,.slice none 0 0,.slice none 0 0,.slice none 0 0,.int .i64 0,.int .i64 0,.slice none 0 0,.bool false] 37 (0,0)):=YU.out
   obtain ⟨y0,y1,y2,y3,y4,y5,y6,y7,y8,y9,g0,g1,g2,g3,g4,g5,g6,g7,g8,g9⟩:=zaj YU'
   clear YU'
   have O3:=zaa (zbu w2 (w.heap.size + 1) (.slice aW ws.length cW) (.slice aP 0 cP) (.slice aS es.length cS) (.slice aQ 0 cQ) (.slice aH hs.length cH) (.slice aT 0 cT) (.int .i64 0) (.int .i64 0) (.slice aN 0 cN) (.bool false))
   have S3:=zaa (Soft.outside O3.out YU.out rfl)
   have B3:=zaa (BU.out.trans (O3.out.below (B:=w.heap.size) (by omega) (by have q1:=HZ.out; have q2:=zU.out; omega)))
   have F3:Hid (RdFs _ (.agg #[.slice aW ws.length cW,.slice aP 0 cP,.slice aS es.length cS,.slice aQ 0 cQ,.slice aH hs.length cH,.slice aT 0 cT,.int .i64 0,.int .i64 0,.slice aN 0 cN,.bool false]) ws es hs [] 0 0 [] false) :=
    ⟨aW,cW,aP,cP,aS,cS,aQ,cQ,aH,cH,_,_,aN,cN,rfl,RDU.out.soft S3.out H1.out H2.out,RdI.soft RHU.out S3.out H3.out,RdM.soft RTU.out S3.out,RdT.soft RNU.out S3.out⟩
   clear O3 S3 XU YU RDU RHU RTU RNU BU
   go_wp2
   refine bodyPost_ret (v:=.tuple #[.agg #[.slice aW ws.length cW,.slice aP 0 cP,.slice aS es.length cS,.slice aQ 0 cQ,.slice aH hs.length cH,.slice aT 0 cT,.int .i64 0,.int .i64 0,.slice aN 0 cN,.bool false],.int .i64 5]) (by simp [results,Tryz.results49,go_sem,y0,y1,y2,y3,y4,y5,y6,y7,y8,y9]) rfl ?_
   exact ⟨_,_,_,rfl,F3.out,NONE.out,B3.out⟩
  obtain ⟨kk,rfl⟩:∃ kk:Nat,pk = (kk:Int):=⟨pk.toNat,by omega⟩
  have kk128:kk < 128:=by omega
  obtain ⟨a8,b8,ha8,hb8,hab⟩:∃ a b:Nat,a < 16 ∧ b < 8 ∧ kk = 8 * a + b:=⟨kk / 8,kk % 8,by omega,by omega,by omega⟩
  have tq:Int.tdiv (kk:Int) 8 = (a8:Int):=by rw [Int.tdiv_eq_ediv_of_nonneg (by omega)]; omega
  have tr:Int.tmod (kk:Int) 8 = (b8:Int):=by rw [Int.tmod_eq_emod_of_nonneg (by omega)]; omega
  obtain ⟨V3,hV3⟩:∃ V3,V3 = w2.alloc (.cells #[] 192):=⟨_,rfl⟩
  have BC3:Hid (Below w2.heap.size w2 V3):=by rw [hV3]; exact (Below.refl _ _).alloc (Nat.le_refl _) _
  have z3:Hid (w2.heap.size ≤ V3.heap.size):=BC3.out.size
  have X3:=zaa ((BC3.out.block _ (by have q:=HZ.out; have q1:=z1.out; have q2:=l1.out; have q3:=z2.out; omega)).trans X2.out)
  have Y3:=zaa ((BC3.out.block _ (by have q:=HZ.out; have q1:=z1.out; have q2:=l1.out; have q3:=z2.out; omega)).trans Y2.out)
  have I3:=zaa ((BC3.out.block _ (by have q:=l1.out; have q1:=z2.out; omega)).trans I2.out)
  have B3a:=zaa (zab B2.out BC3.out B2.out.size)
  have RI3:=zaa (RI2.out.below BC3.out)
  have L3:=zaa (LD.out a8 b8 ha8 hb8 _ _ B3a.out RI3.out)
  have MV:=zaa (MD.out a8 b8 ha8 hb8)
  clear X2 Y2 I2 RI2 B2 BC3 LD LP ck hab kk128
  go_upto_region 11 with fail
  rw [← hV3]
  clear hV3
  obtain ⟨x0,x1,x2,x3,x4,x5,x6,x7,x8,x9,-⟩:=zaj X3.out
  obtain ⟨i0,i1,-,-⟩:=zac I3.out
  generalize deF ns (enI ns (a8:Int) (b8:Int)) (pgV ws [] es [] (enI ns (a8:Int) (b8:Int))) (a8:Int) (b8:Int) = M at *
  obtain ⟨ml,mc⟩:=M
  simp only at MV L3
  go_wp2_with fail
  refine L3.out.mono ?_
  rintro e w4 ⟨v4,rfl,hr4,hb4⟩
  have R4:=zaa hr4.rd
  obtain ⟨-,iM,jM,hv4,-⟩:=hr4.rd
  subst hv4
  have z4:Hid (V3.heap.size ≤ w4.heap.size):=hb4.size
  have X4:=zaa ((hb4.block _ (by have q:=HZ.out; have q1:=z1.out; have q2:=l1.out; have q3:=z2.out; have q4:=z3.out; omega)).trans X3.out)
  have Y4:=zaa ((hb4.block _ (by have q:=HZ.out; have q1:=z1.out; have q2:=l1.out; have q3:=z2.out; have q4:=z3.out; omega)).trans Y3.out)
  have B4:=zaa (zab B3a.out hb4 B3a.out.size)
  have zV4:Hid (V.heap.size ≤ w4.heap.size):=by have q1:=z1.out; have q2:=l1.out; have q3:=z2.out; have q4:=z3.out; have q5:=z4.out; unfold Hid; omega
  have RD4:=zaa (RD.out.below B4.out)
  have RH4:Hid (RdI w4 (.slice aH hs.length cH) hs):=Rd.below RH.out B4.out
  have RT4:Hid (RdM w4 (.slice aT 0 cT) []):=Rd.below RT.out B4.out
  have RN4:Hid (RdT w4 (.slice aN 0 cN) []):=Rd.below RN.out B4.out
  clear x0 x1 x2 x3 x4 x5 x6 x7 x8 x9 i0 i1 hr4 hb4 L3 X3 Y3 I3 B3a RI3 RD RH RT RN
  by_cases cm:mc = 0
  case neg =>
   have qm:(mc != 0) = true:=by rw [bne_iff_ne]; exact cm
   have XU:=X4
   have YU:=Y4
   have BU:=B4
   have zU:=zV4
   have RDU:=RD4
   have RHU:=RH4
   have RTU:=RT4
   have RNU:=RN4
   clear X4 Y4 B4 RD4 RH4 RT4 RN4 cm
   obtain ⟨x0,x1,x2,x3,x4,x5,x6,x7,x8,x9,-⟩:=zaj XU.out
   have YU':w4.heap[w.heap.size + 1]? = some (.cells #[.slice none 0 0,.slice none 0 0,.slice none 0 0,.slice none 0 0,.slice none 0 0,.slice none 0 0,.int .i64 0,.int .i64 0,.slice none 0 0,.bool false] 37 (0,0)):=YU.out
   obtain ⟨y0,y1,y2,y3,y4,y5,y6,y7,y8,y9,g0,g1,g2,g3,g4,g5,g6,g7,g8,g9⟩:=zaj YU'
   clear YU'
   have O3:=zaa (zbu w4 (w.heap.size + 1) (.slice aW ws.length cW) (.slice aP 0 cP) (.slice aS es.length cS) (.slice aQ 0 cQ) (.slice aH hs.length cH) (.slice aT 0 cT) (.int .i64 0) (.int .i64 0) (.slice aN 0 cN) (.bool false))
   have S3:=zaa (Soft.outside O3.out YU.out rfl)
   have B3:=zaa (BU.out.trans (O3.out.below (B:=w.heap.size) (by omega) (by have q1:=HZ.out; have q2:=zU.out; omega)))
   have F3:Hid (RdFs _ (.agg #[.slice aW ws.length cW,.slice aP 0 cP,.slice aS es.length cS,.slice aQ 0 cQ,.slice aH hs.length cH,.slice aT 0 cT,.int .i64 0,.int .i64 0,.slice aN 0 cN,.bool false]) ws es hs [] 0 0 [] false) :=
    ⟨aW,cW,aP,cP,aS,cS,aQ,cQ,aH,cH,_,_,aN,cN,rfl,RDU.out.soft S3.out H1.out H2.out,RdI.soft RHU.out S3.out H3.out,RdM.soft RTU.out S3.out,RdT.soft RNU.out S3.out⟩
   clear O3 S3 XU YU RDU RHU RTU RNU BU
   go_wp2
   refine bodyPost_ret (v:=.tuple #[.agg #[.slice aW ws.length cW,.slice aP 0 cP,.slice aS es.length cS,.slice aQ 0 cQ,.slice aH hs.length cH,.slice aT 0 cT,.int .i64 0,.int .i64 0,.slice aN 0 cN,.bool false],.int .i64 mc]) (by simp [results,Tryz.results49,go_sem,y0,y1,y2,y3,y4,y5,y6,y7,y8,y9]) rfl ?_
   exact ⟨_,_,_,rfl,F3.out,NONE.out,B3.out⟩
  subst cm
  obtain ⟨MR0,MM,ML⟩:=MV.out rfl
  have HMR:=zaa MR0
  have HMM:=zaa MM
  have HML:=zaa ML
  clear MR0 MM ML MV
  obtain ⟨x0,x1,x2,x3,x4,x5,x6,x7,x8,x9,g0,g1,g2,g3,g4,g5,g6,g7,g8,g9⟩:=zaj X4.out
  obtain ⟨U,hU⟩:∃ U,U = w4.setCell ⟨w.heap.size,5,none⟩ (.slice iM ml.length jM):=⟨_,rfl⟩
  have XU:Hid (U.heap[w.heap.size]? = some (.cells #[.slice aW ws.length cW,.slice aP 0 cP,.slice aS es.length cS,.slice aQ 0 cQ,.slice aH hs.length cH,.slice iM ml.length jM,.int .i64 0,.int .i64 0,.slice aN 0 cN,.bool false] 37 (0,0))):=by rw [hU]; exact zgq X4.out _
  have OW:Hid (Outside w.heap.size (w.heap.size + 1) w4 U):=by rw [hU]; exact zaa (Outside.setCell (Outside.refl _ _ _) (a:=⟨w.heap.size,5,none⟩) (Nat.le_refl _) (Nat.lt_succ_self _) _)
  have SW:=zaa (Soft.outside OW.out X4.out rfl)
  have YU:=zaa ((OW.out.block (w.heap.size + 1) (by have q:=HZ.out; have q1:=zV4.out; omega) (by omega)).trans Y4.out)
  have BU:=zaa (B4.out.trans (OW.out.below (B:=w.heap.size) (Nat.le_refl _) (by have q:=HZ.out; have q1:=zV4.out; omega)))
  have zU:Hid (V.heap.size ≤ U.heap.size):=by have q1:=zV4.out; have q2:=OW.out.size; unfold Hid; omega
  have RDU:=zaa (RD4.out.soft SW.out H1.out H2.out)
  have RHU:=zaa (RdI.soft RH4.out SW.out H3.out)
  have RTU:Hid (RdM U (.slice iM ml.length jM) ml):=RdM.soft R4.out SW.out
  have RNU:=zaa (RdT.soft RN4.out SW.out)
  go_upto_region 18 with fail
  rw [← hU]
  clear hU x0 x1 x2 x3 x4 x5 x6 x7 x8 x9 g0 g1 g2 g3 g4 g5 g6 g7 g8 g9 X4 Y4 OW SW RD4 RH4 RT4 RN4 R4 B4
  obtain ⟨x0,x1,x2,x3,x4,x5,x6,x7,x8,x9,-⟩:=zaj XU.out
  have YU':U.heap[w.heap.size + 1]? = some (.cells #[.slice none 0 0,.slice none 0 0,.slice none 0 0,.slice none 0 0,.slice none 0 0,.slice none 0 0,.int .i64 0,.int .i64 0,.slice none 0 0,.bool false] 37 (0,0)):=YU.out
  obtain ⟨y0,y1,y2,y3,y4,y5,y6,y7,y8,y9,g0,g1,g2,g3,g4,g5,g6,g7,g8,g9⟩:=zaj YU'
  clear YU'
  have O3:=zaa (zbu U (w.heap.size + 1) (.slice aW ws.length cW) (.slice aP 0 cP) (.slice aS es.length cS) (.slice aQ 0 cQ) (.slice aH hs.length cH) (.slice iM ml.length jM) (.int .i64 0) (.int .i64 0) (.slice aN 0 cN) (.bool false))
  have S3:=zaa (Soft.outside O3.out YU.out rfl)
  have B3:=zaa (BU.out.trans (O3.out.below (B:=w.heap.size) (by omega) (by have q1:=HZ.out; have q2:=zU.out; omega)))
  have F3:Hid (RdFs _ (.agg #[.slice aW ws.length cW,.slice aP 0 cP,.slice aS es.length cS,.slice aQ 0 cQ,.slice aH hs.length cH,.slice iM ml.length jM,.int .i64 0,.int .i64 0,.slice aN 0 cN,.bool false]) ws es hs ml 0 0 [] false) :=
   ⟨aW,cW,aP,cP,aS,cS,aQ,cQ,aH,cH,_,_,aN,cN,rfl,RDU.out.soft S3.out H1.out H2.out,RdI.soft RHU.out S3.out H3.out,RdM.soft RTU.out S3.out,RdT.soft RNU.out S3.out⟩
  clear O3 S3 XU YU RDU RHU RTU RNU BU
  go_wp2
  refine bodyPost_ret (v:=.tuple #[.agg #[.slice aW ws.length cW,.slice aP 0 cP,.slice aS es.length cS,.slice aQ 0 cQ,.slice aH hs.length cH,.slice iM ml.length jM,.int .i64 0,.int .i64 0,.slice aN 0 cN,.bool false],.int .i64 0]) (by simp [results,Tryz.results49,go_sem,y0,y1,y2,y3,y4,y5,y6,y7,y8,y9]) rfl ?_
  exact ⟨_,_,_,rfl,F3.out,⟨HMR.out,HMM.out,HML.out⟩,B3.out⟩
 | true =>
  have LK:=zaa (LK0.out 2)
  obtain ⟨pr0,pr1⟩:=PK.out 2
  clear LK0 PK MD
  generalize pkN ns hs 2 true 128 = pk at *
  go_wp2_with fail
  refine (LK.out _ _ B1.out RI1.out).mono ?_
  rintro e w2 ⟨rfl,hb2⟩
  have z2:Hid (V1.heap.size ≤ w2.heap.size):=hb2.size
  have X2:=zaa ((hb2.block _ (by have q:=HZ.out; have q1:=z1.out; have q2:=l1.out; omega)).trans X1.out)
  have I2:=zaa ((hb2.block _ l1.out).trans I1.out)
  have Y2:=zaa ((hb2.block _ (by have q:=HZ.out; have q1:=z1.out; have q2:=l1.out; omega)).trans Y1.out)
  have B2:=zaa (zab B1.out hb2 B1.out.size)
  have RI2:=zaa (RI1.out.below hb2)
  clear x0 x1 x2 x3 x4 x5 x6 x7 x8 x9 i0 i1 hb2 LK X1 I1 Y1 RI1
  by_cases ck:pk < 0
  ·have XU:=X2
   have YU:=Y2
   have BU:=B2
   have zU:Hid (V.heap.size ≤ w2.heap.size):=by have q1:=z1.out; have q2:=l1.out; have q3:=z2.out; unfold Hid; omega
   have RDU:=zaa (RD.out.below B2.out)
   have RHU:Hid (RdI w2 (.slice aH hs.length cH) hs):=Rd.below RH.out B2.out
   have RTU:Hid (RdM w2 (.slice aT 0 cT) []):=Rd.below RT.out B2.out
   have RNU:Hid (RdT w2 (.slice aN 0 cN) []):=Rd.below RN.out B2.out
   clear X2 Y2 I2 RI2 B2 LD LP RD RH RT RN
   obtain ⟨x0,x1,x2,x3,x4,x5,x6,x7,x8,x9,-⟩:=zaj XU.out
   have YU':w2.heap[w.heap.size + 1]? = some (.cells #[.slice none 0 0,.slice none 0 0,.slice none 0 0,.slice none 0 0,.slice none 0 0,.slice none 0 0,.int .i64 0,.int .i64 0,.slice none 0 0,.bool false] 37 (0,0)):=YU.out
   obtain ⟨y0,y1,y2,y3,y4,y5,y6,y7,y8,y9,g0,g1,g2,g3,g4,g5,g6,g7,g8,g9⟩:=zaj YU'
   clear YU'
   have O3:=zaa (zbu w2 (w.heap.size + 1) (.slice aW ws.length cW) (.slice aP 0 cP) (.slice aS es.length cS) (.slice aQ 0 cQ) (.slice aH hs.length cH) (.slice aT 0 cT) (.int .i64 0) (.int .i64 0) (.slice aN 0 cN) (.bool false))
   have S3:=zaa (Soft.outside O3.out YU.out rfl)
   have B3:=zaa (BU.out.trans (O3.out.below (B:=w.heap.size) (by omega) (by have q1:=HZ.out; have q2:=zU.out; omega)))
   have F3:Hid (RdFs _ (.agg #[.slice aW ws.length cW,.slice aP 0 cP,.slice aS es.length cS,.slice aQ 0 cQ,.slice aH hs.length cH,.slice aT 0 cT,.int .i64 0,.int .i64 0,.slice aN 0 cN,.bool false]) ws es hs [] 0 0 [] false) :=
    ⟨aW,cW,aP,cP,aS,cS,aQ,cQ,aH,cH,_,_,aN,cN,rfl,RDU.out.soft S3.out H1.out H2.out,RdI.soft RHU.out S3.out H3.out,RdM.soft RTU.out S3.out,RdT.soft RNU.out S3.out⟩
   clear O3 S3 XU YU RDU RHU RTU RNU BU
   go_wp2
   refine bodyPost_ret (v:=.tuple #[.agg #[.slice aW ws.length cW,.slice aP 0 cP,.slice aS es.length cS,.slice aQ 0 cQ,.slice aH hs.length cH,.slice aT 0 cT,.int .i64 0,.int .i64 0,.slice aN 0 cN,.bool false],.int .i64 5]) (by simp [results,Tryz.results49,go_sem,y0,y1,y2,y3,y4,y5,y6,y7,y8,y9]) rfl ?_
   exact ⟨_,_,_,rfl,F3.out,NONE.out,B3.out⟩
  obtain ⟨kk,rfl⟩:∃ kk:Nat,pk = (kk:Int):=⟨pk.toNat,by omega⟩
  have kk128:kk < 128:=by omega
  obtain ⟨a8,b8,ha8,hb8,hab⟩:∃ a b:Nat,a < 16 ∧ b < 8 ∧ kk = 8 * a + b:=⟨kk / 8,kk % 8,by omega,by omega,by omega⟩
  have tq:Int.tdiv (kk:Int) 8 = (a8:Int):=by rw [Int.tdiv_eq_ediv_of_nonneg (by omega)]; omega
  have tr:Int.tmod (kk:Int) 8 = (b8:Int):=by rw [Int.tmod_eq_emod_of_nonneg (by omega)]; omega
  obtain ⟨V3,hV3⟩:∃ V3,V3 = w2.alloc (.cells #[] 192):=⟨_,rfl⟩
  have BC3:Hid (Below w2.heap.size w2 V3):=by rw [hV3]; exact (Below.refl _ _).alloc (Nat.le_refl _) _
  have z3:Hid (w2.heap.size ≤ V3.heap.size):=BC3.out.size
  have X3:=zaa ((BC3.out.block _ (by have q:=HZ.out; have q1:=z1.out; have q2:=l1.out; have q3:=z2.out; omega)).trans X2.out)
  have Y3:=zaa ((BC3.out.block _ (by have q:=HZ.out; have q1:=z1.out; have q2:=l1.out; have q3:=z2.out; omega)).trans Y2.out)
  have I3:=zaa ((BC3.out.block _ (by have q:=l1.out; have q1:=z2.out; omega)).trans I2.out)
  have B3a:=zaa (zab B2.out BC3.out B2.out.size)
  have RI3:=zaa (RI2.out.below BC3.out)
  have L3:=zaa (LP.out a8 b8 ha8 hb8 _ _ B3a.out RI3.out)
  have MV:=zaa (MP.out a8 b8 ha8 hb8)
  clear X2 Y2 I2 RI2 B2 BC3 LD LP ck hab kk128
  go_upto_region 11 with fail
  rw [← hV3]
  clear hV3
  obtain ⟨x0,x1,x2,x3,x4,x5,x6,x7,x8,x9,-⟩:=zaj X3.out
  obtain ⟨i0,i1,-,-⟩:=zac I3.out
  generalize prF ns (enI ns (a8:Int) (b8:Int)) (pgV ws [] es [] (enI ns (a8:Int) (b8:Int))) (a8:Int) (b8:Int) = M at *
  obtain ⟨ml,mc⟩:=M
  simp only at MV L3
  go_wp2_with fail
  refine L3.out.mono ?_
  rintro e w4 ⟨v4,rfl,hr4,hb4⟩
  have R4:=zaa hr4.rd
  obtain ⟨-,iM,jM,hv4,-⟩:=hr4.rd
  subst hv4
  have z4:Hid (V3.heap.size ≤ w4.heap.size):=hb4.size
  have X4:=zaa ((hb4.block _ (by have q:=HZ.out; have q1:=z1.out; have q2:=l1.out; have q3:=z2.out; have q4:=z3.out; omega)).trans X3.out)
  have Y4:=zaa ((hb4.block _ (by have q:=HZ.out; have q1:=z1.out; have q2:=l1.out; have q3:=z2.out; have q4:=z3.out; omega)).trans Y3.out)
  have B4:=zaa (zab B3a.out hb4 B3a.out.size)
  have zV4:Hid (V.heap.size ≤ w4.heap.size):=by have q1:=z1.out; have q2:=l1.out; have q3:=z2.out; have q4:=z3.out; have q5:=z4.out; unfold Hid; omega
  have RD4:=zaa (RD.out.below B4.out)
  have RH4:Hid (RdI w4 (.slice aH hs.length cH) hs):=Rd.below RH.out B4.out
  have RT4:Hid (RdM w4 (.slice aT 0 cT) []):=Rd.below RT.out B4.out
  have RN4:Hid (RdT w4 (.slice aN 0 cN) []):=Rd.below RN.out B4.out
  clear x0 x1 x2 x3 x4 x5 x6 x7 x8 x9 i0 i1 hr4 hb4 L3 X3 Y3 I3 B3a RI3 RD RH RT RN
  by_cases cm:mc = 0
  case neg =>
   have qm:(mc != 0) = true:=by rw [bne_iff_ne]; exact cm
   have XU:=X4
   have YU:=Y4
   have BU:=B4
   have zU:=zV4
   have RDU:=RD4
   have RHU:=RH4
   have RTU:=RT4
   have RNU:=RN4
   clear X4 Y4 B4 RD4 RH4 RT4 RN4 cm
   obtain ⟨x0,x1,x2,x3,x4,x5,x6,x7,x8,x9,-⟩:=zaj XU.out
   have YU':w4.heap[w.heap.size + 1]? = some (.cells #[.slice none 0 0,.slice none 0 0,.slice none 0 0,.slice none 0 0,.slice none 0 0,.slice none 0 0,.int .i64 0,.int .i64 0,.slice none 0 0,.bool false] 37 (0,0)):=YU.out
   obtain ⟨y0,y1,y2,y3,y4,y5,y6,y7,y8,y9,g0,g1,g2,g3,g4,g5,g6,g7,g8,g9⟩:=zaj YU'
   clear YU'
   have O3:=zaa (zbu w4 (w.heap.size + 1) (.slice aW ws.length cW) (.slice aP 0 cP) (.slice aS es.length cS) (.slice aQ 0 cQ) (.slice aH hs.length cH) (.slice aT 0 cT) (.int .i64 0) (.int .i64 0) (.slice aN 0 cN) (.bool false))
   have S3:=zaa (Soft.outside O3.out YU.out rfl)
   have B3:=zaa (BU.out.trans (O3.out.below (B:=w.heap.size) (by omega) (by have q1:=HZ.out; have q2:=zU.out; omega)))
   have F3:Hid (RdFs _ (.agg #[.slice aW ws.length cW,.slice aP 0 cP,.slice aS es.length cS,.slice aQ 0 cQ,.slice aH hs.length cH,.slice aT 0 cT,.int .i64 0,.int .i64 0,.slice aN 0 cN,.bool false]) ws es hs [] 0 0 [] false) :=
    ⟨aW,cW,aP,cP,aS,cS,aQ,cQ,aH,cH,_,_,aN,cN,rfl,RDU.out.soft S3.out H1.out H2.out,RdI.soft RHU.out S3.out H3.out,RdM.soft RTU.out S3.out,RdT.soft RNU.out S3.out⟩
   clear O3 S3 XU YU RDU RHU RTU RNU BU
   go_wp2
   refine bodyPost_ret (v:=.tuple #[.agg #[.slice aW ws.length cW,.slice aP 0 cP,.slice aS es.length cS,.slice aQ 0 cQ,.slice aH hs.length cH,.slice aT 0 cT,.int .i64 0,.int .i64 0,.slice aN 0 cN,.bool false],.int .i64 mc]) (by simp [results,Tryz.results49,go_sem,y0,y1,y2,y3,y4,y5,y6,y7,y8,y9]) rfl ?_
   exact ⟨_,_,_,rfl,F3.out,NONE.out,B3.out⟩
  subst cm
  obtain ⟨MR0,MM,ML⟩:=MV.out rfl
  have HMR:=zaa MR0
  have HMM:=zaa MM
  have HML:=zaa ML
  clear MR0 MM ML MV
  obtain ⟨x0,x1,x2,x3,x4,x5,x6,x7,x8,x9,g0,g1,g2,g3,g4,g5,g6,g7,g8,g9⟩:=zaj X4.out
  obtain ⟨U,hU⟩:∃ U,U = w4.setCell ⟨w.heap.size,5,none⟩ (.slice iM ml.length jM):=⟨_,rfl⟩
  have XU:Hid (U.heap[w.heap.size]? = some (.cells #[.slice aW ws.length cW,.slice aP 0 cP,.slice aS es.length cS,.slice aQ 0 cQ,.slice aH hs.length cH,.slice iM ml.length jM,.int .i64 0,.int .i64 0,.slice aN 0 cN,.bool false] 37 (0,0))):=by rw [hU]; exact zgq X4.out _
  have OW:Hid (Outside w.heap.size (w.heap.size + 1) w4 U):=by rw [hU]; exact zaa (Outside.setCell (Outside.refl _ _ _) (a:=⟨w.heap.size,5,none⟩) (Nat.le_refl _) (Nat.lt_succ_self _) _)
  have SW:=zaa (Soft.outside OW.out X4.out rfl)
  have YU:=zaa ((OW.out.block (w.heap.size + 1) (by have q:=HZ.out; have q1:=zV4.out; omega) (by omega)).trans Y4.out)
  have BU:=zaa (B4.out.trans (OW.out.below (B:=w.heap.size) (Nat.le_refl _) (by have q:=HZ.out; have q1:=zV4.out; omega)))
  have zU:Hid (V.heap.size ≤ U.heap.size):=by have q1:=zV4.out; have q2:=OW.out.size; unfold Hid; omega
  have RDU:=zaa (RD4.out.soft SW.out H1.out H2.out)
  have RHU:=zaa (RdI.soft RH4.out SW.out H3.out)
  have RTU:Hid (RdM U (.slice iM ml.length jM) ml):=RdM.soft R4.out SW.out
  have RNU:=zaa (RdT.soft RN4.out SW.out)
  go_upto_region 18 with fail
  rw [← hU]
  clear hU x0 x1 x2 x3 x4 x5 x6 x7 x8 x9 g0 g1 g2 g3 g4 g5 g6 g7 g8 g9 X4 Y4 OW SW RD4 RH4 RT4 RN4 R4 B4
  obtain ⟨x0,x1,x2,x3,x4,x5,x6,x7,x8,x9,-⟩:=zaj XU.out
  have YU':U.heap[w.heap.size + 1]? = some (.cells #[.slice none 0 0,.slice none 0 0,.slice none 0 0,.slice none 0 0,.slice none 0 0,.slice none 0 0,.int .i64 0,.int .i64 0,.slice none 0 0,.bool false] 37 (0,0)):=YU.out
  obtain ⟨y0,y1,y2,y3,y4,y5,y6,y7,y8,y9,g0,g1,g2,g3,g4,g5,g6,g7,g8,g9⟩:=zaj YU'
  clear YU'
  have O3:=zaa (zbu U (w.heap.size + 1) (.slice aW ws.length cW) (.slice aP 0 cP) (.slice aS es.length cS) (.slice aQ 0 cQ) (.slice aH hs.length cH) (.slice iM ml.length jM) (.int .i64 0) (.int .i64 0) (.slice aN 0 cN) (.bool false))
  have S3:=zaa (Soft.outside O3.out YU.out rfl)
  have B3:=zaa (BU.out.trans (O3.out.below (B:=w.heap.size) (by omega) (by have q1:=HZ.out; have q2:=zU.out; omega)))
  have F3:Hid (RdFs _ (.agg #[.slice aW ws.length cW,.slice aP 0 cP,.slice aS es.length cS,.slice aQ 0 cQ,.slice aH hs.length cH,.slice iM ml.length jM,.int .i64 0,.int .i64 0,.slice aN 0 cN,.bool false]) ws es hs ml 0 0 [] false) :=
   ⟨aW,cW,aP,cP,aS,cS,aQ,cQ,aH,cH,_,_,aN,cN,rfl,RDU.out.soft S3.out H1.out H2.out,RdI.soft RHU.out S3.out H3.out,RdM.soft RTU.out S3.out,RdT.soft RNU.out S3.out⟩
  clear O3 S3 XU YU RDU RHU RTU RNU BU
  go_wp2
  refine bodyPost_ret (v:=.tuple #[.agg #[.slice aW ws.length cW,.slice aP 0 cP,.slice aS es.length cS,.slice aQ 0 cQ,.slice aH hs.length cH,.slice iM ml.length jM,.int .i64 0,.int .i64 0,.slice aN 0 cN,.bool false],.int .i64 0]) (by simp [results,Tryz.results49,go_sem,y0,y1,y2,y3,y4,y5,y6,y7,y8,y9]) rfl ?_
  exact ⟨_,_,_,rfl,F3.out,⟨HMR.out,HMM.out,HML.out⟩,B3.out⟩
end Go.Proofs.YtkdjfhkalelafaaGreatDoor
