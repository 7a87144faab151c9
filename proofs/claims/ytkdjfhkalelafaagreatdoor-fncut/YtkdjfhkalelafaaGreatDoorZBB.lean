/- Several texts laid together: FsE, FsJ, JiG. -/
import Derived.Test.YtkdjfhkalelafaaGreatDoorZBA
import Derived.Test.YtkdjfhkalelafaaGreatDoorZAR
import Derived.Test.YtkdjfhkalelafaaGreatDoorZAM
import Derived.Test.YtkdjfhkalelafaaGreatDoorZAW
namespace Go.Proofs.YtkdjfhkalelafaaGreatDoor
open Go.RowKit
def RdFs (w:World) (v:Value) (ws es hs:List Int) (td:List Mi) (cd vl:Int) (nm:List ByteArray) (fr:Bool):Prop :=
 ∃ aW cW aP cP aS cS aQ cQ aH cH aT cT aN cN,v = .agg #[.slice aW ws.length cW,.slice aP 0 cP,.slice aS es.length cS,.slice aQ 0 cQ,.slice aH hs.length cH,.slice aT td.length cT,.int .i64 cd,.int .i64 vl,.slice aN nm.length cN,.bool fr] ∧ RdDev w (.agg #[.slice aW ws.length cW,.slice aP 0 cP,.slice aS es.length cS,.slice aQ 0 cQ]) ws [] es [] ∧ RdI w (.slice aH hs.length cH) hs ∧ RdM w (.slice aT td.length cT) td ∧ RdT w (.slice aN nm.length cN) nm
theorem RdFs.soft {w w':World} {v:Value} {ws es hs:List Int} {td:List Mi} {cd vl:Int} {nm:List ByteArray} {fr:Bool} (h:RdFs w v ws es hs td cd vl nm fr) (s:Soft w w') (h1:3 ≤ ws.length) (h2:3 ≤ es.length) (h3:3 ≤ hs.length):RdFs w' v ws es hs td cd vl nm fr:=by
 obtain ⟨aW,cW,aP,cP,aS,cS,aQ,cQ,aH,cH,aT,cT,aN,cN,rfl,a,b,c,d⟩:=h
 exact ⟨aW,cW,aP,cP,aS,cS,aQ,cQ,aH,cH,aT,cT,aN,cN,rfl,a.soft s h1 h2,b.soft s h3,c.soft s,d.soft s⟩
theorem RdFs.below {w w':World} {v:Value} {ws es hs:List Int} {td:List Mi} {cd vl:Int} {nm:List ByteArray} {fr:Bool} (h:RdFs w v ws es hs td cd vl nm fr) (s:Below w.heap.size w w'):RdFs w' v ws es hs td cd vl nm fr:=by
 obtain ⟨aW,cW,aP,cP,aS,cS,aQ,cQ,aH,cH,aT,cT,aN,cN,rfl,a,b,c,d⟩:=h
 exact ⟨aW,cW,aP,cP,aS,cS,aQ,cQ,aH,cH,aT,cT,aN,cN,rfl,a.below s,Rd.below b s,Rd.below c s,Rd.below d s⟩
theorem zaj {w:World} {b:Nat} {t:TypeId} {x0 x1 x2 x3 x4 x5 x6 x7 x8 x9:Value} (h:w.heap[b]? = some (.cells #[x0,x1,x2,x3,x4,x5,x6,x7,x8,x9] t (0,0))):w.cell? ⟨b,0,none⟩ = some x0 ∧ w.cell? ⟨b,1,none⟩ = some x1 ∧ w.cell? ⟨b,2,none⟩ = some x2 ∧ w.cell? ⟨b,3,none⟩ = some x3 ∧ w.cell? ⟨b,4,none⟩ = some x4 ∧ w.cell? ⟨b,5,none⟩ = some x5 ∧ w.cell? ⟨b,6,none⟩ = some x6 ∧ w.cell? ⟨b,7,none⟩ = some x7 ∧ w.cell? ⟨b,8,none⟩ = some x8 ∧ w.cell? ⟨b,9,none⟩ = some x9 ∧ w.frozen? ⟨b,0,none⟩ = false ∧ w.frozen? ⟨b,1,none⟩ = false ∧ w.frozen? ⟨b,2,none⟩ = false ∧ w.frozen? ⟨b,3,none⟩ = false ∧ w.frozen? ⟨b,4,none⟩ = false ∧ w.frozen? ⟨b,5,none⟩ = false ∧ w.frozen? ⟨b,6,none⟩ = false ∧ w.frozen? ⟨b,7,none⟩ = false ∧ w.frozen? ⟨b,8,none⟩ = false ∧ w.frozen? ⟨b,9,none⟩ = false:=by
 simp [World.cell?,World.frozen?,h]
theorem yaau {w:World} {b:Nat} {t:TypeId} {x0 x1 x2 x3 x4 x5 x6 x7 x8 x9:Value} (h:w.heap[b]? = some (.cells #[x0,x1,x2,x3,x4,x5,x6,x7,x8,x9] t (0,0))) (u:Value):(w.setCell ⟨b,0,none⟩ u).heap[b]? = some (.cells #[u,x1,x2,x3,x4,x5,x6,x7,x8,x9] t (0,0)):=by simp [World.setCell,Array.getElem?_modify,h]
theorem zzk {w:World} {b:Nat} {t:TypeId} {x0 x1 x2 x3 x4 x5 x6 x7 x8 x9:Value} (h:w.heap[b]? = some (.cells #[x0,x1,x2,x3,x4,x5,x6,x7,x8,x9] t (0,0))) (u:Value):(w.setCell ⟨b,1,none⟩ u).heap[b]? = some (.cells #[x0,u,x2,x3,x4,x5,x6,x7,x8,x9] t (0,0)):=by simp [World.setCell,Array.getElem?_modify,h]
theorem zzt {w:World} {b:Nat} {t:TypeId} {x0 x1 x2 x3 x4 x5 x6 x7 x8 x9:Value} (h:w.heap[b]? = some (.cells #[x0,x1,x2,x3,x4,x5,x6,x7,x8,x9] t (0,0))) (u:Value):(w.setCell ⟨b,2,none⟩ u).heap[b]? = some (.cells #[x0,x1,u,x3,x4,x5,x6,x7,x8,x9] t (0,0)):=by simp [World.setCell,Array.getElem?_modify,h]
theorem yaaz {w:World} {b:Nat} {t:TypeId} {x0 x1 x2 x3 x4 x5 x6 x7 x8 x9:Value} (h:w.heap[b]? = some (.cells #[x0,x1,x2,x3,x4,x5,x6,x7,x8,x9] t (0,0))) (u:Value):(w.setCell ⟨b,3,none⟩ u).heap[b]? = some (.cells #[x0,x1,x2,u,x4,x5,x6,x7,x8,x9] t (0,0)):=by simp [World.setCell,Array.getElem?_modify,h]
theorem zsl {w:World} {b:Nat} {t:TypeId} {x0 x1 x2 x3 x4 x5 x6 x7 x8 x9:Value} (h:w.heap[b]? = some (.cells #[x0,x1,x2,x3,x4,x5,x6,x7,x8,x9] t (0,0))) (u:Value):(w.setCell ⟨b,4,none⟩ u).heap[b]? = some (.cells #[x0,x1,x2,x3,u,x5,x6,x7,x8,x9] t (0,0)):=by simp [World.setCell,Array.getElem?_modify,h]
theorem zgq {w:World} {b:Nat} {t:TypeId} {x0 x1 x2 x3 x4 x5 x6 x7 x8 x9:Value} (h:w.heap[b]? = some (.cells #[x0,x1,x2,x3,x4,x5,x6,x7,x8,x9] t (0,0))) (u:Value):(w.setCell ⟨b,5,none⟩ u).heap[b]? = some (.cells #[x0,x1,x2,x3,x4,u,x6,x7,x8,x9] t (0,0)):=by simp [World.setCell,Array.getElem?_modify,h]
theorem zna {w:World} {b:Nat} {t:TypeId} {x0 x1 x2 x3 x4 x5 x6 x7 x8 x9:Value} (h:w.heap[b]? = some (.cells #[x0,x1,x2,x3,x4,x5,x6,x7,x8,x9] t (0,0))) (u:Value):(w.setCell ⟨b,6,none⟩ u).heap[b]? = some (.cells #[x0,x1,x2,x3,x4,x5,u,x7,x8,x9] t (0,0)):=by simp [World.setCell,Array.getElem?_modify,h]
theorem zml {w:World} {b:Nat} {t:TypeId} {x0 x1 x2 x3 x4 x5 x6 x7 x8 x9:Value} (h:w.heap[b]? = some (.cells #[x0,x1,x2,x3,x4,x5,x6,x7,x8,x9] t (0,0))) (u:Value):(w.setCell ⟨b,7,none⟩ u).heap[b]? = some (.cells #[x0,x1,x2,x3,x4,x5,x6,u,x8,x9] t (0,0)):=by simp [World.setCell,Array.getElem?_modify,h]
theorem zkp {w:World} {b:Nat} {t:TypeId} {x0 x1 x2 x3 x4 x5 x6 x7 x8 x9:Value} (h:w.heap[b]? = some (.cells #[x0,x1,x2,x3,x4,x5,x6,x7,x8,x9] t (0,0))) (u:Value):(w.setCell ⟨b,8,none⟩ u).heap[b]? = some (.cells #[x0,x1,x2,x3,x4,x5,x6,x7,u,x9] t (0,0)):=by simp [World.setCell,Array.getElem?_modify,h]
theorem zmx {w:World} {b:Nat} {t:TypeId} {x0 x1 x2 x3 x4 x5 x6 x7 x8 x9:Value} (h:w.heap[b]? = some (.cells #[x0,x1,x2,x3,x4,x5,x6,x7,x8,x9] t (0,0))) (u:Value):(w.setCell ⟨b,9,none⟩ u).heap[b]? = some (.cells #[x0,x1,x2,x3,x4,x5,x6,x7,x8,u] t (0,0)):=by simp [World.setCell,Array.getElem?_modify,h]
theorem yaic {w:World} {b:Nat} {t:TypeId} {x0 x1 x2 x3 x4 x5 x6 x7 x8 x9:Value} (h:w.heap[b]? = some (.cells #[x0,x1,x2,x3,x4,x5,x6,x7,x8,x9] t (0,0))) (p q r s:Value):(putR w b p q r s).heap[b]? = some (.cells #[p,q,r,s,x4,x5,x6,x7,x8,x9] t (0,0)):=yaaz (zzt (zzk (yaau h p) q) r) s
def zga (w:World) (b:Nat) (x0 x1 x2 x3 x4 x5 x6 x7 x8 x9:Value):World:=((((((((((w.setCell ⟨b,0,none⟩ x0).setCell ⟨b,1,none⟩ x1).setCell ⟨b,2,none⟩ x2).setCell ⟨b,3,none⟩ x3).setCell ⟨b,4,none⟩ x4).setCell ⟨b,5,none⟩ x5).setCell ⟨b,6,none⟩ x6).setCell ⟨b,7,none⟩ x7).setCell ⟨b,8,none⟩ x8).setCell ⟨b,9,none⟩ x9)
theorem zbu (w:World) (b:Nat) (x0 x1 x2 x3 x4 x5 x6 x7 x8 x9:Value):Outside b (b + 1) w (zga w b x0 x1 x2 x3 x4 x5 x6 x7 x8 x9):=by
 unfold zga
 repeat (refine Outside.setCell ?_ (by simp only; omega) (by simp only; omega) _)
 exact Outside.refl _ _ _
theorem zre (w:World) (b:Nat) (x0 x1 x2 x3 x4 x5 x6 x7 x8 x9:Value):(zga w b x0 x1 x2 x3 x4 x5 x6 x7 x8 x9).heap.size = w.heap.size:=by simp [zga,World.setCell]
theorem tri3 {w:World} {b:Nat} {t:TypeId} {x y z:Value} (h:w.heap[b]? = some (.cells #[x,y,z] t (0,0))):w.cell? ⟨b,0,none⟩ = some x ∧ w.cell? ⟨b,1,none⟩ = some y ∧ w.cell? ⟨b,2,none⟩ = some z ∧ w.frozen? ⟨b,0,none⟩ = false ∧ w.frozen? ⟨b,1,none⟩ = false ∧ w.frozen? ⟨b,2,none⟩ = false:=by simp [World.cell?,World.frozen?,h]
def zei:List Value:=[.slice none 0 0,.slice none 0 0,.slice none 0 0,.slice none 0 0,.slice none 0 0,.slice none 0 0,.int .i64 0,.int .i64 0,.slice none 0 0,.bool false]
set_option maxRecDepth 100000 in
set_option maxHeartbeats 16000000 in
theorem zjv (v:Value) (ws es hs:List Int) (td:List Mi) (cd vl:Int) (nm:List ByteArray) (fr:Bool) (ws' es':List Int) (w:World) (h:RdFs w v ws es hs td cd vl nm fr) (hp:pmB ws [] = true) (hb:zgk es [] = true) (hh:3 ≤ hs.length) (hm:∀ m ∈ td,miB m = true) (hl:td.length ≤ 1000) (r:mr td ws [] es [] = ⟨0,ws',[],es',[]⟩) (hp':pmB ws' [] = true) (hb':zgk es' [] = true) :
  Calls Tryz.prog 50 #[v] w fun e w' => ∃ v',e = .returned v' ∧ RdFs w' v' ws' es' hs [] cd vl nm fr ∧ Below w.heap.size w w':=by
 have h336:Hid (3 ≤ ws'.length):=by have:=(zes hp').1; unfold Hid; omega
 have h32:Hid (3 ≤ es'.length):=by have:=(zej hb').1; unfold Hid; omega
 have HH:=zaa hh
 have HF:=zaa h
 obtain ⟨aW,cW,aP,cP,aS,cS,aQ,cQ,aH,cH,aT,cT,aN,cN,rfl,a,b,c,d⟩:=h
 have LA:Hid (∀ w1,Below w.heap.size w w1 → Calls Tryz.prog 103 #[.agg #[.slice aW ws.length cW,.slice aP 0 cP,.slice aS es.length cS,.slice aQ 0 cQ],.slice aT td.length cT] w1 fun e w' => ∃ v',e = .returned v' ∧ RdDev w' v' ws' [] es' [] ∧ Below w1.heap.size w1 w'):=fun w1 hb1 => yacj _ _ td ws [] es [] ws' [] es' [] w1 (a.below hb1) (Rd.below c hb1) hp hb hm hl r
 have RH:=zaa b
 have RN:=zaa d
 clear a b c d hp hb hm hl r hp' hb' hh HF
 obtain ⟨V,hV⟩:∃ V,V = (w.alloc (.cells #[.slice aW ws.length cW,.slice aP 0 cP,.slice aS es.length cS,.slice aQ 0 cQ,.slice aH hs.length cH,.slice aT td.length cT,.int .i64 cd,.int .i64 vl,.slice aN nm.length cN,.bool fr] 37)).alloc (.cells zei.toArray 37):=⟨_,rfl⟩
 have hzV:V.heap.size = w.heap.size + 1 + 1:=by rw [hV]; simp
 have BV:Hid (Below w.heap.size w V):=by rw [hV]; exact ((Below.refl _ _).alloc (Nat.le_refl _) _).alloc (by simp) _
 have XV:Hid (V.heap[w.heap.size]? = some (.cells #[.slice aW ws.length cW,.slice aP 0 cP,.slice aS es.length cS,.slice aQ 0 cQ,.slice aH hs.length cH,.slice aT td.length cT,.int .i64 cd,.int .i64 vl,.slice aN nm.length cN,.bool fr] 37 (0,0))):=by rw [hV]; exact zak (zah rfl)
 have YV:Hid (V.heap[w.heap.size + 1]? = some (.cells zei.toArray 37 (0,0))):=by
  rw [hV]
  have:=zah (w:=w.alloc (.cells #[.slice aW ws.length cW,.slice aP 0 cP,.slice aS es.length cS,.slice aQ 0 cQ,.slice aH hs.length cH,.slice aT td.length cT,.int .i64 cd,.int .i64 vl,.slice aN nm.length cN,.bool fr] 37)) (o:=.cells zei.toArray 37) rfl
  rw [World.size_alloc] at this
  exact this
 unfold zei at hV
 go_enter Tryz.func50,Tryz.ntmps50
 go_upto_region 1 with fail
 rw [← hV]
 clear hV
 obtain ⟨x0,x1,x2,x3,x4,x5,x6,x7,x8,x9,-⟩:=zaj XV.out
 go_wp2_with fail
 refine (LA.out _ BV.out).mono ?_
 rintro e w1 ⟨v1,rfl,hr1,hb1⟩
 obtain ⟨iW,jW,iP,jP,iS,jS,iQ,jQ,rfl,-,-⟩:=hr1.form
 have z1:V.heap.size ≤ w1.heap.size:=hb1.size
 have B1:=zaa (zab BV.out hb1 BV.out.size)
 have X1:=zaa ((hb1.block _ (by omega)).trans XV.out)
 have Y1:=zaa ((hb1.block _ (by omega)).trans YV.out)
 have D1:=zaa hr1
 clear hr1 hb1 x0 x1 x2 x3 x4 x5 x6 x7 x8 x9 XV YV LA
 obtain ⟨x0,x1,x2,x3,x4,x5,x6,x7,x8,x9,g0,g1,g2,g3,g4,g5,g6,g7,g8,g9⟩:=zaj X1.out
 obtain ⟨w2,hw2⟩:∃ w2,w2 = putR w1 w.heap.size (.slice iW ws'.length jW) (.slice iP 0 jP) (.slice iS es'.length jS) (.slice iQ 0 jQ):=⟨_,rfl⟩
 have O2:=zaa (zib w1 w.heap.size (.slice iW ws'.length jW) (.slice iP 0 jP) (.slice iS es'.length jS) (.slice iQ 0 jQ))
 have S2:Hid (Soft w1 w2):=by rw [hw2]; exact Soft.outside O2.out X1.out rfl
 have X2:Hid (w2.heap[w.heap.size]? = some (.cells #[.slice iW ws'.length jW,.slice iP 0 jP,.slice iS es'.length jS,.slice iQ 0 jQ,.slice aH hs.length cH,.slice aT td.length cT,.int .i64 cd,.int .i64 vl,.slice aN nm.length cN,.bool fr] 37 (0,0))):=by rw [hw2]; exact yaic X1.out _ _ _ _
 have Y2:Hid (w2.heap[w.heap.size + 1]? = some (.cells zei.toArray 37 (0,0))):=by rw [hw2]; exact (O2.out.block _ (by omega) (by omega)).trans Y1.out
 have B2:Hid (Below w.heap.size w w2):=by rw [hw2]; exact B1.out.trans (O2.out.below (Nat.le_refl _) (by omega))
 have z2:w1.heap.size = w2.heap.size:=by rw [hw2,znj]
 unfold putR at hw2
 go_upto_region 2 with fail
 rw [← hw2]
 clear hw2 O2 x0 x1 x2 x3 x4 x5 x6 x7 x8 x9 g0 g1 g2 g3 g4 g5 g6 g7 g8 g9 X1 Y1
 obtain ⟨w3,hw3⟩:∃ w3,w3 = (w2.alloc (.cells #[] 192)).setCell ⟨w.heap.size,5,none⟩ (.slice (some ⟨w2.heap.size,0,none⟩) 0 0):=⟨_,rfl⟩
 have X2a:=zaa (zak (o:=.cells #[] 192) X2.out)
 have S3:Hid (Soft w2 w3):=by rw [hw3]; exact ((Soft.refl _).alloc _).set X2a.out rfl _ _
 have X3:Hid (w3.heap[w.heap.size]? = some (.cells #[.slice iW ws'.length jW,.slice iP 0 jP,.slice iS es'.length jS,.slice iQ 0 jQ,.slice aH hs.length cH,.slice (some ⟨w2.heap.size,0,none⟩) 0 0,.int .i64 cd,.int .i64 vl,.slice aN nm.length cN,.bool fr] 37 (0,0))):=by rw [hw3]; exact zgq X2a.out _
 have Y3:Hid (w3.heap[w.heap.size + 1]? = some (.cells zei.toArray 37 (0,0))):=by rw [hw3,Below.heap_setCell _ _ _ _ (by simp only; omega)]; exact zak Y2.out
 have B3:Hid (Below w.heap.size w w3):=by rw [hw3]; exact (B2.out.alloc B2.out.size _).setCell (Nat.le_refl _) _
 have z3:w2.heap.size + 1 = w3.heap.size:=by rw [hw3]; simp [World.setCell]
 obtain ⟨-,-,-,-,-,x5,-,-,-,-,-,-,-,-,-,g5,-⟩:=zaj X2a.out
 go_upto_region 3 with fail
 rw [← hw3]
 clear hw3 x5 g5 X2 Y2 X2a
 obtain ⟨x0,x1,x2,x3,x4,x5,x6,x7,x8,x9,-⟩:=zaj X3.out
 have Y3':w3.heap[w.heap.size + 1]? = some (.cells #[.slice none 0 0,.slice none 0 0,.slice none 0 0,.slice none 0 0,.slice none 0 0,.slice none 0 0,.int .i64 0,.int .i64 0,.slice none 0 0,.bool false] 37 (0,0)):=Y3.out
 obtain ⟨y0,y1,y2,y3,y4,y5,y6,y7,y8,y9,g0,g1,g2,g3,g4,g5,g6,g7,g8,g9⟩:=zaj Y3'
 clear Y3'
 have O4:=zaa (zbu w3 (w.heap.size + 1) (.slice iW ws'.length jW) (.slice iP 0 jP) (.slice iS es'.length jS) (.slice iQ 0 jQ) (.slice aH hs.length cH) (.slice (some ⟨w2.heap.size,0,none⟩) 0 0) (.int .i64 cd) (.int .i64 vl) (.slice aN nm.length cN) (.bool fr))
 have S4:=zaa (Soft.outside O4.out Y3.out rfl)
 have SS:=zaa ((S2.out.trans S3.out).trans S4.out)
 have B4:=zaa (B3.out.trans (O4.out.below (B:=w.heap.size) (by omega) (by omega)))
 have NIL:Hid (RdM w3 (.slice (some ⟨w2.heap.size,0,none⟩) 0 0) []):=⟨rfl,_,_,rfl,⟨Nat.le_refl _,fun e => by cases e⟩,fun h => absurd h (by simp)⟩
 have F4:Hid (RdFs _ (.agg #[.slice iW ws'.length jW,.slice iP 0 jP,.slice iS es'.length jS,.slice iQ 0 jQ,.slice aH hs.length cH,.slice (some ⟨w2.heap.size,0,none⟩) 0 0,.int .i64 cd,.int .i64 vl,.slice aN nm.length cN,.bool fr]) ws' es' hs [] cd vl nm fr) :=
  ⟨iW,jW,iP,jP,iS,jS,iQ,jQ,aH,cH,_,_,aN,cN,rfl,RdDev.soft D1.out SS.out h336.out h32.out,RdI.soft (Rd.below RH.out B1.out) SS.out HH.out,RdM.soft NIL.out S4.out,RdT.soft (Rd.below RN.out B1.out) SS.out⟩
 clear O4 S4 SS S2 S3 D1 NIL
 go_wp2
 refine bodyPost_ret (v:=.agg #[.slice iW ws'.length jW,.slice iP 0 jP,.slice iS es'.length jS,.slice iQ 0 jQ,.slice aH hs.length cH,.slice (some ⟨w2.heap.size,0,none⟩) 0 0,.int .i64 cd,.int .i64 vl,.slice aN nm.length cN,.bool fr]) (by simp [results,Tryz.results50,go_sem,y0,y1,y2,y3,y4,y5,y6,y7,y8,y9]) rfl ?_
 exact ⟨_,rfl,F4.out,B4.out⟩
set_option maxRecDepth 100000 in
set_option maxHeartbeats 4000000 in
theorem zty (ss:List ByteArray) (hn:2 ≤ ss.length ∧ ss.length ≤ 1000) (w0 w:World) (b bl k:Nat) (vC:Value) (bs:List Int) (h:Src w0 w b vC bs k) (hk:k ≤ 900000) (hl:w.heap[bl]? = some (.cells (ss.map Value.string).toArray 9 (0,0))) (hbl:bl ≠ b) :
  Calls Tryz.prog 62 #[.pointer (some ⟨b,0,none⟩),.slice (some ⟨bl,0,none⟩) ss.length ss.length] w fun e w' => ∃ s,e = .returned (.string s) ∧ s ∈ ss ∧ Src w0 w' b vC bs (k + 3) ∧ Outside b (b + 1) w w' ∧ w'.heap.size = w.heap.size:=by
 have HS:=zaa h
 have HL:=zaa hl
 have lt:Hid (bl < w.heap.size):=(Array.getElem?_eq_some_iff.1 hl).1
 have h0:((ss.length:Int) == 0) = false:=by rw [beq_eq_false_iff_ne]; omega
 have NX:=zaa (zbr (ss.length:Int) (by omega) w0 w b k vC bs HS.out hk)
 obtain ⟨n1,n2⟩:=hn
 clear h hl
 go_enter Tryz.func62,Tryz.ntmps62
 go_wp2_with fail
 refine NX.out.mono ?_
 rintro e w1 ⟨r,rfl,r0,r1,hs,ho,hz⟩
 have S1:=zaa hs
 have O1:=zaa ho
 obtain ⟨j,rfl⟩:=Int.eq_ofNat_of_zero_le r0
 have hj:j < ss.length:=by omega
 have hc:w1.cell? ⟨bl,j,none⟩ = some (.string ss[j]):=by
  have:=(ho.block bl lt.out (by omega)).trans HL.out
  simp [World.cell?,this,hj]
 have EM:=zaa (List.getElem_mem hj)
 generalize ss[j] = s at hc EM
 clear hs ho NX
 go_wp2
 go_ret
 exact ⟨_,rfl,EM.out,S1.out,O1.out,hz⟩
def slB:ByteArray:=⟨#[47]⟩
def segs:List ByteArray:=[⟨#[97]⟩,⟨#[98]⟩,⟨#[99]⟩,⟨#[100,105,114]⟩,⟨#[97]⟩]
def oneP:List ByteArray:=segs.map fun s => slB ++ s
def twoP:List ByteArray:=oneP.flatMap fun p => segs.map fun s => p ++ (slB ++ s)
def PathD (p:ByteArray):Prop:=p ∈ oneP ∨ p ∈ twoP
theorem PathD.size {p:ByteArray} (h:PathD p):p.size ≤ 100:=by
 have:∀ p ∈ oneP ++ twoP,p.size ≤ 100:=by decide
 exact this p (List.mem_append.2 h)
set_option maxRecDepth 100000 in
set_option maxHeartbeats 4000000 in
theorem zfj (w0 w:World) (b k:Nat) (vC:Value) (bs:List Int) (h:Src w0 w b vC bs k) (hk:k ≤ 800000) :
  Calls Tryz.prog 24 #[.pointer (some ⟨b,0,none⟩)] w fun e w' => ∃ p,e = .returned (.string p) ∧ PathD p ∧ Src w0 w' b vC bs (k + 9) ∧ Outside b (b + 1) w w':=by
 have hsz:=h.size
 have HS:=zaa h
 clear h
 go_enter Tryz.func24,Tryz.ntmps24
 go_wp2_with fail
 refine (zbr 5 (by omega) w0 _ b k vC bs HS.out (by omega)).mono ?_
 rintro e w1 ⟨r,rfl,r0,r1,hs,ho,hz⟩
 have S1:=zaa hs
 have O1:=zaa ho
 clear hs ho hz HS
 have step:∀ (wr:World) (q:Nat),Outside b (b + 1) w wr → Src w0 wr b vC bs q → q ≤ 800100 → Calls Tryz.prog 62 #[.pointer (some ⟨b,0,none⟩),.slice (some ⟨wr.heap.size,0,none⟩) 5 5] (wr.alloc (.cells #[.string ⟨#[97]⟩,.string ⟨#[98]⟩,.string ⟨#[99]⟩,.string ⟨#[100,105,114]⟩,.string ⟨#[97]⟩] 9)) fun e w' => ∃ s,e = .returned (.string s) ∧ s ∈ segs ∧ Src w0 w' b vC bs (q + 3) ∧ Outside b (b + 1) w w':=fun wr q o s hq => by
  refine (zty segs (by decide) w0 _ b wr.heap.size q vC bs (s.newer ((Below.refl _ _).alloc (Nat.le_refl _) _)) (by omega) (zah rfl) (by have:=s.size; omega)).mono ?_
  rintro e w' ⟨t,rfl,m,s',o',-⟩
  exact ⟨t,rfl,m,s',(o.trans (Outside.of_below ((Below.refl _ _).alloc (Nat.le_refl _) _))).trans o'⟩
 have STEP:=zaa step
 clear step
 obtain ⟨n,hn,hn12⟩:∃ n:Nat,1 + r / 3 = (n:Int) ∧ (n = 1 ∨ n = 2):=by
  by_cases c:r < 3
  ·exact ⟨1,by omega,.inl rfl⟩
  ·exact ⟨2,by omega,.inr rfl⟩
 go_wp2
 go_loopw [3,4] (fun vP i wr => ∃ (j q:Nat) (p:ByteArray),i = .int .i64 (j:Int) ∧ vP = .string p ∧ q + 3 * j ≤ k + 9 ∧ Hid ((j = n ∧ p = ⟨#[]⟩) ∨ (j = 1 ∧ p ∈ oneP) ∨ (j = 0 ∧ PathD p)) ∧ j ≤ 2 ∧ Hid (Src w0 wr b vC bs q ∧ Outside b (b + 1) w wr)) (fun _ i _ => (intOf i).toNat)
 case atStart => exact ⟨n,_,_,by go_num,rfl,by omega,.inl ⟨rfl,rfl⟩,by omega,S1.out,O1.out⟩
 case round =>
  obtain ⟨j,q,p,rfl,rfl,hq,P,j2,I⟩:=hrel
  by_cases c:0 < j
  ·have c0:(0:Int) < (j:Int):=by omega
   go_wp2_with fail
   refine (STEP.out _ q I.out.2 I.out.1 (by omega)).mono ?_
   rintro e w2 ⟨s,rfl,ms,hs2,ho2⟩
   have I2:=zaa (And.intro hs2 ho2)
   have MS:=zaa ms
   have s1:s.size ≤ 100:=(show ∀ s ∈ segs,s.size ≤ 100 by decide) s ms
   have p1:p.size ≤ 100:=by
    rcases P.out with q | q | q
    ·rw [q.2]; decide
    ·exact PathD.size (.inl q.2)
    ·exact PathD.size q.2
   have pe:Hid (p.size + (1 + s.size) ≤ 300):=by unfold Hid; omega
   clear ms hs2 ho2 I
   go_wp2
   go_roundw
   case rel =>
    refine ⟨j - 1,_,_,by go_num,rfl,by omega,?_,by omega,I2⟩
    have e0:(⟨#[]⟩:ByteArray) ++ (slB ++ s) = slB ++ s:=ByteArray.empty_append
    have m1:slB ++ s ∈ oneP:=List.mem_map.2 ⟨s,MS.out,rfl⟩
    rcases P.out with q | q | q
    ·have e1:p ++ (slB ++ s) = slB ++ s:=by rw [q.2]; exact e0
     rcases hn12 with h | h
     ·exact .inr (.inr ⟨by omega,.inl (by show p ++ (slB ++ s) ∈ oneP; rw [e1]; exact m1)⟩)
     ·exact .inr (.inl ⟨by omega,(by show p ++ (slB ++ s) ∈ oneP; rw [e1]; exact m1)⟩)
    ·exact .inr (.inr ⟨by omega,.inr (List.mem_flatMap.2 ⟨p,q.2,List.mem_map.2 ⟨s,MS.out,rfl⟩⟩)⟩)
    ·omega
   case measure => simp [intOf]; omega
  ·obtain rfl:j = 0:=by omega
   go_wp2
   go_ret
   refine ⟨_,rfl,?_,I.out.1.more (by omega),I.out.2⟩
   rcases P.out with q | q | q
   ·omega
   ·omega
   ·exact q.2
def any9:List ByteArray:=[⟨#[47]⟩,⟨#[]⟩,⟨#[97]⟩,⟨#[47,47]⟩,⟨#[47,97,47]⟩,⟨#[47,65]⟩,⟨#[47,97,47,98,47,99,47,97,47,98,47,99]⟩,⟨#[47,97,47,98,47,99,47,97,47,98,47,99,47,100]⟩,⟨#[47,97,47,98,47,99,47,100]⟩]
set_option maxRecDepth 100000 in
set_option maxHeartbeats 4000000 in
theorem ziw (w0 w:World) (b k:Nat) (vC:Value) (bs:List Int) (h:Src w0 w b vC bs k) (hk:k ≤ 700000) :
  Calls Tryz.prog 105 #[.pointer (some ⟨b,0,none⟩)] w fun e w' => ∃ p,e = .returned (.string p) ∧ p.size ≤ 100 ∧ Src w0 w' b vC bs (k + 12) ∧ Outside b (b + 1) w w':=by
 have HS:=zaa h
 clear h
 go_enter Tryz.func105,Tryz.ntmps105
 go_wp2_with fail
 refine (zgy 6 (by omega) w0 _ b k vC bs HS.out (by omega)).mono ?_
 rintro e w1 ⟨r,rfl,hs,ho,hz⟩
 have S1:=zaa hs
 have O1:=zaa ho
 clear hs ho hz HS
 cases r with
 | true =>
  have PK:=zaa (zty any9 (by decide) w0 (w1.alloc (.cells (any9.map Value.string).toArray 9)) b w1.heap.size (k + 3) vC bs (S1.out.newer ((Below.refl _ _).alloc (Nat.le_refl _) _)) (by omega) (zah rfl) (by have:=S1.out.size; omega))
  go_wp2_with fail
  refine PK.out.mono ?_
  rintro e w2 ⟨s,rfl,ms,hs,ho,-⟩
  have S2:=zaa (hs.more (k':=k + 12) (by omega))
  have O2:=zaa ((O1.out.trans (Outside.of_below ((Below.refl _ _).alloc (Nat.le_refl _) _))).trans ho)
  have Z:=zaa ((show ∀ s ∈ any9,s.size ≤ 100 by decide) s ms)
  clear hs ho ms PK
  go_wp2
  go_ret
  exact ⟨_,rfl,Z.out,S2.out,O2.out⟩
 | false =>
  go_wp2_with fail
  refine (zfj w0 _ b (k + 3) vC bs S1.out (by omega)).mono ?_
  rintro e w2 ⟨s,rfl,ms,hs,ho⟩
  have S2:=zaa hs
  have O2:=zaa (O1.out.trans ho)
  have Z:=zaa ms.size
  clear hs ho ms
  go_wp2
  go_ret
  exact ⟨_,rfl,Z.out,S2.out,O2.out⟩
set_option maxRecDepth 100000 in
theorem zxk (w0 w:World) (b k:Nat) (vC:Value) (bs:List Int) (h:Src w0 w b vC bs k) :
  Calls Tryz.prog 47 #[.pointer (some ⟨b,0,none⟩),.int .i64 20] w fun e w' => ∃ r:Int,e = .returned (.int .i64 r) ∧ 1 ≤ r ∧ r ≤ 20 ∧ w' = w:=by
 obtain ⟨aC,cC,rfl,_⟩:=h.code.shape
 obtain ⟨at_,seed,_,_,_,_,hc⟩:=h.cells
 obtain ⟨c0,-,-,-⟩:=zgf hc
 have hl:=h.len
 clear h hc
 have cc:((bs.length:Int) / 12) ≤ 100000 ∧ 0 ≤ ((bs.length:Int) / 12):=by omega
 go_enter Tryz.func47,Tryz.ntmps47
 go_wp2
 all_goals
  go_ret
  exact ⟨_,rfl,by omega,by omega,rfl⟩
def upB (s:Se):Bool:=decide ((48 ≤ s.at_ ∧ s.at_ < 336) ∧ 0 ≤ s.val ∧ s.val < 1099511627776)
def yaet (ps:List Se):Bool:=decide (∀ k (h:k < ps.length),upB ps[k] = true)
theorem yans {ps:List Se} (h:∀ k (h:k < ps.length),upB ps[k] = true):yaet ps = true:=decide_eq_true h
theorem yakk {ps:List Se} {k:Nat} (hk:k < ps.length) (h:upB ps[k] = false):yaet ps = false:=decide_eq_false (fun x => by have:=x k hk; rw [h] at this; cases this)
set_option maxHeartbeats 2000000 in
theorem zln (s:Se) (w:World):Calls Tryz.prog 36 #[.agg #[.int .i64 s.at_,.int .i64 s.val]] w fun e w' => e = .returned (.bool (upB s)) ∧ Below w.heap.size w w':=by
 obtain ⟨a,x⟩:=s
 simp only
 have hb0:Below w.heap.size w (w.alloc (.cells #[.int .i64 a,.int .i64 x] 83)):=(Below.refl _ _).alloc (Nat.le_refl _) _
 by_cases c1:48 ≤ a
 case neg =>
  have E:=zaa (show upB ⟨a,x⟩ = false from decide_eq_false (fun h => c1 h.1.1))
  go_enter Tryz.func36,Tryz.ntmps36
  go_wp2
  go_ret
  exact ⟨zag E.out.symm,hb0⟩
 by_cases c2:zcx a = true
 case neg =>
  have c2':zcx a = false:=by simpa using c2
  have E:=zaa (show upB ⟨a,x⟩ = false from decide_eq_false (fun h => c2 (decide_eq_true ⟨by omega,h.1.2⟩)))
  have C2:=zaa c2'
  clear c2 c2'
  go_enter Tryz.func36,Tryz.ntmps36
  go_wp2_with (go_at_call 83; refine (zdl _ _).mono ?_; rw [C2.out]; rintro e w' ⟨rfl,rfl⟩)
  go_ret
  exact ⟨zag E.out.symm,hb0⟩
 have E:=zaa (show upB ⟨a,x⟩ = zbd x by
  unfold upB zbd
  rw [decide_eq_decide]
  have:=zha c2
  simp only
  omega)
 have C2:=zaa c2
 clear c2
 go_enter Tryz.func36,Tryz.ntmps36
 go_wp2_with (first | (go_at_call 83; refine (zdl _ _).mono ?_; rw [C2.out]; rintro e w' ⟨rfl,rfl⟩) | (go_at_call 80; refine (zgd _ _).mono ?_; rintro e w' ⟨rfl,rfl⟩))
 go_ret
 exact ⟨zag E.out.symm,hb0⟩
set_option maxHeartbeats 4000000 in
theorem zof (v:Value) (ps:List Se) (w:World) (h:RdE w v ps) (hn:ps.length ≤ 1048576) :
  Calls Tryz.prog 35 #[v,.func (.func 36) #[] #[]] w fun e w' => e = .returned (.bool (yaet ps)) ∧ Below w.heap.size w w':=by
 obtain ⟨aP,cP,rfl,_,hcP⟩:=h.shape
 clear h
 go_enter Tryz.func35,Tryz.ntmps35
 go_wp2
 go_loopw [6,9] (fun _ i wr => ∃ k:Nat,k ≤ ps.length ∧ i = .int .i64 k ∧ Hid (∀ j (h:j < ps.length),j < k → upB ps[j] = true) ∧ Below w.heap.size w wr) (fun _ i _ => ps.length - (intOf i).toNat)
 case atStart => exact ⟨0,by omega,rfl,fun j h a => absurd a (by omega),Below.refl _ _⟩
 case round =>
  obtain ⟨m,hm,rfl,H,hbw⟩:=hrel
  have hz:=hbw.size
  by_cases hlt2:m < ps.length
  ·obtain ⟨b2,o2,rfl,hbl2,hcell2⟩:=hcP (by omega)
   obtain ⟨d0,d1⟩:=hcell2 m hlt2
   have e0:=(hbw.cell (p:=⟨b2,o2 + m * 2,none⟩) hbl2).trans d0
   have e1:=(hbw.cell (p:=⟨b2,o2 + m * 2 + 1,none⟩) hbl2).trans d1
   have hb1:=zaa (hbw.alloc hz (.cells #[.int .i64 ps[m].at_,.int .i64 ps[m].val] 83))
   clear d0 d1 hcell2 hcP
   by_cases q:upB ps[m] = true
   ·have Q:=zaa q
    clear q
    go_wp2_with (go_at_call 36; refine (zln ps[m] _).mono ?_; rw [Q.out]; rintro e w' ⟨rfl,hw'⟩)
    have hw2:=hb1.out.trans (hw'.mono (by simp; omega))
    clear hb1 hw'
    go_roundw
    case rel =>
     refine ⟨m + 1,by omega,by go_num,fun j h a => ?_,hw2⟩
     by_cases e:j = m
     ·subst e; exact Q.out
     ·exact H.out j h (by omega)
    case measure => simp [intOf]; omega
   ·have Q:=zaa (show upB ps[m] = false by simpa using q)
    have E:=zaa (yakk hlt2 Q.out)
    clear q
    go_wp2_with (go_at_call 36; refine (zln ps[m] _).mono ?_; rw [Q.out]; rintro e w' ⟨rfl,hw'⟩)
    have hw2:=hb1.out.trans (hw'.mono (by simp; omega))
    go_ret
    exact ⟨zag E.out.symm,hw2⟩
  ·have E:=zaa (yans (fun j h => H.out j h (by omega)))
   go_wp2
   go_ret
   exact ⟨zag E.out.symm,hbw⟩
end Go.Proofs.YtkdjfhkalelafaaGreatDoor
