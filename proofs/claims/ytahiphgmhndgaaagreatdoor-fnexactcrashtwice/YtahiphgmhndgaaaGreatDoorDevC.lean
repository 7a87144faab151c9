/- Behind a region that draws its order and makes devices: the cut's relation. -/
import Derived.Test.YtahiphgmhndgaaaGreatDoorZAH
namespace Go.Proofs.YtahiphgmhndgaaaGreatDoor
open Go.RowKit
theorem zbi {a w:World} (h:Below a.heap.size a w) (o:Obj):Below a.heap.size a (w.alloc o):=h.alloc h.size o
structure CutD (w0 wx:World) (v0 v1 v2 v3:Value) (W:List Int) (P:List St) (E:List Int) (Q:List Se) (bx lo hi:Nat):Prop where
 lo0:w0.heap.size≤lo
 hi1:hi≤wx.heap.size
 bx0:w0.heap.size≤bx
 bx1:bx < wx.heap.size
 apart:bx < lo∨hi≤bx
 box:wx.heap[bx]?=some (.cells #[v0,v1,v2,v3] 45 (0,0))
 row:RowDev wx lo hi (.agg #[v0,v1,v2,v3]) W P E Q
 below:Below w0.heap.size w0 wx
theorem CutD.new {w0 wf:World} {v0 v1 v2 v3:Value} {W:List Int} {P:List St} {E:List Int} {Q:List Se} {lo hi:Nat} (hr:RowDev wf lo hi (.agg #[v0,v1,v2,v3]) W P E Q) (hlo:w0.heap.size≤lo) (hhi:hi≤wf.heap.size) (hb:Below w0.heap.size w0 wf):CutD w0 (wf.alloc (.cells #[v0,v1,v2,v3] 45)) v0 v1 v2 v3 W P E Q wf.heap.size lo hi :=
 ⟨hlo,by simp;omega,hb.size,by simp,.inr hhi,zag rfl,hr.alloc hhi _,zbi hb _⟩
theorem CutD.old {w0 wf:World} {v0 v1 v2 v3:Value} {W:List Int} {P:List St} {E:List Int} {Q:List Se} {bx lo hi:Nat} (hlt:bx < lo) (hr:RowDev wf lo hi (.agg #[v0,v1,v2,v3]) W P E Q) (hlo:w0.heap.size≤lo) (hhi:hi≤wf.heap.size) (hb:Below w0.heap.size w0 wf) (hx:w0.heap.size≤bx) (hv:wf.heap[bx]?=some (.cells #[.slice none 0 0,.slice none 0 0,.slice none 0 0,.slice none 0 0] 45 (0,0))):CutD w0 (zix wf bx v0 v1 v2 v3) v0 v1 v2 v3 W P E Q bx lo hi :=
 ⟨hlo,by rw[zax];exact hhi,hx,by rw[zax];exact (Array.getElem?_eq_some_iff.1 hv).1,.inl hlt,by simp[zix,World.setCell,Array.getElem?_modify,hv],hr.outside (zbb wf bx v0 v1 v2 v3) (by omega) hhi,hb.trans ((zbb wf bx v0 v1 v2 v3).below hx hb.size)⟩
end Go.Proofs.YtahiphgmhndgaaaGreatDoor
