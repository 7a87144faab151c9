/- The image of devices: by the model. -/
import Derived.Test.YtbohndgbfbfldaaGreatDoorZBJ
import Derived.Test.YtbohndgbfbfldaaGreatDoorDev
import Derived.Test.YtbohndgbfbfldaaGreatDoorZBH
import Derived.Test.YtbohndgbfbfldaaGreatDoorZAJ
import Derived.Test.YtbohndgbfbfldaaGreatDoorZAD
import Derived.Test.YtbohndgbfbfldaaGreatDoorImX
import Derived.Test.YtbohndgbfbfldaaGreatDoorZAI
import Derived.Test.YtbohndgbfbfldaaGreatDoorPiJ
import Derived.Test.YtbohndgbfbfldaaGreatDoorRdD
import Derived.Deep.RegionHeld3
import Derived.Maps.Views
import Derived.Deep.LoopGhost
import Derived.Laws.OwnMore
import Derived.Lib.SplitLaws
import Derived.Lib.IndexBytes
import Derived.BigQuiet
import Derived.Sort.Walk0
import Derived.Laws.Cover1
import Derived.Deep.RegionLaw
namespace Go.Proofs.YtbohndgbfbfldaaGreatDoor
open Go.RowKit
def dvN (ws:List Int) (ps:List St) (es:List Int) (qs:List Se):List Ino:=if dvB ws ps es qs=true then zaz (zbk ws ps) 16 else []
def dvD (ws:List Int) (ps:List St) (es:List Int) (qs:List Se):List Den:=if dvB ws ps es qs=true then zbc (zbk ws ps) 24 else []
theorem yaac {ws:List Int} {ps:List St} {es:List Int} {qs:List Se} (h:(pmB ws ps && zir es qs)=false):dvB ws ps es qs=false∧dvN ws ps es qs=[]∧dvD ws ps es qs=[]:=by
 have e:dvB ws ps es qs=false:=by unfold dvB;rw[h];rfl
 exact ⟨e,by unfold dvN;rw[e];rfl,by unfold dvD;rw[e];rfl⟩
theorem zvk {ws:List Int} {ps:List St} {es:List Int} {qs:List Se} (h:(pmB ws ps && zir es qs)=true):dvB ws ps es qs=(riC ws ps == 0)∧dvN ws ps es qs=riN ws ps∧dvD ws ps es qs=riD ws ps:=by
 have p:pmB ws ps=true:=by rw[Bool.and_eq_true] at h;exact h.1
 have e:dvB ws ps es qs=riB (zbk ws ps):=by unfold dvB;rw[h];rfl
 cases q:riB (zbk ws ps) with
 | false =>
  obtain ⟨a,b,c⟩:=zos p q;rw[q] at e;exact ⟨by rw[e,a];rfl,by unfold dvN;rw[e,b];rfl,by unfold dvD;rw[e,c];rfl⟩
 | true =>
  obtain ⟨a,b,c⟩:=yacs p q;rw[q] at e;exact ⟨by rw[e,a];rfl,by unfold dvN;rw[e,b];rfl,by unfold dvD;rw[e,c];rfl⟩
theorem ztf {w:World} {lo hi:Nat} {vI vD:Value} {xs:List Ino} {ds:List Den} {b:Nat} {cs:Array Value} {fr:Nat×Nat} (h1:Row w 149 11 lo hi vI xs.length (zgq xs)) (h2:Row w 143 3 lo hi vD ds.length (zcv ds)) (hb:w.heap[b]?=some (.cells cs 123 fr)) (v0 v1:Value):RowIm ((w.setCell ⟨b,0,none⟩ v0).setCell ⟨b,1,none⟩ v1) lo hi (.agg #[vI,vD]) xs ds:=by
 have T1:=zbp h1.1 hb zge;have T2:=zbp h2.1 hb zfo;exact ⟨_,_,rfl,⟨ownsRow_setCell_other (ownsRow_setCell_other h1.1 T1 _) T1 _,h1.2⟩,⟨ownsRow_setCell_other (ownsRow_setCell_other h2.1 T2 _) T2 _,h2.2⟩⟩
end Go.Proofs.YtbohndgbfbfldaaGreatDoor
