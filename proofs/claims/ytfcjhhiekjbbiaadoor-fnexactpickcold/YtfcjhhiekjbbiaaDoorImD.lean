/- What an inode's or an entry's updates are, by the model. -/
import Derived.Test.YtfcjhhiekjbbiaaDoorImB
import Derived.Test.YtfcjhhiekjbbiaaDoorZAF
import Derived.Test.YtfcjhhiekjbbiaaDoorNm
import Derived.Deep.RegionHeld3
import Derived.Laws.OwnMore
import Derived.Deep.RegionWith
namespace Go.Proofs.YtfcjhhiekjbbiaaDoor
open Go.RowKit

theorem Ino.all {x : Ino} {w' : World} {b : Nat} (h : ∀ j, w'.cell? ⟨b, j, none⟩ = x.cs[j]?) : w'.cell? ⟨b, 0, none⟩ = some (.int .i64 x.kind) ∧ w'.cell? ⟨b, 1, none⟩ = some (.int .i64 x.size) ∧ w'.cell? ⟨b, 2, none⟩ = some (.int .i64 x.links) ∧ w'.cell? ⟨b, 3, none⟩ = some (.int .i64 x.m0) ∧ w'.cell? ⟨b, 4, none⟩ = some (.int .i64 x.m1) ∧ w'.cell? ⟨b, 5, none⟩ = some (.int .i64 x.m2) ∧ w'.cell? ⟨b, 6, none⟩ = some (.int .i64 x.m3) ∧ w'.cell? ⟨b, 7, none⟩ = some (.int .i64 x.m4) ∧ w'.cell? ⟨b, 8, none⟩ = some (.int .i64 x.m5) ∧ w'.cell? ⟨b, 9, none⟩ = some (.int .i64 x.m6) ∧ w'.cell? ⟨b, 10, none⟩ = some (.int .i64 x.m7) := ⟨h 0, h 1, h 2, h 3, h 4, h 5, h 6, h 7, h 8, h 9, h 10⟩

end Go.Proofs.YtfcjhhiekjbbiaaDoor
