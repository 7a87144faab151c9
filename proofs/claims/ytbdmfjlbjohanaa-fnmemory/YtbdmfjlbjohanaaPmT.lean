/- The helpers of the laws over memories: held against one another, marked, looked at, counted. -/
import Derived.Test.YtbdmfjlbjohanaaPm
namespace Go.Proofs.Ytbdmfjlbjohanaa
open Go.RowKit

end Go.Proofs.Ytbdmfjlbjohanaa
