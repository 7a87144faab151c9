/- The helpers of the laws over devices: held against one another, marked, looked at, counted. -/
import Derived.Test.YtbdmfjlbjohanaaDoorBlk
namespace Go.Proofs.YtbdmfjlbjohanaaDoor
open Go.RowKit

end Go.Proofs.YtbdmfjlbjohanaaDoor
