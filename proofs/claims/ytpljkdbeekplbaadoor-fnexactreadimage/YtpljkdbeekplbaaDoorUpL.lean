/- The helpers of the laws over slices of updates. -/
import Derived.Test.YtpljkdbeekplbaaDoorSecT
namespace Go.Proofs.YtpljkdbeekplbaaDoor
open Go.RowKit

end Go.Proofs.YtpljkdbeekplbaaDoor
