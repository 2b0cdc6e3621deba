/- Things that are wanted (api.Want), as they are handed in; what the statements make of their kinds and values. -/
import Derived.Test.YtcdmokbamakomaaGreatAccAwake
import Derived.Test.YtcdmokbamakomaaGreatArgs
namespace Go.Proofs.YtcdmokbamakomaaGreat
open Go.RowKit

end Go.Proofs.YtcdmokbamakomaaGreat
