import Derived.Test.YtgehjolndmgffaaGreatLstSole
import Derived.Test.YtgehjolndmgffaaGreatLstKept
namespace Go.Proofs.YtgehjolndmgffaaGreat
open Go.RowKit
section
end
section
end
section
end
end Go.Proofs.YtgehjolndmgffaaGreat
