import Derived.Test.YtgehjolndmgffaaGreatLstNext
namespace Go.Proofs.YtgehjolndmgffaaGreat
open Go.RowKit
section
end
section
end
section
end
end Go.Proofs.YtgehjolndmgffaaGreat
