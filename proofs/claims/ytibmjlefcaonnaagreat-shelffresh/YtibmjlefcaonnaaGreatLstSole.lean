import Derived.Test.YtibmjlefcaonnaaGreatLstCall
import Derived.Test.YtibmjlefcaonnaaGreatLstJob
namespace Go.Proofs.YtibmjlefcaonnaaGreat
open Go.RowKit
section
end
section
end
section
end
section
end
end Go.Proofs.YtibmjlefcaonnaaGreat
