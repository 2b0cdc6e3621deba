import Derived.Test.YtibmjlefcaonnaaGreatLstSole
import Derived.Test.YtibmjlefcaonnaaGreatLstKept
namespace Go.Proofs.YtibmjlefcaonnaaGreat
open Go.RowKit
section
end
section
end
section
end
end Go.Proofs.YtibmjlefcaonnaaGreat
