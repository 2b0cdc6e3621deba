import Derived.Test.YtibmjlefcaonnaaGreatPlaceSee
import Derived.Test.YtibmjlefcaonnaaGreatWord
import Derived.Test.YtibmjlefcaonnaaGreatLstRec
namespace Go.Proofs.YtibmjlefcaonnaaGreat
open Go.RowKit
section
end
section
end
section
end
section
end
end Go.Proofs.YtibmjlefcaonnaaGreat
