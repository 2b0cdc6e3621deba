import Derived.Test.YtibmjlefcaonnaaGreatAccTurn
import Derived.Test.YtibmjlefcaonnaaGreatAccTown
import Derived.Test.YtibmjlefcaonnaaGreatLstChain
namespace Go.Proofs.YtibmjlefcaonnaaGreat
open Go.RowKit
section
end
section
end
section
end
section
end
section
end
section
end
section
end
section
end
section
end
section
end
section
end
section
end
section
end
end Go.Proofs.YtibmjlefcaonnaaGreat
