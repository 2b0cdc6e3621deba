import Derived.Test.YtgehjolndmgffaaGreatLstTold
import Derived.Test.YtgehjolndmgffaaGreatWrkLeaf
import Derived.Test.YtgehjolndmgffaaGreatLstRec
import Derived.Test.YtgehjolndmgffaaGreatFrmList
namespace Go.Proofs.YtgehjolndmgffaaGreat
open Go.RowKit
section
end
section
end
section
end
section
end
section
end
section
end
section
section
variable {t n k m σ K:Nat} {q:Q} {hd:Nat} {F:List Nat} {cg p r:Int} {S:Lr} {H V St:Int}
end
end
section
end
section
end
section
end
section
end
section
end
end Go.Proofs.YtgehjolndmgffaaGreat
