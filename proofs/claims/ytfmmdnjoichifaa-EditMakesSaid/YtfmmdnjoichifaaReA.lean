/- Contracts of package rec: two records, and one. -/
import Derived.Test.YtfmmdnjoichifaaMoB
import Derived.Test.YtfmmdnjoichifaaMoL
namespace Go.Proofs.Ytfmmdnjoichifaa
open Go.RowKit

def okRec (m : Int × Int) : Bool := decide (0 ≤ m.1) && decide (m.1 < 1048576) && decide (0 ≤ m.2) && decide (m.2 < 1048576)
def recE (m : Int × Int) : Int := if okRec m then 0 else 30
end Go.Proofs.Ytfmmdnjoichifaa
