/- Contracts of package moment: the document's Read. -/
import Derived.Test.YtfmmdnjoichifaaMoE
namespace Go.Proofs.Ytfmmdnjoichifaa
open Go.RowKit Go.Sort

end Go.Proofs.Ytfmmdnjoichifaa
