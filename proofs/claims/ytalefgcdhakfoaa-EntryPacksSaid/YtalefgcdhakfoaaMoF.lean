/- Contracts of package moment: the document's Read. -/
import Derived.Test.YtalefgcdhakfoaaMoE
namespace Go.Proofs.Ytalefgcdhakfoaa
open Go.RowKit Go.Sort

end Go.Proofs.Ytalefgcdhakfoaa
