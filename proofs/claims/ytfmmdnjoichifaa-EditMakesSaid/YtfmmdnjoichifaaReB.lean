/- Contracts of package rec: clone, sort, contains at records. -/
import Derived.Test.YtfmmdnjoichifaaReA
import Derived.Test.YtfmmdnjoichifaaFrC
namespace Go.Proofs.Ytfmmdnjoichifaa
open Go.RowKit Go.Sort

theorem recE_zero (m : Int × Int) : (recE m == 0) = okRec m := by
  unfold recE
  cases okRec m <;> rfl
end Go.Proofs.Ytfmmdnjoichifaa
