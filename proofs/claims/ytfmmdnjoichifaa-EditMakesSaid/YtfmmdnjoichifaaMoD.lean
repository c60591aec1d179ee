/- Contracts of package moment: a way, and then another one. -/
import Derived.Test.YtfmmdnjoichifaaMoC
namespace Go.Proofs.Ytfmmdnjoichifaa
open Go.RowKit

def thenM (s : Bool) (a : Int) (t : Bool) (b : Int) : Bool × (Bool × Int) :=
  if wayM a = false then (false, (false, 0)) else if wayM b = false then (false, (false, 0)) else if t = true then (true, (true, b)) else if wayM (a + b) = false then (false, (false, 0)) else (true, (s, a + b))
def argE (ok : Bool) : Int := if ok then 0 else 1
end Go.Proofs.Ytfmmdnjoichifaa
