/- The law's own words: what must come of every program. -/
import Derived.Test.YtfmmdnjoichifaaNumE
namespace Go.Proofs.Ytfmmdnjoichifaa
open Go.RowKit

theorem putL_2288 : putL 2288 = [248, 8, 240] := by decide
theorem putL_240 : putL 240 = [240, 0] := by decide
theorem be_258 : be 2 258 = [1, 2] := by decide
theorem textL_ab : textL [97, 98] = [2, 97, 98] := by decide
theorem numM_lives : numM (some [248, 8, 240, 2, 97, 98]) = (2288, some [2, 97, 98]) := by decide
theorem textM_lives : textM 2 (some [2, 97, 98]) = ([97, 98], some []) := by decide

end Go.Proofs.Ytfmmdnjoichifaa
