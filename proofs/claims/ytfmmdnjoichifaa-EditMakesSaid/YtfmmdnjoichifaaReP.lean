/- Contracts of package rec: Put, Read of one record. -/
import Derived.Test.YtfmmdnjoichifaaReB
import Derived.Test.YtfmmdnjoichifaaMoF
namespace Go.Proofs.Ytfmmdnjoichifaa
open Go.RowKit

/-- What reading a moment makes of the bytes that are left. -/
def readRec (s : Option (List UInt8)) : (Int × Int) × Int :=
  if (numM (numM s).2).2 = none then ((0, 0), 10) else if okRec (((numM s).1 : Int), ((numM (numM s).2).1 : Int)) = true then ((((numM s).1 : Int), ((numM (numM s).2).1 : Int)), 0) else ((0, 0), 30)
theorem okRec_iff (a b : Int) : okRec (a, b) = true ↔ 0 ≤ a ∧ a < 1048576 ∧ 0 ≤ b ∧ b < 1048576 := by unfold okRec; simp; omega
theorem recE_ok {m : Int × Int} (h : okRec m = true) : recE m = 0 := by unfold recE; rw [if_pos h]
theorem recE_no {m : Int × Int} (h : okRec m = false) : recE m = 30 := by unfold recE; rw [h]; rfl
theorem putL_small2 (n : Nat) (h : n < 1048576) : (putL n).length ≤ 9 := by
  rw [putL_length]
  have := nb_eight n (by omega)
  split
  · omega
  · split <;> omega
end Go.Proofs.Ytfmmdnjoichifaa
