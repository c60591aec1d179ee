/- Contracts of num's functions that only compute. -/
import Derived.Test.YtodfpdmmbmbinaaNumWd
import Derived.Test.YtodfpdmmbmbinaaShelf
namespace Go.Proofs.Ytodfpdmmbmbinaa
open Go.RowKit

def nbi (n : Int) : Int := (nb n.toNat : Int)
theorem info_u8 : (Try.prog.info? 5).map (fun i => (i.zero, i.size, i.bytes)) = some (some (.int .u8 0), 1, 1) := by kernel_rfl

/-- The cells of highFirst's row behind k rounds. -/
def hfCell (n size k j : Nat) : Value := if size - k ≤ j then byteV (n / 256 ^ (size - 1 - j)) else .int .u8 0
theorem hf_step (n size k j : Nat) (hk : k < size) (hj : j < size) : hfCell n size (k + 1) j = if j = size - 1 - k then byteV (n / 256 ^ k) else hfCell n size k j := by
  unfold hfCell
  by_cases e : j = size - 1 - k
  · subst e
    rw [if_pos rfl, if_pos (by omega)]
    congr 3
    omega
  · rw [if_neg e]
    by_cases h : size - k ≤ j
    · rw [if_pos h, if_pos (by omega)]
    · rw [if_neg h, if_neg (by omega)]
theorem hf_be (n size : Nat) : (List.range size).map (hfCell n size size) = Byt (be size n) := by
  rw [Byt_be]
  refine List.map_congr_left fun i hi => ?_
  unfold hfCell
  rw [if_pos (by omega)]
/-- What a contract says of two results, the first an owned row of bytes. -/
def OwnOK (w : World) (l : List UInt8) (e : Ending) (w' : World) : Prop :=
  ∃ v, e = .returned (.tuple #[v, .int .i64 0]) ∧ w'.ownsRow w.heap.size 5 1 v l.length (Byt l) ∧ Below w.heap.size w w'
/-- .. of one result. -/
def Own1 (w : World) (l : List UInt8) (e : Ending) (w' : World) : Prop :=
  ∃ v, e = .returned v ∧ w'.ownsRow w.heap.size 5 1 v l.length (Byt l) ∧ Below w.heap.size w w'
def ErrArg2 (w : World) (e : Ending) (w' : World) : Prop := e = .returned (.tuple #[.slice none 0 0, .int .i64 1]) ∧ Below w.heap.size w w'

end Go.Proofs.Ytodfpdmmbmbinaa
