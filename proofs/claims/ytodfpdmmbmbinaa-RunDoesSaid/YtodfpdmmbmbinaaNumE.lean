/- Contracts of num.Reader's Bytes, Text, Left, Done. -/
import Derived.Test.YtodfpdmmbmbinaaNumD
namespace Go.Proofs.Ytodfpdmmbmbinaa
open Go.RowKit

theorem takeM_le (n : Int) (s : Option (List UInt8)) (L : Nat) (hl : ∀ l, s = some l → l.length ≤ L) : (takeM n s).1.length ≤ L := by
  rcases s with _ | l
  · exact Nat.zero_le _
  · have := hl l rfl
    unfold takeM
    by_cases hn : 0 ≤ n ∧ n ≤ l.length
    · simp only [if_pos hn, List.length_take]; omega
    · simp only [if_neg hn]; exact Nat.zero_le _
def textM (most : Int) (s : Option (List UInt8)) : List UInt8 × Option (List UInt8) :=
  let n := numM s
  if (n.1 : Int) > most then ([], none) else takeM (n.1 : Int) n.2
def leftM : Option (List UInt8) → Nat
  | none => 0
  | some l => l.length
def doneM : Option (List UInt8) → Int
  | none => 10
  | some l => if l = [] then 0 else 10
end Go.Proofs.Ytodfpdmmbmbinaa
