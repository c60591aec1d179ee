/- Contracts of num.Reader's Fixed, Num, Bytes, Text, Left, Done. -/
import Derived.Test.YtodfpdmmbmbinaaNumC
namespace Go.Proofs.Ytodfpdmmbmbinaa
open Go.RowKit

def fixedM (size : Int) (s : Option (List UInt8)) : Nat × Option (List UInt8) :=
  if 1 ≤ size ∧ size ≤ 8 then
    if beV (takeM size s).1 > 9223372036854775807 then (0, none) else (beV (takeM size s).1, (takeM size s).2)
  else (0, none)
theorem takeM_len (n : Int) (s : Option (List UInt8)) : (takeM n s).1.length = 0 ∨ ((takeM n s).1.length : Int) = n := by
  rcases s with _ | l
  · exact .inl rfl
  · unfold takeM
    by_cases hn : 0 ≤ n ∧ n ≤ l.length
    · right; simp only [if_pos hn, List.length_take]; omega
    · left; simp only [if_neg hn]; rfl

theorem or_byte (m : Nat) (b : UInt8) (hm : m < 72057594037927936) : bits .or .u64 ((m : Int) * 256) (b.toNat : Int) = ((m * 256 + b.toNat : Nat) : Int) := by
  have hb := b.toNat_lt
  rw [show ((m : Int) * 256) = ((m * 256 : Nat) : Int) by simp, u64_or_nat _ _ (by omega) (by omega)]
  congr 1
  have := Nat.two_pow_add_eq_or_of_lt (i := 8) (a := m) (b := b.toNat) hb
  rw [Nat.mul_comm m 256]
  exact this.symm
theorem fixedM_le (size : Int) (s : Option (List UInt8)) : (fixedM size s).1 ≤ 9223372036854775807 := by
  unfold fixedM
  split
  · split
    · exact Nat.zero_le _
    · simp only; omega
  · exact Nat.zero_le _
theorem fixedM_one (s : Option (List UInt8)) : (fixedM 1 s).1 < 256 := by
  have h := takeM_len 1 s
  have hv := beV_lt (takeM 1 s).1
  have h2 : (takeM 1 s).1.length ≤ 1 := by omega
  have h3 : 256 ^ (takeM 1 s).1.length ≤ 256 ^ 1 := Nat.pow_le_pow_right (by omega) h2
  unfold fixedM
  split
  · split
    · exact Nat.zero_lt_succ _
    · simp only; omega
  · exact Nat.zero_lt_succ _

/-- A number that stands next. -/
def numM (s : Option (List UInt8)) : Nat × Option (List UInt8) :=
  let f := fixedM 1 s
  if f.2 = none then (0, none)
  else if f.1 < 240 then f
  else if f.1 < 248 then
    let x := fixedM 1 f.2
    if x.2 = none then (0, none) else (240 + (f.1 - 240) * 256 + x.1, x.2)
  else if f.1 ≤ 254 then
    let x := fixedM ((f.1 : Int) - 246) f.2
    if x.2 = none ∨ (putL x.1).length ≠ f.1 - 245 then (0, none) else x
  else (0, none)

end Go.Proofs.Ytodfpdmmbmbinaa
