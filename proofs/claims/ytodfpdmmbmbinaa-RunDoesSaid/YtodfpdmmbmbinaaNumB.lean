/- Contracts of num.Fix, num.Text, num.From. -/
import Derived.Test.YtodfpdmmbmbinaaNumA
namespace Go.Proofs.Ytodfpdmmbmbinaa
open Go.RowKit

theorem shr_iff (n size : Int) (h : 0 ≤ n) (hs : 1 ≤ size) : (n / 2 ^ (8 * size).toNat = 0) ↔ n.toNat < 256 ^ size.toNat := by
  obtain ⟨m, rfl⟩ := Int.eq_ofNat_of_zero_le h
  obtain ⟨k, rfl⟩ := Int.eq_ofNat_of_zero_le (show 0 ≤ size by omega)
  have e : (8 * (k : Int)).toNat = 8 * k := by omega
  have e2 : (256 : Nat) ^ k = 2 ^ (8 * k) := by rw [show (256 : Nat) = 2 ^ 8 from rfl, ← Nat.pow_mul]
  rw [e, Int.toNat_natCast, Int.toNat_natCast, e2, show ((2 : Int) ^ (8 * k)) = ((2 ^ (8 * k) : Nat) : Int) by simp, ← Int.natCast_ediv]
  rw [show ((m / 2 ^ (8 * k) : Nat) : Int) = 0 ↔ m / 2 ^ (8 * k) = 0 by omega]
  exact Nat.div_eq_zero_iff.trans ⟨fun h => h.resolve_left (by have := Nat.two_pow_pos (8 * k); omega), .inr⟩
def fixable (n size : Int) : Prop := 0 ≤ n ∧ 1 ≤ size ∧ size ≤ 8 ∧ n.toNat < 256 ^ size.toNat
def strL (s : ByteArray) : List UInt8 := s.data.toList
theorem strL_length (s : ByteArray) : (strL s).length = s.size := Array.length_toList
/-- A text's bytes. -/
def textL (s : List UInt8) : List UInt8 := putL s.length ++ s
theorem info_str : Try.prog.underlying 9 = some .string := Try.underlying9
end Go.Proofs.Ytodfpdmmbmbinaa
