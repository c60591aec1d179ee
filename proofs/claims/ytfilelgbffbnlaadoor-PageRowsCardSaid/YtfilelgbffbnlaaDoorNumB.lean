/- Contracts of num.Fix, num.Text, num.From. -/
import Derived.Test.YtfilelgbffbnlaaDoorNumA
namespace Go.Proofs.YtfilelgbffbnlaaDoor
open Go.RowKit

set_option maxHeartbeats 400000 in
theorem fix_neg (n size : Int) (w : World) (h : n < 0) : Calls Tryd.prog 18 #[.int .i64 n, .int .i64 size] w (ErrArg2 w) := by
  have h1 : decide (n < 0) = true := by simpa using h
  go_enter Tryd.func18, Tryd.ntmps18
  go_wp2
  go_ret2
  exact ⟨rfl, Below.refl _ _⟩
set_option maxHeartbeats 400000 in
theorem fix_low (n size : Int) (w : World) (h : 0 ≤ n) (hs : size < 1) : Calls Tryd.prog 18 #[.int .i64 n, .int .i64 size] w (ErrArg2 w) := by
  have h1 : decide (n < 0) = false := by simpa using h
  have h2 : decide (size < 1) = true := by simpa using hs
  go_enter Tryd.func18, Tryd.ntmps18
  go_wp2
  go_ret2
  exact ⟨rfl, Below.refl _ _⟩
set_option maxHeartbeats 400000 in
theorem fix_high (n size : Int) (w : World) (h : 0 ≤ n) (hs : 8 < size) : Calls Tryd.prog 18 #[.int .i64 n, .int .i64 size] w (ErrArg2 w) := by
  have h1 : decide (n < 0) = false := by simpa using h
  have h2 : decide (size < 1) = false := by simp; omega
  have h3 : decide (8 < size) = true := by simpa using hs
  go_enter Tryd.func18, Tryd.ntmps18
  go_wp2
  go_ret2
  exact ⟨rfl, Below.refl _ _⟩
theorem shr_iff (n size : Int) (h : 0 ≤ n) (hs : 1 ≤ size) : (n / 2 ^ (8 * size).toNat = 0) ↔ n.toNat < 256 ^ size.toNat := by
  obtain ⟨m, rfl⟩ := Int.eq_ofNat_of_zero_le h
  obtain ⟨k, rfl⟩ := Int.eq_ofNat_of_zero_le (show 0 ≤ size by omega)
  have e : (8 * (k : Int)).toNat = 8 * k := by omega
  have e2 : (256 : Nat) ^ k = 2 ^ (8 * k) := by rw [show (256 : Nat) = 2 ^ 8 from rfl, ← Nat.pow_mul]
  rw [e, Int.toNat_natCast, Int.toNat_natCast, e2, show ((2 : Int) ^ (8 * k)) = ((2 ^ (8 * k) : Nat) : Int) by simp, ← Int.natCast_ediv]
  rw [show ((m / 2 ^ (8 * k) : Nat) : Int) = 0 ↔ m / 2 ^ (8 * k) = 0 by omega]
  exact Nat.div_eq_zero_iff.trans ⟨fun h => h.resolve_left (by have := Nat.two_pow_pos (8 * k); omega), .inr⟩
set_option maxHeartbeats 400000 in
theorem fix_ok (n size : Int) (w : World) (h : 0 ≤ n) (hn : n ≤ 9223372036854775807) (hs : 1 ≤ size) (hs8 : size ≤ 8) (hlt : n.toNat < 256 ^ size.toNat) :
    Calls Tryd.prog 18 #[.int .i64 n, .int .i64 size] w (OwnOK w (be size.toNat n.toNat)) := by
  have h1 : decide (n < 0) = false := by simpa using h
  have h2 : decide (size < 1) = false := by simp; omega
  have h3 : decide (8 < size) = false := by simp; omega
  have h4 : (n / 2 ^ (8 * size).toNat != 0) = false := by simpa using (shr_iff n size h hs).2 hlt
  have HL := Lib.hid hlt
  clear hlt
  go_enter Tryd.func18, Tryd.ntmps18
  go_wp2_with fail
  refine (highFirst_i _ _ size.toNat n.toNat _ (by omega) (by omega) (by omega) (by omega) (by omega)).mono ?_; rintro e w1 ⟨rfl, hown, hb⟩
  go_wp2
  go_ret2
  exact ⟨_, rfl, by rw [be_length]; exact hown, hb⟩
set_option maxHeartbeats 400000 in
theorem fix_big (n size : Int) (w : World) (h : 0 ≤ n) (hn : n ≤ 9223372036854775807) (hs : 1 ≤ size) (hs8 : size ≤ 8) (hlt : ¬ n.toNat < 256 ^ size.toNat) :
    Calls Tryd.prog 18 #[.int .i64 n, .int .i64 size] w (ErrArg2 w) := by
  have h1 : decide (n < 0) = false := by simpa using h
  have h2 : decide (size < 1) = false := by simp; omega
  have h3 : decide (8 < size) = false := by simp; omega
  have h4 : (n / 2 ^ (8 * size).toNat != 0) = true := by simpa using fun e => hlt ((shr_iff n size h hs).1 e)
  have HL := Lib.hid hlt
  clear hlt
  go_enter Tryd.func18, Tryd.ntmps18
  go_wp2
  go_ret2
  exact ⟨rfl, Below.refl _ _⟩
def fixable (n size : Int) : Prop := 0 ≤ n ∧ 1 ≤ size ∧ size ≤ 8 ∧ n.toNat < 256 ^ size.toNat
theorem fix_yes (n size : Int) (w : World) (hn : n ≤ 9223372036854775807) (h : fixable n size) : Calls Tryd.prog 18 #[.int .i64 n, .int .i64 size] w (OwnOK w (be size.toNat n.toNat)) :=
  fix_ok n size w h.1 hn h.2.1 h.2.2.1 h.2.2.2
theorem fix_no (n size : Int) (w : World) (hn : n ≤ 9223372036854775807) (h : ¬ fixable n size) : Calls Tryd.prog 18 #[.int .i64 n, .int .i64 size] w (ErrArg2 w) := by
  by_cases h1 : n < 0
  · exact fix_neg n size w h1
  · by_cases h2 : size < 1
    · exact fix_low n size w (by omega) h2
    · by_cases h3 : 8 < size
      · exact fix_high n size w (by omega) h3
      · exact fix_big n size w (by omega) hn (by omega) (by omega) fun h4 => h ⟨by omega, by omega, by omega, h4⟩

def strL (s : ByteArray) : List UInt8 := s.data.toList
theorem strL_length (s : ByteArray) : (strL s).length = s.size := Array.length_toList
/-- A text's bytes. -/
def textL (s : List UInt8) : List UInt8 := putL s.length ++ s
theorem info_str : Tryd.prog.underlying 9 = some .string := Tryd.underlying9
end Go.Proofs.YtfilelgbffbnlaaDoor
