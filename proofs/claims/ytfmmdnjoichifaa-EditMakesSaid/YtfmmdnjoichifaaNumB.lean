/- Contracts of num.Fix, num.Text, num.From. -/
import Derived.Test.YtfmmdnjoichifaaNumA
namespace Go.Proofs.Ytfmmdnjoichifaa
open Go.RowKit

theorem shr_iff (n size : Int) (h : 0 ≤ n) (hs : 1 ≤ size) : (n / 2 ^ (8 * size).toNat = 0) ↔ n.toNat < 256 ^ size.toNat := by
  obtain ⟨m, rfl⟩ := Int.eq_ofNat_of_zero_le h
  obtain ⟨k, rfl⟩ := Int.eq_ofNat_of_zero_le (show 0 ≤ size by omega)
  have e : (8 * (k : Int)).toNat = 8 * k := by omega
  have e2 : (256 : Nat) ^ k = 2 ^ (8 * k) := by rw [show (256 : Nat) = 2 ^ 8 from rfl, ← Nat.pow_mul]
  rw [e, Int.toNat_natCast, Int.toNat_natCast, e2, show ((2 : Int) ^ (8 * k)) = ((2 ^ (8 * k) : Nat) : Int) by simp, ← Int.natCast_ediv]
  rw [show ((m / 2 ^ (8 * k) : Nat) : Int) = 0 ↔ m / 2 ^ (8 * k) = 0 by omega]
  exact Nat.div_eq_zero_iff.trans ⟨fun h => h.resolve_left (by have := Nat.two_pow_pos (8 * k); omega), .inr⟩
def fixable (n size : Int) : Prop := 0 ≤ n ∧ 1 ≤ size ∧ size ≤ 8 ∧ n.toNat < 256 ^ size.toNat
def strL (s : ByteArray) : List UInt8 := s.data.toList
theorem strL_length (s : ByteArray) : (strL s).length = s.size := Array.length_toList
/-- A text's bytes. -/
def textL (s : List UInt8) : List UInt8 := putL s.length ++ s
theorem info_str : Try.prog.underlying 9 = some .string := Try.underlying9
set_option maxHeartbeats 400000 in
theorem text_any (s : ByteArray) (w : World) (hs : s.size ≤ 140737488351232) : Calls Try.prog 69 #[.string s] w (Own1 w (textL (strL s))) := by
  obtain ⟨i0, hi0, hz0, hz1, hz2⟩ := info_parts info_u8
  have hp := putL_length s.size
  have hp2 : (putL s.size).length ≤ 9 := by
    have := nb_eight s.size (by omega)
    rw [hp]; split
    · omega
    · split <;> omega
  have HP := Lib.hid hp
  clear hp
  have hput := fun W => put_ok (s.size : Int) W (by omega) (by omega)
  rw [Int.toNat_natCast] at hput
  have HPUT := Lib.hid hput
  clear hput
  go_enter Try.func69, Try.ntmps69
  go_wp2_with fail
  refine (HPUT.out _).mono ?_; rintro e w1 ⟨v, rfl, hown, hb⟩
  have HO := Lib.hid hown
  clear hown
  have hz := hb.size
  go_wp2_with (at_builtin; refine Lib.wpList_append_own_string w1 rfl (.tmp 11) (.tmp 12) _ _ rfl w.heap.size 5 i0 Try.underlying30 Try.underlying9 hi0 hz0 hz1 hz2 v _ _ rfl HO.out s rfl (by unfold maxLen; omega) (by omega) hz ?_; intro v2 w2 hown2 hg2 hat2)
  go_ret
  refine ⟨v2, rfl, ?_, hb.grown hg2 hz fun k hk => (HO.out.lt k hk).1⟩
  have e : Lib.strCells s = Byt (strL s) := rfl
  rw [textL, strL_length, Byt_append, List.length_append, strL_length, ← e]
  exact hown2

end Go.Proofs.Ytfmmdnjoichifaa
