/- Plain mathematics: the bytes of numbers stand in the order of the numbers, and none begins another one. -/
import Derived.Test.YtfmmdnjoichifaaNumWd
namespace Go.Proofs.Ytfmmdnjoichifaa

/-- Somewhere both have a byte, up to there they are one, and there the first has the lesser. -/
def LtAt (a b : List UInt8) : Prop := ∃ c x y a' b', a = c ++ x :: a' ∧ b = c ++ y :: b' ∧ x < y
theorem LtAt.less {a b : List UInt8} (h : LtAt a b) : Op.bytesLess a b = true := by
  obtain ⟨c, x, y, a', b', rfl, rfl, hxy⟩ := h
  induction c with
  | nil => simp [Op.bytesLess, hxy]
  | cons z c ih => simp [Op.bytesLess, ih]
theorem LtAt.not_less {a b : List UInt8} (h : LtAt a b) : Op.bytesLess b a = false := by
  obtain ⟨c, x, y, a', b', rfl, rfl, hxy⟩ := h
  induction c with
  | nil =>
    have h1 : ¬ y < x := fun h => absurd (UInt8.lt_trans hxy h) (UInt8.lt_irrefl _)
    have h2 : ¬ y = x := fun h => by subst h; exact UInt8.lt_irrefl _ hxy
    simp [Op.bytesLess, h1, h2]
  | cons z c ih => simp [Op.bytesLess, ih]
theorem less_irrefl : ∀ a : List UInt8, Op.bytesLess a a = false
  | [] => rfl
  | x :: a => by simp [Op.bytesLess, less_irrefl a]
theorem LtAt.take_ne {a b : List UInt8} (h : LtAt a b) : b.take a.length ≠ a := by
  obtain ⟨c, x, y, a', b', rfl, rfl, hxy⟩ := h
  intro e
  have e1 := congrArg (fun l => l[c.length]?) e
  simp at e1
  subst e1
  exact UInt8.lt_irrefl _ hxy
theorem LtAt.take_ne' {a b : List UInt8} (h : LtAt b a) : b.take a.length ≠ a := by
  obtain ⟨c, x, y, a', b', rfl, rfl, hxy⟩ := h
  intro e
  have e1 := congrArg (fun l => l[c.length]?) e
  simp at e1
  subst e1
  exact UInt8.lt_irrefl _ hxy
theorem LtAt.cons {a b : List UInt8} (x : UInt8) (h : LtAt a b) : LtAt (x :: a) (x :: b) := by
  obtain ⟨c, u, v, a', b', rfl, rfl, hxy⟩ := h
  exact ⟨x :: c, u, v, a', b', rfl, rfl, hxy⟩
theorem LtAt.append {a b : List UInt8} (x y : List UInt8) (h : LtAt a b) : LtAt (a ++ x) (b ++ y) := by
  obtain ⟨c, u, v, a', b', rfl, rfl, hxy⟩ := h
  exact ⟨c, u, v, a' ++ x, b' ++ y, by simp, by simp, hxy⟩
theorem be_succ (k n : Nat) : be (k + 1) n = be k (n / 256) ++ [UInt8.ofNat n] := by
  unfold be
  rw [List.range_succ, List.map_append]
  congr 1
  · refine List.map_congr_left fun i hi => ?_
    have hi' : i < k := by simpa using hi
    rw [Nat.div_div_eq_div_mul, show k + 1 - 1 - i = (k - 1 - i) + 1 by omega, Nat.pow_succ, Nat.mul_comm]
  · simp
theorem be_lt (k : Nat) : ∀ n m : Nat, n < m → m < 256 ^ k → LtAt (be k n) (be k m) := by
  induction k with
  | zero => intro n m h1 h2; simp at h2; omega
  | succ k ih =>
    intro n m h1 h2
    rw [be_succ, be_succ]
    by_cases h : n / 256 < m / 256
    · exact (ih _ _ h (by rw [Nat.pow_succ] at h2; omega)).append _ _
    · have e : n / 256 = m / 256 := by omega
      rw [e]
      refine ⟨be k (m / 256), _, _, [], [], rfl, rfl, ?_⟩
      rw [UInt8.lt_iff_toNat_lt]
      simp
      omega
theorem ofNat_lt {a b : Nat} (h : a < b) (hb : b < 256) : UInt8.ofNat a < UInt8.ofNat b := by
  rw [UInt8.lt_iff_toNat_lt]
  simp
  omega
theorem nb_mono (n m : Nat) (h : n ≤ m) (hm : m < 2 ^ 64) : nb n ≤ nb m := by
  rcases Nat.lt_or_ge (nb m) (nb n) with h1 | h1
  · have h2 := lt_nb m hm
    have h3 := nb_le (nb m) n (by omega) (nb_eight m hm)
    omega
  · exact h1
theorem putL_lt (n m : Nat) (h : n < m) (hm : m < 2 ^ 64) : LtAt (putL n) (putL m) := by
  have h8 := nb_eight m hm
  have h8n := nb_eight n (by omega)
  have mono := nb_mono n m (by omega) hm
  have hl := lt_nb m hm
  unfold putL
  by_cases h1 : n < 240
  · rw [if_pos h1]
    by_cases h2 : m < 240
    · rw [if_pos h2]
      exact ⟨[], _, _, [], [], rfl, rfl, ofNat_lt h (by omega)⟩
    · rw [if_neg h2]
      by_cases h3 : m < 2288
      · rw [if_pos h3]
        exact ⟨[], _, _, [], _, rfl, rfl, ofNat_lt (by omega) (by omega)⟩
      · rw [if_neg h3]
        exact ⟨[], _, _, [], _, rfl, rfl, ofNat_lt (by omega) (by omega)⟩
  · rw [if_neg h1, if_neg (show ¬ m < 240 by omega)]
    by_cases h2 : n < 2288
    · rw [if_pos h2]
      by_cases h3 : m < 2288
      · rw [if_pos h3]
        by_cases h4 : (n - 240) / 256 < (m - 240) / 256
        · exact ⟨[], _, _, _, _, rfl, rfl, ofNat_lt (by omega) (by omega)⟩
        · have e : (n - 240) / 256 = (m - 240) / 256 := by omega
          rw [e]
          refine LtAt.cons _ ⟨[], _, _, [], [], rfl, rfl, ?_⟩
          rw [UInt8.lt_iff_toNat_lt]
          simp
          omega
      · rw [if_neg h3]
        have := nb_two m (by omega) hm
        exact ⟨[], _, _, _, _, rfl, rfl, ofNat_lt (by omega) (by omega)⟩
    · rw [if_neg h2, if_neg (show ¬ m < 2288 by omega)]
      by_cases h4 : nb n < nb m
      · exact ⟨[], _, _, _, _, rfl, rfl, ofNat_lt (by omega) (by omega)⟩
      · have e : nb n = nb m := by omega
        rw [e]
        refine LtAt.cons _ (be_lt _ _ _ h ?_)
        rw [show (256 : Nat) = 2 ^ 8 from rfl, ← Nat.pow_mul]
        exact hl

end Go.Proofs.Ytfmmdnjoichifaa
