/- Plain mathematics: what was put is read. -/
import Derived.Test.YtfmmdnjoichifaaNumE
import Derived.Test.YtfmmdnjoichifaaNumOrd
namespace Go.Proofs.Ytfmmdnjoichifaa

theorem beV_be (k : Nat) : ∀ n, n < 256 ^ k → beV (be k n) = n := by
  induction k with
  | zero => intro n h; simp at h; subst h; rfl
  | succ k ih =>
    intro n h
    rw [be_succ, beV_snoc, ih (n / 256) (by rw [Nat.pow_succ] at h; omega)]
    simp
    omega
theorem takeM_app (a r : List UInt8) (k : Int) (hk : k = (a.length : Int)) : takeM k (some (a ++ r)) = (a, some r) := by
  subst hk
  have h : (0 : Int) ≤ (a.length : Int) ∧ (a.length : Int) ≤ ((a ++ r).length : Int) := ⟨by omega, by simp; omega⟩
  simp only [takeM, if_pos h]
  simp
theorem fixedM_app (a r : List UInt8) (k : Int) (hk : k = (a.length : Int)) (h1 : 1 ≤ a.length) (h8 : a.length ≤ 8) (hv : beV a ≤ 9223372036854775807) : fixedM k (some (a ++ r)) = (beV a, some r) := by
  unfold fixedM
  rw [if_pos ⟨by omega, by omega⟩, takeM_app a r k hk]
  simp only
  rw [if_neg (by omega)]
theorem fixedM_byte (b : UInt8) (r : List UInt8) : fixedM 1 (some (b :: r)) = (b.toNat, some r) := by
  have h := fixedM_app [b] r 1 rfl (by simp) (by simp) (by have := b.toNat_lt; simp [beV]; omega)
  simpa [beV] using h
theorem numM_put (n : Nat) (hn : n ≤ 9223372036854775807) (r : List UInt8) : numM (some (putL n ++ r)) = (n, some r) := by
  unfold putL
  by_cases h1 : n < 240
  · rw [if_pos h1]
    have e : (UInt8.ofNat n).toNat = n := by simp; omega
    simp only [List.cons_append, List.nil_append]
    unfold numM
    simp only [fixedM_byte, e]
    rw [if_neg (by simp), if_pos h1]
  · rw [if_neg h1]
    by_cases h2 : n < 2288
    · rw [if_pos h2]
      have e : (UInt8.ofNat (240 + (n - 240) / 256)).toNat = 240 + (n - 240) / 256 := by simp; omega
      have e2 : (UInt8.ofNat (n - 240)).toNat = (n - 240) % 256 := by simp
      simp only [List.cons_append, List.nil_append]
      unfold numM
      simp only [fixedM_byte, e, e2]
      rw [if_neg (by simp), if_neg (by omega), if_pos (by omega), if_neg (by simp)]
      simp only [Prod.mk.injEq, and_true]
      omega
    · rw [if_neg h2]
      have h3 := nb_two n (by omega) (by omega)
      have h4 := nb_eight n (by omega)
      have e : (UInt8.ofNat (246 + nb n)).toNat = 246 + nb n := by simp; omega
      have hv : beV (be (nb n) n) = n := beV_be _ _ (by rw [show (256 : Nat) = 2 ^ 8 from rfl, ← Nat.pow_mul]; exact lt_nb n (by omega))
      have hf : fixedM (((246 + nb n : Nat) : Int) - 246) (some (be (nb n) n ++ r)) = (n, some r) := by
        rw [fixedM_app (be (nb n) n) r _ (by rw [be_length]; omega) (by rw [be_length]; omega) (by rw [be_length]; omega) (by rw [hv]; exact hn), hv]
      have hl : (putL n).length = 1 + nb n := by rw [putL_length, if_neg h1, if_neg h2]
      simp only [List.cons_append]
      unfold numM
      simp only [fixedM_byte, e, hf]
      rw [if_neg (by simp), if_neg (by omega), if_neg (by omega), if_pos (by omega), if_neg (by rw [hl]; simp; omega)]
theorem textM_text (s : List UInt8) (most : Int) (h : (s.length : Int) ≤ most) (hs : s.length ≤ 9223372036854775807) : textM most (some (textL s)) = (s, some []) := by
  unfold textM textL
  rw [numM_put _ hs]
  simp only
  rw [if_neg (by omega)]
  have := takeM_app s [] (s.length : Int) rfl
  simpa using this
/-- What of the list is put. -/
def putCat (l : List Int) : List UInt8 := l.flatMap fun n => if n < 0 then [] else putL n.toNat
theorem putL_le (n : Nat) (hn : n ≤ 9223372036854775807) : (putL n).length ≤ 9 := by
  have := nb_eight n (by omega)
  rw [putL_length]
  split
  · omega
  · split <;> omega
theorem putCat_le (l : List Int) (h : ∀ z ∈ l, z ≤ 9223372036854775807) : (putCat l).length ≤ 9 * l.length := by
  induction l with
  | nil => exact Nat.le_refl _
  | cons a l ih =>
    have h1 := ih fun z hz => h z (List.mem_cons_of_mem _ hz)
    have h2 := h a (List.mem_cons_self ..)
    have h3 : (if a < 0 then [] else putL a.toNat).length ≤ 9 := by
      split
      · simp
      · exact putL_le _ (by omega)
    unfold putCat at *
    rw [List.flatMap_cons, List.length_append, List.length_cons]
    omega
theorem putCat_snoc (l : List Int) (k : Nat) (h : k < l.length) : putCat (l.take (k + 1)) = putCat (l.take k) ++ (if l[k] < 0 then [] else putL l[k].toNat) := by
  unfold putCat
  rw [List.take_succ_eq_append_getElem h, List.flatMap_append]
  simp only [List.flatMap_cons, List.flatMap_nil, List.append_nil]
theorem putCat_drop (l : List Int) (k : Nat) (h : k < l.length) : putCat (l.drop k) = (if l[k] < 0 then [] else putL l[k].toNat) ++ putCat (l.drop (k + 1)) := by
  unfold putCat
  rw [List.drop_eq_getElem_cons h, List.flatMap_cons]
end Go.Proofs.Ytfmmdnjoichifaa
