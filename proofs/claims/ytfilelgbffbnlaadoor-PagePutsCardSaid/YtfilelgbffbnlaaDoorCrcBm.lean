/- The mathematics of bursts: bytes as one number, bit by bit. -/
import Derived.Test.YtfilelgbffbnlaaDoorPgC
namespace Go.Proofs.YtfilelgbffbnlaaDoor
open Go.RowKit

/-- Bytes as one number, the least ones first. -/
def leV : List UInt8 → Nat
  | [] => 0
  | b :: l => b.toNat ^^^ 256 * leV l
theorem leV_bit (l : List UInt8) : ∀ j, (leV l).testBit j = (l.getD (j / 8) 0).toNat.testBit (j % 8) := by
  induction l with
  | nil => intro j; simp [leV]
  | cons b l ih =>
    intro j
    unfold leV
    rw [Nat.testBit_xor, show (256 : Nat) = 2 ^ 8 from rfl, Nat.testBit_two_pow_mul]
    by_cases h : j < 8
    · rw [show j / 8 = 0 by omega, show j % 8 = j by omega]
      have : ¬ 8 ≤ j := by omega
      simp [this]
    · have h8 : 8 ≤ j := by omega
      have hb : b.toNat.testBit j = false := Nat.testBit_lt_two_pow (Nat.lt_of_lt_of_le b.toNat_lt (Nat.pow_le_pow_right (by decide) h8))
      rw [hb, ih (j - 8), show j / 8 = (j - 8) / 8 + 1 by omega, List.getD_cons_succ, show (j - 8) % 8 = j % 8 by omega]
      simp [h8]
theorem bitK_add (m n a : Nat) : bitK (m + n) a = bitK m (bitK n a) := by
  induction m with
  | zero => rw [Nat.zero_add]; rfl
  | succ m ih => rw [Nat.succ_add]; show bitL (bitK (m + n) a) = bitL (bitK m (bitK n a)); rw [ih]
theorem bitK_xor (k a b : Nat) : bitK k (a ^^^ b) = bitK k a ^^^ bitK k b := by
  induction k with
  | zero => rfl
  | succ k ih => show bitL (bitK k (a ^^^ b)) = bitL (bitK k a) ^^^ bitL (bitK k b); rw [ih, bitL_xor]
theorem bitL_two (n : Nat) : bitL (2 * n) = n := by unfold bitL; rw [if_neg (by omega)]; omega
theorem bitK_high (k n : Nat) : bitK k (n * 2 ^ k) = n := by
  induction k generalizing n with
  | zero => show n * 1 = n; omega
  | succ k ih =>
    show bitL (bitK k (n * 2 ^ (k + 1))) = n
    rw [Nat.pow_succ, show n * (2 ^ k * 2) = 2 * n * 2 ^ k by rw [Nat.mul_comm (2 ^ k), ← Nat.mul_assoc, Nat.mul_comm n 2], ih, bitL_two]
theorem regM_bits (l : List UInt8) : ∀ r, regM r l = bitK (8 * l.length) (r ^^^ leV l) := by
  induction l with
  | nil => intro r; show r = r ^^^ 0; rw [Nat.xor_zero]
  | cons b l ih =>
    intro r
    show regM (stepM r b.toNat) l = bitK (8 * (l.length + 1)) (r ^^^ (b.toNat ^^^ 256 * leV l))
    have e : bitK 8 (256 * leV l) = leV l := by rw [Nat.mul_comm]; exact bitK_high 8 (leV l)
    have key : bitK 8 ((r ^^^ b.toNat) ^^^ 256 * leV l) = bitK 8 (r ^^^ b.toNat) ^^^ leV l := by rw [bitK_xor, e]
    rw [ih, ← bit8, Nat.mul_succ, bitK_add, ← Nat.xor_assoc, key]
theorem bitL_pos {n : Nat} (h : n < 4294967296) (hp : n ≠ 0) : bitL n ≠ 0 := by
  intro h0
  unfold bitL at h0
  split at h0
  · have h1 := xor_twice 3988292384 (n / 2)
    rw [Nat.xor_comm 3988292384 (n / 2), h0, Nat.xor_zero] at h1
    omega
  · omega
theorem bitK_pos (k : Nat) {n : Nat} (h : n < 4294967296) (hp : n ≠ 0) : bitK k n ≠ 0 := by
  induction k with
  | zero => exact hp
  | succ k ih => exact bitL_pos (bitK_lt h) ih
theorem le4_val (x : Nat) (h : x < 4294967296) : leV (le4 x) = x := by
  refine Nat.eq_of_testBit_eq fun j => ?_
  rw [leV_bit]
  unfold le4
  have key : ∀ s i, (UInt8.ofNat (x / 2 ^ (8 * s))).toNat.testBit i = (decide (i < 8) && x.testBit (i + 8 * s)) := by
    intro s i
    rw [UInt8.toNat_ofNat', Nat.testBit_mod_two_pow, Nat.testBit_div_two_pow]
  by_cases h32 : j < 32
  · have hm : j % 8 < 8 := Nat.mod_lt _ (by decide)
    have hc : j / 8 = 0 ∨ j / 8 = 1 ∨ j / 8 = 2 ∨ j / 8 = 3 := by omega
    rcases hc with e | e | e | e
    · have := key 0 (j % 8)
      rw [show j % 8 + 8 * 0 = j by omega] at this
      rw [e]; simpa [hm] using this
    · have := key 1 (j % 8)
      rw [show j % 8 + 8 * 1 = j by omega] at this
      rw [e]; simpa [hm] using this
    · have := key 2 (j % 8)
      rw [show j % 8 + 8 * 2 = j by omega] at this
      rw [e]; simpa [hm] using this
    · have := key 3 (j % 8)
      rw [show j % 8 + 8 * 3 = j by omega] at this
      rw [e]; simpa [hm] using this
  · have hx : x.testBit j = false := Nat.testBit_lt_two_pow (Nat.lt_of_lt_of_le (show x < 2 ^ 32 from h) (Nat.pow_le_pow_right (by decide) (by omega)))
    rw [hx]
    obtain ⟨q, hq⟩ : ∃ q, j / 8 = q + 4 := ⟨j / 8 - 4, by omega⟩
    rw [hq]
    simp
/-- The register behind sealed bytes. -/
theorem sealed_reg (f : Nat) (hf : f = notM 0) (b : List UInt8) : regM f (sealM b) = bitK 32 f := by
  have hx : moreM 0 b = notM (regM f b) := by unfold moreM; rw [← hf]
  have hlt : moreM 0 b < 4294967296 := moreM_lt b (by decide)
  unfold sealM
  rw [regM_append, regM_bits (le4 (moreM 0 b)), le4_val _ hlt, hx]
  have e : regM f b ^^^ notM (regM f b) = f := by
    have h := notM_xor (regM f b) 0
    rw [Nat.xor_zero, ← hf] at h
    rw [h, xor_twice]
  rw [e]
  rfl
theorem burst (s t : List UInt8) (at_ turn : Nat) (hl : t.length = s.length) (hat : at_ + 32 ≤ 8 * s.length) (ht : turn < 4294967296) (hp : turn ≠ 0) (hv : leV t = leV s ^^^ turn * 2 ^ at_)
    (hs : ∃ b, s = sealM b) (h2 : ∃ b, t = sealM b) : False := by
  obtain ⟨f, hf⟩ : ∃ f, f = notM 0 := ⟨_, rfl⟩
  obtain ⟨b1, hb1⟩ := hs
  obtain ⟨b2, hb2⟩ := h2
  have e1 := sealed_reg f hf b1
  have e2 := sealed_reg f hf b2
  rw [← hb1, regM_bits] at e1
  rw [← hb2, regM_bits, hl, hv, ← Nat.xor_assoc, bitK_xor, e1] at e2
  have e3 := xor_twice (bitK 32 f) (bitK (8 * s.length) (turn * 2 ^ at_))
  rw [e2, Nat.xor_self, show 8 * s.length = (8 * s.length - at_) + at_ by omega, bitK_add, bitK_high] at e3
  exact bitK_pos _ ht hp e3.symm
/-- One bit is turned. -/
theorem leV_flip (l : List UInt8) (p : Nat) (hp : p / 8 < l.length) (v : UInt8) (hv : v.toNat = (l.getD (p / 8) 0).toNat ^^^ 2 ^ (p % 8)) : leV (l.set (p / 8) v) = leV l ^^^ 2 ^ p := by
  refine Nat.eq_of_testBit_eq fun j => ?_
  rw [Nat.testBit_xor, leV_bit, leV_bit, Nat.testBit_two_pow]
  by_cases h : p / 8 = j / 8
  · rw [← h, show (l.set (p / 8) v).getD (p / 8) 0 = v by simp [List.getD_eq_getElem?_getD, hp], hv, Nat.testBit_xor, Nat.testBit_two_pow]
    congr 1
    by_cases e : p = j
    · subst e; simp
    · have : ¬ p % 8 = j % 8 := by omega
      simp [e, this]
  · rw [show (l.set (p / 8) v).getD (j / 8) 0 = l.getD (j / 8) 0 by simp [List.getD_eq_getElem?_getD, h]]
    have : ¬ p = j := by rintro rfl; exact h rfl
    simp [this]
theorem low_step (turn i : Nat) : turn % 2 ^ (i + 1) = (turn % 2 ^ i) ^^^ (if turn / 2 ^ i % 2 = 1 then 2 ^ i else 0) := by
  refine Nat.eq_of_testBit_eq fun j => ?_
  have hb : turn.testBit i = decide (turn / 2 ^ i % 2 = 1) := by rw [Nat.testBit_eq_decide_div_mod_eq]
  rw [Nat.testBit_xor, Nat.testBit_mod_two_pow, Nat.testBit_mod_two_pow]
  by_cases hc : turn / 2 ^ i % 2 = 1
  · rw [if_pos hc, Nat.testBit_two_pow]
    by_cases e : i = j
    · subst e; simp [hb, hc]
    · have : (j < i + 1 ↔ j < i) := by omega
      simp [e, this]
  · rw [if_neg hc, Nat.zero_testBit]
    by_cases e : i = j
    · subst e; simp [hb, hc]
    · have : (j < i + 1 ↔ j < i) := by omega
      simp [this]
end Go.Proofs.YtfilelgbffbnlaaDoor
