/- The walk of the law CrcZeros. -/
import Derived.Test.YtalcgkfnjhlnoaaDoorCrcK
namespace Go.Proofs.YtalcgkfnjhlnoaaDoor
open Go.RowKit

def LawPost (w : World) (e : Ending) (w' : World) : Prop := e = .returned (.bool true) ∧ Below w.heap.size w w'
theorem xor_twice (a b : Nat) : a ^^^ (a ^^^ b) = b := by rw [← Nat.xor_assoc, Nat.xor_self, Nat.zero_xor]
theorem notM_eq (n : Nat) : notM n = 4294967295 ^^^ n := rfl
theorem notM_notM (s : Nat) : notM (notM s) = s := by
  have h : ∀ c : Nat, (∀ n, notM n = c ^^^ n) → notM (notM s) = s := fun c hc => by rw [hc (notM s), hc s, xor_twice]
  exact h _ notM_eq
theorem zerosM_neg (s : Nat) (n : Int) (h : n ≤ 0) : zerosM s n = s := by
  unfold zerosM
  rw [show n.toNat = 0 by omega]
  exact notM_notM s
theorem zerosM_add (s : Nat) (n m : Int) (hn : 0 ≤ n) (hm : 0 ≤ m) : zerosM (zerosM s n) m = zerosM s (n + m) := by
  unfold zerosM
  rw [notM_notM, ← zit_add, show (n + m).toNat = m.toNat + n.toNat by omega]
theorem zerosM_lt {s : Nat} (n : Int) (h : s < 4294967296) : zerosM s n < 4294967296 := notM_lt ((zit_lin _).lt _ (notM_lt h))
set_option maxRecDepth 100000 in
set_option maxHeartbeats 400000 in
theorem zeros_neg (s : Nat) (n m : Int) (w : World) (hs : s < 4294967296) (h : n < 0) (hh : HalvesAt w) :
    Calls Tryd.prog 5 #[.int .u32 (s : Int), .int .i64 n, .int .i64 m] w (LawPost w) := by
  have d1 : decide (n < 0) = true := by simpa using h
  have d2 : decide (0 ≤ n) = false := by simp; omega
  have P := Lib.hid (fun W (h0 : HalvesAt W) => zeros_any s n W hs (by omega) h0)
  rw [zerosM_neg s n (by omega)] at P
  have HH := Lib.hid hh
  clear hh
  go_enter Tryd.func5, Tryd.ntmps5
  go_wp2_with fail
  refine (lives_any _ HH.out).mono ?_; rintro e w1 ⟨rfl, b1⟩
  have HH1 := Lib.hid (HH.out.below b1 HH.out.pos)
  go_wp2_with fail
  refine (P.out _ HH1.out).mono ?_; rintro e w2 ⟨rfl, b2⟩
  go_wp2
  go_ret
  exact ⟨rfl, below_trans b1 b2⟩
set_option maxRecDepth 100000 in
set_option maxHeartbeats 400000 in
theorem zeros_off (s : Nat) (n m : Int) (w : World) (h : 0 ≤ n) (h2 : m < 0 ∨ 1152921504606846976 < n ∨ 1152921504606846976 < m) (hh : HalvesAt w) :
    Calls Tryd.prog 5 #[.int .u32 (s : Int), .int .i64 n, .int .i64 m] w (LawPost w) := by
  have d1 : decide (n < 0) = false := by simpa using h
  have d2 : decide (0 ≤ n) = true := by simpa using h
  have HH := Lib.hid hh
  clear hh h
  by_cases e1 : m < 0
  · have d3 : decide (m < 0) = true := by simpa using e1
    clear h2 e1
    go_enter Tryd.func5, Tryd.ntmps5
    go_wp2_with fail
    refine (lives_any _ HH.out).mono ?_; rintro e w1 ⟨rfl, b1⟩
    go_wp2
    go_ret
    exact ⟨rfl, b1⟩
  · have d3 : decide (m < 0) = false := by simpa using e1
    by_cases e2 : 1152921504606846976 < n
    · have d4 : decide (1152921504606846976 < n) = true := by simpa using e2
      clear h2 e1 e2
      go_enter Tryd.func5, Tryd.ntmps5
      go_wp2_with fail
      refine (lives_any _ HH.out).mono ?_; rintro e w1 ⟨rfl, b1⟩
      go_wp2
      go_ret
      exact ⟨rfl, b1⟩
    · have d4 : decide (1152921504606846976 < n) = false := by simpa using e2
      have d5 : decide (1152921504606846976 < m) = true := by simp; omega
      clear h2 e1 e2
      go_enter Tryd.func5, Tryd.ntmps5
      go_wp2_with fail
      refine (lives_any _ HH.out).mono ?_; rintro e w1 ⟨rfl, b1⟩
      go_wp2
      go_ret
      exact ⟨rfl, b1⟩
set_option maxRecDepth 100000 in
set_option maxHeartbeats 400000 in
theorem zeros_in (s : Nat) (n m : Int) (w : World) (hs : s < 4294967296) (hn : 0 ≤ n) (hm : 0 ≤ m) (hn2 : n ≤ 1152921504606846976) (hm2 : m ≤ 1152921504606846976) (hh : HalvesAt w) :
    Calls Tryd.prog 5 #[.int .u32 (s : Int), .int .i64 n, .int .i64 m] w (LawPost w) := by
  have d1 : decide (n < 0) = false := by simpa using hn
  have d3 : decide (m < 0) = false := by simpa using hm
  have d4 : decide (1152921504606846976 < n) = false := by simp; omega
  have d5 : decide (1152921504606846976 < m) = false := by simp; omega
  have P1 := Lib.hid (fun W (h0 : HalvesAt W) => zeros_any s n W hs (by omega) h0)
  have P2 := Lib.hid (fun W (h0 : HalvesAt W) => zeros_any (zerosM s n) m W (zerosM_lt n hs) (by omega) h0)
  have P3 := Lib.hid (fun W (h0 : HalvesAt W) => zeros_any s (n + m) W hs (by omega) h0)
  rw [zerosM_add s n m hn hm] at P2
  have HH := Lib.hid hh
  clear hh
  generalize zerosM s (n + m) = c at P2 P3
  generalize zerosM s n = b at P1 P2
  go_enter Tryd.func5, Tryd.ntmps5
  go_wp2_with fail
  refine (lives_any _ HH.out).mono ?_; rintro e w1 ⟨rfl, b1⟩
  have HH1 := Lib.hid (HH.out.below b1 HH.out.pos)
  go_wp2_with fail
  refine (P1.out _ HH1.out).mono ?_; rintro e w2 ⟨rfl, b2⟩
  have HH2 := Lib.hid (HH1.out.below b2 HH1.out.pos)
  go_wp2_with fail
  refine (P2.out _ HH2.out).mono ?_; rintro e w3 ⟨rfl, b3⟩
  have HH3 := Lib.hid (HH2.out.below b3 HH2.out.pos)
  go_wp2_with fail
  refine (P3.out _ HH3.out).mono ?_; rintro e w4 ⟨rfl, b4⟩
  go_wp2
  go_ret
  exact ⟨rfl, below_trans (below_trans (below_trans b1 b2) b3) b4⟩
theorem zeros_law (s : Nat) (n m : Int) (w : World) (hs : s < 4294967296) (hh : HalvesAt w) :
    Calls Tryd.prog 5 #[.int .u32 (s : Int), .int .i64 n, .int .i64 m] w (LawPost w) := by
  by_cases h : n < 0
  · exact zeros_neg s n m w hs h hh
  by_cases h2 : m < 0 ∨ 1152921504606846976 < n ∨ 1152921504606846976 < m
  · exact zeros_off s n m w (by omega) h2 hh
  · exact zeros_in s n m w hs (by omega) (by omega) (by omega) (by omega) hh
end Go.Proofs.YtalcgkfnjhlnoaaDoor
