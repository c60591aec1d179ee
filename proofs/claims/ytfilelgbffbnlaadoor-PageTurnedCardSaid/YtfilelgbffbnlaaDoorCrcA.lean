/- Contracts of package crc: the model of a sum, a step of the register. -/
import Derived.Test.YtfilelgbffbnlaaDoorNumWd
import Derived.Laws.BitsAllLaws
namespace Go.Proofs.YtfilelgbffbnlaaDoor
open Go.RowKit

/-- What one bit does to the register. -/
def bitL (n : Nat) : Nat := if n % 2 = 1 then n / 2 ^^^ 3988292384 else n / 2
def hv (n : Nat) : Nat := bitL (bitL (bitL (bitL n)))
theorem bitL_lt {n : Nat} (h : n < 4294967296) : bitL n < 4294967296 := by
  unfold bitL
  split
  · exact Nat.xor_lt_two_pow (n := 32) (by omega) (by decide)
  · omega
theorem hv_lt {n : Nat} (h : n < 4294967296) : hv n < 4294967296 := bitL_lt (bitL_lt (bitL_lt (bitL_lt h)))
theorem xor_half (a b : Nat) : (a ^^^ b) / 2 = a / 2 ^^^ b / 2 := by
  have := Nat.shiftRight_xor_distrib (a := a) (b := b) (i := 1)
  simpa [Nat.shiftRight_eq_div_pow] using this
theorem bitL_xor (a b : Nat) : bitL (a ^^^ b) = bitL a ^^^ bitL b := by
  unfold bitL
  rw [xor_half]
  have hm : (a ^^^ b) % 2 = (a % 2 ^^^ b % 2) := by
    have := Nat.xor_mod_two_pow (a := a) (b := b) (n := 1)
    simpa using this
  rw [hm]
  rcases Nat.mod_two_eq_zero_or_one a with ha | ha <;> rcases Nat.mod_two_eq_zero_or_one b with hb | hb <;> rw [ha, hb]
  · simp
  · simp [Nat.xor_assoc]
  · simp only [Nat.xor_zero, if_true, if_neg (show ¬ (0 : Nat) = 1 by decide)]
    rw [Nat.xor_assoc, Nat.xor_assoc, Nat.xor_comm (b / 2)]
  · simp only [Nat.xor_self, if_true, if_neg (show ¬ (0 : Nat) = 1 by decide)]
    rw [Nat.xor_assoc, Nat.xor_comm 3988292384, Nat.xor_assoc, Nat.xor_self, Nat.xor_zero]
theorem hv_xor (a b : Nat) : hv (a ^^^ b) = hv a ^^^ hv b := by unfold hv; rw [bitL_xor, bitL_xor, bitL_xor, bitL_xor]
theorem hv_high (q : Nat) : hv (16 * q) = q := by
  unfold hv
  have h : ∀ n, bitL (2 * n) = n := fun n => by unfold bitL; rw [if_neg (by omega)]; omega
  rw [show 16 * q = 2 * (2 * (2 * (2 * q))) by omega, h, h, h, h]
theorem parts16 (a : Nat) : a = 16 * (a / 16) ^^^ a % 16 := by
  refine Nat.eq_of_testBit_eq fun j => ?_
  rw [Nat.testBit_xor, show (16 : Nat) = 2 ^ 4 from rfl, Nat.testBit_two_pow_mul, Nat.testBit_mod_two_pow, Nat.testBit_div_two_pow]
  by_cases h : j < 4
  · have h2 : ¬ 4 ≤ j := by omega
    simp [h, h2]
  · have h2 : 4 ≤ j := by omega
    have h3 : 4 + (j - 4) = j := by omega
    simp [h, h2]
/-- Four bits at once. -/
theorem hv_step (a : Nat) : a / 16 ^^^ hv (a % 16) = hv a := by
  have h := congrArg hv (parts16 a)
  rw [hv_xor, hv_high] at h
  exact h.symm
def stepM (r x : Nat) : Nat := hv (hv (r ^^^ x))
theorem stepM_lt {r x : Nat} (hr : r < 4294967296) (hx : x < 256) : stepM r x < 4294967296 := hv_lt (hv_lt (Nat.xor_lt_two_pow (n := 32) (by omega) (by omega)))
/-- The table as it is laid. -/
def HalvesAt (w : World) : Prop := ∀ i, i < 16 → w.cell? ⟨0, i, none⟩ = some (.int .u32 (hv i : Int))
set_option maxRecDepth 100000 in
set_option maxHeartbeats 400000 in
theorem step_any (r x : Nat) (w : World) (hr : r < 4294967296) (hx : x < 256) (hh : HalvesAt w) :
    Calls Tryd.prog 41 #[.int .u32 (r : Int), .int .u8 (x : Int)] w fun e w' => e = .returned (.int .u32 (stepM r x : Int)) ∧ w = w' := by
  have e1 := u32_xor_nat r x hr (by omega)
  have ha : r ^^^ x < 4294967296 := Nat.xor_lt_two_pow (n := 32) (by omega) (by omega)
  have hs : stepM r x = hv (hv (r ^^^ x)) := rfl
  generalize r ^^^ x = a at e1 ha hs
  have hb := hv_lt ha
  have hs1 := hv_step a
  have hs2 := hv_step (hv a)
  generalize hv a = b at hs hb hs1 hs2
  have hc := hv_lt hb
  have e2 : bits .and .u32 (a : Int) 15 = ((a % 16 : Nat) : Int) := by
    rw [show (15 : Int) = ((15 : Nat) : Int) from rfl, u32_and_nat a 15 ha (by omega)]
    congr 1
    exact Nat.and_two_pow_sub_one_eq_mod a 4
  have e3 : bits .and .u32 (b : Int) 15 = ((b % 16 : Nat) : Int) := by
    rw [show (15 : Int) = ((15 : Nat) : Int) from rfl, u32_and_nat b 15 hb (by omega)]
    congr 1
    exact Nat.and_two_pow_sub_one_eq_mod b 4
  have c1 := hh (a % 16) (Nat.mod_lt _ (by decide))
  have c2 := hh (b % 16) (Nat.mod_lt _ (by decide))
  have l1 := hv_lt (n := a % 16) (by omega)
  have l2 := hv_lt (n := b % 16) (by omega)
  have e4 : bits .xor .u32 ((a : Int) / 16) (hv (a % 16) : Int) = (b : Int) := by
    rw [show ((a : Int) / 16) = ((a / 16 : Nat) : Int) by simp, u32_xor_nat _ _ (by omega) l1, hs1]
  have e5 : bits .xor .u32 ((b : Int) / 16) (hv (b % 16) : Int) = (stepM r x : Int) := by
    rw [show ((b : Int) / 16) = ((b / 16 : Nat) : Int) by simp, u32_xor_nat _ _ (by omega) l2, hs2, hs]
  generalize hv (a % 16) = v1 at c1 l1 e4
  generalize hv (b % 16) = v2 at c2 l2 e5
  have hi1 : a % 16 < 16 := Nat.mod_lt _ (by decide)
  have hi2 : b % 16 < 16 := Nat.mod_lt _ (by decide)
  generalize a % 16 = i1 at e2 c1 hi1
  generalize b % 16 = i2 at e3 c2 hi2
  clear hs1 hs2 hh
  go_enter Tryd.func41, Tryd.ntmps41
  go_wp2
  go_ret
  exact ⟨by rw [hs]; rfl, rfl⟩
/-- The register behind bytes. -/
def regM (r : Nat) (l : List UInt8) : Nat := l.foldl (fun r b => stepM r b.toNat) r
theorem regM_lt {r : Nat} (l : List UInt8) (h : r < 4294967296) : regM r l < 4294967296 := by
  induction l generalizing r with
  | nil => exact h
  | cons b l ih => exact ih (stepM_lt h b.toNat_lt)
theorem regM_snoc (r : Nat) (l : List UInt8) (k : Nat) (h : k < l.length) : regM r (l.take (k + 1)) = stepM (regM r (l.take k)) l[k].toNat := by
  have e : l.take (k + 1) = l.take k ++ [l[k]] := by rw [List.take_add_one, List.getElem?_eq_getElem h]; rfl
  unfold regM
  rw [e, List.foldl_append]
  rfl
theorem regM_append (r : Nat) (a b : List UInt8) : regM r (a ++ b) = regM (regM r a) b := List.foldl_append ..
def notM (n : Nat) : Nat := 4294967295 ^^^ n
theorem notM_lt {n : Nat} (h : n < 4294967296) : notM n < 4294967296 := Nat.xor_lt_two_pow (n := 32) (by decide) (by omega)
theorem u32_not (n : Nat) (h : n < 4294967296) : bits .xor .u32 IntKind.u32.max (n : Int) = (notM n : Int) := u32_xor_nat 4294967295 n (by decide) h
def moreM (s : Nat) (l : List UInt8) : Nat := notM (regM (notM s) l)
set_option maxRecDepth 100000 in
set_option maxHeartbeats 400000 in
theorem more_any (s : Nat) (A : Option Addr) (h : Nat) (l : List UInt8) (c : Nat) (w : World) (hs : s < 4294967296) (hh : HalvesAt w) (hl : SlB w h A l) (hlc : l.length ≤ c) (hc : c ≤ maxLen) :
    Calls Tryd.prog 38 #[.int .u32 (s : Int), .slice A l.length c] w fun e w' => e = .returned (.int .u32 (moreM s l : Int)) ∧ w = w' := by
  unfold maxLen at hc
  have HS := Lib.hid hl
  have HH := Lib.hid hh
  clear hl hh
  go_enter Tryd.func38, Tryd.ntmps38
  obtain ⟨r0, hr0⟩ : ∃ r0, r0 = notM s := ⟨_, rfl⟩
  have hrl : r0 < 4294967296 := by rw [hr0]; exact notM_lt hs
  have hm : moreM s l = notM (regM r0 l) := by rw [hr0]; rfl
  have hnot := u32_not s hs
  rw [← hr0] at hnot
  have HM := Lib.hid hm
  clear hm hr0
  go_wp2_with fail
  go_loop [5, 12] (fun r i => ∃ k : Nat, k ≤ l.length ∧ i = .int .i64 (k : Int) ∧ r = .int .u32 (regM r0 (l.take k) : Int)) (fun _ i => l.length - (intOf i).toNat)
  case atStart => exact ⟨0, Nat.zero_le _, rfl, rfl⟩
  case round =>
    obtain ⟨k, hk, rfl, rfl⟩ := hrel
    by_cases hlt : k < l.length
    · obtain ⟨ad', rfl, hcell⟩ := HS.out.cell hlt
      have hst := Lib.hid (regM_snoc r0 l k hlt)
      have hbn := l[k].toNat_lt
      have hrk := regM_lt (l.take k) hrl
      generalize regM r0 (l.take k) = r at hst hrk
      generalize l[k].toNat = b at hcell hst hbn
      go_wp2_with fail
      refine (step_any r b _ hrk hbn HH.out).mono ?_; rintro e w' ⟨rfl, rfl⟩
      go_wp2
      refine ⟨⟨k + 1, by omega, by go_num, by rw [hst.out]⟩, by simp [intOf]; omega⟩
    · obtain rfl : k = l.length := by omega
      rw [List.take_length]
      have hrk := regM_lt l hrl
      have hnr := u32_not _ hrk
      generalize regM r0 l = r at HM hrk hnr
      go_wp2
      go_ret
      exact ⟨by rw [HM.out]; rfl, rfl⟩
theorem moreM_lt {s : Nat} (l : List UInt8) (h : s < 4294967296) : moreM s l < 4294967296 := notM_lt (regM_lt l (notM_lt h))
set_option maxHeartbeats 400000 in
theorem sum_any (A : Option Addr) (h : Nat) (l : List UInt8) (c : Nat) (w : World) (hh : HalvesAt w) (hl : SlB w h A l) (hlc : l.length ≤ c) (hc : c ≤ maxLen) :
    Calls Tryd.prog 32 #[.slice A l.length c] w fun e w' => e = .returned (.int .u32 (moreM 0 l : Int)) ∧ w = w' := by
  have P := Lib.hid (more_any 0 A h l c w (by decide) hh hl hlc hc)
  clear hh hl
  go_enter Tryd.func32, Tryd.ntmps32
  go_wp2_with fail
  refine P.out.mono ?_; rintro e w' ⟨rfl, rfl⟩
  go_wp2
  go_ret
  exact ⟨rfl, rfl⟩
/-- Bit by bit. -/
def bitK : Nat → Nat → Nat
  | 0, a => a
  | k + 1, a => bitL (bitK k a)
theorem bitK_lt {k a : Nat} (h : a < 4294967296) : bitK k a < 4294967296 := by
  induction k with
  | zero => exact h
  | succ k ih => exact bitL_lt ih
theorem bit8 (r x : Nat) : bitK 8 (r ^^^ x) = stepM r x := rfl
set_option maxRecDepth 100000 in
set_option maxHeartbeats 1000000 in
theorem rmore_any (s : Nat) (A : Option Addr) (h : Nat) (l : List UInt8) (c : Nat) (w : World) (hs : s < 4294967296) (hl : SlB w h A l) (hlc : l.length ≤ c) (hc : c ≤ maxLen) :
    Calls Tryd.prog 40 #[.int .u32 (s : Int), .slice A l.length c] w fun e w' => e = .returned (.int .u32 (moreM s l : Int)) ∧ w = w' := by
  unfold maxLen at hc
  have HS := Lib.hid hl
  clear hl
  obtain ⟨r0, hr0⟩ : ∃ r0, r0 = notM s := ⟨_, rfl⟩
  have hrl : r0 < 4294967296 := by rw [hr0]; exact notM_lt hs
  have hm : moreM s l = notM (regM r0 l) := by rw [hr0]; rfl
  have hnot := u32_not s hs
  rw [← hr0] at hnot
  have HM := Lib.hid hm
  clear hm hr0
  go_enter Tryd.func40, Tryd.ntmps40
  go_wp2_with fail
  go_loop [5, 6] (fun r i => ∃ k : Nat, k ≤ l.length ∧ i = .int .i64 (k : Int) ∧ r = .int .u32 (regM r0 (l.take k) : Int)) (fun _ i => l.length - (intOf i).toNat)
  case atStart => exact ⟨0, Nat.zero_le _, rfl, rfl⟩
  case round =>
    obtain ⟨k, hk, rfl, rfl⟩ := hrel
    by_cases hlt : k < l.length
    · obtain ⟨ad', rfl, hcell⟩ := HS.out.cell hlt
      have hst := regM_snoc r0 l k hlt
      rw [← bit8] at hst
      have hbn := l[k].toNat_lt
      have hrk := regM_lt (l.take k) hrl
      generalize regM r0 (l.take k) = r at hst hrk
      generalize l[k].toNat = b at hcell hst hbn
      have hx := u32_xor_nat r b hrk (by omega)
      have ha : r ^^^ b < 4294967296 := Nat.xor_lt_two_pow (n := 32) (by omega) (by omega)
      have HST := Lib.hid hst
      clear hst
      generalize r ^^^ b = a at hx ha HST
      go_wp2_with fail
      go_loop [5, 7] (fun r j => ∃ m : Nat, m ≤ 8 ∧ j = .int .i64 (m : Int) ∧ r = .int .u32 (bitK m a : Int)) (fun _ j => 8 - (intOf j).toNat)
      case atStart => exact ⟨0, Nat.zero_le _, rfl, rfl⟩
      case round =>
        obtain ⟨m, hm, rfl, rfl⟩ := hrel
        by_cases hm8 : m < 8
        · have hbk := bitK_lt (k := m) ha
          have hnx : bitK (m + 1) a = bitL (bitK m a) := rfl
          generalize bitK m a = q at hbk hnx
          have HNX := Lib.hid hnx
          clear hnx
          have e1 : bits .and .u32 (q : Int) 1 = ((q % 2 : Nat) : Int) := by
            rw [show (1 : Int) = ((1 : Nat) : Int) from rfl, u32_and_nat q 1 hbk (by omega)]
            congr 1
            exact Nat.and_two_pow_sub_one_eq_mod q 1
          by_cases hq : q % 2 = 1
          · have e2 : bits .xor .u32 ((q : Int) / 2) 3988292384 = (bitL q : Int) := by
              rw [show ((q : Int) / 2) = ((q / 2 : Nat) : Int) by simp, show (3988292384 : Int) = ((3988292384 : Nat) : Int) from rfl, u32_xor_nat _ _ (by omega) (by decide)]
              unfold bitL
              rw [if_pos hq]
            rw [hq] at e1
            go_wp2
            exact ⟨⟨m + 1, by omega, by go_num, by rw [HNX.out]⟩, by simp [intOf]; omega⟩
          · have hq0 : q % 2 = 0 := by omega
            rw [hq0] at e1
            have e2 : bitL q = q / 2 := by unfold bitL; rw [if_neg hq]
            have E2 := Lib.hid e2
            clear e2
            go_wp2
            exact ⟨⟨m + 1, by omega, by go_num, by rw [HNX.out, E2.out]; simp⟩, by simp [intOf]; omega⟩
        · obtain rfl : m = 8 := by omega
          go_wp2
          exact ⟨⟨k + 1, by omega, by go_num, by rw [HST.out]⟩, by simp [intOf]; omega⟩
    · obtain rfl : k = l.length := by omega
      rw [List.take_length]
      have hrk := regM_lt l hrl
      have hnr := u32_not _ hrk
      generalize regM r0 l = r at HM hrk hnr
      go_wp2
      go_ret
      exact ⟨by rw [HM.out]; rfl, rfl⟩
set_option maxHeartbeats 400000 in
theorem rsum_any (A : Option Addr) (h : Nat) (l : List UInt8) (c : Nat) (w : World) (hl : SlB w h A l) (hlc : l.length ≤ c) (hc : c ≤ maxLen) :
    Calls Tryd.prog 35 #[.slice A l.length c] w fun e w' => e = .returned (.int .u32 (moreM 0 l : Int)) ∧ w = w' := by
  have P := Lib.hid (rmore_any 0 A h l c w (by decide) hl hlc hc)
  clear hl
  go_enter Tryd.func35, Tryd.ntmps35
  go_wp2_with fail
  refine P.out.mono ?_; rintro e w' ⟨rfl, rfl⟩
  go_wp2
  go_ret
  exact ⟨rfl, rfl⟩
end Go.Proofs.YtfilelgbffbnlaaDoor
