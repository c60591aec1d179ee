/- Contracts of package crc: what bytes of 0 make of the register. -/
import Derived.Test.YtalcgkfnjhlnoaaDoorCrcC
namespace Go.Proofs.YtalcgkfnjhlnoaaDoor
open Go.RowKit

/-- A map of registers that keeps their turning by one another. -/
structure Lin (T : Nat → Nat) : Prop where
  add : ∀ a b, T (a ^^^ b) = T a ^^^ T b
  lt : ∀ a, a < 4294967296 → T a < 4294967296
theorem Lin.zero {T : Nat → Nat} (h : Lin T) : T 0 = 0 := by
  have := h.add 0 0
  rw [Nat.xor_self, Nat.xor_self] at this
  exact this
/-- The 32 numbers of such a map. -/
def effA (T : Nat → Nat) : Array Value := ((List.range 32).map fun i => Value.int .u32 (T (2 ^ i) : Int)).toArray
theorem effA_size (T : Nat → Nat) : (effA T).size = 32 := by simp [effA]
theorem effA_get (T : Nat → Nat) (i : Nat) (h : i < 32) : (effA T)[i]? = some (.int .u32 (T (2 ^ i) : Int)) := by
  unfold effA
  rw [List.getElem?_toArray, List.getElem?_map, List.getElem?_range h]
  rfl
theorem xor_top (a k : Nat) (h : a < 2 ^ k) : a ^^^ 2 ^ k = a + 2 ^ k := by
  have h1 := Nat.two_pow_add_eq_or_of_lt h 1
  rw [Nat.mul_one] at h1
  rw [Nat.add_comm a, h1]
  refine Nat.eq_of_testBit_eq fun j => ?_
  rw [Nat.testBit_xor, Nat.testBit_or, Nat.testBit_two_pow]
  by_cases hj : k = j
  · subst hj
    rw [Nat.testBit_lt_two_pow h]
    simp
  · simp [hj]
theorem mod_step_zero (r k : Nat) (h : r / 2 ^ k % 2 = 0) : r % 2 ^ (k + 1) = r % 2 ^ k := by rw [Nat.mod_pow_succ, h]; simp
theorem mod_step_one (r k : Nat) (h : r / 2 ^ k % 2 = 1) : r % 2 ^ (k + 1) = r % 2 ^ k ^^^ 2 ^ k := by
  rw [Nat.mod_pow_succ, h, Nat.mul_one, xor_top _ _ (Nat.mod_lt _ (Nat.pow_pos (by decide)))]
theorem index_agg (cs : Array Value) (k : Nat) (v : Value) (w : World) (hk : k < 32) (h : cs[k]? = some v) : (Instr.index 47 (.agg cs) (.int .i64 (k : Int))).run Tryd.prog w = .ok v w := by
  have hn : (0 ≤ (k : Int) ∧ (k : Int) < 32) := by omega
  simp [Instr.index, run_underlying Tryd.underlying47, asIntOf, hn, go_sem, h]
  intro h
  omega
set_option maxRecDepth 100000 in
set_option maxHeartbeats 400000 in
theorem to_any (T : Nat → Nat) (r : Nat) (w : World) (hr : r < 4294967296) (hT : Lin T) :
    Calls Tryd.prog 25 #[.agg (effA T), .int .u32 (r : Int)] w fun e w' => e = .returned (.int .u32 (T r : Int)) ∧ Below w.heap.size w w' := by
  have hsz := effA_size T
  have hget := Lib.hid (effA_get T)
  have HT := Lib.hid hT
  clear hT
  have hi : (Tryd.prog.info? 47).map (·.size) = some (effA T).size := by rw [hsz]; kernel_rfl
  have HI := Lib.hid hi
  generalize effA T = cs at hsz hget HI
  clear hi hsz
  go_enter Tryd.func25, Tryd.ntmps25
  go_wp2_with (refine wpList_load_row rfl 47 _ rfl w.heap.size rfl 47 cs (0, 0) _ (heap_alloc_new w _) Tryd.underlying47 rfl HI.out ?_)
  go_loop [5, 9] (fun m i => ∃ k : Nat, k ≤ 32 ∧ i = .int .i64 (k : Int) ∧ m = .int .u32 (T (r % 2 ^ k) : Int)) (fun _ i => 32 - (intOf i).toNat)
  case atStart => exact ⟨0, by omega, rfl, by rw [Nat.pow_zero, Nat.mod_one, HT.out.zero]; rfl⟩
  case round =>
    obtain ⟨k, hk, rfl, rfl⟩ := hrel
    by_cases hlt : k < 32
    · have hrk : r / 2 ^ k < 4294967296 := Nat.lt_of_le_of_lt (Nat.div_le_self _ _) hr
      have e1 : bits .and .u32 ((r : Int) / 2 ^ k) 1 = ((r / 2 ^ k % 2 : Nat) : Int) := by
        rw [show ((r : Int) / 2 ^ k) = ((r / 2 ^ k : Nat) : Int) by simp, show (1 : Int) = ((1 : Nat) : Int) from rfl, u32_and_nat _ 1 hrk (by omega)]
        congr 1
        exact Nat.and_two_pow_sub_one_eq_mod _ 1
      have l1 := HT.out.lt (r % 2 ^ k) (Nat.lt_of_le_of_lt (Nat.mod_le _ _) hr)
      have l2 := HT.out.lt (2 ^ k) (Nat.pow_lt_pow_right (by decide) hlt)
      have e2 := u32_xor_nat _ _ l1 l2
      rw [← HT.out.add] at e2
      by_cases hb : r / 2 ^ k % 2 = 1
      · have hst := Lib.hid (mod_step_one r k hb)
        rw [hb] at e1
        clear hb
        go_wp2
        rw [index_agg cs k _ _ hlt (hget.out k hlt)]
        simp only [Result.andThen]
        rw [Oper.upon_value]
        go_wp2
        exact ⟨⟨k + 1, by omega, by go_num, by rw [hst.out]⟩, by simp [intOf]; omega⟩
      · have h0 : r / 2 ^ k % 2 = 0 := by omega
        have hst := Lib.hid (mod_step_zero r k h0)
        rw [h0] at e1
        clear hb h0
        go_wp2
        rw [index_agg cs k _ _ hlt (hget.out k hlt)]
        simp only [Result.andThen]
        rw [Oper.upon_value]
        go_wp2
        exact ⟨⟨k + 1, by omega, by go_num, by rw [hst.out]⟩, by simp [intOf]; omega⟩
    · obtain rfl : k = 32 := by omega
      have hm : r % 4294967296 = r := Nat.mod_eq_of_lt hr
      go_wp2
      go_ret
      exact ⟨rfl, (Below.refl _ _).alloc (Nat.le_refl _) _⟩
end Go.Proofs.YtalcgkfnjhlnoaaDoor
