/- Contracts of package crc: Zeros and Join. -/
import Derived.Test.YtalcgkfnjhlnoaaDoorCrcH
namespace Go.Proofs.YtalcgkfnjhlnoaaDoor
open Go.RowKit

set_option maxRecDepth 100000 in
set_option maxHeartbeats 400000 in
theorem behind_neg (r : Nat) (n : Int) (w : World) (hn : n ≤ 0) (hh : HalvesAt w) :
    Calls Tryd.prog 23 #[.int .u32 (r : Int), .int .i64 n] w fun e w' => e = .returned (.int .u32 (r : Int)) ∧ Below w.heap.size w w' := by
  have P := Lib.hid (oneZero_any w hh)
  have HI := Lib.hid (fun T => (show (Tryd.prog.info? 47).map (·.size) = some (effA T).size by rw [effA_size]; kernel_rfl))
  have HK := Lib.hid (fun T => (show (effK zeroM 0).size = (effA T).size by rw [effK_size, effA_size]))
  have d1 : decide (0 < n) = false := by simp; omega
  clear hh
  go_enter Tryd.func23, Tryd.ntmps23
  go_wp2_with fail
  refine P.out.mono ?_; rintro e w1 ⟨rfl, b1⟩
  have B1 := Lib.hid b1
  clear b1
  go_wp2_with (first | (refine wpList_store_row rfl 47 _ _ rfl w1.heap.size (effA zeroM) rfl rfl 47 (effK zeroM 0) (Blk.new w1 _ (effK zeroM 0)) (HI.out _) (HK.out _) (effA_all _) ?_))
  simp only [Act.put]
  go_loopw [0, 1] (fun R N wr => R = .int .u32 (r : Int) ∧ N = .int .i64 n ∧ Below w.heap.size w wr) (fun _ _ _ => 0)
  case atStart => exact ⟨rfl, rfl, below_setRow (B1.out.alloc B1.out.size _) B1.out.size _⟩
  case round =>
    obtain ⟨rfl, rfl, hb⟩ := hrel
    go_wp2
    go_ret
    exact ⟨rfl, hb⟩
theorem behind_any (r : Nat) (n : Int) (w : World) (hr : r < 4294967296) (hn : n ≤ 9223372036854775807) (hh : HalvesAt w) :
    Calls Tryd.prog 23 #[.int .u32 (r : Int), .int .i64 n] w fun e w' => e = .returned (.int .u32 (zit n.toNat r : Int)) ∧ Below w.heap.size w w' := by
  by_cases h : n ≤ 0
  · have e : n.toNat = 0 := by omega
    rw [e]
    exact behind_neg r n w h hh
  · obtain ⟨k, rfl⟩ := Int.eq_ofNat_of_zero_le (show 0 ≤ n by omega)
    exact behind_nat r k w hr (by omega) hh
def zerosM (s : Nat) (n : Int) : Nat := notM (zit n.toNat (notM s))
set_option maxRecDepth 100000 in
set_option maxHeartbeats 400000 in
theorem zeros_any (s : Nat) (n : Int) (w : World) (hs : s < 4294967296) (hn : n ≤ 9223372036854775807) (hh : HalvesAt w) :
    Calls Tryd.prog 19 #[.int .u32 (s : Int), .int .i64 n] w fun e w' => e = .returned (.int .u32 (zerosM s n : Int)) ∧ Below w.heap.size w w' := by
  have P := Lib.hid (behind_any (notM s) n w (notM_lt hs) hn hh)
  have e1 := u32_not s hs
  have e2 := u32_not _ ((zit_lin n.toNat).lt _ (notM_lt hs))
  have hz : zerosM s n = notM (zit n.toNat (notM s)) := rfl
  have HZ := Lib.hid hz
  clear hh hz
  generalize zit n.toNat (notM s) = q at P e2 HZ
  generalize notM s = r at P e1
  go_enter Tryd.func19, Tryd.ntmps19
  go_wp2_with fail
  refine P.out.mono ?_; rintro e w1 ⟨rfl, b1⟩
  go_wp2
  go_ret
  rw [HZ.out]
  exact ⟨rfl, b1⟩
def joinM (a b : Nat) (n : Int) : Nat := if n < 1 then a else zit n.toNat a ^^^ b
set_option maxRecDepth 100000 in
set_option maxHeartbeats 400000 in
theorem join_any (a b : Nat) (n : Int) (w : World) (ha : a < 4294967296) (hb : b < 4294967296) (hn : n ≤ 9223372036854775807) (hh : HalvesAt w) :
    Calls Tryd.prog 18 #[.int .u32 (a : Int), .int .u32 (b : Int), .int .i64 n] w fun e w' => e = .returned (.int .u32 (joinM a b n : Int)) ∧ Below w.heap.size w w' := by
  by_cases h : n < 1
  · have d1 : decide (n < 1) = true := by simpa using h
    have hj : joinM a b n = a := by unfold joinM; rw [if_pos h]
    rw [hj]
    clear hh h
    go_enter Tryd.func18, Tryd.ntmps18
    go_wp2
    go_ret
    exact ⟨rfl, Below.refl _ _⟩
  · have d1 : decide (n < 1) = false := by simpa using h
    have P := Lib.hid (behind_any a n w ha hn hh)
    have e1 := u32_xor_nat _ b ((zit_lin n.toNat).lt a ha) hb
    have hj : joinM a b n = zit n.toNat a ^^^ b := by unfold joinM; rw [if_neg h]
    rw [hj]
    clear hh h hj
    generalize zit n.toNat a = q at P e1
    go_enter Tryd.func18, Tryd.ntmps18
    go_wp2_with fail
    refine P.out.mono ?_; rintro e w1 ⟨rfl, b1⟩
    go_wp2
    go_ret
    exact ⟨rfl, b1⟩
end Go.Proofs.YtalcgkfnjhlnoaaDoor
