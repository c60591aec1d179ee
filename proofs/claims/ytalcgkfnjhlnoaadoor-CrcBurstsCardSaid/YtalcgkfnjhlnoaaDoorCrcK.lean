/- What must come of every program lives (crc). -/
import Derived.Test.YtalcgkfnjhlnoaaDoorCrcJ
namespace Go.Proofs.YtalcgkfnjhlnoaaDoor
open Go.RowKit

set_option maxRecDepth 100000 in
set_option maxHeartbeats 2000000 in
theorem lives_any (w : World) (hh : HalvesAt w) :
    Calls Tryd.prog 9 #[] w fun e w' => e = .returned (.bool true) ∧ Below w.heap.size w w' := by
  have bA := alloc_below w (.cells #[.int .u8 97, .int .u8 98] 5 (2, 3))
  have hhA := hh.below bA hh.pos
  have sA : SlB (w.alloc (.cells #[.int .u8 97, .int .u8 98] 5 (2, 3))) w.heap.size (some ⟨w.heap.size, 0, none⟩) [97, 98] := new_slb w 5 [97, 98] (2, 3)
  have P1 := Lib.hid (seal_any _ _ [97, 98] 2 _ hhA sA (by decide) (by decide) (by decide))
  have hl6 : (sealM [97, 98]).length = 6 := sealM_length _
  have htk := sealM_take [97, 98]
  rw [hl6] at htk
  obtain ⟨L, hL⟩ : ∃ L, L = sealM [97, 98] := ⟨_, rfl⟩
  rw [← hL] at P1 hl6 htk
  have hse : sealM (L.take (L.length - 4)) = L := by rw [hl6, htk, hL]
  have HSE := Lib.hid hse
  have HHA := Lib.hid hhA
  have BA := Lib.hid bA
  have HTK := Lib.hid htk
  have HL6 := Lib.hid hl6
  clear hh bA hhA sA htk hl6 hL hse
  have k1 := conv_lit w #[.int .u8 97, .int .u8 98] 2 2 2 rfl
  go_enter Tryd.func9, Tryd.ntmps9
  go_wp2_with fail
  refine P1.out.mono ?_; rintro e w1 ⟨A1, c1, rfl, o1, b1⟩
  obtain ⟨h1, hb1, s1, -⟩ := SlB.of_own o1
  obtain ⟨q1, q2⟩ := own_cap o1
  have hh1 := HHA.out.below b1 HHA.out.pos
  have B1 := Lib.hid (below_trans BA.out b1)
  have PO := Lib.hid (open_long A1 h1 L c1 w1 hh1 s1 q1 q2 (by rw [HL6.out]; decide) (by rw [HL6.out]; decide))
  have HH1 := Lib.hid hh1
  clear o1 b1 s1 hh1
  go_wp2_with fail
  refine PO.out.mono ?_
  rintro e w2 ⟨hy, -⟩
  obtain ⟨A2, c2, h2, rfl, s2, hb2, q3, q4, b2⟩ := hy HSE.out
  rw [HL6.out] at s2 q3 ⊢
  rw [show 6 - 4 = 2 from rfl, HTK.out] at s2
  have S2 := Lib.hid s2
  have HH2 := Lib.hid (HH1.out.below b2 HH1.out.pos)
  have B2 := Lib.hid (below_trans B1.out b2)
  clear hy s2 b2
  have P3 := Lib.hid (open_short (some ⟨w2.heap.size, 0, none⟩) [1, 2, 3] 3 (w2.alloc (.cells #[.int .u8 1, .int .u8 2, .int .u8 3] 5)) (by decide))
  go_wp2_with fail
  refine P3.out.mono ?_
  rintro e w3 ⟨rfl, b3⟩
  have b23 := below_trans (alloc_below w2 (.cells #[.int .u8 1, .int .u8 2, .int .u8 3] 5)) b3
  have S3 := Lib.hid (SlB.below S2.out b23 fun h => h)
  have HH3 := Lib.hid (HH2.out.below b23 HH2.out.pos)
  have B3 := Lib.hid (below_trans B2.out b23)
  clear b3 b23
  have b34 := alloc_below w3 (.cells #[.int .u8 49, .int .u8 50, .int .u8 51, .int .u8 52, .int .u8 53, .int .u8 54, .int .u8 55, .int .u8 56, .int .u8 57] 5 (9, 10))
  have HH4 := Lib.hid (HH3.out.below b34 HH3.out.pos)
  have B4 := Lib.hid (below_trans B3.out b34)
  have hcv := run_convB _ Tryd.underlying23 Tryd.underlying5 Tryd.underlying9 c2 ((SlB.below S3.out b34 fun h => h).reads (n := 2) rfl)
  have P4 := Lib.hid (sum_any _ _ [49, 50, 51, 52, 53, 54, 55, 56, 57] 9 _ HH4.out (new_slb w3 5 [49, 50, 51, 52, 53, 54, 55, 56, 57] (9, 10)) (by decide) (by decide))
  rw [show moreM 0 [49, 50, 51, 52, 53, 54, 55, 56, 57] = 3421780262 by decide +kernel] at P4
  clear b34
  have k2 := conv_lit w3 #[.int .u8 49, .int .u8 50, .int .u8 51, .int .u8 52, .int .u8 53, .int .u8 54, .int .u8 55, .int .u8 56, .int .u8 57] 9 9 9 rfl
  go_wp2_with fail
  refine P4.out.mono ?_
  rintro e w' ⟨rfl, rfl⟩
  have P5 := Lib.hid (zeros_any 5 0 _ (by decide) (by decide) HH4.out)
  rw [show zerosM 5 0 = 5 by decide +kernel] at P5
  go_wp2_with fail
  refine P5.out.mono ?_
  rintro e w5 ⟨rfl, b5⟩
  have B5 := Lib.hid (below_trans B4.out b5)
  have HH5 := Lib.hid (HH4.out.below b5 HH4.out.pos)
  clear b5
  have b56 := alloc_below w5 (.cells #[.int .u8 49, .int .u8 50, .int .u8 51, .int .u8 52, .int .u8 53] 5 (5, 6))
  have HH6 := Lib.hid (HH5.out.below b56 HH5.out.pos)
  have B6 := Lib.hid (below_trans B5.out b56)
  clear b56
  have P6 := Lib.hid (sum_any _ _ [49, 50, 51, 52, 53] 5 _ HH6.out (new_slb w5 5 [49, 50, 51, 52, 53] (5, 6)) (by decide) (by decide))
  have k3 := conv_lit w5 #[.int .u8 49, .int .u8 50, .int .u8 51, .int .u8 52, .int .u8 53] 5 5 5 rfl
  go_wp2_with fail
  refine P6.out.mono ?_
  rintro e w' ⟨rfl, rfl⟩
  have b67 := alloc_below (w5.alloc (.cells #[.int .u8 49, .int .u8 50, .int .u8 51, .int .u8 52, .int .u8 53] 5 (5, 6))) (.cells #[.int .u8 54, .int .u8 55, .int .u8 56, .int .u8 57] 5 (4, 5))
  have HH7 := Lib.hid (HH6.out.below b67 HH6.out.pos)
  have B7 := Lib.hid (below_trans B6.out b67)
  clear b67
  have P7 := Lib.hid (sum_any _ _ [54, 55, 56, 57] 4 _ HH7.out (new_slb (w5.alloc (.cells #[.int .u8 49, .int .u8 50, .int .u8 51, .int .u8 52, .int .u8 53] 5 (5, 6))) 5 [54, 55, 56, 57] (4, 5)) (by decide) (by decide))
  have k4 := conv_lit (w5.alloc (.cells #[.int .u8 49, .int .u8 50, .int .u8 51, .int .u8 52, .int .u8 53] 5 (5, 6))) #[.int .u8 54, .int .u8 55, .int .u8 56, .int .u8 57] 4 4 4 rfl
  rw [World.size_alloc] at k4 P7
  go_wp2_with fail
  refine P7.out.mono ?_
  rintro e w' ⟨rfl, rfl⟩
  have P8 := Lib.hid (join_any (moreM 0 [49, 50, 51, 52, 53]) (moreM 0 [54, 55, 56, 57]) 4 _ (moreM_lt _ (by decide)) (moreM_lt _ (by decide)) (by decide) HH7.out)
  rw [show joinM (moreM 0 [49, 50, 51, 52, 53]) (moreM 0 [54, 55, 56, 57]) 4 = 3421780262 by decide +kernel] at P8
  go_wp2_with fail
  refine P8.out.mono ?_
  rintro e w8 ⟨rfl, b8⟩
  go_wp2
  go_ret
  exact ⟨rfl, below_trans B7.out b8⟩
end Go.Proofs.YtalcgkfnjhlnoaaDoor
