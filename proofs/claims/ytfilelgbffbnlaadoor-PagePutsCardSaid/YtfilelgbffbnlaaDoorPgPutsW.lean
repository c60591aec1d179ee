/- The walk of the law PagePuts. -/
import Derived.Test.YtfilelgbffbnlaaDoorPgJ
import Derived.Test.YtfilelgbffbnlaaDoorOp
namespace Go.Proofs.YtfilelgbffbnlaaDoor
open Go.RowKit

set_option maxRecDepth 100000 in
set_option maxHeartbeats 4000000 in
theorem puts_ok (tag : Int) (A : Option Addr) (g : Nat) (b : List UInt8) (c : Nat) (w : World) (hs : SlB w g A b) (hbc : b.length ≤ c) (hc : c ≤ maxLen) (hh : HalvesAt w) (hl : b.length ≤ 43) (ht : okTag tag = true) :
    Calls Tryd.prog 3 #[.int .i64 tag, .slice A b.length c] w (LawPost w) := by
  have hti := (okTag_iff tag).1 ht
  obtain ⟨t, rfl⟩ := Int.eq_ofNat_of_zero_le (show 0 ≤ tag by omega)
  have d1 : decide ((5000 : Int) < (b.length : Int)) = false := by rw [decide_eq_false_iff_not]; omega
  have d2 : decide ((43 : Int) < (b.length : Int)) = false := by rw [decide_eq_false_iff_not]; omega
  have P1 := Lib.hid (pput_pg (t : Int) A g b c w ht hs hl hbc hc hh)
  have PR := Lib.hid (fun W (s : SlB W g A b) => rpput_ok (t : Int) A g b c W ht s hl hbc hc)
  rw [Int.toNat_natCast] at P1
  simp only [Int.toNat_natCast] at PR
  have HP1 := Lib.hid (getE_page t b ht hl)
  have HP3 := Lib.hid (pageM_tagOk t b ht hl)
  have HP4 := Lib.hid (pageM_tagV t b (by omega))
  have HP5 := Lib.hid (getD_page t b ht hl)
  generalize pageM t b = pg at P1 PR HP1 HP3 HP4 HP5
  have HS := Lib.hid hs
  have HH := Lib.hid hh
  clear hs hh
  go_enter Tryd.func3, Tryd.ntmps3
  go_wp2_with fail
  refine P1.out.mono ?_; rintro e w1 ⟨A1, c1, rfl, p1, b1⟩
  obtain ⟨hn1, g1, s1, q11, q12⟩ := p1.slb
  have B1 := Lib.hid b1
  have S1 := Lib.hid s1
  have HN1 := Lib.hid hn1
  have Q11 := Lib.hid q11
  have Q12 := Lib.hid q12
  clear p1 b1 s1 hn1 q11 q12 P1
  go_wp2_with fail
  refine (lives_any w1 (HH.out.below B1.out HH.out.pos)).mono ?_; rintro e w2 ⟨rfl, b2⟩
  have B2 := Lib.hid (below_trans B1.out b2)
  have S1 := Lib.hid (S1.out.below b2 fun h => h)
  clear b2
  go_wp2_with fail
  refine (rmay_any (t : Int) w2).mono ?_; rintro e w' ⟨rfl, rfl⟩
  rw [ht]
  have P2 := Lib.hid (pget_any A1 g1 pg c1 (t : Int) w2 S1.out Q11.out Q12.out (HH.out.below B2.out HH.out.pos))
  unfold GetAns at P2
  rw [HP5.out, HP1.out, ← HN1.out] at P2
  go_wp2_with fail
  refine P2.out.mono ?_; rintro e w3 ⟨A3, c3, rfl, n3, b3⟩
  obtain ⟨g3, s3, -, -, -⟩ := n3
  have B3 := Lib.hid (below_trans B2.out b3)
  have S3 := Lib.hid s3
  have S1 := Lib.hid (S1.out.below b3 fun h => h)
  have P3 := Lib.hid (ptag_any A1 g1 pg c1 w3 S1.out Q11.out Q12.out)
  unfold TagAns tagT at P3
  rw [HP3.out, if_pos rfl, HP4.out, ← HN1.out] at P3
  clear b3 s3 P2
  go_wp2_with fail
  refine P3.out.mono ?_; rintro e w4 ⟨rfl, b4⟩
  have B4 := Lib.hid (below_trans B3.out b4)
  have S3 := Lib.hid (S3.out.below b4 fun h => h)
  have S1 := Lib.hid (S1.out.below b4 fun h => h)
  clear b4 P3
  go_wp2_with fail
  refine wp_region_R (R := RB) (n := 31) (by kernel_rfl) rfl ?_
  refine batchB [0, 1, 2, 3, 4, 5, 6] (fuel := 24) rfl (by kernel_rfl) (by kernel_rfl) (fun _ _ d _ _ h => by cases d <;> exact h) ?_
  (repeat (first | ((with_reducible apply wq0); rfl; rfl; rfl; intro K hK; go_big_quiet_op; refine hK _ ?_; clear hK K) | ((with_reducible apply wq1); rfl; rfl; rfl; rfl; rfl; rfl; intro K hK; go_big_quiet_op; refine hK _ ?_; clear hK K) | ((with_reducible apply wqs); rfl; rfl; rfl; rfl; rfl; rfl; simp only [Act.put, List.setIfInBounds_toArray, List.set_cons_zero, List.set_cons_succ]) | ((with_reducible apply wqu); rfl; rfl; rfl; rfl; rfl; simp only [same, Act.put, List.setIfInBounds_toArray, List.set_cons_zero, List.set_cons_succ])))
  refine wqIdx_conv rfl rfl rfl rfl (conv_later (w1 := w4.drew) S1.out c1 HN1.out) ?_; simp only [Act.put, List.setIfInBounds_toArray, List.set_cons_zero, List.set_cons_succ]
  (repeat (first | ((with_reducible apply wq0); rfl; rfl; rfl; intro K hK; go_big_quiet_op; refine hK _ ?_; clear hK K) | ((with_reducible apply wq1); rfl; rfl; rfl; rfl; rfl; rfl; intro K hK; go_big_quiet_op; refine hK _ ?_; clear hK K) | ((with_reducible apply wqs); rfl; rfl; rfl; rfl; rfl; rfl; simp only [Act.put, List.setIfInBounds_toArray, List.set_cons_zero, List.set_cons_succ]) | ((with_reducible apply wqu); rfl; rfl; rfl; rfl; rfl; simp only [same, Act.put, List.setIfInBounds_toArray, List.set_cons_zero, List.set_cons_succ])))
  refine wqIdx_nil ?_
  have b4d := below_drew0 w4
  have P5 := Lib.hid (PR.out w4.drew (HS.out.below (show Below w.heap.size w w4.drew from ⟨B4.out.os, B4.out.tape, B4.out.output, B4.out.size, B4.out.block⟩) fun h => h))
  refine wpAnyR_sole (i := 7) rfl (by kernel_rfl) (fun K hK => ?_); go_simp
  refine P5.out.mono ?_; rintro e w5 ho5
  obtain ⟨A5, c5, g5, rfl, s5, b5⟩ := own_ans ho5
  refine hK _ _ b5 ?_
  have S5 := Lib.hid s5
  have B5 := Lib.hid (show Below w.heap.size w w5 from below_trans B4.out ⟨b5.os, b5.tape, b5.output, b5.size, b5.block⟩)
  have S1 := Lib.hid (S1.out.below (show Below w4.heap.size w4 w5 from ⟨b5.os, b5.tape, b5.output, b5.size, b5.block⟩) fun h => h)
  have S3 := Lib.hid (S3.out.below (show Below w4.heap.size w4 w5 from ⟨b5.os, b5.tape, b5.output, b5.size, b5.block⟩) fun h => h)
  have S0 := Lib.hid (HS.out.below B5.out fun h => h)
  clear hK K ho5 b5 s5 b4d P5
  refine batchB [8, 9, 10, 11, 12, 13, 14, 15, 16, 17, 18, 19, 20, 21, 22, 23, 24, 25, 26, 27, 28, 29, 30] (fuel := 0) rfl (by kernel_rfl) (by kernel_rfl) (fun _ _ d _ _ h => by cases d <;> exact h) ?_
  refine wqIdx_conv rfl rfl rfl rfl (conv_later S5.out c5 rfl) ?_; simp only [Act.put, List.setIfInBounds_toArray, List.set_cons_zero, List.set_cons_succ]
  (repeat (first | ((with_reducible apply wq0); rfl; rfl; rfl; intro K hK; go_big_quiet_op; refine hK _ ?_; clear hK K) | ((with_reducible apply wq1); rfl; rfl; rfl; rfl; rfl; rfl; intro K hK; go_big_quiet_op; refine hK _ ?_; clear hK K) | ((with_reducible apply wqs); rfl; rfl; rfl; rfl; rfl; rfl; simp only [Act.put, List.setIfInBounds_toArray, List.set_cons_zero, List.set_cons_succ]) | ((with_reducible apply wqu); rfl; rfl; rfl; rfl; rfl; simp only [same, Act.put, List.setIfInBounds_toArray, List.set_cons_zero, List.set_cons_succ])))
  refine wqIdx_conv rfl rfl rfl rfl (conv_later S3.out c3 rfl) ?_; simp only [Act.put, List.setIfInBounds_toArray, List.set_cons_zero, List.set_cons_succ]
  (repeat (first | ((with_reducible apply wq0); rfl; rfl; rfl; intro K hK; go_big_quiet_op; refine hK _ ?_; clear hK K) | ((with_reducible apply wq1); rfl; rfl; rfl; rfl; rfl; rfl; intro K hK; go_big_quiet_op; refine hK _ ?_; clear hK K) | ((with_reducible apply wqs); rfl; rfl; rfl; rfl; rfl; rfl; simp only [Act.put, List.setIfInBounds_toArray, List.set_cons_zero, List.set_cons_succ]) | ((with_reducible apply wqu); rfl; rfl; rfl; rfl; rfl; simp only [same, Act.put, List.setIfInBounds_toArray, List.set_cons_zero, List.set_cons_succ])))
  refine wqIdx_conv rfl rfl rfl rfl (conv_later S0.out c rfl) ?_; simp only [Act.put, List.setIfInBounds_toArray, List.set_cons_zero, List.set_cons_succ]
  (repeat (first | ((with_reducible apply wq0); rfl; rfl; rfl; intro K hK; go_big_quiet_op; refine hK _ ?_; clear hK K) | ((with_reducible apply wq1); rfl; rfl; rfl; rfl; rfl; rfl; intro K hK; go_big_quiet_op; refine hK _ ?_; clear hK K) | ((with_reducible apply wqs); rfl; rfl; rfl; rfl; rfl; rfl; simp only [Act.put, List.setIfInBounds_toArray, List.set_cons_zero, List.set_cons_succ]) | ((with_reducible apply wqu); rfl; rfl; rfl; rfl; rfl; simp only [same, Act.put, List.setIfInBounds_toArray, List.set_cons_zero, List.set_cons_succ])))
  refine wqIdx_nil ?_
  refine wpAnyR_done (by kernel_rfl) ?_ _
  go_wp2
  go_ret
  exact ⟨rfl, B5.out⟩
set_option maxRecDepth 100000 in
set_option maxHeartbeats 2000000 in
theorem puts_arg (tag : Int) (A : Option Addr) (b : List UInt8) (c : Nat) (w : World) (hh : HalvesAt w) (hl : b.length ≤ 5000) (ht : okTag tag = false) :
    Calls Tryd.prog 3 #[.int .i64 tag, .slice A b.length c] w (LawPost w) := by
  have d1 : decide ((5000 : Int) < (b.length : Int)) = false := by rw [decide_eq_false_iff_not]; omega
  have HH := Lib.hid hh
  clear hh
  go_enter Tryd.func3, Tryd.ntmps3
  go_wp2_with fail
  refine (pput_arg tag A b c w ht).mono ?_; rintro e w1 ⟨rfl, b1⟩
  go_wp2_with fail
  refine (lives_any w1 (HH.out.below b1 HH.out.pos)).mono ?_; rintro e w2 ⟨rfl, b2⟩
  have B2 := Lib.hid (below_trans b1 b2)
  clear b1 b2
  go_wp2_with fail
  refine (rmay_any tag w2).mono ?_; rintro e w' ⟨rfl, rfl⟩
  rw [ht]
  go_wp2
  go_ret
  exact ⟨rfl, B2.out⟩
set_option maxRecDepth 100000 in
set_option maxHeartbeats 2000000 in
theorem puts_long (tag : Int) (A : Option Addr) (b : List UInt8) (c : Nat) (w : World) (hh : HalvesAt w) (hl : b.length ≤ 5000) (hl2 : 43 < b.length) (ht : okTag tag = true) :
    Calls Tryd.prog 3 #[.int .i64 tag, .slice A b.length c] w (LawPost w) := by
  have d1 : decide ((5000 : Int) < (b.length : Int)) = false := by rw [decide_eq_false_iff_not]; omega
  have d2 : decide ((43 : Int) < (b.length : Int)) = true := by rw [decide_eq_true_eq]; omega
  have HH := Lib.hid hh
  clear hh
  go_enter Tryd.func3, Tryd.ntmps3
  go_wp2_with fail
  refine (pput_long tag A b c w ht hl2).mono ?_; rintro e w1 ⟨rfl, b1⟩
  go_wp2_with fail
  refine (lives_any w1 (HH.out.below b1 HH.out.pos)).mono ?_; rintro e w2 ⟨rfl, b2⟩
  have B2 := Lib.hid (below_trans b1 b2)
  clear b1 b2
  go_wp2_with fail
  refine (rmay_any tag w2).mono ?_; rintro e w' ⟨rfl, rfl⟩
  rw [ht]
  go_wp2
  go_ret
  exact ⟨rfl, B2.out⟩
theorem puts_law (tag : Int) (A : Option Addr) (g : Nat) (b : List UInt8) (c : Nat) (w : World) (hin : InB w A g b c) (hh : HalvesAt w) :
    Calls Tryd.prog 3 #[.int .i64 tag, .slice A b.length c] w (LawPost w) := by
  have hlm : b.length ≤ 9223372036854775807 := Nat.le_trans hin.2.1 hin.2.2
  by_cases h1 : 5000 < b.length
  · have d1 : decide ((5000 : Int) < (b.length : Int)) = true := by rw [decide_eq_true_eq]; omega
    have HH := Lib.hid hh
    clear hh hin
    go_enter Tryd.func3, Tryd.ntmps3
    go_wp2_with fail
    refine (lives_any _ HH.out).mono ?_; rintro e w1 ⟨rfl, b1⟩
    go_wp2
    go_ret
    exact ⟨rfl, b1⟩
  · by_cases ht : okTag tag = true
    · by_cases h2 : 43 < b.length
      · exact puts_long tag A b c w hh (by omega) h2 ht
      · exact puts_ok tag A g b c w hin.1 hin.2.1 hin.2.2 hh (by omega) ht
    · exact puts_arg tag A b c w hh (by omega) (by simpa using ht)
end Go.Proofs.YtfilelgbffbnlaaDoor
