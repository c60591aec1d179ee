/- The walk of the law NumOrders. -/
import Derived.Test.YtgpffapnlngnkaaNumPutsW
import Derived.Test.YtgpffapnlngnkaaNumOrd
namespace Go.Proofs.Ytgpffapnlngnkaa
open Go.RowKit

def PutForm (w : World) (e : Ending) (w' : World) : Prop := ∃ A k c f, e = .returned (.tuple #[.slice A k c, .int .i64 f]) ∧ Below w.heap.size w w'
theorem put_form (n : Int) (w : World) (hn : n ≤ 9223372036854775807) : Calls Try.prog 9 #[.int .i64 n] w (PutForm w) := by
  by_cases h : n < 0
  · exact (put_neg n w h).mono fun e w' ⟨he, hb⟩ => ⟨_, _, _, _, he, hb⟩
  · refine (put_ok n w (by omega) hn).mono fun e w' ⟨v, he, ho, hb⟩ => ?_
    obtain ⟨A, c, rfl⟩ := own_form ho
    exact ⟨_, _, _, _, he, hb⟩
set_option maxRecDepth 100000 in
set_option maxHeartbeats 1000000 in
theorem orders_neg (n m : Int) (w : World) (hn : n ≤ 9223372036854775807) (hm : m ≤ 9223372036854775807) (h : n < 0 ∨ m < 0) : Calls Try.prog 6 #[.int .i64 n, .int .i64 m] w (LawPost w) := by
  by_cases h0 : n < 0
  · clear h
    go_enter Try.func6, Try.ntmps6
    go_wp2_with fail
    refine (put_neg n _ h0).mono ?_; rintro e w1 ⟨rfl, b1⟩
    go_wp2_with fail
    refine (put_form m _ hm).mono ?_; rintro e w2 ⟨A, k, c, f, rfl, b2⟩
    go_wp2_with fail
    refine (lives_any _).mono ?_; rintro e w3 ⟨rfl, b3⟩
    go_wp2_with fail
    refine (lives_any _).mono ?_; rintro e w4 ⟨rfl, b4⟩
    go_wp2
    go_ret
    exact ⟨rfl, below_trans (below_trans (below_trans b1 b2) b3) b4⟩
  · have h1 : m < 0 := by omega
    clear h
    go_enter Try.func6, Try.ntmps6
    go_wp2_with fail
    refine (put_ok n _ (by omega) hn).mono ?_; rintro e w1 ⟨v1, rfl, o1, b1⟩
    obtain ⟨A1, c1, rfl⟩ := own_form o1
    clear o1
    go_wp2_with fail
    refine (put_neg m _ h1).mono ?_; rintro e w2 ⟨rfl, b2⟩
    go_wp2_with fail
    refine (lives_any _).mono ?_; rintro e w3 ⟨rfl, b3⟩
    go_wp2_with fail
    refine (lives_any _).mono ?_; rintro e w4 ⟨rfl, b4⟩
    go_wp2
    go_ret
    exact ⟨rfl, below_trans (below_trans (below_trans b1 b2) b3) b4⟩
set_option maxRecDepth 100000 in
set_option maxHeartbeats 2000000 in
theorem orders_eq (n m : Int) (l1 l2 : List UInt8) (w : World) (hl1 : putL n.toNat = l1) (hl2 : putL m.toNat = l2) (h0 : 0 ≤ n) (h0' : 0 ≤ m) (hn : n ≤ 9223372036854775807) (hm : m ≤ 9223372036854775807) (hls : Op.bytesLess l1 l2 = decide (n < m))
    (he : n = m) : Calls Try.prog 6 #[.int .i64 n, .int .i64 m] w (LawPost w) := by
  have P1 := Lib.hid (fun W => put_ok n W h0 hn)
  have P2 := Lib.hid (fun W => put_ok m W h0' hm)
  rw [hl1] at P1
  rw [hl2] at P2
  clear hl1 hl2
  have HL := Lib.hid hls
  clear hls
  subst he
  go_enter Try.func6, Try.ntmps6
  go_wp2_with fail
  refine (P1.out _).mono ?_; rintro e w1 ⟨v1, rfl, o1, b1⟩
  obtain ⟨A1, c1, rfl⟩ := own_form o1
  go_wp2_with fail
  refine (P2.out _).mono ?_; rintro e w2 ⟨v2, rfl, o2, b2⟩
  obtain ⟨A2, c2, rfl⟩ := own_form o2
  have hcap := (own_cap o2).1
  have hcap2 := (own_cap o2).2
  unfold maxLen at hcap2
  obtain ⟨g1, -, s1, -⟩ := SlB.of_own o1
  obtain ⟨g2, -, s2, -⟩ := SlB.of_own o2
  have S1 := Lib.hid (up_conv s1 b2)
  have S2 := Lib.hid s2
  clear o1 o2 s1 s2
  go_wp2_with fail
  refine (lives_any _).mono ?_; rintro e w3 ⟨rfl, b3⟩
  have S13 := Lib.hid (up_conv S1.out b3)
  have S23 := Lib.hid (up_conv S2.out b3)
  go_wp2_with fail
  refine wp_region_R (R := RB) (n := 32) (by kernel_rfl) rfl ?_
  refine batchB [0, 1, 2, 3, 4, 5, 6, 7, 8, 9, 10, 11, 12, 13, 14, 15, 16, 17, 18, 19, 20, 21, 22, 23, 24, 25, 26, 27, 28, 29, 30, 31] (fuel := 0) rfl (by kernel_rfl) (by kernel_rfl) (fun _ _ d _ _ h => by cases d <;> exact h) ?_
  repeat (first | ((with_reducible apply wq0); rfl; rfl; rfl; intro K hK; go_big_quiet_op; refine hK _ ?_; clear hK K) | ((with_reducible apply wq1); rfl; rfl; rfl; rfl; rfl; rfl; intro K hK; go_big_quiet_op; refine hK _ ?_; clear hK K) | ((with_reducible apply wqs); rfl; rfl; rfl; rfl; rfl; rfl; simp only [Act.put, List.setIfInBounds_toArray, List.set_cons_zero, List.set_cons_succ]) | ((with_reducible apply wqu); rfl; rfl; rfl; rfl; rfl; simp only [Act.put, List.setIfInBounds_toArray, List.set_cons_zero, List.set_cons_succ]))
  refine wqIdx_conv rfl rfl rfl rfl (conv_later (w1 := w3.drew) S13.out c1 rfl) ?_
  simp only [Act.put, List.setIfInBounds_toArray, List.set_cons_zero, List.set_cons_succ]
  repeat (first | ((with_reducible apply wq0); rfl; rfl; rfl; intro K hK; go_big_quiet_op; refine hK _ ?_; clear hK K) | ((with_reducible apply wq1); rfl; rfl; rfl; rfl; rfl; rfl; intro K hK; go_big_quiet_op; refine hK _ ?_; clear hK K) | ((with_reducible apply wqs); rfl; rfl; rfl; rfl; rfl; rfl; simp only [Act.put, List.setIfInBounds_toArray, List.set_cons_zero, List.set_cons_succ]) | ((with_reducible apply wqu); rfl; rfl; rfl; rfl; rfl; simp only [Act.put, List.setIfInBounds_toArray, List.set_cons_zero, List.set_cons_succ]))
  refine wqIdx_conv rfl rfl rfl rfl (conv_later (w1 := w3.drew) S23.out c2 rfl) ?_
  simp only [Act.put, List.setIfInBounds_toArray, List.set_cons_zero, List.set_cons_succ]
  have hless := HL.out
  repeat (first | ((with_reducible apply wq0); rfl; rfl; rfl; intro K hK; go_big_quiet_op; refine hK _ ?_; clear hK K) | ((with_reducible apply wq1); rfl; rfl; rfl; rfl; rfl; rfl; intro K hK; go_big_quiet_op; refine hK _ ?_; clear hK K) | ((with_reducible apply wqs); rfl; rfl; rfl; rfl; rfl; rfl; simp only [Act.put, List.setIfInBounds_toArray, List.set_cons_zero, List.set_cons_succ]) | ((with_reducible apply wqu); rfl; rfl; rfl; rfl; rfl; simp only [Act.put, List.setIfInBounds_toArray, List.set_cons_zero, List.set_cons_succ]))
  refine wqIdx_nil ?_
  refine wpAnyR_done (by kernel_rfl) ?_ _
  go_wp2
  go_ret
  exact ⟨rfl, (below_trans (below_trans b1 b2) b3).drew⟩
set_option maxRecDepth 100000 in
set_option maxHeartbeats 2000000 in
theorem orders_gt (n m : Int) (l1 l2 : List UInt8) (w : World) (hl1 : putL n.toNat = l1) (hl2 : putL m.toNat = l2) (h0 : 0 ≤ n) (h0' : 0 ≤ m) (hn : n ≤ 9223372036854775807) (hm : m ≤ 9223372036854775807) (hls : Op.bytesLess l1 l2 = decide (n < m))
    (hne : n ≠ m) (hgt : l2.length < l1.length) : Calls Try.prog 6 #[.int .i64 n, .int .i64 m] w (LawPost w) := by
  have P1 := Lib.hid (fun W => put_ok n W h0 hn)
  have P2 := Lib.hid (fun W => put_ok m W h0' hm)
  rw [hl1] at P1
  rw [hl2] at P2
  clear hl1 hl2
  have HL := Lib.hid hls
  clear hls
  have d1 : (n == m) = false := by simpa using hne
  have d2 : decide (l2.length < l1.length) = true := by simpa using hgt
  clear hne hgt
  go_enter Try.func6, Try.ntmps6
  go_wp2_with fail
  refine (P1.out _).mono ?_; rintro e w1 ⟨v1, rfl, o1, b1⟩
  obtain ⟨A1, c1, rfl⟩ := own_form o1
  go_wp2_with fail
  refine (P2.out _).mono ?_; rintro e w2 ⟨v2, rfl, o2, b2⟩
  obtain ⟨A2, c2, rfl⟩ := own_form o2
  have hcap := (own_cap o2).1
  have hcap2 := (own_cap o2).2
  unfold maxLen at hcap2
  obtain ⟨g1, -, s1, -⟩ := SlB.of_own o1
  obtain ⟨g2, -, s2, -⟩ := SlB.of_own o2
  have S1 := Lib.hid (up_conv s1 b2)
  have S2 := Lib.hid s2
  clear o1 o2 s1 s2
  go_wp2_with fail
  refine (lives_any _).mono ?_; rintro e w3 ⟨rfl, b3⟩
  have S13 := Lib.hid (up_conv S1.out b3)
  have S23 := Lib.hid (up_conv S2.out b3)
  go_wp2_with fail
  refine wp_region_R (R := RB) (n := 32) (by kernel_rfl) rfl ?_
  refine batchB [0, 1, 2, 3, 4, 5, 6, 7, 8, 9, 10, 11, 12, 13, 14, 15, 16, 17, 18, 19, 20, 21, 22, 23, 24, 25, 26, 27, 28, 29, 30, 31] (fuel := 0) rfl (by kernel_rfl) (by kernel_rfl) (fun _ _ d _ _ h => by cases d <;> exact h) ?_
  repeat (first | ((with_reducible apply wq0); rfl; rfl; rfl; intro K hK; go_big_quiet_op; refine hK _ ?_; clear hK K) | ((with_reducible apply wq1); rfl; rfl; rfl; rfl; rfl; rfl; intro K hK; go_big_quiet_op; refine hK _ ?_; clear hK K) | ((with_reducible apply wqs); rfl; rfl; rfl; rfl; rfl; rfl; simp only [Act.put, List.setIfInBounds_toArray, List.set_cons_zero, List.set_cons_succ]) | ((with_reducible apply wqu); rfl; rfl; rfl; rfl; rfl; simp only [Act.put, List.setIfInBounds_toArray, List.set_cons_zero, List.set_cons_succ]))
  refine wqIdx_conv rfl rfl rfl rfl (conv_later (w1 := w3.drew) S13.out c1 rfl) ?_
  simp only [Act.put, List.setIfInBounds_toArray, List.set_cons_zero, List.set_cons_succ]
  repeat (first | ((with_reducible apply wq0); rfl; rfl; rfl; intro K hK; go_big_quiet_op; refine hK _ ?_; clear hK K) | ((with_reducible apply wq1); rfl; rfl; rfl; rfl; rfl; rfl; intro K hK; go_big_quiet_op; refine hK _ ?_; clear hK K) | ((with_reducible apply wqs); rfl; rfl; rfl; rfl; rfl; rfl; simp only [Act.put, List.setIfInBounds_toArray, List.set_cons_zero, List.set_cons_succ]) | ((with_reducible apply wqu); rfl; rfl; rfl; rfl; rfl; simp only [Act.put, List.setIfInBounds_toArray, List.set_cons_zero, List.set_cons_succ]))
  refine wqIdx_conv rfl rfl rfl rfl (conv_later (w1 := w3.drew) S23.out c2 rfl) ?_
  simp only [Act.put, List.setIfInBounds_toArray, List.set_cons_zero, List.set_cons_succ]
  have hless := HL.out
  repeat (first | ((with_reducible apply wq0); rfl; rfl; rfl; intro K hK; go_big_quiet_op; refine hK _ ?_; clear hK K) | ((with_reducible apply wq1); rfl; rfl; rfl; rfl; rfl; rfl; intro K hK; go_big_quiet_op; refine hK _ ?_; clear hK K) | ((with_reducible apply wqs); rfl; rfl; rfl; rfl; rfl; rfl; simp only [Act.put, List.setIfInBounds_toArray, List.set_cons_zero, List.set_cons_succ]) | ((with_reducible apply wqu); rfl; rfl; rfl; rfl; rfl; simp only [Act.put, List.setIfInBounds_toArray, List.set_cons_zero, List.set_cons_succ]))
  refine wqIdx_nil ?_
  refine wpAnyR_done (by kernel_rfl) ?_ _
  go_wp2
  go_ret
  exact ⟨rfl, (below_trans (below_trans b1 b2) b3).drew⟩
set_option maxRecDepth 100000 in
set_option maxHeartbeats 2000000 in
theorem orders_le (n m : Int) (l1 l2 : List UInt8) (w : World) (hl1 : putL n.toNat = l1) (hl2 : putL m.toNat = l2) (h0 : 0 ≤ n) (h0' : 0 ≤ m) (hn : n ≤ 9223372036854775807) (hm : m ≤ 9223372036854775807) (hls : Op.bytesLess l1 l2 = decide (n < m))
    (hne : n ≠ m) (hle : l1.length ≤ l2.length) (htk : l2.take l1.length ≠ l1) : Calls Try.prog 6 #[.int .i64 n, .int .i64 m] w (LawPost w) := by
  have P1 := Lib.hid (fun W => put_ok n W h0 hn)
  have P2 := Lib.hid (fun W => put_ok m W h0' hm)
  rw [hl1] at P1
  rw [hl2] at P2
  clear hl1 hl2
  have HL := Lib.hid hls
  clear hls
  have d1 : (n == m) = false := by simpa using hne
  have d2 : decide (l2.length < l1.length) = false := by simp; omega
  have HT := Lib.hid htk
  clear hne htk
  go_enter Try.func6, Try.ntmps6
  go_wp2_with fail
  refine (P1.out _).mono ?_; rintro e w1 ⟨v1, rfl, o1, b1⟩
  obtain ⟨A1, c1, rfl⟩ := own_form o1
  go_wp2_with fail
  refine (P2.out _).mono ?_; rintro e w2 ⟨v2, rfl, o2, b2⟩
  obtain ⟨A2, c2, rfl⟩ := own_form o2
  have hcap := (own_cap o2).1
  have hcap2 := (own_cap o2).2
  unfold maxLen at hcap2
  obtain ⟨g1, -, s1, -⟩ := SlB.of_own o1
  obtain ⟨g2, -, s2, -⟩ := SlB.of_own o2
  have S1 := Lib.hid (up_conv s1 b2)
  have S2 := Lib.hid s2
  clear o1 o2 s1 s2
  go_wp2_with fail
  refine (lives_any _).mono ?_; rintro e w3 ⟨rfl, b3⟩
  have S13 := Lib.hid (up_conv S1.out b3)
  have S23 := Lib.hid (up_conv S2.out b3)
  go_wp2_with fail
  refine wp_region_R (R := RB) (n := 32) (by kernel_rfl) rfl ?_
  refine batchB [0, 1, 2, 3, 4, 5, 6, 7, 8, 9, 10, 11, 12, 13, 14, 15, 16, 17, 18, 19, 20, 21, 22, 23, 24, 25, 26, 27, 28, 29, 30, 31] (fuel := 0) rfl (by kernel_rfl) (by kernel_rfl) (fun _ _ d _ _ h => by cases d <;> exact h) ?_
  repeat (first | ((with_reducible apply wq0); rfl; rfl; rfl; intro K hK; go_big_quiet_op; refine hK _ ?_; clear hK K) | ((with_reducible apply wq1); rfl; rfl; rfl; rfl; rfl; rfl; intro K hK; go_big_quiet_op; refine hK _ ?_; clear hK K) | ((with_reducible apply wqs); rfl; rfl; rfl; rfl; rfl; rfl; simp only [Act.put, List.setIfInBounds_toArray, List.set_cons_zero, List.set_cons_succ]) | ((with_reducible apply wqu); rfl; rfl; rfl; rfl; rfl; simp only [Act.put, List.setIfInBounds_toArray, List.set_cons_zero, List.set_cons_succ]))
  refine wqIdx_conv rfl rfl rfl rfl (conv_later (w1 := w3.drew) S13.out c1 rfl) ?_
  simp only [Act.put, List.setIfInBounds_toArray, List.set_cons_zero, List.set_cons_succ]
  repeat (first | ((with_reducible apply wq0); rfl; rfl; rfl; intro K hK; go_big_quiet_op; refine hK _ ?_; clear hK K) | ((with_reducible apply wq1); rfl; rfl; rfl; rfl; rfl; rfl; intro K hK; go_big_quiet_op; refine hK _ ?_; clear hK K) | ((with_reducible apply wqs); rfl; rfl; rfl; rfl; rfl; rfl; simp only [Act.put, List.setIfInBounds_toArray, List.set_cons_zero, List.set_cons_succ]) | ((with_reducible apply wqu); rfl; rfl; rfl; rfl; rfl; simp only [Act.put, List.setIfInBounds_toArray, List.set_cons_zero, List.set_cons_succ]))
  refine wqIdx_conv rfl rfl rfl rfl (conv_later (w1 := w3.drew) S23.out c2 rfl) ?_
  simp only [Act.put, List.setIfInBounds_toArray, List.set_cons_zero, List.set_cons_succ]
  have hless := HL.out
  repeat (first | ((with_reducible apply wq0); rfl; rfl; rfl; intro K hK; go_big_quiet_op; refine hK _ ?_; clear hK K) | ((with_reducible apply wq1); rfl; rfl; rfl; rfl; rfl; rfl; intro K hK; go_big_quiet_op; refine hK _ ?_; clear hK K) | ((with_reducible apply wqs); rfl; rfl; rfl; rfl; rfl; rfl; simp only [Act.put, List.setIfInBounds_toArray, List.set_cons_zero, List.set_cons_succ]) | ((with_reducible apply wqu); rfl; rfl; rfl; rfl; rfl; simp only [Act.put, List.setIfInBounds_toArray, List.set_cons_zero, List.set_cons_succ]))
  refine wqIdx_conv rfl rfl rfl rfl (conv_later (w1 := w3.drew) (S23.out.take l1.length) c2 (by rw [List.length_take, Nat.min_eq_left hle])) ?_
  simp only [Act.put, List.setIfInBounds_toArray, List.set_cons_zero, List.set_cons_succ]
  repeat (first | ((with_reducible apply wq0); rfl; rfl; rfl; intro K hK; go_big_quiet_op; refine hK _ ?_; clear hK K) | ((with_reducible apply wq1); rfl; rfl; rfl; rfl; rfl; rfl; intro K hK; go_big_quiet_op; refine hK _ ?_; clear hK K) | ((with_reducible apply wqs); rfl; rfl; rfl; rfl; rfl; rfl; simp only [Act.put, List.setIfInBounds_toArray, List.set_cons_zero, List.set_cons_succ]) | ((with_reducible apply wqu); rfl; rfl; rfl; rfl; rfl; simp only [Act.put, List.setIfInBounds_toArray, List.set_cons_zero, List.set_cons_succ]))
  refine wqIdx_conv rfl rfl rfl rfl (conv_later (w1 := w3.drew) S13.out c1 rfl) ?_
  simp only [Act.put, List.setIfInBounds_toArray, List.set_cons_zero, List.set_cons_succ]
  have htk : (l2.take l1.length == l1) = false := by simpa using HT.out
  repeat (first | ((with_reducible apply wq0); rfl; rfl; rfl; intro K hK; go_big_quiet_op; refine hK _ ?_; clear hK K) | ((with_reducible apply wq1); rfl; rfl; rfl; rfl; rfl; rfl; intro K hK; go_big_quiet_op; refine hK _ ?_; clear hK K) | ((with_reducible apply wqs); rfl; rfl; rfl; rfl; rfl; rfl; simp only [Act.put, List.setIfInBounds_toArray, List.set_cons_zero, List.set_cons_succ]) | ((with_reducible apply wqu); rfl; rfl; rfl; rfl; rfl; simp only [Act.put, List.setIfInBounds_toArray, List.set_cons_zero, List.set_cons_succ]))
  refine wqIdx_nil ?_
  refine wpAnyR_done (by kernel_rfl) ?_ _
  go_wp2
  go_ret
  exact ⟨rfl, (below_trans (below_trans b1 b2) b3).drew⟩
theorem orders_any (n m : Int) (w : World) (hn : n ≤ 9223372036854775807) (hm : m ≤ 9223372036854775807) : Calls Try.prog 6 #[.int .i64 n, .int .i64 m] w (LawPost w) := by
  by_cases h : n < 0 ∨ m < 0
  · exact orders_neg n m w hn hm h
  · have h0 : 0 ≤ n := by omega
    have h1 : 0 ≤ m := by omega
    by_cases he : n = m
    · refine orders_eq n m _ _ w rfl rfl h0 h1 hn hm ?_ he
      subst he
      rw [less_irrefl]
      simp
    · have hlt : n < m ∨ m < n := by omega
      rcases hlt with hlt | hlt
      · have hL := putL_lt n.toNat m.toNat (by omega) (by omega)
        have hls : Op.bytesLess (putL n.toNat) (putL m.toNat) = decide (n < m) := by rw [hL.less, decide_eq_true hlt]
        by_cases hg : (putL m.toNat).length < (putL n.toNat).length
        · exact orders_gt n m _ _ w rfl rfl h0 h1 hn hm hls he hg
        · exact orders_le n m _ _ w rfl rfl h0 h1 hn hm hls he (by omega) hL.take_ne
      · have hL := putL_lt m.toNat n.toNat (by omega) (by omega)
        have hls : Op.bytesLess (putL n.toNat) (putL m.toNat) = decide (n < m) := by rw [hL.not_less, decide_eq_false (by omega)]
        by_cases hg : (putL m.toNat).length < (putL n.toNat).length
        · exact orders_gt n m _ _ w rfl rfl h0 h1 hn hm hls he hg
        · exact orders_le n m _ _ w rfl rfl h0 h1 hn hm hls he (by omega) hL.take_ne'
end Go.Proofs.Ytgpffapnlngnkaa
