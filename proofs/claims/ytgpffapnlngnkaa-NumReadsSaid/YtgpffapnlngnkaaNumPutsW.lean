/- The walk of the law NumPuts. -/
import Derived.Test.YtgpffapnlngnkaaNumG
namespace Go.Proofs.Ytgpffapnlngnkaa
open Go.RowKit

def LawPost (w : World) (e : Ending) (w' : World) : Prop := e = .returned (.bool true) ∧ Below w.heap.size w w'
/-- What the document's Fix answers where there is no such number: anything, and false. -/
def RefFixOut (w : World) (e : Ending) (w' : World) : Prop := ∃ A n c, e = .returned (.tuple #[.slice A n c, .bool false]) ∧ Below w.heap.size w w'
theorem rfix_no (n size : Int) (w : World) (hn : n ≤ 9223372036854775807) (h : ¬ fixable n size) : Calls Try.prog 11 #[.int .i64 n, .int .i64 size] w (RefFixOut w) := by
  by_cases h1 : n < 0 ∨ size < 1 ∨ 8 < size
  · exact (rfix_off n size w h1).mono fun e w' ⟨he, hb⟩ => ⟨none, 0, 0, he, hb⟩
  · refine (rfix_i n size n.toNat size.toNat w (by omega) (by omega) (by omega) (by omega) (by omega)).mono fun e w' ⟨A, c, he, _, hb⟩ => ⟨A, size.toNat, c, ?_, hb⟩
    have hd : decide (n.toNat < 256 ^ size.toNat) = false := by
      rw [decide_eq_false_iff_not]
      exact fun h4 => h ⟨by omega, by omega, by omega, h4⟩
    rw [he, hd]
def RefFixYes (w : World) (l : List UInt8) (e : Ending) (w' : World) : Prop :=
  ∃ A c, e = .returned (.tuple #[.slice A l.length c, .bool true]) ∧ w'.ownsRow w.heap.size 5 1 (.slice A l.length c) l.length (Byt l) ∧ Below w.heap.size w w'
theorem rfix_yes (n size : Int) (w : World) (hn : n ≤ 9223372036854775807) (h : fixable n size) : Calls Try.prog 11 #[.int .i64 n, .int .i64 size] w (RefFixYes w (be size.toNat n.toNat)) := by
  have h' := h
  obtain ⟨h1, h2, h3, h4⟩ := h
  refine (rfix_i n size n.toNat size.toNat w (by omega) (by omega) (by omega) (by omega) (by omega)).mono fun e w' ⟨A, c, he, ho, hb⟩ => ⟨A, c, ?_, ?_, hb⟩
  · rw [he, be_length, decide_eq_true h4]
  · rw [be_length]; exact ho

theorem up_conv {w1 w2 : World} {h : Nat} {A : Option Addr} {l : List UInt8} (s : SlB w1 h A l) (hb : RB w1 w2) : SlB w2 h A l := s.below hb fun h => h
/-- string(b) in whatever world comes behind this one. -/
theorem conv_later {w1 : World} {h : Nat} {A : Option Addr} {l : List UInt8} (s : SlB w1 h A l) (c : Nat) {n : Nat} (hn : n = l.length) :
    ∀ w, RB w1 w → (convert 23 9 (.slice A n c)).run Try.prog w = .ok (.string ⟨l.toArray⟩) w :=
  fun w hb => run_convB w Try.underlying23 Try.underlying5 Try.underlying9 c ((up_conv s hb).reads hn)

set_option maxHeartbeats 2000000 in
set_option maxRecDepth 100000 in
theorem puts_yes (n size : Int) (s : ByteArray) (w : World) (hn : n ≤ 9223372036854775807) (hs : s.size ≤ 5000) (h0 : 0 ≤ n) (hf : fixable n size) :
    Calls Try.prog 3 #[.int .i64 n, .int .i64 size, .string s] w (LawPost w) := by
  have P1 := Lib.hid (fun W => put_ok n W h0 hn)
  have P2 := Lib.hid (fun W => fix_yes n size W hn hf)
  have P3 := Lib.hid (fun W => rfix_yes n size W hn hf)
  have P4 := Lib.hid (fun W => text_any s W (by omega))
  have P5 := Lib.hid (fun W => rtext_any s W (by omega))
  have P6 := Lib.hid (fun W => rput_any n.toNat W (by omega))
  have P7 := Lib.hid (fun W => size_ok n.toNat W (by omega))
  rw [Int.toNat_of_nonneg h0] at P6 P7
  generalize hL : be size.toNat n.toNat = l at P2 P3
  clear hL hf
  go_enter Try.func3, Try.ntmps3
  go_wp2_with fail
  refine (P1.out _).mono ?_; rintro e w1 ⟨v1, rfl, o1, b1⟩
  obtain ⟨A1, c1, rfl⟩ := own_form o1
  go_wp2_with fail
  refine (P2.out _).mono ?_; rintro e w2 ⟨v2, rfl, o2, b2⟩
  obtain ⟨A2, c2, rfl⟩ := own_form o2
  go_wp2_with fail
  refine (P3.out _).mono ?_; rintro e w3 ⟨A3, c3, rfl, o3, b3⟩
  obtain ⟨g1, -, s1, -⟩ := SlB.of_own o1
  obtain ⟨g2, -, s2, -⟩ := SlB.of_own o2
  obtain ⟨g3, -, s3, -⟩ := SlB.of_own o3
  have S1 := Lib.hid (up_conv s1 (RB.trans _ _ _ b2 b3))
  have S2 := Lib.hid (up_conv s2 b3)
  have S3 := Lib.hid s3
  clear o1 o2 o3 s1 s2 s3
  go_wp2_with fail
  refine wp_region_R (R := RB) (n := 40) (by kernel_rfl) rfl ?_
  refine wpAnyR_sole (i := 0) rfl (by kernel_rfl) (fun K hK => ?_)
  go_simp
  refine (lives_any _).mono ?_; rintro e w4 ⟨rfl, b4⟩
  refine hK _ _ b4 ?_
  clear hK K
  refine batchB [1, 2, 3, 6] (fuel := 35) rfl (by kernel_rfl) (by kernel_rfl) (fun _ _ d _ _ h => by cases d <;> exact h) ?_
  repeat (first | ((with_reducible apply wq0); rfl; rfl; rfl; intro K hK; go_big_quiet_op; refine hK _ ?_; clear hK K) | ((with_reducible apply wq1); rfl; rfl; rfl; rfl; rfl; rfl; intro K hK; go_big_quiet_op; refine hK _ ?_; clear hK K) | ((with_reducible apply wqs); rfl; rfl; rfl; rfl; rfl; rfl; simp only [Act.put, List.setIfInBounds_toArray, List.set_cons_zero, List.set_cons_succ]) | ((with_reducible apply wqu); rfl; rfl; rfl; rfl; rfl; simp only [Act.put, List.setIfInBounds_toArray, List.set_cons_zero, List.set_cons_succ]))
  refine wqIdx_nil ?_
  refine wpAnyR_sole (i := 4) rfl (by kernel_rfl) (fun K hK => ?_)
  go_simp
  refine (P4.out _).mono ?_; rintro e w5 ⟨v5, rfl, o5, b5⟩
  obtain ⟨A5, c5, rfl⟩ := own_form o5
  obtain ⟨g5, -, s5, -⟩ := SlB.of_own o5
  have S5 := Lib.hid s5
  clear o5 s5
  refine hK _ _ b5 ?_
  clear hK K
  refine batchB [5] (fuel := 33) rfl (by kernel_rfl) (by kernel_rfl) (fun _ _ d _ _ h => by cases d <;> exact h) ?_
  refine wqIdx_conv rfl rfl rfl rfl (conv_later S5.out c5 rfl) ?_
  simp only [Act.put, List.setIfInBounds_toArray, List.set_cons_zero, List.set_cons_succ]
  refine wqIdx_nil ?_
  refine wpAnyR_sole (i := 7) rfl (by kernel_rfl) (fun K hK => ?_)
  go_simp
  refine (P5.out _).mono ?_; rintro e w6 ⟨v6, rfl, o6, b6⟩
  obtain ⟨A6, c6, rfl⟩ := own_form o6
  obtain ⟨g6, -, s6, -⟩ := SlB.of_own o6
  have S6 := Lib.hid s6
  clear o6 s6
  refine hK _ _ b6 ?_
  clear hK K
  have b46 := RB.trans _ _ _ (RB.trans _ _ _ b4 b5) b6
  have S26 := Lib.hid (up_conv (w1 := w3.drew) S2.out b46)
  have S36 := Lib.hid (up_conv (w1 := w3.drew) S3.out b46)
  refine batchB [8, 9, 10, 11, 12, 13, 14, 15, 16, 17, 18, 19, 20, 21, 22, 23, 24, 25, 26, 27, 28, 29, 30, 31, 32, 33, 34, 35, 36, 37, 38, 39] (fuel := 0) rfl (by kernel_rfl) (by kernel_rfl) (fun _ _ d _ _ h => by cases d <;> exact h) ?_
  refine wqIdx_conv rfl rfl rfl rfl (conv_later S6.out c6 rfl) ?_
  simp only [Act.put, List.setIfInBounds_toArray, List.set_cons_zero, List.set_cons_succ]
  repeat (first | ((with_reducible apply wq0); rfl; rfl; rfl; intro K hK; go_big_quiet_op; refine hK _ ?_; clear hK K) | ((with_reducible apply wq1); rfl; rfl; rfl; rfl; rfl; rfl; intro K hK; go_big_quiet_op; refine hK _ ?_; clear hK K) | ((with_reducible apply wqs); rfl; rfl; rfl; rfl; rfl; rfl; simp only [Act.put, List.setIfInBounds_toArray, List.set_cons_zero, List.set_cons_succ]) | ((with_reducible apply wqu); rfl; rfl; rfl; rfl; rfl; simp only [Act.put, List.setIfInBounds_toArray, List.set_cons_zero, List.set_cons_succ]))
  refine wqIdx_conv rfl rfl rfl rfl (conv_later S26.out c2 rfl) ?_
  simp only [Act.put, List.setIfInBounds_toArray, List.set_cons_zero, List.set_cons_succ]
  repeat (first | ((with_reducible apply wq0); rfl; rfl; rfl; intro K hK; go_big_quiet_op; refine hK _ ?_; clear hK K) | ((with_reducible apply wq1); rfl; rfl; rfl; rfl; rfl; rfl; intro K hK; go_big_quiet_op; refine hK _ ?_; clear hK K) | ((with_reducible apply wqs); rfl; rfl; rfl; rfl; rfl; rfl; simp only [Act.put, List.setIfInBounds_toArray, List.set_cons_zero, List.set_cons_succ]) | ((with_reducible apply wqu); rfl; rfl; rfl; rfl; rfl; simp only [Act.put, List.setIfInBounds_toArray, List.set_cons_zero, List.set_cons_succ]))
  refine wqIdx_conv rfl rfl rfl rfl (conv_later S36.out c3 rfl) ?_
  simp only [Act.put, List.setIfInBounds_toArray, List.set_cons_zero, List.set_cons_succ]
  repeat (first | ((with_reducible apply wq0); rfl; rfl; rfl; intro K hK; go_big_quiet_op; refine hK _ ?_; clear hK K) | ((with_reducible apply wq1); rfl; rfl; rfl; rfl; rfl; rfl; intro K hK; go_big_quiet_op; refine hK _ ?_; clear hK K) | ((with_reducible apply wqs); rfl; rfl; rfl; rfl; rfl; rfl; simp only [Act.put, List.setIfInBounds_toArray, List.set_cons_zero, List.set_cons_succ]) | ((with_reducible apply wqu); rfl; rfl; rfl; rfl; rfl; simp only [Act.put, List.setIfInBounds_toArray, List.set_cons_zero, List.set_cons_succ]))
  refine wqIdx_nil ?_
  refine wpAnyR_done (by kernel_rfl) ?_ _
  have b36 := RB.trans _ _ _ b46 (RB.refl w6)
  have S16 := Lib.hid (up_conv (w1 := w3.drew) S1.out b46)
  have d0 : decide (n < 0) = false := by simpa using h0
  go_wp2_with fail
  refine wp_region_R (R := RB) (n := 18) (by kernel_rfl) rfl ?_
  refine batchB [0, 1, 2, 3, 4, 5] (fuel := 12) rfl (by kernel_rfl) (by kernel_rfl) (fun _ _ d _ _ h => by cases d <;> exact h) ?_
  repeat (first | ((with_reducible apply wq0); rfl; rfl; rfl; intro K hK; go_big_quiet_op; refine hK _ ?_; clear hK K) | ((with_reducible apply wq1); rfl; rfl; rfl; rfl; rfl; rfl; intro K hK; go_big_quiet_op; refine hK _ ?_; clear hK K) | ((with_reducible apply wqs); rfl; rfl; rfl; rfl; rfl; rfl; simp only [Act.put, List.setIfInBounds_toArray, List.set_cons_zero, List.set_cons_succ]) | ((with_reducible apply wqu); rfl; rfl; rfl; rfl; rfl; simp only [Act.put, List.setIfInBounds_toArray, List.set_cons_zero, List.set_cons_succ]))
  refine wqIdx_conv rfl rfl rfl rfl (conv_later (w1 := w6.drew) S16.out c1 rfl) ?_
  simp only [Act.put, List.setIfInBounds_toArray, List.set_cons_zero, List.set_cons_succ]
  repeat (first | ((with_reducible apply wq0); rfl; rfl; rfl; intro K hK; go_big_quiet_op; refine hK _ ?_; clear hK K) | ((with_reducible apply wq1); rfl; rfl; rfl; rfl; rfl; rfl; intro K hK; go_big_quiet_op; refine hK _ ?_; clear hK K) | ((with_reducible apply wqs); rfl; rfl; rfl; rfl; rfl; rfl; simp only [Act.put, List.setIfInBounds_toArray, List.set_cons_zero, List.set_cons_succ]) | ((with_reducible apply wqu); rfl; rfl; rfl; rfl; rfl; simp only [Act.put, List.setIfInBounds_toArray, List.set_cons_zero, List.set_cons_succ]))
  refine wqIdx_nil ?_
  refine wpAnyR_sole (i := 6) rfl (by kernel_rfl) (fun K hK => ?_)
  go_simp
  refine (P6.out _).mono ?_; rintro e w7 ⟨v7, rfl, o7, b7⟩
  obtain ⟨A7, c7, rfl⟩ := own_form o7
  obtain ⟨g7, -, s7, -⟩ := SlB.of_own o7
  have S7 := Lib.hid s7
  clear o7 s7
  refine hK _ _ b7 ?_
  clear hK K
  refine batchB [7, 8, 9, 10, 11, 13, 14] (fuel := 4) rfl (by kernel_rfl) (by kernel_rfl) (fun _ _ d _ _ h => by cases d <;> exact h) ?_
  refine wqIdx_conv rfl rfl rfl rfl (conv_later S7.out c7 rfl) ?_
  simp only [Act.put, List.setIfInBounds_toArray, List.set_cons_zero, List.set_cons_succ]
  repeat (first | ((with_reducible apply wq0); rfl; rfl; rfl; intro K hK; go_big_quiet_op; refine hK _ ?_; clear hK K) | ((with_reducible apply wq1); rfl; rfl; rfl; rfl; rfl; rfl; intro K hK; go_big_quiet_op; refine hK _ ?_; clear hK K) | ((with_reducible apply wqs); rfl; rfl; rfl; rfl; rfl; rfl; simp only [Act.put, List.setIfInBounds_toArray, List.set_cons_zero, List.set_cons_succ]) | ((with_reducible apply wqu); rfl; rfl; rfl; rfl; rfl; simp only [Act.put, List.setIfInBounds_toArray, List.set_cons_zero, List.set_cons_succ]))
  refine wqIdx_nil ?_
  refine wpAnyR_sole (i := 12) rfl (by kernel_rfl) (fun K hK => ?_)
  go_simp
  refine (P7.out _).mono ?_; rintro e w8 ⟨rfl, rfl⟩
  refine hK _ _ (RB.refl _) ?_
  clear hK K
  refine batchB [15, 16, 17] (fuel := 0) rfl (by kernel_rfl) (by kernel_rfl) (fun _ _ d _ _ h => by cases d <;> exact h) ?_
  repeat (first | ((with_reducible apply wq0); rfl; rfl; rfl; intro K hK; go_big_quiet_op; refine hK _ ?_; clear hK K) | ((with_reducible apply wq1); rfl; rfl; rfl; rfl; rfl; rfl; intro K hK; go_big_quiet_op; refine hK _ ?_; clear hK K) | ((with_reducible apply wqs); rfl; rfl; rfl; rfl; rfl; rfl; simp only [Act.put, List.setIfInBounds_toArray, List.set_cons_zero, List.set_cons_succ]) | ((with_reducible apply wqu); rfl; rfl; rfl; rfl; rfl; simp only [Act.put, List.setIfInBounds_toArray, List.set_cons_zero, List.set_cons_succ]))
  refine wqIdx_nil ?_
  refine wpAnyR_done (by kernel_rfl) ?_ _
  go_wp2
  go_ret
  exact ⟨rfl, below_trans (below_trans (below_trans (below_trans b1 b2) b3) (RB.of_drew b46)) (RB.of_drew b7)⟩

set_option maxHeartbeats 2000000 in
set_option maxRecDepth 100000 in
theorem puts_no (n size : Int) (s : ByteArray) (w : World) (hn : n ≤ 9223372036854775807) (hs : s.size ≤ 5000) (h0 : 0 ≤ n) (hf : ¬ fixable n size) :
    Calls Try.prog 3 #[.int .i64 n, .int .i64 size, .string s] w (LawPost w) := by
  have P1 := Lib.hid (fun W => put_ok n W h0 hn)
  have P2 := Lib.hid (fun W => fix_no n size W hn hf)
  have P3 := Lib.hid (fun W => rfix_no n size W hn hf)
  have P4 := Lib.hid (fun W => text_any s W (by omega))
  have P5 := Lib.hid (fun W => rtext_any s W (by omega))
  have P6 := Lib.hid (fun W => rput_any n.toNat W (by omega))
  have P7 := Lib.hid (fun W => size_ok n.toNat W (by omega))
  rw [Int.toNat_of_nonneg h0] at P6 P7
  clear hf
  go_enter Try.func3, Try.ntmps3
  go_wp2_with fail
  refine (P1.out _).mono ?_; rintro e w1 ⟨v1, rfl, o1, b1⟩
  obtain ⟨A1, c1, rfl⟩ := own_form o1
  go_wp2_with fail
  refine (P2.out _).mono ?_; rintro e w2 ⟨rfl, b2⟩
  go_wp2_with fail
  refine (P3.out _).mono ?_; rintro e w3 ⟨A3, n3, c3, rfl, b3⟩
  obtain ⟨g1, -, s1, -⟩ := SlB.of_own o1
  have S1 := Lib.hid (up_conv s1 (RB.trans _ _ _ b2 b3))
  clear o1 s1
  go_wp2_with fail
  refine wp_region_R (R := RB) (n := 40) (by kernel_rfl) rfl ?_
  refine wpAnyR_sole (i := 0) rfl (by kernel_rfl) (fun K hK => ?_)
  go_simp
  refine (lives_any _).mono ?_; rintro e w4 ⟨rfl, b4⟩
  refine hK _ _ b4 ?_
  clear hK K
  refine batchB [1, 2, 3, 6] (fuel := 35) rfl (by kernel_rfl) (by kernel_rfl) (fun _ _ d _ _ h => by cases d <;> exact h) ?_
  repeat (first | ((with_reducible apply wq0); rfl; rfl; rfl; intro K hK; go_big_quiet_op; refine hK _ ?_; clear hK K) | ((with_reducible apply wq1); rfl; rfl; rfl; rfl; rfl; rfl; intro K hK; go_big_quiet_op; refine hK _ ?_; clear hK K) | ((with_reducible apply wqs); rfl; rfl; rfl; rfl; rfl; rfl; simp only [Act.put, List.setIfInBounds_toArray, List.set_cons_zero, List.set_cons_succ]) | ((with_reducible apply wqu); rfl; rfl; rfl; rfl; rfl; simp only [Act.put, List.setIfInBounds_toArray, List.set_cons_zero, List.set_cons_succ]))
  refine wqIdx_nil ?_
  refine wpAnyR_sole (i := 4) rfl (by kernel_rfl) (fun K hK => ?_)
  go_simp
  refine (P4.out _).mono ?_; rintro e w5 ⟨v5, rfl, o5, b5⟩
  obtain ⟨A5, c5, rfl⟩ := own_form o5
  obtain ⟨g5, -, s5, -⟩ := SlB.of_own o5
  have S5 := Lib.hid s5
  clear o5 s5
  refine hK _ _ b5 ?_
  clear hK K
  refine batchB [5] (fuel := 33) rfl (by kernel_rfl) (by kernel_rfl) (fun _ _ d _ _ h => by cases d <;> exact h) ?_
  refine wqIdx_conv rfl rfl rfl rfl (conv_later S5.out c5 rfl) ?_
  simp only [Act.put, List.setIfInBounds_toArray, List.set_cons_zero, List.set_cons_succ]
  refine wqIdx_nil ?_
  refine wpAnyR_sole (i := 7) rfl (by kernel_rfl) (fun K hK => ?_)
  go_simp
  refine (P5.out _).mono ?_; rintro e w6 ⟨v6, rfl, o6, b6⟩
  obtain ⟨A6, c6, rfl⟩ := own_form o6
  obtain ⟨g6, -, s6, -⟩ := SlB.of_own o6
  have S6 := Lib.hid s6
  clear o6 s6
  refine hK _ _ b6 ?_
  clear hK K
  have b46 := RB.trans _ _ _ (RB.trans _ _ _ b4 b5) b6
  refine batchB [8, 9, 10, 11, 12, 13, 14, 15, 16, 17, 18, 19, 20, 21, 22, 23, 24, 25, 26, 27, 28, 29, 30, 31, 32, 33, 34, 35, 36, 37, 38, 39] (fuel := 0) rfl (by kernel_rfl) (by kernel_rfl) (fun _ _ d _ _ h => by cases d <;> exact h) ?_
  refine wqIdx_conv rfl rfl rfl rfl (conv_later S6.out c6 rfl) ?_
  simp only [Act.put, List.setIfInBounds_toArray, List.set_cons_zero, List.set_cons_succ]
  repeat (first | ((with_reducible apply wq0); rfl; rfl; rfl; intro K hK; go_big_quiet_op; refine hK _ ?_; clear hK K) | ((with_reducible apply wq1); rfl; rfl; rfl; rfl; rfl; rfl; intro K hK; go_big_quiet_op; refine hK _ ?_; clear hK K) | ((with_reducible apply wqs); rfl; rfl; rfl; rfl; rfl; rfl; simp only [Act.put, List.setIfInBounds_toArray, List.set_cons_zero, List.set_cons_succ]) | ((with_reducible apply wqu); rfl; rfl; rfl; rfl; rfl; simp only [Act.put, List.setIfInBounds_toArray, List.set_cons_zero, List.set_cons_succ]))
  refine wqIdx_nil ?_
  refine wpAnyR_done (by kernel_rfl) ?_ _
  have b36 := RB.trans _ _ _ b46 (RB.refl w6)
  have S16 := Lib.hid (up_conv (w1 := w3.drew) S1.out b46)
  have d0 : decide (n < 0) = false := by simpa using h0
  go_wp2_with fail
  refine wp_region_R (R := RB) (n := 18) (by kernel_rfl) rfl ?_
  refine batchB [0, 1, 2, 3, 4, 5] (fuel := 12) rfl (by kernel_rfl) (by kernel_rfl) (fun _ _ d _ _ h => by cases d <;> exact h) ?_
  repeat (first | ((with_reducible apply wq0); rfl; rfl; rfl; intro K hK; go_big_quiet_op; refine hK _ ?_; clear hK K) | ((with_reducible apply wq1); rfl; rfl; rfl; rfl; rfl; rfl; intro K hK; go_big_quiet_op; refine hK _ ?_; clear hK K) | ((with_reducible apply wqs); rfl; rfl; rfl; rfl; rfl; rfl; simp only [Act.put, List.setIfInBounds_toArray, List.set_cons_zero, List.set_cons_succ]) | ((with_reducible apply wqu); rfl; rfl; rfl; rfl; rfl; simp only [Act.put, List.setIfInBounds_toArray, List.set_cons_zero, List.set_cons_succ]))
  refine wqIdx_conv rfl rfl rfl rfl (conv_later (w1 := w6.drew) S16.out c1 rfl) ?_
  simp only [Act.put, List.setIfInBounds_toArray, List.set_cons_zero, List.set_cons_succ]
  repeat (first | ((with_reducible apply wq0); rfl; rfl; rfl; intro K hK; go_big_quiet_op; refine hK _ ?_; clear hK K) | ((with_reducible apply wq1); rfl; rfl; rfl; rfl; rfl; rfl; intro K hK; go_big_quiet_op; refine hK _ ?_; clear hK K) | ((with_reducible apply wqs); rfl; rfl; rfl; rfl; rfl; rfl; simp only [Act.put, List.setIfInBounds_toArray, List.set_cons_zero, List.set_cons_succ]) | ((with_reducible apply wqu); rfl; rfl; rfl; rfl; rfl; simp only [Act.put, List.setIfInBounds_toArray, List.set_cons_zero, List.set_cons_succ]))
  refine wqIdx_nil ?_
  refine wpAnyR_sole (i := 6) rfl (by kernel_rfl) (fun K hK => ?_)
  go_simp
  refine (P6.out _).mono ?_; rintro e w7 ⟨v7, rfl, o7, b7⟩
  obtain ⟨A7, c7, rfl⟩ := own_form o7
  obtain ⟨g7, -, s7, -⟩ := SlB.of_own o7
  have S7 := Lib.hid s7
  clear o7 s7
  refine hK _ _ b7 ?_
  clear hK K
  refine batchB [7, 8, 9, 10, 11, 13, 14] (fuel := 4) rfl (by kernel_rfl) (by kernel_rfl) (fun _ _ d _ _ h => by cases d <;> exact h) ?_
  refine wqIdx_conv rfl rfl rfl rfl (conv_later S7.out c7 rfl) ?_
  simp only [Act.put, List.setIfInBounds_toArray, List.set_cons_zero, List.set_cons_succ]
  repeat (first | ((with_reducible apply wq0); rfl; rfl; rfl; intro K hK; go_big_quiet_op; refine hK _ ?_; clear hK K) | ((with_reducible apply wq1); rfl; rfl; rfl; rfl; rfl; rfl; intro K hK; go_big_quiet_op; refine hK _ ?_; clear hK K) | ((with_reducible apply wqs); rfl; rfl; rfl; rfl; rfl; rfl; simp only [Act.put, List.setIfInBounds_toArray, List.set_cons_zero, List.set_cons_succ]) | ((with_reducible apply wqu); rfl; rfl; rfl; rfl; rfl; simp only [Act.put, List.setIfInBounds_toArray, List.set_cons_zero, List.set_cons_succ]))
  refine wqIdx_nil ?_
  refine wpAnyR_sole (i := 12) rfl (by kernel_rfl) (fun K hK => ?_)
  go_simp
  refine (P7.out _).mono ?_; rintro e w8 ⟨rfl, rfl⟩
  refine hK _ _ (RB.refl _) ?_
  clear hK K
  refine batchB [15, 16, 17] (fuel := 0) rfl (by kernel_rfl) (by kernel_rfl) (fun _ _ d _ _ h => by cases d <;> exact h) ?_
  repeat (first | ((with_reducible apply wq0); rfl; rfl; rfl; intro K hK; go_big_quiet_op; refine hK _ ?_; clear hK K) | ((with_reducible apply wq1); rfl; rfl; rfl; rfl; rfl; rfl; intro K hK; go_big_quiet_op; refine hK _ ?_; clear hK K) | ((with_reducible apply wqs); rfl; rfl; rfl; rfl; rfl; rfl; simp only [Act.put, List.setIfInBounds_toArray, List.set_cons_zero, List.set_cons_succ]) | ((with_reducible apply wqu); rfl; rfl; rfl; rfl; rfl; simp only [Act.put, List.setIfInBounds_toArray, List.set_cons_zero, List.set_cons_succ]))
  refine wqIdx_nil ?_
  refine wpAnyR_done (by kernel_rfl) ?_ _
  go_wp2
  go_ret
  exact ⟨rfl, below_trans (below_trans (below_trans (below_trans b1 b2) b3) (RB.of_drew b46)) (RB.of_drew b7)⟩

set_option maxHeartbeats 2000000 in
set_option maxRecDepth 100000 in
theorem puts_neg (n size : Int) (s : ByteArray) (w : World) (hn : n ≤ 9223372036854775807) (hs : s.size ≤ 5000) (h0 : n < 0) :
    Calls Try.prog 3 #[.int .i64 n, .int .i64 size, .string s] w (LawPost w) := by
  have hf : ¬ fixable n size := fun h => by have := h.1; omega
  have P1 := Lib.hid (fun W => put_neg n W h0)
  have P2 := Lib.hid (fun W => fix_no n size W hn hf)
  have P3 := Lib.hid (fun W => rfix_no n size W hn hf)
  have P4 := Lib.hid (fun W => text_any s W (by omega))
  have P5 := Lib.hid (fun W => rtext_any s W (by omega))
  have P7 := Lib.hid (fun W => size_neg n W h0)
  clear hf
  go_enter Try.func3, Try.ntmps3
  go_wp2_with fail
  refine (P1.out _).mono ?_; rintro e w1 ⟨rfl, b1⟩
  go_wp2_with fail
  refine (P2.out _).mono ?_; rintro e w2 ⟨rfl, b2⟩
  go_wp2_with fail
  refine (P3.out _).mono ?_; rintro e w3 ⟨A3, n3, c3, rfl, b3⟩
  go_wp2_with fail
  refine wp_region_R (R := RB) (n := 40) (by kernel_rfl) rfl ?_
  refine wpAnyR_sole (i := 0) rfl (by kernel_rfl) (fun K hK => ?_)
  go_simp
  refine (lives_any _).mono ?_; rintro e w4 ⟨rfl, b4⟩
  refine hK _ _ b4 ?_
  clear hK K
  refine batchB [1, 2, 3, 6] (fuel := 35) rfl (by kernel_rfl) (by kernel_rfl) (fun _ _ d _ _ h => by cases d <;> exact h) ?_
  repeat (first | ((with_reducible apply wq0); rfl; rfl; rfl; intro K hK; go_big_quiet_op; refine hK _ ?_; clear hK K) | ((with_reducible apply wq1); rfl; rfl; rfl; rfl; rfl; rfl; intro K hK; go_big_quiet_op; refine hK _ ?_; clear hK K) | ((with_reducible apply wqs); rfl; rfl; rfl; rfl; rfl; rfl; simp only [Act.put, List.setIfInBounds_toArray, List.set_cons_zero, List.set_cons_succ]) | ((with_reducible apply wqu); rfl; rfl; rfl; rfl; rfl; simp only [Act.put, List.setIfInBounds_toArray, List.set_cons_zero, List.set_cons_succ]))
  refine wqIdx_nil ?_
  refine wpAnyR_sole (i := 4) rfl (by kernel_rfl) (fun K hK => ?_)
  go_simp
  refine (P4.out _).mono ?_; rintro e w5 ⟨v5, rfl, o5, b5⟩
  obtain ⟨A5, c5, rfl⟩ := own_form o5
  obtain ⟨g5, -, s5, -⟩ := SlB.of_own o5
  have S5 := Lib.hid s5
  clear o5 s5
  refine hK _ _ b5 ?_
  clear hK K
  refine batchB [5] (fuel := 33) rfl (by kernel_rfl) (by kernel_rfl) (fun _ _ d _ _ h => by cases d <;> exact h) ?_
  refine wqIdx_conv rfl rfl rfl rfl (conv_later S5.out c5 rfl) ?_
  simp only [Act.put, List.setIfInBounds_toArray, List.set_cons_zero, List.set_cons_succ]
  refine wqIdx_nil ?_
  refine wpAnyR_sole (i := 7) rfl (by kernel_rfl) (fun K hK => ?_)
  go_simp
  refine (P5.out _).mono ?_; rintro e w6 ⟨v6, rfl, o6, b6⟩
  obtain ⟨A6, c6, rfl⟩ := own_form o6
  obtain ⟨g6, -, s6, -⟩ := SlB.of_own o6
  have S6 := Lib.hid s6
  clear o6 s6
  refine hK _ _ b6 ?_
  clear hK K
  have b46 := RB.trans _ _ _ (RB.trans _ _ _ b4 b5) b6
  refine batchB [8, 9, 10, 11, 12, 13, 14, 15, 16, 17, 18, 19, 20, 21, 22, 23, 24, 25, 26, 27, 28, 29, 30, 31, 32, 33, 34, 35, 36, 37, 38, 39] (fuel := 0) rfl (by kernel_rfl) (by kernel_rfl) (fun _ _ d _ _ h => by cases d <;> exact h) ?_
  refine wqIdx_conv rfl rfl rfl rfl (conv_later S6.out c6 rfl) ?_
  simp only [Act.put, List.setIfInBounds_toArray, List.set_cons_zero, List.set_cons_succ]
  repeat (first | ((with_reducible apply wq0); rfl; rfl; rfl; intro K hK; go_big_quiet_op; refine hK _ ?_; clear hK K) | ((with_reducible apply wq1); rfl; rfl; rfl; rfl; rfl; rfl; intro K hK; go_big_quiet_op; refine hK _ ?_; clear hK K) | ((with_reducible apply wqs); rfl; rfl; rfl; rfl; rfl; rfl; simp only [Act.put, List.setIfInBounds_toArray, List.set_cons_zero, List.set_cons_succ]) | ((with_reducible apply wqu); rfl; rfl; rfl; rfl; rfl; simp only [Act.put, List.setIfInBounds_toArray, List.set_cons_zero, List.set_cons_succ]))
  refine wqIdx_nil ?_
  refine wpAnyR_done (by kernel_rfl) ?_ _
  have d0 : decide (n < 0) = true := by simpa using h0
  go_wp2_with fail
  refine (P7.out _).mono ?_; rintro e w8 ⟨rfl, rfl⟩
  go_wp2
  go_ret
  exact ⟨rfl, below_trans (below_trans (below_trans b1 b2) b3) (RB.of_drew b46)⟩

theorem puts_any (n size : Int) (s : ByteArray) (w : World) (hn : n ≤ 9223372036854775807) (hs : s.size ≤ 9223372036854775807) :
    Calls Try.prog 3 #[.int .i64 n, .int .i64 size, .string s] w (LawPost w) := by
  by_cases h : s.size ≤ 5000
  · by_cases h0 : n < 0
    · exact puts_neg n size s w hn h h0
    · by_cases hf : fixable n size
      · exact puts_yes n size s w hn h (by omega) hf
      · exact puts_no n size s w hn h (by omega) hf
  · go_enter Try.func3, Try.ntmps3
    go_wp2_with fail
    refine (lives_any _).mono ?_; rintro e w1 ⟨rfl, b1⟩
    go_wp2
    go_ret
    exact ⟨rfl, b1⟩
end Go.Proofs.Ytgpffapnlngnkaa
