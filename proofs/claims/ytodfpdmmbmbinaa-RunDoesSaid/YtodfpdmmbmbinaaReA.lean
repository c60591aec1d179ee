/- Contracts of package rec: two records, and one. -/
import Derived.Test.YtodfpdmmbmbinaaMoB
import Derived.Test.YtodfpdmmbmbinaaMoL
namespace Go.Proofs.Ytodfpdmmbmbinaa
open Go.RowKit

def okRec (m : Int × Int) : Bool := decide (0 ≤ m.1) && decide (m.1 < 1048576) && decide (0 ≤ m.2) && decide (m.2 < 1048576)
def recE (m : Int × Int) : Int := if okRec m then 0 else 30
theorem info_rec : (Try.prog.info? 63).map (·.size) = some 2 := by kernel_rfl
set_option maxRecDepth 100000 in
set_option maxHeartbeats 1000000 in
theorem rc_compare_grow (a b c d : Int) (w : World) :
    Calls Try.prog 127 #[.agg #[.int .i64 a, .int .i64 b], .agg #[.int .i64 c, .int .i64 d]] w fun e w' => e = .returned (.int .i64 (cmpM (a, b) (c, d))) ∧ ∃ q os, w' = Go.Sort.grow (w.drewN q) os := by
  have P1 := Lib.hid (fun W => cmpInt_any a c W)
  have P2 := Lib.hid (fun W => cmpInt_any b d W)
  have P3 := Lib.hid (fun g W h0 h1 => or_any (cmpI a c) (cmpI b d) g W h0 h1)
  have hm : cmpM (a, b) (c, d) = orI (cmpI a c) (cmpI b d) := rfl
  rw [hm]
  clear hm
  generalize cmpI a c = x at P1 P3
  generalize cmpI b d = y at P2 P3
  have B0 := Lib.hid (below_trans (alloc_below w (.cells #[.int .i64 a, .int .i64 b] 63)) (alloc_below _ (.cells #[.int .i64 c, .int .i64 d] 63)))
  have C0 := Lib.hid (show ((w.alloc (.cells #[.int .i64 a, .int .i64 b] 63)).alloc (.cells #[.int .i64 c, .int .i64 d] 63)).drew.cell? ⟨w.heap.size, 0, none⟩ = some (.int .i64 a) by simp)
  have C1 := Lib.hid (show ((w.alloc (.cells #[.int .i64 a, .int .i64 b] 63)).alloc (.cells #[.int .i64 c, .int .i64 d] 63)).drew.cell? ⟨w.heap.size, 1, none⟩ = some (.int .i64 b) by simp)
  have C2 := Lib.hid (show ((w.alloc (.cells #[.int .i64 a, .int .i64 b] 63)).alloc (.cells #[.int .i64 c, .int .i64 d] 63)).drew.cell? ⟨w.heap.size + 1, 0, none⟩ = some (.int .i64 c) by simp)
  have C3 := Lib.hid (show ((w.alloc (.cells #[.int .i64 a, .int .i64 b] 63)).alloc (.cells #[.int .i64 c, .int .i64 d] 63)).drew.cell? ⟨w.heap.size + 1, 1, none⟩ = some (.int .i64 d) by simp)
  go_enter Try.func127, Try.ntmps127
  go_wp2_with fail
  refine wp_region_R (R := RB) (n := 13) (by kernel_rfl) rfl ?_
  refine batchB [0, 1, 2, 3, 5, 6, 7, 8] (fuel := 5) rfl (by kernel_rfl) (by kernel_rfl) (fun _ _ d _ _ h => by cases d <;> exact h) ?_
  repeat (first | ((with_reducible apply wq0); rfl; rfl; rfl; intro K hK; go_big_quiet_op; refine hK _ ?_; clear hK K) | ((with_reducible apply wq1); rfl; rfl; rfl; rfl; rfl; rfl; intro K hK; go_big_quiet_op; refine hK _ ?_; clear hK K) | ((with_reducible apply wqs); rfl; rfl; rfl; rfl; rfl; rfl; simp only [Act.put, List.setIfInBounds_toArray, List.set_cons_zero, List.set_cons_succ]) | ((with_reducible apply wqu); rfl; rfl; rfl; rfl; rfl; simp only [same]))
  refine wqIdx_load rfl rfl rfl rfl (fun W hW => load_i64_at _ a W (keep_cell hW C0.out)) ?_
  simp only [Act.put, List.setIfInBounds_toArray, List.set_cons_zero, List.set_cons_succ]
  repeat (first | ((with_reducible apply wq0); rfl; rfl; rfl; intro K hK; go_big_quiet_op; refine hK _ ?_; clear hK K) | ((with_reducible apply wq1); rfl; rfl; rfl; rfl; rfl; rfl; intro K hK; go_big_quiet_op; refine hK _ ?_; clear hK K) | ((with_reducible apply wqs); rfl; rfl; rfl; rfl; rfl; rfl; simp only [Act.put, List.setIfInBounds_toArray, List.set_cons_zero, List.set_cons_succ]) | ((with_reducible apply wqu); rfl; rfl; rfl; rfl; rfl; simp only [same]))
  refine wqIdx_load rfl rfl rfl rfl (fun W hW => load_i64_at _ c W (keep_cell hW C2.out)) ?_
  simp only [Act.put, List.setIfInBounds_toArray, List.set_cons_zero, List.set_cons_succ]
  repeat (first | ((with_reducible apply wq0); rfl; rfl; rfl; intro K hK; go_big_quiet_op; refine hK _ ?_; clear hK K) | ((with_reducible apply wq1); rfl; rfl; rfl; rfl; rfl; rfl; intro K hK; go_big_quiet_op; refine hK _ ?_; clear hK K) | ((with_reducible apply wqs); rfl; rfl; rfl; rfl; rfl; rfl; simp only [Act.put, List.setIfInBounds_toArray, List.set_cons_zero, List.set_cons_succ]) | ((with_reducible apply wqu); rfl; rfl; rfl; rfl; rfl; simp only [same]))
  refine wqIdx_load rfl rfl rfl rfl (fun W hW => load_i64_at _ b W (keep_cell hW C1.out)) ?_
  simp only [Act.put, List.setIfInBounds_toArray, List.set_cons_zero, List.set_cons_succ]
  repeat (first | ((with_reducible apply wq0); rfl; rfl; rfl; intro K hK; go_big_quiet_op; refine hK _ ?_; clear hK K) | ((with_reducible apply wq1); rfl; rfl; rfl; rfl; rfl; rfl; intro K hK; go_big_quiet_op; refine hK _ ?_; clear hK K) | ((with_reducible apply wqs); rfl; rfl; rfl; rfl; rfl; rfl; simp only [Act.put, List.setIfInBounds_toArray, List.set_cons_zero, List.set_cons_succ]) | ((with_reducible apply wqu); rfl; rfl; rfl; rfl; rfl; simp only [same]))
  refine wqIdx_load rfl rfl rfl rfl (fun W hW => load_i64_at _ d W (keep_cell hW C3.out)) ?_
  simp only [Act.put, List.setIfInBounds_toArray, List.set_cons_zero, List.set_cons_succ]
  refine wqIdx_nil ?_
  refine wpAnyR_sole (i := 4) rfl (by kernel_rfl) (fun K hK => ?_)
  go_simp
  refine (P1.out _).mono ?_; rintro e w' ⟨rfl, rfl⟩
  refine hK _ _ (RB.refl _) ?_
  clear hK K
  refine wpAnyR_sole (i := 9) rfl (by kernel_rfl) (fun K hK => ?_)
  go_simp
  refine (P2.out _).mono ?_; rintro e w' ⟨rfl, rfl⟩
  refine hK _ _ (RB.refl _) ?_
  clear hK K
  refine wpAnyR_sole (i := 10) rfl (by kernel_rfl) (fun K hK => ?_)
  go_simp
  refine hK _ _ (rb_alloc _ _) ?_
  clear hK K
  refine wpAnyR_sole (i := 11) rfl (by kernel_rfl) (fun K hK => ?_)
  go_simp
  refine (P3.out _ _ (new_cell _ #[.int .i64 x, .int .i64 y] _ _ (by simp) 0) (new_cell _ #[.int .i64 x, .int .i64 y] _ _ (by simp) 1)).mono ?_; rintro e w' ⟨rfl, rfl⟩
  refine hK _ _ (RB.refl _) ?_
  clear hK K
  refine batchB [12] (fuel := 0) rfl (by kernel_rfl) (by kernel_rfl) (fun _ _ d _ _ h => by cases d <;> exact h) ?_
  repeat (first | ((with_reducible apply wq0); rfl; rfl; rfl; intro K hK; go_big_quiet_op; refine hK _ ?_; clear hK K) | ((with_reducible apply wq1); rfl; rfl; rfl; rfl; rfl; rfl; intro K hK; go_big_quiet_op; refine hK _ ?_; clear hK K) | ((with_reducible apply wqs); rfl; rfl; rfl; rfl; rfl; rfl; simp only [Act.put, List.setIfInBounds_toArray, List.set_cons_zero, List.set_cons_succ]) | ((with_reducible apply wqu); rfl; rfl; rfl; rfl; rfl; simp only [same]))
  refine wqIdx_nil ?_
  refine wpAnyR_done (by kernel_rfl) ?_ _
  go_wp2
  go_ret
  exact ⟨rfl, 1, _, by rw [Go.Sort.alloc_eq_grow, Go.Sort.alloc_eq_grow, Go.Sort.alloc_eq_grow, Go.Sort.grow_grow, Go.Sort.grow_grow]; rfl⟩
theorem rc_compare_any (a b c d : Int) (w : World) :
    Calls Try.prog 127 #[.agg #[.int .i64 a, .int .i64 b], .agg #[.int .i64 c, .int .i64 d]] w fun e w' => e = .returned (.int .i64 (cmpM (a, b) (c, d))) ∧ Below w.heap.size w w' :=
  (rc_compare_grow a b c d w).mono fun _ _ ⟨he, q, os, hw⟩ => ⟨he, by rw [hw]; exact grow_below w q os⟩
set_option maxRecDepth 100000 in
set_option maxHeartbeats 400000 in
theorem rrc_compare_any (a b c d : Int) (w : World) :
    Calls Try.prog 92 #[.agg #[.int .i64 a, .int .i64 b], .agg #[.int .i64 c, .int .i64 d]] w fun e w' => e = .returned (.int .i64 (cmpM (a, b) (c, d))) ∧ Below w.heap.size w w' := by
  cases hd0 : decide (a < c)
  · cases hd1 : (a == c)
    · go_enter Try.func92, Try.ntmps92
      go_wp2
      go_ret
      exact ⟨ret_int' (by unfold cmpM cmpI; simp only [decide_eq_false_iff_not, beq_eq_false_iff_ne, ne_eq] at *; split <;> split <;> first | omega | (split <;> omega)), below_trans (alloc_below w _) (alloc_below _ _)⟩
    · cases hd2 : decide (b < d)
      · cases hd3 : (b == d)
        · go_enter Try.func92, Try.ntmps92
          go_wp2
          go_ret
          exact ⟨ret_int' (by unfold cmpM cmpI; simp only [decide_eq_false_iff_not, beq_iff_eq, beq_eq_false_iff_ne, ne_eq] at *; split <;> split <;> first | omega | (split <;> omega)), below_trans (alloc_below w _) (alloc_below _ _)⟩
        · go_enter Try.func92, Try.ntmps92
          go_wp2
          go_ret
          exact ⟨ret_int' (by unfold cmpM cmpI; simp only [decide_eq_false_iff_not, beq_iff_eq] at *; split <;> split <;> first | omega | (split <;> omega)), below_trans (alloc_below w _) (alloc_below _ _)⟩
      · go_enter Try.func92, Try.ntmps92
        go_wp2
        go_ret
        exact ⟨ret_int' (by unfold cmpM cmpI; simp only [decide_eq_true_eq, decide_eq_false_iff_not, beq_iff_eq] at *; split <;> split <;> first | omega | (split <;> omega)), below_trans (alloc_below w _) (alloc_below _ _)⟩
  · go_enter Try.func92, Try.ntmps92
    go_wp2
    go_ret
    exact ⟨ret_int' (by unfold cmpM cmpI; simp only [decide_eq_true_eq] at *; split <;> split <;> first | omega | (split <;> omega)), below_trans (alloc_below w _) (alloc_below _ _)⟩
set_option maxRecDepth 100000 in
set_option maxHeartbeats 400000 in
theorem rrc_check_any (a b : Int) (w : World) :
    Calls Try.prog 111 #[.agg #[.int .i64 a, .int .i64 b]] w fun e w' => e = .returned (.bool (okRec (a, b))) ∧ Below w.heap.size w w' := by
  cases hd0 : decide (0 ≤ a)
  · go_enter Try.func111, Try.ntmps111
    go_wp2
    go_ret
    exact ⟨ret_bool' (by unfold okRec; simp_all only [Bool.false_and]), alloc_below w _⟩
  · cases hd1 : decide (a < 1048576)
    · go_enter Try.func111, Try.ntmps111
      go_wp2
      go_ret
      exact ⟨ret_bool' (by unfold okRec; simp_all only [Bool.and_false, Bool.false_and]), alloc_below w _⟩
    · cases hd2 : decide (0 ≤ b)
      · go_enter Try.func111, Try.ntmps111
        go_wp2
        go_ret
        exact ⟨ret_bool' (by unfold okRec; simp_all only [Bool.and_self, Bool.and_false, Bool.false_and]), alloc_below w _⟩
      · cases hd3 : decide (b < 1048576)
        · go_enter Try.func111, Try.ntmps111
          go_wp2
          go_ret
          exact ⟨ret_bool' (by unfold okRec; simp_all only [Bool.and_self, Bool.and_false]), alloc_below w _⟩
        · go_enter Try.func111, Try.ntmps111
          go_wp2
          go_ret
          exact ⟨ret_bool' (by unfold okRec; simp_all only [Bool.and_self]), alloc_below w _⟩
set_option maxRecDepth 100000 in
set_option maxHeartbeats 400000 in
theorem fits_any (n : Int) (w : World) : Calls Try.prog 118 #[.int .i64 n] w fun e w' => e = .returned (.bool (decide (0 ≤ n) && decide (n < 1048576))) ∧ w = w' := by
  have hb : decide (n < 1048576) = decide (n ≤ 1048575) := by rw [decide_eq_decide]; omega
  rw [hb]
  clear hb
  cases hd0 : decide (0 ≤ n)
  · go_enter Try.func118, Try.ntmps118
    go_wp2
    go_ret
    exact ⟨rfl, rfl⟩
  · cases hd1 : decide (n ≤ 1048575)
    · go_enter Try.func118, Try.ntmps118
      go_wp2
      go_ret
      exact ⟨rfl, rfl⟩
    · go_enter Try.func118, Try.ntmps118
      go_wp2
      go_ret
      exact ⟨rfl, rfl⟩
set_option maxRecDepth 100000 in
set_option maxHeartbeats 1000000 in
theorem rc_check_any (a b : Int) (w : World) :
    Calls Try.prog 98 #[.agg #[.int .i64 a, .int .i64 b]] w fun e w' => e = .returned (.int .i64 (recE (a, b))) ∧ Below w.heap.size w w' := by
  have P1 := Lib.hid (fun W => fits_any a W)
  have P2 := Lib.hid (fun W => fits_any b W)
  have hm : recE (a, b) = if (decide (0 ≤ a) && decide (a < 1048576)) then (if (decide (0 ≤ b) && decide (b < 1048576)) then 0 else 30) else 30 := by
    unfold recE okRec
    simp only
    cases decide (0 ≤ a) <;> cases decide (a < 1048576) <;> cases decide (0 ≤ b) <;> cases decide (b < 1048576) <;> rfl
  rw [hm]
  clear hm
  generalize (decide (0 ≤ a) && decide (a < 1048576)) = p at P1
  generalize (decide (0 ≤ b) && decide (b < 1048576)) = q at P2
  cases p
  · go_enter Try.func98, Try.ntmps98
    go_wp2_with fail
    refine (P1.out _).mono ?_; rintro e w1 ⟨rfl, rfl⟩
    go_wp2
    go_ret
    exact ⟨rfl, alloc_below w _⟩
  · cases q
    · go_enter Try.func98, Try.ntmps98
      go_wp2_with fail
      refine (P1.out _).mono ?_; rintro e w1 ⟨rfl, rfl⟩
      go_wp2_with fail
      refine (P2.out _).mono ?_; rintro e w1 ⟨rfl, rfl⟩
      go_wp2
      go_ret
      exact ⟨rfl, alloc_below w _⟩
    · go_enter Try.func98, Try.ntmps98
      go_wp2_with fail
      refine (P1.out _).mono ?_; rintro e w1 ⟨rfl, rfl⟩
      go_wp2_with fail
      refine (P2.out _).mono ?_; rintro e w1 ⟨rfl, rfl⟩
      go_wp2
      go_ret
      exact ⟨rfl, alloc_below w _⟩
theorem load_rec_at (h off : Nat) (x y : Int) (w : World) (h0 : w.cell? ⟨h, off, none⟩ = some (.int .i64 x)) (h1 : w.cell? ⟨h, off + 1, none⟩ = some (.int .i64 y)) : (Instr.loadAt 63 (.pointer (some ⟨h, off, none⟩))).run Try.prog w = .ok (.agg #[.int .i64 x, .int .i64 y]) w := by
  go_simp
end Go.Proofs.Ytodfpdmmbmbinaa
