/- The walk of the law MomentSteps. -/
import Derived.Test.YtalcgkfnjhlnoabMoV
import Derived.Test.YtalcgkfnjhlnoabOpS
namespace Go.Proofs.Ytalcgkfnjhlnoab
open Go.RowKit Go.Sort

def LawPost (w : World) (e : Ending) (w' : World) : Prop := e = .returned (.bool true) ∧ Below w.heap.size w w'
/-- Three moments in boxes. -/
structure Box3 (n : Nat) (a1 a2 b1 b2 c1 c2 : Int) (W : World) : Prop where
  lt : n + 1 + 1 < W.heap.size
  a0 : W.cell? ⟨n, 0, none⟩ = some (.int .i64 a1)
  a1 : W.cell? ⟨n, 1, none⟩ = some (.int .i64 a2)
  b0 : W.cell? ⟨n + 1, 0, none⟩ = some (.int .i64 b1)
  b1 : W.cell? ⟨n + 1, 1, none⟩ = some (.int .i64 b2)
  c0 : W.cell? ⟨n + 1 + 1, 0, none⟩ = some (.int .i64 c1)
  c1 : W.cell? ⟨n + 1 + 1, 1, none⟩ = some (.int .i64 c2)
theorem Box3.below {n : Nat} {a1 a2 b1 b2 c1 c2 : Int} {W W' : World} (h : Box3 n a1 a2 b1 b2 c1 c2 W) (hb : Below W.heap.size W W') : Box3 n a1 a2 b1 b2 c1 c2 W' where
  lt := Nat.lt_of_lt_of_le h.lt hb.size
  a0 := (hb.cell (p := ⟨n, 0, none⟩) (by have := h.lt; simp only; omega)).trans h.a0
  a1 := (hb.cell (p := ⟨n, 1, none⟩) (by have := h.lt; simp only; omega)).trans h.a1
  b0 := (hb.cell (p := ⟨n + 1, 0, none⟩) (by have := h.lt; simp only; omega)).trans h.b0
  b1 := (hb.cell (p := ⟨n + 1, 1, none⟩) (by have := h.lt; simp only; omega)).trans h.b1
  c0 := (hb.cell (p := ⟨n + 1 + 1, 0, none⟩) (by have := h.lt; simp only; omega)).trans h.c0
  c1 := (hb.cell (p := ⟨n + 1 + 1, 1, none⟩) (by have := h.lt; simp only; omega)).trans h.c1
theorem Box3.drew {n : Nat} {a1 a2 b1 b2 c1 c2 : Int} {W : World} (h : Box3 n a1 a2 b1 b2 c1 c2 W) : Box3 n a1 a2 b1 b2 c1 c2 W.drew := ⟨h.lt, h.a0, h.a1, h.b0, h.b1, h.c0, h.c1⟩
theorem Box3.new (w : World) (a1 a2 b1 b2 c1 c2 : Int) : Box3 w.heap.size a1 a2 b1 b2 c1 c2 (((w.alloc (.cells #[.int .i64 a1, .int .i64 a2] 58)).alloc (.cells #[.int .i64 b1, .int .i64 b2] 58)).alloc (.cells #[.int .i64 c1, .int .i64 c2] 58)) :=
  let KA := ((Blk.new w 58 #[.int .i64 a1, .int .i64 a2]).alloc (.cells #[.int .i64 b1, .int .i64 b2] 58)).alloc (.cells #[.int .i64 c1, .int .i64 c2] 58)
  let KB := (blk_top (w.alloc (.cells #[.int .i64 a1, .int .i64 a2] 58)) #[.int .i64 b1, .int .i64 b2] 58 (w.heap.size + 1) (by simp)).alloc (.cells #[.int .i64 c1, .int .i64 c2] 58)
  let KC := blk_top ((w.alloc (.cells #[.int .i64 a1, .int .i64 a2] 58)).alloc (.cells #[.int .i64 b1, .int .i64 b2] 58)) #[.int .i64 c1, .int .i64 c2] 58 (w.heap.size + 1 + 1) (by simp)
  ⟨KC.lt, KA.cell 0, KA.cell 1, KB.cell 0, KB.cell 1, KC.cell 0, KC.cell 1⟩
theorem join_ahead (a1 a2 b1 b2 c1 c2 : Int) : aheadM (max a1 b1, max a2 b2) (c1, c2) = (aheadM (a1, a2) (c1, c2) && aheadM (b1, b2) (c1, c2)) := by
  rw [Bool.eq_iff_iff, Bool.and_eq_true, aheadM_iff, aheadM_iff, aheadM_iff]; simp only; omega
theorem meet_ahead (a1 a2 b1 b2 c1 c2 : Int) : aheadM (c1, c2) (min a1 b1, min a2 b2) = (aheadM (c1, c2) (a1, a2) && aheadM (c1, c2) (b1, b2)) := by
  rw [Bool.eq_iff_iff, Bool.and_eq_true, aheadM_iff, aheadM_iff, aheadM_iff]; simp only; omega
set_option maxRecDepth 100000 in
set_option maxHeartbeats 8000000 in
theorem steps_any (a1 a2 b1 b2 c1 c2 : Int) (w : World) :
    Calls Try.prog 9 #[.agg #[.int .i64 a1, .int .i64 a2], .agg #[.int .i64 b1, .int .i64 b2], .agg #[.int .i64 c1, .int .i64 c2]] w (LawPost w) := by
  have X0 := Lib.hid (Box3.new w a1 a2 b1 b2 c1 c2)
  have H0 := Lib.hid (below_trans (below_trans (alloc_below w (.cells #[.int .i64 a1, .int .i64 a2] 58)) (alloc_below _ (.cells #[.int .i64 b1, .int .i64 b2] 58))) (alloc_below _ (.cells #[.int .i64 c1, .int .i64 c2] 58)))
  have P1 := Lib.hid (fun W => ahead_any a1 a2 b1 b2 W)
  have P2 := Lib.hid (fun W => ahead_any b1 b2 c1 c2 W)
  have P3 := Lib.hid (fun W => ahead_any a1 a2 c1 c2 W)
  have P4 := Lib.hid (fun W => join_any a1 a2 b1 b2 W)
  have P5 := Lib.hid (fun W => ahead_any (max a1 b1) (max a2 b2) c1 c2 W)
  rw [join_ahead] at P5
  have P6 := Lib.hid (fun W => meet_any a1 a2 b1 b2 W)
  have P7 := Lib.hid (fun W => ahead_any c1 c2 (min a1 b1) (min a2 b2) W)
  rw [meet_ahead] at P7
  have P8 := Lib.hid (fun W => ahead_any c1 c2 a1 a2 W)
  have P9 := Lib.hid (fun W => ahead_any c1 c2 b1 b2 W)
  have htr : aheadM (a1, a2) (b1, b2) = true → aheadM (b1, b2) (c1, c2) = true → aheadM (a1, a2) (c1, c2) = true := fun h1 h2 => aheadM_trans h1 h2
  generalize aheadM (a1, a2) (b1, b2) = x at P1 htr
  generalize aheadM (b1, b2) (c1, c2) = y at P2 P5 htr
  generalize aheadM (a1, a2) (c1, c2) = z at P3 P5 htr
  generalize aheadM (c1, c2) (a1, a2) = u at P7 P8
  generalize aheadM (c1, c2) (b1, b2) = v at P7 P9
  generalize max a1 b1 = j1 at P4 P5
  generalize max a2 b2 = j2 at P4 P5
  generalize min a1 b1 = m1 at P6 P7
  generalize min a2 b2 = m2 at P6 P7
  have HT := Lib.hid htr
  clear htr
  go_enter Try.func9, Try.ntmps9
  go_wp2_with fail
  refine (lives_any _).mono ?_; rintro e w1 ⟨rfl, b1'⟩
  have X1 := Lib.hid (X0.out.below b1').drew
  have H1 := Lib.hid (RB.of_drew' (below_trans H0.out b1'))
  clear X0 H0 b1'
  go_wp2_with fail
  refine wp_region_R (R := RB) (n := 12) (by kernel_rfl) rfl ?_
  refine batchB [0, 1, 3, 4, 6, 7] (fuel := 6) rfl (by kernel_rfl) (by kernel_rfl) (fun _ _ d _ _ h => by cases d <;> exact h) ?_
  repeat (first | ((with_reducible apply wq0); rfl; rfl; rfl; intro K hK; go_big_quiet_op; refine hK _ ?_; clear hK K) | ((with_reducible apply wq1); rfl; rfl; rfl; rfl; rfl; rfl; intro K hK; go_big_quiet_op; refine hK _ ?_; clear hK K) | ((with_reducible apply wqs); rfl; rfl; rfl; rfl; rfl; rfl; simp only [Act.put, List.setIfInBounds_toArray, List.set_cons_zero, List.set_cons_succ]) | ((with_reducible apply wqu); rfl; rfl; rfl; rfl; rfl; simp only [same]))
  refine wqIdx_load rfl rfl rfl rfl (fun W hW => load_mo_at _ _ (a1) (a2) W (keep_cell hW X1.out.a0) (keep_cell hW X1.out.a1)) ?_
  simp only [Act.put, List.setIfInBounds_toArray, List.set_cons_zero, List.set_cons_succ]
  repeat (first | ((with_reducible apply wq0); rfl; rfl; rfl; intro K hK; go_big_quiet_op; refine hK _ ?_; clear hK K) | ((with_reducible apply wq1); rfl; rfl; rfl; rfl; rfl; rfl; intro K hK; go_big_quiet_op; refine hK _ ?_; clear hK K) | ((with_reducible apply wqs); rfl; rfl; rfl; rfl; rfl; rfl; simp only [Act.put, List.setIfInBounds_toArray, List.set_cons_zero, List.set_cons_succ]) | ((with_reducible apply wqu); rfl; rfl; rfl; rfl; rfl; simp only [same]))
  refine wqIdx_load rfl rfl rfl rfl (fun W hW => load_mo_at _ _ (b1) (b2) W (keep_cell hW X1.out.b0) (keep_cell hW X1.out.b1)) ?_
  simp only [Act.put, List.setIfInBounds_toArray, List.set_cons_zero, List.set_cons_succ]
  repeat (first | ((with_reducible apply wq0); rfl; rfl; rfl; intro K hK; go_big_quiet_op; refine hK _ ?_; clear hK K) | ((with_reducible apply wq1); rfl; rfl; rfl; rfl; rfl; rfl; intro K hK; go_big_quiet_op; refine hK _ ?_; clear hK K) | ((with_reducible apply wqs); rfl; rfl; rfl; rfl; rfl; rfl; simp only [Act.put, List.setIfInBounds_toArray, List.set_cons_zero, List.set_cons_succ]) | ((with_reducible apply wqu); rfl; rfl; rfl; rfl; rfl; simp only [same]))
  refine wqIdx_load rfl rfl rfl rfl (fun W hW => load_mo_at _ _ (b1) (b2) W (keep_cell hW X1.out.b0) (keep_cell hW X1.out.b1)) ?_
  simp only [Act.put, List.setIfInBounds_toArray, List.set_cons_zero, List.set_cons_succ]
  repeat (first | ((with_reducible apply wq0); rfl; rfl; rfl; intro K hK; go_big_quiet_op; refine hK _ ?_; clear hK K) | ((with_reducible apply wq1); rfl; rfl; rfl; rfl; rfl; rfl; intro K hK; go_big_quiet_op; refine hK _ ?_; clear hK K) | ((with_reducible apply wqs); rfl; rfl; rfl; rfl; rfl; rfl; simp only [Act.put, List.setIfInBounds_toArray, List.set_cons_zero, List.set_cons_succ]) | ((with_reducible apply wqu); rfl; rfl; rfl; rfl; rfl; simp only [same]))
  refine wqIdx_load rfl rfl rfl rfl (fun W hW => load_mo_at _ _ (c1) (c2) W (keep_cell hW X1.out.c0) (keep_cell hW X1.out.c1)) ?_
  simp only [Act.put, List.setIfInBounds_toArray, List.set_cons_zero, List.set_cons_succ]
  repeat (first | ((with_reducible apply wq0); rfl; rfl; rfl; intro K hK; go_big_quiet_op; refine hK _ ?_; clear hK K) | ((with_reducible apply wq1); rfl; rfl; rfl; rfl; rfl; rfl; intro K hK; go_big_quiet_op; refine hK _ ?_; clear hK K) | ((with_reducible apply wqs); rfl; rfl; rfl; rfl; rfl; rfl; simp only [Act.put, List.setIfInBounds_toArray, List.set_cons_zero, List.set_cons_succ]) | ((with_reducible apply wqu); rfl; rfl; rfl; rfl; rfl; simp only [same]))
  refine wqIdx_load rfl rfl rfl rfl (fun W hW => load_mo_at _ _ (a1) (a2) W (keep_cell hW X1.out.a0) (keep_cell hW X1.out.a1)) ?_
  simp only [Act.put, List.setIfInBounds_toArray, List.set_cons_zero, List.set_cons_succ]
  repeat (first | ((with_reducible apply wq0); rfl; rfl; rfl; intro K hK; go_big_quiet_op; refine hK _ ?_; clear hK K) | ((with_reducible apply wq1); rfl; rfl; rfl; rfl; rfl; rfl; intro K hK; go_big_quiet_op; refine hK _ ?_; clear hK K) | ((with_reducible apply wqs); rfl; rfl; rfl; rfl; rfl; rfl; simp only [Act.put, List.setIfInBounds_toArray, List.set_cons_zero, List.set_cons_succ]) | ((with_reducible apply wqu); rfl; rfl; rfl; rfl; rfl; simp only [same]))
  refine wqIdx_load rfl rfl rfl rfl (fun W hW => load_mo_at _ _ (c1) (c2) W (keep_cell hW X1.out.c0) (keep_cell hW X1.out.c1)) ?_
  simp only [Act.put, List.setIfInBounds_toArray, List.set_cons_zero, List.set_cons_succ]
  repeat (first | ((with_reducible apply wq0); rfl; rfl; rfl; intro K hK; go_big_quiet_op; refine hK _ ?_; clear hK K) | ((with_reducible apply wq1); rfl; rfl; rfl; rfl; rfl; rfl; intro K hK; go_big_quiet_op; refine hK _ ?_; clear hK K) | ((with_reducible apply wqs); rfl; rfl; rfl; rfl; rfl; rfl; simp only [Act.put, List.setIfInBounds_toArray, List.set_cons_zero, List.set_cons_succ]) | ((with_reducible apply wqu); rfl; rfl; rfl; rfl; rfl; simp only [same]))
  refine wqIdx_nil ?_
  refine wpAnyR_sole (i := 2) rfl (by kernel_rfl) (fun K hK => ?_)
  go_simp
  refine (P1.out _).mono ?_; rintro e w2 ⟨rfl, b2⟩
  refine hK _ _ b2 ?_
  have X2 := Lib.hid (X1.out.below b2)
  have H2 := Lib.hid (below_trans H1.out b2)
  clear X1 H1 b2
  clear hK K
  refine wpAnyR_sole (i := 5) rfl (by kernel_rfl) (fun K hK => ?_)
  go_simp
  refine (P2.out _).mono ?_; rintro e w3 ⟨rfl, b3⟩
  refine hK _ _ b3 ?_
  have X3 := Lib.hid (X2.out.below b3)
  have H3 := Lib.hid (below_trans H2.out b3)
  clear X2 H2 b3
  clear hK K
  refine wpAnyR_sole (i := 8) rfl (by kernel_rfl) (fun K hK => ?_)
  go_simp
  refine (P3.out _).mono ?_; rintro e w4 ⟨rfl, b4⟩
  refine hK _ _ b4 ?_
  have X4 := Lib.hid (X3.out.below b4)
  have H4 := Lib.hid (below_trans H3.out b4)
  clear X3 H3 b4
  clear hK K
  refine batchB [9, 10, 11] (fuel := 0) rfl (by kernel_rfl) (by kernel_rfl) (fun _ _ d _ _ h => by cases d <;> exact h) ?_
  repeat (first | ((with_reducible apply wq0); rfl; rfl; rfl; intro K hK; go_big_quiet_op; refine hK _ ?_; clear hK K) | ((with_reducible apply wq1); rfl; rfl; rfl; rfl; rfl; rfl; intro K hK; go_big_quiet_op; refine hK _ ?_; clear hK K) | ((with_reducible apply wqs); rfl; rfl; rfl; rfl; rfl; rfl; simp only [Act.put, List.setIfInBounds_toArray, List.set_cons_zero, List.set_cons_succ]) | ((with_reducible apply wqu); rfl; rfl; rfl; rfl; rfl; simp only [same]))
  refine wqIdx_nil ?_
  refine wpAnyR_done (by kernel_rfl) ?_ _
  go_wp2_with fail
  have X5 := Lib.hid X4.out.drew
  have H5 := Lib.hid (RB.of_drew' H4.out)
  clear X4 H4
  have hc : (x = false ∧ z = false) ∨ (x = false ∧ z = true) ∨ (x = true ∧ y = false ∧ z = false) ∨ (x = true ∧ y = false ∧ z = true) ∨ (x = true ∧ y = true ∧ z = true) := by
    have := HT.out
    cases x <;> cases y <;> cases z <;> simp_all
  clear HT P1 P2 P3
  rcases hc with ⟨rfl, rfl⟩ | ⟨rfl, rfl⟩ | ⟨rfl, rfl, rfl⟩ | ⟨rfl, rfl, rfl⟩ | ⟨rfl, rfl, rfl⟩ <;> cases u
  all_goals
    simp only [Bool.true_and, Bool.false_and] at P5 P7
    refine wp_region_R (R := RB) (n := 38) (by kernel_rfl) rfl ?_
    refine batchB [0, 1, 2, 3, 4, 5, 6, 7, 8, 9, 10, 11, 13, 15] (fuel := 24) rfl (by kernel_rfl) (by kernel_rfl) (fun _ _ d _ _ h => by cases d <;> exact h) ?_
    repeat (first | ((with_reducible apply wq0); rfl; rfl; rfl; intro K hK; go_big_quiet_op; refine hK _ ?_; clear hK K) | ((with_reducible apply wq1); rfl; rfl; rfl; rfl; rfl; rfl; intro K hK; go_big_quiet_op; refine hK _ ?_; clear hK K) | ((with_reducible apply wqs); rfl; rfl; rfl; rfl; rfl; rfl; simp only [Act.put, List.setIfInBounds_toArray, List.set_cons_zero, List.set_cons_succ]) | ((with_reducible apply wqu); rfl; rfl; rfl; rfl; rfl; simp only [same]))
    try (refine wqIdx_load rfl rfl rfl rfl (fun W hW => load_mo_at _ _ (a1) (a2) W (keep_cell hW X5.out.a0) (keep_cell hW X5.out.a1)) ?_; simp only [Act.put, List.setIfInBounds_toArray, List.set_cons_zero, List.set_cons_succ])
    repeat (first | ((with_reducible apply wq0); rfl; rfl; rfl; intro K hK; go_big_quiet_op; refine hK _ ?_; clear hK K) | ((with_reducible apply wq1); rfl; rfl; rfl; rfl; rfl; rfl; intro K hK; go_big_quiet_op; refine hK _ ?_; clear hK K) | ((with_reducible apply wqs); rfl; rfl; rfl; rfl; rfl; rfl; simp only [Act.put, List.setIfInBounds_toArray, List.set_cons_zero, List.set_cons_succ]) | ((with_reducible apply wqu); rfl; rfl; rfl; rfl; rfl; simp only [same]))
    try (refine wqIdx_load rfl rfl rfl rfl (fun W hW => load_mo_at _ _ (b1) (b2) W (keep_cell hW X5.out.b0) (keep_cell hW X5.out.b1)) ?_; simp only [Act.put, List.setIfInBounds_toArray, List.set_cons_zero, List.set_cons_succ])
    repeat (first | ((with_reducible apply wq0); rfl; rfl; rfl; intro K hK; go_big_quiet_op; refine hK _ ?_; clear hK K) | ((with_reducible apply wq1); rfl; rfl; rfl; rfl; rfl; rfl; intro K hK; go_big_quiet_op; refine hK _ ?_; clear hK K) | ((with_reducible apply wqs); rfl; rfl; rfl; rfl; rfl; rfl; simp only [Act.put, List.setIfInBounds_toArray, List.set_cons_zero, List.set_cons_succ]) | ((with_reducible apply wqu); rfl; rfl; rfl; rfl; rfl; simp only [same]))
    try (refine wqIdx_load rfl rfl rfl rfl (fun W hW => load_mo_at _ _ (c1) (c2) W (keep_cell hW X5.out.c0) (keep_cell hW X5.out.c1)) ?_; simp only [Act.put, List.setIfInBounds_toArray, List.set_cons_zero, List.set_cons_succ])
    repeat (first | ((with_reducible apply wq0); rfl; rfl; rfl; intro K hK; go_big_quiet_op; refine hK _ ?_; clear hK K) | ((with_reducible apply wq1); rfl; rfl; rfl; rfl; rfl; rfl; intro K hK; go_big_quiet_op; refine hK _ ?_; clear hK K) | ((with_reducible apply wqs); rfl; rfl; rfl; rfl; rfl; rfl; simp only [Act.put, List.setIfInBounds_toArray, List.set_cons_zero, List.set_cons_succ]) | ((with_reducible apply wqu); rfl; rfl; rfl; rfl; rfl; simp only [same]))
    refine wqIdx_nil ?_
    refine wpAnyR_sole (i := 12) rfl (by kernel_rfl) (fun K hK => ?_)
    go_simp
    refine (P4.out _).mono ?_; rintro e w6 ⟨rfl, b6⟩
    refine hK _ _ b6 ?_
    have X6 := Lib.hid (X5.out.below b6)
    have H6 := Lib.hid (below_trans H5.out b6)
    clear X5 H5 b6
    clear hK K
    refine wpAnyR_sole (i := 14) rfl (by kernel_rfl) (fun K hK => ?_)
    go_simp
    refine (P5.out _).mono ?_; rintro e w7 ⟨rfl, b7⟩
    refine hK _ _ b7 ?_
    have X7 := Lib.hid (X6.out.below b7)
    have H7 := Lib.hid (below_trans H6.out b7)
    clear X6 H6 b7
    clear hK K
    refine batchB [16, 17, 18, 19, 20, 21, 22, 23, 24, 27, 28] (fuel := 11) rfl (by kernel_rfl) (by kernel_rfl) (fun _ _ d _ _ h => by cases d <;> exact h) ?_
    repeat (first | ((with_reducible apply wq0); rfl; rfl; rfl; intro K hK; go_big_quiet_op; refine hK _ ?_; clear hK K) | ((with_reducible apply wq1); rfl; rfl; rfl; rfl; rfl; rfl; intro K hK; go_big_quiet_op; refine hK _ ?_; clear hK K) | ((with_reducible apply wqs); rfl; rfl; rfl; rfl; rfl; rfl; simp only [Act.put, List.setIfInBounds_toArray, List.set_cons_zero, List.set_cons_succ]) | ((with_reducible apply wqu); rfl; rfl; rfl; rfl; rfl; simp only [same]))
    try (refine wqIdx_load rfl rfl rfl rfl (fun W hW => load_mo_at _ _ (c1) (c2) W (keep_cell hW X7.out.c0) (keep_cell hW X7.out.c1)) ?_; simp only [Act.put, List.setIfInBounds_toArray, List.set_cons_zero, List.set_cons_succ])
    repeat (first | ((with_reducible apply wq0); rfl; rfl; rfl; intro K hK; go_big_quiet_op; refine hK _ ?_; clear hK K) | ((with_reducible apply wq1); rfl; rfl; rfl; rfl; rfl; rfl; intro K hK; go_big_quiet_op; refine hK _ ?_; clear hK K) | ((with_reducible apply wqs); rfl; rfl; rfl; rfl; rfl; rfl; simp only [Act.put, List.setIfInBounds_toArray, List.set_cons_zero, List.set_cons_succ]) | ((with_reducible apply wqu); rfl; rfl; rfl; rfl; rfl; simp only [same]))
    try (refine wqIdx_load rfl rfl rfl rfl (fun W hW => load_mo_at _ _ (a1) (a2) W (keep_cell hW X7.out.a0) (keep_cell hW X7.out.a1)) ?_; simp only [Act.put, List.setIfInBounds_toArray, List.set_cons_zero, List.set_cons_succ])
    repeat (first | ((with_reducible apply wq0); rfl; rfl; rfl; intro K hK; go_big_quiet_op; refine hK _ ?_; clear hK K) | ((with_reducible apply wq1); rfl; rfl; rfl; rfl; rfl; rfl; intro K hK; go_big_quiet_op; refine hK _ ?_; clear hK K) | ((with_reducible apply wqs); rfl; rfl; rfl; rfl; rfl; rfl; simp only [Act.put, List.setIfInBounds_toArray, List.set_cons_zero, List.set_cons_succ]) | ((with_reducible apply wqu); rfl; rfl; rfl; rfl; rfl; simp only [same]))
    try (refine wqIdx_load rfl rfl rfl rfl (fun W hW => load_mo_at _ _ (b1) (b2) W (keep_cell hW X7.out.b0) (keep_cell hW X7.out.b1)) ?_; simp only [Act.put, List.setIfInBounds_toArray, List.set_cons_zero, List.set_cons_succ])
    repeat (first | ((with_reducible apply wq0); rfl; rfl; rfl; intro K hK; go_big_quiet_op; refine hK _ ?_; clear hK K) | ((with_reducible apply wq1); rfl; rfl; rfl; rfl; rfl; rfl; intro K hK; go_big_quiet_op; refine hK _ ?_; clear hK K) | ((with_reducible apply wqs); rfl; rfl; rfl; rfl; rfl; rfl; simp only [Act.put, List.setIfInBounds_toArray, List.set_cons_zero, List.set_cons_succ]) | ((with_reducible apply wqu); rfl; rfl; rfl; rfl; rfl; simp only [same]))
    try (refine wqIdx_load rfl rfl rfl rfl (fun W hW => load_mo_at _ _ (c1) (c2) W (keep_cell hW X7.out.c0) (keep_cell hW X7.out.c1)) ?_; simp only [Act.put, List.setIfInBounds_toArray, List.set_cons_zero, List.set_cons_succ])
    repeat (first | ((with_reducible apply wq0); rfl; rfl; rfl; intro K hK; go_big_quiet_op; refine hK _ ?_; clear hK K) | ((with_reducible apply wq1); rfl; rfl; rfl; rfl; rfl; rfl; intro K hK; go_big_quiet_op; refine hK _ ?_; clear hK K) | ((with_reducible apply wqs); rfl; rfl; rfl; rfl; rfl; rfl; simp only [Act.put, List.setIfInBounds_toArray, List.set_cons_zero, List.set_cons_succ]) | ((with_reducible apply wqu); rfl; rfl; rfl; rfl; rfl; simp only [same]))
    try (refine wqIdx_load rfl rfl rfl rfl (fun W hW => load_mo_at _ _ (a1) (a2) W (keep_cell hW X7.out.a0) (keep_cell hW X7.out.a1)) ?_; simp only [Act.put, List.setIfInBounds_toArray, List.set_cons_zero, List.set_cons_succ])
    repeat (first | ((with_reducible apply wq0); rfl; rfl; rfl; intro K hK; go_big_quiet_op; refine hK _ ?_; clear hK K) | ((with_reducible apply wq1); rfl; rfl; rfl; rfl; rfl; rfl; intro K hK; go_big_quiet_op; refine hK _ ?_; clear hK K) | ((with_reducible apply wqs); rfl; rfl; rfl; rfl; rfl; rfl; simp only [Act.put, List.setIfInBounds_toArray, List.set_cons_zero, List.set_cons_succ]) | ((with_reducible apply wqu); rfl; rfl; rfl; rfl; rfl; simp only [same]))
    refine wqIdx_nil ?_
    refine wpAnyR_sole (i := 25) rfl (by kernel_rfl) (fun K hK => ?_)
    go_simp
    refine (P6.out _).mono ?_; rintro e w8 ⟨rfl, b8⟩
    refine hK _ _ b8 ?_
    have X8 := Lib.hid (X7.out.below b8)
    have H8 := Lib.hid (below_trans H7.out b8)
    clear X7 H7 b8
    clear hK K
    refine wpAnyR_sole (i := 26) rfl (by kernel_rfl) (fun K hK => ?_)
    go_simp
    refine (P7.out _).mono ?_; rintro e w9 ⟨rfl, b9⟩
    refine hK _ _ b9 ?_
    have X9 := Lib.hid (X8.out.below b9)
    have H9 := Lib.hid (below_trans H8.out b9)
    clear X8 H8 b9
    clear hK K
    refine wpAnyR_sole (i := 29) rfl (by kernel_rfl) (fun K hK => ?_)
    go_simp
    refine (P8.out _).mono ?_; rintro e w10 ⟨rfl, b10⟩
    refine hK _ _ b10 ?_
    have X10 := Lib.hid (X9.out.below b10)
    have H10 := Lib.hid (below_trans H9.out b10)
    clear X9 H9 b10
    clear hK K
    refine batchB [30, 31, 32] (fuel := 5) rfl (by kernel_rfl) (by kernel_rfl) (fun _ _ d _ _ h => by cases d <;> exact h) ?_
    repeat (first | ((with_reducible apply wq0); rfl; rfl; rfl; intro K hK; go_big_quiet_op; refine hK _ ?_; clear hK K) | ((with_reducible apply wq1); rfl; rfl; rfl; rfl; rfl; rfl; intro K hK; go_big_quiet_op; refine hK _ ?_; clear hK K) | ((with_reducible apply wqs); rfl; rfl; rfl; rfl; rfl; rfl; simp only [Act.put, List.setIfInBounds_toArray, List.set_cons_zero, List.set_cons_succ]) | ((with_reducible apply wqu); rfl; rfl; rfl; rfl; rfl; simp only [same]))
    try (refine wqIdx_load rfl rfl rfl rfl (fun W hW => load_mo_at _ _ (c1) (c2) W (keep_cell hW X10.out.c0) (keep_cell hW X10.out.c1)) ?_; simp only [Act.put, List.setIfInBounds_toArray, List.set_cons_zero, List.set_cons_succ])
    repeat (first | ((with_reducible apply wq0); rfl; rfl; rfl; intro K hK; go_big_quiet_op; refine hK _ ?_; clear hK K) | ((with_reducible apply wq1); rfl; rfl; rfl; rfl; rfl; rfl; intro K hK; go_big_quiet_op; refine hK _ ?_; clear hK K) | ((with_reducible apply wqs); rfl; rfl; rfl; rfl; rfl; rfl; simp only [Act.put, List.setIfInBounds_toArray, List.set_cons_zero, List.set_cons_succ]) | ((with_reducible apply wqu); rfl; rfl; rfl; rfl; rfl; simp only [same]))
    try (refine wqIdx_load rfl rfl rfl rfl (fun W hW => load_mo_at _ _ (b1) (b2) W (keep_cell hW X10.out.b0) (keep_cell hW X10.out.b1)) ?_; simp only [Act.put, List.setIfInBounds_toArray, List.set_cons_zero, List.set_cons_succ])
    repeat (first | ((with_reducible apply wq0); rfl; rfl; rfl; intro K hK; go_big_quiet_op; refine hK _ ?_; clear hK K) | ((with_reducible apply wq1); rfl; rfl; rfl; rfl; rfl; rfl; intro K hK; go_big_quiet_op; refine hK _ ?_; clear hK K) | ((with_reducible apply wqs); rfl; rfl; rfl; rfl; rfl; rfl; simp only [Act.put, List.setIfInBounds_toArray, List.set_cons_zero, List.set_cons_succ]) | ((with_reducible apply wqu); rfl; rfl; rfl; rfl; rfl; simp only [same]))
    refine wqIdx_nil ?_
    refine wpAnyR_sole (i := 33) rfl (by kernel_rfl) (fun K hK => ?_)
    go_simp
    first | (refine (P9.out _).mono ?_; rintro e w11 ⟨rfl, b11⟩; refine hK _ _ b11 ?_; have H11 := Lib.hid (below_trans H10.out b11)) | (refine hK _ _ (RB.refl _) ?_; have H11 := Lib.hid H10.out)
    clear hK K
    refine batchB [34, 35, 36, 37] (fuel := 0) rfl (by kernel_rfl) (by kernel_rfl) (fun _ _ d _ _ h => by cases d <;> exact h) ?_
    repeat (first | ((with_reducible apply wq0); rfl; rfl; rfl; intro K hK; go_big_quiet_op; refine hK _ ?_; clear hK K) | ((with_reducible apply wq1); rfl; rfl; rfl; rfl; rfl; rfl; intro K hK; go_big_quiet_op; refine hK _ ?_; clear hK K) | ((with_reducible apply wqs); rfl; rfl; rfl; rfl; rfl; rfl; simp only [Act.put, List.setIfInBounds_toArray, List.set_cons_zero, List.set_cons_succ]) | ((with_reducible apply wqu); rfl; rfl; rfl; rfl; rfl; simp only [same]))
    refine wqIdx_nil ?_
    refine wpAnyR_done (by kernel_rfl) ?_ _
    go_wp2
    go_ret
    exact ⟨rfl, H11.out⟩
end Go.Proofs.Ytalcgkfnjhlnoab
