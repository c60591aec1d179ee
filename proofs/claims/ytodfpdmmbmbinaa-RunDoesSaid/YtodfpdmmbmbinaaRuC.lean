/- Runs: Add. -/
import Derived.Test.YtodfpdmmbmbinaaRuB
import Derived.Test.YtodfpdmmbmbinaaFiW
namespace Go.Proofs.Ytodfpdmmbmbinaa
open Go.RowKit Go.Sort

theorem zero_en (w : World) : (zeroValue 65).run Try.prog w = .ok (.agg #[.int .i64 0, .int .i64 0, .int .i64 0, .int .i64 0]) w := by kernel_rfl
theorem wp_max2 {P : Program} {o : Oper} {a : Act} {w : World} {K : Act → World → Prop} {Q : Exit → Act → World → Prop} {ts : Array TypeId} {x y : Operand} {p q r : Int} (ho : o.op = .call { callee := .builtin .max, args := #[x, y], argTypes := ts }) (hx : a.eval x = .int .i64 p) (hy : a.eval y = .int .i64 q)
    (hv : (if q > p then q else p) = r) (h : K (a.put o.dst (.int .i64 r)) w) : o.wp P a w K Q := by
  obtain ⟨dst, op, type, pos, after, guard⟩ := o
  subst ho
  subst hv
  unfold Oper.wp
  simp [execOp, resolve, invoke, builtin, hx, hy, run_max_int2, Result.andThen, Oper.upon]
  exact h
section
variable {w w' w1 : World} {base r : Nat} {hb : Option Nat} {R : Rn}
theorem radd_bad (h : RunR w base r hb R) (x : En) (hx : enE x ≠ 0) : Calls Try.prog 42 #[ptR r, enV x] w fun e w' => e = .returned (.int .i64 (enE x)) ∧ Below w.heap.size w w' := by
  obtain ⟨⟨a, b⟩, c, d⟩ := x
  have b1 := alloc_below w (.cells #[.int .i64 a, .int .i64 b, .int .i64 c, .int .i64 d] 65)
  have B1 := Lib.hid b1
  have PU := Lib.hid (runmade_any (h.below b1))
  have PC := Lib.hid (en_check_any a b c d (w.alloc (.cells #[.int .i64 a, .int .i64 b, .int .i64 c, .int .i64 d] 65)))
  have d1 : (enE ((a, b), (c, d)) == 0) = false := by rw [beq_eq_false_iff_ne]; exact hx
  clear h b1 hx
  generalize enE ((a, b), (c, d)) = q at *
  unfold enV
  go_enter Try.func42, Try.ntmps42
  go_wp2_with fail
  refine PU.out.mono ?_; rintro e w' ⟨rfl, rfl⟩
  go_wp2_with fail
  refine PC.out.mono ?_; rintro e w2 ⟨rfl, b2⟩
  have B2 := Lib.hid b2
  clear b2
  go_wp2_with fail
  go_ret
  exact ⟨rfl, below_trans B1.out B2.out⟩
theorem radd_full (h : RunR w base r hb R) (x : En) (hx : enE x = 0) (hf : R.held.length = R.limit) : Calls Try.prog 42 #[ptR r, enV x] w fun e w' => e = .returned (.int .i64 2) ∧ Below w.heap.size w w' := by
  obtain ⟨⟨a, b⟩, c, d⟩ := x
  have b1 := alloc_below w (.cells #[.int .i64 a, .int .i64 b, .int .i64 c, .int .i64 d] 65)
  have B1 := Lib.hid b1
  have H1 := Lib.hid (h.below b1)
  have PU := Lib.hid (runmade_any (h.below b1))
  have PC := Lib.hid (en_check_any a b c d (w.alloc (.cells #[.int .i64 a, .int .i64 b, .int .i64 c, .int .i64 d] 65)))
  rw [hx] at PC
  have HF := Lib.hid hf
  clear h b1 hx hf
  unfold enV
  go_enter Try.func42, Try.ntmps42
  go_wp2_with fail
  refine PU.out.mono ?_; rintro e w' ⟨rfl, rfl⟩
  go_wp2_with fail
  refine PC.out.mono ?_; rintro e w2 ⟨rfl, b2⟩
  obtain ⟨A, cc, hl, c0, -, c2, -⟩ := (H1.out.below b2).cells
  rw [HF.out] at c2
  have B2 := Lib.hid b2
  clear b2
  go_wp2_with fail
  go_region
  go_wp2_with fail
  go_ret
  exact ⟨rfl, dr_below (below_trans B1.out B2.out)⟩
set_option maxRecDepth 100000 in
set_option maxHeartbeats 2000000 in
theorem radd_ok (h : RunR w base r hb R) (x : En) (hx : enE x = 0) (hf : R.held.length < R.limit) (hbase : base ≤ w.heap.size) : Calls Try.prog 42 #[ptR r, enV x] w fun e w' => e = .returned (.int .i64 0) ∧
    ∃ hb', RunR w' base r hb' ⟨R.limit, max R.most (R.held.length + 1), R.held ++ [x]⟩ ∧ RF r hb w w' ∧ (hb' = hb ∨ ∀ k, hb' = some k → w.heap.size ≤ k) := by
  obtain ⟨⟨a, b⟩, c, d⟩ := x
  have b1 := alloc_below w (.cells #[.int .i64 a, .int .i64 b, .int .i64 c, .int .i64 d] 65)
  have hbx := EnBox.new w ((a, b), (c, d)) 65
  have B1 := Lib.hid b1
  have H1 := Lib.hid (h.below b1)
  have PU := Lib.hid (runmade_any (h.below b1))
  have PC := Lib.hid (en_check_any a b c d (w.alloc (.cells #[.int .i64 a, .int .i64 b, .int .i64 c, .int .i64 d] 65)))
  have HX := Lib.hid hbx
  rw [hx] at PC
  have HE := Lib.hid hx
  have HB := Lib.hid hbase
  have HG := Lib.hid h.good
  have d1 : ((R.held.length : Int) == (R.limit : Int)) = false := by rw [beq_eq_false_iff_ne]; omega
  have hl2 : R.held.length < 4096 := Nat.lt_of_lt_of_le hf HG.out.2.1
  have HL := Lib.hid hf
  clear h b1 hx hf hbase hbx
  unfold enV
  go_enter Try.func42, Try.ntmps42
  go_wp2_with fail
  refine PU.out.mono ?_; rintro e w' ⟨rfl, rfl⟩
  go_wp2_with fail
  refine PC.out.mono ?_; rintro e w2 ⟨rfl, b2⟩
  have H2 := Lib.hid (H1.out.below b2)
  have X2 := Lib.hid (HX.out.below b2)
  obtain ⟨A, cc, hrl, c0, c1, c2, ho, hhb⟩ := H2.out.cells
  have B2 := Lib.hid (below_trans B1.out b2)
  have HO := Lib.hid ho
  have HHB := Lib.hid hhb
  clear b2 ho hhb c1
  go_wp2_with fail
  go_region
  have C2 := Lib.hid c2
  obtain ⟨q0, q1, q2, q3⟩ := X2.out.four
  clear c0 c2
  go_wp2_with fail
  refine wp_region_J RT [7, 10] (n := 11) (by kernel_rfl) rfl ?_
  refine batchJ RT.refl [1, 2, 3, 4, 5] (fuel := 6) rfl (by kernel_rfl) (by kernel_rfl) (fun _ _ d _ _ h => by cases d <;> exact h) ?_
  (repeat (first | ((with_reducible apply wq0); rfl; rfl; rfl; intro K hK; go_big_quiet_op; refine hK _ ?_; clear hK K) | ((with_reducible apply wq1); rfl; rfl; rfl; rfl; rfl; rfl; intro K hK; go_big_quiet_op; refine hK _ ?_; clear hK K) | ((with_reducible apply wqs); rfl; rfl; rfl; rfl; rfl; rfl; simp only [Act.put, List.setIfInBounds_toArray, List.set_cons_zero, List.set_cons_succ]) | ((with_reducible apply wqu); rfl; rfl; rfl; rfl; rfl; (first | simp only [same, Act.put, List.setIfInBounds_toArray, List.set_cons_zero, List.set_cons_succ] | simp only [Act.put, List.setIfInBounds_toArray, List.set_cons_zero, List.set_cons_succ]))))
  refine wqIdx_nil_check rfl rfl rfl rfl ?_; simp only [Act.put, List.setIfInBounds_toArray, List.set_cons_zero, List.set_cons_succ]
  (repeat (first | ((with_reducible apply wq0); rfl; rfl; rfl; intro K hK; go_big_quiet_op; refine hK _ ?_; clear hK K) | ((with_reducible apply wq1); rfl; rfl; rfl; rfl; rfl; rfl; intro K hK; go_big_quiet_op; refine hK _ ?_; clear hK K) | ((with_reducible apply wqs); rfl; rfl; rfl; rfl; rfl; rfl; simp only [Act.put, List.setIfInBounds_toArray, List.set_cons_zero, List.set_cons_succ]) | ((with_reducible apply wqu); rfl; rfl; rfl; rfl; rfl; (first | simp only [same, Act.put, List.setIfInBounds_toArray, List.set_cons_zero, List.set_cons_succ] | simp only [Act.put, List.setIfInBounds_toArray, List.set_cons_zero, List.set_cons_succ]))))
  refine wqIdx_load rfl rfl rfl rfl (fun W hW => run_load1 (fun _ => by kernel_rfl) (keep_c hW (C2.out))) ?_; simp only [Act.put, List.setIfInBounds_toArray, List.set_cons_zero, List.set_cons_succ]
  (repeat (first | ((with_reducible apply wq0); rfl; rfl; rfl; intro K hK; go_big_quiet_op; refine hK _ ?_; clear hK K) | ((with_reducible apply wq1); rfl; rfl; rfl; rfl; rfl; rfl; intro K hK; go_big_quiet_op; refine hK _ ?_; clear hK K) | ((with_reducible apply wqs); rfl; rfl; rfl; rfl; rfl; rfl; simp only [Act.put, List.setIfInBounds_toArray, List.set_cons_zero, List.set_cons_succ]) | ((with_reducible apply wqu); rfl; rfl; rfl; rfl; rfl; (first | simp only [same, Act.put, List.setIfInBounds_toArray, List.set_cons_zero, List.set_cons_succ] | simp only [Act.put, List.setIfInBounds_toArray, List.set_cons_zero, List.set_cons_succ]))))
  refine wqIdx_load rfl rfl rfl rfl (fun W hW => load_en_four w.heap.size 0 a b c d W (keep_c hW q0) (keep_c hW q1) (keep_c hW q2) (keep_c hW q3)) ?_
  simp only [Act.put, List.setIfInBounds_toArray, List.set_cons_zero, List.set_cons_succ]
  refine wqIdx_nil ?_
  refine batchP RT.refl RT.trans [0] (fuel := 5) rfl (by kernel_rfl) (by kernel_rfl) (fun _ _ d _ _ h => by cases d <;> exact h) ?_
  (repeat (first | ((with_reducible apply wq0); rfl; rfl; rfl; intro K hK; go_big_quiet_op; refine hK _ ?_; clear hK K) | ((with_reducible apply wq1); rfl; rfl; rfl; rfl; rfl; rfl; intro K hK; go_big_quiet_op; refine hK _ ?_; clear hK K) | ((with_reducible apply wqs); rfl; rfl; rfl; rfl; rfl; rfl; simp only [Act.put, List.setIfInBounds_toArray, List.set_cons_zero, List.set_cons_succ]) | ((with_reducible apply wqu); rfl; rfl; rfl; rfl; rfl; (first | simp only [same, Act.put, List.setIfInBounds_toArray, List.set_cons_zero, List.set_cons_succ] | simp only [Act.put, List.setIfInBounds_toArray, List.set_cons_zero, List.set_cons_succ]))))
  refine wqIdx_nil ?_
  refine wpAnyJ_sole (i := 6) rfl (by kernel_rfl) (fun K hK => ?_); rw [if_pos (wanted0 rfl _)]
  refine wp_buildSlice_one (.tmp 28) rfl (cs := encE ((a, b), (c, d))) rfl Try.underlying70 info_en (by decide) (by decide) (layE.len _) (zero_en _) rfl ?_
  refine hK _ _ ⟨fun _ => al_below _ _, trivial⟩ ?_
  clear hK K
  simp only [Act.put, List.setIfInBounds_toArray, List.set_cons_zero, List.set_cons_succ]
  have HOA := Lib.hid (World.ownsRow.alloc (World.ownsRow.drew (World.ownsRow.drew HO.out)) (.cells (encE ((a, b), (c, d))).toArray 65))
  have HRA := Lib.hid (reads_oneK layE w2.drew.drew ((a, b), (c, d)) 65)
  have BA := Lib.hid (show Below w.heap.size w (w2.drew.drew.alloc (.cells (encE ((a, b), (c, d))).toArray 65)) from (dr_below (dr_below B2.out)).alloc B2.out.size _)
  refine wpAnyJ_sole (i := 7) rfl (by kernel_rfl) (fun K hK => ?_); rw [if_pos (wanted0 rfl _)]
  refine wp_appK layE (ys := [((a, b), (c, d))]) (.tmp 27) (.tmp 29) _ rfl Try.underlying70 info_en3 rfl HOA.out HRA.out 1 rfl rfl (by omega) (by decide) (Nat.le_trans HB.out BA.out.size) ?_
  intro A5 c5 w5 o5 gr5
  refine hK _ _ ⟨fun hc => absurd (by decide) hc, trivial⟩ ?_
  clear hK K
  simp only [Act.put, List.setIfInBounds_toArray, List.set_cons_zero, List.set_cons_succ]
  obtain ⟨A0, cc0, hbr, h0base, -, -, -⟩ := H2.out
  have hb5 := (Blk.alloc (Blk.drew (Blk.drew hbr)) (.cells (encE ((a, b), (c, d))).toArray 65)).grown (Grew.by_ gr5) (Ne.symm (own_blk_ne HOA.out (Blk.alloc (Blk.drew (Blk.drew hbr)) _) (by decide)))
  have k5 := hb5.cell 2
  have z5 := hb5.frozen 2
  have X6 := Lib.hid (hb5.set_ 2 (.slice A5 (R.held.length + 1) c5))
  have O6 := Lib.hid (ownsRow_setCell_other (a := ⟨r, 2, none⟩) o5 (own_blk_ne o5 hb5 (by decide)) (.slice A5 (R.held.length + 1) c5))
  have G5 := Lib.hid gr5
  have HBL := Lib.hid h0base
  clear hb5 o5 gr5 hbr h0base
  refine batchP RT.refl RT.trans [8, 9] (fuel := 1) rfl (by kernel_rfl) (by kernel_rfl) (fun _ _ d _ _ h => by cases d <;> exact h) ?_
  refine wqIdx_nil_check rfl rfl rfl rfl ?_; simp only [Act.put, List.setIfInBounds_toArray, List.set_cons_zero, List.set_cons_succ]
  (repeat (first | ((with_reducible apply wq0); rfl; rfl; rfl; intro K hK; go_big_quiet_op; refine hK _ ?_; clear hK K) | ((with_reducible apply wq1); rfl; rfl; rfl; rfl; rfl; rfl; intro K hK; go_big_quiet_op; refine hK _ ?_; clear hK K) | ((with_reducible apply wqs); rfl; rfl; rfl; rfl; rfl; rfl; simp only [Act.put, List.setIfInBounds_toArray, List.set_cons_zero, List.set_cons_succ]) | ((with_reducible apply wqu); rfl; rfl; rfl; rfl; rfl; (first | simp only [same, Act.put, List.setIfInBounds_toArray, List.set_cons_zero, List.set_cons_succ] | simp only [Act.put, List.setIfInBounds_toArray, List.set_cons_zero, List.set_cons_succ]))))
  refine wqIdx_nil ?_
  refine wpAnyJ_sole (i := 10) rfl (by kernel_rfl) (fun K hK => ?_); go_simp
  refine hK _ _ ⟨fun hc => absurd (by decide) hc, trivial⟩ ?_
  clear hK K k5 z5
  refine wpAnyJ_done (by kernel_rfl) ?_ _
  obtain ⟨w6, hw6⟩ : ∃ w6, w6 = w5.setCell ⟨r, 2, none⟩ (.slice A5 (R.held.length + 1) c5) := ⟨_, rfl⟩
  rw [← hw6] at X6 O6 ⊢
  have HW6 := Lib.hid hw6
  clear hw6
  have K1 := Lib.hid (show w6.cell? ⟨r, 1, none⟩ = some (.int .i64 (R.most : Int)) from X6.out.cell 1)
  have K2 := Lib.hid (show w6.cell? ⟨r, 2, none⟩ = some (.slice A5 (R.held.length + 1) c5) from X6.out.cell 2)
  go_wp2_with fail
  refine wp_region_J RT [13] (n := 14) (by kernel_rfl) rfl ?_
  refine batchJ RT.refl [0, 1, 2, 3, 4, 5, 6, 7, 8, 9] (fuel := 4) rfl (by kernel_rfl) (by kernel_rfl) (fun _ _ d _ _ h => by cases d <;> exact h) ?_
  (repeat (first | ((with_reducible apply wq0); rfl; rfl; rfl; intro K hK; go_big_quiet_op; refine hK _ ?_; clear hK K) | ((with_reducible apply wq1); rfl; rfl; rfl; rfl; rfl; rfl; intro K hK; go_big_quiet_op; refine hK _ ?_; clear hK K) | ((with_reducible apply wqs); rfl; rfl; rfl; rfl; rfl; rfl; simp only [Act.put, List.setIfInBounds_toArray, List.set_cons_zero, List.set_cons_succ]) | ((with_reducible apply wqu); rfl; rfl; rfl; rfl; rfl; (first | simp only [same, Act.put, List.setIfInBounds_toArray, List.set_cons_zero, List.set_cons_succ] | simp only [Act.put, List.setIfInBounds_toArray, List.set_cons_zero, List.set_cons_succ]))))
  refine wqIdx_nil_check rfl rfl rfl rfl ?_; simp only [Act.put, List.setIfInBounds_toArray, List.set_cons_zero, List.set_cons_succ]
  (repeat (first | ((with_reducible apply wq0); rfl; rfl; rfl; intro K hK; go_big_quiet_op; refine hK _ ?_; clear hK K) | ((with_reducible apply wq1); rfl; rfl; rfl; rfl; rfl; rfl; intro K hK; go_big_quiet_op; refine hK _ ?_; clear hK K) | ((with_reducible apply wqs); rfl; rfl; rfl; rfl; rfl; rfl; simp only [Act.put, List.setIfInBounds_toArray, List.set_cons_zero, List.set_cons_succ]) | ((with_reducible apply wqu); rfl; rfl; rfl; rfl; rfl; (first | simp only [same, Act.put, List.setIfInBounds_toArray, List.set_cons_zero, List.set_cons_succ] | simp only [Act.put, List.setIfInBounds_toArray, List.set_cons_zero, List.set_cons_succ]))))
  refine wqIdx_load rfl rfl rfl rfl (fun W hW => run_load1 (fun _ => by kernel_rfl) (keep_c hW (K1.out))) ?_; simp only [Act.put, List.setIfInBounds_toArray, List.set_cons_zero, List.set_cons_succ]
  (repeat (first | ((with_reducible apply wq0); rfl; rfl; rfl; intro K hK; go_big_quiet_op; refine hK _ ?_; clear hK K) | ((with_reducible apply wq1); rfl; rfl; rfl; rfl; rfl; rfl; intro K hK; go_big_quiet_op; refine hK _ ?_; clear hK K) | ((with_reducible apply wqs); rfl; rfl; rfl; rfl; rfl; rfl; simp only [Act.put, List.setIfInBounds_toArray, List.set_cons_zero, List.set_cons_succ]) | ((with_reducible apply wqu); rfl; rfl; rfl; rfl; rfl; (first | simp only [same, Act.put, List.setIfInBounds_toArray, List.set_cons_zero, List.set_cons_succ] | simp only [Act.put, List.setIfInBounds_toArray, List.set_cons_zero, List.set_cons_succ]))))
  refine wqIdx_nil_check rfl rfl rfl rfl ?_; simp only [Act.put, List.setIfInBounds_toArray, List.set_cons_zero, List.set_cons_succ]
  (repeat (first | ((with_reducible apply wq0); rfl; rfl; rfl; intro K hK; go_big_quiet_op; refine hK _ ?_; clear hK K) | ((with_reducible apply wq1); rfl; rfl; rfl; rfl; rfl; rfl; intro K hK; go_big_quiet_op; refine hK _ ?_; clear hK K) | ((with_reducible apply wqs); rfl; rfl; rfl; rfl; rfl; rfl; simp only [Act.put, List.setIfInBounds_toArray, List.set_cons_zero, List.set_cons_succ]) | ((with_reducible apply wqu); rfl; rfl; rfl; rfl; rfl; (first | simp only [same, Act.put, List.setIfInBounds_toArray, List.set_cons_zero, List.set_cons_succ] | simp only [Act.put, List.setIfInBounds_toArray, List.set_cons_zero, List.set_cons_succ]))))
  refine wqIdx_load rfl rfl rfl rfl (fun W hW => run_load1 (fun _ => by kernel_rfl) (keep_c hW (K2.out))) ?_; simp only [Act.put, List.setIfInBounds_toArray, List.set_cons_zero, List.set_cons_succ]
  (repeat (first | ((with_reducible apply wq0); rfl; rfl; rfl; intro K hK; go_big_quiet_op; refine hK _ ?_; clear hK K) | ((with_reducible apply wq1); rfl; rfl; rfl; rfl; rfl; rfl; intro K hK; go_big_quiet_op; refine hK _ ?_; clear hK K) | ((with_reducible apply wqs); rfl; rfl; rfl; rfl; rfl; rfl; simp only [Act.put, List.setIfInBounds_toArray, List.set_cons_zero, List.set_cons_succ]) | ((with_reducible apply wqu); rfl; rfl; rfl; rfl; rfl; (first | simp only [same, Act.put, List.setIfInBounds_toArray, List.set_cons_zero, List.set_cons_succ] | simp only [Act.put, List.setIfInBounds_toArray, List.set_cons_zero, List.set_cons_succ]))))
  refine wqIdx_nil ?_
  obtain ⟨mx, hmx⟩ : ∃ mx : Nat, mx = max R.most (R.held.length + 1) := ⟨_, rfl⟩
  have HMX := Lib.hid hmx
  refine wpAnyJ_sole (i := 10) rfl (by kernel_rfl) (fun K hK => ?_); rw [if_pos (wanted0 rfl _)]
  refine wp_max2 rfl rfl rfl (r := (mx : Int)) (by rw [hmx]; split <;> omega) ?_
  refine hK _ _ ⟨fun _ => Below.refl _ _, trivial⟩ ?_
  clear hK K hmx
  simp only [Act.put, List.setIfInBounds_toArray, List.set_cons_zero, List.set_cons_succ]
  refine batchJ RT.refl [11, 12] (fuel := 1) rfl (by kernel_rfl) (by kernel_rfl) (fun _ _ d _ _ h => by cases d <;> exact h) ?_
  refine wqIdx_nil_check rfl rfl rfl rfl ?_; simp only [Act.put, List.setIfInBounds_toArray, List.set_cons_zero, List.set_cons_succ]
  (repeat (first | ((with_reducible apply wq0); rfl; rfl; rfl; intro K hK; go_big_quiet_op; refine hK _ ?_; clear hK K) | ((with_reducible apply wq1); rfl; rfl; rfl; rfl; rfl; rfl; intro K hK; go_big_quiet_op; refine hK _ ?_; clear hK K) | ((with_reducible apply wqs); rfl; rfl; rfl; rfl; rfl; rfl; simp only [Act.put, List.setIfInBounds_toArray, List.set_cons_zero, List.set_cons_succ]) | ((with_reducible apply wqu); rfl; rfl; rfl; rfl; rfl; (first | simp only [same, Act.put, List.setIfInBounds_toArray, List.set_cons_zero, List.set_cons_succ] | simp only [Act.put, List.setIfInBounds_toArray, List.set_cons_zero, List.set_cons_succ]))))
  refine wqIdx_nil ?_
  have k7 := X6.out.cell 1
  have z7 := X6.out.frozen 1
  have X7 := Lib.hid (X6.out.set_ 1 (.int .i64 (mx : Int)))
  have O7 := Lib.hid (ownsRow_setCell_other (a := ⟨r, 1, none⟩) O6.out (own_blk_ne O6.out X6.out (by decide)) (.int .i64 (mx : Int)))
  refine wpAnyJ_sole (i := 13) rfl (by kernel_rfl) (fun K hK => ?_); go_simp
  refine hK _ _ ⟨fun hc => absurd (by decide) hc, trivial⟩ ?_
  clear hK K k7 z7
  refine wpAnyJ_done (by kernel_rfl) ?_ _
  go_wp2_with fail
  go_ret
  refine ⟨rfl, (Value.slice A5 (R.held.length + 1) c5).ownBlock, ⟨A5, c5, ?_, HBL.out, ?_, ?_, HG.out.1, HG.out.2.1, ?_, ?_, ?_⟩, ?_, ?_⟩
  · show Blk _ r 115 #[.int .i64 (R.limit : Int), .int .i64 ((max R.most (R.held.length + 1) : Nat) : Int), .slice A5 (R.held ++ [((a, b), (c, d))]).length c5]
    rw [List.length_append, ← HMX.out]
    exact X7.out
  · show World.ownsRow _ base 65 4 (.slice A5 (R.held ++ [((a, b), (c, d))]).length c5) (R.held ++ [((a, b), (c, d))]).length _
    rw [List.length_append]
    exact O7.out
  · cases A5 <;> rfl
  · show max R.most (R.held.length + 1) ≤ R.limit
    have := HG.out.2.2.1
    have := HL.out
    omega
  · show (R.held ++ [((a, b), (c, d))]).length ≤ R.limit
    rw [List.length_append]
    exact HL.out
  · intro y hy
    rcases List.mem_append.1 hy with hy | hy
    · exact HG.out.2.2.2.2 y hy
    · rw [List.mem_singleton.1 hy]
      exact HE.out
  · have hg := Grew.by_ G5.out
    rw [HW6.out]
    refine ⟨hg.os.trans BA.out.os, hg.tape.trans BA.out.tape, hg.output.trans BA.out.output, ?_, fun k hk hkr hkb => ?_⟩
    · have := BA.out.size
      have := hg.size
      show w.heap.size ≤ ((w5.setCell ⟨r, 2, none⟩ (.slice A5 (R.held.length + 1) c5)).setCell ⟨r, 1, none⟩ (.int .i64 (mx : Int))).heap.size
      rw [World.size_setCell, World.size_setCell]
      omega
    · refine (Below.heap_setCell _ ⟨r, 1, none⟩ _ k hkr).trans ((Below.heap_setCell w5 ⟨r, 2, none⟩ _ k hkr).trans ((hg.block k (Nat.lt_of_lt_of_le hk BA.out.size) ?_).trans (BA.out.block k hk)))
      rw [← HHB.out]
      exact hkb
  · rcases Grew.at_ G5.out with e | e
    · exact .inl (by rw [e, ← HHB.out])
    · refine .inr fun k hk => ?_
      rw [e] at hk
      injection hk with hk
      have := BA.out.size
      rw [← hk]
      exact this
end
end Go.Proofs.Ytodfpdmmbmbinaa
