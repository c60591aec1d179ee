/- The law of package entry about what is chosen: at a moment, and behind a front. -/
import Derived.Test.YtfilelgbffbnlaaEnL
import Derived.Test.YtfilelgbffbnlaaOpE
namespace Go.Proofs.Ytfilelgbffbnlaa
open Go.RowKit Go.Sort

theorem load_mo_at2 {W0 W : World} {B : Nat} {m : Int × Int} (hB : B < W0.heap.size) (h0 : W0.cell? ⟨B, 0, none⟩ = some (.int .i64 m.1)) (h1 : W0.cell? ⟨B, 1, none⟩ = some (.int .i64 m.2)) (hb : Below W0.heap.size W0 W) : (Instr.loadAt 56 (.pointer (some ⟨B, 0, none⟩))).run Try.prog W = .ok (.agg #[.int .i64 m.1, .int .i64 m.2]) W :=
  load_mo_at B 0 m.1 m.2 W ((hb.cell (p := ⟨B, 0, none⟩) hB).trans h0) ((hb.cell (p := ⟨B, 1, none⟩) hB).trans h1)
set_option maxRecDepth 100000 in
set_option maxHeartbeats 4000000 in
theorem enCh_any (A : Option Addr) (h : Nat) (l : List En) (c : Nat) (m1 m2 : Int) (F : Option Addr) (hf : Nat) (f : List (Int × Int)) (cf : Nat) (w : World) (hle : InE w A h l c) (hFe : InP w F hf f cf) :
    Calls Try.prog 9 #[.slice A l.length c, .agg #[.int .i64 m1, .int .i64 m2], .slice F f.length cf] w fun e w' => e = .returned (.bool true) ∧ Below w.heap.size w w' := by
  have hl := hle.1
  have hF := hFe.1
  clear hle hFe
  have PL := Lib.hid (fun W => lives_any W)
  have ba := alloc_below w (.cells #[.int .i64 m1, .int .i64 m2] 56)
  have kb := Blk.new w 56 #[.int .i64 m1, .int .i64 m2]
  have hS := hl.below ba
  have hFS := hF.below ba
  obtain ⟨w0, hw0⟩ : ∃ w0, w0 = w.alloc (.cells #[.int .i64 m1, .int .i64 m2] 56) := ⟨_, rfl⟩
  rw [← hw0] at ba kb hS hFS
  have BA := Lib.hid ba
  have KB := Lib.hid kb
  have HS := Lib.hid hS
  have HF := Lib.hid hFS
  have HW := Lib.hid hw0
  clear hl hF ba kb hS hFS hw0
  by_cases hbig : 1000 < l.length ∨ 100 < f.length
  · by_cases h1 : 1000 < l.length
    · have d1 : decide ((1000 : Int) < (l.length : Int)) = true := by rw [decide_eq_true_eq]; omega
      clear hbig
      go_enter Try.func9, Try.ntmps9
      go_wp2_with fail
      refine (PL.out _).mono ?_; rintro e w1 ⟨rfl, b1⟩
      go_wp2
      go_ret
      rw [← HW.out] at b1
      exact ⟨rfl, below_trans BA.out b1⟩
    · have d1 : decide ((1000 : Int) < (l.length : Int)) = false := by rw [decide_eq_false_iff_not]; omega
      have d2 : decide ((100 : Int) < (f.length : Int)) = true := by rw [decide_eq_true_eq]; omega
      clear hbig
      go_enter Try.func9, Try.ntmps9
      go_wp2_with fail
      refine (PL.out _).mono ?_; rintro e w1 ⟨rfl, b1⟩
      go_wp2
      go_ret
      rw [← HW.out] at b1
      exact ⟨rfl, below_trans BA.out b1⟩
  · have hl1 : l.length ≤ 1000 := by omega
    have hf1 : f.length ≤ 100 := by omega
    have d1 : decide ((1000 : Int) < (l.length : Int)) = false := by rw [decide_eq_false_iff_not]; omega
    have d2 : decide ((100 : Int) < (f.length : Int)) = false := by rw [decide_eq_false_iff_not]; omega
    have P1 := Lib.hid (fun W (b : Below w0.heap.size w0 W) => en_at_any A h l c (m1, m2) W (HS.out.below b) (by omega))
    have P2 := Lib.hid (fun W (b : Below w0.heap.size w0 W) => ren_at_any A h l c (m1, m2) W (HS.out.below b) (by omega))
    have P3 := Lib.hid (fun W (b : Below w0.heap.size w0 W) => en_behind_any A h l c F hf f cf W (HS.out.below b) (by omega) (HF.out.below b) (by omega))
    have P4 := Lib.hid (fun W (b : Below w0.heap.size w0 W) => ren_behind_any A h l c F hf f cf W (HS.out.below b) (by omega) (HF.out.below b) (by omega))
    have n1 : ((l.filter fun x => x.1 == (m1, m2)).map (·.2)).length ≤ 1000 := by rw [List.length_map]; exact Nat.le_trans (List.length_filter_le ..) hl1
    have n2 : (l.filter fun x => f.any fun y => aheadM y x.1).length ≤ 1000 := Nat.le_trans (List.length_filter_le ..) hl1
    generalize (l.filter fun x => x.1 == (m1, m2)).map (·.2) = ls at P1 P2 n1
    generalize (l.filter fun x => f.any fun y => aheadM y x.1) = ms at P3 P4 n2
    have P5 := Lib.hid (fun W A1 A2 h1 h2 c1 c2 (s1 : SlP W h1 A1 ls) (s2 : SlP W h2 A2 ls) => rexact_any A1 A2 h1 h2 ls ls c1 c2 W s1 s2 (by omega) (by omega))
    have P6 := Lib.hid (fun W A1 A2 h1 h2 c1 c2 (s1 : SlK encE W h1 A1 ms) (s2 : SlK encE W h2 A2 ms) => ren_same_any A1 A2 h1 h2 ms ms c1 c2 W s1 s2 (by omega) (by omega))
    rw [show (ls == ls) = true from beq_self_eq_true ls] at P5
    rw [show (ms == ms) = true from beq_self_eq_true ms] at P6
    have B0 := Lib.hid (show Below w0.heap.size w0 w0.drew from ⟨rfl, rfl, rfl, Nat.le_refl _, fun _ _ => rfl⟩)
    have LM := Lib.hid (fun W (b : Below w0.heap.size w0 W) => load_mo_at2 (m := (m1, m2)) KB.out.lt (KB.out.cell 0) (KB.out.cell 1) b)
    clear hbig
    go_enter Try.func9, Try.ntmps9
    go_wp2_with fail
    rw [← HW.out]
    refine wp_region_R (R := RB) (n := 20) (by kernel_rfl) rfl ?_
    refine wpAnyR_sole (i := 0) rfl (by kernel_rfl) (fun K hK => ?_); go_simp
    refine (PL.out _).mono ?_; rintro e w1 ⟨rfl, b1⟩
    refine hK _ _ b1 ?_
    clear hK K
    have B1 := Lib.hid (below_trans B0.out b1)
    clear b1
    refine batchB [1, 2, 3, 5, 6] (fuel := 14) rfl (by kernel_rfl) (by kernel_rfl) (fun _ _ d _ _ h => by cases d <;> exact h) ?_
    (repeat (first | ((with_reducible apply wq0); rfl; rfl; rfl; intro K hK; go_big_quiet_op; refine hK _ ?_; clear hK K) | ((with_reducible apply wq1); rfl; rfl; rfl; rfl; rfl; rfl; intro K hK; go_big_quiet_op; refine hK _ ?_; clear hK K) | ((with_reducible apply wqs); rfl; rfl; rfl; rfl; rfl; rfl; simp only [Act.put, List.setIfInBounds_toArray, List.set_cons_zero, List.set_cons_succ]) | ((with_reducible apply wqu); rfl; rfl; rfl; rfl; rfl; simp only [same, Act.put, List.setIfInBounds_toArray, List.set_cons_zero, List.set_cons_succ])))
    refine wqIdx_load rfl rfl rfl rfl (fun W hW => LM.out W (below_trans B1.out hW)) ?_
    simp only [Act.put, List.setIfInBounds_toArray, List.set_cons_zero, List.set_cons_succ]
    (repeat (first | ((with_reducible apply wq0); rfl; rfl; rfl; intro K hK; go_big_quiet_op; refine hK _ ?_; clear hK K) | ((with_reducible apply wq1); rfl; rfl; rfl; rfl; rfl; rfl; intro K hK; go_big_quiet_op; refine hK _ ?_; clear hK K) | ((with_reducible apply wqs); rfl; rfl; rfl; rfl; rfl; rfl; simp only [Act.put, List.setIfInBounds_toArray, List.set_cons_zero, List.set_cons_succ]) | ((with_reducible apply wqu); rfl; rfl; rfl; rfl; rfl; simp only [same, Act.put, List.setIfInBounds_toArray, List.set_cons_zero, List.set_cons_succ])))
    refine wqIdx_load rfl rfl rfl rfl (fun W hW => LM.out W (below_trans B1.out hW)) ?_
    simp only [Act.put, List.setIfInBounds_toArray, List.set_cons_zero, List.set_cons_succ]
    (repeat (first | ((with_reducible apply wq0); rfl; rfl; rfl; intro K hK; go_big_quiet_op; refine hK _ ?_; clear hK K) | ((with_reducible apply wq1); rfl; rfl; rfl; rfl; rfl; rfl; intro K hK; go_big_quiet_op; refine hK _ ?_; clear hK K) | ((with_reducible apply wqs); rfl; rfl; rfl; rfl; rfl; rfl; simp only [Act.put, List.setIfInBounds_toArray, List.set_cons_zero, List.set_cons_succ]) | ((with_reducible apply wqu); rfl; rfl; rfl; rfl; rfl; simp only [same, Act.put, List.setIfInBounds_toArray, List.set_cons_zero, List.set_cons_succ])))
    refine wqIdx_nil ?_
    refine wpAnyR_sole (i := 4) rfl (by kernel_rfl) (fun K hK => ?_); go_simp
    refine (P1.out _ B1.out).mono ?_; rintro e w2 ⟨A2, c2, rfl, o2, b2⟩
    refine hK _ _ b2 ?_
    clear hK K
    have B2 := Lib.hid (below_trans B1.out b2)
    obtain ⟨g2, -, s2, -, -, -, -⟩ := SlP.of_own o2
    have S2 := Lib.hid s2
    clear b2 o2 s2
    refine wpAnyR_sole (i := 7) rfl (by kernel_rfl) (fun K hK => ?_); go_simp
    refine (P2.out _ B2.out).mono ?_; rintro e w3 ⟨A3, c3, rfl, o3, b3⟩
    refine hK _ _ b3 ?_
    clear hK K
    have B3 := Lib.hid (below_trans B2.out b3)
    obtain ⟨g3, -, s3, -, -, -, -⟩ := SlP.of_own o3
    have S3 := Lib.hid s3
    have S2 := Lib.hid (S2.out.below b3)
    clear b3 o3 s3
    refine wpAnyR_sole (i := 8) rfl (by kernel_rfl) (fun K hK => ?_); go_simp
    refine (P5.out _ _ _ _ _ _ _ S2.out S3.out).mono ?_; rintro e w4 ⟨rfl, b4⟩
    refine hK _ _ b4 ?_
    clear hK K
    have B4 := Lib.hid (below_trans B3.out b4)
    clear b4
    refine batchB [9, 10, 11, 12, 14, 15] (fuel := 5) rfl (by kernel_rfl) (by kernel_rfl) (fun _ _ d _ _ h => by cases d <;> exact h) ?_; (repeat (first | ((with_reducible apply wq0); rfl; rfl; rfl; intro K hK; go_big_quiet_op; refine hK _ ?_; clear hK K) | ((with_reducible apply wq1); rfl; rfl; rfl; rfl; rfl; rfl; intro K hK; go_big_quiet_op; refine hK _ ?_; clear hK K) | ((with_reducible apply wqs); rfl; rfl; rfl; rfl; rfl; rfl; simp only [Act.put, List.setIfInBounds_toArray, List.set_cons_zero, List.set_cons_succ]) | ((with_reducible apply wqu); rfl; rfl; rfl; rfl; rfl; simp only [same, Act.put, List.setIfInBounds_toArray, List.set_cons_zero, List.set_cons_succ]))); refine wqIdx_nil ?_
    refine wpAnyR_sole (i := 13) rfl (by kernel_rfl) (fun K hK => ?_); go_simp
    refine (P3.out _ B4.out).mono ?_; rintro e w5 ⟨A5, c5, rfl, o5, b5⟩
    refine hK _ _ b5 ?_
    clear hK K
    have B5 := Lib.hid (below_trans B4.out b5)
    obtain ⟨g5, -, s5, -⟩ := SlK.of_own layE o5
    have S5 := Lib.hid s5
    clear b5 o5 s5
    refine wpAnyR_sole (i := 16) rfl (by kernel_rfl) (fun K hK => ?_); go_simp
    refine (P4.out _ B5.out).mono ?_; rintro e w6 ⟨A6, c6, rfl, o6, b6⟩
    refine hK _ _ b6 ?_
    clear hK K
    have B6 := Lib.hid (below_trans B5.out b6)
    obtain ⟨g6, -, s6, -⟩ := SlK.of_own layE o6
    have S6 := Lib.hid s6
    have S5 := Lib.hid (S5.out.below b6)
    clear b6 o6 s6
    refine wpAnyR_sole (i := 17) rfl (by kernel_rfl) (fun K hK => ?_); go_simp
    refine (P6.out _ _ _ _ _ _ _ S5.out S6.out).mono ?_; rintro e w7 ⟨rfl, b7⟩
    refine hK _ _ b7 ?_
    clear hK K
    have B7 := Lib.hid (below_trans B6.out b7)
    clear b7
    refine batchB [18, 19] (fuel := 0) rfl (by kernel_rfl) (by kernel_rfl) (fun _ _ d _ _ h => by cases d <;> exact h) ?_; (repeat (first | ((with_reducible apply wq0); rfl; rfl; rfl; intro K hK; go_big_quiet_op; refine hK _ ?_; clear hK K) | ((with_reducible apply wq1); rfl; rfl; rfl; rfl; rfl; rfl; intro K hK; go_big_quiet_op; refine hK _ ?_; clear hK K) | ((with_reducible apply wqs); rfl; rfl; rfl; rfl; rfl; rfl; simp only [Act.put, List.setIfInBounds_toArray, List.set_cons_zero, List.set_cons_succ]) | ((with_reducible apply wqu); rfl; rfl; rfl; rfl; rfl; simp only [same, Act.put, List.setIfInBounds_toArray, List.set_cons_zero, List.set_cons_succ]))); refine wqIdx_nil ?_
    refine wpAnyR_done (by kernel_rfl) ?_ _
    go_wp2
    go_ret
    exact ⟨rfl, below_trans BA.out B7.out⟩
end Go.Proofs.Ytfilelgbffbnlaa
