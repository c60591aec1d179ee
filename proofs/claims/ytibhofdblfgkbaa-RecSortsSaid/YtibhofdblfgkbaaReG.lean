/- Contracts of package rec: Sorted. -/
import Derived.Test.YtibhofdblfgkbaaReF
namespace Go.Proofs.Ytibhofdblfgkbaa
open Go.RowKit Go.Sort

theorem cmpM_flip (x y : Int × Int) : cmpM y x < 0 ↔ ¬ cmpM x y ≤ 0 := by
  unfold cmpM cmpI
  split <;> split <;> (try split) <;> (try split) <;> omega
theorem sortedB_srt (l : List (Int × Int)) : sortedB l = true ↔ SrtP l := by
  induction l with
  | nil => exact ⟨fun _ => List.Pairwise.nil, fun _ => rfl⟩
  | cons x t ih =>
    cases t with
    | nil => exact ⟨fun _ => List.pairwise_singleton _ x, fun _ => rfl⟩
    | cons y t =>
      rw [sortedB, Bool.and_eq_true, ih, ← leR_cmp]
      constructor
      · rintro ⟨h1, h2⟩
        refine List.pairwise_cons.2 ⟨fun z hz => ?_, h2⟩
        rcases List.mem_cons.1 hz with e | hz
        · rw [e]; exact h1
        · exact leR_trans _ _ _ h1 ((List.pairwise_cons.1 h2).1 z hz)
      · intro h
        have := List.pairwise_cons.1 h
        exact ⟨this.1 y (List.mem_cons_self ..), this.2⟩
set_option maxRecDepth 100000 in
set_option maxHeartbeats 1000000 in
theorem isSortedRec_any (A : Option Addr) (h : Nat) (l : List (Int × Int)) (c : Nat) (w : World) (hl : SlP w h A l) (hn : l.length ≤ 1000000) :
    Calls Try.prog 79 #[.slice A l.length c, .func (.func 46) #[] #[]] w fun e w' => e = .returned (.bool (sortedB l)) ∧ Below w.heap.size w w' := by
  have HL := Lib.hid hl
  clear hl
  go_enter Try.func79, Try.ntmps79
  go_wp2_with fail
  go_loopw [5] (fun i wr => ∃ k : Nat, k ≤ l.length ∧ i = .int .i64 ((k : Int) - 1) ∧ (∀ (i : Nat) (x y : Int × Int), k ≤ i + 1 → l[i]? = some x → l[i + 1]? = some y → cmpM x y ≤ 0) ∧ Below w.heap.size w wr) (fun i _ => (intOf i).toNat)
  case atStart => exact ⟨l.length, Nat.le_refl _, rfl, fun i x y hi hx hy => by have := (List.getElem?_eq_some_iff.1 hy).1; omega, Below.refl _ _⟩
  case round =>
    obtain ⟨k, hk, rfl, hall, hb⟩ := hrel
    have HB := Lib.hid hb
    have HALL := Lib.hid hall
    clear hb hall
    by_cases hlt : 1 < k
    · obtain ⟨m, rfl⟩ : ∃ m, k = m + 2 := ⟨k - 2, by omega⟩
      rw [show (((m + 2 : Nat) : Int) - 1) = (m : Int) + 1 by omega]
      obtain ⟨x, hx⟩ : ∃ x, l[m]? = some x := ⟨_, List.getElem?_eq_getElem (by omega)⟩
      obtain ⟨y, hy⟩ : ∃ y, l[m + 1]? = some y := ⟨_, List.getElem?_eq_getElem (by omega)⟩
      have HX := Lib.hid hx
      have HY := Lib.hid hy
      obtain ⟨x1, x2⟩ := x
      obtain ⟨y1, y2⟩ := y
      obtain ⟨-, o1, eA, p0, p1⟩ := (HL.out.below HB.out).at_ hx
      obtain ⟨-, o2, eB, q0, q1⟩ := (HL.out.below HB.out).at_ hy
      obtain rfl : o2 = o1 := by rw [eA] at eB; injection eB with eB; injection eB with _ eB; exact eB.symm
      subst eA
      clear eB hx hy
      have PC := Lib.hid (fun W => rc_compare_any y1 y2 x1 x2 W)
      have hz := cmpM_flip (x1, x2) (y1, y2)
      generalize cmpM (y1, y2) (x1, x2) = z at PC hz
      by_cases hp : z < 0
      · have d1 : decide (z < 0) = true := by simpa using hp
        have hm : sortedB l = false := by
          rw [Bool.eq_false_iff]
          intro hs
          exact hz.1 hp ((sortedB_iff l).1 hs _ _ _ HX.out HY.out)
        have HM := Lib.hid hm
        clear hm hp hz
        go_wp2_with fail
        refine wp_region_R (R := RB) (n := 12) (by kernel_rfl) rfl ?_
        refine batchB [0, 1, 2, 3, 4, 5, 6, 7, 8, 9] (fuel := 2) rfl (by kernel_rfl) (by kernel_rfl) (fun _ _ d _ _ h => by cases d <;> exact h) ?_
        repeat (first | ((with_reducible apply wq0); rfl; rfl; rfl; intro K hK; go_big_quiet_op; refine hK _ ?_; clear hK K) | ((with_reducible apply wq1); rfl; rfl; rfl; rfl; rfl; rfl; intro K hK; go_big_quiet_op; refine hK _ ?_; clear hK K) | ((with_reducible apply wqs); rfl; rfl; rfl; rfl; rfl; rfl; simp only [Act.put, List.setIfInBounds_toArray, List.set_cons_zero, List.set_cons_succ]) | ((with_reducible apply wqu); rfl; rfl; rfl; rfl; rfl; simp only [same]) | ((with_reducible apply wqu); rfl; rfl; rfl; rfl; rfl; simp only [Act.put, List.setIfInBounds_toArray, List.set_cons_zero, List.set_cons_succ]))
        refine wqIdx_load rfl rfl rfl rfl (fun W hW => load_rec_at _ _ (y1) (y2) W (keep_cell hW q0) (keep_cell hW q1)) ?_
        simp only [Act.put, List.setIfInBounds_toArray, List.set_cons_zero, List.set_cons_succ]
        repeat (first | ((with_reducible apply wq0); rfl; rfl; rfl; intro K hK; go_big_quiet_op; refine hK _ ?_; clear hK K) | ((with_reducible apply wq1); rfl; rfl; rfl; rfl; rfl; rfl; intro K hK; go_big_quiet_op; refine hK _ ?_; clear hK K) | ((with_reducible apply wqs); rfl; rfl; rfl; rfl; rfl; rfl; simp only [Act.put, List.setIfInBounds_toArray, List.set_cons_zero, List.set_cons_succ]) | ((with_reducible apply wqu); rfl; rfl; rfl; rfl; rfl; simp only [same]) | ((with_reducible apply wqu); rfl; rfl; rfl; rfl; rfl; simp only [Act.put, List.setIfInBounds_toArray, List.set_cons_zero, List.set_cons_succ]))
        refine wqIdx_load rfl rfl rfl rfl (fun W hW => load_rec_at _ _ (x1) (x2) W (keep_cell hW p0) (keep_cell hW p1)) ?_
        simp only [Act.put, List.setIfInBounds_toArray, List.set_cons_zero, List.set_cons_succ]
        repeat (first | ((with_reducible apply wq0); rfl; rfl; rfl; intro K hK; go_big_quiet_op; refine hK _ ?_; clear hK K) | ((with_reducible apply wq1); rfl; rfl; rfl; rfl; rfl; rfl; intro K hK; go_big_quiet_op; refine hK _ ?_; clear hK K) | ((with_reducible apply wqs); rfl; rfl; rfl; rfl; rfl; rfl; simp only [Act.put, List.setIfInBounds_toArray, List.set_cons_zero, List.set_cons_succ]) | ((with_reducible apply wqu); rfl; rfl; rfl; rfl; rfl; simp only [same]) | ((with_reducible apply wqu); rfl; rfl; rfl; rfl; rfl; simp only [Act.put, List.setIfInBounds_toArray, List.set_cons_zero, List.set_cons_succ]))
        refine wqIdx_nil ?_
        refine wpAnyR_sole (i := 10) rfl (by kernel_rfl) (fun K hK => ?_)
        go_simp
        refine (PC.out _).mono ?_; rintro e w4 ⟨rfl, b4⟩
        refine hK _ _ b4 ?_
        have HW4 := Lib.hid (below_trans HB.out (Below.of_drew0 b4))
        clear b4
        clear hK K
        refine batchB [11] (fuel := 0) rfl (by kernel_rfl) (by kernel_rfl) (fun _ _ d _ _ h => by cases d <;> exact h) ?_
        repeat (first | ((with_reducible apply wq0); rfl; rfl; rfl; intro K hK; go_big_quiet_op; refine hK _ ?_; clear hK K) | ((with_reducible apply wq1); rfl; rfl; rfl; rfl; rfl; rfl; intro K hK; go_big_quiet_op; refine hK _ ?_; clear hK K) | ((with_reducible apply wqs); rfl; rfl; rfl; rfl; rfl; rfl; simp only [Act.put, List.setIfInBounds_toArray, List.set_cons_zero, List.set_cons_succ]) | ((with_reducible apply wqu); rfl; rfl; rfl; rfl; rfl; simp only [same]) | ((with_reducible apply wqu); rfl; rfl; rfl; rfl; rfl; simp only [Act.put, List.setIfInBounds_toArray, List.set_cons_zero, List.set_cons_succ]))
        refine wqIdx_nil ?_
        refine wpAnyR_done (by kernel_rfl) ?_ _
        go_wp2
        go_ret
        exact ⟨ret_bool' HM.out.symm, HW4.out⟩
      · have d1 : decide (z < 0) = false := by simpa using hp
        have HP := Lib.hid (show cmpM (x1, x2) (y1, y2) ≤ 0 by omega)
        clear hp hz
        go_wp2_with fail
        refine wp_region_R (R := RB) (n := 12) (by kernel_rfl) rfl ?_
        refine batchB [0, 1, 2, 3, 4, 5, 6, 7, 8, 9] (fuel := 2) rfl (by kernel_rfl) (by kernel_rfl) (fun _ _ d _ _ h => by cases d <;> exact h) ?_
        repeat (first | ((with_reducible apply wq0); rfl; rfl; rfl; intro K hK; go_big_quiet_op; refine hK _ ?_; clear hK K) | ((with_reducible apply wq1); rfl; rfl; rfl; rfl; rfl; rfl; intro K hK; go_big_quiet_op; refine hK _ ?_; clear hK K) | ((with_reducible apply wqs); rfl; rfl; rfl; rfl; rfl; rfl; simp only [Act.put, List.setIfInBounds_toArray, List.set_cons_zero, List.set_cons_succ]) | ((with_reducible apply wqu); rfl; rfl; rfl; rfl; rfl; simp only [same]) | ((with_reducible apply wqu); rfl; rfl; rfl; rfl; rfl; simp only [Act.put, List.setIfInBounds_toArray, List.set_cons_zero, List.set_cons_succ]))
        refine wqIdx_load rfl rfl rfl rfl (fun W hW => load_rec_at _ _ (y1) (y2) W (keep_cell hW q0) (keep_cell hW q1)) ?_
        simp only [Act.put, List.setIfInBounds_toArray, List.set_cons_zero, List.set_cons_succ]
        repeat (first | ((with_reducible apply wq0); rfl; rfl; rfl; intro K hK; go_big_quiet_op; refine hK _ ?_; clear hK K) | ((with_reducible apply wq1); rfl; rfl; rfl; rfl; rfl; rfl; intro K hK; go_big_quiet_op; refine hK _ ?_; clear hK K) | ((with_reducible apply wqs); rfl; rfl; rfl; rfl; rfl; rfl; simp only [Act.put, List.setIfInBounds_toArray, List.set_cons_zero, List.set_cons_succ]) | ((with_reducible apply wqu); rfl; rfl; rfl; rfl; rfl; simp only [same]) | ((with_reducible apply wqu); rfl; rfl; rfl; rfl; rfl; simp only [Act.put, List.setIfInBounds_toArray, List.set_cons_zero, List.set_cons_succ]))
        refine wqIdx_load rfl rfl rfl rfl (fun W hW => load_rec_at _ _ (x1) (x2) W (keep_cell hW p0) (keep_cell hW p1)) ?_
        simp only [Act.put, List.setIfInBounds_toArray, List.set_cons_zero, List.set_cons_succ]
        repeat (first | ((with_reducible apply wq0); rfl; rfl; rfl; intro K hK; go_big_quiet_op; refine hK _ ?_; clear hK K) | ((with_reducible apply wq1); rfl; rfl; rfl; rfl; rfl; rfl; intro K hK; go_big_quiet_op; refine hK _ ?_; clear hK K) | ((with_reducible apply wqs); rfl; rfl; rfl; rfl; rfl; rfl; simp only [Act.put, List.setIfInBounds_toArray, List.set_cons_zero, List.set_cons_succ]) | ((with_reducible apply wqu); rfl; rfl; rfl; rfl; rfl; simp only [same]) | ((with_reducible apply wqu); rfl; rfl; rfl; rfl; rfl; simp only [Act.put, List.setIfInBounds_toArray, List.set_cons_zero, List.set_cons_succ]))
        refine wqIdx_nil ?_
        refine wpAnyR_sole (i := 10) rfl (by kernel_rfl) (fun K hK => ?_)
        go_simp
        refine (PC.out _).mono ?_; rintro e w4 ⟨rfl, b4⟩
        refine hK _ _ b4 ?_
        have HW4 := Lib.hid (below_trans HB.out (Below.of_drew0 b4))
        clear b4
        clear hK K
        refine batchB [11] (fuel := 0) rfl (by kernel_rfl) (by kernel_rfl) (fun _ _ d _ _ h => by cases d <;> exact h) ?_
        repeat (first | ((with_reducible apply wq0); rfl; rfl; rfl; intro K hK; go_big_quiet_op; refine hK _ ?_; clear hK K) | ((with_reducible apply wq1); rfl; rfl; rfl; rfl; rfl; rfl; intro K hK; go_big_quiet_op; refine hK _ ?_; clear hK K) | ((with_reducible apply wqs); rfl; rfl; rfl; rfl; rfl; rfl; simp only [Act.put, List.setIfInBounds_toArray, List.set_cons_zero, List.set_cons_succ]) | ((with_reducible apply wqu); rfl; rfl; rfl; rfl; rfl; simp only [same]) | ((with_reducible apply wqu); rfl; rfl; rfl; rfl; rfl; simp only [Act.put, List.setIfInBounds_toArray, List.set_cons_zero, List.set_cons_succ]))
        refine wqIdx_nil ?_
        refine wpAnyR_done (by kernel_rfl) ?_ _
        go_wp2
        refine ⟨⟨m + 1, by omega, by go_num, fun i x y hi hx hy => ?_, HW4.out⟩, by simp [intOf]⟩
        by_cases hik : i = m
        · subst hik
          rw [HX.out] at hx
          rw [HY.out] at hy
          injection hx with hx
          injection hy with hy
          rw [← hx, ← hy]
          exact HP.out
        · exact HALL.out i x y (by omega) hx hy
    · have hm : sortedB l = true := (sortedB_iff l).2 fun i x y hx hy => HALL.out i x y (by omega) hx hy
      have HM := Lib.hid hm
      have d1 : decide (0 < (k : Int) - 1) = false := by rw [decide_eq_false_iff_not]; omega
      clear hm
      go_wp2
      go_ret
      exact ⟨ret_bool' HM.out.symm, HB.out⟩
set_option maxRecDepth 100000 in
set_option maxHeartbeats 1000000 in
theorem rc_sorted_any (A : Option Addr) (h : Nat) (l : List (Int × Int)) (c : Nat) (w : World) (hl : SlP w h A l) (hn : l.length ≤ 1000000) :
    Calls Try.prog 22 #[.slice A l.length c] w fun e w' => e = .returned (.bool (sortedB l)) ∧ Below w.heap.size w w' := by
  have P1 := Lib.hid (isSortedRec_any A h l c w hl hn)
  clear hl
  go_enter Try.func22, Try.ntmps22
  go_wp2_with fail
  refine P1.out.mono ?_; rintro e w0 ⟨rfl, b0⟩
  go_wp2
  go_ret
  exact ⟨rfl, b0⟩
end Go.Proofs.Ytibhofdblfgkbaa
