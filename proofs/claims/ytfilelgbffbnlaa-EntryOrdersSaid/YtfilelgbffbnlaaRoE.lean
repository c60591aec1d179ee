/- Contracts of the document's records: Sorted. -/
import Derived.Test.YtfilelgbffbnlaaReP
import Derived.Test.YtfilelgbffbnlaaFrC
namespace Go.Proofs.Ytfilelgbffbnlaa
open Go.RowKit Go.Sort

/-- Records in order, one by one. -/
def sortedB : List (Int × Int) → Bool
  | [] => true
  | [_] => true
  | x :: y :: t => decide (cmpM x y ≤ 0) && sortedB (y :: t)
theorem sortedB_iff : ∀ l : List (Int × Int), sortedB l = true ↔ ∀ (i : Nat) (x y : Int × Int), l[i]? = some x → l[i + 1]? = some y → cmpM x y ≤ 0
  | [] => by simp [sortedB]
  | [a] => by simp [sortedB]
  | a :: b :: t => by
    rw [sortedB, Bool.and_eq_true, decide_eq_true_eq, sortedB_iff (b :: t)]
    constructor
    · rintro ⟨h1, h2⟩ i x y hx hy
      cases i with
      | zero =>
        simp at hx hy
        rw [← hx, ← hy]
        exact h1
      | succ i => exact h2 i x y (by simpa using hx) (by simpa using hy)
    · intro h
      exact ⟨h 0 a b rfl rfl, fun i x y hx hy => h (i + 1) x y (by simpa using hx) (by simpa using hy)⟩
set_option maxRecDepth 100000 in
set_option maxHeartbeats 1000000 in
theorem rrc_sorted_any (A : Option Addr) (h : Nat) (l : List (Int × Int)) (c : Nat) (w : World) (hl : SlP w h A l) (hn : l.length ≤ 1000000) :
    Calls Try.prog 51 #[.slice A l.length c] w fun e w' => e = .returned (.bool (sortedB l)) ∧ Below w.heap.size w w' := by
  have HL := Lib.hid hl
  clear hl
  go_enter Try.func51, Try.ntmps51
  go_wp2_with fail
  go_loopw [3] (fun i wr => ∃ k : Nat, k ≤ l.length ∧ i = .int .i64 ((k : Int) + 1) ∧ (∀ (i : Nat) (x y : Int × Int), i < k → l[i]? = some x → l[i + 1]? = some y → cmpM x y ≤ 0) ∧ Below w.heap.size w wr) (fun i _ => l.length + 1 - (intOf i).toNat)
  case atStart => exact ⟨0, Nat.zero_le _, rfl, fun i x y hi => absurd hi (Nat.not_lt_zero _), Below.refl _ _⟩
  case round =>
    obtain ⟨k, hk, rfl, hall, hb⟩ := hrel
    have HB := Lib.hid hb
    have HALL := Lib.hid hall
    clear hb hall
    by_cases hlt : k + 1 < l.length
    · obtain ⟨x, hx⟩ : ∃ x, l[k]? = some x := ⟨_, List.getElem?_eq_getElem (by omega)⟩
      obtain ⟨y, hy⟩ : ∃ y, l[k + 1]? = some y := ⟨_, List.getElem?_eq_getElem hlt⟩
      have HX := Lib.hid hx
      have HY := Lib.hid hy
      obtain ⟨x1, x2⟩ := x
      obtain ⟨y1, y2⟩ := y
      obtain ⟨-, o1, eA, p0, p1⟩ := (HL.out.below HB.out).at_ hx
      obtain ⟨-, o2, eB, q0, q1⟩ := (HL.out.below HB.out).at_ hy
      obtain rfl : o2 = o1 := by rw [eA] at eB; injection eB with eB; injection eB with _ eB; exact eB.symm
      subst eA
      clear eB hx hy
      have PC := Lib.hid (fun W => rrc_compare_any x1 x2 y1 y2 W)
      have HSB := Lib.hid (sortedB_iff l)
      have hz : cmpM (x1, x2) (y1, y2) ≤ 0 ↔ cmpM (x1, x2) (y1, y2) ≤ 0 := Iff.rfl
      generalize hzz : cmpM (x1, x2) (y1, y2) = z at PC hz
      have HZZ := Lib.hid hzz
      clear hz hzz
      by_cases hp : 0 < z
      · have d1 : decide (0 < z) = true := by simpa using hp
        have hm : sortedB l = false := by
          rw [Bool.eq_false_iff]
          intro hs
          have := HSB.out.1 hs k _ _ HX.out HY.out
          rw [HZZ.out] at this
          omega
        have HM := Lib.hid hm
        clear hm hp
        go_wp2_with fail
        refine wp_region_R (R := RB) (n := 11) (by kernel_rfl) rfl ?_
        refine batchB [0, 1, 2, 3, 4, 5, 6, 7, 8] (fuel := 2) rfl (by kernel_rfl) (by kernel_rfl) (fun _ _ d _ _ h => by cases d <;> exact h) ?_
        repeat (first | ((with_reducible apply wq0); rfl; rfl; rfl; intro K hK; go_big_quiet_op; refine hK _ ?_; clear hK K) | ((with_reducible apply wq1); rfl; rfl; rfl; rfl; rfl; rfl; intro K hK; go_big_quiet_op; refine hK _ ?_; clear hK K) | ((with_reducible apply wqs); rfl; rfl; rfl; rfl; rfl; rfl; simp only [Act.put, List.setIfInBounds_toArray, List.set_cons_zero, List.set_cons_succ]) | ((with_reducible apply wqu); rfl; rfl; rfl; rfl; rfl; simp only [same]))
        refine wqIdx_load rfl rfl rfl rfl (fun W hW => load_rec_at _ _ (x1) (x2) W (keep_cell hW p0) (keep_cell hW p1)) ?_
        simp only [Act.put, List.setIfInBounds_toArray, List.set_cons_zero, List.set_cons_succ]
        repeat (first | ((with_reducible apply wq0); rfl; rfl; rfl; intro K hK; go_big_quiet_op; refine hK _ ?_; clear hK K) | ((with_reducible apply wq1); rfl; rfl; rfl; rfl; rfl; rfl; intro K hK; go_big_quiet_op; refine hK _ ?_; clear hK K) | ((with_reducible apply wqs); rfl; rfl; rfl; rfl; rfl; rfl; simp only [Act.put, List.setIfInBounds_toArray, List.set_cons_zero, List.set_cons_succ]) | ((with_reducible apply wqu); rfl; rfl; rfl; rfl; rfl; simp only [same]))
        refine wqIdx_load rfl rfl rfl rfl (fun W hW => load_rec_at _ _ (y1) (y2) W (keep_cell hW q0) (keep_cell hW q1)) ?_
        simp only [Act.put, List.setIfInBounds_toArray, List.set_cons_zero, List.set_cons_succ]
        repeat (first | ((with_reducible apply wq0); rfl; rfl; rfl; intro K hK; go_big_quiet_op; refine hK _ ?_; clear hK K) | ((with_reducible apply wq1); rfl; rfl; rfl; rfl; rfl; rfl; intro K hK; go_big_quiet_op; refine hK _ ?_; clear hK K) | ((with_reducible apply wqs); rfl; rfl; rfl; rfl; rfl; rfl; simp only [Act.put, List.setIfInBounds_toArray, List.set_cons_zero, List.set_cons_succ]) | ((with_reducible apply wqu); rfl; rfl; rfl; rfl; rfl; simp only [same]))
        refine wqIdx_nil ?_
        refine wpAnyR_sole (i := 9) rfl (by kernel_rfl) (fun K hK => ?_)
        go_simp
        refine (PC.out _).mono ?_; rintro e w4 ⟨rfl, b4⟩
        refine hK _ _ b4 ?_
        have HW4 := Lib.hid (below_trans HB.out (Below.of_drew0 b4))
        clear b4
        clear hK K
        refine batchB [10] (fuel := 0) rfl (by kernel_rfl) (by kernel_rfl) (fun _ _ d _ _ h => by cases d <;> exact h) ?_
        repeat (first | ((with_reducible apply wq0); rfl; rfl; rfl; intro K hK; go_big_quiet_op; refine hK _ ?_; clear hK K) | ((with_reducible apply wq1); rfl; rfl; rfl; rfl; rfl; rfl; intro K hK; go_big_quiet_op; refine hK _ ?_; clear hK K) | ((with_reducible apply wqs); rfl; rfl; rfl; rfl; rfl; rfl; simp only [Act.put, List.setIfInBounds_toArray, List.set_cons_zero, List.set_cons_succ]) | ((with_reducible apply wqu); rfl; rfl; rfl; rfl; rfl; simp only [same]))
        refine wqIdx_nil ?_
        refine wpAnyR_done (by kernel_rfl) ?_ _
        go_wp2
        go_ret
        exact ⟨ret_bool' HM.out.symm, HW4.out⟩
      · have d1 : decide (0 < z) = false := by simpa using hp
        have HP := Lib.hid hp
        clear hp
        go_wp2_with fail
        refine wp_region_R (R := RB) (n := 11) (by kernel_rfl) rfl ?_
        refine batchB [0, 1, 2, 3, 4, 5, 6, 7, 8] (fuel := 2) rfl (by kernel_rfl) (by kernel_rfl) (fun _ _ d _ _ h => by cases d <;> exact h) ?_
        repeat (first | ((with_reducible apply wq0); rfl; rfl; rfl; intro K hK; go_big_quiet_op; refine hK _ ?_; clear hK K) | ((with_reducible apply wq1); rfl; rfl; rfl; rfl; rfl; rfl; intro K hK; go_big_quiet_op; refine hK _ ?_; clear hK K) | ((with_reducible apply wqs); rfl; rfl; rfl; rfl; rfl; rfl; simp only [Act.put, List.setIfInBounds_toArray, List.set_cons_zero, List.set_cons_succ]) | ((with_reducible apply wqu); rfl; rfl; rfl; rfl; rfl; simp only [same]))
        refine wqIdx_load rfl rfl rfl rfl (fun W hW => load_rec_at _ _ (x1) (x2) W (keep_cell hW p0) (keep_cell hW p1)) ?_
        simp only [Act.put, List.setIfInBounds_toArray, List.set_cons_zero, List.set_cons_succ]
        repeat (first | ((with_reducible apply wq0); rfl; rfl; rfl; intro K hK; go_big_quiet_op; refine hK _ ?_; clear hK K) | ((with_reducible apply wq1); rfl; rfl; rfl; rfl; rfl; rfl; intro K hK; go_big_quiet_op; refine hK _ ?_; clear hK K) | ((with_reducible apply wqs); rfl; rfl; rfl; rfl; rfl; rfl; simp only [Act.put, List.setIfInBounds_toArray, List.set_cons_zero, List.set_cons_succ]) | ((with_reducible apply wqu); rfl; rfl; rfl; rfl; rfl; simp only [same]))
        refine wqIdx_load rfl rfl rfl rfl (fun W hW => load_rec_at _ _ (y1) (y2) W (keep_cell hW q0) (keep_cell hW q1)) ?_
        simp only [Act.put, List.setIfInBounds_toArray, List.set_cons_zero, List.set_cons_succ]
        repeat (first | ((with_reducible apply wq0); rfl; rfl; rfl; intro K hK; go_big_quiet_op; refine hK _ ?_; clear hK K) | ((with_reducible apply wq1); rfl; rfl; rfl; rfl; rfl; rfl; intro K hK; go_big_quiet_op; refine hK _ ?_; clear hK K) | ((with_reducible apply wqs); rfl; rfl; rfl; rfl; rfl; rfl; simp only [Act.put, List.setIfInBounds_toArray, List.set_cons_zero, List.set_cons_succ]) | ((with_reducible apply wqu); rfl; rfl; rfl; rfl; rfl; simp only [same]))
        refine wqIdx_nil ?_
        refine wpAnyR_sole (i := 9) rfl (by kernel_rfl) (fun K hK => ?_)
        go_simp
        refine (PC.out _).mono ?_; rintro e w4 ⟨rfl, b4⟩
        refine hK _ _ b4 ?_
        have HW4 := Lib.hid (below_trans HB.out (Below.of_drew0 b4))
        clear b4
        clear hK K
        refine batchB [10] (fuel := 0) rfl (by kernel_rfl) (by kernel_rfl) (fun _ _ d _ _ h => by cases d <;> exact h) ?_
        repeat (first | ((with_reducible apply wq0); rfl; rfl; rfl; intro K hK; go_big_quiet_op; refine hK _ ?_; clear hK K) | ((with_reducible apply wq1); rfl; rfl; rfl; rfl; rfl; rfl; intro K hK; go_big_quiet_op; refine hK _ ?_; clear hK K) | ((with_reducible apply wqs); rfl; rfl; rfl; rfl; rfl; rfl; simp only [Act.put, List.setIfInBounds_toArray, List.set_cons_zero, List.set_cons_succ]) | ((with_reducible apply wqu); rfl; rfl; rfl; rfl; rfl; simp only [same]))
        refine wqIdx_nil ?_
        refine wpAnyR_done (by kernel_rfl) ?_ _
        go_wp2
        refine ⟨⟨k + 1, by omega, by go_num, fun i x y hi hx hy => ?_, HW4.out⟩, by simp [intOf]; omega⟩
        by_cases hik : i = k
        · subst hik
          rw [HX.out] at hx
          rw [HY.out] at hy
          injection hx with hx
          injection hy with hy
          rw [← hx, ← hy, HZZ.out]
          have := HP.out
          omega
        · exact HALL.out i x y (by omega) hx hy
    · have hm : sortedB l = true := (sortedB_iff l).2 fun i x y hx hy => HALL.out i x y (by
        have := (List.getElem?_eq_some_iff.1 hy).1
        omega) hx hy
      have HM := Lib.hid hm
      clear hm
      go_wp2
      go_ret
      exact ⟨ret_bool' HM.out.symm, HB.out⟩
end Go.Proofs.Ytfilelgbffbnlaa
