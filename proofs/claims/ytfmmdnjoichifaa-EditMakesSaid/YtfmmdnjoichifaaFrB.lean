/- Contracts of package moment: Beyond, and what Front asks of the library. -/
import Derived.Test.YtfmmdnjoichifaaFrA
import Derived.Test.YtfmmdnjoichifaaFrM
namespace Go.Proofs.Ytfmmdnjoichifaa
open Go.RowKit Go.Sort

theorem moE_zero (m : Int × Int) : (moE m == 0) = okMo m := by
  unfold moE
  cases okMo m <;> rfl
theorem info_mo3 : (Try.prog.info? 47).map (fun i => (i.zero, i.size, i.bytes)) = some (some (.agg #[.int .i64 0, .int .i64 0]), 2, 16) := by kernel_rfl
/-- A copy of moments, in a row of one's own. -/
def CopyMo (w : World) (l : List (Int × Int)) (e : Ending) (w' : World) : Prop :=
  ∃ A' c', e = .returned (.slice A' l.length c') ∧ Below w.heap.size w w' ∧ (l ≠ [] → ∃ g cur, A' = some ⟨g, 0, none⟩ ∧ w.heap.size ≤ g ∧ w'.heap[g]? = some (.cells cur 47 (0, 0)) ∧ cur.toList.take (l.length * 2) = Prs l ∧ l.length ≤ c' ∧ c' ≤ maxLen)
/-- The sort of moments. -/
def sortMo (l : List (Int × Int)) : List (Int × Int) := l.mergeSort fun x y => !(ltM y x)
theorem sortMo_mem (l : List (Int × Int)) (x : Int × Int) : x ∈ sortMo l ↔ x ∈ l := (List.mergeSort_perm l _).mem_iff
theorem sortMo_length (l : List (Int × Int)) : (sortMo l).length = l.length := (List.mergeSort_perm l _).length_eq
theorem sortMo_sorted (l : List (Int × Int)) : (sortMo l).Pairwise fun x y => ltM y x = false := by
  have h := List.pairwise_mergeSort (le := fun x y : Int × Int => !(ltM y x)) (fun a b c h1 h2 => by
    simp only [Bool.not_eq_true'] at *
    exact ltM_swo.ntrans _ _ _ h2 h1) (fun a b => by
    rw [Bool.or_eq_true, Bool.not_eq_true', Bool.not_eq_true', ltM_not, ltM_not]; omega) l
  exact h.imp fun h => by simpa using h
end Go.Proofs.Ytfmmdnjoichifaa
