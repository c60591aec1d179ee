/- Contracts of package rec: clone, sort, contains at records. -/
import Derived.Test.YtodfpdmmbmbinaaReA
import Derived.Test.YtodfpdmmbmbinaaFrC
namespace Go.Proofs.Ytodfpdmmbmbinaa
open Go.RowKit Go.Sort

theorem recE_zero (m : Int × Int) : (recE m == 0) = okRec m := by
  unfold recE
  cases okRec m <;> rfl
theorem info_rec3 : (Try.prog.info? 63).map (fun i => (i.zero, i.size, i.bytes)) = some (some (.agg #[.int .i64 0, .int .i64 0]), 2, 16) := by kernel_rfl
/-- A copy of moments, in a row of one's own. -/
def CopyRec (w : World) (l : List (Int × Int)) (e : Ending) (w' : World) : Prop :=
  ∃ A' c', e = .returned (.slice A' l.length c') ∧ Below w.heap.size w w' ∧ (l ≠ [] → ∃ g cur, A' = some ⟨g, 0, none⟩ ∧ w.heap.size ≤ g ∧ w'.heap[g]? = some (.cells cur 63 (0, 0)) ∧ cur.toList.take (l.length * 2) = Prs l ∧ l.length ≤ c' ∧ c' ≤ maxLen)
theorem rc_cmp_lays (blk off size : Nat) (w : World) : CmpLays Try.prog 127 #[] encP 2 (fun x y => cmpM x y) blk off size w :=
  fun _ _ _ _ x y => rc_compare_grow x.1 x.2 y.1 y.2 _
end Go.Proofs.Ytodfpdmmbmbinaa
