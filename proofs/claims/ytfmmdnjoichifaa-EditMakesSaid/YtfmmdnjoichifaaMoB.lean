/- Contracts of package moment: two moments, and one; ways. -/
import Derived.Test.YtfmmdnjoichifaaMoA
import Derived.Laws.ResultCell
import Derived.Laws.Rows
namespace Go.Proofs.Ytfmmdnjoichifaa
open Go.RowKit

theorem ret_bool' {a b : Bool} (h : a = b) : Ending.returned (.bool a) = .returned (.bool b) := by rw [h]
def moE (m : Int × Int) : Int := if okMo m then 0 else 40
theorem info_mo : (Try.prog.info? 47).map (·.size) = some 2 := by kernel_rfl
theorem heap_top (w : World) (o : Obj) (g : Nat) (hg : g = w.heap.size) : (w.alloc o).heap[g]? = some o := by rw [hg]; exact heap_alloc_new w o
theorem results_cell_tmp_row {P : Program} {fn : Func} {p u : Tmp} {ty : TypeId} (h : fn.results = #[.cell p ty, .tmp u]) (tmps : Array Value) (w : World) (g : Nat) (t : TypeId) (cs : Array Value) (fr : Nat × Nat) (d : TypeDesc)
    (hp : tmps.getD p undef = .pointer (some ⟨g, 0, none⟩)) (hg : w.heap[g]? = some (.cells cs t fr))
    (hu : P.underlying ty = some d) (hd : (match d with | .struct _ | .array _ _ => true | _ => false) = true) (hi : (P.info? ty).map (·.size) = some cs.size) :
    (results fn tmps).run P w = .ok (.tuple #[.agg cs, tmps.getD u undef]) w := by
  rw [results_cell_tmp h, hp]
  simp [asAddr, run_loadVar_row w g t ty cs fr d hg hu hd hi]
def wayM (a : Int) : Bool := decide (0 ≤ a) && decide (a < 65536)
theorem ret_agg {a b c d : Int} (h1 : a = c) (h2 : b = d) : Ending.returned (.agg #[.int .i64 a, .int .i64 b]) = .returned (.agg #[.int .i64 c, .int .i64 d]) := by rw [h1, h2]
set_option maxRecDepth 100000 in
set_option maxHeartbeats 400000 in
theorem check_any (a b : Int) (w : World) :
    Calls Try.prog 73 #[.agg #[.int .i64 a, .int .i64 b]] w fun e w' => e = .returned (.int .i64 (moE (a, b))) ∧ Below w.heap.size w w' := by
  cases hd0 : decide (a < 0)
  · cases hd1 : decide (65536 ≤ a)
    · cases hd2 : decide (b < 0)
      · cases hd3 : decide (65536 ≤ b)
        · go_enter Try.func73, Try.ntmps73
          go_wp2
          go_ret
          exact ⟨ret_int' (by unfold moE okMo; simp only [decide_eq_false_iff_not] at *; simp <;> omega), alloc_below w _⟩
        · go_enter Try.func73, Try.ntmps73
          go_wp2
          go_ret
          exact ⟨ret_int' (by unfold moE okMo; simp only [decide_eq_true_eq, decide_eq_false_iff_not] at *; simp <;> omega), alloc_below w _⟩
      · go_enter Try.func73, Try.ntmps73
        go_wp2
        go_ret
        exact ⟨ret_int' (by unfold moE okMo; simp only [decide_eq_true_eq, decide_eq_false_iff_not] at *; simp <;> omega), alloc_below w _⟩
    · go_enter Try.func73, Try.ntmps73
      go_wp2
      go_ret
      exact ⟨ret_int' (by unfold moE okMo; simp only [decide_eq_true_eq, decide_eq_false_iff_not] at *; simp <;> omega), alloc_below w _⟩
  · go_enter Try.func73, Try.ntmps73
    go_wp2
    go_ret
    exact ⟨ret_int' (by unfold moE okMo; simp only [decide_eq_true_eq] at *; simp <;> omega), alloc_below w _⟩
set_option maxRecDepth 100000 in
set_option maxHeartbeats 400000 in
theorem rcheck_any (a b : Int) (w : World) :
    Calls Try.prog 71 #[.agg #[.int .i64 a, .int .i64 b]] w fun e w' => e = .returned (.bool (okMo (a, b))) ∧ Below w.heap.size w w' := by
  cases hd0 : decide (0 ≤ a)
  · go_enter Try.func71, Try.ntmps71
    go_wp2
    go_ret
    exact ⟨ret_bool' (by unfold okMo; simp_all only [Bool.false_and]), alloc_below w _⟩
  · cases hd1 : decide (a < 65536)
    · go_enter Try.func71, Try.ntmps71
      go_wp2
      go_ret
      exact ⟨ret_bool' (by unfold okMo; simp_all only [Bool.and_false, Bool.false_and]), alloc_below w _⟩
    · cases hd2 : decide (0 ≤ b)
      · go_enter Try.func71, Try.ntmps71
        go_wp2
        go_ret
        exact ⟨ret_bool' (by unfold okMo; simp_all only [Bool.and_self, Bool.and_false, Bool.false_and]), alloc_below w _⟩
      · cases hd3 : decide (b < 65536)
        · go_enter Try.func71, Try.ntmps71
          go_wp2
          go_ret
          exact ⟨ret_bool' (by unfold okMo; simp_all only [Bool.and_self, Bool.and_false]), alloc_below w _⟩
        · go_enter Try.func71, Try.ntmps71
          go_wp2
          go_ret
          exact ⟨ret_bool' (by unfold okMo; simp_all only [Bool.and_self]), alloc_below w _⟩
end Go.Proofs.Ytfmmdnjoichifaa
