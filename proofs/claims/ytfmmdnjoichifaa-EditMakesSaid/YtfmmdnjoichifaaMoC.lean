/- Contracts of package moment: ways. -/
import Derived.Test.YtfmmdnjoichifaaMoB
namespace Go.Proofs.Ytfmmdnjoichifaa
open Go.RowKit

theorem blk_top (w : World) (cs : Array Value) (t : TypeId) (g : Nat) (hg : w.heap.size = g) : Blk (w.alloc (.cells cs t)) g t cs := by rw [← hg]; exact Blk.new w t cs
def walkM (s : Bool) (a e r : Int) : (Int × Int) × Int :=
  if wayM a = false then ((0, 0), 1) else if okMo (e, r) = false then ((0, 0), 40) else if okMo (e, if s then a else a + r) = false then ((0, 0), 40) else ((e, if s then a else a + r), 0)
theorem ret_walk {m m' : Int × Int} {x y : Int} {z : (Int × Int) × Int} (h : ((m.1, m.2), x) = z) (hm : m = m') (hx : x = y) : Ending.returned (.tuple #[.agg #[.int .i64 m'.1, .int .i64 m'.2], .int .i64 y]) = .returned (.tuple #[.agg #[.int .i64 z.1.1, .int .i64 z.1.2], .int .i64 z.2]) := by
  subst hm hx h
  rfl
theorem okMo_true {e r : Int} (h1 : ¬ e < 0) (h2 : ¬ 65536 ≤ e) (h3 : ¬ r < 0) (h4 : ¬ 65536 ≤ r) : okMo (e, r) = true := by
  unfold okMo; simp; omega
theorem okMo_false {e r : Int} (h : e < 0 ∨ 65536 ≤ e ∨ r < 0 ∨ 65536 ≤ r) : okMo (e, r) = false := by
  rw [Bool.eq_false_iff]; unfold okMo; simp; omega
theorem wayM_true {a : Int} (h1 : 0 ≤ a) (h2 : a < 65536) : wayM a = true := by unfold wayM; simp; omega
theorem wayM_false {a : Int} (h : ¬ 0 ≤ a ∨ ¬ a < 65536) : wayM a = false := by rw [Bool.eq_false_iff]; unfold wayM; simp; omega
end Go.Proofs.Ytfmmdnjoichifaa
