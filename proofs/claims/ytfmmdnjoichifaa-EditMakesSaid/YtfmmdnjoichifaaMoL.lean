/- What must come of every program lives (moment). -/
import Derived.Test.YtfmmdnjoichifaaMoE
namespace Go.Proofs.Ytfmmdnjoichifaa
open Go.RowKit Go.Sort

theorem load_mo_at (h off : Nat) (x y : Int) (w : World) (h0 : w.cell? ⟨h, off, none⟩ = some (.int .i64 x)) (h1 : w.cell? ⟨h, off + 1, none⟩ = some (.int .i64 y)) : (Instr.loadAt 47 (.pointer (some ⟨h, off, none⟩))).run Try.prog w = .ok (.agg #[.int .i64 x, .int .i64 y]) w := by
  go_simp
theorem below_drew0 {w0 w : World} {B : Nat} (h : Below B w0 w) : Below B w0 w.drew := ⟨h.os, h.tape, h.output, h.size, h.block⟩
theorem same_len {a b : List (Int × Int)} (h : a.length ≠ b.length) : (a == b) = false := by
  rw [beq_eq_false_iff_ne]; intro e; exact h (by rw [e])
end Go.Proofs.Ytfmmdnjoichifaa
