/- Contracts of a disk: a sector is stored into a file's row. -/
import Derived.Test.YtfmmdnjoichifaaFiX
namespace Go.Proofs.Ytfmmdnjoichifaa
open Go.RowKit Go.Sort

theorem run_storeAt_row {P : Program} (w : World) (g off : Nat) (ty t : TypeId) (cells : List Value) (cur : Array Value) (hg : w.heap[g]? = some (.cells cur t (0, 0))) (hi : (P.info? ty).map (·.size) = some cells.length) (hfit : off + cells.length ≤ cur.size) (h1 : ∀ v ∈ cells, v.oneCell' = true) :
    (Instr.storeAt ty (.pointer (some ⟨g, off, none⟩)) (.agg cells.toArray)).run P w = .ok () (w.setRow g (cur.toList.take off ++ cells ++ cur.toList.drop (off + cells.length)).toArray) := by
  have := run_storeCells_at (P := P) g off t cells 0 cur w hg (by omega) h1
  cases hq : P.info? ty with
  | none => simp [hq] at hi
  | some i =>
    have hs : cells.toArray.size = i.size := by simp [hq] at hi; simp; omega
    simp only [Nat.add_zero] at this
    simp only [Instr.storeAt, Instr.sureAddr, Sem.run_bind, Sem.run_pure, Result.andThen_ok]
    simp [storeVar, sizeOf, typeInfo, hq, Value.cells, this]
    simp at hs
    simp [hs]
theorem wp_store_at {P : Program} {op : Oper} {a : Act} {w : World} {K : Act → World → Prop} {Q : Exit → Act → World → Prop} (ty : TypeId) (x y : Operand) (ho : op.op = .store ty x y) {g off : Nat} {t : TypeId} {cells : List Value} {cur : Array Value}
    (hx : a.eval x = .pointer (some ⟨g, off, none⟩)) (hy : a.eval y = .agg cells.toArray) (hg : w.heap[g]? = some (.cells cur t (0, 0))) (hi : (P.info? ty).map (·.size) = some cells.length) (hfit : off + cells.length ≤ cur.size) (h1 : ∀ v ∈ cells, v.oneCell' = true)
    (h : K (a.put op.dst undef) (w.setRow g (cur.toList.take off ++ cells ++ cur.toList.drop (off + cells.length)).toArray)) : op.wp P a w K Q := by
  unfold Oper.wp execOp
  simp only [ho, hx, hy, Sem.run_bind, run_storeAt_row w g off ty t cells cur hg hi hfit h1, Result.andThen_ok, Sem.run_pure]
  exact h
section
variable {w w' w1 w2 w3 : World} {base d m : Nat} {D : Dk}
/-- A sector is stored over one that a file has. -/
theorem DiskR.storeNow (h : DiskR w base d m D) {f : Fi} (hf : f ∈ D.fs) {g nc : Nat} (hcell : w.cell? ⟨f.blk, 1, none⟩ = some (.slice (some ⟨g, 0, none⟩) f.now.length nc)) {i : Nat} (hi : i < f.now.length) (s : Sec) {cur : Array Value} (hg : w.heap[g]? = some (.cells cur 94 (0, 0))) :
    DiskR (w.setRow g (cur.toList.take (i * 64) ++ encSec s ++ cur.toList.drop (i * 64 + (encSec s).length)).toArray) base d m { D with fs := updF D.fs { f with now := f.now.set i s } } ∧
      KF base w (w.setRow g (cur.toList.take (i * 64) ++ encSec s ++ cur.toList.drop (i * 64 + (encSec s).length)).toArray) := by
  obtain ⟨nA, nc', kA, kc, -, -, -, f1, -, hn, -⟩ := h.file hf
  rw [hcell] at f1
  injection f1 with f1
  rw [← f1] at hn
  have hn' : w.ownsRow base 94 64 (.slice (some ⟨g, 0, none⟩) f.now.length nc) f.now.length (RowV encSec f.now) := hn
  have hl := laySec.len s
  have k := own_splice hn' hg (i * 64) (encSec s) (by rw [hl]; omega)
  rw [show (RowV encSec f.now).take (i * 64) ++ encSec s ++ (RowV encSec f.now).drop (i * 64 + (encSec s).length) = RowV encSec (f.now.set i s) by rw [hl]; exact (RowV_set laySec f.now i s hi).symm] at k
  exact h.turnNow hf hcell (setRow_cells w g _ 94 cur hg) k (List.length_set ..)
end
end Go.Proofs.Ytfmmdnjoichifaa
