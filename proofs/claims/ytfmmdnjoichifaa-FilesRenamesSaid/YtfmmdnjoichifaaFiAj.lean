/- Contracts of a disk: what is pending of a file is taken away from a row. -/
import Derived.Test.YtfmmdnjoichifaaFiAi
namespace Go.Proofs.Ytfmmdnjoichifaa
open Go.RowKit Go.Sort

theorem wpList_store_at {P : Program} {ops : Array Oper} {rest : List Oper} {o : Oper} {a : Act} {w : World} {Q : Exit → Act → World → Prop} (hgd : o.guard = none) (ty : TypeId) (x y : Operand) (ho : o.op = .store ty x y) {g off : Nat} {t : TypeId} {cells : List Value} {cur : Array Value}
    (hx : a.eval x = .pointer (some ⟨g, off, none⟩)) (hy : a.eval y = .agg cells.toArray) (hg : w.heap[g]? = some (.cells cur t (0, 0))) (hi : (P.info? ty).map (·.size) = some cells.length) (hfit : off + cells.length ≤ cur.size) (h1 : ∀ v ∈ cells, v.oneCell' = true)
    (h : wpList P ops Q rest (a.put o.dst undef) (w.setRow g (cur.toList.take off ++ cells ++ cur.toList.drop (off + cells.length)).toArray)) : wpList P ops Q (o :: rest) a w :=
  wpList_plain hgd fun _ hk => wp_store_at ty x y ho hx hy hg hi hfit h1 (hk _ _ h)
def zWrs (n : Nat) : List Value := (Builtin.zeroCells zWr.cells n).toList
theorem zWr_size : zWr.cells.size = 66 := by kernel_rfl
theorem zWrs_len (n : Nat) : (zWrs n).length = n * 66 := by
  unfold zWrs
  rw [Array.length_toList, size_zeroCells, zWr_size]
theorem zWr_one : ∀ i, i < 66 → (zWr.cells[i]!).oneCell' = true := by decide +kernel
theorem zWrs_one (n : Nat) : ∀ v ∈ zWrs n, v.oneCell' = true := by
  intro v hv
  unfold zWrs Builtin.zeroCells at hv
  rw [Array.toList_map, List.mem_map] at hv
  obtain ⟨i, -, rfl⟩ := hv
  rw [zWr_size]
  exact zWr_one _ (Nat.mod_lt _ (by decide))
theorem run_clear_wr {w : World} {g k n c : Nat} {cur : Array Value} (hg : w.heap[g]? = some (.cells cur 96 (0, 0))) (hn : 0 < n) (hfit : k * 66 + n * 66 ≤ cur.size) (ty : TypeId) :
    (Builtin.clear_ #[78] ty #[.slice (some ⟨g, k * 66, none⟩) n c]).run Try.prog w = .ok (.tuple #[]) (w.setRow g (cur.toList.take (k * 66) ++ zWrs n ++ cur.toList.drop (k * 66 + n * 66)).toArray) := by
  have hst := run_storeCells_at (P := Try.prog) g (k * 66) 96 (zWrs n) 0 cur w hg (by rw [zWrs_len]; omega) (zWrs_one n)
  simp only [Nat.add_zero, zWrs_len] at hst
  obtain ⟨m, rfl⟩ : ∃ m, n = m + 1 := ⟨n - 1, by omega⟩
  have hz : zWr = .agg Try.zeroCells96 := by kernel_rfl
  unfold zWrs at hst ⊢
  rw [hz] at hst ⊢
  simp [Builtin.clear_, run_underlying Try.underlying78, hst]
end Go.Proofs.Ytfmmdnjoichifaa
