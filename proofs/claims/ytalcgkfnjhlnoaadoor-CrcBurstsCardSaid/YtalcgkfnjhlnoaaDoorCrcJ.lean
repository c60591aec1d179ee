/- What must come of every program lives (crc). -/
import Derived.Test.YtalcgkfnjhlnoaaDoorCrcI
namespace Go.Proofs.YtalcgkfnjhlnoaaDoor
open Go.RowKit

theorem alloc_below (w : World) (o : Obj) : Below w.heap.size w (w.alloc o) := (Below.refl _ _).alloc (Nat.le_refl _) o
theorem sealM_take (l : List UInt8) : (sealM l).take ((sealM l).length - 4) = l := by
  rw [sealM_length, show l.length + 4 - 4 = l.length by omega]
  unfold sealM
  exact List.take_left' rfl
/-- Bytes that were just built. -/
theorem new_slb (w : World) (t : TypeId) (l : List UInt8) (fr : Nat × Nat) : SlB (w.alloc (.cells (Byt l).toArray t fr)) w.heap.size (some ⟨w.heap.size, 0, none⟩) l := fun _ =>
  ⟨_, rfl, rfl, fun j b hj => by
    have h := cell_of_row (w.alloc (.cells (Byt l).toArray t fr)) w.heap.size j (Byt l).toArray t fr (heap_alloc_new w _)
    have e : (⟨w.heap.size, 0, none⟩ : Addr).add j = ⟨w.heap.size, j, none⟩ := by unfold Addr.add; split <;> simp_all
    rw [e, h, List.getElem?_toArray]
    unfold Byt
    rw [List.getElem?_map, hj]
    rfl⟩
theorem alloc_freeze (w : World) (cs : Array Value) (t : TypeId) (n : Nat) : (w.alloc (.cells cs t)).freeze ⟨w.heap.size, n, none⟩ 1 = w.alloc (.cells cs t (n, n + 1)) := by
  unfold World.freeze
  rw [if_neg Nat.one_ne_zero]
  simp only [World.alloc]
  congr 1
  apply Array.ext_getElem?
  intro i
  rw [Array.getElem?_modify]
  by_cases h : w.heap.size = i
  · subst h
    simp
  · have h' : ¬ i = w.heap.size := fun e => h e.symm
    simp [h, h', Array.getElem?_push]
/-- A literal's bytes, as a slice of bytes: the cell behind them is marked. -/
theorem conv_lit (w : World) (cs : Array Value) (n c m : Nat) (hm : cs.size = m) : (convert 23 23 (.slice (some ⟨w.heap.size, 0, none⟩) n c)).run Tryd.prog (w.alloc (.cells cs 5)) = .ok (.slice (some ⟨w.heap.size, 0, none⟩) n c) (w.alloc (.cells cs 5 (m, m + 1))) := by
  have hs : (w.alloc (.cells cs 5)).shape? w.heap.size = some (5, m) := by
    unfold World.shape?
    rw [heap_alloc_new]
    simp [hm]
  have hf := alloc_freeze w cs 5 m
  simp [convert, run_underlying Tryd.underlying23, run_underlying Tryd.underlying5, markStringish, hs, hf, go_sem]
end Go.Proofs.YtalcgkfnjhlnoaaDoor
