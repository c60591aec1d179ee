/- Small mathematics of sums that the pages lean on. -/
import Derived.Test.YtfilelgbffbnlaaDoorCrcC
import Derived.Laws.OwnMore
namespace Go.Proofs.YtfilelgbffbnlaaDoor
open Go.RowKit

def LawPost (w : World) (e : Ending) (w' : World) : Prop := e = .returned (.bool true) ∧ Below w.heap.size w w'
theorem xor_twice (a b : Nat) : a ^^^ (a ^^^ b) = b := by rw [← Nat.xor_assoc, Nat.xor_self, Nat.zero_xor]
theorem notM_eq (n : Nat) : notM n = 4294967295 ^^^ n := rfl
theorem notM_xor (a b : Nat) : notM (a ^^^ b) = a ^^^ notM b := by
  have h : ∀ c : Nat, (∀ n, notM n = c ^^^ n) → notM (a ^^^ b) = a ^^^ notM b := fun c hc => by
    rw [hc, hc, ← Nat.xor_assoc, Nat.xor_comm c a, Nat.xor_assoc]
  exact h _ notM_eq
theorem made_byt (n : Nat) : madeCells #[.int .u8 0] n = (Byt (List.replicate n 0)).toArray := by
  apply Array.toList_inj.1
  rw [toList_madeCells_one]
  simp [Byt]
theorem empty_own (w : World) (t : TypeId) : (w.alloc (.cells #[] t)).ownsRow w.heap.size t 1 (.slice (some ⟨w.heap.size, 0, none⟩) 0 0) 0 (Byt []) := own_new w #[] _ 0 _ rfl rfl (by decide) (Nat.le_refl _)
theorem alloc_below (w : World) (o : Obj) : Below w.heap.size w (w.alloc o) := (Below.refl _ _).alloc (Nat.le_refl _) _
theorem own_ans {w w' : World} {l : List UInt8} {e : Ending} (h : OwnB w l e w') : ∃ A c g, e = .returned (.slice A l.length c) ∧ SlB w' g A l ∧ Below w.heap.size w w' := by
  obtain ⟨A, c, rfl, o, b⟩ := h
  obtain ⟨g, _, s, _⟩ := SlB.of_own o
  exact ⟨A, c, g, rfl, s, b⟩
end Go.Proofs.YtfilelgbffbnlaaDoor
