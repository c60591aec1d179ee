/- Contracts of the document's entries: Unpack. -/
import Derived.Test.YtalefgcdhakfoaaEnH
namespace Go.Proofs.Ytalefgcdhakfoaa
open Go.RowKit Go.Sort

def RUnpAns (w : World) (z : Option (List En)) (e : Ending) (w' : World) : Prop :=
  (z = none ∧ e = .returned (.tuple #[.slice none 0 0, .bool false]) ∧ Below w.heap.size w w') ∨
    ∃ l A' c', z = some l ∧ e = .returned (.tuple #[.slice A' l.length c', .bool true]) ∧ RowE w l A' c' w'
theorem rd_some {T : TypeId} {w : World} {g h : Nat} {l : List UInt8} (r : RdAt T w g h (some l)) : ∃ A c, w.cell? ⟨g, 0, none⟩ = some (.slice A l.length c) ∧ w.cell? ⟨g, 1, none⟩ = some (.bool false) := by
  obtain ⟨A, c, l', hb, -, -, -, -, hr⟩ := r
  have := hr l rfl
  subst this
  exact ⟨A, c, hb.cell 0, hb.cell 1⟩
theorem own_caps {w : World} {base e n c : Nat} {A : Option Addr} {xs : List Value} (h : w.ownsRow base e 1 (.slice A n c) n xs) : n ≤ c ∧ c ≤ maxLen := by
  rcases h.2 with ⟨hv, h0⟩ | ⟨g, cap, cur, hv, hb, hh, hnc, hcm, hcs, ht⟩
  · injection hv with h1 h2 h3
    subst h2 h3
    exact ⟨Nat.le_refl _, by decide⟩
  · injection hv with h1 h2 h3
    subst h3
    exact ⟨hnc, hcm⟩
theorem own_emptyB (w : World) (t : TypeId) : (w.alloc (.cells #[] t)).ownsRow w.heap.size t 1 (.slice (some ⟨w.heap.size, 0, none⟩) 0 0) 0 (Byt []) :=
  ⟨by simp [Byt], .inr ⟨w.heap.size, 0, #[], rfl, Nat.le_refl _, heap_alloc_new w _, Nat.le_refl _, by decide, by simp, by simp [Byt]⟩⟩
end Go.Proofs.Ytalefgcdhakfoaa
