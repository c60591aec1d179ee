/- Contracts of package moment: Covers, Beyond. -/
import Derived.Test.YtfmmdnjoichifaaMoD
import Derived.Test.YtfmmdnjoichifaaPr
import Derived.Test.YtfmmdnjoichifaaShelfB
namespace Go.Proofs.Ytfmmdnjoichifaa
open Go.RowKit Go.Sort

theorem enc_cells {w : World} {h : Nat} {off : Nat} {l : List (Int × Int)} (hc : ∀ (j : Nat) (u : Value), (Prs l)[j]? = some u → w.cell? ⟨h, off + j, none⟩ = some u) :
    ∀ j, j < l.length → ∀ i v, (encP l[j]!)[i]? = some v → w.cell? ⟨h, off + j * 2 + i, none⟩ = some v := by
  intro j hj i v hi
  obtain ⟨p0, p1⟩ := Prs_get l j l[j] (List.getElem?_eq_getElem hj)
  rw [getElem!_pos l j hj] at hi
  match i, hi with
  | 0, hi => simp [encP] at hi; rw [← hi, Nat.add_zero]; exact hc _ _ p0
  | 1, hi => simp [encP] at hi; rw [← hi, Nat.add_assoc]; exact hc _ _ p1
  | i + 2, hi => simp [encP] at hi
end Go.Proofs.Ytfmmdnjoichifaa
