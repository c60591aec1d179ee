/- Regions in which two operations may come up: each is carried out first, once. No program. -/
import Derived.Test.YtibhofdblfgkbaaRegR
namespace Go.Proofs.Ytibhofdblfgkbaa
open Go.RowKit
section
variable {P : Program} {l : List Oper} {Q : Exit → Act → World → Prop} {md : Region.Mode} {R : World → World → Prop}
/-- What is owed for one operation that may come up. -/
def Step1 (P : Program) (l : List Oper) (Q : Exit → Act → World → Prop) (md : Region.Mode) (R : World → World → Prop) (fuel : Nat) (listed : Array Bool) (a : Act) (w : World) (i : Nat) : Prop :=
  ∃ o, l[i]? = some o ∧ ∀ K' : Act → World → Prop, (∀ a' w', R w w' → wpAnyR P md l.toArray Q R fuel (listed.setIfInBounds i true) a' w' → K' a' w') →
      if Region.wanted o (yielded l.toArray a.tmps) = true then Oper.wp P o a w K' Q else K' (a.put o.dst undef) w
theorem steps_any {is : List Nat} {fuel : Nat} {listed : Array Bool} {a : Act} {w : World} (hr : Region.ready md l.toArray listed = is) (hne : is ≠ [])
    (h : ∀ i ∈ is, Step1 P l Q md R fuel listed a w i) : wpAnyR P md l.toArray Q R (fuel + 1) listed a w := by
  refine ⟨fun h0 => absurd (hr.symm.trans h0) hne, fun j hj => ?_⟩
  rw [hr] at hj
  obtain ⟨o, ho, h⟩ := h j hj
  exact wpOp_step (by simpa using ho) fun K' hK => h K' fun a' w' hR hW => hK a' w' ⟨hR, hW⟩
theorem steps_two {i j : Nat} {fuel : Nat} {listed : Array Bool} {a : Act} {w : World} (hr : Region.ready md l.toArray listed = [i, j])
    (hi : Step1 P l Q md R fuel listed a w i) (hj : Step1 P l Q md R fuel listed a w j) : wpAnyR P md l.toArray Q R (fuel + 1) listed a w :=
  steps_any hr (by simp) fun k hk => by
    rcases List.mem_cons.1 hk with rfl | hk
    · exact hi
    · rw [List.mem_singleton] at hk; subst hk; exact hj
end
theorem rk_row {S : Nat → Prop} {w w' : World} {row : Option Nat} (h : w.grownBy w' row) (hr : ∀ g, row = some g → S g) : RK S w w' :=
  ⟨h.os, h.tape, h.output, h.size, fun i hi hs => h.block i hi (fun e => hs (hr i e.symm))⟩
end Go.Proofs.Ytibhofdblfgkbaa
