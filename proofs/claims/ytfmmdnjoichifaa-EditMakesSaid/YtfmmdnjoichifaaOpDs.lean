/- A law's argument, opened: lists of edits. -/
import Derived.Test.YtfmmdnjoichifaaOpD
import Derived.Test.YtfmmdnjoichifaaEdU
namespace Go.Proofs.Ytfmmdnjoichifaa
open Go.ChangeShapes Go.WideShapes Go.ChangeAt Go.RowKit Go.ChangeMaps Go.Deep
structure EdF where
  e : Ed
  A : Option Addr
  c : Nat
section
variable {H : Type} {enc : TypeId × Value → H} {w : World} {spare : Nat → Bool}
set_option maxRecDepth 100000 in
theorem open_edits {r : Reach} {b0 : Nat} {v : Value} {d : DataW H} {ps : List MemPlace} (hval : Value.okWide Try.prog w r b0 61 v) (hd : DataW.Trod enc Try.prog w 0 spare true 61 v d ps) : ∃ A l c, v = .slice A l.length c ∧ EdsAt w w.heap.size A l ∧ ∀ e ∈ l, small e.refs := by
  obtain ⟨a0, len0, cap0, rfl⟩ := okWide_slice Try.underlying61 hval
  obtain ⟨fuel, hf⟩ := hd
  have ce : Try.prog.cellsOf 50 = 4 := by kernel_rfl
  rcases open_slice Try.underlying61 hf with ⟨hcs, -⟩ | ⟨a, len, cap, m, n, D, Pl, hcs, -, hl, hm, hmm, -, hx⟩
  · simp [Value.cells] at hcs
    obtain ⟨rfl, rfl, rfl⟩ := hcs
    exact ⟨none, [], 0, rfl, fun i e he => (by cases he), fun x hx => (by cases hx)⟩
  · simp [Value.cells] at hcs
    obtain ⟨rfl, rfl, rfl⟩ := hcs
    have hlm : len0 ≤ m := by rw [hmm]; split <;> omega
    have each : ∀ i, i < m → ∃ z : EdF, (∀ j, j < 4 → w.cell? (a.add (i * 4 + j)) = (encX (xOf z.e z.A z.c))[j]?) ∧ RfAt w w.heap.size z.A z.e.refs ∧ small z.e.refs := fun i hi => by
      obtain ⟨cs', h1, h2⟩ := hx i hi
      rw [ce] at h1
      obtain ⟨_, hlen, hcell⟩ := World.cells?_some h1
      obtain ⟨e, A, c, rfl, hz, hs⟩ := trod_ed hlen h2
      refine ⟨⟨e, A, c⟩, fun j hj => ?_, hz, hs⟩
      have := hcell j hj
      rw [add_add] at this
      exact this
    have : Inhabited EdF := ⟨⟨zE, none, 0⟩⟩
    obtain ⟨q, hq⟩ := choose_lt each
    refine ⟨some a, (List.range len0).map fun i => (q i).e, cap0, by simp, fun i x hi => ?_, fun x hx => ?_⟩
    · have hil : i < len0 := by
        have := (List.getElem?_eq_some_iff.1 hi).1
        simpa using this
      rw [List.getElem?_map, List.getElem?_range hil, Option.map_some] at hi
      injection hi with hi
      obtain ⟨b, off, spot⟩ := a
      have k0 : w.cell? ((⟨b, off, spot⟩ : Addr).add 0) = some (.int .i64 (q 0).e.kind) := by
        have := (hq 0 (by omega)).1 0 (by omega)
        rw [Nat.zero_mul, Nat.add_zero] at this
        exact this
      have hspot : spot = none := by simpa [Addr.add] using World.cell?_spot k0
      subst hspot
      refine ⟨b, off, (q i).A, (q i).c, rfl, World.block_lt_of_cell? w _ k0, fun j v hv => ?_, hi ▸ (hq i (by omega)).2.1⟩
      have hj : j < 4 := by have := (List.getElem?_eq_some_iff.1 hv).1; rwa [layX.len] at this
      have h6 := (hq i (by omega)).1 j hj
      rw [Addr.add_lit, hi, hv] at h6
      rw [Nat.add_assoc]
      exact h6
    · obtain ⟨i, hi, rfl⟩ := List.mem_map.1 hx
      exact (hq i (by have := List.mem_range.1 hi; omega)).2.2
end
end Go.Proofs.Ytfmmdnjoichifaa
