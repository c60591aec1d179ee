/- A law's argument, opened: edits. -/
import Derived.Test.YtfmmdnjoichifaaRw
import Derived.Test.YtfmmdnjoichifaaOp
import Derived.Test.YtfmmdnjoichifaaEdAC
import Derived.Deep.Slices
namespace Go.Proofs.Ytfmmdnjoichifaa
open Go.ChangeShapes Go.WideShapes Go.ChangeAt Go.RowKit Go.ChangeMaps Go.Deep
def small (l : List Rf) : Prop := ∀ r ∈ l, r.name.size ≤ maxLen
section
variable {H : Type} {enc : TypeId × Value → H} {w : World} {spare : Nat → Bool}
set_option maxRecDepth 100000 in
theorem trod_rf {fuel base : Nat} {held : Bool} {l : List Value} {xx : DataW H × List MemPlace} (hl : l.length = 3) (hf' : DataW.trod enc Try.prog w base spare held fuel 110 l = some xx) : ∃ r : Rf, l = encRf r ∧ r.name.size ≤ maxLen := by
  have c1 : Try.prog.cellsOf 3 = 1 := by kernel_rfl
  have c2 : Try.prog.cellsOf 9 = 1 := by kernel_rfl
  obtain ⟨xs, k, -, -, -, hxl, hh⟩ := DataW.trod_struct Try.underlying110 hf'
  match l, hl with
  | [v0, v1, v2], _ =>
    have hx3 : xs.length = 3 := hxl
    match xs, hx3 with
    | [y0, y1, y2], _ =>
      have g0 := hh 0 _ rfl
      have g1 := hh 1 _ rfl
      have g2 := hh 2 _ rfl
      simp [c1, c2] at g0 g1 g2
      obtain ⟨s, e0, -, hs⟩ := DataW.trod_string Try.underlying9 g0
      obtain ⟨n1, e1, -, -⟩ := DataW.trod_int Try.underlying3 g1
      obtain ⟨n2, e2, -, -⟩ := DataW.trod_int Try.underlying3 g2
      injection e0 with e0
      injection e1 with e1
      injection e2 with e2
      subst e0 e1 e2
      exact ⟨⟨s, n1, n2⟩, rfl, hs⟩
set_option maxRecDepth 100000 in
theorem trod_refs {fuel base : Nat} {held : Bool} {cs : List Value} {xx : DataW H × List MemPlace} (hf : DataW.trod enc Try.prog w base spare held fuel 48 cs = some xx) : ∃ A l c, cs = [.slice A l.length c] ∧ RfAt w w.heap.size A l ∧ small l := by
  have ce : Try.prog.cellsOf 110 = 3 := by kernel_rfl
  rcases open_slice Try.underlying48 hf with ⟨hcs, -⟩ | ⟨a, len, cap, m, n, D, Pl, hcs, -, hl, hm, hmm, -, hx⟩
  · exact ⟨none, [], 0, hcs, RfAt.nil _ _ _, fun r hr => (by cases hr)⟩
  · have hlm : len ≤ m := by rw [hmm]; split <;> omega
    have each : ∀ i, i < m → ∃ z : Rf, (∀ j, j < 3 → w.cell? (a.add (i * 3 + j)) = (encRf z)[j]?) ∧ z.name.size ≤ maxLen := fun i hi => by
      obtain ⟨cs', h1, h2⟩ := hx i hi
      rw [ce] at h1
      obtain ⟨_, hlen, hcell⟩ := World.cells?_some h1
      obtain ⟨z, rfl, hz⟩ := trod_rf hlen h2
      refine ⟨z, fun j hj => ?_, hz⟩
      have := hcell j hj
      rw [add_add] at this
      exact this
    have : Inhabited Rf := ⟨⟨⟨#[]⟩, 0, 0⟩⟩
    obtain ⟨q, hq⟩ := choose_lt each
    refine ⟨some a, (List.range len).map q, cap, by rw [hcs]; simp, fun hne => ?_, fun x hx => ?_⟩
    · have hpos : 0 < len := by
        rcases Nat.eq_zero_or_pos len with h | h
        · subst h; exact absurd rfl hne
        · exact h
      obtain ⟨b, off, spot⟩ := a
      have k0 : w.cell? ((⟨b, off, spot⟩ : Addr).add 0) = some (.string (q 0).name) := by
        have := (hq 0 (by omega)).1 0 (by omega)
        rw [Nat.zero_mul, Nat.add_zero] at this
        exact this
      have hspot : spot = none := by simpa [Addr.add] using World.cell?_spot k0
      subst hspot
      refine ⟨b, off, rfl, World.block_lt_of_cell? w _ k0, fun j u hj => ?_, .inl (World.block_lt_of_cell? w _ k0)⟩
      have hjl : j < len * 3 := by
        have := (List.getElem?_eq_some_iff.1 hj).1
        rw [RowV_length layRf] at this
        simpa using this
      have hq3 : j / 3 < len := by omega
      have h3 := (hq (j / 3) (by omega)).1 (j % 3) (Nat.mod_lt _ (by omega))
      have hz : ((List.range len).map q)[j / 3]? = some (q (j / 3)) := by
        rw [List.getElem?_map, List.getElem?_range hq3, Option.map_some]
      have hg := RowV_get layRf _ (j / 3) (j % 3) _ hz (Nat.mod_lt _ (by omega))
      rw [show j / 3 * 3 + j % 3 = j by omega] at hg h3
      rw [hg] at hj
      rw [Addr.add_lit] at h3
      rw [h3]
      exact hj
    · obtain ⟨i, hi, rfl⟩ := List.mem_map.1 hx
      exact (hq i (by have := List.mem_range.1 hi; omega)).2
set_option maxRecDepth 100000 in
theorem trod_ed {fuel base : Nat} {held : Bool} {l : List Value} {xx : DataW H × List MemPlace} (hl : l.length = 4) (hf' : DataW.trod enc Try.prog w base spare held fuel 50 l = some xx) : ∃ (e : Ed) (A : Option Addr) (c : Nat), l = (edCs e A c).toList ∧ RfAt w w.heap.size A e.refs ∧ small e.refs := by
  have c1 : Try.prog.cellsOf 3 = 1 := by kernel_rfl
  have c2 : Try.prog.cellsOf 47 = 2 := by kernel_rfl
  have c3 : Try.prog.cellsOf 48 = 1 := by kernel_rfl
  obtain ⟨xs, k, -, -, -, hxl, hh⟩ := DataW.trod_struct Try.underlying50 hf'
  match l, hl with
  | [v0, v1, v2, v3], _ =>
    have hx3 : xs.length = 3 := hxl
    match xs, hx3 with
    | [y0, y1, y2], _ =>
      have g0 := hh 0 _ rfl
      have g1 := hh 1 _ rfl
      have g2 := hh 2 _ rfl
      simp [c1, c2, c3] at g0 g1 g2
      obtain ⟨n0, e0, -, -⟩ := DataW.trod_int Try.underlying3 g0
      obtain ⟨xs1, k1, -, -, -, hxl1, hh1⟩ := DataW.trod_struct Try.underlying47 g1
      have hx2 : xs1.length = 2 := hxl1
      match xs1, hx2 with
      | [z0, z1], _ =>
        have m0 := hh1 0 _ rfl
        have m1 := hh1 1 _ rfl
        simp [c1] at m0 m1
        obtain ⟨n1, e1, -, -⟩ := DataW.trod_int Try.underlying3 m0
        obtain ⟨n2, e2, -, -⟩ := DataW.trod_int Try.underlying3 m1
        obtain ⟨A, rs, c, e3, hr, hs⟩ := trod_refs g2
        injection e0 with e0
        injection e1 with e1
        injection e2 with e2
        injection e3 with e3
        subst e0 e1 e2 e3
        exact ⟨⟨n0, n1, n2, rs⟩, A, c, rfl, hr, hs⟩
set_option maxRecDepth 100000 in
theorem open_edit {r : Reach} {b0 : Nat} {v : Value} {d : DataW H} {ps : List MemPlace} (hval : Value.okWide Try.prog w r b0 50 v) (hd : DataW.Trod enc Try.prog w 0 spare true 50 v d ps) : ∃ (e : Ed) (A : Option Addr) (c : Nat), v = edV e A c ∧ RfAt w w.heap.size A e.refs ∧ small e.refs := by
  obtain ⟨cs, rfl, hcs⟩ := okWide_struct Try.underlying50 hval
  obtain ⟨fuel, hf⟩ := hd
  have c0 : Try.prog.cellsOf 50 = 4 := by kernel_rfl
  rw [c0] at hcs
  obtain ⟨l⟩ := cs
  have hl : l.length = 4 := by simpa using hcs
  have hf' : DataW.trod enc Try.prog w 0 spare true fuel 50 l = some (d, ps) := by simpa [Value.cells] using hf
  obtain ⟨e, A, c, rfl, h1, h2⟩ := trod_ed hl hf'
  exact ⟨e, A, c, rfl, h1, h2⟩
end
end Go.Proofs.Ytfmmdnjoichifaa
