/- A law's argument, opened: a call on a disk (oxbowlaw05.Op). -/
import Derived.Test.YtodfpdmmbmbinaaRw
import Derived.Test.YtodfpdmmbmbinaaFiNb
namespace Go.Proofs.Ytodfpdmmbmbinaa
open Go.ChangeShapes Go.WideShapes Go.ChangeAt Go.RowKit Go.ChangeMaps Go.Deep
section
variable {H : Type} {enc : TypeId × Value → H} {w : World} {spare : Nat → Bool}
theorem slice_form {P : Program} {t e : TypeId} {k : IntKind} {fuel base : Nat} {held : Bool} {cs : List Value} {x : DataW H × List MemPlace} (ht : P.underlying t = some (.slice e)) (he : P.underlying e = some (.int k)) (hc : P.cellsOf e = 1)
    (h : DataW.trod enc P w base spare held fuel t cs = some x) : ∃ A l c, cs = [.slice A l c] := by
  rcases open_ints ht he hc h with ⟨hcs, -⟩ | ⟨a, len, cap, zs, hcs, -⟩
  · exact ⟨_, _, _, hcs⟩
  · exact ⟨_, _, _, hcs⟩
set_option maxRecDepth 100000 in
theorem open_fop {r : Reach} {b0 : Nat} {v : Value} {d : DataW H} {ps : List MemPlace} (hval : Value.okWide Try.prog w r b0 39 v) (hd : DataW.Trod enc Try.prog w 0 spare true 39 v d ps) : ∃ z : OpIn, v = .agg (opV z) := by
  obtain ⟨cs, rfl, hcs⟩ := okWide_struct Try.underlying39 hval
  obtain ⟨fuel, hf⟩ := hd
  have c0 : Try.prog.cellsOf 39 = 8 := by kernel_rfl
  have c1 : Try.prog.cellsOf 3 = 1 := by kernel_rfl
  have c2 : Try.prog.cellsOf 9 = 1 := by kernel_rfl
  have c3 : Try.prog.cellsOf 36 = 1 := by kernel_rfl
  have c4 : Try.prog.cellsOf 30 = 1 := by kernel_rfl
  have c5 : Try.prog.cellsOf 37 = 1 := by kernel_rfl
  rw [c0] at hcs
  obtain ⟨l⟩ := cs
  have hl : l.length = 8 := by simpa using hcs
  have hf' : DataW.trod enc Try.prog w 0 spare true fuel 39 l = some (d, ps) := by simpa [Value.cells] using hf
  obtain ⟨xs, k, -, -, -, hxl, hh⟩ := DataW.trod_struct Try.underlying39 hf'
  match l, hl with
  | [v0, v1, v2, v3, v4, v5, v6, v7], _ =>
    have hx8 : xs.length = 8 := hxl
    match xs, hx8 with
    | [y0, y1, y2, y3, y4, y5, y6, y7], _ =>
      have g0 := hh 0 _ rfl
      have g1 := hh 1 _ rfl
      have g2 := hh 2 _ rfl
      have g3 := hh 3 _ rfl
      have g4 := hh 4 _ rfl
      have g5 := hh 5 _ rfl
      have g6 := hh 6 _ rfl
      have g7 := hh 7 _ rfl
      simp [c1, c2, c3, c4, c5] at g0 g1 g2 g3 g4 g5 g6 g7
      obtain ⟨n0, e0, -, -⟩ := DataW.trod_int Try.underlying3 g0
      obtain ⟨s1, e1, -, -⟩ := DataW.trod_string Try.underlying9 g1
      obtain ⟨s2, e2, -, -⟩ := DataW.trod_string Try.underlying9 g2
      obtain ⟨n3, e3, -, -⟩ := DataW.trod_int Try.underlying3 g3
      obtain ⟨n4, e4, -, -⟩ := DataW.trod_int Try.underlying3 g4
      obtain ⟨n5, e5, -, -⟩ := DataW.trod_int Try.underlying36 g5
      obtain ⟨A6, l6, k6, e6⟩ := slice_form Try.underlying30 Try.underlying5 (by kernel_rfl) g6
      obtain ⟨A7, l7, k7, e7⟩ := slice_form Try.underlying37 Try.underlying3 (by kernel_rfl) g7
      injection e0 with e0
      injection e1 with e1
      injection e2 with e2
      injection e3 with e3
      injection e4 with e4
      injection e5 with e5
      injection e6 with e6
      injection e7 with e7
      subst e0 e1 e2 e3 e4 e5 e6 e7
      exact ⟨⟨n0, s1, s2, n3, n4, n5, A6, l6, k6, A7, l7, k7⟩, rfl⟩
end
end Go.Proofs.Ytodfpdmmbmbinaa
