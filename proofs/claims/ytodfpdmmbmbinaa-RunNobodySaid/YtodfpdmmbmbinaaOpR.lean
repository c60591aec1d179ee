/- A law's argument, opened: a call on a run (oxbowlaw12.Op). -/
import Derived.Test.YtodfpdmmbmbinaaOpE
import Derived.Test.YtodfpdmmbmbinaaRuNb
namespace Go.Proofs.Ytodfpdmmbmbinaa
open Go.ChangeShapes Go.WideShapes Go.ChangeAt Go.RowKit Go.ChangeMaps Go.Deep
section
variable {H : Type} {enc : TypeId × Value → H} {w : World} {spare : Nat → Bool}
theorem slice_formM {P : Program} {t e : TypeId} {fuel base : Nat} {held : Bool} {cs : List Value} {x : DataW H × List MemPlace} (ht : P.underlying t = some (.slice e)) (h : DataW.trod enc P w base spare held fuel t cs = some x) : ∃ A l c, cs = [.slice A l c] := by
  rcases DataW.trod_slice ht h with ⟨hcs, -⟩ | ⟨a, len, cap, elems, rest, n, _, hcs, -⟩
  · exact ⟨_, _, _, hcs⟩
  · exact ⟨_, _, _, hcs⟩
set_option maxRecDepth 100000 in
theorem open_rop {r : Reach} {b0 : Nat} {v : Value} {d : DataW H} {ps : List MemPlace} (hval : Value.okWide Try.prog w r b0 68 v) (hd : DataW.Trod enc Try.prog w 0 spare true 68 v d ps) : ∃ z : RopIn, v = .agg (ropV z) := by
  obtain ⟨cs, rfl, hcs⟩ := okWide_struct Try.underlying68 hval
  obtain ⟨fuel, hf⟩ := hd
  have c0 : Try.prog.cellsOf 68 = 6 := by kernel_rfl
  have c1 : Try.prog.cellsOf 3 = 1 := by kernel_rfl
  have c2 : Try.prog.cellsOf 65 = 4 := by kernel_rfl
  have c3 : Try.prog.cellsOf 66 = 1 := by kernel_rfl
  rw [c0] at hcs
  obtain ⟨l⟩ := cs
  have hl : l.length = 6 := by simpa using hcs
  have hf' : DataW.trod enc Try.prog w 0 spare true fuel 68 l = some (d, ps) := by simpa [Value.cells] using hf
  obtain ⟨xs, k, -, -, -, hxl, hh⟩ := DataW.trod_struct Try.underlying68 hf'
  match l, hl with
  | [v0, v1, v2, v3, v4, v5], _ =>
    have hx3 : xs.length = 3 := hxl
    match xs, hx3 with
    | [y0, y1, y2], _ =>
      have g0 := hh 0 _ rfl
      have g1 := hh 1 _ rfl
      have g2 := hh 2 _ rfl
      simp [c1, c2, c3] at g0 g1 g2
      obtain ⟨n0, e0, -, -⟩ := DataW.trod_int Try.underlying3 g0
      obtain ⟨z, e1⟩ := trod_en enT (by rfl) g1
      obtain ⟨A2, l2, k2, e2⟩ := slice_formM Try.underlying66 g2
      obtain ⟨⟨a, b⟩, c, e⟩ := z
      injection e0 with e0
      injection e2 with e2
      have e1' : v1 = .int .i64 a ∧ v2 = .int .i64 b ∧ v3 = .int .i64 c ∧ v4 = .int .i64 e := by simpa [encE] using e1
      obtain ⟨rfl, rfl, rfl, rfl⟩ := e1'
      subst e0 e2
      exact ⟨⟨n0, ((a, b), (c, e)), A2, l2, k2⟩, rfl⟩
end
end Go.Proofs.Ytodfpdmmbmbinaa
