/- A law's arguments, opened to words of my own: entries, slices of entries. -/
import Derived.Test.YtodfpdmmbmbinaaOpS
import Derived.Test.YtodfpdmmbmbinaaEnA
namespace Go.Proofs.Ytodfpdmmbmbinaa
open Go.ChangeShapes Go.WideShapes Go.ChangeAt Go.RowKit Go.ChangeMaps Go.Deep
section
variable {H : Type} {enc : TypeId × Value → H} {P : Program} {w : World} {spare : Nat → Bool}
theorem trod_ints2 {t : TypeId} {f0 f1 : Field} {fuel base : Nat} {held : Bool} {v0 v1 : Value} {x : DataW H × List MemPlace} (ht : P.underlying t = some (.struct #[f0, f1])) (o0 : f0.offset = 0) (o1 : f1.offset = 1) (c0 : P.cellsOf f0.type = 1) (c1 : P.cellsOf f1.type = 1)
    (i0 : P.underlying f0.type = some (.int .i64)) (i1 : P.underlying f1.type = some (.int .i64)) (h : DataW.trod enc P w base spare held fuel t [v0, v1] = some x) : ∃ a b : Int, v0 = .int .i64 a ∧ v1 = .int .i64 b ∧ (-9223372036854775808 ≤ a ∧ a ≤ 9223372036854775807) ∧ (-9223372036854775808 ≤ b ∧ b ≤ 9223372036854775807) := by
  obtain ⟨xs, k, hk, hxy, _, hxl, hf⟩ := DataW.trod_struct ht h
  have hxl2 : xs.length = 2 := hxl
  match xs, hxl2 with
  | [y0, y1], _ =>
    have g0 := hf 0 f0 rfl
    have g1 := hf 1 f1 rfl
    simp [o0, o1, c0, c1] at g0 g1
    obtain ⟨a, ea, _, wa⟩ := DataW.trod_int i0 g0
    obtain ⟨b, eb, _, wb⟩ := DataW.trod_int i1 g1
    injection ea with ea
    injection eb with eb
    exact ⟨a, b, ea, eb, wf_i64 wa, wf_i64 wb⟩
/-- The words on the two fields of an entry, each of two numbers. -/
structure EnT (P : Program) (e : TypeId) : Prop where
  ex : ∃ F0 F1 f0 f1 g0 g1 : Field, P.underlying e = some (.struct #[F0, F1]) ∧ P.cellsOf e = 4 ∧ F0.offset = 0 ∧ F1.offset = 2 ∧ P.cellsOf F0.type = 2 ∧ P.cellsOf F1.type = 2 ∧
    P.underlying F0.type = some (.struct #[f0, f1]) ∧ f0.offset = 0 ∧ f1.offset = 1 ∧ P.cellsOf f0.type = 1 ∧ P.cellsOf f1.type = 1 ∧ P.underlying f0.type = some (.int .i64) ∧ P.underlying f1.type = some (.int .i64) ∧
    P.underlying F1.type = some (.struct #[g0, g1]) ∧ g0.offset = 0 ∧ g1.offset = 1 ∧ P.cellsOf g0.type = 1 ∧ P.cellsOf g1.type = 1 ∧ P.underlying g0.type = some (.int .i64) ∧ P.underlying g1.type = some (.int .i64)
theorem trod_en {e : TypeId} (T : EnT P e) {fuel base : Nat} {held : Bool} {cs : List Value} {x : DataW H × List MemPlace} (hl : cs.length = 4) (h : DataW.trod enc P w base spare held fuel e cs = some x) : ∃ z : En, cs = encE z := by
  obtain ⟨F0, F1, f0, f1, g0, g1, he, -, O0, O1, C0, C1, h0, o0, o1, c0, c1, i0, i1, h1, p0, p1, d0, d1, j0, j1⟩ := T.ex
  obtain ⟨xs, k, hk, hxy, _, hxl, hf⟩ := DataW.trod_struct he h
  have hxl2 : xs.length = 2 := hxl
  match xs, hxl2, cs, hl with
  | [y0, y1], _, [v0, v1, v2, v3], _ =>
    have g0 := hf 0 F0 rfl
    have g1 := hf 1 F1 rfl
    simp [O0, O1, C0, C1] at g0 g1
    obtain ⟨a, b, rfl, rfl, -, -⟩ := trod_ints2 h0 o0 o1 c0 c1 i0 i1 g0
    obtain ⟨c, d, rfl, rfl, -, -⟩ := trod_ints2 h1 p0 p1 d0 d1 j0 j1 g1
    exact ⟨((a, b), (c, d)), rfl⟩
theorem open_en {t : TypeId} {r : Reach} {b0 : Nat} {v : Value} {d : DataW H} {ps : List MemPlace} (T : EnT P t) (hval : Value.okWide P w r b0 t v) (hd : DataW.Trod enc P w 0 spare true t v d ps) : ∃ z : En, v = enV z := by
  have T' := T
  obtain ⟨F0, F1, f0, f1, g0, g1, he, ce, -⟩ := T.ex
  obtain ⟨cs, rfl, hcs⟩ := okWide_struct he hval
  obtain ⟨fuel, hf⟩ := hd
  rw [ce] at hcs
  obtain ⟨l⟩ := cs
  obtain ⟨z, hz⟩ := trod_en (cs := l) T' (by simpa using hcs) (by simpa [Value.cells] using hf)
  exact ⟨z, by rw [hz]; rfl⟩
/-- What is known of a slice of entries that came in. -/
def InE (w : World) (A : Option Addr) (g : Nat) (l : List En) (c : Nat) : Prop := SlK encE w g A l ∧ l.length ≤ c ∧ c ≤ maxLen
theorem open_entries {t e : TypeId} {r : Reach} {b0 : Nat} {v : Value} {d : DataW H} {ps : List MemPlace} (ht : P.underlying t = some (.slice e)) (T : EnT P e)
    (hval : Value.okWide P w r b0 t v) (hd : DataW.Trod enc P w 0 spare true t v d ps) : ∃ A g l c, v = .slice A l.length c ∧ InE w A g l c := by
  obtain ⟨a0, len0, cap0, rfl⟩ := okWide_slice ht hval
  obtain ⟨fuel, hf⟩ := hd
  have ce : P.cellsOf e = 4 := by obtain ⟨F0, F1, f0, f1, g0, g1, -, ce, -⟩ := T.ex; exact ce
  rcases open_slice ht hf with ⟨hcs, -⟩ | ⟨a, len, cap, m, n, D, Pl, hcs, -, hl, hm, hmm, -, hx⟩
  · simp [Value.cells] at hcs
    obtain ⟨rfl, rfl, rfl⟩ := hcs
    exact ⟨none, 0, [], 0, rfl, SlK.nil _ _ _, Nat.le_refl _, by decide⟩
  · simp [Value.cells] at hcs
    obtain ⟨rfl, rfl, rfl⟩ := hcs
    have hlm : len0 ≤ m := by rw [hmm]; split <;> omega
    have each : ∀ i, i < m → ∃ z : En, ∀ j, j < 4 → w.cell? (a.add (i * 4 + j)) = (encE z)[j]? := fun i hi => by
      obtain ⟨cs', h1, h2⟩ := hx i hi
      rw [ce] at h1
      obtain ⟨_, hlen, hcell⟩ := World.cells?_some h1
      obtain ⟨z, rfl⟩ := trod_en T hlen h2
      refine ⟨z, fun j hj => ?_⟩
      have := hcell j hj
      rw [add_add] at this
      exact this
    obtain ⟨q, hq⟩ := choose_lt each
    refine ⟨some a, a.block, (List.range len0).map q, cap0, by simp, fun hne => ?_, by simpa using hl, hm⟩
    have hpos : 0 < len0 := by
      rcases Nat.eq_zero_or_pos len0 with h | h
      · subst h; exact absurd rfl hne
      · exact h
    obtain ⟨b, off, spot⟩ := a
    have k0 : w.cell? ((⟨b, off, spot⟩ : Addr).add 0) = some (.int .i64 (q 0).1.1) := by
      have := hq 0 (by omega) 0 (by omega)
      rw [Nat.zero_mul, Nat.add_zero] at this
      exact this
    have hspot : spot = none := by simpa [Addr.add] using World.cell?_spot k0
    subst hspot
    refine ⟨World.block_lt_of_cell? w _ k0, off, rfl, fun j u hj => ?_⟩
    have hjl : j < len0 * 4 := by
      have := (List.getElem?_eq_some_iff.1 hj).1
      rw [RowV_length layE] at this
      simpa using this
    have hq4 : j / 4 < len0 := by omega
    have hz : ((List.range len0).map q)[j / 4]? = some (q (j / 4)) := by
      rw [List.getElem?_map, List.getElem?_range hq4, Option.map_some]
    have h5 := RowV_get layE _ (j / 4) (j % 4) _ hz (Nat.mod_lt _ (by decide))
    rw [show j / 4 * 4 + j % 4 = j by omega, hj] at h5
    have h6 := hq (j / 4) (by omega) (j % 4) (Nat.mod_lt _ (by decide))
    rw [show j / 4 * 4 + j % 4 = j by omega, Addr.add_lit] at h6
    rw [h6, ← h5]
end
theorem enT : EnT Try.prog 65 := ⟨_, _, _, _, _, _, Try.underlying65, by kernel_rfl, rfl, rfl, by kernel_rfl, by kernel_rfl, Try.underlying61, rfl, rfl, by kernel_rfl, by kernel_rfl, Try.underlying3, Try.underlying3, Try.underlying63, rfl, rfl, by kernel_rfl, by kernel_rfl, Try.underlying3, Try.underlying3⟩
end Go.Proofs.Ytodfpdmmbmbinaa
