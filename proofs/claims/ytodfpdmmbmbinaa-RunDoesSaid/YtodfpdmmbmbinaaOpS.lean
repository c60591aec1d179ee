/- A law's arguments, opened to words of my own: structs of two fields, slices of pairs. -/
import Derived.Test.YtodfpdmmbmbinaaRw
import Derived.Test.YtodfpdmmbmbinaaOp
import Derived.Test.YtodfpdmmbmbinaaPr
import Derived.Deep.SlicePairs
namespace Go.Proofs.Ytodfpdmmbmbinaa
open Go.ChangeShapes Go.WideShapes Go.ChangeAt Go.RowKit Go.ChangeMaps
section
variable {H : Type} {enc : TypeId × Value → H} {P : Program} {w : World} {spare : Nat → Bool}
theorem wf_i64 {n : Int} (h : (Lit.int .i64 n).wf = true) : -9223372036854775808 ≤ n ∧ n ≤ 9223372036854775807 := wf_int h
theorem open_struct2 {t : TypeId} {f0 f1 : Field} {r : Reach} {b0 : Nat} {v : Value} {d : DataW H} {ps : List MemPlace} (ht : P.underlying t = some (.struct #[f0, f1])) (ce : P.cellsOf t = 2) (o0 : f0.offset = 0) (o1 : f1.offset = 1)
    (c0 : P.cellsOf f0.type = 1) (c1 : P.cellsOf f1.type = 1) (hval : Value.okWide P w r b0 t v) (hd : DataW.Trod enc P w 0 spare true t v d ps) :
    ∃ v0 v1 n x0 x1, v = .agg #[v0, v1] ∧ DataW.trod enc P w 0 spare true n f0.type [v0] = some x0 ∧ DataW.trod enc P w 0 spare true n f1.type [v1] = some x1 := by
  obtain ⟨cs, rfl, hcs⟩ := okWide_struct ht hval
  obtain ⟨fuel, hf⟩ := hd
  obtain ⟨xs, n, rfl, hx, hlen, hxl, hfld⟩ := DataW.trod_struct ht hf
  rw [ce] at hcs
  obtain ⟨l⟩ := cs
  match l, hcs with
  | [v0, v1], _ =>
    have h0 := hfld 0 f0 rfl
    have h1 := hfld 1 f1 rfl
    rw [o0, c0] at h0
    rw [o1, c1] at h1
    have hxl2 : xs.length = 2 := hxl
    match xs, hxl2 with
    | [x0, x1], _ => exact ⟨v0, v1, n, x0, x1, rfl, h0, h1⟩
theorem open_ints2 {t : TypeId} {f0 f1 : Field} {r : Reach} {b0 : Nat} {v : Value} {d : DataW H} {ps : List MemPlace} (ht : P.underlying t = some (.struct #[f0, f1])) (ce : P.cellsOf t = 2) (o0 : f0.offset = 0) (o1 : f1.offset = 1)
    (c0 : P.cellsOf f0.type = 1) (c1 : P.cellsOf f1.type = 1) (i0 : P.underlying f0.type = some (.int .i64)) (i1 : P.underlying f1.type = some (.int .i64)) (hval : Value.okWide P w r b0 t v) (hd : DataW.Trod enc P w 0 spare true t v d ps) :
    ∃ a b : Int, v = .agg #[.int .i64 a, .int .i64 b] ∧ (-9223372036854775808 ≤ a ∧ a ≤ 9223372036854775807) ∧ (-9223372036854775808 ≤ b ∧ b ≤ 9223372036854775807) := by
  obtain ⟨v0, v1, n, x0, x1, rfl, h0, h1⟩ := open_struct2 ht ce o0 o1 c0 c1 hval hd
  obtain ⟨a, ea, _, wa⟩ := DataW.trod_int i0 h0
  obtain ⟨b, eb, _, wb⟩ := DataW.trod_int i1 h1
  injection ea with ea
  injection eb with eb
  subst ea eb
  exact ⟨a, b, rfl, wf_i64 wa, wf_i64 wb⟩
theorem open_boolint {t : TypeId} {f0 f1 : Field} {r : Reach} {b0 : Nat} {v : Value} {d : DataW H} {ps : List MemPlace} (ht : P.underlying t = some (.struct #[f0, f1])) (ce : P.cellsOf t = 2) (o0 : f0.offset = 0) (o1 : f1.offset = 1)
    (c0 : P.cellsOf f0.type = 1) (c1 : P.cellsOf f1.type = 1) (i0 : P.underlying f0.type = some .bool) (i1 : P.underlying f1.type = some (.int .i64)) (hval : Value.okWide P w r b0 t v) (hd : DataW.Trod enc P w 0 spare true t v d ps) :
    ∃ (a : Bool) (b : Int), v = .agg #[.bool a, .int .i64 b] ∧ (-9223372036854775808 ≤ b ∧ b ≤ 9223372036854775807) := by
  obtain ⟨v0, v1, n, x0, x1, rfl, h0, h1⟩ := open_struct2 ht ce o0 o1 c0 c1 hval hd
  obtain ⟨a, ea, _⟩ := DataW.trod_bool i0 h0
  obtain ⟨b, eb, _, wb⟩ := DataW.trod_int i1 h1
  injection ea with ea
  injection eb with eb
  subst ea eb
  exact ⟨a, b, rfl, wf_i64 wb⟩
/-- What is known of a slice of pairs that came in. -/
def InP (w : World) (A : Option Addr) (g : Nat) (l : List (Int × Int)) (c : Nat) : Prop := SlP w g A l ∧ l.length ≤ c ∧ c ≤ maxLen
theorem open_pairs {t e : TypeId} {f0 f1 : Field} {r : Reach} {b0 : Nat} {v : Value} {d : DataW H} {ps : List MemPlace} (ht : P.underlying t = some (.slice e)) (he : P.underlying e = some (.struct #[f0, f1])) (ce : P.cellsOf e = 2) (o0 : f0.offset = 0) (o1 : f1.offset = 1)
    (c0 : P.cellsOf f0.type = 1) (c1 : P.cellsOf f1.type = 1) (i0 : P.underlying f0.type = some (.int .i64)) (i1 : P.underlying f1.type = some (.int .i64))
    (hval : Value.okWide P w r b0 t v) (hd : DataW.Trod enc P w 0 spare true t v d ps) : ∃ A g l c, v = .slice A l.length c ∧ InP w A g l c := by
  obtain ⟨a0, len0, cap0, rfl⟩ := okWide_slice ht hval
  obtain ⟨fuel, hf⟩ := hd
  rcases Go.Deep.open_slice_pairs ht he ce o0 o1 c0 c1 hf with ⟨hcs, -⟩ | ⟨a, len, cap, m, n, V0, V1, D0, D1, P0, P1, hcs, -, hl, hm, hmm, -, hx⟩
  · simp [Value.cells] at hcs
    obtain ⟨rfl, rfl, rfl⟩ := hcs
    exact ⟨none, 0, [], 0, rfl, SlP.nil _ _ _, Nat.le_refl _, by decide⟩
  · simp [Value.cells] at hcs
    obtain ⟨rfl, rfl, rfl⟩ := hcs
    have hlm : len0 ≤ m := by rw [hmm]; split <;> omega
    have hint : ∀ i, i < m → ∃ z : Int × Int, V0 i = .int .i64 z.1 ∧ V1 i = .int .i64 z.2 := fun i hi => by
      obtain ⟨-, -, t0, t1⟩ := hx i hi
      obtain ⟨n0, e0, -⟩ := DataW.trod_int i0 t0
      obtain ⟨n1, e1, -⟩ := DataW.trod_int i1 t1
      exact ⟨(n0, n1), by simpa using e0, by simpa using e1⟩
    refine ⟨some a, a.block, (List.range len0).map fun i => (intOf (V0 i), intOf (V1 i)), cap0, by simp, fun hne => ?_, by simpa using hl, hm⟩
    have hpos : 0 < len0 := by
      rcases Nat.eq_zero_or_pos len0 with h | h
      · subst h; exact absurd rfl hne
      · exact h
    obtain ⟨b, off, spot⟩ := a
    obtain ⟨k0, -, -, -⟩ := hx 0 (by omega)
    have hspot : spot = none := by simpa [Addr.add] using World.cell?_spot k0
    subst hspot
    refine ⟨World.block_lt_of_cell? w _ (by simpa [Addr.add] using k0), off, rfl, fun j u hj => ?_⟩
    have hjl : j < len0 * 2 := by
      have := (List.getElem?_eq_some_iff.1 hj).1
      rw [Prs_length] at this
      simpa using this
    have hq : j / 2 < len0 := by omega
    obtain ⟨z, e0, e1⟩ := hint (j / 2) (by omega)
    obtain ⟨q0, q1, -, -⟩ := hx (j / 2) (by omega)
    have hz : ((List.range len0).map fun i => (intOf (V0 i), intOf (V1 i)))[j / 2]? = some z := by
      rw [List.getElem?_map, List.getElem?_range hq, Option.map_some, e0, e1]; rfl
    obtain ⟨p0, p1⟩ := Prs_get _ _ _ hz
    rw [Addr.add_lit] at q0 q1
    rcases Nat.mod_two_eq_zero_or_one j with h | h
    · have ej : j = j / 2 * 2 := by omega
      rw [ej, p0] at hj
      rw [ej, q0, e0]
      exact hj
    · have ej : j = j / 2 * 2 + 1 := by omega
      rw [ej, p1] at hj
      rw [ej, q1, e1]
      exact hj
end
end Go.Proofs.Ytodfpdmmbmbinaa
