/- A law's arguments, opened to words of my own: a slice of bytes, a slice of ints. -/
import Derived.Test.YtfmmdnjoichifaaRw
import Derived.Test.YtfmmdnjoichifaaNumWd
namespace Go.Proofs.Ytfmmdnjoichifaa
open Go.ChangeShapes Go.WideShapes Go.ChangeAt Go.RowKit Go.ChangeMaps
section
variable {H : Type} {enc : TypeId × Value → H} {P : Program} {w : World} {spare : Nat → Bool}
theorem wf_u8' {n : Int} (h : (Lit.int .u8 n).wf = true) : 0 ≤ n ∧ n ≤ 255 := by
  simp [Lit.wf, IntKind.min, IntKind.max, IntKind.bits, IntKind.signed] at h
  omega
theorem wf_u32 {n : Int} (h : (Lit.int .u32 n).wf = true) : 0 ≤ n ∧ n ≤ 4294967295 := by
  simp [Lit.wf, IntKind.min, IntKind.max, IntKind.bits, IntKind.signed] at h
  omega
/-- What is known of a slice of bytes that came in. -/
def InB (w : World) (A : Option Addr) (g : Nat) (l : List UInt8) (c : Nat) : Prop := SlB w g A l ∧ l.length ≤ c ∧ c ≤ maxLen
theorem open_bytes {t e : TypeId} {r : Reach} {b0 : Nat} {v : Value} {d : DataW H} {ps : List MemPlace} (ht : P.underlying t = some (.slice e)) (he : P.underlying e = some (.int .u8)) (hc : P.cellsOf e = 1)
    (hval : Value.okWide P w r b0 t v) (hd : DataW.Trod enc P w 0 spare true t v d ps) : ∃ A g l c, v = .slice A l.length c ∧ InB w A g l c := by
  obtain ⟨a0, len0, cap0, rfl⟩ := okWide_slice ht hval
  obtain ⟨fuel, hf⟩ := hd
  rcases open_ints ht he hc hf with ⟨hcs, hx⟩ | ⟨a, len, cap, zs, hcs, _, hl, hm, hz, hx, hcell, hwz⟩
  · simp [Value.cells] at hcs
    obtain ⟨rfl, rfl, rfl⟩ := hcs
    exact ⟨none, 0, [], 0, rfl, SlB.nil _ _ _, Nat.le_refl _, by decide⟩
  · simp [Value.cells] at hcs
    obtain ⟨rfl, rfl, rfl⟩ := hcs
    have hlz : len0 ≤ zs.length := by rw [hz]; split <;> omega
    have hlen : ((zs.take len0).map fun z => UInt8.ofNat z.toNat).length = len0 := by simp; omega
    refine ⟨some a, a.block, (zs.take len0).map fun z => UInt8.ofNat z.toNat, cap0, by rw [hlen], fun _ => ⟨a, rfl, rfl, fun j b hj => ?_⟩, by rw [hlen]; exact hl, hm⟩
    have hjl : j < len0 := by rw [← hlen]; exact (List.getElem?_eq_some_iff.1 hj).1
    simp only [List.getElem?_map, List.getElem?_take, if_pos hjl, Option.map_eq_some_iff] at hj
    obtain ⟨z, hz1, rfl⟩ := hj
    rw [hcell j (by omega), List.getD_eq_getElem?_getD, hz1]
    have hw := wf_u8' (hwz z (List.mem_of_getElem? hz1))
    simp
    omega
/-- A slice of ints lies in block h. -/
def SlI (w : World) (h : Nat) (A : Option Addr) (l : List Int) : Prop :=
  l ≠ [] → ∃ ad, A = some ad ∧ ad.block = h ∧ ∀ (j : Nat) (b : Int), l[j]? = some b → w.cell? (ad.add j) = some (.int .i64 b)
def InI (w : World) (A : Option Addr) (g : Nat) (l : List Int) (c : Nat) : Prop := SlI w g A l ∧ l.length ≤ c ∧ c ≤ maxLen ∧ (∀ z ∈ l, -9223372036854775808 ≤ z ∧ z ≤ 9223372036854775807) ∧ (l ≠ [] → g < w.heap.size)
theorem open_ints64 {t e : TypeId} {r : Reach} {b0 : Nat} {v : Value} {d : DataW H} {ps : List MemPlace} (ht : P.underlying t = some (.slice e)) (he : P.underlying e = some (.int .i64)) (hc : P.cellsOf e = 1)
    (hval : Value.okWide P w r b0 t v) (hd : DataW.Trod enc P w 0 spare true t v d ps) : ∃ A g l c, v = .slice A l.length c ∧ InI w A g l c := by
  obtain ⟨a0, len0, cap0, rfl⟩ := okWide_slice ht hval
  obtain ⟨fuel, hf⟩ := hd
  rcases open_ints ht he hc hf with ⟨hcs, hx⟩ | ⟨a, len, cap, zs, hcs, _, hl, hm, hz, hx, hcell, hwz⟩
  · simp [Value.cells] at hcs
    obtain ⟨rfl, rfl, rfl⟩ := hcs
    exact ⟨none, 0, [], 0, rfl, fun h => absurd rfl h, Nat.le_refl _, by decide, by simp, fun h => absurd rfl h⟩
  · simp [Value.cells] at hcs
    obtain ⟨rfl, rfl, rfl⟩ := hcs
    have hlz : len0 ≤ zs.length := by rw [hz]; split <;> omega
    have hlen : (zs.take len0).length = len0 := by simp; omega
    have hcells : ∀ (j : Nat) (b : Int), (zs.take len0)[j]? = some b → w.cell? (a.add j) = some (.int .i64 b) := fun j b hj => by
      have hjl : j < len0 := by rw [← hlen]; exact (List.getElem?_eq_some_iff.1 hj).1
      rw [List.getElem?_take, if_pos hjl] at hj
      rw [hcell j (by omega), List.getD_eq_getElem?_getD, hj]
      rfl
    refine ⟨some a, a.block, zs.take len0, cap0, by rw [hlen], fun _ => ⟨a, rfl, rfl, hcells⟩, by rw [hlen]; exact hl, hm, fun z hz1 => wf_int (hwz z (List.mem_of_mem_take hz1)), fun hne => ?_⟩
    match hl : zs.take len0, hne with
    | b :: r, _ =>
      have := World.block_lt_of_cell? w _ (hcells 0 b (by rw [hl]; rfl))
      rwa [block_of_add] at this
end
end Go.Proofs.Ytfmmdnjoichifaa
