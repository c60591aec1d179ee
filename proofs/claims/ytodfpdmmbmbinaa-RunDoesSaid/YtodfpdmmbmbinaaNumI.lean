/- Contracts of the document's own reader: numbers and texts. -/
import Derived.Test.YtodfpdmmbmbinaaNumH
namespace Go.Proofs.Ytodfpdmmbmbinaa
open Go.RowKit

theorem takeM_one {s : Option (List UInt8)} {t : List UInt8} {rest : List UInt8} (h : takeM 1 s = (t, some rest)) : ∃ c, t = [c] := by
  have := takeM_some 1 s rest (by rw [h])
  rw [h] at this
  simp only at this
  match t, this with
  | [c], _ => exact ⟨c, rfl⟩
theorem fixedM_take {s : Option (List UInt8)} {c : UInt8} {rest : List UInt8} (h : takeM 1 s = ([c], some rest)) : fixedM 1 s = (c.toNat, some rest) := by
  have hc := c.toNat_lt
  have hb : beV [c] = c.toNat := by simp [beV]
  unfold fixedM
  rw [if_pos (by decide), h]
  simp only [hb]
  rw [if_neg (by omega)]
theorem fixedM_take0 {s : Option (List UInt8)} (h : takeM 1 s = ([], none)) : fixedM 1 s = (0, none) := by
  unfold fixedM
  rw [if_pos (by decide), h]
  simp [beV]
theorem RdAt.lt {T : TypeId} {w : World} {g h : Nat} {s : Option (List UInt8)} (r : RdAt T w g h s) : g < w.heap.size := by
  obtain ⟨A, c, l, hb, -⟩ := r
  exact hb.lt
theorem numM_good {s : Option (List UInt8)} (h : Good s) : Good (numM s).2 := by
  have hn : Good none := fun _ e => by cases e
  unfold numM
  dsimp only
  split
  · exact hn
  · split
    · exact fixedM_good h
    · split
      · split
        · exact hn
        · exact fixedM_good (fixedM_good h)
      · split
        · split
          · exact hn
          · exact fixedM_good (fixedM_good h)
        · exact hn
end Go.Proofs.Ytodfpdmmbmbinaa
