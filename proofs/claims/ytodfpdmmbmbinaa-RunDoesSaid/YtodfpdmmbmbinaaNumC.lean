/- Contracts of num.Reader's methods, over a model that is a list of bytes that are left, or none. -/
import Derived.Test.YtodfpdmmbmbinaaNumB
namespace Go.Proofs.Ytodfpdmmbmbinaa
open Go.RowKit

/-- A reader at block g of a struct type T, its bytes in block h: what is left, or bad ('none'). -/
def RdAt (T : TypeId) (w : World) (g h : Nat) (s : Option (List UInt8)) : Prop :=
  ∃ A c l, Blk w g T #[.slice A l.length c, .bool s.isNone] ∧ g ≠ h ∧ l.length ≤ c ∧ c ≤ maxLen ∧ SlB w h A l ∧ ∀ r, s = some r → r = l
theorem RdAt.keep {T : TypeId} {w w' : World} {g h : Nat} {s : Option (List UInt8)} (r : RdAt T w g h s) (h1 : g < w.heap.size → w'.heap[g]? = w.heap[g]?) (h2 : h < w.heap.size → w'.heap[h]? = w.heap[h]?) : RdAt T w' g h s := by
  obtain ⟨A, c, l, hb, hne, hl, hc, hs, hr⟩ := r
  exact ⟨A, c, l, (h1 hb.lt).trans hb, hne, hl, hc, hs.keep' h2, hr⟩
theorem RdAt.below {T : TypeId} {w w' : World} {g h : Nat} {s : Option (List UInt8)} (r : RdAt T w g h s) (hb : Below w.heap.size w w') : RdAt T w' g h s :=
  r.keep (fun h => hb.block _ h) (fun h => hb.block _ h)
theorem RdAt.grown {T : TypeId} {w w' : World} {g h : Nat} {s : Option (List UInt8)} (r : RdAt T w g h s) {row : Option Nat} (hb : w.grownBy w' row) (h1 : some g ≠ row) (h2 : some h ≠ row) : RdAt T w' g h s :=
  r.keep (fun h => hb.block _ h h1) (fun h => hb.block _ h h2)

/-- Only block g has turned, and what is new. -/
theorem only_setCell {a w : World} {g : Nat} (h : a.grownBy w (some g)) {p : Addr} (hp : p.block = g ∨ a.heap.size ≤ p.block) (u : Value) : a.grownBy (w.setCell p u) (some g) :=
  ⟨h.os, h.tape, h.output, by simpa [World.setCell] using h.size, fun i hi hne => (Below.heap_setCell w p u i (by
    rintro rfl
    rcases hp with hp | hp
    · exact hne (by rw [hp])
    · omega)).trans (h.block i hi hne)⟩
theorem only_trans {a b c : World} {g : Nat} (h : a.grownBy b (some g)) (k : b.grownBy c (some g)) : a.grownBy c (some g) :=
  ⟨k.os.trans h.os, k.tape.trans h.tape, k.output.trans h.output, Nat.le_trans h.size k.size, fun i hi hne => (k.block i (Nat.lt_of_lt_of_le hi h.size) hne).trans (h.block i hi hne)⟩
theorem only_below {a b c : World} {g : Nat} (h : a.grownBy b (some g)) (k : Below b.heap.size b c) : a.grownBy c (some g) :=
  ⟨k.os.trans h.os, k.tape.trans h.tape, k.output.trans h.output, Nat.le_trans h.size k.size, fun i hi hne => (k.block i (Nat.lt_of_lt_of_le hi h.size)).trans (h.block i hi hne)⟩
/-- What 'take' hands out, and what is left. -/
def takeM (n : Int) : Option (List UInt8) → List UInt8 × Option (List UInt8)
  | none => ([], none)
  | some l => if 0 ≤ n ∧ n ≤ l.length then (l.take n.toNat, some (l.drop n.toNat)) else ([], none)
end Go.Proofs.Ytodfpdmmbmbinaa
