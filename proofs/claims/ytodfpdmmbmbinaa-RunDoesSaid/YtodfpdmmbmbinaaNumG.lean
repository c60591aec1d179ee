/- Contracts of the document's own answers for num: Fix, Put, Text. -/
import Derived.Test.YtodfpdmmbmbinaaNumF
import Derived.Test.YtodfpdmmbmbinaaRegR
namespace Go.Proofs.Ytodfpdmmbmbinaa
open Go.RowKit

def RefFixNo (w : World) (e : Ending) (w' : World) : Prop := e = .returned (.tuple #[.slice none 0 0, .bool false]) ∧ Below w.heap.size w w'
/-- .. the bytes, and whether they are all. -/
def RefFix (w : World) (n k : Nat) (e : Ending) (w' : World) : Prop :=
  ∃ A c, e = .returned (.tuple #[.slice A k c, .bool (decide (n < 256 ^ k))]) ∧ w'.ownsRow w.heap.size 5 1 (.slice A k c) k (Byt (be k n)) ∧ Below w.heap.size w w'
theorem nb_eq (n k : Nat) (hn : n < 2 ^ 64) (h1 : 2 ≤ k) (h2 : n < 256 ^ k) (h3 : 256 ^ (k - 1) ≤ n) (h8 : k ≤ 8) : nb n = k := by
  have e : ∀ j, (256 : Nat) ^ j = 2 ^ (8 * j) := fun j => by rw [show (256 : Nat) = 2 ^ 8 from rfl, ← Nat.pow_mul]
  rw [e] at h2 h3
  have a := nb_le k n h2 h8
  have b := nb_gt (k - 1) n h3 hn
  omega
/-- A head byte in an array of its own. -/
theorem head_own (w : World) (x : Int) (b : UInt8) (hx : x = (b.toNat : Int)) (t : TypeId) :
    (w.alloc (.cells #[.int .u8 x] t)).ownsRow w.heap.size t 1 (.slice (some ⟨w.heap.size, 0, none⟩) 1 1) 1 (Byt [b]) := by
  subst hx
  exact own_new w #[.int .u8 (b.toNat : Int)] t 1 _ (by simp [Byt]) (by simp [Byt]) (by decide) (Nat.le_refl _)
end Go.Proofs.Ytodfpdmmbmbinaa
