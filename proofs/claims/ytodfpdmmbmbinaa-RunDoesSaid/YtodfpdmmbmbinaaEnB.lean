/- Contracts of package entry: may, chosen, At, Behind, of both. -/
import Derived.Test.YtodfpdmmbmbinaaEnA
import Derived.Test.YtodfpdmmbmbinaaFrC
import Derived.Test.YtodfpdmmbmbinaaReB
namespace Go.Proofs.Ytodfpdmmbmbinaa
open Go.RowKit Go.Sort Go.Shelf

theorem info_en3 : (Try.prog.info? 65).map (fun i => (i.zero, i.size, i.bytes)) = some (some (.agg #[.int .i64 0, .int .i64 0, .int .i64 0, .int .i64 0]), 4, 32) := by kernel_rfl
/-- A function of entries that answers a bool and touches nothing that is there, in every later world. -/
def PredB (g : Nat) (lb : Array Value) (p : En → Bool) (w : World) : Prop :=
  ∀ (W : World) (x : En), Below w.heap.size w W → Calls Try.prog g (#[enV x] ++ lb) W fun e W' => e = .returned (.bool (p x)) ∧ Below W.heap.size W W'
/-- A new row with these entries. -/
def EnRow (w : World) (l : List En) (e : Ending) (w' : World) : Prop :=
  ∃ A c, e = .returned (.slice A l.length c) ∧ w'.ownsRow w.heap.size 65 4 (.slice A l.length c) l.length (RowV encE l) ∧ Below w.heap.size w w'
/-- Records in a new row. -/
def RecRow (w : World) (l : List (Int × Int)) (e : Ending) (w' : World) : Prop :=
  ∃ A c, e = .returned (.slice A l.length c) ∧ w'.ownsRow w.heap.size 63 2 (.slice A l.length c) l.length (Prs l) ∧ Below w.heap.size w w'
theorem own_form2 {w : World} {base e n c : Nat} {A : Option Addr} {l : List En} (h : w.ownsRow base e 4 (.slice A n c) n (RowV encE l)) : ∃ g, base ≤ g ∧ SlK encE w g A l ∧ n ≤ c ∧ c ≤ maxLen := by
  obtain ⟨g, h1, h2, -, -, h3, h4⟩ := SlK.of_own layE h
  exact ⟨g, h1, h2, h3, h4⟩
end Go.Proofs.Ytodfpdmmbmbinaa
