/- Contracts of package rec: Read, and where the reader stands then. -/
import Derived.Test.YtfmmdnjoichifaaReP
namespace Go.Proofs.Ytfmmdnjoichifaa
open Go.RowKit

def ReadAns2 (T : TypeId) (w : World) (g h : Nat) (z : (Int × Int) × Int) (s2 : Option (List UInt8)) (e : Ending) (w' : World) : Prop :=
  e = .returned (.tuple #[.agg #[.int .i64 z.1.1, .int .i64 z.1.2], .int .i64 z.2]) ∧ RdAt T w' g h s2 ∧ w.grownBy w' (some g)
theorem RdAt.set2 {T : TypeId} {w : World} {g h : Nat} {s : Option (List UInt8)} (r : RdAt T w g h s) {p : Addr} (h1 : g ≠ p.block) (h2 : h ≠ p.block) (v : Value) : RdAt T (w.setCell p v) g h s :=
  r.keep (fun _ => Below.heap_setCell w p v g h1) (fun _ => Below.heap_setCell w p v h h2)
end Go.Proofs.Ytfmmdnjoichifaa
