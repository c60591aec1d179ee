/- Contracts of package moment: two moments. -/
import Derived.Test.YtfmmdnjoichifaaNumWd
import Derived.Test.YtfmmdnjoichifaaRegR
import Derived.Sort.Grow
namespace Go.Proofs.Ytfmmdnjoichifaa
open Go.RowKit

theorem alloc_below (w : World) (o : Obj) : Below w.heap.size w (w.alloc o) := (Below.refl _ _).alloc (Nat.le_refl _) o
theorem keep_cell {w0 W : World} {p : Addr} {v : Value} (h : RB w0 W) (hc : w0.cell? p = some v) : W.cell? p = some v := (Below.cell h (World.block_lt_of_cell? w0 p hc)).trans hc
theorem load_i64_at (p : Addr) (n : Int) (w : World) (h : w.cell? p = some (.int .i64 n)) : (Instr.loadAt 3 (.pointer (some p))).run Try.prog w = .ok (.int .i64 n) w := by
  go_simp
theorem rb_alloc (w : World) (o : Obj) : RB w.drew (w.alloc o).drew := ⟨rfl, rfl, rfl, (alloc_below w o).size, (alloc_below w o).block⟩
theorem RB.of_drew' {B : Nat} {w w' : World} (h : Below B w w') : Below B w w'.drew := ⟨h.os, h.tape, h.output, h.size, h.block⟩
theorem new_cell (w : World) (cs : Array Value) (t : TypeId) (g : Nat) (hg : g = w.heap.size) (i : Nat) : (w.alloc (.cells cs t)).drew.cell? ⟨g, i, none⟩ = cs[i]? := by
  subst hg
  exact (Blk.new w t cs).cell i
def aheadM (m n : Int × Int) : Bool := decide (m.1 ≤ n.1) && decide (m.2 ≤ n.2)
def cmpI (x y : Int) : Int := if x < y then -1 else if y < x then 1 else 0
def cmpM (m n : Int × Int) : Int := if cmpI m.1 n.1 = 0 then cmpI m.2 n.2 else cmpI m.1 n.1
def joinMo (m n : Int × Int) : Int × Int := (max m.1 n.1, max m.2 n.2)
def meetMo (m n : Int × Int) : Int × Int := (min m.1 n.1, min m.2 n.2)
def okMo (m : Int × Int) : Bool := decide (0 ≤ m.1) && decide (m.1 < 65536) && decide (0 ≤ m.2) && decide (m.2 < 65536)
def orI (x y : Int) : Int := if x = 0 then y else x
theorem orI_zero (y : Int) : orI 0 y = y := rfl
theorem orI_ne {x : Int} (y : Int) (h : x ≠ 0) : orI x y = x := by unfold orI; rw [if_neg h]
theorem ret_int' {k : IntKind} {a b : Int} (h : a = b) : Ending.returned (.int k a) = .returned (.int k b) := by rw [h]
theorem grow_below (w : World) (q : Nat) (os : Array Obj) : Below w.heap.size w (Go.Sort.grow (w.drewN q) os) :=
  ⟨rfl, rfl, rfl, by rw [Go.Sort.size_grow]; exact Nat.le_add_right _ _, fun k hk => Go.Sort.heap_grow_old _ _ hk⟩
end Go.Proofs.Ytfmmdnjoichifaa
