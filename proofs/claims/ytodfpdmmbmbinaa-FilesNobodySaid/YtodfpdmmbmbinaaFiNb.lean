/- The law FilesNobody. -/
import Derived.Test.YtodfpdmmbmbinaaFiAh
namespace Go.Proofs.Ytodfpdmmbmbinaa
open Go.RowKit Go.Sort

structure OpIn where
  k : Int
  a : ByteArray
  b : ByteArray
  i : Int
  p : Int
  t : Int
  A : Option Addr
  l : Nat
  c : Nat
  A2 : Option Addr
  l2 : Nat
  c2 : Nat
def opV (x : OpIn) : Array Value := #[.int .i64 x.k, .string x.a, .string x.b, .int .i64 x.i, .int .i64 x.p, .int .u32 x.t, .slice x.A x.l x.c, .slice x.A2 x.l2 x.c2]
theorem op_cells {w : World} {g : Nat} {t : TypeId} {x : OpIn} (h : Blk w g t (opV x)) : w.cell? ⟨g, 1, none⟩ = some (.string x.a) ∧ w.cell? ⟨g, 2, none⟩ = some (.string x.b) ∧ w.cell? ⟨g, 3, none⟩ = some (.int .i64 x.i) ∧ w.cell? ⟨g, 4, none⟩ = some (.int .i64 x.p) ∧
    w.cell? ⟨g, 5, none⟩ = some (.int .u32 x.t) ∧ w.cell? ⟨g, 6, none⟩ = some (.slice x.A x.l x.c) ∧ w.cell? ⟨g, 7, none⟩ = some (.slice x.A2 x.l2 x.c2) :=
  ⟨h.cell 1, h.cell 2, h.cell 3, h.cell 4, h.cell 5, h.cell 6, h.cell 7⟩
set_option maxRecDepth 100000 in
set_option maxHeartbeats 4000000 in
theorem nobody_any (x : OpIn) (w : World) :
    Calls Try.prog 4 #[.agg (opV x)] w fun e w' => e = .returned (.bool true) ∧ Below w.heap.size w w' := by
  have B0 := Lib.hid (al_below w (.cells (opV x) 39))
  have X0 := Lib.hid (Blk.new w 39 (opV x))
  obtain ⟨k1, k2, k3, k4, k5, k6, k7⟩ := op_cells X0.out
  go_enter Try.func4, Try.ntmps4
  go_wp2_with fail
  refine (read_nil _ _ _).mono ?_; rintro e w' ⟨rfl, rfl⟩
  go_wp2_with fail
  refine (fsize_nil _ _).mono ?_; rintro e w' ⟨rfl, rfl⟩
  go_wp2_with fail
  refine (crash_nil _ _ _ _).mono ?_; rintro e w' ⟨rfl, rfl⟩
  clear k1 k2 k3 k4 k5 k6 k7
  go_wp2_with (first | fail | (simp only))
  refine (lives_any _).mono ?_; rintro e w1 ⟨rfl, b1⟩
  have B1 := Lib.hid (B0.out.trans (b1.mono B0.out.size))
  have X1 := Lib.hid (X0.out.below b1 X0.out.lt)
  clear b1
  obtain ⟨k1, k2, k3, k4, k5, k6, k7⟩ := op_cells X1.out
  go_wp2_with fail
  clear k1 k2 k3 k4 k5 k6 k7
  refine (create_nil _ x.a.data.toList).mono ?_; rintro e w2 ⟨rfl, b2⟩
  have B2 := Lib.hid (B1.out.trans (b2.mono B1.out.size))
  have X2 := Lib.hid (X1.out.below b2 X1.out.lt)
  clear b2
  obtain ⟨k1, k2, k3, k4, k5, k6, k7⟩ := op_cells X2.out
  go_wp2_with fail
  clear k1 k2 k3 k4 k5 k6 k7
  refine (append_nil _ (.string x.a) x.A x.l x.c).mono ?_; rintro e w3 ⟨rfl, b3⟩
  have B3 := Lib.hid (B2.out.trans (b3.mono B2.out.size))
  have X3 := Lib.hid (X2.out.below b3 X2.out.lt)
  clear b3
  obtain ⟨k1, k2, k3, k4, k5, k6, k7⟩ := op_cells X3.out
  go_wp2_with fail
  clear k1 k2 k3 k4 k5 k6 k7
  refine (write_nil _ x.a.data.toList x.i x.A x.l x.c).mono ?_; rintro e w4 ⟨rfl, b4⟩
  have B4 := Lib.hid (B3.out.trans (b4.mono B3.out.size))
  have X4 := Lib.hid (X3.out.below b4 X3.out.lt)
  clear b4
  obtain ⟨k1, k2, k3, k4, k5, k6, k7⟩ := op_cells X4.out
  go_wp2_with fail
  clear k1 k2 k3 k4 k5 k6 k7
  refine (sync_nil _ x.a.data.toList).mono ?_; rintro e w5 ⟨rfl, b5⟩
  have B5 := Lib.hid (B4.out.trans (b5.mono B4.out.size))
  have X5 := Lib.hid (X4.out.below b5 X4.out.lt)
  clear b5
  obtain ⟨k1, k2, k3, k4, k5, k6, k7⟩ := op_cells X5.out
  go_wp2_with fail
  clear k1 k2 k3 k4 k5 k6 k7
  refine (rename_nil _ x.a.data.toList x.b.data.toList).mono ?_; rintro e w6 ⟨rfl, b6⟩
  have B6 := Lib.hid (B5.out.trans (b6.mono B5.out.size))
  have X6 := Lib.hid (X5.out.below b6 X5.out.lt)
  clear b6
  obtain ⟨k1, k2, k3, k4, k5, k6, k7⟩ := op_cells X6.out
  go_wp2_with fail
  clear k1 k2 k3 k4 k5 k6 k7
  refine (delete_nil _ x.a.data.toList).mono ?_; rintro e w7 ⟨rfl, b7⟩
  have B7 := Lib.hid (B6.out.trans (b7.mono B6.out.size))
  have X7 := Lib.hid (X6.out.below b7 X6.out.lt)
  clear b7
  obtain ⟨k1, k2, k3, k4, k5, k6, k7⟩ := op_cells X7.out
  go_wp2_with fail
  skip
  refine (list_nil _).mono ?_; rintro e w' ⟨rfl, rfl⟩
  go_wp2_with fail
  refine (pending_nil _).mono ?_; rintro e w' ⟨rfl, rfl⟩
  go_wp2_with fail
  refine (used_nil _).mono ?_; rintro e w' ⟨rfl, rfl⟩
  go_wp2_with fail
  refine (stop_nil _ _).mono ?_; rintro e w' ⟨rfl, rfl⟩
  go_wp2_with fail
  refine (off_nil _).mono ?_; rintro e w' ⟨rfl, rfl⟩
  go_wp2_with fail
  refine (flip_nil _ _ _ _ _).mono ?_; rintro e w' ⟨rfl, rfl⟩
  go_wp2_with fail
  go_ret
  exact ⟨rfl, B7.out⟩
end Go.Proofs.Ytodfpdmmbmbinaa
