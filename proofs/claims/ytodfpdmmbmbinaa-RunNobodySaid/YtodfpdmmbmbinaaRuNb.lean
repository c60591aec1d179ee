/- The law RunNobody. -/
import Derived.Test.YtodfpdmmbmbinaaRuF
namespace Go.Proofs.Ytodfpdmmbmbinaa
open Go.RowKit Go.Sort

structure RopIn where
  k : Int
  e : En
  F : Option Addr
  n : Nat
  c : Nat
def ropV (x : RopIn) : Array Value := #[.int .i64 x.k, .int .i64 x.e.1.1, .int .i64 x.e.1.2, .int .i64 x.e.2.1, .int .i64 x.e.2.2, .slice x.F x.n x.c]
theorem rop_cells {w : World} {g : Nat} {t : TypeId} {x : RopIn} (h : Blk w g t (ropV x)) : w.cell? ⟨g, 0, none⟩ = some (.int .i64 x.k) ∧ w.cell? ⟨g, 1, none⟩ = some (.int .i64 x.e.1.1) ∧ w.cell? ⟨g, 2, none⟩ = some (.int .i64 x.e.1.2) ∧ w.cell? ⟨g, 3, none⟩ = some (.int .i64 x.e.2.1) ∧
    w.cell? ⟨g, 4, none⟩ = some (.int .i64 x.e.2.2) ∧ w.cell? ⟨g, 5, none⟩ = some (.slice x.F x.n x.c) :=
  ⟨h.cell 0, h.cell 1, h.cell 2, h.cell 3, h.cell 4, h.cell 5⟩
set_option maxRecDepth 100000 in
set_option maxHeartbeats 4000000 in
theorem rnobody_any (x : RopIn) (w : World) :
    Calls Try.prog 9 #[.agg (ropV x)] w fun e w' => e = .returned (.bool true) ∧ Below w.heap.size w w' := by
  have B0 := Lib.hid (alloc_below w (.cells (ropV x) 68))
  have X0 := Lib.hid (Blk.new w 68 (ropV x))
  go_enter Try.func9, Try.ntmps9
  go_wp2_with fail
  refine (rlives_any _).mono ?_; rintro e w1 ⟨rfl, b1⟩
  have B1 := Lib.hid (B0.out.trans (b1.mono B0.out.size))
  have X1 := Lib.hid (X0.out.below b1 X0.out.lt)
  clear b1
  obtain ⟨k0, k1, k2, k3, k4, k5⟩ := rop_cells X1.out
  go_wp2_with fail
  clear k0 k1 k2 k3 k4 k5
  refine (radd_nil _ x.e).mono ?_; rintro e w2 ⟨rfl, b2⟩
  have B2 := Lib.hid (B1.out.trans (b2.mono B1.out.size))
  have X2 := Lib.hid (X1.out.below b2 X1.out.lt)
  clear b2
  obtain ⟨k0, k1, k2, k3, k4, k5⟩ := rop_cells X2.out
  go_wp2_with fail
  clear k0 k1 k2 k3 k4 k5
  refine (rlen_nil _).mono ?_; rintro e w' ⟨rfl, rfl⟩
  go_wp2_with fail
  refine (rlimit_nil _).mono ?_; rintro e w' ⟨rfl, rfl⟩
  go_wp2_with fail
  refine (rmost_nil _).mono ?_; rintro e w' ⟨rfl, rfl⟩
  go_wp2_with fail
  refine (rall_nil _).mono ?_; rintro e w3 ⟨A1, c1, rfl, b3⟩
  have B3 := Lib.hid (B2.out.trans (b3.mono B2.out.size))
  have X3 := Lib.hid (X2.out.below b3 X2.out.lt)
  clear b3
  obtain ⟨k0, k1, k2, k3, k4, k5⟩ := rop_cells X3.out
  go_wp2_with fail
  clear k0 k1 k2 k3 k4 k5
  refine (rtake_nil _).mono ?_; rintro e w4 ⟨A2, c2, rfl, b4⟩
  have B4 := Lib.hid (B3.out.trans (b4.mono B3.out.size))
  have X4 := Lib.hid (X3.out.below b4 X3.out.lt)
  clear b4
  obtain ⟨k0, k1, k2, k3, k4, k5⟩ := rop_cells X4.out
  go_wp2_with fail
  clear k0 k1 k2 k3 k4 k5
  refine (rat_nil _ x.e.1).mono ?_; rintro e w5 ⟨A3, c3, rfl, b5⟩
  have B5 := Lib.hid (B4.out.trans (b5.mono B4.out.size))
  have X5 := Lib.hid (X4.out.below b5 X4.out.lt)
  clear b5
  obtain ⟨k0, k1, k2, k3, k4, k5⟩ := rop_cells X5.out
  go_wp2_with fail
  clear k0 k1 k2 k3 k4 k5
  refine (rkp_nil _ x.F x.n x.c).mono ?_; rintro e w6 ⟨rfl, b6⟩
  have B6 := Lib.hid (B5.out.trans (b6.mono B5.out.size))
  have X6 := Lib.hid (X5.out.below b6 X5.out.lt)
  clear b6
  obtain ⟨k0, k1, k2, k3, k4, k5⟩ := rop_cells X6.out
  go_wp2_with fail
  clear k0 k1 k2 k3 k4 k5
  refine (rfront_nil _).mono ?_; rintro e w7 ⟨A5, c5, rfl, b7⟩
  have B7 := Lib.hid (B6.out.trans (b7.mono B6.out.size))
  have X7 := Lib.hid (X6.out.below b7 X6.out.lt)
  clear b7
  obtain ⟨k0, k1, k2, k3, k4, k5⟩ := rop_cells X7.out
  go_wp2_with fail
  skip
  go_ret
  exact ⟨rfl, B7.out⟩
end Go.Proofs.Ytodfpdmmbmbinaa
