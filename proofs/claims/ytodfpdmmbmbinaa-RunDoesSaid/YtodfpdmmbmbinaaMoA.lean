/- Contracts of package moment: two moments. -/
import Derived.Test.YtodfpdmmbmbinaaNumWd
import Derived.Test.YtodfpdmmbmbinaaRegR
import Derived.Sort.Grow
namespace Go.Proofs.Ytodfpdmmbmbinaa
open Go.RowKit

theorem alloc_below (w : World) (o : Obj) : Below w.heap.size w (w.alloc o) := (Below.refl _ _).alloc (Nat.le_refl _) o
theorem keep_cell {w0 W : World} {p : Addr} {v : Value} (h : RB w0 W) (hc : w0.cell? p = some v) : W.cell? p = some v := (Below.cell h (World.block_lt_of_cell? w0 p hc)).trans hc
theorem load_i64_at (p : Addr) (n : Int) (w : World) (h : w.cell? p = some (.int .i64 n)) : (Instr.loadAt 3 (.pointer (some p))).run Try.prog w = .ok (.int .i64 n) w := by
  go_simp
theorem rb_alloc (w : World) (o : Obj) : RB w.drew (w.alloc o).drew := ⟨rfl, rfl, rfl, (alloc_below w o).size, (alloc_below w o).block⟩
theorem RB.of_drew' {B : Nat} {w w' : World} (h : Below B w w') : Below B w w'.drew := ⟨h.os, h.tape, h.output, h.size, h.block⟩
theorem new_cell (w : World) (cs : Array Value) (t : TypeId) (g : Nat) (hg : g = w.heap.size) (i : Nat) : (w.alloc (.cells cs t)).drew.cell? ⟨g, i, none⟩ = cs[i]? := by
  subst hg
  exact (Blk.new w t cs).cell i
def aheadM (m n : Int × Int) : Bool := decide (m.1 ≤ n.1) && decide (m.2 ≤ n.2)
def cmpI (x y : Int) : Int := if x < y then -1 else if y < x then 1 else 0
def cmpM (m n : Int × Int) : Int := if cmpI m.1 n.1 = 0 then cmpI m.2 n.2 else cmpI m.1 n.1
def joinMo (m n : Int × Int) : Int × Int := (max m.1 n.1, max m.2 n.2)
def meetMo (m n : Int × Int) : Int × Int := (min m.1 n.1, min m.2 n.2)
def okMo (m : Int × Int) : Bool := decide (0 ≤ m.1) && decide (m.1 < 65536) && decide (0 ≤ m.2) && decide (m.2 < 65536)
set_option maxRecDepth 100000 in
set_option maxHeartbeats 400000 in
theorem ahead_any (a b c d : Int) (w : World) :
    Calls Try.prog 95 #[.agg #[.int .i64 a, .int .i64 b], .agg #[.int .i64 c, .int .i64 d]] w fun e w' => e = .returned (.bool (aheadM (a, b) (c, d))) ∧ Below w.heap.size w w' := by
  unfold aheadM
  by_cases h1 : a ≤ c
  · have d1 : decide (a ≤ c) = true := by simpa using h1
    by_cases h2 : b ≤ d
    · have d2 : decide (b ≤ d) = true := by simpa using h2
      go_enter Try.func95, Try.ntmps95
      go_wp2
      go_ret
      exact ⟨by simp [h1, h2], below_trans (alloc_below w _) (alloc_below _ _)⟩
    · have d2 : decide (b ≤ d) = false := by simpa using h2
      go_enter Try.func95, Try.ntmps95
      go_wp2
      go_ret
      exact ⟨by simp, below_trans (alloc_below w _) (alloc_below _ _)⟩
  · have d1 : decide (a ≤ c) = false := by simpa using h1
    go_enter Try.func95, Try.ntmps95
    go_wp2
    go_ret
    exact ⟨by simp, below_trans (alloc_below w _) (alloc_below _ _)⟩
set_option maxRecDepth 100000 in
set_option maxHeartbeats 400000 in
theorem rahead_any (a b c d : Int) (w : World) :
    Calls Try.prog 96 #[.agg #[.int .i64 a, .int .i64 b], .agg #[.int .i64 c, .int .i64 d]] w fun e w' => e = .returned (.bool (aheadM (a, b) (c, d))) ∧ Below w.heap.size w w' := by
  unfold aheadM
  by_cases h1 : a ≤ c
  · have d1 : decide (a ≤ c) = true := by simpa using h1
    by_cases h2 : b ≤ d
    · have d2 : decide (b ≤ d) = true := by simpa using h2
      go_enter Try.func96, Try.ntmps96
      go_wp2
      go_ret
      exact ⟨by simp [h1, h2], below_trans (alloc_below w _) (alloc_below _ _)⟩
    · have d2 : decide (b ≤ d) = false := by simpa using h2
      go_enter Try.func96, Try.ntmps96
      go_wp2
      go_ret
      exact ⟨by simp, below_trans (alloc_below w _) (alloc_below _ _)⟩
  · have d1 : decide (a ≤ c) = false := by simpa using h1
    go_enter Try.func96, Try.ntmps96
    go_wp2
    go_ret
    exact ⟨by simp, below_trans (alloc_below w _) (alloc_below _ _)⟩
set_option maxRecDepth 100000 in
set_option maxHeartbeats 400000 in
theorem cmpInt_any (x y : Int) (w : World) : Calls Try.prog 137 #[.int .i64 x, .int .i64 y] w fun e w' => e = .returned (.int .i64 (cmpI x y)) ∧ w = w' := by
  unfold cmpI
  by_cases h1 : x < y
  · have d1 : decide (x < y) = true := by simpa using h1
    rw [if_pos h1]
    go_enter Try.func137, Try.ntmps137
    go_wp2
    go_ret
    exact ⟨rfl, rfl⟩
  · have d1 : decide (x < y) = false := by simpa using h1
    rw [if_neg h1]
    by_cases h2 : y < x
    · have d2 : decide (y < x) = true := by simpa using h2
      rw [if_pos h2]
      go_enter Try.func137, Try.ntmps137
      go_wp2
      go_ret
      exact ⟨rfl, rfl⟩
    · have d2 : decide (y < x) = false := by simpa using h2
      rw [if_neg h2]
      go_enter Try.func137, Try.ntmps137
      go_wp2
      go_ret
      exact ⟨rfl, rfl⟩
def orI (x y : Int) : Int := if x = 0 then y else x
theorem orI_zero (y : Int) : orI 0 y = y := rfl
theorem orI_ne {x : Int} (y : Int) (h : x ≠ 0) : orI x y = x := by unfold orI; rw [if_neg h]
theorem ret_int' {k : IntKind} {a b : Int} (h : a = b) : Ending.returned (.int k a) = .returned (.int k b) := by rw [h]
set_option maxRecDepth 100000 in
set_option maxHeartbeats 400000 in
theorem or_any (x y : Int) (g : Nat) (w : World) (h0 : w.cell? ⟨g, 0, none⟩ = some (.int .i64 x)) (h1 : w.cell? ⟨g, 1, none⟩ = some (.int .i64 y)) :
    Calls Try.prog 125 #[.slice (some ⟨g, 0, none⟩) 2 2] w fun e w' => e = .returned (.int .i64 (orI x y)) ∧ w = w' := by
  go_enter Try.func125, Try.ntmps125
  go_wp2_with fail
  go_loop [8] (fun i => (i = .int .i64 0) ∨ (i = .int .i64 1 ∧ x = 0) ∨ (i = .int .i64 2 ∧ x = 0 ∧ y = 0)) (fun i => 2 - (intOf i).toNat)
  case atStart => exact .inl rfl
  case round =>
    rcases hrel with rfl | ⟨rfl, hx⟩ | ⟨rfl, hx, hy⟩
    · by_cases hx : x = 0
      · subst hx
        go_wp2
        exact ⟨by simp, by decide⟩
      · have d1 : (x == 0) = false := by simpa using hx
        go_wp2
        go_ret
        exact ⟨ret_int' (orI_ne y hx).symm, rfl⟩
    · subst hx
      by_cases hy : y = 0
      · subst hy
        go_wp2
        exact ⟨by simp, by decide⟩
      · have d1 : (y == 0) = false := by simpa using hy
        go_wp2
        go_ret
        exact ⟨ret_int' (orI_zero y).symm, rfl⟩
    · subst hx hy
      go_wp2
      go_ret
      exact ⟨ret_int' (orI_zero 0).symm, rfl⟩
set_option maxRecDepth 100000 in
set_option maxHeartbeats 1000000 in
theorem compare_grow (a b c d : Int) (w : World) :
    Calls Try.prog 126 #[.agg #[.int .i64 a, .int .i64 b], .agg #[.int .i64 c, .int .i64 d]] w fun e w' => e = .returned (.int .i64 (cmpM (a, b) (c, d))) ∧ ∃ q os, w' = Go.Sort.grow (w.drewN q) os := by
  have P1 := Lib.hid (fun W => cmpInt_any a c W)
  have P2 := Lib.hid (fun W => cmpInt_any b d W)
  have P3 := Lib.hid (fun g W h0 h1 => or_any (cmpI a c) (cmpI b d) g W h0 h1)
  have hm : cmpM (a, b) (c, d) = orI (cmpI a c) (cmpI b d) := rfl
  rw [hm]
  clear hm
  generalize cmpI a c = x at P1 P3
  generalize cmpI b d = y at P2 P3
  have B0 := Lib.hid (below_trans (alloc_below w (.cells #[.int .i64 a, .int .i64 b] 61)) (alloc_below _ (.cells #[.int .i64 c, .int .i64 d] 61)))
  have C0 := Lib.hid (show ((w.alloc (.cells #[.int .i64 a, .int .i64 b] 61)).alloc (.cells #[.int .i64 c, .int .i64 d] 61)).drew.cell? ⟨w.heap.size, 0, none⟩ = some (.int .i64 a) by simp)
  have C1 := Lib.hid (show ((w.alloc (.cells #[.int .i64 a, .int .i64 b] 61)).alloc (.cells #[.int .i64 c, .int .i64 d] 61)).drew.cell? ⟨w.heap.size, 1, none⟩ = some (.int .i64 b) by simp)
  have C2 := Lib.hid (show ((w.alloc (.cells #[.int .i64 a, .int .i64 b] 61)).alloc (.cells #[.int .i64 c, .int .i64 d] 61)).drew.cell? ⟨w.heap.size + 1, 0, none⟩ = some (.int .i64 c) by simp)
  have C3 := Lib.hid (show ((w.alloc (.cells #[.int .i64 a, .int .i64 b] 61)).alloc (.cells #[.int .i64 c, .int .i64 d] 61)).drew.cell? ⟨w.heap.size + 1, 1, none⟩ = some (.int .i64 d) by simp)
  go_enter Try.func126, Try.ntmps126
  go_wp2_with fail
  refine wp_region_R (R := RB) (n := 13) (by kernel_rfl) rfl ?_
  refine batchB [0, 1, 2, 3, 5, 6, 7, 8] (fuel := 5) rfl (by kernel_rfl) (by kernel_rfl) (fun _ _ d _ _ h => by cases d <;> exact h) ?_
  repeat (first | ((with_reducible apply wq0); rfl; rfl; rfl; intro K hK; go_big_quiet_op; refine hK _ ?_; clear hK K) | ((with_reducible apply wq1); rfl; rfl; rfl; rfl; rfl; rfl; intro K hK; go_big_quiet_op; refine hK _ ?_; clear hK K) | ((with_reducible apply wqs); rfl; rfl; rfl; rfl; rfl; rfl; simp only [Act.put, List.setIfInBounds_toArray, List.set_cons_zero, List.set_cons_succ]) | ((with_reducible apply wqu); rfl; rfl; rfl; rfl; rfl; simp only [same]))
  refine wqIdx_load rfl rfl rfl rfl (fun W hW => load_i64_at _ a W (keep_cell hW C0.out)) ?_
  simp only [Act.put, List.setIfInBounds_toArray, List.set_cons_zero, List.set_cons_succ]
  repeat (first | ((with_reducible apply wq0); rfl; rfl; rfl; intro K hK; go_big_quiet_op; refine hK _ ?_; clear hK K) | ((with_reducible apply wq1); rfl; rfl; rfl; rfl; rfl; rfl; intro K hK; go_big_quiet_op; refine hK _ ?_; clear hK K) | ((with_reducible apply wqs); rfl; rfl; rfl; rfl; rfl; rfl; simp only [Act.put, List.setIfInBounds_toArray, List.set_cons_zero, List.set_cons_succ]) | ((with_reducible apply wqu); rfl; rfl; rfl; rfl; rfl; simp only [same]))
  refine wqIdx_load rfl rfl rfl rfl (fun W hW => load_i64_at _ c W (keep_cell hW C2.out)) ?_
  simp only [Act.put, List.setIfInBounds_toArray, List.set_cons_zero, List.set_cons_succ]
  repeat (first | ((with_reducible apply wq0); rfl; rfl; rfl; intro K hK; go_big_quiet_op; refine hK _ ?_; clear hK K) | ((with_reducible apply wq1); rfl; rfl; rfl; rfl; rfl; rfl; intro K hK; go_big_quiet_op; refine hK _ ?_; clear hK K) | ((with_reducible apply wqs); rfl; rfl; rfl; rfl; rfl; rfl; simp only [Act.put, List.setIfInBounds_toArray, List.set_cons_zero, List.set_cons_succ]) | ((with_reducible apply wqu); rfl; rfl; rfl; rfl; rfl; simp only [same]))
  refine wqIdx_load rfl rfl rfl rfl (fun W hW => load_i64_at _ b W (keep_cell hW C1.out)) ?_
  simp only [Act.put, List.setIfInBounds_toArray, List.set_cons_zero, List.set_cons_succ]
  repeat (first | ((with_reducible apply wq0); rfl; rfl; rfl; intro K hK; go_big_quiet_op; refine hK _ ?_; clear hK K) | ((with_reducible apply wq1); rfl; rfl; rfl; rfl; rfl; rfl; intro K hK; go_big_quiet_op; refine hK _ ?_; clear hK K) | ((with_reducible apply wqs); rfl; rfl; rfl; rfl; rfl; rfl; simp only [Act.put, List.setIfInBounds_toArray, List.set_cons_zero, List.set_cons_succ]) | ((with_reducible apply wqu); rfl; rfl; rfl; rfl; rfl; simp only [same]))
  refine wqIdx_load rfl rfl rfl rfl (fun W hW => load_i64_at _ d W (keep_cell hW C3.out)) ?_
  simp only [Act.put, List.setIfInBounds_toArray, List.set_cons_zero, List.set_cons_succ]
  refine wqIdx_nil ?_
  refine wpAnyR_sole (i := 4) rfl (by kernel_rfl) (fun K hK => ?_)
  go_simp
  refine (P1.out _).mono ?_; rintro e w' ⟨rfl, rfl⟩
  refine hK _ _ (RB.refl _) ?_
  clear hK K
  refine wpAnyR_sole (i := 9) rfl (by kernel_rfl) (fun K hK => ?_)
  go_simp
  refine (P2.out _).mono ?_; rintro e w' ⟨rfl, rfl⟩
  refine hK _ _ (RB.refl _) ?_
  clear hK K
  refine wpAnyR_sole (i := 10) rfl (by kernel_rfl) (fun K hK => ?_)
  go_simp
  refine hK _ _ (rb_alloc _ _) ?_
  clear hK K
  refine wpAnyR_sole (i := 11) rfl (by kernel_rfl) (fun K hK => ?_)
  go_simp
  refine (P3.out _ _ (new_cell _ #[.int .i64 x, .int .i64 y] _ _ (by simp) 0) (new_cell _ #[.int .i64 x, .int .i64 y] _ _ (by simp) 1)).mono ?_; rintro e w' ⟨rfl, rfl⟩
  refine hK _ _ (RB.refl _) ?_
  clear hK K
  refine batchB [12] (fuel := 0) rfl (by kernel_rfl) (by kernel_rfl) (fun _ _ d _ _ h => by cases d <;> exact h) ?_
  repeat (first | ((with_reducible apply wq0); rfl; rfl; rfl; intro K hK; go_big_quiet_op; refine hK _ ?_; clear hK K) | ((with_reducible apply wq1); rfl; rfl; rfl; rfl; rfl; rfl; intro K hK; go_big_quiet_op; refine hK _ ?_; clear hK K) | ((with_reducible apply wqs); rfl; rfl; rfl; rfl; rfl; rfl; simp only [Act.put, List.setIfInBounds_toArray, List.set_cons_zero, List.set_cons_succ]) | ((with_reducible apply wqu); rfl; rfl; rfl; rfl; rfl; simp only [same]))
  refine wqIdx_nil ?_
  refine wpAnyR_done (by kernel_rfl) ?_ _
  go_wp2
  go_ret
  exact ⟨rfl, 1, _, by rw [Go.Sort.alloc_eq_grow, Go.Sort.alloc_eq_grow, Go.Sort.alloc_eq_grow, Go.Sort.grow_grow, Go.Sort.grow_grow]; rfl⟩
theorem grow_below (w : World) (q : Nat) (os : Array Obj) : Below w.heap.size w (Go.Sort.grow (w.drewN q) os) :=
  ⟨rfl, rfl, rfl, by rw [Go.Sort.size_grow]; exact Nat.le_add_right _ _, fun k hk => Go.Sort.heap_grow_old _ _ hk⟩
theorem compare_any (a b c d : Int) (w : World) :
    Calls Try.prog 126 #[.agg #[.int .i64 a, .int .i64 b], .agg #[.int .i64 c, .int .i64 d]] w fun e w' => e = .returned (.int .i64 (cmpM (a, b) (c, d))) ∧ Below w.heap.size w w' :=
  (compare_grow a b c d w).mono fun _ _ ⟨he, q, os, hw⟩ => ⟨he, by rw [hw]; exact grow_below w q os⟩
end Go.Proofs.Ytodfpdmmbmbinaa
