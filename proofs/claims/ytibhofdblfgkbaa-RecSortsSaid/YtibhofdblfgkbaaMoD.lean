/- Contracts of package moment: a way, and then another one. -/
import Derived.Test.YtibhofdblfgkbaaMoC
namespace Go.Proofs.Ytibhofdblfgkbaa
open Go.RowKit

def thenM (s : Bool) (a : Int) (t : Bool) (b : Int) : Bool × (Bool × Int) :=
  if wayM a = false then (false, (false, 0)) else if wayM b = false then (false, (false, 0)) else if t = true then (true, (true, b)) else if wayM (a + b) = false then (false, (false, 0)) else (true, (s, a + b))
def argE (ok : Bool) : Int := if ok then 0 else 1
set_option maxRecDepth 100000 in
set_option maxHeartbeats 1000000 in
theorem then_any (s : Bool) (a : Int) (t : Bool) (b : Int) (w : World) :
    Calls Try.prog 67 #[.agg #[.bool s, .int .i64 a], .agg #[.bool t, .int .i64 b]] w fun en w' => en = .returned (.tuple #[.agg #[.bool (thenM s a t b).2.1, .int .i64 (thenM s a t b).2.2], .int .i64 (argE (thenM s a t b).1)]) ∧ Below w.heap.size w w' := by
  cases hd0 : decide (0 ≤ a)
  · have p0 : ¬ (0 ≤ a) := by simpa using hd0
    rw [show thenM s a t b = (false, (false, 0)) by unfold thenM; rw [if_pos (wayM_false (by omega))]]
    go_enter Try.func67, Try.ntmps67
    go_wp2
    refine bodyPost_ret (results_cell_tmp_row rfl _ _ (w.heap.size + 1 + 1) 81 #[.bool false, .int .i64 (0)] (0, 0) _ rfl (show Blk _ _ _ _ by repeat (first | (refine blk_top _ _ _ _ ?_; simp; done) | refine Blk.alloc ?_ _)) Try.underlying81 rfl info_way) rfl ?_
    exact ⟨rfl, (by (repeat (refine below_trans ?_ (alloc_below _ _))); exact Below.refl _ _)⟩
  · have p0 : 0 ≤ a := by simpa using hd0
    cases hd1 : decide (a < 65536)
    · have p1 : ¬ (a < 65536) := by simpa using hd1
      rw [show thenM s a t b = (false, (false, 0)) by unfold thenM; rw [if_pos (wayM_false (by omega))]]
      go_enter Try.func67, Try.ntmps67
      go_wp2
      refine bodyPost_ret (results_cell_tmp_row rfl _ _ (w.heap.size + 1 + 1) 81 #[.bool false, .int .i64 (0)] (0, 0) _ rfl (show Blk _ _ _ _ by repeat (first | (refine blk_top _ _ _ _ ?_; simp; done) | refine Blk.alloc ?_ _)) Try.underlying81 rfl info_way) rfl ?_
      exact ⟨rfl, (by (repeat (refine below_trans ?_ (alloc_below _ _))); exact Below.refl _ _)⟩
    · have p1 : a < 65536 := by simpa using hd1
      cases hd2 : decide (0 ≤ b)
      · have p2 : ¬ (0 ≤ b) := by simpa using hd2
        rw [show thenM s a t b = (false, (false, 0)) by unfold thenM; rw [if_neg (by rw [wayM_true (by omega) (by omega)]; decide), if_pos (wayM_false (by omega))]]
        go_enter Try.func67, Try.ntmps67
        go_wp2
        refine bodyPost_ret (results_cell_tmp_row rfl _ _ (w.heap.size + 1 + 1) 81 #[.bool false, .int .i64 (0)] (0, 0) _ rfl (show Blk _ _ _ _ by repeat (first | (refine blk_top _ _ _ _ ?_; simp; done) | refine Blk.alloc ?_ _)) Try.underlying81 rfl info_way) rfl ?_
        exact ⟨rfl, (by (repeat (refine below_trans ?_ (alloc_below _ _))); exact Below.refl _ _)⟩
      · have p2 : 0 ≤ b := by simpa using hd2
        cases hd3 : decide (b < 65536)
        · have p3 : ¬ (b < 65536) := by simpa using hd3
          rw [show thenM s a t b = (false, (false, 0)) by unfold thenM; rw [if_neg (by rw [wayM_true (by omega) (by omega)]; decide), if_pos (wayM_false (by omega))]]
          go_enter Try.func67, Try.ntmps67
          go_wp2
          refine bodyPost_ret (results_cell_tmp_row rfl _ _ (w.heap.size + 1 + 1) 81 #[.bool false, .int .i64 (0)] (0, 0) _ rfl (show Blk _ _ _ _ by repeat (first | (refine blk_top _ _ _ _ ?_; simp; done) | refine Blk.alloc ?_ _)) Try.underlying81 rfl info_way) rfl ?_
          exact ⟨rfl, (by (repeat (refine below_trans ?_ (alloc_below _ _))); exact Below.refl _ _)⟩
        · have p3 : b < 65536 := by simpa using hd3
          cases t
          case true =>
            rw [show thenM s a true b = (true, (true, b)) by unfold thenM; rw [if_neg (by rw [wayM_true (by omega) (by omega)]; decide), if_neg (by rw [wayM_true (by omega) (by omega)]; decide), if_pos rfl]]
            go_enter Try.func67, Try.ntmps67
            go_wp2
            refine bodyPost_ret (results_cell_tmp_row rfl _ _ (w.heap.size + 1 + 1) 81 #[.bool true, .int .i64 (b)] (0, 0) _ rfl (show Blk _ _ _ _ by repeat (first | (refine blk_top _ _ _ _ ?_; simp; done) | refine Blk.alloc ?_ _)) Try.underlying81 rfl info_way) rfl ?_
            exact ⟨rfl, (by (repeat (refine below_trans ?_ (alloc_below _ _))); exact Below.refl _ _)⟩
          case false =>
            have q0 : decide (0 ≤ a + b) = true := by simp; omega
            cases hq : decide (a + b < 65536)
            case false =>
              have q1 : ¬ a + b < 65536 := by simpa using hq
              rw [show thenM s a false b = (false, (false, 0)) by unfold thenM; rw [if_neg (by rw [wayM_true (by omega) (by omega)]; decide), if_neg (by rw [wayM_true (by omega) (by omega)]; decide), if_neg (by decide), if_pos (wayM_false (by omega))]]
              go_enter Try.func67, Try.ntmps67
              go_wp2
              refine bodyPost_ret (results_cell_tmp_row rfl _ _ (w.heap.size + 1 + 1) 81 #[.bool false, .int .i64 (0)] (0, 0) _ rfl (show Blk _ _ _ _ by repeat (first | (refine blk_top _ _ _ _ ?_; simp; done) | refine Blk.alloc ?_ _)) Try.underlying81 rfl info_way) rfl ?_
              exact ⟨rfl, (by (repeat (refine below_trans ?_ (alloc_below _ _))); exact Below.refl _ _)⟩
            case true =>
              have q1 : a + b < 65536 := by simpa using hq
              rw [show thenM s a false b = (true, (s, a + b)) by unfold thenM; rw [if_neg (by rw [wayM_true (by omega) (by omega)]; decide), if_neg (by rw [wayM_true (by omega) (by omega)]; decide), if_neg (by decide), if_neg (by rw [wayM_true (by omega) (by omega)]; decide)]]
              go_enter Try.func67, Try.ntmps67
              go_wp2
              refine bodyPost_ret (results_cell_tmp_row rfl _ _ (w.heap.size + 1 + 1) 81 #[.bool s, .int .i64 (a + b)] (0, 0) _ rfl (show Blk _ _ _ _ by repeat (first | (refine blk_top _ _ _ _ ?_; simp; done) | refine Blk.alloc ?_ _)) Try.underlying81 rfl info_way) rfl ?_
              exact ⟨rfl, (by (repeat (refine below_trans ?_ (alloc_below _ _))); exact Below.refl _ _)⟩
set_option maxRecDepth 100000 in
set_option maxHeartbeats 1000000 in
theorem rthen_any (s : Bool) (a : Int) (t : Bool) (b : Int) (w : World) :
    Calls Try.prog 68 #[.agg #[.bool s, .int .i64 a], .agg #[.bool t, .int .i64 b]] w fun en w' => en = .returned (.tuple #[.agg #[.bool (thenM s a t b).2.1, .int .i64 (thenM s a t b).2.2], .bool (thenM s a t b).1]) ∧ Below w.heap.size w w' := by
  cases hd0 : decide (0 ≤ a)
  · have p0 : ¬ (0 ≤ a) := by simpa using hd0
    rw [show thenM s a t b = (false, (false, 0)) by unfold thenM; rw [if_pos (wayM_false (by omega))]]
    go_enter Try.func68, Try.ntmps68
    go_wp2
    refine bodyPost_ret (results_cell_tmp_row rfl _ _ (w.heap.size + 1 + 1) 81 #[.bool false, .int .i64 (0)] (0, 0) _ rfl (show Blk _ _ _ _ by repeat (first | (refine blk_top _ _ _ _ ?_; simp; done) | refine Blk.alloc ?_ _)) Try.underlying81 rfl info_way) rfl ?_
    exact ⟨rfl, (by (repeat (refine below_trans ?_ (alloc_below _ _))); exact Below.refl _ _)⟩
  · have p0 : 0 ≤ a := by simpa using hd0
    cases hd1 : decide (a < 65536)
    · have p1 : ¬ (a < 65536) := by simpa using hd1
      rw [show thenM s a t b = (false, (false, 0)) by unfold thenM; rw [if_pos (wayM_false (by omega))]]
      go_enter Try.func68, Try.ntmps68
      go_wp2
      refine bodyPost_ret (results_cell_tmp_row rfl _ _ (w.heap.size + 1 + 1) 81 #[.bool false, .int .i64 (0)] (0, 0) _ rfl (show Blk _ _ _ _ by repeat (first | (refine blk_top _ _ _ _ ?_; simp; done) | refine Blk.alloc ?_ _)) Try.underlying81 rfl info_way) rfl ?_
      exact ⟨rfl, (by (repeat (refine below_trans ?_ (alloc_below _ _))); exact Below.refl _ _)⟩
    · have p1 : a < 65536 := by simpa using hd1
      cases hd2 : decide (0 ≤ b)
      · have p2 : ¬ (0 ≤ b) := by simpa using hd2
        rw [show thenM s a t b = (false, (false, 0)) by unfold thenM; rw [if_neg (by rw [wayM_true (by omega) (by omega)]; decide), if_pos (wayM_false (by omega))]]
        go_enter Try.func68, Try.ntmps68
        go_wp2
        refine bodyPost_ret (results_cell_tmp_row rfl _ _ (w.heap.size + 1 + 1) 81 #[.bool false, .int .i64 (0)] (0, 0) _ rfl (show Blk _ _ _ _ by repeat (first | (refine blk_top _ _ _ _ ?_; simp; done) | refine Blk.alloc ?_ _)) Try.underlying81 rfl info_way) rfl ?_
        exact ⟨rfl, (by (repeat (refine below_trans ?_ (alloc_below _ _))); exact Below.refl _ _)⟩
      · have p2 : 0 ≤ b := by simpa using hd2
        cases hd3 : decide (b < 65536)
        · have p3 : ¬ (b < 65536) := by simpa using hd3
          rw [show thenM s a t b = (false, (false, 0)) by unfold thenM; rw [if_neg (by rw [wayM_true (by omega) (by omega)]; decide), if_pos (wayM_false (by omega))]]
          go_enter Try.func68, Try.ntmps68
          go_wp2
          refine bodyPost_ret (results_cell_tmp_row rfl _ _ (w.heap.size + 1 + 1) 81 #[.bool false, .int .i64 (0)] (0, 0) _ rfl (show Blk _ _ _ _ by repeat (first | (refine blk_top _ _ _ _ ?_; simp; done) | refine Blk.alloc ?_ _)) Try.underlying81 rfl info_way) rfl ?_
          exact ⟨rfl, (by (repeat (refine below_trans ?_ (alloc_below _ _))); exact Below.refl _ _)⟩
        · have p3 : b < 65536 := by simpa using hd3
          cases t
          case true =>
            rw [show thenM s a true b = (true, (true, b)) by unfold thenM; rw [if_neg (by rw [wayM_true (by omega) (by omega)]; decide), if_neg (by rw [wayM_true (by omega) (by omega)]; decide), if_pos rfl]]
            go_enter Try.func68, Try.ntmps68
            go_wp2
            refine bodyPost_ret (results_cell_tmp_row rfl _ _ (w.heap.size + 1 + 1) 81 #[.bool true, .int .i64 (b)] (0, 0) _ rfl (show Blk _ _ _ _ by repeat (first | (refine blk_top _ _ _ _ ?_; simp; done) | refine Blk.alloc ?_ _)) Try.underlying81 rfl info_way) rfl ?_
            exact ⟨rfl, (by (repeat (refine below_trans ?_ (alloc_below _ _))); exact Below.refl _ _)⟩
          case false =>
            have q0 : decide (0 ≤ a + b) = true := by simp; omega
            cases hq : decide (a + b < 65536)
            case false =>
              have q1 : ¬ a + b < 65536 := by simpa using hq
              rw [show thenM s a false b = (false, (false, 0)) by unfold thenM; rw [if_neg (by rw [wayM_true (by omega) (by omega)]; decide), if_neg (by rw [wayM_true (by omega) (by omega)]; decide), if_neg (by decide), if_pos (wayM_false (by omega))]]
              go_enter Try.func68, Try.ntmps68
              go_wp2
              refine bodyPost_ret (results_cell_tmp_row rfl _ _ (w.heap.size + 1 + 1) 81 #[.bool false, .int .i64 (0)] (0, 0) _ rfl (show Blk _ _ _ _ by repeat (first | (refine blk_top _ _ _ _ ?_; simp; done) | refine Blk.alloc ?_ _)) Try.underlying81 rfl info_way) rfl ?_
              exact ⟨rfl, (by (repeat (refine below_trans ?_ (alloc_below _ _))); exact Below.refl _ _)⟩
            case true =>
              have q1 : a + b < 65536 := by simpa using hq
              rw [show thenM s a false b = (true, (s, a + b)) by unfold thenM; rw [if_neg (by rw [wayM_true (by omega) (by omega)]; decide), if_neg (by rw [wayM_true (by omega) (by omega)]; decide), if_neg (by decide), if_neg (by rw [wayM_true (by omega) (by omega)]; decide)]]
              go_enter Try.func68, Try.ntmps68
              go_wp2
              refine bodyPost_ret (results_cell_tmp_row rfl _ _ (w.heap.size + 1 + 1) 81 #[.bool s, .int .i64 (a + b)] (0, 0) _ rfl (show Blk _ _ _ _ by repeat (first | (refine blk_top _ _ _ _ ?_; simp; done) | refine Blk.alloc ?_ _)) Try.underlying81 rfl info_way) rfl ?_
              exact ⟨rfl, (by (repeat (refine below_trans ?_ (alloc_below _ _))); exact Below.refl _ _)⟩
end Go.Proofs.Ytibhofdblfgkbaa
