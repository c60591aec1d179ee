/- Contracts of package moment: ways. -/
import Derived.Test.YtibhofdblfgkbaaMoB
namespace Go.Proofs.Ytibhofdblfgkbaa
open Go.RowKit

theorem blk_top (w : World) (cs : Array Value) (t : TypeId) (g : Nat) (hg : w.heap.size = g) : Blk (w.alloc (.cells cs t)) g t cs := by rw [← hg]; exact Blk.new w t cs
def walkM (s : Bool) (a e r : Int) : (Int × Int) × Int :=
  if wayM a = false then ((0, 0), 1) else if okMo (e, r) = false then ((0, 0), 40) else if okMo (e, if s then a else a + r) = false then ((0, 0), 40) else ((e, if s then a else a + r), 0)
theorem ret_walk {m m' : Int × Int} {x y : Int} {z : (Int × Int) × Int} (h : ((m.1, m.2), x) = z) (hm : m = m') (hx : x = y) : Ending.returned (.tuple #[.agg #[.int .i64 m'.1, .int .i64 m'.2], .int .i64 y]) = .returned (.tuple #[.agg #[.int .i64 z.1.1, .int .i64 z.1.2], .int .i64 z.2]) := by
  subst hm hx h
  rfl
theorem okMo_true {e r : Int} (h1 : ¬ e < 0) (h2 : ¬ 65536 ≤ e) (h3 : ¬ r < 0) (h4 : ¬ 65536 ≤ r) : okMo (e, r) = true := by
  unfold okMo; simp; omega
theorem okMo_false {e r : Int} (h : e < 0 ∨ 65536 ≤ e ∨ r < 0 ∨ 65536 ≤ r) : okMo (e, r) = false := by
  rw [Bool.eq_false_iff]; unfold okMo; simp; omega
theorem wayM_true {a : Int} (h1 : 0 ≤ a) (h2 : a < 65536) : wayM a = true := by unfold wayM; simp; omega
theorem wayM_false {a : Int} (h : ¬ 0 ≤ a ∨ ¬ a < 65536) : wayM a = false := by rw [Bool.eq_false_iff]; unfold wayM; simp; omega
set_option maxRecDepth 100000 in
set_option maxHeartbeats 400000 in
theorem passable_any (s : Bool) (a : Int) (w : World) :
    Calls Try.prog 99 #[.agg #[.bool s, .int .i64 a]] w fun e w' => e = .returned (.bool (wayM a)) ∧ Below w.heap.size w w' := by
  cases hd0 : decide (0 ≤ a)
  · go_enter Try.func99, Try.ntmps99
    go_wp2
    go_ret
    exact ⟨ret_bool' (by unfold wayM; simp_all only [Bool.false_and]), alloc_below w _⟩
  · cases hd1 : decide (a < 65536)
    · go_enter Try.func99, Try.ntmps99
      go_wp2
      go_ret
      exact ⟨ret_bool' (by unfold wayM; simp_all only [Bool.and_false]), alloc_below w _⟩
    · go_enter Try.func99, Try.ntmps99
      go_wp2
      go_ret
      exact ⟨ret_bool' (by unfold wayM; simp_all only [Bool.and_self]), alloc_below w _⟩
set_option maxRecDepth 100000 in
set_option maxHeartbeats 400000 in
theorem way_any (s : Bool) (a : Int) (w : World) :
    Calls Try.prog 100 #[.agg #[.bool s, .int .i64 a]] w fun e w' => e = .returned (.bool (wayM a)) ∧ Below w.heap.size w w' := by
  cases hd0 : decide (0 ≤ a)
  · go_enter Try.func100, Try.ntmps100
    go_wp2
    go_ret
    exact ⟨ret_bool' (by unfold wayM; simp_all only [Bool.false_and]), alloc_below w _⟩
  · cases hd1 : decide (a < 65536)
    · go_enter Try.func100, Try.ntmps100
      go_wp2
      go_ret
      exact ⟨ret_bool' (by unfold wayM; simp_all only [Bool.and_false]), alloc_below w _⟩
    · go_enter Try.func100, Try.ntmps100
      go_wp2
      go_ret
      exact ⟨ret_bool' (by unfold wayM; simp_all only [Bool.and_self]), alloc_below w _⟩
set_option maxRecDepth 100000 in
set_option maxHeartbeats 1000000 in
theorem walk_any (s : Bool) (a e r : Int) (w : World) :
    Calls Try.prog 65 #[.agg #[.bool s, .int .i64 a], .agg #[.int .i64 e, .int .i64 r]] w fun en w' => en = .returned (.tuple #[.agg #[.int .i64 (walkM s a e r).1.1, .int .i64 (walkM s a e r).1.2], .int .i64 (walkM s a e r).2]) ∧ Below w.heap.size w w' := by
  cases hd0 : decide (0 ≤ a)
  · have p0 : ¬ (0 ≤ a) := by simpa using hd0
    rw [show walkM s a e r = ((0, 0), 1) by unfold walkM; rw [if_pos (wayM_false (by omega))]]
    go_enter Try.func65, Try.ntmps65
    go_wp2
    refine bodyPost_ret (results_cell_tmp_row rfl _ _ (w.heap.size + 1 + 1) 65 #[.int .i64 (0), .int .i64 (0)] (0, 0) _ rfl (show Blk _ _ _ _ by repeat (first | (refine blk_top _ _ _ _ ?_; simp; done) | refine Blk.alloc ?_ _)) Try.underlying65 rfl info_mo) rfl ?_
    exact ⟨rfl, (by (repeat (refine below_trans ?_ (alloc_below _ _))); exact Below.refl _ _)⟩
  · have p0 : 0 ≤ a := by simpa using hd0
    cases hd1 : decide (a < 65536)
    · have p1 : ¬ (a < 65536) := by simpa using hd1
      rw [show walkM s a e r = ((0, 0), 1) by unfold walkM; rw [if_pos (wayM_false (by omega))]]
      go_enter Try.func65, Try.ntmps65
      go_wp2
      refine bodyPost_ret (results_cell_tmp_row rfl _ _ (w.heap.size + 1 + 1) 65 #[.int .i64 (0), .int .i64 (0)] (0, 0) _ rfl (show Blk _ _ _ _ by repeat (first | (refine blk_top _ _ _ _ ?_; simp; done) | refine Blk.alloc ?_ _)) Try.underlying65 rfl info_mo) rfl ?_
      exact ⟨rfl, (by (repeat (refine below_trans ?_ (alloc_below _ _))); exact Below.refl _ _)⟩
    · have p1 : a < 65536 := by simpa using hd1
      cases hd2 : decide (e < 0)
      case true =>
        have p2 : e < 0 := by simpa using hd2
        rw [show walkM s a e r = ((0, 0), 40) by unfold walkM; rw [if_neg (by rw [wayM_true (by omega) (by omega)]; decide), if_pos (okMo_false (by omega))]]
        go_enter Try.func65, Try.ntmps65
        go_wp2
        refine bodyPost_ret (results_cell_tmp_row rfl _ _ (w.heap.size + 1 + 1) 65 #[.int .i64 (0), .int .i64 (0)] (0, 0) _ rfl (show Blk _ _ _ _ by repeat (first | (refine blk_top _ _ _ _ ?_; simp; done) | refine Blk.alloc ?_ _)) Try.underlying65 rfl info_mo) rfl ?_
        exact ⟨rfl, (by (repeat (refine below_trans ?_ (alloc_below _ _))); exact Below.refl _ _)⟩
      case false =>
        have p2 : ¬ (e < 0) := by simpa using hd2
        cases hd3 : decide (65536 ≤ e)
        case true =>
          have p3 : 65536 ≤ e := by simpa using hd3
          rw [show walkM s a e r = ((0, 0), 40) by unfold walkM; rw [if_neg (by rw [wayM_true (by omega) (by omega)]; decide), if_pos (okMo_false (by omega))]]
          go_enter Try.func65, Try.ntmps65
          go_wp2
          refine bodyPost_ret (results_cell_tmp_row rfl _ _ (w.heap.size + 1 + 1) 65 #[.int .i64 (0), .int .i64 (0)] (0, 0) _ rfl (show Blk _ _ _ _ by repeat (first | (refine blk_top _ _ _ _ ?_; simp; done) | refine Blk.alloc ?_ _)) Try.underlying65 rfl info_mo) rfl ?_
          exact ⟨rfl, (by (repeat (refine below_trans ?_ (alloc_below _ _))); exact Below.refl _ _)⟩
        case false =>
          have p3 : ¬ (65536 ≤ e) := by simpa using hd3
          cases hd4 : decide (r < 0)
          case true =>
            have p4 : r < 0 := by simpa using hd4
            rw [show walkM s a e r = ((0, 0), 40) by unfold walkM; rw [if_neg (by rw [wayM_true (by omega) (by omega)]; decide), if_pos (okMo_false (by omega))]]
            go_enter Try.func65, Try.ntmps65
            go_wp2
            refine bodyPost_ret (results_cell_tmp_row rfl _ _ (w.heap.size + 1 + 1) 65 #[.int .i64 (0), .int .i64 (0)] (0, 0) _ rfl (show Blk _ _ _ _ by repeat (first | (refine blk_top _ _ _ _ ?_; simp; done) | refine Blk.alloc ?_ _)) Try.underlying65 rfl info_mo) rfl ?_
            exact ⟨rfl, (by (repeat (refine below_trans ?_ (alloc_below _ _))); exact Below.refl _ _)⟩
          case false =>
            have p4 : ¬ (r < 0) := by simpa using hd4
            cases hd5 : decide (65536 ≤ r)
            case true =>
              have p5 : 65536 ≤ r := by simpa using hd5
              rw [show walkM s a e r = ((0, 0), 40) by unfold walkM; rw [if_neg (by rw [wayM_true (by omega) (by omega)]; decide), if_pos (okMo_false (by omega))]]
              go_enter Try.func65, Try.ntmps65
              go_wp2
              refine bodyPost_ret (results_cell_tmp_row rfl _ _ (w.heap.size + 1 + 1) 65 #[.int .i64 (0), .int .i64 (0)] (0, 0) _ rfl (show Blk _ _ _ _ by repeat (first | (refine blk_top _ _ _ _ ?_; simp; done) | refine Blk.alloc ?_ _)) Try.underlying65 rfl info_mo) rfl ?_
              exact ⟨rfl, (by (repeat (refine below_trans ?_ (alloc_below _ _))); exact Below.refl _ _)⟩
            case false =>
              have p5 : ¬ (65536 ≤ r) := by simpa using hd5
              cases s
              case false =>
                have q0 : decide (a + r < 0) = false := by simp; omega
                cases hq : decide (65536 ≤ a + r)
                case true =>
                  have q1 : 65536 ≤ a + r := by simpa using hq
                  rw [show walkM false a e r = ((0, 0), 40) by unfold walkM; rw [if_neg (by rw [wayM_true (by omega) (by omega)]; decide), if_neg (by rw [okMo_true (by omega) (by omega) (by omega) (by omega)]; decide), if_pos (okMo_false (by simp; omega))]]
                  go_enter Try.func65, Try.ntmps65
                  go_wp2
                  refine bodyPost_ret (results_cell_tmp_row rfl _ _ (w.heap.size + 1 + 1) 65 #[.int .i64 (0), .int .i64 (0)] (0, 0) _ rfl (show Blk _ _ _ _ by repeat (first | (refine blk_top _ _ _ _ ?_; simp; done) | refine Blk.alloc ?_ _)) Try.underlying65 rfl info_mo) rfl ?_
                  exact ⟨rfl, (by (repeat (refine below_trans ?_ (alloc_below _ _))); exact Below.refl _ _)⟩
                case false =>
                  have q1 : ¬ 65536 ≤ a + r := by simpa using hq
                  rw [show walkM false a e r = ((e, a + r), 0) by unfold walkM; rw [if_neg (by rw [wayM_true (by omega) (by omega)]; decide), if_neg (by rw [okMo_true (by omega) (by omega) (by omega) (by omega)]; decide), if_neg (by rw [okMo_true (by omega) (by omega) (by simp; omega) (by simp; omega)]; decide)]; simp]
                  go_enter Try.func65, Try.ntmps65
                  go_wp2
                  refine bodyPost_ret (results_cell_tmp_row rfl _ _ (w.heap.size + 1 + 1) 65 #[.int .i64 (e), .int .i64 (a + r)] (0, 0) _ rfl (show Blk _ _ _ _ by repeat (first | (refine blk_top _ _ _ _ ?_; simp; done) | refine Blk.alloc ?_ _)) Try.underlying65 rfl info_mo) rfl ?_
                  exact ⟨rfl, (by (repeat (refine below_trans ?_ (alloc_below _ _))); exact Below.refl _ _)⟩
              case true =>
                have q0 : decide (a < 0) = false := by simp; omega
                have q1 : decide (65536 ≤ a) = false := by simp; omega
                rw [show walkM true a e r = ((e, a), 0) by unfold walkM; rw [if_neg (by rw [wayM_true (by omega) (by omega)]; decide), if_neg (by rw [okMo_true (by omega) (by omega) (by omega) (by omega)]; decide), if_neg (by rw [okMo_true (by omega) (by omega) (by simp; omega) (by simp; omega)]; decide)]; rfl]
                go_enter Try.func65, Try.ntmps65
                go_wp2
                refine bodyPost_ret (results_cell_tmp_row rfl _ _ (w.heap.size + 1 + 1) 65 #[.int .i64 (e), .int .i64 (a)] (0, 0) _ rfl (show Blk _ _ _ _ by repeat (first | (refine blk_top _ _ _ _ ?_; simp; done) | refine Blk.alloc ?_ _)) Try.underlying65 rfl info_mo) rfl ?_
                exact ⟨rfl, (by (repeat (refine below_trans ?_ (alloc_below _ _))); exact Below.refl _ _)⟩
set_option maxRecDepth 100000 in
set_option maxHeartbeats 1000000 in
theorem rwalk_any (s : Bool) (a e r : Int) (w : World) :
    Calls Try.prog 66 #[.agg #[.bool s, .int .i64 a], .agg #[.int .i64 e, .int .i64 r]] w fun en w' => en = .returned (.tuple #[.agg #[.int .i64 (walkM s a e r).1.1, .int .i64 (walkM s a e r).1.2], .int .i64 (walkM s a e r).2]) ∧ Below w.heap.size w w' := by
  cases hd0 : decide (0 ≤ a)
  · have p0 : ¬ (0 ≤ a) := by simpa using hd0
    rw [show walkM s a e r = ((0, 0), 1) by unfold walkM; rw [if_pos (wayM_false (by omega))]]
    go_enter Try.func66, Try.ntmps66
    go_wp2
    refine bodyPost_ret (results_cell_tmp_row rfl _ _ (w.heap.size + 1 + 1) 65 #[.int .i64 (0), .int .i64 (0)] (0, 0) _ rfl (show Blk _ _ _ _ by repeat (first | (refine blk_top _ _ _ _ ?_; simp; done) | refine Blk.alloc ?_ _)) Try.underlying65 rfl info_mo) rfl ?_
    exact ⟨rfl, (by (repeat (refine below_trans ?_ (alloc_below _ _))); exact Below.refl _ _)⟩
  · have p0 : 0 ≤ a := by simpa using hd0
    cases hd1 : decide (a < 65536)
    · have p1 : ¬ (a < 65536) := by simpa using hd1
      rw [show walkM s a e r = ((0, 0), 1) by unfold walkM; rw [if_pos (wayM_false (by omega))]]
      go_enter Try.func66, Try.ntmps66
      go_wp2
      refine bodyPost_ret (results_cell_tmp_row rfl _ _ (w.heap.size + 1 + 1) 65 #[.int .i64 (0), .int .i64 (0)] (0, 0) _ rfl (show Blk _ _ _ _ by repeat (first | (refine blk_top _ _ _ _ ?_; simp; done) | refine Blk.alloc ?_ _)) Try.underlying65 rfl info_mo) rfl ?_
      exact ⟨rfl, (by (repeat (refine below_trans ?_ (alloc_below _ _))); exact Below.refl _ _)⟩
    · have p1 : a < 65536 := by simpa using hd1
      cases hd2 : decide (0 ≤ e)
      · have p2 : ¬ (0 ≤ e) := by simpa using hd2
        rw [show walkM s a e r = ((0, 0), 40) by unfold walkM; rw [if_neg (by rw [wayM_true (by omega) (by omega)]; decide), if_pos (okMo_false (by omega))]]
        go_enter Try.func66, Try.ntmps66
        go_wp2
        refine bodyPost_ret (results_cell_tmp_row rfl _ _ (w.heap.size + 1 + 1) 65 #[.int .i64 (0), .int .i64 (0)] (0, 0) _ rfl (show Blk _ _ _ _ by repeat (first | (refine blk_top _ _ _ _ ?_; simp; done) | refine Blk.alloc ?_ _)) Try.underlying65 rfl info_mo) rfl ?_
        exact ⟨rfl, (by (repeat (refine below_trans ?_ (alloc_below _ _))); exact Below.refl _ _)⟩
      · have p2 : 0 ≤ e := by simpa using hd2
        cases hd3 : decide (e < 65536)
        · have p3 : ¬ (e < 65536) := by simpa using hd3
          rw [show walkM s a e r = ((0, 0), 40) by unfold walkM; rw [if_neg (by rw [wayM_true (by omega) (by omega)]; decide), if_pos (okMo_false (by omega))]]
          go_enter Try.func66, Try.ntmps66
          go_wp2
          refine bodyPost_ret (results_cell_tmp_row rfl _ _ (w.heap.size + 1 + 1) 65 #[.int .i64 (0), .int .i64 (0)] (0, 0) _ rfl (show Blk _ _ _ _ by repeat (first | (refine blk_top _ _ _ _ ?_; simp; done) | refine Blk.alloc ?_ _)) Try.underlying65 rfl info_mo) rfl ?_
          exact ⟨rfl, (by (repeat (refine below_trans ?_ (alloc_below _ _))); exact Below.refl _ _)⟩
        · have p3 : e < 65536 := by simpa using hd3
          cases hd4 : decide (0 ≤ r)
          · have p4 : ¬ (0 ≤ r) := by simpa using hd4
            rw [show walkM s a e r = ((0, 0), 40) by unfold walkM; rw [if_neg (by rw [wayM_true (by omega) (by omega)]; decide), if_pos (okMo_false (by omega))]]
            go_enter Try.func66, Try.ntmps66
            go_wp2
            refine bodyPost_ret (results_cell_tmp_row rfl _ _ (w.heap.size + 1 + 1) 65 #[.int .i64 (0), .int .i64 (0)] (0, 0) _ rfl (show Blk _ _ _ _ by repeat (first | (refine blk_top _ _ _ _ ?_; simp; done) | refine Blk.alloc ?_ _)) Try.underlying65 rfl info_mo) rfl ?_
            exact ⟨rfl, (by (repeat (refine below_trans ?_ (alloc_below _ _))); exact Below.refl _ _)⟩
          · have p4 : 0 ≤ r := by simpa using hd4
            cases hd5 : decide (r < 65536)
            · have p5 : ¬ (r < 65536) := by simpa using hd5
              rw [show walkM s a e r = ((0, 0), 40) by unfold walkM; rw [if_neg (by rw [wayM_true (by omega) (by omega)]; decide), if_pos (okMo_false (by omega))]]
              go_enter Try.func66, Try.ntmps66
              go_wp2
              refine bodyPost_ret (results_cell_tmp_row rfl _ _ (w.heap.size + 1 + 1) 65 #[.int .i64 (0), .int .i64 (0)] (0, 0) _ rfl (show Blk _ _ _ _ by repeat (first | (refine blk_top _ _ _ _ ?_; simp; done) | refine Blk.alloc ?_ _)) Try.underlying65 rfl info_mo) rfl ?_
              exact ⟨rfl, (by (repeat (refine below_trans ?_ (alloc_below _ _))); exact Below.refl _ _)⟩
            · have p5 : r < 65536 := by simpa using hd5
              cases s
              case false =>
                have q0 : decide (0 ≤ r + a) = true := by simp; omega
                cases hq : decide (r + a < 65536)
                case false =>
                  have q1 : ¬ r + a < 65536 := by simpa using hq
                  rw [show walkM false a e r = ((0, 0), 40) by unfold walkM; rw [if_neg (by rw [wayM_true (by omega) (by omega)]; decide), if_neg (by rw [okMo_true (by omega) (by omega) (by omega) (by omega)]; decide), if_pos (okMo_false (by simp; omega))]]
                  go_enter Try.func66, Try.ntmps66
                  go_wp2
                  refine bodyPost_ret (results_cell_tmp_row rfl _ _ (w.heap.size + 1 + 1) 65 #[.int .i64 (0), .int .i64 (0)] (0, 0) _ rfl (show Blk _ _ _ _ by repeat (first | (refine blk_top _ _ _ _ ?_; simp; done) | refine Blk.alloc ?_ _)) Try.underlying65 rfl info_mo) rfl ?_
                  exact ⟨rfl, (by (repeat (refine below_trans ?_ (alloc_below _ _))); exact Below.refl _ _)⟩
                case true =>
                  have q1 : r + a < 65536 := by simpa using hq
                  rw [show walkM false a e r = ((e, r + a), 0) by unfold walkM; rw [if_neg (by rw [wayM_true (by omega) (by omega)]; decide), if_neg (by rw [okMo_true (by omega) (by omega) (by omega) (by omega)]; decide), if_neg (by rw [okMo_true (by omega) (by omega) (by simp; omega) (by simp; omega)]; decide)]; simp [Int.add_comm]]
                  go_enter Try.func66, Try.ntmps66
                  go_wp2
                  refine bodyPost_ret (results_cell_tmp_row rfl _ _ (w.heap.size + 1 + 1) 65 #[.int .i64 (e), .int .i64 (r + a)] (0, 0) _ rfl (show Blk _ _ _ _ by repeat (first | (refine blk_top _ _ _ _ ?_; simp; done) | refine Blk.alloc ?_ _)) Try.underlying65 rfl info_mo) rfl ?_
                  exact ⟨rfl, (by (repeat (refine below_trans ?_ (alloc_below _ _))); exact Below.refl _ _)⟩
              case true =>
                rw [show walkM true a e r = ((e, a), 0) by unfold walkM; rw [if_neg (by rw [wayM_true (by omega) (by omega)]; decide), if_neg (by rw [okMo_true (by omega) (by omega) (by omega) (by omega)]; decide), if_neg (by rw [okMo_true (by omega) (by omega) (by simp; omega) (by simp; omega)]; decide)]; rfl]
                go_enter Try.func66, Try.ntmps66
                go_wp2
                refine bodyPost_ret (results_cell_tmp_row rfl _ _ (w.heap.size + 1 + 1) 65 #[.int .i64 (e), .int .i64 (a)] (0, 0) _ rfl (show Blk _ _ _ _ by repeat (first | (refine blk_top _ _ _ _ ?_; simp; done) | refine Blk.alloc ?_ _)) Try.underlying65 rfl info_mo) rfl ?_
                exact ⟨rfl, (by (repeat (refine below_trans ?_ (alloc_below _ _))); exact Below.refl _ _)⟩
end Go.Proofs.Ytibhofdblfgkbaa
