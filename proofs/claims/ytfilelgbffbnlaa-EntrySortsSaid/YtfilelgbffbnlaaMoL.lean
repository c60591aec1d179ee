/- What must come of every program lives (moment). -/
import Derived.Test.YtfilelgbffbnlaaMoE
namespace Go.Proofs.Ytfilelgbffbnlaa
open Go.RowKit Go.Sort

theorem load_mo_at (h off : Nat) (x y : Int) (w : World) (h0 : w.cell? ⟨h, off, none⟩ = some (.int .i64 x)) (h1 : w.cell? ⟨h, off + 1, none⟩ = some (.int .i64 y)) : (Instr.loadAt 56 (.pointer (some ⟨h, off, none⟩))).run Try.prog w = .ok (.agg #[.int .i64 x, .int .i64 y]) w := by
  go_simp
theorem below_drew0 {w0 w : World} {B : Nat} (h : Below B w0 w) : Below B w0 w.drew := ⟨h.os, h.tape, h.output, h.size, h.block⟩
theorem same_len {a b : List (Int × Int)} (h : a.length ≠ b.length) : (a == b) = false := by
  rw [beq_eq_false_iff_ne]; intro e; exact h (by rw [e])
set_option maxRecDepth 100000 in
set_option maxHeartbeats 1000000 in
theorem rcovers_any (A : Option Addr) (h : Nat) (l : List (Int × Int)) (c : Nat) (a b : Int) (w : World) (hl : SlP w h A l) (la : l.length ≤ 9223372036854775807) :
    Calls Try.prog 101 #[.slice A l.length c, .agg #[.int .i64 a, .int .i64 b]] w fun e w' => e = .returned (.bool (l.any fun x => aheadM x (a, b))) ∧ Below w.heap.size w w' := by
  have HL := Lib.hid hl
  have HB0 := Lib.hid (alloc_below w (.cells #[.int .i64 a, .int .i64 b] 56))
  have KB := Lib.hid (Blk.new w 56 #[.int .i64 a, .int .i64 b])
  clear hl
  go_enter Try.func101, Try.ntmps101
  go_wp2_with fail
  go_loopw [5] (fun i wr => ∃ k : Nat, k ≤ l.length ∧ i = .int .i64 (k : Int) ∧ (∀ x ∈ l.take k, aheadM x (a, b) = false) ∧ Below (w.heap.size + 1) (w.alloc (.cells #[.int .i64 a, .int .i64 b] 56)) wr) (fun i _ => l.length - (intOf i).toNat)
  case atStart => exact ⟨0, Nat.zero_le _, rfl, by simp, Below.refl _ _⟩
  case round =>
    obtain ⟨k, hk, rfl, hall, hbw⟩ := hrel
    have HALL := Lib.hid hall
    have BW := Lib.hid hbw
    have BF := Lib.hid (HB0.out.trans (hbw.mono (Nat.le_succ _)))
    clear hall hbw
    by_cases hlt : k < l.length
    · have hea := List.getElem?_eq_getElem hlt
      obtain ⟨-, o1, rfl, p0, p1⟩ := (HL.out.below BF.out).at_ hea
      have k0 : wr.cell? ⟨w.heap.size, 0, none⟩ = some (.int .i64 a) := (BW.out.cell (p := ⟨w.heap.size, 0, none⟩) (Nat.lt_succ_self _)).trans (KB.out.cell 0)
      have k1 : wr.cell? ⟨w.heap.size, 1, none⟩ = some (.int .i64 b) := (BW.out.cell (p := ⟨w.heap.size, 1, none⟩) (Nat.lt_succ_self _)).trans (KB.out.cell 1)
      have EA := Lib.hid hea
      clear hea
      obtain ⟨x, hx⟩ : ∃ x, l[k] = x := ⟨_, rfl⟩
      rw [hx] at p0 p1
      have EX := Lib.hid hx
      clear hx
      obtain ⟨x1, x2⟩ := x
      simp only at p0 p1
      have P := Lib.hid (fun W => rahead_any x1 x2 a b W)
      go_wp2_with fail
      refine wp_region_R (R := RB) (n := 6) (by kernel_rfl) rfl ?_
      refine batchB [0, 1, 2, 3, 4] (fuel := 1) rfl (by kernel_rfl) (by kernel_rfl) (fun _ _ d _ _ h => by cases d <;> exact h) ?_
      repeat (first | ((with_reducible apply wq0); rfl; rfl; rfl; intro K hK; go_big_quiet_op; refine hK _ ?_; clear hK K) | ((with_reducible apply wq1); rfl; rfl; rfl; rfl; rfl; rfl; intro K hK; go_big_quiet_op; refine hK _ ?_; clear hK K) | ((with_reducible apply wqs); rfl; rfl; rfl; rfl; rfl; rfl; simp only [Act.put, List.setIfInBounds_toArray, List.set_cons_zero, List.set_cons_succ]) | ((with_reducible apply wqu); rfl; rfl; rfl; rfl; rfl; simp only [same]))
      refine wqIdx_load rfl rfl rfl rfl (fun W hW => load_mo_at _ _ x1 x2 W (keep_cell hW p0) (keep_cell hW p1)) ?_
      simp only [Act.put, List.setIfInBounds_toArray, List.set_cons_zero, List.set_cons_succ]
      refine wqIdx_load rfl rfl rfl rfl (fun W hW => load_mo_at _ _ a b W (keep_cell hW k0) (keep_cell hW k1)) ?_
      simp only [Act.put, List.setIfInBounds_toArray, List.set_cons_zero, List.set_cons_succ]
      refine wqIdx_nil ?_
      refine wpAnyR_sole (i := 5) rfl (by kernel_rfl) (fun K hK => ?_)
      go_simp
      refine (P.out _).mono ?_; rintro e w2 ⟨rfl, b2⟩
      refine hK _ _ b2 ?_
      clear hK K
      have B2 := Lib.hid (Below.of_drew0 b2)
      refine wpAnyR_done (by kernel_rfl) ?_ _
      cases hr : aheadM (x1, x2) (a, b)
      · go_wp2
        refine ⟨⟨k + 1, by omega, by go_num, fun y hy => ?_, BW.out.trans (B2.out.mono (by have := BW.out.size; rw [World.size_alloc] at this; exact this))⟩, by simp [intOf]; omega⟩
        rw [List.take_add_one, EA.out, List.mem_append] at hy
        rcases hy with hy | hy
        · exact HALL.out y hy
        · rw [show y = (x1, x2) by rw [EX.out] at hy; simpa using hy]
          exact hr
      · go_wp2
        go_ret
        refine ⟨ret_bool' ?_, BF.out.trans (B2.out.mono BF.out.size)⟩
        rw [eq_comm, List.any_eq_true]
        exact ⟨(x1, x2), by rw [← EX.out]; exact List.getElem_mem _, hr⟩
    · obtain rfl : k = l.length := by omega
      go_wp2
      go_ret
      refine ⟨ret_bool' ?_, BF.out⟩
      have h1 := HALL.out
      rw [List.take_length] at h1
      rw [eq_comm, List.any_eq_false]
      intro x hx
      rw [h1 x hx]
      decide
end Go.Proofs.Ytfilelgbffbnlaa
