/- What must come of every program lives (moment). -/
import Derived.Test.YtodfpdmmbmbinaaMoE
namespace Go.Proofs.Ytodfpdmmbmbinaa
open Go.RowKit Go.Sort

theorem load_mo_at (h off : Nat) (x y : Int) (w : World) (h0 : w.cell? ⟨h, off, none⟩ = some (.int .i64 x)) (h1 : w.cell? ⟨h, off + 1, none⟩ = some (.int .i64 y)) : (Instr.loadAt 61 (.pointer (some ⟨h, off, none⟩))).run Try.prog w = .ok (.agg #[.int .i64 x, .int .i64 y]) w := by
  go_simp
theorem below_drew0 {w0 w : World} {B : Nat} (h : Below B w0 w) : Below B w0 w.drew := ⟨h.os, h.tape, h.output, h.size, h.block⟩
theorem same_len {a b : List (Int × Int)} (h : a.length ≠ b.length) : (a == b) = false := by
  rw [beq_eq_false_iff_ne]; intro e; exact h (by rw [e])
set_option maxRecDepth 100000 in
set_option maxHeartbeats 1000000 in
theorem rsame_any (A B : Option Addr) (h g : Nat) (a b : List (Int × Int)) (c d : Nat) (w : World) (ha : SlP w h A a) (hb : SlP w g B b) (la : a.length ≤ 100000) (_lb : b.length ≤ 100000) :
    Calls Try.prog 39 #[.slice A a.length c, .slice B b.length d] w fun e w' => e = .returned (.bool (a == b)) ∧ Below w.heap.size w w' := by
  by_cases hl : a.length = b.length
  · have HA := Lib.hid ha
    have HB := Lib.hid hb
    have HL := Lib.hid hl
    rw [← hl]
    clear ha hb hl _lb
    go_enter Try.func39, Try.ntmps39
    go_wp2_with fail
    go_loopw [5] (fun i wr => ∃ k : Nat, k ≤ a.length ∧ i = .int .i64 (k : Int) ∧ (∀ j, j < k → a[j]? = b[j]?) ∧ Below w.heap.size w wr) (fun i _ => a.length - (intOf i).toNat)
    case atStart => exact ⟨0, Nat.zero_le _, rfl, fun j hj => absurd hj (Nat.not_lt_zero _), Below.refl _ _⟩
    case round =>
      obtain ⟨k, hk, rfl, hall, hbw⟩ := hrel
      have HALL := Lib.hid hall
      have BW := Lib.hid hbw
      clear hall hbw
      by_cases hlt : k < a.length
      · have hea := List.getElem?_eq_getElem hlt
        have heb := List.getElem?_eq_getElem (show k < b.length by rw [← HL.out]; exact hlt)
        obtain ⟨-, o1, rfl, p0, p1⟩ := (HA.out.below BW.out).at_ hea
        obtain ⟨-, o2, rfl, q0, q1⟩ := (HB.out.below BW.out).at_ heb
        have p0' : wr.drew.cell? ⟨h, o1 + k * 2, none⟩ = _ := p0
        have p1' : wr.drew.cell? ⟨h, o1 + k * 2 + 1, none⟩ = _ := p1
        have q0' : wr.drew.cell? ⟨g, o2 + k * 2, none⟩ = _ := q0
        have q1' : wr.drew.cell? ⟨g, o2 + k * 2 + 1, none⟩ = _ := q1
        have EA := Lib.hid hea
        have EB := Lib.hid heb
        clear p0 p1 q0 q1 hea heb
        obtain ⟨x, hx⟩ : ∃ x, a[k] = x := ⟨_, rfl⟩
        obtain ⟨y, hy⟩ : ∃ y, b[k]'(by rw [← HL.out]; exact hlt) = y := ⟨_, rfl⟩
        rw [hx] at p0' p1'
        rw [hy] at q0' q1'
        have EX := Lib.hid hx
        have EY := Lib.hid hy
        obtain ⟨x1, x2⟩ := x
        obtain ⟨y1, y2⟩ := y
        simp only at p0' p1' q0' q1'
        clear hx hy
        by_cases e1 : x1 = y1
        · by_cases e2 : x2 = y2
          · have EQ := Lib.hid (show (x1, x2) = (y1, y2) by rw [e1, e2])
            subst e1 e2
            go_wp2_with fail
            go_region
            go_wp2
            refine ⟨⟨k + 1, by omega, by go_num, fun j hj => ?_, below_drew0 BW.out⟩, by simp [intOf]; omega⟩
            by_cases hjk : j = k
            · subst hjk
              rw [EA.out, EB.out, EX.out, EY.out]
            · exact HALL.out j (by omega)
          · have d2 : (x2 == y2) = false := by simpa using e2
            subst e1
            go_wp2_with fail
            go_region
            go_wp2
            go_ret
            refine ⟨ret_bool' ?_, below_drew0 BW.out⟩
            rw [eq_comm, beq_eq_false_iff_ne]
            intro e
            have h1 : a[k]? = some (x1, x2) := by rw [EA.out, EX.out]
            have h2 : b[k]? = some (x1, y2) := by rw [EB.out, EY.out]
            rw [e, h2] at h1
            injection h1 with h1
            injection h1 with h1 h2
            exact e2 h2.symm
        · have d1 : (x1 == y1) = false := by simpa using e1
          go_wp2_with fail
          go_region
          go_wp2
          go_ret
          refine ⟨ret_bool' ?_, below_drew0 BW.out⟩
          rw [eq_comm, beq_eq_false_iff_ne]
          intro e
          have h1 : a[k]? = some (x1, x2) := by rw [EA.out, EX.out]
          have h2 : b[k]? = some (y1, y2) := by rw [EB.out, EY.out]
          rw [e, h2] at h1
          injection h1 with h1
          injection h1 with h1 h2
          exact e1 h1.symm
      · obtain rfl : k = a.length := by omega
        go_wp2
        go_ret
        refine ⟨ret_bool' ?_, BW.out⟩
        rw [eq_comm, beq_iff_eq]
        refine List.ext_getElem? fun j => ?_
        by_cases hj : j < a.length
        · exact HALL.out j hj
        · rw [List.getElem?_eq_none (by omega), List.getElem?_eq_none (by rw [← HL.out]; omega)]
  · rw [same_len hl]
    have d1 : ((a.length : Int) == (b.length : Int)) = false := by simp; omega
    clear ha hb hl
    go_enter Try.func39, Try.ntmps39
    go_wp2
    go_ret
    exact ⟨rfl, Below.refl _ _⟩
set_option maxRecDepth 100000 in
set_option maxHeartbeats 1000000 in
theorem rcovers_any (A : Option Addr) (h : Nat) (l : List (Int × Int)) (c : Nat) (a b : Int) (w : World) (hl : SlP w h A l) (la : l.length ≤ 9223372036854775807) :
    Calls Try.prog 112 #[.slice A l.length c, .agg #[.int .i64 a, .int .i64 b]] w fun e w' => e = .returned (.bool (l.any fun x => aheadM x (a, b))) ∧ Below w.heap.size w w' := by
  have HL := Lib.hid hl
  have HB0 := Lib.hid (alloc_below w (.cells #[.int .i64 a, .int .i64 b] 61))
  have KB := Lib.hid (Blk.new w 61 #[.int .i64 a, .int .i64 b])
  clear hl
  go_enter Try.func112, Try.ntmps112
  go_wp2_with fail
  go_loopw [5] (fun i wr => ∃ k : Nat, k ≤ l.length ∧ i = .int .i64 (k : Int) ∧ (∀ x ∈ l.take k, aheadM x (a, b) = false) ∧ Below (w.heap.size + 1) (w.alloc (.cells #[.int .i64 a, .int .i64 b] 61)) wr) (fun i _ => l.length - (intOf i).toNat)
  case atStart => exact ⟨0, Nat.zero_le _, rfl, by simp, Below.refl _ _⟩
  case round =>
    obtain ⟨k, hk, rfl, hall, hbw⟩ := hrel
    have HALL := Lib.hid hall
    have BW := Lib.hid hbw
    have BF := Lib.hid (HB0.out.trans (hbw.mono (Nat.le_succ _)))
    clear hall hbw
    by_cases hlt : k < l.length
    · have hea := List.getElem?_eq_getElem hlt
      obtain ⟨-, o1, rfl, p0, p1⟩ := (HL.out.below BF.out).at_ hea
      have k0 : wr.cell? ⟨w.heap.size, 0, none⟩ = some (.int .i64 a) := (BW.out.cell (p := ⟨w.heap.size, 0, none⟩) (Nat.lt_succ_self _)).trans (KB.out.cell 0)
      have k1 : wr.cell? ⟨w.heap.size, 1, none⟩ = some (.int .i64 b) := (BW.out.cell (p := ⟨w.heap.size, 1, none⟩) (Nat.lt_succ_self _)).trans (KB.out.cell 1)
      have EA := Lib.hid hea
      clear hea
      obtain ⟨x, hx⟩ : ∃ x, l[k] = x := ⟨_, rfl⟩
      rw [hx] at p0 p1
      have EX := Lib.hid hx
      clear hx
      obtain ⟨x1, x2⟩ := x
      simp only at p0 p1
      have P := Lib.hid (fun W => rahead_any x1 x2 a b W)
      go_wp2_with fail
      refine wp_region_R (R := RB) (n := 6) (by kernel_rfl) rfl ?_
      refine batchB [0, 1, 2, 3, 4] (fuel := 1) rfl (by kernel_rfl) (by kernel_rfl) (fun _ _ d _ _ h => by cases d <;> exact h) ?_
      repeat (first | ((with_reducible apply wq0); rfl; rfl; rfl; intro K hK; go_big_quiet_op; refine hK _ ?_; clear hK K) | ((with_reducible apply wq1); rfl; rfl; rfl; rfl; rfl; rfl; intro K hK; go_big_quiet_op; refine hK _ ?_; clear hK K) | ((with_reducible apply wqs); rfl; rfl; rfl; rfl; rfl; rfl; simp only [Act.put, List.setIfInBounds_toArray, List.set_cons_zero, List.set_cons_succ]) | ((with_reducible apply wqu); rfl; rfl; rfl; rfl; rfl; simp only [same]))
      refine wqIdx_load rfl rfl rfl rfl (fun W hW => load_mo_at _ _ x1 x2 W (keep_cell hW p0) (keep_cell hW p1)) ?_
      simp only [Act.put, List.setIfInBounds_toArray, List.set_cons_zero, List.set_cons_succ]
      refine wqIdx_load rfl rfl rfl rfl (fun W hW => load_mo_at _ _ a b W (keep_cell hW k0) (keep_cell hW k1)) ?_
      simp only [Act.put, List.setIfInBounds_toArray, List.set_cons_zero, List.set_cons_succ]
      refine wqIdx_nil ?_
      refine wpAnyR_sole (i := 5) rfl (by kernel_rfl) (fun K hK => ?_)
      go_simp
      refine (P.out _).mono ?_; rintro e w2 ⟨rfl, b2⟩
      refine hK _ _ b2 ?_
      clear hK K
      have B2 := Lib.hid (Below.of_drew0 b2)
      refine wpAnyR_done (by kernel_rfl) ?_ _
      cases hr : aheadM (x1, x2) (a, b)
      · go_wp2
        refine ⟨⟨k + 1, by omega, by go_num, fun y hy => ?_, BW.out.trans (B2.out.mono (by have := BW.out.size; rw [World.size_alloc] at this; exact this))⟩, by simp [intOf]; omega⟩
        rw [List.take_add_one, EA.out, List.mem_append] at hy
        rcases hy with hy | hy
        · exact HALL.out y hy
        · rw [show y = (x1, x2) by rw [EX.out] at hy; simpa using hy]
          exact hr
      · go_wp2
        go_ret
        refine ⟨ret_bool' ?_, BF.out.trans (B2.out.mono BF.out.size)⟩
        rw [eq_comm, List.any_eq_true]
        exact ⟨(x1, x2), by rw [← EX.out]; exact List.getElem_mem _, hr⟩
    · obtain rfl : k = l.length := by omega
      go_wp2
      go_ret
      refine ⟨ret_bool' ?_, BF.out⟩
      have h1 := HALL.out
      rw [List.take_length] at h1
      rw [eq_comm, List.any_eq_false]
      intro x hx
      rw [h1 x hx]
      decide
end Go.Proofs.Ytodfpdmmbmbinaa
