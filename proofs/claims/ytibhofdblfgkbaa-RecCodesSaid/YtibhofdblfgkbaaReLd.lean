/- The law RecCodes. -/
import Derived.Test.YtibhofdblfgkbaaReS
import Derived.Test.YtibhofdblfgkbaaReU
import Derived.Test.YtibhofdblfgkbaaReW
import Derived.Test.YtibhofdblfgkbaaOpS
namespace Go.Proofs.Ytibhofdblfgkbaa
open Go.RowKit Go.Sort

def LawCo (w : World) (e : Ending) (w' : World) : Prop := e = .returned (.bool true) ∧ Below w.heap.size w w'
theorem conv_at {w1 : World} {h : Nat} {A : Option Addr} {l : List UInt8} (s : SlB w1 h A l) (c : Nat) {n : Nat} (hn : n = l.length) :
    ∀ w, RB w1 w → (convert 41 9 (.slice A n c)).run Try.prog w = .ok (.string ⟨l.toArray⟩) w :=
  fun w hb => run_convB w Try.underlying41 Try.underlying5 Try.underlying9 c ((s.below hb fun h => h).reads hn)
theorem largeB_any (A : Option Addr) (n c : Nat) (w : World) : Calls Try.prog 15 #[.slice A n c] w fun e w' => e = .returned (.bool (decide ((5000 : Int) < (n : Int)))) ∧ w = w' := by
  go_enter Try.func15, Try.ntmps15
  go_wp2
  go_ret
  exact ⟨rfl, rfl⟩
theorem RdAt.place {T : TypeId} {w : World} {g h : Nat} {b : List UInt8} (r : RdAt T w g h (some b)) : ∃ k, k ≠ w.heap.size ∧ RdAt T w g k (some b) := by
  have hlt := r.lt
  obtain ⟨A, c, l, hb, hne, hl, hc, hs, hr⟩ := r
  have e := hr b rfl
  subst e
  by_cases h0 : b = []
  · subst h0
    exact ⟨w.heap.size + 1, by omega, A, c, [], hb, by omega, hl, hc, SlB.nil _ _ _, fun r e => by injection e with e; exact e.symm⟩
  · have := hs.lt h0
    exact ⟨h, by omega, A, c, b, hb, hne, hl, hc, hs, fun r e => by injection e with e; exact e.symm⟩
theorem rc_read_put (A : Option Addr) (c h : Nat) (a b : Int) (w : World) (hs : SlB w h A (putMo a b)) (hk : okRec (a, b) = true) :
    Calls Try.prog 40 #[.slice A (putMo a b).length c] w fun e w' => ∃ g, e = .returned (.pointer (some ⟨g, 0, none⟩)) ∧ Below w.heap.size w w' ∧
      Calls Try.prog 39 #[.pointer (some ⟨g, 0, none⟩)] w' fun e w2 => e = .returned (.tuple #[.agg #[.int .i64 a, .int .i64 b], .int .i64 0]) ∧ Below w.heap.size w w2 := by
  have hl := putMo_le (a, b) hk
  refine (from_any A c h (putMo a b) w hs (by simp only at hl; omega)).mono ?_
  rintro e w1 ⟨g, h', rfl, hg, -, r, b1⟩
  obtain ⟨k, hkk, r2⟩ := r.place
  refine ⟨g, rfl, b1, (rc_read_at2 g k (some (putMo a b)) w1 r2 hkk).mono ?_⟩
  have hz := (readRec_put (a, b) [] hk).1
  rw [List.append_nil] at hz
  rw [hz]
  rintro e w2 ⟨rfl, -, g2⟩
  exact ⟨rfl, b1.grown g2 b1.size fun i hi => by injection hi with hi; omega⟩
set_option maxRecDepth 100000 in
theorem codes_large (a b : Int) (A : Option Addr) (l : List (Int × Int)) (c : Nat) (w : World) (la : 5000 < l.length) :
    Calls Try.prog 6 #[.agg #[.int .i64 a, .int .i64 b], .slice A l.length c] w (LawCo w) := by
  have d1 : decide ((5000 : Int) < (l.length : Int)) = true := by rw [decide_eq_true_eq]; omega
  have B0 := Lib.hid (alloc_below w (.cells #[.int .i64 a, .int .i64 b] 24))
  go_enter Try.func6, Try.ntmps6
  go_wp2_with fail
  refine (largeB_any _ _ _ _).mono ?_; rintro e w1 ⟨rfl, rfl⟩
  rw [d1]
  go_wp2_with fail
  refine (lives_any _).mono ?_; rintro e w2 ⟨rfl, b2⟩
  go_wp2
  go_ret
  exact ⟨rfl, below_trans B0.out b2⟩
set_option maxRecDepth 100000 in
set_option maxHeartbeats 4000000 in
theorem codes_nn (a b : Int) (A : Option Addr) (h : Nat) (l : List (Int × Int)) (c : Nat) (w : World) (hl : SlP w h A l) (hn : l.length ≤ 5000) (hk : okRec (a, b) = false) (h0 : mayE l ≠ 0) :
    Calls Try.prog 6 #[.agg #[.int .i64 a, .int .i64 b], .slice A l.length c] w (LawCo w) := by
  have d1 : decide ((5000 : Int) < (l.length : Int)) = false := by rw [decide_eq_false_iff_not]; omega
  have B0 := Lib.hid (alloc_below w (.cells #[.int .i64 a, .int .i64 b] 24))
  have K0 := Lib.hid (Blk.new w 24 #[.int .i64 a, .int .i64 b])
  have L0 := Lib.hid (hl.below (alloc_below w (.cells #[.int .i64 a, .int .i64 b] 24)))
  have PK := Lib.hid (fun W => rrc_check_any a b W)
  have PL := Lib.hid (fun W => rc_check_any a b W)
  have PM := Lib.hid (fun W (s : SlP W h A l) => rrc_may_any A h l c W s (by omega))
  have PA := Lib.hid (fun W => rc_put_no a b W hk)
  have PE := Lib.hid (fun W (s : SlP W h A l) => rc_encode_no A h l c W s (by omega) h0)
  have d2 : (mayE l == 0) = false := by simpa using h0
  have d3 : (mayE l != 0) = true := by rw [bne, d2]; rfl
  generalize mayE l = z at PM PE d2 d3
  have hke : recE (a, b) = 30 := by unfold recE; rw [hk]; rfl
  rw [hk] at PK
  rw [hke] at PL
  have HK := Lib.hid (fun W (k : Below (w.alloc (.cells #[.int .i64 a, .int .i64 b] 24)).heap.size (w.alloc (.cells #[.int .i64 a, .int .i64 b] 24)) W) =>
    (show W.cell? ⟨w.heap.size, 0, none⟩ = some (.int .i64 a) ∧ W.cell? ⟨w.heap.size, 1, none⟩ = some (.int .i64 b) from
      ⟨(K0.out.below k K0.out.lt).cell 0, (K0.out.below k K0.out.lt).cell 1⟩))
  have hs0 := B0.out.size
  generalize hW0 : w.alloc (.cells #[.int .i64 a, .int .i64 b] 24) = w0 at B0 L0 HK hs0
  have HW0 := Lib.hid hW0
  have HB := Lib.hid (Below.refl w0.heap.size w0)
  obtain ⟨q0, q1⟩ := HK.out _ HB.out
  clear K0 hl hn hk h0 hke hW0
  go_enter Try.func6, Try.ntmps6
  go_wp2_with fail
  rw [HW0.out]
  refine (largeB_any _ _ _ _).mono ?_; rintro e w1 ⟨rfl, rfl⟩
  rw [d1]
  go_wp2_with fail
  clear q0 q1
  refine (PA.out _).mono ?_; rintro e w1 ⟨rfl, b1⟩
  have HB := Lib.hid b1
  have L1 := Lib.hid (L0.out.below b1)
  clear b1 L0
  go_wp2_with fail
  refine (PE.out _ L1.out).mono ?_; rintro e w2 ⟨rfl, b2⟩
  have HB := Lib.hid (below_trans HB.out b2)
  have L1 := Lib.hid (L1.out.below b2)
  obtain ⟨q0, q1⟩ := HK.out _ HB.out
  clear b2
  go_wp2_with fail
  clear q0 q1
  refine (lives_any _).mono ?_; rintro e w3 ⟨rfl, b3⟩
  have HB := Lib.hid (below_trans HB.out b3)
  have L1 := Lib.hid (L1.out.below b3)
  obtain ⟨q0, q1⟩ := HK.out _ HB.out
  clear b3
  go_wp2_with fail
  clear q0 q1
  refine (PK.out _).mono ?_; rintro e w4 ⟨rfl, b4⟩
  have HB := Lib.hid (below_trans HB.out b4)
  have L1 := Lib.hid (L1.out.below b4)
  obtain ⟨q0, q1⟩ := HK.out _ HB.out
  clear b4
  go_wp2_with fail
  clear q0 q1
  refine (PL.out _).mono ?_; rintro e w5 ⟨rfl, b5⟩
  have HB := Lib.hid (below_trans HB.out b5)
  have L1 := Lib.hid (L1.out.below b5)
  obtain ⟨q0, q1⟩ := HK.out _ HB.out
  clear b5
  go_wp2_with fail
  clear q0 q1
  refine (PM.out _ L1.out).mono ?_; rintro e w6 ⟨rfl, b6⟩
  have HB := Lib.hid (below_trans HB.out b6)
  have L1 := Lib.hid (L1.out.below b6)
  obtain ⟨q0, q1⟩ := HK.out _ HB.out
  clear b6
  go_wp2
  go_ret
  exact ⟨rfl, below_trans B0.out HB.out⟩
set_option maxRecDepth 100000 in
set_option maxHeartbeats 4000000 in
theorem codes_yn (a b : Int) (A : Option Addr) (h : Nat) (l : List (Int × Int)) (c : Nat) (w : World) (hl : SlP w h A l) (hn : l.length ≤ 5000) (hk : okRec (a, b) = true) (h0 : mayE l ≠ 0) :
    Calls Try.prog 6 #[.agg #[.int .i64 a, .int .i64 b], .slice A l.length c] w (LawCo w) := by
  have d1 : decide ((5000 : Int) < (l.length : Int)) = false := by rw [decide_eq_false_iff_not]; omega
  have B0 := Lib.hid (alloc_below w (.cells #[.int .i64 a, .int .i64 b] 24))
  have K0 := Lib.hid (Blk.new w 24 #[.int .i64 a, .int .i64 b])
  have L0 := Lib.hid (hl.below (alloc_below w (.cells #[.int .i64 a, .int .i64 b] 24)))
  have PK := Lib.hid (fun W => rrc_check_any a b W)
  have PL := Lib.hid (fun W => rc_check_any a b W)
  have PM := Lib.hid (fun W (s : SlP W h A l) => rrc_may_any A h l c W s (by omega))
  have PA := Lib.hid (fun W => rc_put_ok a b W hk)
  have PB := Lib.hid (fun W => rrc_put a b W hk)
  have PR := Lib.hid (fun W A1 h1 c1 (s : SlB W h1 A1 (putMo a b)) => rc_read_put A1 c1 h1 a b W s hk)
  generalize putMo a b = p at PA PB PR
  have PE := Lib.hid (fun W (s : SlP W h A l) => rc_encode_no A h l c W s (by omega) h0)
  have d2 : (mayE l == 0) = false := by simpa using h0
  have d3 : (mayE l != 0) = true := by rw [bne, d2]; rfl
  generalize mayE l = z at PM PE d2 d3
  have hke : recE (a, b) = 0 := by unfold recE; rw [hk]; rfl
  rw [hk] at PK
  rw [hke] at PL
  have HK := Lib.hid (fun W (k : Below (w.alloc (.cells #[.int .i64 a, .int .i64 b] 24)).heap.size (w.alloc (.cells #[.int .i64 a, .int .i64 b] 24)) W) =>
    (show W.cell? ⟨w.heap.size, 0, none⟩ = some (.int .i64 a) ∧ W.cell? ⟨w.heap.size, 1, none⟩ = some (.int .i64 b) from
      ⟨(K0.out.below k K0.out.lt).cell 0, (K0.out.below k K0.out.lt).cell 1⟩))
  have hs0 := B0.out.size
  generalize hW0 : w.alloc (.cells #[.int .i64 a, .int .i64 b] 24) = w0 at B0 L0 HK hs0
  have HW0 := Lib.hid hW0
  have HB := Lib.hid (Below.refl w0.heap.size w0)
  obtain ⟨q0, q1⟩ := HK.out _ HB.out
  clear K0 hl hn hk h0 hke hW0
  go_enter Try.func6, Try.ntmps6
  go_wp2_with fail
  rw [HW0.out]
  refine (largeB_any _ _ _ _).mono ?_; rintro e w1 ⟨rfl, rfl⟩
  rw [d1]
  go_wp2_with fail
  clear q0 q1
  refine (PA.out _).mono ?_; rintro e w1 ⟨A1, c1, rfl, o1, b1⟩
  obtain ⟨g1, -, s1, -⟩ := SlB.of_own o1
  have S1 := Lib.hid s1
  clear s1 o1
  have HB := Lib.hid b1
  have L1 := Lib.hid (L0.out.below b1)
  clear b1 L0
  go_wp2_with fail
  refine (PE.out _ L1.out).mono ?_; rintro e w2 ⟨rfl, b2⟩
  have HB := Lib.hid (below_trans HB.out b2)
  have L1 := Lib.hid (L1.out.below b2)
  have S1 := Lib.hid (S1.out.below b2 fun h => h)
  obtain ⟨q0, q1⟩ := HK.out _ HB.out
  clear b2
  go_wp2_with fail
  clear q0 q1
  refine (lives_any _).mono ?_; rintro e w3 ⟨rfl, b3⟩
  have HB := Lib.hid (below_trans HB.out b3)
  have L1 := Lib.hid (L1.out.below b3)
  have S1 := Lib.hid (S1.out.below b3 fun h => h)
  obtain ⟨q0, q1⟩ := HK.out _ HB.out
  clear b3
  go_wp2_with fail
  clear q0 q1
  refine (PK.out _).mono ?_; rintro e w4 ⟨rfl, b4⟩
  have HB := Lib.hid (below_trans HB.out b4)
  have L1 := Lib.hid (L1.out.below b4)
  have S1 := Lib.hid (S1.out.below b4 fun h => h)
  obtain ⟨q0, q1⟩ := HK.out _ HB.out
  clear b4
  go_wp2_with fail
  clear q0 q1
  refine (PL.out _).mono ?_; rintro e w5 ⟨rfl, b5⟩
  have HB := Lib.hid (below_trans HB.out b5)
  have L1 := Lib.hid (L1.out.below b5)
  have S1 := Lib.hid (S1.out.below b5 fun h => h)
  obtain ⟨q0, q1⟩ := HK.out _ HB.out
  clear b5
  go_wp2_with fail
  clear q0 q1
  refine (PM.out _ L1.out).mono ?_; rintro e w6 ⟨rfl, b6⟩
  have HB := Lib.hid (below_trans HB.out b6)
  have L1 := Lib.hid (L1.out.below b6)
  have S1 := Lib.hid (S1.out.below b6 fun h => h)
  obtain ⟨q0, q1⟩ := HK.out _ HB.out
  clear b6
  go_wp2_with fail
  clear q0 q1
  refine (PR.out _ _ _ _ S1.out).mono ?_; rintro e w7 ⟨g, rfl, -, r7⟩
  have R7 := Lib.hid r7
  clear r7
  go_wp2_with fail
  refine R7.out.mono ?_; rintro e w8 ⟨rfl, b8⟩
  have HB := Lib.hid (below_trans HB.out b8)
  have L1 := Lib.hid (L1.out.below b8)
  have S1 := Lib.hid (S1.out.below b8 fun h => h)
  clear b8
  have KX := Lib.hid (Blk.new w8 24 #[.int .i64 a, .int .i64 b])
  have bz := alloc_below w8 (.cells #[.int .i64 a, .int .i64 b] 24)
  have HB := Lib.hid (below_trans HB.out bz)
  have L1 := Lib.hid (L1.out.below bz)
  have S1 := Lib.hid (S1.out.below bz fun h => h)
  obtain ⟨q0, q1⟩ := HK.out _ HB.out
  clear bz
  have m0 : (w8.alloc (.cells #[.int .i64 a, .int .i64 b] 24)).drew.cell? ⟨w8.heap.size, 0, none⟩ = some (.int .i64 a) := KX.out.cell 0
  have m1 : (w8.alloc (.cells #[.int .i64 a, .int .i64 b] 24)).drew.cell? ⟨w8.heap.size, 1, none⟩ = some (.int .i64 b) := KX.out.cell 1
  go_wp2_with fail
  refine wp_region_R (R := RB) (n := 15) (by kernel_rfl) rfl ?_
  refine batchB [0, 1, 2] (fuel := 12) rfl (by kernel_rfl) (by kernel_rfl) (fun _ _ d _ _ h => by cases d <;> exact h) ?_
  repeat (first | ((with_reducible apply wq0); rfl; rfl; rfl; intro K hK; go_big_quiet_op; refine hK _ ?_; clear hK K) | ((with_reducible apply wq1); rfl; rfl; rfl; rfl; rfl; rfl; intro K hK; go_big_quiet_op; refine hK _ ?_; clear hK K) | ((with_reducible apply wqs); rfl; rfl; rfl; rfl; rfl; rfl; simp only [Act.put, List.setIfInBounds_toArray, List.set_cons_zero, List.set_cons_succ]) | ((with_reducible apply wqu); rfl; rfl; rfl; rfl; rfl; simp only [same]) | ((with_reducible apply wqu); rfl; rfl; rfl; rfl; rfl; simp only [Act.put, List.setIfInBounds_toArray, List.set_cons_zero, List.set_cons_succ]))
  refine wqIdx_conv rfl rfl rfl rfl (conv_at (w1 := (w8.alloc (.cells #[.int .i64 a, .int .i64 b] 24)).drew) S1.out c1 rfl) ?_
  simp only [Act.put, List.setIfInBounds_toArray, List.set_cons_zero, List.set_cons_succ]
  refine wqIdx_load rfl rfl rfl rfl (fun W hW => load_rec_at _ _ a b W (keep_cell hW q0) (keep_cell hW q1)) ?_
  simp only [Act.put, List.setIfInBounds_toArray, List.set_cons_zero, List.set_cons_succ]
  refine wqIdx_nil ?_
  refine wpAnyR_sole (i := 3) rfl (by kernel_rfl) (fun K hK => ?_)
  go_simp
  refine (PB.out _).mono ?_; rintro e w9 ⟨vv, rfl, o9, b9⟩
  obtain ⟨A9, c9, rfl⟩ := own_form o9
  obtain ⟨g9, -, s9, -⟩ := SlB.of_own o9
  have S9 := Lib.hid s9
  refine hK _ _ b9 ?_
  have q0 := keep_cell b9 q0
  have q1 := keep_cell b9 q1
  have m0 := keep_cell b9 m0
  have m1 := keep_cell b9 m1
  have HB := Lib.hid (below_trans HB.out (Below.of_drew0 b9))
  have L1 := Lib.hid (L1.out.below (Below.of_drew0 b9))
  clear hK K b9 o9 s9
  refine batchB [4, 5, 6, 7, 8, 9, 10, 11, 12, 13, 14] (fuel := 0) rfl (by kernel_rfl) (by kernel_rfl) (fun _ _ d _ _ h => by cases d <;> exact h) ?_
  refine wqIdx_conv rfl rfl rfl rfl (conv_at S9.out c9 rfl) ?_
  simp only [Act.put, List.setIfInBounds_toArray, List.set_cons_zero, List.set_cons_succ]
  repeat (first | ((with_reducible apply wq0); rfl; rfl; rfl; intro K hK; go_big_quiet_op; refine hK _ ?_; clear hK K) | ((with_reducible apply wq1); rfl; rfl; rfl; rfl; rfl; rfl; intro K hK; go_big_quiet_op; refine hK _ ?_; clear hK K) | ((with_reducible apply wqs); rfl; rfl; rfl; rfl; rfl; rfl; simp only [Act.put, List.setIfInBounds_toArray, List.set_cons_zero, List.set_cons_succ]) | ((with_reducible apply wqu); rfl; rfl; rfl; rfl; rfl; simp only [same]) | ((with_reducible apply wqu); rfl; rfl; rfl; rfl; rfl; simp only [Act.put, List.setIfInBounds_toArray, List.set_cons_zero, List.set_cons_succ]))
  refine wqIdx_load rfl rfl rfl rfl (fun W hW => load_rec_at _ _ a b W (keep_cell hW m0) (keep_cell hW m1)) ?_
  simp only [Act.put, List.setIfInBounds_toArray, List.set_cons_zero, List.set_cons_succ]
  refine wqIdx_load rfl rfl rfl rfl (fun W hW => load_rec_at _ _ a b W (keep_cell hW q0) (keep_cell hW q1)) ?_
  simp only [Act.put, List.setIfInBounds_toArray, List.set_cons_zero, List.set_cons_succ]
  repeat (first | ((with_reducible apply wq0); rfl; rfl; rfl; intro K hK; go_big_quiet_op; refine hK _ ?_; clear hK K) | ((with_reducible apply wq1); rfl; rfl; rfl; rfl; rfl; rfl; intro K hK; go_big_quiet_op; refine hK _ ?_; clear hK K) | ((with_reducible apply wqs); rfl; rfl; rfl; rfl; rfl; rfl; simp only [Act.put, List.setIfInBounds_toArray, List.set_cons_zero, List.set_cons_succ]) | ((with_reducible apply wqu); rfl; rfl; rfl; rfl; rfl; simp only [same]) | ((with_reducible apply wqu); rfl; rfl; rfl; rfl; rfl; simp only [Act.put, List.setIfInBounds_toArray, List.set_cons_zero, List.set_cons_succ]))
  refine wqIdx_nil ?_
  refine wpAnyR_done (by kernel_rfl) ?_ _
  clear q0 q1 m0 m1
  go_wp2
  go_ret
  exact ⟨rfl, below_trans B0.out HB.out⟩
set_option maxRecDepth 100000 in
set_option maxHeartbeats 4000000 in
theorem codes_ny (a b : Int) (A : Option Addr) (h : Nat) (l : List (Int × Int)) (c : Nat) (w : World) (hl : SlP w h A l) (hc : l.length ≤ c) (hm : c ≤ maxLen) (hn : l.length ≤ 5000) (hk : okRec (a, b) = false) (h0 : mayE l = 0) :
    Calls Try.prog 6 #[.agg #[.int .i64 a, .int .i64 b], .slice A l.length c] w (LawCo w) := by
  have d1 : decide ((5000 : Int) < (l.length : Int)) = false := by rw [decide_eq_false_iff_not]; omega
  have B0 := Lib.hid (alloc_below w (.cells #[.int .i64 a, .int .i64 b] 24))
  have K0 := Lib.hid (Blk.new w 24 #[.int .i64 a, .int .i64 b])
  have L0 := Lib.hid (hl.below (alloc_below w (.cells #[.int .i64 a, .int .i64 b] 24)))
  have PK := Lib.hid (fun W => rrc_check_any a b W)
  have PL := Lib.hid (fun W => rc_check_any a b W)
  have PM := Lib.hid (fun W (s : SlP W h A l) => rrc_may_any A h l c W s (by omega))
  have PA := Lib.hid (fun W => rc_put_no a b W hk)
  have PE := Lib.hid (fun W (s : SlP W h A l) => rc_encode_ok A h l c W s h0)
  have PF := Lib.hid (fun W (s : SlP W h A l) => rrc_encode_ok A h l c W s hc hm h0)
  have hle : (encR l).length ≤ 70368744177664 := by
    have h1 := recsB_le (srt l) fun x hx => (mayE_ok h0).1 x ((srt_perm l).mem_iff.1 hx)
    have h2 := putL_small2 l.length (by omega)
    rw [srt_length] at h1
    rw [encR, List.length_append]
    omega
  have PD := Lib.hid (fun W A1 h1 c1 (s : SlB W h1 A1 (encR l)) => rc_decode_any A1 h1 (encR l) c1 W s hle)
  rw [decR_enc h0] at PD
  have PS := Lib.hid (fun W (s : SlP W h A l) => rrc_sort_any l.length A h l c W (Nat.le_refl _) s hc (by omega) hm)
  have PX := Lib.hid (fun W A1 A2 h1 h2 c1 c2 (s1 : SlP W h1 A1 (srt l)) (s2 : SlP W h2 A2 (srt l)) => rexact_any A1 A2 h1 h2 (srt l) (srt l) c1 c2 W s1 s2 (by rw [srt_length]; omega) (by rw [srt_length]; omega))
  simp only [beq_self_eq_true] at PX
  rw [h0] at PM
  clear hle
  generalize encR l = q at PE PF PD
  generalize srt l = S at PD PS PX
  have hke : recE (a, b) = 30 := by unfold recE; rw [hk]; rfl
  rw [hk] at PK
  rw [hke] at PL
  have HK := Lib.hid (fun W (k : Below (w.alloc (.cells #[.int .i64 a, .int .i64 b] 24)).heap.size (w.alloc (.cells #[.int .i64 a, .int .i64 b] 24)) W) =>
    (show W.cell? ⟨w.heap.size, 0, none⟩ = some (.int .i64 a) ∧ W.cell? ⟨w.heap.size, 1, none⟩ = some (.int .i64 b) from
      ⟨(K0.out.below k K0.out.lt).cell 0, (K0.out.below k K0.out.lt).cell 1⟩))
  have hs0 := B0.out.size
  generalize hW0 : w.alloc (.cells #[.int .i64 a, .int .i64 b] 24) = w0 at B0 L0 HK hs0
  have HW0 := Lib.hid hW0
  have HB := Lib.hid (Below.refl w0.heap.size w0)
  obtain ⟨q0, q1⟩ := HK.out _ HB.out
  clear K0 hl hc hm hn hk h0 hke hW0
  go_enter Try.func6, Try.ntmps6
  go_wp2_with fail
  rw [HW0.out]
  refine (largeB_any _ _ _ _).mono ?_; rintro e w1 ⟨rfl, rfl⟩
  rw [d1]
  go_wp2_with fail
  clear q0 q1
  refine (PA.out _).mono ?_; rintro e w1 ⟨rfl, b1⟩
  have HB := Lib.hid b1
  have L1 := Lib.hid (L0.out.below b1)
  clear b1 L0
  go_wp2_with fail
  refine (PE.out _ L1.out).mono ?_; rintro e w2 ⟨A2, c2, rfl, o2, b2⟩
  obtain ⟨g2, -, s2, -⟩ := SlB.of_own o2
  have S2 := Lib.hid s2
  clear s2 o2
  have HB := Lib.hid (below_trans HB.out b2)
  have L1 := Lib.hid (L1.out.below b2)
  obtain ⟨q0, q1⟩ := HK.out _ HB.out
  clear b2
  go_wp2_with fail
  clear q0 q1
  refine (lives_any _).mono ?_; rintro e w3 ⟨rfl, b3⟩
  have HB := Lib.hid (below_trans HB.out b3)
  have L1 := Lib.hid (L1.out.below b3)
  have S2 := Lib.hid (S2.out.below b3 fun h => h)
  obtain ⟨q0, q1⟩ := HK.out _ HB.out
  clear b3
  go_wp2_with fail
  clear q0 q1
  refine (PK.out _).mono ?_; rintro e w4 ⟨rfl, b4⟩
  have HB := Lib.hid (below_trans HB.out b4)
  have L1 := Lib.hid (L1.out.below b4)
  have S2 := Lib.hid (S2.out.below b4 fun h => h)
  obtain ⟨q0, q1⟩ := HK.out _ HB.out
  clear b4
  go_wp2_with fail
  clear q0 q1
  refine (PL.out _).mono ?_; rintro e w5 ⟨rfl, b5⟩
  have HB := Lib.hid (below_trans HB.out b5)
  have L1 := Lib.hid (L1.out.below b5)
  have S2 := Lib.hid (S2.out.below b5 fun h => h)
  obtain ⟨q0, q1⟩ := HK.out _ HB.out
  clear b5
  go_wp2_with fail
  clear q0 q1
  refine (PM.out _ L1.out).mono ?_; rintro e w6 ⟨rfl, b6⟩
  have HB := Lib.hid (below_trans HB.out b6)
  have L1 := Lib.hid (L1.out.below b6)
  have S2 := Lib.hid (S2.out.below b6 fun h => h)
  obtain ⟨q0, q1⟩ := HK.out _ HB.out
  clear b6
  go_wp2_with fail
  clear q0 q1
  refine (PD.out _ _ _ _ S2.out).mono ?_; rintro e w10 (⟨hx, -⟩ | ⟨l', A4, c4, hx, rfl, ⟨h4, s4⟩, b10, -⟩)
  · cases hx
  injection hx with hx
  subst hx
  have S4 := Lib.hid s4
  have S2 := Lib.hid (S2.out.below b10 fun h => h)
  have L1 := Lib.hid (L1.out.below b10)
  have HB := Lib.hid (below_trans HB.out b10)
  clear b10 s4
  go_wp2_with fail
  refine wp_region_R (R := RB) (n := 17) (by kernel_rfl) rfl ?_
  refine batchB [0, 1, 2] (fuel := 14) rfl (by kernel_rfl) (by kernel_rfl) (fun _ _ d _ _ h => by cases d <;> exact h) ?_
  repeat (first | ((with_reducible apply wq0); rfl; rfl; rfl; intro K hK; go_big_quiet_op; refine hK _ ?_; clear hK K) | ((with_reducible apply wq1); rfl; rfl; rfl; rfl; rfl; rfl; intro K hK; go_big_quiet_op; refine hK _ ?_; clear hK K) | ((with_reducible apply wqs); rfl; rfl; rfl; rfl; rfl; rfl; simp only [Act.put, List.setIfInBounds_toArray, List.set_cons_zero, List.set_cons_succ]) | ((with_reducible apply wqu); rfl; rfl; rfl; rfl; rfl; simp only [same]) | ((with_reducible apply wqu); rfl; rfl; rfl; rfl; rfl; simp only [Act.put, List.setIfInBounds_toArray, List.set_cons_zero, List.set_cons_succ]))
  refine wqIdx_conv rfl rfl rfl rfl (conv_at (w1 := w10.drew) S2.out c2 rfl) ?_
  simp only [Act.put, List.setIfInBounds_toArray, List.set_cons_zero, List.set_cons_succ]
  repeat (first | ((with_reducible apply wq0); rfl; rfl; rfl; intro K hK; go_big_quiet_op; refine hK _ ?_; clear hK K) | ((with_reducible apply wq1); rfl; rfl; rfl; rfl; rfl; rfl; intro K hK; go_big_quiet_op; refine hK _ ?_; clear hK K) | ((with_reducible apply wqs); rfl; rfl; rfl; rfl; rfl; rfl; simp only [Act.put, List.setIfInBounds_toArray, List.set_cons_zero, List.set_cons_succ]) | ((with_reducible apply wqu); rfl; rfl; rfl; rfl; rfl; simp only [same]) | ((with_reducible apply wqu); rfl; rfl; rfl; rfl; rfl; simp only [Act.put, List.setIfInBounds_toArray, List.set_cons_zero, List.set_cons_succ]))
  refine wqIdx_nil ?_
  refine wpAnyR_sole (i := 3) rfl (by kernel_rfl) (fun K hK => ?_)
  go_simp
  refine (PF.out _ (L1.out.below (below_drew0 (Below.refl _ _)))).mono ?_; rintro e w11 ⟨vv, rfl, o11, b11⟩
  obtain ⟨A11, c11, rfl⟩ := own_form o11
  obtain ⟨g11, -, s11, -⟩ := SlB.of_own o11
  have S11 := Lib.hid s11
  refine hK _ _ b11 ?_
  have HB := Lib.hid (below_trans HB.out (Below.of_drew0 b11))
  have L1 := Lib.hid (L1.out.below (Below.of_drew0 b11))
  have S4 := Lib.hid (S4.out.below (Below.of_drew0 b11))
  clear hK K b11 o11 s11
  refine batchB [4, 5, 6, 7, 8, 9, 10, 11, 12] (fuel := 4) rfl (by kernel_rfl) (by kernel_rfl) (fun _ _ d _ _ h => by cases d <;> exact h) ?_
  refine wqIdx_conv rfl rfl rfl rfl (conv_at S11.out c11 rfl) ?_
  simp only [Act.put, List.setIfInBounds_toArray, List.set_cons_zero, List.set_cons_succ]
  repeat (first | ((with_reducible apply wq0); rfl; rfl; rfl; intro K hK; go_big_quiet_op; refine hK _ ?_; clear hK K) | ((with_reducible apply wq1); rfl; rfl; rfl; rfl; rfl; rfl; intro K hK; go_big_quiet_op; refine hK _ ?_; clear hK K) | ((with_reducible apply wqs); rfl; rfl; rfl; rfl; rfl; rfl; simp only [Act.put, List.setIfInBounds_toArray, List.set_cons_zero, List.set_cons_succ]) | ((with_reducible apply wqu); rfl; rfl; rfl; rfl; rfl; simp only [same]) | ((with_reducible apply wqu); rfl; rfl; rfl; rfl; rfl; simp only [Act.put, List.setIfInBounds_toArray, List.set_cons_zero, List.set_cons_succ]))
  refine wqIdx_nil ?_
  refine wpAnyR_sole (i := 13) rfl (by kernel_rfl) (fun K hK => ?_)
  go_simp
  refine (PS.out _ L1.out).mono ?_; rintro e w12 ⟨A12, c12, rfl, ⟨h12, s12⟩, b12, -⟩
  refine hK _ _ b12 ?_
  have HB := Lib.hid (below_trans HB.out b12)
  have S4 := Lib.hid (S4.out.below b12)
  have S12 := Lib.hid s12
  clear hK K b12 s12
  refine wpAnyR_sole (i := 14) rfl (by kernel_rfl) (fun K hK => ?_)
  go_simp
  refine (PX.out _ _ _ _ _ _ _ S4.out S12.out).mono ?_; rintro e w13 ⟨rfl, b13⟩
  refine hK _ _ b13 ?_
  have HB := Lib.hid (below_trans HB.out b13)
  clear hK K b13
  refine batchB [15, 16] (fuel := 0) rfl (by kernel_rfl) (by kernel_rfl) (fun _ _ d _ _ h => by cases d <;> exact h) ?_
  repeat (first | ((with_reducible apply wq0); rfl; rfl; rfl; intro K hK; go_big_quiet_op; refine hK _ ?_; clear hK K) | ((with_reducible apply wq1); rfl; rfl; rfl; rfl; rfl; rfl; intro K hK; go_big_quiet_op; refine hK _ ?_; clear hK K) | ((with_reducible apply wqs); rfl; rfl; rfl; rfl; rfl; rfl; simp only [Act.put, List.setIfInBounds_toArray, List.set_cons_zero, List.set_cons_succ]) | ((with_reducible apply wqu); rfl; rfl; rfl; rfl; rfl; simp only [same]) | ((with_reducible apply wqu); rfl; rfl; rfl; rfl; rfl; simp only [Act.put, List.setIfInBounds_toArray, List.set_cons_zero, List.set_cons_succ]))
  refine wqIdx_nil ?_
  refine wpAnyR_done (by kernel_rfl) ?_ _
  go_wp2
  go_ret
  exact ⟨rfl, below_trans B0.out HB.out⟩
set_option maxRecDepth 100000 in
set_option maxHeartbeats 4000000 in
theorem codes_yy (a b : Int) (A : Option Addr) (h : Nat) (l : List (Int × Int)) (c : Nat) (w : World) (hl : SlP w h A l) (hc : l.length ≤ c) (hm : c ≤ maxLen) (hn : l.length ≤ 5000) (hk : okRec (a, b) = true) (h0 : mayE l = 0) :
    Calls Try.prog 6 #[.agg #[.int .i64 a, .int .i64 b], .slice A l.length c] w (LawCo w) := by
  have d1 : decide ((5000 : Int) < (l.length : Int)) = false := by rw [decide_eq_false_iff_not]; omega
  have B0 := Lib.hid (alloc_below w (.cells #[.int .i64 a, .int .i64 b] 24))
  have K0 := Lib.hid (Blk.new w 24 #[.int .i64 a, .int .i64 b])
  have L0 := Lib.hid (hl.below (alloc_below w (.cells #[.int .i64 a, .int .i64 b] 24)))
  have PK := Lib.hid (fun W => rrc_check_any a b W)
  have PL := Lib.hid (fun W => rc_check_any a b W)
  have PM := Lib.hid (fun W (s : SlP W h A l) => rrc_may_any A h l c W s (by omega))
  have PA := Lib.hid (fun W => rc_put_ok a b W hk)
  have PB := Lib.hid (fun W => rrc_put a b W hk)
  have PR := Lib.hid (fun W A1 h1 c1 (s : SlB W h1 A1 (putMo a b)) => rc_read_put A1 c1 h1 a b W s hk)
  generalize putMo a b = p at PA PB PR
  have PE := Lib.hid (fun W (s : SlP W h A l) => rc_encode_ok A h l c W s h0)
  have PF := Lib.hid (fun W (s : SlP W h A l) => rrc_encode_ok A h l c W s hc hm h0)
  have hle : (encR l).length ≤ 70368744177664 := by
    have h1 := recsB_le (srt l) fun x hx => (mayE_ok h0).1 x ((srt_perm l).mem_iff.1 hx)
    have h2 := putL_small2 l.length (by omega)
    rw [srt_length] at h1
    rw [encR, List.length_append]
    omega
  have PD := Lib.hid (fun W A1 h1 c1 (s : SlB W h1 A1 (encR l)) => rc_decode_any A1 h1 (encR l) c1 W s hle)
  rw [decR_enc h0] at PD
  have PS := Lib.hid (fun W (s : SlP W h A l) => rrc_sort_any l.length A h l c W (Nat.le_refl _) s hc (by omega) hm)
  have PX := Lib.hid (fun W A1 A2 h1 h2 c1 c2 (s1 : SlP W h1 A1 (srt l)) (s2 : SlP W h2 A2 (srt l)) => rexact_any A1 A2 h1 h2 (srt l) (srt l) c1 c2 W s1 s2 (by rw [srt_length]; omega) (by rw [srt_length]; omega))
  simp only [beq_self_eq_true] at PX
  rw [h0] at PM
  clear hle
  generalize encR l = q at PE PF PD
  generalize srt l = S at PD PS PX
  have hke : recE (a, b) = 0 := by unfold recE; rw [hk]; rfl
  rw [hk] at PK
  rw [hke] at PL
  have HK := Lib.hid (fun W (k : Below (w.alloc (.cells #[.int .i64 a, .int .i64 b] 24)).heap.size (w.alloc (.cells #[.int .i64 a, .int .i64 b] 24)) W) =>
    (show W.cell? ⟨w.heap.size, 0, none⟩ = some (.int .i64 a) ∧ W.cell? ⟨w.heap.size, 1, none⟩ = some (.int .i64 b) from
      ⟨(K0.out.below k K0.out.lt).cell 0, (K0.out.below k K0.out.lt).cell 1⟩))
  have hs0 := B0.out.size
  generalize hW0 : w.alloc (.cells #[.int .i64 a, .int .i64 b] 24) = w0 at B0 L0 HK hs0
  have HW0 := Lib.hid hW0
  have HB := Lib.hid (Below.refl w0.heap.size w0)
  obtain ⟨q0, q1⟩ := HK.out _ HB.out
  clear K0 hl hc hm hn hk h0 hke hW0
  go_enter Try.func6, Try.ntmps6
  go_wp2_with fail
  rw [HW0.out]
  refine (largeB_any _ _ _ _).mono ?_; rintro e w1 ⟨rfl, rfl⟩
  rw [d1]
  go_wp2_with fail
  clear q0 q1
  refine (PA.out _).mono ?_; rintro e w1 ⟨A1, c1, rfl, o1, b1⟩
  obtain ⟨g1, -, s1, -⟩ := SlB.of_own o1
  have S1 := Lib.hid s1
  clear s1 o1
  have HB := Lib.hid b1
  have L1 := Lib.hid (L0.out.below b1)
  clear b1 L0
  go_wp2_with fail
  refine (PE.out _ L1.out).mono ?_; rintro e w2 ⟨A2, c2, rfl, o2, b2⟩
  obtain ⟨g2, -, s2, -⟩ := SlB.of_own o2
  have S2 := Lib.hid s2
  clear s2 o2
  have HB := Lib.hid (below_trans HB.out b2)
  have L1 := Lib.hid (L1.out.below b2)
  have S1 := Lib.hid (S1.out.below b2 fun h => h)
  obtain ⟨q0, q1⟩ := HK.out _ HB.out
  clear b2
  go_wp2_with fail
  clear q0 q1
  refine (lives_any _).mono ?_; rintro e w3 ⟨rfl, b3⟩
  have HB := Lib.hid (below_trans HB.out b3)
  have L1 := Lib.hid (L1.out.below b3)
  have S1 := Lib.hid (S1.out.below b3 fun h => h)
  have S2 := Lib.hid (S2.out.below b3 fun h => h)
  obtain ⟨q0, q1⟩ := HK.out _ HB.out
  clear b3
  go_wp2_with fail
  clear q0 q1
  refine (PK.out _).mono ?_; rintro e w4 ⟨rfl, b4⟩
  have HB := Lib.hid (below_trans HB.out b4)
  have L1 := Lib.hid (L1.out.below b4)
  have S1 := Lib.hid (S1.out.below b4 fun h => h)
  have S2 := Lib.hid (S2.out.below b4 fun h => h)
  obtain ⟨q0, q1⟩ := HK.out _ HB.out
  clear b4
  go_wp2_with fail
  clear q0 q1
  refine (PL.out _).mono ?_; rintro e w5 ⟨rfl, b5⟩
  have HB := Lib.hid (below_trans HB.out b5)
  have L1 := Lib.hid (L1.out.below b5)
  have S1 := Lib.hid (S1.out.below b5 fun h => h)
  have S2 := Lib.hid (S2.out.below b5 fun h => h)
  obtain ⟨q0, q1⟩ := HK.out _ HB.out
  clear b5
  go_wp2_with fail
  clear q0 q1
  refine (PM.out _ L1.out).mono ?_; rintro e w6 ⟨rfl, b6⟩
  have HB := Lib.hid (below_trans HB.out b6)
  have L1 := Lib.hid (L1.out.below b6)
  have S1 := Lib.hid (S1.out.below b6 fun h => h)
  have S2 := Lib.hid (S2.out.below b6 fun h => h)
  obtain ⟨q0, q1⟩ := HK.out _ HB.out
  clear b6
  go_wp2_with fail
  clear q0 q1
  refine (PR.out _ _ _ _ S1.out).mono ?_; rintro e w7 ⟨g, rfl, -, r7⟩
  have R7 := Lib.hid r7
  clear r7
  go_wp2_with fail
  refine R7.out.mono ?_; rintro e w8 ⟨rfl, b8⟩
  have HB := Lib.hid (below_trans HB.out b8)
  have L1 := Lib.hid (L1.out.below b8)
  have S1 := Lib.hid (S1.out.below b8 fun h => h)
  have S2 := Lib.hid (S2.out.below b8 fun h => h)
  clear b8
  have KX := Lib.hid (Blk.new w8 24 #[.int .i64 a, .int .i64 b])
  have bz := alloc_below w8 (.cells #[.int .i64 a, .int .i64 b] 24)
  have HB := Lib.hid (below_trans HB.out bz)
  have L1 := Lib.hid (L1.out.below bz)
  have S1 := Lib.hid (S1.out.below bz fun h => h)
  have S2 := Lib.hid (S2.out.below bz fun h => h)
  obtain ⟨q0, q1⟩ := HK.out _ HB.out
  clear bz
  have m0 : (w8.alloc (.cells #[.int .i64 a, .int .i64 b] 24)).drew.cell? ⟨w8.heap.size, 0, none⟩ = some (.int .i64 a) := KX.out.cell 0
  have m1 : (w8.alloc (.cells #[.int .i64 a, .int .i64 b] 24)).drew.cell? ⟨w8.heap.size, 1, none⟩ = some (.int .i64 b) := KX.out.cell 1
  go_wp2_with fail
  refine wp_region_R (R := RB) (n := 15) (by kernel_rfl) rfl ?_
  refine batchB [0, 1, 2] (fuel := 12) rfl (by kernel_rfl) (by kernel_rfl) (fun _ _ d _ _ h => by cases d <;> exact h) ?_
  repeat (first | ((with_reducible apply wq0); rfl; rfl; rfl; intro K hK; go_big_quiet_op; refine hK _ ?_; clear hK K) | ((with_reducible apply wq1); rfl; rfl; rfl; rfl; rfl; rfl; intro K hK; go_big_quiet_op; refine hK _ ?_; clear hK K) | ((with_reducible apply wqs); rfl; rfl; rfl; rfl; rfl; rfl; simp only [Act.put, List.setIfInBounds_toArray, List.set_cons_zero, List.set_cons_succ]) | ((with_reducible apply wqu); rfl; rfl; rfl; rfl; rfl; simp only [same]) | ((with_reducible apply wqu); rfl; rfl; rfl; rfl; rfl; simp only [Act.put, List.setIfInBounds_toArray, List.set_cons_zero, List.set_cons_succ]))
  refine wqIdx_conv rfl rfl rfl rfl (conv_at (w1 := (w8.alloc (.cells #[.int .i64 a, .int .i64 b] 24)).drew) S1.out c1 rfl) ?_
  simp only [Act.put, List.setIfInBounds_toArray, List.set_cons_zero, List.set_cons_succ]
  refine wqIdx_load rfl rfl rfl rfl (fun W hW => load_rec_at _ _ a b W (keep_cell hW q0) (keep_cell hW q1)) ?_
  simp only [Act.put, List.setIfInBounds_toArray, List.set_cons_zero, List.set_cons_succ]
  refine wqIdx_nil ?_
  refine wpAnyR_sole (i := 3) rfl (by kernel_rfl) (fun K hK => ?_)
  go_simp
  refine (PB.out _).mono ?_; rintro e w9 ⟨vv, rfl, o9, b9⟩
  obtain ⟨A9, c9, rfl⟩ := own_form o9
  obtain ⟨g9, -, s9, -⟩ := SlB.of_own o9
  have S9 := Lib.hid s9
  refine hK _ _ b9 ?_
  have q0 := keep_cell b9 q0
  have q1 := keep_cell b9 q1
  have m0 := keep_cell b9 m0
  have m1 := keep_cell b9 m1
  have HB := Lib.hid (below_trans HB.out (Below.of_drew0 b9))
  have L1 := Lib.hid (L1.out.below (Below.of_drew0 b9))
  have S2 := Lib.hid (S2.out.below (Below.of_drew0 b9) fun h => h)
  clear hK K b9 o9 s9
  refine batchB [4, 5, 6, 7, 8, 9, 10, 11, 12, 13, 14] (fuel := 0) rfl (by kernel_rfl) (by kernel_rfl) (fun _ _ d _ _ h => by cases d <;> exact h) ?_
  refine wqIdx_conv rfl rfl rfl rfl (conv_at S9.out c9 rfl) ?_
  simp only [Act.put, List.setIfInBounds_toArray, List.set_cons_zero, List.set_cons_succ]
  repeat (first | ((with_reducible apply wq0); rfl; rfl; rfl; intro K hK; go_big_quiet_op; refine hK _ ?_; clear hK K) | ((with_reducible apply wq1); rfl; rfl; rfl; rfl; rfl; rfl; intro K hK; go_big_quiet_op; refine hK _ ?_; clear hK K) | ((with_reducible apply wqs); rfl; rfl; rfl; rfl; rfl; rfl; simp only [Act.put, List.setIfInBounds_toArray, List.set_cons_zero, List.set_cons_succ]) | ((with_reducible apply wqu); rfl; rfl; rfl; rfl; rfl; simp only [same]) | ((with_reducible apply wqu); rfl; rfl; rfl; rfl; rfl; simp only [Act.put, List.setIfInBounds_toArray, List.set_cons_zero, List.set_cons_succ]))
  refine wqIdx_load rfl rfl rfl rfl (fun W hW => load_rec_at _ _ a b W (keep_cell hW m0) (keep_cell hW m1)) ?_
  simp only [Act.put, List.setIfInBounds_toArray, List.set_cons_zero, List.set_cons_succ]
  refine wqIdx_load rfl rfl rfl rfl (fun W hW => load_rec_at _ _ a b W (keep_cell hW q0) (keep_cell hW q1)) ?_
  simp only [Act.put, List.setIfInBounds_toArray, List.set_cons_zero, List.set_cons_succ]
  repeat (first | ((with_reducible apply wq0); rfl; rfl; rfl; intro K hK; go_big_quiet_op; refine hK _ ?_; clear hK K) | ((with_reducible apply wq1); rfl; rfl; rfl; rfl; rfl; rfl; intro K hK; go_big_quiet_op; refine hK _ ?_; clear hK K) | ((with_reducible apply wqs); rfl; rfl; rfl; rfl; rfl; rfl; simp only [Act.put, List.setIfInBounds_toArray, List.set_cons_zero, List.set_cons_succ]) | ((with_reducible apply wqu); rfl; rfl; rfl; rfl; rfl; simp only [same]) | ((with_reducible apply wqu); rfl; rfl; rfl; rfl; rfl; simp only [Act.put, List.setIfInBounds_toArray, List.set_cons_zero, List.set_cons_succ]))
  refine wqIdx_nil ?_
  refine wpAnyR_done (by kernel_rfl) ?_ _
  clear q0 q1 m0 m1
  go_wp2_with fail
  refine (PD.out _ _ _ _ S2.out).mono ?_; rintro e w10 (⟨hx, -⟩ | ⟨l', A4, c4, hx, rfl, ⟨h4, s4⟩, b10, -⟩)
  · cases hx
  injection hx with hx
  subst hx
  have S4 := Lib.hid s4
  have S2 := Lib.hid (S2.out.below b10 fun h => h)
  have L1 := Lib.hid (L1.out.below b10)
  have HB := Lib.hid (below_trans HB.out b10)
  clear b10 s4
  go_wp2_with fail
  refine wp_region_R (R := RB) (n := 17) (by kernel_rfl) rfl ?_
  refine batchB [0, 1, 2] (fuel := 14) rfl (by kernel_rfl) (by kernel_rfl) (fun _ _ d _ _ h => by cases d <;> exact h) ?_
  repeat (first | ((with_reducible apply wq0); rfl; rfl; rfl; intro K hK; go_big_quiet_op; refine hK _ ?_; clear hK K) | ((with_reducible apply wq1); rfl; rfl; rfl; rfl; rfl; rfl; intro K hK; go_big_quiet_op; refine hK _ ?_; clear hK K) | ((with_reducible apply wqs); rfl; rfl; rfl; rfl; rfl; rfl; simp only [Act.put, List.setIfInBounds_toArray, List.set_cons_zero, List.set_cons_succ]) | ((with_reducible apply wqu); rfl; rfl; rfl; rfl; rfl; simp only [same]) | ((with_reducible apply wqu); rfl; rfl; rfl; rfl; rfl; simp only [Act.put, List.setIfInBounds_toArray, List.set_cons_zero, List.set_cons_succ]))
  refine wqIdx_conv rfl rfl rfl rfl (conv_at (w1 := w10.drew) S2.out c2 rfl) ?_
  simp only [Act.put, List.setIfInBounds_toArray, List.set_cons_zero, List.set_cons_succ]
  repeat (first | ((with_reducible apply wq0); rfl; rfl; rfl; intro K hK; go_big_quiet_op; refine hK _ ?_; clear hK K) | ((with_reducible apply wq1); rfl; rfl; rfl; rfl; rfl; rfl; intro K hK; go_big_quiet_op; refine hK _ ?_; clear hK K) | ((with_reducible apply wqs); rfl; rfl; rfl; rfl; rfl; rfl; simp only [Act.put, List.setIfInBounds_toArray, List.set_cons_zero, List.set_cons_succ]) | ((with_reducible apply wqu); rfl; rfl; rfl; rfl; rfl; simp only [same]) | ((with_reducible apply wqu); rfl; rfl; rfl; rfl; rfl; simp only [Act.put, List.setIfInBounds_toArray, List.set_cons_zero, List.set_cons_succ]))
  refine wqIdx_nil ?_
  refine wpAnyR_sole (i := 3) rfl (by kernel_rfl) (fun K hK => ?_)
  go_simp
  refine (PF.out _ (L1.out.below (below_drew0 (Below.refl _ _)))).mono ?_; rintro e w11 ⟨vv, rfl, o11, b11⟩
  obtain ⟨A11, c11, rfl⟩ := own_form o11
  obtain ⟨g11, -, s11, -⟩ := SlB.of_own o11
  have S11 := Lib.hid s11
  refine hK _ _ b11 ?_
  have HB := Lib.hid (below_trans HB.out (Below.of_drew0 b11))
  have L1 := Lib.hid (L1.out.below (Below.of_drew0 b11))
  have S4 := Lib.hid (S4.out.below (Below.of_drew0 b11))
  clear hK K b11 o11 s11
  refine batchB [4, 5, 6, 7, 8, 9, 10, 11, 12] (fuel := 4) rfl (by kernel_rfl) (by kernel_rfl) (fun _ _ d _ _ h => by cases d <;> exact h) ?_
  refine wqIdx_conv rfl rfl rfl rfl (conv_at S11.out c11 rfl) ?_
  simp only [Act.put, List.setIfInBounds_toArray, List.set_cons_zero, List.set_cons_succ]
  repeat (first | ((with_reducible apply wq0); rfl; rfl; rfl; intro K hK; go_big_quiet_op; refine hK _ ?_; clear hK K) | ((with_reducible apply wq1); rfl; rfl; rfl; rfl; rfl; rfl; intro K hK; go_big_quiet_op; refine hK _ ?_; clear hK K) | ((with_reducible apply wqs); rfl; rfl; rfl; rfl; rfl; rfl; simp only [Act.put, List.setIfInBounds_toArray, List.set_cons_zero, List.set_cons_succ]) | ((with_reducible apply wqu); rfl; rfl; rfl; rfl; rfl; simp only [same]) | ((with_reducible apply wqu); rfl; rfl; rfl; rfl; rfl; simp only [Act.put, List.setIfInBounds_toArray, List.set_cons_zero, List.set_cons_succ]))
  refine wqIdx_nil ?_
  refine wpAnyR_sole (i := 13) rfl (by kernel_rfl) (fun K hK => ?_)
  go_simp
  refine (PS.out _ L1.out).mono ?_; rintro e w12 ⟨A12, c12, rfl, ⟨h12, s12⟩, b12, -⟩
  refine hK _ _ b12 ?_
  have HB := Lib.hid (below_trans HB.out b12)
  have S4 := Lib.hid (S4.out.below b12)
  have S12 := Lib.hid s12
  clear hK K b12 s12
  refine wpAnyR_sole (i := 14) rfl (by kernel_rfl) (fun K hK => ?_)
  go_simp
  refine (PX.out _ _ _ _ _ _ _ S4.out S12.out).mono ?_; rintro e w13 ⟨rfl, b13⟩
  refine hK _ _ b13 ?_
  have HB := Lib.hid (below_trans HB.out b13)
  clear hK K b13
  refine batchB [15, 16] (fuel := 0) rfl (by kernel_rfl) (by kernel_rfl) (fun _ _ d _ _ h => by cases d <;> exact h) ?_
  repeat (first | ((with_reducible apply wq0); rfl; rfl; rfl; intro K hK; go_big_quiet_op; refine hK _ ?_; clear hK K) | ((with_reducible apply wq1); rfl; rfl; rfl; rfl; rfl; rfl; intro K hK; go_big_quiet_op; refine hK _ ?_; clear hK K) | ((with_reducible apply wqs); rfl; rfl; rfl; rfl; rfl; rfl; simp only [Act.put, List.setIfInBounds_toArray, List.set_cons_zero, List.set_cons_succ]) | ((with_reducible apply wqu); rfl; rfl; rfl; rfl; rfl; simp only [same]) | ((with_reducible apply wqu); rfl; rfl; rfl; rfl; rfl; simp only [Act.put, List.setIfInBounds_toArray, List.set_cons_zero, List.set_cons_succ]))
  refine wqIdx_nil ?_
  refine wpAnyR_done (by kernel_rfl) ?_ _
  go_wp2
  go_ret
  exact ⟨rfl, below_trans B0.out HB.out⟩
theorem recCodes_any (a b : Int) (A : Option Addr) (h : Nat) (l : List (Int × Int)) (c : Nat) (w : World) (hin : InP w A h l c) :
    Calls Try.prog 6 #[.agg #[.int .i64 a, .int .i64 b], .slice A l.length c] w (LawCo w) := by
  obtain ⟨hl, hc, hm⟩ := hin
  by_cases la : 5000 < l.length
  · exact codes_large a b A l c w la
  · have hn : l.length ≤ 5000 := by omega
    cases hk : okRec (a, b)
    · by_cases h0 : mayE l = 0
      · exact codes_ny a b A h l c w hl hc hm hn hk h0
      · exact codes_nn a b A h l c w hl hn hk h0
    · by_cases h0 : mayE l = 0
      · exact codes_yy a b A h l c w hl hc hm hn hk h0
      · exact codes_yn a b A h l c w hl hn hk h0
end Go.Proofs.Ytibhofdblfgkbaa
