/- The law of package entry about Sort and what stands beside it. -/
import Derived.Test.YtfilelgbffbnlaaEnL
import Derived.Test.YtfilelgbffbnlaaEnS
import Derived.Test.YtfilelgbffbnlaaEnT
import Derived.Test.YtfilelgbffbnlaaOpE
namespace Go.Proofs.Ytfilelgbffbnlaa
open Go.RowKit Go.Sort

set_option maxRecDepth 100000 in
set_option maxHeartbeats 16000000 in
theorem enSo_any (A : Option Addr) (h : Nat) (l : List En) (c : Nat) (a b : En) (w : World) (hle : InE w A h l c) :
    Calls Try.prog 6 #[.slice A l.length c, enV a, enV b] w fun e w' => e = .returned (.bool true) ∧ Below w.heap.size w w' := by
  obtain ⟨⟨a1, a2⟩, a3, a4⟩ := a
  obtain ⟨⟨b1, b2⟩, b3, b4⟩ := b
  obtain ⟨hl, hlc, hcm⟩ := hle
  unfold enV
  simp only
  have PL := Lib.hid (fun W => lives_any W)
  have hb0 := (EnBox.new w ((a1, a2), (a3, a4)) 60).below (alloc_below _ (.cells #[.int .i64 b1, .int .i64 b2, .int .i64 b3, .int .i64 b4] 60))
  have hb1 := EnBox.new (w.alloc (.cells #[.int .i64 a1, .int .i64 a2, .int .i64 a3, .int .i64 a4] 60)) ((b1, b2), (b3, b4)) 60
  rw [World.size_alloc] at hb1
  have hbl := below_trans (alloc_below w (.cells #[.int .i64 a1, .int .i64 a2, .int .i64 a3, .int .i64 a4] 60)) (alloc_below _ (.cells #[.int .i64 b1, .int .i64 b2, .int .i64 b3, .int .i64 b4] 60))
  have hS := hl.below hbl
  obtain ⟨w0, hw0⟩ : ∃ w0, w0 = (w.alloc (.cells #[.int .i64 a1, .int .i64 a2, .int .i64 a3, .int .i64 a4] 60)).alloc (.cells #[.int .i64 b1, .int .i64 b2, .int .i64 b3, .int .i64 b4] 60) := ⟨_, rfl⟩
  rw [show (w.alloc (.cells (encE ((a1, a2), (a3, a4))).toArray 60)).alloc (.cells #[.int .i64 b1, .int .i64 b2, .int .i64 b3, .int .i64 b4] 60) = w0 from hw0.symm] at hb0
  rw [show (w.alloc (.cells #[.int .i64 a1, .int .i64 a2, .int .i64 a3, .int .i64 a4] 60)).alloc (.cells (encE ((b1, b2), (b3, b4))).toArray 60) = w0 from hw0.symm] at hb1
  rw [← hw0] at hbl hS
  have KA := Lib.hid hb0
  have KB := Lib.hid hb1
  have BA := Lib.hid hbl
  have HS := Lib.hid hS
  have HW := Lib.hid hw0
  have LA := Lib.hid (show ∀ W, Below w0.heap.size w0 W → (Instr.loadAt 60 (.pointer (some ⟨w.heap.size, 0, none⟩))).run Try.prog W = .ok (.agg #[.int .i64 a1, .int .i64 a2, .int .i64 a3, .int .i64 a4]) W from fun W hW => load_en_box KA.out hW)
  have LB := Lib.hid (show ∀ W, Below w0.heap.size w0 W → (Instr.loadAt 60 (.pointer (some ⟨w.heap.size + 1, 0, none⟩))).run Try.prog W = .ok (.agg #[.int .i64 b1, .int .i64 b2, .int .i64 b3, .int .i64 b4]) W from fun W hW => load_en_box KB.out hW)
  clear hl hb0 hb1 hbl hS hw0
  by_cases hbig : 32768 < l.length
  · have d1 : decide ((500 : Int) < (l.length : Int)) = true := by rw [decide_eq_true_eq]; omega
    have d2 : decide ((l.length : Int) ≤ 16384) = false := by rw [decide_eq_false_iff_not]; omega
    have d3 : decide ((32768 : Int) < (l.length : Int)) = true := by rw [decide_eq_true_eq]; omega
    go_enter Try.func6, Try.ntmps6
    go_wp2_with fail
    rw [← HW.out]
    refine (PL.out _).mono ?_; rintro e w1 ⟨rfl, b1⟩
    go_wp2
    go_ret
    exact ⟨rfl, below_trans BA.out b1⟩
  · by_cases hmid : 500 < l.length ∧ l.length ≤ 16384
    · have d1 : decide ((500 : Int) < (l.length : Int)) = true := by rw [decide_eq_true_eq]; omega
      have d2 : decide ((l.length : Int) ≤ 16384) = true := by rw [decide_eq_true_eq]; omega
      go_enter Try.func6, Try.ntmps6
      go_wp2_with fail
      rw [← HW.out]
      refine (PL.out _).mono ?_; rintro e w1 ⟨rfl, b1⟩
      go_wp2
      go_ret
      exact ⟨rfl, below_trans BA.out b1⟩
    · have P2 := Lib.hid (fun W (k : Below w0.heap.size w0 W) => ren_may_any A h l c W (HS.out.below k) (by omega))
      have PCk := Lib.hid (fun W => en_check_any a1 a2 a3 a4 W)
      have PRc := Lib.hid (fun W => ren_check_any a1 a2 a3 a4 W)
      have hea := enE_zero ((a1, a2), (a3, a4))
      have PCm := Lib.hid (fun W => show Calls Try.prog 34 #[.agg #[.int .i64 a1, .int .i64 a2, .int .i64 a3, .int .i64 a4], .agg #[.int .i64 b1, .int .i64 b2, .int .i64 b3, .int .i64 b4]] W (fun e w' => e = .returned (.int .i64 (cmpE ((a1, a2), (a3, a4)) ((b1, b2), (b3, b4)))) ∧ Below W.heap.size W w') from en_compare_any ((a1, a2), (a3, a4)) ((b1, b2), (b3, b4)) W)
      have PRm := Lib.hid (fun W => show Calls Try.prog 35 #[.agg #[.int .i64 a1, .int .i64 a2, .int .i64 a3, .int .i64 a4], .agg #[.int .i64 b1, .int .i64 b2, .int .i64 b3, .int .i64 b4]] W (fun e w' => e = .returned (.int .i64 (cmpE ((a1, a2), (a3, a4)) ((b1, b2), (b3, b4)))) ∧ Below W.heap.size W w') from ren_compare_any ((a1, a2), (a3, a4)) ((b1, b2), (b3, b4)) W)
      have PSo := Lib.hid (fun W A' g' c' (s : SlK encE W g' A' l) => en_sorted_any A' g' l c' W s (by omega))
      have PRs := Lib.hid (fun W (k : Below w0.heap.size w0 W) => ren_sorted_any A h l c W (HS.out.below k) (by omega))
      have PSa := Lib.hid (fun W A1 A2 h1 h2 c1 c2 (s1 : SlK encE W h1 A1 l) (s2 : SlK encE W h2 A2 l) => ren_same_any A1 A2 h1 h2 l l c1 c2 W s1 s2 (by omega) (by omega))
      rw [show (l == l) = true from beq_self_eq_true l] at PSa
      have PSz := Lib.hid (fun W => show Calls Try.prog 40 #[.agg #[.int .i64 a1, .int .i64 a2, .int .i64 a3, .int .i64 a4]] W (fun e w' => e = .returned (.int .i64 (sizeE ((a1, a2), (a3, a4)))) ∧ Below W.heap.size W w') from en_size_any ((a1, a2), (a3, a4)) W)
      generalize enE ((a1, a2), (a3, a4)) = ea at PCk PRc hea
      generalize cmpE ((a1, a2), (a3, a4)) ((b1, b2), (b3, b4)) = cm at PCm PRm
      generalize sortedE l = so at PSo PRs
      have be := alloc_below w0 (.cells #[] 60)
      have ho0 := own_empty_k layE w0 60
      have hr0 := (HS.out.below be).reads layE (n := l.length) rfl
      have hs0 : w0.heap.size ≤ (w0.alloc (.cells #[] 60)).heap.size := be.size
      have HSZ := Lib.hid (show w0.heap.size = w.heap.size + 1 + 1 by rw [HW.out, World.size_alloc, World.size_alloc])
      have BE := Lib.hid be
      rw [HW.out, World.size_alloc, World.size_alloc] at ho0 hs0
      rw [HW.out] at hr0
      have HO0 := Lib.hid ho0
      have HR0 := Lib.hid hr0
      have HS0 := Lib.hid hs0
      clear be ho0 hr0 hs0
      by_cases h0 : mayEs l = 0
      · have hok := mayEs_ok h0
        have P1 := Lib.hid (fun W A' g' c' (s : SlK encE W g' A' l) => show Calls Try.prog 30 #[.slice A' l.length c'] W (fun e w' => ∃ A2 c2, e = .returned (.tuple #[.slice A2 (srtE l).length c2, .int .i64 0]) ∧ RowE W (srtE l) A2 c2 w') from (en_sort_any A' g' l c' W s (by omega)).mono fun e w' => by
          rintro (⟨hz, -⟩ | ⟨-, A2, c2, he, hr⟩)
          · exact absurd h0 hz
          · exact ⟨A2, c2, by rw [srtE_length]; exact he, hr⟩)
        have PRt := Lib.hid (fun W (k : Below w0.heap.size w0 W) => ren_sort_any l.length A h l c W (Nat.le_refl _) (HS.out.below k) hlc (by omega) hcm)
        have PSb := Lib.hid (fun W A1 A2 h1 h2 c1 c2 (s1 : SlK encE W h1 A1 (srtE l)) (s2 : SlK encE W h2 A2 (srtE l)) => ren_same_any A1 A2 h1 h2 (srtE l) (srtE l) c1 c2 W s1 s2 (by rw [srtE_length]; omega) (by rw [srtE_length]; omega))
        rw [show (srtE l == srtE l) = true from beq_self_eq_true _] at PSb
        rw [h0] at P2
        have d1 : decide ((500 : Int) < (l.length : Int)) = false := by rw [decide_eq_false_iff_not]; omega
        have d3 : decide ((32768 : Int) < (l.length : Int)) = false := by rw [decide_eq_false_iff_not]; omega
        generalize srtE l = sl at P1 PRt PSb
        clear h0 hok
        by_cases hok : okEn ((a1, a2), (a3, a4)) = true
        · have PPu := Lib.hid (fun W => show Calls Try.prog 39 #[.agg #[.int .i64 a1, .int .i64 a2, .int .i64 a3, .int .i64 a4]] W (Own1 W (putE ((a1, a2), (a3, a4)))) from ren_put_any ((a1, a2), (a3, a4)) W hok)
          rw [show sizeE ((a1, a2), (a3, a4)) = ((putE ((a1, a2), (a3, a4))).length : Int) from if_pos hok] at PSz
          rw [hok] at hea
          generalize putE ((a1, a2), (a3, a4)) = pa at PPu PSz
          clear hok
          go_enter Try.func6, Try.ntmps6
          go_wp2_with (at_builtin; (refine wpList_appK layE (xs := []) (ys := l) _ rfl (.tmp 26) (.tmp 27) _ rfl Try.underlying54 info_en3 rfl HO0.out HR0.out c rfl rfl (by omega) (by decide) HS0.out ?_); intro A1 c1 w1 o1 gr1; have O1 := Lib.hid o1; have G1 := Lib.hid (Grew.by_ gr1); clear o1 gr1)
          have o1 := O1.out
          have gg := G1.out
          rw [← HW.out] at gg
          rw [Nat.zero_add, List.nil_append] at o1
          obtain ⟨g1, -, s1, -⟩ := SlK.of_own layE o1
          have S1 := Lib.hid s1
          have B1 := Lib.hid (show Below w0.heap.size w0 w1 from BE.out.grown gg BE.out.size fun i hi => by have h8 := (World.ownsRow.lt HO0.out i hi).1; have h9 := HSZ.out; omega)
          clear o1 s1 gg O1 G1 HO0 HR0 HS0 BE HSZ
          go_wp2_with fail
          refine (P1.out _ _ _ _ S1.out).mono ?_; rintro e w2 ⟨A2, c2, rfl, ⟨g2, s2⟩, b2, -⟩
          have T2 := Lib.hid s2
          clear s2
          have B2 := Lib.hid (below_trans B1.out b2)
          have S2 := Lib.hid (S1.out.below b2)
          clear b2
          go_wp2_with fail
          refine (P2.out _ B2.out).mono ?_; rintro e w3 ⟨rfl, b3⟩
          have B3 := Lib.hid (below_drew (below_trans B2.out b3))
          have S3 := Lib.hid (show SlK encE w3.drew g1 A1 l from S2.out.below (below_drew b3))
          have T3 := Lib.hid (show SlK encE w3.drew _ _ _ from T2.out.below (below_drew b3))
          clear b3
          go_wp2_with fail
          refine wp_region_R (R := RB) (n := 36) (by kernel_rfl) rfl ?_
          have D3 := Lib.hid (Below.refl w3.drew.heap.size w3.drew)
          refine wpAnyR_sole (i := 0) rfl (by kernel_rfl) (fun K hK => ?_); go_simp
          refine (PL.out _).mono ?_; rintro e w4 ⟨rfl, b⟩
          refine hK _ _ b ?_
          clear hK K
          have D4 := Lib.hid (below_trans D3.out b)
          have B4 := Lib.hid (below_trans B3.out D4.out)
          clear b
          refine batchB [1, 2, 3, 4, 5, 6, 7, 8, 10] (fuel := 26) rfl (by kernel_rfl) (by kernel_rfl) (fun _ _ d _ _ h => by cases d <;> exact h) ?_
          (repeat (first | ((with_reducible apply wq0); rfl; rfl; rfl; intro K hK; go_big_quiet_op; refine hK _ ?_; clear hK K) | ((with_reducible apply wq1); rfl; rfl; rfl; rfl; rfl; rfl; intro K hK; go_big_quiet_op; refine hK _ ?_; clear hK K) | ((with_reducible apply wqs); rfl; rfl; rfl; rfl; rfl; rfl; simp only [Act.put, List.setIfInBounds_toArray, List.set_cons_zero, List.set_cons_succ]) | ((with_reducible apply wqu); rfl; rfl; rfl; rfl; rfl; (first | simp only [same, Act.put, List.setIfInBounds_toArray, List.set_cons_zero, List.set_cons_succ] | simp only [Act.put, List.setIfInBounds_toArray, List.set_cons_zero, List.set_cons_succ]))))
          refine wqIdx_load rfl rfl rfl rfl (fun W hW => LA.out W (below_trans B4.out hW)) ?_
          simp only [Act.put, List.setIfInBounds_toArray, List.set_cons_zero, List.set_cons_succ]
          (repeat (first | ((with_reducible apply wq0); rfl; rfl; rfl; intro K hK; go_big_quiet_op; refine hK _ ?_; clear hK K) | ((with_reducible apply wq1); rfl; rfl; rfl; rfl; rfl; rfl; intro K hK; go_big_quiet_op; refine hK _ ?_; clear hK K) | ((with_reducible apply wqs); rfl; rfl; rfl; rfl; rfl; rfl; simp only [Act.put, List.setIfInBounds_toArray, List.set_cons_zero, List.set_cons_succ]) | ((with_reducible apply wqu); rfl; rfl; rfl; rfl; rfl; (first | simp only [same, Act.put, List.setIfInBounds_toArray, List.set_cons_zero, List.set_cons_succ] | simp only [Act.put, List.setIfInBounds_toArray, List.set_cons_zero, List.set_cons_succ]))))
          refine wqIdx_load rfl rfl rfl rfl (fun W hW => LA.out W (below_trans B4.out hW)) ?_
          simp only [Act.put, List.setIfInBounds_toArray, List.set_cons_zero, List.set_cons_succ]
          (repeat (first | ((with_reducible apply wq0); rfl; rfl; rfl; intro K hK; go_big_quiet_op; refine hK _ ?_; clear hK K) | ((with_reducible apply wq1); rfl; rfl; rfl; rfl; rfl; rfl; intro K hK; go_big_quiet_op; refine hK _ ?_; clear hK K) | ((with_reducible apply wqs); rfl; rfl; rfl; rfl; rfl; rfl; simp only [Act.put, List.setIfInBounds_toArray, List.set_cons_zero, List.set_cons_succ]) | ((with_reducible apply wqu); rfl; rfl; rfl; rfl; rfl; (first | simp only [same, Act.put, List.setIfInBounds_toArray, List.set_cons_zero, List.set_cons_succ] | simp only [Act.put, List.setIfInBounds_toArray, List.set_cons_zero, List.set_cons_succ]))))
          refine wqIdx_nil ?_
          refine wpAnyR_sole (i := 9) rfl (by kernel_rfl) (fun K hK => ?_); go_simp
          refine (PCk.out _).mono ?_; rintro e w5 ⟨rfl, b⟩
          refine hK _ _ b ?_
          clear hK K
          have D5 := Lib.hid (below_trans D4.out b)
          have B5 := Lib.hid (below_trans B3.out D5.out)
          clear b
          refine wpAnyR_sole (i := 11) rfl (by kernel_rfl) (fun K hK => ?_); go_simp
          refine (PRc.out _).mono ?_; rintro e w6 ⟨rfl, b⟩
          refine hK _ _ b ?_
          clear hK K
          have D6 := Lib.hid (below_trans D5.out b)
          have B6 := Lib.hid (below_trans B3.out D6.out)
          clear b
          refine batchB [12, 13, 14, 15, 16, 18, 19] (fuel := 17) rfl (by kernel_rfl) (by kernel_rfl) (fun _ _ d _ _ h => by cases d <;> exact h) ?_
          (repeat (first | ((with_reducible apply wq0); rfl; rfl; rfl; intro K hK; go_big_quiet_op; refine hK _ ?_; clear hK K) | ((with_reducible apply wq1); rfl; rfl; rfl; rfl; rfl; rfl; intro K hK; go_big_quiet_op; refine hK _ ?_; clear hK K) | ((with_reducible apply wqs); rfl; rfl; rfl; rfl; rfl; rfl; simp only [Act.put, List.setIfInBounds_toArray, List.set_cons_zero, List.set_cons_succ]) | ((with_reducible apply wqu); rfl; rfl; rfl; rfl; rfl; (first | simp only [same, Act.put, List.setIfInBounds_toArray, List.set_cons_zero, List.set_cons_succ] | simp only [Act.put, List.setIfInBounds_toArray, List.set_cons_zero, List.set_cons_succ]))))
          refine wqIdx_load rfl rfl rfl rfl (fun W hW => LA.out W (below_trans B6.out hW)) ?_
          simp only [Act.put, List.setIfInBounds_toArray, List.set_cons_zero, List.set_cons_succ]
          (repeat (first | ((with_reducible apply wq0); rfl; rfl; rfl; intro K hK; go_big_quiet_op; refine hK _ ?_; clear hK K) | ((with_reducible apply wq1); rfl; rfl; rfl; rfl; rfl; rfl; intro K hK; go_big_quiet_op; refine hK _ ?_; clear hK K) | ((with_reducible apply wqs); rfl; rfl; rfl; rfl; rfl; rfl; simp only [Act.put, List.setIfInBounds_toArray, List.set_cons_zero, List.set_cons_succ]) | ((with_reducible apply wqu); rfl; rfl; rfl; rfl; rfl; (first | simp only [same, Act.put, List.setIfInBounds_toArray, List.set_cons_zero, List.set_cons_succ] | simp only [Act.put, List.setIfInBounds_toArray, List.set_cons_zero, List.set_cons_succ]))))
          refine wqIdx_load rfl rfl rfl rfl (fun W hW => LB.out W (below_trans B6.out hW)) ?_
          simp only [Act.put, List.setIfInBounds_toArray, List.set_cons_zero, List.set_cons_succ]
          (repeat (first | ((with_reducible apply wq0); rfl; rfl; rfl; intro K hK; go_big_quiet_op; refine hK _ ?_; clear hK K) | ((with_reducible apply wq1); rfl; rfl; rfl; rfl; rfl; rfl; intro K hK; go_big_quiet_op; refine hK _ ?_; clear hK K) | ((with_reducible apply wqs); rfl; rfl; rfl; rfl; rfl; rfl; simp only [Act.put, List.setIfInBounds_toArray, List.set_cons_zero, List.set_cons_succ]) | ((with_reducible apply wqu); rfl; rfl; rfl; rfl; rfl; (first | simp only [same, Act.put, List.setIfInBounds_toArray, List.set_cons_zero, List.set_cons_succ] | simp only [Act.put, List.setIfInBounds_toArray, List.set_cons_zero, List.set_cons_succ]))))
          refine wqIdx_load rfl rfl rfl rfl (fun W hW => LA.out W (below_trans B6.out hW)) ?_
          simp only [Act.put, List.setIfInBounds_toArray, List.set_cons_zero, List.set_cons_succ]
          (repeat (first | ((with_reducible apply wq0); rfl; rfl; rfl; intro K hK; go_big_quiet_op; refine hK _ ?_; clear hK K) | ((with_reducible apply wq1); rfl; rfl; rfl; rfl; rfl; rfl; intro K hK; go_big_quiet_op; refine hK _ ?_; clear hK K) | ((with_reducible apply wqs); rfl; rfl; rfl; rfl; rfl; rfl; simp only [Act.put, List.setIfInBounds_toArray, List.set_cons_zero, List.set_cons_succ]) | ((with_reducible apply wqu); rfl; rfl; rfl; rfl; rfl; (first | simp only [same, Act.put, List.setIfInBounds_toArray, List.set_cons_zero, List.set_cons_succ] | simp only [Act.put, List.setIfInBounds_toArray, List.set_cons_zero, List.set_cons_succ]))))
          refine wqIdx_load rfl rfl rfl rfl (fun W hW => LB.out W (below_trans B6.out hW)) ?_
          simp only [Act.put, List.setIfInBounds_toArray, List.set_cons_zero, List.set_cons_succ]
          (repeat (first | ((with_reducible apply wq0); rfl; rfl; rfl; intro K hK; go_big_quiet_op; refine hK _ ?_; clear hK K) | ((with_reducible apply wq1); rfl; rfl; rfl; rfl; rfl; rfl; intro K hK; go_big_quiet_op; refine hK _ ?_; clear hK K) | ((with_reducible apply wqs); rfl; rfl; rfl; rfl; rfl; rfl; simp only [Act.put, List.setIfInBounds_toArray, List.set_cons_zero, List.set_cons_succ]) | ((with_reducible apply wqu); rfl; rfl; rfl; rfl; rfl; (first | simp only [same, Act.put, List.setIfInBounds_toArray, List.set_cons_zero, List.set_cons_succ] | simp only [Act.put, List.setIfInBounds_toArray, List.set_cons_zero, List.set_cons_succ]))))
          refine wqIdx_nil ?_
          refine wpAnyR_sole (i := 17) rfl (by kernel_rfl) (fun K hK => ?_); go_simp
          refine (PCm.out _).mono ?_; rintro e w7 ⟨rfl, b⟩
          refine hK _ _ b ?_
          clear hK K
          have D7 := Lib.hid (below_trans D6.out b)
          have B7 := Lib.hid (below_trans B3.out D7.out)
          clear b
          refine wpAnyR_sole (i := 20) rfl (by kernel_rfl) (fun K hK => ?_); go_simp
          refine (PRm.out _).mono ?_; rintro e w8 ⟨rfl, b⟩
          refine hK _ _ b ?_
          clear hK K
          have D8 := Lib.hid (below_trans D7.out b)
          have B8 := Lib.hid (below_trans B3.out D8.out)
          clear b
          refine batchB [21, 22, 23, 24, 26] (fuel := 10) rfl (by kernel_rfl) (by kernel_rfl) (fun _ _ d _ _ h => by cases d <;> exact h) ?_; (repeat (first | ((with_reducible apply wq0); rfl; rfl; rfl; intro K hK; go_big_quiet_op; refine hK _ ?_; clear hK K) | ((with_reducible apply wq1); rfl; rfl; rfl; rfl; rfl; rfl; intro K hK; go_big_quiet_op; refine hK _ ?_; clear hK K) | ((with_reducible apply wqs); rfl; rfl; rfl; rfl; rfl; rfl; simp only [Act.put, List.setIfInBounds_toArray, List.set_cons_zero, List.set_cons_succ]) | ((with_reducible apply wqu); rfl; rfl; rfl; rfl; rfl; (first | simp only [same, Act.put, List.setIfInBounds_toArray, List.set_cons_zero, List.set_cons_succ] | simp only [Act.put, List.setIfInBounds_toArray, List.set_cons_zero, List.set_cons_succ])))); refine wqIdx_nil ?_
          refine wpAnyR_sole (i := 25) rfl (by kernel_rfl) (fun K hK => ?_); go_simp
          refine (PSo.out _ _ _ _ (S3.out.below D8.out)).mono ?_; rintro e w9 ⟨rfl, b⟩
          refine hK _ _ b ?_
          clear hK K
          have D9 := Lib.hid (below_trans D8.out b)
          have B9 := Lib.hid (below_trans B3.out D9.out)
          clear b
          refine wpAnyR_sole (i := 27) rfl (by kernel_rfl) (fun K hK => ?_); go_simp
          refine (PRs.out _ (B9.out)).mono ?_; rintro e w10 ⟨rfl, b⟩
          refine hK _ _ b ?_
          clear hK K
          have D10 := Lib.hid (below_trans D9.out b)
          have B10 := Lib.hid (below_trans B3.out D10.out)
          clear b
          refine batchB [28, 29, 30, 31, 32] (fuel := 3) rfl (by kernel_rfl) (by kernel_rfl) (fun _ _ d _ _ h => by cases d <;> exact h) ?_; (repeat (first | ((with_reducible apply wq0); rfl; rfl; rfl; intro K hK; go_big_quiet_op; refine hK _ ?_; clear hK K) | ((with_reducible apply wq1); rfl; rfl; rfl; rfl; rfl; rfl; intro K hK; go_big_quiet_op; refine hK _ ?_; clear hK K) | ((with_reducible apply wqs); rfl; rfl; rfl; rfl; rfl; rfl; simp only [Act.put, List.setIfInBounds_toArray, List.set_cons_zero, List.set_cons_succ]) | ((with_reducible apply wqu); rfl; rfl; rfl; rfl; rfl; (first | simp only [same, Act.put, List.setIfInBounds_toArray, List.set_cons_zero, List.set_cons_succ] | simp only [Act.put, List.setIfInBounds_toArray, List.set_cons_zero, List.set_cons_succ])))); refine wqIdx_nil ?_
          refine wpAnyR_sole (i := 33) rfl (by kernel_rfl) (fun K hK => ?_); go_simp
          refine (PSa.out _ _ _ _ _ _ _ (S3.out.below D10.out) (HS.out.below B10.out)).mono ?_; rintro e w11 ⟨rfl, b⟩
          refine hK _ _ b ?_
          clear hK K
          have D11 := Lib.hid (below_trans D10.out b)
          have B11 := Lib.hid (below_trans B3.out D11.out)
          clear b
          refine batchB [34, 35] (fuel := 0) rfl (by kernel_rfl) (by kernel_rfl) (fun _ _ d _ _ h => by cases d <;> exact h) ?_; (repeat (first | ((with_reducible apply wq0); rfl; rfl; rfl; intro K hK; go_big_quiet_op; refine hK _ ?_; clear hK K) | ((with_reducible apply wq1); rfl; rfl; rfl; rfl; rfl; rfl; intro K hK; go_big_quiet_op; refine hK _ ?_; clear hK K) | ((with_reducible apply wqs); rfl; rfl; rfl; rfl; rfl; rfl; simp only [Act.put, List.setIfInBounds_toArray, List.set_cons_zero, List.set_cons_succ]) | ((with_reducible apply wqu); rfl; rfl; rfl; rfl; rfl; (first | simp only [same, Act.put, List.setIfInBounds_toArray, List.set_cons_zero, List.set_cons_succ] | simp only [Act.put, List.setIfInBounds_toArray, List.set_cons_zero, List.set_cons_succ])))); refine wqIdx_nil ?_
          refine wpAnyR_done (by kernel_rfl) ?_ _
          obtain ⟨q0, q1, q2, q3⟩ := (KA.out.below B11.out).four
          go_wp2_with fail
          refine (PRc.out _).mono ?_; rintro e w12 ⟨rfl, b⟩
          have D12 := Lib.hid (below_trans D11.out b)
          have B12 := Lib.hid (below_trans B3.out D12.out)
          clear b q0 q1 q2 q3
          obtain ⟨q0, q1, q2, q3⟩ := (KA.out.below B12.out).four
          go_wp2_with fail
          refine (PPu.out _).mono ?_; rintro e w13 ⟨v13, rfl, o13, b⟩
          obtain ⟨A13, c13, rfl⟩ := own_form o13
          have D13 := Lib.hid (below_trans D12.out b)
          have B13 := Lib.hid (below_trans B3.out D13.out)
          clear b q0 q1 q2 q3 o13
          obtain ⟨q0, q1, q2, q3⟩ := (KA.out.below B13.out).four
          go_wp2_with fail
          refine (PSz.out _).mono ?_; rintro e w14 ⟨rfl, b⟩
          have D14 := Lib.hid (below_trans D13.out b)
          have B14 := Lib.hid (below_trans B3.out D14.out)
          clear b q0 q1 q2 q3
          go_wp2_with fail
          refine (PRt.out _ B14.out).mono ?_; rintro e w15 ⟨A9, c9, rfl, ⟨g9, s9⟩, b, -⟩
          have D15 := Lib.hid (below_trans D14.out b)
          have B15 := Lib.hid (below_trans B3.out D15.out)
          have T9 := Lib.hid s9
          clear b s9
          go_wp2_with fail
          refine (PSb.out _ _ _ _ _ _ _ (T3.out.below D15.out) T9.out).mono ?_; rintro e w16 ⟨rfl, b⟩
          have B16 := Lib.hid (below_trans B15.out b)
          clear b
          go_wp2
          go_ret
          exact ⟨rfl, below_trans BA.out B16.out⟩
        · rw [show sizeE ((a1, a2), (a3, a4)) = 0 from if_neg hok] at PSz
          rw [show okEn ((a1, a2), (a3, a4)) = false by simpa using hok] at hea
          clear hok
          go_enter Try.func6, Try.ntmps6
          go_wp2_with (at_builtin; (refine wpList_appK layE (xs := []) (ys := l) _ rfl (.tmp 26) (.tmp 27) _ rfl Try.underlying54 info_en3 rfl HO0.out HR0.out c rfl rfl (by omega) (by decide) HS0.out ?_); intro A1 c1 w1 o1 gr1; have O1 := Lib.hid o1; have G1 := Lib.hid (Grew.by_ gr1); clear o1 gr1)
          have o1 := O1.out
          have gg := G1.out
          rw [← HW.out] at gg
          rw [Nat.zero_add, List.nil_append] at o1
          obtain ⟨g1, -, s1, -⟩ := SlK.of_own layE o1
          have S1 := Lib.hid s1
          have B1 := Lib.hid (show Below w0.heap.size w0 w1 from BE.out.grown gg BE.out.size fun i hi => by have h8 := (World.ownsRow.lt HO0.out i hi).1; have h9 := HSZ.out; omega)
          clear o1 s1 gg O1 G1 HO0 HR0 HS0 BE HSZ
          go_wp2_with fail
          refine (P1.out _ _ _ _ S1.out).mono ?_; rintro e w2 ⟨A2, c2, rfl, ⟨g2, s2⟩, b2, -⟩
          have T2 := Lib.hid s2
          clear s2
          have B2 := Lib.hid (below_trans B1.out b2)
          have S2 := Lib.hid (S1.out.below b2)
          clear b2
          go_wp2_with fail
          refine (P2.out _ B2.out).mono ?_; rintro e w3 ⟨rfl, b3⟩
          have B3 := Lib.hid (below_drew (below_trans B2.out b3))
          have S3 := Lib.hid (show SlK encE w3.drew g1 A1 l from S2.out.below (below_drew b3))
          have T3 := Lib.hid (show SlK encE w3.drew _ _ _ from T2.out.below (below_drew b3))
          clear b3
          go_wp2_with fail
          refine wp_region_R (R := RB) (n := 36) (by kernel_rfl) rfl ?_
          have D3 := Lib.hid (Below.refl w3.drew.heap.size w3.drew)
          refine wpAnyR_sole (i := 0) rfl (by kernel_rfl) (fun K hK => ?_); go_simp
          refine (PL.out _).mono ?_; rintro e w4 ⟨rfl, b⟩
          refine hK _ _ b ?_
          clear hK K
          have D4 := Lib.hid (below_trans D3.out b)
          have B4 := Lib.hid (below_trans B3.out D4.out)
          clear b
          refine batchB [1, 2, 3, 4, 5, 6, 7, 8, 10] (fuel := 26) rfl (by kernel_rfl) (by kernel_rfl) (fun _ _ d _ _ h => by cases d <;> exact h) ?_
          (repeat (first | ((with_reducible apply wq0); rfl; rfl; rfl; intro K hK; go_big_quiet_op; refine hK _ ?_; clear hK K) | ((with_reducible apply wq1); rfl; rfl; rfl; rfl; rfl; rfl; intro K hK; go_big_quiet_op; refine hK _ ?_; clear hK K) | ((with_reducible apply wqs); rfl; rfl; rfl; rfl; rfl; rfl; simp only [Act.put, List.setIfInBounds_toArray, List.set_cons_zero, List.set_cons_succ]) | ((with_reducible apply wqu); rfl; rfl; rfl; rfl; rfl; (first | simp only [same, Act.put, List.setIfInBounds_toArray, List.set_cons_zero, List.set_cons_succ] | simp only [Act.put, List.setIfInBounds_toArray, List.set_cons_zero, List.set_cons_succ]))))
          refine wqIdx_load rfl rfl rfl rfl (fun W hW => LA.out W (below_trans B4.out hW)) ?_
          simp only [Act.put, List.setIfInBounds_toArray, List.set_cons_zero, List.set_cons_succ]
          (repeat (first | ((with_reducible apply wq0); rfl; rfl; rfl; intro K hK; go_big_quiet_op; refine hK _ ?_; clear hK K) | ((with_reducible apply wq1); rfl; rfl; rfl; rfl; rfl; rfl; intro K hK; go_big_quiet_op; refine hK _ ?_; clear hK K) | ((with_reducible apply wqs); rfl; rfl; rfl; rfl; rfl; rfl; simp only [Act.put, List.setIfInBounds_toArray, List.set_cons_zero, List.set_cons_succ]) | ((with_reducible apply wqu); rfl; rfl; rfl; rfl; rfl; (first | simp only [same, Act.put, List.setIfInBounds_toArray, List.set_cons_zero, List.set_cons_succ] | simp only [Act.put, List.setIfInBounds_toArray, List.set_cons_zero, List.set_cons_succ]))))
          refine wqIdx_load rfl rfl rfl rfl (fun W hW => LA.out W (below_trans B4.out hW)) ?_
          simp only [Act.put, List.setIfInBounds_toArray, List.set_cons_zero, List.set_cons_succ]
          (repeat (first | ((with_reducible apply wq0); rfl; rfl; rfl; intro K hK; go_big_quiet_op; refine hK _ ?_; clear hK K) | ((with_reducible apply wq1); rfl; rfl; rfl; rfl; rfl; rfl; intro K hK; go_big_quiet_op; refine hK _ ?_; clear hK K) | ((with_reducible apply wqs); rfl; rfl; rfl; rfl; rfl; rfl; simp only [Act.put, List.setIfInBounds_toArray, List.set_cons_zero, List.set_cons_succ]) | ((with_reducible apply wqu); rfl; rfl; rfl; rfl; rfl; (first | simp only [same, Act.put, List.setIfInBounds_toArray, List.set_cons_zero, List.set_cons_succ] | simp only [Act.put, List.setIfInBounds_toArray, List.set_cons_zero, List.set_cons_succ]))))
          refine wqIdx_nil ?_
          refine wpAnyR_sole (i := 9) rfl (by kernel_rfl) (fun K hK => ?_); go_simp
          refine (PCk.out _).mono ?_; rintro e w5 ⟨rfl, b⟩
          refine hK _ _ b ?_
          clear hK K
          have D5 := Lib.hid (below_trans D4.out b)
          have B5 := Lib.hid (below_trans B3.out D5.out)
          clear b
          refine wpAnyR_sole (i := 11) rfl (by kernel_rfl) (fun K hK => ?_); go_simp
          refine (PRc.out _).mono ?_; rintro e w6 ⟨rfl, b⟩
          refine hK _ _ b ?_
          clear hK K
          have D6 := Lib.hid (below_trans D5.out b)
          have B6 := Lib.hid (below_trans B3.out D6.out)
          clear b
          refine batchB [12, 13, 14, 15, 16, 18, 19] (fuel := 17) rfl (by kernel_rfl) (by kernel_rfl) (fun _ _ d _ _ h => by cases d <;> exact h) ?_
          (repeat (first | ((with_reducible apply wq0); rfl; rfl; rfl; intro K hK; go_big_quiet_op; refine hK _ ?_; clear hK K) | ((with_reducible apply wq1); rfl; rfl; rfl; rfl; rfl; rfl; intro K hK; go_big_quiet_op; refine hK _ ?_; clear hK K) | ((with_reducible apply wqs); rfl; rfl; rfl; rfl; rfl; rfl; simp only [Act.put, List.setIfInBounds_toArray, List.set_cons_zero, List.set_cons_succ]) | ((with_reducible apply wqu); rfl; rfl; rfl; rfl; rfl; (first | simp only [same, Act.put, List.setIfInBounds_toArray, List.set_cons_zero, List.set_cons_succ] | simp only [Act.put, List.setIfInBounds_toArray, List.set_cons_zero, List.set_cons_succ]))))
          refine wqIdx_load rfl rfl rfl rfl (fun W hW => LA.out W (below_trans B6.out hW)) ?_
          simp only [Act.put, List.setIfInBounds_toArray, List.set_cons_zero, List.set_cons_succ]
          (repeat (first | ((with_reducible apply wq0); rfl; rfl; rfl; intro K hK; go_big_quiet_op; refine hK _ ?_; clear hK K) | ((with_reducible apply wq1); rfl; rfl; rfl; rfl; rfl; rfl; intro K hK; go_big_quiet_op; refine hK _ ?_; clear hK K) | ((with_reducible apply wqs); rfl; rfl; rfl; rfl; rfl; rfl; simp only [Act.put, List.setIfInBounds_toArray, List.set_cons_zero, List.set_cons_succ]) | ((with_reducible apply wqu); rfl; rfl; rfl; rfl; rfl; (first | simp only [same, Act.put, List.setIfInBounds_toArray, List.set_cons_zero, List.set_cons_succ] | simp only [Act.put, List.setIfInBounds_toArray, List.set_cons_zero, List.set_cons_succ]))))
          refine wqIdx_load rfl rfl rfl rfl (fun W hW => LB.out W (below_trans B6.out hW)) ?_
          simp only [Act.put, List.setIfInBounds_toArray, List.set_cons_zero, List.set_cons_succ]
          (repeat (first | ((with_reducible apply wq0); rfl; rfl; rfl; intro K hK; go_big_quiet_op; refine hK _ ?_; clear hK K) | ((with_reducible apply wq1); rfl; rfl; rfl; rfl; rfl; rfl; intro K hK; go_big_quiet_op; refine hK _ ?_; clear hK K) | ((with_reducible apply wqs); rfl; rfl; rfl; rfl; rfl; rfl; simp only [Act.put, List.setIfInBounds_toArray, List.set_cons_zero, List.set_cons_succ]) | ((with_reducible apply wqu); rfl; rfl; rfl; rfl; rfl; (first | simp only [same, Act.put, List.setIfInBounds_toArray, List.set_cons_zero, List.set_cons_succ] | simp only [Act.put, List.setIfInBounds_toArray, List.set_cons_zero, List.set_cons_succ]))))
          refine wqIdx_load rfl rfl rfl rfl (fun W hW => LA.out W (below_trans B6.out hW)) ?_
          simp only [Act.put, List.setIfInBounds_toArray, List.set_cons_zero, List.set_cons_succ]
          (repeat (first | ((with_reducible apply wq0); rfl; rfl; rfl; intro K hK; go_big_quiet_op; refine hK _ ?_; clear hK K) | ((with_reducible apply wq1); rfl; rfl; rfl; rfl; rfl; rfl; intro K hK; go_big_quiet_op; refine hK _ ?_; clear hK K) | ((with_reducible apply wqs); rfl; rfl; rfl; rfl; rfl; rfl; simp only [Act.put, List.setIfInBounds_toArray, List.set_cons_zero, List.set_cons_succ]) | ((with_reducible apply wqu); rfl; rfl; rfl; rfl; rfl; (first | simp only [same, Act.put, List.setIfInBounds_toArray, List.set_cons_zero, List.set_cons_succ] | simp only [Act.put, List.setIfInBounds_toArray, List.set_cons_zero, List.set_cons_succ]))))
          refine wqIdx_load rfl rfl rfl rfl (fun W hW => LB.out W (below_trans B6.out hW)) ?_
          simp only [Act.put, List.setIfInBounds_toArray, List.set_cons_zero, List.set_cons_succ]
          (repeat (first | ((with_reducible apply wq0); rfl; rfl; rfl; intro K hK; go_big_quiet_op; refine hK _ ?_; clear hK K) | ((with_reducible apply wq1); rfl; rfl; rfl; rfl; rfl; rfl; intro K hK; go_big_quiet_op; refine hK _ ?_; clear hK K) | ((with_reducible apply wqs); rfl; rfl; rfl; rfl; rfl; rfl; simp only [Act.put, List.setIfInBounds_toArray, List.set_cons_zero, List.set_cons_succ]) | ((with_reducible apply wqu); rfl; rfl; rfl; rfl; rfl; (first | simp only [same, Act.put, List.setIfInBounds_toArray, List.set_cons_zero, List.set_cons_succ] | simp only [Act.put, List.setIfInBounds_toArray, List.set_cons_zero, List.set_cons_succ]))))
          refine wqIdx_nil ?_
          refine wpAnyR_sole (i := 17) rfl (by kernel_rfl) (fun K hK => ?_); go_simp
          refine (PCm.out _).mono ?_; rintro e w7 ⟨rfl, b⟩
          refine hK _ _ b ?_
          clear hK K
          have D7 := Lib.hid (below_trans D6.out b)
          have B7 := Lib.hid (below_trans B3.out D7.out)
          clear b
          refine wpAnyR_sole (i := 20) rfl (by kernel_rfl) (fun K hK => ?_); go_simp
          refine (PRm.out _).mono ?_; rintro e w8 ⟨rfl, b⟩
          refine hK _ _ b ?_
          clear hK K
          have D8 := Lib.hid (below_trans D7.out b)
          have B8 := Lib.hid (below_trans B3.out D8.out)
          clear b
          refine batchB [21, 22, 23, 24, 26] (fuel := 10) rfl (by kernel_rfl) (by kernel_rfl) (fun _ _ d _ _ h => by cases d <;> exact h) ?_; (repeat (first | ((with_reducible apply wq0); rfl; rfl; rfl; intro K hK; go_big_quiet_op; refine hK _ ?_; clear hK K) | ((with_reducible apply wq1); rfl; rfl; rfl; rfl; rfl; rfl; intro K hK; go_big_quiet_op; refine hK _ ?_; clear hK K) | ((with_reducible apply wqs); rfl; rfl; rfl; rfl; rfl; rfl; simp only [Act.put, List.setIfInBounds_toArray, List.set_cons_zero, List.set_cons_succ]) | ((with_reducible apply wqu); rfl; rfl; rfl; rfl; rfl; (first | simp only [same, Act.put, List.setIfInBounds_toArray, List.set_cons_zero, List.set_cons_succ] | simp only [Act.put, List.setIfInBounds_toArray, List.set_cons_zero, List.set_cons_succ])))); refine wqIdx_nil ?_
          refine wpAnyR_sole (i := 25) rfl (by kernel_rfl) (fun K hK => ?_); go_simp
          refine (PSo.out _ _ _ _ (S3.out.below D8.out)).mono ?_; rintro e w9 ⟨rfl, b⟩
          refine hK _ _ b ?_
          clear hK K
          have D9 := Lib.hid (below_trans D8.out b)
          have B9 := Lib.hid (below_trans B3.out D9.out)
          clear b
          refine wpAnyR_sole (i := 27) rfl (by kernel_rfl) (fun K hK => ?_); go_simp
          refine (PRs.out _ (B9.out)).mono ?_; rintro e w10 ⟨rfl, b⟩
          refine hK _ _ b ?_
          clear hK K
          have D10 := Lib.hid (below_trans D9.out b)
          have B10 := Lib.hid (below_trans B3.out D10.out)
          clear b
          refine batchB [28, 29, 30, 31, 32] (fuel := 3) rfl (by kernel_rfl) (by kernel_rfl) (fun _ _ d _ _ h => by cases d <;> exact h) ?_; (repeat (first | ((with_reducible apply wq0); rfl; rfl; rfl; intro K hK; go_big_quiet_op; refine hK _ ?_; clear hK K) | ((with_reducible apply wq1); rfl; rfl; rfl; rfl; rfl; rfl; intro K hK; go_big_quiet_op; refine hK _ ?_; clear hK K) | ((with_reducible apply wqs); rfl; rfl; rfl; rfl; rfl; rfl; simp only [Act.put, List.setIfInBounds_toArray, List.set_cons_zero, List.set_cons_succ]) | ((with_reducible apply wqu); rfl; rfl; rfl; rfl; rfl; (first | simp only [same, Act.put, List.setIfInBounds_toArray, List.set_cons_zero, List.set_cons_succ] | simp only [Act.put, List.setIfInBounds_toArray, List.set_cons_zero, List.set_cons_succ])))); refine wqIdx_nil ?_
          refine wpAnyR_sole (i := 33) rfl (by kernel_rfl) (fun K hK => ?_); go_simp
          refine (PSa.out _ _ _ _ _ _ _ (S3.out.below D10.out) (HS.out.below B10.out)).mono ?_; rintro e w11 ⟨rfl, b⟩
          refine hK _ _ b ?_
          clear hK K
          have D11 := Lib.hid (below_trans D10.out b)
          have B11 := Lib.hid (below_trans B3.out D11.out)
          clear b
          refine batchB [34, 35] (fuel := 0) rfl (by kernel_rfl) (by kernel_rfl) (fun _ _ d _ _ h => by cases d <;> exact h) ?_; (repeat (first | ((with_reducible apply wq0); rfl; rfl; rfl; intro K hK; go_big_quiet_op; refine hK _ ?_; clear hK K) | ((with_reducible apply wq1); rfl; rfl; rfl; rfl; rfl; rfl; intro K hK; go_big_quiet_op; refine hK _ ?_; clear hK K) | ((with_reducible apply wqs); rfl; rfl; rfl; rfl; rfl; rfl; simp only [Act.put, List.setIfInBounds_toArray, List.set_cons_zero, List.set_cons_succ]) | ((with_reducible apply wqu); rfl; rfl; rfl; rfl; rfl; (first | simp only [same, Act.put, List.setIfInBounds_toArray, List.set_cons_zero, List.set_cons_succ] | simp only [Act.put, List.setIfInBounds_toArray, List.set_cons_zero, List.set_cons_succ])))); refine wqIdx_nil ?_
          refine wpAnyR_done (by kernel_rfl) ?_ _
          obtain ⟨q0, q1, q2, q3⟩ := (KA.out.below B11.out).four
          go_wp2_with fail
          refine (PRc.out _).mono ?_; rintro e w12 ⟨rfl, b⟩
          have D12 := Lib.hid (below_trans D11.out b)
          have B12 := Lib.hid (below_trans B3.out D12.out)
          clear b q0 q1 q2 q3
          obtain ⟨q0, q1, q2, q3⟩ := (KA.out.below B12.out).four
          go_wp2_with fail
          refine (PSz.out _).mono ?_; rintro e w13 ⟨rfl, b⟩
          have D13 := Lib.hid (below_trans D12.out b)
          have B13 := Lib.hid (below_trans B3.out D13.out)
          clear b q0 q1 q2 q3
          go_wp2_with fail
          refine (PRt.out _ B13.out).mono ?_; rintro e w14 ⟨A9, c9, rfl, ⟨g9, s9⟩, b, -⟩
          have D14 := Lib.hid (below_trans D13.out b)
          have B14 := Lib.hid (below_trans B3.out D14.out)
          have T9 := Lib.hid s9
          clear b s9
          go_wp2_with fail
          refine (PSb.out _ _ _ _ _ _ _ (T3.out.below D14.out) T9.out).mono ?_; rintro e w15 ⟨rfl, b⟩
          have B15 := Lib.hid (below_trans B14.out b)
          clear b
          go_wp2
          go_ret
          exact ⟨rfl, below_trans BA.out B15.out⟩
      · have P1 := Lib.hid (fun W A' g' c' (s : SlK encE W g' A' l) => show Calls Try.prog 30 #[.slice A' l.length c'] W (fun e w' => e = .returned (.tuple #[.slice none 0 0, .int .i64 (mayEs l)]) ∧ Below W.heap.size W w') from (en_sort_any A' g' l c' W s (by omega)).mono fun e w' => by
          rintro (⟨-, he, hb⟩ | ⟨hz, -⟩)
          · exact ⟨he, hb⟩
          · exact absurd hz h0)
        have dz : (mayEs l == 0) = false := by simpa using h0
        generalize mayEs l = z at P1 P2 dz
        have d3 : decide ((32768 : Int) < (l.length : Int)) = false := by rw [decide_eq_false_iff_not]; omega
        clear h0
        by_cases h5 : 500 < l.length
        · have d1 : decide ((500 : Int) < (l.length : Int)) = true := by rw [decide_eq_true_eq]; omega
          have d2 : decide ((l.length : Int) ≤ 16384) = false := by rw [decide_eq_false_iff_not]; omega
          by_cases hok : okEn ((a1, a2), (a3, a4)) = true
          · have PPu := Lib.hid (fun W => show Calls Try.prog 39 #[.agg #[.int .i64 a1, .int .i64 a2, .int .i64 a3, .int .i64 a4]] W (Own1 W (putE ((a1, a2), (a3, a4)))) from ren_put_any ((a1, a2), (a3, a4)) W hok)
            rw [show sizeE ((a1, a2), (a3, a4)) = ((putE ((a1, a2), (a3, a4))).length : Int) from if_pos hok] at PSz
            rw [hok] at hea
            generalize putE ((a1, a2), (a3, a4)) = pa at PPu PSz
            clear hok
            go_enter Try.func6, Try.ntmps6
            go_wp2_with (at_builtin; (refine wpList_appK layE (xs := []) (ys := l) _ rfl (.tmp 26) (.tmp 27) _ rfl Try.underlying54 info_en3 rfl HO0.out HR0.out c rfl rfl (by omega) (by decide) HS0.out ?_); intro A1 c1 w1 o1 gr1; have O1 := Lib.hid o1; have G1 := Lib.hid (Grew.by_ gr1); clear o1 gr1)
            have o1 := O1.out
            have gg := G1.out
            rw [← HW.out] at gg
            rw [Nat.zero_add, List.nil_append] at o1
            obtain ⟨g1, -, s1, -⟩ := SlK.of_own layE o1
            have S1 := Lib.hid s1
            have B1 := Lib.hid (show Below w0.heap.size w0 w1 from BE.out.grown gg BE.out.size fun i hi => by have h8 := (World.ownsRow.lt HO0.out i hi).1; have h9 := HSZ.out; omega)
            clear o1 s1 gg O1 G1 HO0 HR0 HS0 BE HSZ
            go_wp2_with fail
            refine (P1.out _ _ _ _ S1.out).mono ?_; rintro e w2 ⟨rfl, b2⟩
            have B2 := Lib.hid (below_trans B1.out b2)
            have S2 := Lib.hid (S1.out.below b2)
            clear b2
            go_wp2_with fail
            refine (P2.out _ B2.out).mono ?_; rintro e w3 ⟨rfl, b3⟩
            have B3 := Lib.hid (below_drew (below_trans B2.out b3))
            have S3 := Lib.hid (show SlK encE w3.drew g1 A1 l from S2.out.below (below_drew b3))
            clear b3
            go_wp2_with fail
            refine wp_region_R (R := RB) (n := 36) (by kernel_rfl) rfl ?_
            have D3 := Lib.hid (Below.refl w3.drew.heap.size w3.drew)
            refine wpAnyR_sole (i := 0) rfl (by kernel_rfl) (fun K hK => ?_); go_simp
            refine (PL.out _).mono ?_; rintro e w4 ⟨rfl, b⟩
            refine hK _ _ b ?_
            clear hK K
            have D4 := Lib.hid (below_trans D3.out b)
            have B4 := Lib.hid (below_trans B3.out D4.out)
            clear b
            refine batchB [1, 2, 3, 4, 5, 6, 7, 8, 10] (fuel := 26) rfl (by kernel_rfl) (by kernel_rfl) (fun _ _ d _ _ h => by cases d <;> exact h) ?_
            (repeat (first | ((with_reducible apply wq0); rfl; rfl; rfl; intro K hK; go_big_quiet_op; refine hK _ ?_; clear hK K) | ((with_reducible apply wq1); rfl; rfl; rfl; rfl; rfl; rfl; intro K hK; go_big_quiet_op; refine hK _ ?_; clear hK K) | ((with_reducible apply wqs); rfl; rfl; rfl; rfl; rfl; rfl; simp only [Act.put, List.setIfInBounds_toArray, List.set_cons_zero, List.set_cons_succ]) | ((with_reducible apply wqu); rfl; rfl; rfl; rfl; rfl; (first | simp only [same, Act.put, List.setIfInBounds_toArray, List.set_cons_zero, List.set_cons_succ] | simp only [Act.put, List.setIfInBounds_toArray, List.set_cons_zero, List.set_cons_succ]))))
            refine wqIdx_load rfl rfl rfl rfl (fun W hW => LA.out W (below_trans B4.out hW)) ?_
            simp only [Act.put, List.setIfInBounds_toArray, List.set_cons_zero, List.set_cons_succ]
            (repeat (first | ((with_reducible apply wq0); rfl; rfl; rfl; intro K hK; go_big_quiet_op; refine hK _ ?_; clear hK K) | ((with_reducible apply wq1); rfl; rfl; rfl; rfl; rfl; rfl; intro K hK; go_big_quiet_op; refine hK _ ?_; clear hK K) | ((with_reducible apply wqs); rfl; rfl; rfl; rfl; rfl; rfl; simp only [Act.put, List.setIfInBounds_toArray, List.set_cons_zero, List.set_cons_succ]) | ((with_reducible apply wqu); rfl; rfl; rfl; rfl; rfl; (first | simp only [same, Act.put, List.setIfInBounds_toArray, List.set_cons_zero, List.set_cons_succ] | simp only [Act.put, List.setIfInBounds_toArray, List.set_cons_zero, List.set_cons_succ]))))
            refine wqIdx_load rfl rfl rfl rfl (fun W hW => LA.out W (below_trans B4.out hW)) ?_
            simp only [Act.put, List.setIfInBounds_toArray, List.set_cons_zero, List.set_cons_succ]
            (repeat (first | ((with_reducible apply wq0); rfl; rfl; rfl; intro K hK; go_big_quiet_op; refine hK _ ?_; clear hK K) | ((with_reducible apply wq1); rfl; rfl; rfl; rfl; rfl; rfl; intro K hK; go_big_quiet_op; refine hK _ ?_; clear hK K) | ((with_reducible apply wqs); rfl; rfl; rfl; rfl; rfl; rfl; simp only [Act.put, List.setIfInBounds_toArray, List.set_cons_zero, List.set_cons_succ]) | ((with_reducible apply wqu); rfl; rfl; rfl; rfl; rfl; (first | simp only [same, Act.put, List.setIfInBounds_toArray, List.set_cons_zero, List.set_cons_succ] | simp only [Act.put, List.setIfInBounds_toArray, List.set_cons_zero, List.set_cons_succ]))))
            refine wqIdx_nil ?_
            refine wpAnyR_sole (i := 9) rfl (by kernel_rfl) (fun K hK => ?_); go_simp
            refine (PCk.out _).mono ?_; rintro e w5 ⟨rfl, b⟩
            refine hK _ _ b ?_
            clear hK K
            have D5 := Lib.hid (below_trans D4.out b)
            have B5 := Lib.hid (below_trans B3.out D5.out)
            clear b
            refine wpAnyR_sole (i := 11) rfl (by kernel_rfl) (fun K hK => ?_); go_simp
            refine (PRc.out _).mono ?_; rintro e w6 ⟨rfl, b⟩
            refine hK _ _ b ?_
            clear hK K
            have D6 := Lib.hid (below_trans D5.out b)
            have B6 := Lib.hid (below_trans B3.out D6.out)
            clear b
            refine batchB [12, 13, 14, 15, 16, 18, 19] (fuel := 17) rfl (by kernel_rfl) (by kernel_rfl) (fun _ _ d _ _ h => by cases d <;> exact h) ?_
            (repeat (first | ((with_reducible apply wq0); rfl; rfl; rfl; intro K hK; go_big_quiet_op; refine hK _ ?_; clear hK K) | ((with_reducible apply wq1); rfl; rfl; rfl; rfl; rfl; rfl; intro K hK; go_big_quiet_op; refine hK _ ?_; clear hK K) | ((with_reducible apply wqs); rfl; rfl; rfl; rfl; rfl; rfl; simp only [Act.put, List.setIfInBounds_toArray, List.set_cons_zero, List.set_cons_succ]) | ((with_reducible apply wqu); rfl; rfl; rfl; rfl; rfl; (first | simp only [same, Act.put, List.setIfInBounds_toArray, List.set_cons_zero, List.set_cons_succ] | simp only [Act.put, List.setIfInBounds_toArray, List.set_cons_zero, List.set_cons_succ]))))
            refine wqIdx_load rfl rfl rfl rfl (fun W hW => LA.out W (below_trans B6.out hW)) ?_
            simp only [Act.put, List.setIfInBounds_toArray, List.set_cons_zero, List.set_cons_succ]
            (repeat (first | ((with_reducible apply wq0); rfl; rfl; rfl; intro K hK; go_big_quiet_op; refine hK _ ?_; clear hK K) | ((with_reducible apply wq1); rfl; rfl; rfl; rfl; rfl; rfl; intro K hK; go_big_quiet_op; refine hK _ ?_; clear hK K) | ((with_reducible apply wqs); rfl; rfl; rfl; rfl; rfl; rfl; simp only [Act.put, List.setIfInBounds_toArray, List.set_cons_zero, List.set_cons_succ]) | ((with_reducible apply wqu); rfl; rfl; rfl; rfl; rfl; (first | simp only [same, Act.put, List.setIfInBounds_toArray, List.set_cons_zero, List.set_cons_succ] | simp only [Act.put, List.setIfInBounds_toArray, List.set_cons_zero, List.set_cons_succ]))))
            refine wqIdx_load rfl rfl rfl rfl (fun W hW => LB.out W (below_trans B6.out hW)) ?_
            simp only [Act.put, List.setIfInBounds_toArray, List.set_cons_zero, List.set_cons_succ]
            (repeat (first | ((with_reducible apply wq0); rfl; rfl; rfl; intro K hK; go_big_quiet_op; refine hK _ ?_; clear hK K) | ((with_reducible apply wq1); rfl; rfl; rfl; rfl; rfl; rfl; intro K hK; go_big_quiet_op; refine hK _ ?_; clear hK K) | ((with_reducible apply wqs); rfl; rfl; rfl; rfl; rfl; rfl; simp only [Act.put, List.setIfInBounds_toArray, List.set_cons_zero, List.set_cons_succ]) | ((with_reducible apply wqu); rfl; rfl; rfl; rfl; rfl; (first | simp only [same, Act.put, List.setIfInBounds_toArray, List.set_cons_zero, List.set_cons_succ] | simp only [Act.put, List.setIfInBounds_toArray, List.set_cons_zero, List.set_cons_succ]))))
            refine wqIdx_load rfl rfl rfl rfl (fun W hW => LA.out W (below_trans B6.out hW)) ?_
            simp only [Act.put, List.setIfInBounds_toArray, List.set_cons_zero, List.set_cons_succ]
            (repeat (first | ((with_reducible apply wq0); rfl; rfl; rfl; intro K hK; go_big_quiet_op; refine hK _ ?_; clear hK K) | ((with_reducible apply wq1); rfl; rfl; rfl; rfl; rfl; rfl; intro K hK; go_big_quiet_op; refine hK _ ?_; clear hK K) | ((with_reducible apply wqs); rfl; rfl; rfl; rfl; rfl; rfl; simp only [Act.put, List.setIfInBounds_toArray, List.set_cons_zero, List.set_cons_succ]) | ((with_reducible apply wqu); rfl; rfl; rfl; rfl; rfl; (first | simp only [same, Act.put, List.setIfInBounds_toArray, List.set_cons_zero, List.set_cons_succ] | simp only [Act.put, List.setIfInBounds_toArray, List.set_cons_zero, List.set_cons_succ]))))
            refine wqIdx_load rfl rfl rfl rfl (fun W hW => LB.out W (below_trans B6.out hW)) ?_
            simp only [Act.put, List.setIfInBounds_toArray, List.set_cons_zero, List.set_cons_succ]
            (repeat (first | ((with_reducible apply wq0); rfl; rfl; rfl; intro K hK; go_big_quiet_op; refine hK _ ?_; clear hK K) | ((with_reducible apply wq1); rfl; rfl; rfl; rfl; rfl; rfl; intro K hK; go_big_quiet_op; refine hK _ ?_; clear hK K) | ((with_reducible apply wqs); rfl; rfl; rfl; rfl; rfl; rfl; simp only [Act.put, List.setIfInBounds_toArray, List.set_cons_zero, List.set_cons_succ]) | ((with_reducible apply wqu); rfl; rfl; rfl; rfl; rfl; (first | simp only [same, Act.put, List.setIfInBounds_toArray, List.set_cons_zero, List.set_cons_succ] | simp only [Act.put, List.setIfInBounds_toArray, List.set_cons_zero, List.set_cons_succ]))))
            refine wqIdx_nil ?_
            refine wpAnyR_sole (i := 17) rfl (by kernel_rfl) (fun K hK => ?_); go_simp
            refine (PCm.out _).mono ?_; rintro e w7 ⟨rfl, b⟩
            refine hK _ _ b ?_
            clear hK K
            have D7 := Lib.hid (below_trans D6.out b)
            have B7 := Lib.hid (below_trans B3.out D7.out)
            clear b
            refine wpAnyR_sole (i := 20) rfl (by kernel_rfl) (fun K hK => ?_); go_simp
            refine (PRm.out _).mono ?_; rintro e w8 ⟨rfl, b⟩
            refine hK _ _ b ?_
            clear hK K
            have D8 := Lib.hid (below_trans D7.out b)
            have B8 := Lib.hid (below_trans B3.out D8.out)
            clear b
            refine batchB [21, 22, 23, 24, 26] (fuel := 10) rfl (by kernel_rfl) (by kernel_rfl) (fun _ _ d _ _ h => by cases d <;> exact h) ?_; (repeat (first | ((with_reducible apply wq0); rfl; rfl; rfl; intro K hK; go_big_quiet_op; refine hK _ ?_; clear hK K) | ((with_reducible apply wq1); rfl; rfl; rfl; rfl; rfl; rfl; intro K hK; go_big_quiet_op; refine hK _ ?_; clear hK K) | ((with_reducible apply wqs); rfl; rfl; rfl; rfl; rfl; rfl; simp only [Act.put, List.setIfInBounds_toArray, List.set_cons_zero, List.set_cons_succ]) | ((with_reducible apply wqu); rfl; rfl; rfl; rfl; rfl; (first | simp only [same, Act.put, List.setIfInBounds_toArray, List.set_cons_zero, List.set_cons_succ] | simp only [Act.put, List.setIfInBounds_toArray, List.set_cons_zero, List.set_cons_succ])))); refine wqIdx_nil ?_
            refine wpAnyR_sole (i := 25) rfl (by kernel_rfl) (fun K hK => ?_); go_simp
            refine (PSo.out _ _ _ _ (S3.out.below D8.out)).mono ?_; rintro e w9 ⟨rfl, b⟩
            refine hK _ _ b ?_
            clear hK K
            have D9 := Lib.hid (below_trans D8.out b)
            have B9 := Lib.hid (below_trans B3.out D9.out)
            clear b
            refine wpAnyR_sole (i := 27) rfl (by kernel_rfl) (fun K hK => ?_); go_simp
            refine (PRs.out _ (B9.out)).mono ?_; rintro e w10 ⟨rfl, b⟩
            refine hK _ _ b ?_
            clear hK K
            have D10 := Lib.hid (below_trans D9.out b)
            have B10 := Lib.hid (below_trans B3.out D10.out)
            clear b
            refine batchB [28, 29, 30, 31, 32] (fuel := 3) rfl (by kernel_rfl) (by kernel_rfl) (fun _ _ d _ _ h => by cases d <;> exact h) ?_; (repeat (first | ((with_reducible apply wq0); rfl; rfl; rfl; intro K hK; go_big_quiet_op; refine hK _ ?_; clear hK K) | ((with_reducible apply wq1); rfl; rfl; rfl; rfl; rfl; rfl; intro K hK; go_big_quiet_op; refine hK _ ?_; clear hK K) | ((with_reducible apply wqs); rfl; rfl; rfl; rfl; rfl; rfl; simp only [Act.put, List.setIfInBounds_toArray, List.set_cons_zero, List.set_cons_succ]) | ((with_reducible apply wqu); rfl; rfl; rfl; rfl; rfl; (first | simp only [same, Act.put, List.setIfInBounds_toArray, List.set_cons_zero, List.set_cons_succ] | simp only [Act.put, List.setIfInBounds_toArray, List.set_cons_zero, List.set_cons_succ])))); refine wqIdx_nil ?_
            refine wpAnyR_sole (i := 33) rfl (by kernel_rfl) (fun K hK => ?_); go_simp
            refine (PSa.out _ _ _ _ _ _ _ (S3.out.below D10.out) (HS.out.below B10.out)).mono ?_; rintro e w11 ⟨rfl, b⟩
            refine hK _ _ b ?_
            clear hK K
            have D11 := Lib.hid (below_trans D10.out b)
            have B11 := Lib.hid (below_trans B3.out D11.out)
            clear b
            refine batchB [34, 35] (fuel := 0) rfl (by kernel_rfl) (by kernel_rfl) (fun _ _ d _ _ h => by cases d <;> exact h) ?_; (repeat (first | ((with_reducible apply wq0); rfl; rfl; rfl; intro K hK; go_big_quiet_op; refine hK _ ?_; clear hK K) | ((with_reducible apply wq1); rfl; rfl; rfl; rfl; rfl; rfl; intro K hK; go_big_quiet_op; refine hK _ ?_; clear hK K) | ((with_reducible apply wqs); rfl; rfl; rfl; rfl; rfl; rfl; simp only [Act.put, List.setIfInBounds_toArray, List.set_cons_zero, List.set_cons_succ]) | ((with_reducible apply wqu); rfl; rfl; rfl; rfl; rfl; (first | simp only [same, Act.put, List.setIfInBounds_toArray, List.set_cons_zero, List.set_cons_succ] | simp only [Act.put, List.setIfInBounds_toArray, List.set_cons_zero, List.set_cons_succ])))); refine wqIdx_nil ?_
            refine wpAnyR_done (by kernel_rfl) ?_ _
            obtain ⟨q0, q1, q2, q3⟩ := (KA.out.below B11.out).four
            go_wp2_with fail
            refine (PRc.out _).mono ?_; rintro e w12 ⟨rfl, b⟩
            have D12 := Lib.hid (below_trans D11.out b)
            have B12 := Lib.hid (below_trans B3.out D12.out)
            clear b q0 q1 q2 q3
            obtain ⟨q0, q1, q2, q3⟩ := (KA.out.below B12.out).four
            go_wp2_with fail
            refine (PPu.out _).mono ?_; rintro e w13 ⟨v13, rfl, o13, b⟩
            obtain ⟨A13, c13, rfl⟩ := own_form o13
            have D13 := Lib.hid (below_trans D12.out b)
            have B13 := Lib.hid (below_trans B3.out D13.out)
            clear b q0 q1 q2 q3 o13
            obtain ⟨q0, q1, q2, q3⟩ := (KA.out.below B13.out).four
            go_wp2_with fail
            refine (PSz.out _).mono ?_; rintro e w14 ⟨rfl, b⟩
            have D14 := Lib.hid (below_trans D13.out b)
            have B14 := Lib.hid (below_trans B3.out D14.out)
            clear b q0 q1 q2 q3
            go_wp2
            go_ret
            exact ⟨rfl, below_trans BA.out B14.out⟩
          · rw [show sizeE ((a1, a2), (a3, a4)) = 0 from if_neg hok] at PSz
            rw [show okEn ((a1, a2), (a3, a4)) = false by simpa using hok] at hea
            clear hok
            go_enter Try.func6, Try.ntmps6
            go_wp2_with (at_builtin; (refine wpList_appK layE (xs := []) (ys := l) _ rfl (.tmp 26) (.tmp 27) _ rfl Try.underlying54 info_en3 rfl HO0.out HR0.out c rfl rfl (by omega) (by decide) HS0.out ?_); intro A1 c1 w1 o1 gr1; have O1 := Lib.hid o1; have G1 := Lib.hid (Grew.by_ gr1); clear o1 gr1)
            have o1 := O1.out
            have gg := G1.out
            rw [← HW.out] at gg
            rw [Nat.zero_add, List.nil_append] at o1
            obtain ⟨g1, -, s1, -⟩ := SlK.of_own layE o1
            have S1 := Lib.hid s1
            have B1 := Lib.hid (show Below w0.heap.size w0 w1 from BE.out.grown gg BE.out.size fun i hi => by have h8 := (World.ownsRow.lt HO0.out i hi).1; have h9 := HSZ.out; omega)
            clear o1 s1 gg O1 G1 HO0 HR0 HS0 BE HSZ
            go_wp2_with fail
            refine (P1.out _ _ _ _ S1.out).mono ?_; rintro e w2 ⟨rfl, b2⟩
            have B2 := Lib.hid (below_trans B1.out b2)
            have S2 := Lib.hid (S1.out.below b2)
            clear b2
            go_wp2_with fail
            refine (P2.out _ B2.out).mono ?_; rintro e w3 ⟨rfl, b3⟩
            have B3 := Lib.hid (below_drew (below_trans B2.out b3))
            have S3 := Lib.hid (show SlK encE w3.drew g1 A1 l from S2.out.below (below_drew b3))
            clear b3
            go_wp2_with fail
            refine wp_region_R (R := RB) (n := 36) (by kernel_rfl) rfl ?_
            have D3 := Lib.hid (Below.refl w3.drew.heap.size w3.drew)
            refine wpAnyR_sole (i := 0) rfl (by kernel_rfl) (fun K hK => ?_); go_simp
            refine (PL.out _).mono ?_; rintro e w4 ⟨rfl, b⟩
            refine hK _ _ b ?_
            clear hK K
            have D4 := Lib.hid (below_trans D3.out b)
            have B4 := Lib.hid (below_trans B3.out D4.out)
            clear b
            refine batchB [1, 2, 3, 4, 5, 6, 7, 8, 10] (fuel := 26) rfl (by kernel_rfl) (by kernel_rfl) (fun _ _ d _ _ h => by cases d <;> exact h) ?_
            (repeat (first | ((with_reducible apply wq0); rfl; rfl; rfl; intro K hK; go_big_quiet_op; refine hK _ ?_; clear hK K) | ((with_reducible apply wq1); rfl; rfl; rfl; rfl; rfl; rfl; intro K hK; go_big_quiet_op; refine hK _ ?_; clear hK K) | ((with_reducible apply wqs); rfl; rfl; rfl; rfl; rfl; rfl; simp only [Act.put, List.setIfInBounds_toArray, List.set_cons_zero, List.set_cons_succ]) | ((with_reducible apply wqu); rfl; rfl; rfl; rfl; rfl; (first | simp only [same, Act.put, List.setIfInBounds_toArray, List.set_cons_zero, List.set_cons_succ] | simp only [Act.put, List.setIfInBounds_toArray, List.set_cons_zero, List.set_cons_succ]))))
            refine wqIdx_load rfl rfl rfl rfl (fun W hW => LA.out W (below_trans B4.out hW)) ?_
            simp only [Act.put, List.setIfInBounds_toArray, List.set_cons_zero, List.set_cons_succ]
            (repeat (first | ((with_reducible apply wq0); rfl; rfl; rfl; intro K hK; go_big_quiet_op; refine hK _ ?_; clear hK K) | ((with_reducible apply wq1); rfl; rfl; rfl; rfl; rfl; rfl; intro K hK; go_big_quiet_op; refine hK _ ?_; clear hK K) | ((with_reducible apply wqs); rfl; rfl; rfl; rfl; rfl; rfl; simp only [Act.put, List.setIfInBounds_toArray, List.set_cons_zero, List.set_cons_succ]) | ((with_reducible apply wqu); rfl; rfl; rfl; rfl; rfl; (first | simp only [same, Act.put, List.setIfInBounds_toArray, List.set_cons_zero, List.set_cons_succ] | simp only [Act.put, List.setIfInBounds_toArray, List.set_cons_zero, List.set_cons_succ]))))
            refine wqIdx_load rfl rfl rfl rfl (fun W hW => LA.out W (below_trans B4.out hW)) ?_
            simp only [Act.put, List.setIfInBounds_toArray, List.set_cons_zero, List.set_cons_succ]
            (repeat (first | ((with_reducible apply wq0); rfl; rfl; rfl; intro K hK; go_big_quiet_op; refine hK _ ?_; clear hK K) | ((with_reducible apply wq1); rfl; rfl; rfl; rfl; rfl; rfl; intro K hK; go_big_quiet_op; refine hK _ ?_; clear hK K) | ((with_reducible apply wqs); rfl; rfl; rfl; rfl; rfl; rfl; simp only [Act.put, List.setIfInBounds_toArray, List.set_cons_zero, List.set_cons_succ]) | ((with_reducible apply wqu); rfl; rfl; rfl; rfl; rfl; (first | simp only [same, Act.put, List.setIfInBounds_toArray, List.set_cons_zero, List.set_cons_succ] | simp only [Act.put, List.setIfInBounds_toArray, List.set_cons_zero, List.set_cons_succ]))))
            refine wqIdx_nil ?_
            refine wpAnyR_sole (i := 9) rfl (by kernel_rfl) (fun K hK => ?_); go_simp
            refine (PCk.out _).mono ?_; rintro e w5 ⟨rfl, b⟩
            refine hK _ _ b ?_
            clear hK K
            have D5 := Lib.hid (below_trans D4.out b)
            have B5 := Lib.hid (below_trans B3.out D5.out)
            clear b
            refine wpAnyR_sole (i := 11) rfl (by kernel_rfl) (fun K hK => ?_); go_simp
            refine (PRc.out _).mono ?_; rintro e w6 ⟨rfl, b⟩
            refine hK _ _ b ?_
            clear hK K
            have D6 := Lib.hid (below_trans D5.out b)
            have B6 := Lib.hid (below_trans B3.out D6.out)
            clear b
            refine batchB [12, 13, 14, 15, 16, 18, 19] (fuel := 17) rfl (by kernel_rfl) (by kernel_rfl) (fun _ _ d _ _ h => by cases d <;> exact h) ?_
            (repeat (first | ((with_reducible apply wq0); rfl; rfl; rfl; intro K hK; go_big_quiet_op; refine hK _ ?_; clear hK K) | ((with_reducible apply wq1); rfl; rfl; rfl; rfl; rfl; rfl; intro K hK; go_big_quiet_op; refine hK _ ?_; clear hK K) | ((with_reducible apply wqs); rfl; rfl; rfl; rfl; rfl; rfl; simp only [Act.put, List.setIfInBounds_toArray, List.set_cons_zero, List.set_cons_succ]) | ((with_reducible apply wqu); rfl; rfl; rfl; rfl; rfl; (first | simp only [same, Act.put, List.setIfInBounds_toArray, List.set_cons_zero, List.set_cons_succ] | simp only [Act.put, List.setIfInBounds_toArray, List.set_cons_zero, List.set_cons_succ]))))
            refine wqIdx_load rfl rfl rfl rfl (fun W hW => LA.out W (below_trans B6.out hW)) ?_
            simp only [Act.put, List.setIfInBounds_toArray, List.set_cons_zero, List.set_cons_succ]
            (repeat (first | ((with_reducible apply wq0); rfl; rfl; rfl; intro K hK; go_big_quiet_op; refine hK _ ?_; clear hK K) | ((with_reducible apply wq1); rfl; rfl; rfl; rfl; rfl; rfl; intro K hK; go_big_quiet_op; refine hK _ ?_; clear hK K) | ((with_reducible apply wqs); rfl; rfl; rfl; rfl; rfl; rfl; simp only [Act.put, List.setIfInBounds_toArray, List.set_cons_zero, List.set_cons_succ]) | ((with_reducible apply wqu); rfl; rfl; rfl; rfl; rfl; (first | simp only [same, Act.put, List.setIfInBounds_toArray, List.set_cons_zero, List.set_cons_succ] | simp only [Act.put, List.setIfInBounds_toArray, List.set_cons_zero, List.set_cons_succ]))))
            refine wqIdx_load rfl rfl rfl rfl (fun W hW => LB.out W (below_trans B6.out hW)) ?_
            simp only [Act.put, List.setIfInBounds_toArray, List.set_cons_zero, List.set_cons_succ]
            (repeat (first | ((with_reducible apply wq0); rfl; rfl; rfl; intro K hK; go_big_quiet_op; refine hK _ ?_; clear hK K) | ((with_reducible apply wq1); rfl; rfl; rfl; rfl; rfl; rfl; intro K hK; go_big_quiet_op; refine hK _ ?_; clear hK K) | ((with_reducible apply wqs); rfl; rfl; rfl; rfl; rfl; rfl; simp only [Act.put, List.setIfInBounds_toArray, List.set_cons_zero, List.set_cons_succ]) | ((with_reducible apply wqu); rfl; rfl; rfl; rfl; rfl; (first | simp only [same, Act.put, List.setIfInBounds_toArray, List.set_cons_zero, List.set_cons_succ] | simp only [Act.put, List.setIfInBounds_toArray, List.set_cons_zero, List.set_cons_succ]))))
            refine wqIdx_load rfl rfl rfl rfl (fun W hW => LA.out W (below_trans B6.out hW)) ?_
            simp only [Act.put, List.setIfInBounds_toArray, List.set_cons_zero, List.set_cons_succ]
            (repeat (first | ((with_reducible apply wq0); rfl; rfl; rfl; intro K hK; go_big_quiet_op; refine hK _ ?_; clear hK K) | ((with_reducible apply wq1); rfl; rfl; rfl; rfl; rfl; rfl; intro K hK; go_big_quiet_op; refine hK _ ?_; clear hK K) | ((with_reducible apply wqs); rfl; rfl; rfl; rfl; rfl; rfl; simp only [Act.put, List.setIfInBounds_toArray, List.set_cons_zero, List.set_cons_succ]) | ((with_reducible apply wqu); rfl; rfl; rfl; rfl; rfl; (first | simp only [same, Act.put, List.setIfInBounds_toArray, List.set_cons_zero, List.set_cons_succ] | simp only [Act.put, List.setIfInBounds_toArray, List.set_cons_zero, List.set_cons_succ]))))
            refine wqIdx_load rfl rfl rfl rfl (fun W hW => LB.out W (below_trans B6.out hW)) ?_
            simp only [Act.put, List.setIfInBounds_toArray, List.set_cons_zero, List.set_cons_succ]
            (repeat (first | ((with_reducible apply wq0); rfl; rfl; rfl; intro K hK; go_big_quiet_op; refine hK _ ?_; clear hK K) | ((with_reducible apply wq1); rfl; rfl; rfl; rfl; rfl; rfl; intro K hK; go_big_quiet_op; refine hK _ ?_; clear hK K) | ((with_reducible apply wqs); rfl; rfl; rfl; rfl; rfl; rfl; simp only [Act.put, List.setIfInBounds_toArray, List.set_cons_zero, List.set_cons_succ]) | ((with_reducible apply wqu); rfl; rfl; rfl; rfl; rfl; (first | simp only [same, Act.put, List.setIfInBounds_toArray, List.set_cons_zero, List.set_cons_succ] | simp only [Act.put, List.setIfInBounds_toArray, List.set_cons_zero, List.set_cons_succ]))))
            refine wqIdx_nil ?_
            refine wpAnyR_sole (i := 17) rfl (by kernel_rfl) (fun K hK => ?_); go_simp
            refine (PCm.out _).mono ?_; rintro e w7 ⟨rfl, b⟩
            refine hK _ _ b ?_
            clear hK K
            have D7 := Lib.hid (below_trans D6.out b)
            have B7 := Lib.hid (below_trans B3.out D7.out)
            clear b
            refine wpAnyR_sole (i := 20) rfl (by kernel_rfl) (fun K hK => ?_); go_simp
            refine (PRm.out _).mono ?_; rintro e w8 ⟨rfl, b⟩
            refine hK _ _ b ?_
            clear hK K
            have D8 := Lib.hid (below_trans D7.out b)
            have B8 := Lib.hid (below_trans B3.out D8.out)
            clear b
            refine batchB [21, 22, 23, 24, 26] (fuel := 10) rfl (by kernel_rfl) (by kernel_rfl) (fun _ _ d _ _ h => by cases d <;> exact h) ?_; (repeat (first | ((with_reducible apply wq0); rfl; rfl; rfl; intro K hK; go_big_quiet_op; refine hK _ ?_; clear hK K) | ((with_reducible apply wq1); rfl; rfl; rfl; rfl; rfl; rfl; intro K hK; go_big_quiet_op; refine hK _ ?_; clear hK K) | ((with_reducible apply wqs); rfl; rfl; rfl; rfl; rfl; rfl; simp only [Act.put, List.setIfInBounds_toArray, List.set_cons_zero, List.set_cons_succ]) | ((with_reducible apply wqu); rfl; rfl; rfl; rfl; rfl; (first | simp only [same, Act.put, List.setIfInBounds_toArray, List.set_cons_zero, List.set_cons_succ] | simp only [Act.put, List.setIfInBounds_toArray, List.set_cons_zero, List.set_cons_succ])))); refine wqIdx_nil ?_
            refine wpAnyR_sole (i := 25) rfl (by kernel_rfl) (fun K hK => ?_); go_simp
            refine (PSo.out _ _ _ _ (S3.out.below D8.out)).mono ?_; rintro e w9 ⟨rfl, b⟩
            refine hK _ _ b ?_
            clear hK K
            have D9 := Lib.hid (below_trans D8.out b)
            have B9 := Lib.hid (below_trans B3.out D9.out)
            clear b
            refine wpAnyR_sole (i := 27) rfl (by kernel_rfl) (fun K hK => ?_); go_simp
            refine (PRs.out _ (B9.out)).mono ?_; rintro e w10 ⟨rfl, b⟩
            refine hK _ _ b ?_
            clear hK K
            have D10 := Lib.hid (below_trans D9.out b)
            have B10 := Lib.hid (below_trans B3.out D10.out)
            clear b
            refine batchB [28, 29, 30, 31, 32] (fuel := 3) rfl (by kernel_rfl) (by kernel_rfl) (fun _ _ d _ _ h => by cases d <;> exact h) ?_; (repeat (first | ((with_reducible apply wq0); rfl; rfl; rfl; intro K hK; go_big_quiet_op; refine hK _ ?_; clear hK K) | ((with_reducible apply wq1); rfl; rfl; rfl; rfl; rfl; rfl; intro K hK; go_big_quiet_op; refine hK _ ?_; clear hK K) | ((with_reducible apply wqs); rfl; rfl; rfl; rfl; rfl; rfl; simp only [Act.put, List.setIfInBounds_toArray, List.set_cons_zero, List.set_cons_succ]) | ((with_reducible apply wqu); rfl; rfl; rfl; rfl; rfl; (first | simp only [same, Act.put, List.setIfInBounds_toArray, List.set_cons_zero, List.set_cons_succ] | simp only [Act.put, List.setIfInBounds_toArray, List.set_cons_zero, List.set_cons_succ])))); refine wqIdx_nil ?_
            refine wpAnyR_sole (i := 33) rfl (by kernel_rfl) (fun K hK => ?_); go_simp
            refine (PSa.out _ _ _ _ _ _ _ (S3.out.below D10.out) (HS.out.below B10.out)).mono ?_; rintro e w11 ⟨rfl, b⟩
            refine hK _ _ b ?_
            clear hK K
            have D11 := Lib.hid (below_trans D10.out b)
            have B11 := Lib.hid (below_trans B3.out D11.out)
            clear b
            refine batchB [34, 35] (fuel := 0) rfl (by kernel_rfl) (by kernel_rfl) (fun _ _ d _ _ h => by cases d <;> exact h) ?_; (repeat (first | ((with_reducible apply wq0); rfl; rfl; rfl; intro K hK; go_big_quiet_op; refine hK _ ?_; clear hK K) | ((with_reducible apply wq1); rfl; rfl; rfl; rfl; rfl; rfl; intro K hK; go_big_quiet_op; refine hK _ ?_; clear hK K) | ((with_reducible apply wqs); rfl; rfl; rfl; rfl; rfl; rfl; simp only [Act.put, List.setIfInBounds_toArray, List.set_cons_zero, List.set_cons_succ]) | ((with_reducible apply wqu); rfl; rfl; rfl; rfl; rfl; (first | simp only [same, Act.put, List.setIfInBounds_toArray, List.set_cons_zero, List.set_cons_succ] | simp only [Act.put, List.setIfInBounds_toArray, List.set_cons_zero, List.set_cons_succ])))); refine wqIdx_nil ?_
            refine wpAnyR_done (by kernel_rfl) ?_ _
            obtain ⟨q0, q1, q2, q3⟩ := (KA.out.below B11.out).four
            go_wp2_with fail
            refine (PRc.out _).mono ?_; rintro e w12 ⟨rfl, b⟩
            have D12 := Lib.hid (below_trans D11.out b)
            have B12 := Lib.hid (below_trans B3.out D12.out)
            clear b q0 q1 q2 q3
            obtain ⟨q0, q1, q2, q3⟩ := (KA.out.below B12.out).four
            go_wp2_with fail
            refine (PSz.out _).mono ?_; rintro e w13 ⟨rfl, b⟩
            have D13 := Lib.hid (below_trans D12.out b)
            have B13 := Lib.hid (below_trans B3.out D13.out)
            clear b q0 q1 q2 q3
            go_wp2
            go_ret
            exact ⟨rfl, below_trans BA.out B13.out⟩
        · have d1 : decide ((500 : Int) < (l.length : Int)) = false := by rw [decide_eq_false_iff_not]; omega
          by_cases hok : okEn ((a1, a2), (a3, a4)) = true
          · have PPu := Lib.hid (fun W => show Calls Try.prog 39 #[.agg #[.int .i64 a1, .int .i64 a2, .int .i64 a3, .int .i64 a4]] W (Own1 W (putE ((a1, a2), (a3, a4)))) from ren_put_any ((a1, a2), (a3, a4)) W hok)
            rw [show sizeE ((a1, a2), (a3, a4)) = ((putE ((a1, a2), (a3, a4))).length : Int) from if_pos hok] at PSz
            rw [hok] at hea
            generalize putE ((a1, a2), (a3, a4)) = pa at PPu PSz
            clear hok
            go_enter Try.func6, Try.ntmps6
            go_wp2_with (at_builtin; (refine wpList_appK layE (xs := []) (ys := l) _ rfl (.tmp 26) (.tmp 27) _ rfl Try.underlying54 info_en3 rfl HO0.out HR0.out c rfl rfl (by omega) (by decide) HS0.out ?_); intro A1 c1 w1 o1 gr1; have O1 := Lib.hid o1; have G1 := Lib.hid (Grew.by_ gr1); clear o1 gr1)
            have o1 := O1.out
            have gg := G1.out
            rw [← HW.out] at gg
            rw [Nat.zero_add, List.nil_append] at o1
            obtain ⟨g1, -, s1, -⟩ := SlK.of_own layE o1
            have S1 := Lib.hid s1
            have B1 := Lib.hid (show Below w0.heap.size w0 w1 from BE.out.grown gg BE.out.size fun i hi => by have h8 := (World.ownsRow.lt HO0.out i hi).1; have h9 := HSZ.out; omega)
            clear o1 s1 gg O1 G1 HO0 HR0 HS0 BE HSZ
            go_wp2_with fail
            refine (P1.out _ _ _ _ S1.out).mono ?_; rintro e w2 ⟨rfl, b2⟩
            have B2 := Lib.hid (below_trans B1.out b2)
            have S2 := Lib.hid (S1.out.below b2)
            clear b2
            go_wp2_with fail
            refine (P2.out _ B2.out).mono ?_; rintro e w3 ⟨rfl, b3⟩
            have B3 := Lib.hid (below_drew (below_trans B2.out b3))
            have S3 := Lib.hid (show SlK encE w3.drew g1 A1 l from S2.out.below (below_drew b3))
            clear b3
            go_wp2_with fail
            refine wp_region_R (R := RB) (n := 36) (by kernel_rfl) rfl ?_
            have D3 := Lib.hid (Below.refl w3.drew.heap.size w3.drew)
            refine wpAnyR_sole (i := 0) rfl (by kernel_rfl) (fun K hK => ?_); go_simp
            refine (PL.out _).mono ?_; rintro e w4 ⟨rfl, b⟩
            refine hK _ _ b ?_
            clear hK K
            have D4 := Lib.hid (below_trans D3.out b)
            have B4 := Lib.hid (below_trans B3.out D4.out)
            clear b
            refine batchB [1, 2, 3, 4, 5, 6, 7, 8, 10] (fuel := 26) rfl (by kernel_rfl) (by kernel_rfl) (fun _ _ d _ _ h => by cases d <;> exact h) ?_
            (repeat (first | ((with_reducible apply wq0); rfl; rfl; rfl; intro K hK; go_big_quiet_op; refine hK _ ?_; clear hK K) | ((with_reducible apply wq1); rfl; rfl; rfl; rfl; rfl; rfl; intro K hK; go_big_quiet_op; refine hK _ ?_; clear hK K) | ((with_reducible apply wqs); rfl; rfl; rfl; rfl; rfl; rfl; simp only [Act.put, List.setIfInBounds_toArray, List.set_cons_zero, List.set_cons_succ]) | ((with_reducible apply wqu); rfl; rfl; rfl; rfl; rfl; (first | simp only [same, Act.put, List.setIfInBounds_toArray, List.set_cons_zero, List.set_cons_succ] | simp only [Act.put, List.setIfInBounds_toArray, List.set_cons_zero, List.set_cons_succ]))))
            refine wqIdx_load rfl rfl rfl rfl (fun W hW => LA.out W (below_trans B4.out hW)) ?_
            simp only [Act.put, List.setIfInBounds_toArray, List.set_cons_zero, List.set_cons_succ]
            (repeat (first | ((with_reducible apply wq0); rfl; rfl; rfl; intro K hK; go_big_quiet_op; refine hK _ ?_; clear hK K) | ((with_reducible apply wq1); rfl; rfl; rfl; rfl; rfl; rfl; intro K hK; go_big_quiet_op; refine hK _ ?_; clear hK K) | ((with_reducible apply wqs); rfl; rfl; rfl; rfl; rfl; rfl; simp only [Act.put, List.setIfInBounds_toArray, List.set_cons_zero, List.set_cons_succ]) | ((with_reducible apply wqu); rfl; rfl; rfl; rfl; rfl; (first | simp only [same, Act.put, List.setIfInBounds_toArray, List.set_cons_zero, List.set_cons_succ] | simp only [Act.put, List.setIfInBounds_toArray, List.set_cons_zero, List.set_cons_succ]))))
            refine wqIdx_load rfl rfl rfl rfl (fun W hW => LA.out W (below_trans B4.out hW)) ?_
            simp only [Act.put, List.setIfInBounds_toArray, List.set_cons_zero, List.set_cons_succ]
            (repeat (first | ((with_reducible apply wq0); rfl; rfl; rfl; intro K hK; go_big_quiet_op; refine hK _ ?_; clear hK K) | ((with_reducible apply wq1); rfl; rfl; rfl; rfl; rfl; rfl; intro K hK; go_big_quiet_op; refine hK _ ?_; clear hK K) | ((with_reducible apply wqs); rfl; rfl; rfl; rfl; rfl; rfl; simp only [Act.put, List.setIfInBounds_toArray, List.set_cons_zero, List.set_cons_succ]) | ((with_reducible apply wqu); rfl; rfl; rfl; rfl; rfl; (first | simp only [same, Act.put, List.setIfInBounds_toArray, List.set_cons_zero, List.set_cons_succ] | simp only [Act.put, List.setIfInBounds_toArray, List.set_cons_zero, List.set_cons_succ]))))
            refine wqIdx_nil ?_
            refine wpAnyR_sole (i := 9) rfl (by kernel_rfl) (fun K hK => ?_); go_simp
            refine (PCk.out _).mono ?_; rintro e w5 ⟨rfl, b⟩
            refine hK _ _ b ?_
            clear hK K
            have D5 := Lib.hid (below_trans D4.out b)
            have B5 := Lib.hid (below_trans B3.out D5.out)
            clear b
            refine wpAnyR_sole (i := 11) rfl (by kernel_rfl) (fun K hK => ?_); go_simp
            refine (PRc.out _).mono ?_; rintro e w6 ⟨rfl, b⟩
            refine hK _ _ b ?_
            clear hK K
            have D6 := Lib.hid (below_trans D5.out b)
            have B6 := Lib.hid (below_trans B3.out D6.out)
            clear b
            refine batchB [12, 13, 14, 15, 16, 18, 19] (fuel := 17) rfl (by kernel_rfl) (by kernel_rfl) (fun _ _ d _ _ h => by cases d <;> exact h) ?_
            (repeat (first | ((with_reducible apply wq0); rfl; rfl; rfl; intro K hK; go_big_quiet_op; refine hK _ ?_; clear hK K) | ((with_reducible apply wq1); rfl; rfl; rfl; rfl; rfl; rfl; intro K hK; go_big_quiet_op; refine hK _ ?_; clear hK K) | ((with_reducible apply wqs); rfl; rfl; rfl; rfl; rfl; rfl; simp only [Act.put, List.setIfInBounds_toArray, List.set_cons_zero, List.set_cons_succ]) | ((with_reducible apply wqu); rfl; rfl; rfl; rfl; rfl; (first | simp only [same, Act.put, List.setIfInBounds_toArray, List.set_cons_zero, List.set_cons_succ] | simp only [Act.put, List.setIfInBounds_toArray, List.set_cons_zero, List.set_cons_succ]))))
            refine wqIdx_load rfl rfl rfl rfl (fun W hW => LA.out W (below_trans B6.out hW)) ?_
            simp only [Act.put, List.setIfInBounds_toArray, List.set_cons_zero, List.set_cons_succ]
            (repeat (first | ((with_reducible apply wq0); rfl; rfl; rfl; intro K hK; go_big_quiet_op; refine hK _ ?_; clear hK K) | ((with_reducible apply wq1); rfl; rfl; rfl; rfl; rfl; rfl; intro K hK; go_big_quiet_op; refine hK _ ?_; clear hK K) | ((with_reducible apply wqs); rfl; rfl; rfl; rfl; rfl; rfl; simp only [Act.put, List.setIfInBounds_toArray, List.set_cons_zero, List.set_cons_succ]) | ((with_reducible apply wqu); rfl; rfl; rfl; rfl; rfl; (first | simp only [same, Act.put, List.setIfInBounds_toArray, List.set_cons_zero, List.set_cons_succ] | simp only [Act.put, List.setIfInBounds_toArray, List.set_cons_zero, List.set_cons_succ]))))
            refine wqIdx_load rfl rfl rfl rfl (fun W hW => LB.out W (below_trans B6.out hW)) ?_
            simp only [Act.put, List.setIfInBounds_toArray, List.set_cons_zero, List.set_cons_succ]
            (repeat (first | ((with_reducible apply wq0); rfl; rfl; rfl; intro K hK; go_big_quiet_op; refine hK _ ?_; clear hK K) | ((with_reducible apply wq1); rfl; rfl; rfl; rfl; rfl; rfl; intro K hK; go_big_quiet_op; refine hK _ ?_; clear hK K) | ((with_reducible apply wqs); rfl; rfl; rfl; rfl; rfl; rfl; simp only [Act.put, List.setIfInBounds_toArray, List.set_cons_zero, List.set_cons_succ]) | ((with_reducible apply wqu); rfl; rfl; rfl; rfl; rfl; (first | simp only [same, Act.put, List.setIfInBounds_toArray, List.set_cons_zero, List.set_cons_succ] | simp only [Act.put, List.setIfInBounds_toArray, List.set_cons_zero, List.set_cons_succ]))))
            refine wqIdx_load rfl rfl rfl rfl (fun W hW => LA.out W (below_trans B6.out hW)) ?_
            simp only [Act.put, List.setIfInBounds_toArray, List.set_cons_zero, List.set_cons_succ]
            (repeat (first | ((with_reducible apply wq0); rfl; rfl; rfl; intro K hK; go_big_quiet_op; refine hK _ ?_; clear hK K) | ((with_reducible apply wq1); rfl; rfl; rfl; rfl; rfl; rfl; intro K hK; go_big_quiet_op; refine hK _ ?_; clear hK K) | ((with_reducible apply wqs); rfl; rfl; rfl; rfl; rfl; rfl; simp only [Act.put, List.setIfInBounds_toArray, List.set_cons_zero, List.set_cons_succ]) | ((with_reducible apply wqu); rfl; rfl; rfl; rfl; rfl; (first | simp only [same, Act.put, List.setIfInBounds_toArray, List.set_cons_zero, List.set_cons_succ] | simp only [Act.put, List.setIfInBounds_toArray, List.set_cons_zero, List.set_cons_succ]))))
            refine wqIdx_load rfl rfl rfl rfl (fun W hW => LB.out W (below_trans B6.out hW)) ?_
            simp only [Act.put, List.setIfInBounds_toArray, List.set_cons_zero, List.set_cons_succ]
            (repeat (first | ((with_reducible apply wq0); rfl; rfl; rfl; intro K hK; go_big_quiet_op; refine hK _ ?_; clear hK K) | ((with_reducible apply wq1); rfl; rfl; rfl; rfl; rfl; rfl; intro K hK; go_big_quiet_op; refine hK _ ?_; clear hK K) | ((with_reducible apply wqs); rfl; rfl; rfl; rfl; rfl; rfl; simp only [Act.put, List.setIfInBounds_toArray, List.set_cons_zero, List.set_cons_succ]) | ((with_reducible apply wqu); rfl; rfl; rfl; rfl; rfl; (first | simp only [same, Act.put, List.setIfInBounds_toArray, List.set_cons_zero, List.set_cons_succ] | simp only [Act.put, List.setIfInBounds_toArray, List.set_cons_zero, List.set_cons_succ]))))
            refine wqIdx_nil ?_
            refine wpAnyR_sole (i := 17) rfl (by kernel_rfl) (fun K hK => ?_); go_simp
            refine (PCm.out _).mono ?_; rintro e w7 ⟨rfl, b⟩
            refine hK _ _ b ?_
            clear hK K
            have D7 := Lib.hid (below_trans D6.out b)
            have B7 := Lib.hid (below_trans B3.out D7.out)
            clear b
            refine wpAnyR_sole (i := 20) rfl (by kernel_rfl) (fun K hK => ?_); go_simp
            refine (PRm.out _).mono ?_; rintro e w8 ⟨rfl, b⟩
            refine hK _ _ b ?_
            clear hK K
            have D8 := Lib.hid (below_trans D7.out b)
            have B8 := Lib.hid (below_trans B3.out D8.out)
            clear b
            refine batchB [21, 22, 23, 24, 26] (fuel := 10) rfl (by kernel_rfl) (by kernel_rfl) (fun _ _ d _ _ h => by cases d <;> exact h) ?_; (repeat (first | ((with_reducible apply wq0); rfl; rfl; rfl; intro K hK; go_big_quiet_op; refine hK _ ?_; clear hK K) | ((with_reducible apply wq1); rfl; rfl; rfl; rfl; rfl; rfl; intro K hK; go_big_quiet_op; refine hK _ ?_; clear hK K) | ((with_reducible apply wqs); rfl; rfl; rfl; rfl; rfl; rfl; simp only [Act.put, List.setIfInBounds_toArray, List.set_cons_zero, List.set_cons_succ]) | ((with_reducible apply wqu); rfl; rfl; rfl; rfl; rfl; (first | simp only [same, Act.put, List.setIfInBounds_toArray, List.set_cons_zero, List.set_cons_succ] | simp only [Act.put, List.setIfInBounds_toArray, List.set_cons_zero, List.set_cons_succ])))); refine wqIdx_nil ?_
            refine wpAnyR_sole (i := 25) rfl (by kernel_rfl) (fun K hK => ?_); go_simp
            refine (PSo.out _ _ _ _ (S3.out.below D8.out)).mono ?_; rintro e w9 ⟨rfl, b⟩
            refine hK _ _ b ?_
            clear hK K
            have D9 := Lib.hid (below_trans D8.out b)
            have B9 := Lib.hid (below_trans B3.out D9.out)
            clear b
            refine wpAnyR_sole (i := 27) rfl (by kernel_rfl) (fun K hK => ?_); go_simp
            refine (PRs.out _ (B9.out)).mono ?_; rintro e w10 ⟨rfl, b⟩
            refine hK _ _ b ?_
            clear hK K
            have D10 := Lib.hid (below_trans D9.out b)
            have B10 := Lib.hid (below_trans B3.out D10.out)
            clear b
            refine batchB [28, 29, 30, 31, 32] (fuel := 3) rfl (by kernel_rfl) (by kernel_rfl) (fun _ _ d _ _ h => by cases d <;> exact h) ?_; (repeat (first | ((with_reducible apply wq0); rfl; rfl; rfl; intro K hK; go_big_quiet_op; refine hK _ ?_; clear hK K) | ((with_reducible apply wq1); rfl; rfl; rfl; rfl; rfl; rfl; intro K hK; go_big_quiet_op; refine hK _ ?_; clear hK K) | ((with_reducible apply wqs); rfl; rfl; rfl; rfl; rfl; rfl; simp only [Act.put, List.setIfInBounds_toArray, List.set_cons_zero, List.set_cons_succ]) | ((with_reducible apply wqu); rfl; rfl; rfl; rfl; rfl; (first | simp only [same, Act.put, List.setIfInBounds_toArray, List.set_cons_zero, List.set_cons_succ] | simp only [Act.put, List.setIfInBounds_toArray, List.set_cons_zero, List.set_cons_succ])))); refine wqIdx_nil ?_
            refine wpAnyR_sole (i := 33) rfl (by kernel_rfl) (fun K hK => ?_); go_simp
            refine (PSa.out _ _ _ _ _ _ _ (S3.out.below D10.out) (HS.out.below B10.out)).mono ?_; rintro e w11 ⟨rfl, b⟩
            refine hK _ _ b ?_
            clear hK K
            have D11 := Lib.hid (below_trans D10.out b)
            have B11 := Lib.hid (below_trans B3.out D11.out)
            clear b
            refine batchB [34, 35] (fuel := 0) rfl (by kernel_rfl) (by kernel_rfl) (fun _ _ d _ _ h => by cases d <;> exact h) ?_; (repeat (first | ((with_reducible apply wq0); rfl; rfl; rfl; intro K hK; go_big_quiet_op; refine hK _ ?_; clear hK K) | ((with_reducible apply wq1); rfl; rfl; rfl; rfl; rfl; rfl; intro K hK; go_big_quiet_op; refine hK _ ?_; clear hK K) | ((with_reducible apply wqs); rfl; rfl; rfl; rfl; rfl; rfl; simp only [Act.put, List.setIfInBounds_toArray, List.set_cons_zero, List.set_cons_succ]) | ((with_reducible apply wqu); rfl; rfl; rfl; rfl; rfl; (first | simp only [same, Act.put, List.setIfInBounds_toArray, List.set_cons_zero, List.set_cons_succ] | simp only [Act.put, List.setIfInBounds_toArray, List.set_cons_zero, List.set_cons_succ])))); refine wqIdx_nil ?_
            refine wpAnyR_done (by kernel_rfl) ?_ _
            obtain ⟨q0, q1, q2, q3⟩ := (KA.out.below B11.out).four
            go_wp2_with fail
            refine (PRc.out _).mono ?_; rintro e w12 ⟨rfl, b⟩
            have D12 := Lib.hid (below_trans D11.out b)
            have B12 := Lib.hid (below_trans B3.out D12.out)
            clear b q0 q1 q2 q3
            obtain ⟨q0, q1, q2, q3⟩ := (KA.out.below B12.out).four
            go_wp2_with fail
            refine (PPu.out _).mono ?_; rintro e w13 ⟨v13, rfl, o13, b⟩
            obtain ⟨A13, c13, rfl⟩ := own_form o13
            have D13 := Lib.hid (below_trans D12.out b)
            have B13 := Lib.hid (below_trans B3.out D13.out)
            clear b q0 q1 q2 q3 o13
            obtain ⟨q0, q1, q2, q3⟩ := (KA.out.below B13.out).four
            go_wp2_with fail
            refine (PSz.out _).mono ?_; rintro e w14 ⟨rfl, b⟩
            have D14 := Lib.hid (below_trans D13.out b)
            have B14 := Lib.hid (below_trans B3.out D14.out)
            clear b q0 q1 q2 q3
            go_wp2
            go_ret
            exact ⟨rfl, below_trans BA.out B14.out⟩
          · rw [show sizeE ((a1, a2), (a3, a4)) = 0 from if_neg hok] at PSz
            rw [show okEn ((a1, a2), (a3, a4)) = false by simpa using hok] at hea
            clear hok
            go_enter Try.func6, Try.ntmps6
            go_wp2_with (at_builtin; (refine wpList_appK layE (xs := []) (ys := l) _ rfl (.tmp 26) (.tmp 27) _ rfl Try.underlying54 info_en3 rfl HO0.out HR0.out c rfl rfl (by omega) (by decide) HS0.out ?_); intro A1 c1 w1 o1 gr1; have O1 := Lib.hid o1; have G1 := Lib.hid (Grew.by_ gr1); clear o1 gr1)
            have o1 := O1.out
            have gg := G1.out
            rw [← HW.out] at gg
            rw [Nat.zero_add, List.nil_append] at o1
            obtain ⟨g1, -, s1, -⟩ := SlK.of_own layE o1
            have S1 := Lib.hid s1
            have B1 := Lib.hid (show Below w0.heap.size w0 w1 from BE.out.grown gg BE.out.size fun i hi => by have h8 := (World.ownsRow.lt HO0.out i hi).1; have h9 := HSZ.out; omega)
            clear o1 s1 gg O1 G1 HO0 HR0 HS0 BE HSZ
            go_wp2_with fail
            refine (P1.out _ _ _ _ S1.out).mono ?_; rintro e w2 ⟨rfl, b2⟩
            have B2 := Lib.hid (below_trans B1.out b2)
            have S2 := Lib.hid (S1.out.below b2)
            clear b2
            go_wp2_with fail
            refine (P2.out _ B2.out).mono ?_; rintro e w3 ⟨rfl, b3⟩
            have B3 := Lib.hid (below_drew (below_trans B2.out b3))
            have S3 := Lib.hid (show SlK encE w3.drew g1 A1 l from S2.out.below (below_drew b3))
            clear b3
            go_wp2_with fail
            refine wp_region_R (R := RB) (n := 36) (by kernel_rfl) rfl ?_
            have D3 := Lib.hid (Below.refl w3.drew.heap.size w3.drew)
            refine wpAnyR_sole (i := 0) rfl (by kernel_rfl) (fun K hK => ?_); go_simp
            refine (PL.out _).mono ?_; rintro e w4 ⟨rfl, b⟩
            refine hK _ _ b ?_
            clear hK K
            have D4 := Lib.hid (below_trans D3.out b)
            have B4 := Lib.hid (below_trans B3.out D4.out)
            clear b
            refine batchB [1, 2, 3, 4, 5, 6, 7, 8, 10] (fuel := 26) rfl (by kernel_rfl) (by kernel_rfl) (fun _ _ d _ _ h => by cases d <;> exact h) ?_
            (repeat (first | ((with_reducible apply wq0); rfl; rfl; rfl; intro K hK; go_big_quiet_op; refine hK _ ?_; clear hK K) | ((with_reducible apply wq1); rfl; rfl; rfl; rfl; rfl; rfl; intro K hK; go_big_quiet_op; refine hK _ ?_; clear hK K) | ((with_reducible apply wqs); rfl; rfl; rfl; rfl; rfl; rfl; simp only [Act.put, List.setIfInBounds_toArray, List.set_cons_zero, List.set_cons_succ]) | ((with_reducible apply wqu); rfl; rfl; rfl; rfl; rfl; (first | simp only [same, Act.put, List.setIfInBounds_toArray, List.set_cons_zero, List.set_cons_succ] | simp only [Act.put, List.setIfInBounds_toArray, List.set_cons_zero, List.set_cons_succ]))))
            refine wqIdx_load rfl rfl rfl rfl (fun W hW => LA.out W (below_trans B4.out hW)) ?_
            simp only [Act.put, List.setIfInBounds_toArray, List.set_cons_zero, List.set_cons_succ]
            (repeat (first | ((with_reducible apply wq0); rfl; rfl; rfl; intro K hK; go_big_quiet_op; refine hK _ ?_; clear hK K) | ((with_reducible apply wq1); rfl; rfl; rfl; rfl; rfl; rfl; intro K hK; go_big_quiet_op; refine hK _ ?_; clear hK K) | ((with_reducible apply wqs); rfl; rfl; rfl; rfl; rfl; rfl; simp only [Act.put, List.setIfInBounds_toArray, List.set_cons_zero, List.set_cons_succ]) | ((with_reducible apply wqu); rfl; rfl; rfl; rfl; rfl; (first | simp only [same, Act.put, List.setIfInBounds_toArray, List.set_cons_zero, List.set_cons_succ] | simp only [Act.put, List.setIfInBounds_toArray, List.set_cons_zero, List.set_cons_succ]))))
            refine wqIdx_load rfl rfl rfl rfl (fun W hW => LA.out W (below_trans B4.out hW)) ?_
            simp only [Act.put, List.setIfInBounds_toArray, List.set_cons_zero, List.set_cons_succ]
            (repeat (first | ((with_reducible apply wq0); rfl; rfl; rfl; intro K hK; go_big_quiet_op; refine hK _ ?_; clear hK K) | ((with_reducible apply wq1); rfl; rfl; rfl; rfl; rfl; rfl; intro K hK; go_big_quiet_op; refine hK _ ?_; clear hK K) | ((with_reducible apply wqs); rfl; rfl; rfl; rfl; rfl; rfl; simp only [Act.put, List.setIfInBounds_toArray, List.set_cons_zero, List.set_cons_succ]) | ((with_reducible apply wqu); rfl; rfl; rfl; rfl; rfl; (first | simp only [same, Act.put, List.setIfInBounds_toArray, List.set_cons_zero, List.set_cons_succ] | simp only [Act.put, List.setIfInBounds_toArray, List.set_cons_zero, List.set_cons_succ]))))
            refine wqIdx_nil ?_
            refine wpAnyR_sole (i := 9) rfl (by kernel_rfl) (fun K hK => ?_); go_simp
            refine (PCk.out _).mono ?_; rintro e w5 ⟨rfl, b⟩
            refine hK _ _ b ?_
            clear hK K
            have D5 := Lib.hid (below_trans D4.out b)
            have B5 := Lib.hid (below_trans B3.out D5.out)
            clear b
            refine wpAnyR_sole (i := 11) rfl (by kernel_rfl) (fun K hK => ?_); go_simp
            refine (PRc.out _).mono ?_; rintro e w6 ⟨rfl, b⟩
            refine hK _ _ b ?_
            clear hK K
            have D6 := Lib.hid (below_trans D5.out b)
            have B6 := Lib.hid (below_trans B3.out D6.out)
            clear b
            refine batchB [12, 13, 14, 15, 16, 18, 19] (fuel := 17) rfl (by kernel_rfl) (by kernel_rfl) (fun _ _ d _ _ h => by cases d <;> exact h) ?_
            (repeat (first | ((with_reducible apply wq0); rfl; rfl; rfl; intro K hK; go_big_quiet_op; refine hK _ ?_; clear hK K) | ((with_reducible apply wq1); rfl; rfl; rfl; rfl; rfl; rfl; intro K hK; go_big_quiet_op; refine hK _ ?_; clear hK K) | ((with_reducible apply wqs); rfl; rfl; rfl; rfl; rfl; rfl; simp only [Act.put, List.setIfInBounds_toArray, List.set_cons_zero, List.set_cons_succ]) | ((with_reducible apply wqu); rfl; rfl; rfl; rfl; rfl; (first | simp only [same, Act.put, List.setIfInBounds_toArray, List.set_cons_zero, List.set_cons_succ] | simp only [Act.put, List.setIfInBounds_toArray, List.set_cons_zero, List.set_cons_succ]))))
            refine wqIdx_load rfl rfl rfl rfl (fun W hW => LA.out W (below_trans B6.out hW)) ?_
            simp only [Act.put, List.setIfInBounds_toArray, List.set_cons_zero, List.set_cons_succ]
            (repeat (first | ((with_reducible apply wq0); rfl; rfl; rfl; intro K hK; go_big_quiet_op; refine hK _ ?_; clear hK K) | ((with_reducible apply wq1); rfl; rfl; rfl; rfl; rfl; rfl; intro K hK; go_big_quiet_op; refine hK _ ?_; clear hK K) | ((with_reducible apply wqs); rfl; rfl; rfl; rfl; rfl; rfl; simp only [Act.put, List.setIfInBounds_toArray, List.set_cons_zero, List.set_cons_succ]) | ((with_reducible apply wqu); rfl; rfl; rfl; rfl; rfl; (first | simp only [same, Act.put, List.setIfInBounds_toArray, List.set_cons_zero, List.set_cons_succ] | simp only [Act.put, List.setIfInBounds_toArray, List.set_cons_zero, List.set_cons_succ]))))
            refine wqIdx_load rfl rfl rfl rfl (fun W hW => LB.out W (below_trans B6.out hW)) ?_
            simp only [Act.put, List.setIfInBounds_toArray, List.set_cons_zero, List.set_cons_succ]
            (repeat (first | ((with_reducible apply wq0); rfl; rfl; rfl; intro K hK; go_big_quiet_op; refine hK _ ?_; clear hK K) | ((with_reducible apply wq1); rfl; rfl; rfl; rfl; rfl; rfl; intro K hK; go_big_quiet_op; refine hK _ ?_; clear hK K) | ((with_reducible apply wqs); rfl; rfl; rfl; rfl; rfl; rfl; simp only [Act.put, List.setIfInBounds_toArray, List.set_cons_zero, List.set_cons_succ]) | ((with_reducible apply wqu); rfl; rfl; rfl; rfl; rfl; (first | simp only [same, Act.put, List.setIfInBounds_toArray, List.set_cons_zero, List.set_cons_succ] | simp only [Act.put, List.setIfInBounds_toArray, List.set_cons_zero, List.set_cons_succ]))))
            refine wqIdx_load rfl rfl rfl rfl (fun W hW => LA.out W (below_trans B6.out hW)) ?_
            simp only [Act.put, List.setIfInBounds_toArray, List.set_cons_zero, List.set_cons_succ]
            (repeat (first | ((with_reducible apply wq0); rfl; rfl; rfl; intro K hK; go_big_quiet_op; refine hK _ ?_; clear hK K) | ((with_reducible apply wq1); rfl; rfl; rfl; rfl; rfl; rfl; intro K hK; go_big_quiet_op; refine hK _ ?_; clear hK K) | ((with_reducible apply wqs); rfl; rfl; rfl; rfl; rfl; rfl; simp only [Act.put, List.setIfInBounds_toArray, List.set_cons_zero, List.set_cons_succ]) | ((with_reducible apply wqu); rfl; rfl; rfl; rfl; rfl; (first | simp only [same, Act.put, List.setIfInBounds_toArray, List.set_cons_zero, List.set_cons_succ] | simp only [Act.put, List.setIfInBounds_toArray, List.set_cons_zero, List.set_cons_succ]))))
            refine wqIdx_load rfl rfl rfl rfl (fun W hW => LB.out W (below_trans B6.out hW)) ?_
            simp only [Act.put, List.setIfInBounds_toArray, List.set_cons_zero, List.set_cons_succ]
            (repeat (first | ((with_reducible apply wq0); rfl; rfl; rfl; intro K hK; go_big_quiet_op; refine hK _ ?_; clear hK K) | ((with_reducible apply wq1); rfl; rfl; rfl; rfl; rfl; rfl; intro K hK; go_big_quiet_op; refine hK _ ?_; clear hK K) | ((with_reducible apply wqs); rfl; rfl; rfl; rfl; rfl; rfl; simp only [Act.put, List.setIfInBounds_toArray, List.set_cons_zero, List.set_cons_succ]) | ((with_reducible apply wqu); rfl; rfl; rfl; rfl; rfl; (first | simp only [same, Act.put, List.setIfInBounds_toArray, List.set_cons_zero, List.set_cons_succ] | simp only [Act.put, List.setIfInBounds_toArray, List.set_cons_zero, List.set_cons_succ]))))
            refine wqIdx_nil ?_
            refine wpAnyR_sole (i := 17) rfl (by kernel_rfl) (fun K hK => ?_); go_simp
            refine (PCm.out _).mono ?_; rintro e w7 ⟨rfl, b⟩
            refine hK _ _ b ?_
            clear hK K
            have D7 := Lib.hid (below_trans D6.out b)
            have B7 := Lib.hid (below_trans B3.out D7.out)
            clear b
            refine wpAnyR_sole (i := 20) rfl (by kernel_rfl) (fun K hK => ?_); go_simp
            refine (PRm.out _).mono ?_; rintro e w8 ⟨rfl, b⟩
            refine hK _ _ b ?_
            clear hK K
            have D8 := Lib.hid (below_trans D7.out b)
            have B8 := Lib.hid (below_trans B3.out D8.out)
            clear b
            refine batchB [21, 22, 23, 24, 26] (fuel := 10) rfl (by kernel_rfl) (by kernel_rfl) (fun _ _ d _ _ h => by cases d <;> exact h) ?_; (repeat (first | ((with_reducible apply wq0); rfl; rfl; rfl; intro K hK; go_big_quiet_op; refine hK _ ?_; clear hK K) | ((with_reducible apply wq1); rfl; rfl; rfl; rfl; rfl; rfl; intro K hK; go_big_quiet_op; refine hK _ ?_; clear hK K) | ((with_reducible apply wqs); rfl; rfl; rfl; rfl; rfl; rfl; simp only [Act.put, List.setIfInBounds_toArray, List.set_cons_zero, List.set_cons_succ]) | ((with_reducible apply wqu); rfl; rfl; rfl; rfl; rfl; (first | simp only [same, Act.put, List.setIfInBounds_toArray, List.set_cons_zero, List.set_cons_succ] | simp only [Act.put, List.setIfInBounds_toArray, List.set_cons_zero, List.set_cons_succ])))); refine wqIdx_nil ?_
            refine wpAnyR_sole (i := 25) rfl (by kernel_rfl) (fun K hK => ?_); go_simp
            refine (PSo.out _ _ _ _ (S3.out.below D8.out)).mono ?_; rintro e w9 ⟨rfl, b⟩
            refine hK _ _ b ?_
            clear hK K
            have D9 := Lib.hid (below_trans D8.out b)
            have B9 := Lib.hid (below_trans B3.out D9.out)
            clear b
            refine wpAnyR_sole (i := 27) rfl (by kernel_rfl) (fun K hK => ?_); go_simp
            refine (PRs.out _ (B9.out)).mono ?_; rintro e w10 ⟨rfl, b⟩
            refine hK _ _ b ?_
            clear hK K
            have D10 := Lib.hid (below_trans D9.out b)
            have B10 := Lib.hid (below_trans B3.out D10.out)
            clear b
            refine batchB [28, 29, 30, 31, 32] (fuel := 3) rfl (by kernel_rfl) (by kernel_rfl) (fun _ _ d _ _ h => by cases d <;> exact h) ?_; (repeat (first | ((with_reducible apply wq0); rfl; rfl; rfl; intro K hK; go_big_quiet_op; refine hK _ ?_; clear hK K) | ((with_reducible apply wq1); rfl; rfl; rfl; rfl; rfl; rfl; intro K hK; go_big_quiet_op; refine hK _ ?_; clear hK K) | ((with_reducible apply wqs); rfl; rfl; rfl; rfl; rfl; rfl; simp only [Act.put, List.setIfInBounds_toArray, List.set_cons_zero, List.set_cons_succ]) | ((with_reducible apply wqu); rfl; rfl; rfl; rfl; rfl; (first | simp only [same, Act.put, List.setIfInBounds_toArray, List.set_cons_zero, List.set_cons_succ] | simp only [Act.put, List.setIfInBounds_toArray, List.set_cons_zero, List.set_cons_succ])))); refine wqIdx_nil ?_
            refine wpAnyR_sole (i := 33) rfl (by kernel_rfl) (fun K hK => ?_); go_simp
            refine (PSa.out _ _ _ _ _ _ _ (S3.out.below D10.out) (HS.out.below B10.out)).mono ?_; rintro e w11 ⟨rfl, b⟩
            refine hK _ _ b ?_
            clear hK K
            have D11 := Lib.hid (below_trans D10.out b)
            have B11 := Lib.hid (below_trans B3.out D11.out)
            clear b
            refine batchB [34, 35] (fuel := 0) rfl (by kernel_rfl) (by kernel_rfl) (fun _ _ d _ _ h => by cases d <;> exact h) ?_; (repeat (first | ((with_reducible apply wq0); rfl; rfl; rfl; intro K hK; go_big_quiet_op; refine hK _ ?_; clear hK K) | ((with_reducible apply wq1); rfl; rfl; rfl; rfl; rfl; rfl; intro K hK; go_big_quiet_op; refine hK _ ?_; clear hK K) | ((with_reducible apply wqs); rfl; rfl; rfl; rfl; rfl; rfl; simp only [Act.put, List.setIfInBounds_toArray, List.set_cons_zero, List.set_cons_succ]) | ((with_reducible apply wqu); rfl; rfl; rfl; rfl; rfl; (first | simp only [same, Act.put, List.setIfInBounds_toArray, List.set_cons_zero, List.set_cons_succ] | simp only [Act.put, List.setIfInBounds_toArray, List.set_cons_zero, List.set_cons_succ])))); refine wqIdx_nil ?_
            refine wpAnyR_done (by kernel_rfl) ?_ _
            obtain ⟨q0, q1, q2, q3⟩ := (KA.out.below B11.out).four
            go_wp2_with fail
            refine (PRc.out _).mono ?_; rintro e w12 ⟨rfl, b⟩
            have D12 := Lib.hid (below_trans D11.out b)
            have B12 := Lib.hid (below_trans B3.out D12.out)
            clear b q0 q1 q2 q3
            obtain ⟨q0, q1, q2, q3⟩ := (KA.out.below B12.out).four
            go_wp2_with fail
            refine (PSz.out _).mono ?_; rintro e w13 ⟨rfl, b⟩
            have D13 := Lib.hid (below_trans D12.out b)
            have B13 := Lib.hid (below_trans B3.out D13.out)
            clear b q0 q1 q2 q3
            go_wp2
            go_ret
            exact ⟨rfl, below_trans BA.out B13.out⟩
end Go.Proofs.Ytfilelgbffbnlaa
