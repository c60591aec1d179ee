/- Contracts of package entry: Size, put; how packs are made. -/
import Derived.Test.YtalefgcdhakfoaaEnE
import Derived.Test.YtalefgcdhakfoaaReP
import Derived.Test.YtalefgcdhakfoaaMoE
namespace Go.Proofs.Ytalefgcdhakfoaa
open Go.RowKit Go.Sort

def putE (x : En) : List UInt8 := putMo x.1.1 x.1.2 ++ putMo x.2.1 x.2.2
def sizeE (x : En) : Int := if okEn x = true then ((putE x).length : Int) else 0
set_option maxRecDepth 100000 in
set_option maxHeartbeats 1000000 in
theorem en_size_any (x : En) (w : World) :
    Calls Try.prog 53 #[enV x] w fun e w' => e = .returned (.int .i64 (sizeE x)) ∧ Below w.heap.size w w' := by
  obtain ⟨⟨a, b⟩, c, d⟩ := x
  have P1 := Lib.hid (fun W => en_check_any a b c d W)
  have HB := Lib.hid (EnBox.new w ((a, b), (c, d)) 98)
  have B0 := Lib.hid (alloc_below w (.cells #[.int .i64 a, .int .i64 b, .int .i64 c, .int .i64 d] 98))
  obtain ⟨q0, q1, q2, q3⟩ := HB.out.four
  have hz := enE_zero ((a, b), (c, d))
  unfold enV
  by_cases hok : okEn ((a, b), (c, d)) = true
  · have hz2 : (enE ((a, b), (c, d)) != 0) = false := by rw [bne, hz, hok]; rfl
    have HS := Lib.hid (show sizeE ((a, b), (c, d)) = ((putL a.toNat).length : Int) + (putL b.toNat).length + (putL c.toNat).length + (putL d.toNat).length by
      unfold sizeE
      rw [if_pos hok]
      unfold putE putMo
      simp only [List.length_append]
      omega)
    unfold okEn at hok
    rw [Bool.and_eq_true] at hok
    obtain ⟨k1, k2⟩ := hok
    rw [okMo_iff] at k1
    rw [okRec_iff] at k2
    obtain ⟨a', rfl⟩ : ∃ n : Nat, a = (n : Int) := ⟨a.toNat, by omega⟩
    obtain ⟨b', rfl⟩ : ∃ n : Nat, b = (n : Int) := ⟨b.toNat, by omega⟩
    obtain ⟨c', rfl⟩ : ∃ n : Nat, c = (n : Int) := ⟨c.toNat, by omega⟩
    obtain ⟨d', rfl⟩ : ∃ n : Nat, d = (n : Int) := ⟨d.toNat, by omega⟩
    have S1 := Lib.hid (fun W => size_ok a' W (by omega))
    have S2 := Lib.hid (fun W => size_ok b' W (by omega))
    have S3 := Lib.hid (fun W => size_ok c' W (by omega))
    have S4 := Lib.hid (fun W => size_ok d' W (by omega))
    have l1 := putL_le a' (by omega)
    have l2 := putL_le b' (by omega)
    have l3 := putL_le c' (by omega)
    have l4 := putL_le d' (by omega)
    simp only [Int.toNat_natCast] at HS
    generalize enE (((a' : Int), (b' : Int)), ((c' : Int), (d' : Int))) = z at P1 hz2
    generalize (putL a').length = n1 at S1 HS l1
    generalize (putL b').length = n2 at S2 HS l2
    generalize (putL c').length = n3 at S3 HS l3
    generalize (putL d').length = n4 at S4 HS l4
    clear hz k1 k2
    go_enter Try.func53, Try.ntmps53
    go_wp2_with fail
    refine (P1.out _).mono ?_; rintro e w1 ⟨rfl, b1⟩
    clear q0 q1 q2 q3
    obtain ⟨q0, q1, q2, q3⟩ := (HB.out.below b1).four
    have B1 := Lib.hid (below_trans B0.out b1)
    clear b1
    go_wp2_with fail
    refine wp_region_R (R := RB) (n := 20) (by kernel_rfl) rfl ?_
    refine batchB [0, 1, 2, 4, 5, 6, 9, 10, 11, 14, 15, 16] (fuel := 8) rfl (by kernel_rfl) (by kernel_rfl) (fun _ _ d _ _ h => by cases d <;> exact h) ?_
    (repeat (first | ((with_reducible apply wq0); rfl; rfl; rfl; intro K hK; go_big_quiet_op; refine hK _ ?_; clear hK K) | ((with_reducible apply wq1); rfl; rfl; rfl; rfl; rfl; rfl; intro K hK; go_big_quiet_op; refine hK _ ?_; clear hK K) | ((with_reducible apply wqs); rfl; rfl; rfl; rfl; rfl; rfl; simp only [Act.put, List.setIfInBounds_toArray, List.set_cons_zero, List.set_cons_succ]) | ((with_reducible apply wqu); rfl; rfl; rfl; rfl; rfl; (first | simp only [same, Act.put, List.setIfInBounds_toArray, List.set_cons_zero, List.set_cons_succ] | simp only [Act.put, List.setIfInBounds_toArray, List.set_cons_zero, List.set_cons_succ]))))
    refine wqIdx_load rfl rfl rfl rfl (fun W hW => load_i64_at _ _ W (keep_cell hW q0)) ?_
    simp only [Act.put, List.setIfInBounds_toArray, List.set_cons_zero, List.set_cons_succ]
    (repeat (first | ((with_reducible apply wq0); rfl; rfl; rfl; intro K hK; go_big_quiet_op; refine hK _ ?_; clear hK K) | ((with_reducible apply wq1); rfl; rfl; rfl; rfl; rfl; rfl; intro K hK; go_big_quiet_op; refine hK _ ?_; clear hK K) | ((with_reducible apply wqs); rfl; rfl; rfl; rfl; rfl; rfl; simp only [Act.put, List.setIfInBounds_toArray, List.set_cons_zero, List.set_cons_succ]) | ((with_reducible apply wqu); rfl; rfl; rfl; rfl; rfl; (first | simp only [same, Act.put, List.setIfInBounds_toArray, List.set_cons_zero, List.set_cons_succ] | simp only [Act.put, List.setIfInBounds_toArray, List.set_cons_zero, List.set_cons_succ]))))
    refine wqIdx_load rfl rfl rfl rfl (fun W hW => load_i64_at _ _ W (keep_cell hW q1)) ?_
    simp only [Act.put, List.setIfInBounds_toArray, List.set_cons_zero, List.set_cons_succ]
    (repeat (first | ((with_reducible apply wq0); rfl; rfl; rfl; intro K hK; go_big_quiet_op; refine hK _ ?_; clear hK K) | ((with_reducible apply wq1); rfl; rfl; rfl; rfl; rfl; rfl; intro K hK; go_big_quiet_op; refine hK _ ?_; clear hK K) | ((with_reducible apply wqs); rfl; rfl; rfl; rfl; rfl; rfl; simp only [Act.put, List.setIfInBounds_toArray, List.set_cons_zero, List.set_cons_succ]) | ((with_reducible apply wqu); rfl; rfl; rfl; rfl; rfl; (first | simp only [same, Act.put, List.setIfInBounds_toArray, List.set_cons_zero, List.set_cons_succ] | simp only [Act.put, List.setIfInBounds_toArray, List.set_cons_zero, List.set_cons_succ]))))
    refine wqIdx_load rfl rfl rfl rfl (fun W hW => load_i64_at _ _ W (keep_cell hW q2)) ?_
    simp only [Act.put, List.setIfInBounds_toArray, List.set_cons_zero, List.set_cons_succ]
    (repeat (first | ((with_reducible apply wq0); rfl; rfl; rfl; intro K hK; go_big_quiet_op; refine hK _ ?_; clear hK K) | ((with_reducible apply wq1); rfl; rfl; rfl; rfl; rfl; rfl; intro K hK; go_big_quiet_op; refine hK _ ?_; clear hK K) | ((with_reducible apply wqs); rfl; rfl; rfl; rfl; rfl; rfl; simp only [Act.put, List.setIfInBounds_toArray, List.set_cons_zero, List.set_cons_succ]) | ((with_reducible apply wqu); rfl; rfl; rfl; rfl; rfl; (first | simp only [same, Act.put, List.setIfInBounds_toArray, List.set_cons_zero, List.set_cons_succ] | simp only [Act.put, List.setIfInBounds_toArray, List.set_cons_zero, List.set_cons_succ]))))
    refine wqIdx_load rfl rfl rfl rfl (fun W hW => load_i64_at _ _ W (keep_cell hW q3)) ?_
    simp only [Act.put, List.setIfInBounds_toArray, List.set_cons_zero, List.set_cons_succ]
    (repeat (first | ((with_reducible apply wq0); rfl; rfl; rfl; intro K hK; go_big_quiet_op; refine hK _ ?_; clear hK K) | ((with_reducible apply wq1); rfl; rfl; rfl; rfl; rfl; rfl; intro K hK; go_big_quiet_op; refine hK _ ?_; clear hK K) | ((with_reducible apply wqs); rfl; rfl; rfl; rfl; rfl; rfl; simp only [Act.put, List.setIfInBounds_toArray, List.set_cons_zero, List.set_cons_succ]) | ((with_reducible apply wqu); rfl; rfl; rfl; rfl; rfl; (first | simp only [same, Act.put, List.setIfInBounds_toArray, List.set_cons_zero, List.set_cons_succ] | simp only [Act.put, List.setIfInBounds_toArray, List.set_cons_zero, List.set_cons_succ]))))
    refine wqIdx_nil ?_
    refine wpAnyR_sole (i := 3) rfl (by kernel_rfl) (fun K hK => ?_); go_simp
    refine (S1.out _).mono ?_; rintro e w2 ⟨rfl, rfl⟩
    refine hK _ _ (RB.refl _) ?_
    clear hK K
    refine wpAnyR_sole (i := 7) rfl (by kernel_rfl) (fun K hK => ?_); go_simp
    refine (S2.out _).mono ?_; rintro e w2 ⟨rfl, rfl⟩
    refine hK _ _ (RB.refl _) ?_
    clear hK K
    refine batchB [8] (fuel := 5) rfl (by kernel_rfl) (by kernel_rfl) (fun _ _ d _ _ h => by cases d <;> exact h) ?_; (repeat (first | ((with_reducible apply wq0); rfl; rfl; rfl; intro K hK; go_big_quiet_op; refine hK _ ?_; clear hK K) | ((with_reducible apply wq1); rfl; rfl; rfl; rfl; rfl; rfl; intro K hK; go_big_quiet_op; refine hK _ ?_; clear hK K) | ((with_reducible apply wqs); rfl; rfl; rfl; rfl; rfl; rfl; simp only [Act.put, List.setIfInBounds_toArray, List.set_cons_zero, List.set_cons_succ]) | ((with_reducible apply wqu); rfl; rfl; rfl; rfl; rfl; (first | simp only [same, Act.put, List.setIfInBounds_toArray, List.set_cons_zero, List.set_cons_succ] | simp only [Act.put, List.setIfInBounds_toArray, List.set_cons_zero, List.set_cons_succ])))); refine wqIdx_nil ?_
    refine wpAnyR_sole (i := 12) rfl (by kernel_rfl) (fun K hK => ?_); go_simp
    refine (S3.out _).mono ?_; rintro e w2 ⟨rfl, rfl⟩
    refine hK _ _ (RB.refl _) ?_
    clear hK K
    refine batchB [13] (fuel := 3) rfl (by kernel_rfl) (by kernel_rfl) (fun _ _ d _ _ h => by cases d <;> exact h) ?_; (repeat (first | ((with_reducible apply wq0); rfl; rfl; rfl; intro K hK; go_big_quiet_op; refine hK _ ?_; clear hK K) | ((with_reducible apply wq1); rfl; rfl; rfl; rfl; rfl; rfl; intro K hK; go_big_quiet_op; refine hK _ ?_; clear hK K) | ((with_reducible apply wqs); rfl; rfl; rfl; rfl; rfl; rfl; simp only [Act.put, List.setIfInBounds_toArray, List.set_cons_zero, List.set_cons_succ]) | ((with_reducible apply wqu); rfl; rfl; rfl; rfl; rfl; (first | simp only [same, Act.put, List.setIfInBounds_toArray, List.set_cons_zero, List.set_cons_succ] | simp only [Act.put, List.setIfInBounds_toArray, List.set_cons_zero, List.set_cons_succ])))); refine wqIdx_nil ?_
    refine wpAnyR_sole (i := 17) rfl (by kernel_rfl) (fun K hK => ?_); go_simp
    refine (S4.out _).mono ?_; rintro e w2 ⟨rfl, rfl⟩
    refine hK _ _ (RB.refl _) ?_
    clear hK K
    refine batchB [18, 19] (fuel := 0) rfl (by kernel_rfl) (by kernel_rfl) (fun _ _ d _ _ h => by cases d <;> exact h) ?_; (repeat (first | ((with_reducible apply wq0); rfl; rfl; rfl; intro K hK; go_big_quiet_op; refine hK _ ?_; clear hK K) | ((with_reducible apply wq1); rfl; rfl; rfl; rfl; rfl; rfl; intro K hK; go_big_quiet_op; refine hK _ ?_; clear hK K) | ((with_reducible apply wqs); rfl; rfl; rfl; rfl; rfl; rfl; simp only [Act.put, List.setIfInBounds_toArray, List.set_cons_zero, List.set_cons_succ]) | ((with_reducible apply wqu); rfl; rfl; rfl; rfl; rfl; (first | simp only [same, Act.put, List.setIfInBounds_toArray, List.set_cons_zero, List.set_cons_succ] | simp only [Act.put, List.setIfInBounds_toArray, List.set_cons_zero, List.set_cons_succ])))); refine wqIdx_nil ?_
    refine wpAnyR_done (by kernel_rfl) ?_ _
    go_wp2
    go_ret
    exact ⟨by rw [HS.out]; rfl, ⟨B1.out.os, B1.out.tape, B1.out.output, B1.out.size, B1.out.block⟩⟩
  · have hok' : okEn ((a, b), (c, d)) = false := by simpa using hok
    have hz2 : (enE ((a, b), (c, d)) != 0) = true := by rw [bne, hz, hok']; rfl
    have HS := Lib.hid (show sizeE ((a, b), (c, d)) = 0 by unfold sizeE; rw [if_neg hok])
    clear hok hok' hz
    generalize enE ((a, b), (c, d)) = z at P1 hz2
    go_enter Try.func53, Try.ntmps53
    go_wp2_with fail
    refine (P1.out _).mono ?_; rintro e w1 ⟨rfl, b1⟩
    go_wp2
    go_ret
    exact ⟨by rw [HS.out]; rfl, below_trans B0.out b1⟩
theorem putL_pos (n : Nat) : 1 ≤ (putL n).length := by
  rw [putL_length]
  split
  · omega
  · split <;> omega
theorem putE_len (x : En) (h : okEn x = true) : 4 ≤ (putE x).length ∧ (putE x).length ≤ 36 := by
  obtain ⟨⟨a, b⟩, c, d⟩ := x
  unfold okEn at h
  rw [Bool.and_eq_true, okMo_iff, okRec_iff] at h
  unfold putE putMo
  simp only [List.length_append]
  have l1 := putL_le a.toNat (by omega)
  have l2 := putL_le b.toNat (by omega)
  have l3 := putL_le c.toNat (by omega)
  have l4 := putL_le d.toNat (by omega)
  have m1 := putL_pos a.toNat
  have m2 := putL_pos b.toNat
  have m3 := putL_pos c.toNat
  have m4 := putL_pos d.toNat
  omega
set_option maxRecDepth 100000 in
set_option maxHeartbeats 1000000 in
theorem en_put_any (x : En) (w : World) (h : okEn x = true) :
    Calls Try.prog 60 #[enV x] w (Own1 w (putE x)) := by
  have hlen := putE_len x h
  have hle : putE x = putMo x.1.1 x.1.2 ++ putMo x.2.1 x.2.2 := rfl
  unfold okEn at h
  rw [Bool.and_eq_true] at h
  have P1 := Lib.hid (fun W => mput_ok x.1.1 x.1.2 W h.1)
  have P2 := Lib.hid (fun W => rc_put_ok x.2.1 x.2.2 W h.2)
  have HB := Lib.hid (EnBox.new w x 98)
  have B0 := Lib.hid (alloc_below w (.cells (encE x).toArray 98))
  obtain ⟨⟨a, b⟩, c, d⟩ := x
  obtain ⟨q0, q1, q2, q3⟩ := HB.out.four
  unfold enV
  simp only at hle hlen P1 P2
  rw [hle] at hlen ⊢
  generalize putMo a b = s at P1 hlen ⊢
  generalize putMo c d = t at P2 hlen ⊢
  rw [List.length_append] at hlen
  clear hle h
  go_enter Try.func60, Try.ntmps60
  go_wp2_with fail
  refine (P1.out _).mono ?_; rintro e w1 ⟨A1, c1, rfl, o1, b1⟩
  clear q0 q1 q2 q3
  obtain ⟨q0, q1, q2, q3⟩ := (HB.out.below b1).four
  have B1 := Lib.hid (below_trans B0.out b1)
  have O1 := Lib.hid (own_mono o1 (show w.heap.size ≤ _ from B0.out.size))
  clear b1 o1
  go_wp2_with fail
  refine (P2.out _).mono ?_; rintro e w2 ⟨A2, c2, rfl, o2, b2⟩
  have B2 := Lib.hid (below_trans B1.out b2)
  have O1 := Lib.hid (own_below O1.out b2)
  have O2 := Lib.hid (own_bytes_reads o2)
  have HS := Lib.hid (show w.heap.size ≤ w2.heap.size from B2.out.size)
  clear q0 q1 q2 q3 o2 b2
  go_wp2_with (at_builtin; (refine wpList_appB _ rfl (.tmp 19) (.tmp 20) _ rfl Try.underlying30 info_b O1.out O2.out c2 rfl rfl (by omega) HS.out ?_); intro A5 c5 w5 o5 gr5; have O5 := Lib.hid o5; have G5 := Lib.hid gr5; clear o5 gr5)
  go_ret
  have hlen : (s ++ t).length = s.length + t.length := List.length_append
  exact ⟨_, rfl, by rw [hlen]; exact O5.out, B2.out.grown (Grew.by_ G5.out) HS.out fun i hi => (World.ownsRow.lt O1.out i hi).1⟩
end Go.Proofs.Ytalefgcdhakfoaa
