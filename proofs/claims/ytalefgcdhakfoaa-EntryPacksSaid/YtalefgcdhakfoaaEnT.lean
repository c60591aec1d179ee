/- Contracts of the document's entries: Put. -/
import Derived.Test.YtalefgcdhakfoaaEnH
namespace Go.Proofs.Ytalefgcdhakfoaa
open Go.RowKit Go.Sort

set_option maxRecDepth 100000 in
set_option maxHeartbeats 2000000 in
theorem ren_put_any (x : En) (w : World) (h : okEn x = true) :
    Calls Try.prog 62 #[enV x] w (Own1 w (putE x)) := by
  have hlen := putE_len x h
  have hle : putE x = putMo x.1.1 x.1.2 ++ putMo x.2.1 x.2.2 := rfl
  unfold okEn at h
  rw [Bool.and_eq_true] at h
  have P2 := Lib.hid (fun W => rput_mo x.1.1 x.1.2 W h.1)
  have P3 := Lib.hid (fun W => rrc_put x.2.1 x.2.2 W h.2)
  have KB := Lib.hid (EnBox.new w x 98)
  have HB := Lib.hid (alloc_below w (.cells (encE x).toArray 98))
  obtain ⟨⟨a, b⟩, c, d⟩ := x
  unfold enV
  simp only at hle hlen P2 P3
  rw [hle] at hlen ⊢
  generalize putMo a b = x at P2 hlen ⊢
  generalize putMo c d = y at P3 hlen ⊢
  rw [List.length_append] at hlen
  obtain ⟨q0, q1, q2, q3⟩ := KB.out.four
  have C0 := Lib.hid q0
  have C1 := Lib.hid q1
  have C2 := Lib.hid q2
  have C3 := Lib.hid q3
  clear hle h q0 q1 q2 q3
  go_enter Try.func62, Try.ntmps62
  go_wp2_with fail
  refine wp_region_R (R := RK (fun b => w.heap.size < b)) (n := 8) (by kernel_rfl) rfl ?_
  refine batchK [0, 1, 3, 4] (fuel := 4) rfl (by kernel_rfl) (by kernel_rfl) (fun _ _ d _ _ h => by cases d <;> exact h) ?_
  (repeat (first | ((with_reducible apply wq0); rfl; rfl; rfl; intro K hK; go_big_quiet_op; refine hK _ ?_; clear hK K) | ((with_reducible apply wq1); rfl; rfl; rfl; rfl; rfl; rfl; intro K hK; go_big_quiet_op; refine hK _ ?_; clear hK K) | ((with_reducible apply wqs); rfl; rfl; rfl; rfl; rfl; rfl; simp only [Act.put, List.setIfInBounds_toArray, List.set_cons_zero, List.set_cons_succ]) | ((with_reducible apply wqu); rfl; rfl; rfl; rfl; rfl; (first | simp only [same, Act.put, List.setIfInBounds_toArray, List.set_cons_zero, List.set_cons_succ] | simp only [Act.put, List.setIfInBounds_toArray, List.set_cons_zero, List.set_cons_succ]))))
  refine wqIdx_load rfl rfl rfl rfl (fun W hW => load_mo_at _ 0 a b W (keep_cellK hW (Nat.lt_irrefl _) C0.out) (keep_cellK hW (Nat.lt_irrefl _) C1.out)) ?_
  simp only [Act.put, List.setIfInBounds_toArray, List.set_cons_zero, List.set_cons_succ]
  (repeat (first | ((with_reducible apply wq0); rfl; rfl; rfl; intro K hK; go_big_quiet_op; refine hK _ ?_; clear hK K) | ((with_reducible apply wq1); rfl; rfl; rfl; rfl; rfl; rfl; intro K hK; go_big_quiet_op; refine hK _ ?_; clear hK K) | ((with_reducible apply wqs); rfl; rfl; rfl; rfl; rfl; rfl; simp only [Act.put, List.setIfInBounds_toArray, List.set_cons_zero, List.set_cons_succ]) | ((with_reducible apply wqu); rfl; rfl; rfl; rfl; rfl; (first | simp only [same, Act.put, List.setIfInBounds_toArray, List.set_cons_zero, List.set_cons_succ] | simp only [Act.put, List.setIfInBounds_toArray, List.set_cons_zero, List.set_cons_succ]))))
  refine wqIdx_load rfl rfl rfl rfl (fun W hW => load_rec_at _ 2 c d W (keep_cellK hW (Nat.lt_irrefl _) C2.out) (keep_cellK hW (Nat.lt_irrefl _) C3.out)) ?_
  simp only [Act.put, List.setIfInBounds_toArray, List.set_cons_zero, List.set_cons_succ]
  refine wqIdx_nil ?_
  refine wpAnyR_sole (i := 2) rfl (by kernel_rfl) (fun K hK => ?_); go_simp
  refine (P2.out _).mono ?_; rintro e w2 ⟨v1, rfl, o1, b2⟩
  obtain ⟨A1, c1, rfl⟩ := own_form o1
  refine hK _ _ (rk_below b2) ?_
  clear hK K
  have B2 := Lib.hid (below_trans HB.out (Below.of_drew0 b2))
  have O1 := Lib.hid (own_mono o1 (show w.heap.size ≤ _ from HB.out.size))
  have hb1 := World.ownsRow.lt o1
  clear b2 o1
  refine wpAnyR_sole (i := 5) rfl (by kernel_rfl) (fun K hK => ?_); go_simp
  refine (P3.out _).mono ?_; rintro e w3 ⟨v2, rfl, o2, b3⟩
  obtain ⟨A2, c2, rfl⟩ := own_form o2
  refine hK _ _ (rk_below b3) ?_
  clear hK K
  have B3 := Lib.hid (below_trans B2.out b3)
  have O1 := Lib.hid (own_below O1.out b3)
  have O2 := Lib.hid (own_bytes_reads o2)
  have HS := Lib.hid (show w.heap.size ≤ w3.heap.size from B3.out.size)
  clear o2 b3
  refine wpAnyR_sole (i := 6) rfl (by kernel_rfl) (fun K hK => ?_)
  rw [if_pos (wanted0 rfl _)]
  refine wp_appB _ (.tmp 5) (.tmp 8) _ rfl Try.underlying30 info_b O1.out O2.out c2 rfl rfl (by omega) HS.out ?_
  intro A5 c5 w5 o5 gr5
  have O5 := Lib.hid o5
  have G5 := Lib.hid gr5
  refine hK _ _ (rk_grown (Grew.by_ gr5) fun i hi => ?_) ?_
  · have h1 := (hb1 i hi).1
    rw [World.size_drew, World.size_alloc] at h1
    omega
  clear hK K o5 gr5
  simp only [Act.put, List.setIfInBounds_toArray, List.set_cons_zero, List.set_cons_succ]
  refine batchK [7] (fuel := 0) rfl (by kernel_rfl) (by kernel_rfl) (fun _ _ d _ _ h => by cases d <;> exact h) ?_
  (repeat (first | ((with_reducible apply wq0); rfl; rfl; rfl; intro K hK; go_big_quiet_op; refine hK _ ?_; clear hK K) | ((with_reducible apply wq1); rfl; rfl; rfl; rfl; rfl; rfl; intro K hK; go_big_quiet_op; refine hK _ ?_; clear hK K) | ((with_reducible apply wqs); rfl; rfl; rfl; rfl; rfl; rfl; simp only [Act.put, List.setIfInBounds_toArray, List.set_cons_zero, List.set_cons_succ]) | ((with_reducible apply wqu); rfl; rfl; rfl; rfl; rfl; (first | simp only [same, Act.put, List.setIfInBounds_toArray, List.set_cons_zero, List.set_cons_succ] | simp only [Act.put, List.setIfInBounds_toArray, List.set_cons_zero, List.set_cons_succ]))))
  refine wqIdx_nil ?_
  refine wpAnyR_done (by kernel_rfl) ?_ _
  go_wp2
  go_ret
  have hlen : (x ++ y).length = x.length + y.length := List.length_append
  exact ⟨_, rfl, by rw [hlen]; exact O5.out, B3.out.grown (Grew.by_ G5.out) HS.out fun i hi => (World.ownsRow.lt O1.out i hi).1⟩
end Go.Proofs.Ytalefgcdhakfoaa
