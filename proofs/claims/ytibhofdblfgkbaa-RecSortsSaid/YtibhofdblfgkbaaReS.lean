/- Package rec: what must come of every program (lives). -/
import Derived.Test.YtibhofdblfgkbaaReL
import Derived.Test.YtibhofdblfgkbaaReN
import Derived.Test.YtibhofdblfgkbaaReO
import Derived.Test.YtibhofdblfgkbaaReQ
namespace Go.Proofs.Ytibhofdblfgkbaa
open Go.RowKit Go.Sort

def liA : List (Int × Int) := [(2, 2), (1, 1), (1, 1)]
def liS : List (Int × Int) := [(1, 1), (1, 1), (2, 2)]
theorem li_srt : srt liA = liS := (srt_unique (l := liA) (m := liS) ((sortedB_srt liS).1 (by decide)) (by decide)).symm
theorem li_srtS : srt liS = liS := (srt_congr (show liS.Perm liA by decide)).trans li_srt
theorem li_minus : minusR liA [(1, 1)] = [(1, 1), (2, 2)] := by
  unfold minusR
  rw [li_srt]
  decide
theorem li_enc : encR liA = [3, 1, 1, 1, 1, 2, 2] := by
  unfold encR
  rw [li_srt]
  decide
theorem li_dec : decR [3, 1, 1, 1, 1, 2, 2] = some liS := by decide
theorem li_grp : (grp (srt liA)).length = 2 := by
  rw [li_srt]
  decide
theorem li_same : sameR liA liS = true := (sameR_iff _ _).2 (by decide)
theorem li_unlike : sameR liA [(1, 1), (2, 2)] = false := by
  rw [Bool.eq_false_iff]
  intro h
  exact absurd ((sameR_iff _ _).1 h).length_eq (by decide)
theorem li_may : mayE liA = 0 := by decide
theorem li_in : ∀ x ∈ liA, InR x := fun x hx => okRec_in (by revert x; decide)
theorem li_inS : ∀ x ∈ liS, InR x := fun x hx => okRec_in (by revert x; decide)
theorem li_inM : ∀ x ∈ [((1 : Int), (1 : Int)), (2, 2)], InR x := fun x hx => okRec_in (by revert x; decide)
theorem li_slp (w : World) : SlP (w.alloc (.cells #[.int .i64 2, .int .i64 2, .int .i64 1, .int .i64 1, .int .i64 1, .int .i64 1] 24)) w.heap.size (some ⟨w.heap.size, 0, none⟩) liA := fun _ =>
  ⟨by simp, 0, rfl, fun j u hj => by
    rw [Nat.zero_add, (Blk.new w 24 _).cell j]
    match j, hj with
    | 0, hj => exact hj
    | 1, hj => exact hj
    | 2, hj => exact hj
    | 3, hj => exact hj
    | 4, hj => exact hj
    | 5, hj => exact hj
    | j + 6, hj => exact hj⟩
theorem rc_sort_ok (A : Option Addr) (h : Nat) (l : List (Int × Int)) (c : Nat) (w : World) (hl : SlP w h A l) (h0 : mayE l = 0) :
    Calls Try.prog 18 #[.slice A l.length c] w fun e w' => ∃ A' c', e = .returned (.tuple #[.slice A' l.length c', .int .i64 0]) ∧ RowS w (srt l) A' c' w' := by
  have hn := (mayE_ok h0).2
  refine (rc_sort_any A h l c w hl (by omega)).mono fun e w' => ?_
  rintro (⟨hz, -⟩ | ⟨-, A', c', he, hr⟩)
  · exact absurd h0 hz
  · exact ⟨A', c', he, hr.s⟩
theorem li_sub (w : World) (g : Nat) (s : SlP w g (some ⟨g, 0, none⟩) liA) : SlP w g (some ⟨g, 2, none⟩) [(1, 1)] := by
  have := (s.tail (off := 0)).take 1
  exact this
theorem below_drew {B : Nat} {w w' : World} (h : Below B w w') : Below B w w'.drew := ⟨h.os, h.tape, h.output, h.size, h.block⟩
set_option maxRecDepth 100000 in
set_option maxHeartbeats 8000000 in
theorem lives_any (w : World) : Calls Try.prog 16 #[] w fun e w' => e = .returned (.bool true) ∧ Below w.heap.size w w' := by
  have BA := Lib.hid (alloc_below w (.cells #[.int .i64 2, .int .i64 2, .int .i64 1, .int .i64 1, .int .i64 1, .int .i64 1] 24))
  have SA := Lib.hid (li_slp w)
  have KA := Lib.hid (Blk.new w 24 #[.int .i64 2, .int .i64 2, .int .i64 1, .int .i64 1, .int .i64 1, .int .i64 1])
  have PS := Lib.hid (fun W (b : Below (w.alloc (.cells #[.int .i64 2, .int .i64 2, .int .i64 1, .int .i64 1, .int .i64 1, .int .i64 1] 24)).heap.size (w.alloc (.cells #[.int .i64 2, .int .i64 2, .int .i64 1, .int .i64 1, .int .i64 1, .int .i64 1] 24)) W) => SA.out.below b)
  generalize hW1 : w.alloc (.cells #[.int .i64 2, .int .i64 2, .int .i64 1, .int .i64 1, .int .i64 1, .int .i64 1] 24) = w1 at BA SA KA PS
  have hs1 : w.heap.size < w1.heap.size := KA.out.lt
  have HW1 := Lib.hid hW1
  clear hW1
  have P1 := Lib.hid (show ∀ (W : World) (b : Below w1.heap.size w1 W), Calls Try.prog 18 #[.slice (some ⟨w.heap.size, 0, none⟩) 3 3] W (fun e w' => ∃ A' c', e = .returned (.tuple #[.slice A' 3 c', .int .i64 0]) ∧ RowS W liS A' c' w') from fun W b => li_srt ▸ rc_sort_ok _ _ liA 3 W (PS.out W b) li_may)
  have P2 := Lib.hid (show ∀ (W : World) (b : Below w1.heap.size w1 W), Calls Try.prog 31 #[.slice (some ⟨w.heap.size, 0, none⟩) 3 3, .slice (some ⟨w.heap.size, 2, none⟩) 1 2] W (fun e w' => ∃ A' c', e = .returned (.tuple #[.slice A' 2 c', .int .i64 0]) ∧ RowS W [(1, 1), (2, 2)] A' c' w') from fun W b => by have := rc_minus_ok _ _ liA 3 _ _ [(1, 1)] 2 W (PS.out W b) (li_sub W _ (PS.out W b)) li_may (by decide); rw [li_minus] at this; exact this)
  have P3 := Lib.hid (show ∀ (W : World) (b : Below w1.heap.size w1 W), Calls Try.prog 36 #[.slice (some ⟨w.heap.size, 0, none⟩) 3 3] W (PutAns W [3, 1, 1, 1, 1, 2, 2]) from fun W b => li_enc ▸ rc_encode_ok _ _ liA 3 W (PS.out W b) li_may)
  have P4 := Lib.hid (show ∀ (W : World) (A : Option Addr) (h c : Nat) (s : SlB W h A [3, 1, 1, 1, 1, 2, 2]), Calls Try.prog 42 #[.slice A 7 c] W (DecAns W (some liS)) from fun W A h c s => li_dec ▸ rc_decode_any A h [3, 1, 1, 1, 1, 2, 2] c W s (by decide))
  have P5 := Lib.hid (show ∀ (W : World) (b : Below w1.heap.size w1 W), Calls Try.prog 20 #[.slice (some ⟨w.heap.size, 0, none⟩) 3 3] W (GroupsAns W (grp (srt liA))) from fun W b => rc_groups_ok _ _ liA 3 W (PS.out W b) li_may)
  have P6 := Lib.hid (show ∀ (W : World), Calls Try.prog 35 #[.agg #[.int .i64 (-1), .int .i64 0]] W (fun e w' => e = .returned (.tuple #[.slice none 0 0, .int .i64 30]) ∧ Below W.heap.size W w') from fun W => rc_put_no (-1) 0 W (by decide))
  have P7 := Lib.hid (show ∀ (W : World) (b : Below w1.heap.size w1 W), Calls Try.prog 28 #[.slice (some ⟨w.heap.size, 0, none⟩) 3 3] W (fun e w' => ∃ A' c', e = .returned (.slice A' 3 c') ∧ RowS W liS A' c' w') from fun W b => by have := rrc_sort_any 3 _ _ liA 3 W (by decide) (PS.out W b) (by decide) (by decide) (by decide); rw [li_srt] at this; exact this)
  have P8 := Lib.hid (show ∀ (W : World) (A B : Option Addr) (h g c d : Nat) (s : SlP W h A liS) (t : SlP W g B liS), Calls Try.prog 26 #[.slice A 3 c, .slice B 3 d] W (fun e w' => e = .returned (.bool true) ∧ Below W.heap.size W w') from fun W A B h g c d s t => by have := rexact_any A B h g liS liS c d W s t (by decide) (by decide); rw [beq_self_eq_true] at this; exact this)
  have P9 := Lib.hid (show ∀ (W : World) (b : Below w1.heap.size w1 W) (B : Option Addr) (g d : Nat) (t : SlP W g B liS), Calls Try.prog 32 #[.slice (some ⟨w.heap.size, 0, none⟩) 3 3, .slice B 3 d] W (fun e w' => e = .returned (.bool true) ∧ Below W.heap.size W w') from fun W b B g d t => li_same ▸ rc_same_any _ _ liA 3 B g liS d W (PS.out W b) t (by decide) (by decide) li_in li_inS)
  have P10 := Lib.hid (show ∀ (W : World) (b : Below w1.heap.size w1 W) (B : Option Addr) (g d : Nat) (t : SlP W g B [(1, 1), (2, 2)]), Calls Try.prog 32 #[.slice (some ⟨w.heap.size, 0, none⟩) 3 3, .slice B 2 d] W (fun e w' => e = .returned (.bool false) ∧ Below W.heap.size W w') from fun W b B g d t => li_unlike ▸ rc_same_any _ _ liA 3 B g [(1, 1), (2, 2)] d W (PS.out W b) t (by decide) (by decide) li_in li_inM)
  have P11 := Lib.hid (show ∀ (W : World) (B : Option Addr) (g d : Nat) (t : SlP W g B liS), Calls Try.prog 22 #[.slice B 3 d] W (fun e w' => e = .returned (.bool true) ∧ Below W.heap.size W w') from fun W B g d t => (show sortedB liS = true by decide) ▸ rc_sorted_any B g liS d W t (by decide))
  have P12 := Lib.hid (show ∀ (W : World) (b : Below w1.heap.size w1 W), Calls Try.prog 22 #[.slice (some ⟨w.heap.size, 0, none⟩) 3 3] W (fun e w' => e = .returned (.bool false) ∧ Below W.heap.size W w') from fun W b => (show sortedB liA = false by decide) ▸ rc_sorted_any _ _ liA 3 W (PS.out W b) (by decide))
  have P13 := Lib.hid (show ∀ (W : World) (b : Below w1.heap.size w1 W), Calls Try.prog 24 #[.slice (some ⟨w.heap.size, 0, none⟩) 3 3, .agg #[.int .i64 1, .int .i64 1]] W (fun e w' => e = .returned (.int .i64 2) ∧ Below W.heap.size W w') from fun W b => rc_count_any _ _ liA 3 1 1 W (PS.out W b) (by decide))
  have P14 := Lib.hid (show ∀ (W : World), Calls Try.prog 46 #[.agg #[.int .i64 2, .int .i64 2], .agg #[.int .i64 1, .int .i64 1]] W (fun e w' => e = .returned (.int .i64 1) ∧ Below W.heap.size W w') from fun W => rc_compare_any 2 2 1 1 W)
  clear PS SA
  go_enter Try.func16, Try.ntmps16
  go_wp2_with fail
  rw [HW1.out]
  refine (P1.out _ (Below.refl _ _)).mono ?_; rintro e w2 ⟨A2, c2, rfl, ⟨⟨h2, s2⟩, b2, -⟩⟩
  have B2 := Lib.hid b2
  have S2 := Lib.hid s2
  clear s2 b2
  go_wp2_with fail
  refine (P2.out _ B2.out).mono ?_; rintro e w3 ⟨A3, c3, rfl, ⟨⟨h3, s3⟩, b3, -⟩⟩
  have B3 := Lib.hid (below_trans B2.out b3)
  have S3 := Lib.hid (S2.out.below b3)
  have M3 := Lib.hid s3
  clear s3 b3
  go_wp2_with fail
  refine (P3.out _ B3.out).mono ?_; rintro e w4 ⟨A4, c4, rfl, o4, b4⟩
  have B4 := Lib.hid (below_trans B3.out b4)
  have S4 := Lib.hid (S3.out.below b4)
  have M4 := Lib.hid (M3.out.below b4)
  obtain ⟨h4, -, sb4, -⟩ := SlB.of_own o4
  have E4 := Lib.hid sb4
  clear o4 b4 sb4
  go_wp2_with fail
  refine (P4.out _ A4 h4 c4 E4.out).mono ?_; rintro e w5 (⟨hz, -⟩ | ⟨l5, A5, c5, hz, rfl, ⟨⟨h5, s5⟩, b5, -⟩⟩)
  · cases hz
  injection hz with hz
  subst hz
  have B5 := Lib.hid (below_trans B4.out b5)
  have S5 := Lib.hid (S4.out.below b5)
  have M5 := Lib.hid (M4.out.below b5)
  have D5 := Lib.hid s5
  clear s5 b5 E4
  go_wp2_with fail
  refine (P5.out _ B5.out).mono ?_; rintro e w6 ⟨A6, c6, vs6, row6, rfl, -, -, b6⟩
  rw [li_grp]
  have B6 := Lib.hid (below_trans B5.out b6)
  have S6 := Lib.hid (S5.out.below b6)
  have M6 := Lib.hid (M5.out.below b6)
  have D6 := Lib.hid (D5.out.below b6)
  clear b6
  go_wp2_with fail
  refine (P6.out _).mono ?_; rintro e w7 ⟨rfl, b7⟩
  have B7 := Lib.hid (below_trans B6.out b7)
  have S7 := Lib.hid (S6.out.below b7)
  have M7 := Lib.hid (M6.out.below b7)
  have D7 := Lib.hid (D6.out.below b7)
  clear b7
  go_wp2_with fail
  simp only [List.append_eq, List.cons_append, List.nil_append]
  have B7d := Lib.hid (below_drew B7.out)
  have S7d := Lib.hid (show SlP w7.drew h2 A2 liS from S7.out)
  have M7d := Lib.hid (show SlP w7.drew h3 A3 _ from M7.out)
  have D7d := Lib.hid (show SlP w7.drew h5 A5 liS from D7.out)
  refine wp_region_R (R := RB) (n := 87) (by kernel_rfl) rfl ?_
  refine batchB [0, 1, 2, 3, 4] (fuel := 82) rfl (by kernel_rfl) (by kernel_rfl) (fun _ _ d _ _ h => by cases d <;> exact h) ?_
  repeat (first | ((with_reducible apply wq0); rfl; rfl; rfl; intro K hK; go_big_quiet_op; refine hK _ ?_; clear hK K) | ((with_reducible apply wq1); rfl; rfl; rfl; rfl; rfl; rfl; intro K hK; go_big_quiet_op; refine hK _ ?_; clear hK K) | ((with_reducible apply wqs); rfl; rfl; rfl; rfl; rfl; rfl; simp only [Act.put, List.setIfInBounds_toArray, List.set_cons_zero, List.set_cons_succ]) | ((with_reducible apply wqu); rfl; rfl; rfl; rfl; rfl; simp only [same]) | ((with_reducible apply wqu); rfl; rfl; rfl; rfl; rfl; simp only [Act.put, List.setIfInBounds_toArray, List.set_cons_zero, List.set_cons_succ]))
  refine wqIdx_nil ?_
  refine wpAnyR_sole (i := 5) rfl (by kernel_rfl) (fun K hK => ?_)
  go_simp
  refine (P7.out _ B7d.out).mono ?_; rintro e w8 ⟨A8, c8, rfl, ⟨⟨h8, s8⟩, b8, -⟩⟩
  refine hK _ _ b8 ?_
  have B8 := Lib.hid (below_trans B7d.out b8)
  have S8 := Lib.hid (S7d.out.below b8)
  have M8 := Lib.hid (M7d.out.below b8)
  have D8 := Lib.hid (D7d.out.below b8)
  have R8 := Lib.hid s8
  clear s8 b8
  clear hK K
  refine wpAnyR_sole (i := 6) rfl (by kernel_rfl) (fun K hK => ?_)
  go_simp
  refine (P8.out _ _ _ _ _ _ _ S8.out R8.out).mono ?_; rintro e w9 ⟨rfl, b9⟩
  refine hK _ _ b9 ?_
  have B9 := Lib.hid (below_trans B8.out b9)
  have S9 := Lib.hid (S8.out.below b9)
  have M9 := Lib.hid (M8.out.below b9)
  have D9 := Lib.hid (D8.out.below b9)
  clear b9
  clear hK K
  refine batchB [7, 8, 9, 10, 11, 12, 13, 14, 15, 16, 17, 18, 19, 20, 21, 22, 23, 24, 25, 26, 27, 28, 29, 30, 31, 32] (fuel := 54) rfl (by kernel_rfl) (by kernel_rfl) (fun _ _ d _ _ h => by cases d <;> exact h) ?_
  repeat (first | ((with_reducible apply wq0); rfl; rfl; rfl; intro K hK; go_big_quiet_op; refine hK _ ?_; clear hK K) | ((with_reducible apply wq1); rfl; rfl; rfl; rfl; rfl; rfl; intro K hK; go_big_quiet_op; refine hK _ ?_; clear hK K) | ((with_reducible apply wqs); rfl; rfl; rfl; rfl; rfl; rfl; simp only [Act.put, List.setIfInBounds_toArray, List.set_cons_zero, List.set_cons_succ]) | ((with_reducible apply wqu); rfl; rfl; rfl; rfl; rfl; simp only [same]) | ((with_reducible apply wqu); rfl; rfl; rfl; rfl; rfl; simp only [Act.put, List.setIfInBounds_toArray, List.set_cons_zero, List.set_cons_succ]))
  refine wqIdx_nil ?_
  refine wpAnyR_sole (i := 33) rfl (by kernel_rfl) (fun K hK => ?_)
  go_simp
  refine (P8.out _ _ _ _ _ _ _ D9.out S9.out).mono ?_; rintro e w10 ⟨rfl, b10⟩
  refine hK _ _ b10 ?_
  have B10 := Lib.hid (below_trans B9.out b10)
  have S10 := Lib.hid (S9.out.below b10)
  have M10 := Lib.hid (M9.out.below b10)
  clear b10
  clear hK K
  refine batchB [34, 35, 36, 37, 38, 39, 40, 41, 42, 43, 44, 45, 46, 47, 48, 49, 50] (fuel := 36) rfl (by kernel_rfl) (by kernel_rfl) (fun _ _ d _ _ h => by cases d <;> exact h) ?_
  repeat (first | ((with_reducible apply wq0); rfl; rfl; rfl; intro K hK; go_big_quiet_op; refine hK _ ?_; clear hK K) | ((with_reducible apply wq1); rfl; rfl; rfl; rfl; rfl; rfl; intro K hK; go_big_quiet_op; refine hK _ ?_; clear hK K) | ((with_reducible apply wqs); rfl; rfl; rfl; rfl; rfl; rfl; simp only [Act.put, List.setIfInBounds_toArray, List.set_cons_zero, List.set_cons_succ]) | ((with_reducible apply wqu); rfl; rfl; rfl; rfl; rfl; simp only [same]) | ((with_reducible apply wqu); rfl; rfl; rfl; rfl; rfl; simp only [Act.put, List.setIfInBounds_toArray, List.set_cons_zero, List.set_cons_succ]))
  refine wqIdx_nil ?_
  refine wpAnyR_sole (i := 51) rfl (by kernel_rfl) (fun K hK => ?_)
  go_simp
  refine (P9.out _ B10.out _ _ _ S10.out).mono ?_; rintro e w11 ⟨rfl, b11⟩
  refine hK _ _ b11 ?_
  have B11 := Lib.hid (below_trans B10.out b11)
  have S11 := Lib.hid (S10.out.below b11)
  have M11 := Lib.hid (M10.out.below b11)
  clear b11
  clear hK K
  refine batchB [52, 53, 54, 55] (fuel := 31) rfl (by kernel_rfl) (by kernel_rfl) (fun _ _ d _ _ h => by cases d <;> exact h) ?_
  repeat (first | ((with_reducible apply wq0); rfl; rfl; rfl; intro K hK; go_big_quiet_op; refine hK _ ?_; clear hK K) | ((with_reducible apply wq1); rfl; rfl; rfl; rfl; rfl; rfl; intro K hK; go_big_quiet_op; refine hK _ ?_; clear hK K) | ((with_reducible apply wqs); rfl; rfl; rfl; rfl; rfl; rfl; simp only [Act.put, List.setIfInBounds_toArray, List.set_cons_zero, List.set_cons_succ]) | ((with_reducible apply wqu); rfl; rfl; rfl; rfl; rfl; simp only [same]) | ((with_reducible apply wqu); rfl; rfl; rfl; rfl; rfl; simp only [Act.put, List.setIfInBounds_toArray, List.set_cons_zero, List.set_cons_succ]))
  refine wqIdx_nil ?_
  refine wpAnyR_sole (i := 56) rfl (by kernel_rfl) (fun K hK => ?_)
  go_simp
  refine (P10.out _ B11.out _ _ _ M11.out).mono ?_; rintro e w12 ⟨rfl, b12⟩
  refine hK _ _ b12 ?_
  have B12 := Lib.hid (below_trans B11.out b12)
  have S12 := Lib.hid (S11.out.below b12)
  clear b12
  clear hK K
  refine batchB [57, 58, 59, 60] (fuel := 26) rfl (by kernel_rfl) (by kernel_rfl) (fun _ _ d _ _ h => by cases d <;> exact h) ?_
  repeat (first | ((with_reducible apply wq0); rfl; rfl; rfl; intro K hK; go_big_quiet_op; refine hK _ ?_; clear hK K) | ((with_reducible apply wq1); rfl; rfl; rfl; rfl; rfl; rfl; intro K hK; go_big_quiet_op; refine hK _ ?_; clear hK K) | ((with_reducible apply wqs); rfl; rfl; rfl; rfl; rfl; rfl; simp only [Act.put, List.setIfInBounds_toArray, List.set_cons_zero, List.set_cons_succ]) | ((with_reducible apply wqu); rfl; rfl; rfl; rfl; rfl; simp only [same]) | ((with_reducible apply wqu); rfl; rfl; rfl; rfl; rfl; simp only [Act.put, List.setIfInBounds_toArray, List.set_cons_zero, List.set_cons_succ]))
  refine wqIdx_nil ?_
  refine wpAnyR_sole (i := 61) rfl (by kernel_rfl) (fun K hK => ?_)
  go_simp
  refine (P11.out _ _ _ _ S12.out).mono ?_; rintro e w13 ⟨rfl, b13⟩
  refine hK _ _ b13 ?_
  have B13 := Lib.hid (below_trans B12.out b13)
  clear b13
  clear hK K
  refine batchB [62, 63, 64] (fuel := 22) rfl (by kernel_rfl) (by kernel_rfl) (fun _ _ d _ _ h => by cases d <;> exact h) ?_
  repeat (first | ((with_reducible apply wq0); rfl; rfl; rfl; intro K hK; go_big_quiet_op; refine hK _ ?_; clear hK K) | ((with_reducible apply wq1); rfl; rfl; rfl; rfl; rfl; rfl; intro K hK; go_big_quiet_op; refine hK _ ?_; clear hK K) | ((with_reducible apply wqs); rfl; rfl; rfl; rfl; rfl; rfl; simp only [Act.put, List.setIfInBounds_toArray, List.set_cons_zero, List.set_cons_succ]) | ((with_reducible apply wqu); rfl; rfl; rfl; rfl; rfl; simp only [same]) | ((with_reducible apply wqu); rfl; rfl; rfl; rfl; rfl; simp only [Act.put, List.setIfInBounds_toArray, List.set_cons_zero, List.set_cons_succ]))
  refine wqIdx_nil ?_
  refine wpAnyR_sole (i := 65) rfl (by kernel_rfl) (fun K hK => ?_)
  go_simp
  refine (P12.out _ B13.out).mono ?_; rintro e w14 ⟨rfl, b14⟩
  refine hK _ _ b14 ?_
  have B14 := Lib.hid (below_trans B13.out b14)
  clear b14
  have K14 := Lib.hid (KA.out.below B14.out hs1)
  have q2 : w14.cell? ⟨w.heap.size, 2, none⟩ = some (.int .i64 1) := K14.out.cell 2
  have q3 : w14.cell? ⟨w.heap.size, 3, none⟩ = some (.int .i64 1) := K14.out.cell 3
  clear hK K
  refine batchB [66, 67, 68, 69, 70, 71, 72] (fuel := 14) rfl (by kernel_rfl) (by kernel_rfl) (fun _ _ d _ _ h => by cases d <;> exact h) ?_
  repeat (first | ((with_reducible apply wq0); rfl; rfl; rfl; intro K hK; go_big_quiet_op; refine hK _ ?_; clear hK K) | ((with_reducible apply wq1); rfl; rfl; rfl; rfl; rfl; rfl; intro K hK; go_big_quiet_op; refine hK _ ?_; clear hK K) | ((with_reducible apply wqs); rfl; rfl; rfl; rfl; rfl; rfl; simp only [Act.put, List.setIfInBounds_toArray, List.set_cons_zero, List.set_cons_succ]) | ((with_reducible apply wqu); rfl; rfl; rfl; rfl; rfl; simp only [same]) | ((with_reducible apply wqu); rfl; rfl; rfl; rfl; rfl; simp only [Act.put, List.setIfInBounds_toArray, List.set_cons_zero, List.set_cons_succ]))
  refine wqIdx_load rfl rfl rfl rfl (fun W hW => load_rec_at _ _ (1) (1) W (keep_cell hW q2) (keep_cell hW q3)) ?_
  simp only [Act.put, List.setIfInBounds_toArray, List.set_cons_zero, List.set_cons_succ]
  repeat (first | ((with_reducible apply wq0); rfl; rfl; rfl; intro K hK; go_big_quiet_op; refine hK _ ?_; clear hK K) | ((with_reducible apply wq1); rfl; rfl; rfl; rfl; rfl; rfl; intro K hK; go_big_quiet_op; refine hK _ ?_; clear hK K) | ((with_reducible apply wqs); rfl; rfl; rfl; rfl; rfl; rfl; simp only [Act.put, List.setIfInBounds_toArray, List.set_cons_zero, List.set_cons_succ]) | ((with_reducible apply wqu); rfl; rfl; rfl; rfl; rfl; simp only [same]) | ((with_reducible apply wqu); rfl; rfl; rfl; rfl; rfl; simp only [Act.put, List.setIfInBounds_toArray, List.set_cons_zero, List.set_cons_succ]))
  refine wqIdx_nil ?_
  refine wpAnyR_sole (i := 73) rfl (by kernel_rfl) (fun K hK => ?_)
  go_simp
  refine (P13.out _ B14.out).mono ?_; rintro e w15 ⟨rfl, b15⟩
  refine hK _ _ b15 ?_
  have B15 := Lib.hid (below_trans B14.out b15)
  clear b15
  have K15 := Lib.hid (KA.out.below B15.out hs1)
  have r0 : w15.cell? ⟨w.heap.size, 0, none⟩ = some (.int .i64 2) := K15.out.cell 0
  have r1 : w15.cell? ⟨w.heap.size, 1, none⟩ = some (.int .i64 2) := K15.out.cell 1
  have r2 : w15.cell? ⟨w.heap.size, 2, none⟩ = some (.int .i64 1) := K15.out.cell 2
  have r3 : w15.cell? ⟨w.heap.size, 3, none⟩ = some (.int .i64 1) := K15.out.cell 3
  clear hK K
  refine batchB [74, 75, 76, 77, 78, 79, 80, 81, 82] (fuel := 4) rfl (by kernel_rfl) (by kernel_rfl) (fun _ _ d _ _ h => by cases d <;> exact h) ?_
  repeat (first | ((with_reducible apply wq0); rfl; rfl; rfl; intro K hK; go_big_quiet_op; refine hK _ ?_; clear hK K) | ((with_reducible apply wq1); rfl; rfl; rfl; rfl; rfl; rfl; intro K hK; go_big_quiet_op; refine hK _ ?_; clear hK K) | ((with_reducible apply wqs); rfl; rfl; rfl; rfl; rfl; rfl; simp only [Act.put, List.setIfInBounds_toArray, List.set_cons_zero, List.set_cons_succ]) | ((with_reducible apply wqu); rfl; rfl; rfl; rfl; rfl; simp only [same]) | ((with_reducible apply wqu); rfl; rfl; rfl; rfl; rfl; simp only [Act.put, List.setIfInBounds_toArray, List.set_cons_zero, List.set_cons_succ]))
  refine wqIdx_load rfl rfl rfl rfl (fun W hW => load_rec_at _ _ (2) (2) W (keep_cell hW r0) (keep_cell hW r1)) ?_
  simp only [Act.put, List.setIfInBounds_toArray, List.set_cons_zero, List.set_cons_succ]
  repeat (first | ((with_reducible apply wq0); rfl; rfl; rfl; intro K hK; go_big_quiet_op; refine hK _ ?_; clear hK K) | ((with_reducible apply wq1); rfl; rfl; rfl; rfl; rfl; rfl; intro K hK; go_big_quiet_op; refine hK _ ?_; clear hK K) | ((with_reducible apply wqs); rfl; rfl; rfl; rfl; rfl; rfl; simp only [Act.put, List.setIfInBounds_toArray, List.set_cons_zero, List.set_cons_succ]) | ((with_reducible apply wqu); rfl; rfl; rfl; rfl; rfl; simp only [same]) | ((with_reducible apply wqu); rfl; rfl; rfl; rfl; rfl; simp only [Act.put, List.setIfInBounds_toArray, List.set_cons_zero, List.set_cons_succ]))
  refine wqIdx_load rfl rfl rfl rfl (fun W hW => load_rec_at _ _ (1) (1) W (keep_cell hW r2) (keep_cell hW r3)) ?_
  simp only [Act.put, List.setIfInBounds_toArray, List.set_cons_zero, List.set_cons_succ]
  repeat (first | ((with_reducible apply wq0); rfl; rfl; rfl; intro K hK; go_big_quiet_op; refine hK _ ?_; clear hK K) | ((with_reducible apply wq1); rfl; rfl; rfl; rfl; rfl; rfl; intro K hK; go_big_quiet_op; refine hK _ ?_; clear hK K) | ((with_reducible apply wqs); rfl; rfl; rfl; rfl; rfl; rfl; simp only [Act.put, List.setIfInBounds_toArray, List.set_cons_zero, List.set_cons_succ]) | ((with_reducible apply wqu); rfl; rfl; rfl; rfl; rfl; simp only [same]) | ((with_reducible apply wqu); rfl; rfl; rfl; rfl; rfl; simp only [Act.put, List.setIfInBounds_toArray, List.set_cons_zero, List.set_cons_succ]))
  refine wqIdx_nil ?_
  refine wpAnyR_sole (i := 83) rfl (by kernel_rfl) (fun K hK => ?_)
  go_simp
  refine (P14.out _).mono ?_; rintro e w16 ⟨rfl, b16⟩
  refine hK _ _ b16 ?_
  have B16 := Lib.hid (below_trans B15.out b16)
  clear b16
  clear hK K
  refine batchB [84, 85, 86] (fuel := 0) rfl (by kernel_rfl) (by kernel_rfl) (fun _ _ d _ _ h => by cases d <;> exact h) ?_
  repeat (first | ((with_reducible apply wq0); rfl; rfl; rfl; intro K hK; go_big_quiet_op; refine hK _ ?_; clear hK K) | ((with_reducible apply wq1); rfl; rfl; rfl; rfl; rfl; rfl; intro K hK; go_big_quiet_op; refine hK _ ?_; clear hK K) | ((with_reducible apply wqs); rfl; rfl; rfl; rfl; rfl; rfl; simp only [Act.put, List.setIfInBounds_toArray, List.set_cons_zero, List.set_cons_succ]) | ((with_reducible apply wqu); rfl; rfl; rfl; rfl; rfl; simp only [same]) | ((with_reducible apply wqu); rfl; rfl; rfl; rfl; rfl; simp only [Act.put, List.setIfInBounds_toArray, List.set_cons_zero, List.set_cons_succ]))
  refine wqIdx_nil ?_
  refine wpAnyR_done (by kernel_rfl) ?_ _
  go_wp2
  go_ret
  exact ⟨rfl, BA.out.trans (B16.out.mono BA.out.size)⟩
end Go.Proofs.Ytibhofdblfgkbaa
