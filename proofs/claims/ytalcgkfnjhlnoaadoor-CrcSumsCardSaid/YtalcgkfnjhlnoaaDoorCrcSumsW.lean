/- The walk of the law CrcSums. -/
import Derived.Test.YtalcgkfnjhlnoaaDoorCrcJoinsW
namespace Go.Proofs.YtalcgkfnjhlnoaaDoor
open Go.RowKit

/-- What Open makes of bytes: were they sealed, and what was sealed. -/
def openM (l : List UInt8) : Bool × List UInt8 := if 4 ≤ l.length ∧ sealM (l.take (l.length - 4)) = l then (true, l.take (l.length - 4)) else (false, [])
def okE (ok : Bool) : Int := if ok then 0 else 20
def OpenAns (w : World) (l : List UInt8) (v : Bool → Value) (e : Ending) (w' : World) : Prop :=
  ∃ ok A c h d, e = .returned (.tuple #[.slice A d.length c, v ok]) ∧ SlB w' h A d ∧ openM l = (ok, d) ∧ Below w.heap.size w w'
theorem open_ans_of (w : World) (l : List UInt8) (v : Bool → Value) (hs : 4 ≤ l.length) (e : Ending) (w' : World)
    (H : (sealM (l.take (l.length - 4)) = l → OpenYes w l (v true) e w') ∧ (sealM (l.take (l.length - 4)) ≠ l → OpenNo w (v false) e w')) : OpenAns w l v e w' := by
  by_cases he : sealM (l.take (l.length - 4)) = l
  · obtain ⟨A, c, h, rfl, s, _, _, _, b⟩ := H.1 he
    refine ⟨true, A, c, h, l.take (l.length - 4), ?_, s, ?_, b⟩
    · rw [show (l.take (l.length - 4)).length = l.length - 4 by rw [List.length_take]; omega]
    · unfold openM; rw [if_pos ⟨hs, he⟩]
  · obtain ⟨rfl, b⟩ := H.2 he
    refine ⟨false, none, 0, 0, [], rfl, SlB.nil _ _ _, ?_, b⟩
    unfold openM; rw [if_neg (fun h => he h.2)]
theorem open_any (A : Option Addr) (h : Nat) (l : List UInt8) (c : Nat) (w : World) (hh : HalvesAt w) (hl : SlB w h A l) (hlc : l.length ≤ c) (hc : c ≤ maxLen) (hb : l.length ≤ 70368744177664) :
    Calls Tryd.prog 10 #[.slice A l.length c] w (OpenAns w l fun ok => .int .i64 (okE ok)) := by
  by_cases hs : l.length < 4
  · refine (open_short A l c w hs).mono ?_
    rintro e w' ⟨rfl, b⟩
    refine ⟨false, none, 0, 0, [], rfl, SlB.nil _ _ _, ?_, b⟩
    unfold openM; rw [if_neg (fun h => absurd h.1 (by omega))]
  · exact (open_long A h l c w hh hl hlc hc hb (by omega)).mono fun e w' H => open_ans_of w l (fun ok => .int .i64 (okE ok)) (by omega) e w' H
theorem ropen_any (A : Option Addr) (h : Nat) (l : List UInt8) (c : Nat) (w : World) (hl : SlB w h A l) (hlc : l.length ≤ c) (hc : c ≤ maxLen) (hb : l.length ≤ 70368744177664) :
    Calls Tryd.prog 11 #[.slice A l.length c] w (OpenAns w l fun ok => .bool ok) := by
  by_cases hs : l.length < 4
  · refine (ropen_short A l c w hs).mono ?_
    rintro e w' ⟨rfl, b⟩
    refine ⟨false, none, 0, 0, [], rfl, SlB.nil _ _ _, ?_, b⟩
    unfold openM; rw [if_neg (fun h => absurd h.1 (by omega))]
  · exact (ropen_long A h l c w hl hlc hc hb (by omega)).mono fun e w' H => open_ans_of w l (fun ok => .bool ok) (by omega) e w' H
theorem own_ans {w w' : World} {l : List UInt8} {e : Ending} (h : OwnB w l e w') : ∃ A c g, e = .returned (.slice A l.length c) ∧ SlB w' g A l ∧ Below w.heap.size w w' := by
  obtain ⟨A, c, rfl, o, b⟩ := h
  obtain ⟨g, _, s, _⟩ := SlB.of_own o
  exact ⟨A, c, g, rfl, s, b⟩
set_option maxRecDepth 100000 in
set_option maxHeartbeats 2000000 in
theorem sums_in (s : Nat) (A : Option Addr) (g : Nat) (l : List UInt8) (c : Nat) (w : World) (ha : InB w A g l c) (hla : l.length ≤ 3000) (hs : s < 4294967296) (hh : HalvesAt w) :
    Calls Tryd.prog 3 #[.int .u32 (s : Int), .slice A l.length c] w (LawPost w) := by
  obtain ⟨sa, hac, hcm⟩ := ha
  have d1 : decide ((3000 : Int) < (l.length : Int)) = false := by simp; omega
  have hlm : l.length ≤ 70368744177664 := by omega
  have HA := Lib.hid sa
  have HH := Lib.hid hh
  have HAC := Lib.hid hac
  have HCM := Lib.hid hcm
  have HLM := Lib.hid hlm
  clear hh
  have HE := Lib.hid (empty_own w 5)
  have b0 := alloc_below w (.cells #[] 5)
  have HR := Lib.hid ((sa.below b0 fun h => h).reads (n := l.length) rfl)
  clear sa b0
  go_enter Tryd.func3, Tryd.ntmps3
  go_wp2_with (at_builtin; (refine wpList_appB _ rfl (.tmp 14) (.tmp 15) _ rfl Tryd.underlying23 info_u8 HE.out HR.out c rfl rfl (by omega) (by simp) ?_); intro A1 c1 w1 o1 gr1; rw [Nat.zero_add, List.nil_append] at o1; have O1 := Lib.hid o1; have B1 := Lib.hid (show Below w.heap.size w w1 from ((Below.refl _ _).alloc (Nat.le_refl _) _).grown (Grew.by_ gr1) (by simp) (by simp [Value.ownBlock])); clear o1 gr1)
  obtain ⟨g1, _, s1, -⟩ := SlB.of_own O1.out
  obtain ⟨q1, q2⟩ := own_cap O1.out
  have HH1 := HH.out.below B1.out HH.out.pos
  refine (open_any A1 g1 l c1 w1 HH1 s1 q1 q2 hlm).mono ?_
  rintro e w2 ⟨ok, A2, c2, h2, d, rfl, s2, hop, b2⟩
  have B2 := Lib.hid (below_trans B1.out b2)
  have HH2 := Lib.hid (HH1.below b2 HH1.pos)
  have S1 := Lib.hid (s1.below b2 fun h => h)
  have S2 := Lib.hid s2
  have P3 := Lib.hid (ropen_any A g l c w2 (HA.out.below B2.out fun h => h) hac hcm hlm)
  have Q1 := Lib.hid q1
  have Q2 := Lib.hid q2
  have HOP := Lib.hid hop
  clear s1 s2 b2 HH1 q1 q2 hop
  go_wp2_with fail
  refine P3.out.mono ?_
  rintro e w3 ⟨ok', A3, c3, h3, d', rfl, s3, hop', b3⟩
  obtain ⟨rfl, rfl⟩ : ok' = ok ∧ d' = d := by rw [HOP.out] at hop'; injection hop' with h1 h2; exact ⟨h1.symm, h2.symm⟩
  have B3 := Lib.hid (below_trans B2.out b3)
  have HH3 := Lib.hid (HH2.out.below b3 HH2.out.pos)
  have S1 := Lib.hid (S1.out.below b3 fun h => h)
  have S2 := Lib.hid (S2.out.below b3 fun h => h)
  have S3 := Lib.hid s3
  have HA := Lib.hid (HA.out.below B3.out fun h => h)
  clear s3 b3 hop'
  go_wp2_with fail
  refine wp_region_R (R := RB) (n := 54) (by kernel_rfl) rfl ?_
  refine wpAnyR_sole (i := 0) rfl (by kernel_rfl) (fun K hK => ?_)
  go_simp
  refine (lives_any w3.drew HH3.out).mono ?_; rintro e w4 ⟨rfl, b4⟩
  have B4 := Lib.hid (RB.of_drew b4)
  have HH4 := Lib.hid (HH3.out.below B4.out HH3.out.pos)
  have S1 := Lib.hid (S1.out.below B4.out fun h => h)
  have S2 := Lib.hid (S2.out.below B4.out fun h => h)
  have S3 := Lib.hid (S3.out.below B4.out fun h => h)
  have HA := Lib.hid (HA.out.below B4.out fun h => h)
  refine hK _ _ b4 ?_
  clear b4 hK K
  have P1 := Lib.hid (sum_any A1 g1 l c1 w4 HH4.out S1.out Q1.out Q2.out)
  have P2 := Lib.hid (rsum_any A g l c w4 HA.out HAC.out HCM.out)
  have P3 := Lib.hid (more_any s A1 g1 l c1 w4 hs HH4.out S1.out Q1.out Q2.out)
  have P4 := Lib.hid (rmore_any s A g l c w4 hs HA.out HAC.out HCM.out)
  have P5 := Lib.hid (seal_any A1 g1 l c1 w4 HH4.out S1.out Q1.out Q2.out HLM.out)
  generalize moreM 0 l = m0 at P1 P2
  generalize moreM s l = m1 at P3 P4
  refine batchB [1, 2, 4] (fuel := 50) rfl (by kernel_rfl) (by kernel_rfl) (fun _ _ d _ _ h => by cases d <;> exact h) ?_
  repeat (first | ((with_reducible apply wq0); rfl; rfl; rfl; intro K hK; go_big_quiet_op; refine hK _ ?_; clear hK K) | ((with_reducible apply wq1); rfl; rfl; rfl; rfl; rfl; rfl; intro K hK; go_big_quiet_op; refine hK _ ?_; clear hK K) | ((with_reducible apply wqs); rfl; rfl; rfl; rfl; rfl; rfl; simp only [Act.put, List.setIfInBounds_toArray, List.set_cons_zero, List.set_cons_succ]) | ((with_reducible apply wqu); rfl; rfl; rfl; rfl; rfl; simp only [same]))
  refine wqIdx_nil ?_
  refine wpAnyR_sole (i := 3) rfl (by kernel_rfl) (fun K hK => ?_)
  go_simp
  refine P1.out.mono ?_; rintro e w' ⟨rfl, rfl⟩
  refine hK _ _ (RB.refl _) ?_
  clear hK K
  refine wpAnyR_sole (i := 5) rfl (by kernel_rfl) (fun K hK => ?_)
  go_simp
  refine P2.out.mono ?_; rintro e w' ⟨rfl, rfl⟩
  refine hK _ _ (RB.refl _) ?_
  clear hK K
  refine batchB [6, 7, 8, 9, 10, 12, 13] (fuel := 41) rfl (by kernel_rfl) (by kernel_rfl) (fun _ _ d _ _ h => by cases d <;> exact h) ?_
  repeat (first | ((with_reducible apply wq0); rfl; rfl; rfl; intro K hK; go_big_quiet_op; refine hK _ ?_; clear hK K) | ((with_reducible apply wq1); rfl; rfl; rfl; rfl; rfl; rfl; intro K hK; go_big_quiet_op; refine hK _ ?_; clear hK K) | ((with_reducible apply wqs); rfl; rfl; rfl; rfl; rfl; rfl; simp only [Act.put, List.setIfInBounds_toArray, List.set_cons_zero, List.set_cons_succ]) | ((with_reducible apply wqu); rfl; rfl; rfl; rfl; rfl; simp only [same]))
  refine wqIdx_nil ?_
  refine wpAnyR_sole (i := 11) rfl (by kernel_rfl) (fun K hK => ?_)
  go_simp
  refine P3.out.mono ?_; rintro e w' ⟨rfl, rfl⟩
  refine hK _ _ (RB.refl _) ?_
  clear hK K
  refine wpAnyR_sole (i := 14) rfl (by kernel_rfl) (fun K hK => ?_)
  go_simp
  refine P4.out.mono ?_; rintro e w' ⟨rfl, rfl⟩
  refine hK _ _ (RB.refl _) ?_
  clear hK K
  refine batchB [15, 16, 17, 18, 21] (fuel := 34) rfl (by kernel_rfl) (by kernel_rfl) (fun _ _ d _ _ h => by cases d <;> exact h) ?_
  repeat (first | ((with_reducible apply wq0); rfl; rfl; rfl; intro K hK; go_big_quiet_op; refine hK _ ?_; clear hK K) | ((with_reducible apply wq1); rfl; rfl; rfl; rfl; rfl; rfl; intro K hK; go_big_quiet_op; refine hK _ ?_; clear hK K) | ((with_reducible apply wqs); rfl; rfl; rfl; rfl; rfl; rfl; simp only [Act.put, List.setIfInBounds_toArray, List.set_cons_zero, List.set_cons_succ]) | ((with_reducible apply wqu); rfl; rfl; rfl; rfl; rfl; simp only [same]))
  refine wqIdx_nil ?_
  refine wpAnyR_sole (i := 19) rfl (by kernel_rfl) (fun K hK => ?_)
  go_simp
  refine P5.out.mono ?_; rintro e w5 ho5
  obtain ⟨A5, c5, g5, rfl, s5, b5⟩ := own_ans ho5
  refine hK _ _ b5 ?_
  clear hK K ho5
  have B5 := Lib.hid b5
  have S5 := Lib.hid s5
  have HA5 := Lib.hid (HA.out.below b5 fun h => h)
  have P6 := Lib.hid (rseal_any A g l c w5 HA5.out HAC.out HCM.out HLM.out)
  clear b5 s5
  obtain ⟨L, hL⟩ : ∃ L, L = sealM l := ⟨_, rfl⟩
  rw [← hL] at S5 P6 ⊢
  clear hL
  refine batchB [20] (fuel := 32) rfl (by kernel_rfl) (by kernel_rfl) (fun _ _ d _ _ h => by cases d <;> exact h) ?_
  refine wqIdx_conv rfl rfl rfl rfl (conv_later S5.out c5 rfl) ?_
  simp only [Act.put, List.setIfInBounds_toArray, List.set_cons_zero, List.set_cons_succ]
  refine wqIdx_nil ?_
  refine wpAnyR_sole (i := 22) rfl (by kernel_rfl) (fun K hK => ?_)
  go_simp
  refine P6.out.mono ?_; rintro e w6 ho6
  obtain ⟨A6, c6, g6, rfl, s6, b6⟩ := own_ans ho6
  refine hK _ _ b6 ?_
  clear hK K ho6
  have b46 := below_trans B5.out b6
  have C1 := Lib.hid (S1.out.below b46 fun h => h)
  have C2 := Lib.hid (S2.out.below b46 fun h => h)
  have C3 := Lib.hid (S3.out.below b46 fun h => h)
  have C4 := Lib.hid (HA.out.below b46 fun h => h)
  have C6 := Lib.hid s6
  have BF := Lib.hid (below_trans B3.out (below_trans B4.out b46))
  clear b6 b46 s6
  clear P1 P2 P3 P4 P5 P6
  cases ok'
  all_goals
    first | rw [show okE false = 20 from rfl] | rw [show okE true = 0 from rfl]
    refine batchB [23, 24, 25, 26, 27, 28, 29, 30, 31, 32, 33, 34, 35, 36, 37, 38, 39, 40, 41, 42, 43, 44, 45, 46, 47, 48, 49, 50, 51, 52, 53] (fuel := 0) rfl (by kernel_rfl) (by kernel_rfl) (fun _ _ d _ _ h => by cases d <;> exact h) ?_
    refine wqIdx_conv rfl rfl rfl rfl (conv_later C6.out c6 rfl) ?_
    simp only [Act.put, List.setIfInBounds_toArray, List.set_cons_zero, List.set_cons_succ]
    repeat (first | ((with_reducible apply wq0); rfl; rfl; rfl; intro K hK; go_big_quiet_op; refine hK _ ?_; clear hK K) | ((with_reducible apply wq1); rfl; rfl; rfl; rfl; rfl; rfl; intro K hK; go_big_quiet_op; refine hK _ ?_; clear hK K) | ((with_reducible apply wqs); rfl; rfl; rfl; rfl; rfl; rfl; simp only [Act.put, List.setIfInBounds_toArray, List.set_cons_zero, List.set_cons_succ]) | ((with_reducible apply wqu); rfl; rfl; rfl; rfl; rfl; simp only [same]))
    refine wqIdx_conv rfl rfl rfl rfl (conv_later C2.out c2 rfl) ?_
    simp only [Act.put, List.setIfInBounds_toArray, List.set_cons_zero, List.set_cons_succ]
    repeat (first | ((with_reducible apply wq0); rfl; rfl; rfl; intro K hK; go_big_quiet_op; refine hK _ ?_; clear hK K) | ((with_reducible apply wq1); rfl; rfl; rfl; rfl; rfl; rfl; intro K hK; go_big_quiet_op; refine hK _ ?_; clear hK K) | ((with_reducible apply wqs); rfl; rfl; rfl; rfl; rfl; rfl; simp only [Act.put, List.setIfInBounds_toArray, List.set_cons_zero, List.set_cons_succ]) | ((with_reducible apply wqu); rfl; rfl; rfl; rfl; rfl; simp only [same]))
    refine wqIdx_conv rfl rfl rfl rfl (conv_later C3.out c3 rfl) ?_
    simp only [Act.put, List.setIfInBounds_toArray, List.set_cons_zero, List.set_cons_succ]
    repeat (first | ((with_reducible apply wq0); rfl; rfl; rfl; intro K hK; go_big_quiet_op; refine hK _ ?_; clear hK K) | ((with_reducible apply wq1); rfl; rfl; rfl; rfl; rfl; rfl; intro K hK; go_big_quiet_op; refine hK _ ?_; clear hK K) | ((with_reducible apply wqs); rfl; rfl; rfl; rfl; rfl; rfl; simp only [Act.put, List.setIfInBounds_toArray, List.set_cons_zero, List.set_cons_succ]) | ((with_reducible apply wqu); rfl; rfl; rfl; rfl; rfl; simp only [same]))
    refine wqIdx_conv rfl rfl rfl rfl (conv_later C1.out c1 rfl) ?_
    simp only [Act.put, List.setIfInBounds_toArray, List.set_cons_zero, List.set_cons_succ]
    repeat (first | ((with_reducible apply wq0); rfl; rfl; rfl; intro K hK; go_big_quiet_op; refine hK _ ?_; clear hK K) | ((with_reducible apply wq1); rfl; rfl; rfl; rfl; rfl; rfl; intro K hK; go_big_quiet_op; refine hK _ ?_; clear hK K) | ((with_reducible apply wqs); rfl; rfl; rfl; rfl; rfl; rfl; simp only [Act.put, List.setIfInBounds_toArray, List.set_cons_zero, List.set_cons_succ]) | ((with_reducible apply wqu); rfl; rfl; rfl; rfl; rfl; simp only [same]))
    refine wqIdx_conv rfl rfl rfl rfl (conv_later C4.out c rfl) ?_
    simp only [Act.put, List.setIfInBounds_toArray, List.set_cons_zero, List.set_cons_succ]
    repeat (first | ((with_reducible apply wq0); rfl; rfl; rfl; intro K hK; go_big_quiet_op; refine hK _ ?_; clear hK K) | ((with_reducible apply wq1); rfl; rfl; rfl; rfl; rfl; rfl; intro K hK; go_big_quiet_op; refine hK _ ?_; clear hK K) | ((with_reducible apply wqs); rfl; rfl; rfl; rfl; rfl; rfl; simp only [Act.put, List.setIfInBounds_toArray, List.set_cons_zero, List.set_cons_succ]) | ((with_reducible apply wqu); rfl; rfl; rfl; rfl; rfl; simp only [same]))
    refine wqIdx_nil ?_
    refine wpAnyR_done (by kernel_rfl) ?_ _
    go_wp2
    go_ret
    exact ⟨rfl, BF.out⟩
theorem sums_law (s : Nat) (A : Option Addr) (g : Nat) (l : List UInt8) (c : Nat) (w : World) (ha : InB w A g l c) (hs : s < 4294967296) (hh : HalvesAt w) :
    Calls Tryd.prog 3 #[.int .u32 (s : Int), .slice A l.length c] w (LawPost w) := by
  have hlm : l.length ≤ 9223372036854775807 := Nat.le_trans ha.2.1 ha.2.2
  by_cases h1 : 3000 < l.length
  · have d1 : decide ((3000 : Int) < (l.length : Int)) = true := by simp; omega
    have HH := Lib.hid hh
    clear hh ha
    go_enter Tryd.func3, Tryd.ntmps3
    go_wp2_with fail
    refine (lives_any _ HH.out).mono ?_; rintro e w1 ⟨rfl, b1⟩
    go_wp2
    go_ret
    exact ⟨rfl, b1⟩
  · exact sums_in s A g l c w ha (by omega) hs hh
end Go.Proofs.YtalcgkfnjhlnoaaDoor
