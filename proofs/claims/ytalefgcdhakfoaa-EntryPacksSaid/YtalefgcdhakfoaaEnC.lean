/- Contracts of the document's entries: At, Behind; may, Sorted, Same of both. -/
import Derived.Test.YtalefgcdhakfoaaEnB
namespace Go.Proofs.Ytalefgcdhakfoaa
open Go.RowKit Go.Sort

/-- What is wrong with the first entry that may not be. -/
def firstE : List En → Int
  | [] => 0
  | x :: r => if enE x = 0 then firstE r else enE x
theorem firstE_append (a b : List En) (h : firstE a = 0) : firstE (a ++ b) = firstE b := by
  induction a with
  | nil => rfl
  | cons x a ih =>
    unfold firstE at h
    by_cases hx : enE x = 0
    · rw [if_pos hx] at h
      show (if enE x = 0 then firstE (a ++ b) else enE x) = _
      rw [if_pos hx]
      exact ih h
    · rw [if_neg hx] at h
      exact absurd h hx
/-- What is wrong with entries. -/
def mayEs (l : List En) : Int := if firstE l = 0 then (if 16384 < l.length then 3 else 0) else firstE l
set_option maxRecDepth 100000 in
set_option maxHeartbeats 2000000 in
theorem en_may_any (A : Option Addr) (h : Nat) (l : List En) (c : Nat) (w : World) (hl : SlK encE w h A l) (hbig : l.length ≤ 50000) :
    Calls Try.prog 59 #[.slice A l.length c] w fun e w' => e = .returned (.int .i64 (mayEs l)) ∧ Below w.heap.size w w' := by
  have HS := Lib.hid hl
  clear hl
  go_enter Try.func59, Try.ntmps59
  go_wp2_with fail
  go_loopw [8] (fun i wr => ∃ k : Nat, k ≤ l.length ∧ i = .int .i64 (k : Int) ∧ firstE (l.take k) = 0 ∧ Below w.heap.size w wr) (fun i _ => l.length - (intOf i).toNat)
  case atStart => exact ⟨0, Nat.zero_le _, rfl, rfl, Below.refl _ _⟩
  case round =>
    obtain ⟨k, hk, rfl, hfi, hb⟩ := hrel
    have HFI := Lib.hid hfi
    have HB := Lib.hid hb
    clear hfi hb
    by_cases hlt : k < l.length
    · have hea := List.getElem?_eq_getElem hlt
      obtain ⟨-, off, rfl, hc⟩ := (HS.out.below HB.out).at_ layE hea
      have htk : l.take (k + 1) = l.take k ++ [l[k]] := by rw [List.take_add_one, hea]; rfl
      have hsp : l = l.take k ++ l[k] :: l.drop (k + 1) := by rw [List.getElem_cons_drop, List.take_append_drop]
      obtain ⟨x, hx⟩ : ∃ x, x = l[k] := ⟨_, rfl⟩
      rw [← hx] at hc htk hsp
      have HSP := Lib.hid hsp
      have HTK := Lib.hid htk
      obtain ⟨⟨a, b⟩, c', d⟩ := x
      have q0 := hc 0 _ rfl
      have q1 := hc 1 _ rfl
      have q2 := hc 2 _ rfl
      have q3 := hc 3 _ rfl
      rw [Nat.add_zero] at q0
      have b1 := alloc_below wr (.cells #[.int .i64 a, .int .i64 b, .int .i64 c', .int .i64 d] 98)
      have P1 := Lib.hid (en_check_any a b c' d (wr.alloc (.cells #[.int .i64 a, .int .i64 b, .int .i64 c', .int .i64 d] 98)))
      have BW := Lib.hid (below_trans HB.out b1)
      obtain ⟨z, hz⟩ : ∃ z, z = enE ((a, b), (c', d)) := ⟨_, rfl⟩
      rw [← hz] at P1
      have HZ := Lib.hid hz
      clear hea hx htk hsp hc hz b1
      go_wp2_with fail
      refine P1.out.mono ?_; rintro e w1 ⟨rfl, b1⟩
      have BW1 := Lib.hid (below_trans BW.out b1)
      clear b1 P1 q0 q1 q2 q3
      by_cases h0 : z = 0
      · have d1 : (z != 0) = false := by simpa using h0
        have H0 := Lib.hid h0
        clear h0
        go_wp2
        refine ⟨⟨k + 1, by omega, by go_num, ?_, BW1.out⟩, by simp [intOf]; omega⟩
        rw [HTK.out, firstE_append _ _ HFI.out]
        show (if enE ((a, b), (c', d)) = 0 then firstE [] else _) = 0
        rw [if_pos (by rw [← HZ.out]; exact H0.out)]
        rfl
      · have d1 : (z != 0) = true := by simpa using h0
        have H0 := Lib.hid h0
        clear h0
        go_wp2
        go_ret
        have hfz : firstE l = z := by
          rw [HSP.out, firstE_append _ _ HFI.out]
          show (if enE ((a, b), (c', d)) = 0 then _ else enE ((a, b), (c', d))) = z
          rw [← HZ.out, if_neg H0.out]
        refine ⟨?_, BW1.out⟩
        unfold mayEs
        rw [hfz, if_neg H0.out]
        rfl
    · obtain rfl : k = l.length := by omega
      have hfi := HFI.out
      rw [List.take_length] at hfi
      by_cases h16 : 16384 < l.length
      · have d1 : decide ((16384 : Int) < (l.length : Int)) = true := by rw [decide_eq_true_eq]; omega
        have HM := Lib.hid (show mayEs l = 3 by unfold mayEs; rw [if_pos hfi, if_pos h16])
        clear hfi
        go_wp2
        go_ret
        exact ⟨by rw [HM.out]; rfl, HB.out⟩
      · have d1 : decide ((16384 : Int) < (l.length : Int)) = false := by rw [decide_eq_false_iff_not]; omega
        have HM := Lib.hid (show mayEs l = 0 by unfold mayEs; rw [if_pos hfi, if_neg h16])
        clear hfi
        go_wp2
        go_ret
        exact ⟨by rw [HM.out]; rfl, HB.out⟩
set_option maxRecDepth 100000 in
set_option maxHeartbeats 2000000 in
theorem ren_may_any (A : Option Addr) (h : Nat) (l : List En) (c : Nat) (w : World) (hl : SlK encE w h A l) (hbig : l.length ≤ 50000) :
    Calls Try.prog 27 #[.slice A l.length c] w fun e w' => e = .returned (.int .i64 (mayEs l)) ∧ Below w.heap.size w w' := by
  have HS := Lib.hid hl
  clear hl
  go_enter Try.func27, Try.ntmps27
  go_wp2_with fail
  go_loopw [3] (fun i wr => ∃ k : Nat, k ≤ l.length ∧ i = .int .i64 (k : Int) ∧ firstE (l.take k) = 0 ∧ Below w.heap.size w wr) (fun i _ => l.length - (intOf i).toNat)
  case atStart => exact ⟨0, Nat.zero_le _, rfl, rfl, Below.refl _ _⟩
  case round =>
    obtain ⟨k, hk, rfl, hfi, hb⟩ := hrel
    have HFI := Lib.hid hfi
    have HB := Lib.hid hb
    clear hfi hb
    by_cases hlt : k < l.length
    · have hea := List.getElem?_eq_getElem hlt
      obtain ⟨-, off, rfl, hc⟩ := (HS.out.below HB.out).at_ layE hea
      have htk : l.take (k + 1) = l.take k ++ [l[k]] := by rw [List.take_add_one, hea]; rfl
      have hsp : l = l.take k ++ l[k] :: l.drop (k + 1) := by rw [List.getElem_cons_drop, List.take_append_drop]
      obtain ⟨x, hx⟩ : ∃ x, x = l[k] := ⟨_, rfl⟩
      rw [← hx] at hc htk hsp
      have HSP := Lib.hid hsp
      have HTK := Lib.hid htk
      obtain ⟨⟨a, b⟩, c', d⟩ := x
      have q0 := hc 0 _ rfl
      have q1 := hc 1 _ rfl
      have q2 := hc 2 _ rfl
      have q3 := hc 3 _ rfl
      rw [Nat.add_zero] at q0
      have P1 := Lib.hid (ren_check_any a b c' d wr)
      obtain ⟨z, hz⟩ : ∃ z, z = enE ((a, b), (c', d)) := ⟨_, rfl⟩
      rw [← hz] at P1
      have HZ := Lib.hid hz
      clear hea hx htk hsp hc hz
      go_wp2_with fail
      refine P1.out.mono ?_; rintro e w1 ⟨rfl, b1⟩
      have BW1 := Lib.hid (below_trans HB.out b1)
      clear b1 P1 q0 q1 q2 q3
      by_cases h0 : z = 0
      · have d1 : (z != 0) = false := by simpa using h0
        have H0 := Lib.hid h0
        clear h0
        go_wp2
        refine ⟨⟨k + 1, by omega, by go_num, ?_, BW1.out⟩, by simp [intOf]; omega⟩
        rw [HTK.out, firstE_append _ _ HFI.out]
        show (if enE ((a, b), (c', d)) = 0 then firstE [] else _) = 0
        rw [if_pos (by rw [← HZ.out]; exact H0.out)]
        rfl
      · have d1 : (z != 0) = true := by simpa using h0
        have H0 := Lib.hid h0
        clear h0
        go_wp2
        go_ret
        have hfz : firstE l = z := by
          rw [HSP.out, firstE_append _ _ HFI.out]
          show (if enE ((a, b), (c', d)) = 0 then _ else enE ((a, b), (c', d))) = z
          rw [← HZ.out, if_neg H0.out]
        refine ⟨?_, BW1.out⟩
        unfold mayEs
        rw [hfz, if_neg H0.out]
        rfl
    · obtain rfl : k = l.length := by omega
      have hfi := HFI.out
      rw [List.take_length] at hfi
      by_cases h16 : 16384 < l.length
      · have d1 : decide ((16384 : Int) < (l.length : Int)) = true := by rw [decide_eq_true_eq]; omega
        have HM := Lib.hid (show mayEs l = 3 by unfold mayEs; rw [if_pos hfi, if_pos h16])
        clear hfi
        go_wp2
        go_ret
        exact ⟨by rw [HM.out]; rfl, HB.out⟩
      · have d1 : decide ((16384 : Int) < (l.length : Int)) = false := by rw [decide_eq_false_iff_not]; omega
        have HM := Lib.hid (show mayEs l = 0 by unfold mayEs; rw [if_pos hfi, if_neg h16])
        clear hfi
        go_wp2
        go_ret
        exact ⟨by rw [HM.out]; rfl, HB.out⟩
end Go.Proofs.Ytalefgcdhakfoaa
