/- Contracts of num.Reader's Bytes, Text, Left, Done. -/
import Derived.Test.YtfmmdnjoichifaaNumD
namespace Go.Proofs.Ytfmmdnjoichifaa
open Go.RowKit

/-- What 'Bytes' hands out: a row of its own. -/
def BytesPost (g h : Nat) (w : World) (t : List UInt8 × Option (List UInt8)) (e : Ending) (w' : World) : Prop :=
  ∃ A c, e = .returned (.slice A t.1.length c) ∧ w'.ownsRow w.heap.size 5 1 (.slice A t.1.length c) t.1.length (Byt t.1) ∧ RdAt 151 w' g h t.2 ∧ w.grownBy w' (some g)
theorem takeM_le (n : Int) (s : Option (List UInt8)) (L : Nat) (hl : ∀ l, s = some l → l.length ≤ L) : (takeM n s).1.length ≤ L := by
  rcases s with _ | l
  · exact Nat.zero_le _
  · have := hl l rfl
    unfold takeM
    by_cases hn : 0 ≤ n ∧ n ≤ l.length
    · simp only [if_pos hn, List.length_take]; omega
    · simp only [if_neg hn]; exact Nat.zero_le _
def textM (most : Int) (s : Option (List UInt8)) : List UInt8 × Option (List UInt8) :=
  let n := numM s
  if (n.1 : Int) > most then ([], none) else takeM (n.1 : Int) n.2
set_option maxHeartbeats 400000 in
theorem text_nil (most : Int) (w : World) : Calls Try.prog 107 #[.pointer none, .int .i64 most] w fun e w' => e = .returned (.string ⟨#[]⟩) ∧ w = w' := by
  have hcv : ∀ W : World, (convert 30 9 (.slice none 0 0)).run Try.prog W = .ok (.string ⟨([] : List UInt8).toArray⟩) W := fun W => run_convB W Try.underlying30 Try.underlying5 Try.underlying9 (n := 0) 0 (B := 0) ⟨rfl, fun h => absurd h (by omega)⟩
  by_cases h : most < 0
  · have d : decide (most < 0) = true := by simpa using h
    go_enter Try.func107, Try.ntmps107
    go_wp2_with fail
    refine (num_nil _).mono ?_; rintro e w' ⟨rfl, rfl⟩
    go_wp2_with fail
    refine (spoil_nil _).mono ?_; rintro e w' ⟨rfl, rfl⟩
    go_wp2_with fail
    refine (take_nil _ _).mono ?_; rintro e w' ⟨rfl, rfl⟩
    go_wp2
    go_ret
    exact ⟨rfl, rfl⟩
  · have d : decide (most < 0) = false := by simpa using h
    go_enter Try.func107, Try.ntmps107
    go_wp2_with fail
    refine (num_nil _).mono ?_; rintro e w' ⟨rfl, rfl⟩
    go_wp2_with fail
    refine (take_nil _ _).mono ?_; rintro e w' ⟨rfl, rfl⟩
    go_wp2
    go_ret
    exact ⟨rfl, rfl⟩
set_option maxHeartbeats 400000 in
theorem rdtext_at (g h : Nat) (most : Int) (s : Option (List UInt8)) (w : World) (r : RdAt 151 w g h s) :
    Calls Try.prog 107 #[.pointer (some ⟨g, 0, none⟩), .int .i64 most] w (RdPost g h w (.string ⟨(textM most s).1.toArray⟩) (textM most s).2) := by
  have R := Lib.hid r
  clear r
  obtain ⟨n, s1, hn⟩ : ∃ n s1, numM s = (n, s1) := ⟨_, _, rfl⟩
  have hm : textM most s = if (n : Int) > most then ([], none) else takeM (n : Int) s1 := by unfold textM; rw [hn]
  have HN := Lib.hid hn
  have HM := Lib.hid hm
  clear hn hm
  by_cases h : most < (n : Int)
  · have e : textM most s = ([], none) := by rw [HM.out, if_pos h]
    have E := Lib.hid e
    clear e
    have d : decide (most < (n : Int)) = true := by simpa using h
    go_enter Try.func107, Try.ntmps107
    go_wp2_with fail
    refine (num_at _ _ _ _ R.out).mono ?_
    rw [HN.out]
    rintro e w1 ⟨rfl, r1, hg1⟩
    have R1 := Lib.hid r1
    clear r1
    go_wp2_with fail
    refine (spoil_at _ _ _ _ R1.out).mono ?_; rintro e w2 ⟨rfl, r2, hg2⟩
    have R2 := Lib.hid r2
    clear r2
    go_wp2_with fail
    refine (take_bad _ _ _ _ R2.out).mono ?_; rintro e w3 ⟨A, c, rfl, hlc, hs, r3, hg3⟩
    have R3 := Lib.hid r3
    have hcv : (convert 30 9 (.slice A 0 c)).run Try.prog w3 = .ok (.string ⟨#[]⟩) w3 := run_convB w3 Try.underlying30 Try.underlying5 Try.underlying9 c (hs.reads rfl)
    clear r3 hs
    go_wp2
    go_ret
    rw [E.out]
    exact ⟨rfl, R3.out, only_trans (only_trans hg1 hg2) hg3⟩
  · have e : textM most s = takeM (n : Int) s1 := by rw [HM.out, if_neg h]
    have E := Lib.hid e
    clear e
    have d : decide (most < (n : Int)) = false := by simpa using h
    go_enter Try.func107, Try.ntmps107
    go_wp2_with fail
    refine (num_at _ _ _ _ R.out).mono ?_
    rw [HN.out]
    rintro e w1 ⟨rfl, r1, hg1⟩
    have R1 := Lib.hid r1
    clear r1
    obtain ⟨t, s', ht⟩ : ∃ t s', takeM (n : Int) s1 = (t, s') := ⟨_, _, rfl⟩
    have HT := Lib.hid ht
    clear ht
    go_wp2_with fail
    refine (take_at _ _ _ _ _ R1.out).mono ?_
    rw [HT.out]
    rintro e w3 ⟨A, c, rfl, hlc, hs, r3, hg3⟩
    have R3 := Lib.hid r3
    have hcv := run_convB w3 Try.underlying30 Try.underlying5 Try.underlying9 c (hs.reads rfl)
    clear r3 hs
    simp only at hcv
    go_wp2
    go_ret
    rw [E.out, HT.out]
    exact ⟨rfl, R3.out, only_trans hg1 hg3⟩

def leftM : Option (List UInt8) → Nat
  | none => 0
  | some l => l.length
def doneM : Option (List UInt8) → Int
  | none => 10
  | some l => if l = [] then 0 else 10
set_option maxHeartbeats 400000 in
theorem done_nil (w : World) : Calls Try.prog 79 #[.pointer none] w fun e w' => e = .returned (.int .i64 10) ∧ w = w' := by
  go_enter Try.func79, Try.ntmps79
  go_wp2_with fail
  refine (bad_nil _).mono ?_; rintro e w' ⟨rfl, rfl⟩
  go_wp2
  go_ret
  exact ⟨rfl, rfl⟩
set_option maxHeartbeats 400000 in
theorem done_at (g h : Nat) (s : Option (List UInt8)) (w : World) (r : RdAt 151 w g h s) :
    Calls Try.prog 79 #[.pointer (some ⟨g, 0, none⟩)] w fun e w' => e = .returned (.int .i64 (doneM s)) ∧ w = w' := by
  have R := Lib.hid r
  obtain ⟨A, c, l, hb, _, hlc, hcm, _, hr⟩ := r
  have c0 := hb.cell 0
  simp at c0
  clear hb
  unfold maxLen at hcm
  rcases s with _ | l'
  · clear hr
    go_enter Try.func79, Try.ntmps79
    go_wp2_with fail
    refine (bad_at _ _ _ _ R.out).mono ?_; rintro e w' ⟨rfl, rfl⟩
    go_wp2
    go_ret
    exact ⟨rfl, rfl⟩
  · obtain rfl := hr l' rfl
    clear hr
    by_cases h0 : l' = []
    · have d : decide (0 < l'.length) = false := by subst h0; rfl
      have e : doneM (some l') = 0 := by simp [doneM, h0]
      have E := Lib.hid e
      clear e h0
      go_enter Try.func79, Try.ntmps79
      go_wp2_with fail
      refine (bad_at _ _ _ _ R.out).mono ?_; rintro e w' ⟨rfl, rfl⟩
      go_wp2
      go_ret
      exact ⟨by rw [E.out]; rfl, rfl⟩
    · have d : decide (0 < l'.length) = true := by simpa using List.length_pos_iff.2 h0
      have e : doneM (some l') = 10 := by simp [doneM, h0]
      have E := Lib.hid e
      clear e h0
      go_enter Try.func79, Try.ntmps79
      go_wp2_with fail
      refine (bad_at _ _ _ _ R.out).mono ?_; rintro e w' ⟨rfl, rfl⟩
      go_wp2
      go_ret
      exact ⟨by rw [E.out]; rfl, rfl⟩

end Go.Proofs.Ytfmmdnjoichifaa
