/- Contracts of num.Reader's Fixed, Num, Bytes, Text, Left, Done. -/
import Derived.Test.YtfmmdnjoichifaaNumC
namespace Go.Proofs.Ytfmmdnjoichifaa
open Go.RowKit

def fixedM (size : Int) (s : Option (List UInt8)) : Nat × Option (List UInt8) :=
  if 1 ≤ size ∧ size ≤ 8 then
    if beV (takeM size s).1 > 9223372036854775807 then (0, none) else (beV (takeM size s).1, (takeM size s).2)
  else (0, none)
theorem takeM_len (n : Int) (s : Option (List UInt8)) : (takeM n s).1.length = 0 ∨ ((takeM n s).1.length : Int) = n := by
  rcases s with _ | l
  · exact .inl rfl
  · unfold takeM
    by_cases hn : 0 ≤ n ∧ n ≤ l.length
    · right; simp only [if_pos hn, List.length_take]; omega
    · left; simp only [if_neg hn]; rfl

set_option maxHeartbeats 400000 in
theorem fixed_nil (size : Int) (w : World) : Calls Try.prog 103 #[.pointer none, .int .i64 size] w fun e w' => e = .returned (.int .i64 0) ∧ w = w' := by
  by_cases h1 : size < 1
  · have d1 : decide (size < 1) = true := by simpa using h1
    go_enter Try.func103, Try.ntmps103
    go_wp2_with fail
    refine (spoil_nil _).mono ?_; rintro e w' ⟨rfl, rfl⟩
    go_wp2
    go_ret
    exact ⟨rfl, rfl⟩
  · have d1 : decide (size < 1) = false := by simpa using h1
    by_cases h2 : 8 < size
    · have d2 : decide (8 < size) = true := by simpa using h2
      go_enter Try.func103, Try.ntmps103
      go_wp2_with fail
      refine (spoil_nil _).mono ?_; rintro e w' ⟨rfl, rfl⟩
      go_wp2
      go_ret
      exact ⟨rfl, rfl⟩
    · have d2 : decide (8 < size) = false := by simpa using h2
      go_enter Try.func103, Try.ntmps103
      go_wp2_with fail
      refine (take_nil _ _).mono ?_; rintro e w' ⟨rfl, rfl⟩
      go_wp2
      go_loop [5, 20] (fun n i => n = .int .u64 0 ∧ i = .int .i64 0) (fun _ _ => 0)
      case atStart => exact ⟨rfl, rfl⟩
      case round =>
        obtain ⟨rfl, rfl⟩ := hrel
        go_wp2
        go_ret
        exact ⟨rfl, rfl⟩
set_option maxHeartbeats 400000 in
theorem fixed_off (g h : Nat) (size : Int) (s : Option (List UInt8)) (w : World) (r : RdAt 151 w g h s) (hn : ¬ (1 ≤ size ∧ size ≤ 8)) :
    Calls Try.prog 103 #[.pointer (some ⟨g, 0, none⟩), .int .i64 size] w (RdPost g h w (.int .i64 0) none) := by
  have R := Lib.hid r
  clear r
  by_cases h1 : size < 1
  · have d1 : decide (size < 1) = true := by simpa using h1
    clear hn
    go_enter Try.func103, Try.ntmps103
    go_wp2_with fail
    refine (spoil_at g h s _ R.out).mono ?_; rintro e w' ⟨rfl, r', hg⟩
    go_wp2
    go_ret
    exact ⟨rfl, r', hg⟩
  · have d1 : decide (size < 1) = false := by simpa using h1
    have d2 : decide (8 < size) = true := by simp; omega
    clear hn
    go_enter Try.func103, Try.ntmps103
    go_wp2_with fail
    refine (spoil_at g h s _ R.out).mono ?_; rintro e w' ⟨rfl, r', hg⟩
    go_wp2
    go_ret
    exact ⟨rfl, r', hg⟩
theorem or_byte (m : Nat) (b : UInt8) (hm : m < 72057594037927936) : bits .or .u64 ((m : Int) * 256) (b.toNat : Int) = ((m * 256 + b.toNat : Nat) : Int) := by
  have hb := b.toNat_lt
  rw [show ((m : Int) * 256) = ((m * 256 : Nat) : Int) by simp, u64_or_nat _ _ (by omega) (by omega)]
  congr 1
  have := Nat.two_pow_add_eq_or_of_lt (i := 8) (a := m) (b := b.toNat) hb
  rw [Nat.mul_comm m 256]
  exact this.symm
set_option maxHeartbeats 1000000 in
theorem fixed_in (g h : Nat) (size : Int) (s : Option (List UInt8)) (w : World) (r : RdAt 151 w g h s) (h1 : 1 ≤ size) (h2 : size ≤ 8) :
    Calls Try.prog 103 #[.pointer (some ⟨g, 0, none⟩), .int .i64 size] w (RdPost g h w (.int .i64 ((fixedM size s).1 : Int)) (fixedM size s).2) := by
  have R := Lib.hid r
  clear r
  have d1 : decide (size < 1) = false := by simp; omega
  have d2 : decide (8 < size) = false := by simp; omega
  have htl := takeM_len size s
  have hfx : fixedM size s = if beV (takeM size s).1 > 9223372036854775807 then (0, none) else (beV (takeM size s).1, (takeM size s).2) := by
    unfold fixedM; rw [if_pos ⟨h1, h2⟩]
  obtain ⟨t, s', ht⟩ : ∃ t s', takeM size s = (t, s') := ⟨_, _, rfl⟩
  rw [ht] at htl hfx
  simp only at htl hfx
  have hlen : t.length ≤ 8 := by omega
  have HF := Lib.hid hfx
  have HT := Lib.hid ht
  clear hfx ht htl
  go_enter Try.func103, Try.ntmps103
  go_wp2_with fail
  refine (take_at g h _ s _ R.out).mono ?_
  rw [HT.out]
  rintro e w1 ⟨A, c, rfl, hlc, hs, hr, hg⟩
  have HS := Lib.hid hs
  have HR := Lib.hid hr
  clear hs hr
  go_wp2
  go_loop [5, 7, 20] (fun n x i => ∃ k : Nat, k ≤ t.length ∧ i = .int .i64 (k : Int) ∧ n = .int .u64 (beV (t.take k) : Int)) (fun _ _ i => t.length - (intOf i).toNat)
  case atStart => exact ⟨0, Nat.zero_le _, rfl, rfl⟩
  case round =>
    obtain ⟨k, hk, rfl, rfl⟩ := hrel
    by_cases hlt : k < t.length
    · obtain ⟨ad, hA, hcell⟩ := HS.out.cell hlt
      subst hA
      have hv := beV_lt (t.take k)
      rw [List.length_take, Nat.min_eq_left hk] at hv
      have hv2 : 256 ^ k ≤ 256 ^ 7 := Nat.pow_le_pow_right (by omega) (by omega)
      obtain ⟨m, hm⟩ : ∃ m, m = beV (t.take k) := ⟨_, rfl⟩
      rw [← hm] at hv ⊢
      have hm7 : m < 72057594037927936 := by omega
      have HM := Lib.hid hm
      clear hm hv hv2
      have hb := t[k].toNat_lt
      go_wp2
      refine ⟨⟨k + 1, by omega, by go_num, ?_⟩, by simp [intOf]; omega⟩
      rw [or_byte m _ hm7, beV_take_succ t k hlt, HM.out]
    · obtain rfl : k = t.length := by omega
      rw [List.take_length]
      have hv := beV_lt t
      have hv2 : 256 ^ t.length ≤ 256 ^ 8 := Nat.pow_le_pow_right (by omega) hlen
      have hm8 : beV t < 18446744073709551616 := by omega
      clear hv hv2
      by_cases hbig : 9223372036854775807 < beV t
      · have e : fixedM size s = (0, none) := by rw [HF.out, if_pos hbig]
        have E := Lib.hid e
        clear e
        go_wp2_with fail
        refine (spoil_at g h s' _ HR.out).mono ?_; rintro e w' ⟨rfl, r', hg'⟩
        go_wp2
        go_ret
        rw [E.out]
        exact ⟨rfl, r', only_trans hg hg'⟩
      · have e : fixedM size s = (beV t, s') := by rw [HF.out, if_neg hbig]
        have E := Lib.hid e
        clear e
        go_wp2
        go_ret
        rw [E.out]
        exact ⟨rfl, HR.out, hg⟩
theorem fixed_at (g h : Nat) (size : Int) (s : Option (List UInt8)) (w : World) (r : RdAt 151 w g h s) :
    Calls Try.prog 103 #[.pointer (some ⟨g, 0, none⟩), .int .i64 size] w (RdPost g h w (.int .i64 ((fixedM size s).1 : Int)) (fixedM size s).2) := by
  by_cases hn : 1 ≤ size ∧ size ≤ 8
  · exact fixed_in g h size s w r hn.1 hn.2
  · have e : fixedM size s = (0, none) := by unfold fixedM; rw [if_neg hn]
    rw [e]
    exact fixed_off g h size s w r hn
theorem fixedM_le (size : Int) (s : Option (List UInt8)) : (fixedM size s).1 ≤ 9223372036854775807 := by
  unfold fixedM
  split
  · split
    · exact Nat.zero_le _
    · simp only; omega
  · exact Nat.zero_le _
theorem fixedM_one (s : Option (List UInt8)) : (fixedM 1 s).1 < 256 := by
  have h := takeM_len 1 s
  have hv := beV_lt (takeM 1 s).1
  have h2 : (takeM 1 s).1.length ≤ 1 := by omega
  have h3 : 256 ^ (takeM 1 s).1.length ≤ 256 ^ 1 := Nat.pow_le_pow_right (by omega) h2
  unfold fixedM
  split
  · split
    · exact Nat.zero_lt_succ _
    · simp only; omega
  · exact Nat.zero_lt_succ _

/-- A number that stands next. -/
def numM (s : Option (List UInt8)) : Nat × Option (List UInt8) :=
  let f := fixedM 1 s
  if f.2 = none then (0, none)
  else if f.1 < 240 then f
  else if f.1 < 248 then
    let x := fixedM 1 f.2
    if x.2 = none then (0, none) else (240 + (f.1 - 240) * 256 + x.1, x.2)
  else if f.1 ≤ 254 then
    let x := fixedM ((f.1 : Int) - 246) f.2
    if x.2 = none ∨ (putL x.1).length ≠ f.1 - 245 then (0, none) else x
  else (0, none)

set_option maxHeartbeats 400000 in
theorem num_nil (w : World) : Calls Try.prog 76 #[.pointer none] w fun e w' => e = .returned (.int .i64 0) ∧ w = w' := by
  go_enter Try.func76, Try.ntmps76
  go_wp2_with fail
  refine (fixed_nil _ _).mono ?_; rintro e w' ⟨rfl, rfl⟩
  go_wp2_with fail
  refine (bad_nil _).mono ?_; rintro e w' ⟨rfl, rfl⟩
  go_wp2
  go_ret
  exact ⟨rfl, rfl⟩
set_option maxHeartbeats 1000000 in
set_option maxRecDepth 100000 in
theorem num_at (g h : Nat) (s : Option (List UInt8)) (w : World) (r : RdAt 151 w g h s) :
    Calls Try.prog 76 #[.pointer (some ⟨g, 0, none⟩)] w (RdPost g h w (.int .i64 ((numM s).1 : Int)) (numM s).2) := by
  have R := Lib.hid r
  clear r
  have h1 := fixedM_one s
  obtain ⟨n, s1, hf⟩ : ∃ n s1, fixedM 1 s = (n, s1) := ⟨_, _, rfl⟩
  have hm : numM s = if s1 = none then (0, none)
    else if n < 240 then (n, s1)
    else if n < 248 then (if (fixedM 1 s1).2 = none then (0, none) else (240 + (n - 240) * 256 + (fixedM 1 s1).1, (fixedM 1 s1).2))
    else if n ≤ 254 then (if (fixedM ((n : Int) - 246) s1).2 = none ∨ (putL (fixedM ((n : Int) - 246) s1).1).length ≠ n - 245 then (0, none) else fixedM ((n : Int) - 246) s1)
    else (0, none) := by unfold numM; rw [hf]
  rw [hf] at h1
  simp only at h1
  have HF := Lib.hid hf
  have HM := Lib.hid hm
  clear hf hm
  go_enter Try.func76, Try.ntmps76
  go_wp2_with fail
  refine (fixed_at g h 1 s _ R.out).mono ?_
  rw [HF.out]
  rintro e w1 ⟨rfl, r1, hg1⟩
  have R1 := Lib.hid r1
  clear r1
  by_cases c1 : n < 240
  · go_wp2_with fail
    refine (bad_at g h s1 _ R1.out).mono ?_; rintro e w' ⟨rfl, rfl⟩
    rcases s1 with _ | l1
    · have e : numM s = (0, none) := by rw [HM.out, if_pos rfl]
      have E := Lib.hid e
      clear e
      go_wp2
      go_ret
      rw [E.out]
      exact ⟨rfl, R1.out, hg1⟩
    · have e : numM s = (n, some l1) := by rw [HM.out, if_neg (by simp), if_pos c1]
      have E := Lib.hid e
      clear e
      go_wp2
      go_ret
      rw [E.out]
      exact ⟨rfl, R1.out, hg1⟩
  · by_cases c2 : n < 248
    · have hx := fixedM_one s1
      obtain ⟨x, s2, hf2⟩ : ∃ x s2, fixedM 1 s1 = (x, s2) := ⟨_, _, rfl⟩
      rw [hf2] at hx
      simp only at hx
      have F2 := Lib.hid hf2
      clear hf2
      go_wp2_with fail
      refine (fixed_at g h 1 s1 _ R1.out).mono ?_
      rw [F2.out]
      rintro e w2 ⟨rfl, r2, hg2⟩
      have R2 := Lib.hid r2
      clear r2
      go_wp2_with fail
      refine (bad_at g h s2 _ R2.out).mono ?_; rintro e w' ⟨rfl, rfl⟩
      rcases s2 with _ | l2
      · have e : numM s = (0, none) := by
          rw [HM.out]
          by_cases hs1 : s1 = none
          · rw [if_pos hs1]
          · rw [if_neg hs1, if_neg c1, if_pos c2, F2.out, if_pos rfl]
        have E := Lib.hid e
        clear e
        go_wp2
        go_ret
        rw [E.out]
        exact ⟨rfl, R2.out, only_trans hg1 hg2⟩
      · have e : numM s = (240 + (n - 240) * 256 + x, some l2) := by
          have hs : s1 ≠ none := by
            rintro rfl
            have := F2.out
            simp [fixedM, takeM, beV] at this
          rw [HM.out, if_neg hs, if_neg c1, if_pos c2, F2.out, if_neg (by simp)]
        have E := Lib.hid e
        clear e
        go_wp2
        go_ret
        rw [E.out]
        exact ⟨ret_int (by simp only; omega), R2.out, only_trans hg1 hg2⟩
    · by_cases c3 : n ≤ 254
      · have hxl := fixedM_le ((n : Int) - 246) s1
        obtain ⟨x, s2, hf2⟩ : ∃ x s2, fixedM ((n : Int) - 246) s1 = (x, s2) := ⟨_, _, rfl⟩
        rw [hf2] at hxl
        simp only at hxl
        have F2 := Lib.hid hf2
        clear hf2
        go_wp2_with fail
        refine (fixed_at g h ((n : Int) - 246) s1 _ R1.out).mono ?_
        rw [F2.out]
        rintro e w2 ⟨rfl, r2, hg2⟩
        have R2 := Lib.hid r2
        clear r2
        go_wp2_with fail
        refine (size_ok x _ hxl).mono ?_; rintro e w' ⟨rfl, rfl⟩
        by_cases c4 : (putL x).length = n - 245
        · have d4 : ((((putL x).length : Int)) != 1 + ((n : Int) - 246)) = false := by simp; omega
          go_wp2_with fail
          refine (bad_at g h s2 _ R2.out).mono ?_; rintro e w' ⟨rfl, rfl⟩
          rcases s2 with _ | l2
          · have e : numM s = (0, none) := by
              rw [HM.out]
              by_cases hs1 : s1 = none
              · rw [if_pos hs1]
              · rw [if_neg hs1, if_neg c1, if_neg c2, if_pos c3, F2.out]
                simp only [true_or, if_true]
            have E := Lib.hid e
            clear e
            go_wp2
            go_ret
            rw [E.out]
            exact ⟨rfl, R2.out, only_trans hg1 hg2⟩
          · have e : numM s = (x, some l2) := by
              have hs : s1 ≠ none := by
                rintro rfl
                have := F2.out
                unfold fixedM takeM at this
                split at this <;> simp [beV] at this
              rw [HM.out, if_neg hs, if_neg c1, if_neg c2, if_pos c3, F2.out, if_neg (by simp [c4])]
            have E := Lib.hid e
            clear e
            go_wp2
            go_ret
            rw [E.out]
            exact ⟨rfl, R2.out, only_trans hg1 hg2⟩
        · have d4 : ((((putL x).length : Int)) != 1 + ((n : Int) - 246)) = true := by simp; omega
          have e : numM s = (0, none) := by
            rw [HM.out]
            by_cases hs1 : s1 = none
            · rw [if_pos hs1]
            · rw [if_neg hs1, if_neg c1, if_neg c2, if_pos c3, F2.out, if_pos (.inr c4)]
          have E := Lib.hid e
          clear e
          clear c4
          go_wp2_with fail
          refine (spoil_at g h s2 _ R2.out).mono ?_; rintro e w3 ⟨rfl, r3, hg3⟩
          have R3 := Lib.hid r3
          clear r3
          go_wp2_with fail
          refine (bad_at g h none _ R3.out).mono ?_; rintro e w' ⟨rfl, rfl⟩
          go_wp2
          go_ret
          rw [E.out]
          exact ⟨rfl, R3.out, only_trans (only_trans hg1 hg2) hg3⟩
      · have e : numM s = (0, none) := by
          rw [HM.out]
          by_cases hs1 : s1 = none
          · rw [if_pos hs1]
          · rw [if_neg hs1, if_neg c1, if_neg c2, if_neg c3]
        have E := Lib.hid e
        clear e
        go_wp2_with fail
        refine (spoil_at g h s1 _ R1.out).mono ?_; rintro e w3 ⟨rfl, r3, hg3⟩
        have R3 := Lib.hid r3
        clear r3
        go_wp2_with fail
        refine (bad_at g h none _ R3.out).mono ?_; rintro e w' ⟨rfl, rfl⟩
        go_wp2
        go_ret
        rw [E.out]
        exact ⟨rfl, R3.out, only_trans hg1 hg3⟩

end Go.Proofs.Ytfmmdnjoichifaa
