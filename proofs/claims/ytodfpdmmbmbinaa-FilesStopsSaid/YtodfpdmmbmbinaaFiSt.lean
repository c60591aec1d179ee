/- The law FilesStops. -/
import Derived.Test.YtodfpdmmbmbinaaFiAh
namespace Go.Proofs.Ytodfpdmmbmbinaa
open Go.RowKit Go.Sort

def secsA (k : Nat) : List Sec := (List.range k).map fun j => oneSec (UInt8.ofNat j)
theorem secsA_len (k : Nat) : (secsA k).length = k := by unfold secsA; rw [List.length_map, List.length_range]
theorem secsA_succ (k : Nat) : secsA (k + 1) = secsA k ++ [oneSec (UInt8.ofNat k)] := by
  unfold secsA
  rw [List.range_succ, List.map_append]
  rfl
def pendA (fb k : Nat) : List Wr := (List.range k).map fun j => ⟨fb, j, oneSec (UInt8.ofNat j)⟩
theorem pendA_len (fb k : Nat) : (pendA fb k).length = k := by unfold pendA; rw [List.length_map, List.length_range]
theorem pendA_succ (fb k : Nat) : pendA fb (k + 1) = pendA fb k ++ [⟨fb, k, oneSec (UInt8.ofNat k)⟩] := by
  unfold pendA
  rw [List.range_succ, List.map_append]
  rfl
def stD (n fb k : Nat) (off : Bool) : Dk := ⟨16384, [fl fb nmA (secsA k) []], pendA fb k, off, true, ((n - k : Nat) : Int)⟩
theorem st_mem {n fb k : Nat} {off : Bool} : fl fb nmA (secsA k) [] ∈ (stD n fb k off).fs := List.mem_singleton.2 rfl
theorem st_used {n fb k : Nat} {off : Bool} : usedN (stD n fb k off).fs = k := by
  show ([fl fb nmA (secsA k) []].map (·.now.length)).sum = _
  simp [fl, secsA_len]
theorem st_ap {n fb k : Nat} (h : k < n) : apD (stD n fb k false) (fl fb nmA (secsA k) []) (oneSec (UInt8.ofNat k)) = stD n fb (k + 1) false := by
  have e : ((n - k : Nat) : Int) - 1 = ((n - (k + 1) : Nat) : Int) := by omega
  simp [apD, stD, tick, updF, fl, secsA_len, secsA_succ, pendA_succ, e]
theorem st_off {n fb k : Nat} : offD (stD n fb k false) = stD n fb k true := rfl
theorem st_crash {n fb k : Nat} {off : Bool} : crashD (stD n fb k off) [] = ⟨16384, [fl fb nmA [] []], [], false, false, ((n - k : Nat) : Int)⟩ := by
  rw [dk_crash_nil k]
  rfl
def sk (n i : Nat) : Nat := if i ≤ n then i else n
set_option maxRecDepth 100000 in
set_option maxHeartbeats 4000000 in
theorem stops_any (n m : Int) (w : World) (_ : -9223372036854775808 ≤ n ∧ n ≤ 9223372036854775807) (_ : -9223372036854775808 ≤ m ∧ m ≤ 9223372036854775807) :
    Calls Try.prog 3 #[.int .i64 n, .int .i64 m] w fun e w' => e = .returned (.bool true) ∧ Below w.heap.size w w' := by
  have P1 := Lib.hid (new_ok 16384 w w.heap.size (Nat.le_refl _) (by omega) (by omega))
  by_cases hr : 0 ≤ n ∧ n ≤ 200 ∧ 0 ≤ m ∧ m ≤ 300
  · obtain ⟨n, rfl⟩ : ∃ x : Nat, n = (x : Int) := ⟨n.toNat, by omega⟩
    obtain ⟨m, rfl⟩ : ∃ x : Nat, m = (x : Int) := ⟨m.toNat, by omega⟩
    have hn : n ≤ 200 := by omega
    have hm : m ≤ 300 := by omega
    have d1 : decide ((n : Int) < 0) = false := by rw [decide_eq_false_iff_not]; omega
    have d2 : decide ((n : Int) > 200) = false := by rw [decide_eq_false_iff_not]; omega
    have d3 : decide ((m : Int) < 0) = false := by rw [decide_eq_false_iff_not]; omega
    have d4 : decide ((m : Int) > 300) = false := by rw [decide_eq_false_iff_not]; omega
    clear hr
    go_enter Try.func3, Try.ntmps3
    go_wp2_with fail
    refine P1.out.mono ?_; rintro e w1 ⟨d, mm, rfl, h1, -, -, b1⟩
    have H1 := Lib.hid h1
    have B1 := Lib.hid b1
    clear h1 b1
    go_wp2_with fail
    refine (lives_any _).mono ?_; rintro e w2 ⟨rfl, b2⟩
    have H2 := Lib.hid (H1.out.below b2)
    have B2 := Lib.hid (B1.out.trans (b2.mono B1.out.size))
    clear b2
    go_wp2_with fail
    refine (create_ok H2.out (n := nmA) (by decide) (fun f hf => by cases hf) (by decide) rfl (fun h => by cases h.1) B2.out.size).mono ?_
    rintro e w3 ⟨rfl, fb, h3, k3⟩
    rw [dk_new] at h3
    have H3 := Lib.hid h3
    have B3 := Lib.hid (B2.out.trans (k3.below B2.out.size))
    clear h3 k3
    go_wp2_with fail
    refine (stop_ok H3.out (n : Int) (by omega) (by omega)).mono ?_; rintro e w4 ⟨rfl, h4, k4⟩
    have H4 := Lib.hid (show DiskR w4 w.heap.size d mm (stD n fb 0 false) from h4)
    have B4 := Lib.hid (B3.out.trans (k4.below B3.out.size))
    clear h4 k4
    go_wp2_with fail
    go_loopw [7] (fun i wr => ∃ k : Nat, k ≤ m ∧ i = .int .i64 (k : Int) ∧ DiskR wr w.heap.size d mm (stD n fb (sk n k) (decide (n < k))) ∧ Below w.heap.size w wr) (fun i _ => m - (intOf i).toNat)
    case atStart => exact ⟨0, Nat.zero_le _, rfl, H4.out, B4.out⟩
    case round =>
      obtain ⟨k, hk, rfl, hd, hb⟩ := hrel
      have HD := Lib.hid hd
      have HB := Lib.hid hb
      clear hd hb
      by_cases hlt : k < m
      · have HCV := Lib.hid (show ((UInt8.ofNat k).toNat : Int) = (k : Int) % 256 by rw [UInt8.toNat_ofNat']; push_cast; rfl)
        by_cases h1 : k < n
        · have e1 : sk n k = k := by unfold sk; rw [if_pos (by omega)]
          have e2 : decide (n < k) = false := by rw [decide_eq_false_iff_not]; omega
          have e3 : sk n (k + 1) = k + 1 := by unfold sk; rw [if_pos (by omega)]
          have e4 : decide (n < k + 1) = false := by rw [decide_eq_false_iff_not]; omega
          rw [e1, e2] at HD
          have H3' := Lib.hid e3
          have H4' := Lib.hid e4
          have i1 : decide ((k : Int) < (m : Int)) = true := by rw [decide_eq_true_eq]; omega
          have i2 : decide ((k : Int) ≥ (n : Int)) = false := by rw [decide_eq_false_iff_not]; omega
          clear e1 e2 e3 e4
          go_wp2_with fail
          have SC := sector_any (UInt8.ofNat k) wr
          rw [HCV.out, show (k : Int) % 256 = (k : Int) by omega] at SC
          refine SC.mono ?_
          clear SC
          rintro e w5 ⟨A5, rfl, s5, b5⟩
          have H5 := Lib.hid (HD.out.below b5)
          have B5 := Lib.hid (HB.out.trans (b5.mono HB.out.size))
          have Q5 := Lib.hid (s5.any w.heap.size)
          clear s5 b5
          go_wp2_with fail
          have PA := append_ok (c := 64) H5.out (f := fl fb nmA (secsA k) []) st_mem Q5.out rfl (fun h => by have h2 : ((n - k : Nat) : Int) = 0 := h.2; omega) (by rw [st_used]; show (k : Int) < 16384; omega) (by show (secsA k).length ≤ 16384; rw [secsA_len]; omega) (by show (pendA fb k).length ≤ 1000000; rw [pendA_len]; omega) B5.out.size
          rw [st_ap h1] at PA
          refine PA.mono ?_
          clear PA
          rintro e w6 ⟨rfl, h6, k6⟩
          have H6 := Lib.hid (show DiskR w6 w.heap.size d mm (stD n fb (sk n (k + 1)) (decide (n < k + 1))) by rw [H3'.out, H4'.out]; exact h6)
          have B6 := Lib.hid (B5.out.trans (k6.below B5.out.size))
          clear h6 k6
          go_wp2_with fail
          exact ⟨⟨k + 1, by omega, by go_num, H6.out, B6.out⟩, by simp only [intOf]; omega⟩
        · have e1 : sk n k = n := by unfold sk; split <;> omega
          have e3 : sk n (k + 1) = n := by unfold sk; split <;> omega
          have e4 : decide (n < k + 1) = true := by rw [decide_eq_true_eq]; omega
          rw [e1] at HD
          have H3' := Lib.hid e3
          have H4' := Lib.hid e4
          have i1 : decide ((k : Int) < (m : Int)) = true := by rw [decide_eq_true_eq]; omega
          have i2 : decide ((k : Int) ≥ (n : Int)) = true := by rw [decide_eq_true_eq]; omega
          clear e1 e3 e4
          by_cases h2 : k = n
          · have e2 : decide (n < k) = false := by rw [decide_eq_false_iff_not]; omega
            rw [e2] at HD
            clear e2
            go_wp2_with fail
            have SC := sector_any (UInt8.ofNat k) wr
            rw [HCV.out, show (k : Int) % 256 = (n : Int) by omega] at SC
            refine SC.mono ?_
            clear SC
            rintro e w5 ⟨A5, rfl, s5, b5⟩
            have H5 := Lib.hid (HD.out.below b5)
            have B5 := Lib.hid (HB.out.trans (b5.mono HB.out.size))
            clear s5 b5
            go_wp2_with fail
            have PA := append_stop H5.out (f := fl fb nmA (secsA n) []) st_mem A5 64 rfl ⟨rfl, by show ((n - n : Nat) : Int) = 0; omega⟩ (by rw [st_used]; show (n : Int) < 16384; omega) B5.out.size
            rw [st_off] at PA
            refine PA.mono ?_
            clear PA
            rintro e w6 ⟨rfl, h6, k6⟩
            have H6 := Lib.hid (show DiskR w6 w.heap.size d mm (stD n fb (sk n (k + 1)) (decide (n < k + 1))) by rw [H3'.out, H4'.out]; exact h6)
            have B6 := Lib.hid (B5.out.trans (k6.below B5.out.size))
            clear h6 k6
            go_wp2_with fail
            exact ⟨⟨k + 1, by omega, by go_num, H6.out, B6.out⟩, by simp only [intOf]; omega⟩
          · have e2 : decide (n < k) = true := by rw [decide_eq_true_eq]; omega
            rw [e2] at HD
            clear e2
            go_wp2_with fail
            have SC := sector_any (UInt8.ofNat k) wr
            rw [HCV.out] at SC
            refine SC.mono ?_
            clear SC
            rintro e w5 ⟨A5, rfl, s5, b5⟩
            have H5 := Lib.hid (HD.out.below b5)
            have B5 := Lib.hid (HB.out.trans (b5.mono HB.out.size))
            clear s5 b5
            go_wp2_with fail
            refine (append_off H5.out nmA A5 64 rfl).mono ?_
            rintro e w6 ⟨rfl, b6⟩
            have H6 := Lib.hid (show DiskR w6 w.heap.size d mm (stD n fb (sk n (k + 1)) (decide (n < k + 1))) by rw [H3'.out, H4'.out]; exact H5.out.below b6)
            have B6 := Lib.hid (B5.out.trans (b6.mono B5.out.size))
            clear b6
            go_wp2_with fail
            exact ⟨⟨k + 1, by omega, by go_num, H6.out, B6.out⟩, by simp only [intOf]; omega⟩
      · obtain rfl : k = m := by omega
        obtain ⟨wl, rfl⟩ : ∃ wl : World, wl = wr := ⟨_, rfl⟩
        obtain ⟨q, hq⟩ : ∃ q, q = sk n k := ⟨_, rfl⟩
        obtain ⟨b, hb⟩ : ∃ b, b = decide (n < k) := ⟨_, rfl⟩
        rw [← hq, ← hb] at HD
        have hb2 : decide ((k : Int) > (n : Int)) = b := by rw [hb]; congr 1; simp
        have HQ := Lib.hid hq
        clear hb hq hlt hk
        have hq200 : q ≤ 200 := by rw [HQ.out]; unfold sk; split <;> omega
        have PCR := Lib.hid (crash_any (A := none) (keep := []) (c := 0) HD.out (IntAt.nil _ _ _) (fun v hv => by cases hv) (by show (pendA fb q).length ≤ 1000000; rw [pendA_len]; omega) HB.out.size)
        rw [st_crash] at PCR
        have HOF := Lib.hid (off_any HD.out)
        rw [show (stD n fb q b).off = b from rfl] at HOF
        clear hq200 HQ
        cases b
        · go_wp2_with fail
          refine HOF.out.mono ?_; rintro e w' ⟨rfl, rfl⟩
          go_wp2_with fail
          · rename_i h
            have := hb2
            simp only [decide_eq_false_iff_not] at this
            omega
          refine PCR.out.mono ?_; rintro e w5 ⟨rfl, h5, k5⟩
          have H5 := Lib.hid h5
          have B5 := Lib.hid (HB.out.trans (k5.below HB.out.size))
          clear h5 k5
          go_wp2_with fail
          refine (fsize_ok H5.out (f := fl fb nmA [] []) (List.mem_singleton.2 rfl)).mono ?_; rintro e w' ⟨rfl, rfl⟩
          rw [show (((fl fb nmA [] []).now.length : Nat) : Int) = 0 from rfl]
          go_wp2_with fail
          refine (off_any H5.out).mono ?_; rintro e w' ⟨rfl, rfl⟩
          go_wp2_with fail
          refine (sector_any 1 _).mono ?_
          rintro e w6 ⟨A6, rfl, s6, b6⟩
          have H6 := Lib.hid (H5.out.below b6)
          have B6 := Lib.hid (B5.out.trans (b6.mono B5.out.size))
          have Q6 := Lib.hid (s6.any w.heap.size)
          clear s6 b6
          go_wp2_with fail
          refine (append_ok (c := 64) H6.out (f := fl fb nmA [] []) (List.mem_singleton.2 rfl) Q6.out rfl (fun h => by cases h.1) (by show ((0 : Nat) : Int) < 16384; decide) (show (0 : Nat) ≤ 16384 by decide) (show (0 : Nat) ≤ 1000000 by decide) B6.out.size).mono ?_
          rintro e w7 ⟨rfl, h7, k7⟩
          have B7 := Lib.hid (B6.out.trans (k7.below B6.out.size))
          clear h7 k7
          go_wp2_with fail
          go_ret
          exact ⟨rfl, B7.out⟩
        · go_wp2_with fail
          refine HOF.out.mono ?_; rintro e w' ⟨rfl, rfl⟩
          go_wp2_with fail
          · rename_i h
            have := hb2
            simp only [decide_eq_true_eq, Bool.not_eq_true', decide_eq_false_iff_not] at this h
            omega
          refine PCR.out.mono ?_; rintro e w5 ⟨rfl, h5, k5⟩
          have H5 := Lib.hid h5
          have B5 := Lib.hid (HB.out.trans (k5.below HB.out.size))
          clear h5 k5
          go_wp2_with fail
          refine (fsize_ok H5.out (f := fl fb nmA [] []) (List.mem_singleton.2 rfl)).mono ?_; rintro e w' ⟨rfl, rfl⟩
          rw [show (((fl fb nmA [] []).now.length : Nat) : Int) = 0 from rfl]
          go_wp2_with fail
          refine (off_any H5.out).mono ?_; rintro e w' ⟨rfl, rfl⟩
          go_wp2_with fail
          refine (sector_any 1 _).mono ?_
          rintro e w6 ⟨A6, rfl, s6, b6⟩
          have H6 := Lib.hid (H5.out.below b6)
          have B6 := Lib.hid (B5.out.trans (b6.mono B5.out.size))
          have Q6 := Lib.hid (s6.any w.heap.size)
          clear s6 b6
          go_wp2_with fail
          refine (append_ok (c := 64) H6.out (f := fl fb nmA [] []) (List.mem_singleton.2 rfl) Q6.out rfl (fun h => by cases h.1) (by show ((0 : Nat) : Int) < 16384; decide) (show (0 : Nat) ≤ 16384 by decide) (show (0 : Nat) ≤ 1000000 by decide) B6.out.size).mono ?_
          rintro e w7 ⟨rfl, h7, k7⟩
          have B7 := Lib.hid (B6.out.trans (k7.below B6.out.size))
          clear h7 k7
          go_wp2_with fail
          go_ret
          exact ⟨rfl, B7.out⟩
  · have go : ∀ a b c d' : Bool, decide (n < 0) = a → decide (n > 200) = b → decide (m < 0) = c → decide (m > 300) = d' → (a || b || c || d') = true →
        Calls Try.prog 3 #[.int .i64 n, .int .i64 m] w fun e w' => e = .returned (.bool true) ∧ Below w.heap.size w w' := by
      intro a b c d' d1 d2 d3 d4 hh
      clear hr
      go_enter Try.func3, Try.ntmps3
      go_wp2_with fail
      refine P1.out.mono ?_; rintro e w1 ⟨d, mm, rfl, h1, -, -, b1⟩
      have B1 := Lib.hid b1
      clear h1 b1
      go_wp2_with fail
      refine (lives_any _).mono ?_; rintro e w2 ⟨rfl, b2⟩
      have B2 := Lib.hid (B1.out.trans (b2.mono B1.out.size))
      clear b2
      cases a <;> cases b <;> cases c <;> cases d' <;> first | (exact absurd hh (by decide)) | skip
      all_goals
        go_wp2_with fail
        refine (lives_any _).mono ?_; rintro e w3 ⟨rfl, b3⟩
        have B3 := Lib.hid (B2.out.trans (b3.mono B2.out.size))
        clear b3
        go_wp2_with fail
        go_ret
        exact ⟨rfl, B3.out⟩
    refine go _ _ _ _ rfl rfl rfl rfl ?_
    by_cases h1 : n < 0
    · simp [h1]
    · by_cases h2 : n > 200
      · simp [h2]
      · by_cases h3 : m < 0
        · simp [h3]
        · have : m > 300 := by omega
          simp [this]
end Go.Proofs.Ytodfpdmmbmbinaa
