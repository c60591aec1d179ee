/- The law RunFills. -/
import Derived.Test.YtodfpdmmbmbinaaRuF
namespace Go.Proofs.Ytodfpdmmbmbinaa
open Go.RowKit Go.Sort

def enF (i : Nat) : En := (((i : Int), 7), ((i : Int), 0))
def heldF (k : Nat) : List En := (List.range k).map enF
theorem heldF_len (k : Nat) : (heldF k).length = k := by unfold heldF; rw [List.length_map, List.length_range]
theorem heldF_succ (k : Nat) : heldF (k + 1) = heldF k ++ [enF k] := by
  unfold heldF
  rw [List.range_succ, List.map_append]
  rfl
theorem heldF_srt (k : Nat) : srtE (heldF k) = heldF k := by
  refine srtE_self ?_
  unfold heldF SrtPE
  rw [List.pairwise_map]
  refine List.pairwise_lt_range.imp fun {a b} h => ?_
  unfold leE
  rw [decide_eq_true_eq]
  have : ltE (enF b) (enF a) = false := by
    rw [ltE_not]
    simp only [enF]
    omega
  have h2 := leE_lt (enF a) (enF b)
  rw [this] at h2
  unfold leE at h2
  simpa using h2
theorem enF_ok (i : Nat) (h : i ≤ 5000) : enE (enF i) = 0 := by
  have : okEn (enF i) = true := by
    unfold okEn okMo okRec enF
    simp
    omega
  rw [← enE_zero] at this
  simpa using this
theorem heldF_front (k : Nat) : frontE (heldF (k + 1)) = [(0, 7)] := by
  induction k with
  | zero => decide
  | succ k ih =>
    rw [heldF_succ, frontE_snoc, ih]
    unfold stepFr covM
    rw [if_neg (by decide), if_pos]
    simp [aheadM, enF]
    exact decide_eq_true (by omega)
def fillK (lim k : Nat) : Nat := if k ≤ lim then k else lim
def fillR (lim k : Nat) : Rn := ⟨lim, fillK lim k, heldF (fillK lim k)⟩
set_option maxRecDepth 100000 in
set_option maxHeartbeats 4000000 in
theorem fills_any (lim n : Int) (w : World) (_ : -9223372036854775808 ≤ lim ∧ lim ≤ 9223372036854775807) (_ : -9223372036854775808 ≤ n ∧ n ≤ 9223372036854775807) :
    Calls Try.prog 7 #[.int .i64 lim, .int .i64 n] w fun e w' => e = .returned (.bool true) ∧ Below w.heap.size w w' := by
  by_cases hr : 1 ≤ lim ∧ lim ≤ 4096 ∧ 0 ≤ n ∧ n ≤ 5000 ∧ ¬ (300 < n ∧ n < 4090)
  · obtain ⟨lim, rfl⟩ : ∃ x : Nat, lim = (x : Int) := ⟨lim.toNat, by omega⟩
    obtain ⟨n, rfl⟩ : ∃ x : Nat, n = (x : Int) := ⟨n.toNat, by omega⟩
    have hl1 : 1 ≤ lim := by omega
    have hl2 : lim ≤ 4096 := by omega
    have hn : n ≤ 5000 := by omega
    have P1 := Lib.hid (rnew_ok lim w w.heap.size (Nat.le_refl _) hl1 hl2)
    have d1 : decide ((lim : Int) < 1) = false := by rw [decide_eq_false_iff_not]; omega
    have d2 : decide ((lim : Int) > 4096) = false := by rw [decide_eq_false_iff_not]; omega
    have d3 : decide ((n : Int) < 0) = false := by rw [decide_eq_false_iff_not]; omega
    have d4 : decide ((n : Int) > 5000) = false := by rw [decide_eq_false_iff_not]; omega
    have d5 : (decide ((n : Int) > 300) && decide ((n : Int) < 4090)) = false := by rw [Bool.and_eq_false_iff, decide_eq_false_iff_not, decide_eq_false_iff_not]; omega
    have HD := Lib.hid d5
    clear hr d5
    have go : ∀ a b : Bool, decide ((n : Int) > 300) = a → decide ((n : Int) < 4090) = b → (a && b) = false →
        Calls Try.prog 7 #[.int .i64 (lim : Int), .int .i64 (n : Int)] w fun e w' => e = .returned (.bool true) ∧ Below w.heap.size w w' := by
      intro a b e5 e6 hab
      go_enter Try.func7, Try.ntmps7
      cases a <;> cases b <;> first | (exact absurd hab (by decide)) | skip
      · go_wp2_with fail
        refine P1.out.mono ?_; rintro e w1 ⟨r, rfl, h1, -, b1⟩
        have H1 := Lib.hid h1
        have B1 := Lib.hid b1
        clear h1 b1
        go_wp2_with fail
        refine (rlives_any _).mono ?_; rintro e w2 ⟨rfl, b2⟩
        have H2 := Lib.hid (H1.out.below b2)
        have B2 := Lib.hid (B1.out.trans (b2.mono B1.out.size))
        clear b2
        go_wp2_with fail
        go_loopw [7] (fun i wr => ∃ (k : Nat) (hb : Option Nat), k ≤ n ∧ i = .int .i64 (k : Int) ∧ RunR wr w.heap.size r hb (fillR lim k) ∧ Below w.heap.size w wr) (fun i _ => n - (intOf i).toNat)
        case atStart => exact ⟨0, none, Nat.zero_le _, rfl, H2.out, B2.out⟩
        case round =>
          obtain ⟨k, hb, hk, rfl, hd, hbl⟩ := hrel
          have HR := Lib.hid hd
          have HB := Lib.hid hbl
          clear hd hbl
          by_cases hlt : k < n
          · have i1 : decide ((k : Int) < (n : Int)) = true := by rw [decide_eq_true_eq]; omega
            by_cases hkl : k < lim
            · have i2 : decide ((k : Int) ≥ (lim : Int)) = false := by rw [decide_eq_false_iff_not]; omega
              have e1 : fillK lim k = k := by unfold fillK; rw [if_pos (by omega)]
              have e2 : fillK lim (k + 1) = k + 1 := by unfold fillK; rw [if_pos (by omega)]
              have hR : fillR lim k = ⟨lim, k, heldF k⟩ := by unfold fillR; rw [e1]
              have hR2 : fillR lim (k + 1) = ⟨lim, max k ((heldF k).length + 1), heldF k ++ [enF k]⟩ := by unfold fillR; rw [e2, heldF_succ, heldF_len, Nat.max_eq_right (by omega)]
              rw [hR] at HR
              have HR2 := Lib.hid hR2
              clear hR hR2 e1 e2
              go_wp2_with fail
              refine (at_any (k : Int) 7 (k : Int) _).mono ?_; rintro e w3 ⟨rfl, b3⟩
              have H3 := Lib.hid (HR.out.below b3)
              have B3 := Lib.hid (HB.out.trans (b3.mono HB.out.size))
              clear b3
              go_wp2_with fail
              refine (radd_ok H3.out (enF k) (enF_ok k (by omega)) (by show (heldF k).length < lim; rw [heldF_len]; exact hkl) B3.out.size).mono ?_
              rintro e w4 ⟨rfl, hb4, h4, k4, -⟩
              have H4 := Lib.hid (show RunR w4 w.heap.size r hb4 (fillR lim (k + 1)) by rw [HR2.out]; exact h4)
              have B4 := Lib.hid (B3.out.trans (k4.below H3.out.base_le.1 (fun k hk => (H3.out.base_le.2.1 k hk).1) B3.out.size))
              clear h4 k4
              go_wp2_with fail
              exact ⟨⟨k + 1, hb4, by omega, by go_num, H4.out, B4.out⟩, by simp only [intOf]; omega⟩
            · have i2 : decide ((k : Int) ≥ (lim : Int)) = true := by rw [decide_eq_true_eq]; omega
              have e1 : fillK lim k = lim := by unfold fillK; split <;> omega
              have e2 : fillK lim (k + 1) = lim := by unfold fillK; split <;> omega
              have hR : fillR lim k = ⟨lim, lim, heldF lim⟩ := by unfold fillR; rw [e1]
              have hR2 : fillR lim (k + 1) = ⟨lim, lim, heldF lim⟩ := by unfold fillR; rw [e2]
              rw [hR] at HR
              have HR2 := Lib.hid hR2
              clear hR hR2 e1 e2
              go_wp2_with fail
              refine (at_any (k : Int) 7 (k : Int) _).mono ?_; rintro e w3 ⟨rfl, b3⟩
              have H3 := Lib.hid (HR.out.below b3)
              have B3 := Lib.hid (HB.out.trans (b3.mono HB.out.size))
              clear b3
              go_wp2_with fail
              refine (radd_full H3.out (enF k) (enF_ok k (by omega)) (by show (heldF lim).length = lim; rw [heldF_len])).mono ?_
              rintro e w4 ⟨rfl, b4⟩
              have H4 := Lib.hid (show RunR w4 w.heap.size r hb (fillR lim (k + 1)) by rw [HR2.out]; exact H3.out.below b4)
              have B4 := Lib.hid (B3.out.trans (b4.mono B3.out.size))
              clear b4
              go_wp2_with fail
              exact ⟨⟨k + 1, hb, by omega, by go_num, H4.out, B4.out⟩, by simp only [intOf]; omega⟩
          · obtain rfl : k = n := by omega
            obtain ⟨wl, rfl⟩ : ∃ wl : World, wl = wr := ⟨_, rfl⟩
            clear hlt
            by_cases hnl : lim < k
            · have i3 : decide ((k : Int) > (lim : Int)) = true := by rw [decide_eq_true_eq]; omega
              have i4 : ((lim : Int) == 0) = false := by rw [beq_eq_false_iff_ne]; omega
              have hR : fillR lim k = ⟨lim, lim, heldF lim⟩ := by unfold fillR fillK; rw [if_neg (by omega)]
              rw [hR] at HR
              clear hR
              have PF := rfront_any HR.out
              rw [show (⟨lim, lim, heldF lim⟩ : Rn).held = heldF lim from rfl, heldF_srt] at PF
              have PA := rall_any HR.out
              rw [show (⟨lim, lim, heldF lim⟩ : Rn).held = heldF lim from rfl, heldF_srt] at PA
              have hfl : (frontE (heldF lim)).length = 1 := by obtain ⟨x, rfl⟩ : ∃ x, lim = x + 1 := ⟨lim - 1, by omega⟩; rw [heldF_front]; rfl
              unfold MoRow at PF
              rw [hfl] at PF
              unfold SrtRow at PA
              rw [heldF_len] at PA
              have PA := Lib.hid PA
              have PF := Lib.hid PF
              clear hfl
              go_wp2_with fail
              refine PF.out.mono ?_; rintro e w5 ⟨A5, c5, rfl, -, b5⟩
              have H5 := Lib.hid (HR.out.below b5)
              have B5 := Lib.hid (HB.out.trans (b5.mono HB.out.size))
              clear b5
              go_wp2_with fail
              have PL := rlen_any H5.out
              rw [show ((⟨lim, lim, heldF lim⟩ : Rn).held.length : Int) = (lim : Int) by show ((heldF lim).length : Int) = _; rw [heldF_len]] at PL
              refine PL.mono ?_; rintro e w' ⟨rfl, rfl⟩
              clear PL
              go_wp2_with fail
              refine (rmost_any H5.out).mono ?_; rintro e w' ⟨rfl, rfl⟩
              go_wp2_with fail
              have PA5 := rall_any H5.out
              rw [show (⟨lim, lim, heldF lim⟩ : Rn).held = heldF lim from rfl, heldF_srt] at PA5
              unfold SrtRow at PA5
              rw [heldF_len] at PA5
              refine PA5.mono ?_
              clear PA5
              rintro e w6 ⟨A6, c6, rfl, hr6⟩
              have B6 := Lib.hid (B5.out.trans (hr6.2.1.mono B5.out.size))
              clear hr6
              go_wp2_with fail
              go_ret
              exact ⟨rfl, B6.out⟩
            · have i3 : decide ((k : Int) > (lim : Int)) = false := by rw [decide_eq_false_iff_not]; omega
              have hR : fillR lim k = ⟨lim, k, heldF k⟩ := by unfold fillR fillK; rw [if_pos (by omega)]
              rw [hR] at HR
              clear hR
              by_cases h0 : k = 0
              · have i4 : ((k : Int) == 0) = true := by rw [beq_iff_eq]; omega
                have PF := rfront_any HR.out
                rw [show (⟨lim, k, heldF k⟩ : Rn).held = heldF k from rfl, heldF_srt] at PF
                have PA := rall_any HR.out
                rw [show (⟨lim, k, heldF k⟩ : Rn).held = heldF k from rfl, heldF_srt] at PA
                have hfl : (frontE (heldF k)).length = 0 := by rw [h0]; rfl
                unfold MoRow at PF
                rw [hfl] at PF
                unfold SrtRow at PA
                rw [heldF_len] at PA
                have PA := Lib.hid PA
                have PF := Lib.hid PF
                clear hfl
                go_wp2_with fail
                refine PF.out.mono ?_; rintro e w5 ⟨A5, c5, rfl, -, b5⟩
                have H5 := Lib.hid (HR.out.below b5)
                have B5 := Lib.hid (HB.out.trans (b5.mono HB.out.size))
                clear b5
                go_wp2_with fail
                have PL := rlen_any H5.out
                rw [show ((⟨lim, k, heldF k⟩ : Rn).held.length : Int) = (k : Int) by show ((heldF k).length : Int) = _; rw [heldF_len]] at PL
                refine PL.mono ?_; rintro e w' ⟨rfl, rfl⟩
                clear PL
                go_wp2_with fail
                refine (rmost_any H5.out).mono ?_; rintro e w' ⟨rfl, rfl⟩
                go_wp2_with fail
                have PA5 := rall_any H5.out
                rw [show (⟨lim, k, heldF k⟩ : Rn).held = heldF k from rfl, heldF_srt] at PA5
                unfold SrtRow at PA5
                rw [heldF_len] at PA5
                refine PA5.mono ?_
                clear PA5
                rintro e w6 ⟨A6, c6, rfl, hr6⟩
                have B6 := Lib.hid (B5.out.trans (hr6.2.1.mono B5.out.size))
                clear hr6
                go_wp2_with fail
                go_ret
                exact ⟨rfl, B6.out⟩
              · have i4 : ((k : Int) == 0) = false := by rw [beq_eq_false_iff_ne]; omega
                have PF := rfront_any HR.out
                rw [show (⟨lim, k, heldF k⟩ : Rn).held = heldF k from rfl, heldF_srt] at PF
                have PA := rall_any HR.out
                rw [show (⟨lim, k, heldF k⟩ : Rn).held = heldF k from rfl, heldF_srt] at PA
                have hfl : (frontE (heldF k)).length = 1 := by obtain ⟨x, rfl⟩ : ∃ x, k = x + 1 := ⟨k - 1, by omega⟩; rw [heldF_front]; rfl
                unfold MoRow at PF
                rw [hfl] at PF
                unfold SrtRow at PA
                rw [heldF_len] at PA
                have PA := Lib.hid PA
                have PF := Lib.hid PF
                clear hfl
                go_wp2_with fail
                refine PF.out.mono ?_; rintro e w5 ⟨A5, c5, rfl, -, b5⟩
                have H5 := Lib.hid (HR.out.below b5)
                have B5 := Lib.hid (HB.out.trans (b5.mono HB.out.size))
                clear b5
                go_wp2_with fail
                have PL := rlen_any H5.out
                rw [show ((⟨lim, k, heldF k⟩ : Rn).held.length : Int) = (k : Int) by show ((heldF k).length : Int) = _; rw [heldF_len]] at PL
                refine PL.mono ?_; rintro e w' ⟨rfl, rfl⟩
                clear PL
                go_wp2_with fail
                refine (rmost_any H5.out).mono ?_; rintro e w' ⟨rfl, rfl⟩
                go_wp2_with fail
                have PA5 := rall_any H5.out
                rw [show (⟨lim, k, heldF k⟩ : Rn).held = heldF k from rfl, heldF_srt] at PA5
                unfold SrtRow at PA5
                rw [heldF_len] at PA5
                refine PA5.mono ?_
                clear PA5
                rintro e w6 ⟨A6, c6, rfl, hr6⟩
                have B6 := Lib.hid (B5.out.trans (hr6.2.1.mono B5.out.size))
                clear hr6
                go_wp2_with fail
                go_ret
                exact ⟨rfl, B6.out⟩
      · go_wp2_with fail
        refine P1.out.mono ?_; rintro e w1 ⟨r, rfl, h1, -, b1⟩
        have H1 := Lib.hid h1
        have B1 := Lib.hid b1
        clear h1 b1
        go_wp2_with fail
        refine (rlives_any _).mono ?_; rintro e w2 ⟨rfl, b2⟩
        have H2 := Lib.hid (H1.out.below b2)
        have B2 := Lib.hid (B1.out.trans (b2.mono B1.out.size))
        clear b2
        go_wp2_with fail
        go_loopw [7] (fun i wr => ∃ (k : Nat) (hb : Option Nat), k ≤ n ∧ i = .int .i64 (k : Int) ∧ RunR wr w.heap.size r hb (fillR lim k) ∧ Below w.heap.size w wr) (fun i _ => n - (intOf i).toNat)
        case atStart => exact ⟨0, none, Nat.zero_le _, rfl, H2.out, B2.out⟩
        case round =>
          obtain ⟨k, hb, hk, rfl, hd, hbl⟩ := hrel
          have HR := Lib.hid hd
          have HB := Lib.hid hbl
          clear hd hbl
          by_cases hlt : k < n
          · have i1 : decide ((k : Int) < (n : Int)) = true := by rw [decide_eq_true_eq]; omega
            by_cases hkl : k < lim
            · have i2 : decide ((k : Int) ≥ (lim : Int)) = false := by rw [decide_eq_false_iff_not]; omega
              have e1 : fillK lim k = k := by unfold fillK; rw [if_pos (by omega)]
              have e2 : fillK lim (k + 1) = k + 1 := by unfold fillK; rw [if_pos (by omega)]
              have hR : fillR lim k = ⟨lim, k, heldF k⟩ := by unfold fillR; rw [e1]
              have hR2 : fillR lim (k + 1) = ⟨lim, max k ((heldF k).length + 1), heldF k ++ [enF k]⟩ := by unfold fillR; rw [e2, heldF_succ, heldF_len, Nat.max_eq_right (by omega)]
              rw [hR] at HR
              have HR2 := Lib.hid hR2
              clear hR hR2 e1 e2
              go_wp2_with fail
              refine (at_any (k : Int) 7 (k : Int) _).mono ?_; rintro e w3 ⟨rfl, b3⟩
              have H3 := Lib.hid (HR.out.below b3)
              have B3 := Lib.hid (HB.out.trans (b3.mono HB.out.size))
              clear b3
              go_wp2_with fail
              refine (radd_ok H3.out (enF k) (enF_ok k (by omega)) (by show (heldF k).length < lim; rw [heldF_len]; exact hkl) B3.out.size).mono ?_
              rintro e w4 ⟨rfl, hb4, h4, k4, -⟩
              have H4 := Lib.hid (show RunR w4 w.heap.size r hb4 (fillR lim (k + 1)) by rw [HR2.out]; exact h4)
              have B4 := Lib.hid (B3.out.trans (k4.below H3.out.base_le.1 (fun k hk => (H3.out.base_le.2.1 k hk).1) B3.out.size))
              clear h4 k4
              go_wp2_with fail
              exact ⟨⟨k + 1, hb4, by omega, by go_num, H4.out, B4.out⟩, by simp only [intOf]; omega⟩
            · have i2 : decide ((k : Int) ≥ (lim : Int)) = true := by rw [decide_eq_true_eq]; omega
              have e1 : fillK lim k = lim := by unfold fillK; split <;> omega
              have e2 : fillK lim (k + 1) = lim := by unfold fillK; split <;> omega
              have hR : fillR lim k = ⟨lim, lim, heldF lim⟩ := by unfold fillR; rw [e1]
              have hR2 : fillR lim (k + 1) = ⟨lim, lim, heldF lim⟩ := by unfold fillR; rw [e2]
              rw [hR] at HR
              have HR2 := Lib.hid hR2
              clear hR hR2 e1 e2
              go_wp2_with fail
              refine (at_any (k : Int) 7 (k : Int) _).mono ?_; rintro e w3 ⟨rfl, b3⟩
              have H3 := Lib.hid (HR.out.below b3)
              have B3 := Lib.hid (HB.out.trans (b3.mono HB.out.size))
              clear b3
              go_wp2_with fail
              refine (radd_full H3.out (enF k) (enF_ok k (by omega)) (by show (heldF lim).length = lim; rw [heldF_len])).mono ?_
              rintro e w4 ⟨rfl, b4⟩
              have H4 := Lib.hid (show RunR w4 w.heap.size r hb (fillR lim (k + 1)) by rw [HR2.out]; exact H3.out.below b4)
              have B4 := Lib.hid (B3.out.trans (b4.mono B3.out.size))
              clear b4
              go_wp2_with fail
              exact ⟨⟨k + 1, hb, by omega, by go_num, H4.out, B4.out⟩, by simp only [intOf]; omega⟩
          · obtain rfl : k = n := by omega
            obtain ⟨wl, rfl⟩ : ∃ wl : World, wl = wr := ⟨_, rfl⟩
            clear hlt
            by_cases hnl : lim < k
            · have i3 : decide ((k : Int) > (lim : Int)) = true := by rw [decide_eq_true_eq]; omega
              have i4 : ((lim : Int) == 0) = false := by rw [beq_eq_false_iff_ne]; omega
              have hR : fillR lim k = ⟨lim, lim, heldF lim⟩ := by unfold fillR fillK; rw [if_neg (by omega)]
              rw [hR] at HR
              clear hR
              have PF := rfront_any HR.out
              rw [show (⟨lim, lim, heldF lim⟩ : Rn).held = heldF lim from rfl, heldF_srt] at PF
              have PA := rall_any HR.out
              rw [show (⟨lim, lim, heldF lim⟩ : Rn).held = heldF lim from rfl, heldF_srt] at PA
              have hfl : (frontE (heldF lim)).length = 1 := by obtain ⟨x, rfl⟩ : ∃ x, lim = x + 1 := ⟨lim - 1, by omega⟩; rw [heldF_front]; rfl
              unfold MoRow at PF
              rw [hfl] at PF
              unfold SrtRow at PA
              rw [heldF_len] at PA
              have PA := Lib.hid PA
              have PF := Lib.hid PF
              clear hfl
              go_wp2_with fail
              refine PF.out.mono ?_; rintro e w5 ⟨A5, c5, rfl, -, b5⟩
              have H5 := Lib.hid (HR.out.below b5)
              have B5 := Lib.hid (HB.out.trans (b5.mono HB.out.size))
              clear b5
              go_wp2_with fail
              have PL := rlen_any H5.out
              rw [show ((⟨lim, lim, heldF lim⟩ : Rn).held.length : Int) = (lim : Int) by show ((heldF lim).length : Int) = _; rw [heldF_len]] at PL
              refine PL.mono ?_; rintro e w' ⟨rfl, rfl⟩
              clear PL
              go_wp2_with fail
              refine (rmost_any H5.out).mono ?_; rintro e w' ⟨rfl, rfl⟩
              go_wp2_with fail
              have PA5 := rall_any H5.out
              rw [show (⟨lim, lim, heldF lim⟩ : Rn).held = heldF lim from rfl, heldF_srt] at PA5
              unfold SrtRow at PA5
              rw [heldF_len] at PA5
              refine PA5.mono ?_
              clear PA5
              rintro e w6 ⟨A6, c6, rfl, hr6⟩
              have B6 := Lib.hid (B5.out.trans (hr6.2.1.mono B5.out.size))
              clear hr6
              go_wp2_with fail
              go_ret
              exact ⟨rfl, B6.out⟩
            · have i3 : decide ((k : Int) > (lim : Int)) = false := by rw [decide_eq_false_iff_not]; omega
              have hR : fillR lim k = ⟨lim, k, heldF k⟩ := by unfold fillR fillK; rw [if_pos (by omega)]
              rw [hR] at HR
              clear hR
              by_cases h0 : k = 0
              · have i4 : ((k : Int) == 0) = true := by rw [beq_iff_eq]; omega
                have PF := rfront_any HR.out
                rw [show (⟨lim, k, heldF k⟩ : Rn).held = heldF k from rfl, heldF_srt] at PF
                have PA := rall_any HR.out
                rw [show (⟨lim, k, heldF k⟩ : Rn).held = heldF k from rfl, heldF_srt] at PA
                have hfl : (frontE (heldF k)).length = 0 := by rw [h0]; rfl
                unfold MoRow at PF
                rw [hfl] at PF
                unfold SrtRow at PA
                rw [heldF_len] at PA
                have PA := Lib.hid PA
                have PF := Lib.hid PF
                clear hfl
                go_wp2_with fail
                refine PF.out.mono ?_; rintro e w5 ⟨A5, c5, rfl, -, b5⟩
                have H5 := Lib.hid (HR.out.below b5)
                have B5 := Lib.hid (HB.out.trans (b5.mono HB.out.size))
                clear b5
                go_wp2_with fail
                have PL := rlen_any H5.out
                rw [show ((⟨lim, k, heldF k⟩ : Rn).held.length : Int) = (k : Int) by show ((heldF k).length : Int) = _; rw [heldF_len]] at PL
                refine PL.mono ?_; rintro e w' ⟨rfl, rfl⟩
                clear PL
                go_wp2_with fail
                refine (rmost_any H5.out).mono ?_; rintro e w' ⟨rfl, rfl⟩
                go_wp2_with fail
                have PA5 := rall_any H5.out
                rw [show (⟨lim, k, heldF k⟩ : Rn).held = heldF k from rfl, heldF_srt] at PA5
                unfold SrtRow at PA5
                rw [heldF_len] at PA5
                refine PA5.mono ?_
                clear PA5
                rintro e w6 ⟨A6, c6, rfl, hr6⟩
                have B6 := Lib.hid (B5.out.trans (hr6.2.1.mono B5.out.size))
                clear hr6
                go_wp2_with fail
                go_ret
                exact ⟨rfl, B6.out⟩
              · have i4 : ((k : Int) == 0) = false := by rw [beq_eq_false_iff_ne]; omega
                have PF := rfront_any HR.out
                rw [show (⟨lim, k, heldF k⟩ : Rn).held = heldF k from rfl, heldF_srt] at PF
                have PA := rall_any HR.out
                rw [show (⟨lim, k, heldF k⟩ : Rn).held = heldF k from rfl, heldF_srt] at PA
                have hfl : (frontE (heldF k)).length = 1 := by obtain ⟨x, rfl⟩ : ∃ x, k = x + 1 := ⟨k - 1, by omega⟩; rw [heldF_front]; rfl
                unfold MoRow at PF
                rw [hfl] at PF
                unfold SrtRow at PA
                rw [heldF_len] at PA
                have PA := Lib.hid PA
                have PF := Lib.hid PF
                clear hfl
                go_wp2_with fail
                refine PF.out.mono ?_; rintro e w5 ⟨A5, c5, rfl, -, b5⟩
                have H5 := Lib.hid (HR.out.below b5)
                have B5 := Lib.hid (HB.out.trans (b5.mono HB.out.size))
                clear b5
                go_wp2_with fail
                have PL := rlen_any H5.out
                rw [show ((⟨lim, k, heldF k⟩ : Rn).held.length : Int) = (k : Int) by show ((heldF k).length : Int) = _; rw [heldF_len]] at PL
                refine PL.mono ?_; rintro e w' ⟨rfl, rfl⟩
                clear PL
                go_wp2_with fail
                refine (rmost_any H5.out).mono ?_; rintro e w' ⟨rfl, rfl⟩
                go_wp2_with fail
                have PA5 := rall_any H5.out
                rw [show (⟨lim, k, heldF k⟩ : Rn).held = heldF k from rfl, heldF_srt] at PA5
                unfold SrtRow at PA5
                rw [heldF_len] at PA5
                refine PA5.mono ?_
                clear PA5
                rintro e w6 ⟨A6, c6, rfl, hr6⟩
                have B6 := Lib.hid (B5.out.trans (hr6.2.1.mono B5.out.size))
                clear hr6
                go_wp2_with fail
                go_ret
                exact ⟨rfl, B6.out⟩
      · go_wp2_with fail
        refine P1.out.mono ?_; rintro e w1 ⟨r, rfl, h1, -, b1⟩
        have H1 := Lib.hid h1
        have B1 := Lib.hid b1
        clear h1 b1
        go_wp2_with fail
        refine (rlives_any _).mono ?_; rintro e w2 ⟨rfl, b2⟩
        have H2 := Lib.hid (H1.out.below b2)
        have B2 := Lib.hid (B1.out.trans (b2.mono B1.out.size))
        clear b2
        go_wp2_with fail
        go_loopw [7] (fun i wr => ∃ (k : Nat) (hb : Option Nat), k ≤ n ∧ i = .int .i64 (k : Int) ∧ RunR wr w.heap.size r hb (fillR lim k) ∧ Below w.heap.size w wr) (fun i _ => n - (intOf i).toNat)
        case atStart => exact ⟨0, none, Nat.zero_le _, rfl, H2.out, B2.out⟩
        case round =>
          obtain ⟨k, hb, hk, rfl, hd, hbl⟩ := hrel
          have HR := Lib.hid hd
          have HB := Lib.hid hbl
          clear hd hbl
          by_cases hlt : k < n
          · have i1 : decide ((k : Int) < (n : Int)) = true := by rw [decide_eq_true_eq]; omega
            by_cases hkl : k < lim
            · have i2 : decide ((k : Int) ≥ (lim : Int)) = false := by rw [decide_eq_false_iff_not]; omega
              have e1 : fillK lim k = k := by unfold fillK; rw [if_pos (by omega)]
              have e2 : fillK lim (k + 1) = k + 1 := by unfold fillK; rw [if_pos (by omega)]
              have hR : fillR lim k = ⟨lim, k, heldF k⟩ := by unfold fillR; rw [e1]
              have hR2 : fillR lim (k + 1) = ⟨lim, max k ((heldF k).length + 1), heldF k ++ [enF k]⟩ := by unfold fillR; rw [e2, heldF_succ, heldF_len, Nat.max_eq_right (by omega)]
              rw [hR] at HR
              have HR2 := Lib.hid hR2
              clear hR hR2 e1 e2
              go_wp2_with fail
              refine (at_any (k : Int) 7 (k : Int) _).mono ?_; rintro e w3 ⟨rfl, b3⟩
              have H3 := Lib.hid (HR.out.below b3)
              have B3 := Lib.hid (HB.out.trans (b3.mono HB.out.size))
              clear b3
              go_wp2_with fail
              refine (radd_ok H3.out (enF k) (enF_ok k (by omega)) (by show (heldF k).length < lim; rw [heldF_len]; exact hkl) B3.out.size).mono ?_
              rintro e w4 ⟨rfl, hb4, h4, k4, -⟩
              have H4 := Lib.hid (show RunR w4 w.heap.size r hb4 (fillR lim (k + 1)) by rw [HR2.out]; exact h4)
              have B4 := Lib.hid (B3.out.trans (k4.below H3.out.base_le.1 (fun k hk => (H3.out.base_le.2.1 k hk).1) B3.out.size))
              clear h4 k4
              go_wp2_with fail
              exact ⟨⟨k + 1, hb4, by omega, by go_num, H4.out, B4.out⟩, by simp only [intOf]; omega⟩
            · have i2 : decide ((k : Int) ≥ (lim : Int)) = true := by rw [decide_eq_true_eq]; omega
              have e1 : fillK lim k = lim := by unfold fillK; split <;> omega
              have e2 : fillK lim (k + 1) = lim := by unfold fillK; split <;> omega
              have hR : fillR lim k = ⟨lim, lim, heldF lim⟩ := by unfold fillR; rw [e1]
              have hR2 : fillR lim (k + 1) = ⟨lim, lim, heldF lim⟩ := by unfold fillR; rw [e2]
              rw [hR] at HR
              have HR2 := Lib.hid hR2
              clear hR hR2 e1 e2
              go_wp2_with fail
              refine (at_any (k : Int) 7 (k : Int) _).mono ?_; rintro e w3 ⟨rfl, b3⟩
              have H3 := Lib.hid (HR.out.below b3)
              have B3 := Lib.hid (HB.out.trans (b3.mono HB.out.size))
              clear b3
              go_wp2_with fail
              refine (radd_full H3.out (enF k) (enF_ok k (by omega)) (by show (heldF lim).length = lim; rw [heldF_len])).mono ?_
              rintro e w4 ⟨rfl, b4⟩
              have H4 := Lib.hid (show RunR w4 w.heap.size r hb (fillR lim (k + 1)) by rw [HR2.out]; exact H3.out.below b4)
              have B4 := Lib.hid (B3.out.trans (b4.mono B3.out.size))
              clear b4
              go_wp2_with fail
              exact ⟨⟨k + 1, hb, by omega, by go_num, H4.out, B4.out⟩, by simp only [intOf]; omega⟩
          · obtain rfl : k = n := by omega
            obtain ⟨wl, rfl⟩ : ∃ wl : World, wl = wr := ⟨_, rfl⟩
            clear hlt
            by_cases hnl : lim < k
            · have i3 : decide ((k : Int) > (lim : Int)) = true := by rw [decide_eq_true_eq]; omega
              have i4 : ((lim : Int) == 0) = false := by rw [beq_eq_false_iff_ne]; omega
              have hR : fillR lim k = ⟨lim, lim, heldF lim⟩ := by unfold fillR fillK; rw [if_neg (by omega)]
              rw [hR] at HR
              clear hR
              have PF := rfront_any HR.out
              rw [show (⟨lim, lim, heldF lim⟩ : Rn).held = heldF lim from rfl, heldF_srt] at PF
              have PA := rall_any HR.out
              rw [show (⟨lim, lim, heldF lim⟩ : Rn).held = heldF lim from rfl, heldF_srt] at PA
              have hfl : (frontE (heldF lim)).length = 1 := by obtain ⟨x, rfl⟩ : ∃ x, lim = x + 1 := ⟨lim - 1, by omega⟩; rw [heldF_front]; rfl
              unfold MoRow at PF
              rw [hfl] at PF
              unfold SrtRow at PA
              rw [heldF_len] at PA
              have PA := Lib.hid PA
              have PF := Lib.hid PF
              clear hfl
              go_wp2_with fail
              refine PF.out.mono ?_; rintro e w5 ⟨A5, c5, rfl, -, b5⟩
              have H5 := Lib.hid (HR.out.below b5)
              have B5 := Lib.hid (HB.out.trans (b5.mono HB.out.size))
              clear b5
              go_wp2_with fail
              have PL := rlen_any H5.out
              rw [show ((⟨lim, lim, heldF lim⟩ : Rn).held.length : Int) = (lim : Int) by show ((heldF lim).length : Int) = _; rw [heldF_len]] at PL
              refine PL.mono ?_; rintro e w' ⟨rfl, rfl⟩
              clear PL
              go_wp2_with fail
              refine (rmost_any H5.out).mono ?_; rintro e w' ⟨rfl, rfl⟩
              go_wp2_with fail
              have PA5 := rall_any H5.out
              rw [show (⟨lim, lim, heldF lim⟩ : Rn).held = heldF lim from rfl, heldF_srt] at PA5
              unfold SrtRow at PA5
              rw [heldF_len] at PA5
              refine PA5.mono ?_
              clear PA5
              rintro e w6 ⟨A6, c6, rfl, hr6⟩
              have B6 := Lib.hid (B5.out.trans (hr6.2.1.mono B5.out.size))
              clear hr6
              go_wp2_with fail
              go_ret
              exact ⟨rfl, B6.out⟩
            · have i3 : decide ((k : Int) > (lim : Int)) = false := by rw [decide_eq_false_iff_not]; omega
              have hR : fillR lim k = ⟨lim, k, heldF k⟩ := by unfold fillR fillK; rw [if_pos (by omega)]
              rw [hR] at HR
              clear hR
              by_cases h0 : k = 0
              · have i4 : ((k : Int) == 0) = true := by rw [beq_iff_eq]; omega
                have PF := rfront_any HR.out
                rw [show (⟨lim, k, heldF k⟩ : Rn).held = heldF k from rfl, heldF_srt] at PF
                have PA := rall_any HR.out
                rw [show (⟨lim, k, heldF k⟩ : Rn).held = heldF k from rfl, heldF_srt] at PA
                have hfl : (frontE (heldF k)).length = 0 := by rw [h0]; rfl
                unfold MoRow at PF
                rw [hfl] at PF
                unfold SrtRow at PA
                rw [heldF_len] at PA
                have PA := Lib.hid PA
                have PF := Lib.hid PF
                clear hfl
                go_wp2_with fail
                refine PF.out.mono ?_; rintro e w5 ⟨A5, c5, rfl, -, b5⟩
                have H5 := Lib.hid (HR.out.below b5)
                have B5 := Lib.hid (HB.out.trans (b5.mono HB.out.size))
                clear b5
                go_wp2_with fail
                have PL := rlen_any H5.out
                rw [show ((⟨lim, k, heldF k⟩ : Rn).held.length : Int) = (k : Int) by show ((heldF k).length : Int) = _; rw [heldF_len]] at PL
                refine PL.mono ?_; rintro e w' ⟨rfl, rfl⟩
                clear PL
                go_wp2_with fail
                refine (rmost_any H5.out).mono ?_; rintro e w' ⟨rfl, rfl⟩
                go_wp2_with fail
                have PA5 := rall_any H5.out
                rw [show (⟨lim, k, heldF k⟩ : Rn).held = heldF k from rfl, heldF_srt] at PA5
                unfold SrtRow at PA5
                rw [heldF_len] at PA5
                refine PA5.mono ?_
                clear PA5
                rintro e w6 ⟨A6, c6, rfl, hr6⟩
                have B6 := Lib.hid (B5.out.trans (hr6.2.1.mono B5.out.size))
                clear hr6
                go_wp2_with fail
                go_ret
                exact ⟨rfl, B6.out⟩
              · have i4 : ((k : Int) == 0) = false := by rw [beq_eq_false_iff_ne]; omega
                have PF := rfront_any HR.out
                rw [show (⟨lim, k, heldF k⟩ : Rn).held = heldF k from rfl, heldF_srt] at PF
                have PA := rall_any HR.out
                rw [show (⟨lim, k, heldF k⟩ : Rn).held = heldF k from rfl, heldF_srt] at PA
                have hfl : (frontE (heldF k)).length = 1 := by obtain ⟨x, rfl⟩ : ∃ x, k = x + 1 := ⟨k - 1, by omega⟩; rw [heldF_front]; rfl
                unfold MoRow at PF
                rw [hfl] at PF
                unfold SrtRow at PA
                rw [heldF_len] at PA
                have PA := Lib.hid PA
                have PF := Lib.hid PF
                clear hfl
                go_wp2_with fail
                refine PF.out.mono ?_; rintro e w5 ⟨A5, c5, rfl, -, b5⟩
                have H5 := Lib.hid (HR.out.below b5)
                have B5 := Lib.hid (HB.out.trans (b5.mono HB.out.size))
                clear b5
                go_wp2_with fail
                have PL := rlen_any H5.out
                rw [show ((⟨lim, k, heldF k⟩ : Rn).held.length : Int) = (k : Int) by show ((heldF k).length : Int) = _; rw [heldF_len]] at PL
                refine PL.mono ?_; rintro e w' ⟨rfl, rfl⟩
                clear PL
                go_wp2_with fail
                refine (rmost_any H5.out).mono ?_; rintro e w' ⟨rfl, rfl⟩
                go_wp2_with fail
                have PA5 := rall_any H5.out
                rw [show (⟨lim, k, heldF k⟩ : Rn).held = heldF k from rfl, heldF_srt] at PA5
                unfold SrtRow at PA5
                rw [heldF_len] at PA5
                refine PA5.mono ?_
                clear PA5
                rintro e w6 ⟨A6, c6, rfl, hr6⟩
                have B6 := Lib.hid (B5.out.trans (hr6.2.1.mono B5.out.size))
                clear hr6
                go_wp2_with fail
                go_ret
                exact ⟨rfl, B6.out⟩
    exact go _ _ rfl rfl HD.out
  · have go : ∀ a b c d e f : Bool, decide (lim < 1) = a → decide (lim > 4096) = b → decide (n < 0) = c → decide (n > 5000) = d → decide (n > 300) = e → decide (n < 4090) = f → (a || b || c || d || (e && f)) = true →
        Calls Try.prog 7 #[.int .i64 lim, .int .i64 n] w fun e w' => e = .returned (.bool true) ∧ Below w.heap.size w w' := by
      intro a b c d e f d1 d2 d3 d4 d5 d6 hh
      clear hr
      go_enter Try.func7, Try.ntmps7
      cases a <;> cases b <;> cases c <;> cases d <;> cases e <;> cases f <;> first | (exact absurd hh (by decide)) | skip
      all_goals
        go_wp2_with fail
        refine (rlives_any _).mono ?_; rintro e w3 ⟨rfl, b3⟩
        have B3 := Lib.hid b3
        clear b3
        go_wp2_with fail
        go_ret
        exact ⟨rfl, B3.out⟩
    refine go _ _ _ _ _ _ rfl rfl rfl rfl rfl rfl ?_
    simp only [Bool.or_eq_true, Bool.and_eq_true, decide_eq_true_eq]
    omega
end Go.Proofs.Ytodfpdmmbmbinaa
