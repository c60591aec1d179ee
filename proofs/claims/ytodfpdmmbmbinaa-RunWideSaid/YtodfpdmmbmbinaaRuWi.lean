/- The law RunWide. -/
import Derived.Test.YtodfpdmmbmbinaaRuF
namespace Go.Proofs.Ytodfpdmmbmbinaa
open Go.RowKit Go.Sort

def moW (i : Nat) : Int × Int := ((i : Int), 1000 - (i : Int))
def enW (i : Nat) : En := (moW i, (0, 0))
def heldW (k : Nat) : List En := (List.range k).map enW
theorem heldW_len (k : Nat) : (heldW k).length = k := by unfold heldW; rw [List.length_map, List.length_range]
theorem heldW_succ (k : Nat) : heldW (k + 1) = heldW k ++ [enW k] := by
  unfold heldW
  rw [List.range_succ, List.map_append]
  rfl
theorem heldW_srt (k : Nat) : srtE (heldW k) = heldW k := by
  refine srtE_self ?_
  unfold heldW SrtPE
  rw [List.pairwise_map]
  refine List.pairwise_lt_range.imp fun {a b} h => ?_
  have : ltE (enW b) (enW a) = false := by
    rw [ltE_not]
    simp only [enW, moW]
    omega
  rw [leE_lt, this]
  rfl
theorem enW_ok (i : Nat) (h : i ≤ 400) : enE (enW i) = 0 := by
  have : okEn (enW i) = true := by
    unfold okEn okMo okRec enW moW
    simp
    omega
  rw [← enE_zero] at this
  simpa using this
def wideN (k : Nat) : Nat := if k ≤ 256 then k else 256
theorem heldW_front (k : Nat) : frontE (heldW k) = (List.range (wideN k)).map moW := by
  induction k with
  | zero => rfl
  | succ k ih =>
    rw [heldW_succ, frontE_snoc, ih]
    unfold stepFr
    rw [List.length_map, List.length_range]
    by_cases h : wideN k = 256
    · rw [if_pos h]
      have : wideN (k + 1) = wideN k := by unfold wideN at h ⊢; split at h <;> split <;> omega
      rw [this]
    · have hk : wideN k = k := by unfold wideN at h ⊢; split at h <;> split <;> omega
      have hk2 : wideN (k + 1) = k + 1 := by unfold wideN at h ⊢; split at h <;> split <;> omega
      rw [if_neg h, hk2, hk, List.range_succ, List.map_append]
      have : covM ((List.range k).map moW) (enW k).1 = false := by
        unfold covM
        rw [List.any_eq_false]
        intro m hm
        obtain ⟨i, hi, rfl⟩ := List.mem_map.1 hm
        have := List.mem_range.1 hi
        unfold aheadM enW moW
        simp
        omega
      rw [this]
      rfl
set_option maxRecDepth 100000 in
set_option maxHeartbeats 4000000 in
theorem wide_any (n : Int) (w : World) (_ : -9223372036854775808 ≤ n ∧ n ≤ 9223372036854775807) :
    Calls Try.prog 8 #[.int .i64 n] w fun e w' => e = .returned (.bool true) ∧ Below w.heap.size w w' := by
  by_cases hr : 0 ≤ n ∧ n ≤ 400
  · obtain ⟨n, rfl⟩ : ∃ x : Nat, n = (x : Int) := ⟨n.toNat, by omega⟩
    have hn : n ≤ 400 := by omega
    have P1 := Lib.hid (rnew_ok 1000 w w.heap.size (Nat.le_refl _) (by decide) (by decide))
    have d3 : decide ((n : Int) < 0) = false := by rw [decide_eq_false_iff_not]; omega
    have d4 : decide ((n : Int) > 400) = false := by rw [decide_eq_false_iff_not]; omega
    clear hr
    go_enter Try.func8, Try.ntmps8
    go_wp2_with fail
    refine P1.out.mono ?_; rintro e w1 ⟨r, rfl, h1, -, b1⟩
    have H1 := Lib.hid h1
    have B1 := Lib.hid b1
    clear h1 b1
    go_wp2_with fail
    refine (rlives_any _).mono ?_; rintro e w2 ⟨rfl, b2⟩
    have H2 := Lib.hid (H1.out.below b2)
    have B2 := Lib.hid (B1.out.trans (b2.mono B1.out.size))
    clear b2
    go_wp2_with fail
    go_loopw [5] (fun i wr => ∃ (k : Nat) (hb : Option Nat), k ≤ n ∧ i = .int .i64 (k : Int) ∧ RunR wr w.heap.size r hb ⟨1000, k, heldW k⟩ ∧ Below w.heap.size w wr) (fun i _ => n - (intOf i).toNat)
    case atStart => exact ⟨0, none, Nat.zero_le _, rfl, H2.out, B2.out⟩
    case round =>
      obtain ⟨k, hb, hk, rfl, hd, hbl⟩ := hrel
      have HR := Lib.hid hd
      have HB := Lib.hid hbl
      clear hd hbl
      by_cases hlt : k < n
      · have i1 : decide ((k : Int) < (n : Int)) = true := by rw [decide_eq_true_eq]; omega
        have hR2 : (⟨1000, k + 1, heldW (k + 1)⟩ : Rn) = ⟨1000, max k ((heldW k).length + 1), heldW k ++ [enW k]⟩ := by rw [heldW_succ, heldW_len, Nat.max_eq_right (by omega)]
        have HR2 := Lib.hid hR2
        clear hR2
        go_wp2_with fail
        refine (at_any (k : Int) (1000 - (k : Int)) 0 _).mono ?_; rintro e w3 ⟨rfl, b3⟩
        have H3 := Lib.hid (HR.out.below b3)
        have B3 := Lib.hid (HB.out.trans (b3.mono HB.out.size))
        clear b3
        go_wp2_with fail
        refine (radd_ok H3.out (enW k) (enW_ok k (by omega)) (by show (heldW k).length < 1000; rw [heldW_len]; omega) B3.out.size).mono ?_
        rintro e w4 ⟨rfl, hb4, h4, k4, -⟩
        have H4 := Lib.hid (show RunR w4 w.heap.size r hb4 ⟨1000, k + 1, heldW (k + 1)⟩ by rw [HR2.out]; exact h4)
        have B4 := Lib.hid (B3.out.trans (k4.below H3.out.base_le.1 (fun k hk => (H3.out.base_le.2.1 k hk).1) B3.out.size))
        clear h4 k4
        go_wp2_with fail
        exact ⟨⟨k + 1, hb4, by omega, by go_num, H4.out, B4.out⟩, by simp only [intOf]; omega⟩
      · obtain rfl : k = n := by omega
        obtain ⟨wl, rfl⟩ : ∃ wl : World, wl = wr := ⟨_, rfl⟩
        clear hlt
        by_cases hk256 : 256 < k
        · have i3 : decide ((k : Int) > 256) = true := by rw [decide_eq_true_eq]; omega
          have hw : wideN k = 256 := by unfold wideN; split <;> omega
          have PF := rfront_any HR.out
          rw [show (⟨1000, k, heldW k⟩ : Rn).held = heldW k from rfl, heldW_srt, heldW_front, hw] at PF
          unfold MoRow at PF
          rw [show ((List.range 256).map moW).length = 256 by rw [List.length_map, List.length_range]] at PF
          have PF := Lib.hid PF
          clear hw
          go_wp2_with fail
          refine PF.out.mono ?_; rintro e w5 ⟨A5, c5, rfl, o5, b5⟩
          have o5' : w5.ownsRow wl.heap.size 61 2 (.slice A5 256 c5) 256 (Prs ((List.range 256).map moW)) := o5
          obtain ⟨g5, -, s5, -, -, -, -⟩ := SlP.of_own o5'
          have S5 := Lib.hid s5
          have B5 := Lib.hid (HB.out.trans (b5.mono HB.out.size))
          clear o5 o5' s5 b5
          go_wp2_with fail
          go_loopw [8] (fun i wr => ∃ j : Nat, j ≤ 256 ∧ i = .int .i64 (j : Int) ∧ w5 = wr) (fun i _ => 256 - (intOf i).toNat)
          case atStart => exact ⟨0, Nat.zero_le _, rfl, rfl⟩
          case round =>
            obtain ⟨j, hj, rfl, rfl⟩ := hrel
            by_cases hjq : j < 256
            · obtain ⟨-, off, rfl, q0, q1⟩ := S5.out.at_ (j := j) (x := moW j) (by rw [List.getElem?_map, List.getElem?_range hjq]; rfl)
              have q0' : w5.cell? ⟨g5, off + j * 2, none⟩ = some (.int .i64 (j : Int)) := q0
              have q1' : w5.cell? ⟨g5, off + j * 2 + 1, none⟩ = some (.int .i64 (1000 - (j : Int))) := q1
              clear q0 q1
              have i5 : decide ((j : Int) < ((256 : Nat) : Int)) = true := by rw [decide_eq_true_eq]; omega
              go_wp2_with fail
              exact ⟨⟨j + 1, by omega, by go_num, trivial⟩, by simp only [intOf]; omega⟩
            · obtain rfl : j = 256 := by omega
              go_wp2_with fail
              go_ret
              exact ⟨rfl, B5.out⟩
        · have i3 : decide ((k : Int) > 256) = false := by rw [decide_eq_false_iff_not]; omega
          have hw : wideN k = k := by unfold wideN; split <;> omega
          have PF := rfront_any HR.out
          rw [show (⟨1000, k, heldW k⟩ : Rn).held = heldW k from rfl, heldW_srt, heldW_front, hw] at PF
          unfold MoRow at PF
          rw [show ((List.range k).map moW).length = k by rw [List.length_map, List.length_range]] at PF
          have PF := Lib.hid PF
          clear hw
          go_wp2_with fail
          refine PF.out.mono ?_; rintro e w5 ⟨A5, c5, rfl, o5, b5⟩
          have o5' : w5.ownsRow wl.heap.size 61 2 (.slice A5 k c5) k (Prs ((List.range k).map moW)) := o5
          obtain ⟨g5, -, s5, -, -, -, -⟩ := SlP.of_own o5'
          have S5 := Lib.hid s5
          have B5 := Lib.hid (HB.out.trans (b5.mono HB.out.size))
          clear o5 o5' s5 b5
          go_wp2_with fail
          go_loopw [8] (fun i wr => ∃ j : Nat, j ≤ k ∧ i = .int .i64 (j : Int) ∧ w5 = wr) (fun i _ => k - (intOf i).toNat)
          case atStart => exact ⟨0, Nat.zero_le _, rfl, rfl⟩
          case round =>
            obtain ⟨j, hj, rfl, rfl⟩ := hrel
            by_cases hjq : j < k
            · obtain ⟨-, off, rfl, q0, q1⟩ := S5.out.at_ (j := j) (x := moW j) (by rw [List.getElem?_map, List.getElem?_range hjq]; rfl)
              have q0' : w5.cell? ⟨g5, off + j * 2, none⟩ = some (.int .i64 (j : Int)) := q0
              have q1' : w5.cell? ⟨g5, off + j * 2 + 1, none⟩ = some (.int .i64 (1000 - (j : Int))) := q1
              clear q0 q1
              have i5 : decide ((j : Int) < ((k : Nat) : Int)) = true := by rw [decide_eq_true_eq]; omega
              go_wp2_with fail
              exact ⟨⟨j + 1, by omega, by go_num, trivial⟩, by simp only [intOf]; omega⟩
            · obtain rfl : j = k := by omega
              go_wp2_with fail
              go_ret
              exact ⟨rfl, B5.out⟩
  · have go : ∀ a b : Bool, decide (n < 0) = a → decide (n > 400) = b → (a || b) = true →
        Calls Try.prog 8 #[.int .i64 n] w fun e w' => e = .returned (.bool true) ∧ Below w.heap.size w w' := by
      intro a b d1 d2 hh
      clear hr
      go_enter Try.func8, Try.ntmps8
      cases a <;> cases b <;> first | (exact absurd hh (by decide)) | skip
      all_goals
        go_wp2_with fail
        refine (rlives_any _).mono ?_; rintro e w3 ⟨rfl, b3⟩
        have B3 := Lib.hid b3
        clear b3
        go_wp2_with fail
        go_ret
        exact ⟨rfl, B3.out⟩
    refine go _ _ rfl rfl ?_
    simp only [Bool.or_eq_true, decide_eq_true_eq]
    omega
end Go.Proofs.Ytodfpdmmbmbinaa
