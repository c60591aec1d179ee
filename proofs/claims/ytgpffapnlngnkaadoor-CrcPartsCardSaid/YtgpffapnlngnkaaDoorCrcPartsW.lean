/- The walk of the law CrcParts. -/
import Derived.Test.YtgpffapnlngnkaaDoorCrcZerosW
import Derived.Test.YtgpffapnlngnkaaDoorOp
namespace Go.Proofs.YtgpffapnlngnkaaDoor
open Go.RowKit

theorem moreM_append (s : Nat) (a b : List UInt8) : moreM (moreM s a) b = moreM s (a ++ b) := by
  unfold moreM
  rw [notM_notM, regM_append]
theorem moreM_step (l : List UInt8) (at_ z : Nat) : moreM (moreM 0 (l.take at_)) ((l.drop at_).take z) = moreM 0 (l.take (at_ + z)) := by
  rw [moreM_append, List.take_add]
theorem SlI.keep2 {w w' : World} {g : Nat} {A : Option Addr} {l : List Int} (s : SlI w g A l) (h : w'.heap[g]? = w.heap[g]?) : SlI w' g A l := fun hl => by
  obtain ⟨ad, e, hb, hc⟩ := s hl
  exact ⟨ad, e, hb, fun j b hj => (World.cell?_of_block (by rw [block_of_add, hb]; exact h)).trans (hc j b hj)⟩
theorem part_more (_A : Option Addr) (g : Nat) (l : List UInt8) (t y : Nat) (w : World) (hh : HalvesAt w) (hy : t + y ≤ l.length) (A' : Option Addr) (c' : Nat) (h1 : SlB w g A' ((l.drop t).take y)) (h2 : y ≤ c') (h3 : c' ≤ maxLen) :
    Calls Tryd.prog 14 #[.int .u32 (moreM 0 (l.take t) : Int), .slice A' y c'] w fun e w' => e = .returned (.int .u32 (moreM 0 (l.take (t + y)) : Int)) ∧ w = w' := by
  have hlen : ((l.drop t).take y).length = y := by rw [List.length_take, List.length_drop]; omega
  have h := more_any (moreM 0 (l.take t)) A' g ((l.drop t).take y) c' w (moreM_lt _ (by decide)) hh h1 (by rw [hlen]; exact h2) h3
  rw [hlen, moreM_step] at h
  exact h
set_option maxRecDepth 100000 in
set_option maxHeartbeats 1000000 in
theorem parts_in (A B : Option Addr) (g gq : Nat) (l : List UInt8) (q : List Int) (c cq : Nat) (w : World) (hin : InB w A g l c) (hq : InI w B gq q cq) (hl : l.length ≤ 2000) (hql : q.length ≤ 20) (hh : HalvesAt w) :
    Calls Tryd.prog 7 #[.slice A l.length c, .slice B q.length cq] w (LawPost w) := by
  obtain ⟨hs, hlc, hc⟩ := hin
  obtain ⟨hsq, hqc, hqm, hwf, -⟩ := hq
  have hcm := hc
  unfold maxLen at hc hqm
  have d1 : decide (2000 < l.length) = false := by simp; omega
  have d2 : decide (20 < q.length) = false := by simp; omega
  have HS := Lib.hid hs
  have HQ := Lib.hid hsq
  have HW := Lib.hid hwf
  have HH := Lib.hid hh
  have HCM := Lib.hid hcm
  clear hs hsq hwf hh hcm
  go_enter Tryd.func7, Tryd.ntmps7
  go_wp2_with fail
  go_loop [5, 6, 7] (fun S T i => ∃ k t : Nat, k ≤ q.length ∧ t ≤ l.length ∧ i = .int .i64 (k : Int) ∧ T = .int .i64 (t : Int) ∧ S = .int .u32 (moreM 0 (l.take t) : Int)) (fun _ _ i => q.length - (intOf i).toNat)
  case atStart => exact ⟨0, 0, Nat.zero_le _, Nat.zero_le _, rfl, rfl, by rw [List.take_zero]; rfl⟩
  case round =>
    obtain ⟨k, t, hk, ht, rfl, rfl, rfl⟩ := hrel
    by_cases hlt : k < q.length
    · obtain ⟨ad, hB, hadb, hcell⟩ := HQ.out (fun e => by rw [e] at hlt; simp at hlt)
      subst hB
      have hc0 := hcell k q[k] (List.getElem?_eq_getElem hlt)
      have hw := HW.out q[k] (List.getElem_mem hlt)
      clear hcell
      generalize q[k] = z at hc0 hw
      by_cases hz : z < 0
      · have d3 : decide (z < 0) = true := by simpa using hz
        go_wp2
        exact ⟨⟨k + 1, t, by omega, ht, by go_num, rfl, rfl⟩, by simp [intOf]; omega⟩
      · have d3 : decide (z < 0) = false := by simpa using hz
        by_cases hz2 : (l.length : Int) - t < z
        · have d4 : decide ((l.length : Int) - (t : Int) < z) = true := by simpa using hz2
          go_wp2
          exact ⟨⟨k + 1, t, by omega, ht, by go_num, rfl, rfl⟩, by simp [intOf]; omega⟩
        · have d4 : decide ((l.length : Int) - (t : Int) < z) = false := by simpa using hz2
          obtain ⟨y, rfl⟩ := Int.eq_ofNat_of_zero_le (show 0 ≤ z by omega)
          have hy : t + y ≤ l.length := by omega
          have PM := Lib.hid (part_more A g l t y w HH.out hy)
          have HD := Lib.hid (HS.out.drop (k := t) hlc)
          go_wp2_with fail
          · have hct : c = t := by assumption
            subst hct
            have hy0 : y = 0 := by omega
            subst hy0
            refine (PM.out A 0 (by rw [List.take_zero]; exact SlB.nil _ _ _) (Nat.le_refl _) (by decide)).mono ?_; rintro e w' ⟨rfl, rfl⟩
            go_wp2
            exact ⟨⟨k + 1, c, by omega, ht, by go_num, rfl, rfl⟩, by simp [intOf]; omega⟩
          · have hct : ¬ c = t := by assumption
            refine (PM.out _ (c - t) (by have := HD.out.take y; unfold cutA at this; rw [if_neg hct] at this; exact this) (by omega) (by unfold maxLen; omega)).mono ?_; rintro e w' ⟨rfl, rfl⟩
            go_wp2
            exact ⟨⟨k + 1, t + y, by omega, hy, by go_num, by go_num, rfl⟩, by simp [intOf]; omega⟩
    · obtain rfl : k = q.length := by omega
      go_wp2_with fail
      refine (lives_any _ HH.out).mono ?_; rintro e w1 ⟨rfl, b1⟩
      have HH1 := Lib.hid (HH.out.below b1 HH.out.pos)
      have hs1 := HS.out.below b1 fun h => h
      have hy : t + (l.length - t) ≤ l.length := by omega
      have PM := Lib.hid (part_more A g l t (l.length - t) w1 HH1.out hy)
      rw [show t + (l.length - t) = l.length by omega, List.take_length] at PM
      have PS := Lib.hid (sum_any A g l c w1 HH1.out hs1 hlc HCM.out)
      have HD := Lib.hid (hs1.drop (k := t) hlc)
      have B1 := Lib.hid b1
      clear hs1 b1 hy
      go_wp2_with fail
      · have hct : c = t := by assumption
        subst hct
        refine (PM.out A 0 (by rw [show l.length - c = 0 by omega, List.take_zero]; exact SlB.nil _ _ _) (by omega) (by decide)).mono ?_; rintro e w' ⟨rfl, rfl⟩
        go_wp2_with fail
        refine PS.out.mono ?_; rintro e w' ⟨rfl, rfl⟩
        go_wp2
        go_ret
        exact ⟨rfl, B1.out⟩
      · have hct : ¬ c = t := by assumption
        refine (PM.out _ (c - t) (by have := HD.out.take (l.length - t); unfold cutA at this; rw [if_neg hct] at this; exact this) (by omega) (by unfold maxLen; omega)).mono ?_; rintro e w' ⟨rfl, rfl⟩
        go_wp2_with fail
        refine PS.out.mono ?_; rintro e w' ⟨rfl, rfl⟩
        go_wp2
        go_ret
        exact ⟨rfl, B1.out⟩
set_option maxHeartbeats 400000 in
theorem parts_law (A B : Option Addr) (g gq : Nat) (l : List UInt8) (q : List Int) (c cq : Nat) (w : World) (hin : InB w A g l c) (hq : InI w B gq q cq) (hh : HalvesAt w) :
    Calls Tryd.prog 7 #[.slice A l.length c, .slice B q.length cq] w (LawPost w) := by
  have hlm : l.length ≤ 9223372036854775807 := Nat.le_trans hin.2.1 hin.2.2
  have hqm : q.length ≤ 9223372036854775807 := Nat.le_trans hq.2.1 hq.2.2.1
  by_cases h1 : 2000 < l.length
  · have d1 : decide ((2000 : Int) < (l.length : Int)) = true := by simp; omega
    have HH := Lib.hid hh
    clear hh hin hq
    go_enter Tryd.func7, Tryd.ntmps7
    go_wp2_with fail
    refine (lives_any _ HH.out).mono ?_; rintro e w1 ⟨rfl, b1⟩
    go_wp2
    go_ret
    exact ⟨rfl, b1⟩
  · by_cases h2 : 20 < q.length
    · have d1 : decide ((2000 : Int) < (l.length : Int)) = false := by simp; omega
      have d2 : decide ((20 : Int) < (q.length : Int)) = true := by simp; omega
      have HH := Lib.hid hh
      clear hh hin hq
      go_enter Tryd.func7, Tryd.ntmps7
      go_wp2_with fail
      refine (lives_any _ HH.out).mono ?_; rintro e w1 ⟨rfl, b1⟩
      go_wp2
      go_ret
      exact ⟨rfl, b1⟩
    · exact parts_in A B g gq l q c cq w hin hq (by omega) (by omega) hh
end Go.Proofs.YtgpffapnlngnkaaDoor
