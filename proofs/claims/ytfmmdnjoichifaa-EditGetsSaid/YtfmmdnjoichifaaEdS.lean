/- The law EditGets. -/
import Derived.Test.YtfmmdnjoichifaaEdR
namespace Go.Proofs.Ytfmmdnjoichifaa
open Go.RowKit Go.Sort

set_option maxRecDepth 100000 in
set_option maxHeartbeats 8000000 in
theorem edgets_any (A : Option Addr) (g : Nat) (b : List UInt8) (c : Nat) (w : World) (hin : InB w A g b c) :
    Calls Try.prog 5 #[.slice A b.length c] w fun x w' => x = .returned (.bool true) ∧ Below w.heap.size w w' := by
  have S0 := Lib.hid hin.1
  obtain ⟨h, hh⟩ : ∃ h, h = g := ⟨_, rfl⟩
  rw [← hh] at S0
  clear hin hh
  by_cases hbig : b.length ≤ 5000
  · have d1 : decide ((b.length : Int) > 5000) = false := by rw [decide_eq_false_iff_not]; omega
    have PG := Lib.hid (ed_get_any A h b c w S0.out (by omega))
    have PR := Lib.hid (fun W (hW : SlB W h A b) => red_get_any A h b c W hW (by omega))
    have HI := Lib.hid (fun e (h : getM b = some e) => getM_inv h)
    generalize getM b = Z at *
    go_enter Try.func5, Try.ntmps5
    go_wp2_with fail
    refine PG.out.mono ?_; clear PG
    cases Z with
    | none =>
      rintro x w1 (⟨-, rfl, b1⟩ | ⟨e, A1, c1, hz, -⟩)
      rotate_left
      · cases hz
      have bb := below_trans b1 (alloc_below w1 (.cells edZ 50))
      have B1 := Lib.hid bb
      have X1 := Lib.hid (Blk.new w1 50 edZ)
      have S1 := Lib.hid (S0.out.below bb fun h => h)
      clear b1 bb
      unfold edZ at *
      go_wp2_with fail
      refine (PR.out _ S1.out).mono ?_; clear PR
      rintro x w2 (⟨-, rfl, b2⟩ | ⟨e, A1, c1, hz, -⟩)
      rotate_left
      · cases hz
      have bb := below_trans b2 (alloc_below w2 (.cells edZ 50))
      have B2 := Lib.hid (B1.out.trans (bb.mono B1.out.size))
      have X2 := Lib.hid (X1.out.later bb)
      have Y2 := Lib.hid (Blk.new w2 50 edZ)
      clear b2 bb
      unfold edZ at *
      go_wp2_with fail
      refine (elives_any _).mono ?_; rintro x w3 ⟨rfl, b3⟩
      have B3 := Lib.hid (B2.out.trans (b3.mono B2.out.size))
      have X3 := Lib.hid (X2.out.later b3)
      have Y3 := Lib.hid (Y2.out.later b3)
      have x0 := X3.out.cell 0
      have x1 := X3.out.cell 1
      have x2 := X3.out.cell 2
      have x3 := X3.out.cell 3
      have y0 := Y3.out.cell 0
      have y1 := Y3.out.cell 1
      have y2 := Y3.out.cell 2
      have y3 := Y3.out.cell 3
      simp at x0 x1 x2 x3 y0 y1 y2 y3
      have PS := Lib.hid (red_same_any zE zE none none 0 0 0 0 w3 (RfAt.nil _ _ _) (RfAt.nil _ _ _) (by decide) (by decide))
      rw [eqE_yes rfl] at PS
      clear b3
      go_wp2_with fail
      refine PS.out.mono ?_; rintro x w4 ⟨rfl, b4⟩
      have B4 := Lib.hid (B3.out.trans (b4.mono B3.out.size))
      clear b4
      go_wp2
      go_ret
      exact ⟨rfl, B4.out⟩
    | some e =>
      rintro x w1 (⟨hz, -⟩ | ⟨e1, A1, c1, hz, rfl, hr1, b1⟩)
      · cases hz
      injection hz with hz
      subst hz
      obtain ⟨hok, hput⟩ := HI.out e rfl
      have HOK := Lib.hid hok
      have HPUT := Lib.hid hput
      have hlen := okEd_len hok
      have bb := below_trans b1 (alloc_below w1 (.cells (edCs e A1 c1) 50))
      have B1 := Lib.hid bb
      have X1 := Lib.hid (Blk.new w1 50 (edCs e A1 c1))
      have R1 := Lib.hid (hr1.below (alloc_below w1 (.cells (edCs e A1 c1) 50)))
      have S1 := Lib.hid (S0.out.below bb fun h => h)
      clear b1 bb hr1 hok hput HI
      obtain ⟨k, ep, rd, refs⟩ := e
      unfold edV edCs at *
      simp only at *
      go_wp2_with fail
      refine (PR.out _ S1.out).mono ?_; clear PR
      rintro x w2 (⟨hz, -⟩ | ⟨e2, A2, c2, hz, rfl, hr2, b2⟩)
      · cases hz
      injection hz with hz
      subst hz
      have bb := below_trans b2 (alloc_below w2 (.cells (edCs ⟨k, ep, rd, refs⟩ A2 c2) 50))
      have B2 := Lib.hid (B1.out.trans (bb.mono B1.out.size))
      have X2 := Lib.hid (X1.out.later bb)
      have Y2 := Lib.hid (Blk.new w2 50 (edCs ⟨k, ep, rd, refs⟩ A2 c2))
      have R2 := Lib.hid (R1.out.below bb)
      have Q2 := Lib.hid (hr2.below (alloc_below w2 (.cells (edCs ⟨k, ep, rd, refs⟩ A2 c2) 50)))
      have S2 := Lib.hid (S1.out.below bb fun h => h)
      clear b2 bb hr2
      unfold edV edCs at *
      simp only at *
      go_wp2_with fail
      refine (elives_any _).mono ?_; rintro x w3 ⟨rfl, b3⟩
      have B3 := Lib.hid (B2.out.trans (b3.mono B2.out.size))
      have X3 := Lib.hid (X2.out.later b3)
      have Y3 := Lib.hid (Y2.out.later b3)
      have R3 := Lib.hid (R2.out.below b3)
      have Q3 := Lib.hid (Q2.out.below b3)
      have S3 := Lib.hid (S2.out.below b3 fun h => h)
      have x0 := X3.out.cell 0
      have x1 := X3.out.cell 1
      have x2 := X3.out.cell 2
      have x3 := X3.out.cell 3
      have y0 := Y3.out.cell 0
      have y1 := Y3.out.cell 1
      have y2 := Y3.out.cell 2
      have y3 := Y3.out.cell 3
      simp at x0 x1 x2 x3 y0 y1 y2 y3
      have PS := Lib.hid (red_same_any ⟨k, ep, rd, refs⟩ ⟨k, ep, rd, refs⟩ A1 A2 c1 c2 0 0 w3 R3.out Q3.out (by show refs.length ≤ 1000000; omega) (by show refs.length ≤ 1000000; omega))
      rw [eqE_yes rfl] at PS
      unfold edV at PS
      simp only at PS
      clear b3
      go_wp2_with fail
      refine PS.out.mono ?_; rintro x w4 ⟨rfl, b4⟩
      have B4 := Lib.hid (B3.out.trans (b4.mono B3.out.size))
      have X4 := Lib.hid (X3.out.later b4)
      have PP := Lib.hid (ed_put_ok ⟨k, ep, rd, refs⟩ A1 c1 0 w4 (R3.out.below b4) HOK.out)
      unfold PutAns edV at PP
      simp only at PP
      rw [HPUT.out] at PP
      have S4 := Lib.hid (S3.out.below b4 fun h => h)
      clear b4 x0 x1 x2 x3 y0 y1 y2 y3 PS
      have x0 := X4.out.cell 0
      have x1 := X4.out.cell 1
      have x2 := X4.out.cell 2
      have x3 := X4.out.cell 3
      simp at x0 x1 x2 x3
      go_wp2_with fail
      refine PP.out.mono ?_; rintro x w5 ⟨A5, c5, rfl, o5, b5⟩
      have B5 := Lib.hid (B4.out.trans (b5.mono B4.out.size))
      have hc1 := run_convB w5 Try.underlying30 Try.underlying5 Try.underlying9 c5 (own_bytes_reads o5)
      have hc2 := run_convB w5 Try.underlying30 Try.underlying5 Try.underlying9 c ((S4.out.below b5 fun h => h).reads (n := b.length) rfl)
      clear b5 o5 x0 x1 x2 x3
      go_wp2
      go_ret
      exact ⟨rfl, B5.out⟩
  · have d1 : decide ((b.length : Int) > 5000) = true := by rw [decide_eq_true_eq]; omega
    clear hbig
    go_enter Try.func5, Try.ntmps5
    go_wp2_with fail
    refine (elives_any _).mono ?_; rintro x w2 ⟨rfl, b2⟩
    have B2 := Lib.hid b2
    go_wp2_with fail
    go_ret
    exact ⟨rfl, B2.out⟩
end Go.Proofs.Ytfmmdnjoichifaa
