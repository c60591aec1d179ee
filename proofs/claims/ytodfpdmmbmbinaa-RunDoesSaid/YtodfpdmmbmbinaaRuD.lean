/- Runs: All, Take, At, Keep; a nil run. -/
import Derived.Test.YtodfpdmmbmbinaaRuB
namespace Go.Proofs.Ytodfpdmmbmbinaa
open Go.RowKit Go.Sort

section
variable {w w' w1 : World} {base r : Nat} {hb : Option Nat} {R : Rn}
theorem filter_true (l : List En) : l.filter (fun _ => true) = l := List.filter_eq_self.2 fun _ _ => rfl
theorem filter_false (l : List En) : l.filter (fun _ => false) = [] := List.filter_eq_nil_iff.2 fun _ _ h => by cases h
theorem rall_any (h : RunR w base r hb R) : Calls Try.prog 37 #[ptR r] w (SrtRow w (srtE R.held)) := by
  have P := Lib.hid (sorted_any h (fun _ => true) 73 #[] #[] (enters_of Try.func73 (by kernel_rfl) rfl) (all1_any w))
  rw [filter_true] at P
  clear h
  generalize srtE R.held = l at *
  go_enter Try.func37, Try.ntmps37
  go_wp2_with fail
  refine P.out.mono ?_; rintro e w1 ⟨A, c, rfl, hr⟩
  have HR := Lib.hid hr
  clear hr
  go_wp2_with fail
  go_ret
  exact ⟨A, c, rfl, HR.out⟩
theorem rat_any (h : RunR w base r hb R) (m : Int × Int) : Calls Try.prog 45 #[ptR r, .agg #[.int .i64 m.1, .int .i64 m.2]] w (SrtRow w (srtE (R.held.filter fun x => x.1 == m))) := by
  have b1 := alloc_below w (.cells #[.int .i64 m.1, .int .i64 m.2] 61)
  have P := Lib.hid (sorted_any (h.below b1) (fun x => x.1 == m) 80 #[.agg #[.int .i64 m.1, .int .i64 m.2]] #[] (enters_of Try.func80 (by kernel_rfl) rfl) (of_any m _))
  have B1 := Lib.hid b1
  clear h b1
  generalize srtE (R.held.filter fun x => x.1 == m) = l at *
  go_enter Try.func45, Try.ntmps45
  go_wp2_with fail
  refine P.out.mono ?_; rintro e w1 ⟨A, c, rfl, hr⟩
  have HR := Lib.hid (rowE_mono B1.out hr)
  clear hr
  go_wp2_with fail
  go_ret
  exact ⟨A, c, rfl, HR.out⟩
theorem rkp_any (h : RunR w base r hb R) (F : Option Addr) (hf : Nat) (f : List (Int × Int)) (cf : Nat) (hF : SlP w hf F f) (hbig : f.length ≤ 9223372036854775807) (hbase : base ≤ w.heap.size) :
    Calls Try.prog 46 #[ptR r, .slice F f.length cf] w fun e w' => e = .returned (.int .i64 ((R.held.length : Int) - ((R.held.filter fun x => f.any fun y => aheadM y x.1).length : Int))) ∧
      ∃ hb', RunR w' base r hb' { R with held := R.held.filter fun x => f.any fun y => aheadM y x.1 } ∧ RF r hb w w' ∧ ∀ k, hb' = some k → w.heap.size ≤ k := by
  have b1 := alloc_below w (.cells #[.slice F f.length cf] 66)
  have P := Lib.hid (rkeep_any (h.below b1) (fun x => f.any fun y => aheadM y x.1) 81 #[] #[.pointer (some ⟨w.heap.size, 0, none⟩)] (enters_of Try.func81 (by kernel_rfl) rfl)
    (keep1_any F hf f cf w.heap.size _ (hF.below b1) hbig (by simp) (by simp)) (Nat.le_trans hbase b1.size))
  have B1 := Lib.hid b1
  clear h b1 hF
  generalize (R.held.filter fun x => f.any fun y => aheadM y x.1) = l at *
  go_enter Try.func46, Try.ntmps46
  go_wp2_with fail
  refine P.out.mono ?_; rintro e w1 ⟨rfl, hb', h1, h2, h3⟩
  have H1 := Lib.hid h1
  have H2 := Lib.hid h2
  have H3 := Lib.hid h3
  clear h1 h2 h3
  go_wp2_with fail
  go_ret
  refine ⟨rfl, hb', H1.out, ⟨H2.out.1.trans B1.out.os, H2.out.2.1.trans B1.out.tape, H2.out.2.2.1.trans B1.out.output, Nat.le_trans B1.out.size H2.out.size, fun k hk hkr hkb => (H2.out.2.2.2.2 k (Nat.lt_of_lt_of_le hk B1.out.size) hkr hkb).trans (B1.out.block k hk)⟩, fun k hk => Nat.le_trans B1.out.size (H3.out k hk)⟩
theorem rtake_any (h : RunR w base r hb R) (hbase : base ≤ w.heap.size) : Calls Try.prog 44 #[ptR r] w fun e w' => ∃ A c, e = .returned (.slice A R.held.length c) ∧ (∃ g, SlK encE w' g A (srtE R.held) ∧ (R.held ≠ [] → w.heap.size ≤ g)) ∧ (R.held ≠ [] → R.held.length ≤ c ∧ c ≤ maxLen) ∧
      ∃ hb', RunR w' base r hb' { R with held := [] } ∧ RF r hb w w' ∧ ∀ k, hb' = some k → w.heap.size ≤ k := by
  have P := Lib.hid (rall_any h)
  have H := Lib.hid h
  have HB := Lib.hid hbase
  obtain ⟨hb0, hb1, hb2⟩ := h.base_le
  have HB0 := Lib.hid hb0
  have HB1 := Lib.hid hb1
  have HB2 := Lib.hid hb2
  clear h hbase hb0 hb1 hb2
  go_enter Try.func44, Try.ntmps44
  go_wp2_with fail
  refine P.out.mono ?_; rintro e w1 ⟨A, c, rfl, ⟨g, hs⟩, hbl, hn⟩
  rw [srtE_length]
  have HS := Lib.hid hs
  have HN := Lib.hid hn
  have B1 := Lib.hid hbl
  have PK := Lib.hid (rkeep_any (H.out.below hbl) (fun _ => false) 79 #[] #[] (enters_of Try.func79 (by kernel_rfl) rfl) (take1_any w1) (Nat.le_trans HB.out hbl.size))
  rw [filter_false] at PK
  clear hs hn hbl
  go_wp2_with fail
  refine PK.out.mono ?_; rintro e w2 ⟨rfl, hb', h1, h2, h3⟩
  have H1 := Lib.hid h1
  have H2 := Lib.hid h2
  have H3 := Lib.hid h3
  clear h1 h2 h3
  go_wp2_with fail
  go_ret
  have hfar : R.held ≠ [] → ∃ g', A = some ⟨g', 0, none⟩ ∧ w.heap.size ≤ g' ∧ R.held.length ≤ c ∧ c ≤ maxLen := fun he => by
    obtain ⟨g', e1, e2, e3, e4⟩ := HN.out (fun e => he (by have := srtE_length R.held; rw [e] at this; exact List.length_eq_zero_iff.1 this.symm))
    exact ⟨g', e1, e2, by rw [srtE_length] at e3; exact e3, e4⟩
  refine ⟨A, c, rfl, ?_, fun he => ?_, hb', H1.out, ⟨H2.out.1.trans B1.out.os, H2.out.2.1.trans B1.out.tape, H2.out.2.2.1.trans B1.out.output, Nat.le_trans B1.out.size H2.out.size, fun k hk hkr hkb => (H2.out.2.2.2.2 k (Nat.lt_of_lt_of_le hk B1.out.size) hkr hkb).trans (B1.out.block k hk)⟩, fun k hk => Nat.le_trans B1.out.size (H3.out k hk)⟩
  · by_cases he : R.held = []
    · refine ⟨g, ?_, fun h => absurd he h⟩
      rw [he, srtE_short (by decide)]
      exact SlK.nil _ _ _
    · obtain ⟨g', e1, e2, -⟩ := hfar he
      subst e1
      have hs : SlK encE w1 g' (some ⟨g', 0, none⟩) (srtE R.held) := by
        intro hl
        obtain ⟨h1, off, e, h3⟩ := HS.out hl
        injection e with e
        injection e with e4 e5
        subst e4
        subst e5
        exact ⟨h1, 0, rfl, h3⟩
      refine ⟨g', hs.keep H2.out.size fun hg => H2.out.2.2.2.2 g' hg ?_ ?_, fun _ => e2⟩
      · have := HB2.out
        omega
      · intro e
        have := (HB1.out g' e.symm).2
        omega
  · obtain ⟨g', -, -, e3⟩ := hfar he
    exact e3
theorem some_nil (w : World) (fv : Value) : Calls Try.prog 90 #[.pointer none, fv] w fun e w' => e = .returned (.slice none 0 0) ∧ w = w' := by
  go_enter Try.func90, Try.ntmps90
  go_wp2_with fail
  refine (rununmade_nil _).mono ?_; rintro e w' ⟨rfl, rfl⟩
  go_wp2
  go_ret
  exact ⟨rfl, rfl⟩
/-- No entries. -/
def NoEn (w : World) (e : Ending) (w' : World) : Prop := ∃ A c, e = .returned (.slice A 0 c) ∧ Below w.heap.size w w'
theorem sorted_nil (w : World) (fv : Value) : Calls Try.prog 72 #[.pointer none, fv] w (NoEn w) := by
  have P := Lib.hid (some_nil w fv)
  have P2 := Lib.hid (en_sort_any none 0 [] 0 w (SlK.nil _ _ _) (by decide))
  have HM := Lib.hid (mayEs_of (l := []) (fun x hx => by cases hx) (by decide))
  go_enter Try.func72, Try.ntmps72
  go_wp2_with fail
  refine P.out.mono ?_; rintro e w' ⟨rfl, rfl⟩
  go_wp2_with fail
  refine P2.out.mono ?_
  rintro e w2 (⟨hc, -, -⟩ | ⟨-, A2, c2, rfl, hr⟩)
  · exact absurd HM.out hc
  · have HR := Lib.hid hr.2.1
    clear hr
    go_wp2_with fail
    go_ret
    exact ⟨A2, c2, rfl, HR.out⟩
theorem rall_nil (w : World) : Calls Try.prog 37 #[.pointer none] w (NoEn w) := by
  have P := Lib.hid (sorted_nil w)
  go_enter Try.func37, Try.ntmps37
  go_wp2_with fail
  refine (P.out _).mono ?_; rintro e w1 ⟨A, c, rfl, hr⟩
  have HR := Lib.hid hr
  clear hr
  go_wp2_with fail
  go_ret
  exact ⟨A, c, rfl, HR.out⟩
theorem rat_nil (w : World) (m : Int × Int) : Calls Try.prog 45 #[.pointer none, .agg #[.int .i64 m.1, .int .i64 m.2]] w (NoEn w) := by
  have P := Lib.hid (sorted_nil (w.alloc (.cells #[.int .i64 m.1, .int .i64 m.2] 61)))
  have B1 := Lib.hid (alloc_below w (.cells #[.int .i64 m.1, .int .i64 m.2] 61))
  go_enter Try.func45, Try.ntmps45
  go_wp2_with fail
  refine (P.out _).mono ?_; rintro e w1 ⟨A, c, rfl, hr⟩
  have HR := Lib.hid hr
  clear hr
  go_wp2_with fail
  go_ret
  exact ⟨A, c, rfl, below_trans B1.out HR.out⟩
theorem rkeep_nil (w : World) (fv : Value) : Calls Try.prog 78 #[.pointer none, fv] w fun e w' => e = .returned (.int .i64 0) ∧ w = w' := by
  go_enter Try.func78, Try.ntmps78
  go_wp2_with fail
  refine (rununmade_nil _).mono ?_; rintro e w' ⟨rfl, rfl⟩
  go_wp2
  go_ret
  exact ⟨rfl, rfl⟩
theorem rkp_nil (w : World) (F : Option Addr) (n c : Nat) : Calls Try.prog 46 #[.pointer none, .slice F n c] w fun e w' => e = .returned (.int .i64 0) ∧ Below w.heap.size w w' := by
  have B1 := Lib.hid (alloc_below w (.cells #[.slice F n c] 66))
  go_enter Try.func46, Try.ntmps46
  go_wp2_with fail
  refine (rkeep_nil _ _).mono ?_; rintro e w' ⟨rfl, rfl⟩
  go_wp2
  go_ret
  exact ⟨rfl, B1.out⟩
theorem rtake_nil (w : World) : Calls Try.prog 44 #[.pointer none] w (NoEn w) := by
  have P := Lib.hid (rall_nil w)
  go_enter Try.func44, Try.ntmps44
  go_wp2_with fail
  refine P.out.mono ?_; rintro e w1 ⟨A, c, rfl, hr⟩
  have HR := Lib.hid hr
  clear hr
  go_wp2_with fail
  refine (rkeep_nil _ _).mono ?_; rintro e w' ⟨rfl, rfl⟩
  go_wp2_with fail
  go_ret
  exact ⟨A, c, rfl, HR.out⟩
theorem radd_nil (w : World) (x : En) : Calls Try.prog 42 #[.pointer none, enV x] w fun e w' => e = .returned (.int .i64 6) ∧ Below w.heap.size w w' := by
  have B1 := Lib.hid (alloc_below w (.cells (encE x).toArray 65))
  unfold enV
  go_enter Try.func42, Try.ntmps42
  go_wp2_with fail
  refine (rununmade_nil _).mono ?_; rintro e w' ⟨rfl, rfl⟩
  go_wp2
  go_ret
  exact ⟨rfl, B1.out⟩
theorem rfront_nil (w : World) : Calls Try.prog 40 #[.pointer none] w (NoEn w) := by
  have P := Lib.hid (rall_nil w)
  go_enter Try.func40, Try.ntmps40
  go_wp2_with fail
  refine P.out.mono ?_; rintro e w1 ⟨A, c, rfl, hr⟩
  have HR := Lib.hid hr
  clear hr
  go_wp2_with fail
  go_loopw [3, 9] (fun f i wr => f = .slice none 0 0 ∧ i = .int .i64 0 ∧ w1 = wr) (fun _ _ _ => 0)
  case atStart => exact ⟨rfl, rfl, rfl⟩
  case round =>
    obtain ⟨rfl, rfl, rfl⟩ := hrel
    go_wp2_with fail
    go_ret
    exact ⟨none, 0, rfl, HR.out⟩
end
end Go.Proofs.Ytodfpdmmbmbinaa
