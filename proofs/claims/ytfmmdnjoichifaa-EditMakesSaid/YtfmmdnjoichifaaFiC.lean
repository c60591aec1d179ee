/- Contracts of a disk: New, Stop, and how a deed is done. -/
import Derived.Test.YtfmmdnjoichifaaFiB
namespace Go.Proofs.Ytfmmdnjoichifaa
open Go.RowKit Go.Sort

theorem gr_set (w : World) (g j : Nat) (v : Value) : w.grownBy (w.setCell ⟨g, j, none⟩ v) (some g) :=
  ⟨rfl, rfl, rfl, by simp, fun k _ hk => heap_setCell_other w ⟨g, j, none⟩ k v (fun e => hk (by simp [e]))⟩
theorem gr_trans {a b c : World} {row : Option Nat} (h : a.grownBy b row) (k : b.grownBy c row) : a.grownBy c row :=
  ⟨k.os.trans h.os, k.tape.trans h.tape, k.output.trans h.output, Nat.le_trans h.size k.size, fun i hi hne => (k.block i (Nat.lt_of_lt_of_le hi h.size) hne).trans (h.block i hi hne)⟩
section
variable {w w' : World} {base d m : Nat} {D : Dk}
/-- The disk's own cells are written. -/
theorem DiskR.setTop (h : DiskR w base d m D) {off' stops' : Bool} {others' : Int} (hg : w.grownBy w' (some d)) (ho : 0 ≤ others' ∧ others' < 9223372036854775808)
    (hb : ∀ pA pc, Blk w d 80 #[.int .i64 D.limit, .map (some m), .slice pA D.pend.length pc, .bool D.off, .bool D.stops, .int .i64 D.others] → Blk w' d 80 #[.int .i64 D.limit, .map (some m), .slice pA D.pend.length pc, .bool off', .bool stops', .int .i64 others']) :
    DiskR w' base d m { D with off := off', stops := stops', others := others' } ∧ DF base m w w' := by
  obtain ⟨h1, h2, h3, ⟨pA, pc, h4, h5⟩, ⟨role, h6⟩, h7, h8, h9, h10⟩ := h
  refine ⟨⟨h1, h2, h3.kept hg (fun e => ?_), ⟨pA, pc, hb pA pc h4, h5.kept hg (.inr fun e => ?_)⟩, ⟨role, fun f hf => ?_⟩, h7, h8, h9, ⟨h10.1, h10.2.1, ho.1, ho.2, h10.2.2.2.2⟩⟩, DF.of_grown hg fun g hgd => ?_⟩
  · injection e with e
    exact map_ne_blk h3 h4 e.symm
  · exact own_ne_blk h5 h4 (by decide) e
  · obtain ⟨nA, nc, kA, kc, hb', -⟩ := h6 f hf
    exact (h6 f hf).kept hg (fun e => by injection e with e; exact Blk.ne_ hb' h4 (by decide) e.symm) fun g hgd => by
      injection hgd with hgd
      subst hgd
      exact .inl ⟨_, _, h4, by decide⟩
  · injection hgd with hgd
    subst hgd
    exact ⟨h1, dty_blk h4 (.inl rfl)⟩
theorem stop_ok (h : DiskR w base d m D) (n : Int) (h0 : 0 ≤ n) (h1 : n < 9223372036854775808) : Calls Try.prog 44 #[ptD d, .int .i64 n] w fun e w' => e = .returned (.int .i64 0) ∧ DiskR w' base d m { D with off := D.off, stops := true, others := n } ∧ DF base m w w' := by
  have P1 := Lib.hid (unmade_any h)
  have HT := Lib.hid (h.setTop (off' := D.off) (stops' := true) (others' := n) (gr_trans (gr_set w d 4 (.bool true)) (gr_set _ d 5 (.int .i64 n))) ⟨h0, h1⟩ fun pA pc hb => (hb.set_ 4 _).set_ 5 _)
  obtain ⟨pA, pc, hb, -⟩ := h.top
  have c4 := hb.cell 4
  have c5 := hb.cell 5
  have f4 := hb.frozen 4
  have f5 := hb.frozen 5
  have d1 : decide (n < 0) = false := by rw [decide_eq_false_iff_not]; omega
  clear h hb
  go_enter Try.func44, Try.ntmps44
  go_wp2_with fail
  refine P1.out.mono ?_; rintro e w' ⟨rfl, rfl⟩
  go_wp2
  go_ret
  exact ⟨rfl, HT.out⟩
theorem stop_nil (w : World) (n : Value) : Calls Try.prog 44 #[.pointer none, n] w fun e w' => e = .returned (.int .i64 6) ∧ w = w' := by
  go_enter Try.func44, Try.ntmps44
  go_wp2_with fail
  refine (unmade_nil _).mono ?_; rintro e w' ⟨rfl, rfl⟩
  go_wp2
  go_ret
  exact ⟨rfl, rfl⟩
/-- One deed less is to be done. -/
def tick (D : Dk) : Dk := { D with off := D.off, stops := D.stops, others := if D.stops then D.others - 1 else D.others }
/-- The power does not go at this deed. -/
def goes (D : Dk) : Prop := ¬ (D.stops = true ∧ D.others = 0)
theorem deed_go (h : DiskR w base d m D) (hgo : goes D) (g : Nat) (lb : Array Value) (eg : ∀ args w, (callFunc g args).run Try.prog w = .ok (.enter g args) w) (Q : World → Prop)
    (hc : ∀ w1, DiskR w1 base d m (tick D) → DF base m w w1 → Calls Try.prog g lb w1 fun e w' => e = .returned (.tuple #[]) ∧ Q w') :
    Calls Try.prog 49 #[ptD d, .func (.func g) #[] lb] w fun e w' => e = .returned (.int .i64 0) ∧ Q w' := by
  have HC := Lib.hid hc
  have H := Lib.hid h
  obtain ⟨pA, pc, hb, -⟩ := h.top
  have c4 := hb.cell 4
  have c5 := hb.cell 5
  have f5 := hb.frozen 5
  have hlim := h.lim
  cases hs : D.stops with
  | false =>
    have hw := hc w (by have e : tick D = D := by { unfold tick; rw [hs]; cases D; simp only at hs; subst hs; rfl }; rw [e]; exact h) (DF.refl _)
    have P2 := Lib.hid hw
    simp only [hs] at c4
    clear h hb hgo hlim hw hc hs c5 f5 HC H
    go_enter Try.func49, Try.ntmps49
    go_wp2_with fail
    refine P2.out.mono ?_; rintro e w' ⟨rfl, hq⟩
    have HQ := Lib.hid hq
    clear hq
    go_wp2
    go_ret
    exact ⟨rfl, HQ.out⟩
  | true =>
    have hne : D.others ≠ 0 := fun e => hgo ⟨hs, e⟩
    obtain ⟨k1, k2⟩ := h.setTop (off' := D.off) (stops' := D.stops) (others' := D.others - 1) (gr_set w d 5 (.int .i64 (D.others - 1))) (by omega) fun pA pc hb => hb.set_ 5 _
    have hw := hc _ (by have e : tick D = { D with off := D.off, stops := D.stops, others := D.others - 1 } := by { unfold tick; rw [hs]; rfl }; rw [e]; exact k1) k2
    have P2 := Lib.hid hw
    simp only [hs] at c4
    have d1 : (D.others == 0) = false := by rw [beq_eq_false_iff_ne]; exact hne
    have b1 : 0 ≤ D.others - 1 := by omega
    have b2 : D.others ≤ 9223372036854775807 := by omega
    clear h hb hgo hlim hw hc hs HC H k1 k2 hne
    go_enter Try.func49, Try.ntmps49
    go_wp2_with fail
    refine P2.out.mono ?_; rintro e w' ⟨rfl, hq⟩
    have HQ := Lib.hid hq
    clear hq
    go_wp2
    go_ret
    exact ⟨rfl, HQ.out⟩
/-- The power goes at this deed. -/
theorem deed_off (h : DiskR w base d m D) (hs : D.stops = true) (ho : D.others = 0) (g : Nat) (lb : Array Value) :
    Calls Try.prog 49 #[ptD d, .func (.func g) #[] lb] w fun e w' => e = .returned (.int .i64 50) ∧ DiskR w' base d m { D with off := true, stops := D.stops, others := D.others } ∧ DF base m w w' := by
  have HT := Lib.hid (h.setTop (off' := true) (stops' := D.stops) (others' := D.others) (gr_set w d 3 (.bool true)) (by have := h.lim; omega) fun pA pc hb => hb.set_ 3 _)
  obtain ⟨pA, pc, hb, -⟩ := h.top
  have c4 := hb.cell 4
  have c5 := hb.cell 5
  have f3 := hb.frozen 3
  have c3 := hb.cell 3
  simp only [hs] at c4
  simp only [ho] at c5
  clear h hb hs ho
  go_enter Try.func49, Try.ntmps49
  go_wp2
  go_ret
  exact ⟨rfl, HT.out⟩
/-- A disk without files. -/
def newD (lim : Int) : Dk := ⟨lim, [], [], false, false, 0⟩
theorem new_ok (lim : Int) (w : World) (base : Nat) (hb : base ≤ w.heap.size) (h0 : 0 ≤ lim) (h1 : lim ≤ 16384) :
    Calls Try.prog 9 #[.int .i64 lim] w fun e w' => ∃ d m, e = .returned (.tuple #[ptD d, .int .i64 0]) ∧ DiskR w' base d m (newD lim) ∧ w.heap.size ≤ d ∧ w.heap.size ≤ m ∧ Below w.heap.size w w' := by
  have d1 : decide (lim < 0) = false := by rw [decide_eq_false_iff_not]; omega
  have d2 : decide ((16384 : Int) < lim) = false := by rw [decide_eq_false_iff_not]; omega
  have hmm := @run_makeMap Try.prog
  have HM := Lib.hid (MapR.made w)
  have B1 := Lib.hid (al_below w (.map #[] 0))
  have HB := Lib.hid (Blk.new (w.alloc (.map #[] 0)) 80 #[.int .i64 lim, .map (some w.heap.size), .slice none 0 0, .bool false, .bool false, .int .i64 0])
  have B2 := Lib.hid (al_below (w.alloc (.map #[] 0)) (.cells #[.int .i64 lim, .map (some w.heap.size), .slice none 0 0, .bool false, .bool false, .int .i64 0] 80))
  go_enter Try.func9, Try.ntmps9
  go_wp2
  go_ret2
  have hb2 := HB.out
  rw [World.size_alloc] at hb2
  refine ⟨w.heap.size + 1, w.heap.size, rfl, ⟨by omega, hb, HM.out.below B2.out, ⟨none, 0, hb2, own_nil_k layWr _ _ _⟩, ⟨fun _ => 0, fun f hf => by cases hf⟩, fun p hp => by (cases hp), List.Pairwise.nil, fun f hf => by (cases hf), h0, h1, Int.le_refl _, by show (0 : Int) < _; decide, Nat.zero_le _⟩, by omega, Nat.le_refl _, below_trans B1.out B2.out⟩
theorem new_no (lim : Int) (w : World) (h : lim < 0 ∨ 16384 < lim) : Calls Try.prog 9 #[.int .i64 lim] w fun e w' => e = .returned (.tuple #[.pointer none, .int .i64 1]) ∧ w = w' := by
  by_cases h0 : lim < 0
  · have d1 : decide (lim < 0) = true := by rw [decide_eq_true_eq]; exact h0
    go_enter Try.func9, Try.ntmps9
    go_wp2
    go_ret2
    exact ⟨rfl, rfl⟩
  · have d1 : decide (lim < 0) = false := by rw [decide_eq_false_iff_not]; omega
    have d2 : decide ((16384 : Int) < lim) = true := by rw [decide_eq_true_eq]; omega
    go_enter Try.func9, Try.ntmps9
    go_wp2
    go_ret2
    exact ⟨rfl, rfl⟩
end
end Go.Proofs.Ytfmmdnjoichifaa
