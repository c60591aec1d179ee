/- The walk of the law PageRows. -/
import Derived.Test.YtfilelgbffbnlaaDoorPgK
import Derived.Test.YtfilelgbffbnlaaDoorOp
import Derived.Deep.Slices
namespace Go.Proofs.YtfilelgbffbnlaaDoor
open Go.ChangeShapes Go.WideShapes Go.ChangeAt Go.RowKit Go.ChangeMaps

/-- What is known of a slice of slices that came in. -/
def InS (w : World) (A : Option Addr) (xs : List SlT) (c : Nat) : Prop := Reads w w.heap.size 1 A xs.length (xs.map encSl) ∧ xs.length ≤ c ∧ c ≤ maxLen
section
variable {H : Type} {enc : TypeId × Value → H} {P : Program} {w : World} {spare : Nat → Bool}
theorem open_slices {t e e2 : TypeId} {r : Reach} {b0 : Nat} {v : Value} {d : DataW H} {ps : List MemPlace} (ht : P.underlying t = some (.slice e)) (he : P.underlying e = some (.slice e2)) (hc : P.cellsOf e = 1)
    (hval : Value.okWide P w r b0 t v) (hd : DataW.Trod enc P w 0 spare true t v d ps) : ∃ A xs c, v = .slice A xs.length c ∧ InS w A xs c := by
  obtain ⟨a0, len0, cap0, rfl⟩ := okWide_slice ht hval
  obtain ⟨fuel, hf⟩ := hd
  rcases Go.Deep.open_slice1 ht hc hf with ⟨hcs, -⟩ | ⟨a, len, cap, m, n, V, D, Pl, hcs, -, hl, hm, hmm, -, hx⟩
  · simp [Value.cells] at hcs
    obtain ⟨rfl, rfl, rfl⟩ := hcs
    exact ⟨none, [], 0, rfl, Reads.none_, Nat.le_refl _, by decide⟩
  · simp [Value.cells] at hcs
    obtain ⟨rfl, rfl, rfl⟩ := hcs
    have hlm : len0 ≤ m := by rw [hmm]; split <;> omega
    have hone : ∀ i, i < m → ∃ x : SlT, V i = encSl x := fun i hi => by
      obtain ⟨-, h2⟩ := hx i hi
      rcases Go.Deep.open_slice he h2 with ⟨h, -⟩ | ⟨a', len', cap', _, _, _, _, h, -⟩
      · exact ⟨(none, 0, 0), by simpa using h⟩
      · exact ⟨(some a', len', cap'), by simpa using h⟩
    let F : Nat → SlT := fun i => match V i with | .slice a n c => (a, n, c) | _ => (none, 0, 0)
    have hF : ∀ i, i < m → V i = encSl (F i) := fun i hi => by
      obtain ⟨⟨a, n, c⟩, hxv⟩ := hone i hi
      show V i = encSl (match V i with | .slice a n c => (a, n, c) | _ => (none, 0, 0))
      rw [hxv]
    have hlen : ((List.range len0).map F).length = len0 := by simp
    refine ⟨some a, (List.range len0).map F, cap0, by rw [hlen], ⟨by simp, fun hn => ⟨a, rfl, ?_, fun j u hj => ?_⟩⟩, by rw [hlen]; exact hl, hm⟩
    · rw [hlen] at hn
      have := World.block_lt_of_cell? w _ (hx 0 (by omega)).1
      rwa [block_of_add] at this
    · have hj2 : j < len0 := by
        have := (List.getElem?_eq_some_iff.1 hj).1
        simpa using this
      rw [List.getElem?_map, List.getElem?_map, List.getElem?_range hj2] at hj
      simp only [Option.map_some, Option.some.injEq] at hj
      rw [(hx j (by omega)).1, hF j (by omega), hj]
end
theorem InS.below {w w' : World} {A : Option Addr} {xs : List SlT} {c : Nat} (h : InS w A xs c) (hb : Below w.heap.size w w') : Reads w' w'.heap.size 1 A xs.length (xs.map encSl) := (h.1.below hb).more hb.size
set_option maxHeartbeats 1000000 in
theorem rows_off0 (tag : Int) (A : Option Addr) (g : Nat) (b : List UInt8) (c : Nat) (M : Option Addr) (ms : List SlT) (cm : Nat) (w : World) (hin : InB w A g b c) (hms : InS w M ms cm) (hh : HalvesAt w) (h0 : 5000 < b.length) (h1 : b.length ≤ 65536) :
    Calls Tryd.prog 4 #[.int .i64 tag, .slice A b.length c, .slice M ms.length cm] w (LawPost w) := by
  have hlb : b.length ≤ 9223372036854775807 := Nat.le_trans hin.2.1 hin.2.2
  have hlm : ms.length ≤ 9223372036854775807 := Nat.le_trans hms.2.1 hms.2.2
  have HH := Lib.hid hh
  have e0 : decide ((5000 : Int) < (b.length : Int)) = true := by rw [decide_eq_true_eq]; omega
  have e1 : decide ((b.length : Int) ≤ 65536) = true := by rw [decide_eq_true_eq]; omega
  clear hin hms hh
  go_enter Tryd.func4, Tryd.ntmps4
  go_wp2_with fail
  refine (lives_any _ HH.out).mono ?_; rintro e w1 ⟨rfl, b1⟩
  go_wp2
  go_ret
  exact ⟨rfl, b1⟩
set_option maxHeartbeats 1000000 in
theorem rows_off1 (tag : Int) (A : Option Addr) (g : Nat) (b : List UInt8) (c : Nat) (M : Option Addr) (ms : List SlT) (cm : Nat) (w : World) (hin : InB w A g b c) (hms : InS w M ms cm) (hh : HalvesAt w) (h0 : b.length ≤ 5000) (h2 : 10 < ms.length) :
    Calls Tryd.prog 4 #[.int .i64 tag, .slice A b.length c, .slice M ms.length cm] w (LawPost w) := by
  have hlb : b.length ≤ 9223372036854775807 := Nat.le_trans hin.2.1 hin.2.2
  have hlm : ms.length ≤ 9223372036854775807 := Nat.le_trans hms.2.1 hms.2.2
  have HH := Lib.hid hh
  have e0 : decide ((5000 : Int) < (b.length : Int)) = false := by rw [decide_eq_false_iff_not]; omega
  have e2 : decide ((10 : Int) < (ms.length : Int)) = true := by rw [decide_eq_true_eq]; omega
  clear hin hms hh
  go_enter Tryd.func4, Tryd.ntmps4
  go_wp2_with fail
  refine (lives_any _ HH.out).mono ?_; rintro e w1 ⟨rfl, b1⟩
  go_wp2
  go_ret
  exact ⟨rfl, b1⟩
set_option maxHeartbeats 1000000 in
theorem rows_off2 (tag : Int) (A : Option Addr) (g : Nat) (b : List UInt8) (c : Nat) (M : Option Addr) (ms : List SlT) (cm : Nat) (w : World) (hin : InB w A g b c) (hms : InS w M ms cm) (hh : HalvesAt w) (h0 : 65536 < b.length) (h2 : 10 < ms.length) :
    Calls Tryd.prog 4 #[.int .i64 tag, .slice A b.length c, .slice M ms.length cm] w (LawPost w) := by
  have hlb : b.length ≤ 9223372036854775807 := Nat.le_trans hin.2.1 hin.2.2
  have hlm : ms.length ≤ 9223372036854775807 := Nat.le_trans hms.2.1 hms.2.2
  have HH := Lib.hid hh
  have e0 : decide ((5000 : Int) < (b.length : Int)) = true := by rw [decide_eq_true_eq]; omega
  have e1 : decide ((b.length : Int) ≤ 65536) = false := by rw [decide_eq_false_iff_not]; omega
  have e2 : decide ((10 : Int) < (ms.length : Int)) = true := by rw [decide_eq_true_eq]; omega
  clear hin hms hh
  go_enter Tryd.func4, Tryd.ntmps4
  go_wp2_with fail
  refine (lives_any _ HH.out).mono ?_; rintro e w1 ⟨rfl, b1⟩
  go_wp2
  go_ret
  exact ⟨rfl, b1⟩
set_option maxHeartbeats 1000000 in
theorem rows_no_short_low (tag : Int) (A : Option Addr) (g : Nat) (b : List UInt8) (c : Nat) (M : Option Addr) (ms : List SlT) (cm : Nat) (w : World) (hin : InB w A g b c) (hms : InS w M ms cm) (hh : HalvesAt w) (h0 : b.length ≤ 5000) (h2 : ¬ 10 < ms.length) (h3 : rowE tag b ≠ 0) (h4 : tag < 1) :
    Calls Tryd.prog 4 #[.int .i64 tag, .slice A b.length c, .slice M ms.length cm] w (LawPost w) := by
  have hlb : b.length ≤ 9223372036854775807 := Nat.le_trans hin.2.1 hin.2.2
  have hlm : ms.length ≤ 9223372036854775807 := Nat.le_trans hms.2.1 hms.2.2
  have HH := Lib.hid hh
  have e0 : decide ((5000 : Int) < (b.length : Int)) = false := by rw [decide_eq_false_iff_not]; omega
  have e2 : decide ((10 : Int) < (ms.length : Int)) = false := by rw [decide_eq_false_iff_not]; omega
  have P1 := Lib.hid (rowE_no tag A b c w hlb h3)
  have e3 : (rowE tag b != 0) = true := by simpa using h3
  have e5 : decide (tag < 1) = true := by rw [decide_eq_true_eq]; omega
  skip
  unfold RowNo at P1
  generalize rowE tag b = n at P1 e3
  clear hin hms hh h3
  go_enter Tryd.func4, Tryd.ntmps4
  go_wp2_with fail
  refine P1.out.mono ?_; rintro e w1 ⟨rfl, b1⟩
  go_wp2_with fail
  refine (lives_any w1 (HH.out.below b1 HH.out.pos)).mono ?_; rintro e w2 ⟨rfl, b2⟩
  have B2 := Lib.hid (below_trans b1 b2)
  clear b1 b2
  go_wp2
  go_ret
  exact ⟨rfl, B2.out⟩
set_option maxHeartbeats 1000000 in
theorem rows_no_short_high (tag : Int) (A : Option Addr) (g : Nat) (b : List UInt8) (c : Nat) (M : Option Addr) (ms : List SlT) (cm : Nat) (w : World) (hin : InB w A g b c) (hms : InS w M ms cm) (hh : HalvesAt w) (h0 : b.length ≤ 5000) (h2 : ¬ 10 < ms.length) (h3 : rowE tag b ≠ 0) (h4 : ¬ tag < 1) (h5 : 4611686018427387903 - (b.length : Int) / 42 < tag) :
    Calls Tryd.prog 4 #[.int .i64 tag, .slice A b.length c, .slice M ms.length cm] w (LawPost w) := by
  have hlb : b.length ≤ 9223372036854775807 := Nat.le_trans hin.2.1 hin.2.2
  have hlm : ms.length ≤ 9223372036854775807 := Nat.le_trans hms.2.1 hms.2.2
  have HH := Lib.hid hh
  have e0 : decide ((5000 : Int) < (b.length : Int)) = false := by rw [decide_eq_false_iff_not]; omega
  have e2 : decide ((10 : Int) < (ms.length : Int)) = false := by rw [decide_eq_false_iff_not]; omega
  have P1 := Lib.hid (rowE_no tag A b c w hlb h3)
  have e3 : (rowE tag b != 0) = true := by simpa using h3
  have e5 : decide (tag < 1) = false := by rw [decide_eq_false_iff_not]; omega
  have e6 : decide (4611686018427387903 - (b.length : Int) / 42 < tag) = true := by simpa using h5
  unfold RowNo at P1
  generalize rowE tag b = n at P1 e3
  clear hin hms hh h3
  go_enter Tryd.func4, Tryd.ntmps4
  go_wp2_with fail
  refine P1.out.mono ?_; rintro e w1 ⟨rfl, b1⟩
  go_wp2_with fail
  refine (lives_any w1 (HH.out.below b1 HH.out.pos)).mono ?_; rintro e w2 ⟨rfl, b2⟩
  have B2 := Lib.hid (below_trans b1 b2)
  clear b1 b2
  go_wp2
  go_ret
  exact ⟨rfl, B2.out⟩
set_option maxHeartbeats 1000000 in
theorem rows_no_long_low (tag : Int) (A : Option Addr) (g : Nat) (b : List UInt8) (c : Nat) (M : Option Addr) (ms : List SlT) (cm : Nat) (w : World) (hin : InB w A g b c) (hms : InS w M ms cm) (hh : HalvesAt w) (h0 : 65536 < b.length) (h2 : ¬ 10 < ms.length) (h3 : rowE tag b ≠ 0) (h4 : tag < 1) :
    Calls Tryd.prog 4 #[.int .i64 tag, .slice A b.length c, .slice M ms.length cm] w (LawPost w) := by
  have hlb : b.length ≤ 9223372036854775807 := Nat.le_trans hin.2.1 hin.2.2
  have hlm : ms.length ≤ 9223372036854775807 := Nat.le_trans hms.2.1 hms.2.2
  have HH := Lib.hid hh
  have e0 : decide ((5000 : Int) < (b.length : Int)) = true := by rw [decide_eq_true_eq]; omega
  have e1 : decide ((b.length : Int) ≤ 65536) = false := by rw [decide_eq_false_iff_not]; omega
  have e2 : decide ((10 : Int) < (ms.length : Int)) = false := by rw [decide_eq_false_iff_not]; omega
  have P1 := Lib.hid (rowE_no tag A b c w hlb h3)
  have e3 : (rowE tag b != 0) = true := by simpa using h3
  have e5 : decide (tag < 1) = true := by rw [decide_eq_true_eq]; omega
  skip
  unfold RowNo at P1
  generalize rowE tag b = n at P1 e3
  clear hin hms hh h3
  go_enter Tryd.func4, Tryd.ntmps4
  go_wp2_with fail
  refine P1.out.mono ?_; rintro e w1 ⟨rfl, b1⟩
  go_wp2_with fail
  refine (lives_any w1 (HH.out.below b1 HH.out.pos)).mono ?_; rintro e w2 ⟨rfl, b2⟩
  have B2 := Lib.hid (below_trans b1 b2)
  clear b1 b2
  go_wp2
  go_ret
  exact ⟨rfl, B2.out⟩
set_option maxHeartbeats 1000000 in
theorem rows_no_long_high (tag : Int) (A : Option Addr) (g : Nat) (b : List UInt8) (c : Nat) (M : Option Addr) (ms : List SlT) (cm : Nat) (w : World) (hin : InB w A g b c) (hms : InS w M ms cm) (hh : HalvesAt w) (h0 : 65536 < b.length) (h2 : ¬ 10 < ms.length) (h3 : rowE tag b ≠ 0) (h4 : ¬ tag < 1) (h5 : 4611686018427387903 - (b.length : Int) / 42 < tag) :
    Calls Tryd.prog 4 #[.int .i64 tag, .slice A b.length c, .slice M ms.length cm] w (LawPost w) := by
  have hlb : b.length ≤ 9223372036854775807 := Nat.le_trans hin.2.1 hin.2.2
  have hlm : ms.length ≤ 9223372036854775807 := Nat.le_trans hms.2.1 hms.2.2
  have HH := Lib.hid hh
  have e0 : decide ((5000 : Int) < (b.length : Int)) = true := by rw [decide_eq_true_eq]; omega
  have e1 : decide ((b.length : Int) ≤ 65536) = false := by rw [decide_eq_false_iff_not]; omega
  have e2 : decide ((10 : Int) < (ms.length : Int)) = false := by rw [decide_eq_false_iff_not]; omega
  have P1 := Lib.hid (rowE_no tag A b c w hlb h3)
  have e3 : (rowE tag b != 0) = true := by simpa using h3
  have e5 : decide (tag < 1) = false := by rw [decide_eq_false_iff_not]; omega
  have e6 : decide (4611686018427387903 - (b.length : Int) / 42 < tag) = true := by simpa using h5
  unfold RowNo at P1
  generalize rowE tag b = n at P1 e3
  clear hin hms hh h3
  go_enter Tryd.func4, Tryd.ntmps4
  go_wp2_with fail
  refine P1.out.mono ?_; rintro e w1 ⟨rfl, b1⟩
  go_wp2_with fail
  refine (lives_any w1 (HH.out.below b1 HH.out.pos)).mono ?_; rintro e w2 ⟨rfl, b2⟩
  have B2 := Lib.hid (below_trans b1 b2)
  clear b1 b2
  go_wp2
  go_ret
  exact ⟨rfl, B2.out⟩
set_option maxHeartbeats 1000000 in
theorem rows_long (tag : Int) (A : Option Addr) (g : Nat) (b : List UInt8) (c : Nat) (M : Option Addr) (ms : List SlT) (cm : Nat) (w : World) (hin : InB w A g b c) (hms : InS w M ms cm) (hh : HalvesAt w) (h0 : 65536 < b.length) (h2 : ¬ 10 < ms.length) (h4 : ¬ tag < 1) (h5 : ¬ 4611686018427387903 - (b.length : Int) / 42 < tag) :
    Calls Tryd.prog 4 #[.int .i64 tag, .slice A b.length c, .slice M ms.length cm] w (LawPost w) := by
  have hlb : b.length ≤ 9223372036854775807 := Nat.le_trans hin.2.1 hin.2.2
  have hlm : ms.length ≤ 9223372036854775807 := Nat.le_trans hms.2.1 hms.2.2
  have HH := Lib.hid hh
  have e0 : decide ((5000 : Int) < (b.length : Int)) = true := by rw [decide_eq_true_eq]; omega
  have e1 : decide ((b.length : Int) ≤ 65536) = false := by rw [decide_eq_false_iff_not]; omega
  have e2 : decide ((10 : Int) < (ms.length : Int)) = false := by rw [decide_eq_false_iff_not]; omega
  have h3 : rowE tag b = 3 := by
    unfold rowE lastM
    rw [if_pos ⟨(okTag_iff _).2 ⟨by omega, by omega⟩, by omega⟩, if_pos h0]
  have P1 := Lib.hid (rowE_no tag A b c w hlb (by rw [h3]; decide))
  rw [h3] at P1
  have e5 : decide (tag < 1) = false := by rw [decide_eq_false_iff_not]; omega
  have e6 : decide (4611686018427387903 - (b.length : Int) / 42 < tag) = false := by simpa using h5
  have e7 : decide ((65536 : Int) < (b.length : Int)) = true := by rw [decide_eq_true_eq]; omega
  unfold RowNo at P1
  clear hin hms hh h3
  go_enter Tryd.func4, Tryd.ntmps4
  go_wp2_with fail
  refine P1.out.mono ?_; rintro e w1 ⟨rfl, b1⟩
  go_wp2_with fail
  refine (lives_any w1 (HH.out.below b1 HH.out.pos)).mono ?_; rintro e w2 ⟨rfl, b2⟩
  have B2 := Lib.hid (below_trans b1 b2)
  clear b1 b2
  go_wp2
  go_ret
  exact ⟨rfl, B2.out⟩
set_option maxRecDepth 100000 in
set_option maxHeartbeats 8000000 in
theorem rows_okTrue (tag : Int) (A : Option Addr) (g : Nat) (b : List UInt8) (c : Nat) (M : Option Addr) (ms : List SlT) (cm : Nat) (w : World) (hin : InB w A g b c) (hms : InS w M ms cm) (hh : HalvesAt w) (h0 : b.length ≤ 5000) (h2 : ¬ 10 < ms.length) (h3 : rowE tag b = 0) (h5 : 4611686018427387903 - (b.length : Int) / 42 < tag) :
    Calls Tryd.prog 4 #[.int .i64 tag, .slice A b.length c, .slice M ms.length cm] w (LawPost w) := by
  have hlb : b.length ≤ 9223372036854775807 := Nat.le_trans hin.2.1 hin.2.2
  have hlm : ms.length ≤ 9223372036854775807 := Nat.le_trans hms.2.1 hms.2.2
  have HH := Lib.hid hh
  have e0 : decide ((5000 : Int) < (b.length : Int)) = false := by rw [decide_eq_false_iff_not]; omega
  have e2 : decide ((10 : Int) < (ms.length : Int)) = false := by rw [decide_eq_false_iff_not]; omega
  have P1 := Lib.hid (rowE_ok tag A g b c w hin.1 hin.2.1 hin.2.2 hh h0 h3)
  have hk : okTag tag = true ∧ tag ≤ 4611686018427387903 - (lastM b : Int) := by
    unfold rowE at h3
    split at h3
    · assumption
    · exact absurd h3 (by decide)
  have hti := (okTag_iff _).1 hk.1
  have hk2 := hk.2
  obtain ⟨t, rfl⟩ := Int.eq_ofNat_of_zero_le (show 0 ≤ tag by omega)
  rw [Int.toNat_natCast] at P1
  have e5 : decide ((t : Int) < 1) = false := by rw [decide_eq_false_iff_not]; omega
  have e6 : decide (4611686018427387903 - (b.length : Int) / 42 < (t : Int)) = true := by simpa using h5
  have e7 : decide ((65536 : Int) < (b.length : Int)) = false := by rw [decide_eq_false_iff_not]; omega
  have e8 : decide ((1 : Int) ≤ (t : Int)) = true := by rw [decide_eq_true_eq]; omega
  have e9 : decide ((t : Int) ≤ 4611686018427387903) = true := by rw [decide_eq_true_eq]; omega
  unfold RowOK at P1
  have PR := Lib.hid (fun W (k : Below w.heap.size w W) => rrow_ok t A g b c W (hin.1.below k fun h => h) hin.2.1 hin.2.2 (by omega) (by omega) h0)
  have HS := Lib.hid hin.1
  have HM := Lib.hid hms
  have hla : lastM b ≤ 5000 := by unfold lastM; omega
  have HT1 := Lib.hid (show 1 ≤ t by omega)
  have HT2 := Lib.hid (show t + lastM b ≤ 4611686018427387903 by omega)
  clear hin hms hh h3 hk hti hk2 h5
  go_enter Tryd.func4, Tryd.ntmps4
  go_wp2_with fail
  refine P1.out.mono ?_; rintro e w1 ⟨v1, rfl, p1, b1⟩
  obtain ⟨g1, c1, rfl⟩ := p1.form
  have B1 := Lib.hid b1
  have HP1 := Lib.hid p1
  clear b1 p1 P1
  go_wp2_with fail
  refine (lives_any w1 (HH.out.below B1.out HH.out.pos)).mono ?_; rintro e w2 ⟨rfl, b2⟩
  have B2 := Lib.hid (below_trans B1.out b2)
  have HP1 := Lib.hid (HP1.out.below b2)
  clear b2
  go_wp2_with fail
  refine (PR.out w2 B2.out).mono ?_; rintro e w3 ⟨v3, rfl, p3, b3⟩
  have B3 := Lib.hid (below_trans B2.out b3)
  have P4 := Lib.hid (same_row t b _ _ _ _ w3 h0 (HP1.out.below b3) p3)
  clear b3 p3
  go_wp2_with fail
  refine P4.out.mono ?_; rintro e w4 ⟨rfl, b4⟩
  have B4 := Lib.hid (below_trans B3.out b4)
  clear b4
  go_wp2
  go_ret
  exact ⟨rfl, B4.out⟩
set_option maxRecDepth 100000 in
set_option maxHeartbeats 8000000 in
theorem rows_okFalse (tag : Int) (A : Option Addr) (g : Nat) (b : List UInt8) (c : Nat) (M : Option Addr) (ms : List SlT) (cm : Nat) (w : World) (hin : InB w A g b c) (hms : InS w M ms cm) (hh : HalvesAt w) (h0 : b.length ≤ 5000) (h2 : ¬ 10 < ms.length) (h3 : rowE tag b = 0) (h5 : ¬ 4611686018427387903 - (b.length : Int) / 42 < tag) :
    Calls Tryd.prog 4 #[.int .i64 tag, .slice A b.length c, .slice M ms.length cm] w (LawPost w) := by
  have hlb : b.length ≤ 9223372036854775807 := Nat.le_trans hin.2.1 hin.2.2
  have hlm : ms.length ≤ 9223372036854775807 := Nat.le_trans hms.2.1 hms.2.2
  have HH := Lib.hid hh
  have e0 : decide ((5000 : Int) < (b.length : Int)) = false := by rw [decide_eq_false_iff_not]; omega
  have e2 : decide ((10 : Int) < (ms.length : Int)) = false := by rw [decide_eq_false_iff_not]; omega
  have P1 := Lib.hid (rowE_ok tag A g b c w hin.1 hin.2.1 hin.2.2 hh h0 h3)
  have hk : okTag tag = true ∧ tag ≤ 4611686018427387903 - (lastM b : Int) := by
    unfold rowE at h3
    split at h3
    · assumption
    · exact absurd h3 (by decide)
  have hti := (okTag_iff _).1 hk.1
  have hk2 := hk.2
  obtain ⟨t, rfl⟩ := Int.eq_ofNat_of_zero_le (show 0 ≤ tag by omega)
  rw [Int.toNat_natCast] at P1
  have e5 : decide ((t : Int) < 1) = false := by rw [decide_eq_false_iff_not]; omega
  have e6 : decide (4611686018427387903 - (b.length : Int) / 42 < (t : Int)) = false := by simpa using h5
  have e7 : decide ((65536 : Int) < (b.length : Int)) = false := by rw [decide_eq_false_iff_not]; omega
  have e8 : decide ((1 : Int) ≤ (t : Int)) = true := by rw [decide_eq_true_eq]; omega
  have e9 : decide ((t : Int) ≤ 4611686018427387903) = true := by rw [decide_eq_true_eq]; omega
  unfold RowOK at P1
  have PR := Lib.hid (fun W (k : Below w.heap.size w W) => rrow_ok t A g b c W (hin.1.below k fun h => h) hin.2.1 hin.2.2 (by omega) (by omega) h0)
  have HS := Lib.hid hin.1
  have HM := Lib.hid hms
  have hla : lastM b ≤ 5000 := by unfold lastM; omega
  have HT1 := Lib.hid (show 1 ≤ t by omega)
  have HT2 := Lib.hid (show t + lastM b ≤ 4611686018427387903 by omega)
  clear hin hms hh h3 hk hti hk2 h5
  go_enter Tryd.func4, Tryd.ntmps4
  go_wp2_with fail
  refine P1.out.mono ?_; rintro e w1 ⟨v1, rfl, p1, b1⟩
  obtain ⟨g1, c1, rfl⟩ := p1.form
  have B1 := Lib.hid b1
  have HP1 := Lib.hid p1
  clear b1 p1 P1
  go_wp2_with fail
  refine (lives_any w1 (HH.out.below B1.out HH.out.pos)).mono ?_; rintro e w2 ⟨rfl, b2⟩
  have B2 := Lib.hid (below_trans B1.out b2)
  have HP1 := Lib.hid (HP1.out.below b2)
  clear b2
  obtain ⟨xs, x1, x2, x3⟩ := HP1.out
  have hx1 : xs.length = lastM b + 1 := by rw [x1, rowM_length]
  rw [rowM_length] at x2
  have X3 := Lib.hid x3
  have X1 := Lib.hid x1
  have HX1 := Lib.hid hx1
  have HE := Lib.hid (show (w2.alloc (.cells #[] 22)).ownsRow w2.heap.size 22 1 (.slice (some ⟨w2.heap.size, 0, none⟩) 0 0) 0 (([] : List SlT).map encSl) from own_new w2 #[] _ 0 _ rfl rfl (by decide) (Nat.le_refl _))
  have ba := alloc_below w2 (.cells #[] 22)
  have HR1 := Lib.hid (show Reads (w2.alloc (.cells #[] 22)) (w2.alloc (.cells #[] 22)).heap.size 1 (some ⟨g1, 0, none⟩) (lastM b + 1) (xs.map encSl) from ((Reads.of_own x2).below ba).more ba.size)
  have BA := Lib.hid ba
  have HLA := Lib.hid (show lastM b = lastM b from rfl)
  have hml : ms.length ≤ 10 := by omega
  have hn12 : lastM b + 1 + ms.length ≤ 1000000 := by omega
  clear x1 x2 x3 hx1 ba
  go_wp2_with (at_builtin; first
    | ((refine wpList_appS (xs := []) (ys := xs) _ rfl (.tmp 83) (.tmp 84) _ rfl Tryd.underlying33 info_bs HE.out HR1.out c1 rfl rfl (by omega) (by simp) ?_); intro A3 c3 w3 o3 gr3; rw [Nat.zero_add, List.nil_append] at o3; have O3 := Lib.hid o3; have B3 := Lib.hid (show Below w2.heap.size w2 w3 from BA.out.grown (Grew.by_ gr3) (by simp) (by simp [Value.ownBlock])); have HR2 := Lib.hid (HM.out.below (below_trans B2.out B3.out)); clear o3 gr3)
    | ((refine wpList_appS (xs := xs) (ys := ms) _ rfl (.tmp 85) (.tmp 86) _ rfl Tryd.underlying33 info_bs O3.out HR2.out cm rfl rfl hn12 B3.out.size ?_); intro A4 c4 w4 o4 gr4; have O4 := Lib.hid o4; have B4 := Lib.hid (show Below w2.heap.size w2 w4 from B3.out.grown (Grew.by_ gr4) B3.out.size fun i hi => (World.ownsRow.lt O3.out i hi).1); clear o4 gr4))
  have o4 := O4.out
  rw [show lastM b + 1 + ms.length = lastM b + ms.length + 1 by omega] at o4
  obtain ⟨g4, cc4, hg4⟩ := ownsRow_succ o4
  obtain ⟨rfl, -, rfl⟩ : A4 = some ⟨g4, 0, none⟩ ∧ _ ∧ c4 = cc4 := by injection hg4 with q1 q2 q3; exact ⟨q1, q2, q3⟩
  have hra : RowAt w4 g4 t b := fun i hi => by
    have hxi : xs[i]? = some (xs[i]'(by rw [HX1.out]; exact hi)) := List.getElem?_eq_getElem (by rw [HX1.out]; exact hi)
    refine ⟨xs[i]'(by rw [HX1.out]; exact hi), own_cell o4 (by rw [List.map_append, List.getElem?_append_left (by rw [List.length_map, HX1.out]; exact hi), List.getElem?_map, hxi]; rfl), (X3.out i _ _ hxi (rowM_get t b i hi)).below B4.out, (World.ownsRow.lt o4 g4 rfl).2⟩
  have BW4 := Lib.hid (below_trans B2.out B4.out)
  have P5 := Lib.hid (unrow_ok g4 (lastM b + 1 + ms.length) c4 t b w4 HT1.out HT2.out h0 (by omega) (by omega) hra (HH.out.below BW4.out HH.out.pos))
  clear hra o4 hg4
  go_wp2_with fail
  refine P5.out.mono ?_; rintro e w5 ⟨A5, c5, rfl, n5, b5⟩
  obtain ⟨g5, s5, -, -, -⟩ := n5
  have BW5 := Lib.hid (below_trans BW4.out b5)
  have S5 := Lib.hid s5
  have B25 := Lib.hid (below_trans B4.out b5)
  clear b5 s5 P5
  go_wp2_with fail
  refine (PR.out w5 BW5.out).mono ?_; rintro e w6 ⟨v6, rfl, p6, b6⟩
  have BW6 := Lib.hid (below_trans BW5.out b6)
  have S5 := Lib.hid (S5.out.below b6 fun h => h)
  have P7 := Lib.hid (same_row t b _ _ _ _ w6 h0 (HP1.out.below (below_trans B25.out b6)) p6)
  clear b6 p6
  go_wp2_with fail
  refine P7.out.mono ?_; rintro e w7 ⟨rfl, b7⟩
  have BW7 := Lib.hid (below_trans BW6.out b7)
  have v1 := conv_later (S5.out.below b7 fun h => h) c5 rfl w7 (RB.refl _)
  have v2 := conv_later (HS.out.below BW7.out fun h => h) c rfl w7 (RB.refl _)
  clear b7 P7
  go_wp2
  go_ret
  exact ⟨rfl, BW7.out⟩
theorem rows_law (tag : Int) (A : Option Addr) (g : Nat) (b : List UInt8) (c : Nat) (M : Option Addr) (ms : List SlT) (cm : Nat) (w : World) (hin : InB w A g b c) (hms : InS w M ms cm) (hh : HalvesAt w) :
    Calls Tryd.prog 4 #[.int .i64 tag, .slice A b.length c, .slice M ms.length cm] w (LawPost w) := by
  have hla : (lastM b : Int) ≤ (b.length : Int) / 42 := by unfold lastM; omega
  by_cases h1 : 5000 < b.length ∧ b.length ≤ 65536
  · exact rows_off0 tag A g b c M ms cm w hin hms hh h1.1 h1.2
  by_cases h2 : 10 < ms.length
  · by_cases h0 : b.length ≤ 5000
    · exact rows_off1 tag A g b c M ms cm w hin hms hh h0 h2
    · exact rows_off2 tag A g b c M ms cm w hin hms hh (by omega) h2
  by_cases h0 : b.length ≤ 5000
  · by_cases h3 : rowE tag b = 0
    · by_cases h5 : 4611686018427387903 - (b.length : Int) / 42 < tag
      · exact rows_okTrue tag A g b c M ms cm w hin hms hh h0 h2 h3 h5
      · exact rows_okFalse tag A g b c M ms cm w hin hms hh h0 h2 h3 h5
    · by_cases h4 : tag < 1
      · exact rows_no_short_low tag A g b c M ms cm w hin hms hh h0 h2 h3 h4
      · by_cases h5 : 4611686018427387903 - (b.length : Int) / 42 < tag
        · exact rows_no_short_high tag A g b c M ms cm w hin hms hh h0 h2 h3 h4 h5
        · exfalso
          refine h3 ?_
          unfold rowE
          rw [if_pos ⟨(okTag_iff _).2 ⟨by omega, by omega⟩, by omega⟩, if_neg (by omega)]
  · by_cases h4 : tag < 1
    · refine rows_no_long_low tag A g b c M ms cm w hin hms hh (by omega) h2 (fun h3 => ?_) h4
      unfold rowE at h3
      split at h3
      · rw [if_pos (by omega)] at h3
        exact absurd h3 (by decide)
      · exact absurd h3 (by decide)
    · by_cases h5 : 4611686018427387903 - (b.length : Int) / 42 < tag
      · refine rows_no_long_high tag A g b c M ms cm w hin hms hh (by omega) h2 (fun h3 => ?_) h4 h5
        unfold rowE at h3
        split at h3
        · rw [if_pos (by omega)] at h3
          exact absurd h3 (by decide)
        · exact absurd h3 (by decide)
      · exact rows_long tag A g b c M ms cm w hin hms hh (by omega) h2 h4 h5
end Go.Proofs.YtfilelgbffbnlaaDoor
