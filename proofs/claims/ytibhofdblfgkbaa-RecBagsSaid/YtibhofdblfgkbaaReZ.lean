/- The law RecBags. -/
import Derived.Test.YtibhofdblfgkbaaReLb
import Derived.Test.YtibhofdblfgkbaaReX
import Derived.Test.YtibhofdblfgkbaaReY
namespace Go.Proofs.Ytibhofdblfgkbaa
open Go.ChangeShapes Go.WideShapes Go.ChangeAt Go.RowKit Go.ChangeMaps Go.Sort
section
variable {H : Type} {enc : TypeId × Value → H} {P : Program} {w : World} {spare : Nat → Bool}
/-- What is known of a slice of pairs that came in, their size with it. -/
def InPR (w : World) (A : Option Addr) (g : Nat) (l : List (Int × Int)) (c : Nat) : Prop := SlP w g A l ∧ l.length ≤ c ∧ c ≤ maxLen ∧ ∀ x ∈ l, InR x
theorem open_pairs_in {t e : TypeId} {f0 f1 : Field} {r : Reach} {b0 : Nat} {v : Value} {d : DataW H} {ps : List MemPlace} (ht : P.underlying t = some (.slice e)) (he : P.underlying e = some (.struct #[f0, f1])) (ce : P.cellsOf e = 2) (o0 : f0.offset = 0) (o1 : f1.offset = 1)
    (c0 : P.cellsOf f0.type = 1) (c1 : P.cellsOf f1.type = 1) (i0 : P.underlying f0.type = some (.int .i64)) (i1 : P.underlying f1.type = some (.int .i64))
    (hval : Value.okWide P w r b0 t v) (hd : DataW.Trod enc P w 0 spare true t v d ps) : ∃ A g l c, v = .slice A l.length c ∧ InPR w A g l c := by
  obtain ⟨a0, len0, cap0, rfl⟩ := okWide_slice ht hval
  obtain ⟨fuel, hf⟩ := hd
  rcases Go.Deep.open_slice_pairs ht he ce o0 o1 c0 c1 hf with ⟨hcs, -⟩ | ⟨a, len, cap, m, n, V0, V1, D0, D1, P0, P1, hcs, -, hl, hm, hmm, -, hx⟩
  · simp [Value.cells] at hcs
    obtain ⟨rfl, rfl, rfl⟩ := hcs
    exact ⟨none, 0, [], 0, rfl, SlP.nil _ _ _, Nat.le_refl _, by decide, fun x hx => by cases hx⟩
  · simp [Value.cells] at hcs
    obtain ⟨rfl, rfl, rfl⟩ := hcs
    have hlm : len0 ≤ m := by rw [hmm]; split <;> omega
    have hint : ∀ i, i < m → ∃ z : Int × Int, V0 i = .int .i64 z.1 ∧ V1 i = .int .i64 z.2 ∧ InR z := fun i hi => by
      obtain ⟨-, -, t0, t1⟩ := hx i hi
      obtain ⟨n0, e0, -, w0⟩ := DataW.trod_int i0 t0
      obtain ⟨n1, e1, -, w1⟩ := DataW.trod_int i1 t1
      exact ⟨(n0, n1), by simpa using e0, by simpa using e1, w0, w1⟩
    refine ⟨some a, a.block, (List.range len0).map fun i => (intOf (V0 i), intOf (V1 i)), cap0, by simp, fun hne => ?_, by simpa using hl, hm, fun x hx => ?_⟩
    rotate_left
    · rw [List.mem_map] at hx
      obtain ⟨i, hi, rfl⟩ := hx
      rw [List.mem_range] at hi
      obtain ⟨z, e0, e1, hz⟩ := hint i (by omega)
      rw [e0, e1]
      exact hz
    have hpos : 0 < len0 := by
      rcases Nat.eq_zero_or_pos len0 with h | h
      · subst h; exact absurd rfl hne
      · exact h
    obtain ⟨b, off, spot⟩ := a
    obtain ⟨k0, -, -, -⟩ := hx 0 (by omega)
    have hspot : spot = none := by simpa [Addr.add] using World.cell?_spot k0
    subst hspot
    refine ⟨World.block_lt_of_cell? w _ (by simpa [Addr.add] using k0), off, rfl, fun j u hj => ?_⟩
    have hjl : j < len0 * 2 := by
      have := (List.getElem?_eq_some_iff.1 hj).1
      rw [Prs_length] at this
      simpa using this
    have hq : j / 2 < len0 := by omega
    obtain ⟨z, e0, e1, -⟩ := hint (j / 2) (by omega)
    obtain ⟨q0, q1, -, -⟩ := hx (j / 2) (by omega)
    have hz : ((List.range len0).map fun i => (intOf (V0 i), intOf (V1 i)))[j / 2]? = some z := by
      rw [List.getElem?_map, List.getElem?_range hq, Option.map_some, e0, e1]; rfl
    obtain ⟨p0, p1⟩ := Prs_get _ _ _ hz
    rw [Addr.add_lit] at q0 q1
    rcases Nat.mod_two_eq_zero_or_one j with h | h
    · have ej : j = j / 2 * 2 := by omega
      rw [ej, p0] at hj
      rw [ej, q0, e0]
      exact hj
    · have ej : j = j / 2 * 2 + 1 := by omega
      rw [ej, p1] at hj
      rw [ej, q1, e1]
      exact hj
end
theorem bags_large (A : Option Addr) (a : List (Int × Int)) (c : Nat) (B : Option Addr) (b : List (Int × Int)) (d : Nat) (w : World) (l : 5000 < a.length ∨ 5000 < b.length) :
    Calls Try.prog 4 #[.slice A a.length c, .slice B b.length d] w (LawOk w) := by
  by_cases la : 5000 < a.length
  · have d1 : decide ((5000 : Int) < (a.length : Int)) = true := by rw [decide_eq_true_eq]; omega
    go_enter Try.func4, Try.ntmps4
    go_wp2_with fail
    refine (large_any _ _ _ _).mono ?_; rintro e w1 ⟨rfl, rfl⟩
    rw [d1]
    go_wp2_with fail
    refine (lives_any _).mono ?_; rintro e w2 ⟨rfl, b2⟩
    go_wp2
    go_ret
    exact ⟨rfl, b2⟩
  · have lb : 5000 < b.length := by omega
    have d1 : decide ((5000 : Int) < (a.length : Int)) = false := by rw [decide_eq_false_iff_not]; omega
    have d2 : decide ((5000 : Int) < (b.length : Int)) = true := by rw [decide_eq_true_eq]; omega
    go_enter Try.func4, Try.ntmps4
    go_wp2_with fail
    refine (large_any _ _ _ _).mono ?_; rintro e w1 ⟨rfl, rfl⟩
    rw [d1]
    go_wp2_with fail
    refine (large_any _ _ _ _).mono ?_; rintro e w1 ⟨rfl, rfl⟩
    rw [d2]
    go_wp2_with fail
    refine (lives_any _).mono ?_; rintro e w2 ⟨rfl, b2⟩
    go_wp2
    go_ret
    exact ⟨rfl, b2⟩
set_option maxRecDepth 100000 in
set_option maxHeartbeats 4000000 in
theorem bags_no_a (A : Option Addr) (h : Nat) (a : List (Int × Int)) (c : Nat) (B : Option Addr) (g : Nat) (b : List (Int × Int)) (d : Nat) (w : World) (ha : InPR w A h a c) (hb : InPR w B g b d) (la : a.length ≤ 5000) (lb : b.length ≤ 5000) (h0 : mayE a ≠ 0) :
    Calls Try.prog 4 #[.slice A a.length c, .slice B b.length d] w (LawOk w) := by
  obtain ⟨sa, ca, ma, ra⟩ := ha
  obtain ⟨sb, cb, mb, rb⟩ := hb
  have HA := Lib.hid sa
  have HB := Lib.hid sb
  have d1 : decide ((5000 : Int) < (a.length : Int)) = false := by rw [decide_eq_false_iff_not]; omega
  have d2 : decide ((5000 : Int) < (b.length : Int)) = false := by rw [decide_eq_false_iff_not]; omega
  have P1 := Lib.hid (fun W (k : Below w.heap.size w W) => rc_union_any A h a c B g b d W (HA.out.below k) (HB.out.below k) (by omega) (by omega))
  have P3 := Lib.hid (fun W (k : Below w.heap.size w W) => rc_same_any A h a c B g b d W (HA.out.below k) (HB.out.below k) (by omega) (by omega) ra rb)
  have P4 := Lib.hid (fun W (k : Below w.heap.size w W) => rrc_same_any A h a c B g b d W (HA.out.below k) (HB.out.below k) ca cb ma mb (by omega) (by omega))
  have P5 := Lib.hid (fun W (k : Below w.heap.size w W) => rrc_may_any A h a c W (HA.out.below k) (by omega))
  have P6 := Lib.hid (fun W (k : Below w.heap.size w W) => rrc_may_any B g b d W (HB.out.below k) (by omega))
  obtain ⟨sm, hsm⟩ : ∃ sm, sameR a b = sm := ⟨_, rfl⟩
  rw [hsm] at P3 P4
  clear hsm
  have hbe : bothE a b = mayE a := by unfold bothE; rw [if_neg h0]
  have hbn : bothE a b ≠ 0 := by rw [hbe]; exact h0
  have hue : uniE a b = mayE a := by unfold uniE; rw [if_neg hbn]; exact hbe
  have P2 := Lib.hid (fun W (k : Below w.heap.size w W) => rc_minus_no A h a c B g b d W (HA.out.below k) (HB.out.below k) (by omega) (by omega) hbn)
  unfold UniAns at P1
  rw [hue] at P1
  rw [hbe] at P2
  have Z := Lib.hid h0
  have d3 : (mayE a == 0) = false := by simpa using h0
  have d4 : (mayE a != 0) = true := by rw [bne, d3]; rfl
  generalize mayE a = z at P1 P2 P5 Z d3 d4
  clear h0 hbe hbn hue HA HB sa sb ca cb ma mb ra rb P6
  go_enter Try.func4, Try.ntmps4
  go_wp2_with fail
  refine (large_any _ _ _ _).mono ?_; rintro e w1 ⟨rfl, rfl⟩
  rw [d1]
  go_wp2_with fail
  refine (large_any _ _ _ _).mono ?_; rintro e w1 ⟨rfl, rfl⟩
  rw [d2]
  go_wp2_with fail
  refine (P1.out _ (Below.refl _ _)).mono ?_; rintro e w1 (⟨-, rfl, b1⟩ | ⟨hz, -⟩)
  rotate_left
  · exact absurd hz Z.out
  have B1 := Lib.hid b1
  clear b1
  go_wp2_with fail
  refine (P2.out _ B1.out).mono ?_; rintro e w2 ⟨rfl, b2⟩
  have B2 := Lib.hid (below_trans B1.out b2)
  clear b2
  go_wp2_with fail
  refine (lives_any _).mono ?_; rintro e w3 ⟨rfl, b3⟩
  have B3 := Lib.hid (below_trans B2.out b3)
  clear b3
  go_wp2_with fail
  refine (P3.out _ B3.out).mono ?_; rintro e w4 ⟨rfl, b4⟩
  have B4 := Lib.hid (below_trans B3.out b4)
  clear b4
  go_wp2_with fail
  refine (P4.out _ B4.out).mono ?_; rintro e w5 ⟨rfl, b5⟩
  have B5 := Lib.hid (below_trans B4.out b5)
  clear b5
  go_wp2_with fail
  refine (P5.out _ B5.out).mono ?_; rintro e w6 ⟨rfl, b6⟩
  have B6 := Lib.hid (below_trans B5.out b6)
  clear b6
  go_wp2
  go_ret
  exact ⟨rfl, B6.out⟩
set_option maxRecDepth 100000 in
set_option maxHeartbeats 4000000 in
theorem bags_no_b (A : Option Addr) (h : Nat) (a : List (Int × Int)) (c : Nat) (B : Option Addr) (g : Nat) (b : List (Int × Int)) (d : Nat) (w : World) (ha : InPR w A h a c) (hb : InPR w B g b d) (la : a.length ≤ 5000) (lb : b.length ≤ 5000) (h1 : mayE a = 0) (h0 : mayE b ≠ 0) :
    Calls Try.prog 4 #[.slice A a.length c, .slice B b.length d] w (LawOk w) := by
  obtain ⟨sa, ca, ma, ra⟩ := ha
  obtain ⟨sb, cb, mb, rb⟩ := hb
  have HA := Lib.hid sa
  have HB := Lib.hid sb
  have d1 : decide ((5000 : Int) < (a.length : Int)) = false := by rw [decide_eq_false_iff_not]; omega
  have d2 : decide ((5000 : Int) < (b.length : Int)) = false := by rw [decide_eq_false_iff_not]; omega
  have P1 := Lib.hid (fun W (k : Below w.heap.size w W) => rc_union_any A h a c B g b d W (HA.out.below k) (HB.out.below k) (by omega) (by omega))
  have P3 := Lib.hid (fun W (k : Below w.heap.size w W) => rc_same_any A h a c B g b d W (HA.out.below k) (HB.out.below k) (by omega) (by omega) ra rb)
  have P4 := Lib.hid (fun W (k : Below w.heap.size w W) => rrc_same_any A h a c B g b d W (HA.out.below k) (HB.out.below k) ca cb ma mb (by omega) (by omega))
  have P5 := Lib.hid (fun W (k : Below w.heap.size w W) => rrc_may_any A h a c W (HA.out.below k) (by omega))
  have P6 := Lib.hid (fun W (k : Below w.heap.size w W) => rrc_may_any B g b d W (HB.out.below k) (by omega))
  obtain ⟨sm, hsm⟩ : ∃ sm, sameR a b = sm := ⟨_, rfl⟩
  rw [hsm] at P3 P4
  clear hsm
  have hbe : bothE a b = mayE b := by unfold bothE; rw [if_pos h1]
  have hbn : bothE a b ≠ 0 := by rw [hbe]; exact h0
  have hue : uniE a b = mayE b := by unfold uniE; rw [if_neg hbn]; exact hbe
  have P2 := Lib.hid (fun W (k : Below w.heap.size w W) => rc_minus_no A h a c B g b d W (HA.out.below k) (HB.out.below k) (by omega) (by omega) hbn)
  unfold UniAns at P1
  rw [hue] at P1
  rw [hbe] at P2
  rw [h1] at P5
  have Z := Lib.hid h0
  have d3 : (mayE b == 0) = false := by simpa using h0
  have d4 : (mayE b != 0) = true := by rw [bne, d3]; rfl
  generalize mayE b = z at P1 P2 P6 Z d3 d4
  clear h0 h1 hbe hbn hue HA HB sa sb ca cb ma mb ra rb
  go_enter Try.func4, Try.ntmps4
  go_wp2_with fail
  refine (large_any _ _ _ _).mono ?_; rintro e w1 ⟨rfl, rfl⟩
  rw [d1]
  go_wp2_with fail
  refine (large_any _ _ _ _).mono ?_; rintro e w1 ⟨rfl, rfl⟩
  rw [d2]
  go_wp2_with fail
  refine (P1.out _ (Below.refl _ _)).mono ?_; rintro e w1 (⟨-, rfl, b1⟩ | ⟨hz, -⟩)
  rotate_left
  · exact absurd hz Z.out
  have B1 := Lib.hid b1
  clear b1
  go_wp2_with fail
  refine (P2.out _ B1.out).mono ?_; rintro e w2 ⟨rfl, b2⟩
  have B2 := Lib.hid (below_trans B1.out b2)
  clear b2
  go_wp2_with fail
  refine (lives_any _).mono ?_; rintro e w3 ⟨rfl, b3⟩
  have B3 := Lib.hid (below_trans B2.out b3)
  clear b3
  go_wp2_with fail
  refine (P3.out _ B3.out).mono ?_; rintro e w4 ⟨rfl, b4⟩
  have B4 := Lib.hid (below_trans B3.out b4)
  clear b4
  go_wp2_with fail
  refine (P4.out _ B4.out).mono ?_; rintro e w5 ⟨rfl, b5⟩
  have B5 := Lib.hid (below_trans B4.out b5)
  clear b5
  go_wp2_with fail
  refine (P5.out _ B5.out).mono ?_; rintro e w6 ⟨rfl, b6⟩
  have B6 := Lib.hid (below_trans B5.out b6)
  clear b6
  go_wp2_with fail
  refine (P6.out _ B6.out).mono ?_; rintro e w7 ⟨rfl, b7⟩
  have B7 := Lib.hid (below_trans B6.out b7)
  go_wp2
  go_ret
  exact ⟨rfl, B7.out⟩
set_option maxRecDepth 100000 in
set_option maxHeartbeats 4000000 in
theorem bags_many (A : Option Addr) (h : Nat) (a : List (Int × Int)) (c : Nat) (B : Option Addr) (g : Nat) (b : List (Int × Int)) (d : Nat) (w : World) (ha : InPR w A h a c) (hb : InPR w B g b d) (la : a.length ≤ 5000) (lb : b.length ≤ 5000) (h1 : mayE a = 0) (h2 : mayE b = 0) (hl : 4096 < a.length + b.length) :
    Calls Try.prog 4 #[.slice A a.length c, .slice B b.length d] w (LawOk w) := by
  obtain ⟨sa, ca, ma, ra⟩ := ha
  obtain ⟨sb, cb, mb, rb⟩ := hb
  have HA := Lib.hid sa
  have HB := Lib.hid sb
  have d1 : decide ((5000 : Int) < (a.length : Int)) = false := by rw [decide_eq_false_iff_not]; omega
  have d2 : decide ((5000 : Int) < (b.length : Int)) = false := by rw [decide_eq_false_iff_not]; omega
  have P1 := Lib.hid (fun W (k : Below w.heap.size w W) => rc_union_any A h a c B g b d W (HA.out.below k) (HB.out.below k) (by omega) (by omega))
  have P3 := Lib.hid (fun W (k : Below w.heap.size w W) => rc_same_any A h a c B g b d W (HA.out.below k) (HB.out.below k) (by omega) (by omega) ra rb)
  have P4 := Lib.hid (fun W (k : Below w.heap.size w W) => rrc_same_any A h a c B g b d W (HA.out.below k) (HB.out.below k) ca cb ma mb (by omega) (by omega))
  have P5 := Lib.hid (fun W (k : Below w.heap.size w W) => rrc_may_any A h a c W (HA.out.below k) (by omega))
  have P6 := Lib.hid (fun W (k : Below w.heap.size w W) => rrc_may_any B g b d W (HB.out.below k) (by omega))
  obtain ⟨sm, hsm⟩ : ∃ sm, sameR a b = sm := ⟨_, rfl⟩
  rw [hsm] at P3 P4
  clear hsm
  have hbe : bothE a b = 0 := by unfold bothE; rw [if_pos h1]; exact h2
  have hue : uniE a b = 31 := by
    unfold uniE
    rw [if_pos hbe]
    unfold mayE
    rw [if_neg, if_pos (by rw [List.length_append]; omega)]
    intro hx
    rw [List.any_eq_true] at hx
    obtain ⟨x, hx, hk⟩ := hx
    rw [List.mem_append] at hx
    rcases hx with hx | hx
    · rw [(mayE_ok h1).1 x hx] at hk; cases hk
    · rw [(mayE_ok h2).1 x hx] at hk; cases hk
  have P2 := Lib.hid (fun W (k : Below w.heap.size w W) => rc_minus_ok A h a c B g b d W (HA.out.below k) (HB.out.below k) h1 h2)
  have PM := Lib.hid (fun W (k : Below w.heap.size w W) => rrc_minus_any A h a c B g b d W (HA.out.below k) (HB.out.below k) ca cb ma mb (by omega) (by omega))
  have hml := minusR_length a b
  have PX := Lib.hid (fun W A1 A2 h1 h2 c1 c2 (s1 : SlP W h1 A1 (minusR a b)) (s2 : SlP W h2 A2 (minusR a b)) => rexact_any A1 A2 h1 h2 (minusR a b) (minusR a b) c1 c2 W s1 s2 (by omega) (by omega))
  simp only [beq_self_eq_true] at PX
  unfold UniAns at P1
  rw [hue] at P1
  rw [h1] at P5
  rw [h2] at P6
  have HRA := Lib.hid (fun W (k : Below w.heap.size w W) => (HA.out.below k).reads)
  have HRB := Lib.hid (fun W (k : Below w.heap.size w W) => (HB.out.below k).reads)
  have hab : (a ++ b).length = a.length + b.length := List.length_append
  have HAB := Lib.hid hab
  have dl : decide ((4096 : Int) < (a.length : Int) + (b.length : Int)) = true := by rw [decide_eq_true_eq]; omega
  have la' : a.length ≤ 5000 := la
  clear h1 h2 hbe hue HA HB sa sb ca cb ma mb ra rb hml hab
  go_enter Try.func4, Try.ntmps4
  go_wp2_with fail
  refine (large_any _ _ _ _).mono ?_; rintro e w1 ⟨rfl, rfl⟩
  rw [d1]
  go_wp2_with fail
  refine (large_any _ _ _ _).mono ?_; rintro e w1 ⟨rfl, rfl⟩
  rw [d2]
  go_wp2_with fail
  refine (P1.out _ (Below.refl _ _)).mono ?_; rintro e w1 (⟨-, rfl, b1⟩ | ⟨hz, -⟩)
  rotate_left
  · exact absurd hz (by decide)
  have B1 := Lib.hid b1
  clear b1
  go_wp2_with fail
  refine (P2.out _ B1.out).mono ?_; rintro e w2 ⟨AM, cM, rfl, ⟨gM, sM⟩, b2, -⟩
  have B2 := Lib.hid (below_trans B1.out b2)
  have SM := Lib.hid sM
  clear b2 sM
  go_wp2_with fail
  refine (lives_any _).mono ?_; rintro e w3 ⟨rfl, b3⟩
  have B3 := Lib.hid (below_trans B2.out b3)
  have SM := Lib.hid (SM.out.below b3)
  clear b3
  go_wp2_with fail
  refine (P3.out _ B3.out).mono ?_; rintro e w4 ⟨rfl, b4⟩
  have B4 := Lib.hid (below_trans B3.out b4)
  have SM := Lib.hid (SM.out.below b4)
  clear b4
  go_wp2_with fail
  refine (P4.out _ B4.out).mono ?_; rintro e w5 ⟨rfl, b5⟩
  have B5 := Lib.hid (below_trans B4.out b5)
  have SM := Lib.hid (SM.out.below b5)
  clear b5
  go_wp2_with fail
  refine (P5.out _ B5.out).mono ?_; rintro e w6 ⟨rfl, b6⟩
  have B6 := Lib.hid (below_trans B5.out b6)
  have SM := Lib.hid (SM.out.below b6)
  clear b6
  go_wp2_with fail
  refine (P6.out _ B6.out).mono ?_; rintro e w7 ⟨rfl, b7⟩
  have B7 := Lib.hid (below_trans B6.out b7)
  have SM := Lib.hid (SM.out.below b7)
  clear b7
  go_wp2_with fail
  refine (PM.out _ B7.out).mono ?_; rintro e w8 ⟨AN, cN, rfl, ⟨gN, sN⟩, b8, -⟩
  have B8 := Lib.hid (below_trans B7.out b8)
  have SM := Lib.hid (SM.out.below b8)
  have SN := Lib.hid sN
  clear b8 sN
  go_wp2_with fail
  refine (PX.out _ _ _ _ _ _ _ SM.out SN.out).mono ?_; rintro e w9 ⟨rfl, b9⟩
  have B9 := Lib.hid (below_trans B8.out b9)
  clear b9 SM SN
  have bz := alloc_below w9 (.cells #[] 24)
  have BZ := Lib.hid (below_trans B9.out bz)
  have HRX := Lib.hid (HRA.out _ BZ.out)
  have HOX := Lib.hid (own_empty w9 24 2 w9.heap.size (Nat.le_refl _))
  have HSX := Lib.hid (show w9.heap.size ≤ (w9.alloc (.cells #[] 24)).heap.size from bz.size)
  have BW := Lib.hid bz
  clear bz
  go_wp2_with (first
    | (at_builtin; (refine wpList_appP (xs := []) (ys := a) _ rfl (.tmp 77) (.tmp 78) _ rfl Try.underlying22 info_rec3 HOX.out HRX.out c rfl rfl (by omega) HSX.out ?_); intro A5 c5 w5 o5 gr5; have O5 := Lib.hid o5; have B10 := Lib.hid (BW.out.grown (Grew.by_ gr5) HSX.out fun i hi => (World.ownsRow.lt HOX.out i hi).1); clear o5 gr5; rw [Nat.zero_add, List.nil_append] at O5; have HRY := Lib.hid (HRB.out _ (below_trans B9.out B10.out)); have HSY := Lib.hid (show w9.heap.size ≤ w5.heap.size from B10.out.size))
    | (at_builtin; (refine wpList_appP (xs := a) (ys := b) _ rfl (.tmp 79) (.tmp 80) _ rfl Try.underlying22 info_rec3 O5.out HRY.out d rfl rfl (by omega) HSY.out ?_); intro A6 c6 w6 o6 gr6; have O6 := Lib.hid o6; have B11 := Lib.hid (B10.out.grown (Grew.by_ gr6) HSY.out fun i hi => (World.ownsRow.lt O5.out i hi).1); clear o6 gr6))
  go_ret
  exact ⟨rfl, below_trans B9.out B11.out⟩
set_option maxRecDepth 100000 in
set_option maxHeartbeats 4000000 in
theorem bags_ok (A : Option Addr) (h : Nat) (a : List (Int × Int)) (c : Nat) (B : Option Addr) (g : Nat) (b : List (Int × Int)) (d : Nat) (w : World) (ha : InPR w A h a c) (hb : InPR w B g b d) (la : a.length ≤ 5000) (lb : b.length ≤ 5000) (h1 : mayE a = 0) (h2 : mayE b = 0) (hl : a.length + b.length ≤ 4096) :
    Calls Try.prog 4 #[.slice A a.length c, .slice B b.length d] w (LawOk w) := by
  obtain ⟨sa, ca, ma, ra⟩ := ha
  obtain ⟨sb, cb, mb, rb⟩ := hb
  have HA := Lib.hid sa
  have HB := Lib.hid sb
  have d1 : decide ((5000 : Int) < (a.length : Int)) = false := by rw [decide_eq_false_iff_not]; omega
  have d2 : decide ((5000 : Int) < (b.length : Int)) = false := by rw [decide_eq_false_iff_not]; omega
  have P1 := Lib.hid (fun W (k : Below w.heap.size w W) => rc_union_any A h a c B g b d W (HA.out.below k) (HB.out.below k) (by omega) (by omega))
  have P3 := Lib.hid (fun W (k : Below w.heap.size w W) => rc_same_any A h a c B g b d W (HA.out.below k) (HB.out.below k) (by omega) (by omega) ra rb)
  have P4 := Lib.hid (fun W (k : Below w.heap.size w W) => rrc_same_any A h a c B g b d W (HA.out.below k) (HB.out.below k) ca cb ma mb (by omega) (by omega))
  have P5 := Lib.hid (fun W (k : Below w.heap.size w W) => rrc_may_any A h a c W (HA.out.below k) (by omega))
  have P6 := Lib.hid (fun W (k : Below w.heap.size w W) => rrc_may_any B g b d W (HB.out.below k) (by omega))
  obtain ⟨sm, hsm⟩ : ∃ sm, sameR a b = sm := ⟨_, rfl⟩
  rw [hsm] at P3 P4
  clear hsm
  have hbe : bothE a b = 0 := by unfold bothE; rw [if_pos h1]; exact h2
  have hue : uniE a b = 0 := by
    unfold uniE
    rw [if_pos hbe]
    unfold mayE
    rw [if_neg, if_neg (by rw [List.length_append]; omega)]
    intro hx
    rw [List.any_eq_true] at hx
    obtain ⟨x, hx, hk⟩ := hx
    rw [List.mem_append] at hx
    rcases hx with hx | hx
    · rw [(mayE_ok h1).1 x hx] at hk; cases hk
    · rw [(mayE_ok h2).1 x hx] at hk; cases hk
  have P2 := Lib.hid (fun W (k : Below w.heap.size w W) => rc_minus_ok A h a c B g b d W (HA.out.below k) (HB.out.below k) h1 h2)
  have PM := Lib.hid (fun W (k : Below w.heap.size w W) => rrc_minus_any A h a c B g b d W (HA.out.below k) (HB.out.below k) ca cb ma mb (by omega) (by omega))
  have hml := minusR_length a b
  have PX := Lib.hid (fun W A1 A2 h1 h2 c1 c2 (s1 : SlP W h1 A1 (minusR a b)) (s2 : SlP W h2 A2 (minusR a b)) => rexact_any A1 A2 h1 h2 (minusR a b) (minusR a b) c1 c2 W s1 s2 (by omega) (by omega))
  simp only [beq_self_eq_true] at PX
  unfold UniAns at P1
  rw [hue] at P1
  rw [h1] at P5
  rw [h2] at P6
  have HRA := Lib.hid (fun W (k : Below w.heap.size w W) => (HA.out.below k).reads)
  have HRB := Lib.hid (fun W (k : Below w.heap.size w W) => (HB.out.below k).reads)
  have hab : (a ++ b).length = a.length + b.length := List.length_append
  have HAB := Lib.hid hab
  have PS := Lib.hid (fun W A1 h1 c1 (s : SlP W h1 A1 (a ++ b)) (k1 : (a ++ b).length ≤ c1) (k2 : c1 ≤ maxLen) => rrc_sort_any (a ++ b).length A1 h1 (a ++ b) c1 W (Nat.le_refl _) s k1 (by omega) k2)
  have PY := Lib.hid (fun W A1 A2 h1 h2 c1 c2 (s1 : SlP W h1 A1 (srt (a ++ b))) (s2 : SlP W h2 A2 (srt (a ++ b))) => rexact_any A1 A2 h1 h2 (srt (a ++ b)) (srt (a ++ b)) c1 c2 W s1 s2 (by rw [srt_length]; omega) (by rw [srt_length]; omega))
  simp only [beq_self_eq_true] at PY
  have dl : decide ((4096 : Int) < (a.length : Int) + (b.length : Int)) = false := by rw [decide_eq_false_iff_not]; omega
  have la' : a.length ≤ 5000 := la
  clear h1 h2 hbe hue HA HB sa sb ca cb ma mb ra rb hml hab
  go_enter Try.func4, Try.ntmps4
  go_wp2_with fail
  refine (large_any _ _ _ _).mono ?_; rintro e w1 ⟨rfl, rfl⟩
  rw [d1]
  go_wp2_with fail
  refine (large_any _ _ _ _).mono ?_; rintro e w1 ⟨rfl, rfl⟩
  rw [d2]
  go_wp2_with fail
  refine (P1.out _ (Below.refl _ _)).mono ?_; rintro e w1 (⟨hz, -⟩ | ⟨-, AU, cU, rfl, ⟨gU, sU⟩, b1, -⟩)
  · exact absurd rfl hz
  have B1 := Lib.hid b1
  have SU := Lib.hid sU
  clear b1 sU
  go_wp2_with fail
  refine (P2.out _ B1.out).mono ?_; rintro e w2 ⟨AM, cM, rfl, ⟨gM, sM⟩, b2, -⟩
  have B2 := Lib.hid (below_trans B1.out b2)
  have SM := Lib.hid sM
  have SU := Lib.hid (SU.out.below b2)
  clear b2 sM
  go_wp2_with fail
  refine (lives_any _).mono ?_; rintro e w3 ⟨rfl, b3⟩
  have B3 := Lib.hid (below_trans B2.out b3)
  have SM := Lib.hid (SM.out.below b3)
  have SU := Lib.hid (SU.out.below b3)
  clear b3
  go_wp2_with fail
  refine (P3.out _ B3.out).mono ?_; rintro e w4 ⟨rfl, b4⟩
  have B4 := Lib.hid (below_trans B3.out b4)
  have SM := Lib.hid (SM.out.below b4)
  have SU := Lib.hid (SU.out.below b4)
  clear b4
  go_wp2_with fail
  refine (P4.out _ B4.out).mono ?_; rintro e w5 ⟨rfl, b5⟩
  have B5 := Lib.hid (below_trans B4.out b5)
  have SM := Lib.hid (SM.out.below b5)
  have SU := Lib.hid (SU.out.below b5)
  clear b5
  go_wp2_with fail
  refine (P5.out _ B5.out).mono ?_; rintro e w6 ⟨rfl, b6⟩
  have B6 := Lib.hid (below_trans B5.out b6)
  have SM := Lib.hid (SM.out.below b6)
  have SU := Lib.hid (SU.out.below b6)
  clear b6
  go_wp2_with fail
  refine (P6.out _ B6.out).mono ?_; rintro e w7 ⟨rfl, b7⟩
  have B7 := Lib.hid (below_trans B6.out b7)
  have SM := Lib.hid (SM.out.below b7)
  have SU := Lib.hid (SU.out.below b7)
  clear b7
  go_wp2_with fail
  refine (PM.out _ B7.out).mono ?_; rintro e w8 ⟨AN, cN, rfl, ⟨gN, sN⟩, b8, -⟩
  have B8 := Lib.hid (below_trans B7.out b8)
  have SM := Lib.hid (SM.out.below b8)
  have SN := Lib.hid sN
  have SU := Lib.hid (SU.out.below b8)
  clear b8 sN
  go_wp2_with fail
  refine (PX.out _ _ _ _ _ _ _ SM.out SN.out).mono ?_; rintro e w9 ⟨rfl, b9⟩
  have B9 := Lib.hid (below_trans B8.out b9)
  have SU := Lib.hid (SU.out.below b9)
  clear b9 SM SN
  have SU9 := Lib.hid SU.out
  have bz := alloc_below w9 (.cells #[] 24)
  have BZ := Lib.hid (below_trans B9.out bz)
  have SU := Lib.hid (SU.out.below bz)
  have HRX := Lib.hid (HRA.out _ BZ.out)
  have HOX := Lib.hid (own_empty w9 24 2 w9.heap.size (Nat.le_refl _))
  have HSX := Lib.hid (show w9.heap.size ≤ (w9.alloc (.cells #[] 24)).heap.size from bz.size)
  have BW := Lib.hid bz
  clear bz
  go_wp2_with (first
    | (at_builtin; (refine wpList_appP (xs := []) (ys := a) _ rfl (.tmp 77) (.tmp 78) _ rfl Try.underlying22 info_rec3 HOX.out HRX.out c rfl rfl (by omega) HSX.out ?_); intro A5 c5 w5 o5 gr5; have O5 := Lib.hid o5; have B10 := Lib.hid (BW.out.grown (Grew.by_ gr5) HSX.out fun i hi => (World.ownsRow.lt HOX.out i hi).1); clear o5 gr5; rw [Nat.zero_add, List.nil_append] at O5; have HRY := Lib.hid (HRB.out _ (below_trans B9.out B10.out)); have HSY := Lib.hid (show w9.heap.size ≤ w5.heap.size from B10.out.size))
    | (at_builtin; (refine wpList_appP (xs := a) (ys := b) _ rfl (.tmp 79) (.tmp 80) _ rfl Try.underlying22 info_rec3 O5.out HRY.out d rfl rfl (by omega) HSY.out ?_); intro A6 c6 w6 o6 gr6; have O6 := Lib.hid o6; have B11 := Lib.hid (B10.out.grown (Grew.by_ gr6) HSY.out fun i hi => (World.ownsRow.lt O5.out i hi).1); clear o6 gr6))
  rw [← HAB.out] at O6
  obtain ⟨g6, -, s6, -⟩ := SlP.of_own O6.out
  have hcap := own_cap2 O6.out
  have S6 := Lib.hid s6
  have SU := Lib.hid (SU9.out.below B11.out)
  rw [← HAB.out]
  refine (PS.out _ _ _ _ S6.out hcap.1 hcap.2).mono ?_; rintro e w11 ⟨AS, cS, rfl, ⟨gS, sS⟩, b12, -⟩
  have B12 := Lib.hid (below_trans (below_trans B9.out B11.out) b12)
  have SU := Lib.hid (SU.out.below b12)
  have SS := Lib.hid sS
  clear b12 sS s6
  go_wp2_with fail
  refine (PY.out _ _ _ _ _ _ _ SU.out SS.out).mono ?_; rintro e w13 ⟨rfl, b13⟩
  have B13 := Lib.hid (below_trans B12.out b13)
  go_wp2
  go_ret
  exact ⟨rfl, B13.out⟩
theorem recBags_any (A : Option Addr) (h : Nat) (a : List (Int × Int)) (c : Nat) (B : Option Addr) (g : Nat) (b : List (Int × Int)) (d : Nat) (w : World) (ha : InPR w A h a c) (hb : InPR w B g b d) :
    Calls Try.prog 4 #[.slice A a.length c, .slice B b.length d] w (LawOk w) := by
  by_cases l : 5000 < a.length ∨ 5000 < b.length
  · exact bags_large A a c B b d w l
  · have la : a.length ≤ 5000 := by omega
    have lb : b.length ≤ 5000 := by omega
    by_cases h1 : mayE a = 0
    · by_cases h2 : mayE b = 0
      · by_cases hl : 4096 < a.length + b.length
        · exact bags_many A h a c B g b d w ha hb la lb h1 h2 hl
        · exact bags_ok A h a c B g b d w ha hb la lb h1 h2 (by omega)
      · exact bags_no_b A h a c B g b d w ha hb la lb h1 h2
    · exact bags_no_a A h a c B g b d w ha hb la lb h1
end Go.Proofs.Ytibhofdblfgkbaa
