/- The law RecParts. -/
import Derived.Test.YtibhofdblfgkbaaReS
import Derived.Test.YtibhofdblfgkbaaReT
import Derived.Test.YtibhofdblfgkbaaOpS
namespace Go.Proofs.Ytibhofdblfgkbaa
open Go.RowKit Go.Sort

def LawOk (w : World) (e : Ending) (w' : World) : Prop := e = .returned (.bool true) ∧ Below w.heap.size w w'
set_option maxRecDepth 100000 in
theorem large_any (A : Option Addr) (n c : Nat) (w : World) : Calls Try.prog 15 #[.slice A n c] w fun e w' => e = .returned (.bool (decide ((5000 : Int) < (n : Int)))) ∧ w = w' := by
  go_enter Try.func15, Try.ntmps15
  go_wp2
  go_ret
  exact ⟨rfl, rfl⟩
theorem mayE_perm {a b : List (Int × Int)} (h : a.Perm b) : mayE a = mayE b := by
  unfold mayE
  rw [h.length_eq, show (a.any fun x => !okRec x) = (b.any fun x => !okRec x) from by
    rw [Bool.eq_iff_iff, List.any_eq_true, List.any_eq_true]
    exact ⟨fun ⟨x, hx, k⟩ => ⟨x, h.mem_iff.1 hx, k⟩, fun ⟨x, hx, k⟩ => ⟨x, h.mem_iff.2 hx, k⟩⟩]
def uniE (a b : List (Int × Int)) : Int := if bothE a b = 0 then mayE (a ++ b) else bothE a b
theorem bothE_zero (a b : List (Int × Int)) : bothE a b = 0 ↔ mayE a = 0 ∧ mayE b = 0 := by
  unfold bothE
  by_cases h : mayE a = 0
  · rw [if_pos h]; exact ⟨fun k => ⟨h, k⟩, fun k => k.2⟩
  · rw [if_neg h]; exact ⟨fun k => absurd k h, fun k => absurd k.1 h⟩
theorem uniE_comm (a b : List (Int × Int)) : uniE a b = 0 ↔ uniE b a = 0 := by
  have key : ∀ a b : List (Int × Int), uniE a b = 0 ↔ mayE a = 0 ∧ mayE b = 0 ∧ mayE (a ++ b) = 0 := fun a b => by
    unfold uniE
    by_cases h : bothE a b = 0
    · rw [if_pos h]
      rw [bothE_zero] at h
      exact ⟨fun k => ⟨h.1, h.2, k⟩, fun k => k.2.2⟩
    · rw [if_neg h]
      exact ⟨fun k => absurd k h, fun k => absurd ((bothE_zero a b).2 ⟨k.1, k.2.1⟩) h⟩
  rw [key, key, mayE_perm (List.perm_append_comm (l₁ := a) (l₂ := b))]
  exact ⟨fun ⟨h1, h2, h3⟩ => ⟨h2, h1, h3⟩, fun ⟨h1, h2, h3⟩ => ⟨h2, h1, h3⟩⟩
def UniAns (w : World) (a b : List (Int × Int)) (e : Ending) (w' : World) : Prop :=
  (uniE a b ≠ 0 ∧ e = .returned (.tuple #[.slice none 0 0, .int .i64 (uniE a b)]) ∧ Below w.heap.size w w') ∨
    (uniE a b = 0 ∧ ∃ A' c', e = .returned (.tuple #[.slice A' (srt (a ++ b)).length c', .int .i64 0]) ∧ RowS w (srt (a ++ b)) A' c' w')
theorem rc_union_any (A : Option Addr) (h : Nat) (a : List (Int × Int)) (c : Nat) (B : Option Addr) (g : Nat) (b : List (Int × Int)) (d : Nat) (w : World) (ha : SlP w h A a) (hb : SlP w g B b) (la : a.length ≤ 9223372036854775807) (lb : b.length ≤ 9223372036854775807) :
    Calls Try.prog 30 #[.slice A a.length c, .slice B b.length d] w (UniAns w a b) := by
  by_cases h0 : bothE a b = 0
  · have hu : uniE a b = mayE (a ++ b) := by unfold uniE; rw [if_pos h0]
    obtain ⟨h1, h2⟩ := (bothE_zero a b).1 h0
    refine (rc_union_ok A h a c B g b d w ha hb h1 h2).mono fun e w' => ?_
    rintro (⟨k1, k2, k3⟩ | ⟨k1, k2⟩)
    · exact .inl ⟨by rw [hu]; exact k1, by rw [hu]; exact k2, k3⟩
    · exact .inr ⟨by rw [hu]; exact k1, k2⟩
  · have hu : uniE a b = bothE a b := by unfold uniE; rw [if_neg h0]
    exact (rc_union_no A h a c B g b d w ha hb la lb h0).mono fun e w' ⟨k1, k2⟩ => .inl ⟨by rw [hu]; exact h0, by rw [hu]; exact k1, k2⟩
set_option maxRecDepth 100000 in
set_option maxHeartbeats 4000000 in
theorem parts_any (A : Option Addr) (h : Nat) (a : List (Int × Int)) (c : Nat) (B : Option Addr) (g : Nat) (b : List (Int × Int)) (d : Nat) (w : World) (ha : SlP w h A a) (hb : SlP w g B b) :
    Calls Try.prog 5 #[.slice A a.length c, .slice B b.length d] w (LawOk w) := by
  have HA := Lib.hid ha
  have HB := Lib.hid hb
  clear ha hb
  by_cases la : 5000 < a.length
  · have d1 : decide ((5000 : Int) < (a.length : Int)) = true := by rw [decide_eq_true_eq]; omega
    go_enter Try.func5, Try.ntmps5
    go_wp2_with fail
    refine (large_any _ _ _ _).mono ?_; rintro e w1 ⟨rfl, rfl⟩
    rw [d1]
    go_wp2_with fail
    refine (lives_any _).mono ?_; rintro e w2 ⟨rfl, b2⟩
    go_wp2
    go_ret
    exact ⟨rfl, b2⟩
  by_cases lb : 5000 < b.length
  · have d1 : decide ((5000 : Int) < (a.length : Int)) = false := by rw [decide_eq_false_iff_not]; omega
    have d2 : decide ((5000 : Int) < (b.length : Int)) = true := by rw [decide_eq_true_eq]; omega
    go_enter Try.func5, Try.ntmps5
    go_wp2_with fail
    refine (large_any _ _ _ _).mono ?_; rintro e w1 ⟨rfl, rfl⟩
    rw [d1]
    go_wp2_with fail
    refine (large_any _ _ _ _).mono ?_; rintro e w1 ⟨rfl, rfl⟩
    rw [d2]
    go_wp2_with fail
    refine (lives_any _).mono ?_; rintro e w2 ⟨rfl, b2⟩
    go_wp2
    go_ret
    exact ⟨rfl, b2⟩
  have d1 : decide ((5000 : Int) < (a.length : Int)) = false := by rw [decide_eq_false_iff_not]; omega
  have d2 : decide ((5000 : Int) < (b.length : Int)) = false := by rw [decide_eq_false_iff_not]; omega
  have P1 := Lib.hid (fun W (k : Below w.heap.size w W) => rc_union_any A h a c B g b d W (HA.out.below k) (HB.out.below k) (by omega) (by omega))
  have P2 := Lib.hid (fun W (k : Below w.heap.size w W) => rc_union_any B g b d A h a c W (HB.out.below k) (HA.out.below k) (by omega) (by omega))
  have hsy : srt (b ++ a) = srt (a ++ b) := srt_congr List.perm_append_comm
  by_cases h0 : uniE a b = 0
  · have h0' := (uniE_comm a b).1 h0
    have hma : mayE a = 0 ∧ mayE b = 0 ∧ mayE (a ++ b) = 0 := by
      unfold uniE at h0
      by_cases k : bothE a b = 0
      · rw [if_pos k] at h0
        exact ⟨((bothE_zero a b).1 k).1, ((bothE_zero a b).1 k).2, h0⟩
      · rw [if_neg k] at h0
        exact absurd h0 k
    have P3 := Lib.hid (fun W (k : Below w.heap.size w W) A' h' c' (s : SlP W h' A' (srt (a ++ b))) => rc_minus_ok A' h' (srt (a ++ b)) c' B g b d W s (HB.out.below k) ((mayE_perm (srt_perm _)).trans hma.2.2) hma.2.1)
    rw [minusR_union] at P3
    have hina : ∀ x ∈ a, InR x := fun x hx => okRec_in ((mayE_ok hma.1).1 x hx)
    have P4 := Lib.hid (fun W (k : Below w.heap.size w W) A' h' c' (s : SlP W h' A' (srt a)) => rc_same_any A' h' (srt a) c' A h a c W s (HA.out.below k) (by rw [srt_length]; omega) (by omega) (fun x hx => hina x ((srt_perm a).mem_iff.1 hx)) hina)
    rw [(sameR_iff (srt a) a).2 (srt_perm a)] at P4
    have hl : (srt (a ++ b)).length ≤ 10000 := by rw [srt_length, List.length_append]; omega
    have P5 := Lib.hid (fun W A' B' h' g' c' d' (s : SlP W h' A' (srt (a ++ b))) (t : SlP W g' B' (srt (a ++ b))) => rexact_any A' B' h' g' (srt (a ++ b)) (srt (a ++ b)) c' d' W s t (by omega) (by omega))
    have Z1 := Lib.hid h0
    have Z2 := Lib.hid h0'
    simp only [beq_self_eq_true] at P5
    clear h0 h0' hma hina hl HA HB
    go_enter Try.func5, Try.ntmps5
    go_wp2_with fail
    refine (large_any _ _ _ _).mono ?_; rintro e w1 ⟨rfl, rfl⟩
    rw [d1]
    go_wp2_with fail
    refine (large_any _ _ _ _).mono ?_; rintro e w1 ⟨rfl, rfl⟩
    rw [d2]
    clear d1 d2
    go_wp2_with fail
    refine (P1.out _ (Below.refl _ _)).mono ?_; rintro e w1 (⟨hz, -⟩ | ⟨-, A1, c1, rfl, ⟨⟨h1, s1⟩, b1, -⟩⟩)
    · exact absurd Z1.out hz
    have B1 := Lib.hid b1
    have S1 := Lib.hid s1
    clear s1 b1
    go_wp2_with fail
    refine (P2.out _ B1.out).mono ?_; rintro e w2 (⟨hz, -⟩ | ⟨-, A2, c2, rfl, ⟨⟨h2, s2⟩, b2, -⟩⟩)
    · exact absurd Z2.out hz
    rw [hsy] at s2 ⊢
    have B2 := Lib.hid (below_trans B1.out b2)
    have S2 := Lib.hid s2
    have S12 := Lib.hid (S1.out.below b2)
    clear s2 b2 hsy
    generalize srt (a ++ b) = u at S2 S12 P3 P5 ⊢
    generalize srt a = sa at P3 P4
    clear P1 P2 S1 Z1 Z2
    go_wp2_with fail
    refine (lives_any _).mono ?_; rintro e w3 ⟨rfl, b3⟩
    have B3 := Lib.hid (below_trans B2.out b3)
    have S13 := Lib.hid (S12.out.below b3)
    have S23 := Lib.hid (S2.out.below b3)
    clear b3
    go_wp2_with fail
    refine (P3.out _ B3.out _ _ _ S13.out).mono ?_; rintro e w4 ⟨A4, c4, rfl, ⟨⟨h4, s4⟩, b4, -⟩⟩
    have B4 := Lib.hid (below_trans B3.out b4)
    have S14 := Lib.hid (S13.out.below b4)
    have S24 := Lib.hid (S23.out.below b4)
    have S4 := Lib.hid s4
    clear s4 b4
    go_wp2_with fail
    refine (P4.out _ B4.out _ _ _ S4.out).mono ?_; rintro e w5 ⟨rfl, b5⟩
    have B5 := Lib.hid (below_trans B4.out b5)
    have S15 := Lib.hid (S14.out.below b5)
    have S25 := Lib.hid (S24.out.below b5)
    clear b5
    go_wp2_with fail
    refine (P5.out _ _ _ _ _ _ _ S15.out S25.out).mono ?_; rintro e w6 ⟨rfl, b6⟩
    go_wp2
    go_ret
    exact ⟨rfl, below_trans B5.out b6⟩
  · have h0' : uniE b a ≠ 0 := fun e => h0 ((uniE_comm a b).2 e)
    have Z1 := Lib.hid h0
    have Z2 := Lib.hid h0'
    have d3 : (uniE a b == 0) = false := by simpa using h0
    have d4 : (uniE b a == 0) = false := by simpa using h0'
    have e3 : (uniE a b != 0) = true := by rw [bne, d3]; rfl
    unfold UniAns at P1 P2
    generalize uniE a b = z at P1 Z1 d3 e3
    generalize uniE b a = y at P2 Z2 d4
    clear h0 h0' hsy HA HB
    go_enter Try.func5, Try.ntmps5
    go_wp2_with fail
    refine (large_any _ _ _ _).mono ?_; rintro e w1 ⟨rfl, rfl⟩
    rw [d1]
    go_wp2_with fail
    refine (large_any _ _ _ _).mono ?_; rintro e w1 ⟨rfl, rfl⟩
    rw [d2]
    clear d1 d2
    go_wp2_with fail
    refine (P1.out _ (Below.refl _ _)).mono ?_; rintro e w1 (⟨-, rfl, b1⟩ | ⟨hz, -⟩)
    · have B1 := Lib.hid b1
      clear b1
      go_wp2_with fail
      refine (P2.out _ B1.out).mono ?_; rintro e w2 (⟨-, rfl, b2⟩ | ⟨hz, -⟩)
      · have B2 := Lib.hid (below_trans B1.out b2)
        clear b2
        go_wp2_with fail
        refine (lives_any _).mono ?_; rintro e w3 ⟨rfl, b3⟩
        have B3 := Lib.hid (below_trans B2.out b3)
        clear b3
        go_wp2_with fail
        refine (lives_any _).mono ?_; rintro e w4 ⟨rfl, b4⟩
        go_wp2
        go_ret
        exact ⟨rfl, below_trans B3.out b4⟩
      · exact absurd hz Z2.out
    · exact absurd hz Z1.out
theorem recParts_any (A : Option Addr) (g : Nat) (a : List (Int × Int)) (c : Nat) (B : Option Addr) (h : Nat) (b : List (Int × Int)) (d : Nat) (w : World) (ha : InP w A g a c) (hb : InP w B h b d) :
    Calls Try.prog 5 #[.slice A a.length c, .slice B b.length d] w (LawOk w) := parts_any A g a c B h b d w ha.1 hb.1
end Go.Proofs.Ytibhofdblfgkbaa
