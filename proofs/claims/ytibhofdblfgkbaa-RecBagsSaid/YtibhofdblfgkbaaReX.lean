/- Contracts of the document's records: Same. -/
import Derived.Test.YtibhofdblfgkbaaReF
import Derived.Test.YtibhofdblfgkbaaReL
namespace Go.Proofs.Ytibhofdblfgkbaa
open Go.RowKit Go.Sort

theorem sameD (a b : List (Int × Int)) (_ : a.length = b.length) : (srt a == srt b) = sameR a b := by
  rw [Bool.eq_iff_iff, sameR_iff, beq_iff_eq]
  exact ⟨fun e => (srt_perm a).symm.trans ((e ▸ List.Perm.refl _ : (srt a).Perm (srt b)).trans (srt_perm b)), fun e => srt_congr e⟩
set_option maxRecDepth 100000 in
set_option maxHeartbeats 2000000 in
theorem rrc_same_any (A : Option Addr) (h : Nat) (a : List (Int × Int)) (c : Nat) (B : Option Addr) (g : Nat) (b : List (Int × Int)) (d : Nat) (w : World) (ha : SlP w h A a) (hb : SlP w g B b) (hc : a.length ≤ c) (hd : b.length ≤ d) (hcm : c ≤ maxLen) (hdm : d ≤ maxLen) (la : a.length ≤ 10000) (lb : b.length ≤ 10000) :
    Calls Try.prog 33 #[.slice A a.length c, .slice B b.length d] w fun e w' => e = .returned (.bool (sameR a b)) ∧ Below w.heap.size w w' := by
  by_cases hl : a.length = b.length
  · have P1 := Lib.hid (rrc_sort_any a.length A h a c w (Nat.le_refl _) ha hc la hcm)
    have P2 := Lib.hid (fun W (k : Below w.heap.size w W) => rrc_sort_any b.length B g b d W (Nat.le_refl _) (hb.below k) hd lb hdm)
    have PX := Lib.hid (fun W A1 A2 h1 h2 c1 c2 (s1 : SlP W h1 A1 (srt a)) (s2 : SlP W h2 A2 (srt b)) => rexact_any A1 A2 h1 h2 (srt a) (srt b) c1 c2 W s1 s2 (by rw [srt_length]; omega) (by rw [srt_length]; omega))
    rw [sameD a b hl] at PX
    have d1 : ((a.length : Int) == (b.length : Int)) = true := by simp; omega
    clear ha hb hc hd hcm hdm hl
    obtain ⟨z, hz⟩ : ∃ z, sameR a b = z := ⟨_, rfl⟩
    rw [hz] at PX ⊢
    clear hz
    go_enter Try.func33, Try.ntmps33
    go_wp2_with fail
    refine P1.out.mono ?_; rintro e w1 ⟨A1, c1, rfl, ⟨h1, s1⟩, b1, -⟩
    have S1 := Lib.hid s1
    have B1 := Lib.hid b1
    clear s1 b1
    go_wp2_with fail
    refine (P2.out _ B1.out).mono ?_; rintro e w2 ⟨A2, c2, rfl, ⟨h2, s2⟩, b2, -⟩
    have S1 := Lib.hid (S1.out.below b2)
    have S2 := Lib.hid s2
    have B2 := Lib.hid (below_trans B1.out b2)
    clear s2 b2
    go_wp2_with fail
    refine (PX.out _ _ _ _ _ _ _ S1.out S2.out).mono ?_; rintro e w3 ⟨rfl, b3⟩
    have B3 := Lib.hid (below_trans B2.out b3)
    go_wp2
    go_ret
    exact ⟨rfl, B3.out⟩
  · have d1 : ((a.length : Int) == (b.length : Int)) = false := by simp; omega
    have e : sameR a b = false := by
      rw [← Bool.not_eq_true, sameR_iff]
      exact fun k => hl k.length_eq
    rw [e]
    clear ha hb hl e
    go_enter Try.func33, Try.ntmps33
    go_wp2
    go_ret
    exact ⟨rfl, Below.refl _ _⟩
end Go.Proofs.Ytibhofdblfgkbaa
