/- Contracts of package rec: May, Sort, of both sides. -/
import Derived.Test.YtibhofdblfgkbaaReP
namespace Go.Proofs.Ytibhofdblfgkbaa
open Go.RowKit Go.Sort

/-- What may be said of a bag. -/
def mayE (l : List (Int × Int)) : Int := if l.any (fun x => !okRec x) = true then 30 else if 4096 < l.length then 31 else 0
set_option maxRecDepth 100000 in
set_option maxHeartbeats 1000000 in
theorem rc_may_any (A : Option Addr) (h : Nat) (l : List (Int × Int)) (c : Nat) (w : World) (hl : SlP w h A l) (hn : l.length ≤ 9223372036854775807) :
    Calls Try.prog 21 #[.slice A l.length c] w fun e w' => e = .returned (.int .i64 (mayE l)) ∧ Below w.heap.size w w' := by
  have eg : ∀ args w, (callFunc 77 args).run Try.prog w = .ok (.enter 77 args) w := enters_of Try.func77 (by kernel_rfl) rfl
  have P1 := Lib.hid (containsRec_any (fun x => !okRec x) 77 #[] eg A h l c w (rwrong_pred w) hl hn)
  clear hl eg
  cases hw : (l.any fun x => !okRec x)
  · rw [hw] at P1
    by_cases hb : 4096 < l.length
    · have d1 : decide ((4096 : Int) < (l.length : Int)) = true := by simp; omega
      have hm : mayE l = 31 := by unfold mayE; rw [hw, if_neg (by simp), if_pos hb]
      rw [hm]
      clear hm hw hb
      go_enter Try.func21, Try.ntmps21
      go_wp2_with fail
      refine P1.out.mono ?_; rintro e w0 ⟨rfl, b0⟩
      go_wp2
      go_ret
      exact ⟨rfl, b0⟩
    · have d1 : decide ((4096 : Int) < (l.length : Int)) = false := by simp; omega
      have hm : mayE l = 0 := by unfold mayE; rw [hw, if_neg (by simp), if_neg hb]
      rw [hm]
      clear hm hw hb
      go_enter Try.func21, Try.ntmps21
      go_wp2_with fail
      refine P1.out.mono ?_; rintro e w0 ⟨rfl, b0⟩
      go_wp2
      go_ret
      exact ⟨rfl, b0⟩
  · rw [hw] at P1
    have hm : mayE l = 30 := by unfold mayE; rw [hw, if_pos rfl]
    rw [hm]
    clear hm hw
    go_enter Try.func21, Try.ntmps21
    go_wp2_with fail
    refine P1.out.mono ?_; rintro e w0 ⟨rfl, b0⟩
    go_wp2
    go_ret
    exact ⟨rfl, b0⟩
/-- A bag in order, in a row of one's own. -/
def RowAns (w : World) (l : List (Int × Int)) (A' : Option Addr) (c' : Nat) (w' : World) : Prop :=
  (∃ h, SlP w' h A' (sortMo l)) ∧ Below w.heap.size w w' ∧ (l ≠ [] → ∃ g, A' = some ⟨g, 0, none⟩ ∧ w.heap.size ≤ g ∧ l.length ≤ c' ∧ c' ≤ maxLen)
set_option maxRecDepth 100000 in
set_option maxHeartbeats 1000000 in
theorem inOrder_any (A : Option Addr) (h : Nat) (l : List (Int × Int)) (c : Nat) (w : World) (hl : SlP w h A l) (hn : l.length ≤ 5000) :
    Calls Try.prog 73 #[.slice A l.length c] w fun e w' => ∃ A' c', e = .returned (.slice A' l.length c') ∧ RowAns w l A' c' w' := by
  have P2 := Lib.hid (cloneRec_any A h l c w hl hn)
  clear hl
  go_enter Try.func73, Try.ntmps73
  go_wp2_with fail
  refine P2.out.mono ?_; rintro e w1 ⟨A', c', rfl, b1, hc⟩
  have P3 := Lib.hid (sortCopyRec_any w l A' c' w1 hn hc b1)
  have HC := Lib.hid hc
  clear hc b1
  go_wp2_with fail
  refine P3.out.mono ?_; rintro e w2 ⟨rfl, hS, b2⟩
  go_wp2
  go_ret
  refine ⟨A', c', rfl, hS, b2, fun h0 => ?_⟩
  obtain ⟨g, cur, e1, hg, -, -, h1, h2⟩ := HC.out h0
  exact ⟨g, e1, hg, h1, h2⟩
theorem mayE_ok {l : List (Int × Int)} (h : mayE l = 0) : (∀ x ∈ l, okRec x = true) ∧ l.length ≤ 4096 := by
  unfold mayE at h
  split at h
  · cases h
  · rename_i h1
    split at h
    · cases h
    · refine ⟨fun x hx => ?_, by omega⟩
      have h2 := List.any_eq_false.1 (Bool.eq_false_iff.2 h1) x hx
      simpa using h2
theorem mayE_cases (l : List (Int × Int)) : mayE l = 0 ∨ mayE l = 30 ∨ mayE l = 31 := by
  unfold mayE
  split
  · exact .inr (.inl rfl)
  · split
    · exact .inr (.inr rfl)
    · exact .inl rfl
set_option maxRecDepth 100000 in
set_option maxHeartbeats 1000000 in
theorem rc_sort_any (A : Option Addr) (h : Nat) (l : List (Int × Int)) (c : Nat) (w : World) (hl : SlP w h A l) (hn : l.length ≤ 9223372036854775807) :
    Calls Try.prog 18 #[.slice A l.length c] w fun e w' => (mayE l ≠ 0 ∧ e = .returned (.tuple #[.slice none 0 0, .int .i64 (mayE l)]) ∧ Below w.heap.size w w') ∨ (mayE l = 0 ∧ ∃ A' c', e = .returned (.tuple #[.slice A' l.length c', .int .i64 0]) ∧ RowAns w l A' c' w') := by
  have P1 := Lib.hid (rc_may_any A h l c w hl hn)
  have HL := Lib.hid hl
  clear hl
  have hcs := mayE_cases l
  by_cases h0 : mayE l = 0
  · have hok := mayE_ok h0
    rw [h0] at P1
    have H0 := Lib.hid h0
    clear h0 hcs
    go_enter Try.func18, Try.ntmps18
    go_wp2_with fail
    refine P1.out.mono ?_; rintro e w0 ⟨rfl, b0⟩
    have P2 := Lib.hid (inOrder_any A h l c w0 (HL.out.below b0) (by omega))
    have B0 := Lib.hid b0
    clear b0
    go_wp2_with fail
    refine P2.out.mono ?_; rintro e w1 ⟨A', c', rfl, hS, b1, hr⟩
    go_wp2
    go_ret2
    exact .inr ⟨H0.out, A', c', rfl, hS, below_trans B0.out b1, fun hne => by
      obtain ⟨g, e1, hg, h1⟩ := hr hne
      exact ⟨g, e1, Nat.le_trans B0.out.size hg, h1⟩⟩
  · have d1 : (mayE l == 0) = false := by simpa using h0
    have H0 := Lib.hid h0
    clear h0 hcs
    generalize mayE l = z at P1 d1 H0
    go_enter Try.func18, Try.ntmps18
    go_wp2_with fail
    refine P1.out.mono ?_; rintro e w0 ⟨rfl, b0⟩
    go_wp2
    go_ret2
    exact .inl ⟨H0.out, rfl, b0⟩
set_option maxRecDepth 100000 in
set_option maxHeartbeats 1000000 in
theorem rrc_may_any (A : Option Addr) (h : Nat) (l : List (Int × Int)) (c : Nat) (w : World) (hl : SlP w h A l) (hn : l.length ≤ 9223372036854775807) :
    Calls Try.prog 17 #[.slice A l.length c] w fun e w' => e = .returned (.int .i64 (mayE l)) ∧ Below w.heap.size w w' := by
  have HL := Lib.hid hl
  clear hl
  go_enter Try.func17, Try.ntmps17
  go_wp2_with fail
  go_loopw [3] (fun i wr => ∃ k : Nat, k ≤ l.length ∧ i = .int .i64 (k : Int) ∧ (∀ x ∈ l.take k, okRec x = true) ∧ Below w.heap.size w wr) (fun i _ => l.length - (intOf i).toNat)
  case atStart => exact ⟨0, Nat.zero_le _, rfl, by simp, Below.refl _ _⟩
  case round =>
    obtain ⟨k, hk, rfl, hall, hb⟩ := hrel
    have HB := Lib.hid hb
    have HALL := Lib.hid hall
    clear hb hall
    by_cases hlt : k < l.length
    · obtain ⟨y, hy⟩ : ∃ y, l[k]? = some y := ⟨_, List.getElem?_eq_getElem hlt⟩
      have HY := Lib.hid hy
      obtain ⟨y1, y2⟩ := y
      obtain ⟨-, o1, eA, p0, p1⟩ := (HL.out.below HB.out).at_ hy
      subst eA
      have PK := Lib.hid (fun W => rrc_check_any y1 y2 W)
      clear hy
      cases hok : okRec (y1, y2)
      · rw [hok] at PK
        have hm : mayE l = 30 := by
          unfold mayE
          rw [if_pos]
          rw [List.any_eq_true]
          exact ⟨(y1, y2), List.mem_of_getElem? HY.out, by rw [hok]; rfl⟩
        have HM := Lib.hid hm
        clear hok hm
        go_wp2_with fail
        refine (PK.out _).mono ?_; rintro e w8 ⟨rfl, b8⟩
        go_wp2
        go_ret
        exact ⟨ret_int' HM.out.symm, below_trans HB.out b8⟩
      · rw [hok] at PK
        have HOK := Lib.hid hok
        clear hok
        go_wp2_with fail
        refine (PK.out _).mono ?_; rintro e w8 ⟨rfl, b8⟩
        go_wp2
        refine ⟨⟨k + 1, by omega, by go_num, fun x hx => ?_, below_trans HB.out b8⟩, by simp [intOf]; omega⟩
        rw [List.take_add_one, HY.out, List.mem_append] at hx
        rcases hx with hx | hx
        · exact HALL.out x hx
        · rw [show x = (y1, y2) by simpa using hx]
          exact HOK.out
    · obtain rfl : k = l.length := by omega
      have hall := HALL.out
      rw [List.take_length] at hall
      have ha : (l.any fun x => !okRec x) = false := by
        rw [List.any_eq_false]
        intro x hx
        rw [hall x hx]
        simp
      by_cases hb : 4096 < l.length
      · have d1 : decide ((4096 : Int) < (l.length : Int)) = true := by simp; omega
        have hm : mayE l = 31 := by unfold mayE; rw [ha, if_neg (by simp), if_pos hb]
        have HM := Lib.hid hm
        clear hm ha hb hall
        go_wp2
        go_ret
        exact ⟨ret_int' HM.out.symm, HB.out⟩
      · have d1 : decide ((4096 : Int) < (l.length : Int)) = false := by simp; omega
        have hm : mayE l = 0 := by unfold mayE; rw [ha, if_neg (by simp), if_neg hb]
        have HM := Lib.hid hm
        clear hm ha hb hall
        go_wp2
        go_ret
        exact ⟨ret_int' HM.out.symm, HB.out⟩
end Go.Proofs.Ytibhofdblfgkbaa
