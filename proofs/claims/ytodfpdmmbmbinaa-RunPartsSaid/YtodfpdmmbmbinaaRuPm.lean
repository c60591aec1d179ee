/- Mathematics of entries in order, moment by moment. -/
import Derived.Test.YtodfpdmmbmbinaaRuF
namespace Go.Proofs.Ytodfpdmmbmbinaa
open Go.RowKit Go.Sort

theorem filter_or {α : Type} (P Q : α → Bool) : ∀ (l : List α), l.Pairwise (fun a b => ¬ (Q a = true ∧ P b = true)) → (∀ x ∈ l, ¬ (P x = true ∧ Q x = true)) → l.filter (fun x => P x || Q x) = l.filter P ++ l.filter Q
  | [], _, _ => rfl
  | x :: l, hp, hd => by
    obtain ⟨h1, h2⟩ := List.pairwise_cons.1 hp
    have ih := filter_or P Q l h2 fun y hy => hd y (List.mem_cons.2 (.inr hy))
    have hx := hd x (List.mem_cons.2 (.inl rfl))
    cases hP : P x with
    | true =>
      have hQ : Q x = false := by
        cases hQ : Q x with
        | false => rfl
        | true => exact absurd ⟨hP, hQ⟩ hx
      rw [List.filter_cons_of_pos (by simp [hP]), List.filter_cons_of_pos (by simp [hP]), List.filter_cons_of_neg (by simp [hQ]), ih, List.cons_append]
    | false =>
      cases hQ : Q x with
      | false => rw [List.filter_cons_of_neg (by simp [hP, hQ]), List.filter_cons_of_neg (by simp [hP]), List.filter_cons_of_neg (by simp [hQ]), ih]
      | true =>
        have h0 : l.filter P = [] := by
          rw [List.filter_eq_nil_iff]
          intro y hy hPy
          exact h1 y hy ⟨hQ, hPy⟩
        rw [h0, List.nil_append] at ih
        rw [List.filter_cons_of_pos (by simp [hQ]), List.filter_cons_of_neg (by simp [hP]), List.filter_cons_of_pos (by simp [hQ]), ih, h0, List.nil_append]
/-- Is the entry at a moment of these? -/
def inMo (p : List En) (x : En) : Bool := p.any fun y => y.1 == x.1
def sumTo (s : List En) (i : Nat) : List En := s.filter (inMo (s.take i))
theorem sumTo_zero (s : List En) : sumTo s 0 = [] := by
  unfold sumTo
  rw [List.filter_eq_nil_iff]
  intro x _ h
  cases h
theorem sumTo_all (s : List En) : sumTo s s.length = s := by
  unfold sumTo
  rw [List.take_length, List.filter_eq_self]
  intro x hx
  unfold inMo
  rw [List.any_eq_true]
  exact ⟨x, hx, by simp⟩
theorem inMo_succ (s : List En) (i : Nat) (x : En) (h : s[i]? = some x) : inMo (s.take (i + 1)) = fun y => inMo (s.take i) y || (x.1 == y.1) := by
  funext y
  unfold inMo
  rw [List.take_add_one, h, List.any_append]
  simp
theorem sumTo_same (s : List En) (i : Nat) (x y : En) (hx : s[i]? = some x) (hy : s[i + 1]? = some y) (he : y.1 = x.1) : sumTo s (i + 2) = sumTo s (i + 1) := by
  unfold sumTo
  rw [inMo_succ s (i + 1) y hy]
  congr 1
  funext z
  rw [inMo_succ s i x hx, he]
  show ((inMo (s.take i) z || (x.1 == z.1)) || (x.1 == z.1)) = (inMo (s.take i) z || (x.1 == z.1))
  cases inMo (s.take i) z <;> cases (x.1 == z.1) <;> rfl
theorem leE_mo {a b : En} (h : leE a b = true) : a.1.1 < b.1.1 ∨ (a.1.1 = b.1.1 ∧ a.1.2 ≤ b.1.2) := by
  rw [leE_lt] at h
  have : ltE b a = false := by simpa using h
  rw [ltE_not] at this
  omega
theorem sumTo_new (s : List En) (hs : SrtPE s) (i : Nat) (y : En) (hy : s[i]? = some y) (hn : ∀ x, i ≠ 0 → s[i - 1]? = some x → y.1 ≠ x.1) : sumTo s (i + 1) = sumTo s i ++ s.filter (fun x => x.1 == y.1) := by
  have key : ∀ z, inMo (s.take i) z = true → z.1 ≠ y.1 := by
    intro z hz e
    unfold inMo at hz
    obtain ⟨u, hu, hue⟩ := List.any_eq_true.1 hz
    have hue : u.1 = z.1 := by simpa using hue
    obtain ⟨j, hj⟩ := List.getElem?_of_mem hu
    have hj2 := hj
    rw [List.getElem?_take] at hj
    split at hj
    · rename_i hji
      have hil := (List.getElem?_eq_some_iff.1 hy).1
      obtain ⟨x, hx⟩ : ∃ x, s[i - 1]? = some x := ⟨_, List.getElem?_eq_getElem (by omega)⟩
      have h1 := hn x (by omega) hx
      have hp := List.pairwise_iff_getElem.1 hs
      have hxy : leE x y = true := by
        have := hp (i - 1) i (by omega) hil (by omega)
        rw [List.getElem?_eq_getElem (by omega)] at hx
        rw [List.getElem?_eq_getElem hil] at hy
        injection hx with hx
        injection hy with hy
        rw [hx, hy] at this
        exact this
      have hux : u = x ∨ leE u x = true := by
        by_cases hj1 : j = i - 1
        · left
          rw [hj1, hx] at hj
          injection hj with hj
          exact hj.symm
        · right
          have := hp j (i - 1) (by omega) (by omega) (by omega)
          rw [List.getElem?_eq_getElem (by omega)] at hx hj
          injection hx with hx
          injection hj with hj
          rw [hx, hj] at this
          exact this
      have e2 : u.1 = y.1 := hue.trans e
      rcases hux with rfl | hux
      · exact h1 e2.symm
      · have a1 := leE_mo hux
        have a2 := leE_mo hxy
        rw [e2] at a1
        apply h1
        apply Prod.ext <;> omega
    · cases hj
  unfold sumTo
  rw [inMo_succ s i y hy]
  have hq : (fun z => inMo (s.take i) z || (y.1 == z.1)) = fun z => inMo (s.take i) z || (z.1 == y.1) := by
    funext z
    congr 1
    rw [Bool.eq_iff_iff, beq_iff_eq, beq_iff_eq]
    exact eq_comm
  rw [hq]
  refine filter_or (inMo (s.take i)) (fun z => z.1 == y.1) s ?_ ?_
  · refine List.Pairwise.imp_of_mem (fun {a b} ha hb hab => ?_) hs
    rintro ⟨h1, h2⟩
    have e1 : a.1 = y.1 := by simpa using h1
    have hne := key b h2
    unfold inMo at h2
    obtain ⟨u, hu, hue⟩ := List.any_eq_true.1 h2
    have hue : u.1 = b.1 := by simpa using hue
    obtain ⟨j, hj⟩ := List.getElem?_of_mem hu
    rw [List.getElem?_take] at hj
    split at hj
    · rename_i hji
      have hil := (List.getElem?_eq_some_iff.1 hy).1
      have hp := List.pairwise_iff_getElem.1 hs
      have huy := hp j i (by omega) hil (by omega)
      rw [List.getElem?_eq_getElem (by omega)] at hj
      rw [List.getElem?_eq_getElem hil] at hy
      injection hj with hj
      injection hy with hy
      rw [hj, hy] at huy
      have a1 := leE_mo huy
      have a2 := leE_mo hab
      rw [hue] at a1
      rw [e1] at a2
      apply hne
      apply Prod.ext <;> omega
    · cases hj
  · rintro x hx ⟨h1, h2⟩
    exact key x h1 (by simpa using h2)
theorem srt_filter (l : List En) (p : En → Bool) : srtE (l.filter p) = (srtE l).filter p := by
  refine (srtE_unique ((srtE_sorted l).filter p) ?_).symm
  exact (srtE_perm l).filter p
end Go.Proofs.Ytodfpdmmbmbinaa
