/- The mathematics of bags: no program. -/
import Derived.Test.YtfilelgbffbnlaaNumWd
namespace Go.Proofs.Ytfilelgbffbnlaa

def leR (x y : Int × Int) : Bool := decide (x.1 < y.1 ∨ (x.1 = y.1 ∧ x.2 ≤ y.2))
theorem leR_iff (x y : Int × Int) : leR x y = true ↔ (x.1 < y.1 ∨ (x.1 = y.1 ∧ x.2 ≤ y.2)) := by unfold leR; simp
theorem leR_not (x y : Int × Int) : leR x y = false ↔ (y.1 < x.1 ∨ (x.1 = y.1 ∧ y.2 < x.2)) := by
  rw [Bool.eq_false_iff, ne_eq, leR_iff]; omega
theorem leR_trans (a b c : Int × Int) (h : leR a b = true) (k : leR b c = true) : leR a c = true := by rw [leR_iff] at *; omega
theorem leR_total (a b : Int × Int) : (leR a b || leR b a) = true := by
  cases h : leR a b
  · rw [leR_not] at h
    rw [Bool.false_or, leR_iff]
    omega
  · rfl
theorem leR_anti {a b : Int × Int} (h : leR a b = true) (k : leR b a = true) : a = b := by
  rw [leR_iff] at *
  exact Prod.ext (by omega) (by omega)
def srt (l : List (Int × Int)) : List (Int × Int) := l.mergeSort leR
def SrtP (l : List (Int × Int)) : Prop := l.Pairwise fun a b => leR a b = true
theorem srt_perm (l : List (Int × Int)) : (srt l).Perm l := List.mergeSort_perm l leR
theorem srt_length (l : List (Int × Int)) : (srt l).length = l.length := (srt_perm l).length_eq
theorem srt_sorted (l : List (Int × Int)) : SrtP (srt l) := List.pairwise_mergeSort leR_trans leR_total l
theorem SrtP.same {a b : List (Int × Int)} (ha : SrtP a) (hb : SrtP b) (h : a.Perm b) : a = b :=
  List.Perm.eq_of_pairwise (le := fun a b => leR a b = true) (fun _ _ _ _ h1 h2 => leR_anti h1 h2) ha hb h
theorem srt_unique {l m : List (Int × Int)} (h : SrtP m) (hp : m.Perm l) : m = srt l := h.same (srt_sorted l) (hp.trans (srt_perm l).symm)
theorem srt_self {l : List (Int × Int)} (h : SrtP l) : srt l = l := (srt_unique h (List.Perm.refl _)).symm
theorem srt_short {l : List (Int × Int)} (h : l.length < 2) : srt l = l := srt_self (by
  match l, h with
  | [], _ => exact List.Pairwise.nil
  | [a], _ => exact List.pairwise_singleton _ a)
theorem srt_congr {a b : List (Int × Int)} (h : a.Perm b) : srt a = srt b := (srt_sorted a).same (srt_sorted b) ((srt_perm a).trans (h.trans (srt_perm b).symm))
theorem srt_eq_iff (a b : List (Int × Int)) : srt a = srt b ↔ a.Perm b :=
  ⟨fun h => (srt_perm a).symm.trans (h ▸ srt_perm b), srt_congr⟩
theorem merge_srt (a b : List (Int × Int)) : (srt a).merge (srt b) leR = srt (a ++ b) :=
  srt_unique (List.pairwise_merge leR_trans leR_total _ _ (srt_sorted a) (srt_sorted b)) ((List.merge_perm_append leR).trans ((srt_perm a).append (srt_perm b)))
theorem srt_srt (a b : List (Int × Int)) : srt (srt a ++ b) = srt (a ++ b) := srt_congr ((srt_perm a).append_right b)

/-- What is left of records, of which so many are taken out. -/
def takeOut : List (Int × Int) → (Int × Int → Nat) → List (Int × Int)
  | [], _ => []
  | x :: xs, t => if 0 < t x then takeOut xs (fun r => if r = x then t r - 1 else t r) else x :: takeOut xs t
theorem takeOut_count (r : Int × Int) : ∀ (xs : List (Int × Int)) (t : Int × Int → Nat), (takeOut xs t).count r = xs.count r - t r
  | [], t => by simp [takeOut]
  | x :: xs, t => by
    unfold takeOut
    by_cases h : 0 < t x
    · rw [if_pos h, takeOut_count r xs, List.count_cons]
      by_cases e : r = x
      · subst e
        simp
        omega
      · rw [if_neg e]
        have : (x == r) = false := by simpa using fun h => e h.symm
        simp [this]
    · rw [if_neg h, List.count_cons, List.count_cons, takeOut_count r xs]
      by_cases e : r = x
      · subst e
        simp
        omega
      · have : (x == r) = false := by simpa using fun h => e h.symm
        simp [this]
theorem takeOut_sub : ∀ (xs : List (Int × Int)) (t : Int × Int → Nat), (takeOut xs t).Sublist xs
  | [], t => by simp [takeOut]
  | x :: xs, t => by
    unfold takeOut
    split
    · exact (takeOut_sub xs _).cons _
    · exact (takeOut_sub xs _).cons_cons _
def cnt (l : List (Int × Int)) (r : Int × Int) : Nat := l.count r
/-- One bag without another one. -/
def minusR (a b : List (Int × Int)) : List (Int × Int) := takeOut (srt a) (cnt b)
theorem minusR_count (a b : List (Int × Int)) (r : Int × Int) : (minusR a b).count r = a.count r - b.count r := by
  unfold minusR
  rw [takeOut_count, (srt_perm a).count_eq]
  rfl
theorem minusR_sorted (a b : List (Int × Int)) : SrtP (minusR a b) := List.Pairwise.sublist (takeOut_sub _ _) (srt_sorted a)
theorem minusR_length (a b : List (Int × Int)) : (minusR a b).length ≤ a.length := by
  have := (takeOut_sub (srt a) (cnt b)).length_le
  rw [srt_length] at this
  exact this
theorem minusR_ok (a b m : List (Int × Int)) (h : SrtP m) (hc : ∀ r, m.count r = a.count r - b.count r) : m = minusR a b :=
  h.same (minusR_sorted a b) (List.perm_iff_count.2 fun r => by rw [hc, minusR_count])
theorem minusR_union (a b : List (Int × Int)) : minusR (srt (a ++ b)) b = srt a := by
  symm
  refine minusR_ok _ _ _ (srt_sorted a) fun r => ?_
  rw [(srt_perm a).count_eq, (srt_perm (a ++ b)).count_eq, List.count_append]
  omega
/-- The document's way: both in order, side by side. -/
def minusS : List (Int × Int) → List (Int × Int) → List (Int × Int)
  | [], _ => []
  | x :: xs, ys => if (ys.dropWhile fun y => !leR x y).head? = some x then minusS xs (ys.dropWhile fun y => !leR x y).tail else x :: minusS xs (ys.dropWhile fun y => !leR x y)
theorem minusS_sub : ∀ (xs ys : List (Int × Int)), (minusS xs ys).Sublist xs
  | [], _ => by simp [minusS]
  | x :: xs, ys => by
    unfold minusS
    split
    · exact (minusS_sub xs _).cons _
    · exact (minusS_sub xs _).cons_cons _
theorem minusS_count (r : Int × Int) : ∀ (xs ys : List (Int × Int)), SrtP xs → SrtP ys → (minusS xs ys).count r = xs.count r - ys.count r
  | [], ys, _, _ => by simp [minusS]
  | x :: xs, ys, hx, hy => by
    have hx1 := List.pairwise_cons.1 hx
    have hsplit := (List.takeWhile_append_dropWhile (p := fun y => !leR x y) (l := ys)).symm
    have htw : ∀ y ∈ ys.takeWhile (fun y => !leR x y), leR x y = false := fun y h => by
      have := List.all_takeWhile (p := fun y => !leR x y) (l := ys)
      rw [List.all_eq_true] at this
      simpa using this y h
    have hsd : SrtP (ys.dropWhile fun y => !leR x y) := List.Pairwise.sublist (List.dropWhile_sublist _) hy
    have hhd : ∀ y, (ys.dropWhile fun y => !leR x y).head? = some y → leR x y = true := fun y h => by
      have := List.head?_dropWhile_not (fun y => !leR x y) ys
      rw [h] at this
      simpa using this
    unfold minusS
    generalize ys.takeWhile (fun y => !leR x y) = d at hsplit htw
    generalize (ys.dropWhile fun y => !leR x y) = zs at hsplit hsd hhd
    subst hsplit
    by_cases hd : r ∈ d
    · have hr := htw r hd
      have h0 : (x :: xs).count r = 0 := by
        rw [List.count_eq_zero]
        intro hm
        rcases List.mem_cons.1 hm with e | hm
        · subst e
          rw [leR_not] at hr
          omega
        · have := hx1.1 r hm
          rw [hr] at this
          cases this
      have hle : ∀ l : List (Int × Int), l.Sublist (x :: xs) → l.count r = 0 := fun l hl => by
        have := hl.count_le r
        omega
      rw [h0, Nat.zero_sub]
      split
      · exact hle _ ((minusS_sub xs _).cons _)
      · exact hle _ ((minusS_sub xs _).cons_cons _)
    · have e0 : (d ++ zs).count r = zs.count r := by rw [List.count_append, List.count_eq_zero.2 hd, Nat.zero_add]
      rw [e0]
      by_cases hh : zs.head? = some x
      · rw [if_pos hh]
        match zs, hh with
        | z :: t, hh =>
          obtain rfl : z = x := by simpa using hh
          have ht : SrtP t := (List.pairwise_cons.1 hsd).2
          show (minusS xs t).count r = _
          rw [minusS_count r xs t hx1.2 ht, List.count_cons, List.count_cons]
          split <;> omega
      · rw [if_neg hh, List.count_cons, minusS_count r xs zs hx1.2 hsd, List.count_cons]
        by_cases e : r = x
        · subst e
          have hz : zs.count r = 0 := by
            rw [List.count_eq_zero]
            intro hm
            match zs, hh, hm with
            | z :: t, hh, hm =>
              have h1 := hhd z rfl
              have hne : z ≠ r := fun e => hh (by rw [e]; rfl)
              rcases List.mem_cons.1 hm with e | hm
              · exact hne e.symm
              · have h2 := (List.pairwise_cons.1 hsd).1 r hm
                exact hne (leR_anti h2 h1)
          rw [hz]
          simp
        · have : (x == r) = false := by simpa using fun h => e h.symm
          simp [this]
theorem minusS_eq (a b : List (Int × Int)) : minusS (srt a) (srt b) = minusR a b :=
  minusR_ok a b _ (List.Pairwise.sublist (minusS_sub _ _) (srt_sorted a)) fun r => by
    rw [minusS_count r _ _ (srt_sorted a) (srt_sorted b), (srt_perm a).count_eq, (srt_perm b).count_eq]
/-- As many, and each as often: the same bag. -/
theorem perm_of_counts : ∀ (a b : List (Int × Int)), a.length = b.length → (∀ r ∈ a, b.count r = a.count r) → a.Perm b
  | [], b, h, _ => by
    obtain rfl : b = [] := List.eq_nil_of_length_eq_zero h.symm
    exact List.Perm.refl _
  | x :: t, b, h, hc => by
    have hx : x ∈ b := by
      have := hc x (List.mem_cons_self ..)
      rw [List.count_cons_self] at this
      exact List.count_pos_iff.1 (by omega)
    have hp := List.perm_cons_erase hx
    refine List.Perm.trans ?_ hp.symm
    refine List.Perm.cons _ (perm_of_counts t _ ?_ fun r hr => ?_)
    · have := hp.length_eq
      simp only [List.length_cons] at this h
      omega
    · have h1 := hc r (List.mem_cons_of_mem _ hr)
      have h2 := hp.count_eq r
      rw [List.count_cons] at h1 h2
      omega
end Go.Proofs.Ytfilelgbffbnlaa
