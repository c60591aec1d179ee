/- Contracts of entries: Sorted of both, the document's Same; and how entries stand in order. -/
import Derived.Test.YtodfpdmmbmbinaaEnC
namespace Go.Proofs.Ytodfpdmmbmbinaa
open Go.RowKit Go.Sort

theorem cmpM_neg (x y : Int × Int) : cmpM x y < 0 ↔ (x.1 < y.1 ∨ (x.1 = y.1 ∧ x.2 < y.2)) := by
  unfold cmpM cmpI
  split <;> split <;> (try split) <;> omega
theorem cmpM_zero (x y : Int × Int) : cmpM x y = 0 ↔ (x.1 = y.1 ∧ x.2 = y.2) := by
  unfold cmpM cmpI
  split <;> split <;> (try split) <;> omega
def ltE (x y : En) : Bool := decide (x.1.1 < y.1.1 ∨ (x.1.1 = y.1.1 ∧ (x.1.2 < y.1.2 ∨ (x.1.2 = y.1.2 ∧ (x.2.1 < y.2.1 ∨ (x.2.1 = y.2.1 ∧ x.2.2 < y.2.2))))))
theorem ltE_iff (x y : En) : ltE x y = true ↔ (x.1.1 < y.1.1 ∨ (x.1.1 = y.1.1 ∧ (x.1.2 < y.1.2 ∨ (x.1.2 = y.1.2 ∧ (x.2.1 < y.2.1 ∨ (x.2.1 = y.2.1 ∧ x.2.2 < y.2.2)))))) := by unfold ltE; rw [decide_eq_true_eq]
theorem ltE_not (x y : En) : ltE x y = false ↔ ¬ (x.1.1 < y.1.1 ∨ (x.1.1 = y.1.1 ∧ (x.1.2 < y.1.2 ∨ (x.1.2 = y.1.2 ∧ (x.2.1 < y.2.1 ∨ (x.2.1 = y.2.1 ∧ x.2.2 < y.2.2)))))) := by unfold ltE; rw [decide_eq_false_iff_not]
theorem cmpE_neg (x y : En) : cmpE x y < 0 ↔ ltE x y = true := by
  have h1 := cmpM_neg x.1 y.1
  have h2 := cmpM_zero x.1 y.1
  have h3 := cmpM_neg x.2 y.2
  rw [ltE_iff]
  unfold cmpE orI
  split <;> omega
theorem cmpM_swap (x y : Int × Int) : 0 < cmpM x y ↔ cmpM y x < 0 := by
  unfold cmpM cmpI
  split <;> split <;> (try split) <;> (try split) <;> omega
theorem cmpE_swap (x y : En) : 0 < cmpE x y ↔ cmpE y x < 0 := by
  have h1 := cmpM_swap x.1 y.1
  have h2 := cmpM_zero x.1 y.1
  have h3 := cmpM_zero y.1 x.1
  have h4 := cmpM_swap x.2 y.2
  unfold cmpE orI
  split <;> split <;> omega
theorem cmpE_flip (x y : En) : cmpE y x < 0 ↔ ¬ cmpE x y ≤ 0 := by have := cmpE_swap x y; omega
def leE (x y : En) : Bool := decide (cmpE x y ≤ 0)
theorem leE_lt (x y : En) : leE x y = !ltE y x := by
  unfold leE
  have h := cmpE_flip x y
  rw [cmpE_neg] at h
  cases hh : ltE y x
  · rw [hh] at h; simpa using h
  · rw [hh] at h; simpa using h
theorem ltOf_cmpE : (ltOf fun x y : En => cmpE x y) = ltE := by
  funext x y
  show decide (cmpE x y < 0) = ltE x y
  cases h : ltE x y
  · rw [decide_eq_false_iff_not, cmpE_neg, h]; decide
  · rw [decide_eq_true_eq, cmpE_neg, h]
theorem ltE_swo : SWO ltE where
  irrefl x := by rw [ltE_not]; omega
  trans x y z h1 h2 := by rw [ltE_iff] at *; omega
  ntrans x y z h1 h2 := by rw [ltE_not] at *; omega
theorem ltE_total (x y : En) (h1 : ltE x y = false) (h2 : ltE y x = false) : x = y := by
  rw [ltE_not] at *
  exact Prod.ext (Prod.ext (by omega) (by omega)) (Prod.ext (by omega) (by omega))
theorem leE_trans (a b c : En) (h : leE a b = true) (k : leE b c = true) : leE a c = true := by
  rw [leE_lt, Bool.not_eq_true', ltE_not] at *; omega
theorem leE_total (a b : En) : (leE a b || leE b a) = true := by
  rw [Bool.or_eq_true, leE_lt, leE_lt, Bool.not_eq_true', Bool.not_eq_true', ltE_not, ltE_not]; omega
theorem leE_anti {a b : En} (h : leE a b = true) (k : leE b a = true) : a = b := by
  rw [leE_lt, Bool.not_eq_true'] at *; exact ltE_total a b k h
def srtE (l : List En) : List En := l.mergeSort leE
def SrtPE (l : List En) : Prop := l.Pairwise fun a b => leE a b = true
theorem srtE_perm (l : List En) : (srtE l).Perm l := List.mergeSort_perm l leE
theorem srtE_length (l : List En) : (srtE l).length = l.length := (srtE_perm l).length_eq
theorem srtE_sorted (l : List En) : SrtPE (srtE l) := List.pairwise_mergeSort leE_trans leE_total l
theorem SrtPE.same {a b : List En} (ha : SrtPE a) (hb : SrtPE b) (h : a.Perm b) : a = b :=
  List.Perm.eq_of_pairwise (le := fun a b => leE a b = true) (fun _ _ _ _ h1 h2 => leE_anti h1 h2) ha hb h
theorem srtE_unique {l m : List En} (h : SrtPE m) (hp : m.Perm l) : m = srtE l := h.same (srtE_sorted l) (hp.trans (srtE_perm l).symm)
theorem srtE_self {l : List En} (h : SrtPE l) : srtE l = l := (srtE_unique h (List.Perm.refl _)).symm
theorem srtE_short {l : List En} (h : l.length < 2) : srtE l = l := srtE_self (by
  match l, h with
  | [], _ => exact List.Pairwise.nil
  | [a], _ => exact List.pairwise_singleton _ a)
theorem merge_srtE (a b : List En) : (srtE a).merge (srtE b) leE = srtE (a ++ b) :=
  srtE_unique (List.pairwise_merge leE_trans leE_total _ _ (srtE_sorted a) (srtE_sorted b)) ((List.merge_perm_append leE).trans ((srtE_perm a).append (srtE_perm b)))
/-- Entries in order, one by one. -/
def sortedE : List En → Bool
  | [] => true
  | [_] => true
  | x :: y :: t => decide (cmpE x y ≤ 0) && sortedE (y :: t)
theorem sortedE_iff : ∀ l : List En, sortedE l = true ↔ ∀ (i : Nat) (x y : En), l[i]? = some x → l[i + 1]? = some y → cmpE x y ≤ 0
  | [] => by simp [sortedE]
  | [a] => by simp [sortedE]
  | a :: b :: t => by
    rw [sortedE, Bool.and_eq_true, decide_eq_true_eq, sortedE_iff (b :: t)]
    constructor
    · rintro ⟨h1, h2⟩ i x y hx hy
      cases i with
      | zero =>
        simp at hx hy
        rw [← hx, ← hy]
        exact h1
      | succ i => exact h2 i x y (by simpa using hx) (by simpa using hy)
    · intro h
      exact ⟨h 0 a b rfl rfl, fun i x y hx hy => h (i + 1) x y (by simpa using hx) (by simpa using hy)⟩
theorem sortedE_srt (l : List En) : sortedE l = true ↔ SrtPE l := by
  induction l with
  | nil => exact ⟨fun _ => List.Pairwise.nil, fun _ => rfl⟩
  | cons x t ih =>
    cases t with
    | nil => exact ⟨fun _ => List.pairwise_singleton _ x, fun _ => rfl⟩
    | cons y t =>
      rw [sortedE, Bool.and_eq_true, ih, show decide (cmpE x y ≤ 0) = leE x y from rfl]
      constructor
      · rintro ⟨h1, h2⟩
        refine List.pairwise_cons.2 ⟨fun z hz => ?_, h2⟩
        rcases List.mem_cons.1 hz with e | hz
        · rw [e]; exact h1
        · exact leE_trans _ _ _ h1 ((List.pairwise_cons.1 h2).1 z hz)
      · intro h
        have := List.pairwise_cons.1 h
        exact ⟨this.1 y (List.mem_cons_self ..), this.2⟩
end Go.Proofs.Ytodfpdmmbmbinaa
