/- The mathematics of the document's front: insertion. -/
import Derived.Test.YtodfpdmmbmbinaaFrM
namespace Go.Proofs.Ytodfpdmmbmbinaa
open Go.RowKit Go.Sort

def leastM (l : List (Int × Int)) (x : Int × Int) : Bool := l.all fun y => !(y != x && aheadM y x)
theorem leastM_iff (l : List (Int × Int)) (x : Int × Int) : leastM l x = true ↔ ∀ y ∈ l, y ≠ x → aheadM y x = false := by
  unfold leastM
  rw [List.all_eq_true]
  constructor
  · intro h y hy hne
    have := h y hy
    simp only [Bool.not_eq_true', Bool.and_eq_false_iff, bne_eq_false_iff_eq] at this
    rcases this with h1 | h1
    · exact absurd h1 hne
    · exact h1
  · intro h y hy
    simp only [Bool.not_eq_true', Bool.and_eq_false_iff, bne_eq_false_iff_eq]
    by_cases e : y = x
    · exact .inl e
    · exact .inr (h y hy e)
def insR : List (Int × Int) → Int × Int → List (Int × Int)
  | [], x => [x]
  | y :: out, x => if ltM y x then y :: insR out x else if y = x then y :: out else x :: y :: out
def atR : List (Int × Int) → Int × Int → Nat
  | [], _ => 0
  | y :: out, x => if ltM y x then atR out x + 1 else 0
theorem insR_eq : ∀ (out : List (Int × Int)) (x : Int × Int), insR out x = if out[atR out x]? = some x then out else out.take (atR out x) ++ x :: out.drop (atR out x)
  | [], x => by simp [insR, atR]
  | y :: out, x => by
    unfold insR atR
    by_cases h : ltM y x = true
    · rw [if_pos h, if_pos h, insR_eq out x, List.getElem?_cons_succ]
      split
      · rfl
      · rfl
    · rw [if_neg h, if_neg h]
      by_cases e : y = x
      · rw [if_pos e, if_pos (by simp [e])]
      · rw [if_neg e, if_neg (by simp [e])]
        rfl
theorem mem_insR : ∀ (out : List (Int × Int)) (x y : Int × Int), y ∈ insR out x ↔ y = x ∨ y ∈ out
  | [], x, y => by simp [insR]
  | z :: out, x, y => by
    unfold insR
    split
    · rw [List.mem_cons, mem_insR out x y, List.mem_cons]
      constructor
      · rintro (h | h | h)
        · exact .inr (.inl h)
        · exact .inl h
        · exact .inr (.inr h)
      · rintro (h | h | h)
        · exact .inr (.inl h)
        · exact .inl h
        · exact .inr (.inr h)
    · split
      · rename_i e
        subst e
        rw [List.mem_cons]
        constructor
        · intro h; exact .inr h
        · rintro (h | h)
          · exact .inl h
          · exact h
      · rw [List.mem_cons]
theorem sorted_insR : ∀ (out : List (Int × Int)) (x : Int × Int), (out.Pairwise fun a b => ltM a b = true) → (insR out x).Pairwise fun a b => ltM a b = true
  | [], x, _ => by simp [insR]
  | z :: out, x, h => by
    rw [List.pairwise_cons] at h
    unfold insR
    split
    · rename_i hz
      rw [List.pairwise_cons]
      refine ⟨fun y hy => ?_, sorted_insR out x h.2⟩
      rcases (mem_insR out x y).1 hy with rfl | hy
      · exact hz
      · exact h.1 y hy
    · rename_i hz
      split
      · rw [List.pairwise_cons]; exact h
      · rename_i e
        have hxz : ltM x z = true := by
          rw [Bool.not_eq_true] at hz
          cases hq : ltM x z
          · exact absurd (ltM_total z x hz hq) e
          · rfl
        rw [List.pairwise_cons, List.pairwise_cons]
        refine ⟨fun y hy => ?_, h⟩
        rcases List.mem_cons.1 hy with rfl | hy
        · exact hxz
        · exact ltM_swo.trans _ _ _ hxz (h.1 y hy)
theorem atR_le : ∀ (out : List (Int × Int)) (x : Int × Int), atR out x ≤ out.length
  | [], _ => Nat.le_refl _
  | y :: out, x => by
    unfold atR
    split
    · have := atR_le out x; rw [List.length_cons]; omega
    · exact Nat.zero_le _
theorem atR_eq : ∀ (out : List (Int × Int)) (x : Int × Int) (k : Nat), k ≤ out.length → (∀ j y, j < k → out[j]? = some y → ltM y x = true) → (∀ y, out[k]? = some y → ltM y x = false) → atR out x = k
  | [], x, k, hk, _, _ => by simp at hk; subst hk; rfl
  | y :: out, x, k, hk, h1, h2 => by
    unfold atR
    cases k with
    | zero =>
      have := h2 y rfl
      rw [this]; rfl
    | succ k =>
      have := h1 0 y (by omega) rfl
      rw [if_pos this, atR_eq out x k (by simpa using hk) (fun j z hj hz => h1 (j + 1) z (by omega) (by simpa using hz)) (fun z hz => h2 z (by simpa using hz))]
def stepR (l out : List (Int × Int)) (x : Int × Int) : List (Int × Int) := if leastM l x then insR out x else out
structure RIn (l p out : List (Int × Int)) : Prop where
  inc : out.Pairwise fun a b => ltM a b = true
  mem : ∀ x, x ∈ out ↔ x ∈ p ∧ leastM l x = true
theorem RIn.step {l p out : List (Int × Int)} (h : RIn l p out) (x : Int × Int) : RIn l (p ++ [x]) (stepR l out x) := by
  unfold stepR
  cases hx : leastM l x
  · rw [if_neg (by decide)]
    refine ⟨h.inc, fun y => ?_⟩
    rw [h.mem, List.mem_append, List.mem_singleton]
    constructor
    · rintro ⟨a, b⟩; exact ⟨.inl a, b⟩
    · rintro ⟨a | a, b⟩
      · exact ⟨a, b⟩
      · subst a; rw [hx] at b; cases b
  · rw [if_pos rfl]
    refine ⟨sorted_insR out x h.inc, fun y => ?_⟩
    rw [mem_insR, h.mem, List.mem_append, List.mem_singleton]
    constructor
    · rintro (rfl | ⟨a, b⟩)
      · exact ⟨.inr rfl, hx⟩
      · exact ⟨.inl a, b⟩
    · rintro ⟨a | rfl, b⟩
      · exact .inr ⟨a, b⟩
      · exact .inl rfl
theorem foldl_RIn (l : List (Int × Int)) (k : Nat) (hk : k ≤ l.length) : RIn l (l.take k) ((l.take k).foldl (stepR l) []) := by
  induction k with
  | zero => exact ⟨by simp, fun x => by simp⟩
  | succ k ih =>
    have hx := List.getElem?_eq_getElem (show k < l.length by omega)
    rw [List.take_add_one, hx, List.foldl_append]
    exact (ih (by omega)).step l[k]
theorem foldlR_take (l : List (Int × Int)) (k : Nat) (x : Int × Int) (h : l[k]? = some x) : (l.take (k + 1)).foldl (stepR l) [] = stepR l ((l.take k).foldl (stepR l) []) x := by
  rw [List.take_add_one, h, List.foldl_append]; rfl
theorem insR_length : ∀ (out : List (Int × Int)) (x : Int × Int), (insR out x).length ≤ out.length + 1
  | [], x => by simp [insR]
  | z :: out, x => by
    unfold insR
    have := insR_length out x
    split
    · rw [List.length_cons, List.length_cons]; omega
    · split
      · omega
      · simp
theorem stepR_length (l out : List (Int × Int)) (x : Int × Int) : (stepR l out x).length ≤ out.length + 1 := by
  unfold stepR
  split
  · exact insR_length out x
  · omega
theorem foldlR_length (l : List (Int × Int)) (k : Nat) (hk : k ≤ l.length) : ((l.take k).foldl (stepR l) []).length ≤ k := by
  induction k with
  | zero => simp
  | succ k ih =>
    rw [foldlR_take l k l[k] (List.getElem?_eq_getElem (by omega))]
    have := ih (by omega)
    have := stepR_length l ((l.take k).foldl (stepR l) []) l[k]
    omega
theorem FrontOK.ref {l R : List (Int × Int)} (h : FrontOK l R) : l.foldl (stepR l) [] = R := by
  have hr := foldl_RIn l l.length (Nat.le_refl _)
  rw [List.take_length] at hr
  refine sorted_same hr.inc h.inc fun x => ?_
  rw [hr.mem, leastM_iff, h.mem]
end Go.Proofs.Ytodfpdmmbmbinaa
