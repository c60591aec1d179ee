/- The mathematics of fronts: no program. -/
import Derived.Test.YtfmmdnjoichifaaMoB
import Derived.Shelf.SlSortCmp.NoneTotal
namespace Go.Proofs.Ytfmmdnjoichifaa
open Go.RowKit Go.Sort

def ltM (x y : Int × Int) : Bool := decide (x.1 < y.1 ∨ (x.1 = y.1 ∧ x.2 < y.2))
theorem ltM_iff (x y : Int × Int) : ltM x y = true ↔ (x.1 < y.1 ∨ (x.1 = y.1 ∧ x.2 < y.2)) := by unfold ltM; simp
theorem ltM_not (x y : Int × Int) : ltM x y = false ↔ (y.1 < x.1 ∨ (x.1 = y.1 ∧ y.2 ≤ x.2)) := by
  rw [Bool.eq_false_iff, ne_eq, ltM_iff]; omega
theorem cmpM_lt (x y : Int × Int) : decide (cmpM x y < 0) = ltM x y := by
  unfold cmpM cmpI ltM
  rw [decide_eq_decide]
  split <;> split <;> (try split) <;> omega
theorem ltOf_cmp : (ltOf fun x y : Int × Int => cmpM x y) = ltM := by
  funext x y
  exact cmpM_lt x y
theorem ltM_swo : SWO ltM where
  irrefl x := by rw [ltM_not]; omega
  trans x y z h1 h2 := by rw [ltM_iff] at *; omega
  ntrans x y z h1 h2 := by rw [ltM_not] at *; omega
theorem ltM_total (x y : Int × Int) (h1 : ltM x y = false) (h2 : ltM y x = false) : x = y := by
  rw [ltM_not] at *
  exact Prod.ext (by omega) (by omega)
theorem aheadM_iff (x y : Int × Int) : aheadM x y = true ↔ x.1 ≤ y.1 ∧ x.2 ≤ y.2 := by unfold aheadM; simp
theorem aheadM_trans {x y z : Int × Int} (h1 : aheadM x y = true) (h2 : aheadM y z = true) : aheadM x z = true := by rw [aheadM_iff] at *; omega
theorem aheadM_anti {x y : Int × Int} (h1 : aheadM x y = true) (h2 : aheadM y x = true) : x = y := by
  rw [aheadM_iff] at *
  exact Prod.ext (by omega) (by omega)
/-- The front of any moments: in order, each once; those that no other one is not behind; and they cover all. -/
structure FrontOK (l R : List (Int × Int)) : Prop where
  inc : R.Pairwise fun a b => ltM a b = true
  mem : ∀ x, x ∈ R ↔ x ∈ l ∧ ∀ y ∈ l, y ≠ x → aheadM y x = false
  cov : ∀ y ∈ l, ∃ f ∈ R, aheadM f y = true
theorem sorted_same : ∀ {a b : List (Int × Int)}, (a.Pairwise fun x y => ltM x y = true) → (b.Pairwise fun x y => ltM x y = true) → (∀ x, x ∈ a ↔ x ∈ b) → a = b
  | [], [], _, _, _ => rfl
  | [], y :: b, _, _, h => absurd ((h y).2 (List.mem_cons_self ..)) (by simp)
  | x :: a, [], _, _, h => absurd ((h x).1 (List.mem_cons_self ..)) (by simp)
  | x :: a, y :: b, ha, hb, h => by
    rw [List.pairwise_cons] at ha hb
    have hxy : x = y := by
      have h1 := (h x).1 (List.mem_cons_self ..)
      have h2 := (h y).2 (List.mem_cons_self ..)
      rcases List.mem_cons.1 h1 with e | h1
      · exact e
      · rcases List.mem_cons.1 h2 with e | h2
        · exact e.symm
        · have := ltM_swo.trans _ _ _ (hb.1 x h1) (ha.1 y h2)
          rw [ltM_swo.irrefl] at this
          cases this
    subst hxy
    rw [sorted_same ha.2 hb.2 fun z => ?_]
    constructor
    · intro hz
      rcases List.mem_cons.1 ((h z).1 (List.mem_cons_of_mem _ hz)) with e | h1
      · subst e
        have := ha.1 z hz
        rw [ltM_swo.irrefl] at this
        cases this
      · exact h1
    · intro hz
      rcases List.mem_cons.1 ((h z).2 (List.mem_cons_of_mem _ hz)) with e | h1
      · subst e
        have := hb.1 z hz
        rw [ltM_swo.irrefl] at this
        cases this
      · exact h1
theorem FrontOK.same {l R R' : List (Int × Int)} (h : FrontOK l R) (h' : FrontOK l R') : R = R' := sorted_same h.inc h'.inc fun x => (h.mem x).trans (h'.mem x).symm
theorem FrontOK.any {l R : List (Int × Int)} (h : FrontOK l R) (m : Int × Int) : (R.any fun x => aheadM x m) = (l.any fun x => aheadM x m) := by
  rw [Bool.eq_iff_iff, List.any_eq_true, List.any_eq_true]
  constructor
  · rintro ⟨x, hx, hm⟩
    exact ⟨x, ((h.mem x).1 hx).1, hm⟩
  · rintro ⟨y, hy, hm⟩
    obtain ⟨f, hf, h2⟩ := h.cov y hy
    exact ⟨f, hf, aheadM_trans h2 hm⟩
theorem FrontOK.self {l R : List (Int × Int)} (h : FrontOK l R) : FrontOK R R where
  inc := h.inc
  mem x := ⟨fun hx => ⟨hx, fun y hy hne => ((h.mem x).1 hx).2 y ((h.mem y).1 hy).1 hne⟩, fun hx => hx.1⟩
  cov y hy := ⟨y, hy, by rw [aheadM_iff]; omega⟩
/-- One step of the pass over the sorted moments. -/
def frontS (F : List (Int × Int)) (m : Int × Int) : List (Int × Int) := if ((F.drop (F.length - 1)).any fun x => aheadM x m) then F else F ++ [m]
structure FrontIn (S F : List (Int × Int)) : Prop where
  inc : F.Pairwise fun a b => a.1 < b.1 ∧ b.2 < a.2
  sub : ∀ x ∈ F, x ∈ S
  cov : ∀ y ∈ S, ∃ f ∈ F, aheadM f y = true
theorem FrontIn.nil : FrontIn [] [] := ⟨List.Pairwise.nil, fun _ h => h, fun _ h => by cases h⟩
theorem last_drop (F : List (Int × Int)) (x : Int × Int) : (F ++ [x]).drop ((F ++ [x]).length - 1) = [x] := by
  rw [List.length_append, show F.length + [x].length - 1 = F.length by simp, List.drop_left']
  rfl
theorem FrontIn.step {S F : List (Int × Int)} (h : FrontIn S F) (m : Int × Int) (hm : ∀ y ∈ S, ltM m y = false) : FrontIn (S ++ [m]) (frontS F m) := by
  unfold frontS
  rcases List.eq_nil_or_concat F with rfl | ⟨G, x, rfl⟩
  · rw [if_neg (by simp)]
    refine ⟨by simp, fun y hy => by simpa using Or.inr (by simpa using hy), fun y hy => ?_⟩
    rcases List.mem_append.1 hy with hy | hy
    · obtain ⟨f, hf, _⟩ := h.cov y hy
      cases hf
    · exact ⟨m, by simp, by rw [show y = m by simpa using hy, aheadM_iff]; omega⟩
  · rw [List.concat_eq_append] at h ⊢
    rw [last_drop]
    by_cases ha : aheadM x m = true
    · rw [if_pos (by simpa using ha)]
      refine ⟨h.inc, fun y hy => List.mem_append_left _ (h.sub y hy), fun y hy => ?_⟩
      rcases List.mem_append.1 hy with hy | hy
      · exact h.cov y hy
      · exact ⟨x, by simp, by rw [show y = m by simpa using hy]; exact ha⟩
    · rw [if_neg (by simpa using ha)]
      refine ⟨?_, fun y hy => ?_, fun y hy => ?_⟩
      · rw [List.pairwise_append]
        refine ⟨h.inc, by simp, fun y hy z hz => ?_⟩
        rw [show z = m by simpa using hz]
        have hx1 := hm x (h.sub x (by simp))
        rw [ltM_not] at hx1
        rw [aheadM_iff] at ha
        rcases List.mem_append.1 hy with hy | hy
        · have := (List.pairwise_append.1 h.inc).2.2 y hy x (by simp)
          omega
        · rw [show y = x by simpa using hy]
          omega
      · rcases List.mem_append.1 hy with hy | hy
        · exact List.mem_append_left _ (h.sub y hy)
        · exact List.mem_append_right _ hy
      · rcases List.mem_append.1 hy with hy | hy
        · obtain ⟨f, hf, h2⟩ := h.cov y hy
          exact ⟨f, List.mem_append_left _ hf, h2⟩
        · exact ⟨m, by simp, by rw [show y = m by simpa using hy, aheadM_iff]; omega⟩
theorem FrontIn.ok {S F l : List (Int × Int)} (h : FrontIn S F) (hs : ∀ x, x ∈ S ↔ x ∈ l) : FrontOK l F where
  inc := h.inc.imp fun {a b} hab => by rw [ltM_iff]; omega
  cov y hy := h.cov y ((hs y).2 hy)
  mem x := by
    have anti : ∀ a ∈ F, ∀ b ∈ F, aheadM a b = true → a = b := fun a ha b hb hab => by
      have hp := h.inc
      rw [aheadM_iff] at hab
      have key : ∀ (L : List (Int × Int)), (L.Pairwise fun a b => a.1 < b.1 ∧ b.2 < a.2) → a ∈ L → b ∈ L → a = b := by
        intro L hL
        induction L with
        | nil => intro h; cases h
        | cons z L ih =>
          rw [List.pairwise_cons] at hL
          intro h1 h2
          rcases List.mem_cons.1 h1 with e1 | k1 <;> rcases List.mem_cons.1 h2 with e2 | k2
          · rw [e1, e2]
          · subst e1
            have := hL.1 b k2
            omega
          · subst e2
            have := hL.1 a k1
            omega
          · exact ih hL.2 k1 k2
      exact key F hp ha hb
    constructor
    · intro hx
      refine ⟨(hs x).1 (h.sub x hx), fun y hy hne => ?_⟩
      rw [Bool.eq_false_iff]
      intro hyx
      obtain ⟨f, hf, h2⟩ := h.cov y ((hs y).2 hy)
      have e := anti f hf x hx (aheadM_trans h2 hyx)
      subst e
      exact hne (aheadM_anti hyx h2)
    · rintro ⟨hx, hmin⟩
      obtain ⟨f, hf, h2⟩ := h.cov x ((hs x).2 hx)
      by_cases e : f = x
      · rw [← e]; exact hf
      · have := hmin f ((hs f).1 (h.sub f hf)) e
        rw [h2] at this
        cases this
end Go.Proofs.Ytfmmdnjoichifaa
