/- How packs are taken apart again: the mathematics. -/
import Derived.Test.YtalefgcdhakfoaaEnRdW
namespace Go.Proofs.Ytalefgcdhakfoaa
open Go.RowKit Go.Sort

theorem readMo_put (x : Int × Int) (r : List UInt8) (h : okMo x = true) : readMo (some (putMo x.1 x.2 ++ r)) = (x, 0) ∧ readS (some (putMo x.1 x.2 ++ r)) = some r := by
  obtain ⟨a, b⟩ := x
  have hok := h
  rw [okMo_iff] at h
  have e1 : numM (some (putMo a b ++ r)) = (a.toNat, some (putL b.toNat ++ r)) := by
    unfold putMo
    rw [List.append_assoc]
    exact numM_put _ (by omega) _
  have e2 : numM (some (putL b.toNat ++ r)) = (b.toNat, some r) := numM_put _ (by omega) _
  have ha : ((a.toNat : Nat) : Int) = a := by omega
  have hb : ((b.toNat : Nat) : Int) = b := by omega
  unfold readS readMo
  simp only [e1, e2]
  rw [if_neg (by simp), ha, hb, if_pos hok]
  exact ⟨rfl, trivial⟩
theorem readRec_put (x : Int × Int) (r : List UInt8) (h : okRec x = true) : readRec (some (putMo x.1 x.2 ++ r)) = (x, 0) ∧ readS (some (putMo x.1 x.2 ++ r)) = some r := by
  obtain ⟨a, b⟩ := x
  have hok := h
  rw [okRec_iff] at h
  have e1 : numM (some (putMo a b ++ r)) = (a.toNat, some (putL b.toNat ++ r)) := by
    unfold putMo
    rw [List.append_assoc]
    exact numM_put _ (by omega) _
  have e2 : numM (some (putL b.toNat ++ r)) = (b.toNat, some r) := numM_put _ (by omega) _
  have ha : ((a.toNat : Nat) : Int) = a := by omega
  have hb : ((b.toNat : Nat) : Int) = b := by omega
  unfold readS readRec
  simp only [e1, e2]
  rw [if_neg (by simp), ha, hb, if_pos hok]
  exact ⟨rfl, trivial⟩
theorem unpL_cat : ∀ (l : List En) (n : Nat), (∀ x ∈ l, okEn x = true) → (catE l).length ≤ n → unpL n (some (catE l)) = some l
  | [], n, _, _ => unpL_end n _ rfl
  | x :: l, n, h, hn => by
    have hx := h x (List.mem_cons_self ..)
    have hl := putE_len x hx
    have hc : catE (x :: l) = putMo x.1.1 x.1.2 ++ (putMo x.2.1 x.2.2 ++ catE l) := by
      show putE x ++ catE l = _
      unfold putE
      rw [List.append_assoc]
    have hlen : (catE (x :: l)).length = (putE x).length + (catE l).length := by
      show (putE x ++ catE l).length = _
      rw [List.length_append]
    obtain ⟨m, rfl⟩ : ∃ m, n = m + 1 := ⟨n - 1, by omega⟩
    unfold okEn at hx
    rw [Bool.and_eq_true] at hx
    obtain ⟨r1, r2⟩ := readMo_put x.1 (putMo x.2.1 x.2.2 ++ catE l) hx.1
    obtain ⟨r3, r4⟩ := readRec_put x.2 (catE l) hx.2
    unfold unpL
    rw [if_neg (show ¬ leftM (some (catE (x :: l))) = 0 by show ¬ (catE (x :: l)).length = 0; omega), hc, r1, r2, r3, r4, if_pos ⟨rfl, rfl⟩, unpL_cat l m (fun y hy => h y (List.mem_cons_of_mem _ hy)) (by omega)]
    rfl
theorem unpM_cat (l : List En) (h : ∀ x ∈ l, okEn x = true) : unpM (catE l) = some l := unpL_cat l _ h (Nat.le_refl _)
/-- The packs' entries, pack by pack. -/
def stepQ (s : List (List En) × List En) (x : En) : List (List En) × List En :=
  if 43 < (catE s.2).length + (putE x).length then (s.1 ++ [s.2], [x]) else (s.1, s.2 ++ [x])
theorem catE_append (a b : List En) : catE (a ++ b) = catE a ++ catE b := by unfold catE; rw [List.flatMap_append]
theorem catE_one (x : En) : catE [x] = putE x := by
  show putE x ++ [] = putE x
  rw [List.append_nil]
theorem part_fold : ∀ (l : List En) (s : List (List En) × List En), (∀ x ∈ l, okEn x = true) → l.foldl stepP (s.1.map catE, catE s.2) = ((l.foldl stepQ s).1.map catE, catE (l.foldl stepQ s).2) ∧ (l.foldl stepQ s).1.flatten ++ (l.foldl stepQ s).2 = s.1.flatten ++ s.2 ++ l ∧ ((∀ p ∈ s.1, p ≠ []) → ∀ p ∈ (l.foldl stepQ s).1, p ≠ [])
  | [], s, _ => ⟨rfl, by simp, fun h => h⟩
  | x :: l, s, h => by
    have hx := putE_len x (h x (List.mem_cons_self ..))
    have hs : stepP (s.1.map catE, catE s.2) x = ((stepQ s x).1.map catE, catE (stepQ s x).2) := by
      unfold stepP stepQ
      simp only
      split
      · rw [List.map_append, catE_one]; rfl
      · rw [catE_append, catE_one]
    have hf : (stepQ s x).1.flatten ++ (stepQ s x).2 = s.1.flatten ++ s.2 ++ [x] := by
      unfold stepQ
      split
      · simp
      · simp
    have hn : (∀ p ∈ s.1, p ≠ []) → ∀ p ∈ (stepQ s x).1, p ≠ [] := by
      intro h1 p hp
      unfold stepQ at hp
      split at hp
      · rename_i hlong
        rcases List.mem_append.1 hp with hp | hp
        · exact h1 p hp
        · rw [List.mem_singleton.1 hp]
          intro e
          rw [e] at hlong
          have : (catE []).length = 0 := rfl
          omega
      · exact h1 p hp
    obtain ⟨i1, i2, i3⟩ := part_fold l (stepQ s x) fun y hy => h y (List.mem_cons_of_mem _ hy)
    rw [List.foldl_cons, List.foldl_cons, hs]
    refine ⟨i1, ?_, fun h1 => i3 (hn h1)⟩
    rw [i2, hf]
    simp
/-- Packs: their entries, one pack behind the other, are the entries; none is empty, none is too long. -/
theorem packM_parts (l : List En) (h : ∀ x ∈ l, okEn x = true) : ∃ ps : List (List En), packM l = ps.map catE ∧ ps.flatten = l ∧ ∀ p ∈ ps, p ≠ [] := by
  obtain ⟨i1, i2, i3⟩ := part_fold l ([], []) h
  have hp : packS l = ((l.foldl stepQ ([], [])).1.map catE, catE (l.foldl stepQ ([], [])).2) := i1
  have i2' : (l.foldl stepQ ([], [])).1.flatten ++ (l.foldl stepQ ([], [])).2 = l := by simpa using i2
  have i3' := i3 (by simp)
  generalize l.foldl stepQ ([], []) = q at hp i2' i3'
  obtain ⟨ps, c⟩ := q
  simp only at hp i2' i3'
  unfold packM
  rw [hp]
  simp only
  by_cases hc : c = []
  · subst hc
    rw [if_pos (show (catE []).length = 0 from rfl)]
    exact ⟨ps, rfl, by simpa using i2', i3'⟩
  · have hlc : (catE c).length ≠ 0 := by
      obtain ⟨y, t, rfl⟩ := List.exists_cons_of_ne_nil hc
      have hy := putE_len y (h y (by rw [← i2']; simp))
      show (putE y ++ catE t).length ≠ 0
      rw [List.length_append]
      omega
    rw [if_neg hlc]
    refine ⟨ps ++ [c], by rw [List.map_append]; rfl, by simpa using i2', fun p hp => ?_⟩
    rcases List.mem_append.1 hp with hp | hp
    · exact i3' p hp
    · rw [List.mem_singleton.1 hp]; exact hc
end Go.Proofs.Ytalefgcdhakfoaa
