/- Words on memory: slices of pairs of numbers. No program but for the type's cells. -/
import Derived.Test.YtfmmdnjoichifaaNumWd
import Derived.Test.YtfmmdnjoichifaaRegR
import Derived.Shelf.SlSortCmp.NoneTotal
import Derived.Shelf.SlicesQ.IndexFunc
import Derived.Shelf.SlicesE.Clone
namespace Go.Proofs.Ytfmmdnjoichifaa
open Go.RowKit Go.Sort

def encP (x : Int × Int) : List Value := [.int .i64 x.1, .int .i64 x.2]
def Prs (l : List (Int × Int)) : List Value := l.flatMap encP
theorem Prs_nil : Prs [] = [] := rfl
theorem Prs_cons (x : Int × Int) (l : List (Int × Int)) : Prs (x :: l) = .int .i64 x.1 :: .int .i64 x.2 :: Prs l := rfl
theorem Prs_append (a b : List (Int × Int)) : Prs (a ++ b) = Prs a ++ Prs b := by unfold Prs; rw [List.flatMap_append]
theorem Prs_length (l : List (Int × Int)) : (Prs l).length = l.length * 2 := by
  induction l with
  | nil => rfl
  | cons x l ih => rw [Prs_cons, List.length_cons, List.length_cons, ih, List.length_cons]; omega
theorem Prs_one (l : List (Int × Int)) : ∀ u ∈ Prs l, u.oneCell' = true := by
  induction l with
  | nil => intro u hu; cases hu
  | cons x l ih =>
    intro u hu
    rw [Prs_cons] at hu
    simp only [List.mem_cons] at hu
    rcases hu with rfl | rfl | hu
    · rfl
    · rfl
    · exact ih u hu
theorem Prs_get (l : List (Int × Int)) : ∀ (j : Nat) (x : Int × Int), l[j]? = some x → (Prs l)[j * 2]? = some (.int .i64 x.1) ∧ (Prs l)[j * 2 + 1]? = some (.int .i64 x.2) := by
  induction l with
  | nil => intro j x h; simp at h
  | cons y l ih =>
    intro j x h
    cases j with
    | zero =>
      simp at h
      subst h
      exact ⟨rfl, rfl⟩
    | succ j =>
      have h' : l[j]? = some x := by simpa using h
      have := ih j x h'
      rw [Prs_cons, show (j + 1) * 2 = j * 2 + 1 + 1 by omega]
      exact this
theorem Prs_drop (l : List (Int × Int)) (k : Nat) : Prs (l.drop k) = (Prs l).drop (k * 2) := by
  induction l generalizing k with
  | nil => simp [Prs]
  | cons x l ih =>
    cases k with
    | zero => rfl
    | succ k => rw [Prs_cons, show (k + 1) * 2 = k * 2 + 1 + 1 by omega, List.drop_succ_cons, List.drop_succ_cons, List.drop_succ_cons, ih]
/-- A slice of pairs lies in block h. -/
def SlP (w : World) (h : Nat) (A : Option Addr) (l : List (Int × Int)) : Prop :=
  l ≠ [] → h < w.heap.size ∧ ∃ off, A = some ⟨h, off, none⟩ ∧ ∀ (j : Nat) (u : Value), (Prs l)[j]? = some u → w.cell? ⟨h, off + j, none⟩ = some u
section
variable {w w' : World} {h : Nat} {A : Option Addr} {l : List (Int × Int)}
theorem SlP.nil (w : World) (h : Nat) (A : Option Addr) : SlP w h A [] := fun e => absurd rfl e
theorem SlP.keep (s : SlP w h A l) (hs : w.heap.size ≤ w'.heap.size) (hb : h < w.heap.size → w'.heap[h]? = w.heap[h]?) : SlP w' h A l := fun hl => by
  obtain ⟨hh, off, e, hc⟩ := s hl
  exact ⟨Nat.lt_of_lt_of_le hh hs, off, e, fun j u hj => (World.cell?_of_block (a := ⟨h, off + j, none⟩) (hb hh)).trans (hc j u hj)⟩
theorem SlP.below (s : SlP w h A l) (hb : Below w.heap.size w w') : SlP w' h A l := s.keep hb.size fun hh => hb.block h hh
theorem SlP.at_ (s : SlP w h A l) {j : Nat} {x : Int × Int} (hj : l[j]? = some x) : h < w.heap.size ∧ ∃ off, A = some ⟨h, off, none⟩ ∧ w.cell? ⟨h, off + j * 2, none⟩ = some (.int .i64 x.1) ∧ w.cell? ⟨h, off + j * 2 + 1, none⟩ = some (.int .i64 x.2) := by
  obtain ⟨hh, off, e, hc⟩ := s (fun e => by rw [e] at hj; simp at hj)
  obtain ⟨p0, p1⟩ := Prs_get l j x hj
  exact ⟨hh, off, e, hc _ _ p0, by rw [Nat.add_assoc]; exact hc _ _ p1⟩
theorem SlP.drop (s : SlP w h A l) {k cap : Nat} (hc : l.length ≤ cap) : SlP w h (if cap = k then A else A.map (·.add (k * 2))) (l.drop k) := fun hl => by
  have hk : k < l.length := by
    rcases Nat.lt_or_ge k l.length with h1 | h1
    · exact h1
    · exact absurd (List.drop_eq_nil_of_le h1) hl
  obtain ⟨hh, off, e, hcell⟩ := s (fun e => by rw [e] at hk; simp at hk)
  subst e
  rw [if_neg (by omega)]
  refine ⟨hh, off + k * 2, ?_, fun j u hj => ?_⟩
  · show some ((⟨h, off, none⟩ : Addr).add (k * 2)) = _
    rw [Addr.add_lit]
  · rw [Prs_drop, List.getElem?_drop] at hj
    have := hcell _ _ hj
    rw [← Nat.add_assoc] at this
    exact this
theorem SlP.of_own {base e n c : Nat} (hown : w.ownsRow base e 2 (.slice A n c) n (Prs l)) : ∃ g, base ≤ g ∧ SlP w g A l ∧ n = l.length ∧ (∀ k, (Value.slice A n c).ownBlock = some k → k = g) ∧ n ≤ c ∧ c ≤ maxLen := by
  have hn : n = l.length := by have := hown.1; rw [Prs_length] at this; omega
  rcases hown.2 with ⟨hv, h0⟩ | ⟨g, cap, cur, hv, hb, hh, hnc, hcm, hcs, ht⟩
  · injection hv with h1 h2 h3
    subst h1 h2 h3
    have : l = [] := List.eq_nil_of_length_eq_zero (by omega)
    subst this
    exact ⟨base, Nat.le_refl _, SlP.nil _ _ _, hn, fun k hk => by simp [Value.ownBlock] at hk, Nat.le_refl _, by decide⟩
  · injection hv with h1 h2 h3
    subst h1 h3
    have hlt : g < w.heap.size := by
      rcases Nat.lt_or_ge g w.heap.size with h | h
      · exact h
      · rw [Array.getElem?_eq_none h] at hh; cases hh
    refine ⟨g, hb, fun _ => ⟨hlt, 0, rfl, fun j u hj => ?_⟩, hn, fun k hk => by simp [Value.ownBlock] at hk; exact hk.symm, hnc, hcm⟩
    rw [Nat.zero_add, cell_of_row w g j cur e (0, 0) hh, ← Array.getElem?_toList]
    have hj2 : j < n * 2 := by
      have := (List.getElem?_eq_some_iff.1 hj).1
      rw [Prs_length] at this
      omega
    have h2 := congrArg (·[j]?) ht
    simp only [List.getElem?_take_of_lt hj2] at h2
    rw [h2]
    exact hj
end
theorem flatK_prs (l : List (Int × Int)) : flatK encP 2 l.toArray = (Prs l).toArray := by
  refine ext_get! (by rw [size_flatK]; simp [Prs_length]) fun t ht => ?_
  have ht' : t < l.toArray.size * 2 := by simpa using ht
  rw [get_flatK _ _ _ t ht']
  have hl : t / 2 < l.length := by simp at ht'; omega
  have hx : l.toArray[t / 2]! = l[t / 2] := by
    rw [getElem!_pos l.toArray (t / 2) (by simpa using hl)]
    simp
  rw [hx]
  obtain ⟨p0, p1⟩ := Prs_get l (t / 2) l[t / 2] (List.getElem?_eq_getElem hl)
  have hs : t < (Prs l).toArray.size := by simp [Prs_length]; omega
  rw [getElem!_pos (Prs l).toArray t hs]
  have key : (Prs l)[t]? = some ((encP l[t / 2])[t % 2]!) := by
    rcases Nat.mod_two_eq_zero_or_one t with h | h
    · rw [h]
      have e2 : (Prs l)[t]? = (Prs l)[t / 2 * 2]? := congrArg (fun i => (Prs l)[i]?) (by omega)
      rw [e2]
      exact p0
    · rw [h]
      have e2 : (Prs l)[t]? = (Prs l)[t / 2 * 2 + 1]? := congrArg (fun i => (Prs l)[i]?) (by omega)
      rw [e2]
      exact p1
  have := List.getElem?_eq_some_iff.1 key
  obtain ⟨h1, h2⟩ := this
  simpa using h2.symm
/-- A row of one's own is what the sort asks for. -/
theorem holdsK_of_row {w : World} {g : Nat} {e : TypeId} {cur : Array Value} {l : List (Int × Int)} {n : Nat} (hh : w.heap[g]? = some (.cells cur e (0, 0))) (ht : cur.toList.take (n * 2) = Prs l) : HoldsK encP 2 w g 0 l.toArray := by
  unfold HoldsK
  rw [flatK_prs]
  intro j hj
  have hj' : j < (Prs l).length := by simpa using hj
  have hn : (Prs l).length ≤ n * 2 := by rw [← ht]; simp; omega
  rw [Nat.zero_add]
  refine ⟨?_, Blk.frozen (t := e) hh j⟩
  rw [cell_of_row w g j cur e (0, 0) hh, ← Array.getElem?_toList]
  have h2 := congrArg (·[j]?) ht
  simp only [List.getElem?_take_of_lt (show j < n * 2 by omega)] at h2
  rw [h2, List.getElem?_eq_getElem hj', getElem!_pos _ j hj]
  simp
/-- Behind the sort. -/
theorem sorted_slp {w : World} {g m : Nat} {l S : List (Int × Int)} {os : Array Obj} (hH : HoldsK encP 2 w g 0 l.toArray) (hg : g < w.heap.size) (hl : S.length = l.length) : SlP (sortWorldK encP 2 w g 0 m S.toArray os) g (some ⟨g, 0, none⟩) S := fun _ => by
  have h1 : Holds id (putRow id (Go.Sort.ahead w m) g 0 (flatK encP 2 S.toArray)) g 0 (flatK encP 2 S.toArray) := holds_putRow id _ g 0 (flatK encP 2 l.toArray) _ hH (by rw [size_flatK, size_flatK]; simp [hl])
  have h2 := holds_grow id _ os g 0 _ (by rw [size_putRow]; exact hg) h1
  rw [flatK_prs] at h2
  refine ⟨?_, 0, rfl, fun j u hj => ?_⟩
  · show g < (grow _ os).heap.size
    rw [size_grow]
    show g < (putRow id (Go.Sort.ahead w m) g 0 _).heap.size + _
    rw [size_putRow]
    exact Nat.lt_of_lt_of_le hg (Nat.le_add_right _ _)
  · have hj' : j < (Prs S).toArray.size := by simpa using (List.getElem?_eq_some_iff.1 hj).1
    have h3 := (h2 j hj').1
    rw [getElem!_pos _ j hj'] at h3
    have h4 : (Prs S).toArray[j] = u := by
      obtain ⟨_, e⟩ := List.getElem?_eq_some_iff.1 hj
      simpa using e
    rw [h4] at h3
    unfold sortWorldK putRowK
    rw [flatK_prs]
    exact h3
theorem sorted_below {w : World} {g m B : Nat} {d : Array (Int × Int)} {os : Array Obj} (hB : B ≤ g) (hg : g < w.heap.size) : Below B w (sortWorldK encP 2 w g 0 m d os) := by
  refine ⟨rfl, rfl, rfl, ?_, fun k hk => ?_⟩
  · show w.heap.size ≤ (grow _ os).heap.size
    rw [size_grow]
    show _ ≤ (putRow id (Go.Sort.ahead w m) g 0 _).heap.size + _
    rw [size_putRow]
    exact Nat.le_add_right _ _
  · unfold sortWorldK putRowK
    rw [heap_grow_old _ _ (by rw [size_putRow]; show k < w.heap.size; omega)]
    unfold putRow mapBlock
    simp only [Array.getElem?_modify]
    rw [if_neg (by omega)]
    rfl
end Go.Proofs.Ytfmmdnjoichifaa
