/- Contracts of the document's own reader for num, over the same model. -/
import Derived.Test.YtodfpdmmbmbinaaNumG
import Derived.Test.YtodfpdmmbmbinaaNumRd
namespace Go.Proofs.Ytodfpdmmbmbinaa
open Go.RowKit

/-- The reader's bad mark is set. -/
theorem rd_spoil {T : TypeId} {w : World} {g h : Nat} {s : Option (List UInt8)} (r : RdAt T w g h s) : RdAt T (w.setCell ⟨g, 1, none⟩ (.bool true)) g h none := by
  obtain ⟨A, c, l, hb, hne, hlc, hc, hs, hr⟩ := r
  refine ⟨A, c, l, ?_, hne, hlc, hc, hs.keep (Below.heap_setCell _ _ _ _ (fun e => hne e.symm)), fun _ e => by cases e⟩
  simpa using hb.set_ 1 (.bool true)
theorem grown_set1 (w : World) (g : Nat) (i : Nat) (v : Value) : w.grownBy (w.setCell ⟨g, i, none⟩ v) (some g) := only_setCell (p := ⟨g, i, none⟩) (World.grownBy.refl w _) (.inl rfl) _
theorem rd_cells {T : TypeId} {w : World} {g h : Nat} {s : Option (List UInt8)} (r : RdAt T w g h s) : ∃ A c l, w.cell? ⟨g, 0, none⟩ = some (.slice A l.length c) ∧ w.cell? ⟨g, 1, none⟩ = some (.bool s.isNone) ∧ w.frozen? ⟨g, 0, none⟩ = false ∧ w.frozen? ⟨g, 1, none⟩ = false ∧ l.length ≤ c ∧ c ≤ 9223372036854775807 ∧ (∀ l', s = some l' → l' = l) := by
  obtain ⟨A, c, l, hb, hne, hlc, hc, hs, hr⟩ := r
  have c0 := hb.cell 0
  have c1 := hb.cell 1
  simp at c0 c1
  exact ⟨A, c, l, c0, c1, hb.frozen 0, hb.frozen 1, hlc, by simpa [maxLen] using hc, hr⟩

/-- An old block, behind an append to a new row. -/
theorem old_after {w w2 : World} {o : Obj} {n c : Nat} {v' : Value} {g : Nat} (hg : g < w.heap.size) (G : Grew (w.alloc o) w2 (.slice (some ⟨w.heap.size, 0, none⟩) n c) v') : w2.heap[g]? = w.heap[g]? :=
  ((Grew.by_ G).block g (by simp; omega) (fun e => by simp [Value.ownBlock] at e; omega)).trans (Below.heap_alloc w o g hg)
theorem grew_only {w w2 : World} {o : Obj} {n c : Nat} {v' : Value} (G : Grew (w.alloc o) w2 (.slice (some ⟨w.heap.size, 0, none⟩) n c) v') : Below w.heap.size w w2 :=
  ((Below.refl _ _).alloc (Nat.le_refl _) o).grown (Grew.by_ G) (by simp) (by simp [Value.ownBlock])
def Good (s : Option (List UInt8)) : Prop := ∀ l, s = some l → l.length ≤ 70368744177664
theorem takeM_good {n : Int} {s : Option (List UInt8)} (h : Good s) : Good (takeM n s).2 := by
  intro l hl
  rcases s with _ | l'
  · cases hl
  · have h1 := h l' rfl
    unfold takeM at hl
    by_cases hn : 0 ≤ n ∧ n ≤ l'.length
    · simp only [if_pos hn] at hl
      injection hl with hl
      rw [← hl, List.length_drop]
      omega
    · simp only [if_neg hn] at hl
      cases hl
theorem fixedM_good {n : Int} {s : Option (List UInt8)} (h : Good s) : Good (fixedM n s).2 := by
  unfold fixedM
  split
  · split
    · intro l hl; cases hl
    · exact takeM_good h
  · intro l hl; cases hl
theorem takeM_none (n : Int) (s : Option (List UInt8)) (h : (takeM n s).2 = none) : (takeM n s).1 = [] := by
  rcases s with _ | l'
  · rfl
  · unfold takeM at h ⊢
    by_cases hn : 0 ≤ n ∧ n ≤ l'.length
    · simp only [if_pos hn] at h; cases h
    · simp only [if_neg hn]
theorem takeM_some (n : Int) (s : Option (List UInt8)) (r : List UInt8) (h : (takeM n s).2 = some r) : ((takeM n s).1.length : Int) = n := by
  rcases s with _ | l'
  · cases h
  · unfold takeM at h ⊢
    by_cases hn : 0 ≤ n ∧ n ≤ l'.length
    · simp only [if_pos hn, List.length_take]; omega
    · simp only [if_neg hn] at h; cases h
theorem beV_cons (b : UInt8) (l : List UInt8) : beV (b :: l) = b.toNat * 256 ^ l.length + beV l := by
  have h : ∀ (l : List UInt8) (n : Nat), l.foldl (fun n b => n * 256 + b.toNat) n = n * 256 ^ l.length + l.foldl (fun n b => n * 256 + b.toNat) 0 := by
    intro l
    induction l with
    | nil => intro n; simp
    | cons b l ih =>
      intro n
      rw [List.foldl_cons, List.foldl_cons, ih (n * 256 + b.toNat), ih (0 * 256 + b.toNat), List.length_cons, Nat.pow_succ, Nat.add_mul, Nat.zero_mul, Nat.zero_add, Nat.mul_assoc, Nat.mul_comm 256, Nat.add_assoc]
  unfold beV
  rw [List.foldl_cons, h]
  simp
theorem beV_big (t : List UInt8) (h1 : 1 ≤ t.length) (h8 : t.length ≤ 8) : 9223372036854775807 < beV t ↔ t.length = 8 ∧ ∃ b, t[0]? = some b ∧ 127 < b.toNat := by
  match t, h1 with
  | b :: r, _ =>
    have hl := beV_lt r
    have hb := b.toNat_lt
    rw [beV_cons]
    simp only [List.length_cons] at h8
    by_cases h : r.length = 7
    · rw [h] at hl ⊢
      simp [h]
      omega
    · have h2 : 256 ^ r.length ≤ 256 ^ 6 := Nat.pow_le_pow_right (by omega) (by omega)
      have h3 : b.toNat * 256 ^ r.length ≤ 255 * 256 ^ 6 := Nat.mul_le_mul (by omega) h2
      simp only [List.length_cons]
      constructor
      · intro h4; omega
      · rintro ⟨h4, _⟩; omega
theorem beV_append (a b : List UInt8) : beV (a ++ b) = beV a * 256 ^ b.length + beV b := by
  induction a with
  | nil => simp [beV]
  | cons x a ih => rw [List.cons_append, beV_cons, ih, beV_cons, List.length_append, Nat.pow_add, Nat.add_mul, Nat.mul_assoc, Nat.add_assoc]
theorem beV_take_le (t : List UInt8) (k : Nat) : beV (t.take k) ≤ beV t := by
  have h := beV_append (t.take k) (t.drop k)
  rw [List.take_append_drop] at h
  have : beV (t.take k) * 1 ≤ beV (t.take k) * 256 ^ (t.drop k).length := Nat.mul_le_mul_left _ (Nat.pow_pos (by omega))
  omega
theorem only_trans2 {a b : World} {g : Nat} (h : a.grownBy b (some g)) (v : Value) : a.grownBy (b.setCell ⟨g, 1, none⟩ v) (some g) := only_setCell (p := ⟨g, 1, none⟩) h (.inl rfl) v
end Go.Proofs.Ytodfpdmmbmbinaa
