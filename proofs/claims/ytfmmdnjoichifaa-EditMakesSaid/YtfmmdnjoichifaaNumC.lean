/- Contracts of num.Reader's methods, over a model that is a list of bytes that are left, or none. -/
import Derived.Test.YtfmmdnjoichifaaNumB
namespace Go.Proofs.Ytfmmdnjoichifaa
open Go.RowKit

/-- A reader at block g of a struct type T, its bytes in block h: what is left, or bad ('none'). -/
def RdAt (T : TypeId) (w : World) (g h : Nat) (s : Option (List UInt8)) : Prop :=
  ∃ A c l, Blk w g T #[.slice A l.length c, .bool s.isNone] ∧ g ≠ h ∧ l.length ≤ c ∧ c ≤ maxLen ∧ SlB w h A l ∧ ∀ r, s = some r → r = l
theorem RdAt.keep {T : TypeId} {w w' : World} {g h : Nat} {s : Option (List UInt8)} (r : RdAt T w g h s) (h1 : g < w.heap.size → w'.heap[g]? = w.heap[g]?) (h2 : h < w.heap.size → w'.heap[h]? = w.heap[h]?) : RdAt T w' g h s := by
  obtain ⟨A, c, l, hb, hne, hl, hc, hs, hr⟩ := r
  exact ⟨A, c, l, (h1 hb.lt).trans hb, hne, hl, hc, hs.keep' h2, hr⟩
theorem RdAt.below {T : TypeId} {w w' : World} {g h : Nat} {s : Option (List UInt8)} (r : RdAt T w g h s) (hb : Below w.heap.size w w') : RdAt T w' g h s :=
  r.keep (fun h => hb.block _ h) (fun h => hb.block _ h)
theorem RdAt.grown {T : TypeId} {w w' : World} {g h : Nat} {s : Option (List UInt8)} (r : RdAt T w g h s) {row : Option Nat} (hb : w.grownBy w' row) (h1 : some g ≠ row) (h2 : some h ≠ row) : RdAt T w' g h s :=
  r.keep (fun h => hb.block _ h h1) (fun h => hb.block _ h h2)

set_option maxHeartbeats 400000 in
theorem from_any (A : Option Addr) (c h : Nat) (l : List UInt8) (w : World) (hs : SlB w h A l) (hl : l.length ≤ 70368744177664) :
    Calls Try.prog 75 #[.slice A l.length c] w fun e w' => ∃ g h', e = .returned (.pointer (some ⟨g, 0, none⟩)) ∧ w.heap.size ≤ g ∧ w.heap.size ≤ h' ∧ RdAt 151 w' g h' (some l) ∧ Below w.heap.size w w' := by
  have hr := hs.reads rfl
  have HR := Lib.hid hr
  have HS := Lib.hid hs
  clear hr hs
  go_enter Try.func75, Try.ntmps75
  go_wp2_with (at_builtin; (refine wpList_appB w rfl (.const (.slice none 0 0)) (.tmp 3) _ rfl Try.underlying30 info_u8 (base := w.heap.size) (xs := []) (World.ownsRow_nil w _ _ _) HR.out c rfl rfl (by omega) (Nat.le_refl _) ?_); intro A2 c2 w2 hown2 hgr2; have hg2 := hgr2.by_)
  go_ret
  simp only [Nat.zero_add, List.nil_append] at hown2
  obtain ⟨h2, hb2, hs2, hk2⟩ := SlB.of_own hown2
  have b1 : Below w.heap.size w w2 := (Below.refl _ _).grown hg2 (Nat.le_refl _) (by simp [Value.ownBlock])
  have hcap := own_cap hown2
  refine ⟨w2.heap.size, if l = [] then w2.heap.size + 1 else h2, rfl, b1.size, ?_, ⟨A2, c2, l, ?_, ?_, hcap.1, hcap.2, ?_, fun r e => by injection e with e; exact e.symm⟩, b1.alloc b1.size _⟩
  · split
    · have := b1.size; omega
    · exact hb2
  · simpa using Blk.new w2 151 #[.slice A2 l.length c2, .bool false]
  · split
    · omega
    · have := hs2.lt ‹_›; omega
  · split
    · subst l; exact SlB.nil _ _ _
    · have hlt := hs2.lt ‹_›
      exact hs2.keep (Below.heap_alloc w2 _ _ hlt)

set_option maxHeartbeats 400000 in
theorem bad_nil (w : World) : Calls Try.prog 106 #[.pointer none] w fun e w' => e = .returned (.bool true) ∧ w = w' := by
  go_enter Try.func106, Try.ntmps106
  go_wp2
  go_ret
  exact ⟨rfl, rfl⟩
set_option maxHeartbeats 400000 in
theorem bad_at (g h : Nat) (s : Option (List UInt8)) (w : World) (r : RdAt 151 w g h s) : Calls Try.prog 106 #[.pointer (some ⟨g, 0, none⟩)] w fun e w' => e = .returned (.bool s.isNone) ∧ w = w' := by
  obtain ⟨A, c, l, hb, _⟩ := r
  have hc := hb.cell 1
  simp at hc
  clear hb
  go_enter Try.func106, Try.ntmps106
  go_wp2
  go_ret
  exact ⟨rfl, rfl⟩
set_option maxHeartbeats 400000 in
theorem spoil_nil (w : World) : Calls Try.prog 105 #[.pointer none] w fun e w' => e = .returned (.tuple #[]) ∧ w = w' := by
  go_enter Try.func105, Try.ntmps105
  go_wp2
  go_end0
  exact ⟨rfl, rfl⟩
/-- Only block g has turned, and what is new. -/
theorem only_setCell {a w : World} {g : Nat} (h : a.grownBy w (some g)) {p : Addr} (hp : p.block = g ∨ a.heap.size ≤ p.block) (u : Value) : a.grownBy (w.setCell p u) (some g) :=
  ⟨h.os, h.tape, h.output, by simpa [World.setCell] using h.size, fun i hi hne => (Below.heap_setCell w p u i (by
    rintro rfl
    rcases hp with hp | hp
    · exact hne (by rw [hp])
    · omega)).trans (h.block i hi hne)⟩
theorem only_trans {a b c : World} {g : Nat} (h : a.grownBy b (some g)) (k : b.grownBy c (some g)) : a.grownBy c (some g) :=
  ⟨k.os.trans h.os, k.tape.trans h.tape, k.output.trans h.output, Nat.le_trans h.size k.size, fun i hi hne => (k.block i (Nat.lt_of_lt_of_le hi h.size) hne).trans (h.block i hi hne)⟩
theorem only_below {a b c : World} {g : Nat} (h : a.grownBy b (some g)) (k : Below b.heap.size b c) : a.grownBy c (some g) :=
  ⟨k.os.trans h.os, k.tape.trans h.tape, k.output.trans h.output, Nat.le_trans h.size k.size, fun i hi hne => (k.block i (Nat.lt_of_lt_of_le hi h.size)).trans (h.block i hi hne)⟩
/-- What a method leaves: the reader as the model has it, all else as it was. -/
def RdPost (g h : Nat) (w : World) (v : Value) (s' : Option (List UInt8)) (e : Ending) (w' : World) : Prop :=
  e = .returned v ∧ RdAt 151 w' g h s' ∧ w.grownBy w' (some g)

set_option maxHeartbeats 400000 in
theorem spoil_at (g h : Nat) (s : Option (List UInt8)) (w : World) (r : RdAt 151 w g h s) : Calls Try.prog 105 #[.pointer (some ⟨g, 0, none⟩)] w (RdPost g h w (.tuple #[]) none) := by
  obtain ⟨A, c, l, hb, hne, _⟩ := r
  have c0 := hb.cell 0
  have c1 := hb.cell 1
  have f0 := hb.frozen 0
  have f1 := hb.frozen 1
  simp at c0 c1
  have HB := Lib.hid hb
  clear hb
  go_enter Try.func105, Try.ntmps105
  go_wp2
  go_end0
  refine ⟨rfl, ⟨none, 0, [], ?_, hne, Nat.le_refl _, by decide, SlB.nil _ _ _, fun _ e => by cases e⟩, only_setCell (p := ⟨g, 0, none⟩) (only_setCell (p := ⟨g, 1, none⟩) (World.grownBy.refl w _) (.inl rfl) _) (.inl rfl) _⟩
  simpa using (HB.out.set_ 1 (.bool true)).set_ 0 (.slice none 0 0)

/-- What 'take' hands out, and what is left. -/
def takeM (n : Int) : Option (List UInt8) → List UInt8 × Option (List UInt8)
  | none => ([], none)
  | some l => if 0 ≤ n ∧ n ≤ l.length then (l.take n.toNat, some (l.drop n.toNat)) else ([], none)
def TakePost (g h : Nat) (w : World) (t : List UInt8 × Option (List UInt8)) (e : Ending) (w' : World) : Prop :=
  ∃ A c, e = .returned (.slice A t.1.length c) ∧ t.1.length ≤ c ∧ SlB w' h A t.1 ∧ RdAt 151 w' g h t.2 ∧ w.grownBy w' (some g)

set_option maxHeartbeats 400000 in
theorem take_nil (n : Int) (w : World) : Calls Try.prog 128 #[.pointer none, .int .i64 n] w fun e w' => e = .returned (.slice none 0 0) ∧ w = w' := by
  go_enter Try.func128, Try.ntmps128
  go_wp2_with fail
  refine (bad_nil _).mono ?_; rintro e w' ⟨rfl, rfl⟩
  go_wp2_with fail
  refine (spoil_nil _).mono ?_; rintro e w' ⟨rfl, rfl⟩
  go_wp2
  go_ret
  exact ⟨rfl, rfl⟩
set_option maxHeartbeats 400000 in
theorem take_bad (g h : Nat) (n : Int) (w : World) (r : RdAt 151 w g h none) : Calls Try.prog 128 #[.pointer (some ⟨g, 0, none⟩), .int .i64 n] w (TakePost g h w ([], none)) := by
  have R := Lib.hid r
  clear r
  go_enter Try.func128, Try.ntmps128
  go_wp2_with fail
  refine (bad_at g h none _ R.out).mono ?_; rintro e w' ⟨rfl, rfl⟩
  go_wp2_with fail
  refine (spoil_at g h none _ R.out).mono ?_; rintro e w' ⟨rfl, r', hg⟩
  go_wp2
  go_ret
  exact ⟨none, 0, rfl, Nat.le_refl _, SlB.nil _ _ _, r', hg⟩
set_option maxHeartbeats 400000 in
theorem take_no (g h : Nat) (n : Int) (l : List UInt8) (w : World) (r : RdAt 151 w g h (some l)) (hn : ¬ (0 ≤ n ∧ n ≤ l.length)) : Calls Try.prog 128 #[.pointer (some ⟨g, 0, none⟩), .int .i64 n] w (TakePost g h w ([], none)) := by
  have r0 := r
  obtain ⟨A, c, l', hb, hne, hlc, hc, hs, hr⟩ := r
  obtain rfl := hr l rfl
  have c0 := hb.cell 0
  simp at c0
  have HB := Lib.hid hb
  have R := Lib.hid r0
  clear hb r0 hr
  unfold maxLen at hc
  by_cases h0 : n < 0
  · have d0 : decide (n < 0) = true := by simpa using h0
    clear hn
    go_enter Try.func128, Try.ntmps128
    go_wp2_with fail
    refine (bad_at g h (some l) _ R.out).mono ?_; rintro e w' ⟨rfl, rfl⟩
    go_wp2_with fail
    refine (spoil_at g h (some l) _ R.out).mono ?_; rintro e w' ⟨rfl, r', hg⟩
    go_wp2
    go_ret
    exact ⟨none, 0, rfl, Nat.le_refl _, SlB.nil _ _ _, r', hg⟩
  · have d0 : decide (n < 0) = false := by simpa using h0
    have d1 : decide ((l.length : Int) < n) = true := by simp; omega
    clear hn
    go_enter Try.func128, Try.ntmps128
    go_wp2_with fail
    refine (bad_at g h (some l) _ R.out).mono ?_; rintro e w' ⟨rfl, rfl⟩
    go_wp2_with fail
    refine (spoil_at g h (some l) _ R.out).mono ?_; rintro e w' ⟨rfl, r', hg⟩
    go_wp2
    go_ret
    exact ⟨none, 0, rfl, Nat.le_refl _, SlB.nil _ _ _, r', hg⟩
set_option maxHeartbeats 400000 in
theorem take_yes (g h : Nat) (k : Nat) (l : List UInt8) (w : World) (r : RdAt 151 w g h (some l)) (hn : k ≤ l.length) : Calls Try.prog 128 #[.pointer (some ⟨g, 0, none⟩), .int .i64 (k : Int)] w (TakePost g h w (l.take k, some (l.drop k))) := by
  have r0 := r
  obtain ⟨A, c, l', hb, hne, hlc, hc, hs, hr⟩ := r
  obtain rfl := hr l rfl
  have c0 := hb.cell 0
  have f0 := hb.frozen 0
  simp at c0
  have HB := Lib.hid hb
  have R := Lib.hid r0
  have HS := Lib.hid hs
  clear hb r0 hr hs
  unfold maxLen at hc
  have d0 : decide ((k : Int) < 0) = false := by simp
  have d1 : decide ((l.length : Int) < (k : Int)) = false := by simp; omega
  go_enter Try.func128, Try.ntmps128
  go_wp2_with fail
  refine (bad_at g h (some l) _ R.out).mono ?_; rintro e w' ⟨rfl, rfl⟩
  go_wp2
  · have hk : k = l.length := by omega
    go_ret
    refine ⟨A, k, by rw [List.length_take, Nat.min_eq_left hn]; rfl, by rw [List.length_take]; omega, (HS.out.take k).keep (Below.heap_setCell _ _ _ _ (fun e => hne e.symm)), ⟨A, 0, [], ?_, hne, Nat.le_refl _, by decide, SlB.nil _ _ _, fun r e => ?_⟩, only_setCell (p := ⟨g, 0, none⟩) (World.grownBy.refl w _) (.inl rfl) _⟩
    · have := HB.out.set_ 0 (.slice A (l.length - k) 0)
      simpa [hk] using this
    · injection e with e
      rw [← e]
      exact List.drop_eq_nil_of_le (by omega)
  · go_ret
    refine ⟨A, c, by rw [List.length_take, Nat.min_eq_left hn]; rfl, by rw [List.length_take]; omega, (HS.out.take k).keep (Below.heap_setCell _ _ _ _ (fun e => hne e.symm)), ⟨cutA A k c, c - k, l.drop k, ?_, hne, ?_, ?_, ?_, fun r e => ?_⟩, only_setCell (p := ⟨g, 0, none⟩) (World.grownBy.refl w _) (.inl rfl) _⟩
    · rw [List.length_drop]
      have := HB.out.set_ 0 (.slice (cutA A k c) (l.length - k) (c - k))
      have hck : ¬ c = k := by assumption
      simpa [cutA, hck] using this
    · rw [List.length_drop]; omega
    · unfold maxLen; omega
    · exact (HS.out.drop hlc).keep (Below.heap_setCell _ _ _ _ (fun e => hne e.symm))
    · injection e with e; exact e.symm
theorem take_at (g h : Nat) (n : Int) (s : Option (List UInt8)) (w : World) (r : RdAt 151 w g h s) : Calls Try.prog 128 #[.pointer (some ⟨g, 0, none⟩), .int .i64 n] w (TakePost g h w (takeM n s)) := by
  rcases s with _ | l
  · exact take_bad g h n w r
  · by_cases hn : 0 ≤ n ∧ n ≤ l.length
    · obtain ⟨k, rfl⟩ := Int.eq_ofNat_of_zero_le hn.1
      have e : takeM (k : Int) (some l) = (l.take k, some (l.drop k)) := by unfold takeM; simp only [if_pos hn, Int.toNat_natCast]
      rw [e]
      exact take_yes g h k l w r (by omega)
    · have e : takeM n (some l) = ([], none) := by unfold takeM; simp only [if_neg hn]
      rw [e]
      exact take_no g h n l w r hn

end Go.Proofs.Ytfmmdnjoichifaa
