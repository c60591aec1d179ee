/- The walk of the law MomentWalks. -/
import Derived.Test.YtalcgkfnjhlnoabMoKeeps
namespace Go.Proofs.Ytalcgkfnjhlnoab
open Go.RowKit Go.Sort

/-- Boxes of two cells. -/
def Cells (W : World) (L : List (Nat × Value × Value)) : Prop := ∀ p ∈ L, Cell2 W p.1 p.2.1 p.2.2
theorem Cells.below {W W' : World} {L : List (Nat × Value × Value)} (h : Cells W L) (hb : Below W.heap.size W W') : Cells W' L := fun p hp => (h p hp).below hb
theorem Cells.at_ {W : World} {L : List (Nat × Value × Value)} (h : Cells W L) (i : Nat) {p : Nat × Value × Value} (hi : L[i]? = some p) : p.1 < W.heap.size ∧ p.1 ≠ W.heap.size ∧ W.cell? ⟨p.1, 0, none⟩ = some p.2.1 ∧ W.cell? ⟨p.1, 1, none⟩ = some p.2.2 := by
  obtain ⟨h1, h2, h3⟩ := h p (List.mem_of_getElem? hi)
  exact ⟨h1, Nat.ne_of_lt h1, h2, h3⟩
theorem Cells.cons {W : World} {L : List (Nat × Value × Value)} {g : Nat} {v0 v1 : Value} (h : Cells W L) (hc : Cell2 W g v0 v1) : Cells W ((g, v0, v1) :: L) := fun p hp => by
  rcases List.mem_cons.1 hp with rfl | hp
  · exact hc
  · exact h p hp
theorem Cells.next {w W' : World} {L : List (Nat × Value × Value)} {t : TypeId} {v0 v1 : Value} (h : Cells w L) (hb : Below (w.alloc (.cells #[v0, v1] t)).heap.size (w.alloc (.cells #[v0, v1] t)) W') : Cells W' ((w.heap.size, v0, v1) :: L) :=
  ((h.below (alloc_below w _)).below hb).cons ((Cell2.new w t v0 v1).below hb)
theorem walk_then (s : Bool) (a : Int) (t : Bool) (b e r : Int) (T : Bool) (c x1 x2 : Int) (h1 : thenM s a t b = (true, (T, c))) (h2 : walkM s a e r = ((x1, x2), 0)) : walkM t b x1 x2 = walkM T c e r := by
  unfold walkM at h2
  by_cases ha : wayM a = false
  · rw [if_pos ha] at h2; simp at h2
  rw [if_neg ha] at h2
  by_cases hm : okMo (e, r) = false
  · rw [if_pos hm] at h2; simp at h2
  rw [if_neg hm] at h2
  by_cases hm2 : okMo (e, if s = true then a else a + r) = false
  · rw [if_pos hm2] at h2; simp at h2
  rw [if_neg hm2] at h2
  unfold thenM at h1
  rw [if_neg ha] at h1
  by_cases hb : wayM b = false
  · rw [if_pos hb] at h1; simp at h1
  rw [if_neg hb] at h1
  injection h2 with h2 _
  injection h2 with e1 e2
  have hx : okMo (e, x2) = true := by rw [← e2]; simpa using hm2
  have hm' : okMo (e, r) = true := by simpa using hm
  subst e1
  by_cases ht : t = true
  · rw [if_pos ht] at h1
    injection h1 with _ h1
    injection h1 with hT hc
    subst ht hT hc
    unfold walkM
    simp only [if_neg hb, hx, hm', Bool.true_eq_false, if_false, if_true]
  · rw [if_neg ht] at h1
    have ht' : t = false := by simpa using ht
    subst ht'
    by_cases hc2 : wayM (a + b) = false
    · rw [if_pos hc2] at h1; simp at h1
    rw [if_neg hc2] at h1
    injection h1 with _ h1
    injection h1 with hT hc
    subst hT hc
    unfold walkM
    simp only [if_neg hb, if_neg hc2, hx, hm', Bool.true_eq_false, Bool.false_eq_true, if_false]
    cases s
    · have : b + x2 = a + b + r := by rw [← e2]; simp only [Bool.false_eq_true, if_false]; omega
      simp only [Bool.false_eq_true, if_false]
      rw [this]
    · have : b + x2 = a + b := by rw [← e2]; simp only [if_true]; omega
      simp only [if_true]
      rw [this]
set_option maxRecDepth 100000 in
set_option maxHeartbeats 4000000 in
theorem walks_any (s1 : Bool) (a1 : Int) (s2 : Bool) (a2 e r : Int) (w : World) :
    Calls Try.prog 12 #[.agg #[.bool s1, .int .i64 a1], .agg #[.bool s2, .int .i64 a2], .agg #[.int .i64 e, .int .i64 r]] w (LawPost w) := by
  have KA := ((Blk.new w 74 #[.bool s1, .int .i64 a1]).alloc (.cells #[.bool s2, .int .i64 a2] 74)).alloc (.cells #[.int .i64 e, .int .i64 r] 58)
  have KB := (blk_top (w.alloc (.cells #[.bool s1, .int .i64 a1] 74)) #[.bool s2, .int .i64 a2] 74 (w.heap.size + 1) (by simp)).alloc (.cells #[.int .i64 e, .int .i64 r] 58)
  have KC := blk_top ((w.alloc (.cells #[.bool s1, .int .i64 a1] 74)).alloc (.cells #[.bool s2, .int .i64 a2] 74)) #[.int .i64 e, .int .i64 r] 58 (w.heap.size + 1 + 1) (by simp)
  have X0 := Lib.hid (show Cells _ [(w.heap.size, .bool s1, .int .i64 a1), (w.heap.size + 1, .bool s2, .int .i64 a2), (w.heap.size + 1 + 1, .int .i64 e, .int .i64 r)] from fun p hp => by
    simp only [List.mem_cons, List.not_mem_nil, or_false] at hp
    rcases hp with rfl | rfl | rfl
    · exact ⟨KA.lt, KA.cell 0, KA.cell 1⟩
    · exact ⟨KB.lt, KB.cell 0, KB.cell 1⟩
    · exact ⟨KC.lt, KC.cell 0, KC.cell 1⟩)
  have H0 := Lib.hid (below_trans (below_trans (alloc_below w (.cells #[.bool s1, .int .i64 a1] 74)) (alloc_below _ (.cells #[.bool s2, .int .i64 a2] 74))) (alloc_below _ (.cells #[.int .i64 e, .int .i64 r] 58)))
  clear KA KB KC
  have P1 := Lib.hid (fun W => walk_any s1 a1 e r W)
  have P2 := Lib.hid (fun W => rwalk_any s1 a1 e r W)
  have P3 := Lib.hid (fun W => then_any s1 a1 s2 a2 W)
  have P4 := Lib.hid (fun W => rthen_any s1 a1 s2 a2 W)
  obtain ⟨x1, x2, xe, hx⟩ : ∃ x1 x2 xe, walkM s1 a1 e r = ((x1, x2), xe) := ⟨_, _, _, rfl⟩
  obtain ⟨ok, t1, t2, ht⟩ : ∃ ok t1 t2, thenM s1 a1 s2 a2 = (ok, (t1, t2)) := ⟨_, _, _, rfl⟩
  rw [hx] at P1 P2
  rw [ht] at P3 P4
  have HX := Lib.hid hx
  have HT := Lib.hid ht
  clear hx ht
  simp only at P1 P2 P3 P4
  go_enter Try.func12, Try.ntmps12
  go_wp2_with fail
  refine (P1.out _).mono ?_; rintro en w1 ⟨rfl, b1⟩
  have X1 := Lib.hid (X0.out.below b1)
  have H1 := Lib.hid (below_trans H0.out b1)
  clear X0 H0 b1
  obtain ⟨la0, lb0, ca0, cb0⟩ := X1.out.at_ 0 rfl
  obtain ⟨la1, lb1, ca1, cb1⟩ := X1.out.at_ 1 rfl
  obtain ⟨la2, lb2, ca2, cb2⟩ := X1.out.at_ 2 rfl
  go_wp2_with fail
  refine (P2.out _).mono ?_; rintro en w2 ⟨rfl, b2⟩
  have X2 := Lib.hid (X1.out.next b2)
  have H2 := Lib.hid (below_trans H1.out (below_trans (alloc_below _ _) b2))
  clear X1 H1 b2
  clear la0 lb0 ca0 cb0 la1 lb1 ca1 cb1 la2 lb2 ca2 cb2
  obtain ⟨la0, lb0, ca0, cb0⟩ := X2.out.at_ 0 rfl
  obtain ⟨la1, lb1, ca1, cb1⟩ := X2.out.at_ 1 rfl
  obtain ⟨la2, lb2, ca2, cb2⟩ := X2.out.at_ 2 rfl
  obtain ⟨la3, lb3, ca3, cb3⟩ := X2.out.at_ 3 rfl
  go_wp2_with fail
  refine (P3.out _).mono ?_; rintro en w3 ⟨rfl, b3⟩
  have X3 := Lib.hid (X2.out.next b3)
  have H3 := Lib.hid (below_trans H2.out (below_trans (alloc_below _ _) b3))
  clear X2 H2 b3
  clear la0 lb0 ca0 cb0 la1 lb1 ca1 cb1 la2 lb2 ca2 cb2 la3 lb3 ca3 cb3
  obtain ⟨la0, lb0, ca0, cb0⟩ := X3.out.at_ 0 rfl
  obtain ⟨la1, lb1, ca1, cb1⟩ := X3.out.at_ 1 rfl
  obtain ⟨la2, lb2, ca2, cb2⟩ := X3.out.at_ 2 rfl
  obtain ⟨la3, lb3, ca3, cb3⟩ := X3.out.at_ 3 rfl
  obtain ⟨la4, lb4, ca4, cb4⟩ := X3.out.at_ 4 rfl
  go_wp2_with fail
  refine (P4.out _).mono ?_; rintro en w4 ⟨rfl, b4⟩
  have X4 := Lib.hid (X3.out.next b4)
  have H4 := Lib.hid (below_trans H3.out (below_trans (alloc_below _ _) b4))
  clear X3 H3 b4
  clear la0 lb0 ca0 cb0 la1 lb1 ca1 cb1 la2 lb2 ca2 cb2 la3 lb3 ca3 cb3 la4 lb4 ca4 cb4
  obtain ⟨la0, lb0, ca0, cb0⟩ := X4.out.at_ 0 rfl
  obtain ⟨la1, lb1, ca1, cb1⟩ := X4.out.at_ 1 rfl
  obtain ⟨la2, lb2, ca2, cb2⟩ := X4.out.at_ 2 rfl
  obtain ⟨la3, lb3, ca3, cb3⟩ := X4.out.at_ 3 rfl
  obtain ⟨la4, lb4, ca4, cb4⟩ := X4.out.at_ 4 rfl
  obtain ⟨la5, lb5, ca5, cb5⟩ := X4.out.at_ 5 rfl
  go_wp2_with fail
  refine (lives_any _).mono ?_; rintro en w5 ⟨rfl, b5⟩
  have X5 := Lib.hid (X4.out.next b5)
  have H5 := Lib.hid (below_trans H4.out (below_trans (alloc_below _ _) b5))
  clear X4 H4 b5
  clear la0 lb0 ca0 cb0 la1 lb1 ca1 cb1 la2 lb2 ca2 cb2 la3 lb3 ca3 cb3 la4 lb4 ca4 cb4 la5 lb5 ca5 cb5
  obtain ⟨la0, lb0, ca0, cb0⟩ := X5.out.at_ 0 rfl
  obtain ⟨la1, lb1, ca1, cb1⟩ := X5.out.at_ 1 rfl
  obtain ⟨la2, lb2, ca2, cb2⟩ := X5.out.at_ 2 rfl
  obtain ⟨la3, lb3, ca3, cb3⟩ := X5.out.at_ 3 rfl
  obtain ⟨la4, lb4, ca4, cb4⟩ := X5.out.at_ 4 rfl
  obtain ⟨la5, lb5, ca5, cb5⟩ := X5.out.at_ 5 rfl
  obtain ⟨la6, lb6, ca6, cb6⟩ := X5.out.at_ 6 rfl
  cases ok
  · rw [show argE false = 1 from rfl]
    go_wp2
    go_ret
    exact ⟨rfl, H5.out⟩
  · rw [show argE true = 0 from rfl]
    by_cases hxe : xe = 0
    · subst hxe
      have P6 := Lib.hid (fun W => walk_any s2 a2 x1 x2 W)
      have P7 := Lib.hid (fun W => walk_any t1 t2 e r W)
      rw [walk_then s1 a1 s2 a2 e r t1 t2 x1 x2 HT.out HX.out] at P6
      obtain ⟨p1, p2, pe, hp⟩ : ∃ x1 x2 xe, walkM t1 t2 e r = ((x1, x2), xe) := ⟨_, _, _, rfl⟩
      rw [hp] at P6 P7
      simp only at P6 P7
      clear hp
      go_wp2_with fail
      refine (P6.out _).mono ?_; rintro en w6 ⟨rfl, b6⟩
      have X6 := Lib.hid (X5.out.below b6)
      have H6 := Lib.hid (below_trans H5.out b6)
      clear X5 H5 b6
      clear la0 lb0 ca0 cb0 la1 lb1 ca1 cb1 la2 lb2 ca2 cb2 la3 lb3 ca3 cb3 la4 lb4 ca4 cb4 la5 lb5 ca5 cb5 la6 lb6 ca6 cb6
      obtain ⟨la0, lb0, ca0, cb0⟩ := X6.out.at_ 0 rfl
      obtain ⟨la1, lb1, ca1, cb1⟩ := X6.out.at_ 1 rfl
      obtain ⟨la2, lb2, ca2, cb2⟩ := X6.out.at_ 2 rfl
      obtain ⟨la3, lb3, ca3, cb3⟩ := X6.out.at_ 3 rfl
      obtain ⟨la4, lb4, ca4, cb4⟩ := X6.out.at_ 4 rfl
      obtain ⟨la5, lb5, ca5, cb5⟩ := X6.out.at_ 5 rfl
      obtain ⟨la6, lb6, ca6, cb6⟩ := X6.out.at_ 6 rfl
      go_wp2_with fail
      refine (P7.out _).mono ?_; rintro en w7 ⟨rfl, b7⟩
      have X7 := Lib.hid (X6.out.next b7)
      have H7 := Lib.hid (below_trans H6.out (below_trans (alloc_below _ _) b7))
      clear X6 H6 b7
      clear la0 lb0 ca0 cb0 la1 lb1 ca1 cb1 la2 lb2 ca2 cb2 la3 lb3 ca3 cb3 la4 lb4 ca4 cb4 la5 lb5 ca5 cb5 la6 lb6 ca6 cb6
      obtain ⟨la0, lb0, ca0, cb0⟩ := X7.out.at_ 0 rfl
      obtain ⟨la1, lb1, ca1, cb1⟩ := X7.out.at_ 1 rfl
      obtain ⟨la2, lb2, ca2, cb2⟩ := X7.out.at_ 2 rfl
      obtain ⟨la3, lb3, ca3, cb3⟩ := X7.out.at_ 3 rfl
      obtain ⟨la4, lb4, ca4, cb4⟩ := X7.out.at_ 4 rfl
      obtain ⟨la5, lb5, ca5, cb5⟩ := X7.out.at_ 5 rfl
      obtain ⟨la6, lb6, ca6, cb6⟩ := X7.out.at_ 6 rfl
      obtain ⟨la7, lb7, ca7, cb7⟩ := X7.out.at_ 7 rfl
      go_wp2
      go_ret
      exact ⟨rfl, H7.out.alloc (by have := H7.out.size; omega) _⟩
    · have dx : (xe == 0) = false := by simpa using hxe
      go_wp2
      go_ret
      exact ⟨rfl, H5.out⟩
end Go.Proofs.Ytalcgkfnjhlnoab
