/- What must come of every program lives (moment). -/
import Derived.Test.YtalcgkfnjhlnoabMoL
namespace Go.Proofs.Ytalcgkfnjhlnoab
open Go.RowKit Go.Sort

/-- The three moments that lives has in boxes. -/
structure Boxes (n : Nat) (W : World) : Prop where
  lt : n + 1 + 1 < W.heap.size
  a0 : W.cell? ⟨n, 0, none⟩ = some (.int .i64 1)
  a1 : W.cell? ⟨n, 1, none⟩ = some (.int .i64 3)
  b0 : W.cell? ⟨n + 1, 0, none⟩ = some (.int .i64 2)
  b1 : W.cell? ⟨n + 1, 1, none⟩ = some (.int .i64 1)
  c0 : W.cell? ⟨n + 1 + 1, 0, none⟩ = some (.int .i64 2)
  c1 : W.cell? ⟨n + 1 + 1, 1, none⟩ = some (.int .i64 4)
theorem Boxes.below {n : Nat} {W W' : World} (h : Boxes n W) (hb : Below W.heap.size W W') : Boxes n W' where
  lt := Nat.lt_of_lt_of_le h.lt hb.size
  a0 := (hb.cell (p := ⟨n, 0, none⟩) (by have := h.lt; simp only; omega)).trans h.a0
  a1 := (hb.cell (p := ⟨n, 1, none⟩) (by have := h.lt; simp only; omega)).trans h.a1
  b0 := (hb.cell (p := ⟨n + 1, 0, none⟩) (by have := h.lt; simp only; omega)).trans h.b0
  b1 := (hb.cell (p := ⟨n + 1, 1, none⟩) (by have := h.lt; simp only; omega)).trans h.b1
  c0 := (hb.cell (p := ⟨n + 1 + 1, 0, none⟩) (by have := h.lt; simp only; omega)).trans h.c0
  c1 := (hb.cell (p := ⟨n + 1 + 1, 1, none⟩) (by have := h.lt; simp only; omega)).trans h.c1
def Cell2 (W : World) (g : Nat) (v0 v1 : Value) : Prop := g < W.heap.size ∧ W.cell? ⟨g, 0, none⟩ = some v0 ∧ W.cell? ⟨g, 1, none⟩ = some v1
theorem Cell2.below {W W' : World} {g : Nat} {v0 v1 : Value} (h : Cell2 W g v0 v1) (hb : Below W.heap.size W W') : Cell2 W' g v0 v1 :=
  ⟨Nat.lt_of_lt_of_le h.1 hb.size, (hb.cell (p := ⟨g, 0, none⟩) h.1).trans h.2.1, (hb.cell (p := ⟨g, 1, none⟩) h.1).trans h.2.2⟩
theorem Cell2.new (w : World) (t : TypeId) (v0 v1 : Value) : Cell2 (w.alloc (.cells #[v0, v1] t)) w.heap.size v0 v1 :=
  ⟨by rw [World.size_alloc]; exact Nat.lt_succ_self _, (Blk.new w t _).cell 0, (Blk.new w t _).cell 1⟩
theorem lt_all {a b : Nat} (h : a + 1 + 1 < b) : a < b ∧ a + 1 < b ∧ a ≠ b ∧ a + 1 ≠ b ∧ a + 1 + 1 ≠ b := by omega
theorem slp_new (w : World) (l : List (Int × Int)) (t : TypeId) (g : Nat) (hg : w.heap.size = g) : SlP (w.alloc (.cells (Prs l).toArray t)) g (some ⟨g, 0, none⟩) l := fun _ => by
  subst hg
  refine ⟨by rw [World.size_alloc]; exact Nat.lt_succ_self _, 0, rfl, fun j u hj => ?_⟩
  rw [Nat.zero_add, (Blk.new w t _).cell j, List.getElem?_toArray]
  exact hj
theorem front_ex : FrontOK [(2, 4), (2, 1), (1, 3)] [(1, 3), (2, 1)] where
  inc := by simp [ltM]
  cov := by intro y hy; simp at hy; rcases hy with rfl | rfl | rfl <;> simp [aheadM]
  mem := by
    intro x
    constructor
    · intro hx
      simp at hx
      rcases hx with rfl | rfl
      · refine ⟨by simp, fun y hy hne => ?_⟩
        simp at hy
        rcases hy with rfl | rfl | rfl
        · decide
        · decide
        · exact absurd rfl hne
      · refine ⟨by simp, fun y hy hne => ?_⟩
        simp at hy
        rcases hy with rfl | rfl | rfl
        · decide
        · exact absurd rfl hne
        · decide
    · rintro ⟨hx, hmin⟩
      simp at hx
      rcases hx with rfl | rfl | rfl
      · exact absurd (hmin (2, 1) (by simp) (by decide)) (by decide)
      · simp
      · simp
set_option maxRecDepth 100000 in
set_option maxHeartbeats 4000000 in
theorem lives_any (w : World) :
    Calls Try.prog 40 #[] w fun e w' => e = .returned (.bool true) ∧ Below w.heap.size w w' := by
  have H0 := Lib.hid (below_trans (below_trans (alloc_below w (.cells #[.int .i64 1, .int .i64 3] 58)) (alloc_below _ (.cells #[.int .i64 2, .int .i64 1] 58))) (alloc_below _ (.cells #[.int .i64 2, .int .i64 4] 58)))
  have KA := ((Blk.new w 58 #[.int .i64 1, .int .i64 3]).alloc (.cells #[.int .i64 2, .int .i64 1] 58)).alloc (.cells #[.int .i64 2, .int .i64 4] 58)
  have KB := (blk_top (w.alloc (.cells #[.int .i64 1, .int .i64 3] 58)) #[.int .i64 2, .int .i64 1] 58 (w.heap.size + 1) (by simp)).alloc (.cells #[.int .i64 2, .int .i64 4] 58)
  have KC := blk_top ((w.alloc (.cells #[.int .i64 1, .int .i64 3] 58)).alloc (.cells #[.int .i64 2, .int .i64 1] 58)) #[.int .i64 2, .int .i64 4] 58 (w.heap.size + 1 + 1) (by simp)
  have X0 := Lib.hid (Boxes.mk (n := w.heap.size) (KC.lt) (KA.cell 0) (KA.cell 1) (KB.cell 0) (KB.cell 1) (KC.cell 0) (KC.cell 1))
  clear KA KB KC
  go_enter Try.func40, Try.ntmps40
  go_wp2_with fail
  refine (front_any _ _ [(2, 4), (2, 1), (1, 3)] _ _ (slp_new _ _ _ _ (by simp)) (by decide)).mono ?_
  rintro e w1 ⟨b1, hf⟩
  rcases hf with ⟨⟨x, hx, hbad⟩, -⟩ | ⟨-, F, hF, hf⟩
  · exfalso
    simp at hx
    rcases hx with rfl | rfl | rfl <;> exact absurd hbad (by decide)
  obtain rfl := hF.same front_ex
  rcases hf with ⟨hlen, -⟩ | ⟨-, A1, cF, hF1, rfl, s1, hc1, hm1⟩
  · exact absurd hlen (by decide)
  have b01 := below_trans (alloc_below _ _) b1
  have X1 := Lib.hid (X0.out.below b01)
  have H1 := Lib.hid (below_trans H0.out b01)
  have S1 := Lib.hid s1
  clear b1 b01 s1 X0 H0 hF
  have a0 := X1.out.a0
  have a1 := X1.out.a1
  have b0 := X1.out.b0
  have b1 := X1.out.b1
  have c0 := X1.out.c0
  have c1 := X1.out.c1
  have l2 := X1.out.lt
  obtain ⟨l0, l1, n0, n1, n2⟩ := lt_all l2
  have PW := Lib.hid (fun W => walk_any false 2 1 3 W)
  rw [show walkM false 2 1 3 = ((1, 5), 0) by decide] at PW
  go_wp2_with fail
  refine (PW.out _).mono ?_
  rintro e w2 ⟨rfl, b2⟩
  have X2 := Lib.hid (X1.out.below b2)
  have H2 := Lib.hid (below_trans H1.out b2)
  have S2 := Lib.hid (S1.out.below b2)
  clear X1 H1 S1 a0 a1 b0 b1 c0 c1 l0 l1 l2 n0 n1 n2 b2
  have a0 := X2.out.a0
  have a1 := X2.out.a1
  have b0 := X2.out.b0
  have b1 := X2.out.b1
  have c0 := X2.out.c0
  have c1 := X2.out.c1
  have l2 := X2.out.lt
  obtain ⟨l0, l1, n0, n1, n2⟩ := lt_all l2
  have Z2 := Lib.hid (show Cell2 (w2.alloc (.cells #[.int .i64 1, .int .i64 5] 58)) w2.heap.size (.int .i64 1) (.int .i64 5) from Cell2.new _ _ _ _)
  have bz2 := alloc_below w2 (.cells #[.int .i64 1, .int .i64 5] 58)
  have PT := Lib.hid (fun W => then_any true 1 false 2 W)
  rw [show thenM true 1 false 2 = (true, (true, 3)) by decide] at PT
  simp only [show argE true = 0 from rfl] at PT
  go_wp2_with fail
  refine (PT.out _).mono ?_
  rintro e w3 ⟨rfl, b3'⟩
  have b3 := below_trans bz2 b3'
  have X3 := Lib.hid (X2.out.below b3)
  have H3 := Lib.hid (below_trans H2.out b3)
  have S3 := Lib.hid (S2.out.below b3)
  clear X2 H2 S2 a0 a1 b0 b1 c0 c1 l0 l1 l2 n0 n1 n2 b3
  have a0 := X3.out.a0
  have a1 := X3.out.a1
  have b0 := X3.out.b0
  have b1 := X3.out.b1
  have c0 := X3.out.c0
  have c1 := X3.out.c1
  have l2 := X3.out.lt
  obtain ⟨l0, l1, n0, n1, n2⟩ := lt_all l2
  have Z3 := Lib.hid (Z2.out.below b3')
  clear b3' bz2 Z2
  have V3 := Lib.hid (show Cell2 (w3.alloc (.cells #[.bool true, .int .i64 3] 74)) w3.heap.size (.bool true) (.int .i64 3) from Cell2.new _ _ _ _)
  have bv3 := alloc_below w3 (.cells #[.bool true, .int .i64 3] 74)
  have PP := Lib.hid (fun W => mput_ok 1 3 W (by decide))
  go_wp2_with fail
  refine (PP.out _).mono ?_
  rintro e w4 ⟨Ap, cp, rfl, -, b4'⟩
  have b4 := below_trans bv3 b4'
  have Z4 := Lib.hid (Z3.out.below b4)
  have V4 := Lib.hid (V3.out.below b4')
  rw [show (putMo 1 3).length = 2 by decide +kernel]
  clear Z3 V3 b4' bv3
  have X4 := Lib.hid (X3.out.below b4)
  have H4 := Lib.hid (below_trans H3.out b4)
  have S4 := Lib.hid (S3.out.below b4)
  clear X3 H3 S3 a0 a1 b0 b1 c0 c1 l0 l1 l2 n0 n1 n2 b4
  have a0 := X4.out.a0
  have a1 := X4.out.a1
  have b0 := X4.out.b0
  have b1 := X4.out.b1
  have c0 := X4.out.c0
  have c1 := X4.out.c1
  have l2 := X4.out.lt
  obtain ⟨l0, l1, n0, n1, n2⟩ := lt_all l2
  have PW2 := Lib.hid (fun W => walk_any false (-1) 1 3 W)
  rw [show walkM false (-1) 1 3 = ((0, 0), 1) by decide] at PW2
  go_wp2_with fail
  refine (PW2.out _).mono ?_
  rintro e w5 ⟨rfl, b5⟩
  have Z5 := Lib.hid (Z4.out.below b5)
  have V5 := Lib.hid (V4.out.below b5)
  clear Z4 V4
  have X5 := Lib.hid (X4.out.below b5)
  have H5 := Lib.hid (below_trans H4.out b5)
  have S5 := Lib.hid (S4.out.below b5)
  clear X4 H4 S4 a0 a1 b0 b1 c0 c1 l0 l1 l2 n0 n1 n2 b5
  have a0 := X5.out.a0
  have a1 := X5.out.a1
  have b0 := X5.out.b0
  have b1 := X5.out.b1
  have c0 := X5.out.c0
  have c1 := X5.out.c1
  have l2 := X5.out.lt
  obtain ⟨l0, l1, n0, n1, n2⟩ := lt_all l2
  go_wp2_with fail
  refine (rsame_any A1 _ hF1 _ [(1, 3), (2, 1)] [(1, 3), (2, 1)] cF 2 _ (S5.out.below (below_trans (alloc_below _ _) (alloc_below _ _))) (slp_new _ _ _ _ (by simp)) (by decide) (by decide)).mono ?_
  rw [show (([(1, 3), (2, 1)] : List (Int × Int)) == [(1, 3), (2, 1)]) = true by decide]
  rintro e w6 ⟨rfl, b6'⟩
  have b6 := below_trans (below_trans (alloc_below _ _) (alloc_below _ _)) b6'
  have Z6 := Lib.hid (Z5.out.below b6)
  have V6 := Lib.hid (V5.out.below b6)
  clear Z5 V5 b6'
  have X6 := Lib.hid (X5.out.below b6)
  have H6 := Lib.hid (below_trans H5.out b6)
  have S6 := Lib.hid (S5.out.below b6)
  clear X5 H5 S5 a0 a1 b0 b1 c0 c1 l0 l1 l2 n0 n1 n2 b6
  have a0 := X6.out.a0
  have a1 := X6.out.a1
  have b0 := X6.out.b0
  have b1 := X6.out.b1
  have c0 := X6.out.c0
  have c1 := X6.out.c1
  have l2 := X6.out.lt
  obtain ⟨l0, l1, n0, n1, n2⟩ := lt_all l2
  obtain ⟨-, z0, z1⟩ := Z6.out
  obtain ⟨-, v0, v1⟩ := V6.out
  have PC6 := Lib.hid (fun W => ahead_any 1 3 2 4 W)
  rw [show aheadM (1, 3) (2, 4) = true by decide] at PC6
  go_wp2_with fail
  refine (PC6.out _).mono ?_
  rintro e w7 ⟨rfl, b7⟩
  clear z0 z1 v0 v1
  have X7 := Lib.hid (X6.out.below b7)
  have H7 := Lib.hid (below_trans H6.out b7)
  have S7 := Lib.hid (S6.out.below b7)
  clear X6 H6 S6 a0 a1 b0 b1 c0 c1 l0 l1 l2 n0 n1 n2 b7
  have a0 := X7.out.a0
  have a1 := X7.out.a1
  have b0 := X7.out.b0
  have b1 := X7.out.b1
  have c0 := X7.out.c0
  have c1 := X7.out.c1
  have l2 := X7.out.lt
  obtain ⟨l0, l1, n0, n1, n2⟩ := lt_all l2
  have PC7 := Lib.hid (fun W => ahead_any 1 3 2 1 W)
  rw [show aheadM (1, 3) (2, 1) = false by decide] at PC7
  go_wp2_with fail
  refine (PC7.out _).mono ?_
  rintro e w8 ⟨rfl, b8⟩
  have X8 := Lib.hid (X7.out.below b8)
  have H8 := Lib.hid (below_trans H7.out b8)
  have S8 := Lib.hid (S7.out.below b8)
  clear X7 H7 S7 a0 a1 b0 b1 c0 c1 l0 l1 l2 n0 n1 n2 b8
  have a0 := X8.out.a0
  have a1 := X8.out.a1
  have b0 := X8.out.b0
  have b1 := X8.out.b1
  have c0 := X8.out.c0
  have c1 := X8.out.c1
  have l2 := X8.out.lt
  obtain ⟨l0, l1, n0, n1, n2⟩ := lt_all l2
  have PC8 := Lib.hid (fun W => compare_any 1 3 2 1 W)
  rw [show cmpM (1, 3) (2, 1) = -1 by decide] at PC8
  go_wp2_with fail
  refine (PC8.out _).mono ?_
  rintro e w9 ⟨rfl, b9⟩
  have X9 := Lib.hid (X8.out.below b9)
  have H9 := Lib.hid (below_trans H8.out b9)
  have S9 := Lib.hid (S8.out.below b9)
  clear X8 H8 S8 a0 a1 b0 b1 c0 c1 l0 l1 l2 n0 n1 n2 b9
  have a0 := X9.out.a0
  have a1 := X9.out.a1
  have b0 := X9.out.b0
  have b1 := X9.out.b1
  have c0 := X9.out.c0
  have c1 := X9.out.c1
  have l2 := X9.out.lt
  obtain ⟨l0, l1, n0, n1, n2⟩ := lt_all l2
  have PC9 := Lib.hid (fun W => join_any 1 3 2 1 W)
  rw [show max (1 : Int) 2 = 2 from rfl, show max (3 : Int) 1 = 3 from rfl] at PC9
  go_wp2_with fail
  refine (PC9.out _).mono ?_
  rintro e w10 ⟨rfl, b10⟩
  have X10 := Lib.hid (X9.out.below b10)
  have H10 := Lib.hid (below_trans H9.out b10)
  have S10 := Lib.hid (S9.out.below b10)
  clear X9 H9 S9 a0 a1 b0 b1 c0 c1 l0 l1 l2 n0 n1 n2 b10
  have a0 := X10.out.a0
  have a1 := X10.out.a1
  have b0 := X10.out.b0
  have b1 := X10.out.b1
  have c0 := X10.out.c0
  have c1 := X10.out.c1
  have l2 := X10.out.lt
  obtain ⟨l0, l1, n0, n1, n2⟩ := lt_all l2
  have PC10 := Lib.hid (fun W => meet_any 1 3 2 1 W)
  rw [show min (1 : Int) 2 = 1 from rfl, show min (3 : Int) 1 = 1 from rfl] at PC10
  go_wp2_with fail
  refine (PC10.out _).mono ?_
  rintro e w11 ⟨rfl, b11⟩
  have X11 := Lib.hid (X10.out.below b11)
  have H11 := Lib.hid (below_trans H10.out b11)
  have S11 := Lib.hid (S10.out.below b11)
  clear X10 H10 S10 a0 a1 b0 b1 c0 c1 l0 l1 l2 n0 n1 n2 b11
  have a0 := X11.out.a0
  have a1 := X11.out.a1
  have b0 := X11.out.b0
  have b1 := X11.out.b1
  have c0 := X11.out.c0
  have c1 := X11.out.c1
  have l2 := X11.out.lt
  obtain ⟨l0, l1, n0, n1, n2⟩ := lt_all l2
  have PC11 := Lib.hid (covers_any A1 hF1 [(1, 3), (2, 1)] cF 2 4 w11 S11.out (by decide))
  rw [show (([(1, 3), (2, 1)] : List (Int × Int)).any fun x => aheadM x (2, 4)) = true by decide] at PC11
  go_wp2_with fail
  refine PC11.out.mono ?_
  rintro e w12 ⟨rfl, b12⟩
  have X12 := Lib.hid (X11.out.below b12)
  have H12 := Lib.hid (below_trans H11.out b12)
  have S12 := Lib.hid (S11.out.below b12)
  clear X11 H11 S11 a0 a1 b0 b1 c0 c1 l0 l1 l2 n0 n1 n2 b12
  have a0 := X12.out.a0
  have a1 := X12.out.a1
  have b0 := X12.out.b0
  have b1 := X12.out.b1
  have c0 := X12.out.c0
  have c1 := X12.out.c1
  have l2 := X12.out.lt
  obtain ⟨l0, l1, n0, n1, n2⟩ := lt_all l2
  have PC12 := Lib.hid (covers_any A1 hF1 [(1, 3), (2, 1)] cF 0 0 w12 S12.out (by decide))
  rw [show (([(1, 3), (2, 1)] : List (Int × Int)).any fun x => aheadM x (0, 0)) = false by decide] at PC12
  go_wp2_with fail
  refine PC12.out.mono ?_
  rintro e w13 ⟨rfl, b13⟩
  have X13 := Lib.hid (X12.out.below b13)
  have H13 := Lib.hid (below_trans H12.out b13)
  have S13 := Lib.hid (S12.out.below b13)
  clear X12 H12 S12 a0 a1 b0 b1 c0 c1 l0 l1 l2 n0 n1 n2 b13
  have a0 := X13.out.a0
  have a1 := X13.out.a1
  have b0 := X13.out.b0
  have b1 := X13.out.b1
  have c0 := X13.out.c0
  have c1 := X13.out.c1
  have l2 := X13.out.lt
  obtain ⟨l0, l1, n0, n1, n2⟩ := lt_all l2
  go_wp2_with fail
  refine (beyond_any _ A1 _ hF1 [(2, 4)] [(1, 3), (2, 1)] 1 cF _ (slp_new w13 [(2, 4)] _ _ rfl) (S13.out.below (alloc_below _ _)) (by decide) (by decide)).mono ?_
  rw [show (([(2, 4)] : List (Int × Int)).all fun x => [((1 : Int), (3 : Int)), (2, 1)].any fun y => aheadM y x) = true by decide]
  rintro e w14 ⟨rfl, b14'⟩
  have b14 := below_trans (alloc_below _ _) b14'
  have X14 := Lib.hid (X13.out.below b14)
  have H14 := Lib.hid (below_trans H13.out b14)
  have S14 := Lib.hid (S13.out.below b14)
  clear X13 H13 S13 a0 a1 b0 b1 c0 c1 l0 l1 l2 n0 n1 n2 b14
  have a0 := X14.out.a0
  have a1 := X14.out.a1
  have b0 := X14.out.b0
  have b1 := X14.out.b1
  have c0 := X14.out.c0
  have c1 := X14.out.c1
  have l2 := X14.out.lt
  obtain ⟨l0, l1, n0, n1, n2⟩ := lt_all l2
  have PC14 := Lib.hid (fun W => check_any (-1) 0 W)
  rw [show moE (-1, 0) = 40 by decide] at PC14
  go_wp2_with fail
  refine (PC14.out _).mono ?_
  rintro e w15 ⟨rfl, b15⟩
  have X15 := Lib.hid (X14.out.below b15)
  have H15 := Lib.hid (below_trans H14.out b15)
  have S15 := Lib.hid (S14.out.below b15)
  clear X14 H14 S14 a0 a1 b0 b1 c0 c1 l0 l1 l2 n0 n1 n2 b15
  have a0 := X15.out.a0
  have a1 := X15.out.a1
  have b0 := X15.out.b0
  have b1 := X15.out.b1
  have c0 := X15.out.c0
  have c1 := X15.out.c1
  have l2 := X15.out.lt
  obtain ⟨l0, l1, n0, n1, n2⟩ := lt_all l2
  go_wp2
  go_ret
  exact ⟨rfl, H15.out⟩
end Go.Proofs.Ytalcgkfnjhlnoab
