/- The walk of the law MomentKeeps. -/
import Derived.Test.YtalcgkfnjhlnoabMoSteps
namespace Go.Proofs.Ytalcgkfnjhlnoab
open Go.RowKit Go.Sort

/-- Two moments in boxes. -/
structure Box2 (n : Nat) (a1 a2 b1 b2 : Int) (W : World) : Prop where
  lt : n + 1 < W.heap.size
  a0 : W.cell? ⟨n, 0, none⟩ = some (.int .i64 a1)
  a1 : W.cell? ⟨n, 1, none⟩ = some (.int .i64 a2)
  b0 : W.cell? ⟨n + 1, 0, none⟩ = some (.int .i64 b1)
  b1 : W.cell? ⟨n + 1, 1, none⟩ = some (.int .i64 b2)
theorem Box2.below {n : Nat} {a1 a2 b1 b2 : Int} {W W' : World} (h : Box2 n a1 a2 b1 b2 W) (hb : Below W.heap.size W W') : Box2 n a1 a2 b1 b2 W' where
  lt := Nat.lt_of_lt_of_le h.lt hb.size
  a0 := (hb.cell (p := ⟨n, 0, none⟩) (by have := h.lt; simp only; omega)).trans h.a0
  a1 := (hb.cell (p := ⟨n, 1, none⟩) (by have := h.lt; simp only; omega)).trans h.a1
  b0 := (hb.cell (p := ⟨n + 1, 0, none⟩) (by have := h.lt; simp only; omega)).trans h.b0
  b1 := (hb.cell (p := ⟨n + 1, 1, none⟩) (by have := h.lt; simp only; omega)).trans h.b1
theorem Box2.drew {n : Nat} {a1 a2 b1 b2 : Int} {W : World} (h : Box2 n a1 a2 b1 b2 W) : Box2 n a1 a2 b1 b2 W.drew := ⟨h.lt, h.a0, h.a1, h.b0, h.b1⟩
theorem Box2.new (w : World) (a1 a2 b1 b2 : Int) : Box2 w.heap.size a1 a2 b1 b2 ((w.alloc (.cells #[.int .i64 a1, .int .i64 a2] 58)).alloc (.cells #[.int .i64 b1, .int .i64 b2] 58)) :=
  let KA := (Blk.new w 58 #[.int .i64 a1, .int .i64 a2]).alloc (.cells #[.int .i64 b1, .int .i64 b2] 58)
  let KB := blk_top (w.alloc (.cells #[.int .i64 a1, .int .i64 a2] 58)) #[.int .i64 b1, .int .i64 b2] 58 (w.heap.size + 1) (by simp)
  ⟨KB.lt, KA.cell 0, KA.cell 1, KB.cell 0, KB.cell 1⟩
theorem lt_all2 {a b : Nat} (h : a + 1 < b) : a < b ∧ a ≠ b ∧ a + 1 ≠ b := by omega
set_option maxRecDepth 100000 in
set_option maxHeartbeats 2000000 in
theorem keeps_in (A : Option Addr) (g : Nat) (l : List (Int × Int)) (c : Nat) (x1 x2 y1 y2 : Int) (w : World) (hin : InP w A g l c) (hl : l.length ≤ 200) :
    Calls Try.prog 11 #[.slice A l.length c, .agg #[.int .i64 x1, .int .i64 x2], .agg #[.int .i64 y1, .int .i64 y2]] w (LawPost w) := by
  obtain ⟨hs, hlc, hc⟩ := hin
  have d1 : decide ((200 : Int) < (l.length : Int)) = false := by simp; omega
  have X0 := Lib.hid (Box2.new w x1 x2 y1 y2)
  have h0 := below_trans (alloc_below w (.cells #[.int .i64 x1, .int .i64 x2] 58)) (alloc_below _ (.cells #[.int .i64 y1, .int .i64 y2] 58))
  have PF := Lib.hid (front_any A g l c _ (hs.below h0) (by omega))
  have H0 := Lib.hid h0
  clear hs h0
  go_enter Try.func11, Try.ntmps11
  go_wp2_with fail
  refine PF.out.mono ?_
  rintro e w1 ⟨b1, hf⟩
  have X1 := Lib.hid (X0.out.below b1)
  have H1 := Lib.hid (below_trans H0.out b1)
  clear b1 X0 H0
  have hcase : (∃ z, z ≠ 0 ∧ e = .returned (.tuple #[.slice none 0 0, .int .i64 z])) ∨ ((∀ x ∈ l, okMo x = true) ∧ ∃ F, FrontOK l F ∧ F.length ≤ 256 ∧ ∃ A c h, e = .returned (.tuple #[.slice A F.length c, .int .i64 0]) ∧ SlP w1 h A F) := by
    rcases hf with ⟨-, rfl⟩ | ⟨hall, F, hF, ⟨-, rfl⟩ | ⟨hlen, A', c', h', rfl, s', -, -⟩⟩
    · exact .inl ⟨40, by decide, rfl⟩
    · exact .inl ⟨31, by decide, rfl⟩
    · exact .inr ⟨hall, F, hF, hlen, A', c', h', rfl, s'⟩
  clear hf
  rcases hcase with ⟨z, hz, rfl⟩ | ⟨hall, F, hF, hlen, A', c', h', rfl, s'⟩
  · have d2 : (z == 0) = false := by simpa using hz
    go_wp2_with fail
    refine (lives_any _).mono ?_; rintro e w2 ⟨rfl, b2⟩
    go_wp2_with fail
    refine (lives_any _).mono ?_; rintro e w3 ⟨rfl, b3⟩
    go_wp2
    go_ret
    exact ⟨rfl, below_trans H1.out (below_trans b2 b3)⟩
  · have HF := Lib.hid hF
    have HALL := Lib.hid hall
    have S1 := Lib.hid s'
    clear hF hall s'
    go_wp2_with fail
    refine (lives_any _).mono ?_; rintro e w2 ⟨rfl, b2⟩
    have X2 := Lib.hid (X1.out.below b2)
    have H2 := Lib.hid (below_trans H1.out b2)
    have S2 := Lib.hid (S1.out.below b2)
    clear b2 X1 H1 S1
    have PF2 := Lib.hid (front_any A' h' F c' w2 S2.out (by omega))
    go_wp2_with fail
    refine PF2.out.mono ?_
    rintro e w3 ⟨b3, hf⟩
    have X3 := Lib.hid (X2.out.below b3)
    have H3 := Lib.hid (below_trans H2.out b3)
    have S3 := Lib.hid (S2.out.below b3)
    clear b3 X2 H2 S2
    rcases hf with ⟨⟨x, hx, hbad⟩, -⟩ | ⟨-, F2, hF2, hf⟩
    · have := HALL.out x ((HF.out.mem x).1 hx).1
      rw [hbad] at this
      cases this
    obtain rfl := hF2.same HF.out.self
    rcases hf with ⟨hbig, -⟩ | ⟨-, A2, c2, h2, rfl, s2, -, -⟩
    · omega
    have PS := Lib.hid (rsame_any A' A2 h' h2 F2 F2 c' c2 w3 S3.out s2 (by omega) (by omega))
    rw [show (F2 == F2) = true by simp] at PS
    clear s2 hF2
    go_wp2_with fail
    refine PS.out.mono ?_; rintro e w4 ⟨rfl, b4⟩
    have X4 := Lib.hid (X3.out.below b4)
    have H4 := Lib.hid (below_trans H3.out b4)
    have S4 := Lib.hid (S3.out.below b4)
    clear b4 X3 H3 S3
    have a0 := X4.out.a0
    have a1 := X4.out.a1
    have b0 := X4.out.b0
    have b1 := X4.out.b1
    have l1 := X4.out.lt
    obtain ⟨l0, n0, n1⟩ := lt_all2 l1
    have P1 := Lib.hid (covers_any A' h' F2 c' x1 x2 w4 S4.out (by omega))
    have P2 := Lib.hid (fun W => ahead_any x1 x2 y1 y2 W)
    have P3 := Lib.hid (fun W (s : SlP W h' A' F2) => covers_any A' h' F2 c' y1 y2 W s (by omega))
    have htr : (F2.any fun x => aheadM x (x1, x2)) = true → aheadM (x1, x2) (y1, y2) = true → (F2.any fun x => aheadM x (y1, y2)) = true := fun h1 h2 => by
      rw [List.any_eq_true] at *
      obtain ⟨f, hf, h3⟩ := h1
      exact ⟨f, hf, aheadM_trans h3 h2⟩
    generalize (F2.any fun x => aheadM x (x1, x2)) = p at P1 htr
    generalize aheadM (x1, x2) (y1, y2) = q at P2 htr
    generalize (F2.any fun x => aheadM x (y1, y2)) = r at P3 htr
    have HTR := Lib.hid htr
    clear htr
    go_wp2_with fail
    refine P1.out.mono ?_; rintro e w5 ⟨rfl, b5⟩
    have X5 := Lib.hid (X4.out.below b5)
    have H5 := Lib.hid (below_trans H4.out b5)
    have S5 := Lib.hid (S4.out.below b5)
    clear b5 X4 H4 S4 a0 a1 b0 b1 l0 l1 n0 n1
    have a0 := X5.out.a0
    have a1 := X5.out.a1
    have b0 := X5.out.b0
    have b1 := X5.out.b1
    have l1 := X5.out.lt
    obtain ⟨l0, n0, n1⟩ := lt_all2 l1
    cases p
    · go_wp2
      go_ret
      exact ⟨rfl, H5.out⟩
    · go_wp2_with fail
      refine (P2.out _).mono ?_; rintro e w6 ⟨rfl, b6⟩
      have X6 := Lib.hid (X5.out.below b6)
      have H6 := Lib.hid (below_trans H5.out b6)
      have S6 := Lib.hid (S5.out.below b6)
      clear b6 X5 H5 S5 a0 a1 b0 b1 l0 l1 n0 n1
      have a0 := X6.out.a0
      have a1 := X6.out.a1
      have b0 := X6.out.b0
      have b1 := X6.out.b1
      have l1 := X6.out.lt
      obtain ⟨l0, n0, n1⟩ := lt_all2 l1
      cases q
      · go_wp2
        go_ret
        exact ⟨rfl, H6.out⟩
      · obtain rfl := HTR.out (by first | trivial | rfl) (by first | trivial | rfl)
        go_wp2_with fail
        refine (P3.out _ S6.out).mono ?_; rintro e w7 ⟨rfl, b7⟩
        go_wp2
        go_ret
        exact ⟨rfl, below_trans H6.out b7⟩
theorem keeps_any (A : Option Addr) (g : Nat) (l : List (Int × Int)) (c : Nat) (x1 x2 y1 y2 : Int) (w : World) (hin : InP w A g l c) :
    Calls Try.prog 11 #[.slice A l.length c, .agg #[.int .i64 x1, .int .i64 x2], .agg #[.int .i64 y1, .int .i64 y2]] w (LawPost w) := by
  by_cases h : 200 < l.length
  · have hlm : l.length ≤ 9223372036854775807 := Nat.le_trans hin.2.1 hin.2.2
    have d1 : decide ((200 : Int) < (l.length : Int)) = true := by simp; omega
    have H0 := Lib.hid (below_trans (alloc_below w (.cells #[.int .i64 x1, .int .i64 x2] 58)) (alloc_below _ (.cells #[.int .i64 y1, .int .i64 y2] 58)))
    clear hin
    go_enter Try.func11, Try.ntmps11
    go_wp2_with fail
    refine (lives_any _).mono ?_; rintro e w1 ⟨rfl, b1⟩
    go_wp2
    go_ret
    exact ⟨rfl, below_trans H0.out b1⟩
  · exact keeps_in A g l c x1 x2 y1 y2 w hin (by omega)
end Go.Proofs.Ytalcgkfnjhlnoab
