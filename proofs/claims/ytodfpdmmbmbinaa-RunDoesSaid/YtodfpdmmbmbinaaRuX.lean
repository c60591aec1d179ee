/- A run and the document's, side by side: RuPm, RuNb, RuG, RuH, RuFm, RuI, RuJ, RuK, RuL in one text. -/
import Derived.Test.YtodfpdmmbmbinaaRuF
import Derived.Test.YtodfpdmmbmbinaaRuC
import Derived.Test.YtodfpdmmbmbinaaRuE
import Derived.Test.YtodfpdmmbmbinaaFrD
namespace Go.Proofs.Ytodfpdmmbmbinaa
open Go.RowKit Go.Sort

theorem filter_or {α : Type} (P Q : α → Bool) : ∀ (l : List α), l.Pairwise (fun a b => ¬ (Q a = true ∧ P b = true)) → (∀ x ∈ l, ¬ (P x = true ∧ Q x = true)) → l.filter (fun x => P x || Q x) = l.filter P ++ l.filter Q
  | [], _, _ => rfl
  | x :: l, hp, hd => by
    obtain ⟨h1, h2⟩ := List.pairwise_cons.1 hp
    have ih := filter_or P Q l h2 fun y hy => hd y (List.mem_cons.2 (.inr hy))
    have hx := hd x (List.mem_cons.2 (.inl rfl))
    cases hP : P x with
    | true =>
      have hQ : Q x = false := by
        cases hQ : Q x with
        | false => rfl
        | true => exact absurd ⟨hP, hQ⟩ hx
      rw [List.filter_cons_of_pos (by simp [hP]), List.filter_cons_of_pos (by simp [hP]), List.filter_cons_of_neg (by simp [hQ]), ih, List.cons_append]
    | false =>
      cases hQ : Q x with
      | false => rw [List.filter_cons_of_neg (by simp [hP, hQ]), List.filter_cons_of_neg (by simp [hP]), List.filter_cons_of_neg (by simp [hQ]), ih]
      | true =>
        have h0 : l.filter P = [] := by
          rw [List.filter_eq_nil_iff]
          intro y hy hPy
          exact h1 y hy ⟨hQ, hPy⟩
        rw [h0, List.nil_append] at ih
        rw [List.filter_cons_of_pos (by simp [hQ]), List.filter_cons_of_neg (by simp [hP]), List.filter_cons_of_pos (by simp [hQ]), ih, h0, List.nil_append]
/-- Is the entry at a moment of these? -/
def inMo (p : List En) (x : En) : Bool := p.any fun y => y.1 == x.1
def sumTo (s : List En) (i : Nat) : List En := s.filter (inMo (s.take i))
theorem sumTo_zero (s : List En) : sumTo s 0 = [] := by
  unfold sumTo
  rw [List.filter_eq_nil_iff]
  intro x _ h
  cases h
theorem sumTo_all (s : List En) : sumTo s s.length = s := by
  unfold sumTo
  rw [List.take_length, List.filter_eq_self]
  intro x hx
  unfold inMo
  rw [List.any_eq_true]
  exact ⟨x, hx, by simp⟩
theorem inMo_succ (s : List En) (i : Nat) (x : En) (h : s[i]? = some x) : inMo (s.take (i + 1)) = fun y => inMo (s.take i) y || (x.1 == y.1) := by
  funext y
  unfold inMo
  rw [List.take_add_one, h, List.any_append]
  simp
theorem sumTo_same (s : List En) (i : Nat) (x y : En) (hx : s[i]? = some x) (hy : s[i + 1]? = some y) (he : y.1 = x.1) : sumTo s (i + 2) = sumTo s (i + 1) := by
  unfold sumTo
  rw [inMo_succ s (i + 1) y hy]
  congr 1
  funext z
  rw [inMo_succ s i x hx, he]
  show ((inMo (s.take i) z || (x.1 == z.1)) || (x.1 == z.1)) = (inMo (s.take i) z || (x.1 == z.1))
  cases inMo (s.take i) z <;> cases (x.1 == z.1) <;> rfl
theorem leE_mo {a b : En} (h : leE a b = true) : a.1.1 < b.1.1 ∨ (a.1.1 = b.1.1 ∧ a.1.2 ≤ b.1.2) := by
  rw [leE_lt] at h
  have : ltE b a = false := by simpa using h
  rw [ltE_not] at this
  omega
theorem sumTo_new (s : List En) (hs : SrtPE s) (i : Nat) (y : En) (hy : s[i]? = some y) (hn : ∀ x, i ≠ 0 → s[i - 1]? = some x → y.1 ≠ x.1) : sumTo s (i + 1) = sumTo s i ++ s.filter (fun x => x.1 == y.1) := by
  have key : ∀ z, inMo (s.take i) z = true → z.1 ≠ y.1 := by
    intro z hz e
    unfold inMo at hz
    obtain ⟨u, hu, hue⟩ := List.any_eq_true.1 hz
    have hue : u.1 = z.1 := by simpa using hue
    obtain ⟨j, hj⟩ := List.getElem?_of_mem hu
    have hj2 := hj
    rw [List.getElem?_take] at hj
    split at hj
    · rename_i hji
      have hil := (List.getElem?_eq_some_iff.1 hy).1
      obtain ⟨x, hx⟩ : ∃ x, s[i - 1]? = some x := ⟨_, List.getElem?_eq_getElem (by omega)⟩
      have h1 := hn x (by omega) hx
      have hp := List.pairwise_iff_getElem.1 hs
      have hxy : leE x y = true := by
        have := hp (i - 1) i (by omega) hil (by omega)
        rw [List.getElem?_eq_getElem (by omega)] at hx
        rw [List.getElem?_eq_getElem hil] at hy
        injection hx with hx
        injection hy with hy
        rw [hx, hy] at this
        exact this
      have hux : u = x ∨ leE u x = true := by
        by_cases hj1 : j = i - 1
        · left
          rw [hj1, hx] at hj
          injection hj with hj
          exact hj.symm
        · right
          have := hp j (i - 1) (by omega) (by omega) (by omega)
          rw [List.getElem?_eq_getElem (by omega)] at hx hj
          injection hx with hx
          injection hj with hj
          rw [hx, hj] at this
          exact this
      have e2 : u.1 = y.1 := hue.trans e
      rcases hux with rfl | hux
      · exact h1 e2.symm
      · have a1 := leE_mo hux
        have a2 := leE_mo hxy
        rw [e2] at a1
        apply h1
        apply Prod.ext <;> omega
    · cases hj
  unfold sumTo
  rw [inMo_succ s i y hy]
  have hq : (fun z => inMo (s.take i) z || (y.1 == z.1)) = fun z => inMo (s.take i) z || (z.1 == y.1) := by
    funext z
    congr 1
    rw [Bool.eq_iff_iff, beq_iff_eq, beq_iff_eq]
    exact eq_comm
  rw [hq]
  refine filter_or (inMo (s.take i)) (fun z => z.1 == y.1) s ?_ ?_
  · refine List.Pairwise.imp_of_mem (fun {a b} ha hb hab => ?_) hs
    rintro ⟨h1, h2⟩
    have e1 : a.1 = y.1 := by simpa using h1
    have hne := key b h2
    unfold inMo at h2
    obtain ⟨u, hu, hue⟩ := List.any_eq_true.1 h2
    have hue : u.1 = b.1 := by simpa using hue
    obtain ⟨j, hj⟩ := List.getElem?_of_mem hu
    rw [List.getElem?_take] at hj
    split at hj
    · rename_i hji
      have hil := (List.getElem?_eq_some_iff.1 hy).1
      have hp := List.pairwise_iff_getElem.1 hs
      have huy := hp j i (by omega) hil (by omega)
      rw [List.getElem?_eq_getElem (by omega)] at hj
      rw [List.getElem?_eq_getElem hil] at hy
      injection hj with hj
      injection hy with hy
      rw [hj, hy] at huy
      have a1 := leE_mo huy
      have a2 := leE_mo hab
      rw [hue] at a1
      rw [e1] at a2
      apply hne
      apply Prod.ext <;> omega
    · cases hj
  · rintro x hx ⟨h1, h2⟩
    exact key x h1 (by simpa using h2)
theorem srt_filter (l : List En) (p : En → Bool) : srtE (l.filter p) = (srtE l).filter p := by
  refine (srtE_unique ((srtE_sorted l).filter p) ?_).symm
  exact (srtE_perm l).filter p
end Go.Proofs.Ytodfpdmmbmbinaa

namespace Go.Proofs.Ytodfpdmmbmbinaa
open Go.RowKit Go.Sort

structure RopIn where
  k : Int
  e : En
  F : Option Addr
  n : Nat
  c : Nat
def ropV (x : RopIn) : Array Value := #[.int .i64 x.k, .int .i64 x.e.1.1, .int .i64 x.e.1.2, .int .i64 x.e.2.1, .int .i64 x.e.2.2, .slice x.F x.n x.c]
theorem rop_cells {w : World} {g : Nat} {t : TypeId} {x : RopIn} (h : Blk w g t (ropV x)) : w.cell? ⟨g, 0, none⟩ = some (.int .i64 x.k) ∧ w.cell? ⟨g, 1, none⟩ = some (.int .i64 x.e.1.1) ∧ w.cell? ⟨g, 2, none⟩ = some (.int .i64 x.e.1.2) ∧ w.cell? ⟨g, 3, none⟩ = some (.int .i64 x.e.2.1) ∧
    w.cell? ⟨g, 4, none⟩ = some (.int .i64 x.e.2.2) ∧ w.cell? ⟨g, 5, none⟩ = some (.slice x.F x.n x.c) :=
  ⟨h.cell 0, h.cell 1, h.cell 2, h.cell 3, h.cell 4, h.cell 5⟩
set_option maxRecDepth 100000 in
set_option maxHeartbeats 4000000 in
theorem rnobody_any (x : RopIn) (w : World) :
    Calls Try.prog 9 #[.agg (ropV x)] w fun e w' => e = .returned (.bool true) ∧ Below w.heap.size w w' := by
  have B0 := Lib.hid (alloc_below w (.cells (ropV x) 68))
  have X0 := Lib.hid (Blk.new w 68 (ropV x))
  go_enter Try.func9, Try.ntmps9
  go_wp2_with fail
  refine (rlives_any _).mono ?_; rintro e w1 ⟨rfl, b1⟩
  have B1 := Lib.hid (B0.out.trans (b1.mono B0.out.size))
  have X1 := Lib.hid (X0.out.below b1 X0.out.lt)
  clear b1
  obtain ⟨k0, k1, k2, k3, k4, k5⟩ := rop_cells X1.out
  go_wp2_with fail
  clear k0 k1 k2 k3 k4 k5
  refine (radd_nil _ x.e).mono ?_; rintro e w2 ⟨rfl, b2⟩
  have B2 := Lib.hid (B1.out.trans (b2.mono B1.out.size))
  have X2 := Lib.hid (X1.out.below b2 X1.out.lt)
  clear b2
  obtain ⟨k0, k1, k2, k3, k4, k5⟩ := rop_cells X2.out
  go_wp2_with fail
  clear k0 k1 k2 k3 k4 k5
  refine (rlen_nil _).mono ?_; rintro e w' ⟨rfl, rfl⟩
  go_wp2_with fail
  refine (rlimit_nil _).mono ?_; rintro e w' ⟨rfl, rfl⟩
  go_wp2_with fail
  refine (rmost_nil _).mono ?_; rintro e w' ⟨rfl, rfl⟩
  go_wp2_with fail
  refine (rall_nil _).mono ?_; rintro e w3 ⟨A1, c1, rfl, b3⟩
  have B3 := Lib.hid (B2.out.trans (b3.mono B2.out.size))
  have X3 := Lib.hid (X2.out.below b3 X2.out.lt)
  clear b3
  obtain ⟨k0, k1, k2, k3, k4, k5⟩ := rop_cells X3.out
  go_wp2_with fail
  clear k0 k1 k2 k3 k4 k5
  refine (rtake_nil _).mono ?_; rintro e w4 ⟨A2, c2, rfl, b4⟩
  have B4 := Lib.hid (B3.out.trans (b4.mono B3.out.size))
  have X4 := Lib.hid (X3.out.below b4 X3.out.lt)
  clear b4
  obtain ⟨k0, k1, k2, k3, k4, k5⟩ := rop_cells X4.out
  go_wp2_with fail
  clear k0 k1 k2 k3 k4 k5
  refine (rat_nil _ x.e.1).mono ?_; rintro e w5 ⟨A3, c3, rfl, b5⟩
  have B5 := Lib.hid (B4.out.trans (b5.mono B4.out.size))
  have X5 := Lib.hid (X4.out.below b5 X4.out.lt)
  clear b5
  obtain ⟨k0, k1, k2, k3, k4, k5⟩ := rop_cells X5.out
  go_wp2_with fail
  clear k0 k1 k2 k3 k4 k5
  refine (rkp_nil _ x.F x.n x.c).mono ?_; rintro e w6 ⟨rfl, b6⟩
  have B6 := Lib.hid (B5.out.trans (b6.mono B5.out.size))
  have X6 := Lib.hid (X5.out.below b6 X5.out.lt)
  clear b6
  obtain ⟨k0, k1, k2, k3, k4, k5⟩ := rop_cells X6.out
  go_wp2_with fail
  clear k0 k1 k2 k3 k4 k5
  refine (rfront_nil _).mono ?_; rintro e w7 ⟨A5, c5, rfl, b7⟩
  have B7 := Lib.hid (B6.out.trans (b7.mono B6.out.size))
  have X7 := Lib.hid (X6.out.below b7 X6.out.lt)
  clear b7
  obtain ⟨k0, k1, k2, k3, k4, k5⟩ := rop_cells X7.out
  go_wp2_with fail
  skip
  go_ret
  exact ⟨rfl, B7.out⟩
end Go.Proofs.Ytodfpdmmbmbinaa

namespace Go.Proofs.Ytodfpdmmbmbinaa
open Go.RowKit Go.Sort

/-- Block x is the document's run whose entries lie in block hb. -/
def RefR (w : World) (base x : Nat) (hb : Option Nat) (R : Rn) : Prop :=
  ∃ A c, Blk w x 72 #[.slice A R.held.length c, .int .i64 (R.limit : Int), .int .i64 (R.most : Int)] ∧ base ≤ x ∧ w.ownsRow base 65 4 (.slice A R.held.length c) R.held.length (RowV encE R.held) ∧ hb = (Value.slice A R.held.length c).ownBlock ∧ R.ok
section
variable {w w' w1 : World} {base r : Nat} {hb : Option Nat} {R : Rn}
theorem RefR.base_le (h : RefR w base r hb R) : base ≤ r ∧ (∀ k, hb = some k → base ≤ k ∧ k < w.heap.size) ∧ r < w.heap.size := by
  obtain ⟨A, c, h1, h2, h3, h4, -⟩ := h
  exact ⟨h2, fun k hk => World.ownsRow.lt h3 k (h4 ▸ hk), h1.lt⟩
theorem RefR.below (h : RefR w base r hb R) (hb' : Below w.heap.size w w') : RefR w' base r hb R := by
  obtain ⟨A, c, h1, h2, h3, h4, h5⟩ := h
  exact ⟨A, c, h1.below hb' h1.lt, h2, own_below h3 hb', h4, h5⟩
theorem RefR.kept (h : RefR w base r hb R) (hk : ∀ k, k = r ∨ hb = some k → w'.heap[k]? = w.heap[k]?) : RefR w' base r hb R := by
  obtain ⟨A, c, h1, h2, h3, h4, h5⟩ := h
  refine ⟨A, c, (hk r (.inl rfl)).trans h1, h2, ⟨h3.1, ?_⟩, h4, h5⟩
  rcases h3.2 with hv | ⟨g, cap, cur, hv, hb1, hh, h6⟩
  · exact .inl hv
  · have : hb = some g := by rw [h4, hv]; rfl
    exact .inr ⟨g, cap, cur, hv, hb1, (hk g (.inr this)).trans hh, h6⟩
theorem RefR.cells (h : RefR w base r hb R) : ∃ A c, r < w.heap.size ∧ w.cell? ⟨r, 1, none⟩ = some (.int .i64 (R.limit : Int)) ∧ w.cell? ⟨r, 2, none⟩ = some (.int .i64 (R.most : Int)) ∧ w.cell? ⟨r, 0, none⟩ = some (.slice A R.held.length c) ∧
    w.ownsRow base 65 4 (.slice A R.held.length c) R.held.length (RowV encE R.held) ∧ hb = (Value.slice A R.held.length c).ownBlock := by
  obtain ⟨A, c, h1, h2, h3, h4, h5⟩ := h
  exact ⟨A, c, h1.lt, h1.cell 1, h1.cell 2, h1.cell 0, h3, h4⟩
theorem RefR.good (h : RefR w base r hb R) : R.ok := by
  obtain ⟨A, c, h1, h2, h3, h4, h5⟩ := h
  exact h5
theorem xnew_no (lim : Int) (w : World) (h : lim < 1 ∨ 4096 < lim) : Calls Try.prog 30 #[.int .i64 lim] w fun e w' => e = .returned (.pointer none) ∧ w = w' := by
  by_cases h1 : lim < 1
  · have d1 : decide (lim < 1) = true := by rw [decide_eq_true_eq]; exact h1
    go_enter Try.func30, Try.ntmps30
    go_wp2
    go_ret
    exact ⟨rfl, rfl⟩
  · have d1 : decide (lim < 1) = false := by rw [decide_eq_false_iff_not]; exact h1
    have d2 : decide (lim > 4096) = true := by rw [decide_eq_true_eq]; omega
    go_enter Try.func30, Try.ntmps30
    go_wp2
    go_ret
    exact ⟨rfl, rfl⟩
theorem xrunV_build (n : Int) (w : World) : (Instr.build 72 #[(1, .int .i64 n)]).run Try.prog w = .ok (.agg #[.slice none 0 0, .int .i64 n, .int .i64 0]) w := by kernel_rfl
theorem xnew_ok (lim : Nat) (w : World) (base : Nat) (hb : base ≤ w.heap.size) (h0 : 1 ≤ lim) (h1 : lim ≤ 4096) :
    Calls Try.prog 30 #[.int .i64 (lim : Int)] w fun e w' => ∃ r, e = .returned (ptR r) ∧ RefR w' base r none ⟨lim, 0, []⟩ ∧ w.heap.size ≤ r ∧ Below w.heap.size w w' := by
  have d1 : decide ((lim : Int) < 1) = false := by rw [decide_eq_false_iff_not]; omega
  have d2 : decide ((lim : Int) > 4096) = false := by rw [decide_eq_false_iff_not]; omega
  have hbd := Lib.hid (xrunV_build (lim : Int) w)
  have B := Lib.hid (alloc_below w (.cells #[.slice none 0 0, .int .i64 (lim : Int), .int .i64 0] 72))
  have X := Lib.hid (Blk.new w 72 #[.slice none 0 0, .int .i64 (lim : Int), .int .i64 0])
  have HB := Lib.hid hb
  have HL := Lib.hid (And.intro h0 h1)
  clear hb h0 h1
  go_enter Try.func30, Try.ntmps30
  go_wp2_with fail
  go_ret
  exact ⟨w.heap.size, rfl, ⟨none, 0, X.out, HB.out, own_nil_k layE _ _ _, rfl, HL.out.1, HL.out.2, Nat.zero_le _, Nat.zero_le _, fun x hx => by cases hx⟩, Nat.le_refl _, B.out⟩
theorem xadd_bad (x : En) (hx : enE x ≠ 0) : Calls Try.prog 68 #[ptR r, enV x] w fun e w' => e = .returned (.int .i64 (enE x)) ∧ Below w.heap.size w w' := by
  obtain ⟨⟨a, b⟩, c, d⟩ := x
  have b1 := alloc_below w (.cells #[.int .i64 a, .int .i64 b, .int .i64 c, .int .i64 d] 65)
  have B1 := Lib.hid b1
  have PC := Lib.hid (ren_check_any a b c d (w.alloc (.cells #[.int .i64 a, .int .i64 b, .int .i64 c, .int .i64 d] 65)))
  have d1 : (enE ((a, b), (c, d)) == 0) = false := by rw [beq_eq_false_iff_ne]; exact hx
  clear b1 hx
  generalize enE ((a, b), (c, d)) = q at *
  unfold enV
  go_enter Try.func68, Try.ntmps68
  go_wp2_with fail
  refine PC.out.mono ?_; rintro e w2 ⟨rfl, b2⟩
  have B2 := Lib.hid b2
  clear b2
  go_wp2_with fail
  go_ret
  exact ⟨rfl, below_trans B1.out B2.out⟩
theorem xadd_full (h : RefR w base r hb R) (x : En) (hx : enE x = 0) (hf : R.held.length = R.limit) : Calls Try.prog 68 #[ptR r, enV x] w fun e w' => e = .returned (.int .i64 2) ∧ Below w.heap.size w w' := by
  obtain ⟨⟨a, b⟩, c, d⟩ := x
  have b1 := alloc_below w (.cells #[.int .i64 a, .int .i64 b, .int .i64 c, .int .i64 d] 65)
  have B1 := Lib.hid b1
  have H1 := Lib.hid (h.below b1)
  have PC := Lib.hid (ren_check_any a b c d (w.alloc (.cells #[.int .i64 a, .int .i64 b, .int .i64 c, .int .i64 d] 65)))
  rw [hx] at PC
  have HF := Lib.hid hf
  clear h b1 hx hf
  unfold enV
  go_enter Try.func68, Try.ntmps68
  go_wp2_with fail
  refine PC.out.mono ?_; rintro e w2 ⟨rfl, b2⟩
  obtain ⟨A, cc, hl, c0, -, c2, -⟩ := (H1.out.below b2).cells
  rw [HF.out] at c2
  have B2 := Lib.hid b2
  clear b2
  go_wp2_with fail
  go_region
  go_wp2_with fail
  go_ret
  exact ⟨rfl, dr_below (below_trans B1.out B2.out)⟩
set_option maxRecDepth 100000 in
set_option maxHeartbeats 2000000 in
theorem xadd_ok (h : RefR w base r hb R) (x : En) (hx : enE x = 0) (hf : R.held.length < R.limit) (hbase : base ≤ w.heap.size) : Calls Try.prog 68 #[ptR r, enV x] w fun e w' => e = .returned (.int .i64 0) ∧
    ∃ hb', RefR w' base r hb' ⟨R.limit, max R.most (R.held.length + 1), R.held ++ [x]⟩ ∧ RF r hb w w' ∧ (hb' = hb ∨ ∀ k, hb' = some k → w.heap.size ≤ k) := by
  obtain ⟨⟨a, b⟩, c, d⟩ := x
  have b1 := alloc_below w (.cells #[.int .i64 a, .int .i64 b, .int .i64 c, .int .i64 d] 65)
  have hbx := EnBox.new w ((a, b), (c, d)) 65
  have B1 := Lib.hid b1
  have H1 := Lib.hid (h.below b1)
  have PC := Lib.hid (ren_check_any a b c d (w.alloc (.cells #[.int .i64 a, .int .i64 b, .int .i64 c, .int .i64 d] 65)))
  have HX := Lib.hid hbx
  rw [hx] at PC
  have HE := Lib.hid hx
  have HB := Lib.hid hbase
  have HG := Lib.hid h.good
  have d1 : decide (R.limit ≤ R.held.length) = false := by rw [decide_eq_false_iff_not]; omega
  have hl2 : R.held.length < 4096 := Nat.lt_of_lt_of_le hf HG.out.2.1
  have HL := Lib.hid hf
  clear h b1 hx hf hbase hbx
  unfold enV
  go_enter Try.func68, Try.ntmps68
  go_wp2_with fail
  refine PC.out.mono ?_; rintro e w2 ⟨rfl, b2⟩
  have H2 := Lib.hid (H1.out.below b2)
  have X2 := Lib.hid (HX.out.below b2)
  obtain ⟨A, cc, hrl, c0, c1, c2, ho, hhb⟩ := H2.out.cells
  have B2 := Lib.hid (below_trans B1.out b2)
  have HO := Lib.hid ho
  have HHB := Lib.hid hhb
  clear b2 ho hhb c1
  go_wp2_with fail
  go_region
  have C2 := Lib.hid c2
  obtain ⟨q0, q1, q2, q3⟩ := X2.out.four
  clear c0 c2
  go_wp2_with fail
  refine wp_region_J RT [7, 10] (n := 11) (by kernel_rfl) rfl ?_
  refine batchJ RT.refl [1, 2, 3, 4, 5] (fuel := 6) rfl (by kernel_rfl) (by kernel_rfl) (fun _ _ d _ _ h => by cases d <;> exact h) ?_
  (repeat (first | ((with_reducible apply wq0); rfl; rfl; rfl; intro K hK; go_big_quiet_op; refine hK _ ?_; clear hK K) | ((with_reducible apply wq1); rfl; rfl; rfl; rfl; rfl; rfl; intro K hK; go_big_quiet_op; refine hK _ ?_; clear hK K) | ((with_reducible apply wqs); rfl; rfl; rfl; rfl; rfl; rfl; simp only [Act.put, List.setIfInBounds_toArray, List.set_cons_zero, List.set_cons_succ]) | ((with_reducible apply wqu); rfl; rfl; rfl; rfl; rfl; (first | simp only [same, Act.put, List.setIfInBounds_toArray, List.set_cons_zero, List.set_cons_succ] | simp only [Act.put, List.setIfInBounds_toArray, List.set_cons_zero, List.set_cons_succ]))))
  refine wqIdx_nil_check rfl rfl rfl rfl ?_; simp only [Act.put, List.setIfInBounds_toArray, List.set_cons_zero, List.set_cons_succ]
  (repeat (first | ((with_reducible apply wq0); rfl; rfl; rfl; intro K hK; go_big_quiet_op; refine hK _ ?_; clear hK K) | ((with_reducible apply wq1); rfl; rfl; rfl; rfl; rfl; rfl; intro K hK; go_big_quiet_op; refine hK _ ?_; clear hK K) | ((with_reducible apply wqs); rfl; rfl; rfl; rfl; rfl; rfl; simp only [Act.put, List.setIfInBounds_toArray, List.set_cons_zero, List.set_cons_succ]) | ((with_reducible apply wqu); rfl; rfl; rfl; rfl; rfl; (first | simp only [same, Act.put, List.setIfInBounds_toArray, List.set_cons_zero, List.set_cons_succ] | simp only [Act.put, List.setIfInBounds_toArray, List.set_cons_zero, List.set_cons_succ]))))
  refine wqIdx_load rfl rfl rfl rfl (fun W hW => run_load1 (fun _ => by kernel_rfl) (keep_c hW (C2.out))) ?_; simp only [Act.put, List.setIfInBounds_toArray, List.set_cons_zero, List.set_cons_succ]
  (repeat (first | ((with_reducible apply wq0); rfl; rfl; rfl; intro K hK; go_big_quiet_op; refine hK _ ?_; clear hK K) | ((with_reducible apply wq1); rfl; rfl; rfl; rfl; rfl; rfl; intro K hK; go_big_quiet_op; refine hK _ ?_; clear hK K) | ((with_reducible apply wqs); rfl; rfl; rfl; rfl; rfl; rfl; simp only [Act.put, List.setIfInBounds_toArray, List.set_cons_zero, List.set_cons_succ]) | ((with_reducible apply wqu); rfl; rfl; rfl; rfl; rfl; (first | simp only [same, Act.put, List.setIfInBounds_toArray, List.set_cons_zero, List.set_cons_succ] | simp only [Act.put, List.setIfInBounds_toArray, List.set_cons_zero, List.set_cons_succ]))))
  refine wqIdx_load rfl rfl rfl rfl (fun W hW => load_en_four w.heap.size 0 a b c d W (keep_c hW q0) (keep_c hW q1) (keep_c hW q2) (keep_c hW q3)) ?_
  simp only [Act.put, List.setIfInBounds_toArray, List.set_cons_zero, List.set_cons_succ]
  refine wqIdx_nil ?_
  refine batchP RT.refl RT.trans [0] (fuel := 5) rfl (by kernel_rfl) (by kernel_rfl) (fun _ _ d _ _ h => by cases d <;> exact h) ?_
  (repeat (first | ((with_reducible apply wq0); rfl; rfl; rfl; intro K hK; go_big_quiet_op; refine hK _ ?_; clear hK K) | ((with_reducible apply wq1); rfl; rfl; rfl; rfl; rfl; rfl; intro K hK; go_big_quiet_op; refine hK _ ?_; clear hK K) | ((with_reducible apply wqs); rfl; rfl; rfl; rfl; rfl; rfl; simp only [Act.put, List.setIfInBounds_toArray, List.set_cons_zero, List.set_cons_succ]) | ((with_reducible apply wqu); rfl; rfl; rfl; rfl; rfl; (first | simp only [same, Act.put, List.setIfInBounds_toArray, List.set_cons_zero, List.set_cons_succ] | simp only [Act.put, List.setIfInBounds_toArray, List.set_cons_zero, List.set_cons_succ]))))
  refine wqIdx_nil ?_
  refine wpAnyJ_sole (i := 6) rfl (by kernel_rfl) (fun K hK => ?_); rw [if_pos (wanted0 rfl _)]
  refine wp_buildSlice_one (.tmp 26) rfl (cs := encE ((a, b), (c, d))) rfl Try.underlying70 info_en (by decide) (by decide) (layE.len _) (zero_en _) rfl ?_
  refine hK _ _ ⟨fun _ => al_below _ _, trivial⟩ ?_
  clear hK K
  simp only [Act.put, List.setIfInBounds_toArray, List.set_cons_zero, List.set_cons_succ]
  have HOA := Lib.hid (World.ownsRow.alloc (World.ownsRow.drew (World.ownsRow.drew HO.out)) (.cells (encE ((a, b), (c, d))).toArray 65))
  have HRA := Lib.hid (reads_oneK layE w2.drew.drew ((a, b), (c, d)) 65)
  have BA := Lib.hid (show Below w.heap.size w (w2.drew.drew.alloc (.cells (encE ((a, b), (c, d))).toArray 65)) from (dr_below (dr_below B2.out)).alloc B2.out.size _)
  refine wpAnyJ_sole (i := 7) rfl (by kernel_rfl) (fun K hK => ?_); rw [if_pos (wanted0 rfl _)]
  refine wp_appK layE (ys := [((a, b), (c, d))]) (.tmp 25) (.tmp 27) _ rfl Try.underlying70 info_en3 rfl HOA.out HRA.out 1 rfl rfl (by omega) (by decide) (Nat.le_trans HB.out BA.out.size) ?_
  intro A5 c5 w5 o5 gr5
  refine hK _ _ ⟨fun hc => absurd (by decide) hc, trivial⟩ ?_
  clear hK K
  simp only [Act.put, List.setIfInBounds_toArray, List.set_cons_zero, List.set_cons_succ]
  obtain ⟨A0, cc0, hbr, h0base, -, -, -⟩ := H2.out
  have hb5 := (Blk.alloc (Blk.drew (Blk.drew hbr)) (.cells (encE ((a, b), (c, d))).toArray 65)).grown (Grew.by_ gr5) (Ne.symm (own_blk_ne HOA.out (Blk.alloc (Blk.drew (Blk.drew hbr)) _) (by decide)))
  have k5 := hb5.cell 0
  have z5 := hb5.frozen 0
  have X6 := Lib.hid (hb5.set_ 0 (.slice A5 (R.held.length + 1) c5))
  have O6 := Lib.hid (ownsRow_setCell_other (a := ⟨r, 0, none⟩) o5 (own_blk_ne o5 hb5 (by decide)) (.slice A5 (R.held.length + 1) c5))
  have G5 := Lib.hid gr5
  have HBL := Lib.hid h0base
  clear hb5 o5 gr5 hbr h0base
  refine batchP RT.refl RT.trans [8, 9] (fuel := 1) rfl (by kernel_rfl) (by kernel_rfl) (fun _ _ d _ _ h => by cases d <;> exact h) ?_
  refine wqIdx_nil_check rfl rfl rfl rfl ?_; simp only [Act.put, List.setIfInBounds_toArray, List.set_cons_zero, List.set_cons_succ]
  (repeat (first | ((with_reducible apply wq0); rfl; rfl; rfl; intro K hK; go_big_quiet_op; refine hK _ ?_; clear hK K) | ((with_reducible apply wq1); rfl; rfl; rfl; rfl; rfl; rfl; intro K hK; go_big_quiet_op; refine hK _ ?_; clear hK K) | ((with_reducible apply wqs); rfl; rfl; rfl; rfl; rfl; rfl; simp only [Act.put, List.setIfInBounds_toArray, List.set_cons_zero, List.set_cons_succ]) | ((with_reducible apply wqu); rfl; rfl; rfl; rfl; rfl; (first | simp only [same, Act.put, List.setIfInBounds_toArray, List.set_cons_zero, List.set_cons_succ] | simp only [Act.put, List.setIfInBounds_toArray, List.set_cons_zero, List.set_cons_succ]))))
  refine wqIdx_nil ?_
  refine wpAnyJ_sole (i := 10) rfl (by kernel_rfl) (fun K hK => ?_); go_simp
  refine hK _ _ ⟨fun hc => absurd (by decide) hc, trivial⟩ ?_
  clear hK K k5 z5
  refine wpAnyJ_done (by kernel_rfl) ?_ _
  obtain ⟨w6, hw6⟩ : ∃ w6, w6 = w5.setCell ⟨r, 0, none⟩ (.slice A5 (R.held.length + 1) c5) := ⟨_, rfl⟩
  rw [← hw6] at X6 O6 ⊢
  have HW6 := Lib.hid hw6
  clear hw6
  have k0 : w6.cell? ⟨r, 0, none⟩ = some (.slice A5 (R.held.length + 1) c5) := X6.out.cell 0
  have k2 : w6.cell? ⟨r, 2, none⟩ = some (.int .i64 (R.most : Int)) := X6.out.cell 2
  have hg := Grew.by_ G5.out
  have HF6 := Lib.hid (show RF r hb w w6 by
    rw [HW6.out]
    refine ⟨hg.os.trans BA.out.os, hg.tape.trans BA.out.tape, hg.output.trans BA.out.output, ?_, fun k hk hkr hkb => ?_⟩
    · have := BA.out.size
      have := hg.size
      rw [World.size_setCell]
      omega
    · refine (Below.heap_setCell w5 ⟨r, 0, none⟩ _ k hkr).trans ((hg.block k (Nat.lt_of_lt_of_le hk BA.out.size) ?_).trans (BA.out.block k hk))
      rw [← HHB.out]
      exact hkb)
  have HAT := Lib.hid (show (Value.slice A5 (R.held.length + 1) c5).ownBlock = hb ∨ ∀ k, (Value.slice A5 (R.held.length + 1) c5).ownBlock = some k → w.heap.size ≤ k from by
    rcases Grew.at_ G5.out with e | e
    · exact .inl (by rw [e, ← HHB.out])
    · refine .inr fun k hk => ?_
      rw [e] at hk
      injection hk with hk
      have := BA.out.size
      rw [← hk]
      exact this)
  have hok : ∀ mx : Nat, mx = max R.most (R.held.length + 1) → Rn.ok ⟨R.limit, max R.most (R.held.length + 1), R.held ++ [((a, b), (c, d))]⟩ := fun mx _ => by
    refine ⟨HG.out.1, HG.out.2.1, ?_, ?_, ?_⟩
    · show max R.most (R.held.length + 1) ≤ R.limit
      have := HG.out.2.2.1
      have := HL.out
      omega
    · show (R.held ++ [((a, b), (c, d))]).length ≤ R.limit
      rw [List.length_append]
      exact HL.out
    · intro y hy
      rcases List.mem_append.1 hy with hy | hy
      · exact HG.out.2.2.2.2 y hy
      · rw [List.mem_singleton.1 hy]
        exact HE.out
  have HOK := Lib.hid (hok _ rfl)
  clear hok hg
  by_cases hm : R.most < R.held.length + 1
  · have i1 : decide (((R.held.length : Int) + 1) > (R.most : Int)) = true := by rw [decide_eq_true_eq]; omega
    have i2 : decide (((R.held.length + 1 : Nat) : Int) > (R.most : Int)) = true := by rw [decide_eq_true_eq]; omega
    have HM := Lib.hid (show max R.most (R.held.length + 1) = R.held.length + 1 from Nat.max_eq_right (by omega))
    have X7 := Lib.hid (X6.out.set_ 2 (.int .i64 ((R.held.length : Int) + 1)))
    have O7 := Lib.hid (ownsRow_setCell_other (a := ⟨r, 2, none⟩) O6.out (own_blk_ne O6.out X6.out (by decide)) (.int .i64 ((R.held.length : Int) + 1)))
    have f2 := X6.out.frozen 2
    clear hm
    go_wp2_with fail
    go_region
    go_wp2_with fail
    go_ret
    refine ⟨rfl, (Value.slice A5 (R.held.length + 1) c5).ownBlock, ⟨A5, c5, ?_, HBL.out, ?_, ?_, HOK.out⟩, ?_, HAT.out⟩
    · show Blk _ r 72 #[.slice A5 (R.held ++ [((a, b), (c, d))]).length c5, .int .i64 (R.limit : Int), .int .i64 ((max R.most (R.held.length + 1) : Nat) : Int)]
      rw [List.length_append, HM.out]
      exact X7.out
    · show World.ownsRow _ base 65 4 (.slice A5 (R.held ++ [((a, b), (c, d))]).length c5) (R.held ++ [((a, b), (c, d))]).length _
      rw [List.length_append]
      exact O7.out
    · cases A5 <;> rfl
    · refine ⟨HF6.out.1, HF6.out.2.1, HF6.out.2.2.1, ?_, fun k hk hkr hkb => ?_⟩
      · have := HF6.out.size
        show w.heap.size ≤ (w6.setCell ⟨r, 2, none⟩ (.int .i64 ((R.held.length : Int) + 1))).heap.size
        rw [World.size_setCell]
        exact this
      · exact (Below.heap_setCell w6 ⟨r, 2, none⟩ _ k hkr).trans (HF6.out.2.2.2.2 k hk hkr hkb)
  · have i1 : decide (((R.held.length : Int) + 1) > (R.most : Int)) = false := by rw [decide_eq_false_iff_not]; omega
    have i2 : decide (((R.held.length + 1 : Nat) : Int) > (R.most : Int)) = false := by rw [decide_eq_false_iff_not]; omega
    have HM := Lib.hid (show max R.most (R.held.length + 1) = R.most from Nat.max_eq_left (by omega))
    clear hm
    go_wp2_with fail
    go_region
    go_wp2_with fail
    go_ret
    refine ⟨rfl, (Value.slice A5 (R.held.length + 1) c5).ownBlock, ⟨A5, c5, ?_, HBL.out, ?_, ?_, HOK.out⟩, ?_, HAT.out⟩
    · show Blk _ r 72 #[.slice A5 (R.held ++ [((a, b), (c, d))]).length c5, .int .i64 (R.limit : Int), .int .i64 ((max R.most (R.held.length + 1) : Nat) : Int)]
      rw [List.length_append, HM.out]
      exact X6.out
    · show World.ownsRow _ base 65 4 (.slice A5 (R.held ++ [((a, b), (c, d))]).length c5) (R.held ++ [((a, b), (c, d))]).length _
      rw [List.length_append]
      exact O6.out
    · cases A5 <;> rfl
    · exact HF6.out
end
end Go.Proofs.Ytodfpdmmbmbinaa

namespace Go.Proofs.Ytodfpdmmbmbinaa
open Go.RowKit Go.Sort

theorem load_mo_2 (h off : Nat) (a b : Int) (w : World) (h0 : w.cell? ⟨h, off, none⟩ = some (.int .i64 a)) (h1 : w.cell? ⟨h, off + 1, none⟩ = some (.int .i64 b)) : (Instr.loadAt 61 (.pointer (some ⟨h, off, none⟩))).run Try.prog w = .ok (.agg #[.int .i64 a, .int .i64 b]) w := by
  go_simp
section
variable {w w' w1 : World} {base r : Nat} {hb : Option Nat} {R : Rn}
set_option maxRecDepth 100000 in
set_option maxHeartbeats 2000000 in
theorem xat_any (h : RefR w base r hb R) (m : Int × Int) : Calls Try.prog 69 #[ptR r, .agg #[.int .i64 m.1, .int .i64 m.2]] w (EnRow w ((srtE R.held).filter fun x => x.1 == m)) := by
  obtain ⟨m1, m2⟩ := m
  have b1 := alloc_below w (.cells #[.int .i64 m1, .int .i64 m2] 61)
  have xm := Blk.new w 61 #[.int .i64 m1, .int .i64 m2]
  have hg := h.good
  have hbig : R.held.length ≤ 4096 := Nat.le_trans hg.2.2.2.1 hg.2.1
  obtain ⟨A, c, hrl, -, -, c2, ho, -⟩ := (h.below b1).cells
  obtain ⟨g, -, sl, -, -, hc1, hc2⟩ := SlK.of_own layE ho
  have PS := Lib.hid (ren_sort_any R.held.length A g R.held c (w.alloc (.cells #[.int .i64 m1, .int .i64 m2] 61)) (Nat.le_refl _) sl hc1 (by omega) hc2)
  have B1 := Lib.hid b1
  have XM := Lib.hid xm
  have hsl := srtE_length R.held
  have HSL := Lib.hid hsl
  generalize srtE R.held = s at *
  have hs4 : s.length ≤ 4096 := by omega
  clear h b1 xm hg ho sl hc1 hc2 hsl hbig
  go_enter Try.func69, Try.ntmps69
  go_wp2_with fail
  refine PS.out.mono ?_; rintro e w2 ⟨A2, cc2, rfl, ⟨g2, s2⟩, b2, -⟩
  have S2 := Lib.hid s2
  have B2 := Lib.hid (below_trans B1.out b2)
  have X2 := Lib.hid (XM.out.below b2 XM.out.lt)
  clear s2 b2 c2
  go_wp2_with fail
  go_loopw [5, 7] (fun sv i wr => ∃ (k : Nat) (A3 : Option Addr) (c3 : Nat), k ≤ s.length ∧ i = .int .i64 (k : Int) ∧ sv = .slice A3 ((s.take k).filter fun x => x.1 == (m1, m2)).length c3 ∧ wr.ownsRow w2.heap.size 65 4 sv ((s.take k).filter fun x => x.1 == (m1, m2)).length (RowV encE ((s.take k).filter fun x => x.1 == (m1, m2))) ∧ Below w2.heap.size w2 wr) (fun _ i _ => s.length - (intOf i).toNat)
  case atStart => exact ⟨0, none, 0, Nat.zero_le _, rfl, rfl, own_nil_k layE _ _ _, Below.refl _ _⟩
  case round =>
    obtain ⟨k, A3, c3, hk, rfl, rfl, ho, hb3⟩ := hrel
    have HO := Lib.hid ho
    have HB := Lib.hid hb3
    clear ho hb3
    by_cases hlt : k < s.length
    · have hea := List.getElem?_eq_getElem hlt
      obtain ⟨-, off, rfl, hc⟩ := (S2.out.below HB.out).at_ layE hea
      have htk : s.take (k + 1) = s.take k ++ [s[k]] := by rw [List.take_add_one, hea]; rfl
      obtain ⟨x, hx⟩ : ∃ x, x = s[k] := ⟨_, rfl⟩
      rw [← hx] at hc htk
      obtain ⟨⟨a, b⟩, c', d⟩ := x
      have q0 := hc 0 _ rfl
      have q1 := hc 1 _ rfl
      have q2 := hc 2 _ rfl
      have q3 := hc 3 _ rfl
      rw [Nat.add_zero] at q0
      have x3 := X2.out.below HB.out X2.out.lt
      have z0 : wr.cell? ⟨w.heap.size, 0, none⟩ = some (.int .i64 m1) := x3.cell 0
      have z1 : wr.cell? ⟨w.heap.size, 1, none⟩ = some (.int .i64 m2) := x3.cell 1
      have i1 : decide ((k : Int) < (s.length : Int)) = true := by rw [decide_eq_true_eq]; omega
      have hf : (s.take (k + 1)).filter (fun x => x.1 == (m1, m2)) = (s.take k).filter (fun x => x.1 == (m1, m2)) ++ (if (a == m1) && (b == m2) then [((a, b), (c', d))] else []) := by
        rw [htk, List.filter_append]
        congr 1
        rw [List.filter_cons, List.filter_nil]
        rfl
      have HF := Lib.hid hf
      have hlen : ((s.take k).filter fun x => x.1 == (m1, m2)).length ≤ 4096 := Nat.le_trans (List.length_filter_le ..) (by rw [List.length_take]; omega)
      obtain ⟨ys, hys⟩ : ∃ ys, ys = (s.take k).filter fun x => x.1 == (m1, m2) := ⟨_, rfl⟩
      rw [← hys] at HF HO hlen
      have HYS := Lib.hid hys
      rw [← hys]
      clear hea hx htk hc x3 hf hys
      have go : ∀ q1' q2' : Bool, (a == m1) = q1' → (b == m2) = q2' → True := fun _ _ _ _ => trivial
      clear go
      generalize ha : (a == m1) = qa at HF
      generalize hb' : (b == m2) = qb at HF
      cases qa <;> cases qb
      · go_wp2_with fail
        refine wp_region_J RT [] (n := 7) (by kernel_rfl) rfl ?_
        refine batchJ RT.refl [0, 1, 2, 3, 4, 5, 6] (fuel := 0) rfl (by kernel_rfl) (by kernel_rfl) (fun _ _ d _ _ h => by cases d <;> exact h) ?_
        (repeat (first | ((with_reducible apply wq0); rfl; rfl; rfl; intro K hK; go_big_quiet_op; refine hK _ ?_; clear hK K) | ((with_reducible apply wq1); rfl; rfl; rfl; rfl; rfl; rfl; intro K hK; go_big_quiet_op; refine hK _ ?_; clear hK K) | ((with_reducible apply wqs); rfl; rfl; rfl; rfl; rfl; rfl; simp only [Act.put, List.setIfInBounds_toArray, List.set_cons_zero, List.set_cons_succ]) | ((with_reducible apply wqu); rfl; rfl; rfl; rfl; rfl; (first | simp only [same, Act.put, List.setIfInBounds_toArray, List.set_cons_zero, List.set_cons_succ] | simp only [Act.put, List.setIfInBounds_toArray, List.set_cons_zero, List.set_cons_succ]))))
        refine wqIdx_load rfl rfl rfl rfl (fun W hW => load_mo_2 g2 (off + k * 4) a b W (keep_c hW q0) (keep_c hW q1)) ?_
        simp only [Act.put, List.setIfInBounds_toArray, List.set_cons_zero, List.set_cons_succ]
        refine wqIdx_load rfl rfl rfl rfl (fun W hW => load_mo_2 w.heap.size 0 m1 m2 W (keep_c hW z0) (keep_c hW z1)) ?_
        simp only [Act.put, List.setIfInBounds_toArray, List.set_cons_zero, List.set_cons_succ]
        (repeat (first | ((with_reducible apply wq0); rfl; rfl; rfl; intro K hK; go_big_quiet_op; refine hK _ ?_; clear hK K) | ((with_reducible apply wq1); rfl; rfl; rfl; rfl; rfl; rfl; intro K hK; go_big_quiet_op; refine hK _ ?_; clear hK K) | ((with_reducible apply wqs); rfl; rfl; rfl; rfl; rfl; rfl; simp only [Act.put, List.setIfInBounds_toArray, List.set_cons_zero, List.set_cons_succ]) | ((with_reducible apply wqu); rfl; rfl; rfl; rfl; rfl; (first | simp only [same, Act.put, List.setIfInBounds_toArray, List.set_cons_zero, List.set_cons_succ] | simp only [Act.put, List.setIfInBounds_toArray, List.set_cons_zero, List.set_cons_succ]))))
        refine wqIdx_nil ?_
        refine wpAnyJ_done (by kernel_rfl) ?_ _
        go_wp2_with fail
        have hf := HF.out
        rw [if_neg (by decide), List.append_nil] at hf
        have HO2 := own_below HO.out (dr_below (Below.refl wr.heap.size wr))
        exact ⟨⟨k + 1, A3, c3, by omega, by go_num, by rw [hf], by rw [hf]; exact HO2, dr_below HB.out⟩, by simp [intOf]; omega⟩
      · go_wp2_with fail
        refine wp_region_J RT [] (n := 7) (by kernel_rfl) rfl ?_
        refine batchJ RT.refl [0, 1, 2, 3, 4, 5, 6] (fuel := 0) rfl (by kernel_rfl) (by kernel_rfl) (fun _ _ d _ _ h => by cases d <;> exact h) ?_
        (repeat (first | ((with_reducible apply wq0); rfl; rfl; rfl; intro K hK; go_big_quiet_op; refine hK _ ?_; clear hK K) | ((with_reducible apply wq1); rfl; rfl; rfl; rfl; rfl; rfl; intro K hK; go_big_quiet_op; refine hK _ ?_; clear hK K) | ((with_reducible apply wqs); rfl; rfl; rfl; rfl; rfl; rfl; simp only [Act.put, List.setIfInBounds_toArray, List.set_cons_zero, List.set_cons_succ]) | ((with_reducible apply wqu); rfl; rfl; rfl; rfl; rfl; (first | simp only [same, Act.put, List.setIfInBounds_toArray, List.set_cons_zero, List.set_cons_succ] | simp only [Act.put, List.setIfInBounds_toArray, List.set_cons_zero, List.set_cons_succ]))))
        refine wqIdx_load rfl rfl rfl rfl (fun W hW => load_mo_2 g2 (off + k * 4) a b W (keep_c hW q0) (keep_c hW q1)) ?_
        simp only [Act.put, List.setIfInBounds_toArray, List.set_cons_zero, List.set_cons_succ]
        refine wqIdx_load rfl rfl rfl rfl (fun W hW => load_mo_2 w.heap.size 0 m1 m2 W (keep_c hW z0) (keep_c hW z1)) ?_
        simp only [Act.put, List.setIfInBounds_toArray, List.set_cons_zero, List.set_cons_succ]
        (repeat (first | ((with_reducible apply wq0); rfl; rfl; rfl; intro K hK; go_big_quiet_op; refine hK _ ?_; clear hK K) | ((with_reducible apply wq1); rfl; rfl; rfl; rfl; rfl; rfl; intro K hK; go_big_quiet_op; refine hK _ ?_; clear hK K) | ((with_reducible apply wqs); rfl; rfl; rfl; rfl; rfl; rfl; simp only [Act.put, List.setIfInBounds_toArray, List.set_cons_zero, List.set_cons_succ]) | ((with_reducible apply wqu); rfl; rfl; rfl; rfl; rfl; (first | simp only [same, Act.put, List.setIfInBounds_toArray, List.set_cons_zero, List.set_cons_succ] | simp only [Act.put, List.setIfInBounds_toArray, List.set_cons_zero, List.set_cons_succ]))))
        refine wqIdx_nil ?_
        refine wpAnyJ_done (by kernel_rfl) ?_ _
        go_wp2_with fail
        have hf := HF.out
        rw [if_neg (by decide), List.append_nil] at hf
        have HO2 := own_below HO.out (dr_below (Below.refl wr.heap.size wr))
        exact ⟨⟨k + 1, A3, c3, by omega, by go_num, by rw [hf], by rw [hf]; exact HO2, dr_below HB.out⟩, by simp [intOf]; omega⟩
      · go_wp2_with fail
        refine wp_region_J RT [] (n := 7) (by kernel_rfl) rfl ?_
        refine batchJ RT.refl [0, 1, 2, 3, 4, 5, 6] (fuel := 0) rfl (by kernel_rfl) (by kernel_rfl) (fun _ _ d _ _ h => by cases d <;> exact h) ?_
        (repeat (first | ((with_reducible apply wq0); rfl; rfl; rfl; intro K hK; go_big_quiet_op; refine hK _ ?_; clear hK K) | ((with_reducible apply wq1); rfl; rfl; rfl; rfl; rfl; rfl; intro K hK; go_big_quiet_op; refine hK _ ?_; clear hK K) | ((with_reducible apply wqs); rfl; rfl; rfl; rfl; rfl; rfl; simp only [Act.put, List.setIfInBounds_toArray, List.set_cons_zero, List.set_cons_succ]) | ((with_reducible apply wqu); rfl; rfl; rfl; rfl; rfl; (first | simp only [same, Act.put, List.setIfInBounds_toArray, List.set_cons_zero, List.set_cons_succ] | simp only [Act.put, List.setIfInBounds_toArray, List.set_cons_zero, List.set_cons_succ]))))
        refine wqIdx_load rfl rfl rfl rfl (fun W hW => load_mo_2 g2 (off + k * 4) a b W (keep_c hW q0) (keep_c hW q1)) ?_
        simp only [Act.put, List.setIfInBounds_toArray, List.set_cons_zero, List.set_cons_succ]
        refine wqIdx_load rfl rfl rfl rfl (fun W hW => load_mo_2 w.heap.size 0 m1 m2 W (keep_c hW z0) (keep_c hW z1)) ?_
        simp only [Act.put, List.setIfInBounds_toArray, List.set_cons_zero, List.set_cons_succ]
        (repeat (first | ((with_reducible apply wq0); rfl; rfl; rfl; intro K hK; go_big_quiet_op; refine hK _ ?_; clear hK K) | ((with_reducible apply wq1); rfl; rfl; rfl; rfl; rfl; rfl; intro K hK; go_big_quiet_op; refine hK _ ?_; clear hK K) | ((with_reducible apply wqs); rfl; rfl; rfl; rfl; rfl; rfl; simp only [Act.put, List.setIfInBounds_toArray, List.set_cons_zero, List.set_cons_succ]) | ((with_reducible apply wqu); rfl; rfl; rfl; rfl; rfl; (first | simp only [same, Act.put, List.setIfInBounds_toArray, List.set_cons_zero, List.set_cons_succ] | simp only [Act.put, List.setIfInBounds_toArray, List.set_cons_zero, List.set_cons_succ]))))
        refine wqIdx_nil ?_
        refine wpAnyJ_done (by kernel_rfl) ?_ _
        go_wp2_with fail
        have hf := HF.out
        rw [if_neg (by decide), List.append_nil] at hf
        have HO2 := own_below HO.out (dr_below (Below.refl wr.heap.size wr))
        exact ⟨⟨k + 1, A3, c3, by omega, by go_num, by rw [hf], by rw [hf]; exact HO2, dr_below HB.out⟩, by simp [intOf]; omega⟩
      · go_wp2_with fail
        refine wp_region_J RT [] (n := 7) (by kernel_rfl) rfl ?_
        refine batchJ RT.refl [0, 1, 2, 3, 4, 5, 6] (fuel := 0) rfl (by kernel_rfl) (by kernel_rfl) (fun _ _ d _ _ h => by cases d <;> exact h) ?_
        (repeat (first | ((with_reducible apply wq0); rfl; rfl; rfl; intro K hK; go_big_quiet_op; refine hK _ ?_; clear hK K) | ((with_reducible apply wq1); rfl; rfl; rfl; rfl; rfl; rfl; intro K hK; go_big_quiet_op; refine hK _ ?_; clear hK K) | ((with_reducible apply wqs); rfl; rfl; rfl; rfl; rfl; rfl; simp only [Act.put, List.setIfInBounds_toArray, List.set_cons_zero, List.set_cons_succ]) | ((with_reducible apply wqu); rfl; rfl; rfl; rfl; rfl; (first | simp only [same, Act.put, List.setIfInBounds_toArray, List.set_cons_zero, List.set_cons_succ] | simp only [Act.put, List.setIfInBounds_toArray, List.set_cons_zero, List.set_cons_succ]))))
        refine wqIdx_load rfl rfl rfl rfl (fun W hW => load_mo_2 g2 (off + k * 4) a b W (keep_c hW q0) (keep_c hW q1)) ?_
        simp only [Act.put, List.setIfInBounds_toArray, List.set_cons_zero, List.set_cons_succ]
        refine wqIdx_load rfl rfl rfl rfl (fun W hW => load_mo_2 w.heap.size 0 m1 m2 W (keep_c hW z0) (keep_c hW z1)) ?_
        simp only [Act.put, List.setIfInBounds_toArray, List.set_cons_zero, List.set_cons_succ]
        (repeat (first | ((with_reducible apply wq0); rfl; rfl; rfl; intro K hK; go_big_quiet_op; refine hK _ ?_; clear hK K) | ((with_reducible apply wq1); rfl; rfl; rfl; rfl; rfl; rfl; intro K hK; go_big_quiet_op; refine hK _ ?_; clear hK K) | ((with_reducible apply wqs); rfl; rfl; rfl; rfl; rfl; rfl; simp only [Act.put, List.setIfInBounds_toArray, List.set_cons_zero, List.set_cons_succ]) | ((with_reducible apply wqu); rfl; rfl; rfl; rfl; rfl; (first | simp only [same, Act.put, List.setIfInBounds_toArray, List.set_cons_zero, List.set_cons_succ] | simp only [Act.put, List.setIfInBounds_toArray, List.set_cons_zero, List.set_cons_succ]))))
        refine wqIdx_nil ?_
        refine wpAnyJ_done (by kernel_rfl) ?_ _
        have HR := Lib.hid (reads_oneK layE wr.drew ((a, b), (c', d)) 65)
        have HOA := Lib.hid (World.ownsRow.alloc (own_below HO.out (dr_below (Below.refl wr.heap.size wr))) (.cells (encE ((a, b), (c', d))).toArray 65))
        have BWA := Lib.hid ((dr_below HB.out).alloc HB.out.size (.cells (encE ((a, b), (c', d))).toArray 65))
        go_wp2_with (at_builtin; (refine wpList_appK layE (ys := [((a, b), (c', d))]) _ rfl (.tmp 26) (.tmp 31) _ rfl Try.underlying70 info_en3 rfl HOA.out HR.out 1 rfl rfl (by omega) (by decide) BWA.out.size ?_); intro A5 c5 w5 o5 gr5; have O5 := Lib.hid o5; have B5 := Lib.hid (show Below w2.heap.size w2 w5 from BWA.out.grown (Grew.by_ gr5) BWA.out.size fun i hi => (World.ownsRow.lt HOA.out i hi).1); clear o5 gr5)
        have hf := HF.out
        rw [if_pos (by decide)] at hf
        exact ⟨⟨k + 1, A5, c5, by omega, by go_num, by rw [hf, List.length_append]; rfl, by rw [hf, List.length_append]; exact O5.out, B5.out⟩, by simp [intOf]; omega⟩
    · obtain rfl : k = s.length := by omega
      have ho := HO.out
      rw [List.take_length] at ho ⊢
      have HO := Lib.hid (own_mono ho (Nat.le_trans (Nat.le_refl _) B2.out.size))
      clear ho
      go_wp2
      go_ret
      exact ⟨A3, c3, rfl, HO.out, B2.out.trans (HB.out.mono B2.out.size)⟩
theorem xkeep_any (h : RefR w base r hb R) (F : Option Addr) (hf : Nat) (f : List (Int × Int)) (cf : Nat) (hF : SlP w hf F f) (hbig : f.length ≤ 50000) (hbase : base ≤ w.heap.size) :
    Calls Try.prog 70 #[ptR r, .slice F f.length cf] w fun e w' => e = .returned (.int .i64 ((R.held.length : Int) - ((R.held.filter fun x => f.any fun y => aheadM y x.1).length : Int))) ∧
      ∃ hb', RefR w' base r hb' { R with held := R.held.filter fun x => f.any fun y => aheadM y x.1 } ∧ RF r hb w w' ∧ ∀ k, hb' = some k → w.heap.size ≤ k := by
  have hg := h.good
  have hl2 : R.held.length ≤ 4096 := Nat.le_trans hg.2.2.2.1 hg.2.1
  obtain ⟨A, c, hrl, -, -, c0, ho, -⟩ := h.cells
  obtain ⟨g, -, sl, -, -, -, -⟩ := SlK.of_own layE ho
  have PB := Lib.hid (ren_behind_any A g R.held c F hf f cf w sl (by omega) hF hbig)
  have H := Lib.hid h
  have HB := Lib.hid hbase
  have hlen : (R.held.filter fun x => f.any fun y => aheadM y x.1).length ≤ R.held.length := List.length_filter_le ..
  have hmem : ∀ x ∈ (R.held.filter fun x => f.any fun y => aheadM y x.1), enE x = 0 := fun x hx => hg.2.2.2.2 x (List.mem_filter.1 hx).1
  have HMEM := Lib.hid hmem
  have HG := Lib.hid hg
  clear h hg ho sl hF hmem hbase
  generalize (R.held.filter fun x => f.any fun y => aheadM y x.1) = l at *
  go_enter Try.func70, Try.ntmps70
  go_wp2_with fail
  refine PB.out.mono ?_; rintro e w1 ⟨A1, c1, rfl, o1, b1⟩
  have O1 := Lib.hid o1
  have B1 := Lib.hid b1
  obtain ⟨A', c', hx, h2, -, -, -⟩ := (H.out.below b1)
  have k0 := hx.cell 0
  have f0 := hx.frozen 0
  have HX := Lib.hid (hx.set_ 0 (.slice A1 l.length c1))
  have OX := Lib.hid (own_mono (ownsRow_setCell_other (a := ⟨r, 0, none⟩) o1 (own_blk_ne o1 hx (by decide)) (.slice A1 l.length c1)) HB.out)
  have OF := Lib.hid (fun k (hk : (Value.slice A1 l.length c1).ownBlock = some k) => (World.ownsRow.lt O1.out k hk).1)
  have H2 := Lib.hid h2
  have kn := HX.out.cell 0
  clear o1 b1 hx h2 c0
  go_wp2_with fail
  go_ret
  refine ⟨rfl, _, ⟨A1, c1, HX.out, H2.out, OX.out, rfl, HG.out.1, HG.out.2.1, HG.out.2.2.1, Nat.le_trans hlen HG.out.2.2.2.1, HMEM.out⟩, ⟨B1.out.os, B1.out.tape, B1.out.output, by rw [World.size_setCell]; exact B1.out.size, fun k hk hkr _ => ?_⟩, OF.out⟩
  exact (Below.heap_setCell w1 ⟨r, 0, none⟩ _ k hkr).trans (B1.out.block k hk)
end
end Go.Proofs.Ytodfpdmmbmbinaa

namespace Go.Proofs.Ytodfpdmmbmbinaa
open Go.RowKit Go.Sort

def stepAll (F : List (Int × Int)) (m : Int × Int) : List (Int × Int) := if covM F m then F else F ++ [m]
theorem FrontIn.stepAll {S F : List (Int × Int)} (h : FrontIn S F) (m : Int × Int) (hm : ∀ y ∈ S, ltM m y = false) : FrontIn (S ++ [m]) (stepAll F m) := by
  unfold Go.Proofs.Ytodfpdmmbmbinaa.stepAll
  by_cases hc : covM F m = true
  · rw [if_pos hc]
    refine ⟨h.inc, fun x hx => List.mem_append.2 (.inl (h.sub x hx)), fun y hy => ?_⟩
    rcases List.mem_append.1 hy with hy | hy
    · exact h.cov y hy
    · obtain rfl := List.mem_singleton.1 hy
      unfold covM at hc
      obtain ⟨f, hf, hfm⟩ := List.any_eq_true.1 hc
      exact ⟨f, hf, hfm⟩
  · rw [if_neg hc]
    have hno : ∀ f ∈ F, aheadM f m = false := by
      intro f hf
      cases hfm : aheadM f m with
      | false => rfl
      | true => exact absurd (List.any_eq_true.2 ⟨f, hf, hfm⟩) hc
    refine ⟨?_, fun x hx => ?_, fun y hy => ?_⟩
    · rw [List.pairwise_append]
      refine ⟨h.inc, List.pairwise_singleton _ _, fun a ha b hb => ?_⟩
      obtain rfl := List.mem_singleton.1 hb
      have h1 := hno a ha
      have h2 := hm a (h.sub a ha)
      rw [ltM_not] at h2
      have h3 : ¬ (a.1 ≤ b.1 ∧ a.2 ≤ b.2) := fun hh => by rw [(aheadM_iff a b).2 hh] at h1; cases h1
      omega
    · rcases List.mem_append.1 hx with hx | hx
      · exact List.mem_append.2 (.inl (h.sub x hx))
      · exact List.mem_append.2 (.inr hx)
    · rcases List.mem_append.1 hy with hy | hy
      · obtain ⟨f, hf, hfy⟩ := h.cov y hy
        exact ⟨f, List.mem_append.2 (.inl hf), hfy⟩
      · obtain rfl := List.mem_singleton.1 hy
        exact ⟨y, List.mem_append.2 (.inr (List.mem_singleton.2 rfl)), (aheadM_iff y y).2 ⟨Int.le_refl _, Int.le_refl _⟩⟩
theorem frontIn_all (s : List En) (hs : SrtPE s) : ∀ k, k ≤ s.length → FrontIn ((s.take k).map (·.1)) (((s.take k).map (·.1)).foldl Go.Proofs.Ytodfpdmmbmbinaa.stepAll []) := by
  intro k
  induction k with
  | zero => intro _; exact FrontIn.nil
  | succ k ih =>
    intro hk
    have hea := List.getElem?_eq_getElem (show k < s.length by omega)
    rw [List.take_add_one, hea, List.map_append, List.foldl_append]
    show FrontIn (_ ++ [s[k].1]) (Go.Proofs.Ytodfpdmmbmbinaa.stepAll _ s[k].1)
    refine (ih (by omega)).stepAll _ fun y hy => ?_
    obtain ⟨x, hx, rfl⟩ := List.mem_map.1 hy
    obtain ⟨j, hj⟩ := List.getElem?_of_mem hx
    rw [List.getElem?_take] at hj
    split at hj
    · rename_i hjk
      have hp := List.pairwise_iff_getElem.1 hs j k (by omega) (by omega) hjk
      rw [List.getElem?_eq_getElem (by omega)] at hj
      injection hj with hj
      rw [hj] at hp
      have hl : ltE s[k] x = false := by
        rw [leE_lt] at hp
        simpa using hp
      rw [ltE_not] at hl
      rw [ltM_not]
      omega
    · cases hj
theorem stepAll_pre (m : Int × Int) (F : List (Int × Int)) : ∃ t, Go.Proofs.Ytodfpdmmbmbinaa.stepAll F m = F ++ t := by
  unfold Go.Proofs.Ytodfpdmmbmbinaa.stepAll
  split
  · exact ⟨[], (List.append_nil _).symm⟩
  · exact ⟨[m], rfl⟩
theorem foldAll_pre : ∀ (l : List (Int × Int)) (F : List (Int × Int)), ∃ t, l.foldl Go.Proofs.Ytodfpdmmbmbinaa.stepAll F = F ++ t
  | [], F => ⟨[], (List.append_nil _).symm⟩
  | m :: l, F => by
    obtain ⟨t, ht⟩ := stepAll_pre m F
    obtain ⟨u, hu⟩ := foldAll_pre l (F ++ t)
    exact ⟨t ++ u, by rw [List.foldl_cons, ht, hu, List.append_assoc]⟩
theorem foldl_full : ∀ (l : List En) (F : List (Int × Int)), F.length = 256 → l.foldl stepFr F = F
  | [], _, _ => rfl
  | e :: l, F, h => by
    have : stepFr F e = F := by unfold stepFr; rw [if_pos h]
    rw [List.foldl_cons, this]
    exact foldl_full l F h
theorem foldl_cut : ∀ (l : List En) (F : List (Int × Int)), F.length ≤ 256 → l.foldl stepFr F = ((l.map (·.1)).foldl Go.Proofs.Ytodfpdmmbmbinaa.stepAll F).take 256
  | [], F, h => (List.take_of_length_le h).symm
  | e :: l, F, h => by
    by_cases hf : F.length = 256
    · rw [foldl_full _ F hf]
      obtain ⟨t, ht⟩ := foldAll_pre ((e :: l).map (·.1)) F
      rw [ht, List.take_append, List.take_of_length_le (by omega), hf, Nat.sub_self, List.take_zero, List.append_nil]
    · have hs : stepFr F e = Go.Proofs.Ytodfpdmmbmbinaa.stepAll F e.1 := by
        unfold stepFr Go.Proofs.Ytodfpdmmbmbinaa.stepAll
        rw [if_neg hf]
      rw [List.foldl_cons, List.map_cons, List.foldl_cons, hs]
      refine foldl_cut l _ ?_
      unfold Go.Proofs.Ytodfpdmmbmbinaa.stepAll
      split
      · exact h
      · rw [List.length_append, List.length_singleton]; omega
/-- The front that a run tells is the first moments of the document's. -/
theorem front_run (l : List En) : frontE (srtE l) = ((l.map (·.1)).foldl (stepR (l.map (·.1))) []).take 256 := by
  have h1 := frontIn_all (srtE l) (srtE_sorted l) _ (Nat.le_refl _)
  rw [List.take_length] at h1
  have h2 := h1.ok (l := l.map (·.1)) fun x => by
    rw [List.mem_map, List.mem_map]
    constructor
    · rintro ⟨y, hy, rfl⟩
      exact ⟨y, (srtE_perm l).mem_iff.1 hy, rfl⟩
    · rintro ⟨y, hy, rfl⟩
      exact ⟨y, (srtE_perm l).mem_iff.2 hy, rfl⟩
  rw [h2.ref]
  exact foldl_cut (srtE l) [] (by simp)
end Go.Proofs.Ytodfpdmmbmbinaa

namespace Go.Proofs.Ytodfpdmmbmbinaa
open Go.RowKit Go.Sort

section
variable {w w' w1 : World} {base r : Nat} {hb : Option Nat} {R : Rn}
def MoAt (w : World) (F : List (Int × Int)) (e : Ending) (w' : World) : Prop := ∃ A c g, e = .returned (.slice A F.length c) ∧ SlP w' g A F ∧ Below w.heap.size w w'
set_option maxRecDepth 100000 in
set_option maxHeartbeats 2000000 in
theorem xfront_any (h : RefR w base r hb R) (h250 : R.held.length ≤ 250) : Calls Try.prog 41 #[ptR r] w (MoAt w (frontE (srtE R.held))) := by
  have hg := h.good
  have hbig : R.held.length ≤ 4096 := by omega
  obtain ⟨A, c, hrl, -, -, c0, ho, -⟩ := h.cells
  obtain ⟨g, -, sl, -, -, -, -⟩ := SlK.of_own layE ho
  have SL := Lib.hid sl
  have C0 := Lib.hid c0
  have HRL := Lib.hid hrl
  have HFR := Lib.hid (front_run R.held)
  clear h hg ho sl c0 hrl
  generalize hfe : frontE (srtE R.held) = fr at HFR
  clear hfe
  generalize R.held = l at *
  go_enter Try.func41, Try.ntmps41
  go_wp2_with fail
  go_loopw [3, 4] (fun sv i wr => ∃ (k : Nat) (A3 : Option Addr) (c3 : Nat), k ≤ l.length ∧ i = .int .i64 (k : Int) ∧ sv = .slice A3 k c3 ∧ wr.ownsRow w.heap.size 61 2 sv k (Prs ((l.take k).map (·.1))) ∧ Below w.heap.size w wr) (fun _ i _ => l.length - (intOf i).toNat)
  case atStart => exact ⟨0, none, 0, Nat.zero_le _, rfl, rfl, own_nil_k layMo _ _ _, Below.refl _ _⟩
  case round =>
    obtain ⟨k, A3, c3, hk, rfl, rfl, ho, hb3⟩ := hrel
    have HO := Lib.hid ho
    have HB := Lib.hid hb3
    have k0 : wr.cell? ⟨r, 0, none⟩ = some (.slice A l.length c) := (hb3.cell (p := ⟨r, 0, none⟩) HRL.out).trans C0.out
    clear ho hb3
    by_cases hlt : k < l.length
    · have hea := List.getElem?_eq_getElem hlt
      obtain ⟨-, off, rfl, hc⟩ := (SL.out.below HB.out).at_ layE hea
      have htk : (l.take (k + 1)).map (·.1) = (l.take k).map (·.1) ++ [l[k].1] := by rw [List.take_add_one, hea, List.map_append]; rfl
      obtain ⟨x, hx⟩ : ∃ x, x = l[k] := ⟨_, rfl⟩
      rw [← hx] at hc htk
      obtain ⟨⟨a, b⟩, c', d⟩ := x
      have q0 := hc 0 _ rfl
      have q1 := hc 1 _ rfl
      rw [Nat.add_zero] at q0
      have i1 : decide ((k : Int) < (l.length : Int)) = true := by rw [decide_eq_true_eq]; omega
      have HT := Lib.hid htk
      have HR := Lib.hid (reads_oneK layMo wr (a, b) 61)
      have HOA := Lib.hid (World.ownsRow.alloc HO.out (.cells (encP (a, b)).toArray 61))
      have BWA := Lib.hid (HB.out.alloc HB.out.size (.cells (encP (a, b)).toArray 61))
      clear hea hx htk hc
      go_wp2_with (at_builtin; (refine wpList_appK layMo (ys := [(a, b)]) _ rfl (.tmp 15) (.tmp 24) _ rfl Try.underlying66 info_moZ rfl HOA.out HR.out 1 rfl rfl (by omega) (by decide) BWA.out.size ?_); intro A5 c5 w5 o5 gr5; have O5 := Lib.hid o5; have B5 := Lib.hid (show Below w.heap.size w w5 from BWA.out.grown (Grew.by_ gr5) BWA.out.size fun i hi => (World.ownsRow.lt HOA.out i hi).1); clear o5 gr5)
      exact ⟨⟨k + 1, A5, c5, by omega, by go_num, rfl, by rw [HT.out]; exact O5.out, B5.out⟩, by simp [intOf]; omega⟩
    · obtain rfl : k = l.length := by omega
      have ho := HO.out
      rw [List.take_length] at ho
      obtain ⟨g3, -, s3, -, -, -, -⟩ := SlP.of_own ho
      have hml : (l.map (·.1)).length = l.length := List.length_map ..
      obtain ⟨ms, hms⟩ : ∃ ms, ms = l.map (·.1) := ⟨_, rfl⟩
      rw [← hms] at s3 hml HFR
      have S3 := Lib.hid s3
      have HML := Lib.hid hml
      have hfl := foldlR_length ms ms.length (Nat.le_refl _)
      rw [List.take_length] at hfl
      have PF := Lib.hid (ref4front_any A3 g3 ms c3 wr s3 (by omega))
      obtain ⟨L, hL⟩ : ∃ L, L = ms.foldl (stepR ms) [] := ⟨_, rfl⟩
      rw [← hL] at hfl HFR PF
      have hL2 : L.length ≤ 250 := by omega
      have hfr := HFR.out
      rw [List.take_of_length_le (by omega)] at hfr
      subst hfr
      rw [hml] at PF
      have i5 : decide ((fr.length : Int) > 256) = false := by rw [decide_eq_false_iff_not]; omega
      clear ho s3 hml hms hlt hfl hL HFR
      go_wp2_with fail
      refine PF.out.mono ?_; rintro e w6 ⟨A6, c6, rfl, o6, b6⟩
      obtain ⟨g6, -, s6, -, -, -, -⟩ := SlP.of_own o6
      have S6 := Lib.hid s6
      have B6 := Lib.hid (HB.out.trans (b6.mono HB.out.size))
      clear o6 s6 b6
      go_wp2_with fail
      go_ret
      exact ⟨A6, c6, g6, rfl, S6.out, B6.out⟩
end
end Go.Proofs.Ytodfpdmmbmbinaa

namespace Go.Proofs.Ytodfpdmmbmbinaa
open Go.RowKit Go.Sort

def Two (w : World) (base r x : Nat) (hb hx : Option Nat) (R : Rn) : Prop := RunR w base r hb R ∧ RefR w base x hx R ∧ ∀ k, hb = some k → hx ≠ some k
section
variable {w w' w1 : World} {base r x : Nat} {hb hx hb' hx' : Option Nat} {R R' : Rn}
theorem RunR.blks (h : RunR w base r hb R) : (∃ c, Blk w r 115 c) ∧ ∀ k, hb = some k → ∃ c, Blk w k 65 c := by
  obtain ⟨A, c, h1, h2, h3, h4, -⟩ := h
  exact ⟨⟨_, h1⟩, fun k hk => own_blk h3 (h4 ▸ hk)⟩
theorem RefR.blks (h : RefR w base x hx R) : (∃ c, Blk w x 72 c) ∧ ∀ k, hx = some k → ∃ c, Blk w k 65 c := by
  obtain ⟨A, c, h1, h2, h3, h4, -⟩ := h
  exact ⟨⟨_, h1⟩, fun k hk => own_blk h3 (h4 ▸ hk)⟩
theorem Two.far (h : Two w base r x hb hx R) : x ≠ r ∧ hb ≠ some x ∧ hx ≠ some r := by
  obtain ⟨⟨c1, b1⟩, e1⟩ := h.1.blks
  obtain ⟨⟨c2, b2⟩, e2⟩ := h.2.1.blks
  refine ⟨Blk.ne_ b2 b1 (by decide), fun e => ?_, fun e => ?_⟩
  · obtain ⟨c3, b3⟩ := e1 x e
    exact Blk.ne_ b3 b2 (by decide) rfl
  · obtain ⟨c3, b3⟩ := e2 r e
    exact Blk.ne_ b3 b1 (by decide) rfl
theorem Two.below (h : Two w base r x hb hx R) (hb' : Below w.heap.size w w') : Two w' base r x hb hx R := ⟨h.1.below hb', h.2.1.below hb', h.2.2⟩
theorem Two.after_r (h : Two w base r x hb hx R) (hf : RF r hb w w') : RefR w' base x hx R := by
  obtain ⟨f1, f2, f3⟩ := h.far
  refine h.2.1.kept fun k hk => ?_
  have hks : k < w.heap.size := by
    rcases hk with rfl | hk
    · exact h.2.1.base_le.2.2
    · exact (h.2.1.base_le.2.1 k hk).2
  refine hf.2.2.2.2 k hks ?_ ?_
  · rcases hk with rfl | hk
    · exact f1
    · rintro rfl; exact f3 hk
  · rcases hk with rfl | hk
    · exact fun e => f2 e.symm
    · exact fun e => h.2.2 k e.symm hk
theorem Two.after_x (h : RunR w base r hb R) (h2 : RefR w base x hx R') (hd : ∀ k, hb = some k → hx ≠ some k) (hf : RF x hx w w') : RunR w' base r hb R := by
  obtain ⟨⟨c1, b1⟩, e1⟩ := h.blks
  obtain ⟨⟨c2, b2⟩, e2⟩ := h2.blks
  refine h.kept fun k hk => ?_
  have hks : k < w.heap.size := by
    rcases hk with rfl | hk
    · exact h.base_le.2.2
    · exact (h.base_le.2.1 k hk).2
  refine hf.2.2.2.2 k hks ?_ ?_
  · rcases hk with rfl | hk
    · exact Blk.ne_ b1 b2 (by decide)
    · obtain ⟨c3, b3⟩ := e1 k hk
      exact Blk.ne_ b3 b2 (by decide)
  · rcases hk with rfl | hk
    · intro e
      obtain ⟨c3, b3⟩ := e2 k e.symm
      exact Blk.ne_ b3 b1 (by decide) rfl
    · exact fun e => hd k hk e.symm
theorem fresh_far {s : Nat} (h1 : ∀ k, hx = some k → k < s) (h2 : hb' = hb ∨ ∀ k, hb' = some k → s ≤ k) (hd : ∀ k, hb = some k → hx ≠ some k) : ∀ k, hb' = some k → hx ≠ some k := by
  intro k hk e
  rcases h2 with h2 | h2
  · exact hd k (h2 ▸ hk) e
  · have := h2 k hk
    have := h1 k e
    omega
/-- What lies in none of the two runs. -/
def TwoS (r x : Nat) (hb hx : Option Nat) (k : Nat) : Prop := k = r ∨ hb = some k ∨ k = x ∨ hx = some k
theorem RF.rk_r (h : RF r hb w w') : RK (TwoS r x hb hx) w w' := ⟨h.1, h.2.1, h.2.2.1, h.2.2.2.1, fun k hk hn => h.2.2.2.2 k hk (fun e => hn (.inl e)) (fun e => hn (.inr (.inl e.symm)))⟩
theorem RF.rk_x (h : RF x hx w w') : RK (TwoS r x hb hx) w w' := ⟨h.1, h.2.1, h.2.2.1, h.2.2.2.1, fun k hk hn => h.2.2.2.2 k hk (fun e => hn (.inr (.inr (.inl e)))) (fun e => hn (.inr (.inr (.inr e.symm))))⟩
/-- What one call of both leaves. -/
def DoPost (w : World) (base r x : Nat) (R : Rn) (e : Ending) (w' : World) : Prop :=
  e = .returned (.bool true) ∧ Below base w w' ∧ ∃ hb hx R', Two w' base r x hb hx R' ∧ R'.limit = R.limit ∧ R'.held.length ≤ R.held.length + 1
end
end Go.Proofs.Ytodfpdmmbmbinaa

namespace Go.Proofs.Ytodfpdmmbmbinaa
open Go.RowKit Go.Sort

theorem load_en_of {W : World} {g off : Nat} {e : En} (h0 : W.cell? ⟨g, off, none⟩ = some (.int .i64 e.1.1)) (h1 : W.cell? ⟨g, off + 1, none⟩ = some (.int .i64 e.1.2)) (h2 : W.cell? ⟨g, off + 2, none⟩ = some (.int .i64 e.2.1)) (h3 : W.cell? ⟨g, off + 3, none⟩ = some (.int .i64 e.2.2)) :
    (Instr.loadAt 65 (.pointer (some ⟨g, off, none⟩))).run Try.prog W = .ok (enV e) W := load_en_four g off _ _ _ _ W h0 h1 h2 h3
section
variable {w w' w1 : World} {base r x : Nat} {hb hx : Option Nat} {R : Rn}
theorem two_box (h : Two w base r x hb hx R) : ¬ TwoS r x hb hx w.heap.size := by
  rintro (e | e | e | e)
  · have := h.1.base_le.2.2; omega
  · have := (h.1.base_le.2.1 _ e).2; omega
  · have := h.2.1.base_le.2.2; omega
  · have := (h.2.1.base_le.2.1 _ e).2; omega
theorem two_bb (h : Two w base r x hb hx R) : (∀ k, hb = some k → base ≤ k) ∧ ∀ k, hx = some k → base ≤ k := ⟨fun k hk => (h.1.base_le.2.1 k hk).1, fun k hk => (h.2.1.base_le.2.1 k hk).1⟩

set_option maxRecDepth 100000 in
set_option maxHeartbeats 4000000 in
theorem do_full (h : Two w base r x hb hx R) (z : RopIn) (hk : z.k = 1) (he : enE z.e = 0) (hf : R.held.length = R.limit) (hbase : base ≤ w.heap.size) :
    Calls Try.prog 32 #[ptR r, ptR x, .agg (ropV z)] w (DoPost w base r x R) := by
  have b0 := alloc_below w (.cells (ropV z) 68)
  have x0 := Blk.new w 68 (ropV z)
  have h0 := h.below b0
  have H0 := Lib.hid h0
  have HNS := Lib.hid (two_box h)
  have HBB := Lib.hid (two_bb h)
  have B0 := Lib.hid b0
  have X0 := Lib.hid x0
  have HBS := Lib.hid hbase
  have HE := Lib.hid he
  have HF := Lib.hid hf
  clear he hf
  obtain ⟨k0, k1, k2, k3, k4, k5⟩ := rop_cells x0
  rw [hk] at k0
  have K1 := Lib.hid k1
  have K2 := Lib.hid k2
  have K3 := Lib.hid k3
  have K4 := Lib.hid k4
  have K5 := Lib.hid k5
  clear h b0 x0 h0 hk hbase
  go_enter Try.func32, Try.ntmps32
  go_wp2_with fail
  refine wp_region_J (RK (TwoS r x hb hx)) [3, 7] (n := 10) (by kernel_rfl) rfl ?_
  refine batchJ (RK.refl _) [0, 1, 2] (fuel := 7) rfl (by kernel_rfl) (by kernel_rfl) (fun _ _ d _ _ h => by cases d <;> exact h) ?_
  (repeat (first | ((with_reducible apply wq0); rfl; rfl; rfl; intro K hK; go_big_quiet_op; refine hK _ ?_; clear hK K) | ((with_reducible apply wq1); rfl; rfl; rfl; rfl; rfl; rfl; intro K hK; go_big_quiet_op; refine hK _ ?_; clear hK K) | ((with_reducible apply wqs); rfl; rfl; rfl; rfl; rfl; rfl; simp only [Act.put, List.setIfInBounds_toArray, List.set_cons_zero, List.set_cons_succ]) | ((with_reducible apply wqu); rfl; rfl; rfl; rfl; rfl; (first | simp only [same, Act.put, List.setIfInBounds_toArray, List.set_cons_zero, List.set_cons_succ] | simp only [Act.put, List.setIfInBounds_toArray, List.set_cons_zero, List.set_cons_succ]))))
  refine wqIdx_load rfl rfl rfl rfl (fun W hW => load_en_of (keep_c hW K1.out) (keep_c hW K2.out) (keep_c hW K3.out) (keep_c hW K4.out)) ?_
  simp only [Act.put, List.setIfInBounds_toArray, List.set_cons_zero, List.set_cons_succ]
  refine wqIdx_nil ?_
  refine batchP (RK.refl _) (RK.trans _) [4, 5, 6] (fuel := 4) rfl (by kernel_rfl) (by kernel_rfl) (fun _ _ d _ _ h => by cases d <;> exact h) ?_
  (repeat (first | ((with_reducible apply wq0); rfl; rfl; rfl; intro K hK; go_big_quiet_op; refine hK _ ?_; clear hK K) | ((with_reducible apply wq1); rfl; rfl; rfl; rfl; rfl; rfl; intro K hK; go_big_quiet_op; refine hK _ ?_; clear hK K) | ((with_reducible apply wqs); rfl; rfl; rfl; rfl; rfl; rfl; simp only [Act.put, List.setIfInBounds_toArray, List.set_cons_zero, List.set_cons_succ]) | ((with_reducible apply wqu); rfl; rfl; rfl; rfl; rfl; (first | simp only [same, Act.put, List.setIfInBounds_toArray, List.set_cons_zero, List.set_cons_succ] | simp only [Act.put, List.setIfInBounds_toArray, List.set_cons_zero, List.set_cons_succ]))))
  refine wqIdx_load rfl rfl rfl rfl (fun W hW => load_en_of (keep_k hW HNS.out K1.out) (keep_k hW HNS.out K2.out) (keep_k hW HNS.out K3.out) (keep_k hW HNS.out K4.out)) ?_
  simp only [Act.put, List.setIfInBounds_toArray, List.set_cons_zero, List.set_cons_succ]
  refine wqIdx_nil ?_
  refine wpAnyJ_sole (i := 3) rfl (by kernel_rfl) (fun K hK => ?_); go_simp
  refine (radd_full (H0.out.1.below (dr_below (Below.refl _ _))) z.e HE.out HF.out).mono ?_
  rintro e w3 ⟨rfl, b3d⟩
  have b3 := (dr_below (Below.refl _ _)).trans b3d
  have H3 := Lib.hid (H0.out.below b3)
  have B3 := Lib.hid (below_trans B0.out b3)
  refine hK _ _ ⟨fun hc => absurd (by decide) hc, rk_of_below b3d⟩ ?_
  clear hK K b3 b3d
  refine wpAnyJ_sole (i := 7) rfl (by kernel_rfl) (fun K hK => ?_); go_simp
  refine (xadd_full H3.out.2.1 z.e HE.out HF.out).mono ?_
  rintro e w4 ⟨rfl, b4⟩
  have H4 := Lib.hid (H3.out.below b4)
  have B4 := Lib.hid (below_trans B3.out b4)
  refine hK _ _ ⟨fun hc => absurd (by decide) hc, rk_of_below b4⟩ ?_
  clear hK K b4
  refine batchP (RK.refl _) (RK.trans _) [8, 9] (fuel := 0) rfl (by kernel_rfl) (by kernel_rfl) (fun _ _ d _ _ h => by cases d <;> exact h) ?_
  (repeat (first | ((with_reducible apply wq0); rfl; rfl; rfl; intro K hK; go_big_quiet_op; refine hK _ ?_; clear hK K) | ((with_reducible apply wq1); rfl; rfl; rfl; rfl; rfl; rfl; intro K hK; go_big_quiet_op; refine hK _ ?_; clear hK K) | ((with_reducible apply wqs); rfl; rfl; rfl; rfl; rfl; rfl; simp only [Act.put, List.setIfInBounds_toArray, List.set_cons_zero, List.set_cons_succ]) | ((with_reducible apply wqu); rfl; rfl; rfl; rfl; rfl; (first | simp only [same, Act.put, List.setIfInBounds_toArray, List.set_cons_zero, List.set_cons_succ] | simp only [Act.put, List.setIfInBounds_toArray, List.set_cons_zero, List.set_cons_succ]))))
  refine wqIdx_nil ?_
  refine wpAnyJ_done (by kernel_rfl) ?_ _
  go_wp2_with fail
  go_ret
  exact ⟨rfl, B4.out.mono HBS.out, hb, hx, R, H4.out, rfl, Nat.le_succ _⟩

set_option maxRecDepth 100000 in
set_option maxHeartbeats 4000000 in
theorem do_bad (h : Two w base r x hb hx R) (z : RopIn) (hk : z.k = 1) (he : enE z.e ≠ 0) (hbase : base ≤ w.heap.size) :
    Calls Try.prog 32 #[ptR r, ptR x, .agg (ropV z)] w (DoPost w base r x R) := by
  have b0 := alloc_below w (.cells (ropV z) 68)
  have x0 := Blk.new w 68 (ropV z)
  have h0 := h.below b0
  have H0 := Lib.hid h0
  have HNS := Lib.hid (two_box h)
  have HBB := Lib.hid (two_bb h)
  have B0 := Lib.hid b0
  have X0 := Lib.hid x0
  have HBS := Lib.hid hbase
  have HE := Lib.hid he
  clear he
  obtain ⟨k0, k1, k2, k3, k4, k5⟩ := rop_cells x0
  rw [hk] at k0
  have K1 := Lib.hid k1
  have K2 := Lib.hid k2
  have K3 := Lib.hid k3
  have K4 := Lib.hid k4
  have K5 := Lib.hid k5
  clear h b0 x0 h0 hk hbase
  go_enter Try.func32, Try.ntmps32
  go_wp2_with fail
  refine wp_region_J (RK (TwoS r x hb hx)) [3, 7] (n := 10) (by kernel_rfl) rfl ?_
  refine batchJ (RK.refl _) [0, 1, 2] (fuel := 7) rfl (by kernel_rfl) (by kernel_rfl) (fun _ _ d _ _ h => by cases d <;> exact h) ?_
  (repeat (first | ((with_reducible apply wq0); rfl; rfl; rfl; intro K hK; go_big_quiet_op; refine hK _ ?_; clear hK K) | ((with_reducible apply wq1); rfl; rfl; rfl; rfl; rfl; rfl; intro K hK; go_big_quiet_op; refine hK _ ?_; clear hK K) | ((with_reducible apply wqs); rfl; rfl; rfl; rfl; rfl; rfl; simp only [Act.put, List.setIfInBounds_toArray, List.set_cons_zero, List.set_cons_succ]) | ((with_reducible apply wqu); rfl; rfl; rfl; rfl; rfl; (first | simp only [same, Act.put, List.setIfInBounds_toArray, List.set_cons_zero, List.set_cons_succ] | simp only [Act.put, List.setIfInBounds_toArray, List.set_cons_zero, List.set_cons_succ]))))
  refine wqIdx_load rfl rfl rfl rfl (fun W hW => load_en_of (keep_c hW K1.out) (keep_c hW K2.out) (keep_c hW K3.out) (keep_c hW K4.out)) ?_
  simp only [Act.put, List.setIfInBounds_toArray, List.set_cons_zero, List.set_cons_succ]
  refine wqIdx_nil ?_
  refine batchP (RK.refl _) (RK.trans _) [4, 5, 6] (fuel := 4) rfl (by kernel_rfl) (by kernel_rfl) (fun _ _ d _ _ h => by cases d <;> exact h) ?_
  (repeat (first | ((with_reducible apply wq0); rfl; rfl; rfl; intro K hK; go_big_quiet_op; refine hK _ ?_; clear hK K) | ((with_reducible apply wq1); rfl; rfl; rfl; rfl; rfl; rfl; intro K hK; go_big_quiet_op; refine hK _ ?_; clear hK K) | ((with_reducible apply wqs); rfl; rfl; rfl; rfl; rfl; rfl; simp only [Act.put, List.setIfInBounds_toArray, List.set_cons_zero, List.set_cons_succ]) | ((with_reducible apply wqu); rfl; rfl; rfl; rfl; rfl; (first | simp only [same, Act.put, List.setIfInBounds_toArray, List.set_cons_zero, List.set_cons_succ] | simp only [Act.put, List.setIfInBounds_toArray, List.set_cons_zero, List.set_cons_succ]))))
  refine wqIdx_load rfl rfl rfl rfl (fun W hW => load_en_of (keep_k hW HNS.out K1.out) (keep_k hW HNS.out K2.out) (keep_k hW HNS.out K3.out) (keep_k hW HNS.out K4.out)) ?_
  simp only [Act.put, List.setIfInBounds_toArray, List.set_cons_zero, List.set_cons_succ]
  refine wqIdx_nil ?_
  refine wpAnyJ_sole (i := 3) rfl (by kernel_rfl) (fun K hK => ?_); go_simp
  refine (radd_bad (H0.out.1.below (dr_below (Below.refl _ _))) z.e HE.out).mono ?_
  rintro e w3 ⟨rfl, b3d⟩
  have b3 := (dr_below (Below.refl _ _)).trans b3d
  have H3 := Lib.hid (H0.out.below b3)
  have B3 := Lib.hid (below_trans B0.out b3)
  refine hK _ _ ⟨fun hc => absurd (by decide) hc, rk_of_below b3d⟩ ?_
  clear hK K b3 b3d
  refine wpAnyJ_sole (i := 7) rfl (by kernel_rfl) (fun K hK => ?_); go_simp
  refine (xadd_bad z.e HE.out).mono ?_
  rintro e w4 ⟨rfl, b4⟩
  have H4 := Lib.hid (H3.out.below b4)
  have B4 := Lib.hid (below_trans B3.out b4)
  refine hK _ _ ⟨fun hc => absurd (by decide) hc, rk_of_below b4⟩ ?_
  clear hK K b4
  refine batchP (RK.refl _) (RK.trans _) [8, 9] (fuel := 0) rfl (by kernel_rfl) (by kernel_rfl) (fun _ _ d _ _ h => by cases d <;> exact h) ?_
  (repeat (first | ((with_reducible apply wq0); rfl; rfl; rfl; intro K hK; go_big_quiet_op; refine hK _ ?_; clear hK K) | ((with_reducible apply wq1); rfl; rfl; rfl; rfl; rfl; rfl; intro K hK; go_big_quiet_op; refine hK _ ?_; clear hK K) | ((with_reducible apply wqs); rfl; rfl; rfl; rfl; rfl; rfl; simp only [Act.put, List.setIfInBounds_toArray, List.set_cons_zero, List.set_cons_succ]) | ((with_reducible apply wqu); rfl; rfl; rfl; rfl; rfl; (first | simp only [same, Act.put, List.setIfInBounds_toArray, List.set_cons_zero, List.set_cons_succ] | simp only [Act.put, List.setIfInBounds_toArray, List.set_cons_zero, List.set_cons_succ]))))
  refine wqIdx_nil ?_
  refine wpAnyJ_done (by kernel_rfl) ?_ _
  go_wp2_with fail
  go_ret
  exact ⟨rfl, B4.out.mono HBS.out, hb, hx, R, H4.out, rfl, Nat.le_succ _⟩

set_option maxRecDepth 100000 in
set_option maxHeartbeats 4000000 in
theorem do_ok (h : Two w base r x hb hx R) (z : RopIn) (hk : z.k = 1) (he : enE z.e = 0) (hf : R.held.length < R.limit) (hbase : base ≤ w.heap.size) :
    Calls Try.prog 32 #[ptR r, ptR x, .agg (ropV z)] w (DoPost w base r x R) := by
  have b0 := alloc_below w (.cells (ropV z) 68)
  have x0 := Blk.new w 68 (ropV z)
  have h0 := h.below b0
  have H0 := Lib.hid h0
  have HNS := Lib.hid (two_box h)
  have HBB := Lib.hid (two_bb h)
  have B0 := Lib.hid b0
  have X0 := Lib.hid x0
  have HBS := Lib.hid hbase
  have HE := Lib.hid he
  have HF := Lib.hid hf
  clear he hf
  obtain ⟨k0, k1, k2, k3, k4, k5⟩ := rop_cells x0
  rw [hk] at k0
  have K1 := Lib.hid k1
  have K2 := Lib.hid k2
  have K3 := Lib.hid k3
  have K4 := Lib.hid k4
  have K5 := Lib.hid k5
  clear h b0 x0 h0 hk hbase
  go_enter Try.func32, Try.ntmps32
  go_wp2_with fail
  refine wp_region_J (RK (TwoS r x hb hx)) [3, 7] (n := 10) (by kernel_rfl) rfl ?_
  refine batchJ (RK.refl _) [0, 1, 2] (fuel := 7) rfl (by kernel_rfl) (by kernel_rfl) (fun _ _ d _ _ h => by cases d <;> exact h) ?_
  (repeat (first | ((with_reducible apply wq0); rfl; rfl; rfl; intro K hK; go_big_quiet_op; refine hK _ ?_; clear hK K) | ((with_reducible apply wq1); rfl; rfl; rfl; rfl; rfl; rfl; intro K hK; go_big_quiet_op; refine hK _ ?_; clear hK K) | ((with_reducible apply wqs); rfl; rfl; rfl; rfl; rfl; rfl; simp only [Act.put, List.setIfInBounds_toArray, List.set_cons_zero, List.set_cons_succ]) | ((with_reducible apply wqu); rfl; rfl; rfl; rfl; rfl; (first | simp only [same, Act.put, List.setIfInBounds_toArray, List.set_cons_zero, List.set_cons_succ] | simp only [Act.put, List.setIfInBounds_toArray, List.set_cons_zero, List.set_cons_succ]))))
  refine wqIdx_load rfl rfl rfl rfl (fun W hW => load_en_of (keep_c hW K1.out) (keep_c hW K2.out) (keep_c hW K3.out) (keep_c hW K4.out)) ?_
  simp only [Act.put, List.setIfInBounds_toArray, List.set_cons_zero, List.set_cons_succ]
  refine wqIdx_nil ?_
  refine batchP (RK.refl _) (RK.trans _) [4, 5, 6] (fuel := 4) rfl (by kernel_rfl) (by kernel_rfl) (fun _ _ d _ _ h => by cases d <;> exact h) ?_
  (repeat (first | ((with_reducible apply wq0); rfl; rfl; rfl; intro K hK; go_big_quiet_op; refine hK _ ?_; clear hK K) | ((with_reducible apply wq1); rfl; rfl; rfl; rfl; rfl; rfl; intro K hK; go_big_quiet_op; refine hK _ ?_; clear hK K) | ((with_reducible apply wqs); rfl; rfl; rfl; rfl; rfl; rfl; simp only [Act.put, List.setIfInBounds_toArray, List.set_cons_zero, List.set_cons_succ]) | ((with_reducible apply wqu); rfl; rfl; rfl; rfl; rfl; (first | simp only [same, Act.put, List.setIfInBounds_toArray, List.set_cons_zero, List.set_cons_succ] | simp only [Act.put, List.setIfInBounds_toArray, List.set_cons_zero, List.set_cons_succ]))))
  refine wqIdx_load rfl rfl rfl rfl (fun W hW => load_en_of (keep_k hW HNS.out K1.out) (keep_k hW HNS.out K2.out) (keep_k hW HNS.out K3.out) (keep_k hW HNS.out K4.out)) ?_
  simp only [Act.put, List.setIfInBounds_toArray, List.set_cons_zero, List.set_cons_succ]
  refine wqIdx_nil ?_
  refine wpAnyJ_sole (i := 3) rfl (by kernel_rfl) (fun K hK => ?_); go_simp
  have HD0 := Lib.hid (H0.out.below (dr_below (Below.refl _ _)))
  have BD0 := Lib.hid (show Below base w (w.alloc (.cells (ropV z) 68)).drew from (dr_below B0.out).mono HBS.out)
  refine (radd_ok HD0.out.1 z.e HE.out HF.out (Nat.le_trans HBS.out BD0.out.size)).mono ?_
  rintro e w3 ⟨rfl, hb3, h3, k3, f3⟩
  have R3 := Lib.hid h3
  have X3 := Lib.hid (HD0.out.after_r k3)
  have D3 := Lib.hid (fresh_far (fun k hk => (HD0.out.2.1.base_le.2.1 k hk).2) f3 HD0.out.2.2)
  have B3 := Lib.hid (BD0.out.trans (k3.below HD0.out.1.base_le.1 HBB.out.1 (Nat.le_trans HBS.out BD0.out.size)))
  refine hK _ _ ⟨fun hc => absurd (by decide) hc, k3.rk_r⟩ ?_
  clear hK K h3 k3 f3
  refine wpAnyJ_sole (i := 7) rfl (by kernel_rfl) (fun K hK => ?_); go_simp
  refine (xadd_ok X3.out z.e HE.out HF.out (Nat.le_trans HBS.out B3.out.size)).mono ?_
  rintro e w4 ⟨rfl, hx4, h4, k4, f4⟩
  have R4 := Lib.hid (Two.after_x R3.out X3.out D3.out k4)
  have X4 := Lib.hid h4
  have D4 := Lib.hid (show ∀ k, hb3 = some k → hx4 ≠ some k from fun k hk e => by
    rcases f4 with f4 | f4
    · exact D3.out k hk (f4 ▸ e)
    · have := f4 k e
      have := (R3.out.base_le.2.1 k hk).2
      omega)
  have B4 := Lib.hid (B3.out.trans (k4.below X3.out.base_le.1 HBB.out.2 (Nat.le_trans HBS.out B3.out.size)))
  refine hK _ _ ⟨fun hc => absurd (by decide) hc, k4.rk_x⟩ ?_
  clear hK K h4 k4 f4
  refine batchP (RK.refl _) (RK.trans _) [8, 9] (fuel := 0) rfl (by kernel_rfl) (by kernel_rfl) (fun _ _ d _ _ h => by cases d <;> exact h) ?_
  (repeat (first | ((with_reducible apply wq0); rfl; rfl; rfl; intro K hK; go_big_quiet_op; refine hK _ ?_; clear hK K) | ((with_reducible apply wq1); rfl; rfl; rfl; rfl; rfl; rfl; intro K hK; go_big_quiet_op; refine hK _ ?_; clear hK K) | ((with_reducible apply wqs); rfl; rfl; rfl; rfl; rfl; rfl; simp only [Act.put, List.setIfInBounds_toArray, List.set_cons_zero, List.set_cons_succ]) | ((with_reducible apply wqu); rfl; rfl; rfl; rfl; rfl; (first | simp only [same, Act.put, List.setIfInBounds_toArray, List.set_cons_zero, List.set_cons_succ] | simp only [Act.put, List.setIfInBounds_toArray, List.set_cons_zero, List.set_cons_succ]))))
  refine wqIdx_nil ?_
  refine wpAnyJ_done (by kernel_rfl) ?_ _
  go_wp2_with fail
  go_ret
  refine ⟨rfl, B4.out, hb3, hx4, ⟨R.limit, max R.most (R.held.length + 1), R.held ++ [z.e]⟩, ⟨R4.out, X4.out, D4.out⟩, rfl, ?_⟩
  show (R.held ++ [z.e]).length ≤ _
  rw [List.length_append]
  exact Nat.le_refl _

end
end Go.Proofs.Ytodfpdmmbmbinaa

namespace Go.Proofs.Ytodfpdmmbmbinaa
open Go.RowKit Go.Sort

section
variable {w w' w1 : World} {base r x : Nat} {hb hx : Option Nat} {R : Rn}

set_option maxRecDepth 100000 in
set_option maxHeartbeats 4000000 in
theorem do_keep (h : Two w base r x hb hx R) (z : RopIn) (hk : z.k = 4) {f : List (Int × Int)} {hf : Nat} (hF : SlP w hf z.F f) (hfb : f ≠ [] → hf < base) (hn : z.n = f.length) (hf1 : f.length ≤ 100) (hbase : base ≤ w.heap.size) :
    Calls Try.prog 32 #[ptR r, ptR x, .agg (ropV z)] w (DoPost w base r x R) := by
  have b0 := alloc_below w (.cells (ropV z) 68)
  have x0 := Blk.new w 68 (ropV z)
  have h0 := h.below b0
  have H0 := Lib.hid h0
  have HNS := Lib.hid (two_box h)
  have HBB := Lib.hid (two_bb h)
  have B0 := Lib.hid b0
  have X0 := Lib.hid x0
  have HBS := Lib.hid hbase
  have SF := Lib.hid (hF.below b0)
  have HFB := Lib.hid hfb
  clear hF hfb
  obtain ⟨k0, k1, k2, k3, k4, k5⟩ := rop_cells x0
  rw [hk] at k0
  rw [hn] at k5
  have K1 := Lib.hid k1
  have K2 := Lib.hid k2
  have K3 := Lib.hid k3
  have K4 := Lib.hid k4
  have K5 := Lib.hid k5
  clear h b0 x0 h0 hk hbase hn
  go_enter Try.func32, Try.ntmps32
  go_wp2_with fail
  refine wp_region_J (RK (TwoS r x hb hx)) [3, 7] (n := 10) (by kernel_rfl) rfl ?_
  refine batchJ (RK.refl _) [0, 1, 2] (fuel := 7) rfl (by kernel_rfl) (by kernel_rfl) (fun _ _ d _ _ h => by cases d <;> exact h) ?_
  (repeat (first | ((with_reducible apply wq0); rfl; rfl; rfl; intro K hK; go_big_quiet_op; refine hK _ ?_; clear hK K) | ((with_reducible apply wq1); rfl; rfl; rfl; rfl; rfl; rfl; intro K hK; go_big_quiet_op; refine hK _ ?_; clear hK K) | ((with_reducible apply wqs); rfl; rfl; rfl; rfl; rfl; rfl; simp only [Act.put, List.setIfInBounds_toArray, List.set_cons_zero, List.set_cons_succ]) | ((with_reducible apply wqu); rfl; rfl; rfl; rfl; rfl; (first | simp only [same, Act.put, List.setIfInBounds_toArray, List.set_cons_zero, List.set_cons_succ] | simp only [Act.put, List.setIfInBounds_toArray, List.set_cons_zero, List.set_cons_succ]))))
  refine wqIdx_load rfl rfl rfl rfl (fun W hW => run_load1 (fun _ => by kernel_rfl) (keep_c hW (K5.out))) ?_; simp only [Act.put, List.setIfInBounds_toArray, List.set_cons_zero, List.set_cons_succ]
  refine wqIdx_nil ?_
  refine batchP (RK.refl _) (RK.trans _) [4, 5, 6] (fuel := 4) rfl (by kernel_rfl) (by kernel_rfl) (fun _ _ d _ _ h => by cases d <;> exact h) ?_
  (repeat (first | ((with_reducible apply wq0); rfl; rfl; rfl; intro K hK; go_big_quiet_op; refine hK _ ?_; clear hK K) | ((with_reducible apply wq1); rfl; rfl; rfl; rfl; rfl; rfl; intro K hK; go_big_quiet_op; refine hK _ ?_; clear hK K) | ((with_reducible apply wqs); rfl; rfl; rfl; rfl; rfl; rfl; simp only [Act.put, List.setIfInBounds_toArray, List.set_cons_zero, List.set_cons_succ]) | ((with_reducible apply wqu); rfl; rfl; rfl; rfl; rfl; (first | simp only [same, Act.put, List.setIfInBounds_toArray, List.set_cons_zero, List.set_cons_succ] | simp only [Act.put, List.setIfInBounds_toArray, List.set_cons_zero, List.set_cons_succ]))))
  refine wqIdx_load rfl rfl rfl rfl (fun W hW => run_load1 (fun _ => by kernel_rfl) (keep_k hW (HNS.out) (K5.out))) ?_; simp only [Act.put, List.setIfInBounds_toArray, List.set_cons_zero, List.set_cons_succ]
  refine wqIdx_nil ?_
  refine wpAnyJ_sole (i := 3) rfl (by kernel_rfl) (fun K hK => ?_); go_simp
  have HD0 := Lib.hid (H0.out.below (dr_below (Below.refl _ _)))
  have BD0 := Lib.hid (show Below base w (w.alloc (.cells (ropV z) 68)).drew from (dr_below B0.out).mono HBS.out)
  have SD0 := Lib.hid (SF.out.below (dr_below (Below.refl _ _)))
  refine (rkp_any HD0.out.1 z.F hf f z.c SD0.out (by omega) (Nat.le_trans HBS.out BD0.out.size)).mono ?_
  rintro e w3 ⟨rfl, hb3, h3, k3, f3⟩
  have R3 := Lib.hid h3
  have X3 := Lib.hid (HD0.out.after_r k3)
  have D3 := Lib.hid (fresh_far (fun k hk => (HD0.out.2.1.base_le.2.1 k hk).2) (.inr f3) HD0.out.2.2)
  have KB := k3.below HD0.out.1.base_le.1 HBB.out.1 (Nat.le_trans HBS.out BD0.out.size)
  have B3 := Lib.hid (BD0.out.trans KB)
  have S3 := Lib.hid (show SlP w3 hf z.F f from by
    by_cases hfe : f = []
    · rw [hfe]; exact SlP.nil _ _ _
    · exact SD0.out.keep k3.size fun _ => KB.block hf (HFB.out hfe))
  refine hK _ _ ⟨fun hc => absurd (by decide) hc, k3.rk_r⟩ ?_
  clear hK K h3 k3 f3 KB
  refine wpAnyJ_sole (i := 7) rfl (by kernel_rfl) (fun K hK => ?_); go_simp
  refine (xkeep_any X3.out z.F hf f z.c S3.out (by omega) (Nat.le_trans HBS.out B3.out.size)).mono ?_
  rintro e w4 ⟨rfl, hx4, h4, k4, f4⟩
  have R4 := Lib.hid (Two.after_x R3.out X3.out D3.out k4)
  have X4 := Lib.hid h4
  have D4 := Lib.hid (show ∀ k, hb3 = some k → hx4 ≠ some k from fun k hk e => by
    have := f4 k e
    have := (R3.out.base_le.2.1 k hk).2
    omega)
  have B4 := Lib.hid (B3.out.trans (k4.below X3.out.base_le.1 HBB.out.2 (Nat.le_trans HBS.out B3.out.size)))
  refine hK _ _ ⟨fun hc => absurd (by decide) hc, k4.rk_x⟩ ?_
  clear hK K h4 k4 f4
  refine batchP (RK.refl _) (RK.trans _) [8, 9] (fuel := 0) rfl (by kernel_rfl) (by kernel_rfl) (fun _ _ d _ _ h => by cases d <;> exact h) ?_
  (repeat (first | ((with_reducible apply wq0); rfl; rfl; rfl; intro K hK; go_big_quiet_op; refine hK _ ?_; clear hK K) | ((with_reducible apply wq1); rfl; rfl; rfl; rfl; rfl; rfl; intro K hK; go_big_quiet_op; refine hK _ ?_; clear hK K) | ((with_reducible apply wqs); rfl; rfl; rfl; rfl; rfl; rfl; simp only [Act.put, List.setIfInBounds_toArray, List.set_cons_zero, List.set_cons_succ]) | ((with_reducible apply wqu); rfl; rfl; rfl; rfl; rfl; (first | simp only [same, Act.put, List.setIfInBounds_toArray, List.set_cons_zero, List.set_cons_succ] | simp only [Act.put, List.setIfInBounds_toArray, List.set_cons_zero, List.set_cons_succ]))))
  refine wqIdx_nil ?_
  refine wpAnyJ_done (by kernel_rfl) ?_ _
  go_wp2_with fail
  go_ret
  exact ⟨rfl, B4.out, hb3, hx4, _, ⟨R4.out, X4.out, D4.out⟩, rfl, Nat.le_succ_of_le (List.length_filter_le ..)⟩

set_option maxRecDepth 100000 in
set_option maxHeartbeats 4000000 in
theorem do_at (h : Two w base r x hb hx R) (z : RopIn) (hk : z.k = 3) (hbase : base ≤ w.heap.size) :
    Calls Try.prog 32 #[ptR r, ptR x, .agg (ropV z)] w (DoPost w base r x R) := by
  have b0 := alloc_below w (.cells (ropV z) 68)
  have x0 := Blk.new w 68 (ropV z)
  have h0 := h.below b0
  have H0 := Lib.hid h0
  have HNS := Lib.hid (two_box h)
  have HBB := Lib.hid (two_bb h)
  have B0 := Lib.hid b0
  have X0 := Lib.hid x0
  have HBS := Lib.hid hbase
  obtain ⟨k0, k1, k2, k3, k4, k5⟩ := rop_cells x0
  rw [hk] at k0
  have K1 := Lib.hid k1
  have K2 := Lib.hid k2
  have K3 := Lib.hid k3
  have K4 := Lib.hid k4
  have K5 := Lib.hid k5
  clear h b0 x0 h0 hk hbase
  go_enter Try.func32, Try.ntmps32
  go_wp2_with fail
  have hbig : R.held.length ≤ 4096 := Nat.le_trans H0.out.1.good.2.2.2.1 H0.out.1.good.2.1
  refine wp_region_J RT [] (n := 12) (by kernel_rfl) rfl ?_
  refine batchJ RT.refl [0, 1, 2, 3, 5, 6, 7, 8] (fuel := 4) rfl (by kernel_rfl) (by kernel_rfl) (fun _ _ d _ _ h => by cases d <;> exact h) ?_
  (repeat (first | ((with_reducible apply wq0); rfl; rfl; rfl; intro K hK; go_big_quiet_op; refine hK _ ?_; clear hK K) | ((with_reducible apply wq1); rfl; rfl; rfl; rfl; rfl; rfl; intro K hK; go_big_quiet_op; refine hK _ ?_; clear hK K) | ((with_reducible apply wqs); rfl; rfl; rfl; rfl; rfl; rfl; simp only [Act.put, List.setIfInBounds_toArray, List.set_cons_zero, List.set_cons_succ]) | ((with_reducible apply wqu); rfl; rfl; rfl; rfl; rfl; (first | simp only [same, Act.put, List.setIfInBounds_toArray, List.set_cons_zero, List.set_cons_succ] | simp only [Act.put, List.setIfInBounds_toArray, List.set_cons_zero, List.set_cons_succ]))))
  refine wqIdx_load rfl rfl rfl rfl (fun W hW => load_mo_2 w.heap.size 1 z.e.1.1 z.e.1.2 W (keep_c hW K1.out) (keep_c hW K2.out)) ?_
  simp only [Act.put, List.setIfInBounds_toArray, List.set_cons_zero, List.set_cons_succ]
  (repeat (first | ((with_reducible apply wq0); rfl; rfl; rfl; intro K hK; go_big_quiet_op; refine hK _ ?_; clear hK K) | ((with_reducible apply wq1); rfl; rfl; rfl; rfl; rfl; rfl; intro K hK; go_big_quiet_op; refine hK _ ?_; clear hK K) | ((with_reducible apply wqs); rfl; rfl; rfl; rfl; rfl; rfl; simp only [Act.put, List.setIfInBounds_toArray, List.set_cons_zero, List.set_cons_succ]) | ((with_reducible apply wqu); rfl; rfl; rfl; rfl; rfl; (first | simp only [same, Act.put, List.setIfInBounds_toArray, List.set_cons_zero, List.set_cons_succ] | simp only [Act.put, List.setIfInBounds_toArray, List.set_cons_zero, List.set_cons_succ]))))
  refine wqIdx_load rfl rfl rfl rfl (fun W hW => load_mo_2 w.heap.size 1 z.e.1.1 z.e.1.2 W (keep_c hW K1.out) (keep_c hW K2.out)) ?_
  simp only [Act.put, List.setIfInBounds_toArray, List.set_cons_zero, List.set_cons_succ]
  refine wqIdx_nil ?_
  refine wpAnyJ_sole (i := 4) rfl (by kernel_rfl) (fun K hK => ?_); go_simp
  have HD0 := Lib.hid (H0.out.below (dr_below (Below.refl _ _)))
  have BD0 := Lib.hid (show Below w.heap.size w (w.alloc (.cells (ropV z) 68)).drew from (dr_below B0.out))
  refine (rat_any HD0.out.1 z.e.1).mono ?_
  rintro e w3 ⟨A3, c3, rfl, ⟨g3, s3⟩, b3, -⟩
  have H3 := Lib.hid (HD0.out.below b3)
  have S3 := Lib.hid s3
  have B3 := Lib.hid (below_trans BD0.out b3)
  refine hK _ _ ⟨fun _ => b3, trivial⟩ ?_
  clear hK K b3 s3
  refine wpAnyJ_sole (i := 9) rfl (by kernel_rfl) (fun K hK => ?_); go_simp
  refine (xat_any H3.out.2.1 z.e.1).mono ?_
  rintro e w4 ⟨A4, c4, rfl, o4, b4⟩
  obtain ⟨g4, -, s4, -, -, -, -⟩ := SlK.of_own layE o4
  have H4 := Lib.hid (H3.out.below b4)
  have S4 := Lib.hid (S3.out.below b4)
  have T4 := Lib.hid s4
  have B4 := Lib.hid (below_trans B3.out b4)
  refine hK _ _ ⟨fun _ => b4, trivial⟩ ?_
  clear hK K b4 s4 o4
  refine wpAnyJ_sole (i := 10) rfl (by kernel_rfl) (fun K hK => ?_); go_simp
  have hs := srt_filter R.held fun y => y.1 == z.e.1
  have hl1 : ((srtE R.held).filter fun y => y.1 == z.e.1).length ≤ 4096 := Nat.le_trans (List.length_filter_le ..) (by rw [srtE_length]; exact hbig)
  rw [hs] at S4 ⊢
  refine (ren_same_any A3 A4 g3 g4 _ _ c3 c4 w4 S4.out T4.out (by omega) (by omega)).mono ?_
  rintro e w5 ⟨rfl, b5⟩
  have H5 := Lib.hid (H4.out.below b5)
  have B5 := Lib.hid (below_trans B4.out b5)
  rw [show (((srtE R.held).filter fun y => y.1 == z.e.1) == (srtE R.held).filter fun y => y.1 == z.e.1) = true from by simp]
  refine hK _ _ ⟨fun _ => b5, trivial⟩ ?_
  clear hK K b5 hs hl1
  refine batchJ RT.refl [11] (fuel := 0) rfl (by kernel_rfl) (by kernel_rfl) (fun _ _ d _ _ h => by cases d <;> exact h) ?_
  (repeat (first | ((with_reducible apply wq0); rfl; rfl; rfl; intro K hK; go_big_quiet_op; refine hK _ ?_; clear hK K) | ((with_reducible apply wq1); rfl; rfl; rfl; rfl; rfl; rfl; intro K hK; go_big_quiet_op; refine hK _ ?_; clear hK K) | ((with_reducible apply wqs); rfl; rfl; rfl; rfl; rfl; rfl; simp only [Act.put, List.setIfInBounds_toArray, List.set_cons_zero, List.set_cons_succ]) | ((with_reducible apply wqu); rfl; rfl; rfl; rfl; rfl; (first | simp only [same, Act.put, List.setIfInBounds_toArray, List.set_cons_zero, List.set_cons_succ] | simp only [Act.put, List.setIfInBounds_toArray, List.set_cons_zero, List.set_cons_succ]))))
  refine wqIdx_nil ?_
  refine wpAnyJ_done (by kernel_rfl) ?_ _
  go_wp2_with fail
  go_ret
  exact ⟨rfl, B5.out.mono HBS.out, hb, hx, R, H5.out, rfl, Nat.le_succ _⟩

set_option maxRecDepth 100000 in
set_option maxHeartbeats 4000000 in
theorem do_take (h : Two w base r x hb hx R) (z : RopIn) (hk : z.k = 2) (hbase : base ≤ w.heap.size) :
    Calls Try.prog 32 #[ptR r, ptR x, .agg (ropV z)] w (DoPost w base r x R) := by
  have b0 := alloc_below w (.cells (ropV z) 68)
  have x0 := Blk.new w 68 (ropV z)
  have h0 := h.below b0
  have H0 := Lib.hid h0
  have HNS := Lib.hid (two_box h)
  have HBB := Lib.hid (two_bb h)
  have B0 := Lib.hid b0
  have X0 := Lib.hid x0
  have HBS := Lib.hid hbase
  obtain ⟨k0, k1, k2, k3, k4, k5⟩ := rop_cells x0
  rw [hk] at k0
  have K1 := Lib.hid k1
  have K2 := Lib.hid k2
  have K3 := Lib.hid k3
  have K4 := Lib.hid k4
  have K5 := Lib.hid k5
  clear h b0 x0 h0 hk hbase
  obtain ⟨A, c, hrl, -, -, c0, ho, -⟩ := H0.out.2.1.cells
  obtain ⟨g0, -, sl, -, -, hc1, hc2⟩ := SlK.of_own layE ho
  have hbig : R.held.length ≤ 4096 := Nat.le_trans H0.out.1.good.2.2.2.1 H0.out.1.good.2.1
  have PS := Lib.hid (ren_sort_any R.held.length A g0 R.held c _ (Nat.le_refl _) sl hc1 (by omega) hc2)
  clear ho sl hc1 hc2
  go_enter Try.func32, Try.ntmps32
  go_wp2_with fail
  refine PS.out.mono ?_
  rintro e w2 ⟨A2, c2', rfl, hrow⟩
  rw [srtE_length]
  have b2 := hrow.2.1
  have HROW := Lib.hid hrow
  have H2 := Lib.hid (H0.out.below b2)
  have B2 := Lib.hid (below_trans B0.out b2)
  obtain ⟨A', c', hbx, hxb, hown, hhx, hok⟩ := H2.out.2.1
  have y0 := hbx.cell 0
  have f0 := hbx.frozen 0
  have X3 := Lib.hid (show RefR (w2.setCell ⟨x, 0, none⟩ (.slice none 0 0)) base x none { R with held := [] } from ⟨none, 0, hbx.set_ 0 _, hxb, own_nil_k layE _ _ _, rfl, hok.1, hok.2.1, hok.2.2.1, Nat.zero_le _, fun y hy => by cases hy⟩)
  have FX := Lib.hid (show RF x hx w2 (w2.setCell ⟨x, 0, none⟩ (.slice none 0 0)) from ⟨rfl, rfl, rfl, by rw [World.size_setCell]; exact Nat.le_refl _, fun k _ hkx _ => Below.heap_setCell w2 ⟨x, 0, none⟩ _ k hkx⟩)
  have R3 := Lib.hid (Two.after_x H2.out.1 H2.out.2.1 H2.out.2.2 FX.out)
  have B3 := Lib.hid (show Below base w (w2.setCell ⟨x, 0, none⟩ (.slice none 0 0)) from (B2.out.mono HBS.out).trans (FX.out.below hxb HBB.out.2 (Nat.le_trans HBS.out B2.out.size)))
  clear hrow b2 hbx hxb hown hhx hok c0
  go_wp2_with fail
  obtain ⟨w3, hw3⟩ : ∃ w3, w3 = w2.setCell ⟨x, 0, none⟩ (.slice none 0 0) := ⟨_, rfl⟩
  rw [← hw3] at X3 FX R3 B3 ⊢
  refine (rtake_any R3.out (Nat.le_trans HBS.out B3.out.size)).mono ?_
  rintro e w4 ⟨A4, c4, rfl, ⟨g4, s4, -⟩, -, hb4, h4, k4, f4⟩
  have R4 := Lib.hid h4
  have S4 := Lib.hid s4
  obtain ⟨ff1, ff2, ff3⟩ := H2.out.far
  have X4 := Lib.hid (show RefR w4 base x none { R with held := [] } from X3.out.kept fun k hk => by
    rcases hk with hk | hk
    · rw [hk]
      exact k4.2.2.2.2 x (by rw [hw3, World.size_setCell]; exact H2.out.2.1.base_le.2.2) ff1 (fun e => ff2 e.symm)
    · cases hk)
  have SA : ∃ g2, SlK encE w4 g2 A2 (srtE R.held) := by
    by_cases he : R.held = []
    · refine ⟨0, ?_⟩
      rw [he, srtE_short (by decide)]
      exact SlK.nil _ _ _
    · obtain ⟨g2, s2, h2, -, -⟩ := rowE_at HROW.out (fun e => he (by have := srtE_length R.held; rw [e] at this; exact List.length_eq_zero_iff.1 this.symm))
      have hlt := H0.out
      have n1 : g2 ≠ x := by have := hlt.2.1.base_le.2.2; omega
      have n2 : g2 ≠ r := by have := hlt.1.base_le.2.2; omega
      have n3 : some g2 ≠ hx := fun e => by have := (hlt.2.1.base_le.2.1 g2 e.symm).2; omega
      have n4 : some g2 ≠ hb := fun e => by have := (hlt.1.base_le.2.1 g2 e.symm).2; omega
      exact ⟨g2, k4.slk (FX.out.slk s2 n1 n3) n2 n4⟩
  obtain ⟨g2, s2⟩ := SA
  have S2 := Lib.hid s2
  have B4 := Lib.hid (B3.out.trans (k4.below R3.out.base_le.1 HBB.out.1 (Nat.le_trans HBS.out B3.out.size)))
  have PSM := ren_same_any A4 A2 g4 g2 (srtE R.held) (srtE R.held) c4 c2' w4 S4.out S2.out (by rw [srtE_length]; omega) (by rw [srtE_length]; omega)
  rw [srtE_length, show (srtE R.held == srtE R.held) = true from by simp] at PSM
  have PSM := Lib.hid PSM
  clear s4 s2 h4 k4 f4 ff1 ff2 ff3 hw3
  go_wp2_with fail
  refine PSM.out.mono ?_
  rintro e w5 ⟨rfl, b5⟩
  have R5 := Lib.hid (R4.out.below b5)
  have X5 := Lib.hid (X4.out.below b5)
  have B5 := Lib.hid (B4.out.trans (b5.mono (Nat.le_trans HBS.out B4.out.size)))
  clear b5
  go_wp2_with fail
  go_ret
  exact ⟨rfl, B5.out, hb4, none, { R with held := [] }, ⟨R5.out, X5.out, fun k _ e => by cases e⟩, rfl, Nat.zero_le _⟩

theorem do_else (h : Two w base r x hb hx R) (z : RopIn) (h1 : z.k ≠ 1) (h2 : z.k ≠ 2) (h3 : z.k ≠ 3) (h4 : z.k ≠ 4) (hbase : base ≤ w.heap.size) :
    Calls Try.prog 32 #[ptR r, ptR x, .agg (ropV z)] w (DoPost w base r x R) := by
  have b0 := alloc_below w (.cells (ropV z) 68)
  have x0 := Blk.new w 68 (ropV z)
  have H0 := Lib.hid (h.below b0)
  have B0 := Lib.hid (b0.mono hbase)
  obtain ⟨k0, -, -, -, -, -⟩ := rop_cells x0
  have e1 : (z.k == 1) = false := by rw [beq_eq_false_iff_ne]; exact h1
  have e2 : (z.k == 2) = false := by rw [beq_eq_false_iff_ne]; exact h2
  have e3 : (z.k == 3) = false := by rw [beq_eq_false_iff_ne]; exact h3
  have e4 : (z.k == 4) = false := by rw [beq_eq_false_iff_ne]; exact h4
  clear h b0 x0 h1 h2 h3 h4 hbase
  go_enter Try.func32, Try.ntmps32
  go_wp2_with fail
  go_ret
  exact ⟨rfl, B0.out, hb, hx, R, H0.out, rfl, Nat.le_succ _⟩

theorem do_any (h : Two w base r x hb hx R) (z : RopIn) {f : List (Int × Int)} {hf : Nat} (hF : SlP w hf z.F f) (hfb : f ≠ [] → hf < base) (hn : z.n = f.length) (hf1 : f.length ≤ 100) (hbase : base ≤ w.heap.size) :
    Calls Try.prog 32 #[ptR r, ptR x, .agg (ropV z)] w (DoPost w base r x R) := by
  by_cases h1 : z.k = 1
  · by_cases he : enE z.e = 0
    · by_cases hfu : R.held.length = R.limit
      · exact do_full h z h1 he hfu hbase
      · exact do_ok h z h1 he (by have := h.1.good.2.2.2.1; omega) hbase
    · exact do_bad h z h1 he hbase
  · by_cases h2 : z.k = 2
    · exact do_take h z h2 hbase
    · by_cases h3 : z.k = 3
      · exact do_at h z h3 hbase
      · by_cases h4 : z.k = 4
        · exact do_keep h z h4 hF hfb hn hf1 hbase
        · exact do_else h z h1 h2 h3 h4 hbase

end
end Go.Proofs.Ytodfpdmmbmbinaa
