/- The law's own words: what must come of every program. -/
import Derived.Test.YtgpffapnlngnkaaNumE
namespace Go.Proofs.Ytgpffapnlngnkaa
open Go.RowKit

theorem putL_2288 : putL 2288 = [248, 8, 240] := by decide
theorem putL_240 : putL 240 = [240, 0] := by decide
theorem be_258 : be 2 258 = [1, 2] := by decide
theorem textL_ab : textL [97, 98] = [2, 97, 98] := by decide
theorem numM_lives : numM (some [248, 8, 240, 2, 97, 98]) = (2288, some [2, 97, 98]) := by decide
theorem textM_lives : textM 2 (some [2, 97, 98]) = ([97, 98], some []) := by decide

set_option maxHeartbeats 2000000 in
set_option maxRecDepth 100000 in
theorem lives_any (w : World) : Calls Try.prog 8 #[] w fun e w' => e = .returned (.bool true) ∧ Below w.heap.size w w' := by
  have p1 := fun W => put_ok 2288 W (by omega) (by omega)
  have p2 := fun W => put_ok 240 W (by omega) (by omega)
  have p3 := fun W => put_neg (-1) W (by omega)
  have p4 := fun W => fix_yes 258 2 W (by omega) (by unfold fixable; decide)
  have p5 := fun W => fix_no 256 1 W (by omega) (by unfold fixable; decide)
  have p6 := fun W => text_any ⟨#[97, 98]⟩ W (by decide)
  rw [show (2288 : Int).toNat = 2288 from rfl, putL_2288] at p1
  rw [show (240 : Int).toNat = 240 from rfl, putL_240] at p2
  rw [show (2 : Int).toNat = 2 from rfl, show (258 : Int).toNat = 258 from rfl, be_258] at p4
  rw [show strL ⟨#[97, 98]⟩ = [97, 98] from rfl, textL_ab] at p6
  have P1 := Lib.hid p1
  have P2 := Lib.hid p2
  have P3 := Lib.hid p3
  have P4 := Lib.hid p4
  have P5 := Lib.hid p5
  have P6 := Lib.hid p6
  clear p1 p2 p3 p4 p5 p6
  go_enter Try.func8, Try.ntmps8
  go_wp2_with fail
  refine (P1.out _).mono ?_; rintro e w1 ⟨v1, rfl, o1, b1⟩
  obtain ⟨A1, c1, rfl⟩ := own_form o1
  have O1 := Lib.hid o1
  clear o1
  go_wp2_with fail
  refine (P2.out _).mono ?_; rintro e w2 ⟨v2, rfl, o2, b2⟩
  obtain ⟨A2, c2, rfl⟩ := own_form o2
  have O2 := Lib.hid o2
  clear o2
  go_wp2_with fail
  refine (P3.out _).mono ?_; rintro e w3 ⟨rfl, b3⟩
  go_wp2_with fail
  refine (P4.out _).mono ?_; rintro e w4 ⟨v4, rfl, o4, b4⟩
  obtain ⟨A4, c4, rfl⟩ := own_form o4
  have O4 := Lib.hid o4
  clear o4
  go_wp2_with fail
  refine (P5.out _).mono ?_; rintro e w5 ⟨rfl, b5⟩
  go_wp2_with fail
  refine (P6.out _).mono ?_; rintro e w6 ⟨v6, rfl, o6, b6⟩
  obtain ⟨A6, c6, rfl⟩ := own_form o6
  have O6 := Lib.hid o6
  clear o6
  have b16 : Below w1.heap.size w1 w6 := below_trans (below_trans (below_trans (below_trans b2 b3) b4) b5) b6
  have b26 : Below w2.heap.size w2 w6 := below_trans (below_trans (below_trans b3 b4) b5) b6
  have b46 : Below w4.heap.size w4 w6 := below_trans b5 b6
  have O16 := Lib.hid (own_below O1.out b16)
  have hz6 : w.heap.size ≤ w6.heap.size := (below_trans b1 b16).size
  go_wp2_with (at_builtin; (refine wpList_appB w6 rfl (.tmp 34) (.tmp 35) _ rfl Try.underlying23 info_u8 O16.out (own_bytes_reads O6.out) c6 rfl rfl (by decide) hz6 ?_); intro A7 c7 w7 o7 g7; have O7 := Lib.hid o7; have G7 := Lib.hid g7; clear o7 g7)
  obtain ⟨h1, k1, s1, q1⟩ := SlB.of_own O1.out
  obtain ⟨h2, k2, s2, q2⟩ := SlB.of_own O2.out
  obtain ⟨h4, k4, s4, q4⟩ := SlB.of_own O4.out
  obtain ⟨h7, k7, s7, q7⟩ := SlB.of_own O7.out
  have hz12 := b2.size
  have hz23 := b3.size
  have hw1 := s1.lt (by simp)
  have hbl : ∀ k, (Value.slice A1 [248, 8, 240].length c1).ownBlock = some k → k < w1.heap.size := fun k hk => (World.ownsRow.lt O1.out k hk).2
  have s16 : SlB w6 h1 A1 [248, 8, 240] := s1.below b16 (fun _ => hw1)
  have s17 := SlB.grew O16.out s16 G7.out O7.out
  have s27 : SlB w7 h2 A2 [240, 0] := (s2.below b26 fun h => h).grown (Grew.by_ G7.out) (fun e => by have := hbl _ e.symm; omega)
  have s47 : SlB w7 h4 A4 [1, 2] := (s4.below b46 fun h => h).grown (Grew.by_ G7.out) (fun e => by have := hbl _ e.symm; omega)
  have S17 := Lib.hid s17
  have S27 := Lib.hid s27
  have S47 := Lib.hid s47
  have b07 : Below w.heap.size w w7 := (below_trans b1 b16).grown (Grew.by_ G7.out) hz6 fun k hk => (World.ownsRow.lt O16.out k hk).1
  have P7 := Lib.hid (from_any A7 c7 h7 ([248, 8, 240] ++ [2, 97, 98]) w7 s7 (by decide))
  clear s1 s2 s4 s7 q1 q2 q4 q7 hbl s16 s17 s27 s47
  go_wp2_with fail
  refine (P7.out).mono ?_; rintro e w8 ⟨g, hh, rfl, kg, kh, r8, b8⟩
  have R8 := Lib.hid r8
  clear r8
  go_wp2_with fail
  refine (num_at g hh _ _ R8.out).mono ?_
  rw [show ([248, 8, 240] ++ [2, 97, 98] : List UInt8) = [248, 8, 240, 2, 97, 98] from rfl, numM_lives]
  rintro e w9 ⟨rfl, r9, g9⟩
  have R9 := Lib.hid r9
  clear r9
  go_wp2_with fail
  refine (rdtext_at g hh 2 _ _ R9.out).mono ?_
  rw [textM_lives]
  rintro e w10 ⟨rfl, r10, g10⟩
  have R10 := Lib.hid r10
  clear r10
  have up : ∀ {h : Nat} {A : Option Addr} {l : List UInt8}, l ≠ [] → SlB w7 h A l → SlB w10 h A l := fun {h A l} hl s => by
    have hlt := s.lt hl
    have s8 := s.below b8 fun h => h
    exact (s8.grown g9 (fun e => by injection e with e; omega)).grown g10 (fun e => by injection e with e; omega)
  have cv1 := run_convB w10 Try.underlying23 Try.underlying5 Try.underlying9 c1 ((up (by simp) S17.out).reads (n := 3) rfl)
  have cv2 := run_convB w10 Try.underlying23 Try.underlying5 Try.underlying9 c2 ((up (by simp) S27.out).reads (n := 2) rfl)
  have cv4 := run_convB w10 Try.underlying23 Try.underlying5 Try.underlying9 c4 ((up (by simp) S47.out).reads (n := 2) rfl)
  clear up
  have B10 : Below w.heap.size w w10 := by
    have b78 : Below w.heap.size w w8 := b07.trans (b8.mono b07.size)
    have hz7 := b07.size
    have hz78 := b8.size
    exact (b78.grown g9 (by omega) (fun k e => by injection e with e; omega)).grown g10 (by have := g9.size; omega) (fun k e => by injection e with e; omega)
  go_wp2_with fail
  refine (left_at g hh _ _ R10.out).mono ?_; rintro e w' ⟨rfl, rfl⟩
  go_wp2_with fail
  refine (bad_at g hh _ _ R10.out).mono ?_; rintro e w' ⟨rfl, rfl⟩
  go_wp2_with fail
  refine (done_at g hh _ _ R10.out).mono ?_; rintro e w' ⟨rfl, rfl⟩
  have dn : doneM (some []) = 0 := rfl
  go_wp2_with fail
  refine (size_one 239 _ (by omega) (by omega)).mono ?_; rintro e w' ⟨rfl, rfl⟩
  go_wp2
  go_ret
  exact ⟨rfl, B10⟩

set_option maxHeartbeats 1000000 in
theorem nobody_any (k n : Int) (w : World) : Calls Try.prog 7 #[.agg #[.int .i64 k, .int .i64 n]] w fun e w' => e = .returned (.bool true) ∧ Below w.heap.size w w' := by
  go_enter Try.func7, Try.ntmps7
  go_wp2_with fail
  refine (lives_any _).mono ?_; rintro e w1 ⟨rfl, b1⟩
  have k1 : Blk w1 w.heap.size 42 #[.int .i64 k, .int .i64 n] := (Blk.new w _ _).below b1 (by simp)
  have c1 := k1.cell 1
  simp at c1
  go_wp2_with fail
  refine (num_nil _).mono ?_; rintro e w' ⟨rfl, rfl⟩
  go_wp2_with fail
  refine (fixed_nil _ _).mono ?_; rintro e w' ⟨rfl, rfl⟩
  go_wp2_with fail
  refine (bytes_nil _ _).mono ?_; rintro e w2 ⟨rfl, b2⟩
  have k2 := k1.below b2 k1.lt
  have c2 := k2.cell 1
  simp at c2
  go_wp2_with fail
  refine (text_nil _ _).mono ?_; rintro e w' ⟨rfl, rfl⟩
  go_wp2_with fail
  refine (left_nil _).mono ?_; rintro e w' ⟨rfl, rfl⟩
  go_wp2_with fail
  refine (bad_nil _).mono ?_; rintro e w' ⟨rfl, rfl⟩
  go_wp2_with fail
  refine (done_nil _).mono ?_; rintro e w' ⟨rfl, rfl⟩
  go_wp2
  go_ret
  exact ⟨rfl, ((Below.refl _ _).alloc (Nat.le_refl _) _).trans ((below_trans b1 b2).mono (by simp))⟩

end Go.Proofs.Ytgpffapnlngnkaa
