/- One read of both readers. -/
import Derived.Test.YtgpffapnlngnkaaNumI
import Derived.Test.YtgpffapnlngnkaaNumBackW
namespace Go.Proofs.Ytgpffapnlngnkaa
open Go.RowKit

def two (g g2 : Nat) (b : Nat) : Prop := b = g ∨ b = g2
theorem RK.grown1 {w w' : World} {g g2 : Nat} (h : w.grownBy w' (some g)) : RK (two g g2) w w' :=
  ⟨h.os, h.tape, h.output, h.size, fun i hi hne => h.block i hi (fun e => hne (.inl (by injection e)))⟩
theorem RK.grown2 {w w' : World} {g g2 : Nat} (h : w.grownBy w' (some g2)) : RK (two g g2) w w' :=
  ⟨h.os, h.tape, h.output, h.size, fun i hi hne => h.block i hi (fun e => hne (.inr (by injection e)))⟩
theorem RK.of_below {S : Nat → Prop} {w w' : World} (h : Below w.heap.size w w') : RK S w w' := ⟨h.os, h.tape, h.output, h.size, fun i hi _ => h.block i hi⟩
theorem RK.of_drew {S : Nat → Prop} {w w' : World} (h : RK S w.drew w') : RK S w w' := ⟨h.1, h.2.1, h.2.2.1, h.2.2.2.1, h.2.2.2.2⟩
/-- Both readers, where the model has them; their four blocks. -/
def Both (w : World) (g h g2 h2 : Nat) (s : Option (List UInt8)) : Prop :=
  RdAt 55 w g h s ∧ RdAt 39 w g2 h2 s ∧ g ≠ g2 ∧ g ≠ h2 ∧ g2 ≠ h
def DoPost (g h g2 h2 : Nat) (w : World) (s' : Option (List UInt8)) (e : Ending) (w' : World) : Prop :=
  e = .returned (.bool true) ∧ Both w' g h g2 h2 s' ∧ RK (two g g2) w w'
def doM (k n : Int) (s : Option (List UInt8)) : Option (List UInt8) :=
  if k = 1 then (numM s).2 else if k = 2 then (fixedM n s).2 else if k = 3 then (takeM n s).2 else if k = 4 then (textM n s).2 else s
theorem cell_kept {S : Nat → Prop} {w w' : World} {a : Addr} {v : Value} (h : RK S w w') (hs : ¬ S a.block) (hc : w.cell? a = some v) : w'.cell? a = some v :=
  (World.cell?_of_block (h.2.2.2.2 a.block (World.block_lt_of_cell? w a hc) hs)).trans hc
theorem both_next {w w1 w2 : World} {g h g2 h2 : Nat} {s s' : Option (List UInt8)} (b : Both w g h g2 h2 s) (r1 : RdAt 55 w1 g h s') (k1 : w.grownBy w1 (some g)) (r2 : RdAt 39 w2 g2 h2 s') (k2 : w1.grownBy w2 (some g2)) : Both w2 g h g2 h2 s' :=
  ⟨r1.grown k2 (by simpa using b.2.2.1) (by simpa using Ne.symm b.2.2.2.2), r2, b.2.2.1, b.2.2.2.1, b.2.2.2.2⟩
theorem ref_kept {w w1 : World} {g h g2 h2 : Nat} {s : Option (List UInt8)} (b : Both w g h g2 h2 s) (k1 : w.grownBy w1 (some g)) : RdAt 39 w1 g2 h2 s :=
  b.2.1.grown k1 (by simpa using Ne.symm b.2.2.1) (by simpa using Ne.symm b.2.2.2.1)
theorem Both.below {w w1 : World} {g h g2 h2 : Nat} {s : Option (List UInt8)} (b : Both w g h g2 h2 s) (k : Below w.heap.size w w1) : Both w1 g h g2 h2 s :=
  ⟨b.1.below k, b.2.1.below k, b.2.2⟩
theorem Both.drew {w : World} {g h g2 h2 : Nat} {s : Option (List UInt8)} (b : Both w g h g2 h2 s) : Both w.drew g h g2 h2 s := b
theorem alloc_below (w : World) (o : Obj) : Below w.heap.size w (w.alloc o) := (Below.refl _ _).alloc (Nat.le_refl _) o
theorem SlB.kept {S : Nat → Prop} {w w' : World} {h : Nat} {A : Option Addr} {l : List UInt8} (s : SlB w h A l) (k : RK S w w') (hs : ¬ S h) : SlB w' h A l :=
  s.keep' fun hh => k.2.2.2.2 h hh hs
theorem beq_false_of {a b : Int} (h : a ≠ b) : (a == b) = false := by simpa using h
set_option maxRecDepth 100000 in
set_option maxHeartbeats 1000000 in
theorem do_1 (g h g2 h2 : Nat) (n : Int) (s : Option (List UInt8)) (w : World) (b : Both w g h g2 h2 s) (hgood : Good s) :
    Calls Try.prog 17 #[.pointer (some ⟨g, 0, none⟩), .pointer (some ⟨g2, 0, none⟩), .agg #[.int .i64 1, .int .i64 n]] w (DoPost g h g2 h2 w (doM 1 n s)) := by
  have hlt : g < w.heap.size := b.1.lt
  have hlt2 : g2 < w.heap.size := b.2.1.lt
  have B0 := Lib.hid (b.below (alloc_below w (.cells #[.int .i64 1, .int .i64 n] 42)))
  have HB := Lib.hid (alloc_below w (.cells #[.int .i64 1, .int .i64 n] 42))
  clear b
  obtain ⟨x, s', hx⟩ : ∃ x s', numM s = (x, s') := ⟨_, _, rfl⟩
  have e : doM 1 n s = s' := by unfold doM; rw [if_pos rfl, hx]
  rw [e]
  have HX := Lib.hid hx
  clear hx e
  go_enter Try.func17, Try.ntmps17
  go_wp2_with fail
  refine (num_at g h s _ B0.out.1).mono ?_
  rw [HX.out]
  rintro e w1 ⟨rfl, r1, k1⟩
  have R1 := Lib.hid r1
  clear r1
  go_wp2_with fail
  refine (rnum_at g2 h2 s _ (ref_kept B0.out k1) hgood).mono ?_
  rw [HX.out]
  rintro e w2 ⟨rfl, r2, k2⟩
  have R2 := Lib.hid r2
  clear r2
  go_wp2
  go_ret
  exact ⟨rfl, both_next B0.out R1.out k1 R2.out k2, RK.trans _ _ _ _ (RK.trans _ _ _ _ (RK.of_below HB.out) (RK.grown1 k1)) (RK.grown2 k2)⟩
set_option maxRecDepth 100000 in
set_option maxHeartbeats 1000000 in
theorem do_2 (g h g2 h2 : Nat) (n : Int) (s : Option (List UInt8)) (w : World) (b : Both w g h g2 h2 s) (hgood : Good s) :
    Calls Try.prog 17 #[.pointer (some ⟨g, 0, none⟩), .pointer (some ⟨g2, 0, none⟩), .agg #[.int .i64 2, .int .i64 n]] w (DoPost g h g2 h2 w (doM 2 n s)) := by
  have hlt : g < w.heap.size := b.1.lt
  have hlt2 : g2 < w.heap.size := b.2.1.lt
  have B0 := Lib.hid (b.below (alloc_below w (.cells #[.int .i64 2, .int .i64 n] 42)))
  have HB := Lib.hid (alloc_below w (.cells #[.int .i64 2, .int .i64 n] 42))
  clear b
  have hn1 : ¬ two g g2 w.heap.size := by rintro (h | h) <;> omega
  have hcell : ∀ W, RK (two g g2) (w.alloc (.cells #[.int .i64 2, .int .i64 n] 42)).drew W → W.cell? ⟨w.heap.size, 1, none⟩ = some (.int .i64 n) := fun W hW => cell_kept hW hn1 (by
    show (w.alloc (.cells #[.int .i64 2, .int .i64 n] 42)).cell? ⟨w.heap.size, 1, none⟩ = some (.int .i64 n)
    simp)
  obtain ⟨x, s', hx⟩ : ∃ x s', fixedM n s = (x, s') := ⟨_, _, rfl⟩
  have e : doM 2 n s = s' := by unfold doM; simp only [Int.reduceEq, if_true, if_false, ite_true, ite_false]; rw [hx]
  rw [e]
  have HX := Lib.hid hx
  clear hx e
  go_enter Try.func17, Try.ntmps17
  go_wp2_with fail
  refine wp_region_R (R := RK (two g g2)) (n := 10) (by kernel_rfl) rfl ?_
  refine batchK [0, 1, 2, 4, 5, 6] (fuel := 4) rfl (by kernel_rfl) (by kernel_rfl) (fun _ _ d _ _ h => by cases d <;> exact h) ?_
  repeat (first | ((with_reducible apply wq0); rfl; rfl; rfl; intro K hK; go_big_quiet_op; refine hK _ ?_; clear hK K) | ((with_reducible apply wq1); rfl; rfl; rfl; rfl; rfl; rfl; intro K hK; go_big_quiet_op; refine hK _ ?_; clear hK K) | ((with_reducible apply wqs); rfl; rfl; rfl; rfl; rfl; rfl; simp only [Act.put, List.setIfInBounds_toArray, List.set_cons_zero, List.set_cons_succ]) | ((with_reducible apply wqu); rfl; rfl; rfl; rfl; rfl; simp only [same]))
  refine wqIdx_load rfl rfl rfl rfl (fun W hW => load_int_at _ n W (hcell W hW)) ?_
  simp only [Act.put, List.setIfInBounds_toArray, List.set_cons_zero, List.set_cons_succ]
  repeat (first | ((with_reducible apply wq0); rfl; rfl; rfl; intro K hK; go_big_quiet_op; refine hK _ ?_; clear hK K) | ((with_reducible apply wq1); rfl; rfl; rfl; rfl; rfl; rfl; intro K hK; go_big_quiet_op; refine hK _ ?_; clear hK K) | ((with_reducible apply wqs); rfl; rfl; rfl; rfl; rfl; rfl; simp only [Act.put, List.setIfInBounds_toArray, List.set_cons_zero, List.set_cons_succ]) | ((with_reducible apply wqu); rfl; rfl; rfl; rfl; rfl; simp only [same]))
  refine wqIdx_load rfl rfl rfl rfl (fun W hW => load_int_at _ n W (hcell W hW)) ?_
  simp only [Act.put, List.setIfInBounds_toArray, List.set_cons_zero, List.set_cons_succ]
  refine wqIdx_nil ?_
  refine wpAnyR_sole (i := 3) rfl (by kernel_rfl) (fun K hK => ?_)
  go_simp
  refine (fixed_at g h n s _ B0.out.drew.1).mono ?_
  rw [HX.out]
  rintro e w1 ⟨rfl, r1, k1⟩
  have R1 := Lib.hid r1
  clear r1
  refine hK _ _ (RK.grown1 k1) ?_
  clear hK K
  refine wpAnyR_sole (i := 7) rfl (by kernel_rfl) (fun K hK => ?_)
  go_simp
  refine (rfixed_at g2 h2 n s _ (ref_kept B0.out.drew k1) hgood).mono ?_
  rw [HX.out]
  rintro e w2 ⟨rfl, r2, k2⟩
  have R2 := Lib.hid r2
  clear r2
  refine hK _ _ (RK.grown2 k2) ?_
  clear hK K
  refine batchK [8, 9] (fuel := 0) rfl (by kernel_rfl) (by kernel_rfl) (fun _ _ d _ _ h => by cases d <;> exact h) ?_
  repeat (first | ((with_reducible apply wq0); rfl; rfl; rfl; intro K hK; go_big_quiet_op; refine hK _ ?_; clear hK K) | ((with_reducible apply wq1); rfl; rfl; rfl; rfl; rfl; rfl; intro K hK; go_big_quiet_op; refine hK _ ?_; clear hK K) | ((with_reducible apply wqs); rfl; rfl; rfl; rfl; rfl; rfl; simp only [Act.put, List.setIfInBounds_toArray, List.set_cons_zero, List.set_cons_succ]) | ((with_reducible apply wqu); rfl; rfl; rfl; rfl; rfl; simp only [same]))
  refine wqIdx_nil ?_
  refine wpAnyR_done (by kernel_rfl) ?_ _
  go_wp2
  go_ret
  exact ⟨rfl, both_next B0.out.drew R1.out k1 R2.out k2, RK.trans _ _ _ _ (RK.trans _ _ _ _ (RK.of_below HB.out) (RK.of_drew (RK.grown1 k1))) (RK.grown2 k2)⟩
set_option maxRecDepth 100000 in
set_option maxHeartbeats 1000000 in
theorem do_4 (g h g2 h2 : Nat) (n : Int) (s : Option (List UInt8)) (w : World) (b : Both w g h g2 h2 s) (hgood : Good s) :
    Calls Try.prog 17 #[.pointer (some ⟨g, 0, none⟩), .pointer (some ⟨g2, 0, none⟩), .agg #[.int .i64 4, .int .i64 n]] w (DoPost g h g2 h2 w (doM 4 n s)) := by
  have hlt : g < w.heap.size := b.1.lt
  have hlt2 : g2 < w.heap.size := b.2.1.lt
  have B0 := Lib.hid (b.below (alloc_below w (.cells #[.int .i64 4, .int .i64 n] 42)))
  have HB := Lib.hid (alloc_below w (.cells #[.int .i64 4, .int .i64 n] 42))
  clear b
  have hn1 : ¬ two g g2 w.heap.size := by rintro (h | h) <;> omega
  have hcell : ∀ W, RK (two g g2) (w.alloc (.cells #[.int .i64 4, .int .i64 n] 42)).drew W → W.cell? ⟨w.heap.size, 1, none⟩ = some (.int .i64 n) := fun W hW => cell_kept hW hn1 (by
    show (w.alloc (.cells #[.int .i64 4, .int .i64 n] 42)).cell? ⟨w.heap.size, 1, none⟩ = some (.int .i64 n)
    simp)
  obtain ⟨x, s', hx⟩ : ∃ x s', textM n s = (x, s') := ⟨_, _, rfl⟩
  have e : doM 4 n s = s' := by unfold doM; simp only [Int.reduceEq, if_true, if_false, ite_true, ite_false]; rw [hx]
  rw [e]
  have HX := Lib.hid hx
  clear hx e
  go_enter Try.func17, Try.ntmps17
  go_wp2_with fail
  refine wp_region_R (R := RK (two g g2)) (n := 10) (by kernel_rfl) rfl ?_
  refine batchK [0, 1, 2, 4, 5, 6] (fuel := 4) rfl (by kernel_rfl) (by kernel_rfl) (fun _ _ d _ _ h => by cases d <;> exact h) ?_
  repeat (first | ((with_reducible apply wq0); rfl; rfl; rfl; intro K hK; go_big_quiet_op; refine hK _ ?_; clear hK K) | ((with_reducible apply wq1); rfl; rfl; rfl; rfl; rfl; rfl; intro K hK; go_big_quiet_op; refine hK _ ?_; clear hK K) | ((with_reducible apply wqs); rfl; rfl; rfl; rfl; rfl; rfl; simp only [Act.put, List.setIfInBounds_toArray, List.set_cons_zero, List.set_cons_succ]) | ((with_reducible apply wqu); rfl; rfl; rfl; rfl; rfl; simp only [same]))
  refine wqIdx_load rfl rfl rfl rfl (fun W hW => load_int_at _ n W (hcell W hW)) ?_
  simp only [Act.put, List.setIfInBounds_toArray, List.set_cons_zero, List.set_cons_succ]
  repeat (first | ((with_reducible apply wq0); rfl; rfl; rfl; intro K hK; go_big_quiet_op; refine hK _ ?_; clear hK K) | ((with_reducible apply wq1); rfl; rfl; rfl; rfl; rfl; rfl; intro K hK; go_big_quiet_op; refine hK _ ?_; clear hK K) | ((with_reducible apply wqs); rfl; rfl; rfl; rfl; rfl; rfl; simp only [Act.put, List.setIfInBounds_toArray, List.set_cons_zero, List.set_cons_succ]) | ((with_reducible apply wqu); rfl; rfl; rfl; rfl; rfl; simp only [same]))
  refine wqIdx_load rfl rfl rfl rfl (fun W hW => load_int_at _ n W (hcell W hW)) ?_
  simp only [Act.put, List.setIfInBounds_toArray, List.set_cons_zero, List.set_cons_succ]
  refine wqIdx_nil ?_
  refine wpAnyR_sole (i := 3) rfl (by kernel_rfl) (fun K hK => ?_)
  go_simp
  refine (rdtext_at g h n s _ B0.out.drew.1).mono ?_
  rw [HX.out]
  rintro e w1 ⟨rfl, r1, k1⟩
  have R1 := Lib.hid r1
  clear r1
  refine hK _ _ (RK.grown1 k1) ?_
  clear hK K
  refine wpAnyR_sole (i := 7) rfl (by kernel_rfl) (fun K hK => ?_)
  go_simp
  refine (rrtext_at g2 h2 n s _ (ref_kept B0.out.drew k1) hgood).mono ?_
  rw [HX.out]
  rintro e w2 ⟨rfl, r2, k2⟩
  have R2 := Lib.hid r2
  clear r2
  refine hK _ _ (RK.grown2 k2) ?_
  clear hK K
  refine batchK [8, 9] (fuel := 0) rfl (by kernel_rfl) (by kernel_rfl) (fun _ _ d _ _ h => by cases d <;> exact h) ?_
  repeat (first | ((with_reducible apply wq0); rfl; rfl; rfl; intro K hK; go_big_quiet_op; refine hK _ ?_; clear hK K) | ((with_reducible apply wq1); rfl; rfl; rfl; rfl; rfl; rfl; intro K hK; go_big_quiet_op; refine hK _ ?_; clear hK K) | ((with_reducible apply wqs); rfl; rfl; rfl; rfl; rfl; rfl; simp only [Act.put, List.setIfInBounds_toArray, List.set_cons_zero, List.set_cons_succ]) | ((with_reducible apply wqu); rfl; rfl; rfl; rfl; rfl; simp only [same]))
  refine wqIdx_nil ?_
  refine wpAnyR_done (by kernel_rfl) ?_ _
  go_wp2
  go_ret
  exact ⟨rfl, both_next B0.out.drew R1.out k1 R2.out k2, RK.trans _ _ _ _ (RK.trans _ _ _ _ (RK.of_below HB.out) (RK.of_drew (RK.grown1 k1))) (RK.grown2 k2)⟩
set_option maxRecDepth 100000 in
set_option maxHeartbeats 1000000 in
theorem do_3 (g h g2 h2 : Nat) (n : Int) (s : Option (List UInt8)) (w : World) (b : Both w g h g2 h2 s) (hgood : Good s) :
    Calls Try.prog 17 #[.pointer (some ⟨g, 0, none⟩), .pointer (some ⟨g2, 0, none⟩), .agg #[.int .i64 3, .int .i64 n]] w (DoPost g h g2 h2 w (doM 3 n s)) := by
  have hlt : g < w.heap.size := b.1.lt
  have hlt2 : g2 < w.heap.size := b.2.1.lt
  have B0 := Lib.hid (b.below (alloc_below w (.cells #[.int .i64 3, .int .i64 n] 42)))
  have HB := Lib.hid (alloc_below w (.cells #[.int .i64 3, .int .i64 n] 42))
  clear b
  have hn1 : ¬ two g g2 w.heap.size := by rintro (h | h) <;> omega
  have hcell : ∀ W, RK (two g g2) (w.alloc (.cells #[.int .i64 3, .int .i64 n] 42)).drew W → W.cell? ⟨w.heap.size, 1, none⟩ = some (.int .i64 n) := fun W hW => cell_kept hW hn1 (by
    show (w.alloc (.cells #[.int .i64 3, .int .i64 n] 42)).cell? ⟨w.heap.size, 1, none⟩ = some (.int .i64 n)
    simp)
  obtain ⟨x, s', hx⟩ : ∃ x s', takeM n s = (x, s') := ⟨_, _, rfl⟩
  have e : doM 3 n s = s' := by unfold doM; simp only [Int.reduceEq, if_true, if_false, ite_true, ite_false]; rw [hx]
  rw [e]
  have HX := Lib.hid hx
  clear hx e
  go_enter Try.func17, Try.ntmps17
  go_wp2_with fail
  refine wp_region_R (R := RK (two g g2)) (n := 12) (by kernel_rfl) rfl ?_
  refine batchK [0, 1, 2, 5, 6, 7] (fuel := 6) rfl (by kernel_rfl) (by kernel_rfl) (fun _ _ d _ _ h => by cases d <;> exact h) ?_
  repeat (first | ((with_reducible apply wq0); rfl; rfl; rfl; intro K hK; go_big_quiet_op; refine hK _ ?_; clear hK K) | ((with_reducible apply wq1); rfl; rfl; rfl; rfl; rfl; rfl; intro K hK; go_big_quiet_op; refine hK _ ?_; clear hK K) | ((with_reducible apply wqs); rfl; rfl; rfl; rfl; rfl; rfl; simp only [Act.put, List.setIfInBounds_toArray, List.set_cons_zero, List.set_cons_succ]) | ((with_reducible apply wqu); rfl; rfl; rfl; rfl; rfl; simp only [same]))
  refine wqIdx_load rfl rfl rfl rfl (fun W hW => load_int_at _ n W (hcell W hW)) ?_
  simp only [Act.put, List.setIfInBounds_toArray, List.set_cons_zero, List.set_cons_succ]
  repeat (first | ((with_reducible apply wq0); rfl; rfl; rfl; intro K hK; go_big_quiet_op; refine hK _ ?_; clear hK K) | ((with_reducible apply wq1); rfl; rfl; rfl; rfl; rfl; rfl; intro K hK; go_big_quiet_op; refine hK _ ?_; clear hK K) | ((with_reducible apply wqs); rfl; rfl; rfl; rfl; rfl; rfl; simp only [Act.put, List.setIfInBounds_toArray, List.set_cons_zero, List.set_cons_succ]) | ((with_reducible apply wqu); rfl; rfl; rfl; rfl; rfl; simp only [same]))
  refine wqIdx_load rfl rfl rfl rfl (fun W hW => load_int_at _ n W (hcell W hW)) ?_
  simp only [Act.put, List.setIfInBounds_toArray, List.set_cons_zero, List.set_cons_succ]
  refine wqIdx_nil ?_
  refine wpAnyR_sole (i := 3) rfl (by kernel_rfl) (fun K hK => ?_)
  go_simp
  refine (bytes_at g h n s _ B0.out.drew.1 hgood).mono ?_
  rw [HX.out]
  rintro e w1 ⟨A1, c1, rfl, o1, r1, k1⟩
  obtain ⟨h1, hb1, s1, -⟩ := SlB.of_own o1
  have hs1 : ¬ two g g2 h1 := fun h => by have := (show (w.alloc (.cells #[.int .i64 3, .int .i64 n] 42)).heap.size ≤ h1 from hb1); rw [World.size_alloc] at this; rcases h with h | h <;> omega
  have hsz1 := (show (w.alloc (.cells #[.int .i64 3, .int .i64 n] 42)).heap.size ≤ w1.heap.size from k1.size)
  rw [World.size_alloc] at hsz1
  have R1 := Lib.hid r1
  have S1 := Lib.hid s1
  dsimp only at S1 R1
  clear r1 s1 o1
  refine hK _ _ (RK.grown1 k1) ?_
  clear hK K
  refine batchK [4] (fuel := 4) rfl (by kernel_rfl) (by kernel_rfl) (fun _ _ d _ _ h => by cases d <;> exact h) ?_
  refine wqIdx_conv rfl rfl rfl rfl (fun W hW => run_convB W Try.underlying23 Try.underlying5 Try.underlying9 c1 ((SlB.kept S1.out hW hs1).reads rfl)) ?_
  simp only [Act.put, List.setIfInBounds_toArray, List.set_cons_zero, List.set_cons_succ]
  refine wqIdx_nil ?_
  refine wpAnyR_sole (i := 8) rfl (by kernel_rfl) (fun K hK => ?_)
  go_simp
  refine (rbytes_at g2 h2 n s _ (ref_kept B0.out.drew k1) hgood).mono ?_
  rw [HX.out]
  rintro e w2 ⟨A2, c2, rfl, o2, r2, k2⟩
  obtain ⟨h3, hb3, s2, -⟩ := SlB.of_own o2
  have hs2 : ¬ two g g2 h3 := fun h => by rcases h with h | h <;> omega
  have R2 := Lib.hid r2
  have S2 := Lib.hid s2
  dsimp only at S2 R2
  clear r2 s2 o2
  refine hK _ _ (RK.grown2 k2) ?_
  clear hK K
  refine batchK [9, 10, 11] (fuel := 0) rfl (by kernel_rfl) (by kernel_rfl) (fun _ _ d _ _ h => by cases d <;> exact h) ?_
  refine wqIdx_conv rfl rfl rfl rfl (fun W hW => run_convB W Try.underlying23 Try.underlying5 Try.underlying9 c2 ((SlB.kept S2.out hW hs2).reads rfl)) ?_
  simp only [Act.put, List.setIfInBounds_toArray, List.set_cons_zero, List.set_cons_succ]
  repeat (first | ((with_reducible apply wq0); rfl; rfl; rfl; intro K hK; go_big_quiet_op; refine hK _ ?_; clear hK K) | ((with_reducible apply wq1); rfl; rfl; rfl; rfl; rfl; rfl; intro K hK; go_big_quiet_op; refine hK _ ?_; clear hK K) | ((with_reducible apply wqs); rfl; rfl; rfl; rfl; rfl; rfl; simp only [Act.put, List.setIfInBounds_toArray, List.set_cons_zero, List.set_cons_succ]) | ((with_reducible apply wqu); rfl; rfl; rfl; rfl; rfl; simp only [same]))
  refine wqIdx_nil ?_
  refine wpAnyR_done (by kernel_rfl) ?_ _
  go_wp2
  go_ret
  exact ⟨rfl, both_next B0.out.drew R1.out k1 R2.out k2, RK.trans _ _ _ _ (RK.trans _ _ _ _ (RK.of_below HB.out) (RK.of_drew (RK.grown1 k1))) (RK.grown2 k2)⟩
set_option maxRecDepth 100000 in
set_option maxHeartbeats 1000000 in
theorem do_other (g h g2 h2 : Nat) (k n : Int) (s : Option (List UInt8)) (w : World) (b : Both w g h g2 h2 s) (e1 : k ≠ 1) (e2 : k ≠ 2) (e3 : k ≠ 3) (e4 : k ≠ 4) :
    Calls Try.prog 17 #[.pointer (some ⟨g, 0, none⟩), .pointer (some ⟨g2, 0, none⟩), .agg #[.int .i64 k, .int .i64 n]] w (DoPost g h g2 h2 w s) := by
  have hlt : g < w.heap.size := b.1.lt
  have hlt2 : g2 < w.heap.size := b.2.1.lt
  have B0 := Lib.hid (b.below (alloc_below w (.cells #[.int .i64 k, .int .i64 n] 42)))
  have HB := Lib.hid (alloc_below w (.cells #[.int .i64 k, .int .i64 n] 42))
  clear b
  have d1 := beq_false_of e1
  have d2 := beq_false_of e2
  have d3 := beq_false_of e3
  have d4 := beq_false_of e4
  clear e1 e2 e3 e4
  go_enter Try.func17, Try.ntmps17
  go_wp2
  go_ret
  exact ⟨rfl, B0.out, RK.of_below HB.out⟩
theorem do_any (g h g2 h2 : Nat) (k n : Int) (s : Option (List UInt8)) (w : World) (b : Both w g h g2 h2 s) (hgood : Good s) :
    Calls Try.prog 17 #[.pointer (some ⟨g, 0, none⟩), .pointer (some ⟨g2, 0, none⟩), .agg #[.int .i64 k, .int .i64 n]] w (DoPost g h g2 h2 w (doM k n s)) := by
  by_cases e1 : k = 1
  · subst e1; exact do_1 g h g2 h2 n s w b hgood
  by_cases e2 : k = 2
  · subst e2; exact do_2 g h g2 h2 n s w b hgood
  by_cases e3 : k = 3
  · subst e3; exact do_3 g h g2 h2 n s w b hgood
  by_cases e4 : k = 4
  · subst e4; exact do_4 g h g2 h2 n s w b hgood
  have e : doM k n s = s := by unfold doM; rw [if_neg e1, if_neg e2, if_neg e3, if_neg e4]
  rw [e]
  exact do_other g h g2 h2 k n s w b e1 e2 e3 e4
theorem textM_good {n : Int} {s : Option (List UInt8)} (h : Good s) : Good (textM n s).2 := by
  unfold textM
  dsimp only
  split
  · intro l e; cases e
  · exact takeM_good (numM_good h)
theorem doM_good {k n : Int} {s : Option (List UInt8)} (h : Good s) : Good (doM k n s) := by
  unfold doM
  split
  · exact numM_good h
  · split
    · exact fixedM_good h
    · split
      · exact takeM_good h
      · split
        · exact textM_good h
        · exact h
end Go.Proofs.Ytgpffapnlngnkaa
