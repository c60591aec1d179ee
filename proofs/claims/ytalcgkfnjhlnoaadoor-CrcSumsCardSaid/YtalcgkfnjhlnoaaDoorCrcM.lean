/- The mathematics of sums: the register is affine; sums are joined; bytes of 0. -/
import Derived.Test.YtalcgkfnjhlnoaaDoorCrcZerosW
import Derived.Laws.OwnMore
namespace Go.Proofs.YtalcgkfnjhlnoaaDoor
open Go.RowKit

theorem stepM_xor (r s b : Nat) : stepM (r ^^^ s) b = stepM r b ^^^ zeroM s := by
  unfold zeroM stepM
  rw [Nat.xor_zero, Nat.xor_assoc, Nat.xor_comm s b, ← Nat.xor_assoc, hv_xor, hv_xor]
theorem zit_succ' (n r : Nat) : zit (n + 1) r = zit n (zeroM r) := by
  rw [zit_add]; rfl
theorem regM_xor (l : List UInt8) : ∀ r s, regM (r ^^^ s) l = regM r l ^^^ zit l.length s := by
  induction l with
  | nil => intro r s; rfl
  | cons b l ih =>
    intro r s
    show regM (stepM (r ^^^ s) b.toNat) l = regM (stepM r b.toNat) l ^^^ zit (l.length + 1) s
    rw [stepM_xor, ih, zit_succ']
theorem notM_xor (a b : Nat) : notM (a ^^^ b) = a ^^^ notM b := by
  have h : ∀ c : Nat, (∀ n, notM n = c ^^^ n) → notM (a ^^^ b) = a ^^^ notM b := fun c hc => by
    rw [hc, hc, ← Nat.xor_assoc, Nat.xor_comm c a, Nat.xor_assoc]
  exact h _ notM_eq
theorem notM_back (f x : Nat) (hf : f = notM 0) : x = f ^^^ notM x := by
  have h := notM_xor x 0
  rw [Nat.xor_zero, ← hf] at h
  rw [h, Nat.xor_comm x f, xor_twice]
theorem join_reg (f : Nat) (hf : f = notM 0) (a b : List UInt8) : zit b.length (notM (regM f a)) ^^^ notM (regM f b) = notM (regM (regM f a) b) := by
  have h1 := notM_back f (regM f a) hf
  have h2 := regM_xor b f (notM (regM f a))
  rw [← h1] at h2
  rw [h2, Nat.xor_comm (regM f b), notM_xor]
theorem regM_replicate (n r : Nat) : regM r (List.replicate n 0) = zit n r := by
  induction n generalizing r with
  | zero => rfl
  | succ n ih =>
    rw [List.replicate_succ, zit_succ', ← ih]
    rfl
theorem zerosM_more (s n : Nat) : zerosM s (n : Int) = moreM s (List.replicate n 0) := by
  unfold zerosM moreM
  rw [regM_replicate, Int.toNat_natCast]
theorem joinM_more (a b : List UInt8) : joinM (moreM 0 a) (moreM 0 b) (b.length : Int) = moreM 0 (a ++ b) := by
  unfold joinM
  split
  · have hb : b = [] := List.eq_nil_of_length_eq_zero (by omega)
    subst hb
    rw [List.append_nil]
  · rw [Int.toNat_natCast]
    unfold moreM
    rw [regM_append]
    exact join_reg _ rfl a b
theorem made_byt (n : Nat) : madeCells #[.int .u8 0] n = (Byt (List.replicate n 0)).toArray := by
  apply Array.toList_inj.1
  rw [toList_madeCells_one]
  simp [Byt]
set_option maxRecDepth 100000 in
set_option maxHeartbeats 400000 in
theorem rzeros_any (s : Nat) (n : Int) (w : World) (hs : s < 4294967296) (hn : n ≤ 3000) :
    Calls Tryd.prog 20 #[.int .u32 (s : Int), .int .i64 n] w fun e w' => e = .returned (.int .u32 (zerosM s n : Int)) ∧ Below w.heap.size w w' := by
  by_cases h : n < 1
  · have d1 : decide (n < 1) = true := by simpa using h
    rw [zerosM_neg s n (by omega)]
    clear h hn
    go_enter Tryd.func20, Tryd.ntmps20
    go_wp2
    go_ret
    exact ⟨rfl, Below.refl _ _⟩
  · have d1 : decide (n < 1) = false := by simpa using h
    obtain ⟨k, rfl⟩ := Int.eq_ofNat_of_zero_le (show 0 ≤ n by omega)
    have hk : k ≤ 3000 := by omega
    have hmk := run_make_row' (P := Tryd.prog) 23 5 (.int .u8 0) 1 Tryd.underlying23 info_u8 rfl .i64 .i64 k (by omega) (by omega)
    rw [made_byt] at hmk
    have hlen : (List.replicate k (0 : UInt8)).length = k := List.length_replicate ..
    have P := Lib.hid (rmore_any s (some ⟨w.heap.size, 0, none⟩) w.heap.size (List.replicate k 0) k (w.alloc (.cells (Byt (List.replicate k 0)).toArray 5)) hs (new_slb w 5 _ (0, 0)) (by omega) (by unfold maxLen; omega))
    rw [hlen] at P
    rw [zerosM_more]
    generalize (Byt (List.replicate k 0)).toArray = cs at hmk P
    generalize moreM s (List.replicate k 0) = q at P
    clear h hn hlen
    have hb := alloc_below w (.cells cs 5)
    have HB := Lib.hid hb
    clear hb
    go_enter Tryd.func20, Tryd.ntmps20
    go_wp2_with fail
    refine P.out.mono ?_; rintro e w1 ⟨rfl, rfl⟩
    go_wp2
    go_ret
    exact ⟨rfl, HB.out⟩
end Go.Proofs.YtalcgkfnjhlnoaaDoor
