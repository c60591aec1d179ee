/- Contracts of num's functions that only compute. -/
import Derived.Test.YtfilelgbffbnlaaDoorNumWd

namespace Go.Proofs.YtfilelgbffbnlaaDoor
open Go.RowKit

def nbi (n : Int) : Int := (nb n.toNat : Int)
theorem info_u8 : (Tryd.prog.info? 5).map (fun i => (i.zero, i.size, i.bytes)) = some (some (.int .u8 0), 1, 1) := by kernel_rfl

/-- The cells of highFirst's row behind k rounds. -/
def hfCell (n size k j : Nat) : Value := if size - k ≤ j then byteV (n / 256 ^ (size - 1 - j)) else .int .u8 0
theorem hf_step (n size k j : Nat) (hk : k < size) (hj : j < size) : hfCell n size (k + 1) j = if j = size - 1 - k then byteV (n / 256 ^ k) else hfCell n size k j := by
  unfold hfCell
  by_cases e : j = size - 1 - k
  · subst e
    rw [if_pos rfl, if_pos (by omega)]
    congr 3
    omega
  · rw [if_neg e]
    by_cases h : size - k ≤ j
    · rw [if_pos h, if_pos (by omega)]
    · rw [if_neg h, if_neg (by omega)]
set_option maxHeartbeats 400000 in
theorem highFirst_any (n : Nat) (size : Nat) (w : World) (hn : n ≤ 9223372036854775807) (h0 : 1 ≤ size) (h8 : size ≤ 8) :
    Calls Tryd.prog 30 #[.int .i64 (n : Int), .int .i64 (size : Int)] w fun e w' =>
      e = .returned (.slice (some ⟨w.heap.size, 0, none⟩) size size) ∧ w'.rowIs w.heap.size 5 size (hfCell n size size) ∧ Below w.heap.size w w' := by
  have hmk := fun W => run_make_row' (P := Tryd.prog) 22 5 (.int .u8 0) 1 Tryd.underlying22 info_u8 rfl .i64 .i64 size (by omega) (by omega) W
  go_enter Tryd.func30, Tryd.ntmps30
  go_wp2
  go_loopw [0, 6] (fun x i wr => ∃ k : Nat, k ≤ size ∧ i = .int .i64 ((size : Int) - 1 - k) ∧ x = .int .i64 ((n / 256 ^ k : Nat) : Int) ∧ wr.rowIs w.heap.size 5 size (hfCell n size k) ∧ Below w.heap.size w wr) (fun _ i _ => (intOf i + 1).toNat)
  case atStart =>
    refine ⟨0, Nat.zero_le _, by simp, by simp, (World.rowIs_made w _ _ _).congr fun j hj => ?_, (Below.refl _ _).alloc (Nat.le_refl _) _⟩
    unfold hfCell
    rw [if_neg (by omega)]
  case round =>
    obtain ⟨k, hk, rfl, rfl, hrow, hb⟩ := hrel
    have hm : n / 256 ^ k ≤ 9223372036854775807 := Nat.le_trans (Nat.div_le_self _ _) hn
    clear hmk
    by_cases hlt : k < size
    · have hc := hrow.cell (i := size - 1 - k) (by omega)
      have hf := hrow.frozen (size - 1 - k)
      have hi : ((size : Int) - 1 - k).toNat = size - 1 - k := by omega
      obtain ⟨m, hmm⟩ : ∃ m, m = n / 256 ^ k := ⟨_, rfl⟩
      rw [← hmm] at hm ⊢
      have HM := Lib.hid hmm
      clear hmm
      go_wp2
      have e : m / 256 = n / 256 ^ (k + 1) := by rw [HM.out, Nat.pow_succ, Nat.div_div_eq_div_mul]
      refine ⟨⟨k + 1, by omega, by go_num, by rw [← e]; rfl, (hrow.set _ _).congr fun j hj => ?_, hb.setCell (Nat.le_refl _) _⟩, by simp [intOf]; omega⟩
      rw [hf_step n size k j hlt hj, HM.out]
      rfl
    · go_wp2
      go_ret
      obtain rfl : k = size := by omega
      exact ⟨rfl, hrow, hb⟩

theorem hf_be (n size : Nat) : (List.range size).map (hfCell n size size) = Byt (be size n) := by
  rw [Byt_be]
  refine List.map_congr_left fun i hi => ?_
  unfold hfCell
  rw [if_pos (by omega)]
/-- highFirst: the bytes, in an array of its own. -/
theorem highFirst_own (n : Nat) (size : Nat) (w : World) (hn : n ≤ 9223372036854775807) (h0 : 1 ≤ size) (h8 : size ≤ 8) :
    Calls Tryd.prog 30 #[.int .i64 (n : Int), .int .i64 (size : Int)] w fun e w' =>
      e = .returned (.slice (some ⟨w.heap.size, 0, none⟩) size size) ∧ w'.ownsRow w.heap.size 5 1 (.slice (some ⟨w.heap.size, 0, none⟩) size size) size (Byt (be size n)) ∧ Below w.heap.size w w' :=
  (highFirst_any n size w hn h0 h8).mono fun _ _ ⟨he, hr, hb⟩ => ⟨he, own_of_row hr (Nat.le_refl _) (by unfold maxLen; omega) (hf_be n size).symm, hb⟩

theorem highFirst_i (n size : Int) (k m : Nat) (w : World) (hm : n = (m : Int)) (hk : size = (k : Int)) (hn : m ≤ 9223372036854775807) (h0 : 1 ≤ k) (h8 : k ≤ 8) :
    Calls Tryd.prog 30 #[.int .i64 n, .int .i64 size] w fun e w' =>
      e = .returned (.slice (some ⟨w.heap.size, 0, none⟩) k k) ∧ w'.ownsRow w.heap.size 5 1 (.slice (some ⟨w.heap.size, 0, none⟩) k k) k (Byt (be k m)) ∧ Below w.heap.size w w' := by
  subst hm; subst hk
  exact highFirst_own m k w hn h0 h8

/-- What a contract says of two results, the first an owned row of bytes. -/
def OwnOK (w : World) (l : List UInt8) (e : Ending) (w' : World) : Prop :=
  ∃ v, e = .returned (.tuple #[v, .int .i64 0]) ∧ w'.ownsRow w.heap.size 5 1 v l.length (Byt l) ∧ Below w.heap.size w w'
/-- .. of one result. -/
def Own1 (w : World) (l : List UInt8) (e : Ending) (w' : World) : Prop :=
  ∃ v, e = .returned v ∧ w'.ownsRow w.heap.size 5 1 v l.length (Byt l) ∧ Below w.heap.size w w'
def ErrArg2 (w : World) (e : Ending) (w' : World) : Prop := e = .returned (.tuple #[.slice none 0 0, .int .i64 1]) ∧ Below w.heap.size w w'

end Go.Proofs.YtfilelgbffbnlaaDoor
