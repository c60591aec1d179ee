/- slices.Chunk at bytes: the pieces that its iterator gives. -/
import Derived.Test.YtfilelgbffbnlaaDoorPgE
import Derived.BigRegionIn
namespace Go.Proofs.YtfilelgbffbnlaaDoor
open Go.RowKit

/-- The pieces of a slice of L bytes at an address, 42 each. -/
def chA (b off L : Nat) : List SlT := (List.range ((L + 41) / 42)).map fun k => (some ⟨b, off + 42 * k, none⟩, min 42 (L - 42 * k), min 42 (L - 42 * k))
theorem chA_length (b off L : Nat) : (chA b off L).length = (L + 41) / 42 := by unfold chA; rw [List.length_map, List.length_range]
theorem chA_get (b off L k : Nat) (h : k < (L + 41) / 42) : (chA b off L)[k]? = some (some ⟨b, off + 42 * k, none⟩, min 42 (L - 42 * k), min 42 (L - 42 * k)) := by
  unfold chA
  rw [List.getElem?_map, List.getElem?_range h]
  rfl
theorem chA_step (b off L k : Nat) (h : k < (L + 41) / 42) : (chA b off L).take (k + 1) = (chA b off L).take k ++ [(some ⟨b, off + 42 * k, none⟩, min 42 (L - 42 * k), min 42 (L - 42 * k))] := by
  rw [List.take_add_one, chA_get b off L k h]
  rfl
set_option maxRecDepth 100000 in
set_option maxHeartbeats 2000000 in
theorem chunk1_in (n : Nat) (hn : 1 ≤ n) (l Bs Bn b off L c : Nat) (A : Option Addr) (hA : 0 < L → A = some ⟨b, off, none⟩) (hLc : L ≤ c) (hL : L ≤ 100000) (J : List SlT → World → Prop)
    (_ : c ≤ 9223372036854775807)
    (w : World) (hs : w.cell? ⟨Bs, 0, none⟩ = some (.slice A L c)) (h42 : w.cell? ⟨Bn, 0, none⟩ = some (.int .i64 42)) (hBs : Bs < w.heap.size) (hBn : Bn < w.heap.size) (hJb : ∀ s W', J s W' → Below w.heap.size w W')
    (hY : ∀ pre x W, J pre W → pre.length < (L + 41) / 42 → YieldAt Fence.wide (n - 1) Tryd.prog l #[encSl x] W fun e W' => e = .returned (.bool true) ∧ J (pre ++ [x]) W' ∧ KeepsWalks W W')
    (W : World) (hJ : AbidesFrom W.heap.size J) (h0 : J [] W) :
    CallsIn Fence.wide n Tryd.prog 37 #[.func (.yield l) #[] #[], .pointer (some ⟨Bs, 0, none⟩), .pointer (some ⟨Bn, 0, none⟩)] W fun e W' => (∃ v, e = .returned v) ∧ ∃ ss : List SlT, ss = chA b off L ∧ J ss W' := by
  have cells : ∀ s W', J s W' → W'.cell? ⟨Bs, 0, none⟩ = some (.slice A L c) ∧ W'.cell? ⟨Bn, 0, none⟩ = some (.int .i64 42) := fun s W' h =>
    ⟨((hJb s W' h).cell (p := ⟨Bs, 0, none⟩) hBs).trans hs, ((hJb s W' h).cell (p := ⟨Bn, 0, none⟩) hBn).trans h42⟩
  have HC := Lib.hid cells
  have HA := Lib.hid hA
  clear cells hs h42 hA
  refine callsIn_of_wp Tryd.func37 rfl trivial ?_ rfl
  simp only [Tryd.ntmps37, List.size_toArray, List.length_cons, List.length_nil, Nat.reduceAdd, Nat.reduceSub, Array.replicate_succ, Array.replicate_zero, List.push_toArray, List.append_toArray, List.nil_append, List.cons_append]
  gi_wp2
  gi_loopw [4] (fun iv wr => ∃ k : Nat, k ≤ (L + 41) / 42 ∧ iv = .int .i64 ((42 * k : Nat) : Int) ∧ J ((chA b off L).take k) wr) (fun iv _ => (L + 42) - (intOf iv).toNat)
  case atStart => exact ⟨0, Nat.zero_le _, rfl, by rw [List.take_zero]; exact h0⟩
  case round =>
    obtain ⟨k, hk, rfl, hJk⟩ := hrel
    obtain ⟨q0, q1⟩ := HC.out _ _ hJk
    by_cases hkL : k < (L + 41) / 42
    · have hA := HA.out (by omega)
      subst hA
      obtain ⟨i, hi⟩ : ∃ i, i = 42 * k := ⟨_, rfl⟩
      rw [← hi]
      have d1 : decide ((i : Int) < (L : Int)) = true := by rw [decide_eq_true_eq]; omega
      have hiL : i < L := by omega
      have hci : ¬ c = i := by omega
      obtain ⟨m, hm⟩ : ∃ m, m = min 42 (L - i) := ⟨_, rfl⟩
      have HI := Lib.hid hi
      have HC2 := Lib.hid HC.out
      have HM := Lib.hid hm
      have HY := Lib.hid hY
      have HJ := Lib.hid hJ
      have HJb := Lib.hid hJb
      have HJk := Lib.hid hJk
      have q2 : wr.drew.cell? ⟨Bs, 0, none⟩ = some (.slice (some ⟨b, off, none⟩) L c) := q0
      have q3 : wr.drew.cell? ⟨Bn, 0, none⟩ = some (.int .i64 42) := q1
      clear hi hm hY hJ hJb hJk h0 HC HA
      gi_wp2
      gi_big_region
      rw [show (if ((L - i : Nat) : Int) < 42 then ((L - i : Nat) : Int) else 42) = (m : Int) by rw [HM.out]; split <;> omega]
      have J1 := HJ.out _ wr wr.drew none HJk.out ⟨rfl, rfl, rfl, Nat.le_refl _, fun _ _ _ => rfl⟩ (fun r e => by cases e)
      have hmL : i + m ≤ L := by rw [HM.out]; omega
      have hm0 : 0 < m := by rw [HM.out]; omega
      obtain ⟨fn, tmps, assign, body, hy, hR⟩ := HY.out ((chA b off L).take k) (some ⟨b, off + i, none⟩, m, m) wr.drew J1 (by rw [List.length_take, chA_length]; omega)
      have HJ1 := Lib.hid J1
      clear J1
      gi_wp2
      refine hR.mono ?_
      rintro e W3 ⟨rfl, hJ3, hk3⟩
      obtain ⟨q4, q5⟩ := HC2.out _ _ hJ3
      have HJ3 := Lib.hid hJ3
      clear hJ3 hk3 hR hy q0 q1 q2 q3
      have h42k : 42 * (k + 1) = i + 42 := by have := HI.out; omega
      gi_wp2
      go_roundw
      case rel => exact ⟨k + 1, by omega, by rw [h42k]; go_num, by rw [chA_step _ _ _ _ hkL, ← HI.out, ← HM.out]; exact HJ3.out⟩
      case measure => simp [intOf]; omega
    · have d1 : decide (((42 * k : Nat) : Int) < (L : Int)) = false := by rw [decide_eq_false_iff_not]; omega
      have hk2 : k = (L + 41) / 42 := by omega
      have hJk2 := hJk
      rw [List.take_of_length_le (by rw [chA_length]; omega)] at hJk2
      have HJ := Lib.hid hJk2
      clear hJk hJk2 h0 hJ hY hJb HC HA
      gi_wp2
      go_end0
      exact ⟨⟨_, rfl⟩, _, rfl, HJ.out⟩
theorem chunk_gives (n : Nat) (hn : 1 ≤ n) (Bs Bn b off L c : Nat) (A : Option Addr) (hA : 0 < L → A = some ⟨b, off, none⟩) (hLc : L ≤ c) (hL : L ≤ 100000) (hc : c ≤ 9223372036854775807)
    (w : World) (hs : w.cell? ⟨Bs, 0, none⟩ = some (.slice A L c)) (h42 : w.cell? ⟨Bn, 0, none⟩ = some (.int .i64 42)) (hBs : Bs < w.heap.size) (hBn : Bn < w.heap.size) :
    SeqGivesB Fence.wide n Tryd.prog 37 #[.pointer (some ⟨Bs, 0, none⟩), .pointer (some ⟨Bn, 0, none⟩)] encSl (fun ss => ss = chA b off L) ((L + 41) / 42) w := fun l J W _ hJ hJb hY h0 =>
  chunk1_in n hn l Bs Bn b off L c A hA hLc hL J hc w hs h42 hBs hBn hJb hY W hJ h0
set_option maxHeartbeats 1000000 in
theorem chunk_any (A : Option Addr) (L c : Nat) (w : World) : Calls Tryd.prog 28 #[.slice A L c, .int .i64 42] w fun e w' =>
    e = .returned (.func (.func 37) #[] #[.pointer (some ⟨w.heap.size, 0, none⟩), .pointer (some ⟨w.heap.size + 1, 0, none⟩)]) ∧ w'.cell? ⟨w.heap.size, 0, none⟩ = some (.slice A L c) ∧ w'.cell? ⟨w.heap.size + 1, 0, none⟩ = some (.int .i64 42) ∧ w'.heap.size = w.heap.size + 2 ∧ Below w.heap.size w w' := by
  go_enter Tryd.func28, Tryd.ntmps28
  go_wp2
  go_ret
  have k0 := (Blk.new w 22 #[.slice A L c]).alloc (.cells #[.int .i64 42] 3)
  have k1 := Blk.new (w.alloc (.cells #[.slice A L c] 22)) 3 #[.int .i64 42]
  rw [World.size_alloc] at k1
  exact ⟨rfl, k0.cell 0, k1.cell 0, by simp, below_trans (alloc_below _ _) (alloc_below _ _)⟩
end Go.Proofs.YtfilelgbffbnlaaDoor
