/- Contracts of a disk: sectors of one value. -/
import Derived.Test.YtfmmdnjoichifaaFiR
namespace Go.Proofs.Ytfmmdnjoichifaa
open Go.RowKit Go.Sort

section
variable {w w' : World} {base d m : Nat} {D : Dk}
/-- 64 bytes of one value. -/
def oneSec (c : UInt8) : Sec := ⟨List.replicate 64 c, by simp⟩
def halfS (c : UInt8) (k : Nat) : List Value := Byt (List.replicate k c ++ List.replicate (64 - k) 0)
theorem halfS_length (c : UInt8) (k : Nat) (h : k ≤ 64) : (halfS c k).length = 64 := by
  unfold halfS
  rw [Byt_length, List.length_append, List.length_replicate, List.length_replicate]
  omega
theorem halfS_set (c : UInt8) (k : Nat) (h : k < 64) : (halfS c k).set k (.int .u8 (c.toNat : Int)) = halfS c (k + 1) := by
  have e : 64 - k = 64 - (k + 1) + 1 := by omega
  unfold halfS
  rw [e, List.replicate_succ, List.replicate_succ', List.append_assoc, Byt_append, Byt_append, List.set_append_right _ _ (by rw [Byt_length, List.length_replicate]; exact Nat.le_refl _), Byt_length, List.length_replicate, Nat.sub_self]
  rfl
theorem sector_any (c : UInt8) (w : World) : Calls Try.prog 14 #[.int .u8 (c.toNat : Int)] w fun e w' =>
    ∃ A, e = .returned (.slice A 64 64) ∧ SecAt w' 0 A (oneSec c) ∧ Below w.heap.size w w' := by
  have hmk : ∀ w : World, (Instr.makeSlice 30 (.int .i64 64) (.int .i64 64)).run Try.prog w = .ok (.slice (some ⟨w.heap.size, 0, none⟩) 64 64) (w.alloc (.cells (halfS c 0).toArray 5)) := fun _ => by kernel_rfl
  have B0 := Lib.hid (al_below w (.cells (halfS c 0).toArray 5))
  have H0 := Lib.hid (heap_alloc_new w (.cells (halfS c 0).toArray 5))
  go_enter Try.func14, Try.ntmps14
  go_wp2_with fail
  go_loopw [4] (fun i wr => ∃ k : Nat, k ≤ 64 ∧ i = .int .i64 (k : Int) ∧ wr.heap[w.heap.size]? = some (.cells (halfS c k).toArray 5 (0, 0)) ∧ Below w.heap.size w wr) (fun i _ => 64 - (intOf i).toNat)
  case atStart => exact ⟨0, Nat.zero_le _, rfl, H0.out, B0.out⟩
  case round =>
    obtain ⟨k, hk, rfl, hh, hbw⟩ := hrel
    have HH := Lib.hid hh
    have BW := Lib.hid hbw
    clear hh hbw
    by_cases hlt : k < 64
    · have hb : Blk wr w.heap.size 5 (halfS c k).toArray := HH.out
      have hg := List.getElem?_eq_getElem (show k < (halfS c k).length by rw [halfS_length c k hk]; exact hlt)
      have kc : wr.cell? ⟨w.heap.size, k, none⟩ = some ((halfS c k)[k]'(by rw [halfS_length c k hk]; exact hlt)) := by rw [hb.cell k, List.getElem?_toArray]; exact hg
      have kf := hb.frozen k
      have N1 := Lib.hid (hb.set_ k (.int .u8 (c.toNat : Int)))
      have B1 := Lib.hid (BW.out.grown (row := some w.heap.size) (gr_set wr w.heap.size k (.int .u8 (c.toNat : Int))) BW.out.size (fun i hi => by injection hi with hi; omega))
      clear hb hg
      obtain ⟨old, ho⟩ : ∃ o, (halfS c k)[k]'(by rw [halfS_length c k hk]; exact hlt) = o := ⟨_, rfl⟩
      rw [ho] at kc
      clear ho
      go_wp2_with fail
      have n1 := N1.out
      rw [List.setIfInBounds_toArray, halfS_set c k hlt] at n1
      exact ⟨⟨k + 1, by omega, rfl, n1, B1.out⟩, by simp only [intOf]; omega⟩
    · obtain rfl : k = 64 := by omega
      go_wp2_with fail
      go_ret
      have hb : Blk wr w.heap.size 5 (halfS c 64).toArray := HH.out
      refine ⟨some ⟨w.heap.size, 0, none⟩, rfl, ⟨_, rfl, hb.lt, fun j u hj => ?_, .inr ⟨_, _, HH.out⟩⟩, BW.out⟩
      rw [show (⟨w.heap.size, 0, none⟩ : Addr).add j = ⟨w.heap.size, j, none⟩ from by simp [Addr.add]; exact fun h => h.symm, hb.cell j, List.getElem?_toArray]
      exact hj
end
end Go.Proofs.Ytfmmdnjoichifaa
