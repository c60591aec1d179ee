/- Contracts of package crc: the effect of one byte of 0. -/
import Derived.Test.YtalcgkfnjhlnoaaDoorCrcF
namespace Go.Proofs.YtalcgkfnjhlnoaaDoor
open Go.RowKit

def zeroM (r : Nat) : Nat := stepM r 0
theorem zeroM_lin : Lin zeroM :=
  ⟨fun a b => by unfold zeroM stepM; rw [Nat.xor_zero, Nat.xor_zero, Nat.xor_zero, hv_xor, hv_xor], fun a ha => stepM_lt ha (by decide)⟩
theorem pow_wrap (k : Nat) (hp : 2 ^ k < 4294967296) : ((2 : Int) ^ k % 4294967296) = ((2 ^ k : Nat) : Int) := by
  rw [Int.natCast_pow]
  refine Int.emod_eq_of_lt ?_ ?_
  · exact Int.pow_nonneg (by decide)
  · have h := Int.ofNat_lt.2 hp
    rw [Int.natCast_pow] at h
    exact h
structure On (w0 : World) (b : Nat) (T : Nat → Nat) (k : Nat) (w : World) : Prop where
  res : Blk w b 47 (effK T 0)
  new : Blk w (b + 1) 47 (effK T k)
  keep : Below b w0 w
theorem On.step {w0 : World} {b : Nat} {T : Nat → Nat} {k : Nat} {w : World} (h : On w0 b T k w) (hk : k < 32) : On w0 b T (k + 1) (w.setCell ⟨b + 1, k, none⟩ (.int .u32 (T (2 ^ k) : Int))) :=
  ⟨h.res.far (by simp) _, by rw [← effK_set T k hk]; exact h.new.set_ k _, h.keep.setCell (by simp) _⟩
set_option maxRecDepth 100000 in
set_option maxHeartbeats 400000 in
theorem oneZero_any (w : World) (hh : HalvesAt w) :
    Calls Tryd.prog 24 #[] w fun e w' => e = .returned (.agg (effA zeroM)) ∧ Below w.heap.size w w' := by
  have HH := Lib.hid hh
  clear hh
  go_enter Tryd.func24, Tryd.ntmps24
  go_wp2_with fail
  go_loopw [3] (fun i wr => ∃ k : Nat, k ≤ 32 ∧ i = .int .i64 (k : Int) ∧ On w w.heap.size zeroM k wr) (fun i _ => 32 - (intOf i).toNat)
  case atStart => exact ⟨0, by omega, rfl, ⟨Blk.alloc (Blk.new w _ (effK zeroM 0)) _, by have := Blk.new (w.alloc (.cells (effK zeroM 0) 47)) 47 (effK zeroM 0); rw [World.size_alloc] at this; exact this,
      ((Below.refl _ _).alloc (Nat.le_refl _) _).alloc (by rw [World.size_alloc]; omega) _⟩⟩
  case round =>
    obtain ⟨k, hk, rfl, tw⟩ := hrel
    have TW := Lib.hid tw
    clear tw
    by_cases hlt : k < 32
    · have PT := Lib.hid (step_any (2 ^ k) 0 wr (Nat.pow_lt_pow_right (by decide) hlt) (by decide) (HH.out.below TW.out.keep HH.out.pos))
      have hcell := (TW.out.new.cell k).trans (effK_get _ _ _ hlt)
      have hfr := TW.out.new.frozen k
      go_wp2_with fail
      have hp : 2 ^ k < 4294967296 := Nat.pow_lt_pow_right (n := 32) (by decide) hlt
      have e := pow_wrap k hp
      rw [e]
      refine PT.out.mono ?_; rintro e w1 ⟨rfl, rfl⟩
      clear e hp
      go_wp2
      exact ⟨⟨k + 1, by omega, by go_num, TW.out.step hlt⟩, by simp [intOf]; omega⟩
    · obtain rfl : k = 32 := by omega
      have h1 : (effK zeroM 32).all (·.oneCell') = true := by simp [effK, Value.oneCell']
      have hold : (effK zeroM 0).size = (effK zeroM 32).size := by rw [effK_size, effK_size]
      have hi2 : (Tryd.prog.info? 47).map (·.size) = some (effK zeroM 32).size := by rw [effK_size]; kernel_rfl
      have H1 := Lib.hid h1
      have HOLD := Lib.hid hold
      have HI2 := Lib.hid hi2
      have EA := Lib.hid (effK_all zeroM)
      have NEW := Lib.hid TW.out.new
      clear h1 hold hi2
      generalize effK zeroM 32 = cs2 at H1 HOLD HI2 EA NEW
      go_wp2_with (first | (refine wpList_load_row rfl 47 _ rfl (w.heap.size + 1) rfl 47 cs2 (0, 0) _ NEW.out Tryd.underlying47 rfl HI2.out ?_) | (refine wpList_store_row rfl 47 _ _ rfl w.heap.size cs2 rfl rfl 47 _ TW.out.res HI2.out HOLD.out H1.out ?_))
      refine bodyPost_ret (v := .agg cs2) (results_cell_row rfl _ _ w.heap.size 47 cs2 (0, 0) _ rfl (setRow_heap _ _ _ _ _ _ TW.out.res) Tryd.underlying47 rfl HI2.out) rfl ?_
      rw [EA.out]
      exact ⟨rfl, below_setRow TW.out.keep (Nat.le_refl _) _⟩
end Go.Proofs.YtalcgkfnjhlnoaaDoor
