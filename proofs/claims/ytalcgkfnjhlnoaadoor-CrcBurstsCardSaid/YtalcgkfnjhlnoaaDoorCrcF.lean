/- Contracts of package crc: the effect of twice as many bytes of 0. -/
import Derived.Test.YtalcgkfnjhlnoaaDoorCrcE
import Derived.Laws.CopyOwn
namespace Go.Proofs.YtalcgkfnjhlnoaaDoor
open Go.RowKit

theorem Lin.twice {T : Nat → Nat} (h : Lin T) : Lin (fun n => T (T n)) :=
  ⟨fun a b => by show T (T (a ^^^ b)) = _; rw [h.add, h.add], fun a ha => h.lt _ (h.lt a ha)⟩
/-- The first k of the 32 numbers, and 0 behind. -/
def effK (T : Nat → Nat) (k : Nat) : Array Value := ((List.range 32).map fun i => Value.int .u32 ((if i < k then T (2 ^ i) else 0 : Nat) : Int)).toArray
theorem effK_size (T : Nat → Nat) (k : Nat) : (effK T k).size = 32 := by simp [effK]
theorem effK_all (T : Nat → Nat) : effK T 32 = effA T := by
  unfold effK effA
  refine congrArg List.toArray (List.map_congr_left fun i hi => ?_)
  rw [if_pos (List.mem_range.1 hi)]
theorem effK_set (T : Nat → Nat) (k : Nat) (h : k < 32) : (effK T k).setIfInBounds k (.int .u32 (T (2 ^ k) : Int)) = effK T (k + 1) := by
  refine Array.ext_getElem? fun i => ?_
  rw [Array.getElem?_setIfInBounds]
  unfold effK
  simp only [List.getElem?_toArray, List.getElem?_map, List.size_toArray, List.length_map, List.length_range]
  by_cases hi : i < 32
  · rw [List.getElem?_range hi]
    by_cases e : k = i
    · subst e
      simp [hi]
    · have : (i < k + 1) ↔ (i < k) := by omega
      simp [e, this]
  · have : (List.range 32)[i]? = none := by simp; omega
    rw [this]
    by_cases e : k = i
    · omega
    · simp [e]
theorem effK_get (T : Nat → Nat) (k i : Nat) (h : i < 32) : (effK T k)[i]? = some (.int .u32 ((if i < k then T (2 ^ i) else 0 : Nat) : Int)) := by
  unfold effK
  rw [List.getElem?_toArray, List.getElem?_map, List.getElem?_range h]
  rfl
/-- What holds while the numbers are laid: the box, the result's cell, the new numbers. -/
structure Tw (w0 : World) (b : Nat) (cs : Array Value) (T2 : Nat → Nat) (k : Nat) (w : World) : Prop where
  box : Blk w b 47 cs
  res : Blk w (b + 1) 47 (effK T2 0)
  new : Blk w (b + 1 + 1) 47 (effK T2 k)
  keep : Below b w0 w
theorem Tw.step {w0 : World} {b : Nat} {cs : Array Value} {T2 : Nat → Nat} {k : Nat} {w : World} (h : Tw w0 b cs T2 k w) (hk : k < 32) : Tw w0 b cs T2 (k + 1) (w.setCell ⟨b + 1 + 1, k, none⟩ (.int .u32 (T2 (2 ^ k) : Int))) :=
  ⟨h.box.far (by simp; omega) _, h.res.far (by simp) _, by rw [← effK_set T2 k hk]; exact h.new.set_ k _, h.keep.setCell (by simp; omega) _⟩
theorem Tw.below {w0 : World} {b : Nat} {cs : Array Value} {T2 : Nat → Nat} {k : Nat} {w w1 : World} (h : Tw w0 b cs T2 k w) (hb : Below w.heap.size w w1) (h0 : b ≤ w0.heap.size) : Tw w0 b cs T2 k w1 :=
  ⟨h.box.below hb h.box.lt, h.res.below hb h.res.lt, h.new.below hb h.new.lt, h.keep.trans (hb.mono (Nat.le_trans h0 h.keep.size))⟩
set_option maxRecDepth 100000 in
set_option maxHeartbeats 400000 in
theorem twice_any (T : Nat → Nat) (w : World) (hT : Lin T) :
    Calls Tryd.prog 26 #[.agg (effA T)] w fun e w' => e = .returned (.agg (effA (fun n => T (T n)))) ∧ Below w.heap.size w w' := by
  have hsz := effA_size T
  have hi : (Tryd.prog.info? 47).map (·.size) = some (effA T).size := by rw [hsz]; kernel_rfl
  have HI := Lib.hid hi
  have hget := Lib.hid (effA_get T)
  have HT := Lib.hid hT
  clear hT hsz hi
  obtain ⟨cs, hcs⟩ : ∃ cs, cs = effA T := ⟨_, rfl⟩
  rw [← hcs] at HI hget ⊢
  have HC := Lib.hid hcs
  clear hcs
  go_enter Tryd.func26, Tryd.ntmps26
  go_wp2_with (refine wpList_load_row rfl 47 _ rfl w.heap.size rfl 47 cs (0, 0) _ (Blk.alloc (Blk.alloc (Blk.new w 47 cs) _) _) Tryd.underlying47 rfl HI.out ?_)
  have T2L : ∀ k, k < 32 → T (2 ^ k) < 4294967296 := fun k hk => HT.out.lt _ (Nat.pow_lt_pow_right (by decide) hk)
  go_loopw [7] (fun i wr => ∃ k : Nat, k ≤ 32 ∧ i = .int .i64 (k : Int) ∧ Tw w w.heap.size cs (fun n => T (T n)) k wr) (fun i _ => 32 - (intOf i).toNat)
  case atStart => exact ⟨0, by omega, rfl, ⟨Blk.alloc (Blk.alloc (Blk.new w _ cs) _) _, Blk.alloc (by have := Blk.new (w.alloc (.cells cs 47)) 47 (effK (fun n => T (T n)) 0); rw [World.size_alloc] at this; exact this) _, by have := Blk.new ((w.alloc (.cells cs 47)).alloc (.cells (effK (fun n => T (T n)) 0) 47)) 47 (effK (fun n => T (T n)) 0); rw [World.size_alloc, World.size_alloc] at this; exact this,
      (((Below.refl _ _).alloc (Nat.le_refl _) _).alloc (by rw [World.size_alloc]; omega) _).alloc (by rw [World.size_alloc, World.size_alloc]; omega) _⟩⟩
  case round =>
    obtain ⟨k, hk, rfl, tw⟩ := hrel
    have TW := Lib.hid tw
    clear tw
    by_cases hlt : k < 32
    · have PT := Lib.hid (fun W => to_any T (T (2 ^ k)) W (T2L k hlt) HT.out)
      rw [← HC.out] at PT
      clear T2L
      go_wp2
      rw [index_agg cs k _ _ hlt (hget.out k hlt)]
      simp only [Result.andThen]
      rw [Oper.upon_value]
      go_wp2_with (refine wpList_load_row rfl 47 _ rfl w.heap.size rfl 47 cs (0, 0) _ TW.out.box Tryd.underlying47 rfl HI.out ?_)
      refine (PT.out _).mono ?_; rintro e w1 ⟨rfl, b1⟩
      have TW1 := Lib.hid (TW.out.below b1 (Nat.le_refl _))
      have hcell := (TW1.out.new.cell k).trans (effK_get _ _ _ hlt)
      have hfr := TW1.out.new.frozen k
      clear b1
      go_wp2
      exact ⟨⟨k + 1, by omega, by go_num, TW1.out.step hlt⟩, by simp [intOf]; omega⟩
    · obtain rfl : k = 32 := by omega
      have h1 : (effK (fun n => T (T n)) 32).all (·.oneCell') = true := by simp [effK, Value.oneCell']
      have hold : (effK (fun n => T (T n)) 0).size = (effK (fun n => T (T n)) 32).size := by rw [effK_size, effK_size]
      have hi2 : (Tryd.prog.info? 47).map (·.size) = some (effK (fun n => T (T n)) 32).size := by rw [effK_size]; kernel_rfl
      have H1 := Lib.hid h1
      have HOLD := Lib.hid hold
      have HI2 := Lib.hid hi2
      have EA := Lib.hid (effK_all (fun n => T (T n)))
      have NEW := Lib.hid TW.out.new
      clear h1 hold hi2 T2L
      generalize effK (fun n => T (T n)) 32 = cs2 at H1 HOLD HI2 EA NEW
      go_wp2_with (first | (refine wpList_load_row rfl 47 _ rfl (w.heap.size + 1 + 1) rfl 47 cs2 (0, 0) _ NEW.out Tryd.underlying47 rfl HI2.out ?_) | (refine wpList_store_row rfl 47 _ _ rfl (w.heap.size + 1) cs2 rfl rfl 47 _ TW.out.res HI2.out HOLD.out H1.out ?_))
      refine bodyPost_ret (v := .agg cs2) (results_cell_row rfl _ _ (w.heap.size + 1) 47 cs2 (0, 0) _ rfl (setRow_heap _ _ _ _ _ _ TW.out.res) Tryd.underlying47 rfl HI2.out) rfl ?_
      rw [EA.out]
      exact ⟨rfl, below_setRow TW.out.keep (by omega) _⟩
end Go.Proofs.YtalcgkfnjhlnoaaDoor
