/- Contracts of a disk: List of a disk with one file. -/
import Derived.Test.YtfmmdnjoichifaaFiAa
import Derived.Test.YtfmmdnjoichifaaFiQ
namespace Go.Proofs.Ytfmmdnjoichifaa
open Go.RowKit Go.Sort

theorem info_flS : (Try.prog.info? 102).map (·.size) = some 2 := by kernel_rfl
theorem info_fl3 : (Try.prog.info? 102).map (fun i => (i.zero, i.size, i.bytes)) = some (some (.agg #[.string ⟨#[]⟩, .int .i64 0]), 2, 24) := by kernel_rfl
theorem zero_fl (w : World) : (zeroValue 102).run Try.prog w = .ok (.agg #[.string ⟨#[]⟩, .int .i64 0]) w := by kernel_rfl
theorem flV_build (n : Nm) (i : Int) (w : World) : (Instr.build 102 #[(0, strV n), (1, .int .i64 i)]).run Try.prog w = .ok (.agg #[strV n, .int .i64 i]) w := by kernel_rfl
section
variable {w w' : World} {base d m : Nat} {D : Dk}
set_option maxRecDepth 100000 in
set_option maxHeartbeats 2000000 in
theorem list_one (h : DiskR w base d m D) {f : Fi} (hf : D.fs = [f]) : Calls Try.prog 18 #[ptD d] w fun e w' => ∃ A c, e = .returned (.slice A 1 c) ∧ Below w.heap.size w w' := by
  have P1 := Lib.hid (unmade_any h)
  obtain ⟨pA, pc, -, -, c1, -⟩ := h.cells
  have H := Lib.hid h
  have HM := Lib.hid h.map
  have HFS := Lib.hid hf
  have hff : f ∈ D.fs := by rw [hf]; exact List.mem_singleton.2 rfl
  have HFF := Lib.hid hff
  have hsm := (h.small f hff).1
  clear h hf hff
  go_enter Try.func18, Try.ntmps18
  go_wp2_with fail
  refine P1.out.mono ?_; rintro e w' ⟨rfl, rfl⟩
  go_wp2_with (at_range; refine wpList_rangeR rfl (.tmp 11) rfl rfl HM.out ?_; intro w0 hr0 hg0 hs0; have R0 := Lib.hid hr0; have G0 := Lib.hid (grown_below hg0); clear hr0 hg0 hs0)
  go_frame
  go_loopw [3] (fun x wr => ∃ (left : Nm → Bool) (cnt : Nat), RangeR wr m w.heap.size (nmOf D.fs) left cnt ∧ ((left f.name = true ∧ x = .slice none 0 0) ∨ (left f.name = false ∧ ∃ A c, x = .slice A 1 c)) ∧ Below w.heap.size w wr) (fun _ wr => wr.rangeLeft m w.heap.size)
  case atStart => exact ⟨_, _, R0.out, .inl ⟨by rw [lookO_mem (R0.out.mapR.pw) (b := f.blk) (by unfold nmOf; exact List.mem_map.2 ⟨f, HFF.out, rfl⟩)]; rfl, rfl⟩, G0.out⟩
  case round =>
    obtain ⟨left, cnt, hr, hx, hb⟩ := hrel
    have HR := Lib.hid hr
    have HB := Lib.hid hb
    have HX := Lib.hid hx
    clear hr hb hx
    go_wp2_with (at_next; refine wpList_nextR rfl (.tmp 12) rfl rfl HR.out ?_ ?_)
    · intro hc0 hl0
      rcases HX.out with ⟨h1, -⟩ | ⟨-, A, c, rfl⟩
      · rw [hl0] at h1; cases h1
      · clear hc0 hl0 HR HX
        go_wp2_with fail
        refine (sort_one A c _ _).mono ?_; rintro e w' ⟨rfl, rfl⟩
        go_wp2_with fail
        go_ret
        exact ⟨A, c, rfl, HB.out⟩
    · intro key b w1 cnt' hkb hlk hr1 hlt hg1 hs1 hen
      obtain ⟨f1, hf1, rfl, rfl⟩ := lookO_inv hkb
      obtain rfl : f1 = f := by rw [HFS.out] at hf1; exact List.mem_singleton.1 hf1
      rcases HX.out with ⟨-, rfl⟩ | ⟨h1, -⟩
      · have B1 := Lib.hid (show Below w.heap.size w w1 from HB.out.grown hg1 HB.out.size fun i hi => by injection hi with hi; omega)
        obtain ⟨nA, nc, kA, kc, f0, -, n0, f2, -⟩ := H.out.file HFF.out
        have N1 := Lib.hid (show w1.cell? ⟨f1.blk, 0, none⟩ = some (strV f1.name) from (B1.out.cell (p := ⟨f1.blk, 0, none⟩) f0).trans n0)
        have K1 := Lib.hid (show w1.cell? ⟨f1.blk, 1, none⟩ = some (.slice nA f1.now.length nc) from (B1.out.cell (p := ⟨f1.blk, 1, none⟩) f0).trans f2)
        have R1 := Lib.hid hr1
        have HM1 := Lib.hid (show w1.rangeLeft m w.heap.size < wr.rangeLeft m w.heap.size by rw [hr1.left_eq, HR.out.left_eq]; exact hlt)
        clear hr1 hlt hg1 hs1 hkb hlk n0 f2 f0 HR HX
        go_wp2_with fail
        refine wp_region_J RT [12] (n := 14) (by kernel_rfl) rfl ?_
        refine batchJ RT.refl [0, 1, 2, 3, 4, 5, 6, 7, 8, 9, 10] (fuel := 3) rfl (by kernel_rfl) (by kernel_rfl) (fun _ _ d _ _ h => by cases d <;> exact h) ?_
        (repeat (first | ((with_reducible apply wq0); rfl; rfl; rfl; intro K hK; go_big_quiet_op; refine hK _ ?_; clear hK K) | ((with_reducible apply wq1); rfl; rfl; rfl; rfl; rfl; rfl; intro K hK; go_big_quiet_op; refine hK _ ?_; clear hK K) | ((with_reducible apply wqs); rfl; rfl; rfl; rfl; rfl; rfl; simp only [Act.put, List.setIfInBounds_toArray, List.set_cons_zero, List.set_cons_succ]) | ((with_reducible apply wqu); rfl; rfl; rfl; rfl; rfl; (first | simp only [same, Act.put, List.setIfInBounds_toArray, List.set_cons_zero, List.set_cons_succ] | simp only [Act.put, List.setIfInBounds_toArray, List.set_cons_zero, List.set_cons_succ]))))
        refine wqIdx_nil_check rfl rfl rfl rfl ?_; simp only [Act.put, List.setIfInBounds_toArray, List.set_cons_zero, List.set_cons_succ]
        (repeat (first | ((with_reducible apply wq0); rfl; rfl; rfl; intro K hK; go_big_quiet_op; refine hK _ ?_; clear hK K) | ((with_reducible apply wq1); rfl; rfl; rfl; rfl; rfl; rfl; intro K hK; go_big_quiet_op; refine hK _ ?_; clear hK K) | ((with_reducible apply wqs); rfl; rfl; rfl; rfl; rfl; rfl; simp only [Act.put, List.setIfInBounds_toArray, List.set_cons_zero, List.set_cons_succ]) | ((with_reducible apply wqu); rfl; rfl; rfl; rfl; rfl; (first | simp only [same, Act.put, List.setIfInBounds_toArray, List.set_cons_zero, List.set_cons_succ] | simp only [Act.put, List.setIfInBounds_toArray, List.set_cons_zero, List.set_cons_succ]))))
        refine wqIdx_load rfl rfl rfl rfl (fun W hW => run_load1 (fun _ => by kernel_rfl) (keep_c hW (N1.out))) ?_; simp only [Act.put, List.setIfInBounds_toArray, List.set_cons_zero, List.set_cons_succ]
        (repeat (first | ((with_reducible apply wq0); rfl; rfl; rfl; intro K hK; go_big_quiet_op; refine hK _ ?_; clear hK K) | ((with_reducible apply wq1); rfl; rfl; rfl; rfl; rfl; rfl; intro K hK; go_big_quiet_op; refine hK _ ?_; clear hK K) | ((with_reducible apply wqs); rfl; rfl; rfl; rfl; rfl; rfl; simp only [Act.put, List.setIfInBounds_toArray, List.set_cons_zero, List.set_cons_succ]) | ((with_reducible apply wqu); rfl; rfl; rfl; rfl; rfl; (first | simp only [same, Act.put, List.setIfInBounds_toArray, List.set_cons_zero, List.set_cons_succ] | simp only [Act.put, List.setIfInBounds_toArray, List.set_cons_zero, List.set_cons_succ]))))
        refine wqIdx_nil_check rfl rfl rfl rfl ?_; simp only [Act.put, List.setIfInBounds_toArray, List.set_cons_zero, List.set_cons_succ]
        (repeat (first | ((with_reducible apply wq0); rfl; rfl; rfl; intro K hK; go_big_quiet_op; refine hK _ ?_; clear hK K) | ((with_reducible apply wq1); rfl; rfl; rfl; rfl; rfl; rfl; intro K hK; go_big_quiet_op; refine hK _ ?_; clear hK K) | ((with_reducible apply wqs); rfl; rfl; rfl; rfl; rfl; rfl; simp only [Act.put, List.setIfInBounds_toArray, List.set_cons_zero, List.set_cons_succ]) | ((with_reducible apply wqu); rfl; rfl; rfl; rfl; rfl; (first | simp only [same, Act.put, List.setIfInBounds_toArray, List.set_cons_zero, List.set_cons_succ] | simp only [Act.put, List.setIfInBounds_toArray, List.set_cons_zero, List.set_cons_succ]))))
        refine wqIdx_load rfl rfl rfl rfl (fun W hW => run_load1 (fun _ => by kernel_rfl) (keep_c hW (K1.out))) ?_; simp only [Act.put, List.setIfInBounds_toArray, List.set_cons_zero, List.set_cons_succ]
        (repeat (first | ((with_reducible apply wq0); rfl; rfl; rfl; intro K hK; go_big_quiet_op; refine hK _ ?_; clear hK K) | ((with_reducible apply wq1); rfl; rfl; rfl; rfl; rfl; rfl; intro K hK; go_big_quiet_op; refine hK _ ?_; clear hK K) | ((with_reducible apply wqs); rfl; rfl; rfl; rfl; rfl; rfl; simp only [Act.put, List.setIfInBounds_toArray, List.set_cons_zero, List.set_cons_succ]) | ((with_reducible apply wqu); rfl; rfl; rfl; rfl; rfl; (first | simp only [same, Act.put, List.setIfInBounds_toArray, List.set_cons_zero, List.set_cons_succ] | simp only [Act.put, List.setIfInBounds_toArray, List.set_cons_zero, List.set_cons_succ]))))
        refine wqIdx_build rfl rfl rfl (fun w => flV_build f1.name (f1.now.length : Int) w) rfl ?_; simp only [Act.put, List.setIfInBounds_toArray, List.set_cons_zero, List.set_cons_succ]
        refine wqIdx_nil ?_
        refine wpAnyJ_sole (i := 11) rfl (by kernel_rfl) (fun K hK => ?_); rw [if_pos (wanted0 rfl _)]
        refine wp_buildSlice_one (.tmp 27) rfl (cs := encPd (f1.name, f1.now.length)) rfl Try.underlying37 info_flS (by decide) (by decide) (layPd.len _) (zero_fl _) rfl ?_
        refine hK _ _ ⟨fun _ => al_below _ _, trivial⟩ ?_
        clear hK K
        simp only [Act.put, List.setIfInBounds_toArray, List.set_cons_zero, List.set_cons_succ]
        have HRA := Lib.hid (reads_oneK layPd w1.drew (f1.name, f1.now.length) 102)
        have BA := Lib.hid (show Below w.heap.size w (w1.drew.alloc (.cells (encPd (f1.name, f1.now.length)).toArray 102)) from (dr_below B1.out).alloc B1.out.size _)
        have HOA := Lib.hid (own_nil_k layPd (w1.drew.alloc (.cells (encPd (f1.name, f1.now.length)).toArray 102)) w.heap.size 102)
        refine wpAnyJ_sole (i := 12) rfl (by kernel_rfl) (fun K hK => ?_); rw [if_pos (wanted0 rfl _)]
        refine wp_appK layPd (ys := [(f1.name, f1.now.length)]) (.tmp 17) (.tmp 28) _ rfl Try.underlying37 info_fl3 rfl HOA.out HRA.out 1 rfl rfl (by omega) (by decide) BA.out.size ?_
        intro A5 c5 w5 o5 gr5
        refine hK _ _ ⟨fun hc => absurd (List.mem_singleton.2 rfl) hc, trivial⟩ ?_
        clear hK K
        simp only [Act.put, List.setIfInBounds_toArray, List.set_cons_zero, List.set_cons_succ]
        have b5 : Below w1.heap.size w1 w5 := (show Below w1.heap.size w1 (w1.drew.alloc (.cells (encPd (f1.name, f1.now.length)).toArray 102)) from (dr_below (Below.refl _ _)).alloc (Nat.le_refl _) _).grown (Grew.by_ gr5) (by rw [World.size_alloc]; exact Nat.le_succ _) (fun i hi => by cases hi)
        have R5 := Lib.hid (R1.out.below b5)
        have HM5 := Lib.hid (show w5.rangeLeft m w.heap.size < wr.rangeLeft m w.heap.size from by rw [R5.out.left_eq, ← R1.out.left_eq]; exact HM1.out)
        have B5 := Lib.hid (B1.out.trans (b5.mono B1.out.size))
        clear o5 gr5 b5
        refine batchJ RT.refl [13] (fuel := 0) rfl (by kernel_rfl) (by kernel_rfl) (fun _ _ d _ _ h => by cases d <;> exact h) ?_
        (repeat (first | ((with_reducible apply wq0); rfl; rfl; rfl; intro K hK; go_big_quiet_op; refine hK _ ?_; clear hK K) | ((with_reducible apply wq1); rfl; rfl; rfl; rfl; rfl; rfl; intro K hK; go_big_quiet_op; refine hK _ ?_; clear hK K) | ((with_reducible apply wqs); rfl; rfl; rfl; rfl; rfl; rfl; simp only [Act.put, List.setIfInBounds_toArray, List.set_cons_zero, List.set_cons_succ]) | ((with_reducible apply wqu); rfl; rfl; rfl; rfl; rfl; (first | simp only [same, Act.put, List.setIfInBounds_toArray, List.set_cons_zero, List.set_cons_succ] | simp only [Act.put, List.setIfInBounds_toArray, List.set_cons_zero, List.set_cons_succ]))))
        refine wqIdx_nil ?_
        refine wpAnyJ_done (by kernel_rfl) ?_ _
        go_wp2
        exact ⟨⟨_, cnt', R5.out, .inr ⟨by simp, A5, c5, rfl⟩, B5.out⟩, HM5.out⟩
      · rw [hlk] at h1; cases h1
end
end Go.Proofs.Ytfmmdnjoichifaa
