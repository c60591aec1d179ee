/- Contracts of a disk: Append. -/
import Derived.Test.YtfmmdnjoichifaaFiG
namespace Go.Proofs.Ytfmmdnjoichifaa
open Go.RowKit Go.Sort

section
variable {w : World} {base d m : Nat} {D : Dk}
theorem written_ok (h : DiskR w base d m D) {f : Fi} (hf : f ∈ D.fs) (ho : D.off = false) (A : Option Addr) (c : Nat) : Calls Try.prog 55 #[ptD d, strV f.name, .slice A 64 c] w fun e w' => e = .returned (.tuple #[ptD f.blk, .int .i64 0]) ∧ w = w' := by
  have P1 := Lib.hid (unmade_any h)
  have P2 := Lib.hid (reach_ok h hf ho)
  clear h hf ho
  go_enter Try.func55, Try.ntmps55
  go_wp2_with fail
  refine P1.out.mono ?_; rintro e w' ⟨rfl, rfl⟩
  go_wp2_with fail
  refine P2.out.mono ?_; rintro e w' ⟨rfl, rfl⟩
  go_wp2
  go_ret2
  exact ⟨rfl, rfl⟩
theorem written_off (h : DiskR w base d m D) (n : Nm) (ho : D.off = true) (A : Option Addr) (c : Nat) : Calls Try.prog 55 #[ptD d, strV n, .slice A 64 c] w fun e w' => e = .returned (.tuple #[.pointer none, .int .i64 50]) ∧ w = w' := by
  have P1 := Lib.hid (unmade_any h)
  have P2 := Lib.hid (reach_off h n ho)
  clear h ho
  go_enter Try.func55, Try.ntmps55
  go_wp2_with fail
  refine P1.out.mono ?_; rintro e w' ⟨rfl, rfl⟩
  go_wp2_with fail
  refine P2.out.mono ?_; rintro e w' ⟨rfl, rfl⟩
  go_wp2
  go_ret2
  exact ⟨rfl, rfl⟩
theorem written_nil (w : World) (n : Value) (A : Option Addr) (l c : Nat) : Calls Try.prog 55 #[.pointer none, n, .slice A l c] w fun e w' => e = .returned (.tuple #[.pointer none, .int .i64 6]) ∧ w = w' := by
  go_enter Try.func55, Try.ntmps55
  go_wp2_with fail
  refine (unmade_nil _).mono ?_; rintro e w' ⟨rfl, rfl⟩
  go_wp2_with fail
  refine (reach_nil _ _).mono ?_; rintro e w' ⟨rfl, rfl⟩
  go_wp2
  go_ret2
  exact ⟨rfl, rfl⟩
/-- A sector more of a file. -/
def apD (D : Dk) (f : Fi) (s : Sec) : Dk := { tick D with fs := updF D.fs { f with now := f.now ++ [s] }, pend := D.pend ++ [⟨f.blk, f.now.length, s⟩] }
set_option maxRecDepth 100000 in
set_option maxHeartbeats 2000000 in
theorem append_ok (h : DiskR w base d m D) {f : Fi} (hf : f ∈ D.fs) {s : Sec} {A : Option Addr} {c : Nat} (hs : SecAt w base A s) (ho : D.off = false) (hgo : goes D) (hu : (usedN D.fs : Int) < D.limit) (hn : f.now.length ≤ 16384) (hp : D.pend.length ≤ 1000000) (hbase : base ≤ w.heap.size) :
    Calls Try.prog 13 #[ptD d, strV f.name, .slice A 64 c] w fun e w' => e = .returned (.int .i64 0) ∧ DiskR w' base d m (apD D f s) ∧ DF base m w w' := by
  have b1 := al_below w (.cells #[ptD d] 23)
  have b2 := al_below (w.alloc (.cells #[ptD d] 23)) (.cells #[.slice A 64 c] 30)
  have X1 := Blk.alloc (Blk.new w 23 #[ptD d]) (.cells #[.slice A 64 c] 30)
  have X2 := Blk.new (w.alloc (.cells #[ptD d] 23)) 30 #[.slice A 64 c]
  rw [World.size_alloc] at X2
  have b12 := below_trans b1 b2
  have H2 := Lib.hid (h.below b12)
  have HS2 := Lib.hid (hs.below b12)
  have HX1 := Lib.hid X1
  have HX2 := Lib.hid X2
  have B12 := Lib.hid b12
  have P1 := Lib.hid (written_ok H2.out hf ho A c)
  have hx1 := X1.cell 0
  have hx2 := X2.cell 0
  have HF := Lib.hid hf
  have HO := Lib.hid ho
  have HGO := Lib.hid hgo
  have HU := Lib.hid hu
  have HN := Lib.hid hn
  have HP := Lib.hid hp
  have HB := Lib.hid hbase
  clear h hs b1 b2 b12 X1 X2 hf ho hgo hu hn hp hbase
  go_enter Try.func13, Try.ntmps13
  go_wp2_with fail
  refine P1.out.mono ?_; rintro e w' ⟨rfl, rfl⟩
  go_wp2_with fail
  have b3 := al_below ((w.alloc (.cells #[ptD d] 23)).alloc (.cells #[.slice A 64 c] 30)) (.cells #[ptD f.blk] 86)
  have X3 := Blk.new ((w.alloc (.cells #[ptD d] 23)).alloc (.cells #[.slice A 64 c] 30)) 86 #[ptD f.blk]
  have Y1 := HX1.out.alloc (.cells #[ptD f.blk] 86)
  have Y2 := HX2.out.alloc (.cells #[ptD f.blk] 86)
  have H3 := H2.out.below b3
  have S3 := HS2.out.below b3
  have B3 := below_trans B12.out b3
  obtain ⟨w3, hw3⟩ : ∃ w3, w3 = ((w.alloc (.cells #[ptD d] 23)).alloc (.cells #[.slice A 64 c] 30)).alloc (.cells #[ptD f.blk] 86) := ⟨_, rfl⟩
  rw [← hw3] at X3 Y1 Y2 H3 S3 B3 ⊢
  obtain ⟨gf, hgf⟩ : ∃ gf, gf = ((w.alloc (.cells #[ptD d] 23)).alloc (.cells #[.slice A 64 c] 30)).heap.size := ⟨_, rfl⟩
  have hgf2 : w.heap.size + 1 + 1 = gf := by rw [hgf, World.size_alloc, World.size_alloc]
  rw [← hgf] at X3
  rw [← hgf2] at X3
  clear hw3 hgf hgf2 gf b3 hx1 hx2 P1 B12 HX1 HX2 HS2 H2
  obtain ⟨pA, pc, -, c0, -⟩ := H3.cells
  have HU3 := Lib.hid (used_any H3.drew)
  have C0 := Lib.hid c0
  have HX1 := Lib.hid Y1
  have HX2 := Lib.hid Y2
  have HX3 := Lib.hid X3
  have HH3 := Lib.hid H3
  have HS3 := Lib.hid S3
  have HB3 := Lib.hid B3
  clear c0 X3 Y1 Y2 H3 S3 B3
  refine wp_region_J RT [] (n := 7) (by kernel_rfl) rfl ?_
  refine batchJ RT.refl [0, 2, 3, 4, 5] (fuel := 2) rfl (by kernel_rfl) (by kernel_rfl) (fun _ _ d _ _ h => by cases d <;> exact h) ?_
  (repeat (first | ((with_reducible apply wq0); rfl; rfl; rfl; intro K hK; go_big_quiet_op; refine hK _ ?_; clear hK K) | ((with_reducible apply wq1); rfl; rfl; rfl; rfl; rfl; rfl; intro K hK; go_big_quiet_op; refine hK _ ?_; clear hK K) | ((with_reducible apply wqs); rfl; rfl; rfl; rfl; rfl; rfl; simp only [Act.put, List.setIfInBounds_toArray, List.set_cons_zero, List.set_cons_succ]) | ((with_reducible apply wqu); rfl; rfl; rfl; rfl; rfl; (first | simp only [same, Act.put, List.setIfInBounds_toArray, List.set_cons_zero, List.set_cons_succ] | simp only [Act.put, List.setIfInBounds_toArray, List.set_cons_zero, List.set_cons_succ]))))
  refine wqIdx_load rfl rfl rfl rfl (fun W hW => run_load1 (fun _ => by kernel_rfl) (keep_c hW (HX1.out.cell 0))) ?_; simp only [Act.put, List.setIfInBounds_toArray, List.set_cons_zero, List.set_cons_succ]
  refine wqIdx_load rfl rfl rfl rfl (fun W hW => run_load1 (fun _ => by kernel_rfl) (keep_c hW (HX1.out.cell 0))) ?_; simp only [Act.put, List.setIfInBounds_toArray, List.set_cons_zero, List.set_cons_succ]
  (repeat (first | ((with_reducible apply wq0); rfl; rfl; rfl; intro K hK; go_big_quiet_op; refine hK _ ?_; clear hK K) | ((with_reducible apply wq1); rfl; rfl; rfl; rfl; rfl; rfl; intro K hK; go_big_quiet_op; refine hK _ ?_; clear hK K) | ((with_reducible apply wqs); rfl; rfl; rfl; rfl; rfl; rfl; simp only [Act.put, List.setIfInBounds_toArray, List.set_cons_zero, List.set_cons_succ]) | ((with_reducible apply wqu); rfl; rfl; rfl; rfl; rfl; (first | simp only [same, Act.put, List.setIfInBounds_toArray, List.set_cons_zero, List.set_cons_succ] | simp only [Act.put, List.setIfInBounds_toArray, List.set_cons_zero, List.set_cons_succ]))))
  refine wqIdx_nil_check rfl rfl rfl rfl ?_; simp only [Act.put, List.setIfInBounds_toArray, List.set_cons_zero, List.set_cons_succ]
  (repeat (first | ((with_reducible apply wq0); rfl; rfl; rfl; intro K hK; go_big_quiet_op; refine hK _ ?_; clear hK K) | ((with_reducible apply wq1); rfl; rfl; rfl; rfl; rfl; rfl; intro K hK; go_big_quiet_op; refine hK _ ?_; clear hK K) | ((with_reducible apply wqs); rfl; rfl; rfl; rfl; rfl; rfl; simp only [Act.put, List.setIfInBounds_toArray, List.set_cons_zero, List.set_cons_succ]) | ((with_reducible apply wqu); rfl; rfl; rfl; rfl; rfl; (first | simp only [same, Act.put, List.setIfInBounds_toArray, List.set_cons_zero, List.set_cons_succ] | simp only [Act.put, List.setIfInBounds_toArray, List.set_cons_zero, List.set_cons_succ]))))
  refine wqIdx_load rfl rfl rfl rfl (fun W hW => run_load1 (fun _ => by kernel_rfl) (keep_c hW (C0.out))) ?_; simp only [Act.put, List.setIfInBounds_toArray, List.set_cons_zero, List.set_cons_succ]
  refine wqIdx_nil ?_
  refine wpAnyJ_sole (i := 1) rfl (by kernel_rfl) (fun K hK => ?_); go_simp
  refine HU3.out.mono ?_; rintro e w4 ⟨rfl, b4⟩
  refine hK _ _ ⟨fun _ => b4, trivial⟩ ?_
  clear hK K
  have B4 := Lib.hid (show Below w3.heap.size w3 w4 from ⟨b4.os, b4.tape, b4.output, b4.size, b4.block⟩)
  have d1 : decide (D.limit ≤ (usedN D.fs : Int)) = false := by rw [decide_eq_false_iff_not]; have := HU.out; omega
  clear b4
  refine batchJ RT.refl [6] (fuel := 0) rfl (by kernel_rfl) (by kernel_rfl) (fun _ _ d _ _ h => by cases d <;> exact h) ?_
  (repeat (first | ((with_reducible apply wq0); rfl; rfl; rfl; intro K hK; go_big_quiet_op; refine hK _ ?_; clear hK K) | ((with_reducible apply wq1); rfl; rfl; rfl; rfl; rfl; rfl; intro K hK; go_big_quiet_op; refine hK _ ?_; clear hK K) | ((with_reducible apply wqs); rfl; rfl; rfl; rfl; rfl; rfl; simp only [Act.put, List.setIfInBounds_toArray, List.set_cons_zero, List.set_cons_succ]) | ((with_reducible apply wqu); rfl; rfl; rfl; rfl; rfl; (first | simp only [same, Act.put, List.setIfInBounds_toArray, List.set_cons_zero, List.set_cons_succ] | simp only [Act.put, List.setIfInBounds_toArray, List.set_cons_zero, List.set_cons_succ]))))
  refine wqIdx_nil ?_
  refine wpAnyJ_done (by kernel_rfl) ?_ _
  have x1 := (HX1.out.below B4.out HX1.out.lt).cell 0
  have DG := Lib.hid (deed_go (HH3.out.below B4.out) HGO.out 56 #[.pointer (some ⟨w.heap.size + 1, 0, none⟩), .pointer (some ⟨w.heap.size, 0, none⟩), .pointer (some ⟨w.heap.size + 1 + 1, 0, none⟩)] (enters_of Try.func56 (by kernel_rfl) rfl) (fun w' => DiskR w' base d m (apD D f s) ∧ DF base m w w') fun w5 k1 k2 => by
    have m4 := (HH3.out.below B4.out).map
    have e1 := k2.blk (HX1.out.below B4.out HX1.out.lt) (map_ne_blk m4 (HX1.out.below B4.out HX1.out.lt)) (by decide)
    have e2 := k2.blk (HX2.out.below B4.out HX2.out.lt) (map_ne_blk m4 (HX2.out.below B4.out HX2.out.lt)) (by decide)
    have e3 := k2.blk (HX3.out.below B4.out HX3.out.lt) (map_ne_blk m4 (HX3.out.below B4.out HX3.out.lt)) (by decide)
    have s5 := (HS3.out.below B4.out).df k2 m4
    refine (append1_any k1 (f := f) HF.out (e2.cell 0) e1 e3 s5 HN.out HP.out (Nat.le_trans HB.out (Nat.le_trans HB3.out.size (Nat.le_trans B4.out.size k2.size)))).mono ?_
    rintro e w' ⟨he, k3, k4⟩
    exact ⟨he, k3, (DF.of_below (below_trans HB3.out B4.out)).trans (k2.trans k4)⟩)
  go_wp2_with fail
  refine DG.out.mono ?_; rintro e w' ⟨rfl, hq⟩
  have HQ := Lib.hid hq
  clear hq
  go_wp2
  go_ret
  exact ⟨rfl, HQ.out⟩
/-- The power is off. -/
def offD (D : Dk) : Dk := { D with off := true, stops := D.stops, others := D.others }
set_option maxRecDepth 100000 in
set_option maxHeartbeats 2000000 in
theorem append_stop (h : DiskR w base d m D) {f : Fi} (hf : f ∈ D.fs) (A : Option Addr) (c : Nat) (ho : D.off = false) (hgo : D.stops = true ∧ D.others = 0) (hu : (usedN D.fs : Int) < D.limit) (hbase : base ≤ w.heap.size) :
    Calls Try.prog 13 #[ptD d, strV f.name, .slice A 64 c] w fun e w' => e = .returned (.int .i64 50) ∧ DiskR w' base d m (offD D) ∧ DF base m w w' := by
  have b1 := al_below w (.cells #[ptD d] 23)
  have b2 := al_below (w.alloc (.cells #[ptD d] 23)) (.cells #[.slice A 64 c] 30)
  have X1 := Blk.alloc (Blk.new w 23 #[ptD d]) (.cells #[.slice A 64 c] 30)
  have X2 := Blk.new (w.alloc (.cells #[ptD d] 23)) 30 #[.slice A 64 c]
  rw [World.size_alloc] at X2
  have b12 := below_trans b1 b2
  have H2 := Lib.hid (h.below b12)
  have HX1 := Lib.hid X1
  have HX2 := Lib.hid X2
  have B12 := Lib.hid b12
  have P1 := Lib.hid (written_ok H2.out hf ho A c)
  have hx1 := X1.cell 0
  have hx2 := X2.cell 0
  have HF := Lib.hid hf
  have HO := Lib.hid ho
  have HGO := Lib.hid hgo
  have HU := Lib.hid hu
  have HB := Lib.hid hbase
  clear h b1 b2 b12 X1 X2 hf ho hgo hu hbase
  go_enter Try.func13, Try.ntmps13
  go_wp2_with fail
  refine P1.out.mono ?_; rintro e w' ⟨rfl, rfl⟩
  go_wp2_with fail
  have b3 := al_below ((w.alloc (.cells #[ptD d] 23)).alloc (.cells #[.slice A 64 c] 30)) (.cells #[ptD f.blk] 86)
  have X3 := Blk.new ((w.alloc (.cells #[ptD d] 23)).alloc (.cells #[.slice A 64 c] 30)) 86 #[ptD f.blk]
  have Y1 := HX1.out.alloc (.cells #[ptD f.blk] 86)
  have Y2 := HX2.out.alloc (.cells #[ptD f.blk] 86)
  have H3 := H2.out.below b3
  have B3 := below_trans B12.out b3
  obtain ⟨w3, hw3⟩ : ∃ w3, w3 = ((w.alloc (.cells #[ptD d] 23)).alloc (.cells #[.slice A 64 c] 30)).alloc (.cells #[ptD f.blk] 86) := ⟨_, rfl⟩
  rw [← hw3] at X3 Y1 Y2 H3 B3 ⊢
  obtain ⟨gf, hgf⟩ : ∃ gf, gf = ((w.alloc (.cells #[ptD d] 23)).alloc (.cells #[.slice A 64 c] 30)).heap.size := ⟨_, rfl⟩
  have hgf2 : w.heap.size + 1 + 1 = gf := by rw [hgf, World.size_alloc, World.size_alloc]
  rw [← hgf] at X3
  rw [← hgf2] at X3
  clear hw3 hgf hgf2 gf b3 hx1 hx2 P1 B12 HX1 HX2 H2
  obtain ⟨pA, pc, -, c0, -⟩ := H3.cells
  have HU3 := Lib.hid (used_any H3.drew)
  have C0 := Lib.hid c0
  have HX1 := Lib.hid Y1
  have HX2 := Lib.hid Y2
  have HX3 := Lib.hid X3
  have HH3 := Lib.hid H3
  have HB3 := Lib.hid B3
  clear c0 X3 Y1 Y2 H3 B3
  refine wp_region_J RT [] (n := 7) (by kernel_rfl) rfl ?_
  refine batchJ RT.refl [0, 2, 3, 4, 5] (fuel := 2) rfl (by kernel_rfl) (by kernel_rfl) (fun _ _ d _ _ h => by cases d <;> exact h) ?_
  (repeat (first | ((with_reducible apply wq0); rfl; rfl; rfl; intro K hK; go_big_quiet_op; refine hK _ ?_; clear hK K) | ((with_reducible apply wq1); rfl; rfl; rfl; rfl; rfl; rfl; intro K hK; go_big_quiet_op; refine hK _ ?_; clear hK K) | ((with_reducible apply wqs); rfl; rfl; rfl; rfl; rfl; rfl; simp only [Act.put, List.setIfInBounds_toArray, List.set_cons_zero, List.set_cons_succ]) | ((with_reducible apply wqu); rfl; rfl; rfl; rfl; rfl; (first | simp only [same, Act.put, List.setIfInBounds_toArray, List.set_cons_zero, List.set_cons_succ] | simp only [Act.put, List.setIfInBounds_toArray, List.set_cons_zero, List.set_cons_succ]))))
  refine wqIdx_load rfl rfl rfl rfl (fun W hW => run_load1 (fun _ => by kernel_rfl) (keep_c hW (HX1.out.cell 0))) ?_; simp only [Act.put, List.setIfInBounds_toArray, List.set_cons_zero, List.set_cons_succ]
  refine wqIdx_load rfl rfl rfl rfl (fun W hW => run_load1 (fun _ => by kernel_rfl) (keep_c hW (HX1.out.cell 0))) ?_; simp only [Act.put, List.setIfInBounds_toArray, List.set_cons_zero, List.set_cons_succ]
  (repeat (first | ((with_reducible apply wq0); rfl; rfl; rfl; intro K hK; go_big_quiet_op; refine hK _ ?_; clear hK K) | ((with_reducible apply wq1); rfl; rfl; rfl; rfl; rfl; rfl; intro K hK; go_big_quiet_op; refine hK _ ?_; clear hK K) | ((with_reducible apply wqs); rfl; rfl; rfl; rfl; rfl; rfl; simp only [Act.put, List.setIfInBounds_toArray, List.set_cons_zero, List.set_cons_succ]) | ((with_reducible apply wqu); rfl; rfl; rfl; rfl; rfl; (first | simp only [same, Act.put, List.setIfInBounds_toArray, List.set_cons_zero, List.set_cons_succ] | simp only [Act.put, List.setIfInBounds_toArray, List.set_cons_zero, List.set_cons_succ]))))
  refine wqIdx_nil_check rfl rfl rfl rfl ?_; simp only [Act.put, List.setIfInBounds_toArray, List.set_cons_zero, List.set_cons_succ]
  (repeat (first | ((with_reducible apply wq0); rfl; rfl; rfl; intro K hK; go_big_quiet_op; refine hK _ ?_; clear hK K) | ((with_reducible apply wq1); rfl; rfl; rfl; rfl; rfl; rfl; intro K hK; go_big_quiet_op; refine hK _ ?_; clear hK K) | ((with_reducible apply wqs); rfl; rfl; rfl; rfl; rfl; rfl; simp only [Act.put, List.setIfInBounds_toArray, List.set_cons_zero, List.set_cons_succ]) | ((with_reducible apply wqu); rfl; rfl; rfl; rfl; rfl; (first | simp only [same, Act.put, List.setIfInBounds_toArray, List.set_cons_zero, List.set_cons_succ] | simp only [Act.put, List.setIfInBounds_toArray, List.set_cons_zero, List.set_cons_succ]))))
  refine wqIdx_load rfl rfl rfl rfl (fun W hW => run_load1 (fun _ => by kernel_rfl) (keep_c hW (C0.out))) ?_; simp only [Act.put, List.setIfInBounds_toArray, List.set_cons_zero, List.set_cons_succ]
  refine wqIdx_nil ?_
  refine wpAnyJ_sole (i := 1) rfl (by kernel_rfl) (fun K hK => ?_); go_simp
  refine HU3.out.mono ?_; rintro e w4 ⟨rfl, b4⟩
  refine hK _ _ ⟨fun _ => b4, trivial⟩ ?_
  clear hK K
  have B4 := Lib.hid (show Below w3.heap.size w3 w4 from ⟨b4.os, b4.tape, b4.output, b4.size, b4.block⟩)
  have d1 : decide (D.limit ≤ (usedN D.fs : Int)) = false := by rw [decide_eq_false_iff_not]; have := HU.out; omega
  clear b4
  refine batchJ RT.refl [6] (fuel := 0) rfl (by kernel_rfl) (by kernel_rfl) (fun _ _ d _ _ h => by cases d <;> exact h) ?_
  (repeat (first | ((with_reducible apply wq0); rfl; rfl; rfl; intro K hK; go_big_quiet_op; refine hK _ ?_; clear hK K) | ((with_reducible apply wq1); rfl; rfl; rfl; rfl; rfl; rfl; intro K hK; go_big_quiet_op; refine hK _ ?_; clear hK K) | ((with_reducible apply wqs); rfl; rfl; rfl; rfl; rfl; rfl; simp only [Act.put, List.setIfInBounds_toArray, List.set_cons_zero, List.set_cons_succ]) | ((with_reducible apply wqu); rfl; rfl; rfl; rfl; rfl; (first | simp only [same, Act.put, List.setIfInBounds_toArray, List.set_cons_zero, List.set_cons_succ] | simp only [Act.put, List.setIfInBounds_toArray, List.set_cons_zero, List.set_cons_succ]))))
  refine wqIdx_nil ?_
  refine wpAnyJ_done (by kernel_rfl) ?_ _
  have x1 := (HX1.out.below B4.out HX1.out.lt).cell 0
  have DG := Lib.hid ((deed_off (HH3.out.below B4.out) HGO.out.1 HGO.out.2 56 #[.pointer (some ⟨w.heap.size + 1, 0, none⟩), .pointer (some ⟨w.heap.size, 0, none⟩), .pointer (some ⟨w.heap.size + 1 + 1, 0, none⟩)]).mono (R' := fun e w' => e = .returned (.int .i64 50) ∧ DiskR w' base d m (offD D) ∧ DF base m w w') fun e w' ⟨he, k1, k2⟩ => ⟨he, k1, (DF.of_below (below_trans HB3.out B4.out)).trans k2⟩)
  go_wp2_with fail
  refine DG.out.mono ?_; rintro e w' ⟨rfl, hq⟩
  have HQ := Lib.hid hq
  clear hq
  go_wp2
  go_ret
  exact ⟨rfl, HQ.out⟩
set_option maxRecDepth 100000 in
theorem append_off (h : DiskR w base d m D) (n : Nm) (A : Option Addr) (c : Nat) (ho : D.off = true) : Calls Try.prog 13 #[ptD d, strV n, .slice A 64 c] w fun e w' => e = .returned (.int .i64 50) ∧ Below w.heap.size w w' := by
  have b1 := al_below w (.cells #[ptD d] 23)
  have b2 := al_below (w.alloc (.cells #[ptD d] 23)) (.cells #[.slice A 64 c] 30)
  have X1 := Blk.alloc (Blk.new w 23 #[ptD d]) (.cells #[.slice A 64 c] 30)
  have X2 := Blk.new (w.alloc (.cells #[ptD d] 23)) 30 #[.slice A 64 c]
  rw [World.size_alloc] at X2
  have P1 := Lib.hid (written_off (h.below (below_trans b1 b2)) n ho A c)
  have b3 := al_below ((w.alloc (.cells #[ptD d] 23)).alloc (.cells #[.slice A 64 c] 30)) (.cells #[.pointer none] 86)
  have B3 := Lib.hid (below_trans (below_trans b1 b2) b3)
  have hx1 := X1.cell 0
  have hx2 := X2.cell 0
  clear h b1 b2 b3 X1 X2 ho
  go_enter Try.func13, Try.ntmps13
  go_wp2_with fail
  refine P1.out.mono ?_; rintro e w' ⟨rfl, rfl⟩
  go_wp2
  go_ret
  exact ⟨rfl, B3.out⟩
set_option maxRecDepth 100000 in
theorem append_nil (w : World) (n : Value) (A : Option Addr) (l c : Nat) : Calls Try.prog 13 #[.pointer none, n, .slice A l c] w fun e w' => e = .returned (.int .i64 6) ∧ Below w.heap.size w w' := by
  have b1 := al_below w (.cells #[.pointer none] 23)
  have b2 := al_below (w.alloc (.cells #[.pointer none] 23)) (.cells #[.slice A l c] 30)
  have X1 := Blk.alloc (Blk.new w 23 #[.pointer none]) (.cells #[.slice A l c] 30)
  have X2 := Blk.new (w.alloc (.cells #[.pointer none] 23)) 30 #[.slice A l c]
  rw [World.size_alloc] at X2
  have b3 := al_below ((w.alloc (.cells #[.pointer none] 23)).alloc (.cells #[.slice A l c] 30)) (.cells #[.pointer none] 86)
  have B3 := Lib.hid (below_trans (below_trans b1 b2) b3)
  have hx1 := X1.cell 0
  have hx2 := X2.cell 0
  clear b1 b2 b3 X1 X2
  go_enter Try.func13, Try.ntmps13
  go_wp2_with fail
  refine (written_nil _ _ _ _ _).mono ?_; rintro e w' ⟨rfl, rfl⟩
  go_wp2
  go_ret
  exact ⟨rfl, B3.out⟩
end
end Go.Proofs.Ytfmmdnjoichifaa
