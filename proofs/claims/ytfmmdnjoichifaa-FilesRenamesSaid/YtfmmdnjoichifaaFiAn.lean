/- Contracts of a disk: Rename to a name that a file has. -/
import Derived.Test.YtfmmdnjoichifaaFiAm
namespace Go.Proofs.Ytfmmdnjoichifaa
open Go.RowKit Go.Sort

section
variable {w w1 w2 w3 w' : World} {base d m : Nat} {D : Dk}
set_option maxRecDepth 100000 in
set_option maxHeartbeats 2000000 in
/-- Rename's deed, by what its removal does. -/
theorem rename1_by (h : DiskR w base d m D) {f : Fi} (hf : f ∈ D.fs) {to : Nm} (hto : 1 ≤ to.length ∧ to.length ≤ 24) (hne : f.name ≠ to) {D' : Dk}
    (hrem : Calls Try.prog 58 #[ptD d, strV to] w fun e w' => e = .returned (.tuple #[]) ∧ DiskR w' base d m D' ∧ DF base m w w') (hf' : f ∈ D'.fs) (hnew : ∀ g ∈ D'.fs, g.name ≠ to)
    {ba bb bd bf : Nat} (X0 : Blk w ba 9 #[strV f.name]) (X1 : Blk w bb 9 #[strV to]) (X2 : Blk w bd 23 #[ptD d]) (X3 : Blk w bf 86 #[ptD f.blk]) :
    Calls Try.prog 57 #[.pointer (some ⟨ba, 0, none⟩), .pointer (some ⟨bb, 0, none⟩), .pointer (some ⟨bd, 0, none⟩), .pointer (some ⟨bf, 0, none⟩)] w fun e w' => e = .returned (.tuple #[]) ∧
      DiskR w' base d m { D' with fs := renFs D'.fs f to } ∧ DF base m w w' := by
  have hlt : to.length ≤ maxLen := by unfold maxLen; omega
  have hlf : f.name.length ≤ maxLen := by have := (h.small f hf).2.2.2; unfold maxLen; omega
  have P1 := Lib.hid hrem
  have x0 := X0.cell 0
  have x1 := X1.cell 0
  have x2 := X2.cell 0
  have x3 := X3.cell 0
  have HX0 := Lib.hid X0
  have HX1 := Lib.hid X1
  have HX2 := Lib.hid X2
  have HX3 := Lib.hid X3
  have H0 := Lib.hid h
  have HT := Lib.hid hto
  have HF := Lib.hid hf'
  have HNEW := Lib.hid hnew
  have HLT := Lib.hid hlt
  have HLF := Lib.hid hlf
  obtain ⟨s1, e1⟩ : ∃ s : ByteArray, s = ⟨f.name.toArray⟩ := ⟨_, rfl⟩
  obtain ⟨s2, e2⟩ : ∃ s : ByteArray, s = ⟨to.toArray⟩ := ⟨_, rfl⟩
  have q : (s1.toList == s2.toList) = false := by
    rw [beq_eq_false_iff_ne, ByteArray.toList_eq, ByteArray.toList_eq, e1, e2]
    exact fun e => hne (by simpa using e)
  have n1 : strV f.name = .string s1 := by rw [e1]; rfl
  have n2 : strV to = .string s2 := by rw [e2]; rfl
  rw [show (#[strV f.name][0]? : Option Value) = some (.string s1) from by rw [← n1]; rfl] at x0
  rw [show (#[strV to][0]? : Option Value) = some (.string s2) from by rw [← n2]; rfl] at x1
  have N1 := Lib.hid n1
  have N2 := Lib.hid n2
  clear e1 e2 n1
  rw [n2] at P1
  clear n2
  clear h X0 X1 X2 X3 hto hf hf' hnew hlt hlf hne hrem
  go_enter Try.func57, Try.ntmps57
  go_wp2_with fail
  refine P1.out.mono ?_; rintro e w1 ⟨rfl, k1, kd⟩
  have b0 := kd.blk HX0.out (map_ne_blk H0.out.map HX0.out) (by decide)
  have b1 := kd.blk HX1.out (map_ne_blk H0.out.map HX1.out) (by decide)
  have b2 := kd.blk HX2.out (map_ne_blk H0.out.map HX2.out) (by decide)
  have b3 := kd.blk HX3.out (map_ne_blk H0.out.map HX3.out) (by decide)
  clear HX0 HX1 HX2 HX3
  have HX1 := Lib.hid b1
  have HX2 := Lib.hid b2
  have HX3 := Lib.hid b3
  clear x0 x1 x2 x3
  have x0 := b0.cell 0
  have x1 := b1.cell 0
  have x2 := b2.cell 0
  have x3 := b3.cell 0
  have X0 := Lib.hid x0
  rw [show (#[strV f.name][0]? : Option Value) = some (.string s1) from by rw [← N1.out]; rfl] at x0
  rw [show (#[strV to][0]? : Option Value) = some (.string s2) from by rw [← N2.out]; rfl] at x1
  obtain ⟨pA, pc, htop, -⟩ := k1.top
  obtain ⟨role, h6⟩ := k1.files
  obtain ⟨nA, nc, kA, kc, hfb, -⟩ := h6 f HF.out
  have HTOP := Lib.hid htop
  have HFB := Lib.hid hfb
  have H := Lib.hid k1
  have KD := Lib.hid kd
  clear h6 htop hfb k1 kd b0 b1 b2 b3 P1 H0
  go_wp2_with fail
  refine wp_region_J RT [5] (n := 6) (by kernel_rfl) rfl ?_
  refine batchJ RT.refl [0, 1, 2, 3, 4] (fuel := 1) rfl (by kernel_rfl) (by kernel_rfl) (fun _ _ d _ _ h => by cases d <;> exact h) ?_
  (repeat (first | ((with_reducible apply wq0); rfl; rfl; rfl; intro K hK; go_big_quiet_op; refine hK _ ?_; clear hK K) | ((with_reducible apply wq1); rfl; rfl; rfl; rfl; rfl; rfl; intro K hK; go_big_quiet_op; refine hK _ ?_; clear hK K) | ((with_reducible apply wqs); rfl; rfl; rfl; rfl; rfl; rfl; simp only [Act.put, List.setIfInBounds_toArray, List.set_cons_zero, List.set_cons_succ]) | ((with_reducible apply wqu); rfl; rfl; rfl; rfl; rfl; (first | simp only [same, Act.put, List.setIfInBounds_toArray, List.set_cons_zero, List.set_cons_succ] | simp only [Act.put, List.setIfInBounds_toArray, List.set_cons_zero, List.set_cons_succ]))))
  refine wqIdx_load rfl rfl rfl rfl (fun W hW => run_load1 (fun _ => by kernel_rfl) (keep_c hW (HX2.out.cell 0))) ?_; simp only [Act.put, List.setIfInBounds_toArray, List.set_cons_zero, List.set_cons_succ]
  (repeat (first | ((with_reducible apply wq0); rfl; rfl; rfl; intro K hK; go_big_quiet_op; refine hK _ ?_; clear hK K) | ((with_reducible apply wq1); rfl; rfl; rfl; rfl; rfl; rfl; intro K hK; go_big_quiet_op; refine hK _ ?_; clear hK K) | ((with_reducible apply wqs); rfl; rfl; rfl; rfl; rfl; rfl; simp only [Act.put, List.setIfInBounds_toArray, List.set_cons_zero, List.set_cons_succ]) | ((with_reducible apply wqu); rfl; rfl; rfl; rfl; rfl; (first | simp only [same, Act.put, List.setIfInBounds_toArray, List.set_cons_zero, List.set_cons_succ] | simp only [Act.put, List.setIfInBounds_toArray, List.set_cons_zero, List.set_cons_succ]))))
  refine wqIdx_nil_check rfl rfl rfl rfl ?_; simp only [Act.put, List.setIfInBounds_toArray, List.set_cons_zero, List.set_cons_succ]
  (repeat (first | ((with_reducible apply wq0); rfl; rfl; rfl; intro K hK; go_big_quiet_op; refine hK _ ?_; clear hK K) | ((with_reducible apply wq1); rfl; rfl; rfl; rfl; rfl; rfl; intro K hK; go_big_quiet_op; refine hK _ ?_; clear hK K) | ((with_reducible apply wqs); rfl; rfl; rfl; rfl; rfl; rfl; simp only [Act.put, List.setIfInBounds_toArray, List.set_cons_zero, List.set_cons_succ]) | ((with_reducible apply wqu); rfl; rfl; rfl; rfl; rfl; (first | simp only [same, Act.put, List.setIfInBounds_toArray, List.set_cons_zero, List.set_cons_succ] | simp only [Act.put, List.setIfInBounds_toArray, List.set_cons_zero, List.set_cons_succ]))))
  refine wqIdx_load rfl rfl rfl rfl (fun W hW => run_load1 (fun _ => by kernel_rfl) (keep_c hW (HTOP.out.cell 1))) ?_; simp only [Act.put, List.setIfInBounds_toArray, List.set_cons_zero, List.set_cons_succ]
  (repeat (first | ((with_reducible apply wq0); rfl; rfl; rfl; intro K hK; go_big_quiet_op; refine hK _ ?_; clear hK K) | ((with_reducible apply wq1); rfl; rfl; rfl; rfl; rfl; rfl; intro K hK; go_big_quiet_op; refine hK _ ?_; clear hK K) | ((with_reducible apply wqs); rfl; rfl; rfl; rfl; rfl; rfl; simp only [Act.put, List.setIfInBounds_toArray, List.set_cons_zero, List.set_cons_succ]) | ((with_reducible apply wqu); rfl; rfl; rfl; rfl; rfl; (first | simp only [same, Act.put, List.setIfInBounds_toArray, List.set_cons_zero, List.set_cons_succ] | simp only [Act.put, List.setIfInBounds_toArray, List.set_cons_zero, List.set_cons_succ]))))
  refine wqIdx_load rfl rfl rfl rfl (fun W hW => run_load1 (fun _ => by kernel_rfl) (keep_c hW (X0.out))) ?_; simp only [Act.put, List.setIfInBounds_toArray, List.set_cons_zero, List.set_cons_succ]
  (repeat (first | ((with_reducible apply wq0); rfl; rfl; rfl; intro K hK; go_big_quiet_op; refine hK _ ?_; clear hK K) | ((with_reducible apply wq1); rfl; rfl; rfl; rfl; rfl; rfl; intro K hK; go_big_quiet_op; refine hK _ ?_; clear hK K) | ((with_reducible apply wqs); rfl; rfl; rfl; rfl; rfl; rfl; simp only [Act.put, List.setIfInBounds_toArray, List.set_cons_zero, List.set_cons_succ]) | ((with_reducible apply wqu); rfl; rfl; rfl; rfl; rfl; (first | simp only [same, Act.put, List.setIfInBounds_toArray, List.set_cons_zero, List.set_cons_succ] | simp only [Act.put, List.setIfInBounds_toArray, List.set_cons_zero, List.set_cons_succ]))))
  refine wqIdx_nil ?_
  refine wpAnyJ_sole (i := 5) rfl (by kernel_rfl) (fun K hK => ?_); rw [if_pos (wanted0 rfl _)]
  refine wp_delR (.tmp 13) (.tmp 14) rfl H.out.map (key := f.name) HLF.out rfl rfl fun w2 m2 g2' => ?_
  refine hK _ _ ⟨fun hc => absurd (List.mem_singleton.2 rfl) hc, trivial⟩ ?_
  clear hK K x0 x1 x2 x3
  have nm : ∀ g t cs, Blk w1 g t cs → some g ≠ some m := fun g t cs hb e => by injection e with e; exact map_ne_blk H.out.map hb e
  have g2 : w1.grownBy w2 (some m) := ⟨g2'.os, g2'.tape, g2'.output, g2'.size, g2'.block⟩
  clear g2'
  have hg2 := Lib.hid g2
  have b1 := HX1.out.grown g2 (nm _ _ _ HX1.out)
  have b2 := HX2.out.grown g2 (nm _ _ _ HX2.out)
  have b3 := HX3.out.grown g2 (nm _ _ _ HX3.out)
  have bt := HTOP.out.grown g2 (nm _ _ _ HTOP.out)
  have bf' := HFB.out.grown g2 (nm _ _ _ HFB.out)
  have gs := gr_set w2 f.blk 0 (strV to)
  have HM3 := Lib.hid (m2.kept gs (fun e => by injection e with e; exact map_ne_blk H.out.map HFB.out e.symm))
  have HB1 := Lib.hid (b1.grown gs (fun e => by injection e with e; exact Blk.ne_ b1 bf' (by decide) e))
  have HB2 := Lib.hid (b2.grown gs (fun e => by injection e with e; exact Blk.ne_ b2 bf' (by decide) e))
  have HB3 := Lib.hid (b3.grown gs (fun e => by injection e with e; exact Blk.ne_ b3 bf' (by decide) e))
  have HBT := Lib.hid (bt.grown gs (fun e => by injection e with e; exact Blk.ne_ bt bf' (by decide) e))
  have y1 := b1.cell 0
  have y3 := b3.cell 0
  have y0 := bf'.cell 0
  have yf := bf'.frozen 0
  clear m2 g2 b1 b2 b3 bt bf' gs nm
  have n2 := N2.out
  rw [n2] at HM3 HB1 HB2 HB3 HBT y1
  clear n2
  refine wpAnyJ_done (by kernel_rfl) ?_ _
  go_wp2_with fail
  clear y1 y3 y0 yf
  refine wp_region_J RT [6] (n := 7) (by kernel_rfl) rfl ?_
  refine batchJ RT.refl [0, 1, 2, 3, 4, 5] (fuel := 1) rfl (by kernel_rfl) (by kernel_rfl) (fun _ _ d _ _ h => by cases d <;> exact h) ?_
  (repeat (first | ((with_reducible apply wq0); rfl; rfl; rfl; intro K hK; go_big_quiet_op; refine hK _ ?_; clear hK K) | ((with_reducible apply wq1); rfl; rfl; rfl; rfl; rfl; rfl; intro K hK; go_big_quiet_op; refine hK _ ?_; clear hK K) | ((with_reducible apply wqs); rfl; rfl; rfl; rfl; rfl; rfl; simp only [Act.put, List.setIfInBounds_toArray, List.set_cons_zero, List.set_cons_succ]) | ((with_reducible apply wqu); rfl; rfl; rfl; rfl; rfl; (first | simp only [same, Act.put, List.setIfInBounds_toArray, List.set_cons_zero, List.set_cons_succ] | simp only [Act.put, List.setIfInBounds_toArray, List.set_cons_zero, List.set_cons_succ]))))
  refine wqIdx_load rfl rfl rfl rfl (fun W hW => run_load1 (fun _ => by kernel_rfl) (keep_c hW (HB2.out.cell 0))) ?_; simp only [Act.put, List.setIfInBounds_toArray, List.set_cons_zero, List.set_cons_succ]
  (repeat (first | ((with_reducible apply wq0); rfl; rfl; rfl; intro K hK; go_big_quiet_op; refine hK _ ?_; clear hK K) | ((with_reducible apply wq1); rfl; rfl; rfl; rfl; rfl; rfl; intro K hK; go_big_quiet_op; refine hK _ ?_; clear hK K) | ((with_reducible apply wqs); rfl; rfl; rfl; rfl; rfl; rfl; simp only [Act.put, List.setIfInBounds_toArray, List.set_cons_zero, List.set_cons_succ]) | ((with_reducible apply wqu); rfl; rfl; rfl; rfl; rfl; (first | simp only [same, Act.put, List.setIfInBounds_toArray, List.set_cons_zero, List.set_cons_succ] | simp only [Act.put, List.setIfInBounds_toArray, List.set_cons_zero, List.set_cons_succ]))))
  refine wqIdx_nil_check rfl rfl rfl rfl ?_; simp only [Act.put, List.setIfInBounds_toArray, List.set_cons_zero, List.set_cons_succ]
  (repeat (first | ((with_reducible apply wq0); rfl; rfl; rfl; intro K hK; go_big_quiet_op; refine hK _ ?_; clear hK K) | ((with_reducible apply wq1); rfl; rfl; rfl; rfl; rfl; rfl; intro K hK; go_big_quiet_op; refine hK _ ?_; clear hK K) | ((with_reducible apply wqs); rfl; rfl; rfl; rfl; rfl; rfl; simp only [Act.put, List.setIfInBounds_toArray, List.set_cons_zero, List.set_cons_succ]) | ((with_reducible apply wqu); rfl; rfl; rfl; rfl; rfl; (first | simp only [same, Act.put, List.setIfInBounds_toArray, List.set_cons_zero, List.set_cons_succ] | simp only [Act.put, List.setIfInBounds_toArray, List.set_cons_zero, List.set_cons_succ]))))
  refine wqIdx_load rfl rfl rfl rfl (fun W hW => run_load1 (fun _ => by kernel_rfl) (keep_c hW (HBT.out.cell 1))) ?_; simp only [Act.put, List.setIfInBounds_toArray, List.set_cons_zero, List.set_cons_succ]
  (repeat (first | ((with_reducible apply wq0); rfl; rfl; rfl; intro K hK; go_big_quiet_op; refine hK _ ?_; clear hK K) | ((with_reducible apply wq1); rfl; rfl; rfl; rfl; rfl; rfl; intro K hK; go_big_quiet_op; refine hK _ ?_; clear hK K) | ((with_reducible apply wqs); rfl; rfl; rfl; rfl; rfl; rfl; simp only [Act.put, List.setIfInBounds_toArray, List.set_cons_zero, List.set_cons_succ]) | ((with_reducible apply wqu); rfl; rfl; rfl; rfl; rfl; (first | simp only [same, Act.put, List.setIfInBounds_toArray, List.set_cons_zero, List.set_cons_succ] | simp only [Act.put, List.setIfInBounds_toArray, List.set_cons_zero, List.set_cons_succ]))))
  refine wqIdx_load rfl rfl rfl rfl (fun W hW => run_load1 (fun _ => by kernel_rfl) (keep_c hW (HB1.out.cell 0))) ?_; simp only [Act.put, List.setIfInBounds_toArray, List.set_cons_zero, List.set_cons_succ]
  (repeat (first | ((with_reducible apply wq0); rfl; rfl; rfl; intro K hK; go_big_quiet_op; refine hK _ ?_; clear hK K) | ((with_reducible apply wq1); rfl; rfl; rfl; rfl; rfl; rfl; intro K hK; go_big_quiet_op; refine hK _ ?_; clear hK K) | ((with_reducible apply wqs); rfl; rfl; rfl; rfl; rfl; rfl; simp only [Act.put, List.setIfInBounds_toArray, List.set_cons_zero, List.set_cons_succ]) | ((with_reducible apply wqu); rfl; rfl; rfl; rfl; rfl; (first | simp only [same, Act.put, List.setIfInBounds_toArray, List.set_cons_zero, List.set_cons_succ] | simp only [Act.put, List.setIfInBounds_toArray, List.set_cons_zero, List.set_cons_succ]))))
  refine wqIdx_load rfl rfl rfl rfl (fun W hW => run_load1 (fun _ => by kernel_rfl) (keep_c hW (HB3.out.cell 0))) ?_; simp only [Act.put, List.setIfInBounds_toArray, List.set_cons_zero, List.set_cons_succ]
  (repeat (first | ((with_reducible apply wq0); rfl; rfl; rfl; intro K hK; go_big_quiet_op; refine hK _ ?_; clear hK K) | ((with_reducible apply wq1); rfl; rfl; rfl; rfl; rfl; rfl; intro K hK; go_big_quiet_op; refine hK _ ?_; clear hK K) | ((with_reducible apply wqs); rfl; rfl; rfl; rfl; rfl; rfl; simp only [Act.put, List.setIfInBounds_toArray, List.set_cons_zero, List.set_cons_succ]) | ((with_reducible apply wqu); rfl; rfl; rfl; rfl; rfl; (first | simp only [same, Act.put, List.setIfInBounds_toArray, List.set_cons_zero, List.set_cons_succ] | simp only [Act.put, List.setIfInBounds_toArray, List.set_cons_zero, List.set_cons_succ]))))
  refine wqIdx_nil ?_
  refine wpAnyJ_sole (i := 6) rfl (by kernel_rfl) (fun K hK => ?_); rw [if_pos (wanted0 rfl _)]
  refine wp_putR (.tmp 22) (.tmp 23) (.tmp 24) rfl HM3.out (key := to) HLT.out ?c1 f.blk ?c2 rfl N2.out.symm rfl fun w5 m5 g5' => ?_
  case c1 =>
    rw [nmOf_filter]
    exact lookO_none fun g hg => HNEW.out g (List.mem_filter.1 hg).1
  case c2 =>
    rw [nmOf_filter]
    unfold nmOf
    rw [List.length_map]
    have := H.out.lim.2.2.2.2
    have := List.length_filter_le (fun g : Fi => g.name != f.name) D'.fs
    omega
  refine hK _ _ ⟨fun hc => absurd (List.mem_singleton.2 rfl) hc, trivial⟩ ?_
  clear hK K
  rw [← N2.out] at g5'
  have g5 : (w2.setCell ⟨f.blk, 0, none⟩ (strV to)).grownBy w5 (some m) := ⟨g5'.os, g5'.tape, g5'.output, g5'.size, g5'.block⟩
  clear g5'
  have HR := Lib.hid (H.out.rename1 HF.out HT.out hg2.out g5 (by
    unfold renFs
    rw [nmOf_append, ← nmOf_filter]
    exact m5))
  clear m5 g5
  refine wpAnyJ_done (by kernel_rfl) ?_ _
  go_wp2
  go_end0
  exact ⟨rfl, HR.out.1, KD.out.trans HR.out.2⟩
/-- The disk behind a rename onto a file. -/
def renD (D : Dk) (f g : Fi) : Dk := { remD D g with fs := renFs (remD D g).fs f g.name }
set_option maxRecDepth 100000 in
set_option maxHeartbeats 2000000 in
theorem rename_over (h : DiskR w base d m D) {f g : Fi} (hf : f ∈ D.fs) (hg : g ∈ D.fs) (hk : mayNm g.name = true) (hfg : f.name ≠ g.name) (hbig : D.pend.length ≤ 1000000) (ho : D.off = false) (hgo : goes D) :
    Calls Try.prog 16 #[ptD d, strV f.name, strV g.name] w fun e w' => e = .returned (.int .i64 0) ∧ DiskR w' base d m (renD (tick D) f g) ∧ DF base m w w' := by
  have hto : 1 ≤ g.name.length ∧ g.name.length ≤ 24 := by unfold mayNm at hk; rw [decide_eq_true_eq] at hk; exact hk
  have b1 := al_below w (.cells #[ptD d] 23)
  have b2 := al_below (w.alloc (.cells #[ptD d] 23)) (.cells #[strV f.name] 9)
  have b3 := al_below ((w.alloc (.cells #[ptD d] 23)).alloc (.cells #[strV f.name] 9)) (.cells #[strV g.name] 9)
  have b4 := al_below (((w.alloc (.cells #[ptD d] 23)).alloc (.cells #[strV f.name] 9)).alloc (.cells #[strV g.name] 9)) (.cells #[ptD f.blk] 86)
  have b13 := below_trans (below_trans b1 b2) b3
  have b14 := below_trans b13 b4
  have X1 := ((Blk.new w 23 #[ptD d]).alloc (.cells #[strV f.name] 9)).alloc (.cells #[strV g.name] 9)
  have X2 := (Blk.new (w.alloc (.cells #[ptD d] 23)) 9 #[strV f.name]).alloc (.cells #[strV g.name] 9)
  have X3 := Blk.new ((w.alloc (.cells #[ptD d] 23)).alloc (.cells #[strV f.name] 9)) 9 #[strV g.name]
  have Y1 := X1.alloc (.cells #[ptD f.blk] 86)
  have Y2 := X2.alloc (.cells #[ptD f.blk] 86)
  have Y3 := X3.alloc (.cells #[ptD f.blk] 86)
  have Y4 := Blk.new (((w.alloc (.cells #[ptD d] 23)).alloc (.cells #[strV f.name] 9)).alloc (.cells #[strV g.name] 9)) 86 #[ptD f.blk]
  rw [World.size_alloc] at X2 Y2
  rw [World.size_alloc, World.size_alloc] at X3 Y3
  rw [World.size_alloc, World.size_alloc, World.size_alloc] at Y4
  have H3 := h.below b13
  have H4 := h.below b14
  have P1 := Lib.hid (unmade_any H3)
  have P2 := Lib.hid (mayName_any g.name (((w.alloc (.cells #[ptD d] 23)).alloc (.cells #[strV f.name] 9)).alloc (.cells #[strV g.name] 9)))
  rw [hk] at P2
  have P3 := Lib.hid (reach_ok H3 hf ho)
  have x1 := X1.cell 0
  have x2 := X2.cell 0
  have x3 := X3.cell 0
  have y1 := Y1.cell 0
  have DG := Lib.hid (deed_go H4 hgo 57 #[.pointer (some ⟨w.heap.size + 1, 0, none⟩), .pointer (some ⟨w.heap.size + 1 + 1, 0, none⟩), .pointer (some ⟨w.heap.size, 0, none⟩), .pointer (some ⟨w.heap.size + 1 + 1 + 1, 0, none⟩)] (enters_of Try.func57 (by kernel_rfl) rfl) (fun w' => DiskR w' base d m (renD (tick D) f g) ∧ DF base m w w') fun w5 k1 k2 => by
    have fs5 : (tick D).fs = D.fs := by unfold tick; split <;> rfl
    have e1 := k2.blk Y1 (map_ne_blk H4.map Y1) (by decide)
    have e2 := k2.blk Y2 (map_ne_blk H4.map Y2) (by decide)
    have e3 := k2.blk Y3 (map_ne_blk H4.map Y3) (by decide)
    have e4 := k2.blk Y4 (map_ne_blk H4.map Y4) (by decide)
    have hf5 : f ∈ (tick D).fs := by rw [fs5]; exact hf
    have hg5 : g ∈ (tick D).fs := by rw [fs5]; exact hg
    refine (rename1_by k1 (f := f) hf5 hto hfg (remove_there k1 hg5 (by rw [tick_pend]; exact hbig)) (List.mem_filter.2 ⟨hf5, bne_iff_ne.2 hfg⟩) (fun x hx => by simpa using (List.mem_filter.1 hx).2) e2 e3 e1 e4).mono ?_
    rintro e w' ⟨he, k3, k4⟩
    exact ⟨he, k3, (DF.of_below b14).trans (k2.trans k4)⟩)
  clear h b1 b2 b3 b4 b13 b14 X1 X2 X3 Y1 Y2 Y3 Y4 H3 H4 hf ho hgo hk hg hfg hbig hto
  go_enter Try.func16, Try.ntmps16
  go_wp2_with fail
  refine P1.out.mono ?_; rintro e w' ⟨rfl, rfl⟩
  go_wp2_with fail
  refine P2.out.mono ?_; rintro e w' ⟨rfl, rfl⟩
  go_wp2_with fail
  refine P3.out.mono ?_; rintro e w' ⟨rfl, rfl⟩
  go_wp2_with fail
  refine DG.out.mono ?_; rintro e w' ⟨rfl, hq⟩
  have HQ := Lib.hid hq
  clear hq
  go_wp2
  go_ret
  exact ⟨rfl, HQ.out⟩
end
end Go.Proofs.Ytfmmdnjoichifaa
