/- Contracts of a disk: Rename to a name that no file has. -/
import Derived.Test.YtfmmdnjoichifaaFiT
import Derived.Test.YtfmmdnjoichifaaFiP
namespace Go.Proofs.Ytfmmdnjoichifaa
open Go.RowKit Go.Sort

section
variable {w w' w1 w2 w3 : World} {base d m : Nat} {D : Dk}
theorem wp_delR {o : Oper} {a : Act} {K : Act → World → Prop} {Q : Exit → Act → World → Prop} (x y : Operand) (ho : o.op = .call { callee := .builtin .delete, args := #[x, y], argTypes := #[77, 9] }) {fs : List (Nm × Nat)} (hm : MapR w m fs) {key : Nm} (hk : key.length ≤ maxLen)
    (hx : a.eval x = .map (some m)) (hy : a.eval y = strV key) (h : ∀ w', MapR w' m (fs.filter fun p => p.1 != key) → w.grownBy w' (some m) → K (a.put o.dst (.tuple #[])) w') : o.wp Try.prog a w K Q := by
  obtain ⟨w', hrun, h1, h2⟩ := hm.del hk o.type
  unfold Oper.wp
  have h' := h w' h1 h2
  simp [execOp, ho, resolve, invoke, builtin, hx, hy, hrun, Result.andThen]
  exact h'
/-- The files behind a rename to a new name. -/
def renFs (fs : List Fi) (f : Fi) (to : Nm) : List Fi := (fs.filter fun g => g.name != f.name) ++ [{ f with name := to }]
theorem nmOf_filter (fs : List Fi) (n : Nm) : (nmOf fs).filter (fun p => p.1 != n) = nmOf (fs.filter fun g => g.name != n) := by
  unfold nmOf
  rw [List.filter_map]
  rfl
theorem blk_inj {fs : List Fi} (hap : fs.Pairwise fun a b => a.blk ≠ b.blk) {f g : Fi} (hf : f ∈ fs) (hg : g ∈ fs) (e : f.blk = g.blk) : f = g := by
  have a := findB_mem hap hf
  rw [e, findB_mem hap hg] at a
  injection a with a
  exact a.symm
theorem name_blk (h : DiskR w base d m D) {f g : Fi} (hf : f ∈ D.fs) (hg : g ∈ D.fs) (e : f.name = g.name) : f.blk = g.blk := by
  have a := h.look hf
  rw [e, h.look hg] at a
  injection a with a
  injection a with a
  injection a with a
  injection a with a
  exact a.symm
theorem DiskR.rename1 (h : DiskR w base d m D) {f : Fi} (hf : f ∈ D.fs) {to : Nm} (hto : 1 ≤ to.length ∧ to.length ≤ 24) (hg1 : w.grownBy w1 (some m))
    (hg3 : (w1.setCell ⟨f.blk, 0, none⟩ (strV to)).grownBy w3 (some m)) (hm3 : MapR w3 m (nmOf (renFs D.fs f to))) :
    DiskR w3 base d m { D with fs := renFs D.fs f to } ∧ DF base m w w3 := by
  have hnb : ∀ g ∈ D.fs, f.name = g.name → f.blk = g.blk := fun g hg e => name_blk h hf hg e
  have hH := h
  obtain ⟨h1, h2, h3, ⟨pA, pc, h4, h5⟩, ⟨role, h6⟩, h7, h8, h9, h10⟩ := h
  obtain ⟨nA, nc, kA, kc, hb, hfb, hrn, hrk, rn, rk⟩ := h6 f hf
  have gs := gr_set w1 f.blk 0 (strV to)
  have ne1 : ∀ g t cs, Blk w g t cs → some g ≠ some m := fun g t cs hb e => by injection e with e; exact map_ne_blk h3 hb e
  have own1 : ∀ {e size n : Nat} {v : Value} {xs : List Value}, w.ownsRow base e size v n xs → v.ownBlock = none ∨ v.ownBlock ≠ some m := fun ho => own_ne_map ho h3
  have hb1 : Blk w1 f.blk _ _ := hb.grown hg1 (ne1 _ _ _ hb)
  have hbm : f.blk ≠ m := map_ne_blk h3 hb
  have h41 := h4.grown hg1 (ne1 _ _ _ h4)
  have hdf : d ≠ f.blk := Blk.ne_ h4 hb (by decide)
  have h42 := h41.grown gs (fun e => by injection e with e; exact hdf e)
  have h43 := h42.grown hg3 (fun e => by injection e with e; exact map_ne_blk h3 h4 e)
  have h51 := h5.kept hg1 (own1 h5)
  have h52 := h51.kept gs (.inr (own_ne_blk h51 hb1 (by decide)))
  have h53 := h52.kept hg3 (own1 h5)
  have hb2 := hb1.set_ 0 (strV to)
  have hb3 := hb2.grown hg3 (fun e => by injection e with e; exact hbm e)
  have rows : ∀ (v : Value) (l : List Sec), SecRow w base v l → SecRow w3 base v l := fun v l hr => by
    have r1 : SecRow w1 base v l := hr.kept hg1 (own1 hr)
    have r2 : SecRow (w1.setCell ⟨f.blk, 0, none⟩ (strV to)) base v l := r1.kept gs (.inr (own_ne_blk r1 hb1 (by decide)))
    exact r2.kept hg3 (own1 hr)
  refine ⟨⟨h1, h2, hm3, ⟨pA, pc, h43, h53⟩, ⟨role, fun g hg => ?_⟩, fun p hp => ⟨(h7 p hp).1, ?_⟩, ?_, fun g hg => ?_, ⟨h10.1, h10.2.1, h10.2.2.1, h10.2.2.2.1, ?_⟩⟩, ?_⟩
  · rcases List.mem_append.1 hg with hg | hg
    · obtain ⟨hg, hne⟩ := List.mem_filter.1 hg
      have hne' : g.blk ≠ f.blk := fun e => by
        have := blk_inj h8 hg hf e
        subst this
        simp at hne
      obtain ⟨nA', nc', kA', kc', gb, gfb, grn, grk, r1, r2⟩ := h6 g hg
      have g1 := gb.grown hg1 (ne1 _ _ _ gb)
      have g2 := g1.grown gs (fun e => by injection e with e; exact hne' e)
      have g3 := g2.grown hg3 (fun e => by injection e with e; exact map_ne_blk h3 gb e)
      exact ⟨nA', nc', kA', kc', g3, gfb, rows _ _ grn, rows _ _ grk, r1, r2⟩
    · rw [List.mem_singleton.1 hg]
      exact ⟨nA, nc, kA, kc, hb3, hfb, rows _ _ hrn, rows _ _ hrk, rn, rk⟩
  · obtain ⟨-, g, hg, hgb⟩ := h7 p hp
    by_cases e : g.name = f.name
    · exact ⟨{ f with name := to }, List.mem_append_right _ (List.mem_singleton.2 rfl), (hnb g hg e.symm).trans hgb⟩
    · exact ⟨g, List.mem_append_left _ (List.mem_filter.2 ⟨hg, bne_iff_ne.2 e⟩), hgb⟩
  · refine List.pairwise_append.2 ⟨h8.filter _, List.pairwise_singleton _ _, fun g hg k hk => ?_⟩
    rw [List.mem_singleton.1 hk]
    obtain ⟨hg, hne⟩ := List.mem_filter.1 hg
    intro e
    have := blk_inj h8 hg hf e
    subst this
    simp at hne
  · rcases List.mem_append.1 hg with hg | hg
    · exact h9 g (List.mem_filter.1 hg).1
    · rw [List.mem_singleton.1 hg]
      exact ⟨(h9 f hf).1, (h9 f hf).2.1, hto⟩
  · show (renFs D.fs f to).length ≤ 256
    have hlt : (D.fs.filter fun g => g.name != f.name).length < D.fs.length := by
      refine Nat.lt_of_le_of_ne (List.length_filter_le _ _) fun e => ?_
      have := (List.length_filter_eq_length_iff.1 e) f hf
      simp at this
    unfold renFs
    rw [List.length_append, List.length_singleton]
    have := h10.2.2.2.2
    omega
  · have a1 : DF base m w w1 := DF.of_grown hg1 fun g hgd => by injection hgd with hgd; subst hgd; exact ⟨h2, .inl rfl⟩
    have a2 : DF base m w1 (w1.setCell ⟨f.blk, 0, none⟩ (strV to)) := DF.of_grown gs fun g hgd => by injection hgd with hgd; subst hgd; exact ⟨hfb, dty_blk hb1 (.inr (.inr (.inl rfl)))⟩
    have a3 : DF base m (w1.setCell ⟨f.blk, 0, none⟩ (strV to)) w3 := DF.of_grown hg3 fun g hgd => by injection hgd with hgd; subst hgd; exact ⟨h2, .inl rfl⟩
    exact (a1.trans a2).trans a3
theorem remove_none (h : DiskR w base d m D) {n : Nm} (hk : n.length ≤ maxLen) (hn : ∀ f ∈ D.fs, f.name ≠ n) : Calls Try.prog 58 #[ptD d, strV n] w fun e w' => e = .returned (.tuple #[]) ∧ w = w' := by
  obtain ⟨pA, pc, hd, -, h1, -⟩ := h.cells
  have hl := h.lookN hk hn
  clear h hn hk
  go_enter Try.func58, Try.ntmps58
  go_wp2
  go_end0
  exact ⟨rfl, rfl⟩
set_option maxRecDepth 100000 in
set_option maxHeartbeats 2000000 in
theorem rename1_new (h : DiskR w base d m D) {f : Fi} (hf : f ∈ D.fs) {to : Nm} (hto : 1 ≤ to.length ∧ to.length ≤ 24) (hnew : ∀ g ∈ D.fs, g.name ≠ to) {ba bb bd bf : Nat} (x0 : w.cell? ⟨ba, 0, none⟩ = some (strV f.name)) (X1 : Blk w bb 9 #[strV to]) (X2 : Blk w bd 23 #[ptD d]) (X3 : Blk w bf 86 #[ptD f.blk]) :
    Calls Try.prog 57 #[.pointer (some ⟨ba, 0, none⟩), .pointer (some ⟨bb, 0, none⟩), .pointer (some ⟨bd, 0, none⟩), .pointer (some ⟨bf, 0, none⟩)] w fun e w' => e = .returned (.tuple #[]) ∧
      DiskR w' base d m { D with fs := renFs D.fs f to } ∧ DF base m w w' := by
  have hne := hnew f hf
  have hlt : to.length ≤ maxLen := by unfold maxLen; omega
  have hlf : f.name.length ≤ maxLen := by have := (h.small f hf).2.2.2; unfold maxLen; omega
  have P1 := Lib.hid (remove_none h hlt hnew)
  obtain ⟨pA, pc, htop, -⟩ := h.top
  obtain ⟨role, h6⟩ := h.files
  obtain ⟨nA, nc, kA, kc, hfb, -⟩ := h6 f hf
  have HTOP := Lib.hid htop
  have HFB := Lib.hid hfb
  clear h6 htop hfb
  have x1 := X1.cell 0
  have x2 := X2.cell 0
  have x3 := X3.cell 0
  have HX1 := Lib.hid X1
  have HX2 := Lib.hid X2
  have HX3 := Lib.hid X3
  have H := Lib.hid h
  have HT := Lib.hid hto
  have HF := Lib.hid hf
  have HNEW := Lib.hid hnew
  have HLT := Lib.hid hlt
  have HLF := Lib.hid hlf
  have X0 := Lib.hid x0
  obtain ⟨s1, e1⟩ : ∃ s : ByteArray, s = ⟨f.name.toArray⟩ := ⟨_, rfl⟩
  obtain ⟨s2, e2⟩ : ∃ s : ByteArray, s = ⟨to.toArray⟩ := ⟨_, rfl⟩
  have q : (s1.toList == s2.toList) = false := by
    rw [beq_eq_false_iff_ne, ByteArray.toList_eq, ByteArray.toList_eq, e1, e2]
    exact fun e => hne (by simpa using e)
  have n1 : strV f.name = .string s1 := by rw [e1]; rfl
  have n2 : strV to = .string s2 := by rw [e2]; rfl
  rw [n1] at x0
  rw [show (#[strV to][0]? : Option Value) = some (.string s2) from by rw [← n2]; rfl] at x1
  have N1 := Lib.hid n1
  have N2 := Lib.hid n2
  clear e1 e2 n1
  rw [n2] at P1
  clear n2
  clear h X1 X2 X3 hto hf hnew hlt hlf hne
  go_enter Try.func57, Try.ntmps57
  go_wp2_with fail
  refine P1.out.mono ?_; rintro e w' ⟨rfl, rfl⟩
  go_wp2_with fail
  refine wp_region_J RT [5] (n := 6) (by kernel_rfl) rfl ?_
  refine batchJ RT.refl [0, 1, 2, 3, 4] (fuel := 1) rfl (by kernel_rfl) (by kernel_rfl) (fun _ _ d _ _ h => by cases d <;> exact h) ?_
  (repeat (first | ((with_reducible apply wq0); rfl; rfl; rfl; intro K hK; go_big_quiet_op; refine hK _ ?_; clear hK K) | ((with_reducible apply wq1); rfl; rfl; rfl; rfl; rfl; rfl; intro K hK; go_big_quiet_op; refine hK _ ?_; clear hK K) | ((with_reducible apply wqs); rfl; rfl; rfl; rfl; rfl; rfl; simp only [Act.put, List.setIfInBounds_toArray, List.set_cons_zero, List.set_cons_succ]) | ((with_reducible apply wqu); rfl; rfl; rfl; rfl; rfl; (first | simp only [same, Act.put, List.setIfInBounds_toArray, List.set_cons_zero, List.set_cons_succ] | simp only [Act.put, List.setIfInBounds_toArray, List.set_cons_zero, List.set_cons_succ]))))
  refine wqIdx_load rfl rfl rfl rfl (fun W hW => run_load1 (fun _ => by kernel_rfl) (keep_c hW (HX2.out.cell 0))) ?_; simp only [Act.put, List.setIfInBounds_toArray, List.set_cons_zero, List.set_cons_succ]
  (repeat (first | ((with_reducible apply wq0); rfl; rfl; rfl; intro K hK; go_big_quiet_op; refine hK _ ?_; clear hK K) | ((with_reducible apply wq1); rfl; rfl; rfl; rfl; rfl; rfl; intro K hK; go_big_quiet_op; refine hK _ ?_; clear hK K) | ((with_reducible apply wqs); rfl; rfl; rfl; rfl; rfl; rfl; simp only [Act.put, List.setIfInBounds_toArray, List.set_cons_zero, List.set_cons_succ]) | ((with_reducible apply wqu); rfl; rfl; rfl; rfl; rfl; (first | simp only [same, Act.put, List.setIfInBounds_toArray, List.set_cons_zero, List.set_cons_succ] | simp only [Act.put, List.setIfInBounds_toArray, List.set_cons_zero, List.set_cons_succ]))))
  refine wqIdx_nil_check rfl rfl rfl rfl ?_; simp only [Act.put, List.setIfInBounds_toArray, List.set_cons_zero, List.set_cons_succ]
  (repeat (first | ((with_reducible apply wq0); rfl; rfl; rfl; intro K hK; go_big_quiet_op; refine hK _ ?_; clear hK K) | ((with_reducible apply wq1); rfl; rfl; rfl; rfl; rfl; rfl; intro K hK; go_big_quiet_op; refine hK _ ?_; clear hK K) | ((with_reducible apply wqs); rfl; rfl; rfl; rfl; rfl; rfl; simp only [Act.put, List.setIfInBounds_toArray, List.set_cons_zero, List.set_cons_succ]) | ((with_reducible apply wqu); rfl; rfl; rfl; rfl; rfl; (first | simp only [same, Act.put, List.setIfInBounds_toArray, List.set_cons_zero, List.set_cons_succ] | simp only [Act.put, List.setIfInBounds_toArray, List.set_cons_zero, List.set_cons_succ]))))
  refine wqIdx_load rfl rfl rfl rfl (fun W hW => run_load1 (fun _ => by kernel_rfl) (keep_c hW (HTOP.out.cell 1))) ?_; simp only [Act.put, List.setIfInBounds_toArray, List.set_cons_zero, List.set_cons_succ]
  (repeat (first | ((with_reducible apply wq0); rfl; rfl; rfl; intro K hK; go_big_quiet_op; refine hK _ ?_; clear hK K) | ((with_reducible apply wq1); rfl; rfl; rfl; rfl; rfl; rfl; intro K hK; go_big_quiet_op; refine hK _ ?_; clear hK K) | ((with_reducible apply wqs); rfl; rfl; rfl; rfl; rfl; rfl; simp only [Act.put, List.setIfInBounds_toArray, List.set_cons_zero, List.set_cons_succ]) | ((with_reducible apply wqu); rfl; rfl; rfl; rfl; rfl; (first | simp only [same, Act.put, List.setIfInBounds_toArray, List.set_cons_zero, List.set_cons_succ] | simp only [Act.put, List.setIfInBounds_toArray, List.set_cons_zero, List.set_cons_succ]))))
  refine wqIdx_load rfl rfl rfl rfl (fun W hW => run_load1 (fun _ => by kernel_rfl) (keep_c hW (X0.out))) ?_; simp only [Act.put, List.setIfInBounds_toArray, List.set_cons_zero, List.set_cons_succ]
  (repeat (first | ((with_reducible apply wq0); rfl; rfl; rfl; intro K hK; go_big_quiet_op; refine hK _ ?_; clear hK K) | ((with_reducible apply wq1); rfl; rfl; rfl; rfl; rfl; rfl; intro K hK; go_big_quiet_op; refine hK _ ?_; clear hK K) | ((with_reducible apply wqs); rfl; rfl; rfl; rfl; rfl; rfl; simp only [Act.put, List.setIfInBounds_toArray, List.set_cons_zero, List.set_cons_succ]) | ((with_reducible apply wqu); rfl; rfl; rfl; rfl; rfl; (first | simp only [same, Act.put, List.setIfInBounds_toArray, List.set_cons_zero, List.set_cons_succ] | simp only [Act.put, List.setIfInBounds_toArray, List.set_cons_zero, List.set_cons_succ]))))
  refine wqIdx_nil ?_
  refine wpAnyJ_sole (i := 5) rfl (by kernel_rfl) (fun K hK => ?_); rw [if_pos (wanted0 rfl _)]
  refine wp_delR (.tmp 13) (.tmp 14) rfl H.out.map (key := f.name) HLF.out rfl rfl fun w2 m2 g2' => ?_
  refine hK _ _ ⟨fun hc => absurd (List.mem_singleton.2 rfl) hc, trivial⟩ ?_
  clear hK K x0 x1 x2 x3
  have nm : ∀ g t cs, Blk w g t cs → some g ≠ some m := fun g t cs hb e => by injection e with e; exact map_ne_blk H.out.map hb e
  have g2 : w.grownBy w2 (some m) := ⟨g2'.os, g2'.tape, g2'.output, g2'.size, g2'.block⟩
  clear g2'
  have hg2 := Lib.hid g2
  have b1 := HX1.out.grown g2 (nm _ _ _ HX1.out)
  have b2 := HX2.out.grown g2 (nm _ _ _ HX2.out)
  have b3 := HX3.out.grown g2 (nm _ _ _ HX3.out)
  have bt := HTOP.out.grown g2 (nm _ _ _ HTOP.out)
  have bf' := HFB.out.grown g2 (nm _ _ _ HFB.out)
  have gs := gr_set w2 f.blk 0 (strV to)
  have HM3 := Lib.hid (m2.kept gs (fun e => by injection e with e; exact map_ne_blk H.out.map HFB.out e.symm))
  have HB1 := Lib.hid (b1.grown gs (fun e => by injection e with e; exact Blk.ne_ b1 bf' (by decide) e))
  have HB2 := Lib.hid (b2.grown gs (fun e => by injection e with e; exact Blk.ne_ b2 bf' (by decide) e))
  have HB3 := Lib.hid (b3.grown gs (fun e => by injection e with e; exact Blk.ne_ b3 bf' (by decide) e))
  have HBT := Lib.hid (bt.grown gs (fun e => by injection e with e; exact Blk.ne_ bt bf' (by decide) e))
  have y1 := b1.cell 0
  have y3 := b3.cell 0
  have y0 := bf'.cell 0
  have yf := bf'.frozen 0
  clear m2 g2 b1 b2 b3 bt bf' gs nm
  have n2 := N2.out
  rw [n2] at HM3 HB1 HB2 HB3 HBT y1
  clear n2
  refine wpAnyJ_done (by kernel_rfl) ?_ _
  go_wp2_with fail
  clear y1 y3 y0 yf
  refine wp_region_J RT [6] (n := 7) (by kernel_rfl) rfl ?_
  refine batchJ RT.refl [0, 1, 2, 3, 4, 5] (fuel := 1) rfl (by kernel_rfl) (by kernel_rfl) (fun _ _ d _ _ h => by cases d <;> exact h) ?_
  (repeat (first | ((with_reducible apply wq0); rfl; rfl; rfl; intro K hK; go_big_quiet_op; refine hK _ ?_; clear hK K) | ((with_reducible apply wq1); rfl; rfl; rfl; rfl; rfl; rfl; intro K hK; go_big_quiet_op; refine hK _ ?_; clear hK K) | ((with_reducible apply wqs); rfl; rfl; rfl; rfl; rfl; rfl; simp only [Act.put, List.setIfInBounds_toArray, List.set_cons_zero, List.set_cons_succ]) | ((with_reducible apply wqu); rfl; rfl; rfl; rfl; rfl; (first | simp only [same, Act.put, List.setIfInBounds_toArray, List.set_cons_zero, List.set_cons_succ] | simp only [Act.put, List.setIfInBounds_toArray, List.set_cons_zero, List.set_cons_succ]))))
  refine wqIdx_load rfl rfl rfl rfl (fun W hW => run_load1 (fun _ => by kernel_rfl) (keep_c hW (HB2.out.cell 0))) ?_; simp only [Act.put, List.setIfInBounds_toArray, List.set_cons_zero, List.set_cons_succ]
  (repeat (first | ((with_reducible apply wq0); rfl; rfl; rfl; intro K hK; go_big_quiet_op; refine hK _ ?_; clear hK K) | ((with_reducible apply wq1); rfl; rfl; rfl; rfl; rfl; rfl; intro K hK; go_big_quiet_op; refine hK _ ?_; clear hK K) | ((with_reducible apply wqs); rfl; rfl; rfl; rfl; rfl; rfl; simp only [Act.put, List.setIfInBounds_toArray, List.set_cons_zero, List.set_cons_succ]) | ((with_reducible apply wqu); rfl; rfl; rfl; rfl; rfl; (first | simp only [same, Act.put, List.setIfInBounds_toArray, List.set_cons_zero, List.set_cons_succ] | simp only [Act.put, List.setIfInBounds_toArray, List.set_cons_zero, List.set_cons_succ]))))
  refine wqIdx_nil_check rfl rfl rfl rfl ?_; simp only [Act.put, List.setIfInBounds_toArray, List.set_cons_zero, List.set_cons_succ]
  (repeat (first | ((with_reducible apply wq0); rfl; rfl; rfl; intro K hK; go_big_quiet_op; refine hK _ ?_; clear hK K) | ((with_reducible apply wq1); rfl; rfl; rfl; rfl; rfl; rfl; intro K hK; go_big_quiet_op; refine hK _ ?_; clear hK K) | ((with_reducible apply wqs); rfl; rfl; rfl; rfl; rfl; rfl; simp only [Act.put, List.setIfInBounds_toArray, List.set_cons_zero, List.set_cons_succ]) | ((with_reducible apply wqu); rfl; rfl; rfl; rfl; rfl; (first | simp only [same, Act.put, List.setIfInBounds_toArray, List.set_cons_zero, List.set_cons_succ] | simp only [Act.put, List.setIfInBounds_toArray, List.set_cons_zero, List.set_cons_succ]))))
  refine wqIdx_load rfl rfl rfl rfl (fun W hW => run_load1 (fun _ => by kernel_rfl) (keep_c hW (HBT.out.cell 1))) ?_; simp only [Act.put, List.setIfInBounds_toArray, List.set_cons_zero, List.set_cons_succ]
  (repeat (first | ((with_reducible apply wq0); rfl; rfl; rfl; intro K hK; go_big_quiet_op; refine hK _ ?_; clear hK K) | ((with_reducible apply wq1); rfl; rfl; rfl; rfl; rfl; rfl; intro K hK; go_big_quiet_op; refine hK _ ?_; clear hK K) | ((with_reducible apply wqs); rfl; rfl; rfl; rfl; rfl; rfl; simp only [Act.put, List.setIfInBounds_toArray, List.set_cons_zero, List.set_cons_succ]) | ((with_reducible apply wqu); rfl; rfl; rfl; rfl; rfl; (first | simp only [same, Act.put, List.setIfInBounds_toArray, List.set_cons_zero, List.set_cons_succ] | simp only [Act.put, List.setIfInBounds_toArray, List.set_cons_zero, List.set_cons_succ]))))
  refine wqIdx_load rfl rfl rfl rfl (fun W hW => run_load1 (fun _ => by kernel_rfl) (keep_c hW (HB1.out.cell 0))) ?_; simp only [Act.put, List.setIfInBounds_toArray, List.set_cons_zero, List.set_cons_succ]
  (repeat (first | ((with_reducible apply wq0); rfl; rfl; rfl; intro K hK; go_big_quiet_op; refine hK _ ?_; clear hK K) | ((with_reducible apply wq1); rfl; rfl; rfl; rfl; rfl; rfl; intro K hK; go_big_quiet_op; refine hK _ ?_; clear hK K) | ((with_reducible apply wqs); rfl; rfl; rfl; rfl; rfl; rfl; simp only [Act.put, List.setIfInBounds_toArray, List.set_cons_zero, List.set_cons_succ]) | ((with_reducible apply wqu); rfl; rfl; rfl; rfl; rfl; (first | simp only [same, Act.put, List.setIfInBounds_toArray, List.set_cons_zero, List.set_cons_succ] | simp only [Act.put, List.setIfInBounds_toArray, List.set_cons_zero, List.set_cons_succ]))))
  refine wqIdx_load rfl rfl rfl rfl (fun W hW => run_load1 (fun _ => by kernel_rfl) (keep_c hW (HB3.out.cell 0))) ?_; simp only [Act.put, List.setIfInBounds_toArray, List.set_cons_zero, List.set_cons_succ]
  (repeat (first | ((with_reducible apply wq0); rfl; rfl; rfl; intro K hK; go_big_quiet_op; refine hK _ ?_; clear hK K) | ((with_reducible apply wq1); rfl; rfl; rfl; rfl; rfl; rfl; intro K hK; go_big_quiet_op; refine hK _ ?_; clear hK K) | ((with_reducible apply wqs); rfl; rfl; rfl; rfl; rfl; rfl; simp only [Act.put, List.setIfInBounds_toArray, List.set_cons_zero, List.set_cons_succ]) | ((with_reducible apply wqu); rfl; rfl; rfl; rfl; rfl; (first | simp only [same, Act.put, List.setIfInBounds_toArray, List.set_cons_zero, List.set_cons_succ] | simp only [Act.put, List.setIfInBounds_toArray, List.set_cons_zero, List.set_cons_succ]))))
  refine wqIdx_nil ?_
  refine wpAnyJ_sole (i := 6) rfl (by kernel_rfl) (fun K hK => ?_); rw [if_pos (wanted0 rfl _)]
  refine wp_putR (.tmp 22) (.tmp 23) (.tmp 24) rfl HM3.out (key := to) HLT.out ?c1 f.blk ?c2 rfl N2.out.symm rfl fun w5 m5 g5' => ?_
  case c1 =>
    rw [nmOf_filter]
    exact lookO_none fun g hg => HNEW.out g (List.mem_filter.1 hg).1
  case c2 =>
    rw [nmOf_filter]
    unfold nmOf
    rw [List.length_map]
    have := H.out.lim.2.2.2.2
    have := List.length_filter_le (fun g : Fi => g.name != f.name) D.fs
    omega
  refine hK _ _ ⟨fun hc => absurd (List.mem_singleton.2 rfl) hc, trivial⟩ ?_
  clear hK K
  rw [← N2.out] at g5'
  have g5 : (w2.setCell ⟨f.blk, 0, none⟩ (strV to)).grownBy w5 (some m) := ⟨g5'.os, g5'.tape, g5'.output, g5'.size, g5'.block⟩
  clear g5'
  have HR := Lib.hid (H.out.rename1 HF.out HT.out hg2.out g5 (by
    unfold renFs
    rw [nmOf_append, ← nmOf_filter]
    exact m5))
  clear m5 g5
  refine wpAnyJ_done (by kernel_rfl) ?_ _
  go_wp2
  go_end0
  exact ⟨rfl, HR.out⟩
set_option maxRecDepth 100000 in
set_option maxHeartbeats 2000000 in
theorem rename_new (h : DiskR w base d m D) {f : Fi} (hf : f ∈ D.fs) {to : Nm} (hk : mayNm to = true) (hnew : ∀ g ∈ D.fs, g.name ≠ to) (ho : D.off = false) (hgo : goes D) :
    Calls Try.prog 16 #[ptD d, strV f.name, strV to] w fun e w' => e = .returned (.int .i64 0) ∧ DiskR w' base d m { tick D with fs := renFs D.fs f to } ∧ DF base m w w' := by
  have hto : 1 ≤ to.length ∧ to.length ≤ 24 := by unfold mayNm at hk; rw [decide_eq_true_eq] at hk; exact hk
  have b1 := al_below w (.cells #[ptD d] 23)
  have b2 := al_below (w.alloc (.cells #[ptD d] 23)) (.cells #[strV f.name] 9)
  have b3 := al_below ((w.alloc (.cells #[ptD d] 23)).alloc (.cells #[strV f.name] 9)) (.cells #[strV to] 9)
  have b4 := al_below (((w.alloc (.cells #[ptD d] 23)).alloc (.cells #[strV f.name] 9)).alloc (.cells #[strV to] 9)) (.cells #[ptD f.blk] 86)
  have b13 := below_trans (below_trans b1 b2) b3
  have b14 := below_trans b13 b4
  have X1 := ((Blk.new w 23 #[ptD d]).alloc (.cells #[strV f.name] 9)).alloc (.cells #[strV to] 9)
  have X2 := (Blk.new (w.alloc (.cells #[ptD d] 23)) 9 #[strV f.name]).alloc (.cells #[strV to] 9)
  have X3 := Blk.new ((w.alloc (.cells #[ptD d] 23)).alloc (.cells #[strV f.name] 9)) 9 #[strV to]
  have Y1 := X1.alloc (.cells #[ptD f.blk] 86)
  have Y2 := X2.alloc (.cells #[ptD f.blk] 86)
  have Y3 := X3.alloc (.cells #[ptD f.blk] 86)
  have Y4 := Blk.new (((w.alloc (.cells #[ptD d] 23)).alloc (.cells #[strV f.name] 9)).alloc (.cells #[strV to] 9)) 86 #[ptD f.blk]
  rw [World.size_alloc] at X2 Y2
  rw [World.size_alloc, World.size_alloc] at X3 Y3
  rw [World.size_alloc, World.size_alloc, World.size_alloc] at Y4
  have H3 := h.below b13
  have H4 := h.below b14
  have P1 := Lib.hid (unmade_any H3)
  have P2 := Lib.hid (mayName_any to (((w.alloc (.cells #[ptD d] 23)).alloc (.cells #[strV f.name] 9)).alloc (.cells #[strV to] 9)))
  rw [hk] at P2
  have P3 := Lib.hid (reach_ok H3 hf ho)
  have x1 := X1.cell 0
  have x2 := X2.cell 0
  have x3 := X3.cell 0
  have y1 := Y1.cell 0
  have DG := Lib.hid (deed_go H4 hgo 57 #[.pointer (some ⟨w.heap.size + 1, 0, none⟩), .pointer (some ⟨w.heap.size + 1 + 1, 0, none⟩), .pointer (some ⟨w.heap.size, 0, none⟩), .pointer (some ⟨w.heap.size + 1 + 1 + 1, 0, none⟩)] (enters_of Try.func57 (by kernel_rfl) rfl) (fun w' => DiskR w' base d m { tick D with fs := renFs D.fs f to } ∧ DF base m w w') fun w5 k1 k2 => by
    have fs5 : (tick D).fs = D.fs := by unfold tick; split <;> rfl
    have e1 := k2.blk Y1 (map_ne_blk H4.map Y1) (by decide)
    have e2 := k2.blk Y2 (map_ne_blk H4.map Y2) (by decide)
    have e3 := k2.blk Y3 (map_ne_blk H4.map Y3) (by decide)
    have e4 := k2.blk Y4 (map_ne_blk H4.map Y4) (by decide)
    refine (rename1_new k1 (f := f) (by rw [fs5]; exact hf) hto (by rw [fs5]; exact hnew) (e2.cell 0) e3 e1 e4).mono ?_
    rintro e w' ⟨he, k3, k4⟩
    rw [fs5] at k3
    exact ⟨he, k3, (DF.of_below b14).trans (k2.trans k4)⟩)
  clear h b1 b2 b3 b4 b13 b14 X1 X2 X3 Y1 Y2 Y3 Y4 H3 H4 hf ho hgo hk hnew hto
  go_enter Try.func16, Try.ntmps16
  go_wp2_with fail
  refine P1.out.mono ?_; rintro e w' ⟨rfl, rfl⟩
  go_wp2_with fail
  refine P2.out.mono ?_; rintro e w' ⟨rfl, rfl⟩
  go_wp2_with fail
  refine P3.out.mono ?_; rintro e w' ⟨rfl, rfl⟩
  go_wp2_with fail
  refine DG.out.mono ?_; rintro e w' ⟨rfl, hq⟩
  have HQ := Lib.hid hq
  clear hq
  go_wp2
  go_ret
  exact ⟨rfl, HQ.out⟩
end
end Go.Proofs.Ytfmmdnjoichifaa
