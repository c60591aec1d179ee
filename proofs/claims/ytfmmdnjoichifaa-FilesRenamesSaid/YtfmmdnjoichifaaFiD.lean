/- Contracts of a disk: Create. -/
import Derived.Test.YtfmmdnjoichifaaFiW
namespace Go.Proofs.Ytfmmdnjoichifaa
open Go.RowKit Go.Sort

section
variable {w w' : World} {base d m : Nat} {D : Dk}
theorem FileR.blk_ne_map {role : Nat → Nat} {f : Fi} {fs : List (Nm × Nat)} (h : FileR w base role f) (hm : MapR w m fs) : f.blk ≠ m := by
  obtain ⟨nA, nc, kA, kc, hb, -⟩ := h
  exact map_ne_blk hm hb
theorem own_ne_map {e size n : Nat} {v : Value} {xs : List Value} {fs : List (Nm × Nat)} (h : w.ownsRow base e size v n xs) (hm : MapR w m fs) : v.ownBlock = none ∨ v.ownBlock ≠ some m := by
  cases hv : v.ownBlock with
  | none => exact .inl rfl
  | some g =>
    refine .inr fun e => ?_
    injection e with e
    subst e
    obtain ⟨cur, hc⟩ := own_blk h hv
    exact map_ne_blk hm hc rfl
theorem map_no_blk {fs : List (Nm × Nat)} (hm : MapR w m fs) : ¬ ∃ t c, Blk w m t c := fun ⟨_, _, h⟩ => map_ne_blk hm h rfl
/-- The map alone is written: another list of the same files, or fewer, or one more. -/
theorem DiskR.setMap (h : DiskR w base d m D) {fs' : List Fi} (hg : w.grownBy w' (some m)) (hmap : MapR w' m (nmOf fs')) (hfs : ∀ role, (∀ f ∈ D.fs, FileR w base role f) → ∀ f ∈ fs', FileR w base role f)
    (how : ∀ p ∈ D.pend, ∃ f ∈ fs', f.blk = p.f) (hap : fs'.Pairwise fun f g => f.blk ≠ g.blk) (hsm : ∀ f ∈ fs', f.now.length ≤ 16385 ∧ f.kept.length ≤ 16385 ∧ 1 ≤ f.name.length ∧ f.name.length ≤ 24) (hfew : fs'.length ≤ 256) :
    DiskR w' base d m { D with fs := fs' } ∧ DF base m w w' := by
  obtain ⟨h1, h2, h3, ⟨pA, pc, h4, h5⟩, ⟨role, h6⟩, h7, h8, h9, h10⟩ := h
  have h6' := hfs role h6
  refine ⟨⟨h1, h2, hmap, ⟨pA, pc, h4.grown hg (fun e => by injection e with e; exact map_ne_blk h3 h4 e), h5.kept hg (own_ne_map h5 h3)⟩, ⟨role, fun f hf => ?_⟩, fun p hp => ⟨(h7 p hp).1, how p hp⟩, hap, hsm, ⟨h10.1, h10.2.1, h10.2.2.1, h10.2.2.2.1, hfew⟩⟩, DF.of_grown hg fun g hgd => ?_⟩
  · exact (h6' f hf).kept hg (fun e => by injection e with e; exact (h6' f hf).blk_ne_map h3 e.symm) fun g hgd => by
      injection hgd with hgd
      subst hgd
      exact .inr (.inl (map_no_blk h3))
  · injection hgd with hgd
    subst hgd
    exact ⟨h2, .inl rfl⟩
theorem nmOf_append (a : List Fi) (f : Fi) : nmOf (a ++ [f]) = nmOf a ++ [(f.name, f.blk)] := by unfold nmOf; rw [List.map_append]; rfl
/-- mapUpdate, as one operation. -/
theorem wp_putR {o : Oper} {a : Act} {K : Act → World → Prop} {Q : Exit → Act → World → Prop} (x y z : Operand) (ho : o.op = .mapUpdate 77 x y z) {fs : List (Nm × Nat)} (hm : MapR w m fs) {key : Nm} (hk : key.length ≤ maxLen) (hnew : lookO fs key = none) (b : Nat) (hl : fs.length < 100000)
    (hx : a.eval x = .map (some m)) (hy : a.eval y = strV key) (hz : a.eval z = .pointer (some ⟨b, 0, none⟩)) (h : ∀ w', MapR w' m (fs ++ [(key, b)]) → w.grownBy w' (some m) → K (a.put o.dst undef) w') : o.wp Try.prog a w K Q := by
  obtain ⟨w', hrun, h1, h2⟩ := hm.put hk hnew b hl
  unfold Oper.wp execOp
  simp only [ho, hx, hy, hz, Sem.run_bind, hrun, Result.andThen_ok, Sem.run_pure]
  exact h w' h1 h2
set_option maxRecDepth 100000 in
set_option maxHeartbeats 1000000 in
theorem create1_any (h : DiskR w base d m D) {n : Nm} {bn bd : Nat} (hn : w.cell? ⟨bn, 0, none⟩ = some (strV n)) (hd : w.cell? ⟨bd, 0, none⟩ = some (ptD d)) (hk : mayNm n = true) (hnew : ∀ f ∈ D.fs, f.name ≠ n) (hl : D.fs.length < 256) (hbase : base ≤ w.heap.size) :
    Calls Try.prog 50 #[.pointer (some ⟨bn, 0, none⟩), .pointer (some ⟨bd, 0, none⟩)] w fun e w' => e = .returned (.tuple #[]) ∧ ∃ b, w.heap.size ≤ b ∧ DiskR w' base d m { D with fs := D.fs ++ [⟨b, n, [], []⟩] } ∧ DF base m w w' := by
  have H := Lib.hid h
  obtain ⟨pA, pc, hd0, -, h1, -⟩ := h.cells
  have HN := Lib.hid hn
  have HD := Lib.hid hd
  have H1 := Lib.hid h1
  have HL := Lib.hid hl
  have HK := Lib.hid hk
  have HNEW := Lib.hid hnew
  have HB := Lib.hid hbase
  clear h h1 hn hd hd0 hk hnew hl hbase
  go_enter Try.func50, Try.ntmps50
  go_wp2_with fail
  refine wp_region_J RT [8] (n := 9) (by kernel_rfl) rfl ?_
  refine batchJ RT.refl [0, 1, 2, 3, 4, 5, 6] (fuel := 2) rfl (by kernel_rfl) (by kernel_rfl) (fun _ _ d _ _ h => by cases d <;> exact h) ?_
  (repeat (first | ((with_reducible apply wq0); rfl; rfl; rfl; intro K hK; go_big_quiet_op; refine hK _ ?_; clear hK K) | ((with_reducible apply wq1); rfl; rfl; rfl; rfl; rfl; rfl; intro K hK; go_big_quiet_op; refine hK _ ?_; clear hK K) | ((with_reducible apply wqs); rfl; rfl; rfl; rfl; rfl; rfl; simp only [Act.put, List.setIfInBounds_toArray, List.set_cons_zero, List.set_cons_succ]) | ((with_reducible apply wqu); rfl; rfl; rfl; rfl; rfl; (first | simp only [same, Act.put, List.setIfInBounds_toArray, List.set_cons_zero, List.set_cons_succ] | simp only [Act.put, List.setIfInBounds_toArray, List.set_cons_zero, List.set_cons_succ]))))
  refine wqIdx_load rfl rfl rfl rfl (fun W hW => run_load1 (fun _ => by kernel_rfl) (keep_c hW (HD.out))) ?_; simp only [Act.put, List.setIfInBounds_toArray, List.set_cons_zero, List.set_cons_succ]
  (repeat (first | ((with_reducible apply wq0); rfl; rfl; rfl; intro K hK; go_big_quiet_op; refine hK _ ?_; clear hK K) | ((with_reducible apply wq1); rfl; rfl; rfl; rfl; rfl; rfl; intro K hK; go_big_quiet_op; refine hK _ ?_; clear hK K) | ((with_reducible apply wqs); rfl; rfl; rfl; rfl; rfl; rfl; simp only [Act.put, List.setIfInBounds_toArray, List.set_cons_zero, List.set_cons_succ]) | ((with_reducible apply wqu); rfl; rfl; rfl; rfl; rfl; (first | simp only [same, Act.put, List.setIfInBounds_toArray, List.set_cons_zero, List.set_cons_succ] | simp only [Act.put, List.setIfInBounds_toArray, List.set_cons_zero, List.set_cons_succ]))))
  refine wqIdx_nil_check rfl rfl rfl rfl ?_; simp only [Act.put, List.setIfInBounds_toArray, List.set_cons_zero, List.set_cons_succ]
  (repeat (first | ((with_reducible apply wq0); rfl; rfl; rfl; intro K hK; go_big_quiet_op; refine hK _ ?_; clear hK K) | ((with_reducible apply wq1); rfl; rfl; rfl; rfl; rfl; rfl; intro K hK; go_big_quiet_op; refine hK _ ?_; clear hK K) | ((with_reducible apply wqs); rfl; rfl; rfl; rfl; rfl; rfl; simp only [Act.put, List.setIfInBounds_toArray, List.set_cons_zero, List.set_cons_succ]) | ((with_reducible apply wqu); rfl; rfl; rfl; rfl; rfl; (first | simp only [same, Act.put, List.setIfInBounds_toArray, List.set_cons_zero, List.set_cons_succ] | simp only [Act.put, List.setIfInBounds_toArray, List.set_cons_zero, List.set_cons_succ]))))
  refine wqIdx_load rfl rfl rfl rfl (fun W hW => run_load1 (fun _ => by kernel_rfl) (keep_c hW (H1.out))) ?_; simp only [Act.put, List.setIfInBounds_toArray, List.set_cons_zero, List.set_cons_succ]
  (repeat (first | ((with_reducible apply wq0); rfl; rfl; rfl; intro K hK; go_big_quiet_op; refine hK _ ?_; clear hK K) | ((with_reducible apply wq1); rfl; rfl; rfl; rfl; rfl; rfl; intro K hK; go_big_quiet_op; refine hK _ ?_; clear hK K) | ((with_reducible apply wqs); rfl; rfl; rfl; rfl; rfl; rfl; simp only [Act.put, List.setIfInBounds_toArray, List.set_cons_zero, List.set_cons_succ]) | ((with_reducible apply wqu); rfl; rfl; rfl; rfl; rfl; (first | simp only [same, Act.put, List.setIfInBounds_toArray, List.set_cons_zero, List.set_cons_succ] | simp only [Act.put, List.setIfInBounds_toArray, List.set_cons_zero, List.set_cons_succ]))))
  refine wqIdx_load rfl rfl rfl rfl (fun W hW => run_load1 (fun _ => by kernel_rfl) (keep_c hW (HN.out))) ?_; simp only [Act.put, List.setIfInBounds_toArray, List.set_cons_zero, List.set_cons_succ]
  (repeat (first | ((with_reducible apply wq0); rfl; rfl; rfl; intro K hK; go_big_quiet_op; refine hK _ ?_; clear hK K) | ((with_reducible apply wq1); rfl; rfl; rfl; rfl; rfl; rfl; intro K hK; go_big_quiet_op; refine hK _ ?_; clear hK K) | ((with_reducible apply wqs); rfl; rfl; rfl; rfl; rfl; rfl; simp only [Act.put, List.setIfInBounds_toArray, List.set_cons_zero, List.set_cons_succ]) | ((with_reducible apply wqu); rfl; rfl; rfl; rfl; rfl; (first | simp only [same, Act.put, List.setIfInBounds_toArray, List.set_cons_zero, List.set_cons_succ] | simp only [Act.put, List.setIfInBounds_toArray, List.set_cons_zero, List.set_cons_succ]))))
  refine wqIdx_load rfl rfl rfl rfl (fun W hW => run_load1 (fun _ => by kernel_rfl) (keep_c hW (HN.out))) ?_; simp only [Act.put, List.setIfInBounds_toArray, List.set_cons_zero, List.set_cons_succ]
  (repeat (first | ((with_reducible apply wq0); rfl; rfl; rfl; intro K hK; go_big_quiet_op; refine hK _ ?_; clear hK K) | ((with_reducible apply wq1); rfl; rfl; rfl; rfl; rfl; rfl; intro K hK; go_big_quiet_op; refine hK _ ?_; clear hK K) | ((with_reducible apply wqs); rfl; rfl; rfl; rfl; rfl; rfl; simp only [Act.put, List.setIfInBounds_toArray, List.set_cons_zero, List.set_cons_succ]) | ((with_reducible apply wqu); rfl; rfl; rfl; rfl; rfl; (first | simp only [same, Act.put, List.setIfInBounds_toArray, List.set_cons_zero, List.set_cons_succ] | simp only [Act.put, List.setIfInBounds_toArray, List.set_cons_zero, List.set_cons_succ]))))
  refine wqIdx_build rfl rfl rfl (fun w => fileV_build n w) rfl ?_; simp only [Act.put, List.setIfInBounds_toArray, List.set_cons_zero, List.set_cons_succ]
  refine wqIdx_nil ?_
  refine wpAnyJ_sole (i := 7) rfl (by kernel_rfl) (fun K hK => ?_); go_simp
  have b1 := al_below w (.cells #[strV n, .slice none 0 0, .slice none 0 0] 90)
  have B1 := Lib.hid (show Below w.heap.size w (w.alloc (.cells #[strV n, .slice none 0 0, .slice none 0 0] 90)).drew from dr_below b1)
  have HB1 := Lib.hid (show Blk (w.alloc (.cells #[strV n, .slice none 0 0, .slice none 0 0] 90)).drew w.heap.size 90 #[strV n, .slice none 0 0, .slice none 0 0] from Blk.new w _ _)
  have HD1 := Lib.hid (H.out.below B1.out)
  refine hK _ _ ⟨fun _ => rb_of B1.out, trivial⟩ ?_
  clear hK K b1
  refine wpAnyJ_sole (i := 8) rfl (by kernel_rfl) (fun K hK => ?_); rw [if_pos (wanted0 rfl _)]
  refine wp_putR (.tmp 5) (.tmp 6) (.tmp 9) rfl HD1.out.map (key := n) ?c1 (lookO_none HNEW.out) w.heap.size ?c2 rfl rfl rfl fun w2 m2 g2 => ?_
  case c1 => have := HK.out; unfold mayNm at this; rw [decide_eq_true_eq] at this; unfold maxLen; omega
  case c2 => have := HL.out; unfold nmOf; rw [List.length_map]; omega
  refine hK _ _ ⟨fun hc => absurd (List.mem_singleton.2 rfl) hc, trivial⟩ ?_
  clear hK K
  have hk2 : 1 ≤ n.length ∧ n.length ≤ 24 := by have := HK.out; unfold mayNm at this; rw [decide_eq_true_eq] at this; exact this
  have hset := HD1.out.setMap (fs' := D.fs ++ [⟨w.heap.size, n, [], []⟩]) g2 (by rw [nmOf_append]; exact m2) (fun role hr f hf => by
    rcases List.mem_append.1 hf with hf | hf
    · exact hr f hf
    · rw [List.mem_singleton.1 hf]
      exact ⟨none, 0, none, 0, HB1.out, HB.out, own_nil_k laySec _ _ _, own_nil_k laySec _ _ _, fun g hg => (by cases hg), fun g hg => (by cases hg)⟩)
    (fun p hp => by obtain ⟨-, f, hf, hfb⟩ := HD1.out.own p hp; exact ⟨f, List.mem_append_left _ hf, hfb⟩)
    (List.pairwise_append.2 ⟨HD1.out.apart, List.pairwise_singleton _ _, fun f hf g hg => by
      rw [List.mem_singleton.1 hg]
      obtain ⟨_, _, _, _, hlt, -⟩ := H.out.file hf
      exact Nat.ne_of_lt hlt⟩)
    (fun f hf => by
      rcases List.mem_append.1 hf with hf | hf
      · exact HD1.out.small f hf
      · rw [List.mem_singleton.1 hf]; exact ⟨Nat.zero_le _, Nat.zero_le _, hk2⟩)
    (by have := HL.out; rw [List.length_append, List.length_singleton]; omega)
  have HS := Lib.hid hset
  clear hset m2 g2
  refine wpAnyJ_done (by kernel_rfl) ?_ _
  go_wp2
  go_end0
  exact ⟨rfl, w.heap.size, Nat.le_refl _, HS.out.1, (DF.of_below B1.out).trans HS.out.2⟩
/-- A box of the call's own stays while the disk changes. -/
theorem DF.box {w1 : World} {g : Nat} {t : TypeId} {v : Value} {fs : List (Nm × Nat)} (h : DF base m w w1) (hm : MapR w m fs) (hb : Blk w g t #[v]) (ht : t ≠ 80 ∧ t ≠ 96 ∧ t ≠ 90 ∧ t ≠ 94) : w1.cell? ⟨g, 0, none⟩ = some v :=
  (h.blk hb (map_ne_blk hm hb) ht).cell 0
set_option maxRecDepth 100000 in
set_option maxHeartbeats 1000000 in
theorem create_ok (h : DiskR w base d m D) {n : Nm} (hk : mayNm n = true) (hnew : ∀ f ∈ D.fs, f.name ≠ n) (hl : D.fs.length < 256) (ho : D.off = false) (hgo : goes D) (hbase : base ≤ w.heap.size) :
    Calls Try.prog 11 #[ptD d, strV n] w fun e w' => e = .returned (.int .i64 0) ∧ ∃ b, DiskR w' base d m { tick D with fs := D.fs ++ [⟨b, n, [], []⟩] } ∧ DF base m w w' := by
  have b1 := al_below w (.cells #[ptD d] 23)
  have b2 := al_below (w.alloc (.cells #[ptD d] 23)) (.cells #[strV n] 9)
  have X1 := Blk.alloc (Blk.new w 23 #[ptD d]) (.cells #[strV n] 9)
  have X2 := Blk.new (w.alloc (.cells #[ptD d] 23)) 9 #[strV n]
  rw [World.size_alloc] at X2
  have h2 := h.below (below_trans b1 b2)
  have hln : n.length ≤ maxLen := by unfold mayNm at hk; rw [decide_eq_true_eq] at hk; unfold maxLen; omega
  have P1 := Lib.hid (unmade_any h2)
  have P2 := Lib.hid (mayName_any n ((w.alloc (.cells #[ptD d] 23)).alloc (.cells #[strV n] 9)))
  rw [hk] at P2
  obtain ⟨pA, pc, hd, -, c1, -, c3, -⟩ := h2.cells
  have LK := Lib.hid (fun W (hW : Below ((w.alloc (.cells #[ptD d] 23)).alloc (.cells #[strV n] 9)).heap.size ((w.alloc (.cells #[ptD d] 23)).alloc (.cells #[strV n] 9)) W) => (h2.below hW).lookN hln hnew)
  have C1 := Lib.hid c1
  have XB1 := Lib.hid X1
  have XB2 := Lib.hid X2
  have hlen := (h2.drew).map.len 3
  have hlen2 : (nmOf D.fs).length = D.fs.length := by unfold nmOf; rw [List.length_map]
  rw [hlen2] at hlen
  have d1 : decide ((256 : Int) ≤ (D.fs.length : Int)) = false := by rw [decide_eq_false_iff_not]; omega
  rw [ho] at c3
  have P3 := Lib.hid (deed_go h2.drew hgo 50 #[.pointer (some ⟨w.heap.size + 1, 0, none⟩), .pointer (some ⟨w.heap.size, 0, none⟩)] (enters_of Try.func50 (by kernel_rfl) rfl) (fun w' => ∃ b, DiskR w' base d m { tick D with fs := D.fs ++ [⟨b, n, [], []⟩] } ∧ DF base m w w') fun w1 k1 k2 => by
    have hs : base ≤ w1.heap.size := Nat.le_trans (Nat.le_trans hbase (Nat.le_trans b1.size b2.size)) k2.size
    refine (create1_any k1 (k2.box h2.drew.map XB2.out (by decide)) (k2.box h2.drew.map XB1.out (by decide)) hk hnew hl hs).mono ?_
    rintro e w' ⟨he, b, -, k3, k4⟩
    exact ⟨he, b, k3, (DF.of_below (dr_below (below_trans b1 b2))).trans (k2.trans k4)⟩)
  clear h h2 b1 b2 X1 X2 hk hnew hl ho hgo hbase hln hlen2 hd
  go_enter Try.func11, Try.ntmps11
  go_wp2_with fail
  refine P1.out.mono ?_; rintro e w' ⟨rfl, rfl⟩
  go_wp2_with fail
  refine P2.out.mono ?_; rintro e w' ⟨rfl, rfl⟩
  go_wp2_with fail
  refine wp_region_J RT [] (n := 8) (by kernel_rfl) rfl ?_
  refine batchJ RT.refl [0, 1, 2, 3, 4, 5, 6, 7] (fuel := 0) rfl (by kernel_rfl) (by kernel_rfl) (fun _ _ d _ _ h => by cases d <;> exact h) ?_
  (repeat (first | ((with_reducible apply wq0); rfl; rfl; rfl; intro K hK; go_big_quiet_op; refine hK _ ?_; clear hK K) | ((with_reducible apply wq1); rfl; rfl; rfl; rfl; rfl; rfl; intro K hK; go_big_quiet_op; refine hK _ ?_; clear hK K) | ((with_reducible apply wqs); rfl; rfl; rfl; rfl; rfl; rfl; simp only [Act.put, List.setIfInBounds_toArray, List.set_cons_zero, List.set_cons_succ]) | ((with_reducible apply wqu); rfl; rfl; rfl; rfl; rfl; (first | simp only [same, Act.put, List.setIfInBounds_toArray, List.set_cons_zero, List.set_cons_succ] | simp only [Act.put, List.setIfInBounds_toArray, List.set_cons_zero, List.set_cons_succ]))))
  refine wqIdx_load rfl rfl rfl rfl (fun W hW => run_load1 (fun _ => by kernel_rfl) (keep_c hW (XB1.out.cell 0))) ?_; simp only [Act.put, List.setIfInBounds_toArray, List.set_cons_zero, List.set_cons_succ]
  (repeat (first | ((with_reducible apply wq0); rfl; rfl; rfl; intro K hK; go_big_quiet_op; refine hK _ ?_; clear hK K) | ((with_reducible apply wq1); rfl; rfl; rfl; rfl; rfl; rfl; intro K hK; go_big_quiet_op; refine hK _ ?_; clear hK K) | ((with_reducible apply wqs); rfl; rfl; rfl; rfl; rfl; rfl; simp only [Act.put, List.setIfInBounds_toArray, List.set_cons_zero, List.set_cons_succ]) | ((with_reducible apply wqu); rfl; rfl; rfl; rfl; rfl; (first | simp only [same, Act.put, List.setIfInBounds_toArray, List.set_cons_zero, List.set_cons_succ] | simp only [Act.put, List.setIfInBounds_toArray, List.set_cons_zero, List.set_cons_succ]))))
  refine wqIdx_nil_check rfl rfl rfl rfl ?_; simp only [Act.put, List.setIfInBounds_toArray, List.set_cons_zero, List.set_cons_succ]
  (repeat (first | ((with_reducible apply wq0); rfl; rfl; rfl; intro K hK; go_big_quiet_op; refine hK _ ?_; clear hK K) | ((with_reducible apply wq1); rfl; rfl; rfl; rfl; rfl; rfl; intro K hK; go_big_quiet_op; refine hK _ ?_; clear hK K) | ((with_reducible apply wqs); rfl; rfl; rfl; rfl; rfl; rfl; simp only [Act.put, List.setIfInBounds_toArray, List.set_cons_zero, List.set_cons_succ]) | ((with_reducible apply wqu); rfl; rfl; rfl; rfl; rfl; (first | simp only [same, Act.put, List.setIfInBounds_toArray, List.set_cons_zero, List.set_cons_succ] | simp only [Act.put, List.setIfInBounds_toArray, List.set_cons_zero, List.set_cons_succ]))))
  refine wqIdx_load rfl rfl rfl rfl (fun W hW => run_load1 (fun _ => by kernel_rfl) (keep_c hW (C1.out))) ?_; simp only [Act.put, List.setIfInBounds_toArray, List.set_cons_zero, List.set_cons_succ]
  (repeat (first | ((with_reducible apply wq0); rfl; rfl; rfl; intro K hK; go_big_quiet_op; refine hK _ ?_; clear hK K) | ((with_reducible apply wq1); rfl; rfl; rfl; rfl; rfl; rfl; intro K hK; go_big_quiet_op; refine hK _ ?_; clear hK K) | ((with_reducible apply wqs); rfl; rfl; rfl; rfl; rfl; rfl; simp only [Act.put, List.setIfInBounds_toArray, List.set_cons_zero, List.set_cons_succ]) | ((with_reducible apply wqu); rfl; rfl; rfl; rfl; rfl; (first | simp only [same, Act.put, List.setIfInBounds_toArray, List.set_cons_zero, List.set_cons_succ] | simp only [Act.put, List.setIfInBounds_toArray, List.set_cons_zero, List.set_cons_succ]))))
  refine wqIdx_load rfl rfl rfl rfl (fun W hW => run_load1 (fun _ => by kernel_rfl) (keep_c hW (XB2.out.cell 0))) ?_; simp only [Act.put, List.setIfInBounds_toArray, List.set_cons_zero, List.set_cons_succ]
  (repeat (first | ((with_reducible apply wq0); rfl; rfl; rfl; intro K hK; go_big_quiet_op; refine hK _ ?_; clear hK K) | ((with_reducible apply wq1); rfl; rfl; rfl; rfl; rfl; rfl; intro K hK; go_big_quiet_op; refine hK _ ?_; clear hK K) | ((with_reducible apply wqs); rfl; rfl; rfl; rfl; rfl; rfl; simp only [Act.put, List.setIfInBounds_toArray, List.set_cons_zero, List.set_cons_succ]) | ((with_reducible apply wqu); rfl; rfl; rfl; rfl; rfl; (first | simp only [same, Act.put, List.setIfInBounds_toArray, List.set_cons_zero, List.set_cons_succ] | simp only [Act.put, List.setIfInBounds_toArray, List.set_cons_zero, List.set_cons_succ]))))
  refine wqIdx_lookup rfl rfl rfl rfl rfl (fun W hW => LK.out W (of_rb hW)) ?_
  simp only [Act.put, List.setIfInBounds_toArray, List.set_cons_zero, List.set_cons_succ]
  (repeat (first | ((with_reducible apply wq0); rfl; rfl; rfl; intro K hK; go_big_quiet_op; refine hK _ ?_; clear hK K) | ((with_reducible apply wq1); rfl; rfl; rfl; rfl; rfl; rfl; intro K hK; go_big_quiet_op; refine hK _ ?_; clear hK K) | ((with_reducible apply wqs); rfl; rfl; rfl; rfl; rfl; rfl; simp only [Act.put, List.setIfInBounds_toArray, List.set_cons_zero, List.set_cons_succ]) | ((with_reducible apply wqu); rfl; rfl; rfl; rfl; rfl; (first | simp only [same, Act.put, List.setIfInBounds_toArray, List.set_cons_zero, List.set_cons_succ] | simp only [Act.put, List.setIfInBounds_toArray, List.set_cons_zero, List.set_cons_succ]))))
  refine wqIdx_nil ?_
  refine wpAnyJ_done (by kernel_rfl) ?_ _
  go_wp2_with fail
  refine P3.out.mono ?_; rintro e w' ⟨rfl, hq⟩
  have HQ := Lib.hid hq
  clear hq
  go_wp2
  go_ret
  exact ⟨rfl, HQ.out⟩
end
end Go.Proofs.Ytfmmdnjoichifaa
