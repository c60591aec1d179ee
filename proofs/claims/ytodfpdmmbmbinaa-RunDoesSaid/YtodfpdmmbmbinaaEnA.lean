/- Contracts of package entry: Check and Compare, of both. -/
import Derived.Test.YtodfpdmmbmbinaaSk
import Derived.Test.YtodfpdmmbmbinaaReA
import Derived.Test.YtodfpdmmbmbinaaMoL
namespace Go.Proofs.Ytodfpdmmbmbinaa
open Go.RowKit Go.Sort

abbrev En := (Int × Int) × (Int × Int)
def encE (x : En) : List Value := [.int .i64 x.1.1, .int .i64 x.1.2, .int .i64 x.2.1, .int .i64 x.2.2]
theorem layE : Lay En encE 4 := ⟨fun _ => rfl, fun x u hu => by simp [encE] at hu; rcases hu with rfl | rfl | rfl | rfl <;> rfl, by decide⟩
def enV (x : En) : Value := .agg #[.int .i64 x.1.1, .int .i64 x.1.2, .int .i64 x.2.1, .int .i64 x.2.2]
theorem enV_agg (x : En) : Value.agg (encE x).toArray = enV x := rfl
/-- What is wrong with an entry. -/
def enE (x : En) : Int := if moE x.1 = 0 then recE x.2 else moE x.1
def okEn (x : En) : Bool := okMo x.1 && okRec x.2
theorem enE_zero (x : En) : (enE x == 0) = okEn x := by
  unfold enE okEn moE recE
  cases okMo x.1 <;> cases okRec x.2 <;> rfl
def cmpE (x y : En) : Int := orI (cmpM x.1 y.1) (cmpM x.2 y.2)
theorem info_en : (Try.prog.info? 65).map (·.size) = some 4 := by kernel_rfl
theorem load_en_at (h off : Nat) (x : En) (w : World) (hc : ∀ i u, (encE x)[i]? = some u → w.cell? ⟨h, off + i, none⟩ = some u) : (Instr.loadAt 65 (.pointer (some ⟨h, off, none⟩))).run Try.prog w = .ok (enV x) w := by
  have h0 := hc 0 _ rfl
  have h1 := hc 1 _ rfl
  have h2 := hc 2 _ rfl
  have h3 := hc 3 _ rfl
  rw [Nat.add_zero] at h0
  unfold enV
  clear hc
  go_simp
/-- A box with an entry, in every later world. -/
def EnBox (w : World) (g : Nat) (x : En) : Prop := g < w.heap.size ∧ ∀ i u, (encE x)[i]? = some u → w.cell? ⟨g, i, none⟩ = some u
theorem EnBox.new (w : World) (x : En) (t : TypeId) : EnBox (w.alloc (.cells (encE x).toArray t)) w.heap.size x :=
  ⟨by simp, fun i u hi => by have := (Blk.new w t (encE x).toArray).cell i; rw [this]; simpa using hi⟩
theorem EnBox.below {w w' : World} {g : Nat} {x : En} (h : EnBox w g x) (hb : Below w.heap.size w w') : EnBox w' g x :=
  ⟨Nat.lt_of_lt_of_le h.1 hb.size, fun i u hi => (World.cell?_of_block (a := ⟨g, i, none⟩) (hb.block g h.1)).trans (h.2 i u hi)⟩
theorem EnBox.four {w : World} {g : Nat} {a b c d : Int} (h : EnBox w g ((a, b), (c, d))) : w.cell? ⟨g, 0, none⟩ = some (.int .i64 a) ∧ w.cell? ⟨g, 1, none⟩ = some (.int .i64 b) ∧ w.cell? ⟨g, 2, none⟩ = some (.int .i64 c) ∧ w.cell? ⟨g, 3, none⟩ = some (.int .i64 d) :=
  ⟨h.2 0 _ rfl, h.2 1 _ rfl, h.2 2 _ rfl, h.2 3 _ rfl⟩
set_option maxRecDepth 100000 in
set_option maxHeartbeats 1000000 in
theorem en_check_any (a b c d : Int) (w : World) :
    Calls Try.prog 77 #[.agg #[.int .i64 a, .int .i64 b, .int .i64 c, .int .i64 d]] w fun e w' => e = .returned (.int .i64 (enE ((a, b), (c, d)))) ∧ Below w.heap.size w w' := by
  have P1 := Lib.hid (fun W => check_any a b W)
  have P2 := Lib.hid (fun W => rc_check_any c d W)
  have HB := Lib.hid (EnBox.new w ((a, b), (c, d)) 65)
  have b0 := alloc_below w (.cells #[.int .i64 a, .int .i64 b, .int .i64 c, .int .i64 d] 65)
  have B0 := Lib.hid b0
  obtain ⟨q0, q1, q2, q3⟩ := HB.out.four
  have he : enE ((a, b), (c, d)) = if moE (a, b) = 0 then recE (c, d) else moE (a, b) := rfl
  have HE := Lib.hid he
  clear he b0
  generalize moE (a, b) = m at P1 HE
  generalize recE (c, d) = r at P2 HE
  go_enter Try.func77, Try.ntmps77
  go_wp2_with fail
  refine (P1.out _).mono ?_; rintro e w1 ⟨rfl, b1⟩
  clear q0 q1 q2 q3
  obtain ⟨q0, q1, q2, q3⟩ := (HB.out.below b1).four
  have B1 := Lib.hid (below_trans B0.out b1)
  clear b1
  by_cases hm : m = 0
  · have d1 : (m != 0) = false := by simpa using hm
    have HR := Lib.hid (HE.out.trans (if_pos hm))
    clear hm
    go_wp2_with fail
    refine (P2.out _).mono ?_; rintro e w2 ⟨rfl, b2⟩
    go_wp2
    go_ret
    exact ⟨by rw [HR.out]; rfl, below_trans B1.out b2⟩
  · have d1 : (m != 0) = true := by simpa using hm
    have HR := Lib.hid (HE.out.trans (if_neg hm))
    clear hm
    go_wp2
    go_ret
    exact ⟨by rw [HR.out]; rfl, B1.out⟩
set_option maxRecDepth 100000 in
set_option maxHeartbeats 1000000 in
theorem ren_check_any (a b c d : Int) (w : World) :
    Calls Try.prog 87 #[.agg #[.int .i64 a, .int .i64 b, .int .i64 c, .int .i64 d]] w fun e w' => e = .returned (.int .i64 (enE ((a, b), (c, d)))) ∧ Below w.heap.size w w' := by
  have P1 := Lib.hid (fun W => rcheck_any a b W)
  have P2 := Lib.hid (fun W => rrc_check_any c d W)
  have HB := Lib.hid (EnBox.new w ((a, b), (c, d)) 65)
  have B0 := Lib.hid (alloc_below w (.cells #[.int .i64 a, .int .i64 b, .int .i64 c, .int .i64 d] 65))
  obtain ⟨q0, q1, q2, q3⟩ := HB.out.four
  have he : enE ((a, b), (c, d)) = if (if okMo (a, b) then (0 : Int) else 40) = 0 then (if okRec (c, d) then 0 else 30) else (if okMo (a, b) then 0 else 40) := rfl
  have HE := Lib.hid he
  clear he
  generalize okMo (a, b) = m at P1 HE
  generalize okRec (c, d) = r at P2 HE
  go_enter Try.func87, Try.ntmps87
  go_wp2_with fail
  refine (P1.out _).mono ?_; rintro e w1 ⟨rfl, b1⟩
  clear q0 q1 q2 q3
  obtain ⟨q0, q1, q2, q3⟩ := (HB.out.below b1).four
  have B1 := Lib.hid (below_trans B0.out b1)
  clear b1
  cases m
  · go_wp2
    go_ret
    exact ⟨by rw [HE.out]; rfl, B1.out⟩
  · go_wp2_with fail
    refine (P2.out _).mono ?_; rintro e w2 ⟨rfl, b2⟩
    cases r
    all_goals
      go_wp2
      go_ret
      exact ⟨by rw [HE.out]; rfl, below_trans B1.out b2⟩
theorem drewN_grow (w : World) (os : Array Obj) (q : Nat) : (Go.Sort.grow w os).drewN q = Go.Sort.grow (w.drewN q) os := rfl
theorem drewN_drewN (w : World) (q r : Nat) : (w.drewN q).drewN r = w.drewN (q + r) := by unfold World.drewN; simp [Nat.add_assoc]
theorem drew_grow (w : World) (os : Array Obj) : (Go.Sort.grow w os).drew = Go.Sort.grow (w.drewN 1) os := rfl
theorem load_mo_box {W0 W : World} {g : Nat} {x : En} (h : EnBox W0 g x) (hb : RB W0 W) : (Instr.loadAt 61 (.pointer (some ⟨g, 0, none⟩))).run Try.prog W = .ok (.agg #[.int .i64 x.1.1, .int .i64 x.1.2]) W := by
  have k := h.below hb
  exact load_mo_at g 0 x.1.1 x.1.2 W (k.2 0 _ rfl) (k.2 1 _ rfl)
theorem load_rec_box {W0 W : World} {g : Nat} {x : En} (h : EnBox W0 g x) (hb : RB W0 W) : (Instr.loadAt 63 (.pointer (some ⟨g, 2, none⟩))).run Try.prog W = .ok (.agg #[.int .i64 x.2.1, .int .i64 x.2.2]) W := by
  have k := h.below hb
  exact load_rec_at g 2 x.2.1 x.2.2 W (k.2 2 _ rfl) (k.2 3 _ rfl)
set_option maxRecDepth 100000 in
set_option maxHeartbeats 2000000 in
theorem en_compare_grow (x y : En) (w : World) :
    Calls Try.prog 116 #[enV x, enV y] w fun e w' => e = .returned (.int .i64 (cmpE x y)) ∧ ∃ q os, w' = Go.Sort.grow (w.drewN q) os := by
  have P1 := Lib.hid (fun W => compare_grow x.1.1 x.1.2 y.1.1 y.1.2 W)
  have P2 := Lib.hid (fun W => rc_compare_grow x.2.1 x.2.2 y.2.1 y.2.2 W)
  have P3 := Lib.hid (fun g W h0 h1 => or_any (cmpM x.1 y.1) (cmpM x.2 y.2) g W h0 h1)
  have hm : cmpE x y = orI (cmpM x.1 y.1) (cmpM x.2 y.2) := rfl
  rw [hm]
  clear hm
  have e1 : ((x.1.1, x.1.2) : Int × Int) = x.1 := rfl
  have e2 : ((y.1.1, y.1.2) : Int × Int) = y.1 := rfl
  have e3 : ((x.2.1, x.2.2) : Int × Int) = x.2 := rfl
  have e4 : ((y.2.1, y.2.2) : Int × Int) = y.2 := rfl
  rw [e1, e2] at P1
  rw [e3, e4] at P2
  generalize cmpM x.1 y.1 = m at P1 P3
  generalize cmpM x.2 y.2 = n at P2 P3
  have hb0 := (EnBox.new w x 65).below (alloc_below _ (.cells (encE y).toArray 65))
  have hb1 := EnBox.new (w.alloc (.cells (encE x).toArray 65)) y 65
  rw [World.size_alloc] at hb1
  obtain ⟨W0, hW0⟩ : ∃ W0, W0 = (w.alloc (.cells (encE x).toArray 65)).alloc (.cells (encE y).toArray 65) := ⟨_, rfl⟩
  have hg0 : W0 = Go.Sort.grow w #[.cells (encE x).toArray 65, .cells (encE y).toArray 65] := by
    rw [hW0, Go.Sort.alloc_eq_grow, Go.Sort.alloc_eq_grow, Go.Sort.grow_grow]; rfl
  rw [← hW0] at hb0 hb1
  have H0 := Lib.hid (show EnBox W0.drew w.heap.size x from hb0)
  have H1 := Lib.hid (show EnBox W0.drew (w.heap.size + 1) y from hb1)
  have HG := Lib.hid hg0
  have HW := Lib.hid hW0
  clear hb0 hb1 hg0 hW0 e1 e2 e3 e4
  unfold enV
  go_enter Try.func116, Try.ntmps116
  go_wp2_with fail
  rw [show (w.alloc (.cells #[.int .i64 x.1.1, .int .i64 x.1.2, .int .i64 x.2.1, .int .i64 x.2.2] 65)).alloc (.cells #[.int .i64 y.1.1, .int .i64 y.1.2, .int .i64 y.2.1, .int .i64 y.2.2] 65) = W0 from HW.out.symm]
  refine wp_region_R (R := RB) (n := 13) (by kernel_rfl) rfl ?_
  refine batchB [0, 1, 2, 3, 5, 6, 7, 8] (fuel := 5) rfl (by kernel_rfl) (by kernel_rfl) (fun _ _ d _ _ h => by cases d <;> exact h) ?_
  (repeat (first | ((with_reducible apply wq0); rfl; rfl; rfl; intro K hK; go_big_quiet_op; refine hK _ ?_; clear hK K) | ((with_reducible apply wq1); rfl; rfl; rfl; rfl; rfl; rfl; intro K hK; go_big_quiet_op; refine hK _ ?_; clear hK K) | ((with_reducible apply wqs); rfl; rfl; rfl; rfl; rfl; rfl; simp only [Act.put, List.setIfInBounds_toArray, List.set_cons_zero, List.set_cons_succ]) | ((with_reducible apply wqu); rfl; rfl; rfl; rfl; rfl; (first | simp only [same, Act.put, List.setIfInBounds_toArray, List.set_cons_zero, List.set_cons_succ] | simp only [Act.put, List.setIfInBounds_toArray, List.set_cons_zero, List.set_cons_succ]))))
  refine wqIdx_load rfl rfl rfl rfl (fun W hW => load_mo_box H0.out hW) ?_
  simp only [Act.put, List.setIfInBounds_toArray, List.set_cons_zero, List.set_cons_succ]
  (repeat (first | ((with_reducible apply wq0); rfl; rfl; rfl; intro K hK; go_big_quiet_op; refine hK _ ?_; clear hK K) | ((with_reducible apply wq1); rfl; rfl; rfl; rfl; rfl; rfl; intro K hK; go_big_quiet_op; refine hK _ ?_; clear hK K) | ((with_reducible apply wqs); rfl; rfl; rfl; rfl; rfl; rfl; simp only [Act.put, List.setIfInBounds_toArray, List.set_cons_zero, List.set_cons_succ]) | ((with_reducible apply wqu); rfl; rfl; rfl; rfl; rfl; (first | simp only [same, Act.put, List.setIfInBounds_toArray, List.set_cons_zero, List.set_cons_succ] | simp only [Act.put, List.setIfInBounds_toArray, List.set_cons_zero, List.set_cons_succ]))))
  refine wqIdx_load rfl rfl rfl rfl (fun W hW => load_mo_box H1.out hW) ?_
  simp only [Act.put, List.setIfInBounds_toArray, List.set_cons_zero, List.set_cons_succ]
  (repeat (first | ((with_reducible apply wq0); rfl; rfl; rfl; intro K hK; go_big_quiet_op; refine hK _ ?_; clear hK K) | ((with_reducible apply wq1); rfl; rfl; rfl; rfl; rfl; rfl; intro K hK; go_big_quiet_op; refine hK _ ?_; clear hK K) | ((with_reducible apply wqs); rfl; rfl; rfl; rfl; rfl; rfl; simp only [Act.put, List.setIfInBounds_toArray, List.set_cons_zero, List.set_cons_succ]) | ((with_reducible apply wqu); rfl; rfl; rfl; rfl; rfl; (first | simp only [same, Act.put, List.setIfInBounds_toArray, List.set_cons_zero, List.set_cons_succ] | simp only [Act.put, List.setIfInBounds_toArray, List.set_cons_zero, List.set_cons_succ]))))
  refine wqIdx_load rfl rfl rfl rfl (fun W hW => load_rec_box H0.out hW) ?_
  simp only [Act.put, List.setIfInBounds_toArray, List.set_cons_zero, List.set_cons_succ]
  (repeat (first | ((with_reducible apply wq0); rfl; rfl; rfl; intro K hK; go_big_quiet_op; refine hK _ ?_; clear hK K) | ((with_reducible apply wq1); rfl; rfl; rfl; rfl; rfl; rfl; intro K hK; go_big_quiet_op; refine hK _ ?_; clear hK K) | ((with_reducible apply wqs); rfl; rfl; rfl; rfl; rfl; rfl; simp only [Act.put, List.setIfInBounds_toArray, List.set_cons_zero, List.set_cons_succ]) | ((with_reducible apply wqu); rfl; rfl; rfl; rfl; rfl; (first | simp only [same, Act.put, List.setIfInBounds_toArray, List.set_cons_zero, List.set_cons_succ] | simp only [Act.put, List.setIfInBounds_toArray, List.set_cons_zero, List.set_cons_succ]))))
  refine wqIdx_load rfl rfl rfl rfl (fun W hW => load_rec_box H1.out hW) ?_
  simp only [Act.put, List.setIfInBounds_toArray, List.set_cons_zero, List.set_cons_succ]
  refine wqIdx_nil ?_
  refine wpAnyR_sole (i := 4) rfl (by kernel_rfl) (fun K hK => ?_); go_simp
  refine (P1.out _).mono ?_; rintro e w1 ⟨rfl, q1, os1, hw1⟩
  have HW1 := Lib.hid hw1
  refine hK _ _ (by rw [hw1]; exact grow_below _ q1 os1) ?_
  clear hK K hw1
  refine wpAnyR_sole (i := 9) rfl (by kernel_rfl) (fun K hK => ?_); go_simp
  refine (P2.out _).mono ?_; rintro e w2 ⟨rfl, q2, os2, hw2⟩
  have HW2 := Lib.hid hw2
  refine hK _ _ (by rw [hw2]; exact grow_below _ q2 os2) ?_
  clear hK K hw2
  refine wpAnyR_sole (i := 10) rfl (by kernel_rfl) (fun K hK => ?_); go_simp
  refine hK _ _ (alloc_below w2 _) ?_
  clear hK K
  refine wpAnyR_sole (i := 11) rfl (by kernel_rfl) (fun K hK => ?_); go_simp
  have kb := Blk.new w2 3 #[.int .i64 m, .int .i64 n]
  refine (P3.out _ _ (kb.cell 0) (kb.cell 1)).mono ?_; rintro e w' ⟨rfl, rfl⟩
  refine hK _ _ (RB.refl _) ?_
  clear hK K kb
  refine batchB [12] (fuel := 0) rfl (by kernel_rfl) (by kernel_rfl) (fun _ _ d _ _ h => by cases d <;> exact h) ?_; (repeat (first | ((with_reducible apply wq0); rfl; rfl; rfl; intro K hK; go_big_quiet_op; refine hK _ ?_; clear hK K) | ((with_reducible apply wq1); rfl; rfl; rfl; rfl; rfl; rfl; intro K hK; go_big_quiet_op; refine hK _ ?_; clear hK K) | ((with_reducible apply wqs); rfl; rfl; rfl; rfl; rfl; rfl; simp only [Act.put, List.setIfInBounds_toArray, List.set_cons_zero, List.set_cons_succ]) | ((with_reducible apply wqu); rfl; rfl; rfl; rfl; rfl; (first | simp only [same, Act.put, List.setIfInBounds_toArray, List.set_cons_zero, List.set_cons_succ] | simp only [Act.put, List.setIfInBounds_toArray, List.set_cons_zero, List.set_cons_succ])))); refine wqIdx_nil ?_
  refine wpAnyR_done (by kernel_rfl) ?_ _
  go_wp2
  go_ret
  refine ⟨rfl, 1 + q1 + q2, #[.cells (encE x).toArray 65, .cells (encE y).toArray 65] ++ os1 ++ os2 ++ #[.cells #[.int .i64 m, .int .i64 n] 3], ?_⟩
  rw [Go.Sort.alloc_eq_grow, HW2.out, HW1.out, HG.out]
  simp only [drew_grow, drewN_grow, Go.Sort.grow_grow, drewN_drewN, Array.append_assoc]
theorem en_compare_any (x y : En) (w : World) :
    Calls Try.prog 116 #[enV x, enV y] w fun e w' => e = .returned (.int .i64 (cmpE x y)) ∧ Below w.heap.size w w' :=
  (en_compare_grow x y w).mono fun _ _ ⟨he, q, os, hw⟩ => ⟨he, by rw [hw]; exact grow_below w q os⟩
set_option maxRecDepth 100000 in
set_option maxHeartbeats 1000000 in
theorem ren_compare_any (x y : En) (w : World) :
    Calls Try.prog 74 #[enV x, enV y] w fun e w' => e = .returned (.int .i64 (cmpE x y)) ∧ Below w.heap.size w w' := by
  obtain ⟨⟨a, b⟩, c, d⟩ := x
  obtain ⟨⟨a', b'⟩, c', d'⟩ := y
  have P1 := Lib.hid (fun W => rcompare_any a b a' b' W)
  have P2 := Lib.hid (fun W => rrc_compare_any c d c' d' W)
  have hm : cmpE ((a, b), (c, d)) ((a', b'), (c', d')) = orI (cmpM (a, b) (a', b')) (cmpM (c, d) (c', d')) := rfl
  rw [hm]
  clear hm
  generalize cmpM (a, b) (a', b') = m at P1
  generalize cmpM (c, d) (c', d') = n at P2
  have H0 := Lib.hid ((EnBox.new w ((a, b), (c, d)) 65).below (alloc_below _ (.cells (encE ((a', b'), (c', d'))).toArray 65)))
  have hb1 := EnBox.new (w.alloc (.cells (encE ((a, b), (c, d))).toArray 65)) ((a', b'), (c', d')) 65
  rw [World.size_alloc] at hb1
  have H1 := Lib.hid hb1
  have B0 := Lib.hid (below_trans (alloc_below w (.cells (encE ((a, b), (c, d))).toArray 65)) (alloc_below _ (.cells (encE ((a', b'), (c', d'))).toArray 65)))
  have HO := Lib.hid (show ∀ x : Int, (x ≠ 0 → orI x n = x) ∧ (x = 0 → orI x n = n) from fun x => ⟨orI_ne n, fun h => by rw [h]; rfl⟩)
  clear hb1
  obtain ⟨q0, q1, q2, q3⟩ := H0.out.four
  obtain ⟨q4, q5, q6, q7⟩ := H1.out.four
  unfold enV
  go_enter Try.func74, Try.ntmps74
  go_wp2_with fail
  refine (P1.out _).mono ?_; rintro e w1 ⟨rfl, b1⟩
  clear q0 q1 q2 q3 q4 q5 q6 q7
  obtain ⟨q0, q1, q2, q3⟩ := (H0.out.below b1).four
  obtain ⟨q4, q5, q6, q7⟩ := (H1.out.below b1).four
  have B1 := Lib.hid (below_trans B0.out b1)
  clear b1
  by_cases hm : m = 0
  · have d1 : (m != 0) = false := by simpa using hm
    have HR := Lib.hid ((HO.out m).2 hm)
    clear hm
    go_wp2_with fail
    refine (P2.out _).mono ?_; rintro e w2 ⟨rfl, b2⟩
    go_wp2
    go_ret
    exact ⟨by rw [HR.out]; rfl, below_trans B1.out b2⟩
  · have d1 : (m != 0) = true := by simpa using hm
    have HR := Lib.hid ((HO.out m).1 hm)
    clear hm
    go_wp2
    go_ret
    exact ⟨by rw [HR.out]; rfl, B1.out⟩
end Go.Proofs.Ytodfpdmmbmbinaa
