/- The walk of the law MomentOrders. -/
import Derived.Test.YtalcgkfnjhlnoabFrD
import Derived.Test.YtalcgkfnjhlnoabMoWalks
namespace Go.Proofs.Ytalcgkfnjhlnoab
open Go.RowKit Go.Sort

theorem share {F G : World → Nat → Nat → Prop} {goal : Prop} (key : ∀ v a b, F v a b → G v a b) (main : (∀ v a b, F v a b → G v a b) → goal) : goal := main key
theorem wpAnyR_cast {P : Program} {ops : Array Oper} {Q : Exit → Act → World → Prop} {md : Region.Mode} {R : World → World → Prop} {fuel : Nat} {listed L : Array Bool} {a : Act} {w : World} (h : listed = L) (g : wpAnyR P md ops Q R fuel L a w) : wpAnyR P md ops Q R fuel listed a w := h ▸ g
theorem Cells.drewO {W : World} {L : List (Nat × Value × Value)} (h : Cells W L) : Cells W.drew L := fun p hp => h p hp
theorem Cells.setC {W : World} {L : List (Nat × Value × Value)} (h : Cells W L) {p : Addr} (u : Value) (hp : ∀ q ∈ L, q.1 ≠ p.block) : Cells (W.setCell p u) L := fun q hq => by
  obtain ⟨h1, h2, h3⟩ := h q hq
  exact ⟨by simpa using h1, (World.cell?_setCell_other W p _ u (fun e => hp q hq (by rw [e]))).trans h2, (World.cell?_setCell_other W p _ u (fun e => hp q hq (by rw [e]))).trans h3⟩
theorem rk_set {S : Nat → Prop} {p : Addr} (w : World) (hp : S p.block) (u : Value) : RK S w (w.setCell p u) :=
  ⟨rfl, rfl, rfl, by simp, fun k _ hs => Below.heap_setCell w p u k (fun e => hs (by rw [e]; exact hp))⟩
theorem ahead_join (x1 x2 y1 y2 : Int) : aheadM (x1, x2) (max x1 y1, max x2 y2) = true := by rw [aheadM_iff]; simp only; omega
theorem meet_behind (x1 x2 y1 y2 : Int) : aheadM (min x1 y1, min x2 y2) (y1, y2) = true := by rw [aheadM_iff]; simp only; omega
set_option maxRecDepth 100000 in
set_option maxHeartbeats 32000000 in
theorem orders_false (x1 x2 y1 y2 : Int) (w : World) (hok : okMo (x1, x2) = false) :
    Calls Try.prog 8 #[.agg #[.int .i64 x1, .int .i64 x2], .agg #[.int .i64 y1, .int .i64 y2]] w (LawPost w) := by
  have hB := Box2.new w x1 x2 y1 y2
  have Y := Lib.hid (show Cells _ [(w.heap.size, .int .i64 x1, .int .i64 x2), (w.heap.size + 1, .int .i64 y1, .int .i64 y2)] from fun p hp => by
    simp only [List.mem_cons, List.not_mem_nil, or_false] at hp
    rcases hp with rfl | rfl
    · exact ⟨Nat.lt_of_succ_lt hB.lt, hB.a0, hB.a1⟩
    · exact ⟨hB.lt, hB.b0, hB.b1⟩)
  have G := Lib.hid (below_trans (alloc_below w (.cells #[.int .i64 x1, .int .i64 x2] 58)) (alloc_below _ (.cells #[.int .i64 y1, .int .i64 y2] 58)))
  have P0 := Lib.hid (fun W => rcheck_any x1 x2 W)
  have PK := Lib.hid (fun W => check_any x1 x2 W)
  have hz : moE (x1, x2) = if false then 0 else 40 := by unfold moE; rw [hok]
  rw [hok] at P0
  rw [hz] at PK
  have PJ := Lib.hid (fun W => join_any x1 x2 y1 y2 W)
  have PM := Lib.hid (fun W => meet_any x1 x2 y1 y2 W)
  have P1 := Lib.hid (fun W => ahead_any x1 x2 y1 y2 W)
  have P2 := Lib.hid (fun W => rahead_any x1 x2 y1 y2 W)
  have P3 := Lib.hid (fun W => compare_any x1 x2 y1 y2 W)
  have P4 := Lib.hid (fun W => rcompare_any x1 x2 y1 y2 W)
  have P5 := Lib.hid (fun W => rjoin_any x1 x2 y1 y2 W)
  have P6 := Lib.hid (fun W => rmeet_any x1 x2 y1 y2 W)
  have P7 := Lib.hid (fun W => ahead_any x1 x2 (max x1 y1) (max x2 y2) W)
  have P8 := Lib.hid (fun W => ahead_any (min x1 y1) (min x2 y2) y1 y2 W)
  rw [ahead_join] at P7
  rw [meet_behind] at P8
  generalize aheadM (x1, x2) (y1, y2) = r at P1 P2
  generalize cmpM (x1, x2) (y1, y2) = z at P3 P4
  have hr : (r == r) = true := by simp
  clear hB hz hok
  go_enter Try.func8, Try.ntmps8
  go_wp2_with fail
  refine (P0.out _).mono ?_; rintro e w1 ⟨rfl, b1⟩
  have Y1 := Lib.hid (Y.out.below b1).drewO
  have G1 := Lib.hid (RB.of_drew' (below_trans G.out b1))
  have hlt1 := (Y1.out _ (List.mem_cons_of_mem _ (List.mem_cons_self ..))).1
  simp only at hlt1
  clear Y G b1
  simp only [Bool.false_eq_true, if_false, if_true] at PK
  go_wp2_with fail
  obtain ⟨s0, hs00⟩ : ∃ s, s = w1.heap.size := ⟨_, rfl⟩
  refine wp_region_R (R := RK (fun b => s0 ≤ b)) (n := 10) (by kernel_rfl) rfl ?_
  obtain ⟨v0, hv0⟩ : ∃ v, v = w1.drew := ⟨_, rfl⟩
  have hsz : s0 = v0.heap.size := by rw [hv0]; exact hs00
  rw [← hv0]
  have Y0 := Lib.hid (show Cells v0 _ by rw [hv0]; exact Y1.out)
  have G0 := Lib.hid (show Below w.heap.size w v0 by rw [hv0]; exact G1.out)
  have hlt : w.heap.size + 1 < v0.heap.size := by rw [hv0]; exact hlt1
  have hs0 : s0 ≤ v0.heap.size := by omega
  clear hv0 hs00 Y1 G1 hlt1
  obtain ⟨-, -, qa0, qa1⟩ := Y0.out.at_ 0 rfl
  obtain ⟨-, -, qb0, qb1⟩ := Y0.out.at_ 1 rfl
  refine batchK [0, 1, 3, 4] (fuel := 6) rfl (by kernel_rfl) (by kernel_rfl) (fun _ _ d _ _ h => by cases d <;> exact h) ?_
  repeat (first | ((with_reducible apply wq0); rfl; rfl; rfl; intro K hK; go_big_quiet_op; refine hK _ ?_; clear hK K) | ((with_reducible apply wq1); rfl; rfl; rfl; rfl; rfl; rfl; intro K hK; go_big_quiet_op; refine hK _ ?_; clear hK K) | ((with_reducible apply wqs); rfl; rfl; rfl; rfl; rfl; rfl; simp only [Act.put, List.setIfInBounds_toArray, List.set_cons_zero, List.set_cons_succ]) | ((with_reducible apply wqu); rfl; rfl; rfl; rfl; rfl; simp only [Act.put, List.setIfInBounds_toArray, List.set_cons_zero, List.set_cons_succ]))
  refine wqIdx_load rfl rfl rfl rfl (fun W' hW => load_mo_at _ _ x1 x2 W' (keep_cellK hW (by simp only; omega) qa0) (keep_cellK hW (by simp only; omega) qa1)) ?_
  simp only [Act.put, List.setIfInBounds_toArray, List.set_cons_zero, List.set_cons_succ]
  refine wqIdx_load rfl rfl rfl rfl (fun W' hW => load_mo_at _ _ y1 y2 W' (keep_cellK hW (by simp only; omega) qb0) (keep_cellK hW (by simp only; omega) qb1)) ?_
  simp only [Act.put, List.setIfInBounds_toArray, List.set_cons_zero, List.set_cons_succ]
  refine wqIdx_load rfl rfl rfl rfl (fun W' hW => load_mo_at _ _ x1 x2 W' (keep_cellK hW (by simp only; omega) qa0) (keep_cellK hW (by simp only; omega) qa1)) ?_
  simp only [Act.put, List.setIfInBounds_toArray, List.set_cons_zero, List.set_cons_succ]
  refine wqIdx_load rfl rfl rfl rfl (fun W' hW => load_mo_at _ _ y1 y2 W' (keep_cellK hW (by simp only; omega) qb0) (keep_cellK hW (by simp only; omega) qb1)) ?_
  simp only [Act.put, List.setIfInBounds_toArray, List.set_cons_zero, List.set_cons_succ]
  refine wqIdx_nil ?_
  clear qa0 qa1 qb0 qb1
  apply share (F := (fun (v4 : World) (gj gm : Nat) => Cells v4 [(w.heap.size, Value.int .i64 x1, Value.int .i64 x2), (w.heap.size + 1, Value.int .i64 y1, Value.int .i64 y2)] ∧ Below w.heap.size w v4 ∧ s0 ≤ gj ∧ s0 ≤ gm ∧ gm ≠ gj ∧ Blk v4 gj 58 #[.int .i64 0, .int .i64 0] ∧ Blk v4 gm 58 #[.int .i64 0, .int .i64 0]))
  case' main =>
    intro KEY
    refine wpAnyR_three (i := 2) (j := 6) (m := 7) (by kernel_rfl) ⟨_, rfl, fun K hK => ?cx⟩ ⟨_, rfl, fun K hK => ?cy⟩ ⟨_, rfl, fun K hK => ?cz⟩
    case' cx =>
      go_simp
      refine (PJ.out _).mono ?_; rintro e v1 ⟨rfl, b⟩
      refine hK _ _ (rk_below' b) ?_
      clear hK K
      have Y1 := Lib.hid (Y0.out.below b)
      have G1 := Lib.hid (below_trans G0.out b)
      have hs1 : s0 ≤ v1.heap.size := Nat.le_trans hs0 b.size
      clear b
      refine wpAnyR_three (i := 5) (j := 6) (m := 7) (by kernel_rfl) ⟨_, rfl, fun K hK => ?cxx⟩ ⟨_, rfl, fun K hK => ?cxy⟩ ⟨_, rfl, fun K hK => ?cxz⟩
      case' cxx =>
        go_simp
        refine (PM.out _).mono ?_; rintro e v2 ⟨rfl, b⟩
        refine hK _ _ (rk_below' b) ?_
        clear hK K
        have Y2 := Lib.hid (Y1.out.below b)
        have G2 := Lib.hid (below_trans G1.out b)
        have hs2 : s0 ≤ v2.heap.size := Nat.le_trans hs1 b.size
        clear b
        refine wpAnyR_two (i := 6) (j := 7) (by kernel_rfl) ⟨_, rfl, fun K hK => ?cxxx⟩ ⟨_, rfl, fun K hK => ?cxxy⟩
        case' cxxx =>
          go_simp
          refine hK _ _ (rk_below' (alloc_below _ _)) ?_
          clear hK K
          have b := alloc_below v2 (.cells #[.int .i64 0, .int .i64 0] 58)
          have kk := Blk.new v2 58 #[.int .i64 0, .int .i64 0]
          obtain ⟨v3, hv⟩ : ∃ v, v = v2.alloc (.cells #[.int .i64 0, .int .i64 0] 58) := ⟨_, rfl⟩
          rw [← hv] at b kk ⊢
          obtain ⟨gj, hgj⟩ : ∃ g, g = v2.heap.size := ⟨_, rfl⟩
          rw [← hgj] at kk ⊢
          have Y3 := Lib.hid (Y2.out.below b)
          have G3 := Lib.hid (below_trans G2.out b)
          have hs3 : s0 ≤ v3.heap.size := Nat.le_trans hs2 b.size
          have KJ := Lib.hid kk
          have HGJ := Lib.hid hgj
          clear b kk hv hgj
          refine wpAnyR_sole (i := 7) rfl (by kernel_rfl) (fun K hK => ?_)
          go_simp
          refine hK _ _ (rk_below' (alloc_below _ _)) ?_
          clear hK K
          have b := alloc_below v3 (.cells #[.int .i64 0, .int .i64 0] 58)
          have kk := Blk.new v3 58 #[.int .i64 0, .int .i64 0]
          obtain ⟨v4, hv⟩ : ∃ v, v = v3.alloc (.cells #[.int .i64 0, .int .i64 0] 58) := ⟨_, rfl⟩
          rw [← hv] at b kk ⊢
          obtain ⟨gm, hgm⟩ : ∃ g, g = v3.heap.size := ⟨_, rfl⟩
          rw [← hgm] at kk ⊢
          have Y4 := Lib.hid (Y3.out.below b)
          have G4 := Lib.hid (below_trans G3.out b)
          have hs4 : s0 ≤ v4.heap.size := Nat.le_trans hs3 b.size
          have HNE := Lib.hid (show gm ≠ gj by have := KJ.out.lt; omega)
          have KJ := Lib.hid (KJ.out.below b KJ.out.lt)
          have KM := Lib.hid kk
          have HGM := Lib.hid hgm
          clear b kk hv hgm
          try (simp only [Act.put, List.setIfInBounds_toArray, List.set_cons_zero, List.set_cons_succ])
          refine wpAnyR_cast (L := #[true, true, true, true, true, true, true, true, false, false]) (by kernel_rfl) ?_
          exact KEY v4 gj gm ⟨Y4.out, G4.out, (by have := HGJ.out; omega), (by have := HGM.out; omega), HNE.out, KJ.out, KM.out⟩
        case' cxxy =>
          go_simp
          refine hK _ _ (rk_below' (alloc_below _ _)) ?_
          clear hK K
          have b := alloc_below v2 (.cells #[.int .i64 0, .int .i64 0] 58)
          have kk := Blk.new v2 58 #[.int .i64 0, .int .i64 0]
          obtain ⟨v3, hv⟩ : ∃ v, v = v2.alloc (.cells #[.int .i64 0, .int .i64 0] 58) := ⟨_, rfl⟩
          rw [← hv] at b kk ⊢
          obtain ⟨gm, hgm⟩ : ∃ g, g = v2.heap.size := ⟨_, rfl⟩
          rw [← hgm] at kk ⊢
          have Y3 := Lib.hid (Y2.out.below b)
          have G3 := Lib.hid (below_trans G2.out b)
          have hs3 : s0 ≤ v3.heap.size := Nat.le_trans hs2 b.size
          have KM := Lib.hid kk
          have HGM := Lib.hid hgm
          clear b kk hv hgm
          refine wpAnyR_sole (i := 6) rfl (by kernel_rfl) (fun K hK => ?_)
          go_simp
          refine hK _ _ (rk_below' (alloc_below _ _)) ?_
          clear hK K
          have b := alloc_below v3 (.cells #[.int .i64 0, .int .i64 0] 58)
          have kk := Blk.new v3 58 #[.int .i64 0, .int .i64 0]
          obtain ⟨v4, hv⟩ : ∃ v, v = v3.alloc (.cells #[.int .i64 0, .int .i64 0] 58) := ⟨_, rfl⟩
          rw [← hv] at b kk ⊢
          obtain ⟨gj, hgj⟩ : ∃ g, g = v3.heap.size := ⟨_, rfl⟩
          rw [← hgj] at kk ⊢
          have Y4 := Lib.hid (Y3.out.below b)
          have G4 := Lib.hid (below_trans G3.out b)
          have hs4 : s0 ≤ v4.heap.size := Nat.le_trans hs3 b.size
          have HNE := Lib.hid (show gm ≠ gj by have := KM.out.lt; omega)
          have KM := Lib.hid (KM.out.below b KM.out.lt)
          have KJ := Lib.hid kk
          have HGJ := Lib.hid hgj
          clear b kk hv hgj
          try (simp only [Act.put, List.setIfInBounds_toArray, List.set_cons_zero, List.set_cons_succ])
          refine wpAnyR_cast (L := #[true, true, true, true, true, true, true, true, false, false]) (by kernel_rfl) ?_
          exact KEY v4 gj gm ⟨Y4.out, G4.out, (by have := HGJ.out; omega), (by have := HGM.out; omega), HNE.out, KJ.out, KM.out⟩
      case' cxy =>
        go_simp
        refine hK _ _ (rk_below' (alloc_below _ _)) ?_
        clear hK K
        have b := alloc_below v1 (.cells #[.int .i64 0, .int .i64 0] 58)
        have kk := Blk.new v1 58 #[.int .i64 0, .int .i64 0]
        obtain ⟨v2, hv⟩ : ∃ v, v = v1.alloc (.cells #[.int .i64 0, .int .i64 0] 58) := ⟨_, rfl⟩
        rw [← hv] at b kk ⊢
        obtain ⟨gj, hgj⟩ : ∃ g, g = v1.heap.size := ⟨_, rfl⟩
        rw [← hgj] at kk ⊢
        have Y2 := Lib.hid (Y1.out.below b)
        have G2 := Lib.hid (below_trans G1.out b)
        have hs2 : s0 ≤ v2.heap.size := Nat.le_trans hs1 b.size
        have KJ := Lib.hid kk
        have HGJ := Lib.hid hgj
        clear b kk hv hgj
        refine wpAnyR_two (i := 5) (j := 7) (by kernel_rfl) ⟨_, rfl, fun K hK => ?cxyx⟩ ⟨_, rfl, fun K hK => ?cxyy⟩
        case' cxyx =>
          go_simp
          refine (PM.out _).mono ?_; rintro e v3 ⟨rfl, b⟩
          refine hK _ _ (rk_below' b) ?_
          clear hK K
          have Y3 := Lib.hid (Y2.out.below b)
          have G3 := Lib.hid (below_trans G2.out b)
          have hs3 : s0 ≤ v3.heap.size := Nat.le_trans hs2 b.size
          have KJ := Lib.hid (KJ.out.below b KJ.out.lt)
          clear b
          refine wpAnyR_sole (i := 7) rfl (by kernel_rfl) (fun K hK => ?_)
          go_simp
          refine hK _ _ (rk_below' (alloc_below _ _)) ?_
          clear hK K
          have b := alloc_below v3 (.cells #[.int .i64 0, .int .i64 0] 58)
          have kk := Blk.new v3 58 #[.int .i64 0, .int .i64 0]
          obtain ⟨v4, hv⟩ : ∃ v, v = v3.alloc (.cells #[.int .i64 0, .int .i64 0] 58) := ⟨_, rfl⟩
          rw [← hv] at b kk ⊢
          obtain ⟨gm, hgm⟩ : ∃ g, g = v3.heap.size := ⟨_, rfl⟩
          rw [← hgm] at kk ⊢
          have Y4 := Lib.hid (Y3.out.below b)
          have G4 := Lib.hid (below_trans G3.out b)
          have hs4 : s0 ≤ v4.heap.size := Nat.le_trans hs3 b.size
          have HNE := Lib.hid (show gm ≠ gj by have := KJ.out.lt; omega)
          have KJ := Lib.hid (KJ.out.below b KJ.out.lt)
          have KM := Lib.hid kk
          have HGM := Lib.hid hgm
          clear b kk hv hgm
          try (simp only [Act.put, List.setIfInBounds_toArray, List.set_cons_zero, List.set_cons_succ])
          refine wpAnyR_cast (L := #[true, true, true, true, true, true, true, true, false, false]) (by kernel_rfl) ?_
          exact KEY v4 gj gm ⟨Y4.out, G4.out, (by have := HGJ.out; omega), (by have := HGM.out; omega), HNE.out, KJ.out, KM.out⟩
        case' cxyy =>
          go_simp
          refine hK _ _ (rk_below' (alloc_below _ _)) ?_
          clear hK K
          have b := alloc_below v2 (.cells #[.int .i64 0, .int .i64 0] 58)
          have kk := Blk.new v2 58 #[.int .i64 0, .int .i64 0]
          obtain ⟨v3, hv⟩ : ∃ v, v = v2.alloc (.cells #[.int .i64 0, .int .i64 0] 58) := ⟨_, rfl⟩
          rw [← hv] at b kk ⊢
          obtain ⟨gm, hgm⟩ : ∃ g, g = v2.heap.size := ⟨_, rfl⟩
          rw [← hgm] at kk ⊢
          have Y3 := Lib.hid (Y2.out.below b)
          have G3 := Lib.hid (below_trans G2.out b)
          have hs3 : s0 ≤ v3.heap.size := Nat.le_trans hs2 b.size
          have HNE := Lib.hid (show gm ≠ gj by have := KJ.out.lt; omega)
          have KJ := Lib.hid (KJ.out.below b KJ.out.lt)
          have KM := Lib.hid kk
          have HGM := Lib.hid hgm
          clear b kk hv hgm
          refine wpAnyR_sole (i := 5) rfl (by kernel_rfl) (fun K hK => ?_)
          go_simp
          refine (PM.out _).mono ?_; rintro e v4 ⟨rfl, b⟩
          refine hK _ _ (rk_below' b) ?_
          clear hK K
          have Y4 := Lib.hid (Y3.out.below b)
          have G4 := Lib.hid (below_trans G3.out b)
          have hs4 : s0 ≤ v4.heap.size := Nat.le_trans hs3 b.size
          have KJ := Lib.hid (KJ.out.below b KJ.out.lt)
          have KM := Lib.hid (KM.out.below b KM.out.lt)
          clear b
          try (simp only [Act.put, List.setIfInBounds_toArray, List.set_cons_zero, List.set_cons_succ])
          refine wpAnyR_cast (L := #[true, true, true, true, true, true, true, true, false, false]) (by kernel_rfl) ?_
          exact KEY v4 gj gm ⟨Y4.out, G4.out, (by have := HGJ.out; omega), (by have := HGM.out; omega), HNE.out, KJ.out, KM.out⟩
      case' cxz =>
        go_simp
        refine hK _ _ (rk_below' (alloc_below _ _)) ?_
        clear hK K
        have b := alloc_below v1 (.cells #[.int .i64 0, .int .i64 0] 58)
        have kk := Blk.new v1 58 #[.int .i64 0, .int .i64 0]
        obtain ⟨v2, hv⟩ : ∃ v, v = v1.alloc (.cells #[.int .i64 0, .int .i64 0] 58) := ⟨_, rfl⟩
        rw [← hv] at b kk ⊢
        obtain ⟨gm, hgm⟩ : ∃ g, g = v1.heap.size := ⟨_, rfl⟩
        rw [← hgm] at kk ⊢
        have Y2 := Lib.hid (Y1.out.below b)
        have G2 := Lib.hid (below_trans G1.out b)
        have hs2 : s0 ≤ v2.heap.size := Nat.le_trans hs1 b.size
        have KM := Lib.hid kk
        have HGM := Lib.hid hgm
        clear b kk hv hgm
        refine wpAnyR_two (i := 5) (j := 6) (by kernel_rfl) ⟨_, rfl, fun K hK => ?cxzx⟩ ⟨_, rfl, fun K hK => ?cxzy⟩
        case' cxzx =>
          go_simp
          refine (PM.out _).mono ?_; rintro e v3 ⟨rfl, b⟩
          refine hK _ _ (rk_below' b) ?_
          clear hK K
          have Y3 := Lib.hid (Y2.out.below b)
          have G3 := Lib.hid (below_trans G2.out b)
          have hs3 : s0 ≤ v3.heap.size := Nat.le_trans hs2 b.size
          have KM := Lib.hid (KM.out.below b KM.out.lt)
          clear b
          refine wpAnyR_sole (i := 6) rfl (by kernel_rfl) (fun K hK => ?_)
          go_simp
          refine hK _ _ (rk_below' (alloc_below _ _)) ?_
          clear hK K
          have b := alloc_below v3 (.cells #[.int .i64 0, .int .i64 0] 58)
          have kk := Blk.new v3 58 #[.int .i64 0, .int .i64 0]
          obtain ⟨v4, hv⟩ : ∃ v, v = v3.alloc (.cells #[.int .i64 0, .int .i64 0] 58) := ⟨_, rfl⟩
          rw [← hv] at b kk ⊢
          obtain ⟨gj, hgj⟩ : ∃ g, g = v3.heap.size := ⟨_, rfl⟩
          rw [← hgj] at kk ⊢
          have Y4 := Lib.hid (Y3.out.below b)
          have G4 := Lib.hid (below_trans G3.out b)
          have hs4 : s0 ≤ v4.heap.size := Nat.le_trans hs3 b.size
          have HNE := Lib.hid (show gm ≠ gj by have := KM.out.lt; omega)
          have KM := Lib.hid (KM.out.below b KM.out.lt)
          have KJ := Lib.hid kk
          have HGJ := Lib.hid hgj
          clear b kk hv hgj
          try (simp only [Act.put, List.setIfInBounds_toArray, List.set_cons_zero, List.set_cons_succ])
          refine wpAnyR_cast (L := #[true, true, true, true, true, true, true, true, false, false]) (by kernel_rfl) ?_
          exact KEY v4 gj gm ⟨Y4.out, G4.out, (by have := HGJ.out; omega), (by have := HGM.out; omega), HNE.out, KJ.out, KM.out⟩
        case' cxzy =>
          go_simp
          refine hK _ _ (rk_below' (alloc_below _ _)) ?_
          clear hK K
          have b := alloc_below v2 (.cells #[.int .i64 0, .int .i64 0] 58)
          have kk := Blk.new v2 58 #[.int .i64 0, .int .i64 0]
          obtain ⟨v3, hv⟩ : ∃ v, v = v2.alloc (.cells #[.int .i64 0, .int .i64 0] 58) := ⟨_, rfl⟩
          rw [← hv] at b kk ⊢
          obtain ⟨gj, hgj⟩ : ∃ g, g = v2.heap.size := ⟨_, rfl⟩
          rw [← hgj] at kk ⊢
          have Y3 := Lib.hid (Y2.out.below b)
          have G3 := Lib.hid (below_trans G2.out b)
          have hs3 : s0 ≤ v3.heap.size := Nat.le_trans hs2 b.size
          have HNE := Lib.hid (show gm ≠ gj by have := KM.out.lt; omega)
          have KM := Lib.hid (KM.out.below b KM.out.lt)
          have KJ := Lib.hid kk
          have HGJ := Lib.hid hgj
          clear b kk hv hgj
          refine wpAnyR_sole (i := 5) rfl (by kernel_rfl) (fun K hK => ?_)
          go_simp
          refine (PM.out _).mono ?_; rintro e v4 ⟨rfl, b⟩
          refine hK _ _ (rk_below' b) ?_
          clear hK K
          have Y4 := Lib.hid (Y3.out.below b)
          have G4 := Lib.hid (below_trans G3.out b)
          have hs4 : s0 ≤ v4.heap.size := Nat.le_trans hs3 b.size
          have KJ := Lib.hid (KJ.out.below b KJ.out.lt)
          have KM := Lib.hid (KM.out.below b KM.out.lt)
          clear b
          try (simp only [Act.put, List.setIfInBounds_toArray, List.set_cons_zero, List.set_cons_succ])
          refine wpAnyR_cast (L := #[true, true, true, true, true, true, true, true, false, false]) (by kernel_rfl) ?_
          exact KEY v4 gj gm ⟨Y4.out, G4.out, (by have := HGJ.out; omega), (by have := HGM.out; omega), HNE.out, KJ.out, KM.out⟩
    case' cy =>
      go_simp
      refine hK _ _ (rk_below' (alloc_below _ _)) ?_
      clear hK K
      have b := alloc_below v0 (.cells #[.int .i64 0, .int .i64 0] 58)
      have kk := Blk.new v0 58 #[.int .i64 0, .int .i64 0]
      obtain ⟨v1, hv⟩ : ∃ v, v = v0.alloc (.cells #[.int .i64 0, .int .i64 0] 58) := ⟨_, rfl⟩
      rw [← hv] at b kk ⊢
      obtain ⟨gj, hgj⟩ : ∃ g, g = v0.heap.size := ⟨_, rfl⟩
      rw [← hgj] at kk ⊢
      have Y1 := Lib.hid (Y0.out.below b)
      have G1 := Lib.hid (below_trans G0.out b)
      have hs1 : s0 ≤ v1.heap.size := Nat.le_trans hs0 b.size
      have KJ := Lib.hid kk
      have HGJ := Lib.hid hgj
      clear b kk hv hgj
      refine wpAnyR_two (i := 2) (j := 7) (by kernel_rfl) ⟨_, rfl, fun K hK => ?cyx⟩ ⟨_, rfl, fun K hK => ?cyy⟩
      case' cyx =>
        go_simp
        refine (PJ.out _).mono ?_; rintro e v2 ⟨rfl, b⟩
        refine hK _ _ (rk_below' b) ?_
        clear hK K
        have Y2 := Lib.hid (Y1.out.below b)
        have G2 := Lib.hid (below_trans G1.out b)
        have hs2 : s0 ≤ v2.heap.size := Nat.le_trans hs1 b.size
        have KJ := Lib.hid (KJ.out.below b KJ.out.lt)
        clear b
        refine wpAnyR_two (i := 5) (j := 7) (by kernel_rfl) ⟨_, rfl, fun K hK => ?cyxx⟩ ⟨_, rfl, fun K hK => ?cyxy⟩
        case' cyxx =>
          go_simp
          refine (PM.out _).mono ?_; rintro e v3 ⟨rfl, b⟩
          refine hK _ _ (rk_below' b) ?_
          clear hK K
          have Y3 := Lib.hid (Y2.out.below b)
          have G3 := Lib.hid (below_trans G2.out b)
          have hs3 : s0 ≤ v3.heap.size := Nat.le_trans hs2 b.size
          have KJ := Lib.hid (KJ.out.below b KJ.out.lt)
          clear b
          refine wpAnyR_sole (i := 7) rfl (by kernel_rfl) (fun K hK => ?_)
          go_simp
          refine hK _ _ (rk_below' (alloc_below _ _)) ?_
          clear hK K
          have b := alloc_below v3 (.cells #[.int .i64 0, .int .i64 0] 58)
          have kk := Blk.new v3 58 #[.int .i64 0, .int .i64 0]
          obtain ⟨v4, hv⟩ : ∃ v, v = v3.alloc (.cells #[.int .i64 0, .int .i64 0] 58) := ⟨_, rfl⟩
          rw [← hv] at b kk ⊢
          obtain ⟨gm, hgm⟩ : ∃ g, g = v3.heap.size := ⟨_, rfl⟩
          rw [← hgm] at kk ⊢
          have Y4 := Lib.hid (Y3.out.below b)
          have G4 := Lib.hid (below_trans G3.out b)
          have hs4 : s0 ≤ v4.heap.size := Nat.le_trans hs3 b.size
          have HNE := Lib.hid (show gm ≠ gj by have := KJ.out.lt; omega)
          have KJ := Lib.hid (KJ.out.below b KJ.out.lt)
          have KM := Lib.hid kk
          have HGM := Lib.hid hgm
          clear b kk hv hgm
          try (simp only [Act.put, List.setIfInBounds_toArray, List.set_cons_zero, List.set_cons_succ])
          refine wpAnyR_cast (L := #[true, true, true, true, true, true, true, true, false, false]) (by kernel_rfl) ?_
          exact KEY v4 gj gm ⟨Y4.out, G4.out, (by have := HGJ.out; omega), (by have := HGM.out; omega), HNE.out, KJ.out, KM.out⟩
        case' cyxy =>
          go_simp
          refine hK _ _ (rk_below' (alloc_below _ _)) ?_
          clear hK K
          have b := alloc_below v2 (.cells #[.int .i64 0, .int .i64 0] 58)
          have kk := Blk.new v2 58 #[.int .i64 0, .int .i64 0]
          obtain ⟨v3, hv⟩ : ∃ v, v = v2.alloc (.cells #[.int .i64 0, .int .i64 0] 58) := ⟨_, rfl⟩
          rw [← hv] at b kk ⊢
          obtain ⟨gm, hgm⟩ : ∃ g, g = v2.heap.size := ⟨_, rfl⟩
          rw [← hgm] at kk ⊢
          have Y3 := Lib.hid (Y2.out.below b)
          have G3 := Lib.hid (below_trans G2.out b)
          have hs3 : s0 ≤ v3.heap.size := Nat.le_trans hs2 b.size
          have HNE := Lib.hid (show gm ≠ gj by have := KJ.out.lt; omega)
          have KJ := Lib.hid (KJ.out.below b KJ.out.lt)
          have KM := Lib.hid kk
          have HGM := Lib.hid hgm
          clear b kk hv hgm
          refine wpAnyR_sole (i := 5) rfl (by kernel_rfl) (fun K hK => ?_)
          go_simp
          refine (PM.out _).mono ?_; rintro e v4 ⟨rfl, b⟩
          refine hK _ _ (rk_below' b) ?_
          clear hK K
          have Y4 := Lib.hid (Y3.out.below b)
          have G4 := Lib.hid (below_trans G3.out b)
          have hs4 : s0 ≤ v4.heap.size := Nat.le_trans hs3 b.size
          have KJ := Lib.hid (KJ.out.below b KJ.out.lt)
          have KM := Lib.hid (KM.out.below b KM.out.lt)
          clear b
          try (simp only [Act.put, List.setIfInBounds_toArray, List.set_cons_zero, List.set_cons_succ])
          refine wpAnyR_cast (L := #[true, true, true, true, true, true, true, true, false, false]) (by kernel_rfl) ?_
          exact KEY v4 gj gm ⟨Y4.out, G4.out, (by have := HGJ.out; omega), (by have := HGM.out; omega), HNE.out, KJ.out, KM.out⟩
      case' cyy =>
        go_simp
        refine hK _ _ (rk_below' (alloc_below _ _)) ?_
        clear hK K
        have b := alloc_below v1 (.cells #[.int .i64 0, .int .i64 0] 58)
        have kk := Blk.new v1 58 #[.int .i64 0, .int .i64 0]
        obtain ⟨v2, hv⟩ : ∃ v, v = v1.alloc (.cells #[.int .i64 0, .int .i64 0] 58) := ⟨_, rfl⟩
        rw [← hv] at b kk ⊢
        obtain ⟨gm, hgm⟩ : ∃ g, g = v1.heap.size := ⟨_, rfl⟩
        rw [← hgm] at kk ⊢
        have Y2 := Lib.hid (Y1.out.below b)
        have G2 := Lib.hid (below_trans G1.out b)
        have hs2 : s0 ≤ v2.heap.size := Nat.le_trans hs1 b.size
        have HNE := Lib.hid (show gm ≠ gj by have := KJ.out.lt; omega)
        have KJ := Lib.hid (KJ.out.below b KJ.out.lt)
        have KM := Lib.hid kk
        have HGM := Lib.hid hgm
        clear b kk hv hgm
        refine wpAnyR_sole (i := 2) rfl (by kernel_rfl) (fun K hK => ?_)
        go_simp
        refine (PJ.out _).mono ?_; rintro e v3 ⟨rfl, b⟩
        refine hK _ _ (rk_below' b) ?_
        clear hK K
        have Y3 := Lib.hid (Y2.out.below b)
        have G3 := Lib.hid (below_trans G2.out b)
        have hs3 : s0 ≤ v3.heap.size := Nat.le_trans hs2 b.size
        have KJ := Lib.hid (KJ.out.below b KJ.out.lt)
        have KM := Lib.hid (KM.out.below b KM.out.lt)
        clear b
        refine wpAnyR_sole (i := 5) rfl (by kernel_rfl) (fun K hK => ?_)
        go_simp
        refine (PM.out _).mono ?_; rintro e v4 ⟨rfl, b⟩
        refine hK _ _ (rk_below' b) ?_
        clear hK K
        have Y4 := Lib.hid (Y3.out.below b)
        have G4 := Lib.hid (below_trans G3.out b)
        have hs4 : s0 ≤ v4.heap.size := Nat.le_trans hs3 b.size
        have KJ := Lib.hid (KJ.out.below b KJ.out.lt)
        have KM := Lib.hid (KM.out.below b KM.out.lt)
        clear b
        try (simp only [Act.put, List.setIfInBounds_toArray, List.set_cons_zero, List.set_cons_succ])
        refine wpAnyR_cast (L := #[true, true, true, true, true, true, true, true, false, false]) (by kernel_rfl) ?_
        exact KEY v4 gj gm ⟨Y4.out, G4.out, (by have := HGJ.out; omega), (by have := HGM.out; omega), HNE.out, KJ.out, KM.out⟩
    case' cz =>
      go_simp
      refine hK _ _ (rk_below' (alloc_below _ _)) ?_
      clear hK K
      have b := alloc_below v0 (.cells #[.int .i64 0, .int .i64 0] 58)
      have kk := Blk.new v0 58 #[.int .i64 0, .int .i64 0]
      obtain ⟨v1, hv⟩ : ∃ v, v = v0.alloc (.cells #[.int .i64 0, .int .i64 0] 58) := ⟨_, rfl⟩
      rw [← hv] at b kk ⊢
      obtain ⟨gm, hgm⟩ : ∃ g, g = v0.heap.size := ⟨_, rfl⟩
      rw [← hgm] at kk ⊢
      have Y1 := Lib.hid (Y0.out.below b)
      have G1 := Lib.hid (below_trans G0.out b)
      have hs1 : s0 ≤ v1.heap.size := Nat.le_trans hs0 b.size
      have KM := Lib.hid kk
      have HGM := Lib.hid hgm
      clear b kk hv hgm
      refine wpAnyR_two (i := 2) (j := 6) (by kernel_rfl) ⟨_, rfl, fun K hK => ?czx⟩ ⟨_, rfl, fun K hK => ?czy⟩
      case' czx =>
        go_simp
        refine (PJ.out _).mono ?_; rintro e v2 ⟨rfl, b⟩
        refine hK _ _ (rk_below' b) ?_
        clear hK K
        have Y2 := Lib.hid (Y1.out.below b)
        have G2 := Lib.hid (below_trans G1.out b)
        have hs2 : s0 ≤ v2.heap.size := Nat.le_trans hs1 b.size
        have KM := Lib.hid (KM.out.below b KM.out.lt)
        clear b
        refine wpAnyR_two (i := 5) (j := 6) (by kernel_rfl) ⟨_, rfl, fun K hK => ?czxx⟩ ⟨_, rfl, fun K hK => ?czxy⟩
        case' czxx =>
          go_simp
          refine (PM.out _).mono ?_; rintro e v3 ⟨rfl, b⟩
          refine hK _ _ (rk_below' b) ?_
          clear hK K
          have Y3 := Lib.hid (Y2.out.below b)
          have G3 := Lib.hid (below_trans G2.out b)
          have hs3 : s0 ≤ v3.heap.size := Nat.le_trans hs2 b.size
          have KM := Lib.hid (KM.out.below b KM.out.lt)
          clear b
          refine wpAnyR_sole (i := 6) rfl (by kernel_rfl) (fun K hK => ?_)
          go_simp
          refine hK _ _ (rk_below' (alloc_below _ _)) ?_
          clear hK K
          have b := alloc_below v3 (.cells #[.int .i64 0, .int .i64 0] 58)
          have kk := Blk.new v3 58 #[.int .i64 0, .int .i64 0]
          obtain ⟨v4, hv⟩ : ∃ v, v = v3.alloc (.cells #[.int .i64 0, .int .i64 0] 58) := ⟨_, rfl⟩
          rw [← hv] at b kk ⊢
          obtain ⟨gj, hgj⟩ : ∃ g, g = v3.heap.size := ⟨_, rfl⟩
          rw [← hgj] at kk ⊢
          have Y4 := Lib.hid (Y3.out.below b)
          have G4 := Lib.hid (below_trans G3.out b)
          have hs4 : s0 ≤ v4.heap.size := Nat.le_trans hs3 b.size
          have HNE := Lib.hid (show gm ≠ gj by have := KM.out.lt; omega)
          have KM := Lib.hid (KM.out.below b KM.out.lt)
          have KJ := Lib.hid kk
          have HGJ := Lib.hid hgj
          clear b kk hv hgj
          try (simp only [Act.put, List.setIfInBounds_toArray, List.set_cons_zero, List.set_cons_succ])
          refine wpAnyR_cast (L := #[true, true, true, true, true, true, true, true, false, false]) (by kernel_rfl) ?_
          exact KEY v4 gj gm ⟨Y4.out, G4.out, (by have := HGJ.out; omega), (by have := HGM.out; omega), HNE.out, KJ.out, KM.out⟩
        case' czxy =>
          go_simp
          refine hK _ _ (rk_below' (alloc_below _ _)) ?_
          clear hK K
          have b := alloc_below v2 (.cells #[.int .i64 0, .int .i64 0] 58)
          have kk := Blk.new v2 58 #[.int .i64 0, .int .i64 0]
          obtain ⟨v3, hv⟩ : ∃ v, v = v2.alloc (.cells #[.int .i64 0, .int .i64 0] 58) := ⟨_, rfl⟩
          rw [← hv] at b kk ⊢
          obtain ⟨gj, hgj⟩ : ∃ g, g = v2.heap.size := ⟨_, rfl⟩
          rw [← hgj] at kk ⊢
          have Y3 := Lib.hid (Y2.out.below b)
          have G3 := Lib.hid (below_trans G2.out b)
          have hs3 : s0 ≤ v3.heap.size := Nat.le_trans hs2 b.size
          have HNE := Lib.hid (show gm ≠ gj by have := KM.out.lt; omega)
          have KM := Lib.hid (KM.out.below b KM.out.lt)
          have KJ := Lib.hid kk
          have HGJ := Lib.hid hgj
          clear b kk hv hgj
          refine wpAnyR_sole (i := 5) rfl (by kernel_rfl) (fun K hK => ?_)
          go_simp
          refine (PM.out _).mono ?_; rintro e v4 ⟨rfl, b⟩
          refine hK _ _ (rk_below' b) ?_
          clear hK K
          have Y4 := Lib.hid (Y3.out.below b)
          have G4 := Lib.hid (below_trans G3.out b)
          have hs4 : s0 ≤ v4.heap.size := Nat.le_trans hs3 b.size
          have KJ := Lib.hid (KJ.out.below b KJ.out.lt)
          have KM := Lib.hid (KM.out.below b KM.out.lt)
          clear b
          try (simp only [Act.put, List.setIfInBounds_toArray, List.set_cons_zero, List.set_cons_succ])
          refine wpAnyR_cast (L := #[true, true, true, true, true, true, true, true, false, false]) (by kernel_rfl) ?_
          exact KEY v4 gj gm ⟨Y4.out, G4.out, (by have := HGJ.out; omega), (by have := HGM.out; omega), HNE.out, KJ.out, KM.out⟩
      case' czy =>
        go_simp
        refine hK _ _ (rk_below' (alloc_below _ _)) ?_
        clear hK K
        have b := alloc_below v1 (.cells #[.int .i64 0, .int .i64 0] 58)
        have kk := Blk.new v1 58 #[.int .i64 0, .int .i64 0]
        obtain ⟨v2, hv⟩ : ∃ v, v = v1.alloc (.cells #[.int .i64 0, .int .i64 0] 58) := ⟨_, rfl⟩
        rw [← hv] at b kk ⊢
        obtain ⟨gj, hgj⟩ : ∃ g, g = v1.heap.size := ⟨_, rfl⟩
        rw [← hgj] at kk ⊢
        have Y2 := Lib.hid (Y1.out.below b)
        have G2 := Lib.hid (below_trans G1.out b)
        have hs2 : s0 ≤ v2.heap.size := Nat.le_trans hs1 b.size
        have HNE := Lib.hid (show gm ≠ gj by have := KM.out.lt; omega)
        have KM := Lib.hid (KM.out.below b KM.out.lt)
        have KJ := Lib.hid kk
        have HGJ := Lib.hid hgj
        clear b kk hv hgj
        refine wpAnyR_sole (i := 2) rfl (by kernel_rfl) (fun K hK => ?_)
        go_simp
        refine (PJ.out _).mono ?_; rintro e v3 ⟨rfl, b⟩
        refine hK _ _ (rk_below' b) ?_
        clear hK K
        have Y3 := Lib.hid (Y2.out.below b)
        have G3 := Lib.hid (below_trans G2.out b)
        have hs3 : s0 ≤ v3.heap.size := Nat.le_trans hs2 b.size
        have KJ := Lib.hid (KJ.out.below b KJ.out.lt)
        have KM := Lib.hid (KM.out.below b KM.out.lt)
        clear b
        refine wpAnyR_sole (i := 5) rfl (by kernel_rfl) (fun K hK => ?_)
        go_simp
        refine (PM.out _).mono ?_; rintro e v4 ⟨rfl, b⟩
        refine hK _ _ (rk_below' b) ?_
        clear hK K
        have Y4 := Lib.hid (Y3.out.below b)
        have G4 := Lib.hid (below_trans G3.out b)
        have hs4 : s0 ≤ v4.heap.size := Nat.le_trans hs3 b.size
        have KJ := Lib.hid (KJ.out.below b KJ.out.lt)
        have KM := Lib.hid (KM.out.below b KM.out.lt)
        clear b
        try (simp only [Act.put, List.setIfInBounds_toArray, List.set_cons_zero, List.set_cons_succ])
        refine wpAnyR_cast (L := #[true, true, true, true, true, true, true, true, false, false]) (by kernel_rfl) ?_
        exact KEY v4 gj gm ⟨Y4.out, G4.out, (by have := HGJ.out; omega), (by have := HGM.out; omega), HNE.out, KJ.out, KM.out⟩
  case key =>
    rintro v4 gj gm ⟨hy, hg, hgj', hgm', hgne, hkj, hkm⟩
    have Y4 := Lib.hid hy
    have G4 := Lib.hid hg
    have KJ := Lib.hid hkj
    have KM := Lib.hid hkm
    clear hy hg hkj hkm
    have hold : ∀ q : Nat × Value × Value, q ∈ [(w.heap.size, Value.int .i64 x1, Value.int .i64 x2), (w.heap.size + 1, Value.int .i64 y1, Value.int .i64 y2)] → q.1 ≠ gj ∧ q.1 ≠ gm := fun q hq => by
      simp only [List.mem_cons, List.not_mem_nil, or_false] at hq
      rcases hq with rfl | rfl <;> simp only <;> omega
    have HOLD := Lib.hid hold
    have hwj : w.heap.size ≤ gj := by omega
    have hwm : w.heap.size ≤ gm := by omega
    clear hold
    have c0 := KJ.out.cell 0
    have c1 := KJ.out.cell 1
    simp at c0 c1
    have f0 := KJ.out.frozen 0
    have f1 := KJ.out.frozen 1
    refine wpAnyR_sole (i := 8) rfl (by kernel_rfl) (fun K hK => ?_)
    go_simp
    refine hK _ _ (RK.trans _ _ _ _ (rk_set (p := ⟨gj, 0, none⟩) _ hgj' _) (rk_set (p := ⟨gj, 1, none⟩) _ hgj' _)) ?_
    clear hK K c0 c1 f0 f1
    have KM8 := Lib.hid ((KM.out.far (p := ⟨gj, 0, none⟩) hgne (.int .i64 (max x1 y1))).far (p := ⟨gj, 1, none⟩) hgne (.int .i64 (max x2 y2)))
    have KJ8 := Lib.hid ((KJ.out.set_ 0 (.int .i64 (max x1 y1))).set_ 1 (.int .i64 (max x2 y2)))
    have Y8 := Lib.hid ((Y4.out.setC (p := ⟨gj, 0, none⟩) (.int .i64 (max x1 y1)) (fun q hq => HOLD.out q hq |>.1)).setC (p := ⟨gj, 1, none⟩) (.int .i64 (max x2 y2)) (fun q hq => HOLD.out q hq |>.1))
    have G8 := Lib.hid (below_setCell (below_setCell G4.out (p := ⟨gj, 0, none⟩) hwj (.int .i64 (max x1 y1))) (p := ⟨gj, 1, none⟩) hwj (.int .i64 (max x2 y2)))
    obtain ⟨v8, hv⟩ : ∃ v, v = (v4.setCell ⟨gj, 0, none⟩ (.int .i64 (max x1 y1))).setCell ⟨gj, 1, none⟩ (.int .i64 (max x2 y2)) := ⟨_, rfl⟩
    rw [← hv] at KM8 KJ8 Y8 G8 ⊢
    clear hv
    have c0 := KM8.out.cell 0
    have c1 := KM8.out.cell 1
    simp at c0 c1
    have f0 := KM8.out.frozen 0
    have f1 := KM8.out.frozen 1
    refine wpAnyR_sole (i := 9) rfl (by kernel_rfl) (fun K hK => ?_)
    go_simp
    refine hK _ _ (RK.trans _ _ _ _ (rk_set (p := ⟨gm, 0, none⟩) _ hgm' _) (rk_set (p := ⟨gm, 1, none⟩) _ hgm' _)) ?_
    clear hK K c0 c1 f0 f1
    have KJ9 := Lib.hid ((KJ8.out.far (p := ⟨gm, 0, none⟩) hgne.symm (.int .i64 (min x1 y1))).far (p := ⟨gm, 1, none⟩) hgne.symm (.int .i64 (min x2 y2)))
    have KM9 := Lib.hid ((KM8.out.set_ 0 (.int .i64 (min x1 y1))).set_ 1 (.int .i64 (min x2 y2)))
    have Y9 := Lib.hid ((Y8.out.setC (p := ⟨gm, 0, none⟩) (.int .i64 (min x1 y1)) (fun q hq => HOLD.out q hq |>.2)).setC (p := ⟨gm, 1, none⟩) (.int .i64 (min x2 y2)) (fun q hq => HOLD.out q hq |>.2))
    have G9 := Lib.hid (below_setCell (below_setCell G8.out (p := ⟨gm, 0, none⟩) hwm (.int .i64 (min x1 y1))) (p := ⟨gm, 1, none⟩) hwm (.int .i64 (min x2 y2)))
    refine wpAnyR_done (by kernel_rfl) ?_ _
    go_wp2_with fail
    have X0 := Lib.hid (((Y9.out.cons ⟨KM9.out.lt, KM9.out.cell 0, KM9.out.cell 1⟩).cons ⟨KJ9.out.lt, KJ9.out.cell 0, KJ9.out.cell 1⟩).drewO)
    have H0 := Lib.hid (RB.of_drew' G9.out)
    clear KJ KM KJ8 KM8 KJ9 KM9 Y8 Y9 G8 G9
    refine wp_region_R (R := RB) (n := 50) (by kernel_rfl) rfl ?_
    refine wpAnyR_sole (i := 0) rfl (by kernel_rfl) (fun K hK => ?_)
    go_simp
    refine (lives_any _).mono ?_; rintro e u1 ⟨rfl, b⟩
    refine hK _ _ b ?_
    clear hK K
    have X1 := Lib.hid (X0.out.below b)
    have H1 := Lib.hid (below_trans H0.out b)
    clear X0 H0 b
    obtain ⟨-, -, j0_1, j1_1⟩ := X1.out.at_ 0 rfl
    obtain ⟨-, -, m0_1, m1_1⟩ := X1.out.at_ 1 rfl
    obtain ⟨-, -, a0_1, a1_1⟩ := X1.out.at_ 2 rfl
    obtain ⟨-, -, b0_1, b1_1⟩ := X1.out.at_ 3 rfl
    refine batchB [1, 2, 4] (fuel := 46) rfl (by kernel_rfl) (by kernel_rfl) (fun _ _ d _ _ h => by cases d <;> exact h) ?_
    repeat (first | ((with_reducible apply wq0); rfl; rfl; rfl; intro K hK; go_big_quiet_op; refine hK _ ?_; clear hK K) | ((with_reducible apply wq1); rfl; rfl; rfl; rfl; rfl; rfl; intro K hK; go_big_quiet_op; refine hK _ ?_; clear hK K) | ((with_reducible apply wqs); rfl; rfl; rfl; rfl; rfl; rfl; simp only [Act.put, List.setIfInBounds_toArray, List.set_cons_zero, List.set_cons_succ]) | ((with_reducible apply wqu); rfl; rfl; rfl; rfl; rfl; simp only [Act.put, List.setIfInBounds_toArray, List.set_cons_zero, List.set_cons_succ]))
    refine wqIdx_load rfl rfl rfl rfl (fun W hW => load_mo_at _ _ (x1) (x2) W (keep_cell hW a0_1) (keep_cell hW a1_1)) ?_
    simp only [Act.put, List.setIfInBounds_toArray, List.set_cons_zero, List.set_cons_succ]
    repeat (first | ((with_reducible apply wq0); rfl; rfl; rfl; intro K hK; go_big_quiet_op; refine hK _ ?_; clear hK K) | ((with_reducible apply wq1); rfl; rfl; rfl; rfl; rfl; rfl; intro K hK; go_big_quiet_op; refine hK _ ?_; clear hK K) | ((with_reducible apply wqs); rfl; rfl; rfl; rfl; rfl; rfl; simp only [Act.put, List.setIfInBounds_toArray, List.set_cons_zero, List.set_cons_succ]) | ((with_reducible apply wqu); rfl; rfl; rfl; rfl; rfl; simp only [Act.put, List.setIfInBounds_toArray, List.set_cons_zero, List.set_cons_succ]))
    refine wqIdx_nil ?_
    refine wpAnyR_sole (i := 3) rfl (by kernel_rfl) (fun K hK => ?_)
    go_simp
    refine (PK.out _).mono ?_; rintro e u2 ⟨rfl, b⟩
    refine hK _ _ b ?_
    clear hK K
    have X2 := Lib.hid (X1.out.below b)
    have H2 := Lib.hid (below_trans H1.out b)
    clear X1 H1 b
    obtain ⟨-, -, j0_2, j1_2⟩ := X2.out.at_ 0 rfl
    obtain ⟨-, -, m0_2, m1_2⟩ := X2.out.at_ 1 rfl
    obtain ⟨-, -, a0_2, a1_2⟩ := X2.out.at_ 2 rfl
    obtain ⟨-, -, b0_2, b1_2⟩ := X2.out.at_ 3 rfl
    refine batchB [5, 6, 7, 8, 9, 11, 12] (fuel := 38) rfl (by kernel_rfl) (by kernel_rfl) (fun _ _ d _ _ h => by cases d <;> exact h) ?_
    repeat (first | ((with_reducible apply wq0); rfl; rfl; rfl; intro K hK; go_big_quiet_op; refine hK _ ?_; clear hK K) | ((with_reducible apply wq1); rfl; rfl; rfl; rfl; rfl; rfl; intro K hK; go_big_quiet_op; refine hK _ ?_; clear hK K) | ((with_reducible apply wqs); rfl; rfl; rfl; rfl; rfl; rfl; simp only [Act.put, List.setIfInBounds_toArray, List.set_cons_zero, List.set_cons_succ]) | ((with_reducible apply wqu); rfl; rfl; rfl; rfl; rfl; simp only [Act.put, List.setIfInBounds_toArray, List.set_cons_zero, List.set_cons_succ]))
    refine wqIdx_load rfl rfl rfl rfl (fun W hW => load_mo_at _ _ (x1) (x2) W (keep_cell hW a0_2) (keep_cell hW a1_2)) ?_
    simp only [Act.put, List.setIfInBounds_toArray, List.set_cons_zero, List.set_cons_succ]
    repeat (first | ((with_reducible apply wq0); rfl; rfl; rfl; intro K hK; go_big_quiet_op; refine hK _ ?_; clear hK K) | ((with_reducible apply wq1); rfl; rfl; rfl; rfl; rfl; rfl; intro K hK; go_big_quiet_op; refine hK _ ?_; clear hK K) | ((with_reducible apply wqs); rfl; rfl; rfl; rfl; rfl; rfl; simp only [Act.put, List.setIfInBounds_toArray, List.set_cons_zero, List.set_cons_succ]) | ((with_reducible apply wqu); rfl; rfl; rfl; rfl; rfl; simp only [Act.put, List.setIfInBounds_toArray, List.set_cons_zero, List.set_cons_succ]))
    refine wqIdx_load rfl rfl rfl rfl (fun W hW => load_mo_at _ _ (y1) (y2) W (keep_cell hW b0_2) (keep_cell hW b1_2)) ?_
    simp only [Act.put, List.setIfInBounds_toArray, List.set_cons_zero, List.set_cons_succ]
    repeat (first | ((with_reducible apply wq0); rfl; rfl; rfl; intro K hK; go_big_quiet_op; refine hK _ ?_; clear hK K) | ((with_reducible apply wq1); rfl; rfl; rfl; rfl; rfl; rfl; intro K hK; go_big_quiet_op; refine hK _ ?_; clear hK K) | ((with_reducible apply wqs); rfl; rfl; rfl; rfl; rfl; rfl; simp only [Act.put, List.setIfInBounds_toArray, List.set_cons_zero, List.set_cons_succ]) | ((with_reducible apply wqu); rfl; rfl; rfl; rfl; rfl; simp only [Act.put, List.setIfInBounds_toArray, List.set_cons_zero, List.set_cons_succ]))
    refine wqIdx_load rfl rfl rfl rfl (fun W hW => load_mo_at _ _ (x1) (x2) W (keep_cell hW a0_2) (keep_cell hW a1_2)) ?_
    simp only [Act.put, List.setIfInBounds_toArray, List.set_cons_zero, List.set_cons_succ]
    repeat (first | ((with_reducible apply wq0); rfl; rfl; rfl; intro K hK; go_big_quiet_op; refine hK _ ?_; clear hK K) | ((with_reducible apply wq1); rfl; rfl; rfl; rfl; rfl; rfl; intro K hK; go_big_quiet_op; refine hK _ ?_; clear hK K) | ((with_reducible apply wqs); rfl; rfl; rfl; rfl; rfl; rfl; simp only [Act.put, List.setIfInBounds_toArray, List.set_cons_zero, List.set_cons_succ]) | ((with_reducible apply wqu); rfl; rfl; rfl; rfl; rfl; simp only [Act.put, List.setIfInBounds_toArray, List.set_cons_zero, List.set_cons_succ]))
    refine wqIdx_load rfl rfl rfl rfl (fun W hW => load_mo_at _ _ (y1) (y2) W (keep_cell hW b0_2) (keep_cell hW b1_2)) ?_
    simp only [Act.put, List.setIfInBounds_toArray, List.set_cons_zero, List.set_cons_succ]
    repeat (first | ((with_reducible apply wq0); rfl; rfl; rfl; intro K hK; go_big_quiet_op; refine hK _ ?_; clear hK K) | ((with_reducible apply wq1); rfl; rfl; rfl; rfl; rfl; rfl; intro K hK; go_big_quiet_op; refine hK _ ?_; clear hK K) | ((with_reducible apply wqs); rfl; rfl; rfl; rfl; rfl; rfl; simp only [Act.put, List.setIfInBounds_toArray, List.set_cons_zero, List.set_cons_succ]) | ((with_reducible apply wqu); rfl; rfl; rfl; rfl; rfl; simp only [Act.put, List.setIfInBounds_toArray, List.set_cons_zero, List.set_cons_succ]))
    refine wqIdx_nil ?_
    refine wpAnyR_sole (i := 10) rfl (by kernel_rfl) (fun K hK => ?_)
    go_simp
    refine (P1.out _).mono ?_; rintro e u3 ⟨rfl, b⟩
    refine hK _ _ b ?_
    clear hK K
    have X3 := Lib.hid (X2.out.below b)
    have H3 := Lib.hid (below_trans H2.out b)
    clear X2 H2 b
    refine wpAnyR_sole (i := 13) rfl (by kernel_rfl) (fun K hK => ?_)
    go_simp
    refine (P2.out _).mono ?_; rintro e u4 ⟨rfl, b⟩
    refine hK _ _ b ?_
    clear hK K
    have X4 := Lib.hid (X3.out.below b)
    have H4 := Lib.hid (below_trans H3.out b)
    clear X3 H3 b
    obtain ⟨-, -, j0_4, j1_4⟩ := X4.out.at_ 0 rfl
    obtain ⟨-, -, m0_4, m1_4⟩ := X4.out.at_ 1 rfl
    obtain ⟨-, -, a0_4, a1_4⟩ := X4.out.at_ 2 rfl
    obtain ⟨-, -, b0_4, b1_4⟩ := X4.out.at_ 3 rfl
    refine batchB [14, 15, 16, 17, 18, 20, 21] (fuel := 29) rfl (by kernel_rfl) (by kernel_rfl) (fun _ _ d _ _ h => by cases d <;> exact h) ?_
    repeat (first | ((with_reducible apply wq0); rfl; rfl; rfl; intro K hK; go_big_quiet_op; refine hK _ ?_; clear hK K) | ((with_reducible apply wq1); rfl; rfl; rfl; rfl; rfl; rfl; intro K hK; go_big_quiet_op; refine hK _ ?_; clear hK K) | ((with_reducible apply wqs); rfl; rfl; rfl; rfl; rfl; rfl; simp only [Act.put, List.setIfInBounds_toArray, List.set_cons_zero, List.set_cons_succ]) | ((with_reducible apply wqu); rfl; rfl; rfl; rfl; rfl; simp only [Act.put, List.setIfInBounds_toArray, List.set_cons_zero, List.set_cons_succ]))
    refine wqIdx_load rfl rfl rfl rfl (fun W hW => load_mo_at _ _ (x1) (x2) W (keep_cell hW a0_4) (keep_cell hW a1_4)) ?_
    simp only [Act.put, List.setIfInBounds_toArray, List.set_cons_zero, List.set_cons_succ]
    repeat (first | ((with_reducible apply wq0); rfl; rfl; rfl; intro K hK; go_big_quiet_op; refine hK _ ?_; clear hK K) | ((with_reducible apply wq1); rfl; rfl; rfl; rfl; rfl; rfl; intro K hK; go_big_quiet_op; refine hK _ ?_; clear hK K) | ((with_reducible apply wqs); rfl; rfl; rfl; rfl; rfl; rfl; simp only [Act.put, List.setIfInBounds_toArray, List.set_cons_zero, List.set_cons_succ]) | ((with_reducible apply wqu); rfl; rfl; rfl; rfl; rfl; simp only [Act.put, List.setIfInBounds_toArray, List.set_cons_zero, List.set_cons_succ]))
    refine wqIdx_load rfl rfl rfl rfl (fun W hW => load_mo_at _ _ (y1) (y2) W (keep_cell hW b0_4) (keep_cell hW b1_4)) ?_
    simp only [Act.put, List.setIfInBounds_toArray, List.set_cons_zero, List.set_cons_succ]
    repeat (first | ((with_reducible apply wq0); rfl; rfl; rfl; intro K hK; go_big_quiet_op; refine hK _ ?_; clear hK K) | ((with_reducible apply wq1); rfl; rfl; rfl; rfl; rfl; rfl; intro K hK; go_big_quiet_op; refine hK _ ?_; clear hK K) | ((with_reducible apply wqs); rfl; rfl; rfl; rfl; rfl; rfl; simp only [Act.put, List.setIfInBounds_toArray, List.set_cons_zero, List.set_cons_succ]) | ((with_reducible apply wqu); rfl; rfl; rfl; rfl; rfl; simp only [Act.put, List.setIfInBounds_toArray, List.set_cons_zero, List.set_cons_succ]))
    refine wqIdx_load rfl rfl rfl rfl (fun W hW => load_mo_at _ _ (x1) (x2) W (keep_cell hW a0_4) (keep_cell hW a1_4)) ?_
    simp only [Act.put, List.setIfInBounds_toArray, List.set_cons_zero, List.set_cons_succ]
    repeat (first | ((with_reducible apply wq0); rfl; rfl; rfl; intro K hK; go_big_quiet_op; refine hK _ ?_; clear hK K) | ((with_reducible apply wq1); rfl; rfl; rfl; rfl; rfl; rfl; intro K hK; go_big_quiet_op; refine hK _ ?_; clear hK K) | ((with_reducible apply wqs); rfl; rfl; rfl; rfl; rfl; rfl; simp only [Act.put, List.setIfInBounds_toArray, List.set_cons_zero, List.set_cons_succ]) | ((with_reducible apply wqu); rfl; rfl; rfl; rfl; rfl; simp only [Act.put, List.setIfInBounds_toArray, List.set_cons_zero, List.set_cons_succ]))
    refine wqIdx_load rfl rfl rfl rfl (fun W hW => load_mo_at _ _ (y1) (y2) W (keep_cell hW b0_4) (keep_cell hW b1_4)) ?_
    simp only [Act.put, List.setIfInBounds_toArray, List.set_cons_zero, List.set_cons_succ]
    repeat (first | ((with_reducible apply wq0); rfl; rfl; rfl; intro K hK; go_big_quiet_op; refine hK _ ?_; clear hK K) | ((with_reducible apply wq1); rfl; rfl; rfl; rfl; rfl; rfl; intro K hK; go_big_quiet_op; refine hK _ ?_; clear hK K) | ((with_reducible apply wqs); rfl; rfl; rfl; rfl; rfl; rfl; simp only [Act.put, List.setIfInBounds_toArray, List.set_cons_zero, List.set_cons_succ]) | ((with_reducible apply wqu); rfl; rfl; rfl; rfl; rfl; simp only [Act.put, List.setIfInBounds_toArray, List.set_cons_zero, List.set_cons_succ]))
    refine wqIdx_nil ?_
    refine wpAnyR_sole (i := 19) rfl (by kernel_rfl) (fun K hK => ?_)
    go_simp
    refine (P3.out _).mono ?_; rintro e u5 ⟨rfl, b⟩
    refine hK _ _ b ?_
    clear hK K
    have X5 := Lib.hid (X4.out.below b)
    have H5 := Lib.hid (below_trans H4.out b)
    clear X4 H4 b
    refine wpAnyR_sole (i := 22) rfl (by kernel_rfl) (fun K hK => ?_)
    go_simp
    refine (P4.out _).mono ?_; rintro e u6 ⟨rfl, b⟩
    refine hK _ _ b ?_
    clear hK K
    have X6 := Lib.hid (X5.out.below b)
    have H6 := Lib.hid (below_trans H5.out b)
    clear X5 H5 b
    obtain ⟨-, -, j0_6, j1_6⟩ := X6.out.at_ 0 rfl
    obtain ⟨-, -, m0_6, m1_6⟩ := X6.out.at_ 1 rfl
    obtain ⟨-, -, a0_6, a1_6⟩ := X6.out.at_ 2 rfl
    obtain ⟨-, -, b0_6, b1_6⟩ := X6.out.at_ 3 rfl
    refine batchB [23, 24, 25, 26, 27, 28] (fuel := 21) rfl (by kernel_rfl) (by kernel_rfl) (fun _ _ d _ _ h => by cases d <;> exact h) ?_
    repeat (first | ((with_reducible apply wq0); rfl; rfl; rfl; intro K hK; go_big_quiet_op; refine hK _ ?_; clear hK K) | ((with_reducible apply wq1); rfl; rfl; rfl; rfl; rfl; rfl; intro K hK; go_big_quiet_op; refine hK _ ?_; clear hK K) | ((with_reducible apply wqs); rfl; rfl; rfl; rfl; rfl; rfl; simp only [Act.put, List.setIfInBounds_toArray, List.set_cons_zero, List.set_cons_succ]) | ((with_reducible apply wqu); rfl; rfl; rfl; rfl; rfl; simp only [Act.put, List.setIfInBounds_toArray, List.set_cons_zero, List.set_cons_succ]))
    refine wqIdx_load rfl rfl rfl rfl (fun W hW => load_mo_at _ _ (max x1 y1) (max x2 y2) W (keep_cell hW j0_6) (keep_cell hW j1_6)) ?_
    simp only [Act.put, List.setIfInBounds_toArray, List.set_cons_zero, List.set_cons_succ]
    repeat (first | ((with_reducible apply wq0); rfl; rfl; rfl; intro K hK; go_big_quiet_op; refine hK _ ?_; clear hK K) | ((with_reducible apply wq1); rfl; rfl; rfl; rfl; rfl; rfl; intro K hK; go_big_quiet_op; refine hK _ ?_; clear hK K) | ((with_reducible apply wqs); rfl; rfl; rfl; rfl; rfl; rfl; simp only [Act.put, List.setIfInBounds_toArray, List.set_cons_zero, List.set_cons_succ]) | ((with_reducible apply wqu); rfl; rfl; rfl; rfl; rfl; simp only [Act.put, List.setIfInBounds_toArray, List.set_cons_zero, List.set_cons_succ]))
    refine wqIdx_load rfl rfl rfl rfl (fun W hW => load_mo_at _ _ (x1) (x2) W (keep_cell hW a0_6) (keep_cell hW a1_6)) ?_
    simp only [Act.put, List.setIfInBounds_toArray, List.set_cons_zero, List.set_cons_succ]
    repeat (first | ((with_reducible apply wq0); rfl; rfl; rfl; intro K hK; go_big_quiet_op; refine hK _ ?_; clear hK K) | ((with_reducible apply wq1); rfl; rfl; rfl; rfl; rfl; rfl; intro K hK; go_big_quiet_op; refine hK _ ?_; clear hK K) | ((with_reducible apply wqs); rfl; rfl; rfl; rfl; rfl; rfl; simp only [Act.put, List.setIfInBounds_toArray, List.set_cons_zero, List.set_cons_succ]) | ((with_reducible apply wqu); rfl; rfl; rfl; rfl; rfl; simp only [Act.put, List.setIfInBounds_toArray, List.set_cons_zero, List.set_cons_succ]))
    refine wqIdx_load rfl rfl rfl rfl (fun W hW => load_mo_at _ _ (y1) (y2) W (keep_cell hW b0_6) (keep_cell hW b1_6)) ?_
    simp only [Act.put, List.setIfInBounds_toArray, List.set_cons_zero, List.set_cons_succ]
    repeat (first | ((with_reducible apply wq0); rfl; rfl; rfl; intro K hK; go_big_quiet_op; refine hK _ ?_; clear hK K) | ((with_reducible apply wq1); rfl; rfl; rfl; rfl; rfl; rfl; intro K hK; go_big_quiet_op; refine hK _ ?_; clear hK K) | ((with_reducible apply wqs); rfl; rfl; rfl; rfl; rfl; rfl; simp only [Act.put, List.setIfInBounds_toArray, List.set_cons_zero, List.set_cons_succ]) | ((with_reducible apply wqu); rfl; rfl; rfl; rfl; rfl; simp only [Act.put, List.setIfInBounds_toArray, List.set_cons_zero, List.set_cons_succ]))
    refine wqIdx_nil ?_
    refine wpAnyR_sole (i := 29) rfl (by kernel_rfl) (fun K hK => ?_)
    go_simp
    refine (P5.out _).mono ?_; rintro e u7 ⟨rfl, b⟩
    refine hK _ _ b ?_
    clear hK K
    have X7 := Lib.hid (X6.out.below b)
    have H7 := Lib.hid (below_trans H6.out b)
    clear X6 H6 b
    obtain ⟨-, -, j0_7, j1_7⟩ := X7.out.at_ 0 rfl
    obtain ⟨-, -, m0_7, m1_7⟩ := X7.out.at_ 1 rfl
    obtain ⟨-, -, a0_7, a1_7⟩ := X7.out.at_ 2 rfl
    obtain ⟨-, -, b0_7, b1_7⟩ := X7.out.at_ 3 rfl
    refine batchB [30, 31, 32, 33, 34, 35] (fuel := 14) rfl (by kernel_rfl) (by kernel_rfl) (fun _ _ d _ _ h => by cases d <;> exact h) ?_
    repeat (first | ((with_reducible apply wq0); rfl; rfl; rfl; intro K hK; go_big_quiet_op; refine hK _ ?_; clear hK K) | ((with_reducible apply wq1); rfl; rfl; rfl; rfl; rfl; rfl; intro K hK; go_big_quiet_op; refine hK _ ?_; clear hK K) | ((with_reducible apply wqs); rfl; rfl; rfl; rfl; rfl; rfl; simp only [Act.put, List.setIfInBounds_toArray, List.set_cons_zero, List.set_cons_succ]) | ((with_reducible apply wqu); rfl; rfl; rfl; rfl; rfl; simp only [Act.put, List.setIfInBounds_toArray, List.set_cons_zero, List.set_cons_succ]))
    refine wqIdx_load rfl rfl rfl rfl (fun W hW => load_mo_at _ _ (min x1 y1) (min x2 y2) W (keep_cell hW m0_7) (keep_cell hW m1_7)) ?_
    simp only [Act.put, List.setIfInBounds_toArray, List.set_cons_zero, List.set_cons_succ]
    repeat (first | ((with_reducible apply wq0); rfl; rfl; rfl; intro K hK; go_big_quiet_op; refine hK _ ?_; clear hK K) | ((with_reducible apply wq1); rfl; rfl; rfl; rfl; rfl; rfl; intro K hK; go_big_quiet_op; refine hK _ ?_; clear hK K) | ((with_reducible apply wqs); rfl; rfl; rfl; rfl; rfl; rfl; simp only [Act.put, List.setIfInBounds_toArray, List.set_cons_zero, List.set_cons_succ]) | ((with_reducible apply wqu); rfl; rfl; rfl; rfl; rfl; simp only [Act.put, List.setIfInBounds_toArray, List.set_cons_zero, List.set_cons_succ]))
    refine wqIdx_load rfl rfl rfl rfl (fun W hW => load_mo_at _ _ (x1) (x2) W (keep_cell hW a0_7) (keep_cell hW a1_7)) ?_
    simp only [Act.put, List.setIfInBounds_toArray, List.set_cons_zero, List.set_cons_succ]
    repeat (first | ((with_reducible apply wq0); rfl; rfl; rfl; intro K hK; go_big_quiet_op; refine hK _ ?_; clear hK K) | ((with_reducible apply wq1); rfl; rfl; rfl; rfl; rfl; rfl; intro K hK; go_big_quiet_op; refine hK _ ?_; clear hK K) | ((with_reducible apply wqs); rfl; rfl; rfl; rfl; rfl; rfl; simp only [Act.put, List.setIfInBounds_toArray, List.set_cons_zero, List.set_cons_succ]) | ((with_reducible apply wqu); rfl; rfl; rfl; rfl; rfl; simp only [Act.put, List.setIfInBounds_toArray, List.set_cons_zero, List.set_cons_succ]))
    refine wqIdx_load rfl rfl rfl rfl (fun W hW => load_mo_at _ _ (y1) (y2) W (keep_cell hW b0_7) (keep_cell hW b1_7)) ?_
    simp only [Act.put, List.setIfInBounds_toArray, List.set_cons_zero, List.set_cons_succ]
    repeat (first | ((with_reducible apply wq0); rfl; rfl; rfl; intro K hK; go_big_quiet_op; refine hK _ ?_; clear hK K) | ((with_reducible apply wq1); rfl; rfl; rfl; rfl; rfl; rfl; intro K hK; go_big_quiet_op; refine hK _ ?_; clear hK K) | ((with_reducible apply wqs); rfl; rfl; rfl; rfl; rfl; rfl; simp only [Act.put, List.setIfInBounds_toArray, List.set_cons_zero, List.set_cons_succ]) | ((with_reducible apply wqu); rfl; rfl; rfl; rfl; rfl; simp only [Act.put, List.setIfInBounds_toArray, List.set_cons_zero, List.set_cons_succ]))
    refine wqIdx_nil ?_
    refine wpAnyR_sole (i := 36) rfl (by kernel_rfl) (fun K hK => ?_)
    go_simp
    refine (P6.out _).mono ?_; rintro e u8 ⟨rfl, b⟩
    refine hK _ _ b ?_
    clear hK K
    have X8 := Lib.hid (X7.out.below b)
    have H8 := Lib.hid (below_trans H7.out b)
    clear X7 H7 b
    obtain ⟨-, -, j0_8, j1_8⟩ := X8.out.at_ 0 rfl
    obtain ⟨-, -, m0_8, m1_8⟩ := X8.out.at_ 1 rfl
    obtain ⟨-, -, a0_8, a1_8⟩ := X8.out.at_ 2 rfl
    obtain ⟨-, -, b0_8, b1_8⟩ := X8.out.at_ 3 rfl
    refine batchB [37, 38, 39, 40, 41] (fuel := 8) rfl (by kernel_rfl) (by kernel_rfl) (fun _ _ d _ _ h => by cases d <;> exact h) ?_
    repeat (first | ((with_reducible apply wq0); rfl; rfl; rfl; intro K hK; go_big_quiet_op; refine hK _ ?_; clear hK K) | ((with_reducible apply wq1); rfl; rfl; rfl; rfl; rfl; rfl; intro K hK; go_big_quiet_op; refine hK _ ?_; clear hK K) | ((with_reducible apply wqs); rfl; rfl; rfl; rfl; rfl; rfl; simp only [Act.put, List.setIfInBounds_toArray, List.set_cons_zero, List.set_cons_succ]) | ((with_reducible apply wqu); rfl; rfl; rfl; rfl; rfl; simp only [Act.put, List.setIfInBounds_toArray, List.set_cons_zero, List.set_cons_succ]))
    refine wqIdx_load rfl rfl rfl rfl (fun W hW => load_mo_at _ _ (x1) (x2) W (keep_cell hW a0_8) (keep_cell hW a1_8)) ?_
    simp only [Act.put, List.setIfInBounds_toArray, List.set_cons_zero, List.set_cons_succ]
    repeat (first | ((with_reducible apply wq0); rfl; rfl; rfl; intro K hK; go_big_quiet_op; refine hK _ ?_; clear hK K) | ((with_reducible apply wq1); rfl; rfl; rfl; rfl; rfl; rfl; intro K hK; go_big_quiet_op; refine hK _ ?_; clear hK K) | ((with_reducible apply wqs); rfl; rfl; rfl; rfl; rfl; rfl; simp only [Act.put, List.setIfInBounds_toArray, List.set_cons_zero, List.set_cons_succ]) | ((with_reducible apply wqu); rfl; rfl; rfl; rfl; rfl; simp only [Act.put, List.setIfInBounds_toArray, List.set_cons_zero, List.set_cons_succ]))
    refine wqIdx_load rfl rfl rfl rfl (fun W hW => load_mo_at _ _ (max x1 y1) (max x2 y2) W (keep_cell hW j0_8) (keep_cell hW j1_8)) ?_
    simp only [Act.put, List.setIfInBounds_toArray, List.set_cons_zero, List.set_cons_succ]
    repeat (first | ((with_reducible apply wq0); rfl; rfl; rfl; intro K hK; go_big_quiet_op; refine hK _ ?_; clear hK K) | ((with_reducible apply wq1); rfl; rfl; rfl; rfl; rfl; rfl; intro K hK; go_big_quiet_op; refine hK _ ?_; clear hK K) | ((with_reducible apply wqs); rfl; rfl; rfl; rfl; rfl; rfl; simp only [Act.put, List.setIfInBounds_toArray, List.set_cons_zero, List.set_cons_succ]) | ((with_reducible apply wqu); rfl; rfl; rfl; rfl; rfl; simp only [Act.put, List.setIfInBounds_toArray, List.set_cons_zero, List.set_cons_succ]))
    refine wqIdx_nil ?_
    refine wpAnyR_sole (i := 42) rfl (by kernel_rfl) (fun K hK => ?_)
    go_simp
    refine (P7.out _).mono ?_; rintro e u9 ⟨rfl, b⟩
    refine hK _ _ b ?_
    clear hK K
    have X9 := Lib.hid (X8.out.below b)
    have H9 := Lib.hid (below_trans H8.out b)
    clear X8 H8 b
    obtain ⟨-, -, j0_9, j1_9⟩ := X9.out.at_ 0 rfl
    obtain ⟨-, -, m0_9, m1_9⟩ := X9.out.at_ 1 rfl
    obtain ⟨-, -, a0_9, a1_9⟩ := X9.out.at_ 2 rfl
    obtain ⟨-, -, b0_9, b1_9⟩ := X9.out.at_ 3 rfl
    refine batchB [43, 44, 45, 46] (fuel := 3) rfl (by kernel_rfl) (by kernel_rfl) (fun _ _ d _ _ h => by cases d <;> exact h) ?_
    repeat (first | ((with_reducible apply wq0); rfl; rfl; rfl; intro K hK; go_big_quiet_op; refine hK _ ?_; clear hK K) | ((with_reducible apply wq1); rfl; rfl; rfl; rfl; rfl; rfl; intro K hK; go_big_quiet_op; refine hK _ ?_; clear hK K) | ((with_reducible apply wqs); rfl; rfl; rfl; rfl; rfl; rfl; simp only [Act.put, List.setIfInBounds_toArray, List.set_cons_zero, List.set_cons_succ]) | ((with_reducible apply wqu); rfl; rfl; rfl; rfl; rfl; simp only [Act.put, List.setIfInBounds_toArray, List.set_cons_zero, List.set_cons_succ]))
    refine wqIdx_load rfl rfl rfl rfl (fun W hW => load_mo_at _ _ (min x1 y1) (min x2 y2) W (keep_cell hW m0_9) (keep_cell hW m1_9)) ?_
    simp only [Act.put, List.setIfInBounds_toArray, List.set_cons_zero, List.set_cons_succ]
    repeat (first | ((with_reducible apply wq0); rfl; rfl; rfl; intro K hK; go_big_quiet_op; refine hK _ ?_; clear hK K) | ((with_reducible apply wq1); rfl; rfl; rfl; rfl; rfl; rfl; intro K hK; go_big_quiet_op; refine hK _ ?_; clear hK K) | ((with_reducible apply wqs); rfl; rfl; rfl; rfl; rfl; rfl; simp only [Act.put, List.setIfInBounds_toArray, List.set_cons_zero, List.set_cons_succ]) | ((with_reducible apply wqu); rfl; rfl; rfl; rfl; rfl; simp only [Act.put, List.setIfInBounds_toArray, List.set_cons_zero, List.set_cons_succ]))
    refine wqIdx_load rfl rfl rfl rfl (fun W hW => load_mo_at _ _ (y1) (y2) W (keep_cell hW b0_9) (keep_cell hW b1_9)) ?_
    simp only [Act.put, List.setIfInBounds_toArray, List.set_cons_zero, List.set_cons_succ]
    repeat (first | ((with_reducible apply wq0); rfl; rfl; rfl; intro K hK; go_big_quiet_op; refine hK _ ?_; clear hK K) | ((with_reducible apply wq1); rfl; rfl; rfl; rfl; rfl; rfl; intro K hK; go_big_quiet_op; refine hK _ ?_; clear hK K) | ((with_reducible apply wqs); rfl; rfl; rfl; rfl; rfl; rfl; simp only [Act.put, List.setIfInBounds_toArray, List.set_cons_zero, List.set_cons_succ]) | ((with_reducible apply wqu); rfl; rfl; rfl; rfl; rfl; simp only [Act.put, List.setIfInBounds_toArray, List.set_cons_zero, List.set_cons_succ]))
    refine wqIdx_nil ?_
    refine wpAnyR_sole (i := 47) rfl (by kernel_rfl) (fun K hK => ?_)
    go_simp
    refine (P8.out _).mono ?_; rintro e u10 ⟨rfl, b⟩
    refine hK _ _ b ?_
    clear hK K
    have X10 := Lib.hid (X9.out.below b)
    have H10 := Lib.hid (below_trans H9.out b)
    clear X9 H9 b
    refine batchB [48, 49] (fuel := 0) rfl (by kernel_rfl) (by kernel_rfl) (fun _ _ d _ _ h => by cases d <;> exact h) ?_
    repeat (first | ((with_reducible apply wq0); rfl; rfl; rfl; intro K hK; go_big_quiet_op; refine hK _ ?_; clear hK K) | ((with_reducible apply wq1); rfl; rfl; rfl; rfl; rfl; rfl; intro K hK; go_big_quiet_op; refine hK _ ?_; clear hK K) | ((with_reducible apply wqs); rfl; rfl; rfl; rfl; rfl; rfl; simp only [Act.put, List.setIfInBounds_toArray, List.set_cons_zero, List.set_cons_succ]) | ((with_reducible apply wqu); rfl; rfl; rfl; rfl; rfl; simp only [Act.put, List.setIfInBounds_toArray, List.set_cons_zero, List.set_cons_succ]))
    refine wqIdx_nil ?_
    refine wpAnyR_done (by kernel_rfl) ?_ _
    go_wp2
    go_ret
    exact ⟨rfl, H10.out⟩
set_option maxRecDepth 100000 in
set_option maxHeartbeats 32000000 in
theorem orders_true (x1 x2 y1 y2 : Int) (w : World) (hok : okMo (x1, x2) = true) :
    Calls Try.prog 8 #[.agg #[.int .i64 x1, .int .i64 x2], .agg #[.int .i64 y1, .int .i64 y2]] w (LawPost w) := by
  have hB := Box2.new w x1 x2 y1 y2
  have Y := Lib.hid (show Cells _ [(w.heap.size, .int .i64 x1, .int .i64 x2), (w.heap.size + 1, .int .i64 y1, .int .i64 y2)] from fun p hp => by
    simp only [List.mem_cons, List.not_mem_nil, or_false] at hp
    rcases hp with rfl | rfl
    · exact ⟨Nat.lt_of_succ_lt hB.lt, hB.a0, hB.a1⟩
    · exact ⟨hB.lt, hB.b0, hB.b1⟩)
  have G := Lib.hid (below_trans (alloc_below w (.cells #[.int .i64 x1, .int .i64 x2] 58)) (alloc_below _ (.cells #[.int .i64 y1, .int .i64 y2] 58)))
  have P0 := Lib.hid (fun W => rcheck_any x1 x2 W)
  have PK := Lib.hid (fun W => check_any x1 x2 W)
  have hz : moE (x1, x2) = if true then 0 else 40 := by unfold moE; rw [hok]
  rw [hok] at P0
  rw [hz] at PK
  have PJ := Lib.hid (fun W => join_any x1 x2 y1 y2 W)
  have PM := Lib.hid (fun W => meet_any x1 x2 y1 y2 W)
  have P1 := Lib.hid (fun W => ahead_any x1 x2 y1 y2 W)
  have P2 := Lib.hid (fun W => rahead_any x1 x2 y1 y2 W)
  have P3 := Lib.hid (fun W => compare_any x1 x2 y1 y2 W)
  have P4 := Lib.hid (fun W => rcompare_any x1 x2 y1 y2 W)
  have P5 := Lib.hid (fun W => rjoin_any x1 x2 y1 y2 W)
  have P6 := Lib.hid (fun W => rmeet_any x1 x2 y1 y2 W)
  have P7 := Lib.hid (fun W => ahead_any x1 x2 (max x1 y1) (max x2 y2) W)
  have P8 := Lib.hid (fun W => ahead_any (min x1 y1) (min x2 y2) y1 y2 W)
  rw [ahead_join] at P7
  rw [meet_behind] at P8
  generalize aheadM (x1, x2) (y1, y2) = r at P1 P2
  generalize cmpM (x1, x2) (y1, y2) = z at P3 P4
  have hr : (r == r) = true := by simp
  clear hB hz hok
  go_enter Try.func8, Try.ntmps8
  go_wp2_with fail
  refine (P0.out _).mono ?_; rintro e w1 ⟨rfl, b1⟩
  have Y1 := Lib.hid (Y.out.below b1).drewO
  have G1 := Lib.hid (RB.of_drew' (below_trans G.out b1))
  have hlt1 := (Y1.out _ (List.mem_cons_of_mem _ (List.mem_cons_self ..))).1
  simp only at hlt1
  clear Y G b1
  simp only [Bool.false_eq_true, if_false, if_true] at PK
  go_wp2_with fail
  obtain ⟨s0, hs00⟩ : ∃ s, s = w1.heap.size := ⟨_, rfl⟩
  refine wp_region_R (R := RK (fun b => s0 ≤ b)) (n := 10) (by kernel_rfl) rfl ?_
  obtain ⟨v0, hv0⟩ : ∃ v, v = w1.drew := ⟨_, rfl⟩
  have hsz : s0 = v0.heap.size := by rw [hv0]; exact hs00
  rw [← hv0]
  have Y0 := Lib.hid (show Cells v0 _ by rw [hv0]; exact Y1.out)
  have G0 := Lib.hid (show Below w.heap.size w v0 by rw [hv0]; exact G1.out)
  have hlt : w.heap.size + 1 < v0.heap.size := by rw [hv0]; exact hlt1
  have hs0 : s0 ≤ v0.heap.size := by omega
  clear hv0 hs00 Y1 G1 hlt1
  obtain ⟨-, -, qa0, qa1⟩ := Y0.out.at_ 0 rfl
  obtain ⟨-, -, qb0, qb1⟩ := Y0.out.at_ 1 rfl
  refine batchK [0, 1, 3, 4] (fuel := 6) rfl (by kernel_rfl) (by kernel_rfl) (fun _ _ d _ _ h => by cases d <;> exact h) ?_
  repeat (first | ((with_reducible apply wq0); rfl; rfl; rfl; intro K hK; go_big_quiet_op; refine hK _ ?_; clear hK K) | ((with_reducible apply wq1); rfl; rfl; rfl; rfl; rfl; rfl; intro K hK; go_big_quiet_op; refine hK _ ?_; clear hK K) | ((with_reducible apply wqs); rfl; rfl; rfl; rfl; rfl; rfl; simp only [Act.put, List.setIfInBounds_toArray, List.set_cons_zero, List.set_cons_succ]) | ((with_reducible apply wqu); rfl; rfl; rfl; rfl; rfl; simp only [Act.put, List.setIfInBounds_toArray, List.set_cons_zero, List.set_cons_succ]))
  refine wqIdx_load rfl rfl rfl rfl (fun W' hW => load_mo_at _ _ x1 x2 W' (keep_cellK hW (by simp only; omega) qa0) (keep_cellK hW (by simp only; omega) qa1)) ?_
  simp only [Act.put, List.setIfInBounds_toArray, List.set_cons_zero, List.set_cons_succ]
  refine wqIdx_load rfl rfl rfl rfl (fun W' hW => load_mo_at _ _ y1 y2 W' (keep_cellK hW (by simp only; omega) qb0) (keep_cellK hW (by simp only; omega) qb1)) ?_
  simp only [Act.put, List.setIfInBounds_toArray, List.set_cons_zero, List.set_cons_succ]
  refine wqIdx_load rfl rfl rfl rfl (fun W' hW => load_mo_at _ _ x1 x2 W' (keep_cellK hW (by simp only; omega) qa0) (keep_cellK hW (by simp only; omega) qa1)) ?_
  simp only [Act.put, List.setIfInBounds_toArray, List.set_cons_zero, List.set_cons_succ]
  refine wqIdx_load rfl rfl rfl rfl (fun W' hW => load_mo_at _ _ y1 y2 W' (keep_cellK hW (by simp only; omega) qb0) (keep_cellK hW (by simp only; omega) qb1)) ?_
  simp only [Act.put, List.setIfInBounds_toArray, List.set_cons_zero, List.set_cons_succ]
  refine wqIdx_nil ?_
  clear qa0 qa1 qb0 qb1
  apply share (F := (fun (v4 : World) (gj gm : Nat) => Cells v4 [(w.heap.size, Value.int .i64 x1, Value.int .i64 x2), (w.heap.size + 1, Value.int .i64 y1, Value.int .i64 y2)] ∧ Below w.heap.size w v4 ∧ s0 ≤ gj ∧ s0 ≤ gm ∧ gm ≠ gj ∧ Blk v4 gj 58 #[.int .i64 0, .int .i64 0] ∧ Blk v4 gm 58 #[.int .i64 0, .int .i64 0]))
  case' main =>
    intro KEY
    refine wpAnyR_three (i := 2) (j := 6) (m := 7) (by kernel_rfl) ⟨_, rfl, fun K hK => ?cx⟩ ⟨_, rfl, fun K hK => ?cy⟩ ⟨_, rfl, fun K hK => ?cz⟩
    case' cx =>
      go_simp
      refine (PJ.out _).mono ?_; rintro e v1 ⟨rfl, b⟩
      refine hK _ _ (rk_below' b) ?_
      clear hK K
      have Y1 := Lib.hid (Y0.out.below b)
      have G1 := Lib.hid (below_trans G0.out b)
      have hs1 : s0 ≤ v1.heap.size := Nat.le_trans hs0 b.size
      clear b
      refine wpAnyR_three (i := 5) (j := 6) (m := 7) (by kernel_rfl) ⟨_, rfl, fun K hK => ?cxx⟩ ⟨_, rfl, fun K hK => ?cxy⟩ ⟨_, rfl, fun K hK => ?cxz⟩
      case' cxx =>
        go_simp
        refine (PM.out _).mono ?_; rintro e v2 ⟨rfl, b⟩
        refine hK _ _ (rk_below' b) ?_
        clear hK K
        have Y2 := Lib.hid (Y1.out.below b)
        have G2 := Lib.hid (below_trans G1.out b)
        have hs2 : s0 ≤ v2.heap.size := Nat.le_trans hs1 b.size
        clear b
        refine wpAnyR_two (i := 6) (j := 7) (by kernel_rfl) ⟨_, rfl, fun K hK => ?cxxx⟩ ⟨_, rfl, fun K hK => ?cxxy⟩
        case' cxxx =>
          go_simp
          refine hK _ _ (rk_below' (alloc_below _ _)) ?_
          clear hK K
          have b := alloc_below v2 (.cells #[.int .i64 0, .int .i64 0] 58)
          have kk := Blk.new v2 58 #[.int .i64 0, .int .i64 0]
          obtain ⟨v3, hv⟩ : ∃ v, v = v2.alloc (.cells #[.int .i64 0, .int .i64 0] 58) := ⟨_, rfl⟩
          rw [← hv] at b kk ⊢
          obtain ⟨gj, hgj⟩ : ∃ g, g = v2.heap.size := ⟨_, rfl⟩
          rw [← hgj] at kk ⊢
          have Y3 := Lib.hid (Y2.out.below b)
          have G3 := Lib.hid (below_trans G2.out b)
          have hs3 : s0 ≤ v3.heap.size := Nat.le_trans hs2 b.size
          have KJ := Lib.hid kk
          have HGJ := Lib.hid hgj
          clear b kk hv hgj
          refine wpAnyR_sole (i := 7) rfl (by kernel_rfl) (fun K hK => ?_)
          go_simp
          refine hK _ _ (rk_below' (alloc_below _ _)) ?_
          clear hK K
          have b := alloc_below v3 (.cells #[.int .i64 0, .int .i64 0] 58)
          have kk := Blk.new v3 58 #[.int .i64 0, .int .i64 0]
          obtain ⟨v4, hv⟩ : ∃ v, v = v3.alloc (.cells #[.int .i64 0, .int .i64 0] 58) := ⟨_, rfl⟩
          rw [← hv] at b kk ⊢
          obtain ⟨gm, hgm⟩ : ∃ g, g = v3.heap.size := ⟨_, rfl⟩
          rw [← hgm] at kk ⊢
          have Y4 := Lib.hid (Y3.out.below b)
          have G4 := Lib.hid (below_trans G3.out b)
          have hs4 : s0 ≤ v4.heap.size := Nat.le_trans hs3 b.size
          have HNE := Lib.hid (show gm ≠ gj by have := KJ.out.lt; omega)
          have KJ := Lib.hid (KJ.out.below b KJ.out.lt)
          have KM := Lib.hid kk
          have HGM := Lib.hid hgm
          clear b kk hv hgm
          try (simp only [Act.put, List.setIfInBounds_toArray, List.set_cons_zero, List.set_cons_succ])
          refine wpAnyR_cast (L := #[true, true, true, true, true, true, true, true, false, false]) (by kernel_rfl) ?_
          exact KEY v4 gj gm ⟨Y4.out, G4.out, (by have := HGJ.out; omega), (by have := HGM.out; omega), HNE.out, KJ.out, KM.out⟩
        case' cxxy =>
          go_simp
          refine hK _ _ (rk_below' (alloc_below _ _)) ?_
          clear hK K
          have b := alloc_below v2 (.cells #[.int .i64 0, .int .i64 0] 58)
          have kk := Blk.new v2 58 #[.int .i64 0, .int .i64 0]
          obtain ⟨v3, hv⟩ : ∃ v, v = v2.alloc (.cells #[.int .i64 0, .int .i64 0] 58) := ⟨_, rfl⟩
          rw [← hv] at b kk ⊢
          obtain ⟨gm, hgm⟩ : ∃ g, g = v2.heap.size := ⟨_, rfl⟩
          rw [← hgm] at kk ⊢
          have Y3 := Lib.hid (Y2.out.below b)
          have G3 := Lib.hid (below_trans G2.out b)
          have hs3 : s0 ≤ v3.heap.size := Nat.le_trans hs2 b.size
          have KM := Lib.hid kk
          have HGM := Lib.hid hgm
          clear b kk hv hgm
          refine wpAnyR_sole (i := 6) rfl (by kernel_rfl) (fun K hK => ?_)
          go_simp
          refine hK _ _ (rk_below' (alloc_below _ _)) ?_
          clear hK K
          have b := alloc_below v3 (.cells #[.int .i64 0, .int .i64 0] 58)
          have kk := Blk.new v3 58 #[.int .i64 0, .int .i64 0]
          obtain ⟨v4, hv⟩ : ∃ v, v = v3.alloc (.cells #[.int .i64 0, .int .i64 0] 58) := ⟨_, rfl⟩
          rw [← hv] at b kk ⊢
          obtain ⟨gj, hgj⟩ : ∃ g, g = v3.heap.size := ⟨_, rfl⟩
          rw [← hgj] at kk ⊢
          have Y4 := Lib.hid (Y3.out.below b)
          have G4 := Lib.hid (below_trans G3.out b)
          have hs4 : s0 ≤ v4.heap.size := Nat.le_trans hs3 b.size
          have HNE := Lib.hid (show gm ≠ gj by have := KM.out.lt; omega)
          have KM := Lib.hid (KM.out.below b KM.out.lt)
          have KJ := Lib.hid kk
          have HGJ := Lib.hid hgj
          clear b kk hv hgj
          try (simp only [Act.put, List.setIfInBounds_toArray, List.set_cons_zero, List.set_cons_succ])
          refine wpAnyR_cast (L := #[true, true, true, true, true, true, true, true, false, false]) (by kernel_rfl) ?_
          exact KEY v4 gj gm ⟨Y4.out, G4.out, (by have := HGJ.out; omega), (by have := HGM.out; omega), HNE.out, KJ.out, KM.out⟩
      case' cxy =>
        go_simp
        refine hK _ _ (rk_below' (alloc_below _ _)) ?_
        clear hK K
        have b := alloc_below v1 (.cells #[.int .i64 0, .int .i64 0] 58)
        have kk := Blk.new v1 58 #[.int .i64 0, .int .i64 0]
        obtain ⟨v2, hv⟩ : ∃ v, v = v1.alloc (.cells #[.int .i64 0, .int .i64 0] 58) := ⟨_, rfl⟩
        rw [← hv] at b kk ⊢
        obtain ⟨gj, hgj⟩ : ∃ g, g = v1.heap.size := ⟨_, rfl⟩
        rw [← hgj] at kk ⊢
        have Y2 := Lib.hid (Y1.out.below b)
        have G2 := Lib.hid (below_trans G1.out b)
        have hs2 : s0 ≤ v2.heap.size := Nat.le_trans hs1 b.size
        have KJ := Lib.hid kk
        have HGJ := Lib.hid hgj
        clear b kk hv hgj
        refine wpAnyR_two (i := 5) (j := 7) (by kernel_rfl) ⟨_, rfl, fun K hK => ?cxyx⟩ ⟨_, rfl, fun K hK => ?cxyy⟩
        case' cxyx =>
          go_simp
          refine (PM.out _).mono ?_; rintro e v3 ⟨rfl, b⟩
          refine hK _ _ (rk_below' b) ?_
          clear hK K
          have Y3 := Lib.hid (Y2.out.below b)
          have G3 := Lib.hid (below_trans G2.out b)
          have hs3 : s0 ≤ v3.heap.size := Nat.le_trans hs2 b.size
          have KJ := Lib.hid (KJ.out.below b KJ.out.lt)
          clear b
          refine wpAnyR_sole (i := 7) rfl (by kernel_rfl) (fun K hK => ?_)
          go_simp
          refine hK _ _ (rk_below' (alloc_below _ _)) ?_
          clear hK K
          have b := alloc_below v3 (.cells #[.int .i64 0, .int .i64 0] 58)
          have kk := Blk.new v3 58 #[.int .i64 0, .int .i64 0]
          obtain ⟨v4, hv⟩ : ∃ v, v = v3.alloc (.cells #[.int .i64 0, .int .i64 0] 58) := ⟨_, rfl⟩
          rw [← hv] at b kk ⊢
          obtain ⟨gm, hgm⟩ : ∃ g, g = v3.heap.size := ⟨_, rfl⟩
          rw [← hgm] at kk ⊢
          have Y4 := Lib.hid (Y3.out.below b)
          have G4 := Lib.hid (below_trans G3.out b)
          have hs4 : s0 ≤ v4.heap.size := Nat.le_trans hs3 b.size
          have HNE := Lib.hid (show gm ≠ gj by have := KJ.out.lt; omega)
          have KJ := Lib.hid (KJ.out.below b KJ.out.lt)
          have KM := Lib.hid kk
          have HGM := Lib.hid hgm
          clear b kk hv hgm
          try (simp only [Act.put, List.setIfInBounds_toArray, List.set_cons_zero, List.set_cons_succ])
          refine wpAnyR_cast (L := #[true, true, true, true, true, true, true, true, false, false]) (by kernel_rfl) ?_
          exact KEY v4 gj gm ⟨Y4.out, G4.out, (by have := HGJ.out; omega), (by have := HGM.out; omega), HNE.out, KJ.out, KM.out⟩
        case' cxyy =>
          go_simp
          refine hK _ _ (rk_below' (alloc_below _ _)) ?_
          clear hK K
          have b := alloc_below v2 (.cells #[.int .i64 0, .int .i64 0] 58)
          have kk := Blk.new v2 58 #[.int .i64 0, .int .i64 0]
          obtain ⟨v3, hv⟩ : ∃ v, v = v2.alloc (.cells #[.int .i64 0, .int .i64 0] 58) := ⟨_, rfl⟩
          rw [← hv] at b kk ⊢
          obtain ⟨gm, hgm⟩ : ∃ g, g = v2.heap.size := ⟨_, rfl⟩
          rw [← hgm] at kk ⊢
          have Y3 := Lib.hid (Y2.out.below b)
          have G3 := Lib.hid (below_trans G2.out b)
          have hs3 : s0 ≤ v3.heap.size := Nat.le_trans hs2 b.size
          have HNE := Lib.hid (show gm ≠ gj by have := KJ.out.lt; omega)
          have KJ := Lib.hid (KJ.out.below b KJ.out.lt)
          have KM := Lib.hid kk
          have HGM := Lib.hid hgm
          clear b kk hv hgm
          refine wpAnyR_sole (i := 5) rfl (by kernel_rfl) (fun K hK => ?_)
          go_simp
          refine (PM.out _).mono ?_; rintro e v4 ⟨rfl, b⟩
          refine hK _ _ (rk_below' b) ?_
          clear hK K
          have Y4 := Lib.hid (Y3.out.below b)
          have G4 := Lib.hid (below_trans G3.out b)
          have hs4 : s0 ≤ v4.heap.size := Nat.le_trans hs3 b.size
          have KJ := Lib.hid (KJ.out.below b KJ.out.lt)
          have KM := Lib.hid (KM.out.below b KM.out.lt)
          clear b
          try (simp only [Act.put, List.setIfInBounds_toArray, List.set_cons_zero, List.set_cons_succ])
          refine wpAnyR_cast (L := #[true, true, true, true, true, true, true, true, false, false]) (by kernel_rfl) ?_
          exact KEY v4 gj gm ⟨Y4.out, G4.out, (by have := HGJ.out; omega), (by have := HGM.out; omega), HNE.out, KJ.out, KM.out⟩
      case' cxz =>
        go_simp
        refine hK _ _ (rk_below' (alloc_below _ _)) ?_
        clear hK K
        have b := alloc_below v1 (.cells #[.int .i64 0, .int .i64 0] 58)
        have kk := Blk.new v1 58 #[.int .i64 0, .int .i64 0]
        obtain ⟨v2, hv⟩ : ∃ v, v = v1.alloc (.cells #[.int .i64 0, .int .i64 0] 58) := ⟨_, rfl⟩
        rw [← hv] at b kk ⊢
        obtain ⟨gm, hgm⟩ : ∃ g, g = v1.heap.size := ⟨_, rfl⟩
        rw [← hgm] at kk ⊢
        have Y2 := Lib.hid (Y1.out.below b)
        have G2 := Lib.hid (below_trans G1.out b)
        have hs2 : s0 ≤ v2.heap.size := Nat.le_trans hs1 b.size
        have KM := Lib.hid kk
        have HGM := Lib.hid hgm
        clear b kk hv hgm
        refine wpAnyR_two (i := 5) (j := 6) (by kernel_rfl) ⟨_, rfl, fun K hK => ?cxzx⟩ ⟨_, rfl, fun K hK => ?cxzy⟩
        case' cxzx =>
          go_simp
          refine (PM.out _).mono ?_; rintro e v3 ⟨rfl, b⟩
          refine hK _ _ (rk_below' b) ?_
          clear hK K
          have Y3 := Lib.hid (Y2.out.below b)
          have G3 := Lib.hid (below_trans G2.out b)
          have hs3 : s0 ≤ v3.heap.size := Nat.le_trans hs2 b.size
          have KM := Lib.hid (KM.out.below b KM.out.lt)
          clear b
          refine wpAnyR_sole (i := 6) rfl (by kernel_rfl) (fun K hK => ?_)
          go_simp
          refine hK _ _ (rk_below' (alloc_below _ _)) ?_
          clear hK K
          have b := alloc_below v3 (.cells #[.int .i64 0, .int .i64 0] 58)
          have kk := Blk.new v3 58 #[.int .i64 0, .int .i64 0]
          obtain ⟨v4, hv⟩ : ∃ v, v = v3.alloc (.cells #[.int .i64 0, .int .i64 0] 58) := ⟨_, rfl⟩
          rw [← hv] at b kk ⊢
          obtain ⟨gj, hgj⟩ : ∃ g, g = v3.heap.size := ⟨_, rfl⟩
          rw [← hgj] at kk ⊢
          have Y4 := Lib.hid (Y3.out.below b)
          have G4 := Lib.hid (below_trans G3.out b)
          have hs4 : s0 ≤ v4.heap.size := Nat.le_trans hs3 b.size
          have HNE := Lib.hid (show gm ≠ gj by have := KM.out.lt; omega)
          have KM := Lib.hid (KM.out.below b KM.out.lt)
          have KJ := Lib.hid kk
          have HGJ := Lib.hid hgj
          clear b kk hv hgj
          try (simp only [Act.put, List.setIfInBounds_toArray, List.set_cons_zero, List.set_cons_succ])
          refine wpAnyR_cast (L := #[true, true, true, true, true, true, true, true, false, false]) (by kernel_rfl) ?_
          exact KEY v4 gj gm ⟨Y4.out, G4.out, (by have := HGJ.out; omega), (by have := HGM.out; omega), HNE.out, KJ.out, KM.out⟩
        case' cxzy =>
          go_simp
          refine hK _ _ (rk_below' (alloc_below _ _)) ?_
          clear hK K
          have b := alloc_below v2 (.cells #[.int .i64 0, .int .i64 0] 58)
          have kk := Blk.new v2 58 #[.int .i64 0, .int .i64 0]
          obtain ⟨v3, hv⟩ : ∃ v, v = v2.alloc (.cells #[.int .i64 0, .int .i64 0] 58) := ⟨_, rfl⟩
          rw [← hv] at b kk ⊢
          obtain ⟨gj, hgj⟩ : ∃ g, g = v2.heap.size := ⟨_, rfl⟩
          rw [← hgj] at kk ⊢
          have Y3 := Lib.hid (Y2.out.below b)
          have G3 := Lib.hid (below_trans G2.out b)
          have hs3 : s0 ≤ v3.heap.size := Nat.le_trans hs2 b.size
          have HNE := Lib.hid (show gm ≠ gj by have := KM.out.lt; omega)
          have KM := Lib.hid (KM.out.below b KM.out.lt)
          have KJ := Lib.hid kk
          have HGJ := Lib.hid hgj
          clear b kk hv hgj
          refine wpAnyR_sole (i := 5) rfl (by kernel_rfl) (fun K hK => ?_)
          go_simp
          refine (PM.out _).mono ?_; rintro e v4 ⟨rfl, b⟩
          refine hK _ _ (rk_below' b) ?_
          clear hK K
          have Y4 := Lib.hid (Y3.out.below b)
          have G4 := Lib.hid (below_trans G3.out b)
          have hs4 : s0 ≤ v4.heap.size := Nat.le_trans hs3 b.size
          have KJ := Lib.hid (KJ.out.below b KJ.out.lt)
          have KM := Lib.hid (KM.out.below b KM.out.lt)
          clear b
          try (simp only [Act.put, List.setIfInBounds_toArray, List.set_cons_zero, List.set_cons_succ])
          refine wpAnyR_cast (L := #[true, true, true, true, true, true, true, true, false, false]) (by kernel_rfl) ?_
          exact KEY v4 gj gm ⟨Y4.out, G4.out, (by have := HGJ.out; omega), (by have := HGM.out; omega), HNE.out, KJ.out, KM.out⟩
    case' cy =>
      go_simp
      refine hK _ _ (rk_below' (alloc_below _ _)) ?_
      clear hK K
      have b := alloc_below v0 (.cells #[.int .i64 0, .int .i64 0] 58)
      have kk := Blk.new v0 58 #[.int .i64 0, .int .i64 0]
      obtain ⟨v1, hv⟩ : ∃ v, v = v0.alloc (.cells #[.int .i64 0, .int .i64 0] 58) := ⟨_, rfl⟩
      rw [← hv] at b kk ⊢
      obtain ⟨gj, hgj⟩ : ∃ g, g = v0.heap.size := ⟨_, rfl⟩
      rw [← hgj] at kk ⊢
      have Y1 := Lib.hid (Y0.out.below b)
      have G1 := Lib.hid (below_trans G0.out b)
      have hs1 : s0 ≤ v1.heap.size := Nat.le_trans hs0 b.size
      have KJ := Lib.hid kk
      have HGJ := Lib.hid hgj
      clear b kk hv hgj
      refine wpAnyR_two (i := 2) (j := 7) (by kernel_rfl) ⟨_, rfl, fun K hK => ?cyx⟩ ⟨_, rfl, fun K hK => ?cyy⟩
      case' cyx =>
        go_simp
        refine (PJ.out _).mono ?_; rintro e v2 ⟨rfl, b⟩
        refine hK _ _ (rk_below' b) ?_
        clear hK K
        have Y2 := Lib.hid (Y1.out.below b)
        have G2 := Lib.hid (below_trans G1.out b)
        have hs2 : s0 ≤ v2.heap.size := Nat.le_trans hs1 b.size
        have KJ := Lib.hid (KJ.out.below b KJ.out.lt)
        clear b
        refine wpAnyR_two (i := 5) (j := 7) (by kernel_rfl) ⟨_, rfl, fun K hK => ?cyxx⟩ ⟨_, rfl, fun K hK => ?cyxy⟩
        case' cyxx =>
          go_simp
          refine (PM.out _).mono ?_; rintro e v3 ⟨rfl, b⟩
          refine hK _ _ (rk_below' b) ?_
          clear hK K
          have Y3 := Lib.hid (Y2.out.below b)
          have G3 := Lib.hid (below_trans G2.out b)
          have hs3 : s0 ≤ v3.heap.size := Nat.le_trans hs2 b.size
          have KJ := Lib.hid (KJ.out.below b KJ.out.lt)
          clear b
          refine wpAnyR_sole (i := 7) rfl (by kernel_rfl) (fun K hK => ?_)
          go_simp
          refine hK _ _ (rk_below' (alloc_below _ _)) ?_
          clear hK K
          have b := alloc_below v3 (.cells #[.int .i64 0, .int .i64 0] 58)
          have kk := Blk.new v3 58 #[.int .i64 0, .int .i64 0]
          obtain ⟨v4, hv⟩ : ∃ v, v = v3.alloc (.cells #[.int .i64 0, .int .i64 0] 58) := ⟨_, rfl⟩
          rw [← hv] at b kk ⊢
          obtain ⟨gm, hgm⟩ : ∃ g, g = v3.heap.size := ⟨_, rfl⟩
          rw [← hgm] at kk ⊢
          have Y4 := Lib.hid (Y3.out.below b)
          have G4 := Lib.hid (below_trans G3.out b)
          have hs4 : s0 ≤ v4.heap.size := Nat.le_trans hs3 b.size
          have HNE := Lib.hid (show gm ≠ gj by have := KJ.out.lt; omega)
          have KJ := Lib.hid (KJ.out.below b KJ.out.lt)
          have KM := Lib.hid kk
          have HGM := Lib.hid hgm
          clear b kk hv hgm
          try (simp only [Act.put, List.setIfInBounds_toArray, List.set_cons_zero, List.set_cons_succ])
          refine wpAnyR_cast (L := #[true, true, true, true, true, true, true, true, false, false]) (by kernel_rfl) ?_
          exact KEY v4 gj gm ⟨Y4.out, G4.out, (by have := HGJ.out; omega), (by have := HGM.out; omega), HNE.out, KJ.out, KM.out⟩
        case' cyxy =>
          go_simp
          refine hK _ _ (rk_below' (alloc_below _ _)) ?_
          clear hK K
          have b := alloc_below v2 (.cells #[.int .i64 0, .int .i64 0] 58)
          have kk := Blk.new v2 58 #[.int .i64 0, .int .i64 0]
          obtain ⟨v3, hv⟩ : ∃ v, v = v2.alloc (.cells #[.int .i64 0, .int .i64 0] 58) := ⟨_, rfl⟩
          rw [← hv] at b kk ⊢
          obtain ⟨gm, hgm⟩ : ∃ g, g = v2.heap.size := ⟨_, rfl⟩
          rw [← hgm] at kk ⊢
          have Y3 := Lib.hid (Y2.out.below b)
          have G3 := Lib.hid (below_trans G2.out b)
          have hs3 : s0 ≤ v3.heap.size := Nat.le_trans hs2 b.size
          have HNE := Lib.hid (show gm ≠ gj by have := KJ.out.lt; omega)
          have KJ := Lib.hid (KJ.out.below b KJ.out.lt)
          have KM := Lib.hid kk
          have HGM := Lib.hid hgm
          clear b kk hv hgm
          refine wpAnyR_sole (i := 5) rfl (by kernel_rfl) (fun K hK => ?_)
          go_simp
          refine (PM.out _).mono ?_; rintro e v4 ⟨rfl, b⟩
          refine hK _ _ (rk_below' b) ?_
          clear hK K
          have Y4 := Lib.hid (Y3.out.below b)
          have G4 := Lib.hid (below_trans G3.out b)
          have hs4 : s0 ≤ v4.heap.size := Nat.le_trans hs3 b.size
          have KJ := Lib.hid (KJ.out.below b KJ.out.lt)
          have KM := Lib.hid (KM.out.below b KM.out.lt)
          clear b
          try (simp only [Act.put, List.setIfInBounds_toArray, List.set_cons_zero, List.set_cons_succ])
          refine wpAnyR_cast (L := #[true, true, true, true, true, true, true, true, false, false]) (by kernel_rfl) ?_
          exact KEY v4 gj gm ⟨Y4.out, G4.out, (by have := HGJ.out; omega), (by have := HGM.out; omega), HNE.out, KJ.out, KM.out⟩
      case' cyy =>
        go_simp
        refine hK _ _ (rk_below' (alloc_below _ _)) ?_
        clear hK K
        have b := alloc_below v1 (.cells #[.int .i64 0, .int .i64 0] 58)
        have kk := Blk.new v1 58 #[.int .i64 0, .int .i64 0]
        obtain ⟨v2, hv⟩ : ∃ v, v = v1.alloc (.cells #[.int .i64 0, .int .i64 0] 58) := ⟨_, rfl⟩
        rw [← hv] at b kk ⊢
        obtain ⟨gm, hgm⟩ : ∃ g, g = v1.heap.size := ⟨_, rfl⟩
        rw [← hgm] at kk ⊢
        have Y2 := Lib.hid (Y1.out.below b)
        have G2 := Lib.hid (below_trans G1.out b)
        have hs2 : s0 ≤ v2.heap.size := Nat.le_trans hs1 b.size
        have HNE := Lib.hid (show gm ≠ gj by have := KJ.out.lt; omega)
        have KJ := Lib.hid (KJ.out.below b KJ.out.lt)
        have KM := Lib.hid kk
        have HGM := Lib.hid hgm
        clear b kk hv hgm
        refine wpAnyR_sole (i := 2) rfl (by kernel_rfl) (fun K hK => ?_)
        go_simp
        refine (PJ.out _).mono ?_; rintro e v3 ⟨rfl, b⟩
        refine hK _ _ (rk_below' b) ?_
        clear hK K
        have Y3 := Lib.hid (Y2.out.below b)
        have G3 := Lib.hid (below_trans G2.out b)
        have hs3 : s0 ≤ v3.heap.size := Nat.le_trans hs2 b.size
        have KJ := Lib.hid (KJ.out.below b KJ.out.lt)
        have KM := Lib.hid (KM.out.below b KM.out.lt)
        clear b
        refine wpAnyR_sole (i := 5) rfl (by kernel_rfl) (fun K hK => ?_)
        go_simp
        refine (PM.out _).mono ?_; rintro e v4 ⟨rfl, b⟩
        refine hK _ _ (rk_below' b) ?_
        clear hK K
        have Y4 := Lib.hid (Y3.out.below b)
        have G4 := Lib.hid (below_trans G3.out b)
        have hs4 : s0 ≤ v4.heap.size := Nat.le_trans hs3 b.size
        have KJ := Lib.hid (KJ.out.below b KJ.out.lt)
        have KM := Lib.hid (KM.out.below b KM.out.lt)
        clear b
        try (simp only [Act.put, List.setIfInBounds_toArray, List.set_cons_zero, List.set_cons_succ])
        refine wpAnyR_cast (L := #[true, true, true, true, true, true, true, true, false, false]) (by kernel_rfl) ?_
        exact KEY v4 gj gm ⟨Y4.out, G4.out, (by have := HGJ.out; omega), (by have := HGM.out; omega), HNE.out, KJ.out, KM.out⟩
    case' cz =>
      go_simp
      refine hK _ _ (rk_below' (alloc_below _ _)) ?_
      clear hK K
      have b := alloc_below v0 (.cells #[.int .i64 0, .int .i64 0] 58)
      have kk := Blk.new v0 58 #[.int .i64 0, .int .i64 0]
      obtain ⟨v1, hv⟩ : ∃ v, v = v0.alloc (.cells #[.int .i64 0, .int .i64 0] 58) := ⟨_, rfl⟩
      rw [← hv] at b kk ⊢
      obtain ⟨gm, hgm⟩ : ∃ g, g = v0.heap.size := ⟨_, rfl⟩
      rw [← hgm] at kk ⊢
      have Y1 := Lib.hid (Y0.out.below b)
      have G1 := Lib.hid (below_trans G0.out b)
      have hs1 : s0 ≤ v1.heap.size := Nat.le_trans hs0 b.size
      have KM := Lib.hid kk
      have HGM := Lib.hid hgm
      clear b kk hv hgm
      refine wpAnyR_two (i := 2) (j := 6) (by kernel_rfl) ⟨_, rfl, fun K hK => ?czx⟩ ⟨_, rfl, fun K hK => ?czy⟩
      case' czx =>
        go_simp
        refine (PJ.out _).mono ?_; rintro e v2 ⟨rfl, b⟩
        refine hK _ _ (rk_below' b) ?_
        clear hK K
        have Y2 := Lib.hid (Y1.out.below b)
        have G2 := Lib.hid (below_trans G1.out b)
        have hs2 : s0 ≤ v2.heap.size := Nat.le_trans hs1 b.size
        have KM := Lib.hid (KM.out.below b KM.out.lt)
        clear b
        refine wpAnyR_two (i := 5) (j := 6) (by kernel_rfl) ⟨_, rfl, fun K hK => ?czxx⟩ ⟨_, rfl, fun K hK => ?czxy⟩
        case' czxx =>
          go_simp
          refine (PM.out _).mono ?_; rintro e v3 ⟨rfl, b⟩
          refine hK _ _ (rk_below' b) ?_
          clear hK K
          have Y3 := Lib.hid (Y2.out.below b)
          have G3 := Lib.hid (below_trans G2.out b)
          have hs3 : s0 ≤ v3.heap.size := Nat.le_trans hs2 b.size
          have KM := Lib.hid (KM.out.below b KM.out.lt)
          clear b
          refine wpAnyR_sole (i := 6) rfl (by kernel_rfl) (fun K hK => ?_)
          go_simp
          refine hK _ _ (rk_below' (alloc_below _ _)) ?_
          clear hK K
          have b := alloc_below v3 (.cells #[.int .i64 0, .int .i64 0] 58)
          have kk := Blk.new v3 58 #[.int .i64 0, .int .i64 0]
          obtain ⟨v4, hv⟩ : ∃ v, v = v3.alloc (.cells #[.int .i64 0, .int .i64 0] 58) := ⟨_, rfl⟩
          rw [← hv] at b kk ⊢
          obtain ⟨gj, hgj⟩ : ∃ g, g = v3.heap.size := ⟨_, rfl⟩
          rw [← hgj] at kk ⊢
          have Y4 := Lib.hid (Y3.out.below b)
          have G4 := Lib.hid (below_trans G3.out b)
          have hs4 : s0 ≤ v4.heap.size := Nat.le_trans hs3 b.size
          have HNE := Lib.hid (show gm ≠ gj by have := KM.out.lt; omega)
          have KM := Lib.hid (KM.out.below b KM.out.lt)
          have KJ := Lib.hid kk
          have HGJ := Lib.hid hgj
          clear b kk hv hgj
          try (simp only [Act.put, List.setIfInBounds_toArray, List.set_cons_zero, List.set_cons_succ])
          refine wpAnyR_cast (L := #[true, true, true, true, true, true, true, true, false, false]) (by kernel_rfl) ?_
          exact KEY v4 gj gm ⟨Y4.out, G4.out, (by have := HGJ.out; omega), (by have := HGM.out; omega), HNE.out, KJ.out, KM.out⟩
        case' czxy =>
          go_simp
          refine hK _ _ (rk_below' (alloc_below _ _)) ?_
          clear hK K
          have b := alloc_below v2 (.cells #[.int .i64 0, .int .i64 0] 58)
          have kk := Blk.new v2 58 #[.int .i64 0, .int .i64 0]
          obtain ⟨v3, hv⟩ : ∃ v, v = v2.alloc (.cells #[.int .i64 0, .int .i64 0] 58) := ⟨_, rfl⟩
          rw [← hv] at b kk ⊢
          obtain ⟨gj, hgj⟩ : ∃ g, g = v2.heap.size := ⟨_, rfl⟩
          rw [← hgj] at kk ⊢
          have Y3 := Lib.hid (Y2.out.below b)
          have G3 := Lib.hid (below_trans G2.out b)
          have hs3 : s0 ≤ v3.heap.size := Nat.le_trans hs2 b.size
          have HNE := Lib.hid (show gm ≠ gj by have := KM.out.lt; omega)
          have KM := Lib.hid (KM.out.below b KM.out.lt)
          have KJ := Lib.hid kk
          have HGJ := Lib.hid hgj
          clear b kk hv hgj
          refine wpAnyR_sole (i := 5) rfl (by kernel_rfl) (fun K hK => ?_)
          go_simp
          refine (PM.out _).mono ?_; rintro e v4 ⟨rfl, b⟩
          refine hK _ _ (rk_below' b) ?_
          clear hK K
          have Y4 := Lib.hid (Y3.out.below b)
          have G4 := Lib.hid (below_trans G3.out b)
          have hs4 : s0 ≤ v4.heap.size := Nat.le_trans hs3 b.size
          have KJ := Lib.hid (KJ.out.below b KJ.out.lt)
          have KM := Lib.hid (KM.out.below b KM.out.lt)
          clear b
          try (simp only [Act.put, List.setIfInBounds_toArray, List.set_cons_zero, List.set_cons_succ])
          refine wpAnyR_cast (L := #[true, true, true, true, true, true, true, true, false, false]) (by kernel_rfl) ?_
          exact KEY v4 gj gm ⟨Y4.out, G4.out, (by have := HGJ.out; omega), (by have := HGM.out; omega), HNE.out, KJ.out, KM.out⟩
      case' czy =>
        go_simp
        refine hK _ _ (rk_below' (alloc_below _ _)) ?_
        clear hK K
        have b := alloc_below v1 (.cells #[.int .i64 0, .int .i64 0] 58)
        have kk := Blk.new v1 58 #[.int .i64 0, .int .i64 0]
        obtain ⟨v2, hv⟩ : ∃ v, v = v1.alloc (.cells #[.int .i64 0, .int .i64 0] 58) := ⟨_, rfl⟩
        rw [← hv] at b kk ⊢
        obtain ⟨gj, hgj⟩ : ∃ g, g = v1.heap.size := ⟨_, rfl⟩
        rw [← hgj] at kk ⊢
        have Y2 := Lib.hid (Y1.out.below b)
        have G2 := Lib.hid (below_trans G1.out b)
        have hs2 : s0 ≤ v2.heap.size := Nat.le_trans hs1 b.size
        have HNE := Lib.hid (show gm ≠ gj by have := KM.out.lt; omega)
        have KM := Lib.hid (KM.out.below b KM.out.lt)
        have KJ := Lib.hid kk
        have HGJ := Lib.hid hgj
        clear b kk hv hgj
        refine wpAnyR_sole (i := 2) rfl (by kernel_rfl) (fun K hK => ?_)
        go_simp
        refine (PJ.out _).mono ?_; rintro e v3 ⟨rfl, b⟩
        refine hK _ _ (rk_below' b) ?_
        clear hK K
        have Y3 := Lib.hid (Y2.out.below b)
        have G3 := Lib.hid (below_trans G2.out b)
        have hs3 : s0 ≤ v3.heap.size := Nat.le_trans hs2 b.size
        have KJ := Lib.hid (KJ.out.below b KJ.out.lt)
        have KM := Lib.hid (KM.out.below b KM.out.lt)
        clear b
        refine wpAnyR_sole (i := 5) rfl (by kernel_rfl) (fun K hK => ?_)
        go_simp
        refine (PM.out _).mono ?_; rintro e v4 ⟨rfl, b⟩
        refine hK _ _ (rk_below' b) ?_
        clear hK K
        have Y4 := Lib.hid (Y3.out.below b)
        have G4 := Lib.hid (below_trans G3.out b)
        have hs4 : s0 ≤ v4.heap.size := Nat.le_trans hs3 b.size
        have KJ := Lib.hid (KJ.out.below b KJ.out.lt)
        have KM := Lib.hid (KM.out.below b KM.out.lt)
        clear b
        try (simp only [Act.put, List.setIfInBounds_toArray, List.set_cons_zero, List.set_cons_succ])
        refine wpAnyR_cast (L := #[true, true, true, true, true, true, true, true, false, false]) (by kernel_rfl) ?_
        exact KEY v4 gj gm ⟨Y4.out, G4.out, (by have := HGJ.out; omega), (by have := HGM.out; omega), HNE.out, KJ.out, KM.out⟩
  case key =>
    rintro v4 gj gm ⟨hy, hg, hgj', hgm', hgne, hkj, hkm⟩
    have Y4 := Lib.hid hy
    have G4 := Lib.hid hg
    have KJ := Lib.hid hkj
    have KM := Lib.hid hkm
    clear hy hg hkj hkm
    have hold : ∀ q : Nat × Value × Value, q ∈ [(w.heap.size, Value.int .i64 x1, Value.int .i64 x2), (w.heap.size + 1, Value.int .i64 y1, Value.int .i64 y2)] → q.1 ≠ gj ∧ q.1 ≠ gm := fun q hq => by
      simp only [List.mem_cons, List.not_mem_nil, or_false] at hq
      rcases hq with rfl | rfl <;> simp only <;> omega
    have HOLD := Lib.hid hold
    have hwj : w.heap.size ≤ gj := by omega
    have hwm : w.heap.size ≤ gm := by omega
    clear hold
    have c0 := KJ.out.cell 0
    have c1 := KJ.out.cell 1
    simp at c0 c1
    have f0 := KJ.out.frozen 0
    have f1 := KJ.out.frozen 1
    refine wpAnyR_sole (i := 8) rfl (by kernel_rfl) (fun K hK => ?_)
    go_simp
    refine hK _ _ (RK.trans _ _ _ _ (rk_set (p := ⟨gj, 0, none⟩) _ hgj' _) (rk_set (p := ⟨gj, 1, none⟩) _ hgj' _)) ?_
    clear hK K c0 c1 f0 f1
    have KM8 := Lib.hid ((KM.out.far (p := ⟨gj, 0, none⟩) hgne (.int .i64 (max x1 y1))).far (p := ⟨gj, 1, none⟩) hgne (.int .i64 (max x2 y2)))
    have KJ8 := Lib.hid ((KJ.out.set_ 0 (.int .i64 (max x1 y1))).set_ 1 (.int .i64 (max x2 y2)))
    have Y8 := Lib.hid ((Y4.out.setC (p := ⟨gj, 0, none⟩) (.int .i64 (max x1 y1)) (fun q hq => HOLD.out q hq |>.1)).setC (p := ⟨gj, 1, none⟩) (.int .i64 (max x2 y2)) (fun q hq => HOLD.out q hq |>.1))
    have G8 := Lib.hid (below_setCell (below_setCell G4.out (p := ⟨gj, 0, none⟩) hwj (.int .i64 (max x1 y1))) (p := ⟨gj, 1, none⟩) hwj (.int .i64 (max x2 y2)))
    obtain ⟨v8, hv⟩ : ∃ v, v = (v4.setCell ⟨gj, 0, none⟩ (.int .i64 (max x1 y1))).setCell ⟨gj, 1, none⟩ (.int .i64 (max x2 y2)) := ⟨_, rfl⟩
    rw [← hv] at KM8 KJ8 Y8 G8 ⊢
    clear hv
    have c0 := KM8.out.cell 0
    have c1 := KM8.out.cell 1
    simp at c0 c1
    have f0 := KM8.out.frozen 0
    have f1 := KM8.out.frozen 1
    refine wpAnyR_sole (i := 9) rfl (by kernel_rfl) (fun K hK => ?_)
    go_simp
    refine hK _ _ (RK.trans _ _ _ _ (rk_set (p := ⟨gm, 0, none⟩) _ hgm' _) (rk_set (p := ⟨gm, 1, none⟩) _ hgm' _)) ?_
    clear hK K c0 c1 f0 f1
    have KJ9 := Lib.hid ((KJ8.out.far (p := ⟨gm, 0, none⟩) hgne.symm (.int .i64 (min x1 y1))).far (p := ⟨gm, 1, none⟩) hgne.symm (.int .i64 (min x2 y2)))
    have KM9 := Lib.hid ((KM8.out.set_ 0 (.int .i64 (min x1 y1))).set_ 1 (.int .i64 (min x2 y2)))
    have Y9 := Lib.hid ((Y8.out.setC (p := ⟨gm, 0, none⟩) (.int .i64 (min x1 y1)) (fun q hq => HOLD.out q hq |>.2)).setC (p := ⟨gm, 1, none⟩) (.int .i64 (min x2 y2)) (fun q hq => HOLD.out q hq |>.2))
    have G9 := Lib.hid (below_setCell (below_setCell G8.out (p := ⟨gm, 0, none⟩) hwm (.int .i64 (min x1 y1))) (p := ⟨gm, 1, none⟩) hwm (.int .i64 (min x2 y2)))
    refine wpAnyR_done (by kernel_rfl) ?_ _
    go_wp2_with fail
    have X0 := Lib.hid (((Y9.out.cons ⟨KM9.out.lt, KM9.out.cell 0, KM9.out.cell 1⟩).cons ⟨KJ9.out.lt, KJ9.out.cell 0, KJ9.out.cell 1⟩).drewO)
    have H0 := Lib.hid (RB.of_drew' G9.out)
    clear KJ KM KJ8 KM8 KJ9 KM9 Y8 Y9 G8 G9
    refine wp_region_R (R := RB) (n := 50) (by kernel_rfl) rfl ?_
    refine wpAnyR_sole (i := 0) rfl (by kernel_rfl) (fun K hK => ?_)
    go_simp
    refine (lives_any _).mono ?_; rintro e u1 ⟨rfl, b⟩
    refine hK _ _ b ?_
    clear hK K
    have X1 := Lib.hid (X0.out.below b)
    have H1 := Lib.hid (below_trans H0.out b)
    clear X0 H0 b
    obtain ⟨-, -, j0_1, j1_1⟩ := X1.out.at_ 0 rfl
    obtain ⟨-, -, m0_1, m1_1⟩ := X1.out.at_ 1 rfl
    obtain ⟨-, -, a0_1, a1_1⟩ := X1.out.at_ 2 rfl
    obtain ⟨-, -, b0_1, b1_1⟩ := X1.out.at_ 3 rfl
    refine batchB [1, 2, 4] (fuel := 46) rfl (by kernel_rfl) (by kernel_rfl) (fun _ _ d _ _ h => by cases d <;> exact h) ?_
    repeat (first | ((with_reducible apply wq0); rfl; rfl; rfl; intro K hK; go_big_quiet_op; refine hK _ ?_; clear hK K) | ((with_reducible apply wq1); rfl; rfl; rfl; rfl; rfl; rfl; intro K hK; go_big_quiet_op; refine hK _ ?_; clear hK K) | ((with_reducible apply wqs); rfl; rfl; rfl; rfl; rfl; rfl; simp only [Act.put, List.setIfInBounds_toArray, List.set_cons_zero, List.set_cons_succ]) | ((with_reducible apply wqu); rfl; rfl; rfl; rfl; rfl; simp only [Act.put, List.setIfInBounds_toArray, List.set_cons_zero, List.set_cons_succ]))
    refine wqIdx_load rfl rfl rfl rfl (fun W hW => load_mo_at _ _ (x1) (x2) W (keep_cell hW a0_1) (keep_cell hW a1_1)) ?_
    simp only [Act.put, List.setIfInBounds_toArray, List.set_cons_zero, List.set_cons_succ]
    repeat (first | ((with_reducible apply wq0); rfl; rfl; rfl; intro K hK; go_big_quiet_op; refine hK _ ?_; clear hK K) | ((with_reducible apply wq1); rfl; rfl; rfl; rfl; rfl; rfl; intro K hK; go_big_quiet_op; refine hK _ ?_; clear hK K) | ((with_reducible apply wqs); rfl; rfl; rfl; rfl; rfl; rfl; simp only [Act.put, List.setIfInBounds_toArray, List.set_cons_zero, List.set_cons_succ]) | ((with_reducible apply wqu); rfl; rfl; rfl; rfl; rfl; simp only [Act.put, List.setIfInBounds_toArray, List.set_cons_zero, List.set_cons_succ]))
    refine wqIdx_nil ?_
    refine wpAnyR_sole (i := 3) rfl (by kernel_rfl) (fun K hK => ?_)
    go_simp
    refine (PK.out _).mono ?_; rintro e u2 ⟨rfl, b⟩
    refine hK _ _ b ?_
    clear hK K
    have X2 := Lib.hid (X1.out.below b)
    have H2 := Lib.hid (below_trans H1.out b)
    clear X1 H1 b
    obtain ⟨-, -, j0_2, j1_2⟩ := X2.out.at_ 0 rfl
    obtain ⟨-, -, m0_2, m1_2⟩ := X2.out.at_ 1 rfl
    obtain ⟨-, -, a0_2, a1_2⟩ := X2.out.at_ 2 rfl
    obtain ⟨-, -, b0_2, b1_2⟩ := X2.out.at_ 3 rfl
    refine batchB [5, 6, 7, 8, 9, 11, 12] (fuel := 38) rfl (by kernel_rfl) (by kernel_rfl) (fun _ _ d _ _ h => by cases d <;> exact h) ?_
    repeat (first | ((with_reducible apply wq0); rfl; rfl; rfl; intro K hK; go_big_quiet_op; refine hK _ ?_; clear hK K) | ((with_reducible apply wq1); rfl; rfl; rfl; rfl; rfl; rfl; intro K hK; go_big_quiet_op; refine hK _ ?_; clear hK K) | ((with_reducible apply wqs); rfl; rfl; rfl; rfl; rfl; rfl; simp only [Act.put, List.setIfInBounds_toArray, List.set_cons_zero, List.set_cons_succ]) | ((with_reducible apply wqu); rfl; rfl; rfl; rfl; rfl; simp only [Act.put, List.setIfInBounds_toArray, List.set_cons_zero, List.set_cons_succ]))
    refine wqIdx_load rfl rfl rfl rfl (fun W hW => load_mo_at _ _ (x1) (x2) W (keep_cell hW a0_2) (keep_cell hW a1_2)) ?_
    simp only [Act.put, List.setIfInBounds_toArray, List.set_cons_zero, List.set_cons_succ]
    repeat (first | ((with_reducible apply wq0); rfl; rfl; rfl; intro K hK; go_big_quiet_op; refine hK _ ?_; clear hK K) | ((with_reducible apply wq1); rfl; rfl; rfl; rfl; rfl; rfl; intro K hK; go_big_quiet_op; refine hK _ ?_; clear hK K) | ((with_reducible apply wqs); rfl; rfl; rfl; rfl; rfl; rfl; simp only [Act.put, List.setIfInBounds_toArray, List.set_cons_zero, List.set_cons_succ]) | ((with_reducible apply wqu); rfl; rfl; rfl; rfl; rfl; simp only [Act.put, List.setIfInBounds_toArray, List.set_cons_zero, List.set_cons_succ]))
    refine wqIdx_load rfl rfl rfl rfl (fun W hW => load_mo_at _ _ (y1) (y2) W (keep_cell hW b0_2) (keep_cell hW b1_2)) ?_
    simp only [Act.put, List.setIfInBounds_toArray, List.set_cons_zero, List.set_cons_succ]
    repeat (first | ((with_reducible apply wq0); rfl; rfl; rfl; intro K hK; go_big_quiet_op; refine hK _ ?_; clear hK K) | ((with_reducible apply wq1); rfl; rfl; rfl; rfl; rfl; rfl; intro K hK; go_big_quiet_op; refine hK _ ?_; clear hK K) | ((with_reducible apply wqs); rfl; rfl; rfl; rfl; rfl; rfl; simp only [Act.put, List.setIfInBounds_toArray, List.set_cons_zero, List.set_cons_succ]) | ((with_reducible apply wqu); rfl; rfl; rfl; rfl; rfl; simp only [Act.put, List.setIfInBounds_toArray, List.set_cons_zero, List.set_cons_succ]))
    refine wqIdx_load rfl rfl rfl rfl (fun W hW => load_mo_at _ _ (x1) (x2) W (keep_cell hW a0_2) (keep_cell hW a1_2)) ?_
    simp only [Act.put, List.setIfInBounds_toArray, List.set_cons_zero, List.set_cons_succ]
    repeat (first | ((with_reducible apply wq0); rfl; rfl; rfl; intro K hK; go_big_quiet_op; refine hK _ ?_; clear hK K) | ((with_reducible apply wq1); rfl; rfl; rfl; rfl; rfl; rfl; intro K hK; go_big_quiet_op; refine hK _ ?_; clear hK K) | ((with_reducible apply wqs); rfl; rfl; rfl; rfl; rfl; rfl; simp only [Act.put, List.setIfInBounds_toArray, List.set_cons_zero, List.set_cons_succ]) | ((with_reducible apply wqu); rfl; rfl; rfl; rfl; rfl; simp only [Act.put, List.setIfInBounds_toArray, List.set_cons_zero, List.set_cons_succ]))
    refine wqIdx_load rfl rfl rfl rfl (fun W hW => load_mo_at _ _ (y1) (y2) W (keep_cell hW b0_2) (keep_cell hW b1_2)) ?_
    simp only [Act.put, List.setIfInBounds_toArray, List.set_cons_zero, List.set_cons_succ]
    repeat (first | ((with_reducible apply wq0); rfl; rfl; rfl; intro K hK; go_big_quiet_op; refine hK _ ?_; clear hK K) | ((with_reducible apply wq1); rfl; rfl; rfl; rfl; rfl; rfl; intro K hK; go_big_quiet_op; refine hK _ ?_; clear hK K) | ((with_reducible apply wqs); rfl; rfl; rfl; rfl; rfl; rfl; simp only [Act.put, List.setIfInBounds_toArray, List.set_cons_zero, List.set_cons_succ]) | ((with_reducible apply wqu); rfl; rfl; rfl; rfl; rfl; simp only [Act.put, List.setIfInBounds_toArray, List.set_cons_zero, List.set_cons_succ]))
    refine wqIdx_nil ?_
    refine wpAnyR_sole (i := 10) rfl (by kernel_rfl) (fun K hK => ?_)
    go_simp
    refine (P1.out _).mono ?_; rintro e u3 ⟨rfl, b⟩
    refine hK _ _ b ?_
    clear hK K
    have X3 := Lib.hid (X2.out.below b)
    have H3 := Lib.hid (below_trans H2.out b)
    clear X2 H2 b
    refine wpAnyR_sole (i := 13) rfl (by kernel_rfl) (fun K hK => ?_)
    go_simp
    refine (P2.out _).mono ?_; rintro e u4 ⟨rfl, b⟩
    refine hK _ _ b ?_
    clear hK K
    have X4 := Lib.hid (X3.out.below b)
    have H4 := Lib.hid (below_trans H3.out b)
    clear X3 H3 b
    obtain ⟨-, -, j0_4, j1_4⟩ := X4.out.at_ 0 rfl
    obtain ⟨-, -, m0_4, m1_4⟩ := X4.out.at_ 1 rfl
    obtain ⟨-, -, a0_4, a1_4⟩ := X4.out.at_ 2 rfl
    obtain ⟨-, -, b0_4, b1_4⟩ := X4.out.at_ 3 rfl
    refine batchB [14, 15, 16, 17, 18, 20, 21] (fuel := 29) rfl (by kernel_rfl) (by kernel_rfl) (fun _ _ d _ _ h => by cases d <;> exact h) ?_
    repeat (first | ((with_reducible apply wq0); rfl; rfl; rfl; intro K hK; go_big_quiet_op; refine hK _ ?_; clear hK K) | ((with_reducible apply wq1); rfl; rfl; rfl; rfl; rfl; rfl; intro K hK; go_big_quiet_op; refine hK _ ?_; clear hK K) | ((with_reducible apply wqs); rfl; rfl; rfl; rfl; rfl; rfl; simp only [Act.put, List.setIfInBounds_toArray, List.set_cons_zero, List.set_cons_succ]) | ((with_reducible apply wqu); rfl; rfl; rfl; rfl; rfl; simp only [Act.put, List.setIfInBounds_toArray, List.set_cons_zero, List.set_cons_succ]))
    refine wqIdx_load rfl rfl rfl rfl (fun W hW => load_mo_at _ _ (x1) (x2) W (keep_cell hW a0_4) (keep_cell hW a1_4)) ?_
    simp only [Act.put, List.setIfInBounds_toArray, List.set_cons_zero, List.set_cons_succ]
    repeat (first | ((with_reducible apply wq0); rfl; rfl; rfl; intro K hK; go_big_quiet_op; refine hK _ ?_; clear hK K) | ((with_reducible apply wq1); rfl; rfl; rfl; rfl; rfl; rfl; intro K hK; go_big_quiet_op; refine hK _ ?_; clear hK K) | ((with_reducible apply wqs); rfl; rfl; rfl; rfl; rfl; rfl; simp only [Act.put, List.setIfInBounds_toArray, List.set_cons_zero, List.set_cons_succ]) | ((with_reducible apply wqu); rfl; rfl; rfl; rfl; rfl; simp only [Act.put, List.setIfInBounds_toArray, List.set_cons_zero, List.set_cons_succ]))
    refine wqIdx_load rfl rfl rfl rfl (fun W hW => load_mo_at _ _ (y1) (y2) W (keep_cell hW b0_4) (keep_cell hW b1_4)) ?_
    simp only [Act.put, List.setIfInBounds_toArray, List.set_cons_zero, List.set_cons_succ]
    repeat (first | ((with_reducible apply wq0); rfl; rfl; rfl; intro K hK; go_big_quiet_op; refine hK _ ?_; clear hK K) | ((with_reducible apply wq1); rfl; rfl; rfl; rfl; rfl; rfl; intro K hK; go_big_quiet_op; refine hK _ ?_; clear hK K) | ((with_reducible apply wqs); rfl; rfl; rfl; rfl; rfl; rfl; simp only [Act.put, List.setIfInBounds_toArray, List.set_cons_zero, List.set_cons_succ]) | ((with_reducible apply wqu); rfl; rfl; rfl; rfl; rfl; simp only [Act.put, List.setIfInBounds_toArray, List.set_cons_zero, List.set_cons_succ]))
    refine wqIdx_load rfl rfl rfl rfl (fun W hW => load_mo_at _ _ (x1) (x2) W (keep_cell hW a0_4) (keep_cell hW a1_4)) ?_
    simp only [Act.put, List.setIfInBounds_toArray, List.set_cons_zero, List.set_cons_succ]
    repeat (first | ((with_reducible apply wq0); rfl; rfl; rfl; intro K hK; go_big_quiet_op; refine hK _ ?_; clear hK K) | ((with_reducible apply wq1); rfl; rfl; rfl; rfl; rfl; rfl; intro K hK; go_big_quiet_op; refine hK _ ?_; clear hK K) | ((with_reducible apply wqs); rfl; rfl; rfl; rfl; rfl; rfl; simp only [Act.put, List.setIfInBounds_toArray, List.set_cons_zero, List.set_cons_succ]) | ((with_reducible apply wqu); rfl; rfl; rfl; rfl; rfl; simp only [Act.put, List.setIfInBounds_toArray, List.set_cons_zero, List.set_cons_succ]))
    refine wqIdx_load rfl rfl rfl rfl (fun W hW => load_mo_at _ _ (y1) (y2) W (keep_cell hW b0_4) (keep_cell hW b1_4)) ?_
    simp only [Act.put, List.setIfInBounds_toArray, List.set_cons_zero, List.set_cons_succ]
    repeat (first | ((with_reducible apply wq0); rfl; rfl; rfl; intro K hK; go_big_quiet_op; refine hK _ ?_; clear hK K) | ((with_reducible apply wq1); rfl; rfl; rfl; rfl; rfl; rfl; intro K hK; go_big_quiet_op; refine hK _ ?_; clear hK K) | ((with_reducible apply wqs); rfl; rfl; rfl; rfl; rfl; rfl; simp only [Act.put, List.setIfInBounds_toArray, List.set_cons_zero, List.set_cons_succ]) | ((with_reducible apply wqu); rfl; rfl; rfl; rfl; rfl; simp only [Act.put, List.setIfInBounds_toArray, List.set_cons_zero, List.set_cons_succ]))
    refine wqIdx_nil ?_
    refine wpAnyR_sole (i := 19) rfl (by kernel_rfl) (fun K hK => ?_)
    go_simp
    refine (P3.out _).mono ?_; rintro e u5 ⟨rfl, b⟩
    refine hK _ _ b ?_
    clear hK K
    have X5 := Lib.hid (X4.out.below b)
    have H5 := Lib.hid (below_trans H4.out b)
    clear X4 H4 b
    refine wpAnyR_sole (i := 22) rfl (by kernel_rfl) (fun K hK => ?_)
    go_simp
    refine (P4.out _).mono ?_; rintro e u6 ⟨rfl, b⟩
    refine hK _ _ b ?_
    clear hK K
    have X6 := Lib.hid (X5.out.below b)
    have H6 := Lib.hid (below_trans H5.out b)
    clear X5 H5 b
    obtain ⟨-, -, j0_6, j1_6⟩ := X6.out.at_ 0 rfl
    obtain ⟨-, -, m0_6, m1_6⟩ := X6.out.at_ 1 rfl
    obtain ⟨-, -, a0_6, a1_6⟩ := X6.out.at_ 2 rfl
    obtain ⟨-, -, b0_6, b1_6⟩ := X6.out.at_ 3 rfl
    refine batchB [23, 24, 25, 26, 27, 28] (fuel := 21) rfl (by kernel_rfl) (by kernel_rfl) (fun _ _ d _ _ h => by cases d <;> exact h) ?_
    repeat (first | ((with_reducible apply wq0); rfl; rfl; rfl; intro K hK; go_big_quiet_op; refine hK _ ?_; clear hK K) | ((with_reducible apply wq1); rfl; rfl; rfl; rfl; rfl; rfl; intro K hK; go_big_quiet_op; refine hK _ ?_; clear hK K) | ((with_reducible apply wqs); rfl; rfl; rfl; rfl; rfl; rfl; simp only [Act.put, List.setIfInBounds_toArray, List.set_cons_zero, List.set_cons_succ]) | ((with_reducible apply wqu); rfl; rfl; rfl; rfl; rfl; simp only [Act.put, List.setIfInBounds_toArray, List.set_cons_zero, List.set_cons_succ]))
    refine wqIdx_load rfl rfl rfl rfl (fun W hW => load_mo_at _ _ (max x1 y1) (max x2 y2) W (keep_cell hW j0_6) (keep_cell hW j1_6)) ?_
    simp only [Act.put, List.setIfInBounds_toArray, List.set_cons_zero, List.set_cons_succ]
    repeat (first | ((with_reducible apply wq0); rfl; rfl; rfl; intro K hK; go_big_quiet_op; refine hK _ ?_; clear hK K) | ((with_reducible apply wq1); rfl; rfl; rfl; rfl; rfl; rfl; intro K hK; go_big_quiet_op; refine hK _ ?_; clear hK K) | ((with_reducible apply wqs); rfl; rfl; rfl; rfl; rfl; rfl; simp only [Act.put, List.setIfInBounds_toArray, List.set_cons_zero, List.set_cons_succ]) | ((with_reducible apply wqu); rfl; rfl; rfl; rfl; rfl; simp only [Act.put, List.setIfInBounds_toArray, List.set_cons_zero, List.set_cons_succ]))
    refine wqIdx_load rfl rfl rfl rfl (fun W hW => load_mo_at _ _ (x1) (x2) W (keep_cell hW a0_6) (keep_cell hW a1_6)) ?_
    simp only [Act.put, List.setIfInBounds_toArray, List.set_cons_zero, List.set_cons_succ]
    repeat (first | ((with_reducible apply wq0); rfl; rfl; rfl; intro K hK; go_big_quiet_op; refine hK _ ?_; clear hK K) | ((with_reducible apply wq1); rfl; rfl; rfl; rfl; rfl; rfl; intro K hK; go_big_quiet_op; refine hK _ ?_; clear hK K) | ((with_reducible apply wqs); rfl; rfl; rfl; rfl; rfl; rfl; simp only [Act.put, List.setIfInBounds_toArray, List.set_cons_zero, List.set_cons_succ]) | ((with_reducible apply wqu); rfl; rfl; rfl; rfl; rfl; simp only [Act.put, List.setIfInBounds_toArray, List.set_cons_zero, List.set_cons_succ]))
    refine wqIdx_load rfl rfl rfl rfl (fun W hW => load_mo_at _ _ (y1) (y2) W (keep_cell hW b0_6) (keep_cell hW b1_6)) ?_
    simp only [Act.put, List.setIfInBounds_toArray, List.set_cons_zero, List.set_cons_succ]
    repeat (first | ((with_reducible apply wq0); rfl; rfl; rfl; intro K hK; go_big_quiet_op; refine hK _ ?_; clear hK K) | ((with_reducible apply wq1); rfl; rfl; rfl; rfl; rfl; rfl; intro K hK; go_big_quiet_op; refine hK _ ?_; clear hK K) | ((with_reducible apply wqs); rfl; rfl; rfl; rfl; rfl; rfl; simp only [Act.put, List.setIfInBounds_toArray, List.set_cons_zero, List.set_cons_succ]) | ((with_reducible apply wqu); rfl; rfl; rfl; rfl; rfl; simp only [Act.put, List.setIfInBounds_toArray, List.set_cons_zero, List.set_cons_succ]))
    refine wqIdx_nil ?_
    refine wpAnyR_sole (i := 29) rfl (by kernel_rfl) (fun K hK => ?_)
    go_simp
    refine (P5.out _).mono ?_; rintro e u7 ⟨rfl, b⟩
    refine hK _ _ b ?_
    clear hK K
    have X7 := Lib.hid (X6.out.below b)
    have H7 := Lib.hid (below_trans H6.out b)
    clear X6 H6 b
    obtain ⟨-, -, j0_7, j1_7⟩ := X7.out.at_ 0 rfl
    obtain ⟨-, -, m0_7, m1_7⟩ := X7.out.at_ 1 rfl
    obtain ⟨-, -, a0_7, a1_7⟩ := X7.out.at_ 2 rfl
    obtain ⟨-, -, b0_7, b1_7⟩ := X7.out.at_ 3 rfl
    refine batchB [30, 31, 32, 33, 34, 35] (fuel := 14) rfl (by kernel_rfl) (by kernel_rfl) (fun _ _ d _ _ h => by cases d <;> exact h) ?_
    repeat (first | ((with_reducible apply wq0); rfl; rfl; rfl; intro K hK; go_big_quiet_op; refine hK _ ?_; clear hK K) | ((with_reducible apply wq1); rfl; rfl; rfl; rfl; rfl; rfl; intro K hK; go_big_quiet_op; refine hK _ ?_; clear hK K) | ((with_reducible apply wqs); rfl; rfl; rfl; rfl; rfl; rfl; simp only [Act.put, List.setIfInBounds_toArray, List.set_cons_zero, List.set_cons_succ]) | ((with_reducible apply wqu); rfl; rfl; rfl; rfl; rfl; simp only [Act.put, List.setIfInBounds_toArray, List.set_cons_zero, List.set_cons_succ]))
    refine wqIdx_load rfl rfl rfl rfl (fun W hW => load_mo_at _ _ (min x1 y1) (min x2 y2) W (keep_cell hW m0_7) (keep_cell hW m1_7)) ?_
    simp only [Act.put, List.setIfInBounds_toArray, List.set_cons_zero, List.set_cons_succ]
    repeat (first | ((with_reducible apply wq0); rfl; rfl; rfl; intro K hK; go_big_quiet_op; refine hK _ ?_; clear hK K) | ((with_reducible apply wq1); rfl; rfl; rfl; rfl; rfl; rfl; intro K hK; go_big_quiet_op; refine hK _ ?_; clear hK K) | ((with_reducible apply wqs); rfl; rfl; rfl; rfl; rfl; rfl; simp only [Act.put, List.setIfInBounds_toArray, List.set_cons_zero, List.set_cons_succ]) | ((with_reducible apply wqu); rfl; rfl; rfl; rfl; rfl; simp only [Act.put, List.setIfInBounds_toArray, List.set_cons_zero, List.set_cons_succ]))
    refine wqIdx_load rfl rfl rfl rfl (fun W hW => load_mo_at _ _ (x1) (x2) W (keep_cell hW a0_7) (keep_cell hW a1_7)) ?_
    simp only [Act.put, List.setIfInBounds_toArray, List.set_cons_zero, List.set_cons_succ]
    repeat (first | ((with_reducible apply wq0); rfl; rfl; rfl; intro K hK; go_big_quiet_op; refine hK _ ?_; clear hK K) | ((with_reducible apply wq1); rfl; rfl; rfl; rfl; rfl; rfl; intro K hK; go_big_quiet_op; refine hK _ ?_; clear hK K) | ((with_reducible apply wqs); rfl; rfl; rfl; rfl; rfl; rfl; simp only [Act.put, List.setIfInBounds_toArray, List.set_cons_zero, List.set_cons_succ]) | ((with_reducible apply wqu); rfl; rfl; rfl; rfl; rfl; simp only [Act.put, List.setIfInBounds_toArray, List.set_cons_zero, List.set_cons_succ]))
    refine wqIdx_load rfl rfl rfl rfl (fun W hW => load_mo_at _ _ (y1) (y2) W (keep_cell hW b0_7) (keep_cell hW b1_7)) ?_
    simp only [Act.put, List.setIfInBounds_toArray, List.set_cons_zero, List.set_cons_succ]
    repeat (first | ((with_reducible apply wq0); rfl; rfl; rfl; intro K hK; go_big_quiet_op; refine hK _ ?_; clear hK K) | ((with_reducible apply wq1); rfl; rfl; rfl; rfl; rfl; rfl; intro K hK; go_big_quiet_op; refine hK _ ?_; clear hK K) | ((with_reducible apply wqs); rfl; rfl; rfl; rfl; rfl; rfl; simp only [Act.put, List.setIfInBounds_toArray, List.set_cons_zero, List.set_cons_succ]) | ((with_reducible apply wqu); rfl; rfl; rfl; rfl; rfl; simp only [Act.put, List.setIfInBounds_toArray, List.set_cons_zero, List.set_cons_succ]))
    refine wqIdx_nil ?_
    refine wpAnyR_sole (i := 36) rfl (by kernel_rfl) (fun K hK => ?_)
    go_simp
    refine (P6.out _).mono ?_; rintro e u8 ⟨rfl, b⟩
    refine hK _ _ b ?_
    clear hK K
    have X8 := Lib.hid (X7.out.below b)
    have H8 := Lib.hid (below_trans H7.out b)
    clear X7 H7 b
    obtain ⟨-, -, j0_8, j1_8⟩ := X8.out.at_ 0 rfl
    obtain ⟨-, -, m0_8, m1_8⟩ := X8.out.at_ 1 rfl
    obtain ⟨-, -, a0_8, a1_8⟩ := X8.out.at_ 2 rfl
    obtain ⟨-, -, b0_8, b1_8⟩ := X8.out.at_ 3 rfl
    refine batchB [37, 38, 39, 40, 41] (fuel := 8) rfl (by kernel_rfl) (by kernel_rfl) (fun _ _ d _ _ h => by cases d <;> exact h) ?_
    repeat (first | ((with_reducible apply wq0); rfl; rfl; rfl; intro K hK; go_big_quiet_op; refine hK _ ?_; clear hK K) | ((with_reducible apply wq1); rfl; rfl; rfl; rfl; rfl; rfl; intro K hK; go_big_quiet_op; refine hK _ ?_; clear hK K) | ((with_reducible apply wqs); rfl; rfl; rfl; rfl; rfl; rfl; simp only [Act.put, List.setIfInBounds_toArray, List.set_cons_zero, List.set_cons_succ]) | ((with_reducible apply wqu); rfl; rfl; rfl; rfl; rfl; simp only [Act.put, List.setIfInBounds_toArray, List.set_cons_zero, List.set_cons_succ]))
    refine wqIdx_load rfl rfl rfl rfl (fun W hW => load_mo_at _ _ (x1) (x2) W (keep_cell hW a0_8) (keep_cell hW a1_8)) ?_
    simp only [Act.put, List.setIfInBounds_toArray, List.set_cons_zero, List.set_cons_succ]
    repeat (first | ((with_reducible apply wq0); rfl; rfl; rfl; intro K hK; go_big_quiet_op; refine hK _ ?_; clear hK K) | ((with_reducible apply wq1); rfl; rfl; rfl; rfl; rfl; rfl; intro K hK; go_big_quiet_op; refine hK _ ?_; clear hK K) | ((with_reducible apply wqs); rfl; rfl; rfl; rfl; rfl; rfl; simp only [Act.put, List.setIfInBounds_toArray, List.set_cons_zero, List.set_cons_succ]) | ((with_reducible apply wqu); rfl; rfl; rfl; rfl; rfl; simp only [Act.put, List.setIfInBounds_toArray, List.set_cons_zero, List.set_cons_succ]))
    refine wqIdx_load rfl rfl rfl rfl (fun W hW => load_mo_at _ _ (max x1 y1) (max x2 y2) W (keep_cell hW j0_8) (keep_cell hW j1_8)) ?_
    simp only [Act.put, List.setIfInBounds_toArray, List.set_cons_zero, List.set_cons_succ]
    repeat (first | ((with_reducible apply wq0); rfl; rfl; rfl; intro K hK; go_big_quiet_op; refine hK _ ?_; clear hK K) | ((with_reducible apply wq1); rfl; rfl; rfl; rfl; rfl; rfl; intro K hK; go_big_quiet_op; refine hK _ ?_; clear hK K) | ((with_reducible apply wqs); rfl; rfl; rfl; rfl; rfl; rfl; simp only [Act.put, List.setIfInBounds_toArray, List.set_cons_zero, List.set_cons_succ]) | ((with_reducible apply wqu); rfl; rfl; rfl; rfl; rfl; simp only [Act.put, List.setIfInBounds_toArray, List.set_cons_zero, List.set_cons_succ]))
    refine wqIdx_nil ?_
    refine wpAnyR_sole (i := 42) rfl (by kernel_rfl) (fun K hK => ?_)
    go_simp
    refine (P7.out _).mono ?_; rintro e u9 ⟨rfl, b⟩
    refine hK _ _ b ?_
    clear hK K
    have X9 := Lib.hid (X8.out.below b)
    have H9 := Lib.hid (below_trans H8.out b)
    clear X8 H8 b
    obtain ⟨-, -, j0_9, j1_9⟩ := X9.out.at_ 0 rfl
    obtain ⟨-, -, m0_9, m1_9⟩ := X9.out.at_ 1 rfl
    obtain ⟨-, -, a0_9, a1_9⟩ := X9.out.at_ 2 rfl
    obtain ⟨-, -, b0_9, b1_9⟩ := X9.out.at_ 3 rfl
    refine batchB [43, 44, 45, 46] (fuel := 3) rfl (by kernel_rfl) (by kernel_rfl) (fun _ _ d _ _ h => by cases d <;> exact h) ?_
    repeat (first | ((with_reducible apply wq0); rfl; rfl; rfl; intro K hK; go_big_quiet_op; refine hK _ ?_; clear hK K) | ((with_reducible apply wq1); rfl; rfl; rfl; rfl; rfl; rfl; intro K hK; go_big_quiet_op; refine hK _ ?_; clear hK K) | ((with_reducible apply wqs); rfl; rfl; rfl; rfl; rfl; rfl; simp only [Act.put, List.setIfInBounds_toArray, List.set_cons_zero, List.set_cons_succ]) | ((with_reducible apply wqu); rfl; rfl; rfl; rfl; rfl; simp only [Act.put, List.setIfInBounds_toArray, List.set_cons_zero, List.set_cons_succ]))
    refine wqIdx_load rfl rfl rfl rfl (fun W hW => load_mo_at _ _ (min x1 y1) (min x2 y2) W (keep_cell hW m0_9) (keep_cell hW m1_9)) ?_
    simp only [Act.put, List.setIfInBounds_toArray, List.set_cons_zero, List.set_cons_succ]
    repeat (first | ((with_reducible apply wq0); rfl; rfl; rfl; intro K hK; go_big_quiet_op; refine hK _ ?_; clear hK K) | ((with_reducible apply wq1); rfl; rfl; rfl; rfl; rfl; rfl; intro K hK; go_big_quiet_op; refine hK _ ?_; clear hK K) | ((with_reducible apply wqs); rfl; rfl; rfl; rfl; rfl; rfl; simp only [Act.put, List.setIfInBounds_toArray, List.set_cons_zero, List.set_cons_succ]) | ((with_reducible apply wqu); rfl; rfl; rfl; rfl; rfl; simp only [Act.put, List.setIfInBounds_toArray, List.set_cons_zero, List.set_cons_succ]))
    refine wqIdx_load rfl rfl rfl rfl (fun W hW => load_mo_at _ _ (y1) (y2) W (keep_cell hW b0_9) (keep_cell hW b1_9)) ?_
    simp only [Act.put, List.setIfInBounds_toArray, List.set_cons_zero, List.set_cons_succ]
    repeat (first | ((with_reducible apply wq0); rfl; rfl; rfl; intro K hK; go_big_quiet_op; refine hK _ ?_; clear hK K) | ((with_reducible apply wq1); rfl; rfl; rfl; rfl; rfl; rfl; intro K hK; go_big_quiet_op; refine hK _ ?_; clear hK K) | ((with_reducible apply wqs); rfl; rfl; rfl; rfl; rfl; rfl; simp only [Act.put, List.setIfInBounds_toArray, List.set_cons_zero, List.set_cons_succ]) | ((with_reducible apply wqu); rfl; rfl; rfl; rfl; rfl; simp only [Act.put, List.setIfInBounds_toArray, List.set_cons_zero, List.set_cons_succ]))
    refine wqIdx_nil ?_
    refine wpAnyR_sole (i := 47) rfl (by kernel_rfl) (fun K hK => ?_)
    go_simp
    refine (P8.out _).mono ?_; rintro e u10 ⟨rfl, b⟩
    refine hK _ _ b ?_
    clear hK K
    have X10 := Lib.hid (X9.out.below b)
    have H10 := Lib.hid (below_trans H9.out b)
    clear X9 H9 b
    refine batchB [48, 49] (fuel := 0) rfl (by kernel_rfl) (by kernel_rfl) (fun _ _ d _ _ h => by cases d <;> exact h) ?_
    repeat (first | ((with_reducible apply wq0); rfl; rfl; rfl; intro K hK; go_big_quiet_op; refine hK _ ?_; clear hK K) | ((with_reducible apply wq1); rfl; rfl; rfl; rfl; rfl; rfl; intro K hK; go_big_quiet_op; refine hK _ ?_; clear hK K) | ((with_reducible apply wqs); rfl; rfl; rfl; rfl; rfl; rfl; simp only [Act.put, List.setIfInBounds_toArray, List.set_cons_zero, List.set_cons_succ]) | ((with_reducible apply wqu); rfl; rfl; rfl; rfl; rfl; simp only [Act.put, List.setIfInBounds_toArray, List.set_cons_zero, List.set_cons_succ]))
    refine wqIdx_nil ?_
    refine wpAnyR_done (by kernel_rfl) ?_ _
    go_wp2
    go_ret
    exact ⟨rfl, H10.out⟩
theorem orders_any (x1 x2 y1 y2 : Int) (w : World) :
    Calls Try.prog 8 #[.agg #[.int .i64 x1, .int .i64 x2], .agg #[.int .i64 y1, .int .i64 y2]] w (LawPost w) := by
  cases h : okMo (x1, x2)
  · exact orders_false x1 x2 y1 y2 w h
  · exact orders_true x1 x2 y1 y2 w h
end Go.Proofs.Ytalcgkfnjhlnoab
