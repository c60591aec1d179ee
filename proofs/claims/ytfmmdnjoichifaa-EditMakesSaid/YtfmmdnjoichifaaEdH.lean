/- Edits: Same, of both; lists of edits. -/
import Derived.Test.YtfmmdnjoichifaaEdDF
import Derived.Test.YtfmmdnjoichifaaMoL
namespace Go.Proofs.Ytfmmdnjoichifaa
open Go.RowKit Go.Sort

noncomputable def eqR (a b : List Rf) : Bool := @decide (a = b) (Classical.propDecidable _)
theorem eqR_yes {a b : List Rf} (h : a = b) : eqR a b = true := @decide_eq_true _ (Classical.propDecidable _) h
theorem eqR_no {a b : List Rf} (h : ¬ a = b) : eqR a b = false := @decide_eq_false _ (Classical.propDecidable _) h
noncomputable def eqE (a b : Ed) : Bool := @decide (a = b) (Classical.propDecidable _)
theorem eqE_yes {a b : Ed} (h : a = b) : eqE a b = true := @decide_eq_true _ (Classical.propDecidable _) h
theorem eqE_no {a b : Ed} (h : ¬ a = b) : eqE a b = false := @decide_eq_false _ (Classical.propDecidable _) h
theorem str_dif {s t : ByteArray} (h : ¬ s = t) : (s.toList == t.toList) = false := by
  rw [beq_eq_false_iff_ne]
  intro e
  apply h
  rw [ByteArray.toList_eq, ByteArray.toList_eq] at e
  obtain ⟨⟨a⟩⟩ := s
  obtain ⟨⟨b⟩⟩ := t
  simp at e
  rw [e]
set_option maxRecDepth 100000 in
set_option maxHeartbeats 4000000 in
theorem rf_equal_any (A B : Option Addr) (a b : List Rf) (c d ba bb : Nat) (w : World) (ha : RfAt w ba A a) (hb : RfAt w bb B b) (la : a.length ≤ 1000000) (_lb : b.length ≤ 1000000) :
    Calls Try.prog 70 #[.slice A a.length c, .slice B b.length d] w fun e w' => e = .returned (.bool (eqR a b)) ∧ Below w.heap.size w w' := by
  by_cases hl : a.length = b.length
  · have HA := Lib.hid ha
    have HB := Lib.hid hb
    have HL := Lib.hid hl
    rw [← hl]
    clear ha hb hl _lb
    go_enter Try.func70, Try.ntmps70
    go_wp2_with fail
    go_loopw [13] (fun i wr => ∃ k : Nat, k ≤ a.length ∧ i = .int .i64 (k : Int) ∧ (∀ j, j < k → a[j]? = b[j]?) ∧ Below w.heap.size w wr) (fun i _ => a.length - (intOf i).toNat)
    case atStart => exact ⟨0, Nat.zero_le _, rfl, fun j hj => absurd hj (Nat.not_lt_zero _), Below.refl _ _⟩
    case round =>
      obtain ⟨k, hk, rfl, hall, hbw⟩ := hrel
      have HALL := Lib.hid hall
      have BW := Lib.hid hbw
      clear hall hbw
      by_cases hlt : k < a.length
      · obtain ⟨x, hea⟩ : ∃ x, a[k]? = some x := ⟨_, List.getElem?_eq_getElem hlt⟩
        obtain ⟨y, heb⟩ : ∃ y, b[k]? = some y := ⟨_, List.getElem?_eq_getElem (show k < b.length by rw [← HL.out]; exact hlt)⟩
        obtain ⟨h, o1, rfl, -, px⟩ := (HA.out.below BW.out).at_ hea
        obtain ⟨g, o2, rfl, -, py⟩ := (HB.out.below BW.out).at_ heb
        have L1 := Lib.hid (fun W (hb : RB wr.drew W) => load_rf_at h (o1 + k * 3) x W (fun i u hi => keep_c hb (px i u hi)))
        have L2 := Lib.hid (fun W (hb : RB wr.drew W) => load_rf_at g (o2 + k * 3) y W (fun i u hi => keep_c hb (py i u hi)))
        have EA := Lib.hid hea
        have EB := Lib.hid heb
        clear hea heb px py
        have NE := Lib.hid (show ¬ x = y → eqR a b = false by
          intro hne
          refine eqR_no fun e => ?_
          have h1 := EA.out
          rw [e, EB.out] at h1
          injection h1 with h1
          exact hne h1.symm)
        have BD := Lib.hid (show Below w.heap.size w wr.drew from ⟨BW.out.os, BW.out.tape, BW.out.output, BW.out.size, BW.out.block⟩)
        obtain ⟨x1, x2, x3⟩ := x
        obtain ⟨y1, y2, y3⟩ := y
        unfold rfV at L1 L2
        simp only at L1 L2
        by_cases e1 : x1 = y1
        · by_cases e2 : x2 = y2
          · by_cases e3 : x3 = y3
            · subst e1 e2 e3
              go_wp2_with fail
              refine wp_region_R (R := RB) (n := 9) (by kernel_rfl) rfl ?_
              refine batchB [0, 1, 2, 3, 4, 5, 6, 7, 8] (fuel := 0) rfl (by kernel_rfl) (by kernel_rfl) (fun _ _ d _ _ h => by cases d <;> exact h) ?_
              (repeat (first | ((with_reducible apply wq0); rfl; rfl; rfl; intro K hK; go_big_quiet_op; refine hK _ ?_; clear hK K) | ((with_reducible apply wq1); rfl; rfl; rfl; rfl; rfl; rfl; intro K hK; go_big_quiet_op; refine hK _ ?_; clear hK K) | ((with_reducible apply wqs); rfl; rfl; rfl; rfl; rfl; rfl; simp only [Act.put, List.setIfInBounds_toArray, List.set_cons_zero, List.set_cons_succ]) | ((with_reducible apply wqu); rfl; rfl; rfl; rfl; rfl; (first | simp only [same, Act.put, List.setIfInBounds_toArray, List.set_cons_zero, List.set_cons_succ] | simp only [Act.put, List.setIfInBounds_toArray, List.set_cons_zero, List.set_cons_succ]))))
              refine wqIdx_load rfl rfl rfl rfl L1.out ?_
              simp only [Act.put, List.setIfInBounds_toArray, List.set_cons_zero, List.set_cons_succ]
              (repeat (first | ((with_reducible apply wq0); rfl; rfl; rfl; intro K hK; go_big_quiet_op; refine hK _ ?_; clear hK K) | ((with_reducible apply wq1); rfl; rfl; rfl; rfl; rfl; rfl; intro K hK; go_big_quiet_op; refine hK _ ?_; clear hK K) | ((with_reducible apply wqs); rfl; rfl; rfl; rfl; rfl; rfl; simp only [Act.put, List.setIfInBounds_toArray, List.set_cons_zero, List.set_cons_succ]) | ((with_reducible apply wqu); rfl; rfl; rfl; rfl; rfl; (first | simp only [same, Act.put, List.setIfInBounds_toArray, List.set_cons_zero, List.set_cons_succ] | simp only [Act.put, List.setIfInBounds_toArray, List.set_cons_zero, List.set_cons_succ]))))
              refine wqIdx_load rfl rfl rfl rfl L2.out ?_
              simp only [Act.put, List.setIfInBounds_toArray, List.set_cons_zero, List.set_cons_succ]
              (repeat (first | ((with_reducible apply wq0); rfl; rfl; rfl; intro K hK; go_big_quiet_op; refine hK _ ?_; clear hK K) | ((with_reducible apply wq1); rfl; rfl; rfl; rfl; rfl; rfl; intro K hK; go_big_quiet_op; refine hK _ ?_; clear hK K) | ((with_reducible apply wqs); rfl; rfl; rfl; rfl; rfl; rfl; simp only [Act.put, List.setIfInBounds_toArray, List.set_cons_zero, List.set_cons_succ]) | ((with_reducible apply wqu); rfl; rfl; rfl; rfl; rfl; (first | simp only [same, Act.put, List.setIfInBounds_toArray, List.set_cons_zero, List.set_cons_succ] | simp only [Act.put, List.setIfInBounds_toArray, List.set_cons_zero, List.set_cons_succ]))))
              refine wqIdx_nil ?_
              refine wpAnyR_done (by kernel_rfl) ?_ _
              go_wp2
              refine ⟨⟨k + 1, by omega, by go_num, fun j hj => ?_, BD.out⟩, by simp [intOf]; omega⟩
              by_cases hjk : j = k
              · subst hjk
                rw [EA.out, EB.out]
              · exact HALL.out j (by omega)
            · have d4 : (x3 == y3) = false := by simpa using e3
              have NN := Lib.hid (NE.out (fun e => e3 (by rw [Rf.mk.injEq] at e; exact e.2.2)))
              clear e3 NE
              subst e1 e2
              go_wp2_with fail
              refine wp_region_R (R := RB) (n := 9) (by kernel_rfl) rfl ?_
              refine batchB [0, 1, 2, 3, 4, 5, 6, 7, 8] (fuel := 0) rfl (by kernel_rfl) (by kernel_rfl) (fun _ _ d _ _ h => by cases d <;> exact h) ?_
              (repeat (first | ((with_reducible apply wq0); rfl; rfl; rfl; intro K hK; go_big_quiet_op; refine hK _ ?_; clear hK K) | ((with_reducible apply wq1); rfl; rfl; rfl; rfl; rfl; rfl; intro K hK; go_big_quiet_op; refine hK _ ?_; clear hK K) | ((with_reducible apply wqs); rfl; rfl; rfl; rfl; rfl; rfl; simp only [Act.put, List.setIfInBounds_toArray, List.set_cons_zero, List.set_cons_succ]) | ((with_reducible apply wqu); rfl; rfl; rfl; rfl; rfl; (first | simp only [same, Act.put, List.setIfInBounds_toArray, List.set_cons_zero, List.set_cons_succ] | simp only [Act.put, List.setIfInBounds_toArray, List.set_cons_zero, List.set_cons_succ]))))
              refine wqIdx_load rfl rfl rfl rfl L1.out ?_
              simp only [Act.put, List.setIfInBounds_toArray, List.set_cons_zero, List.set_cons_succ]
              (repeat (first | ((with_reducible apply wq0); rfl; rfl; rfl; intro K hK; go_big_quiet_op; refine hK _ ?_; clear hK K) | ((with_reducible apply wq1); rfl; rfl; rfl; rfl; rfl; rfl; intro K hK; go_big_quiet_op; refine hK _ ?_; clear hK K) | ((with_reducible apply wqs); rfl; rfl; rfl; rfl; rfl; rfl; simp only [Act.put, List.setIfInBounds_toArray, List.set_cons_zero, List.set_cons_succ]) | ((with_reducible apply wqu); rfl; rfl; rfl; rfl; rfl; (first | simp only [same, Act.put, List.setIfInBounds_toArray, List.set_cons_zero, List.set_cons_succ] | simp only [Act.put, List.setIfInBounds_toArray, List.set_cons_zero, List.set_cons_succ]))))
              refine wqIdx_load rfl rfl rfl rfl L2.out ?_
              simp only [Act.put, List.setIfInBounds_toArray, List.set_cons_zero, List.set_cons_succ]
              (repeat (first | ((with_reducible apply wq0); rfl; rfl; rfl; intro K hK; go_big_quiet_op; refine hK _ ?_; clear hK K) | ((with_reducible apply wq1); rfl; rfl; rfl; rfl; rfl; rfl; intro K hK; go_big_quiet_op; refine hK _ ?_; clear hK K) | ((with_reducible apply wqs); rfl; rfl; rfl; rfl; rfl; rfl; simp only [Act.put, List.setIfInBounds_toArray, List.set_cons_zero, List.set_cons_succ]) | ((with_reducible apply wqu); rfl; rfl; rfl; rfl; rfl; (first | simp only [same, Act.put, List.setIfInBounds_toArray, List.set_cons_zero, List.set_cons_succ] | simp only [Act.put, List.setIfInBounds_toArray, List.set_cons_zero, List.set_cons_succ]))))
              refine wqIdx_nil ?_
              refine wpAnyR_done (by kernel_rfl) ?_ _
              go_wp2
              go_ret
              exact ⟨ret_bool' NN.out.symm, BD.out⟩
          · have d3 : (x2 == y2) = false := by simpa using e2
            have NN := Lib.hid (NE.out (fun e => e2 (by rw [Rf.mk.injEq] at e; exact e.2.1)))
            clear e2 NE
            subst e1
            go_wp2_with fail
            refine wp_region_R (R := RB) (n := 9) (by kernel_rfl) rfl ?_
            refine batchB [0, 1, 2, 3, 4, 5, 6, 7, 8] (fuel := 0) rfl (by kernel_rfl) (by kernel_rfl) (fun _ _ d _ _ h => by cases d <;> exact h) ?_
            (repeat (first | ((with_reducible apply wq0); rfl; rfl; rfl; intro K hK; go_big_quiet_op; refine hK _ ?_; clear hK K) | ((with_reducible apply wq1); rfl; rfl; rfl; rfl; rfl; rfl; intro K hK; go_big_quiet_op; refine hK _ ?_; clear hK K) | ((with_reducible apply wqs); rfl; rfl; rfl; rfl; rfl; rfl; simp only [Act.put, List.setIfInBounds_toArray, List.set_cons_zero, List.set_cons_succ]) | ((with_reducible apply wqu); rfl; rfl; rfl; rfl; rfl; (first | simp only [same, Act.put, List.setIfInBounds_toArray, List.set_cons_zero, List.set_cons_succ] | simp only [Act.put, List.setIfInBounds_toArray, List.set_cons_zero, List.set_cons_succ]))))
            refine wqIdx_load rfl rfl rfl rfl L1.out ?_
            simp only [Act.put, List.setIfInBounds_toArray, List.set_cons_zero, List.set_cons_succ]
            (repeat (first | ((with_reducible apply wq0); rfl; rfl; rfl; intro K hK; go_big_quiet_op; refine hK _ ?_; clear hK K) | ((with_reducible apply wq1); rfl; rfl; rfl; rfl; rfl; rfl; intro K hK; go_big_quiet_op; refine hK _ ?_; clear hK K) | ((with_reducible apply wqs); rfl; rfl; rfl; rfl; rfl; rfl; simp only [Act.put, List.setIfInBounds_toArray, List.set_cons_zero, List.set_cons_succ]) | ((with_reducible apply wqu); rfl; rfl; rfl; rfl; rfl; (first | simp only [same, Act.put, List.setIfInBounds_toArray, List.set_cons_zero, List.set_cons_succ] | simp only [Act.put, List.setIfInBounds_toArray, List.set_cons_zero, List.set_cons_succ]))))
            refine wqIdx_load rfl rfl rfl rfl L2.out ?_
            simp only [Act.put, List.setIfInBounds_toArray, List.set_cons_zero, List.set_cons_succ]
            (repeat (first | ((with_reducible apply wq0); rfl; rfl; rfl; intro K hK; go_big_quiet_op; refine hK _ ?_; clear hK K) | ((with_reducible apply wq1); rfl; rfl; rfl; rfl; rfl; rfl; intro K hK; go_big_quiet_op; refine hK _ ?_; clear hK K) | ((with_reducible apply wqs); rfl; rfl; rfl; rfl; rfl; rfl; simp only [Act.put, List.setIfInBounds_toArray, List.set_cons_zero, List.set_cons_succ]) | ((with_reducible apply wqu); rfl; rfl; rfl; rfl; rfl; (first | simp only [same, Act.put, List.setIfInBounds_toArray, List.set_cons_zero, List.set_cons_succ] | simp only [Act.put, List.setIfInBounds_toArray, List.set_cons_zero, List.set_cons_succ]))))
            refine wqIdx_nil ?_
            refine wpAnyR_done (by kernel_rfl) ?_ _
            go_wp2
            go_ret
            exact ⟨ret_bool' NN.out.symm, BD.out⟩
        · have d1 := str_dif e1
          have NN := Lib.hid (NE.out (fun e => e1 (by rw [Rf.mk.injEq] at e; exact e.1)))
          clear e1 NE
          go_wp2_with fail
          refine wp_region_R (R := RB) (n := 9) (by kernel_rfl) rfl ?_
          refine batchB [0, 1, 2, 3, 4, 5, 6, 7, 8] (fuel := 0) rfl (by kernel_rfl) (by kernel_rfl) (fun _ _ d _ _ h => by cases d <;> exact h) ?_
          (repeat (first | ((with_reducible apply wq0); rfl; rfl; rfl; intro K hK; go_big_quiet_op; refine hK _ ?_; clear hK K) | ((with_reducible apply wq1); rfl; rfl; rfl; rfl; rfl; rfl; intro K hK; go_big_quiet_op; refine hK _ ?_; clear hK K) | ((with_reducible apply wqs); rfl; rfl; rfl; rfl; rfl; rfl; simp only [Act.put, List.setIfInBounds_toArray, List.set_cons_zero, List.set_cons_succ]) | ((with_reducible apply wqu); rfl; rfl; rfl; rfl; rfl; (first | simp only [same, Act.put, List.setIfInBounds_toArray, List.set_cons_zero, List.set_cons_succ] | simp only [Act.put, List.setIfInBounds_toArray, List.set_cons_zero, List.set_cons_succ]))))
          refine wqIdx_load rfl rfl rfl rfl L1.out ?_
          simp only [Act.put, List.setIfInBounds_toArray, List.set_cons_zero, List.set_cons_succ]
          (repeat (first | ((with_reducible apply wq0); rfl; rfl; rfl; intro K hK; go_big_quiet_op; refine hK _ ?_; clear hK K) | ((with_reducible apply wq1); rfl; rfl; rfl; rfl; rfl; rfl; intro K hK; go_big_quiet_op; refine hK _ ?_; clear hK K) | ((with_reducible apply wqs); rfl; rfl; rfl; rfl; rfl; rfl; simp only [Act.put, List.setIfInBounds_toArray, List.set_cons_zero, List.set_cons_succ]) | ((with_reducible apply wqu); rfl; rfl; rfl; rfl; rfl; (first | simp only [same, Act.put, List.setIfInBounds_toArray, List.set_cons_zero, List.set_cons_succ] | simp only [Act.put, List.setIfInBounds_toArray, List.set_cons_zero, List.set_cons_succ]))))
          refine wqIdx_load rfl rfl rfl rfl L2.out ?_
          simp only [Act.put, List.setIfInBounds_toArray, List.set_cons_zero, List.set_cons_succ]
          (repeat (first | ((with_reducible apply wq0); rfl; rfl; rfl; intro K hK; go_big_quiet_op; refine hK _ ?_; clear hK K) | ((with_reducible apply wq1); rfl; rfl; rfl; rfl; rfl; rfl; intro K hK; go_big_quiet_op; refine hK _ ?_; clear hK K) | ((with_reducible apply wqs); rfl; rfl; rfl; rfl; rfl; rfl; simp only [Act.put, List.setIfInBounds_toArray, List.set_cons_zero, List.set_cons_succ]) | ((with_reducible apply wqu); rfl; rfl; rfl; rfl; rfl; (first | simp only [same, Act.put, List.setIfInBounds_toArray, List.set_cons_zero, List.set_cons_succ] | simp only [Act.put, List.setIfInBounds_toArray, List.set_cons_zero, List.set_cons_succ]))))
          refine wqIdx_nil ?_
          refine wpAnyR_done (by kernel_rfl) ?_ _
          go_wp2
          go_ret
          exact ⟨ret_bool' NN.out.symm, BD.out⟩
      · obtain rfl : k = a.length := by omega
        have heq : a = b := by
          apply List.ext_getElem?
          intro i
          by_cases hi : i < a.length
          · exact HALL.out i hi
          · rw [List.getElem?_eq_none (by omega), List.getElem?_eq_none (by rw [← HL.out]; omega)]
        have HQ := Lib.hid (eqR_yes heq)
        clear heq
        go_wp2
        go_ret
        exact ⟨ret_bool' HQ.out.symm, BW.out⟩
  · have d1 : ((a.length : Int) != (b.length : Int)) = true := by rw [bne_iff_ne]; intro e; exact hl (by omega)
    have HN := Lib.hid (eqR_no (a := a) (b := b) fun e => hl (by rw [e]))
    clear hl ha hb
    generalize a.length = na at d1
    generalize b.length = nb at d1
    go_enter Try.func70, Try.ntmps70
    go_wp2
    go_ret
    exact ⟨ret_bool' HN.out.symm, Below.refl _ _⟩
theorem two_boxes (w : World) (a b : Ed) (A B : Option Addr) (c d : Nat) (t : TypeId) : EdBox ((w.alloc (.cells (edCs a A c) t)).alloc (.cells (edCs b B d) t)) w.heap.size a A c ∧ EdBox ((w.alloc (.cells (edCs a A c) t)).alloc (.cells (edCs b B d) t)) (w.heap.size + 1) b B d := by
  have h1 := (EdBox.new w a A c t).below (alloc_below _ (.cells (edCs b B d) t))
  have h2 := EdBox.new (w.alloc (.cells (edCs a A c) t)) b B d t
  rw [World.size_alloc] at h2
  exact ⟨h1, h2⟩
set_option maxRecDepth 100000 in
set_option maxHeartbeats 4000000 in
theorem ed_same_any (a b : Ed) (A B : Option Addr) (c d ba bb : Nat) (w : World) (ha : RfAt w ba A a.refs) (hb : RfAt w bb B b.refs) (la : a.refs.length ≤ 1000000) (lb : b.refs.length ≤ 1000000) :
    Calls Try.prog 25 #[edV a A c, edV b B d] w fun e w' => e = .returned (.bool (eqE a b)) ∧ Below w.heap.size w w' := by
  have B0 := Lib.hid (below_trans (alloc_below w (.cells (edCs a A c) 50)) (alloc_below _ (.cells (edCs b B d) 50)))
  obtain ⟨⟨-, p0, p1, p2, p3⟩, -, q0, q1, q2, q3⟩ := two_boxes w a b A B c d 50
  have P1 := Lib.hid (rf_equal_any A B a.refs b.refs c d ba bb _ (ha.below B0.out) (hb.below B0.out) la lb)
  clear ha hb la lb
  obtain ⟨k, ep, rd, ra⟩ := a
  obtain ⟨k', ep', rd', rb⟩ := b
  unfold edV
  unfold edCs at *
  simp only at *
  by_cases e1 : k = k'
  · by_cases e2 : ep = ep'
    · by_cases e3 : rd = rd'
      · subst e1 e2 e3
        have HQ := Lib.hid (show eqE ⟨k, ep, rd, ra⟩ ⟨k, ep, rd, rb⟩ = eqR ra rb by
          by_cases h : ra = rb
          · rw [eqR_yes h, eqE_yes (by rw [h])]
          · rw [eqR_no h, eqE_no (fun e => h (by injection e))])
        go_enter Try.func25, Try.ntmps25
        go_wp2_with fail
        refine P1.out.mono ?_; rintro x w1 ⟨rfl, b1⟩
        have B1 := Lib.hid (below_trans B0.out b1)
        clear b1
        go_wp2
        go_ret
        exact ⟨ret_bool' HQ.out.symm, B1.out⟩
      · have d3 : (rd == rd') = false := by simpa using e3
        have HN := Lib.hid (eqE_no (a := ⟨k, ep, rd, ra⟩) (b := ⟨k', ep', rd', rb⟩) fun e => e3 (by injection e))
        subst e1 e2
        clear e3
        go_enter Try.func25, Try.ntmps25
        go_wp2
        go_ret
        exact ⟨ret_bool' HN.out.symm, B0.out⟩
    · have d2 : (ep == ep') = false := by simpa using e2
      have HN := Lib.hid (eqE_no (a := ⟨k, ep, rd, ra⟩) (b := ⟨k', ep', rd', rb⟩) fun e => e2 (by injection e))
      subst e1
      clear e2
      go_enter Try.func25, Try.ntmps25
      go_wp2
      go_ret
      exact ⟨ret_bool' HN.out.symm, B0.out⟩
  · have d1 : (k == k') = false := by simpa using e1
    have HN := Lib.hid (eqE_no (a := ⟨k, ep, rd, ra⟩) (b := ⟨k', ep', rd', rb⟩) fun e => e1 (by injection e))
    clear e1
    go_enter Try.func25, Try.ntmps25
    go_wp2
    go_ret
    exact ⟨ret_bool' HN.out.symm, B0.out⟩
set_option maxRecDepth 100000 in
set_option maxHeartbeats 8000000 in
theorem red_same_any (a b : Ed) (A B : Option Addr) (c d ba bb : Nat) (w : World) (ha : RfAt w ba A a.refs) (hb : RfAt w bb B b.refs) (la : a.refs.length ≤ 1000000) (lb : b.refs.length ≤ 1000000) :
    Calls Try.prog 26 #[edV a A c, edV b B d] w fun e w' => e = .returned (.bool (eqE a b)) ∧ Below w.heap.size w w' := by
  have B0 := Lib.hid (below_trans (alloc_below w (.cells (edCs a A c) 50)) (alloc_below _ (.cells (edCs b B d) 50)))
  obtain ⟨XA, XB⟩ := two_boxes w a b A B c d 50
  have HXA := Lib.hid XA
  have HXB := Lib.hid XB
  obtain ⟨-, p0, p1, p2, p3⟩ := XA
  obtain ⟨-, q0, q1, q2, q3⟩ := XB
  have HA := Lib.hid (ha.below B0.out)
  have HB := Lib.hid (hb.below B0.out)
  clear ha hb
  obtain ⟨k0, ep, rd, a⟩ := a
  obtain ⟨k', ep', rd', b⟩ := b
  unfold edV
  unfold edCs at *
  simp only at *
  by_cases e1 : k0 = k'
  · by_cases e2 : ep = ep'
    · by_cases e3 : rd = rd'
      · subst e1 e2 e3
        have HQ := Lib.hid (show eqE ⟨k0, ep, rd, a⟩ ⟨k0, ep, rd, b⟩ = eqR a b by
          by_cases h : a = b
          · rw [eqR_yes h, eqE_yes (by rw [h])]
          · rw [eqR_no h, eqE_no (fun e => h (by injection e))])
        rw [HQ.out]
        by_cases hl : a.length = b.length
        · have HL := Lib.hid hl
          rw [← hl] at HA HB B0 HXA HXB p0 p1 p2 p3 q0 q1 q2 q3 ⊢
          clear hl
          go_enter Try.func26, Try.ntmps26
          go_wp2_with fail
          clear p0 p1 p2 p3 q0 q1 q2 q3
          generalize hw0 : (w.alloc (.cells #[.int .i64 k0, .int .i64 ep, .int .i64 rd, .slice A a.length c] 50)).alloc (.cells #[.int .i64 k0, .int .i64 ep, .int .i64 rd, .slice B a.length d] 50) = w0 at *
          clear hw0
          go_loopw [5] (fun i wr => ∃ k : Nat, k ≤ a.length ∧ i = .int .i64 (k : Int) ∧ (∀ j, j < k → a[j]? = b[j]?) ∧ Below w0.heap.size w0 wr) (fun i _ => a.length - (intOf i).toNat)
          case atStart => exact ⟨0, Nat.zero_le _, rfl, fun j hj => absurd hj (Nat.not_lt_zero _), Below.refl _ _⟩
          case round =>
            obtain ⟨k, hk, rfl, hall, hbw⟩ := hrel
            have HALL := Lib.hid hall
            have BW := Lib.hid hbw
            clear hall hbw
            by_cases hlt : k < a.length
            · obtain ⟨x, hea⟩ : ∃ x, a[k]? = some x := ⟨_, List.getElem?_eq_getElem hlt⟩
              obtain ⟨y, heb⟩ : ∃ y, b[k]? = some y := ⟨_, List.getElem?_eq_getElem (show k < b.length by rw [← HL.out]; exact hlt)⟩
              obtain ⟨h, o1, rfl, -, px⟩ := (HA.out.below BW.out).at_ hea
              obtain ⟨g, o2, rfl, -, py⟩ := (HB.out.below BW.out).at_ heb
              have L1 := Lib.hid (fun W (hb : RB wr.drew W) => load_rf_at h (o1 + k * 3) x W (fun i u hi => keep_c hb (px i u hi)))
              have L2 := Lib.hid (fun W (hb : RB wr.drew W) => load_rf_at g (o2 + k * 3) y W (fun i u hi => keep_c hb (py i u hi)))
              have EA := Lib.hid hea
              have EB := Lib.hid heb
              clear hea heb px py
              have NE := Lib.hid (show ¬ x = y → eqR a b = false by
                intro hne
                refine eqR_no fun e => ?_
                have h1 := EA.out
                rw [e, EB.out] at h1
                injection h1 with h1
                exact hne h1.symm)
              have BD := Lib.hid (show Below w0.heap.size w0 wr.drew from ⟨BW.out.os, BW.out.tape, BW.out.output, BW.out.size, BW.out.block⟩)
              have BD2 := Lib.hid (below_trans B0.out BD.out)
              have S1 := Lib.hid (show wr.cell? ⟨w.heap.size, 3, none⟩ = some (.slice (some ⟨h, o1, none⟩) a.length c) from (HXA.out.below BW.out).2.2.2.2)
              have S2 := Lib.hid (show wr.cell? ⟨w.heap.size + 1, 3, none⟩ = some (.slice (some ⟨g, o2, none⟩) a.length d) by
                have h := (HXB.out.below BW.out).2.2.2.2
                simp only at h
                rwa [← HL.out] at h)
              have s1 := S1.out
              have s2 := S2.out
              obtain ⟨x1, x2, x3⟩ := x
              obtain ⟨y1, y2, y3⟩ := y
              unfold rfV at L1 L2
              simp only at L1 L2
              by_cases e1 : x1 = y1
              · by_cases e2 : x2 = y2
                · by_cases e3 : x3 = y3
                  · subst e1 e2 e3
                    go_wp2_with fail
                    refine wp_region_R (R := RB) (n := 11) (by kernel_rfl) rfl ?_
                    refine batchB [0, 1, 2, 3, 4, 5, 6, 7, 8, 9, 10] (fuel := 0) rfl (by kernel_rfl) (by kernel_rfl) (fun _ _ d _ _ h => by cases d <;> exact h) ?_
                    (repeat (first | ((with_reducible apply wq0); rfl; rfl; rfl; intro K hK; go_big_quiet_op; refine hK _ ?_; clear hK K) | ((with_reducible apply wq1); rfl; rfl; rfl; rfl; rfl; rfl; intro K hK; go_big_quiet_op; refine hK _ ?_; clear hK K) | ((with_reducible apply wqs); rfl; rfl; rfl; rfl; rfl; rfl; simp only [Act.put, List.setIfInBounds_toArray, List.set_cons_zero, List.set_cons_succ]) | ((with_reducible apply wqu); rfl; rfl; rfl; rfl; rfl; (first | simp only [same, Act.put, List.setIfInBounds_toArray, List.set_cons_zero, List.set_cons_succ] | simp only [Act.put, List.setIfInBounds_toArray, List.set_cons_zero, List.set_cons_succ]))))
                    refine wqIdx_load rfl rfl rfl rfl (fun W hW => run_load1 (fun _ => by kernel_rfl) (keep_c hW (S1.out))) ?_; simp only [Act.put, List.setIfInBounds_toArray, List.set_cons_zero, List.set_cons_succ]
                    (repeat (first | ((with_reducible apply wq0); rfl; rfl; rfl; intro K hK; go_big_quiet_op; refine hK _ ?_; clear hK K) | ((with_reducible apply wq1); rfl; rfl; rfl; rfl; rfl; rfl; intro K hK; go_big_quiet_op; refine hK _ ?_; clear hK K) | ((with_reducible apply wqs); rfl; rfl; rfl; rfl; rfl; rfl; simp only [Act.put, List.setIfInBounds_toArray, List.set_cons_zero, List.set_cons_succ]) | ((with_reducible apply wqu); rfl; rfl; rfl; rfl; rfl; (first | simp only [same, Act.put, List.setIfInBounds_toArray, List.set_cons_zero, List.set_cons_succ] | simp only [Act.put, List.setIfInBounds_toArray, List.set_cons_zero, List.set_cons_succ]))))
                    refine wqIdx_load rfl rfl rfl rfl L1.out ?_
                    simp only [Act.put, List.setIfInBounds_toArray, List.set_cons_zero, List.set_cons_succ]
                    (repeat (first | ((with_reducible apply wq0); rfl; rfl; rfl; intro K hK; go_big_quiet_op; refine hK _ ?_; clear hK K) | ((with_reducible apply wq1); rfl; rfl; rfl; rfl; rfl; rfl; intro K hK; go_big_quiet_op; refine hK _ ?_; clear hK K) | ((with_reducible apply wqs); rfl; rfl; rfl; rfl; rfl; rfl; simp only [Act.put, List.setIfInBounds_toArray, List.set_cons_zero, List.set_cons_succ]) | ((with_reducible apply wqu); rfl; rfl; rfl; rfl; rfl; (first | simp only [same, Act.put, List.setIfInBounds_toArray, List.set_cons_zero, List.set_cons_succ] | simp only [Act.put, List.setIfInBounds_toArray, List.set_cons_zero, List.set_cons_succ]))))
                    refine wqIdx_load rfl rfl rfl rfl (fun W hW => run_load1 (fun _ => by kernel_rfl) (keep_c hW (S2.out))) ?_; simp only [Act.put, List.setIfInBounds_toArray, List.set_cons_zero, List.set_cons_succ]
                    (repeat (first | ((with_reducible apply wq0); rfl; rfl; rfl; intro K hK; go_big_quiet_op; refine hK _ ?_; clear hK K) | ((with_reducible apply wq1); rfl; rfl; rfl; rfl; rfl; rfl; intro K hK; go_big_quiet_op; refine hK _ ?_; clear hK K) | ((with_reducible apply wqs); rfl; rfl; rfl; rfl; rfl; rfl; simp only [Act.put, List.setIfInBounds_toArray, List.set_cons_zero, List.set_cons_succ]) | ((with_reducible apply wqu); rfl; rfl; rfl; rfl; rfl; (first | simp only [same, Act.put, List.setIfInBounds_toArray, List.set_cons_zero, List.set_cons_succ] | simp only [Act.put, List.setIfInBounds_toArray, List.set_cons_zero, List.set_cons_succ]))))
                    refine wqIdx_load rfl rfl rfl rfl L2.out ?_
                    simp only [Act.put, List.setIfInBounds_toArray, List.set_cons_zero, List.set_cons_succ]
                    (repeat (first | ((with_reducible apply wq0); rfl; rfl; rfl; intro K hK; go_big_quiet_op; refine hK _ ?_; clear hK K) | ((with_reducible apply wq1); rfl; rfl; rfl; rfl; rfl; rfl; intro K hK; go_big_quiet_op; refine hK _ ?_; clear hK K) | ((with_reducible apply wqs); rfl; rfl; rfl; rfl; rfl; rfl; simp only [Act.put, List.setIfInBounds_toArray, List.set_cons_zero, List.set_cons_succ]) | ((with_reducible apply wqu); rfl; rfl; rfl; rfl; rfl; (first | simp only [same, Act.put, List.setIfInBounds_toArray, List.set_cons_zero, List.set_cons_succ] | simp only [Act.put, List.setIfInBounds_toArray, List.set_cons_zero, List.set_cons_succ]))))
                    refine wqIdx_nil ?_
                    refine wpAnyR_done (by kernel_rfl) ?_ _
                    go_wp2
                    refine ⟨⟨k + 1, by omega, by go_num, fun j hj => ?_, BD.out⟩, by simp [intOf]; omega⟩
                    by_cases hjk : j = k
                    · subst hjk
                      rw [EA.out, EB.out]
                    · exact HALL.out j (by omega)
                  · have d4 : (x3 == y3) = false := by simpa using e3
                    have NN := Lib.hid (NE.out (fun e => e3 (by rw [Rf.mk.injEq] at e; exact e.2.2)))
                    clear e3 NE
                    subst e1 e2
                    go_wp2_with fail
                    refine wp_region_R (R := RB) (n := 11) (by kernel_rfl) rfl ?_
                    refine batchB [0, 1, 2, 3, 4, 5, 6, 7, 8, 9, 10] (fuel := 0) rfl (by kernel_rfl) (by kernel_rfl) (fun _ _ d _ _ h => by cases d <;> exact h) ?_
                    (repeat (first | ((with_reducible apply wq0); rfl; rfl; rfl; intro K hK; go_big_quiet_op; refine hK _ ?_; clear hK K) | ((with_reducible apply wq1); rfl; rfl; rfl; rfl; rfl; rfl; intro K hK; go_big_quiet_op; refine hK _ ?_; clear hK K) | ((with_reducible apply wqs); rfl; rfl; rfl; rfl; rfl; rfl; simp only [Act.put, List.setIfInBounds_toArray, List.set_cons_zero, List.set_cons_succ]) | ((with_reducible apply wqu); rfl; rfl; rfl; rfl; rfl; (first | simp only [same, Act.put, List.setIfInBounds_toArray, List.set_cons_zero, List.set_cons_succ] | simp only [Act.put, List.setIfInBounds_toArray, List.set_cons_zero, List.set_cons_succ]))))
                    refine wqIdx_load rfl rfl rfl rfl (fun W hW => run_load1 (fun _ => by kernel_rfl) (keep_c hW (S1.out))) ?_; simp only [Act.put, List.setIfInBounds_toArray, List.set_cons_zero, List.set_cons_succ]
                    (repeat (first | ((with_reducible apply wq0); rfl; rfl; rfl; intro K hK; go_big_quiet_op; refine hK _ ?_; clear hK K) | ((with_reducible apply wq1); rfl; rfl; rfl; rfl; rfl; rfl; intro K hK; go_big_quiet_op; refine hK _ ?_; clear hK K) | ((with_reducible apply wqs); rfl; rfl; rfl; rfl; rfl; rfl; simp only [Act.put, List.setIfInBounds_toArray, List.set_cons_zero, List.set_cons_succ]) | ((with_reducible apply wqu); rfl; rfl; rfl; rfl; rfl; (first | simp only [same, Act.put, List.setIfInBounds_toArray, List.set_cons_zero, List.set_cons_succ] | simp only [Act.put, List.setIfInBounds_toArray, List.set_cons_zero, List.set_cons_succ]))))
                    refine wqIdx_load rfl rfl rfl rfl L1.out ?_
                    simp only [Act.put, List.setIfInBounds_toArray, List.set_cons_zero, List.set_cons_succ]
                    (repeat (first | ((with_reducible apply wq0); rfl; rfl; rfl; intro K hK; go_big_quiet_op; refine hK _ ?_; clear hK K) | ((with_reducible apply wq1); rfl; rfl; rfl; rfl; rfl; rfl; intro K hK; go_big_quiet_op; refine hK _ ?_; clear hK K) | ((with_reducible apply wqs); rfl; rfl; rfl; rfl; rfl; rfl; simp only [Act.put, List.setIfInBounds_toArray, List.set_cons_zero, List.set_cons_succ]) | ((with_reducible apply wqu); rfl; rfl; rfl; rfl; rfl; (first | simp only [same, Act.put, List.setIfInBounds_toArray, List.set_cons_zero, List.set_cons_succ] | simp only [Act.put, List.setIfInBounds_toArray, List.set_cons_zero, List.set_cons_succ]))))
                    refine wqIdx_load rfl rfl rfl rfl (fun W hW => run_load1 (fun _ => by kernel_rfl) (keep_c hW (S2.out))) ?_; simp only [Act.put, List.setIfInBounds_toArray, List.set_cons_zero, List.set_cons_succ]
                    (repeat (first | ((with_reducible apply wq0); rfl; rfl; rfl; intro K hK; go_big_quiet_op; refine hK _ ?_; clear hK K) | ((with_reducible apply wq1); rfl; rfl; rfl; rfl; rfl; rfl; intro K hK; go_big_quiet_op; refine hK _ ?_; clear hK K) | ((with_reducible apply wqs); rfl; rfl; rfl; rfl; rfl; rfl; simp only [Act.put, List.setIfInBounds_toArray, List.set_cons_zero, List.set_cons_succ]) | ((with_reducible apply wqu); rfl; rfl; rfl; rfl; rfl; (first | simp only [same, Act.put, List.setIfInBounds_toArray, List.set_cons_zero, List.set_cons_succ] | simp only [Act.put, List.setIfInBounds_toArray, List.set_cons_zero, List.set_cons_succ]))))
                    refine wqIdx_load rfl rfl rfl rfl L2.out ?_
                    simp only [Act.put, List.setIfInBounds_toArray, List.set_cons_zero, List.set_cons_succ]
                    (repeat (first | ((with_reducible apply wq0); rfl; rfl; rfl; intro K hK; go_big_quiet_op; refine hK _ ?_; clear hK K) | ((with_reducible apply wq1); rfl; rfl; rfl; rfl; rfl; rfl; intro K hK; go_big_quiet_op; refine hK _ ?_; clear hK K) | ((with_reducible apply wqs); rfl; rfl; rfl; rfl; rfl; rfl; simp only [Act.put, List.setIfInBounds_toArray, List.set_cons_zero, List.set_cons_succ]) | ((with_reducible apply wqu); rfl; rfl; rfl; rfl; rfl; (first | simp only [same, Act.put, List.setIfInBounds_toArray, List.set_cons_zero, List.set_cons_succ] | simp only [Act.put, List.setIfInBounds_toArray, List.set_cons_zero, List.set_cons_succ]))))
                    refine wqIdx_nil ?_
                    refine wpAnyR_done (by kernel_rfl) ?_ _
                    go_wp2
                    go_ret
                    exact ⟨ret_bool' NN.out.symm, BD2.out⟩
                · have d3 : (x2 == y2) = false := by simpa using e2
                  have NN := Lib.hid (NE.out (fun e => e2 (by rw [Rf.mk.injEq] at e; exact e.2.1)))
                  clear e2 NE
                  subst e1
                  go_wp2_with fail
                  refine wp_region_R (R := RB) (n := 11) (by kernel_rfl) rfl ?_
                  refine batchB [0, 1, 2, 3, 4, 5, 6, 7, 8, 9, 10] (fuel := 0) rfl (by kernel_rfl) (by kernel_rfl) (fun _ _ d _ _ h => by cases d <;> exact h) ?_
                  (repeat (first | ((with_reducible apply wq0); rfl; rfl; rfl; intro K hK; go_big_quiet_op; refine hK _ ?_; clear hK K) | ((with_reducible apply wq1); rfl; rfl; rfl; rfl; rfl; rfl; intro K hK; go_big_quiet_op; refine hK _ ?_; clear hK K) | ((with_reducible apply wqs); rfl; rfl; rfl; rfl; rfl; rfl; simp only [Act.put, List.setIfInBounds_toArray, List.set_cons_zero, List.set_cons_succ]) | ((with_reducible apply wqu); rfl; rfl; rfl; rfl; rfl; (first | simp only [same, Act.put, List.setIfInBounds_toArray, List.set_cons_zero, List.set_cons_succ] | simp only [Act.put, List.setIfInBounds_toArray, List.set_cons_zero, List.set_cons_succ]))))
                  refine wqIdx_load rfl rfl rfl rfl (fun W hW => run_load1 (fun _ => by kernel_rfl) (keep_c hW (S1.out))) ?_; simp only [Act.put, List.setIfInBounds_toArray, List.set_cons_zero, List.set_cons_succ]
                  (repeat (first | ((with_reducible apply wq0); rfl; rfl; rfl; intro K hK; go_big_quiet_op; refine hK _ ?_; clear hK K) | ((with_reducible apply wq1); rfl; rfl; rfl; rfl; rfl; rfl; intro K hK; go_big_quiet_op; refine hK _ ?_; clear hK K) | ((with_reducible apply wqs); rfl; rfl; rfl; rfl; rfl; rfl; simp only [Act.put, List.setIfInBounds_toArray, List.set_cons_zero, List.set_cons_succ]) | ((with_reducible apply wqu); rfl; rfl; rfl; rfl; rfl; (first | simp only [same, Act.put, List.setIfInBounds_toArray, List.set_cons_zero, List.set_cons_succ] | simp only [Act.put, List.setIfInBounds_toArray, List.set_cons_zero, List.set_cons_succ]))))
                  refine wqIdx_load rfl rfl rfl rfl L1.out ?_
                  simp only [Act.put, List.setIfInBounds_toArray, List.set_cons_zero, List.set_cons_succ]
                  (repeat (first | ((with_reducible apply wq0); rfl; rfl; rfl; intro K hK; go_big_quiet_op; refine hK _ ?_; clear hK K) | ((with_reducible apply wq1); rfl; rfl; rfl; rfl; rfl; rfl; intro K hK; go_big_quiet_op; refine hK _ ?_; clear hK K) | ((with_reducible apply wqs); rfl; rfl; rfl; rfl; rfl; rfl; simp only [Act.put, List.setIfInBounds_toArray, List.set_cons_zero, List.set_cons_succ]) | ((with_reducible apply wqu); rfl; rfl; rfl; rfl; rfl; (first | simp only [same, Act.put, List.setIfInBounds_toArray, List.set_cons_zero, List.set_cons_succ] | simp only [Act.put, List.setIfInBounds_toArray, List.set_cons_zero, List.set_cons_succ]))))
                  refine wqIdx_load rfl rfl rfl rfl (fun W hW => run_load1 (fun _ => by kernel_rfl) (keep_c hW (S2.out))) ?_; simp only [Act.put, List.setIfInBounds_toArray, List.set_cons_zero, List.set_cons_succ]
                  (repeat (first | ((with_reducible apply wq0); rfl; rfl; rfl; intro K hK; go_big_quiet_op; refine hK _ ?_; clear hK K) | ((with_reducible apply wq1); rfl; rfl; rfl; rfl; rfl; rfl; intro K hK; go_big_quiet_op; refine hK _ ?_; clear hK K) | ((with_reducible apply wqs); rfl; rfl; rfl; rfl; rfl; rfl; simp only [Act.put, List.setIfInBounds_toArray, List.set_cons_zero, List.set_cons_succ]) | ((with_reducible apply wqu); rfl; rfl; rfl; rfl; rfl; (first | simp only [same, Act.put, List.setIfInBounds_toArray, List.set_cons_zero, List.set_cons_succ] | simp only [Act.put, List.setIfInBounds_toArray, List.set_cons_zero, List.set_cons_succ]))))
                  refine wqIdx_load rfl rfl rfl rfl L2.out ?_
                  simp only [Act.put, List.setIfInBounds_toArray, List.set_cons_zero, List.set_cons_succ]
                  (repeat (first | ((with_reducible apply wq0); rfl; rfl; rfl; intro K hK; go_big_quiet_op; refine hK _ ?_; clear hK K) | ((with_reducible apply wq1); rfl; rfl; rfl; rfl; rfl; rfl; intro K hK; go_big_quiet_op; refine hK _ ?_; clear hK K) | ((with_reducible apply wqs); rfl; rfl; rfl; rfl; rfl; rfl; simp only [Act.put, List.setIfInBounds_toArray, List.set_cons_zero, List.set_cons_succ]) | ((with_reducible apply wqu); rfl; rfl; rfl; rfl; rfl; (first | simp only [same, Act.put, List.setIfInBounds_toArray, List.set_cons_zero, List.set_cons_succ] | simp only [Act.put, List.setIfInBounds_toArray, List.set_cons_zero, List.set_cons_succ]))))
                  refine wqIdx_nil ?_
                  refine wpAnyR_done (by kernel_rfl) ?_ _
                  go_wp2
                  go_ret
                  exact ⟨ret_bool' NN.out.symm, BD2.out⟩
              · have d1 := str_dif e1
                have NN := Lib.hid (NE.out (fun e => e1 (by rw [Rf.mk.injEq] at e; exact e.1)))
                clear e1 NE
                go_wp2_with fail
                refine wp_region_R (R := RB) (n := 11) (by kernel_rfl) rfl ?_
                refine batchB [0, 1, 2, 3, 4, 5, 6, 7, 8, 9, 10] (fuel := 0) rfl (by kernel_rfl) (by kernel_rfl) (fun _ _ d _ _ h => by cases d <;> exact h) ?_
                (repeat (first | ((with_reducible apply wq0); rfl; rfl; rfl; intro K hK; go_big_quiet_op; refine hK _ ?_; clear hK K) | ((with_reducible apply wq1); rfl; rfl; rfl; rfl; rfl; rfl; intro K hK; go_big_quiet_op; refine hK _ ?_; clear hK K) | ((with_reducible apply wqs); rfl; rfl; rfl; rfl; rfl; rfl; simp only [Act.put, List.setIfInBounds_toArray, List.set_cons_zero, List.set_cons_succ]) | ((with_reducible apply wqu); rfl; rfl; rfl; rfl; rfl; (first | simp only [same, Act.put, List.setIfInBounds_toArray, List.set_cons_zero, List.set_cons_succ] | simp only [Act.put, List.setIfInBounds_toArray, List.set_cons_zero, List.set_cons_succ]))))
                refine wqIdx_load rfl rfl rfl rfl (fun W hW => run_load1 (fun _ => by kernel_rfl) (keep_c hW (S1.out))) ?_; simp only [Act.put, List.setIfInBounds_toArray, List.set_cons_zero, List.set_cons_succ]
                (repeat (first | ((with_reducible apply wq0); rfl; rfl; rfl; intro K hK; go_big_quiet_op; refine hK _ ?_; clear hK K) | ((with_reducible apply wq1); rfl; rfl; rfl; rfl; rfl; rfl; intro K hK; go_big_quiet_op; refine hK _ ?_; clear hK K) | ((with_reducible apply wqs); rfl; rfl; rfl; rfl; rfl; rfl; simp only [Act.put, List.setIfInBounds_toArray, List.set_cons_zero, List.set_cons_succ]) | ((with_reducible apply wqu); rfl; rfl; rfl; rfl; rfl; (first | simp only [same, Act.put, List.setIfInBounds_toArray, List.set_cons_zero, List.set_cons_succ] | simp only [Act.put, List.setIfInBounds_toArray, List.set_cons_zero, List.set_cons_succ]))))
                refine wqIdx_load rfl rfl rfl rfl L1.out ?_
                simp only [Act.put, List.setIfInBounds_toArray, List.set_cons_zero, List.set_cons_succ]
                (repeat (first | ((with_reducible apply wq0); rfl; rfl; rfl; intro K hK; go_big_quiet_op; refine hK _ ?_; clear hK K) | ((with_reducible apply wq1); rfl; rfl; rfl; rfl; rfl; rfl; intro K hK; go_big_quiet_op; refine hK _ ?_; clear hK K) | ((with_reducible apply wqs); rfl; rfl; rfl; rfl; rfl; rfl; simp only [Act.put, List.setIfInBounds_toArray, List.set_cons_zero, List.set_cons_succ]) | ((with_reducible apply wqu); rfl; rfl; rfl; rfl; rfl; (first | simp only [same, Act.put, List.setIfInBounds_toArray, List.set_cons_zero, List.set_cons_succ] | simp only [Act.put, List.setIfInBounds_toArray, List.set_cons_zero, List.set_cons_succ]))))
                refine wqIdx_load rfl rfl rfl rfl (fun W hW => run_load1 (fun _ => by kernel_rfl) (keep_c hW (S2.out))) ?_; simp only [Act.put, List.setIfInBounds_toArray, List.set_cons_zero, List.set_cons_succ]
                (repeat (first | ((with_reducible apply wq0); rfl; rfl; rfl; intro K hK; go_big_quiet_op; refine hK _ ?_; clear hK K) | ((with_reducible apply wq1); rfl; rfl; rfl; rfl; rfl; rfl; intro K hK; go_big_quiet_op; refine hK _ ?_; clear hK K) | ((with_reducible apply wqs); rfl; rfl; rfl; rfl; rfl; rfl; simp only [Act.put, List.setIfInBounds_toArray, List.set_cons_zero, List.set_cons_succ]) | ((with_reducible apply wqu); rfl; rfl; rfl; rfl; rfl; (first | simp only [same, Act.put, List.setIfInBounds_toArray, List.set_cons_zero, List.set_cons_succ] | simp only [Act.put, List.setIfInBounds_toArray, List.set_cons_zero, List.set_cons_succ]))))
                refine wqIdx_load rfl rfl rfl rfl L2.out ?_
                simp only [Act.put, List.setIfInBounds_toArray, List.set_cons_zero, List.set_cons_succ]
                (repeat (first | ((with_reducible apply wq0); rfl; rfl; rfl; intro K hK; go_big_quiet_op; refine hK _ ?_; clear hK K) | ((with_reducible apply wq1); rfl; rfl; rfl; rfl; rfl; rfl; intro K hK; go_big_quiet_op; refine hK _ ?_; clear hK K) | ((with_reducible apply wqs); rfl; rfl; rfl; rfl; rfl; rfl; simp only [Act.put, List.setIfInBounds_toArray, List.set_cons_zero, List.set_cons_succ]) | ((with_reducible apply wqu); rfl; rfl; rfl; rfl; rfl; (first | simp only [same, Act.put, List.setIfInBounds_toArray, List.set_cons_zero, List.set_cons_succ] | simp only [Act.put, List.setIfInBounds_toArray, List.set_cons_zero, List.set_cons_succ]))))
                refine wqIdx_nil ?_
                refine wpAnyR_done (by kernel_rfl) ?_ _
                go_wp2
                go_ret
                exact ⟨ret_bool' NN.out.symm, BD2.out⟩
            · obtain rfl : k = a.length := by omega
              have heq : a = b := by
                apply List.ext_getElem?
                intro i
                by_cases hi : i < a.length
                · exact HALL.out i hi
                · rw [List.getElem?_eq_none (by omega), List.getElem?_eq_none (by rw [← HL.out]; omega)]
              have HQ2 := Lib.hid (eqR_yes heq)
              have s1 := (HXA.out.below BW.out).2.2.2.2
              simp only at s1
              clear heq
              go_wp2
              go_ret
              exact ⟨ret_bool' HQ2.out.symm, below_trans B0.out BW.out⟩
        · have d4 : ((a.length : Int) != (b.length : Int)) = true := by rw [bne_iff_ne]; intro e; exact hl (by omega)
          have HN := Lib.hid (eqR_no (a := a) (b := b) fun e => hl (by rw [e]))
          clear hl HXA HXB HA HB
          generalize a.length = na at *
          generalize b.length = nb at *
          go_enter Try.func26, Try.ntmps26
          go_wp2
          go_ret
          exact ⟨ret_bool' HN.out.symm, B0.out⟩
      · have d3 : (rd == rd') = false := by simpa using e3
        have HN := Lib.hid (eqE_no (a := ⟨k0, ep, rd, a⟩) (b := ⟨k', ep', rd', b⟩) fun e => e3 (by injection e))
        subst e1 e2
        clear e3
        go_enter Try.func26, Try.ntmps26
        go_wp2
        go_ret
        exact ⟨ret_bool' HN.out.symm, B0.out⟩
    · have d2 : (ep == ep') = false := by simpa using e2
      have HN := Lib.hid (eqE_no (a := ⟨k0, ep, rd, a⟩) (b := ⟨k', ep', rd', b⟩) fun e => e2 (by injection e))
      subst e1
      clear e2
      go_enter Try.func26, Try.ntmps26
      go_wp2
      go_ret
      exact ⟨ret_bool' HN.out.symm, B0.out⟩
  · have d1 : (k0 != k') = true := by simpa using e1
    have HN := Lib.hid (eqE_no (a := ⟨k0, ep, rd, a⟩) (b := ⟨k', ep', rd', b⟩) fun e => e1 (by injection e))
    clear e1
    go_enter Try.func26, Try.ntmps26
    go_wp2
    go_ret
    exact ⟨ret_bool' HN.out.symm, B0.out⟩
end Go.Proofs.Ytfmmdnjoichifaa
