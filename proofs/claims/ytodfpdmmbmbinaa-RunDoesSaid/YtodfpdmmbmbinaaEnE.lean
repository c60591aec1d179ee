/- Contracts of entries: Same of the document's; Sort of the program's. -/
import Derived.Test.YtodfpdmmbmbinaaEnD
namespace Go.Proofs.Ytodfpdmmbmbinaa
open Go.RowKit Go.Sort

/-- Entries in a row of one's own. -/
def RowE (w : World) (m : List En) (A' : Option Addr) (c' : Nat) (w' : World) : Prop :=
  (∃ h, SlK encE w' h A' m) ∧ Below w.heap.size w w' ∧ (m ≠ [] → ∃ g, A' = some ⟨g, 0, none⟩ ∧ w.heap.size ≤ g ∧ m.length ≤ c' ∧ c' ≤ maxLen)
/-- A copy of entries, in a row of one's own. -/
def CopyEn (w : World) (l : List En) (e : Ending) (w' : World) : Prop :=
  ∃ A' c', e = .returned (.slice A' l.length c') ∧ Below w.heap.size w w' ∧ (l ≠ [] → ∃ g cur, A' = some ⟨g, 0, none⟩ ∧ w.heap.size ≤ g ∧ w'.heap[g]? = some (.cells cur 65 (0, 0)) ∧ cur.toList.take (l.length * 4) = RowV encE l ∧ l.length ≤ c' ∧ c' ≤ maxLen)
set_option maxRecDepth 100000 in
set_option maxHeartbeats 400000 in
theorem cloneEn_empty (A : Option Addr) (c : Nat) (w : World) :
    Calls Try.prog 114 #[.slice A 0 c] w (CopyEn w []) := by
  have q22 : ∀ (w : World) (a : Option Addr) (n c n' c' : Nat), (binOp .eql 70 (.slice a n c) (.slice none n' c')).run Try.prog w = .ok (.bool a.isNone) w := fun w a n c n' c' => Lib.run_eql_slice_nil w _ _ a n c n' c' Try.underlying70
  cases A
  · go_enter Try.func114, Try.ntmps114
    go_wp2
    go_ret
    exact ⟨none, 0, rfl, Below.refl _ _, fun h => absurd rfl h⟩
  · go_enter Try.func114, Try.ntmps114
    go_wp2
    go_ret
    exact ⟨_, _, rfl, alloc_below _ _, fun h => absurd rfl h⟩
set_option maxHeartbeats 400000 in
theorem cloneEn_any (A : Option Addr) (h : Nat) (l : List En) (c : Nat) (w : World) (hl : SlK encE w h A l) (hn : l.length ≤ 20000) :
    Calls Try.prog 114 #[.slice A l.length c] w (CopyEn w l) := by
  by_cases h0 : l = []
  · subst h0
    exact cloneEn_empty A c w
  · obtain ⟨hh, off, rfl, hc⟩ := hl h0
    obtain ⟨i0, hi0, hzz⟩ := Option.map_eq_some_iff.1 info_en3
    simp only [Prod.mk.injEq] at hzz
    obtain ⟨hz0, hz1, hz2⟩ := hzz
    refine (AnyE.slices_Clone Try.cloneEn i0 _ 4 32 hi0 hz0 hz1 hz2 rfl (by omega) Try.sizeOf65 h off l.length c (RowV encE l) w (RowV_length layE l) (by unfold maxLen; omega) (by omega) hc (RowV_one layE l)).mono ?_
    rintro e w' ⟨v', rfl, ho, -, hb⟩
    rcases ho.2 with ⟨-, hz⟩ | ⟨g, cap, cur, rfl, hg, hhg, hnc, hcm, -, ht⟩
    · exact absurd (List.eq_nil_of_length_eq_zero hz) h0
    · exact ⟨_, cap, rfl, hb, fun _ => ⟨g, cur, rfl, hg, hhg, ht, hnc, hcm⟩⟩
theorem cmpE_lays (blk off size : Nat) (w : World) : CmpLays Try.prog 116 #[] encE 4 (fun x y => cmpE x y) blk off size w :=
  fun _ _ _ _ x y => en_compare_grow x y _
theorem sort_srtE (l : List En) : (l.mergeSort fun x y => !(ltE y x)) = srtE l := by
  unfold srtE
  congr 1
  funext x y
  exact (leE_lt x y).symm
set_option maxHeartbeats 400000 in
theorem sortEn_any (g c : Nat) (cur : Array Value) (l : List En) (w : World) (hh : w.heap[g]? = some (.cells cur 65 (0, 0))) (ht : cur.toList.take (l.length * 4) = RowV encE l) (hn : l.length ≤ 20000) :
    Calls Try.prog 115 #[.slice (some ⟨g, 0, none⟩) l.length c, .func (.func 116) #[] #[]] w fun e w' => e = .returned (.tuple #[]) ∧ SlK encE w' g (some ⟨g, 0, none⟩) (srtE l) ∧ ∀ B, B ≤ g → Below B w w' := by
  have eg : ∀ args w, (callFunc 116 args).run Try.prog w = .ok (.enter 116 args) w := enters_of Try.func116 (by kernel_rfl) rfl
  have hlt : g < w.heap.size := Blk.lt (t := 65) hh
  have hH := holdsK_rowV layE hh ht
  have hcon := AnyQ.slices_SortFunc_total Try.sortEn 4 Try.isAgg65 Try.sizeOf65 encE layE.len layE.one (fun x y => cmpE x y) (by rw [ltOf_cmpE]; exact ltE_swo) 116 #[] g 0 c l.toArray w eg (cmpE_lays g 0 l.toArray.size w) hH hlt (by simp; omega) (by rw [ltOf_cmpE]; exact ltE_total)
  rw [ltOf_cmpE] at hcon
  change Calls Try.prog 115 _ _ _ at hcon
  simp only [List.size_toArray] at hcon
  refine hcon.mono ?_
  rintro e w' ⟨rfl, n, os, rfl⟩
  refine ⟨rfl, ?_, fun B hB => sorted_below_k hB hlt⟩
  have := sorted_slk layE (m := n) (os := os) hH hlt (srtE_length l)
  rw [← sort_srtE] at this
  rw [← sort_srtE]
  exact this
set_option maxHeartbeats 400000 in
theorem sortCopyEn_any (w : World) (l : List En) (A' : Option Addr) (c' : Nat) (w1 : World) (hn : l.length ≤ 20000)
    (hc : l ≠ [] → ∃ g cur, A' = some ⟨g, 0, none⟩ ∧ w.heap.size ≤ g ∧ w1.heap[g]? = some (.cells cur 65 (0, 0)) ∧ cur.toList.take (l.length * 4) = RowV encE l ∧ l.length ≤ c' ∧ c' ≤ maxLen) (hb : Below w.heap.size w w1) :
    Calls Try.prog 115 #[.slice A' l.length c', .func (.func 116) #[] #[]] w1 fun e w' => e = .returned (.tuple #[]) ∧ (∃ h, SlK encE w' h A' (srtE l)) ∧ Below w.heap.size w w' := by
  by_cases h0 : l = []
  · subst h0
    refine (AnyF.slices_SortFunc_none Try.sortEn A' c' _ w1).mono ?_
    rintro e w' ⟨rfl, rfl⟩
    exact ⟨rfl, ⟨0, fun e => absurd (List.eq_nil_of_length_eq_zero (srtE_length [])) e⟩, hb⟩
  · obtain ⟨g, cur, rfl, hg, hh, ht, hnc, hcm⟩ := hc h0
    refine (sortEn_any g c' cur l w1 hh ht hn).mono ?_
    rintro e w' ⟨rfl, hs, hb2⟩
    exact ⟨rfl, ⟨g, hs⟩, hb.trans (hb2 _ hg)⟩
theorem mayEs_ok {l : List En} (h : mayEs l = 0) : firstE l = 0 ∧ l.length ≤ 16384 := by
  unfold mayEs at h
  by_cases h1 : firstE l = 0
  · rw [if_pos h1] at h
    split at h
    · cases h
    · exact ⟨h1, by omega⟩
  · rw [if_neg h1] at h
    exact absurd h h1
set_option maxRecDepth 100000 in
set_option maxHeartbeats 1000000 in
theorem en_sort_any (A : Option Addr) (h : Nat) (l : List En) (c : Nat) (w : World) (hl : SlK encE w h A l) (hn : l.length ≤ 50000) :
    Calls Try.prog 89 #[.slice A l.length c] w fun e w' => (mayEs l ≠ 0 ∧ e = .returned (.tuple #[.slice none 0 0, .int .i64 (mayEs l)]) ∧ Below w.heap.size w w') ∨ (mayEs l = 0 ∧ ∃ A' c', e = .returned (.tuple #[.slice A' l.length c', .int .i64 0]) ∧ RowE w (srtE l) A' c' w') := by
  have P1 := Lib.hid (en_may_any A h l c w hl hn)
  have HL := Lib.hid hl
  clear hl
  by_cases h0 : mayEs l = 0
  · have hok := mayEs_ok h0
    rw [h0] at P1
    have H0 := Lib.hid h0
    clear h0
    go_enter Try.func89, Try.ntmps89
    go_wp2_with fail
    refine P1.out.mono ?_; rintro e w0 ⟨rfl, b0⟩
    have P2 := Lib.hid (cloneEn_any A h l c w0 (HL.out.below b0) (by omega))
    have B0 := Lib.hid b0
    clear b0
    go_wp2_with fail
    refine P2.out.mono ?_; rintro e w1 ⟨A', c', rfl, b1, hc⟩
    have P3 := Lib.hid (sortCopyEn_any w0 l A' c' w1 (by omega) hc b1)
    have HC := Lib.hid hc
    clear hc b1
    go_wp2_with fail
    refine P3.out.mono ?_; rintro e w2 ⟨rfl, hS, b2⟩
    go_wp2
    go_ret2
    refine .inr ⟨H0.out, A', c', rfl, hS, below_trans B0.out b2, fun hne => ?_⟩
    obtain ⟨g, cur, e1, hg, -, -, h1, h2⟩ := HC.out fun e => hne (by rw [e]; exact List.eq_nil_of_length_eq_zero (srtE_length []))
    exact ⟨g, e1, Nat.le_trans B0.out.size hg, by rw [srtE_length]; exact h1, h2⟩
  · have d1 : (mayEs l == 0) = false := by simpa using h0
    have H0 := Lib.hid h0
    clear h0
    generalize mayEs l = z at P1 d1 H0
    go_enter Try.func89, Try.ntmps89
    go_wp2_with fail
    refine P1.out.mono ?_; rintro e w0 ⟨rfl, b0⟩
    go_wp2
    go_ret2
    exact .inl ⟨H0.out, rfl, b0⟩
set_option maxRecDepth 100000 in
set_option maxHeartbeats 2000000 in
theorem ren_same_any (A B : Option Addr) (h g : Nat) (a b : List En) (c d : Nat) (w : World) (ha : SlK encE w h A a) (hb : SlK encE w g B b) (la : a.length ≤ 100000) (_lb : b.length ≤ 100000) :
    Calls Try.prog 36 #[.slice A a.length c, .slice B b.length d] w fun e w' => e = .returned (.bool (a == b)) ∧ Below w.heap.size w w' := by
  by_cases hl : a.length = b.length
  · have HA := Lib.hid ha
    have HB := Lib.hid hb
    have HL := Lib.hid hl
    rw [← hl]
    clear ha hb hl _lb
    go_enter Try.func36, Try.ntmps36
    go_wp2_with fail
    go_loopw [5] (fun i wr => ∃ k : Nat, k ≤ a.length ∧ i = .int .i64 (k : Int) ∧ (∀ j, j < k → a[j]? = b[j]?) ∧ Below w.heap.size w wr) (fun i _ => a.length - (intOf i).toNat)
    case atStart => exact ⟨0, Nat.zero_le _, rfl, fun j hj => absurd hj (Nat.not_lt_zero _), Below.refl _ _⟩
    case round =>
      obtain ⟨k, hk, rfl, hall, hbw⟩ := hrel
      have HALL := Lib.hid hall
      have BW := Lib.hid hbw
      clear hall hbw
      by_cases hlt : k < a.length
      · obtain ⟨x, hea⟩ : ∃ x, a[k]? = some x := ⟨_, List.getElem?_eq_getElem hlt⟩
        obtain ⟨y, heb⟩ : ∃ y, b[k]? = some y := ⟨_, List.getElem?_eq_getElem (show k < b.length by rw [← HL.out]; exact hlt)⟩
        obtain ⟨-, o1, rfl, px⟩ := (HA.out.below BW.out).at_ layE hea
        obtain ⟨-, o2, rfl, py⟩ := (HB.out.below BW.out).at_ layE heb
        have L1 := Lib.hid (fun W (hb : RB wr.drew W) => load_en_at h (o1 + k * 4) x W (fun i u hi => keep_cell hb (px i u hi)))
        have L2 := Lib.hid (fun W (hb : RB wr.drew W) => load_en_at g (o2 + k * 4) y W (fun i u hi => keep_cell hb (py i u hi)))
        have EA := Lib.hid hea
        have EB := Lib.hid heb
        clear hea heb px py
        have NE := Lib.hid (show ¬ x = y → (a == b) = false by
          intro hne
          rw [beq_eq_false_iff_ne]
          intro e
          have h1 := EA.out
          rw [e, EB.out] at h1
          injection h1 with h1
          exact hne h1.symm)
        have BD := Lib.hid (show Below w.heap.size w wr.drew from ⟨BW.out.os, BW.out.tape, BW.out.output, BW.out.size, BW.out.block⟩)
        obtain ⟨⟨x1, x2⟩, x3, x4⟩ := x
        obtain ⟨⟨y1, y2⟩, y3, y4⟩ := y
        unfold enV at L1 L2
        by_cases e1 : x1 = y1
        · by_cases e2 : x2 = y2
          · by_cases e3 : x3 = y3
            · by_cases e4 : x4 = y4
              · subst e1 e2 e3 e4
                go_wp2_with fail
                refine wp_region_R (R := RB) (n := 9) (by kernel_rfl) rfl ?_
                refine batchB [0, 1, 2, 3, 4, 5, 6, 7, 8] (fuel := 0) rfl (by kernel_rfl) (by kernel_rfl) (fun _ _ d _ _ h => by cases d <;> exact h) ?_
                (repeat (first | ((with_reducible apply wq0); rfl; rfl; rfl; intro K hK; go_big_quiet_op; refine hK _ ?_; clear hK K) | ((with_reducible apply wq1); rfl; rfl; rfl; rfl; rfl; rfl; intro K hK; go_big_quiet_op; refine hK _ ?_; clear hK K) | ((with_reducible apply wqs); rfl; rfl; rfl; rfl; rfl; rfl; simp only [Act.put, List.setIfInBounds_toArray, List.set_cons_zero, List.set_cons_succ]) | ((with_reducible apply wqu); rfl; rfl; rfl; rfl; rfl; (first | simp only [same, Act.put, List.setIfInBounds_toArray, List.set_cons_zero, List.set_cons_succ] | simp only [Act.put, List.setIfInBounds_toArray, List.set_cons_zero, List.set_cons_succ]))))
                refine wqIdx_load rfl rfl rfl rfl L1.out ?_
                simp only [Act.put, List.setIfInBounds_toArray, List.set_cons_zero, List.set_cons_succ]
                (repeat (first | ((with_reducible apply wq0); rfl; rfl; rfl; intro K hK; go_big_quiet_op; refine hK _ ?_; clear hK K) | ((with_reducible apply wq1); rfl; rfl; rfl; rfl; rfl; rfl; intro K hK; go_big_quiet_op; refine hK _ ?_; clear hK K) | ((with_reducible apply wqs); rfl; rfl; rfl; rfl; rfl; rfl; simp only [Act.put, List.setIfInBounds_toArray, List.set_cons_zero, List.set_cons_succ]) | ((with_reducible apply wqu); rfl; rfl; rfl; rfl; rfl; (first | simp only [same, Act.put, List.setIfInBounds_toArray, List.set_cons_zero, List.set_cons_succ] | simp only [Act.put, List.setIfInBounds_toArray, List.set_cons_zero, List.set_cons_succ]))))
                refine wqIdx_load rfl rfl rfl rfl L2.out ?_
                simp only [Act.put, List.setIfInBounds_toArray, List.set_cons_zero, List.set_cons_succ]
                (repeat (first | ((with_reducible apply wq0); rfl; rfl; rfl; intro K hK; go_big_quiet_op; refine hK _ ?_; clear hK K) | ((with_reducible apply wq1); rfl; rfl; rfl; rfl; rfl; rfl; intro K hK; go_big_quiet_op; refine hK _ ?_; clear hK K) | ((with_reducible apply wqs); rfl; rfl; rfl; rfl; rfl; rfl; simp only [Act.put, List.setIfInBounds_toArray, List.set_cons_zero, List.set_cons_succ]) | ((with_reducible apply wqu); rfl; rfl; rfl; rfl; rfl; (first | simp only [same, Act.put, List.setIfInBounds_toArray, List.set_cons_zero, List.set_cons_succ] | simp only [Act.put, List.setIfInBounds_toArray, List.set_cons_zero, List.set_cons_succ]))))
                refine wqIdx_nil ?_
                refine wpAnyR_done (by kernel_rfl) ?_ _
                go_wp2
                refine ⟨⟨k + 1, by omega, by go_num, fun j hj => ?_, BD.out⟩, by simp [intOf]; omega⟩
                by_cases hjk : j = k
                · subst hjk
                  rw [EA.out, EB.out]
                · exact HALL.out j (by omega)
              · have d4 : (x4 == y4) = false := by simpa using e4
                have NN := Lib.hid (NE.out (fun e => e4 (by rw [Prod.mk.injEq, Prod.mk.injEq, Prod.mk.injEq] at e; exact e.2.2)))
                clear e4 NE
                subst e1 e2 e3
                go_wp2_with fail
                refine wp_region_R (R := RB) (n := 9) (by kernel_rfl) rfl ?_
                refine batchB [0, 1, 2, 3, 4, 5, 6, 7, 8] (fuel := 0) rfl (by kernel_rfl) (by kernel_rfl) (fun _ _ d _ _ h => by cases d <;> exact h) ?_
                (repeat (first | ((with_reducible apply wq0); rfl; rfl; rfl; intro K hK; go_big_quiet_op; refine hK _ ?_; clear hK K) | ((with_reducible apply wq1); rfl; rfl; rfl; rfl; rfl; rfl; intro K hK; go_big_quiet_op; refine hK _ ?_; clear hK K) | ((with_reducible apply wqs); rfl; rfl; rfl; rfl; rfl; rfl; simp only [Act.put, List.setIfInBounds_toArray, List.set_cons_zero, List.set_cons_succ]) | ((with_reducible apply wqu); rfl; rfl; rfl; rfl; rfl; (first | simp only [same, Act.put, List.setIfInBounds_toArray, List.set_cons_zero, List.set_cons_succ] | simp only [Act.put, List.setIfInBounds_toArray, List.set_cons_zero, List.set_cons_succ]))))
                refine wqIdx_load rfl rfl rfl rfl L1.out ?_
                simp only [Act.put, List.setIfInBounds_toArray, List.set_cons_zero, List.set_cons_succ]
                (repeat (first | ((with_reducible apply wq0); rfl; rfl; rfl; intro K hK; go_big_quiet_op; refine hK _ ?_; clear hK K) | ((with_reducible apply wq1); rfl; rfl; rfl; rfl; rfl; rfl; intro K hK; go_big_quiet_op; refine hK _ ?_; clear hK K) | ((with_reducible apply wqs); rfl; rfl; rfl; rfl; rfl; rfl; simp only [Act.put, List.setIfInBounds_toArray, List.set_cons_zero, List.set_cons_succ]) | ((with_reducible apply wqu); rfl; rfl; rfl; rfl; rfl; (first | simp only [same, Act.put, List.setIfInBounds_toArray, List.set_cons_zero, List.set_cons_succ] | simp only [Act.put, List.setIfInBounds_toArray, List.set_cons_zero, List.set_cons_succ]))))
                refine wqIdx_load rfl rfl rfl rfl L2.out ?_
                simp only [Act.put, List.setIfInBounds_toArray, List.set_cons_zero, List.set_cons_succ]
                (repeat (first | ((with_reducible apply wq0); rfl; rfl; rfl; intro K hK; go_big_quiet_op; refine hK _ ?_; clear hK K) | ((with_reducible apply wq1); rfl; rfl; rfl; rfl; rfl; rfl; intro K hK; go_big_quiet_op; refine hK _ ?_; clear hK K) | ((with_reducible apply wqs); rfl; rfl; rfl; rfl; rfl; rfl; simp only [Act.put, List.setIfInBounds_toArray, List.set_cons_zero, List.set_cons_succ]) | ((with_reducible apply wqu); rfl; rfl; rfl; rfl; rfl; (first | simp only [same, Act.put, List.setIfInBounds_toArray, List.set_cons_zero, List.set_cons_succ] | simp only [Act.put, List.setIfInBounds_toArray, List.set_cons_zero, List.set_cons_succ]))))
                refine wqIdx_nil ?_
                refine wpAnyR_done (by kernel_rfl) ?_ _
                go_wp2
                go_ret
                exact ⟨ret_bool' NN.out.symm, BD.out⟩
            · have d3 : (x3 == y3) = false := by simpa using e3
              have NN := Lib.hid (NE.out (fun e => e3 (by rw [Prod.mk.injEq, Prod.mk.injEq, Prod.mk.injEq] at e; exact e.2.1)))
              clear e3 NE
              subst e1 e2
              go_wp2_with fail
              refine wp_region_R (R := RB) (n := 9) (by kernel_rfl) rfl ?_
              refine batchB [0, 1, 2, 3, 4, 5, 6, 7, 8] (fuel := 0) rfl (by kernel_rfl) (by kernel_rfl) (fun _ _ d _ _ h => by cases d <;> exact h) ?_
              (repeat (first | ((with_reducible apply wq0); rfl; rfl; rfl; intro K hK; go_big_quiet_op; refine hK _ ?_; clear hK K) | ((with_reducible apply wq1); rfl; rfl; rfl; rfl; rfl; rfl; intro K hK; go_big_quiet_op; refine hK _ ?_; clear hK K) | ((with_reducible apply wqs); rfl; rfl; rfl; rfl; rfl; rfl; simp only [Act.put, List.setIfInBounds_toArray, List.set_cons_zero, List.set_cons_succ]) | ((with_reducible apply wqu); rfl; rfl; rfl; rfl; rfl; (first | simp only [same, Act.put, List.setIfInBounds_toArray, List.set_cons_zero, List.set_cons_succ] | simp only [Act.put, List.setIfInBounds_toArray, List.set_cons_zero, List.set_cons_succ]))))
              refine wqIdx_load rfl rfl rfl rfl L1.out ?_
              simp only [Act.put, List.setIfInBounds_toArray, List.set_cons_zero, List.set_cons_succ]
              (repeat (first | ((with_reducible apply wq0); rfl; rfl; rfl; intro K hK; go_big_quiet_op; refine hK _ ?_; clear hK K) | ((with_reducible apply wq1); rfl; rfl; rfl; rfl; rfl; rfl; intro K hK; go_big_quiet_op; refine hK _ ?_; clear hK K) | ((with_reducible apply wqs); rfl; rfl; rfl; rfl; rfl; rfl; simp only [Act.put, List.setIfInBounds_toArray, List.set_cons_zero, List.set_cons_succ]) | ((with_reducible apply wqu); rfl; rfl; rfl; rfl; rfl; (first | simp only [same, Act.put, List.setIfInBounds_toArray, List.set_cons_zero, List.set_cons_succ] | simp only [Act.put, List.setIfInBounds_toArray, List.set_cons_zero, List.set_cons_succ]))))
              refine wqIdx_load rfl rfl rfl rfl L2.out ?_
              simp only [Act.put, List.setIfInBounds_toArray, List.set_cons_zero, List.set_cons_succ]
              (repeat (first | ((with_reducible apply wq0); rfl; rfl; rfl; intro K hK; go_big_quiet_op; refine hK _ ?_; clear hK K) | ((with_reducible apply wq1); rfl; rfl; rfl; rfl; rfl; rfl; intro K hK; go_big_quiet_op; refine hK _ ?_; clear hK K) | ((with_reducible apply wqs); rfl; rfl; rfl; rfl; rfl; rfl; simp only [Act.put, List.setIfInBounds_toArray, List.set_cons_zero, List.set_cons_succ]) | ((with_reducible apply wqu); rfl; rfl; rfl; rfl; rfl; (first | simp only [same, Act.put, List.setIfInBounds_toArray, List.set_cons_zero, List.set_cons_succ] | simp only [Act.put, List.setIfInBounds_toArray, List.set_cons_zero, List.set_cons_succ]))))
              refine wqIdx_nil ?_
              refine wpAnyR_done (by kernel_rfl) ?_ _
              go_wp2
              go_ret
              exact ⟨ret_bool' NN.out.symm, BD.out⟩
          · have d2 : (x2 == y2) = false := by simpa using e2
            have NN := Lib.hid (NE.out (fun e => e2 (by rw [Prod.mk.injEq, Prod.mk.injEq, Prod.mk.injEq] at e; exact e.1.2)))
            clear e2 NE
            subst e1
            go_wp2_with fail
            refine wp_region_R (R := RB) (n := 9) (by kernel_rfl) rfl ?_
            refine batchB [0, 1, 2, 3, 4, 5, 6, 7, 8] (fuel := 0) rfl (by kernel_rfl) (by kernel_rfl) (fun _ _ d _ _ h => by cases d <;> exact h) ?_
            (repeat (first | ((with_reducible apply wq0); rfl; rfl; rfl; intro K hK; go_big_quiet_op; refine hK _ ?_; clear hK K) | ((with_reducible apply wq1); rfl; rfl; rfl; rfl; rfl; rfl; intro K hK; go_big_quiet_op; refine hK _ ?_; clear hK K) | ((with_reducible apply wqs); rfl; rfl; rfl; rfl; rfl; rfl; simp only [Act.put, List.setIfInBounds_toArray, List.set_cons_zero, List.set_cons_succ]) | ((with_reducible apply wqu); rfl; rfl; rfl; rfl; rfl; (first | simp only [same, Act.put, List.setIfInBounds_toArray, List.set_cons_zero, List.set_cons_succ] | simp only [Act.put, List.setIfInBounds_toArray, List.set_cons_zero, List.set_cons_succ]))))
            refine wqIdx_load rfl rfl rfl rfl L1.out ?_
            simp only [Act.put, List.setIfInBounds_toArray, List.set_cons_zero, List.set_cons_succ]
            (repeat (first | ((with_reducible apply wq0); rfl; rfl; rfl; intro K hK; go_big_quiet_op; refine hK _ ?_; clear hK K) | ((with_reducible apply wq1); rfl; rfl; rfl; rfl; rfl; rfl; intro K hK; go_big_quiet_op; refine hK _ ?_; clear hK K) | ((with_reducible apply wqs); rfl; rfl; rfl; rfl; rfl; rfl; simp only [Act.put, List.setIfInBounds_toArray, List.set_cons_zero, List.set_cons_succ]) | ((with_reducible apply wqu); rfl; rfl; rfl; rfl; rfl; (first | simp only [same, Act.put, List.setIfInBounds_toArray, List.set_cons_zero, List.set_cons_succ] | simp only [Act.put, List.setIfInBounds_toArray, List.set_cons_zero, List.set_cons_succ]))))
            refine wqIdx_load rfl rfl rfl rfl L2.out ?_
            simp only [Act.put, List.setIfInBounds_toArray, List.set_cons_zero, List.set_cons_succ]
            (repeat (first | ((with_reducible apply wq0); rfl; rfl; rfl; intro K hK; go_big_quiet_op; refine hK _ ?_; clear hK K) | ((with_reducible apply wq1); rfl; rfl; rfl; rfl; rfl; rfl; intro K hK; go_big_quiet_op; refine hK _ ?_; clear hK K) | ((with_reducible apply wqs); rfl; rfl; rfl; rfl; rfl; rfl; simp only [Act.put, List.setIfInBounds_toArray, List.set_cons_zero, List.set_cons_succ]) | ((with_reducible apply wqu); rfl; rfl; rfl; rfl; rfl; (first | simp only [same, Act.put, List.setIfInBounds_toArray, List.set_cons_zero, List.set_cons_succ] | simp only [Act.put, List.setIfInBounds_toArray, List.set_cons_zero, List.set_cons_succ]))))
            refine wqIdx_nil ?_
            refine wpAnyR_done (by kernel_rfl) ?_ _
            go_wp2
            go_ret
            exact ⟨ret_bool' NN.out.symm, BD.out⟩
        · have d1 : (x1 == y1) = false := by simpa using e1
          have NN := Lib.hid (NE.out (fun e => e1 (by rw [Prod.mk.injEq, Prod.mk.injEq, Prod.mk.injEq] at e; exact e.1.1)))
          clear e1 NE
          go_wp2_with fail
          refine wp_region_R (R := RB) (n := 9) (by kernel_rfl) rfl ?_
          refine batchB [0, 1, 2, 3, 4, 5, 6, 7, 8] (fuel := 0) rfl (by kernel_rfl) (by kernel_rfl) (fun _ _ d _ _ h => by cases d <;> exact h) ?_
          (repeat (first | ((with_reducible apply wq0); rfl; rfl; rfl; intro K hK; go_big_quiet_op; refine hK _ ?_; clear hK K) | ((with_reducible apply wq1); rfl; rfl; rfl; rfl; rfl; rfl; intro K hK; go_big_quiet_op; refine hK _ ?_; clear hK K) | ((with_reducible apply wqs); rfl; rfl; rfl; rfl; rfl; rfl; simp only [Act.put, List.setIfInBounds_toArray, List.set_cons_zero, List.set_cons_succ]) | ((with_reducible apply wqu); rfl; rfl; rfl; rfl; rfl; (first | simp only [same, Act.put, List.setIfInBounds_toArray, List.set_cons_zero, List.set_cons_succ] | simp only [Act.put, List.setIfInBounds_toArray, List.set_cons_zero, List.set_cons_succ]))))
          refine wqIdx_load rfl rfl rfl rfl L1.out ?_
          simp only [Act.put, List.setIfInBounds_toArray, List.set_cons_zero, List.set_cons_succ]
          (repeat (first | ((with_reducible apply wq0); rfl; rfl; rfl; intro K hK; go_big_quiet_op; refine hK _ ?_; clear hK K) | ((with_reducible apply wq1); rfl; rfl; rfl; rfl; rfl; rfl; intro K hK; go_big_quiet_op; refine hK _ ?_; clear hK K) | ((with_reducible apply wqs); rfl; rfl; rfl; rfl; rfl; rfl; simp only [Act.put, List.setIfInBounds_toArray, List.set_cons_zero, List.set_cons_succ]) | ((with_reducible apply wqu); rfl; rfl; rfl; rfl; rfl; (first | simp only [same, Act.put, List.setIfInBounds_toArray, List.set_cons_zero, List.set_cons_succ] | simp only [Act.put, List.setIfInBounds_toArray, List.set_cons_zero, List.set_cons_succ]))))
          refine wqIdx_load rfl rfl rfl rfl L2.out ?_
          simp only [Act.put, List.setIfInBounds_toArray, List.set_cons_zero, List.set_cons_succ]
          (repeat (first | ((with_reducible apply wq0); rfl; rfl; rfl; intro K hK; go_big_quiet_op; refine hK _ ?_; clear hK K) | ((with_reducible apply wq1); rfl; rfl; rfl; rfl; rfl; rfl; intro K hK; go_big_quiet_op; refine hK _ ?_; clear hK K) | ((with_reducible apply wqs); rfl; rfl; rfl; rfl; rfl; rfl; simp only [Act.put, List.setIfInBounds_toArray, List.set_cons_zero, List.set_cons_succ]) | ((with_reducible apply wqu); rfl; rfl; rfl; rfl; rfl; (first | simp only [same, Act.put, List.setIfInBounds_toArray, List.set_cons_zero, List.set_cons_succ] | simp only [Act.put, List.setIfInBounds_toArray, List.set_cons_zero, List.set_cons_succ]))))
          refine wqIdx_nil ?_
          refine wpAnyR_done (by kernel_rfl) ?_ _
          go_wp2
          go_ret
          exact ⟨ret_bool' NN.out.symm, BD.out⟩
      · obtain rfl : k = a.length := by omega
        have EQ := Lib.hid (show (a == b) = true by
          rw [beq_iff_eq]
          refine List.ext_getElem? fun j => ?_
          rcases Nat.lt_or_ge j a.length with hj | hj
          · exact HALL.out j hj
          · rw [List.getElem?_eq_none hj, List.getElem?_eq_none (by rw [← HL.out]; exact hj)])
        go_wp2
        go_ret
        exact ⟨ret_bool' EQ.out.symm, BW.out⟩
  · have d1 : ((a.length : Int) == (b.length : Int)) = false := by simp; omega
    have e : (a == b) = false := by
      rw [beq_eq_false_iff_ne]
      exact fun k => hl (by rw [k])
    rw [e]
    clear ha hb hl e
    go_enter Try.func36, Try.ntmps36
    go_wp2
    go_ret
    exact ⟨rfl, Below.refl _ _⟩
end Go.Proofs.Ytodfpdmmbmbinaa
