/- Contracts of package rec: counts. -/
import Derived.Test.YtibhofdblfgkbaaReI
namespace Go.Proofs.Ytibhofdblfgkbaa
open Go.RowKit Go.Sort Go.Maps Go.ChangeMaps

theorem cnt_take {l : List (Int × Int)} {k : Nat} {x : Int × Int} (h : l[k]? = some x) (r : Int × Int) : cnt (l.take (k + 1)) r = if r = x then cnt (l.take k) x + 1 else cnt (l.take k) r := by
  unfold cnt
  rw [List.take_add_one, h, List.count_append]
  by_cases e : r = x
  · subst e
    simp
  · have : (x == r) = false := by simpa using fun h => e h.symm
    simp [List.count_cons, this, e]
theorem grown_mid {a b c : World} {row : Option Nat} (h : a.grownBy b row) (k : a.grownBy c row) (hs : b.heap.size = a.heap.size) : b.grownBy c row :=
  ⟨k.os.trans h.os.symm, k.tape.trans h.tape.symm, k.output.trans h.output.symm, by rw [hs]; exact k.size, fun i hi hn => (k.block i (by omega) hn).trans (h.block i (by omega) hn).symm⟩
theorem cnt_le (l : List (Int × Int)) (r : Int × Int) : cnt l r ≤ l.length := List.count_le_length
theorem wf_small (n : Nat) (h : n ≤ 9223372036854775807) : (Lit.int .i64 (n : Nat)).wf = true := WalkArith.wf_i64 (by omega)
theorem CntAt.congr {w : World} {b n : Nat} {t t' : Int × Int → Nat} {ks ks' : Int × Int → Bool} (h : CntAt w b n t ks) (ht : ∀ r, t r = t' r) (hk : ∀ r, ks r = ks' r) : CntAt w b n t' ks' := by
  rw [← funext ht, ← funext hk]
  exact h
theorem CntAt.made (w : World) : CntAt (w.alloc (.map #[] 0)) w.heap.size 0 (fun _ => 0) (fun _ => false) :=
  ⟨.map [], World.ownsMap_made w _ _ _, fun _ _ => rfl, fun _ _ _ h => (by cases h), fun _ _ _ => rfl, fun _ h => (by cases h)⟩
set_option maxRecDepth 100000 in
set_option maxHeartbeats 2000000 in
theorem counts_any (A : Option Addr) (h : Nat) (l : List (Int × Int)) (c : Nat) (w : World) (hl : SlP w h A l) (hn : l.length ≤ 100000) (hr : ∀ x ∈ l, InR x) :
    Calls Try.prog 82 #[.slice A l.length c] w fun e w' => ∃ b, e = .returned (.map (some b)) ∧ w.heap.size ≤ b ∧ CntAt w' b l.length (cnt l) (fun r => decide (0 < cnt l r)) ∧ Below w.heap.size w w' := by
  have HL := Lib.hid hl
  have HR := Lib.hid hr
  have HM := Lib.hid (CntAt.made w)
  have HA := Lib.hid (alloc_below w (.map #[] 0))
  clear hl hr
  have hmm := @run_makeMap Try.prog
  go_enter Try.func82, Try.ntmps82
  go_wp2_with fail
  go_loopw [9] (fun i wr => ∃ k : Nat, k ≤ l.length ∧ i = .int .i64 (k : Int) ∧ CntAt wr w.heap.size k (cnt (l.take k)) (fun r => decide (0 < cnt (l.take k) r)) ∧ Below w.heap.size w wr) (fun i _ => l.length - (intOf i).toNat)
  case atStart => exact ⟨0, Nat.zero_le _, rfl, HM.out.congr (fun _ => rfl) (fun _ => rfl), HA.out⟩
  case round =>
    obtain ⟨k, hk, rfl, hcn, hb⟩ := hrel
    have HC := Lib.hid hcn
    have HB := Lib.hid hb
    clear hcn hb
    by_cases hlt : k < l.length
    · obtain ⟨x, hx⟩ : ∃ x, l[k]? = some x := ⟨_, List.getElem?_eq_getElem hlt⟩
      have HX := Lib.hid hx
      have hin := HR.out x (List.mem_of_getElem? hx)
      have HT := Lib.hid (cnt_take hx)
      have hle := Nat.le_trans (cnt_le (l.take k) x) (by rw [List.length_take]; exact Nat.min_le_left _ _)
      obtain ⟨x1, x2⟩ := x
      obtain ⟨-, o1, eA, p0, p1⟩ := (HL.out.below HB.out).at_ hx
      subst eA
      clear hx
      have C0 := Lib.hid (new_cell wr #[.int .i64 x1, .int .i64 x2] 24 _ rfl 0)
      have C1 := Lib.hid (new_cell wr #[.int .i64 x1, .int .i64 x2] 24 _ rfl 1)
      have hBB := HC.out.lt
      have HCW := Lib.hid (show CntAt (wr.alloc (.cells #[.int .i64 x1, .int .i64 x2] 24)).drew w.heap.size k (cnt (l.take k)) (fun r => decide (0 < cnt (l.take k) r)) from (HC.out.kept (World.grownBy_alloc wr _ none) (by simp)).drew)
      have hlook := HCW.out.look x1 x2 hin
      obtain ⟨v0, st, w1, hme, gw1, s1, hlook1, hst⟩ := HCW.out.bump x1 x2 hin (by unfold maxLen; omega)
      obtain ⟨w2, hes, gw2, s2, hc2⟩ := hst (cnt (l.take k) (x1, x2) + 1) (wf_small _ (by omega))
      have GW1 := Lib.hid gw1
      have G12 := Lib.hid (grown_mid gw1 gw2 s1)
      have GW2 := Lib.hid gw2
      have HC2 := Lib.hid hc2
      have hne : ¬ wr.heap.size = w.heap.size := by omega
      clear hst gw1 gw2 hc2
      generalize cnt (l.take k) (x1, x2) = m at hlook hlook1 hes hle HT HC2
      rw [show ((m + 1 : Nat) : Int) = (m : Int) + 1 from rfl] at hes
      go_wp2_with fail
      refine wp_region_R (R := RK (fun k => k = w.heap.size)) (n := 7) (by kernel_rfl) rfl ?_
      refine batchK [0, 1] (fuel := 5) rfl (by kernel_rfl) (by kernel_rfl) (fun _ _ d _ _ h => by cases d <;> exact h) ?_
      repeat (first | ((with_reducible apply wq0); rfl; rfl; rfl; intro K hK; go_big_quiet_op; refine hK _ ?_; clear hK K) | ((with_reducible apply wq1); rfl; rfl; rfl; rfl; rfl; rfl; intro K hK; go_big_quiet_op; refine hK _ ?_; clear hK K) | ((with_reducible apply wqs); rfl; rfl; rfl; rfl; rfl; rfl; simp only [Act.put, List.setIfInBounds_toArray, List.set_cons_zero, List.set_cons_succ]) | ((with_reducible apply wqu); rfl; rfl; rfl; rfl; rfl; simp only [same]) | ((with_reducible apply wqu); rfl; rfl; rfl; rfl; rfl; simp only [Act.put, List.setIfInBounds_toArray, List.set_cons_zero, List.set_cons_succ]))
      refine wqIdx_load rfl rfl rfl rfl (fun W hW => load_rec_at _ _ x1 x2 W (keep_cellK hW hne C0.out) (keep_cellK hW hne C1.out)) ?_
      simp only [Act.put, List.setIfInBounds_toArray, List.set_cons_zero, List.set_cons_succ]
      refine wqIdx_nil ?_
      refine steps_two (i := 2) (j := 4) (by kernel_rfl) ?_ ?_
      · refine ⟨_, rfl, fun K hK => ?_⟩
        go_simp
        refine hK _ _ (RK.refl _ _) ?_
        clear hK K
        refine batchK [3] (fuel := 3) rfl (by kernel_rfl) (by kernel_rfl) (fun _ _ d _ _ h => by cases d <;> exact h) ?_
        repeat (first | ((with_reducible apply wq0); rfl; rfl; rfl; intro K hK; go_big_quiet_op; refine hK _ ?_; clear hK K) | ((with_reducible apply wq1); rfl; rfl; rfl; rfl; rfl; rfl; intro K hK; go_big_quiet_op; refine hK _ ?_; clear hK K) | ((with_reducible apply wqs); rfl; rfl; rfl; rfl; rfl; rfl; simp only [Act.put, List.setIfInBounds_toArray, List.set_cons_zero, List.set_cons_succ]) | ((with_reducible apply wqu); rfl; rfl; rfl; rfl; rfl; simp only [same]) | ((with_reducible apply wqu); rfl; rfl; rfl; rfl; rfl; simp only [Act.put, List.setIfInBounds_toArray, List.set_cons_zero, List.set_cons_succ]))
        refine wqIdx_nil ?_
        refine wpAnyR_sole (i := 4) rfl (by kernel_rfl) (fun K hK => ?_)
        go_simp
        refine hK _ _ (rk_row GW1.out fun _ e => by injection e with e; exact e.symm) ?_
        clear hK K
        refine batchK [5] (fuel := 1) rfl (by kernel_rfl) (by kernel_rfl) (fun _ _ d _ _ h => by cases d <;> exact h) ?_
        repeat (first | ((with_reducible apply wq0); rfl; rfl; rfl; intro K hK; go_big_quiet_op; refine hK _ ?_; clear hK K) | ((with_reducible apply wq1); rfl; rfl; rfl; rfl; rfl; rfl; intro K hK; go_big_quiet_op; refine hK _ ?_; clear hK K) | ((with_reducible apply wqs); rfl; rfl; rfl; rfl; rfl; rfl; simp only [Act.put, List.setIfInBounds_toArray, List.set_cons_zero, List.set_cons_succ]) | ((with_reducible apply wqu); rfl; rfl; rfl; rfl; rfl; simp only [same]) | ((with_reducible apply wqu); rfl; rfl; rfl; rfl; rfl; simp only [Act.put, List.setIfInBounds_toArray, List.set_cons_zero, List.set_cons_succ]))
        refine wqIdx_nil ?_
        refine wpAnyR_sole (i := 6) rfl (by kernel_rfl) (fun K hK => ?_)
        go_simp
        refine hK _ _ (rk_row G12.out fun _ e => by injection e with e; exact e.symm) ?_
        clear hK K
        refine wpAnyR_done (by kernel_rfl) ?_ _
        have B2 := Lib.hid ((HB.out.alloc (by omega) (.cells #[.int .i64 x1, .int .i64 x2] 24)).grown (grown_of_drew GW2.out) (by rw [World.size_alloc]; omega) fun i hi => by injection hi with hi; omega)
        go_wp2
        refine ⟨⟨k + 1, by omega, by go_num, HC2.out.congr (fun r => (HT.out r).symm) (fun r => ?_), B2.out⟩, by simp [intOf]; omega⟩
        rw [HT.out r]
        by_cases e : r = (x1, x2)
        · simp [e]
        · have he : (r == (x1, x2)) = false := by simpa using e
          rw [he, Bool.or_false, if_neg e]
      · refine ⟨_, rfl, fun K hK => ?_⟩
        go_simp
        refine hK _ _ (rk_row GW1.out fun _ e => by injection e with e; exact e.symm) ?_
        clear hK K
        refine batchK [5] (fuel := 3) rfl (by kernel_rfl) (by kernel_rfl) (fun _ _ d _ _ h => by cases d <;> exact h) ?_
        repeat (first | ((with_reducible apply wq0); rfl; rfl; rfl; intro K hK; go_big_quiet_op; refine hK _ ?_; clear hK K) | ((with_reducible apply wq1); rfl; rfl; rfl; rfl; rfl; rfl; intro K hK; go_big_quiet_op; refine hK _ ?_; clear hK K) | ((with_reducible apply wqs); rfl; rfl; rfl; rfl; rfl; rfl; simp only [Act.put, List.setIfInBounds_toArray, List.set_cons_zero, List.set_cons_succ]) | ((with_reducible apply wqu); rfl; rfl; rfl; rfl; rfl; simp only [same]) | ((with_reducible apply wqu); rfl; rfl; rfl; rfl; rfl; simp only [Act.put, List.setIfInBounds_toArray, List.set_cons_zero, List.set_cons_succ]))
        refine wqIdx_nil ?_
        refine wpAnyR_sole (i := 2) rfl (by kernel_rfl) (fun K hK => ?_)
        go_simp
        refine hK _ _ (RK.refl _ _) ?_
        clear hK K
        refine batchK [3] (fuel := 1) rfl (by kernel_rfl) (by kernel_rfl) (fun _ _ d _ _ h => by cases d <;> exact h) ?_
        repeat (first | ((with_reducible apply wq0); rfl; rfl; rfl; intro K hK; go_big_quiet_op; refine hK _ ?_; clear hK K) | ((with_reducible apply wq1); rfl; rfl; rfl; rfl; rfl; rfl; intro K hK; go_big_quiet_op; refine hK _ ?_; clear hK K) | ((with_reducible apply wqs); rfl; rfl; rfl; rfl; rfl; rfl; simp only [Act.put, List.setIfInBounds_toArray, List.set_cons_zero, List.set_cons_succ]) | ((with_reducible apply wqu); rfl; rfl; rfl; rfl; rfl; simp only [same]) | ((with_reducible apply wqu); rfl; rfl; rfl; rfl; rfl; simp only [Act.put, List.setIfInBounds_toArray, List.set_cons_zero, List.set_cons_succ]))
        refine wqIdx_nil ?_
        refine wpAnyR_sole (i := 6) rfl (by kernel_rfl) (fun K hK => ?_)
        go_simp
        refine hK _ _ (rk_row G12.out fun _ e => by injection e with e; exact e.symm) ?_
        clear hK K
        refine wpAnyR_done (by kernel_rfl) ?_ _
        have B2 := Lib.hid ((HB.out.alloc (by omega) (.cells #[.int .i64 x1, .int .i64 x2] 24)).grown (grown_of_drew GW2.out) (by rw [World.size_alloc]; omega) fun i hi => by injection hi with hi; omega)
        go_wp2
        refine ⟨⟨k + 1, by omega, by go_num, HC2.out.congr (fun r => (HT.out r).symm) (fun r => ?_), B2.out⟩, by simp [intOf]; omega⟩
        rw [HT.out r]
        by_cases e : r = (x1, x2)
        · simp [e]
        · have he : (r == (x1, x2)) = false := by simpa using e
          rw [he, Bool.or_false, if_neg e]
    · obtain rfl : k = l.length := by omega
      have hc := HC.out
      rw [List.take_length] at hc
      have HC2 := Lib.hid hc
      clear hc
      go_wp2
      go_ret
      exact ⟨w.heap.size, rfl, Nat.le_refl _, HC2.out, HB.out⟩
end Go.Proofs.Ytibhofdblfgkbaa
