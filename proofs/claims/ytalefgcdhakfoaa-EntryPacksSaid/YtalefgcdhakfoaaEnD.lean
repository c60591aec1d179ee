/- Contracts of entries: Sorted of both, the document's Same; and how entries stand in order. -/
import Derived.Test.YtalefgcdhakfoaaEnC
namespace Go.Proofs.Ytalefgcdhakfoaa
open Go.RowKit Go.Sort

theorem cmpM_neg (x y : Int × Int) : cmpM x y < 0 ↔ (x.1 < y.1 ∨ (x.1 = y.1 ∧ x.2 < y.2)) := by
  unfold cmpM cmpI
  split <;> split <;> (try split) <;> omega
theorem cmpM_zero (x y : Int × Int) : cmpM x y = 0 ↔ (x.1 = y.1 ∧ x.2 = y.2) := by
  unfold cmpM cmpI
  split <;> split <;> (try split) <;> omega
def ltE (x y : En) : Bool := decide (x.1.1 < y.1.1 ∨ (x.1.1 = y.1.1 ∧ (x.1.2 < y.1.2 ∨ (x.1.2 = y.1.2 ∧ (x.2.1 < y.2.1 ∨ (x.2.1 = y.2.1 ∧ x.2.2 < y.2.2))))))
theorem ltE_iff (x y : En) : ltE x y = true ↔ (x.1.1 < y.1.1 ∨ (x.1.1 = y.1.1 ∧ (x.1.2 < y.1.2 ∨ (x.1.2 = y.1.2 ∧ (x.2.1 < y.2.1 ∨ (x.2.1 = y.2.1 ∧ x.2.2 < y.2.2)))))) := by unfold ltE; rw [decide_eq_true_eq]
theorem ltE_not (x y : En) : ltE x y = false ↔ ¬ (x.1.1 < y.1.1 ∨ (x.1.1 = y.1.1 ∧ (x.1.2 < y.1.2 ∨ (x.1.2 = y.1.2 ∧ (x.2.1 < y.2.1 ∨ (x.2.1 = y.2.1 ∧ x.2.2 < y.2.2)))))) := by unfold ltE; rw [decide_eq_false_iff_not]
theorem cmpE_neg (x y : En) : cmpE x y < 0 ↔ ltE x y = true := by
  have h1 := cmpM_neg x.1 y.1
  have h2 := cmpM_zero x.1 y.1
  have h3 := cmpM_neg x.2 y.2
  rw [ltE_iff]
  unfold cmpE orI
  split <;> omega
theorem cmpM_swap (x y : Int × Int) : 0 < cmpM x y ↔ cmpM y x < 0 := by
  unfold cmpM cmpI
  split <;> split <;> (try split) <;> (try split) <;> omega
theorem cmpE_swap (x y : En) : 0 < cmpE x y ↔ cmpE y x < 0 := by
  have h1 := cmpM_swap x.1 y.1
  have h2 := cmpM_zero x.1 y.1
  have h3 := cmpM_zero y.1 x.1
  have h4 := cmpM_swap x.2 y.2
  unfold cmpE orI
  split <;> split <;> omega
theorem cmpE_flip (x y : En) : cmpE y x < 0 ↔ ¬ cmpE x y ≤ 0 := by have := cmpE_swap x y; omega
def leE (x y : En) : Bool := decide (cmpE x y ≤ 0)
theorem leE_lt (x y : En) : leE x y = !ltE y x := by
  unfold leE
  have h := cmpE_flip x y
  rw [cmpE_neg] at h
  cases hh : ltE y x
  · rw [hh] at h; simpa using h
  · rw [hh] at h; simpa using h
theorem ltOf_cmpE : (ltOf fun x y : En => cmpE x y) = ltE := by
  funext x y
  show decide (cmpE x y < 0) = ltE x y
  cases h : ltE x y
  · rw [decide_eq_false_iff_not, cmpE_neg, h]; decide
  · rw [decide_eq_true_eq, cmpE_neg, h]
theorem ltE_swo : SWO ltE where
  irrefl x := by rw [ltE_not]; omega
  trans x y z h1 h2 := by rw [ltE_iff] at *; omega
  ntrans x y z h1 h2 := by rw [ltE_not] at *; omega
theorem ltE_total (x y : En) (h1 : ltE x y = false) (h2 : ltE y x = false) : x = y := by
  rw [ltE_not] at *
  exact Prod.ext (Prod.ext (by omega) (by omega)) (Prod.ext (by omega) (by omega))
theorem leE_trans (a b c : En) (h : leE a b = true) (k : leE b c = true) : leE a c = true := by
  rw [leE_lt, Bool.not_eq_true', ltE_not] at *; omega
theorem leE_total (a b : En) : (leE a b || leE b a) = true := by
  rw [Bool.or_eq_true, leE_lt, leE_lt, Bool.not_eq_true', Bool.not_eq_true', ltE_not, ltE_not]; omega
theorem leE_anti {a b : En} (h : leE a b = true) (k : leE b a = true) : a = b := by
  rw [leE_lt, Bool.not_eq_true'] at *; exact ltE_total a b k h
def srtE (l : List En) : List En := l.mergeSort leE
def SrtPE (l : List En) : Prop := l.Pairwise fun a b => leE a b = true
theorem srtE_perm (l : List En) : (srtE l).Perm l := List.mergeSort_perm l leE
theorem srtE_length (l : List En) : (srtE l).length = l.length := (srtE_perm l).length_eq
theorem srtE_sorted (l : List En) : SrtPE (srtE l) := List.pairwise_mergeSort leE_trans leE_total l
theorem SrtPE.same {a b : List En} (ha : SrtPE a) (hb : SrtPE b) (h : a.Perm b) : a = b :=
  List.Perm.eq_of_pairwise (le := fun a b => leE a b = true) (fun _ _ _ _ h1 h2 => leE_anti h1 h2) ha hb h
theorem srtE_unique {l m : List En} (h : SrtPE m) (hp : m.Perm l) : m = srtE l := h.same (srtE_sorted l) (hp.trans (srtE_perm l).symm)
theorem srtE_self {l : List En} (h : SrtPE l) : srtE l = l := (srtE_unique h (List.Perm.refl _)).symm
theorem srtE_short {l : List En} (h : l.length < 2) : srtE l = l := srtE_self (by
  match l, h with
  | [], _ => exact List.Pairwise.nil
  | [a], _ => exact List.pairwise_singleton _ a)
theorem merge_srtE (a b : List En) : (srtE a).merge (srtE b) leE = srtE (a ++ b) :=
  srtE_unique (List.pairwise_merge leE_trans leE_total _ _ (srtE_sorted a) (srtE_sorted b)) ((List.merge_perm_append leE).trans ((srtE_perm a).append (srtE_perm b)))
/-- Entries in order, one by one. -/
def sortedE : List En → Bool
  | [] => true
  | [_] => true
  | x :: y :: t => decide (cmpE x y ≤ 0) && sortedE (y :: t)
theorem sortedE_iff : ∀ l : List En, sortedE l = true ↔ ∀ (i : Nat) (x y : En), l[i]? = some x → l[i + 1]? = some y → cmpE x y ≤ 0
  | [] => by simp [sortedE]
  | [a] => by simp [sortedE]
  | a :: b :: t => by
    rw [sortedE, Bool.and_eq_true, decide_eq_true_eq, sortedE_iff (b :: t)]
    constructor
    · rintro ⟨h1, h2⟩ i x y hx hy
      cases i with
      | zero =>
        simp at hx hy
        rw [← hx, ← hy]
        exact h1
      | succ i => exact h2 i x y (by simpa using hx) (by simpa using hy)
    · intro h
      exact ⟨h 0 a b rfl rfl, fun i x y hx hy => h (i + 1) x y (by simpa using hx) (by simpa using hy)⟩
theorem sortedE_srt (l : List En) : sortedE l = true ↔ SrtPE l := by
  induction l with
  | nil => exact ⟨fun _ => List.Pairwise.nil, fun _ => rfl⟩
  | cons x t ih =>
    cases t with
    | nil => exact ⟨fun _ => List.pairwise_singleton _ x, fun _ => rfl⟩
    | cons y t =>
      rw [sortedE, Bool.and_eq_true, ih, show decide (cmpE x y ≤ 0) = leE x y from rfl]
      constructor
      · rintro ⟨h1, h2⟩
        refine List.pairwise_cons.2 ⟨fun z hz => ?_, h2⟩
        rcases List.mem_cons.1 hz with e | hz
        · rw [e]; exact h1
        · exact leE_trans _ _ _ h1 ((List.pairwise_cons.1 h2).1 z hz)
      · intro h
        have := List.pairwise_cons.1 h
        exact ⟨this.1 y (List.mem_cons_self ..), this.2⟩
set_option maxRecDepth 100000 in
set_option maxHeartbeats 1000000 in
theorem isSortedEn_any (A : Option Addr) (h : Nat) (l : List En) (c : Nat) (w : World) (hl : SlK encE w h A l) (hn : l.length ≤ 1000000) :
    Calls Try.prog 78 #[.slice A l.length c, .func (.func 54) #[] #[]] w fun e w' => e = .returned (.bool (sortedE l)) ∧ Below w.heap.size w w' := by
  have HL := Lib.hid hl
  clear hl
  go_enter Try.func78, Try.ntmps78
  go_wp2_with fail
  go_loopw [5] (fun i wr => ∃ k : Nat, k ≤ l.length ∧ i = .int .i64 ((k : Int) - 1) ∧ (∀ (i : Nat) (x y : En), k ≤ i + 1 → l[i]? = some x → l[i + 1]? = some y → cmpE x y ≤ 0) ∧ Below w.heap.size w wr) (fun i _ => (intOf i).toNat)
  case atStart => exact ⟨l.length, Nat.le_refl _, rfl, fun i x y hi hx hy => by have := (List.getElem?_eq_some_iff.1 hy).1; omega, Below.refl _ _⟩
  case round =>
    obtain ⟨k, hk, rfl, hall, hb⟩ := hrel
    have HB := Lib.hid hb
    have HALL := Lib.hid hall
    clear hb hall
    by_cases hlt : 1 < k
    · obtain ⟨m, rfl⟩ : ∃ m, k = m + 2 := ⟨k - 2, by omega⟩
      rw [show (((m + 2 : Nat) : Int) - 1) = (m : Int) + 1 by omega]
      obtain ⟨x, hx⟩ : ∃ x, l[m]? = some x := ⟨_, List.getElem?_eq_getElem (by omega)⟩
      obtain ⟨y, hy⟩ : ∃ y, l[m + 1]? = some y := ⟨_, List.getElem?_eq_getElem (by omega)⟩
      have HX := Lib.hid hx
      have HY := Lib.hid hy
      obtain ⟨-, o1, eA, px⟩ := (HL.out.below HB.out).at_ layE hx
      obtain ⟨-, o2, eB, py⟩ := (HL.out.below HB.out).at_ layE hy
      obtain rfl : o2 = o1 := by rw [eA] at eB; injection eB with eB; injection eB with _ eB; exact eB.symm
      subst eA
      have PX := Lib.hid px
      have PY := Lib.hid py
      clear eB hx hy px py
      have PC := Lib.hid (fun W => en_compare_any y x W)
      have hz := cmpE_flip x y
      generalize cmpE y x = z at PC hz
      by_cases hp : z < 0
      · have d1 : decide (z < 0) = true := by simpa using hp
        have hm : sortedE l = false := by
          rw [Bool.eq_false_iff]
          intro hs
          exact hz.1 hp ((sortedE_iff l).1 hs _ _ _ HX.out HY.out)
        have HM := Lib.hid hm
        clear hm hp hz
        go_wp2_with fail
        refine wp_region_R (R := RB) (n := 12) (by kernel_rfl) rfl ?_
        refine batchB [0, 1, 2, 3, 4, 5, 6, 7, 8, 9] (fuel := 2) rfl (by kernel_rfl) (by kernel_rfl) (fun _ _ d _ _ h => by cases d <;> exact h) ?_
        (repeat (first | ((with_reducible apply wq0); rfl; rfl; rfl; intro K hK; go_big_quiet_op; refine hK _ ?_; clear hK K) | ((with_reducible apply wq1); rfl; rfl; rfl; rfl; rfl; rfl; intro K hK; go_big_quiet_op; refine hK _ ?_; clear hK K) | ((with_reducible apply wqs); rfl; rfl; rfl; rfl; rfl; rfl; simp only [Act.put, List.setIfInBounds_toArray, List.set_cons_zero, List.set_cons_succ]) | ((with_reducible apply wqu); rfl; rfl; rfl; rfl; rfl; (first | simp only [same, Act.put, List.setIfInBounds_toArray, List.set_cons_zero, List.set_cons_succ] | simp only [Act.put, List.setIfInBounds_toArray, List.set_cons_zero, List.set_cons_succ]))))
        refine wqIdx_load rfl rfl rfl rfl (fun W hW => load_en_at _ _ y W (fun i u hi => keep_cell hW (PY.out i u hi))) ?_
        simp only [Act.put, List.setIfInBounds_toArray, List.set_cons_zero, List.set_cons_succ]
        (repeat (first | ((with_reducible apply wq0); rfl; rfl; rfl; intro K hK; go_big_quiet_op; refine hK _ ?_; clear hK K) | ((with_reducible apply wq1); rfl; rfl; rfl; rfl; rfl; rfl; intro K hK; go_big_quiet_op; refine hK _ ?_; clear hK K) | ((with_reducible apply wqs); rfl; rfl; rfl; rfl; rfl; rfl; simp only [Act.put, List.setIfInBounds_toArray, List.set_cons_zero, List.set_cons_succ]) | ((with_reducible apply wqu); rfl; rfl; rfl; rfl; rfl; (first | simp only [same, Act.put, List.setIfInBounds_toArray, List.set_cons_zero, List.set_cons_succ] | simp only [Act.put, List.setIfInBounds_toArray, List.set_cons_zero, List.set_cons_succ]))))
        refine wqIdx_load rfl rfl rfl rfl (fun W hW => load_en_at _ _ x W (fun i u hi => keep_cell hW (PX.out i u hi))) ?_
        simp only [Act.put, List.setIfInBounds_toArray, List.set_cons_zero, List.set_cons_succ]
        (repeat (first | ((with_reducible apply wq0); rfl; rfl; rfl; intro K hK; go_big_quiet_op; refine hK _ ?_; clear hK K) | ((with_reducible apply wq1); rfl; rfl; rfl; rfl; rfl; rfl; intro K hK; go_big_quiet_op; refine hK _ ?_; clear hK K) | ((with_reducible apply wqs); rfl; rfl; rfl; rfl; rfl; rfl; simp only [Act.put, List.setIfInBounds_toArray, List.set_cons_zero, List.set_cons_succ]) | ((with_reducible apply wqu); rfl; rfl; rfl; rfl; rfl; (first | simp only [same, Act.put, List.setIfInBounds_toArray, List.set_cons_zero, List.set_cons_succ] | simp only [Act.put, List.setIfInBounds_toArray, List.set_cons_zero, List.set_cons_succ]))))
        refine wqIdx_nil ?_
        refine wpAnyR_sole (i := 10) rfl (by kernel_rfl) (fun K hK => ?_); go_simp
        refine (PC.out _).mono ?_; rintro e w4 ⟨rfl, b4⟩
        refine hK _ _ b4 ?_
        have HW4 := Lib.hid (below_trans HB.out (Below.of_drew0 b4))
        clear b4
        clear hK K
        refine batchB [11] (fuel := 0) rfl (by kernel_rfl) (by kernel_rfl) (fun _ _ d _ _ h => by cases d <;> exact h) ?_; (repeat (first | ((with_reducible apply wq0); rfl; rfl; rfl; intro K hK; go_big_quiet_op; refine hK _ ?_; clear hK K) | ((with_reducible apply wq1); rfl; rfl; rfl; rfl; rfl; rfl; intro K hK; go_big_quiet_op; refine hK _ ?_; clear hK K) | ((with_reducible apply wqs); rfl; rfl; rfl; rfl; rfl; rfl; simp only [Act.put, List.setIfInBounds_toArray, List.set_cons_zero, List.set_cons_succ]) | ((with_reducible apply wqu); rfl; rfl; rfl; rfl; rfl; (first | simp only [same, Act.put, List.setIfInBounds_toArray, List.set_cons_zero, List.set_cons_succ] | simp only [Act.put, List.setIfInBounds_toArray, List.set_cons_zero, List.set_cons_succ])))); refine wqIdx_nil ?_
        refine wpAnyR_done (by kernel_rfl) ?_ _
        go_wp2
        go_ret
        exact ⟨ret_bool' HM.out.symm, HW4.out⟩
      · have d1 : decide (z < 0) = false := by simpa using hp
        have HP := Lib.hid (show cmpE x y ≤ 0 by omega)
        clear hp hz
        go_wp2_with fail
        refine wp_region_R (R := RB) (n := 12) (by kernel_rfl) rfl ?_
        refine batchB [0, 1, 2, 3, 4, 5, 6, 7, 8, 9] (fuel := 2) rfl (by kernel_rfl) (by kernel_rfl) (fun _ _ d _ _ h => by cases d <;> exact h) ?_
        (repeat (first | ((with_reducible apply wq0); rfl; rfl; rfl; intro K hK; go_big_quiet_op; refine hK _ ?_; clear hK K) | ((with_reducible apply wq1); rfl; rfl; rfl; rfl; rfl; rfl; intro K hK; go_big_quiet_op; refine hK _ ?_; clear hK K) | ((with_reducible apply wqs); rfl; rfl; rfl; rfl; rfl; rfl; simp only [Act.put, List.setIfInBounds_toArray, List.set_cons_zero, List.set_cons_succ]) | ((with_reducible apply wqu); rfl; rfl; rfl; rfl; rfl; (first | simp only [same, Act.put, List.setIfInBounds_toArray, List.set_cons_zero, List.set_cons_succ] | simp only [Act.put, List.setIfInBounds_toArray, List.set_cons_zero, List.set_cons_succ]))))
        refine wqIdx_load rfl rfl rfl rfl (fun W hW => load_en_at _ _ y W (fun i u hi => keep_cell hW (PY.out i u hi))) ?_
        simp only [Act.put, List.setIfInBounds_toArray, List.set_cons_zero, List.set_cons_succ]
        (repeat (first | ((with_reducible apply wq0); rfl; rfl; rfl; intro K hK; go_big_quiet_op; refine hK _ ?_; clear hK K) | ((with_reducible apply wq1); rfl; rfl; rfl; rfl; rfl; rfl; intro K hK; go_big_quiet_op; refine hK _ ?_; clear hK K) | ((with_reducible apply wqs); rfl; rfl; rfl; rfl; rfl; rfl; simp only [Act.put, List.setIfInBounds_toArray, List.set_cons_zero, List.set_cons_succ]) | ((with_reducible apply wqu); rfl; rfl; rfl; rfl; rfl; (first | simp only [same, Act.put, List.setIfInBounds_toArray, List.set_cons_zero, List.set_cons_succ] | simp only [Act.put, List.setIfInBounds_toArray, List.set_cons_zero, List.set_cons_succ]))))
        refine wqIdx_load rfl rfl rfl rfl (fun W hW => load_en_at _ _ x W (fun i u hi => keep_cell hW (PX.out i u hi))) ?_
        simp only [Act.put, List.setIfInBounds_toArray, List.set_cons_zero, List.set_cons_succ]
        (repeat (first | ((with_reducible apply wq0); rfl; rfl; rfl; intro K hK; go_big_quiet_op; refine hK _ ?_; clear hK K) | ((with_reducible apply wq1); rfl; rfl; rfl; rfl; rfl; rfl; intro K hK; go_big_quiet_op; refine hK _ ?_; clear hK K) | ((with_reducible apply wqs); rfl; rfl; rfl; rfl; rfl; rfl; simp only [Act.put, List.setIfInBounds_toArray, List.set_cons_zero, List.set_cons_succ]) | ((with_reducible apply wqu); rfl; rfl; rfl; rfl; rfl; (first | simp only [same, Act.put, List.setIfInBounds_toArray, List.set_cons_zero, List.set_cons_succ] | simp only [Act.put, List.setIfInBounds_toArray, List.set_cons_zero, List.set_cons_succ]))))
        refine wqIdx_nil ?_
        refine wpAnyR_sole (i := 10) rfl (by kernel_rfl) (fun K hK => ?_); go_simp
        refine (PC.out _).mono ?_; rintro e w4 ⟨rfl, b4⟩
        refine hK _ _ b4 ?_
        have HW4 := Lib.hid (below_trans HB.out (Below.of_drew0 b4))
        clear b4
        clear hK K
        refine batchB [11] (fuel := 0) rfl (by kernel_rfl) (by kernel_rfl) (fun _ _ d _ _ h => by cases d <;> exact h) ?_; (repeat (first | ((with_reducible apply wq0); rfl; rfl; rfl; intro K hK; go_big_quiet_op; refine hK _ ?_; clear hK K) | ((with_reducible apply wq1); rfl; rfl; rfl; rfl; rfl; rfl; intro K hK; go_big_quiet_op; refine hK _ ?_; clear hK K) | ((with_reducible apply wqs); rfl; rfl; rfl; rfl; rfl; rfl; simp only [Act.put, List.setIfInBounds_toArray, List.set_cons_zero, List.set_cons_succ]) | ((with_reducible apply wqu); rfl; rfl; rfl; rfl; rfl; (first | simp only [same, Act.put, List.setIfInBounds_toArray, List.set_cons_zero, List.set_cons_succ] | simp only [Act.put, List.setIfInBounds_toArray, List.set_cons_zero, List.set_cons_succ])))); refine wqIdx_nil ?_
        refine wpAnyR_done (by kernel_rfl) ?_ _
        go_wp2
        refine ⟨⟨m + 1, by omega, by go_num, fun i x y hi hx hy => ?_, HW4.out⟩, by simp [intOf]⟩
        by_cases hik : i = m
        · subst hik
          rw [HX.out] at hx
          rw [HY.out] at hy
          injection hx with hx
          injection hy with hy
          rw [← hx, ← hy]
          exact HP.out
        · exact HALL.out i x y (by omega) hx hy
    · have hm : sortedE l = true := (sortedE_iff l).2 fun i x y hx hy => HALL.out i x y (by omega) hx hy
      have HM := Lib.hid hm
      have d1 : decide (0 < (k : Int) - 1) = false := by rw [decide_eq_false_iff_not]; omega
      clear hm
      go_wp2
      go_ret
      exact ⟨ret_bool' HM.out.symm, HB.out⟩
set_option maxRecDepth 100000 in
set_option maxHeartbeats 1000000 in
theorem en_sorted_any (A : Option Addr) (h : Nat) (l : List En) (c : Nat) (w : World) (hl : SlK encE w h A l) (hn : l.length ≤ 1000000) :
    Calls Try.prog 55 #[.slice A l.length c] w fun e w' => e = .returned (.bool (sortedE l)) ∧ Below w.heap.size w w' := by
  have P1 := Lib.hid (isSortedEn_any A h l c w hl hn)
  clear hl
  go_enter Try.func55, Try.ntmps55
  go_wp2_with fail
  refine P1.out.mono ?_; rintro e w0 ⟨rfl, b0⟩
  go_wp2
  go_ret
  exact ⟨rfl, b0⟩
end Go.Proofs.Ytalefgcdhakfoaa
