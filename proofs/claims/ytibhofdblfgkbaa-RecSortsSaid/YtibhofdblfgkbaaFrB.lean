/- Contracts of package moment: Beyond, and what Front asks of the library. -/
import Derived.Test.YtibhofdblfgkbaaFrA
import Derived.Test.YtibhofdblfgkbaaFrM
namespace Go.Proofs.Ytibhofdblfgkbaa
open Go.RowKit Go.Sort

set_option maxRecDepth 100000 in
set_option maxHeartbeats 400000 in
theorem beyond_pred (A : Option Addr) (h : Nat) (l : List (Int × Int)) (c : Nat) (B : Nat) (w : World) (hl : SlP w h A l) (hbig : l.length ≤ 9223372036854775807) (hB : B < w.heap.size) (h0 : w.cell? ⟨B, 0, none⟩ = some (.slice A l.length c)) :
    PredBelow Try.prog 98 #[.pointer (some ⟨B, 0, none⟩)] (fun x => .agg (encP x).toArray) (fun x => !(l.any fun y => aheadM y x)) w := fun W x hb => by
  have k0 : W.cell? ⟨B, 0, none⟩ = some (.slice A l.length c) := (hb.cell (p := ⟨B, 0, none⟩) hB).trans h0
  have hBW : B < W.heap.size := Nat.lt_of_lt_of_le hB hb.size
  have hne : B ≠ W.heap.size := by omega
  show Calls Try.prog 98 #[.agg #[.int .i64 x.1, .int .i64 x.2], .pointer (some ⟨B, 0, none⟩)] W _
  have P := Lib.hid (covers_any A h l c x.1 x.2 (W.alloc (.cells #[.int .i64 x.1, .int .i64 x.2] 65)) ((hl.below hb).below (alloc_below W _)) hbig)
  have HB := Lib.hid hb
  obtain ⟨r, hr⟩ : ∃ r, (l.any fun y => aheadM y (x.1, x.2)) = r := ⟨_, rfl⟩
  rw [hr] at P
  have HR := Lib.hid hr
  clear hb h0 hl hr
  go_enter Try.func98, Try.ntmps98
  go_wp2_with fail
  refine P.out.mono ?_; rintro e w' ⟨rfl, b1⟩
  go_wp2
  go_ret
  have b2 := below_trans (alloc_below W _) b1
  refine ⟨?_, HB.out.trans (b2.mono HB.out.size)⟩
  show _ = Ending.returned (.bool (!(l.any fun y => aheadM y (x.1, x.2))))
  rw [HR.out]
  rfl
set_option maxRecDepth 100000 in
set_option maxHeartbeats 400000 in
theorem beyond_any (A A2 : Option Addr) (h h2 : Nat) (f l : List (Int × Int)) (c c2 : Nat) (w : World) (hf : SlP w h A f) (hl : SlP w h2 A2 l) (hbf : f.length ≤ 9223372036854775807) (hbl : l.length ≤ 9223372036854775807) :
    Calls Try.prog 62 #[.slice A f.length c, .slice A2 l.length c2] w fun e w' => e = .returned (.bool (f.all fun x => l.any fun y => aheadM y x)) ∧ Below w.heap.size w w' := by
  have eg : ∀ args w, (callFunc 98 args).run Try.prog w = .ok (.enter 98 args) w := enters_of Try.func98 (by kernel_rfl) rfl
  have P := Lib.hid (containsMo_any (fun x => !(l.any fun y => aheadM y x)) 98 #[.pointer (some ⟨w.heap.size, 0, none⟩)] eg A h f c (w.alloc (.cells #[.slice A2 l.length c2] 72)) (beyond_pred A2 h2 l c2 w.heap.size _ (hl.below (alloc_below w _)) hbl (by simp) (by simp)) (hf.below (alloc_below w _)) hbf)
  have hb := Lib.hid (alloc_below w (.cells #[.slice A2 l.length c2] 72))
  rw [show (f.any fun x => !(l.any fun y => aheadM y x)) = !(f.all fun x => l.any fun y => aheadM y x) by rw [List.not_all_eq_any_not]] at P
  generalize (f.all fun x => l.any fun y => aheadM y x) = r at P ⊢
  clear hl hf eg
  go_enter Try.func62, Try.ntmps62
  go_wp2_with fail
  refine P.out.mono ?_; rintro e w' ⟨rfl, b1⟩
  go_wp2
  go_ret
  exact ⟨by simp, below_trans hb.out b1⟩
theorem moE_zero (m : Int × Int) : (moE m == 0) = okMo m := by
  unfold moE
  cases okMo m <;> rfl
set_option maxRecDepth 100000 in
set_option maxHeartbeats 400000 in
theorem wrong_pred (w : World) :
    PredBelow Try.prog 93 #[] (fun x => .agg (encP x).toArray) (fun x => !okMo x) w := fun W x hb => by
  show Calls Try.prog 93 #[.agg #[.int .i64 x.1, .int .i64 x.2]] W _
  have P := Lib.hid (fun W => check_any x.1 x.2 W)
  have HB := Lib.hid hb
  have e := moE_zero x
  show Calls Try.prog 93 #[.agg #[.int .i64 x.1, .int .i64 x.2]] W _
  rw [show (x.1, x.2) = x from rfl] at P
  clear hb
  generalize moE x = z at P e
  have E := Lib.hid e
  clear e
  go_enter Try.func93, Try.ntmps93
  go_wp2_with fail
  refine (P.out _).mono ?_; rintro e w' ⟨rfl, b1⟩
  go_wp2
  go_ret
  have b2 := below_trans (alloc_below W _) b1
  refine ⟨?_, HB.out.trans (b2.mono HB.out.size)⟩
  show Ending.returned (.bool (z != 0)) = Ending.returned (.bool (!okMo x))
  rw [bne, E.out]
theorem info_mo3 : (Try.prog.info? 65).map (fun i => (i.zero, i.size, i.bytes)) = some (some (.agg #[.int .i64 0, .int .i64 0]), 2, 16) := by kernel_rfl
/-- A copy of moments, in a row of one's own. -/
def CopyMo (w : World) (l : List (Int × Int)) (e : Ending) (w' : World) : Prop :=
  ∃ A' c', e = .returned (.slice A' l.length c') ∧ Below w.heap.size w w' ∧ (l ≠ [] → ∃ g cur, A' = some ⟨g, 0, none⟩ ∧ w.heap.size ≤ g ∧ w'.heap[g]? = some (.cells cur 65 (0, 0)) ∧ cur.toList.take (l.length * 2) = Prs l ∧ l.length ≤ c' ∧ c' ≤ maxLen)
set_option maxRecDepth 100000 in
set_option maxHeartbeats 400000 in
theorem cloneMo_empty (A : Option Addr) (c : Nat) (w : World) :
    Calls Try.prog 95 #[.slice A 0 c] w (CopyMo w []) := by
  have q22 : ∀ (w : World) (a : Option Addr) (n c n' c' : Nat), (binOp .eql 72 (.slice a n c) (.slice none n' c')).run Try.prog w = .ok (.bool a.isNone) w := fun w a n c n' c' => Lib.run_eql_slice_nil w _ _ a n c n' c' Try.underlying72
  cases A
  · go_enter Try.func95, Try.ntmps95
    go_wp2
    go_ret
    exact ⟨none, 0, rfl, Below.refl _ _, fun h => absurd rfl h⟩
  · go_enter Try.func95, Try.ntmps95
    go_wp2
    trace_state
    go_ret
    exact ⟨_, _, rfl, alloc_below _ _, fun h => absurd rfl h⟩
set_option maxHeartbeats 400000 in
theorem cloneMo_any (A : Option Addr) (h : Nat) (l : List (Int × Int)) (c : Nat) (w : World) (hl : SlP w h A l) (hn : l.length ≤ 1000) :
    Calls Try.prog 95 #[.slice A l.length c] w (CopyMo w l) := by
  by_cases h0 : l = []
  · subst h0
    exact cloneMo_empty A c w
  · obtain ⟨hh, off, rfl, hc⟩ := hl h0
    obtain ⟨i0, hi0, hzz⟩ := Option.map_eq_some_iff.1 info_mo3
    simp only [Prod.mk.injEq] at hzz
    obtain ⟨hz0, hz1, hz2⟩ := hzz
    refine (AnyE.slices_Clone Try.cloneMo i0 _ 2 16 hi0 hz0 hz1 hz2 rfl (by omega) Try.sizeOf65 h off l.length c (Prs l) w (Prs_length l) (by unfold maxLen; omega) (by omega) hc (Prs_one l)).mono ?_
    rintro e w' ⟨v', rfl, ho, -, hb⟩
    rcases ho.2 with ⟨-, hz⟩ | ⟨g, cap, cur, rfl, hg, hhg, hnc, hcm, -, ht⟩
    · exact absurd (List.eq_nil_of_length_eq_zero hz) h0
    · exact ⟨_, cap, rfl, hb, fun _ => ⟨g, cur, rfl, hg, hhg, ht, hnc, hcm⟩⟩
theorem cmp_lays (blk off size : Nat) (w : World) : CmpLays Try.prog 55 #[] encP 2 (fun x y => cmpM x y) blk off size w :=
  fun _ _ _ _ x y => compare_grow x.1 x.2 y.1 y.2 _
/-- The sort of moments. -/
def sortMo (l : List (Int × Int)) : List (Int × Int) := l.mergeSort fun x y => !(ltM y x)
theorem sortMo_mem (l : List (Int × Int)) (x : Int × Int) : x ∈ sortMo l ↔ x ∈ l := (List.mergeSort_perm l _).mem_iff
theorem sortMo_length (l : List (Int × Int)) : (sortMo l).length = l.length := (List.mergeSort_perm l _).length_eq
theorem sortMo_sorted (l : List (Int × Int)) : (sortMo l).Pairwise fun x y => ltM y x = false := by
  have h := List.pairwise_mergeSort (le := fun x y : Int × Int => !(ltM y x)) (fun a b c h1 h2 => by
    simp only [Bool.not_eq_true'] at *
    exact ltM_swo.ntrans _ _ _ h2 h1) (fun a b => by
    rw [Bool.or_eq_true, Bool.not_eq_true', Bool.not_eq_true', ltM_not, ltM_not]; omega) l
  exact h.imp fun h => by simpa using h
set_option maxHeartbeats 400000 in
theorem sortMo_any (g c : Nat) (cur : Array Value) (l : List (Int × Int)) (w : World) (hh : w.heap[g]? = some (.cells cur 65 (0, 0))) (ht : cur.toList.take (l.length * 2) = Prs l) (hn : l.length ≤ 1000) :
    Calls Try.prog 96 #[.slice (some ⟨g, 0, none⟩) l.length c, .func (.func 55) #[] #[]] w fun e w' => e = .returned (.tuple #[]) ∧ SlP w' g (some ⟨g, 0, none⟩) (sortMo l) ∧ ∀ B, B ≤ g → Below B w w' := by
  have eg : ∀ args w, (callFunc 55 args).run Try.prog w = .ok (.enter 55 args) w := enters_of Try.func55 (by kernel_rfl) rfl
  have hlt : g < w.heap.size := Blk.lt (t := 65) hh
  have hH := holdsK_of_row hh ht
  have hcon := AnyQ.slices_SortFunc_total Try.sortMo 2 Try.isAgg65 Try.sizeOf65 encP (fun _ => rfl) (fun x v hv => by simp [encP] at hv; rcases hv with rfl | rfl <;> rfl) (fun x y => cmpM x y) (by rw [ltOf_cmp]; exact ltM_swo) 55 #[] g 0 c l.toArray w eg (cmp_lays g 0 l.toArray.size w) hH hlt (by simp; omega) (by rw [ltOf_cmp]; exact ltM_total)
  rw [ltOf_cmp] at hcon
  change Calls Try.prog 96 _ _ _ at hcon
  simp only [List.size_toArray] at hcon
  refine hcon.mono ?_
  rintro e w' ⟨rfl, n, os, rfl⟩
  refine ⟨rfl, ?_, fun B hB => sorted_below hB hlt⟩
  exact sorted_slp hH hlt (sortMo_length l)
end Go.Proofs.Ytibhofdblfgkbaa
