/- Contracts of package rec: clone, sort, contains at records. -/
import Derived.Test.YtibhofdblfgkbaaReA
import Derived.Test.YtibhofdblfgkbaaFrC
namespace Go.Proofs.Ytibhofdblfgkbaa
open Go.RowKit Go.Sort

set_option maxRecDepth 100000 in
set_option maxHeartbeats 400000 in
theorem indexRec_empty (A : Option Addr) (c : Nat) (fv : Value) (w : World) :
    Calls Try.prog 102 #[.slice A 0 c, fv] w fun e w' => e = .returned (.int .i64 (-1)) ∧ w = w' := by
  go_enter Try.func102, Try.ntmps102
  go_wp2
  go_loop [5, 8] (fun _ i => i = .int .i64 0) (fun _ _ => 0)
  case atStart => exact rfl
  case round =>
    subst hrel
    go_wp2
    go_ret
    exact ⟨rfl, rfl⟩
set_option maxRecDepth 100000 in
set_option maxHeartbeats 1000000 in
theorem containsRec_any (p : Int × Int → Bool) (g : Nat) (lb : Array Value) (eg : ∀ args w, (callFunc g args).run Try.prog w = .ok (.enter g args) w) (A : Option Addr) (h : Nat) (l : List (Int × Int)) (c : Nat) (w : World)
    (hp : PredBelow Try.prog g lb (fun x => .agg (encP x).toArray) p w) (hl : SlP w h A l) (hbig : l.length ≤ 9223372036854775807) :
    Calls Try.prog 78 #[.slice A l.length c, .func (.func g) #[] lb] w fun e w' => e = .returned (.bool (l.any p)) ∧ Below w.heap.size w w' := by
  by_cases hn : l = []
  · subst hn
    clear hp hl hbig eg
    go_enter Try.func78, Try.ntmps78
    go_wp2_with fail
    refine (indexRec_empty _ _ _ _).mono ?_
    rintro e w' ⟨rfl, rfl⟩
    go_wp2
    go_ret
    exact ⟨rfl, Below.refl _ _⟩
  · obtain ⟨hh, off, rfl, hc⟩ := hl hn
    have hcon := AnyQ.slices_ContainsFunc Try.containsRec 2 Try.isAgg24 Try.sizeOf24 encP (fun _ => rfl) p g lb eg h off l.length c l w hp (Nat.le_refl _) hbig hh (enc_cells hc)
    rw [List.take_length] at hcon
    exact hcon
theorem recE_zero (m : Int × Int) : (recE m == 0) = okRec m := by
  unfold recE
  cases okRec m <;> rfl
set_option maxRecDepth 100000 in
set_option maxHeartbeats 400000 in
theorem rwrong_pred (w : World) :
    PredBelow Try.prog 77 #[] (fun x => .agg (encP x).toArray) (fun x => !okRec x) w := fun W x hb => by
  show Calls Try.prog 77 #[.agg #[.int .i64 x.1, .int .i64 x.2]] W _
  have P := Lib.hid (fun W => rc_check_any x.1 x.2 W)
  have HB := Lib.hid hb
  have e := recE_zero x
  show Calls Try.prog 77 #[.agg #[.int .i64 x.1, .int .i64 x.2]] W _
  rw [show (x.1, x.2) = x from rfl] at P
  clear hb
  generalize recE x = z at P e
  have E := Lib.hid e
  clear e
  go_enter Try.func77, Try.ntmps77
  go_wp2_with fail
  refine (P.out _).mono ?_; rintro e w' ⟨rfl, b1⟩
  go_wp2
  go_ret
  have b2 := below_trans (alloc_below W _) b1
  refine ⟨?_, HB.out.trans (b2.mono HB.out.size)⟩
  show Ending.returned (.bool (z != 0)) = Ending.returned (.bool (!okRec x))
  rw [bne, E.out]
theorem info_rec3 : (Try.prog.info? 24).map (fun i => (i.zero, i.size, i.bytes)) = some (some (.agg #[.int .i64 0, .int .i64 0]), 2, 16) := by kernel_rfl
/-- A copy of moments, in a row of one's own. -/
def CopyRec (w : World) (l : List (Int × Int)) (e : Ending) (w' : World) : Prop :=
  ∃ A' c', e = .returned (.slice A' l.length c') ∧ Below w.heap.size w w' ∧ (l ≠ [] → ∃ g cur, A' = some ⟨g, 0, none⟩ ∧ w.heap.size ≤ g ∧ w'.heap[g]? = some (.cells cur 24 (0, 0)) ∧ cur.toList.take (l.length * 2) = Prs l ∧ l.length ≤ c' ∧ c' ≤ maxLen)
set_option maxRecDepth 100000 in
set_option maxHeartbeats 400000 in
theorem cloneRec_empty (A : Option Addr) (c : Nat) (w : World) :
    Calls Try.prog 76 #[.slice A 0 c] w (CopyRec w []) := by
  have q22 : ∀ (w : World) (a : Option Addr) (n c n' c' : Nat), (binOp .eql 22 (.slice a n c) (.slice none n' c')).run Try.prog w = .ok (.bool a.isNone) w := fun w a n c n' c' => Lib.run_eql_slice_nil w _ _ a n c n' c' Try.underlying22
  cases A
  · go_enter Try.func76, Try.ntmps76
    go_wp2
    go_ret
    exact ⟨none, 0, rfl, Below.refl _ _, fun h => absurd rfl h⟩
  · go_enter Try.func76, Try.ntmps76
    go_wp2
    go_ret
    exact ⟨_, _, rfl, alloc_below _ _, fun h => absurd rfl h⟩
set_option maxHeartbeats 400000 in
theorem cloneRec_any (A : Option Addr) (h : Nat) (l : List (Int × Int)) (c : Nat) (w : World) (hl : SlP w h A l) (hn : l.length ≤ 5000) :
    Calls Try.prog 76 #[.slice A l.length c] w (CopyRec w l) := by
  by_cases h0 : l = []
  · subst h0
    exact cloneRec_empty A c w
  · obtain ⟨hh, off, rfl, hc⟩ := hl h0
    obtain ⟨i0, hi0, hzz⟩ := Option.map_eq_some_iff.1 info_rec3
    simp only [Prod.mk.injEq] at hzz
    obtain ⟨hz0, hz1, hz2⟩ := hzz
    refine (AnyE.slices_Clone Try.cloneRec i0 _ 2 16 hi0 hz0 hz1 hz2 rfl (by omega) Try.sizeOf24 h off l.length c (Prs l) w (Prs_length l) (by unfold maxLen; omega) (by omega) hc (Prs_one l)).mono ?_
    rintro e w' ⟨v', rfl, ho, -, hb⟩
    rcases ho.2 with ⟨-, hz⟩ | ⟨g, cap, cur, rfl, hg, hhg, hnc, hcm, -, ht⟩
    · exact absurd (List.eq_nil_of_length_eq_zero hz) h0
    · exact ⟨_, cap, rfl, hb, fun _ => ⟨g, cur, rfl, hg, hhg, ht, hnc, hcm⟩⟩
theorem rc_cmp_lays (blk off size : Nat) (w : World) : CmpLays Try.prog 46 #[] encP 2 (fun x y => cmpM x y) blk off size w :=
  fun _ _ _ _ x y => rc_compare_grow x.1 x.2 y.1 y.2 _
set_option maxHeartbeats 400000 in
theorem sortRec_any (g c : Nat) (cur : Array Value) (l : List (Int × Int)) (w : World) (hh : w.heap[g]? = some (.cells cur 24 (0, 0))) (ht : cur.toList.take (l.length * 2) = Prs l) (hn : l.length ≤ 5000) :
    Calls Try.prog 101 #[.slice (some ⟨g, 0, none⟩) l.length c, .func (.func 46) #[] #[]] w fun e w' => e = .returned (.tuple #[]) ∧ SlP w' g (some ⟨g, 0, none⟩) (sortMo l) ∧ ∀ B, B ≤ g → Below B w w' := by
  have eg : ∀ args w, (callFunc 46 args).run Try.prog w = .ok (.enter 46 args) w := enters_of Try.func46 (by kernel_rfl) rfl
  have hlt : g < w.heap.size := Blk.lt (t := 24) hh
  have hH := holdsK_of_row hh ht
  have hcon := AnyQ.slices_SortFunc_total Try.sortRec 2 Try.isAgg24 Try.sizeOf24 encP (fun _ => rfl) (fun x v hv => by simp [encP] at hv; rcases hv with rfl | rfl <;> rfl) (fun x y => cmpM x y) (by rw [ltOf_cmp]; exact ltM_swo) 46 #[] g 0 c l.toArray w eg (rc_cmp_lays g 0 l.toArray.size w) hH hlt (by simp; omega) (by rw [ltOf_cmp]; exact ltM_total)
  rw [ltOf_cmp] at hcon
  change Calls Try.prog 101 _ _ _ at hcon
  simp only [List.size_toArray] at hcon
  refine hcon.mono ?_
  rintro e w' ⟨rfl, n, os, rfl⟩
  refine ⟨rfl, ?_, fun B hB => sorted_below hB hlt⟩
  exact sorted_slp hH hlt (sortMo_length l)
set_option maxHeartbeats 400000 in
theorem sortCopyRec_any (w : World) (l : List (Int × Int)) (A' : Option Addr) (c' : Nat) (w1 : World) (hn : l.length ≤ 5000)
    (hc : l ≠ [] → ∃ g cur, A' = some ⟨g, 0, none⟩ ∧ w.heap.size ≤ g ∧ w1.heap[g]? = some (.cells cur 24 (0, 0)) ∧ cur.toList.take (l.length * 2) = Prs l ∧ l.length ≤ c' ∧ c' ≤ maxLen) (hb : Below w.heap.size w w1) :
    Calls Try.prog 101 #[.slice A' l.length c', .func (.func 46) #[] #[]] w1 fun e w' => e = .returned (.tuple #[]) ∧ (∃ h, SlP w' h A' (sortMo l)) ∧ Below w.heap.size w w' := by
  by_cases h0 : l = []
  · subst h0
    refine (AnyF.slices_SortFunc_none Try.sortRec A' c' _ w1).mono ?_
    rintro e w' ⟨rfl, rfl⟩
    exact ⟨rfl, ⟨0, fun e => absurd (List.eq_nil_of_length_eq_zero (sortMo_length [])) e⟩, hb⟩
  · obtain ⟨g, cur, rfl, hg, hh, ht, hnc, hcm⟩ := hc h0
    refine (sortRec_any g c' cur l w1 hh ht hn).mono ?_
    rintro e w' ⟨rfl, hs, hb2⟩
    exact ⟨rfl, ⟨g, hs⟩, hb.trans (hb2 _ hg)⟩
end Go.Proofs.Ytibhofdblfgkbaa
