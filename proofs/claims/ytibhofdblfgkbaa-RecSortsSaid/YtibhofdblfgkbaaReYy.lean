/- The law RecSorts, given the document's Groups. -/
import Derived.Test.YtibhofdblfgkbaaReD
import Derived.Test.YtibhofdblfgkbaaReS
import Derived.Test.YtibhofdblfgkbaaReG
import Derived.Test.YtibhofdblfgkbaaOpS
import Derived.Test.YtibhofdblfgkbaaReYx
namespace Go.Proofs.Ytibhofdblfgkbaa
open Go.RowKit Go.Sort

set_option maxRecDepth 100000 in
set_option maxHeartbeats 1000000 in
theorem rrc_count_any (A : Option Addr) (h : Nat) (l : List (Int × Int)) (c : Nat) (a b : Int) (w : World) (hl : SlP w h A l) (hn : l.length ≤ 9223372036854775807) :
    Calls Try.prog 25 #[.slice A l.length c, .agg #[.int .i64 a, .int .i64 b]] w fun e w' => e = .returned (.int .i64 (cntR l (a, b) : Nat)) ∧ Below w.heap.size w w' := by
  have HL := Lib.hid hl
  have HB0 := Lib.hid (alloc_below w (.cells #[.int .i64 a, .int .i64 b] 24))
  have KB := Lib.hid (Blk.new w 24 #[.int .i64 a, .int .i64 b])
  clear hl
  go_enter Try.func25, Try.ntmps25
  go_wp2_with fail
  go_loopw [5, 6] (fun n i wr => ∃ k : Nat, k ≤ l.length ∧ i = .int .i64 (k : Int) ∧ n = .int .i64 (cntR (l.take k) (a, b) : Nat) ∧ Below (w.heap.size + 1) (w.alloc (.cells #[.int .i64 a, .int .i64 b] 24)) wr) (fun _ i _ => l.length - (intOf i).toNat)
  case atStart => exact ⟨0, Nat.zero_le _, rfl, rfl, Below.refl _ _⟩
  case round =>
    obtain ⟨k, hk, rfl, rfl, hbw⟩ := hrel
    have BW := Lib.hid hbw
    have BF := Lib.hid (HB0.out.trans (hbw.mono (Nat.le_succ _)))
    clear hbw
    by_cases hlt : k < l.length
    · obtain ⟨x, hx⟩ : ∃ x, l[k]? = some x := ⟨_, List.getElem?_eq_getElem hlt⟩
      have HS := Lib.hid (cntR_take (a, b) hx)
      have hle := Nat.le_trans (cntR_le (l.take k) (a, b)) (by rw [List.length_take]; exact Nat.min_le_left _ _)
      generalize cntR (l.take k) (a, b) = n at HS hle
      obtain ⟨x1, x2⟩ := x
      obtain ⟨-, o1, eA, p0, p1⟩ := (HL.out.below BF.out).at_ hx
      subst eA
      have k0 : wr.drew.cell? ⟨w.heap.size, 0, none⟩ = some (.int .i64 a) := (BW.out.cell (p := ⟨w.heap.size, 0, none⟩) (Nat.lt_succ_self _)).trans (KB.out.cell 0)
      have k1 : wr.drew.cell? ⟨w.heap.size, 1, none⟩ = some (.int .i64 b) := (BW.out.cell (p := ⟨w.heap.size, 1, none⟩) (Nat.lt_succ_self _)).trans (KB.out.cell 1)
      have p0' : wr.drew.cell? ⟨h, o1 + k * 2, none⟩ = _ := p0
      have p1' : wr.drew.cell? ⟨h, o1 + k * 2 + 1, none⟩ = _ := p1
      clear hx p0 p1
      by_cases e1 : x1 = a
      · by_cases e2 : x2 = b
        · have hs : cntR (l.take (k + 1)) (a, b) = n + 1 := by rw [HS.out, e1, e2]; simp
          have HSN := Lib.hid hs
          subst e1 e2
          clear HS hs
          go_wp2_with fail
          go_region
          go_wp2
          exact ⟨⟨k + 1, by omega, by go_num, by rw [HSN.out]; go_num, below_drew0 BW.out⟩, by simp [intOf]; omega⟩
        · have hs : cntR (l.take (k + 1)) (a, b) = n := by
            have h9 : ¬ ((x1, x2) == (a, b)) = true := by simpa using fun _ => e2
            rw [HS.out, if_neg h9, Nat.add_zero]
          have HSN := Lib.hid hs
          have d2 : (x2 == b) = false := by simpa using e2
          subst e1
          clear HS hs e2
          go_wp2_with fail
          go_region
          go_wp2
          exact ⟨⟨k + 1, by omega, by go_num, by rw [HSN.out], below_drew0 BW.out⟩, by simp [intOf]; omega⟩
      · have hs : cntR (l.take (k + 1)) (a, b) = n := by
          have h9 : ¬ ((x1, x2) == (a, b)) = true := by simpa using fun e => absurd e e1
          rw [HS.out, if_neg h9, Nat.add_zero]
        have HSN := Lib.hid hs
        have d1 : (x1 == a) = false := by simpa using e1
        clear HS hs e1
        go_wp2_with fail
        go_region
        go_wp2
        exact ⟨⟨k + 1, by omega, by go_num, by rw [HSN.out], below_drew0 BW.out⟩, by simp [intOf]; omega⟩
    · obtain rfl : k = l.length := by omega
      rw [List.take_length]
      have hle := cntR_le l (a, b)
      go_wp2
      go_ret
      exact ⟨rfl, BF.out⟩

def LawSo (w : World) (e : Ending) (w' : World) : Prop := e = .returned (.bool true) ∧ Below w.heap.size w w'
/-- What the document's Groups leaves. -/
def RGroups (w : World) (G : List (List (Int × Int))) (e : Ending) (w' : World) : Prop :=
  ∃ A c vs row, e = .returned (.slice A G.length c) ∧ w'.ownsRow w.heap.size 22 1 (.slice A G.length c) G.length vs ∧ GrpAt w' row G vs ∧ Below w.heap.size w w'
def RGroupsAll : Prop := ∀ (A : Option Addr) (h : Nat) (l : List (Int × Int)) (c : Nat) (w : World), SlP w h A l → l.length ≤ c → c ≤ maxLen → l.length ≤ 10000 →
  Calls Try.prog 27 #[.slice A l.length c] w (RGroups w (grp (srt l)))
theorem largeS_any (A : Option Addr) (n c : Nat) (w : World) : Calls Try.prog 15 #[.slice A n c] w fun e w' => e = .returned (.bool (decide ((5000 : Int) < (n : Int)))) ∧ w = w' := by
  go_enter Try.func15, Try.ntmps15
  go_wp2
  go_ret
  exact ⟨rfl, rfl⟩
theorem GrpAt.get {w : World} {row : Option Nat} : ∀ {gs : List (List (Int × Int))} {vs : List Value}, GrpAt w row gs vs → ∀ {i : Nat} {g : List (Int × Int)}, gs[i]? = some g → ∃ A c h, vs[i]? = some (.slice A g.length c) ∧ SlP w h A g
  | [], [], _, i, g, hi => by simp at hi
  | x :: gs, v :: vs, h, 0, g, hi => by
    obtain ⟨⟨A, c, hh, e, -, s, -⟩, -⟩ := h
    simp only [List.getElem?_cons_zero, Option.some.injEq] at hi
    subst hi
    exact ⟨A, c, hh, by rw [e]; rfl, s⟩
  | x :: gs, v :: vs, h, i + 1, g, hi => GrpAt.get h.2 (by simpa using hi)
  | [], _ :: _, h, _, _, _ => h.elim
  | _ :: _, [], h, _, _, _ => h.elim
theorem GrpAt.below {w w' : World} {row : Option Nat} {gs : List (List (Int × Int))} {vs : List Value} (h : GrpAt w row gs vs) (b : Below w.heap.size w w') : GrpAt w' row gs vs :=
  h.keep b.size fun k hk hr => ⟨b.block k hk, hr⟩
theorem load_sl (h off : Nat) (A : Option Addr) (n c : Nat) (w : World) (h0 : w.cell? ⟨h, off, none⟩ = some (.slice A n c)) : (Instr.loadAt 22 (.pointer (some ⟨h, off, none⟩))).run Try.prog w = .ok (.slice A n c) w := by
  go_simp
theorem grpN_length : ∀ (n : Nat) (l : List (Int × Int)), (grpN n l).length ≤ n
  | 0, l => by simp [grpN]
  | n + 1, [] => by simp [grpN]
  | n + 1, x :: t => by
    have := grpN_length n ((x :: t).dropWhile (keyIs x.1))
    simp only [grpN, List.length_cons]
    omega
theorem grpN_part : ∀ (n : Nat) (l : List (Int × Int)) (g : List (Int × Int)), g ∈ grpN n l → g.length ≤ l.length
  | 0, l, g, h => by simp [grpN] at h
  | n + 1, [], g, h => by simp [grpN] at h
  | n + 1, x :: t, g, h => by
    simp only [grpN, List.mem_cons] at h
    rcases h with h | h
    · rw [h]; exact tw_le _ _
    · exact Nat.le_trans (grpN_part n _ g h) (List.dropWhile_sublist _).length_le
set_option maxRecDepth 100000 in
theorem sorts_large (A : Option Addr) (l : List (Int × Int)) (c : Nat) (a b : Int) (w : World) (la : 5000 < l.length) :
    Calls Try.prog 3 #[.slice A l.length c, .agg #[.int .i64 a, .int .i64 b]] w (LawSo w) := by
  have d1 : decide ((5000 : Int) < (l.length : Int)) = true := by rw [decide_eq_true_eq]; omega
  have B0 := Lib.hid (alloc_below w (.cells #[.int .i64 a, .int .i64 b] 24))
  go_enter Try.func3, Try.ntmps3
  go_wp2_with fail
  refine (largeS_any _ _ _ _).mono ?_; rintro e w1 ⟨rfl, rfl⟩
  rw [d1]
  go_wp2_with fail
  refine (lives_any _).mono ?_; rintro e w2 ⟨rfl, b2⟩
  go_wp2
  go_ret
  exact ⟨rfl, below_trans B0.out b2⟩
set_option maxRecDepth 100000 in
set_option maxHeartbeats 8000000 in
theorem sorts_no (A : Option Addr) (h : Nat) (l : List (Int × Int)) (c : Nat) (a b : Int) (w : World) (hl : SlP w h A l) (hn : l.length ≤ 5000) (h0 : mayE l ≠ 0) :
    Calls Try.prog 3 #[.slice A l.length c, .agg #[.int .i64 a, .int .i64 b]] w (LawSo w) := by
  have d1 : decide ((5000 : Int) < (l.length : Int)) = false := by rw [decide_eq_false_iff_not]; omega
  have HN := Lib.hid hn
  have B0 := Lib.hid (alloc_below w (.cells #[.int .i64 a, .int .i64 b] 24))
  have K0 := Lib.hid (Blk.new w 24 #[.int .i64 a, .int .i64 b])
  have L0 := Lib.hid (hl.below (alloc_below w (.cells #[.int .i64 a, .int .i64 b] 24)))
  have hs0 := B0.out.size
  generalize hW0 : w.alloc (.cells #[.int .i64 a, .int .i64 b] 24) = w0 at B0 L0 K0 hs0
  have HW0 := Lib.hid hW0
  have BE := Lib.hid (alloc_below w0 (.cells #[] 24))
  have HR := Lib.hid ((L0.out.below BE.out).reads)
  have HO := Lib.hid (own_empty w0 24 2 w0.heap.size (Nat.le_refl _))
  have HS := Lib.hid (show w0.heap.size ≤ (w0.alloc (.cells #[] 24)).heap.size from BE.out.size)
  have PM := Lib.hid (fun W h' A' c' (s : SlP W h' A' l) => rc_may_any A' h' l c' W s (by omega))
  have PN := Lib.hid (fun W (s : SlP W h A l) => rrc_may_any A h l c W s (by omega))
  have PT := Lib.hid (fun W h' A' c' (s : SlP W h' A' l) => rc_sorted_any A' h' l c' W s (by omega))
  have PU := Lib.hid (fun W (s : SlP W h A l) => rrc_sorted_any A h l c W s (by omega))
  have PC := Lib.hid (fun W h' A' c' (s : SlP W h' A' l) => rc_count_any A' h' l c' a b W s (by omega))
  have PQ := Lib.hid (fun W (s : SlP W h A l) => rrc_count_any A h l c a b W s (by omega))
  have PX := Lib.hid (fun W A1 A2 h1 h2 c1 c2 (s1 : SlP W h1 A1 l) (s2 : SlP W h2 A2 l) => rexact_any A1 A2 h1 h2 l l c1 c2 W s1 s2 (by omega) (by omega))
  simp only [beq_self_eq_true] at PX
  have PS := Lib.hid (fun W h' A' c' (s : SlP W h' A' l) => rc_sort_any A' h' l c' W s (by omega))
  have PD := Lib.hid (fun W h' A' c' (s : SlP W h' A' l) => rc_distinct_no A' h' l c' W s (by omega) h0)
  have PV := Lib.hid (fun W h' A' c' (s : SlP W h' A' l) => rc_groups_no A' h' l c' W s (by omega) h0)
  have d2 : (mayE l == 0) = false := by simpa using h0
  have d3 : (mayE l != 0) = true := by rw [bne, d2]; rfl
  have H0 := Lib.hid h0
  generalize mayE l = z at PM PN PS PD PV d2 d3 H0
  generalize sortedB l = sb at PT PU
  have hcl := cntR_le l (a, b)
  generalize cntR l (a, b) = nn at PC PQ hcl
  clear hl h0 hW0 hn hcl
  go_enter Try.func3, Try.ntmps3
  go_wp2_with fail
  rw [HW0.out]
  refine (largeS_any _ _ _ _).mono ?_; rintro e w1 ⟨rfl, rfl⟩
  rw [d1]
  go_wp2_with (at_builtin; (refine wpList_appP (xs := []) (ys := l) _ rfl (.tmp 18) (.tmp 19) _ rfl Try.underlying22 info_rec3 HO.out HR.out c rfl rfl (by have := HN.out; omega) HS.out ?_); intro A5 c5 w5 o5 gr5; have O5 := Lib.hid o5; have G5 := Lib.hid gr5; clear o5 gr5)
  rw [Nat.zero_add, List.nil_append] at O5
  have HB := Lib.hid (BE.out.grown (Grew.by_ G5.out) HS.out fun i hi => (World.ownsRow.lt HO.out i hi).1)
  obtain ⟨g5, -, s5, -⟩ := SlP.of_own O5.out
  have OW := Lib.hid s5
  have L1 := Lib.hid (L0.out.below HB.out)
  clear s5 O5 G5 HO HR HS BE L0
  refine (PN.out _ L1.out).mono ?_; rintro e w6 ⟨rfl, b6⟩
  have HB := Lib.hid (below_trans HB.out b6)
  have L1 := Lib.hid (L1.out.below b6)
  have OW := Lib.hid (OW.out.below b6)
  clear b6
  go_wp2_with fail
  refine (PS.out _ _ _ _ OW.out).mono ?_; rintro e w7 (⟨-, rfl, b7⟩ | ⟨hz, -⟩)
  rotate_left
  · exact absurd hz H0.out
  have HB := Lib.hid (below_trans HB.out b7)
  have L1 := Lib.hid (L1.out.below b7)
  have OW := Lib.hid (OW.out.below b7)
  clear b7
  go_wp2_with fail
  refine (PD.out _ _ _ _ OW.out).mono ?_; rintro e w8 ⟨rfl, b8⟩
  have HB := Lib.hid (below_trans HB.out b8)
  have L1 := Lib.hid (L1.out.below b8)
  have OW := Lib.hid (OW.out.below b8)
  clear b8
  go_wp2_with fail
  refine (PV.out _ _ _ _ OW.out).mono ?_; rintro e w9 ⟨rfl, b9⟩
  have HB := Lib.hid (below_trans HB.out b9)
  have L1 := Lib.hid (L1.out.below b9)
  have OW := Lib.hid (OW.out.below b9)
  clear b9
  go_wp2_with fail
  refine wp_region_R (R := RB) (n := 45) (by kernel_rfl) rfl ?_
  refine wpAnyR_sole (i := 0) rfl (by kernel_rfl) (fun K hK => ?_)
  go_simp
  refine (lives_any _).mono ?_; rintro e w10 ⟨rfl, b10⟩
  refine hK _ _ b10 ?_
  have HB := Lib.hid (below_trans HB.out (Below.of_drew0 b10))
  have L1 := Lib.hid (L1.out.below (Below.of_drew0 b10))
  have OW := Lib.hid (OW.out.below (Below.of_drew0 b10))
  clear hK K b10
  refine batchB [1, 2, 3, 5] (fuel := 40) rfl (by kernel_rfl) (by kernel_rfl) (fun _ _ d _ _ h => by cases d <;> exact h) ?_
  repeat (first | ((with_reducible apply wq0); rfl; rfl; rfl; intro K hK; go_big_quiet_op; refine hK _ ?_; clear hK K) | ((with_reducible apply wq1); rfl; rfl; rfl; rfl; rfl; rfl; intro K hK; go_big_quiet_op; refine hK _ ?_; clear hK K) | ((with_reducible apply wqs); rfl; rfl; rfl; rfl; rfl; rfl; simp only [Act.put, List.setIfInBounds_toArray, List.set_cons_zero, List.set_cons_succ]) | ((with_reducible apply wqu); rfl; rfl; rfl; rfl; rfl; simp only [same]) | ((with_reducible apply wqu); rfl; rfl; rfl; rfl; rfl; simp only [Act.put, List.setIfInBounds_toArray, List.set_cons_zero, List.set_cons_succ]))
  refine wqIdx_nil ?_
  refine wpAnyR_sole (i := 4) rfl (by kernel_rfl) (fun K hK => ?_)
  go_simp
  refine (PM.out _ _ _ _ OW.out).mono ?_; rintro e w11 ⟨rfl, b11⟩
  refine hK _ _ b11 ?_
  have HB := Lib.hid (below_trans HB.out b11)
  have L1 := Lib.hid (L1.out.below b11)
  have OW := Lib.hid (OW.out.below b11)
  clear hK K b11
  refine batchB [6, 7, 8, 9, 10, 11, 12, 13, 14, 15, 16, 17, 18, 19, 20, 21, 22, 23, 24, 26] (fuel := 19) rfl (by kernel_rfl) (by kernel_rfl) (fun _ _ d _ _ h => by cases d <;> exact h) ?_
  repeat (first | ((with_reducible apply wq0); rfl; rfl; rfl; intro K hK; go_big_quiet_op; refine hK _ ?_; clear hK K) | ((with_reducible apply wq1); rfl; rfl; rfl; rfl; rfl; rfl; intro K hK; go_big_quiet_op; refine hK _ ?_; clear hK K) | ((with_reducible apply wqs); rfl; rfl; rfl; rfl; rfl; rfl; simp only [Act.put, List.setIfInBounds_toArray, List.set_cons_zero, List.set_cons_succ]) | ((with_reducible apply wqu); rfl; rfl; rfl; rfl; rfl; simp only [same]) | ((with_reducible apply wqu); rfl; rfl; rfl; rfl; rfl; simp only [Act.put, List.setIfInBounds_toArray, List.set_cons_zero, List.set_cons_succ]))
  refine wqIdx_nil ?_
  refine wpAnyR_sole (i := 25) rfl (by kernel_rfl) (fun K hK => ?_)
  go_simp
  refine (PT.out _ _ _ _ OW.out).mono ?_; rintro e w12 ⟨rfl, b12⟩
  refine hK _ _ b12 ?_
  have HB := Lib.hid (below_trans HB.out b12)
  have L1 := Lib.hid (L1.out.below b12)
  have OW := Lib.hid (OW.out.below b12)
  clear hK K b12
  refine wpAnyR_sole (i := 27) rfl (by kernel_rfl) (fun K hK => ?_)
  go_simp
  refine (PU.out _ L1.out).mono ?_; rintro e w13 ⟨rfl, b13⟩
  refine hK _ _ b13 ?_
  have HB := Lib.hid (below_trans HB.out b13)
  have L1 := Lib.hid (L1.out.below b13)
  have OW := Lib.hid (OW.out.below b13)
  clear hK K b13
  have q0 : w13.cell? ⟨w.heap.size, 0, none⟩ = some (.int .i64 a) := (K0.out.below HB.out K0.out.lt).cell 0
  have q1 : w13.cell? ⟨w.heap.size, 1, none⟩ = some (.int .i64 b) := (K0.out.below HB.out K0.out.lt).cell 1
  refine batchB [28, 29, 30, 31, 32, 34, 35] (fuel := 10) rfl (by kernel_rfl) (by kernel_rfl) (fun _ _ d _ _ h => by cases d <;> exact h) ?_
  repeat (first | ((with_reducible apply wq0); rfl; rfl; rfl; intro K hK; go_big_quiet_op; refine hK _ ?_; clear hK K) | ((with_reducible apply wq1); rfl; rfl; rfl; rfl; rfl; rfl; intro K hK; go_big_quiet_op; refine hK _ ?_; clear hK K) | ((with_reducible apply wqs); rfl; rfl; rfl; rfl; rfl; rfl; simp only [Act.put, List.setIfInBounds_toArray, List.set_cons_zero, List.set_cons_succ]) | ((with_reducible apply wqu); rfl; rfl; rfl; rfl; rfl; simp only [same]) | ((with_reducible apply wqu); rfl; rfl; rfl; rfl; rfl; simp only [Act.put, List.setIfInBounds_toArray, List.set_cons_zero, List.set_cons_succ]))
  refine wqIdx_load rfl rfl rfl rfl (fun W hW => load_rec_at _ _ a b W (keep_cell hW q0) (keep_cell hW q1)) ?_
  simp only [Act.put, List.setIfInBounds_toArray, List.set_cons_zero, List.set_cons_succ]
  repeat (first | ((with_reducible apply wq0); rfl; rfl; rfl; intro K hK; go_big_quiet_op; refine hK _ ?_; clear hK K) | ((with_reducible apply wq1); rfl; rfl; rfl; rfl; rfl; rfl; intro K hK; go_big_quiet_op; refine hK _ ?_; clear hK K) | ((with_reducible apply wqs); rfl; rfl; rfl; rfl; rfl; rfl; simp only [Act.put, List.setIfInBounds_toArray, List.set_cons_zero, List.set_cons_succ]) | ((with_reducible apply wqu); rfl; rfl; rfl; rfl; rfl; simp only [same]) | ((with_reducible apply wqu); rfl; rfl; rfl; rfl; rfl; simp only [Act.put, List.setIfInBounds_toArray, List.set_cons_zero, List.set_cons_succ]))
  refine wqIdx_load rfl rfl rfl rfl (fun W hW => load_rec_at _ _ a b W (keep_cell hW q0) (keep_cell hW q1)) ?_
  simp only [Act.put, List.setIfInBounds_toArray, List.set_cons_zero, List.set_cons_succ]
  repeat (first | ((with_reducible apply wq0); rfl; rfl; rfl; intro K hK; go_big_quiet_op; refine hK _ ?_; clear hK K) | ((with_reducible apply wq1); rfl; rfl; rfl; rfl; rfl; rfl; intro K hK; go_big_quiet_op; refine hK _ ?_; clear hK K) | ((with_reducible apply wqs); rfl; rfl; rfl; rfl; rfl; rfl; simp only [Act.put, List.setIfInBounds_toArray, List.set_cons_zero, List.set_cons_succ]) | ((with_reducible apply wqu); rfl; rfl; rfl; rfl; rfl; simp only [same]) | ((with_reducible apply wqu); rfl; rfl; rfl; rfl; rfl; simp only [Act.put, List.setIfInBounds_toArray, List.set_cons_zero, List.set_cons_succ]))
  refine wqIdx_nil ?_
  clear q0 q1
  refine wpAnyR_sole (i := 33) rfl (by kernel_rfl) (fun K hK => ?_)
  go_simp
  refine (PC.out _ _ _ _ OW.out).mono ?_; rintro e w14 ⟨rfl, b14⟩
  refine hK _ _ b14 ?_
  have HB := Lib.hid (below_trans HB.out b14)
  have L1 := Lib.hid (L1.out.below b14)
  have OW := Lib.hid (OW.out.below b14)
  clear hK K b14
  refine wpAnyR_sole (i := 36) rfl (by kernel_rfl) (fun K hK => ?_)
  go_simp
  refine (PQ.out _ L1.out).mono ?_; rintro e w15 ⟨rfl, b15⟩
  refine hK _ _ b15 ?_
  have HB := Lib.hid (below_trans HB.out b15)
  have L1 := Lib.hid (L1.out.below b15)
  have OW := Lib.hid (OW.out.below b15)
  clear hK K b15
  refine batchB [37, 38, 39, 40, 41] (fuel := 3) rfl (by kernel_rfl) (by kernel_rfl) (fun _ _ d _ _ h => by cases d <;> exact h) ?_
  repeat (first | ((with_reducible apply wq0); rfl; rfl; rfl; intro K hK; go_big_quiet_op; refine hK _ ?_; clear hK K) | ((with_reducible apply wq1); rfl; rfl; rfl; rfl; rfl; rfl; intro K hK; go_big_quiet_op; refine hK _ ?_; clear hK K) | ((with_reducible apply wqs); rfl; rfl; rfl; rfl; rfl; rfl; simp only [Act.put, List.setIfInBounds_toArray, List.set_cons_zero, List.set_cons_succ]) | ((with_reducible apply wqu); rfl; rfl; rfl; rfl; rfl; simp only [same]) | ((with_reducible apply wqu); rfl; rfl; rfl; rfl; rfl; simp only [Act.put, List.setIfInBounds_toArray, List.set_cons_zero, List.set_cons_succ]))
  refine wqIdx_nil ?_
  refine wpAnyR_sole (i := 42) rfl (by kernel_rfl) (fun K hK => ?_)
  go_simp
  refine (PX.out _ _ _ _ _ _ _ OW.out L1.out).mono ?_; rintro e w16 ⟨rfl, b16⟩
  refine hK _ _ b16 ?_
  have HB := Lib.hid (below_trans HB.out b16)
  have L1 := Lib.hid (L1.out.below b16)
  have OW := Lib.hid (OW.out.below b16)
  clear hK K b16
  refine batchB [43, 44] (fuel := 0) rfl (by kernel_rfl) (by kernel_rfl) (fun _ _ d _ _ h => by cases d <;> exact h) ?_
  repeat (first | ((with_reducible apply wq0); rfl; rfl; rfl; intro K hK; go_big_quiet_op; refine hK _ ?_; clear hK K) | ((with_reducible apply wq1); rfl; rfl; rfl; rfl; rfl; rfl; intro K hK; go_big_quiet_op; refine hK _ ?_; clear hK K) | ((with_reducible apply wqs); rfl; rfl; rfl; rfl; rfl; rfl; simp only [Act.put, List.setIfInBounds_toArray, List.set_cons_zero, List.set_cons_succ]) | ((with_reducible apply wqu); rfl; rfl; rfl; rfl; rfl; simp only [same]) | ((with_reducible apply wqu); rfl; rfl; rfl; rfl; rfl; simp only [Act.put, List.setIfInBounds_toArray, List.set_cons_zero, List.set_cons_succ]))
  refine wqIdx_nil ?_
  refine wpAnyR_done (by kernel_rfl) ?_ _
  go_wp2
  go_ret
  exact ⟨rfl, below_trans B0.out HB.out⟩
set_option maxRecDepth 100000 in
set_option maxHeartbeats 8000000 in
theorem sorts_ok (PG : RGroupsAll) (A : Option Addr) (h : Nat) (l : List (Int × Int)) (c : Nat) (a b : Int) (w : World) (hl : SlP w h A l) (hc : l.length ≤ c) (hm : c ≤ maxLen) (hn : l.length ≤ 5000) (h0 : mayE l = 0) :
    Calls Try.prog 3 #[.slice A l.length c, .agg #[.int .i64 a, .int .i64 b]] w (LawSo w) := by
  have d1 : decide ((5000 : Int) < (l.length : Int)) = false := by rw [decide_eq_false_iff_not]; omega
  have HN := Lib.hid hn
  have B0 := Lib.hid (alloc_below w (.cells #[.int .i64 a, .int .i64 b] 24))
  have K0 := Lib.hid (Blk.new w 24 #[.int .i64 a, .int .i64 b])
  have L0 := Lib.hid (hl.below (alloc_below w (.cells #[.int .i64 a, .int .i64 b] 24)))
  have hs0 := B0.out.size
  generalize hW0 : w.alloc (.cells #[.int .i64 a, .int .i64 b] 24) = w0 at B0 L0 K0 hs0
  have HW0 := Lib.hid hW0
  have BE := Lib.hid (alloc_below w0 (.cells #[] 24))
  have HR := Lib.hid ((L0.out.below BE.out).reads)
  have HO := Lib.hid (own_empty w0 24 2 w0.heap.size (Nat.le_refl _))
  have HS := Lib.hid (show w0.heap.size ≤ (w0.alloc (.cells #[] 24)).heap.size from BE.out.size)
  have PM := Lib.hid (fun W h' A' c' (s : SlP W h' A' l) => rc_may_any A' h' l c' W s (by omega))
  have PN := Lib.hid (fun W (s : SlP W h A l) => rrc_may_any A h l c W s (by omega))
  have PT := Lib.hid (fun W h' A' c' (s : SlP W h' A' l) => rc_sorted_any A' h' l c' W s (by omega))
  have PU := Lib.hid (fun W (s : SlP W h A l) => rrc_sorted_any A h l c W s (by omega))
  have PC := Lib.hid (fun W h' A' c' (s : SlP W h' A' l) => rc_count_any A' h' l c' a b W s (by omega))
  have PQ := Lib.hid (fun W (s : SlP W h A l) => rrc_count_any A h l c a b W s (by omega))
  have PX := Lib.hid (fun W A1 A2 h1 h2 c1 c2 (s1 : SlP W h1 A1 l) (s2 : SlP W h2 A2 l) => rexact_any A1 A2 h1 h2 l l c1 c2 W s1 s2 (by omega) (by omega))
  simp only [beq_self_eq_true] at PX
  have PS := Lib.hid (fun W h' A' c' (s : SlP W h' A' l) => rc_sort_any A' h' l c' W s (by omega))
  have PD := Lib.hid (fun W h' A' c' (s : SlP W h' A' l) => rc_distinct_ok A' h' l c' W s h0)
  have PV := Lib.hid (fun W h' A' c' (s : SlP W h' A' l) => rc_groups_ok A' h' l c' W s h0)
  have PG2 := Lib.hid (fun W (s : SlP W h A l) => PG A h l c W s hc hm (by omega))
  have PS2 := Lib.hid (fun W (s : SlP W h A l) => rrc_sort_any l.length A h l c W (Nat.le_refl _) s hc (by omega) hm)
  have PD2 := Lib.hid (fun W (s : SlP W h A l) => rrc_distinct_any A h l c W s hc hm (by omega))
  have hsl := Lib.hid (srt_length l)
  have hdl : (disR l).length ≤ 5000 := by
    have : (Lib.compactUpTo (srt l).toArray (srt l).length).length ≤ (srt l).length := by
      unfold Lib.compactUpTo
      rw [List.length_map]
      exact Nat.le_trans (List.length_filter_le _ _) (by rw [List.length_range]; exact Nat.le_refl _)
    have := hsl.out
    unfold disR
    omega
  have PY := Lib.hid (fun W A1 A2 h1 h2 c1 c2 (s1 : SlP W h1 A1 (srt l)) (s2 : SlP W h2 A2 (srt l)) => rexact_any A1 A2 h1 h2 (srt l) (srt l) c1 c2 W s1 s2 (by rw [hsl.out]; omega) (by rw [hsl.out]; omega))
  have PZ := Lib.hid (fun W A1 A2 h1 h2 c1 c2 (s1 : SlP W h1 A1 (disR l)) (s2 : SlP W h2 A2 (disR l)) => rexact_any A1 A2 h1 h2 (disR l) (disR l) c1 c2 W s1 s2 (by omega) (by omega))
  have hgl : (grp (srt l)).length ≤ 5000 := Nat.le_trans (grpN_length _ _) (by rw [hsl.out]; exact hn)
  have PW := Lib.hid (fun x (hx : x ∈ grp (srt l)) W A1 A2 h1 h2 c1 c2 (s1 : SlP W h1 A1 x) (s2 : SlP W h2 A2 x) => rexact_any A1 A2 h1 h2 x x c1 c2 W s1 s2 (by have := grpN_part _ _ _ hx; have := hsl.out; omega) (by have := grpN_part _ _ _ hx; have := hsl.out; omega))
  simp only [beq_self_eq_true] at PY PZ PW
  rw [h0] at PM PN
  have H0 := Lib.hid h0
  unfold GroupsAns at PV
  unfold RGroups at PG2
  obtain ⟨D, hD⟩ : ∃ D, disR l = D := ⟨_, rfl⟩
  obtain ⟨G, hG⟩ : ∃ G, grp (srt l) = G := ⟨_, rfl⟩
  rw [hD] at PD PD2 PZ
  rw [hG] at PV PG2 PW hgl
  clear hdl hD hG hc hm
  generalize sortedB l = sb at PT PU
  have hcl := cntR_le l (a, b)
  generalize cntR l (a, b) = nn at PC PQ hcl
  clear hl h0 hW0 hn hcl
  go_enter Try.func3, Try.ntmps3
  go_wp2_with fail
  rw [HW0.out]
  refine (largeS_any _ _ _ _).mono ?_; rintro e w1 ⟨rfl, rfl⟩
  rw [d1]
  go_wp2_with (at_builtin; (refine wpList_appP (xs := []) (ys := l) _ rfl (.tmp 18) (.tmp 19) _ rfl Try.underlying22 info_rec3 HO.out HR.out c rfl rfl (by have := HN.out; omega) HS.out ?_); intro A5 c5 w5 o5 gr5; have O5 := Lib.hid o5; have G5 := Lib.hid gr5; clear o5 gr5)
  rw [Nat.zero_add, List.nil_append] at O5
  have HB := Lib.hid (BE.out.grown (Grew.by_ G5.out) HS.out fun i hi => (World.ownsRow.lt HO.out i hi).1)
  obtain ⟨g5, -, s5, -⟩ := SlP.of_own O5.out
  have OW := Lib.hid s5
  have L1 := Lib.hid (L0.out.below HB.out)
  clear s5 O5 G5 HO HR HS BE L0
  refine (PN.out _ L1.out).mono ?_; rintro e w6 ⟨rfl, b6⟩
  have HB := Lib.hid (below_trans HB.out b6)
  have L1 := Lib.hid (L1.out.below b6)
  have OW := Lib.hid (OW.out.below b6)
  clear b6
  go_wp2_with fail
  refine (PS.out _ _ _ _ OW.out).mono ?_; rintro e w7 (⟨hz, -⟩ | ⟨-, A7, c7, rfl, ra⟩)
  · exact absurd H0.out hz
  obtain ⟨⟨g7, s7⟩, b7, -⟩ := ra.s
  have S7 := Lib.hid s7
  clear s7 ra
  have HB := Lib.hid (below_trans HB.out b7)
  have L1 := Lib.hid (L1.out.below b7)
  have OW := Lib.hid (OW.out.below b7)
  clear b7
  go_wp2_with fail
  refine (PD.out _ _ _ _ OW.out).mono ?_; rintro e w8 ⟨A8, c8, rfl, ⟨g8, s8⟩, b8⟩
  have S8 := Lib.hid s8
  clear s8
  have HB := Lib.hid (below_trans HB.out b8)
  have L1 := Lib.hid (L1.out.below b8)
  have OW := Lib.hid (OW.out.below b8)
  have S7 := Lib.hid (S7.out.below b8)
  clear b8
  go_wp2_with fail
  refine (PV.out _ _ _ _ OW.out).mono ?_; rintro e w9 ⟨A9, c9, vs, row, rfl, o9, ga, b9⟩
  have O9 := Lib.hid o9
  have GA := Lib.hid ga
  clear o9 ga
  have HB := Lib.hid (below_trans HB.out b9)
  have L1 := Lib.hid (L1.out.below b9)
  have OW := Lib.hid (OW.out.below b9)
  have S7 := Lib.hid (S7.out.below b9)
  have S8 := Lib.hid (S8.out.below b9)
  clear b9
  go_wp2_with fail
  refine wp_region_R (R := RB) (n := 45) (by kernel_rfl) rfl ?_
  refine wpAnyR_sole (i := 0) rfl (by kernel_rfl) (fun K hK => ?_)
  go_simp
  refine (lives_any _).mono ?_; rintro e w10 ⟨rfl, b10⟩
  refine hK _ _ b10 ?_
  have HB := Lib.hid (below_trans HB.out (Below.of_drew0 b10))
  have L1 := Lib.hid (L1.out.below (Below.of_drew0 b10))
  have OW := Lib.hid (OW.out.below (Below.of_drew0 b10))
  have S7 := Lib.hid (S7.out.below (Below.of_drew0 b10))
  have S8 := Lib.hid (S8.out.below (Below.of_drew0 b10))
  have O9 := Lib.hid (own_below O9.out (Below.of_drew0 b10))
  have GA := Lib.hid (GA.out.below (Below.of_drew0 b10))
  clear hK K b10
  refine batchB [1, 2, 3, 5] (fuel := 40) rfl (by kernel_rfl) (by kernel_rfl) (fun _ _ d _ _ h => by cases d <;> exact h) ?_
  repeat (first | ((with_reducible apply wq0); rfl; rfl; rfl; intro K hK; go_big_quiet_op; refine hK _ ?_; clear hK K) | ((with_reducible apply wq1); rfl; rfl; rfl; rfl; rfl; rfl; intro K hK; go_big_quiet_op; refine hK _ ?_; clear hK K) | ((with_reducible apply wqs); rfl; rfl; rfl; rfl; rfl; rfl; simp only [Act.put, List.setIfInBounds_toArray, List.set_cons_zero, List.set_cons_succ]) | ((with_reducible apply wqu); rfl; rfl; rfl; rfl; rfl; simp only [same]) | ((with_reducible apply wqu); rfl; rfl; rfl; rfl; rfl; simp only [Act.put, List.setIfInBounds_toArray, List.set_cons_zero, List.set_cons_succ]))
  refine wqIdx_nil ?_
  refine wpAnyR_sole (i := 4) rfl (by kernel_rfl) (fun K hK => ?_)
  go_simp
  refine (PM.out _ _ _ _ OW.out).mono ?_; rintro e w11 ⟨rfl, b11⟩
  refine hK _ _ b11 ?_
  have HB := Lib.hid (below_trans HB.out b11)
  have L1 := Lib.hid (L1.out.below b11)
  have OW := Lib.hid (OW.out.below b11)
  have S7 := Lib.hid (S7.out.below b11)
  have S8 := Lib.hid (S8.out.below b11)
  have O9 := Lib.hid (own_below O9.out b11)
  have GA := Lib.hid (GA.out.below b11)
  clear hK K b11
  refine batchB [6, 7, 8, 9, 10, 11, 12, 13, 14, 15, 16, 17, 18, 19, 20, 21, 22, 23, 24, 26] (fuel := 19) rfl (by kernel_rfl) (by kernel_rfl) (fun _ _ d _ _ h => by cases d <;> exact h) ?_
  repeat (first | ((with_reducible apply wq0); rfl; rfl; rfl; intro K hK; go_big_quiet_op; refine hK _ ?_; clear hK K) | ((with_reducible apply wq1); rfl; rfl; rfl; rfl; rfl; rfl; intro K hK; go_big_quiet_op; refine hK _ ?_; clear hK K) | ((with_reducible apply wqs); rfl; rfl; rfl; rfl; rfl; rfl; simp only [Act.put, List.setIfInBounds_toArray, List.set_cons_zero, List.set_cons_succ]) | ((with_reducible apply wqu); rfl; rfl; rfl; rfl; rfl; simp only [same]) | ((with_reducible apply wqu); rfl; rfl; rfl; rfl; rfl; simp only [Act.put, List.setIfInBounds_toArray, List.set_cons_zero, List.set_cons_succ]))
  refine wqIdx_nil ?_
  refine wpAnyR_sole (i := 25) rfl (by kernel_rfl) (fun K hK => ?_)
  go_simp
  refine (PT.out _ _ _ _ OW.out).mono ?_; rintro e w12 ⟨rfl, b12⟩
  refine hK _ _ b12 ?_
  have HB := Lib.hid (below_trans HB.out b12)
  have L1 := Lib.hid (L1.out.below b12)
  have OW := Lib.hid (OW.out.below b12)
  have S7 := Lib.hid (S7.out.below b12)
  have S8 := Lib.hid (S8.out.below b12)
  have O9 := Lib.hid (own_below O9.out b12)
  have GA := Lib.hid (GA.out.below b12)
  clear hK K b12
  refine wpAnyR_sole (i := 27) rfl (by kernel_rfl) (fun K hK => ?_)
  go_simp
  refine (PU.out _ L1.out).mono ?_; rintro e w13 ⟨rfl, b13⟩
  refine hK _ _ b13 ?_
  have HB := Lib.hid (below_trans HB.out b13)
  have L1 := Lib.hid (L1.out.below b13)
  have OW := Lib.hid (OW.out.below b13)
  have S7 := Lib.hid (S7.out.below b13)
  have S8 := Lib.hid (S8.out.below b13)
  have O9 := Lib.hid (own_below O9.out b13)
  have GA := Lib.hid (GA.out.below b13)
  clear hK K b13
  have q0 : w13.cell? ⟨w.heap.size, 0, none⟩ = some (.int .i64 a) := (K0.out.below HB.out K0.out.lt).cell 0
  have q1 : w13.cell? ⟨w.heap.size, 1, none⟩ = some (.int .i64 b) := (K0.out.below HB.out K0.out.lt).cell 1
  refine batchB [28, 29, 30, 31, 32, 34, 35] (fuel := 10) rfl (by kernel_rfl) (by kernel_rfl) (fun _ _ d _ _ h => by cases d <;> exact h) ?_
  repeat (first | ((with_reducible apply wq0); rfl; rfl; rfl; intro K hK; go_big_quiet_op; refine hK _ ?_; clear hK K) | ((with_reducible apply wq1); rfl; rfl; rfl; rfl; rfl; rfl; intro K hK; go_big_quiet_op; refine hK _ ?_; clear hK K) | ((with_reducible apply wqs); rfl; rfl; rfl; rfl; rfl; rfl; simp only [Act.put, List.setIfInBounds_toArray, List.set_cons_zero, List.set_cons_succ]) | ((with_reducible apply wqu); rfl; rfl; rfl; rfl; rfl; simp only [same]) | ((with_reducible apply wqu); rfl; rfl; rfl; rfl; rfl; simp only [Act.put, List.setIfInBounds_toArray, List.set_cons_zero, List.set_cons_succ]))
  refine wqIdx_load rfl rfl rfl rfl (fun W hW => load_rec_at _ _ a b W (keep_cell hW q0) (keep_cell hW q1)) ?_
  simp only [Act.put, List.setIfInBounds_toArray, List.set_cons_zero, List.set_cons_succ]
  repeat (first | ((with_reducible apply wq0); rfl; rfl; rfl; intro K hK; go_big_quiet_op; refine hK _ ?_; clear hK K) | ((with_reducible apply wq1); rfl; rfl; rfl; rfl; rfl; rfl; intro K hK; go_big_quiet_op; refine hK _ ?_; clear hK K) | ((with_reducible apply wqs); rfl; rfl; rfl; rfl; rfl; rfl; simp only [Act.put, List.setIfInBounds_toArray, List.set_cons_zero, List.set_cons_succ]) | ((with_reducible apply wqu); rfl; rfl; rfl; rfl; rfl; simp only [same]) | ((with_reducible apply wqu); rfl; rfl; rfl; rfl; rfl; simp only [Act.put, List.setIfInBounds_toArray, List.set_cons_zero, List.set_cons_succ]))
  refine wqIdx_load rfl rfl rfl rfl (fun W hW => load_rec_at _ _ a b W (keep_cell hW q0) (keep_cell hW q1)) ?_
  simp only [Act.put, List.setIfInBounds_toArray, List.set_cons_zero, List.set_cons_succ]
  repeat (first | ((with_reducible apply wq0); rfl; rfl; rfl; intro K hK; go_big_quiet_op; refine hK _ ?_; clear hK K) | ((with_reducible apply wq1); rfl; rfl; rfl; rfl; rfl; rfl; intro K hK; go_big_quiet_op; refine hK _ ?_; clear hK K) | ((with_reducible apply wqs); rfl; rfl; rfl; rfl; rfl; rfl; simp only [Act.put, List.setIfInBounds_toArray, List.set_cons_zero, List.set_cons_succ]) | ((with_reducible apply wqu); rfl; rfl; rfl; rfl; rfl; simp only [same]) | ((with_reducible apply wqu); rfl; rfl; rfl; rfl; rfl; simp only [Act.put, List.setIfInBounds_toArray, List.set_cons_zero, List.set_cons_succ]))
  refine wqIdx_nil ?_
  clear q0 q1
  refine wpAnyR_sole (i := 33) rfl (by kernel_rfl) (fun K hK => ?_)
  go_simp
  refine (PC.out _ _ _ _ OW.out).mono ?_; rintro e w14 ⟨rfl, b14⟩
  refine hK _ _ b14 ?_
  have HB := Lib.hid (below_trans HB.out b14)
  have L1 := Lib.hid (L1.out.below b14)
  have OW := Lib.hid (OW.out.below b14)
  have S7 := Lib.hid (S7.out.below b14)
  have S8 := Lib.hid (S8.out.below b14)
  have O9 := Lib.hid (own_below O9.out b14)
  have GA := Lib.hid (GA.out.below b14)
  clear hK K b14
  refine wpAnyR_sole (i := 36) rfl (by kernel_rfl) (fun K hK => ?_)
  go_simp
  refine (PQ.out _ L1.out).mono ?_; rintro e w15 ⟨rfl, b15⟩
  refine hK _ _ b15 ?_
  have HB := Lib.hid (below_trans HB.out b15)
  have L1 := Lib.hid (L1.out.below b15)
  have OW := Lib.hid (OW.out.below b15)
  have S7 := Lib.hid (S7.out.below b15)
  have S8 := Lib.hid (S8.out.below b15)
  have O9 := Lib.hid (own_below O9.out b15)
  have GA := Lib.hid (GA.out.below b15)
  clear hK K b15
  refine batchB [37, 38, 39, 40, 41] (fuel := 3) rfl (by kernel_rfl) (by kernel_rfl) (fun _ _ d _ _ h => by cases d <;> exact h) ?_
  repeat (first | ((with_reducible apply wq0); rfl; rfl; rfl; intro K hK; go_big_quiet_op; refine hK _ ?_; clear hK K) | ((with_reducible apply wq1); rfl; rfl; rfl; rfl; rfl; rfl; intro K hK; go_big_quiet_op; refine hK _ ?_; clear hK K) | ((with_reducible apply wqs); rfl; rfl; rfl; rfl; rfl; rfl; simp only [Act.put, List.setIfInBounds_toArray, List.set_cons_zero, List.set_cons_succ]) | ((with_reducible apply wqu); rfl; rfl; rfl; rfl; rfl; simp only [same]) | ((with_reducible apply wqu); rfl; rfl; rfl; rfl; rfl; simp only [Act.put, List.setIfInBounds_toArray, List.set_cons_zero, List.set_cons_succ]))
  refine wqIdx_nil ?_
  refine wpAnyR_sole (i := 42) rfl (by kernel_rfl) (fun K hK => ?_)
  go_simp
  refine (PX.out _ _ _ _ _ _ _ OW.out L1.out).mono ?_; rintro e w16 ⟨rfl, b16⟩
  refine hK _ _ b16 ?_
  have HB := Lib.hid (below_trans HB.out b16)
  have L1 := Lib.hid (L1.out.below b16)
  have OW := Lib.hid (OW.out.below b16)
  have S7 := Lib.hid (S7.out.below b16)
  have S8 := Lib.hid (S8.out.below b16)
  have O9 := Lib.hid (own_below O9.out b16)
  have GA := Lib.hid (GA.out.below b16)
  clear hK K b16
  refine batchB [43, 44] (fuel := 0) rfl (by kernel_rfl) (by kernel_rfl) (fun _ _ d _ _ h => by cases d <;> exact h) ?_
  repeat (first | ((with_reducible apply wq0); rfl; rfl; rfl; intro K hK; go_big_quiet_op; refine hK _ ?_; clear hK K) | ((with_reducible apply wq1); rfl; rfl; rfl; rfl; rfl; rfl; intro K hK; go_big_quiet_op; refine hK _ ?_; clear hK K) | ((with_reducible apply wqs); rfl; rfl; rfl; rfl; rfl; rfl; simp only [Act.put, List.setIfInBounds_toArray, List.set_cons_zero, List.set_cons_succ]) | ((with_reducible apply wqu); rfl; rfl; rfl; rfl; rfl; simp only [same]) | ((with_reducible apply wqu); rfl; rfl; rfl; rfl; rfl; simp only [Act.put, List.setIfInBounds_toArray, List.set_cons_zero, List.set_cons_succ]))
  refine wqIdx_nil ?_
  refine wpAnyR_done (by kernel_rfl) ?_ _
  go_wp2_with fail
  refine (PG2.out _ L1.out).mono ?_; rintro e w17 ⟨A17, c17, vt, row2, rfl, o17, gb, b17⟩
  have HB := Lib.hid (below_trans HB.out b17)
  have L1 := Lib.hid (L1.out.below b17)
  have OW := Lib.hid (OW.out.below b17)
  have S7 := Lib.hid (S7.out.below b17)
  have S8 := Lib.hid (S8.out.below b17)
  have O9 := Lib.hid (own_below O9.out b17)
  have GA := Lib.hid (GA.out.below b17)
  have O17 := Lib.hid o17
  have GB := Lib.hid gb
  clear b17 o17 gb
  go_wp2_with fail
  refine (PS2.out _ L1.out).mono ?_; rintro e w18 ⟨A18, c18, rfl, ⟨g18, s18⟩, b18, -⟩
  have HB := Lib.hid (below_trans HB.out b18)
  have L1 := Lib.hid (L1.out.below b18)
  have OW := Lib.hid (OW.out.below b18)
  have S7 := Lib.hid (S7.out.below b18)
  have S8 := Lib.hid (S8.out.below b18)
  have O9 := Lib.hid (own_below O9.out b18)
  have GA := Lib.hid (GA.out.below b18)
  have O17 := Lib.hid (own_below O17.out b18)
  have GB := Lib.hid (GB.out.below b18)
  have S18 := Lib.hid s18
  clear b18 s18
  rw [hsl.out]
  have PY2 := Lib.hid (PY.out _ _ _ _ _ c7 c18 S7.out S18.out)
  rw [hsl.out] at PY2
  go_wp2_with fail
  refine PY2.out.mono ?_; rintro e w19 ⟨rfl, b19⟩
  have HB := Lib.hid (below_trans HB.out b19)
  have L1 := Lib.hid (L1.out.below b19)
  have OW := Lib.hid (OW.out.below b19)
  have S7 := Lib.hid (S7.out.below b19)
  have S8 := Lib.hid (S8.out.below b19)
  have O9 := Lib.hid (own_below O9.out b19)
  have GA := Lib.hid (GA.out.below b19)
  have O17 := Lib.hid (own_below O17.out b19)
  have GB := Lib.hid (GB.out.below b19)
  clear b19 PY2 S18
  go_wp2_with fail
  refine (PD2.out _ L1.out).mono ?_; rintro e w20 ⟨A20, c20, rfl, ⟨g20, s20⟩, b20, -⟩
  have HB := Lib.hid (below_trans HB.out b20)
  have L1 := Lib.hid (L1.out.below b20)
  have OW := Lib.hid (OW.out.below b20)
  have S7 := Lib.hid (S7.out.below b20)
  have S8 := Lib.hid (S8.out.below b20)
  have O9 := Lib.hid (own_below O9.out b20)
  have GA := Lib.hid (GA.out.below b20)
  have O17 := Lib.hid (own_below O17.out b20)
  have GB := Lib.hid (GB.out.below b20)
  have S20 := Lib.hid s20
  clear b20 s20
  go_wp2_with fail
  refine (PZ.out _ _ _ _ _ _ _ S8.out S20.out).mono ?_; rintro e w21 ⟨rfl, b21⟩
  have HB := Lib.hid (below_trans HB.out b21)
  have L1 := Lib.hid (L1.out.below b21)
  have OW := Lib.hid (OW.out.below b21)
  have S7 := Lib.hid (S7.out.below b21)
  have S8 := Lib.hid (S8.out.below b21)
  have O9 := Lib.hid (own_below O9.out b21)
  have GA := Lib.hid (GA.out.below b21)
  have O17 := Lib.hid (own_below O17.out b21)
  have GB := Lib.hid (GB.out.below b21)
  clear b21
  go_wp2_with fail
  go_loopw [14] (fun i wr => ∃ k : Nat, k ≤ G.length ∧ i = .int .i64 (k : Int) ∧ Below w21.heap.size w21 wr) (fun i _ => G.length - (intOf i).toNat)
  case atStart => exact ⟨0, Nat.zero_le _, rfl, Below.refl _ _⟩
  case round =>
    obtain ⟨k, hk, rfl, hb⟩ := hrel
    have HC := Lib.hid hb
    clear hb
    by_cases hlt : k < G.length
    · obtain ⟨x, hx⟩ : ∃ x, G[k]? = some x := ⟨_, List.getElem?_eq_getElem hlt⟩
      obtain ⟨Aa, ca, ha, ea, sa⟩ := (GA.out.below HC.out).get hx
      obtain ⟨Ab, cb, hb', eb, sb'⟩ := (GB.out.below HC.out).get hx
      have PWX := Lib.hid (PW.out x (List.mem_of_getElem? hx))
      have SA := Lib.hid sa
      have SB := Lib.hid sb'
      obtain ⟨ga, fa, ea1, -, -⟩ := World.ownsRow.form O9.out (by omega)
      obtain ⟨gb, fb, eb1, -, -⟩ := World.ownsRow.form O17.out (by omega)
      injection ea1 with ea1 _ ea2
      injection eb1 with eb1 _ eb2
      subst ea1 ea2 eb1 eb2
      have p0 := (own_below O9.out HC.out).cellAt k (by omega)
      have p1 := (own_below O17.out HC.out).cellAt k (by omega)
      rw [ea] at p0
      rw [eb] at p1
      clear ea eb sa sb' hx
      go_wp2_with fail
      refine wp_region_R (R := RB) (n := 10) (by kernel_rfl) rfl ?_
      refine batchB [0, 1, 2, 3, 4, 5, 6, 7] (fuel := 2) rfl (by kernel_rfl) (by kernel_rfl) (fun _ _ d _ _ h => by cases d <;> exact h) ?_
      repeat (first | ((with_reducible apply wq0); rfl; rfl; rfl; intro K hK; go_big_quiet_op; refine hK _ ?_; clear hK K) | ((with_reducible apply wq1); rfl; rfl; rfl; rfl; rfl; rfl; intro K hK; go_big_quiet_op; refine hK _ ?_; clear hK K) | ((with_reducible apply wqs); rfl; rfl; rfl; rfl; rfl; rfl; simp only [Act.put, List.setIfInBounds_toArray, List.set_cons_zero, List.set_cons_succ]) | ((with_reducible apply wqu); rfl; rfl; rfl; rfl; rfl; simp only [same]) | ((with_reducible apply wqu); rfl; rfl; rfl; rfl; rfl; simp only [Act.put, List.setIfInBounds_toArray, List.set_cons_zero, List.set_cons_succ]))
      refine wqIdx_load rfl rfl rfl rfl (fun W hW => load_sl _ _ _ _ _ W (keep_cell hW p0)) ?_
      simp only [Act.put, List.setIfInBounds_toArray, List.set_cons_zero, List.set_cons_succ]
      repeat (first | ((with_reducible apply wq0); rfl; rfl; rfl; intro K hK; go_big_quiet_op; refine hK _ ?_; clear hK K) | ((with_reducible apply wq1); rfl; rfl; rfl; rfl; rfl; rfl; intro K hK; go_big_quiet_op; refine hK _ ?_; clear hK K) | ((with_reducible apply wqs); rfl; rfl; rfl; rfl; rfl; rfl; simp only [Act.put, List.setIfInBounds_toArray, List.set_cons_zero, List.set_cons_succ]) | ((with_reducible apply wqu); rfl; rfl; rfl; rfl; rfl; simp only [same]) | ((with_reducible apply wqu); rfl; rfl; rfl; rfl; rfl; simp only [Act.put, List.setIfInBounds_toArray, List.set_cons_zero, List.set_cons_succ]))
      refine wqIdx_load rfl rfl rfl rfl (fun W hW => load_sl _ _ _ _ _ W (keep_cell hW p1)) ?_
      simp only [Act.put, List.setIfInBounds_toArray, List.set_cons_zero, List.set_cons_succ]
      repeat (first | ((with_reducible apply wq0); rfl; rfl; rfl; intro K hK; go_big_quiet_op; refine hK _ ?_; clear hK K) | ((with_reducible apply wq1); rfl; rfl; rfl; rfl; rfl; rfl; intro K hK; go_big_quiet_op; refine hK _ ?_; clear hK K) | ((with_reducible apply wqs); rfl; rfl; rfl; rfl; rfl; rfl; simp only [Act.put, List.setIfInBounds_toArray, List.set_cons_zero, List.set_cons_succ]) | ((with_reducible apply wqu); rfl; rfl; rfl; rfl; rfl; simp only [same]) | ((with_reducible apply wqu); rfl; rfl; rfl; rfl; rfl; simp only [Act.put, List.setIfInBounds_toArray, List.set_cons_zero, List.set_cons_succ]))
      refine wqIdx_nil ?_
      refine wpAnyR_sole (i := 8) rfl (by kernel_rfl) (fun K hK => ?_)
      go_simp
      refine (PWX.out _ _ _ _ _ _ _ (SA.out.below (below_drew0 (Below.refl _ _))) (SB.out.below (below_drew0 (Below.refl _ _)))).mono ?_; rintro e w22 ⟨rfl, b22⟩
      refine hK _ _ b22 ?_
      have HC2 := Lib.hid (below_trans HC.out (Below.of_drew0 b22))
      clear hK K b22
      refine batchB [9] (fuel := 0) rfl (by kernel_rfl) (by kernel_rfl) (fun _ _ d _ _ h => by cases d <;> exact h) ?_
      repeat (first | ((with_reducible apply wq0); rfl; rfl; rfl; intro K hK; go_big_quiet_op; refine hK _ ?_; clear hK K) | ((with_reducible apply wq1); rfl; rfl; rfl; rfl; rfl; rfl; intro K hK; go_big_quiet_op; refine hK _ ?_; clear hK K) | ((with_reducible apply wqs); rfl; rfl; rfl; rfl; rfl; rfl; simp only [Act.put, List.setIfInBounds_toArray, List.set_cons_zero, List.set_cons_succ]) | ((with_reducible apply wqu); rfl; rfl; rfl; rfl; rfl; simp only [same]) | ((with_reducible apply wqu); rfl; rfl; rfl; rfl; rfl; simp only [Act.put, List.setIfInBounds_toArray, List.set_cons_zero, List.set_cons_succ]))
      refine wqIdx_nil ?_
      refine wpAnyR_done (by kernel_rfl) ?_ _
      go_wp2
      exact ⟨⟨k + 1, by omega, by go_num, HC2.out⟩, by simp [intOf]; omega⟩
    · obtain rfl : k = G.length := by omega
      go_wp2
      go_ret
      exact ⟨rfl, below_trans B0.out (below_trans HB.out HC.out)⟩
theorem sorts_of (PG : RGroupsAll) (A : Option Addr) (h : Nat) (l : List (Int × Int)) (c : Nat) (a b : Int) (w : World) (hin : InP w A h l c) :
    Calls Try.prog 3 #[.slice A l.length c, .agg #[.int .i64 a, .int .i64 b]] w (LawSo w) := by
  obtain ⟨hl, hc, hm⟩ := hin
  by_cases la : 5000 < l.length
  · exact sorts_large A l c a b w la
  · have hn : l.length ≤ 5000 := by omega
    by_cases h0 : mayE l = 0
    · exact sorts_ok PG A h l c a b w hl hc hm hn h0
    · exact sorts_no A h l c a b w hl hn h0
end Go.Proofs.Ytibhofdblfgkbaa
