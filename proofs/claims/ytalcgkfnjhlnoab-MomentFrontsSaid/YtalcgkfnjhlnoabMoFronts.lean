/- The walk of the law MomentFronts. -/
import Derived.Test.YtalcgkfnjhlnoabFrD
import Derived.Test.YtalcgkfnjhlnoabMoWalks
namespace Go.Proofs.Ytalcgkfnjhlnoab
open Go.RowKit Go.Sort

theorem Cells.drewC {W : World} {L : List (Nat × Value × Value)} (h : Cells W L) : Cells W.drew L := fun p hp => h p hp
theorem all_snoc2 (l : List (Int × Int)) (p : Int × Int → Bool) (y : Int × Int) (k : Nat) (h : l[k]? = some y) : (l.take (k + 1)).all p = ((l.take k).all p && p y) := by
  rw [List.take_add_one, h, List.all_append]
  simp
def FrontCase (l : List (Int × Int)) (ez : Int) (Fl : List (Int × Int)) : Prop :=
  ((∃ x ∈ l, okMo x = false) ∧ ez = 40 ∧ Fl = []) ∨ ((∀ x ∈ l, okMo x = true) ∧ ∃ F, FrontOK l F ∧ ((256 < F.length ∧ ez = 31 ∧ Fl = []) ∨ (F.length ≤ 256 ∧ ez = 0 ∧ Fl = F)))
theorem front_case {w w1 : World} {l : List (Int × Int)} {e : Ending} (h : FrontAns w l e w1) : ∃ ez Fl Af cf hf, e = .returned (.tuple #[.slice Af Fl.length cf, .int .i64 ez]) ∧ SlP w1 hf Af Fl ∧ Fl.length ≤ 256 ∧ FrontCase l ez Fl ∧ Below w.heap.size w w1 := by
  obtain ⟨hb, h⟩ := h
  rcases h with ⟨hbad, rfl⟩ | ⟨hall, F, hF, ⟨hbig, rfl⟩ | ⟨hlen, A, c, h, rfl, s, -, -⟩⟩
  · exact ⟨40, [], none, 0, 0, rfl, SlP.nil _ _ _, by decide, .inl ⟨hbad, rfl, rfl⟩, hb⟩
  · exact ⟨31, [], none, 0, 0, rfl, SlP.nil _ _ _, by decide, .inr ⟨hall, F, hF, .inl ⟨hbig, rfl, rfl⟩⟩, hb⟩
  · exact ⟨0, F, A, c, h, rfl, s, hlen, .inr ⟨hall, F, hF, .inr ⟨hlen, rfl, rfl⟩⟩, hb⟩
set_option maxRecDepth 100000 in
set_option maxHeartbeats 4000000 in
theorem fronts_in (A : Option Addr) (g : Nat) (l : List (Int × Int)) (c : Nat) (x1 x2 : Int) (A2 : Option Addr) (g2 : Nat) (l2 : List (Int × Int)) (c2 : Nat) (w : World) (hin : InP w A g l c) (hin2 : InP w A2 g2 l2 c2) (hl : l.length ≤ 300) (hl2 : l2.length ≤ 100) :
    Calls Try.prog 10 #[.slice A l.length c, .agg #[.int .i64 x1, .int .i64 x2], .slice A2 l2.length c2] w (LawPost w) := by
  obtain ⟨hs, -, -⟩ := hin
  obtain ⟨hs2, -, -⟩ := hin2
  have d1 : decide ((300 : Int) < (l.length : Int)) = false := by simp; omega
  have d2 : decide ((100 : Int) < (l2.length : Int)) = false := by simp; omega
  have KA := Blk.new w 58 #[.int .i64 x1, .int .i64 x2]
  have X0 := Lib.hid (show Cells _ [(w.heap.size, .int .i64 x1, .int .i64 x2)] from fun p hp => by
    simp only [List.mem_cons, List.not_mem_nil, or_false] at hp
    subst hp
    exact ⟨KA.lt, KA.cell 0, KA.cell 1⟩)
  have h0 := alloc_below w (.cells #[.int .i64 x1, .int .i64 x2] 58)
  have PF := Lib.hid (front_any A g l c _ (hs.below h0) hl)
  have H0 := Lib.hid h0
  have SL := Lib.hid hs
  have SG := Lib.hid hs2
  clear hs hs2 h0 KA
  go_enter Try.func10, Try.ntmps10
  go_wp2_with fail
  refine PF.out.mono ?_
  intro e w1 hfa
  obtain ⟨ez, Fl, Af, cf, hf, rfl, sf, hFl, hcase, b1⟩ := front_case hfa
  have X1 := Lib.hid (X0.out.below b1).drewC
  have H1 := Lib.hid (RB.of_drew' (below_trans H0.out b1))
  have HC := Lib.hid hcase
  have SF := Lib.hid (show SlP w1.drew hf Af Fl from sf)
  clear X0 H0 b1 hcase sf PF
  go_wp2_with fail
  refine wp_region_R (R := RB) (n := 11) (by kernel_rfl) rfl ?_
  refine wpAnyR_sole (i := 0) rfl (by kernel_rfl) (fun K hK => ?_)
  go_simp
  refine (lives_any _).mono ?_; rintro e w2 ⟨rfl, b2⟩
  refine hK _ _ b2 ?_
  clear hK K
  have X2 := Lib.hid (X1.out.below b2)
  have H2 := Lib.hid (below_trans H1.out b2)
  have SF := Lib.hid (SF.out.below b2)
  clear b2 X1 H1
  obtain ⟨-, -, m0, m1⟩ := X2.out.at_ 0 rfl
  have P1 := Lib.hid (fun W (s : SlP W g A l) => covers_any A g l c x1 x2 W s (by omega))
  have P2 := Lib.hid (fun W (s : SlP W g A l) => rcovers_any A g l c x1 x2 W s (by omega))
  generalize (l.any fun x => aheadM x (x1, x2)) = q at P1 P2
  refine batchB [1, 2, 3, 4, 6, 7] (fuel := 4) rfl (by kernel_rfl) (by kernel_rfl) (fun _ _ d _ _ h => by cases d <;> exact h) ?_
  repeat (first | ((with_reducible apply wq0); rfl; rfl; rfl; intro K hK; go_big_quiet_op; refine hK _ ?_; clear hK K) | ((with_reducible apply wq1); rfl; rfl; rfl; rfl; rfl; rfl; intro K hK; go_big_quiet_op; refine hK _ ?_; clear hK K) | ((with_reducible apply wqs); rfl; rfl; rfl; rfl; rfl; rfl; simp only [Act.put, List.setIfInBounds_toArray, List.set_cons_zero, List.set_cons_succ]) | ((with_reducible apply wqu); rfl; rfl; rfl; rfl; rfl; simp only [same]))
  refine wqIdx_load rfl rfl rfl rfl (fun W hW => load_mo_at _ _ (x1) (x2) W (keep_cell hW m0) (keep_cell hW m1)) ?_
  simp only [Act.put, List.setIfInBounds_toArray, List.set_cons_zero, List.set_cons_succ]
  repeat (first | ((with_reducible apply wq0); rfl; rfl; rfl; intro K hK; go_big_quiet_op; refine hK _ ?_; clear hK K) | ((with_reducible apply wq1); rfl; rfl; rfl; rfl; rfl; rfl; intro K hK; go_big_quiet_op; refine hK _ ?_; clear hK K) | ((with_reducible apply wqs); rfl; rfl; rfl; rfl; rfl; rfl; simp only [Act.put, List.setIfInBounds_toArray, List.set_cons_zero, List.set_cons_succ]) | ((with_reducible apply wqu); rfl; rfl; rfl; rfl; rfl; simp only [same]))
  refine wqIdx_load rfl rfl rfl rfl (fun W hW => load_mo_at _ _ (x1) (x2) W (keep_cell hW m0) (keep_cell hW m1)) ?_
  simp only [Act.put, List.setIfInBounds_toArray, List.set_cons_zero, List.set_cons_succ]
  repeat (first | ((with_reducible apply wq0); rfl; rfl; rfl; intro K hK; go_big_quiet_op; refine hK _ ?_; clear hK K) | ((with_reducible apply wq1); rfl; rfl; rfl; rfl; rfl; rfl; intro K hK; go_big_quiet_op; refine hK _ ?_; clear hK K) | ((with_reducible apply wqs); rfl; rfl; rfl; rfl; rfl; rfl; simp only [Act.put, List.setIfInBounds_toArray, List.set_cons_zero, List.set_cons_succ]) | ((with_reducible apply wqu); rfl; rfl; rfl; rfl; rfl; simp only [same]))
  refine wqIdx_nil ?_
  refine wpAnyR_sole (i := 5) rfl (by kernel_rfl) (fun K hK => ?_)
  go_simp
  refine (P1.out _ (SL.out.below H2.out)).mono ?_; rintro e w3 ⟨rfl, b3⟩
  refine hK _ _ b3 ?_
  clear hK K
  have X3 := Lib.hid (X2.out.below b3)
  have H3 := Lib.hid (below_trans H2.out b3)
  have SF := Lib.hid (SF.out.below b3)
  clear b3 X2 H2 m0 m1
  refine wpAnyR_sole (i := 8) rfl (by kernel_rfl) (fun K hK => ?_)
  go_simp
  refine (P2.out _ (SL.out.below H3.out)).mono ?_; rintro e w4 ⟨rfl, b4⟩
  refine hK _ _ b4 ?_
  clear hK K
  have X4 := Lib.hid (X3.out.below b4)
  have H4 := Lib.hid (below_trans H3.out b4)
  have SF := Lib.hid (SF.out.below b4)
  clear b4 X3 H3
  refine batchB [9, 10] (fuel := 0) rfl (by kernel_rfl) (by kernel_rfl) (fun _ _ d _ _ h => by cases d <;> exact h) ?_
  repeat (first | ((with_reducible apply wq0); rfl; rfl; rfl; intro K hK; go_big_quiet_op; refine hK _ ?_; clear hK K) | ((with_reducible apply wq1); rfl; rfl; rfl; rfl; rfl; rfl; intro K hK; go_big_quiet_op; refine hK _ ?_; clear hK K) | ((with_reducible apply wqs); rfl; rfl; rfl; rfl; rfl; rfl; simp only [Act.put, List.setIfInBounds_toArray, List.set_cons_zero, List.set_cons_succ]) | ((with_reducible apply wqu); rfl; rfl; rfl; rfl; rfl; simp only [same]))
  refine wqIdx_nil ?_
  refine wpAnyR_done (by kernel_rfl) ?_ _
  have hq : (q == q) = true := by simp
  go_wp2_with fail
  go_loopw [9, 10] (fun b i wr => ∃ k : Nat, k ≤ l2.length ∧ i = .int .i64 (k : Int) ∧ b = .bool ((l2.take k).all fun x => l.any fun y => aheadM y x) ∧ Below w4.heap.size w4 wr) (fun _ i _ => l2.length - (intOf i).toNat)
  case atStart => exact ⟨0, Nat.zero_le _, rfl, rfl, Below.refl _ _⟩
  case round =>
    obtain ⟨k, hk, rfl, rfl, hb⟩ := hrel
    have HB := Lib.hid (below_trans H4.out hb)
    have HW := Lib.hid hb
    clear hb
    by_cases hlt : k < l2.length
    · obtain ⟨y, hy⟩ : ∃ y, l2[k]? = some y := ⟨_, List.getElem?_eq_getElem hlt⟩
      have HS := Lib.hid (all_snoc2 l2 (fun x => l.any fun y => aheadM y x) y k hy)
      generalize ((l2.take k).all fun x => l.any fun y => aheadM y x) = b0 at HS
      obtain ⟨y1, y2⟩ := y
      obtain ⟨-, o1, eA, p0, p1⟩ := (SG.out.below HB.out).at_ hy
      subst eA
      have PR := Lib.hid (rcovers_any A g l c y1 y2 wr (SL.out.below HB.out) (by omega))
      have HS := Lib.hid (show _ = (b0 && (l.any fun y => aheadM y (y1, y2))) from HS.out)
      generalize (l.any fun y => aheadM y (y1, y2)) = r at PR HS
      clear hy
      cases b0
      · go_wp2
        exact ⟨⟨k + 1, by omega, by go_num, by rw [HS.out]; rfl, HW.out⟩, by simp [intOf]; omega⟩
      · go_wp2_with fail
        refine PR.out.mono ?_; rintro e w5 ⟨rfl, b5⟩
        go_wp2
        exact ⟨⟨k + 1, by omega, by go_num, by rw [HS.out]; simp, below_trans HW.out b5⟩, by simp [intOf]; omega⟩
    · obtain rfl : k = l2.length := by omega
      rw [List.take_length]
      have PB := Lib.hid (beyond_any A2 A g2 g l2 l c2 c wr (SG.out.below HB.out) (SL.out.below HB.out) (by omega) (by omega))
      generalize (l2.all fun x => l.any fun y => aheadM y x) = b0 at PB
      go_wp2_with fail
      refine PB.out.mono ?_; rintro e w6 ⟨rfl, b6⟩
      have HW6 := Lib.hid (below_trans HW.out b6)
      have H6 := Lib.hid (below_trans HB.out b6)
      clear b6
      have hb0 : (b0 == b0) = true := by simp
      go_wp2_with fail
      go_loopw [11] (fun i wr3 => ∃ k : Nat, k ≤ l.length ∧ i = .int .i64 (k : Int) ∧ (∀ x ∈ l.take k, okMo x = true) ∧ Below w4.heap.size w4 wr3) (fun i _ => l.length - (intOf i).toNat)
      case atStart => exact ⟨0, Nat.zero_le _, rfl, by simp, HW6.out⟩
      case round =>
        rename World => wr3
        obtain ⟨k, hk2, rfl, hall, hb⟩ := hrel
        have HB7 := Lib.hid (below_trans H4.out hb)
        have HW7 := Lib.hid hb
        have HALL := Lib.hid hall
        clear hb hall
        by_cases hlt : k < l.length
        · obtain ⟨y, hy⟩ : ∃ y, l[k]? = some y := ⟨_, List.getElem?_eq_getElem hlt⟩
          have HY := Lib.hid hy
          obtain ⟨y1, y2⟩ := y
          obtain ⟨-, o1, eA, p0, p1⟩ := (SL.out.below HB7.out).at_ hy
          subst eA
          have PK := Lib.hid (fun W => rcheck_any y1 y2 W)
          clear hy
          cases hok : okMo (y1, y2)
          · rw [hok] at PK
            have hbad : ez = 40 ∧ Fl = [] := by
              rcases HC.out with ⟨-, h1, h2⟩ | ⟨hall, -⟩
              · exact ⟨h1, h2⟩
              · have := hall (y1, y2) (List.mem_of_getElem? HY.out)
                rw [hok] at this
                cases this
            obtain ⟨rfl, rfl⟩ := hbad
            clear hok
            go_wp2_with fail
            refine (PK.out _).mono ?_; rintro e w8 ⟨rfl, b8⟩
            go_wp2
            go_ret
            exact ⟨rfl, below_trans HB7.out b8⟩
          · rw [hok] at PK
            have HOK := Lib.hid hok
            clear hok
            go_wp2_with fail
            refine (PK.out _).mono ?_; rintro e w8 ⟨rfl, b8⟩
            go_wp2
            refine ⟨⟨k + 1, by omega, by go_num, fun x hx => ?_, below_trans HW7.out b8⟩, by simp [intOf]; omega⟩
            rw [List.take_add_one, HY.out, List.mem_append] at hx
            rcases hx with hx | hx
            · exact HALL.out x hx
            · rw [show x = (y1, y2) by simpa using hx]
              exact HOK.out
        · obtain rfl : k = l.length := by omega
          have hall := HALL.out
          rw [List.take_length] at hall
          have PR := Lib.hid (rfront_any A g l c wr3 (SL.out.below HB7.out) hl)
          rcases HC.out with ⟨⟨x, hx, hbad⟩, -⟩ | ⟨-, F, hF, hcase⟩
          · have := hall x hx
            rw [hbad] at this
            cases this
          rw [hF.ref] at PR
          have hany := hF.any (x1, x2)
          go_wp2_with fail
          refine PR.out.mono ?_
          rintro e w8 ⟨A8, c8, rfl, o8, b8⟩
          obtain ⟨h8, -, s8, -, -, -, -⟩ := SlP.of_own o8
          have S8 := Lib.hid s8
          have HB8 := Lib.hid (below_trans HB7.out b8)
          have SF8 := Lib.hid (SF.out.below (below_trans HW7.out b8))
          have X8 := Lib.hid (X4.out.below (below_trans HW7.out b8))
          clear s8 b8 o8
          rcases hcase with ⟨hbig, rfl, rfl⟩ | ⟨hsm, rfl, rfl⟩
          · have d5 : decide ((256 : Int) < (F.length : Int)) = true := by simp; omega
            go_wp2
            go_ret
            exact ⟨rfl, HB8.out⟩
          · have d5 : decide ((256 : Int) < (Fl.length : Int)) = false := by simp; omega
            go_wp2_with fail
            have PS := Lib.hid (rsame_any Af A8 hf h8 Fl Fl cf c8 w8.drew SF8.out S8.out (by omega) (by omega))
            rw [show (Fl == Fl) = true by simp] at PS
            have P3 := Lib.hid (fun W (s : SlP W hf Af Fl) => covers_any Af hf Fl cf x1 x2 W s (by omega))
            have P4 := Lib.hid (fun W (s : SlP W g A l) => rcovers_any A g l c x1 x2 W s (by omega))
            rw [hany] at P3
            generalize (l.any fun x => aheadM x (x1, x2)) = q2 at P3 P4
            have hq2 : (q2 == q2) = true := by simp
            have X9 := Lib.hid X8.out.drewC
            refine wp_region_R (R := RB) (n := 17) (by kernel_rfl) rfl ?_
            refine batchB [0, 1, 2, 3, 4] (fuel := 12) rfl (by kernel_rfl) (by kernel_rfl) (fun _ _ d _ _ h => by cases d <;> exact h) ?_
            repeat (first | ((with_reducible apply wq0); rfl; rfl; rfl; intro K hK; go_big_quiet_op; refine hK _ ?_; clear hK K) | ((with_reducible apply wq1); rfl; rfl; rfl; rfl; rfl; rfl; intro K hK; go_big_quiet_op; refine hK _ ?_; clear hK K) | ((with_reducible apply wqs); rfl; rfl; rfl; rfl; rfl; rfl; simp only [Act.put, List.setIfInBounds_toArray, List.set_cons_zero, List.set_cons_succ]) | ((with_reducible apply wqu); rfl; rfl; rfl; rfl; rfl; simp only [same]))
            refine wqIdx_nil ?_
            refine wpAnyR_sole (i := 5) rfl (by kernel_rfl) (fun K hK => ?_)
            go_simp
            refine PS.out.mono ?_; rintro e w9 ⟨rfl, b9⟩
            refine hK _ _ b9 ?_
            clear hK K
            have XA := Lib.hid (X9.out.below b9)
            have HBA := Lib.hid (below_trans HB8.out (Below.of_drew0 b9))
            have SFA := Lib.hid (SF8.out.below (Below.of_drew0 b9))
            clear b9
            obtain ⟨-, -, m0, m1⟩ := XA.out.at_ 0 rfl
            refine batchB [6, 7, 8, 9, 11, 12] (fuel := 5) rfl (by kernel_rfl) (by kernel_rfl) (fun _ _ d _ _ h => by cases d <;> exact h) ?_
            repeat (first | ((with_reducible apply wq0); rfl; rfl; rfl; intro K hK; go_big_quiet_op; refine hK _ ?_; clear hK K) | ((with_reducible apply wq1); rfl; rfl; rfl; rfl; rfl; rfl; intro K hK; go_big_quiet_op; refine hK _ ?_; clear hK K) | ((with_reducible apply wqs); rfl; rfl; rfl; rfl; rfl; rfl; simp only [Act.put, List.setIfInBounds_toArray, List.set_cons_zero, List.set_cons_succ]) | ((with_reducible apply wqu); rfl; rfl; rfl; rfl; rfl; simp only [same]))
            refine wqIdx_load rfl rfl rfl rfl (fun W hW => load_mo_at _ _ (x1) (x2) W (keep_cell hW m0) (keep_cell hW m1)) ?_
            simp only [Act.put, List.setIfInBounds_toArray, List.set_cons_zero, List.set_cons_succ]
            repeat (first | ((with_reducible apply wq0); rfl; rfl; rfl; intro K hK; go_big_quiet_op; refine hK _ ?_; clear hK K) | ((with_reducible apply wq1); rfl; rfl; rfl; rfl; rfl; rfl; intro K hK; go_big_quiet_op; refine hK _ ?_; clear hK K) | ((with_reducible apply wqs); rfl; rfl; rfl; rfl; rfl; rfl; simp only [Act.put, List.setIfInBounds_toArray, List.set_cons_zero, List.set_cons_succ]) | ((with_reducible apply wqu); rfl; rfl; rfl; rfl; rfl; simp only [same]))
            refine wqIdx_load rfl rfl rfl rfl (fun W hW => load_mo_at _ _ (x1) (x2) W (keep_cell hW m0) (keep_cell hW m1)) ?_
            simp only [Act.put, List.setIfInBounds_toArray, List.set_cons_zero, List.set_cons_succ]
            repeat (first | ((with_reducible apply wq0); rfl; rfl; rfl; intro K hK; go_big_quiet_op; refine hK _ ?_; clear hK K) | ((with_reducible apply wq1); rfl; rfl; rfl; rfl; rfl; rfl; intro K hK; go_big_quiet_op; refine hK _ ?_; clear hK K) | ((with_reducible apply wqs); rfl; rfl; rfl; rfl; rfl; rfl; simp only [Act.put, List.setIfInBounds_toArray, List.set_cons_zero, List.set_cons_succ]) | ((with_reducible apply wqu); rfl; rfl; rfl; rfl; rfl; simp only [same]))
            refine wqIdx_nil ?_
            refine wpAnyR_sole (i := 10) rfl (by kernel_rfl) (fun K hK => ?_)
            go_simp
            refine (P3.out _ SFA.out).mono ?_; rintro e wB ⟨rfl, bB⟩
            refine hK _ _ bB ?_
            clear hK K
            have HBB := Lib.hid (below_trans HBA.out bB)
            clear bB
            refine wpAnyR_sole (i := 13) rfl (by kernel_rfl) (fun K hK => ?_)
            go_simp
            refine (P4.out _ (SL.out.below HBB.out)).mono ?_; rintro e wC ⟨rfl, bC⟩
            refine hK _ _ bC ?_
            clear hK K
            refine batchB [14, 15, 16] (fuel := 0) rfl (by kernel_rfl) (by kernel_rfl) (fun _ _ d _ _ h => by cases d <;> exact h) ?_
            repeat (first | ((with_reducible apply wq0); rfl; rfl; rfl; intro K hK; go_big_quiet_op; refine hK _ ?_; clear hK K) | ((with_reducible apply wq1); rfl; rfl; rfl; rfl; rfl; rfl; intro K hK; go_big_quiet_op; refine hK _ ?_; clear hK K) | ((with_reducible apply wqs); rfl; rfl; rfl; rfl; rfl; rfl; simp only [Act.put, List.setIfInBounds_toArray, List.set_cons_zero, List.set_cons_succ]) | ((with_reducible apply wqu); rfl; rfl; rfl; rfl; rfl; simp only [same]))
            refine wqIdx_nil ?_
            refine wpAnyR_done (by kernel_rfl) ?_ _
            go_wp2
            go_ret
            exact ⟨rfl, below_trans HBB.out bC⟩
theorem fronts_any (A : Option Addr) (g : Nat) (l : List (Int × Int)) (c : Nat) (x1 x2 : Int) (A2 : Option Addr) (g2 : Nat) (l2 : List (Int × Int)) (c2 : Nat) (w : World) (hin : InP w A g l c) (hin2 : InP w A2 g2 l2 c2) :
    Calls Try.prog 10 #[.slice A l.length c, .agg #[.int .i64 x1, .int .i64 x2], .slice A2 l2.length c2] w (LawPost w) := by
  have hlm : l.length ≤ 9223372036854775807 := Nat.le_trans hin.2.1 hin.2.2
  have hlm2 : l2.length ≤ 9223372036854775807 := Nat.le_trans hin2.2.1 hin2.2.2
  have H0 := Lib.hid (alloc_below w (.cells #[.int .i64 x1, .int .i64 x2] 58))
  by_cases h : 300 < l.length
  · have d1 : decide ((300 : Int) < (l.length : Int)) = true := by simp; omega
    clear hin hin2
    go_enter Try.func10, Try.ntmps10
    go_wp2_with fail
    refine (lives_any _).mono ?_; rintro e w1 ⟨rfl, b1⟩
    go_wp2
    go_ret
    exact ⟨rfl, below_trans H0.out b1⟩
  · by_cases h2 : 100 < l2.length
    · have d1 : decide ((300 : Int) < (l.length : Int)) = false := by simp; omega
      have d2 : decide ((100 : Int) < (l2.length : Int)) = true := by simp; omega
      clear hin hin2
      go_enter Try.func10, Try.ntmps10
      go_wp2_with fail
      refine (lives_any _).mono ?_; rintro e w1 ⟨rfl, b1⟩
      go_wp2
      go_ret
      exact ⟨rfl, below_trans H0.out b1⟩
    · exact fronts_in A g l c x1 x2 A2 g2 l2 c2 w hin hin2 (by omega) (by omega)
end Go.Proofs.Ytalcgkfnjhlnoab
