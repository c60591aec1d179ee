/- Contracts of the document's records: Minus. -/
import Derived.Test.YtibhofdblfgkbaaReX
namespace Go.Proofs.Ytibhofdblfgkbaa
open Go.RowKit Go.Sort

theorem leR_gt (x y : Int × Int) : (!leR x y) = decide (cmpM y x < 0) := by
  rw [leR_cmp]
  unfold cmpM cmpI
  simp only [Bool.not_eq_eq_eq_not]
  rw [← decide_not, decide_eq_decide]
  split <;> split <;> (try split) <;> (try split) <;> omega
set_option maxRecDepth 100000 in
set_option maxHeartbeats 8000000 in
theorem rrc_minus_any (A : Option Addr) (h : Nat) (a : List (Int × Int)) (c : Nat) (B : Option Addr) (g : Nat) (b : List (Int × Int)) (d : Nat) (w : World) (ha : SlP w h A a) (hb : SlP w g B b) (hc : a.length ≤ c) (hd : b.length ≤ d) (hcm : c ≤ maxLen) (hdm : d ≤ maxLen) (la : a.length ≤ 10000) (lb : b.length ≤ 10000) :
    Calls Try.prog 34 #[.slice A a.length c, .slice B b.length d] w fun e w' => ∃ A' c', e = .returned (.slice A' (minusR a b).length c') ∧ RowS w (minusR a b) A' c' w' := by
  have P1 := Lib.hid (rrc_sort_any a.length A h a c w (Nat.le_refl _) ha hc la hcm)
  have P2 := Lib.hid (fun W (k : Below w.heap.size w W) => rrc_sort_any b.length B g b d W (Nat.le_refl _) (hb.below k) hd lb hdm)
  have hsa := Lib.hid (srt_length a)
  have hsb := Lib.hid (srt_length b)
  have hM0 : minusS (srt a) (srt b) = minusR a b := minusS_eq a b
  obtain ⟨M, hM⟩ : ∃ M, minusR a b = M := ⟨_, rfl⟩
  rw [hM] at hM0 ⊢
  have HM := Lib.hid hM0
  clear ha hb hc hd hcm hdm hM hM0
  go_enter Try.func34, Try.ntmps34
  go_wp2_with fail
  refine P1.out.mono ?_; rintro e w1 ⟨AX, cX, rfl, ⟨gX, sX⟩, b1, -⟩
  have SX := Lib.hid sX
  have B1 := Lib.hid b1
  clear sX b1
  go_wp2_with fail
  refine (P2.out _ B1.out).mono ?_; rintro e w2 ⟨AY, cY, rfl, ⟨gY, sY⟩, b2, kY⟩
  have SX := Lib.hid (SX.out.below b2)
  have SY := Lib.hid sY
  have B2 := Lib.hid (below_trans B1.out b2)
  have CY : (srt b).length ≤ cY := by
    by_cases e : srt b = []
    · rw [e]; exact Nat.zero_le _
    · obtain ⟨_, _, _, h, _⟩ := kY e; exact h
  obtain ⟨X, hX⟩ : ∃ X, srt a = X := ⟨_, rfl⟩
  obtain ⟨Y, hY⟩ : ∃ Y, srt b = Y := ⟨_, rfl⟩
  rw [hX] at SX HM hsa ⊢
  rw [hY] at SY HM CY ⊢
  have hXl : X.length ≤ 10000 := by have := hsa.out; omega
  clear sY b2 kY hX hY hsa hsb P1 P2 B1
  go_wp2_with fail
  go_loopw [6, 7, 8] (fun vy vo i wr => ∃ (k : Nat) (y o : List (Int × Int)) (A2 A3 : Option Addr) (c2 c3 : Nat), k ≤ X.length ∧ i = .int .i64 (k : Int) ∧ vy = .slice A2 y.length c2 ∧ vo = .slice A3 o.length c3 ∧ SlP w2 gY A2 y ∧ y.length ≤ c2 ∧ o.length ≤ k ∧ wr.ownsRow w2.heap.size 24 2 vo o.length (Prs o) ∧ o ++ minusS (X.drop k) y = M ∧ Below w2.heap.size w2 wr) (fun _ _ i _ => X.length - (intOf i).toNat)
  case atStart => exact ⟨0, Y, [], _, none, _, 0, Nat.zero_le _, rfl, rfl, rfl, SY.out, CY, Nat.zero_le _, World.ownsRow_nil _ _ _ _, by simpa using HM.out, Below.refl _ _⟩
  case round =>
    obtain ⟨k, y, o, A2, A3, c2, c3, hk, rfl, rfl, rfl, hsy, hcy, hok, ho, hmg, hb⟩ := hrel
    have HY := Lib.hid hsy
    have HO := Lib.hid ho
    have HG := Lib.hid hmg
    have HB := Lib.hid hb
    clear hsy ho hmg hb
    by_cases hlt : k < X.length
    · obtain ⟨x, hx⟩ : ∃ x, X[k]? = some x := ⟨_, List.getElem?_eq_getElem hlt⟩
      have hdr : X.drop k = x :: X.drop (k + 1) := by
        obtain ⟨h1, h2⟩ := List.getElem?_eq_some_iff.1 hx
        rw [← h2]
        exact List.drop_eq_getElem_cons h1
      have hg := HG.out
      rw [hdr, minusS] at hg
      have HG2 := Lib.hid hg
      obtain ⟨x1, x2⟩ := x
      obtain ⟨-, ox, eX, p0, p1⟩ := SX.out.at_ hx
      subst eX
      have HLT := Lib.hid (show gX < w2.heap.size from (SX.out (fun e => by rw [e] at hlt; simp at hlt)).1)
      have PX0 := Lib.hid p0
      have PX1 := Lib.hid p1
      clear hg HG hdr p0 p1 hx
      go_wp2_with fail
      go_loopw [6] (fun vy wi => ∃ (z : List (Int × Int)) (A4 : Option Addr) (c4 : Nat), vy = .slice A4 z.length c4 ∧ SlP w2 gY A4 z ∧ z.length ≤ c4 ∧ (z.dropWhile fun q => !leR (x1, x2) q) = (y.dropWhile fun q => !leR (x1, x2) q) ∧ wi.ownsRow w2.heap.size 24 2 (.slice A3 o.length c3) o.length (Prs o) ∧ Below w2.heap.size w2 wi) (fun vy _ => slN vy)
      case atStart => exact ⟨y, _, _, rfl, HY.out, hcy, rfl, HO.out, HB.out⟩
      case round =>
        obtain ⟨z, A4, c4, rfl, hsz, hcz, hdz, ho2, hb2⟩ := hrel
        have HZ := Lib.hid hsz
        have HO2 := Lib.hid ho2
        have HB2 := Lib.hid hb2
        have HDZ := Lib.hid hdz
        clear hsz ho2 hb2 hdz
        have p0 := (HB2.out.cell (p := ⟨gX, ox + k * 2, none⟩) HLT.out).trans PX0.out
        have p1 := (HB2.out.cell (p := ⟨gX, ox + k * 2 + 1, none⟩) HLT.out).trans PX1.out
        cases z with
        | nil =>
          have hg := HG2.out
          rw [← HDZ.out] at hg
          simp only [List.dropWhile_nil, List.head?_nil, reduceCtorEq, if_false] at hg
          have HG3 := Lib.hid (show (o ++ [(x1, x2)]) ++ minusS (X.drop (k + 1)) [] = M by rw [← hg]; simp)
          clear hg
          go_wp2_with fail
          refine wp_region_R (R := RB) (n := 14) (by kernel_rfl) rfl ?_
          refine batchB [0, 1, 2, 3, 4, 5, 6, 7, 8, 9, 10, 11, 12, 13] (fuel := 0) rfl (by kernel_rfl) (by kernel_rfl) (fun _ _ d _ _ h => by cases d <;> exact h) ?_
          repeat (first | ((with_reducible apply wq0); rfl; rfl; rfl; intro K hK; go_big_quiet_op; refine hK _ ?_; clear hK K) | ((with_reducible apply wq1); rfl; rfl; rfl; rfl; rfl; rfl; intro K hK; go_big_quiet_op; refine hK _ ?_; clear hK K) | ((with_reducible apply wqs); rfl; rfl; rfl; rfl; rfl; rfl; simp only [Act.put, List.setIfInBounds_toArray, List.set_cons_zero, List.set_cons_succ]) | ((with_reducible apply wqu); rfl; rfl; rfl; rfl; rfl; simp only [same]) | ((with_reducible apply wqu); rfl; rfl; rfl; rfl; rfl; simp only [Act.put, List.setIfInBounds_toArray, List.set_cons_zero, List.set_cons_succ]))
          refine wqIdx_nil ?_
          refine wpAnyR_done (by kernel_rfl) ?_ _
          go_wp2_with fail
          refine wp_region_R (R := RB) (n := 13) (by kernel_rfl) rfl ?_
          refine batchB [0, 1, 2, 3, 4, 5, 6, 7, 8, 9, 10, 11, 12] (fuel := 0) rfl (by kernel_rfl) (by kernel_rfl) (fun _ _ d _ _ h => by cases d <;> exact h) ?_
          repeat (first | ((with_reducible apply wq0); rfl; rfl; rfl; intro K hK; go_big_quiet_op; refine hK _ ?_; clear hK K) | ((with_reducible apply wq1); rfl; rfl; rfl; rfl; rfl; rfl; intro K hK; go_big_quiet_op; refine hK _ ?_; clear hK K) | ((with_reducible apply wqs); rfl; rfl; rfl; rfl; rfl; rfl; simp only [Act.put, List.setIfInBounds_toArray, List.set_cons_zero, List.set_cons_succ]) | ((with_reducible apply wqu); rfl; rfl; rfl; rfl; rfl; simp only [same]) | ((with_reducible apply wqu); rfl; rfl; rfl; rfl; rfl; simp only [Act.put, List.setIfInBounds_toArray, List.set_cons_zero, List.set_cons_succ]))
          refine wqIdx_nil ?_
          refine wpAnyR_done (by kernel_rfl) ?_ _
          have HOX := Lib.hid (World.ownsRow.alloc HO2.out (.cells #[.int .i64 x1, .int .i64 x2] 24))
          have HRX := Lib.hid (reads_one wr (x1, x2) 24)
          have hsx : w2.heap.size ≤ (wr.alloc (.cells #[.int .i64 x1, .int .i64 x2] 24)).heap.size := by have h1 := (HB2.out).size; rw [World.size_alloc]; omega
          have HSX := Lib.hid hsx
          have BXA := Lib.hid ((HB2.out).alloc (by have h1 := (HB2.out).size; omega) (.cells #[.int .i64 x1, .int .i64 x2] 24))
          clear hsx
          go_wp2_with (at_builtin; (refine wpList_appP _ rfl (.tmp 50) (.tmp 55) _ rfl Try.underlying22 info_rec3 HOX.out HRX.out 1 rfl rfl (by omega) HSX.out ?_); intro A5 c5 w5 o5 gr5; have O5 := Lib.hid o5; have G5 := Lib.hid gr5; clear o5 gr5)
          have B5 := Lib.hid (BXA.out.grown (grown_of_drew (grown_of_drew (Grew.by_ G5.out))) HSX.out fun i hi => (World.ownsRow.lt HOX.out i hi).1)
          refine ⟨⟨k + 1, [], o ++ [(x1, x2)], _, _, _, _, by omega, by go_num, rfl, by rw [List.length_append]; rfl, HZ.out, hcz, by rw [List.length_append, List.length_singleton]; omega, ?_, HG3.out, B5.out⟩, by simp [intOf]; omega⟩
          rw [List.length_append]; exact O5.out
        | cons z0 t =>
          obtain ⟨y1, y2⟩ := z0
          obtain ⟨off, eA, q0, q1⟩ := (HZ.out.below HB2.out).head
          subst eA
          have HT := Lib.hid HZ.out.tail
          have PC := Lib.hid (fun W => rrc_compare_any y1 y2 x1 x2 W)
          have hgt := leR_gt (x1, x2) (y1, y2)
          simp only [List.length_cons] at hcz ⊢
          have d2 : decide ((0 : Int) < (t.length : Int) + 1) = true := by rw [decide_eq_true_eq]; omega
          generalize cmpM (y1, y2) (x1, x2) = zz at PC hgt
          by_cases hz : zz < 0
          · have d4 : decide (zz < 0) = true := by simpa using hz
            rw [d4] at hgt
            have hd := HDZ.out
            rw [List.dropWhile_cons, if_pos hgt] at hd
            have HD2 := Lib.hid hd
            clear hd hgt hz
            go_wp2_with fail
            refine wp_region_R (R := RB) (n := 14) (by kernel_rfl) rfl ?_
            refine batchB [0, 1, 2, 3, 4, 5, 6, 7, 8, 9, 10] (fuel := 3) rfl (by kernel_rfl) (by kernel_rfl) (fun _ _ d _ _ h => by cases d <;> exact h) ?_
            repeat (first | ((with_reducible apply wq0); rfl; rfl; rfl; intro K hK; go_big_quiet_op; refine hK _ ?_; clear hK K) | ((with_reducible apply wq1); rfl; rfl; rfl; rfl; rfl; rfl; intro K hK; go_big_quiet_op; refine hK _ ?_; clear hK K) | ((with_reducible apply wqs); rfl; rfl; rfl; rfl; rfl; rfl; simp only [Act.put, List.setIfInBounds_toArray, List.set_cons_zero, List.set_cons_succ]) | ((with_reducible apply wqu); rfl; rfl; rfl; rfl; rfl; simp only [same]) | ((with_reducible apply wqu); rfl; rfl; rfl; rfl; rfl; simp only [Act.put, List.setIfInBounds_toArray, List.set_cons_zero, List.set_cons_succ]))
            refine wqIdx_load rfl rfl rfl rfl (fun W hW => load_rec_at _ _ (y1) (y2) W (keep_cell hW q0) (keep_cell hW q1)) ?_
            simp only [Act.put, List.setIfInBounds_toArray, List.set_cons_zero, List.set_cons_succ]
            repeat (first | ((with_reducible apply wq0); rfl; rfl; rfl; intro K hK; go_big_quiet_op; refine hK _ ?_; clear hK K) | ((with_reducible apply wq1); rfl; rfl; rfl; rfl; rfl; rfl; intro K hK; go_big_quiet_op; refine hK _ ?_; clear hK K) | ((with_reducible apply wqs); rfl; rfl; rfl; rfl; rfl; rfl; simp only [Act.put, List.setIfInBounds_toArray, List.set_cons_zero, List.set_cons_succ]) | ((with_reducible apply wqu); rfl; rfl; rfl; rfl; rfl; simp only [same]) | ((with_reducible apply wqu); rfl; rfl; rfl; rfl; rfl; simp only [Act.put, List.setIfInBounds_toArray, List.set_cons_zero, List.set_cons_succ]))
            refine wqIdx_load rfl rfl rfl rfl (fun W hW => load_rec_at _ _ (x1) (x2) W (keep_cell hW p0) (keep_cell hW p1)) ?_
            simp only [Act.put, List.setIfInBounds_toArray, List.set_cons_zero, List.set_cons_succ]
            repeat (first | ((with_reducible apply wq0); rfl; rfl; rfl; intro K hK; go_big_quiet_op; refine hK _ ?_; clear hK K) | ((with_reducible apply wq1); rfl; rfl; rfl; rfl; rfl; rfl; intro K hK; go_big_quiet_op; refine hK _ ?_; clear hK K) | ((with_reducible apply wqs); rfl; rfl; rfl; rfl; rfl; rfl; simp only [Act.put, List.setIfInBounds_toArray, List.set_cons_zero, List.set_cons_succ]) | ((with_reducible apply wqu); rfl; rfl; rfl; rfl; rfl; simp only [same]) | ((with_reducible apply wqu); rfl; rfl; rfl; rfl; rfl; simp only [Act.put, List.setIfInBounds_toArray, List.set_cons_zero, List.set_cons_succ]))
            refine wqIdx_nil ?_
            refine wpAnyR_sole (i := 11) rfl (by kernel_rfl) (fun K hK => ?_)
            go_simp
            refine (PC.out _).mono ?_; rintro e w4 ⟨rfl, b4⟩
            refine hK _ _ b4 ?_
            have HR4 := Lib.hid (Below.of_drew0 b4)
            have HW4 := Lib.hid (below_trans HB2.out (Below.of_drew0 b4))
            clear b4 hK K
            refine batchB [12, 13] (fuel := 0) rfl (by kernel_rfl) (by kernel_rfl) (fun _ _ d _ _ h => by cases d <;> exact h) ?_
            repeat (first | ((with_reducible apply wq0); rfl; rfl; rfl; intro K hK; go_big_quiet_op; refine hK _ ?_; clear hK K) | ((with_reducible apply wq1); rfl; rfl; rfl; rfl; rfl; rfl; intro K hK; go_big_quiet_op; refine hK _ ?_; clear hK K) | ((with_reducible apply wqs); rfl; rfl; rfl; rfl; rfl; rfl; simp only [Act.put, List.setIfInBounds_toArray, List.set_cons_zero, List.set_cons_succ]) | ((with_reducible apply wqu); rfl; rfl; rfl; rfl; rfl; simp only [same]) | ((with_reducible apply wqu); rfl; rfl; rfl; rfl; rfl; simp only [Act.put, List.setIfInBounds_toArray, List.set_cons_zero, List.set_cons_succ]))
            refine wqIdx_nil ?_
            refine wpAnyR_done (by kernel_rfl) ?_ _
            clear p0 p1 q0 q1
            by_cases hcc : c4 = 1
            · subst hcc
              have hn0 : t.length = 0 := by omega
              have e0 := List.eq_nil_of_length_eq_zero hn0
              subst e0
              go_wp2
              exact ⟨⟨[], _, _, rfl, SlP.nil _ _ _, Nat.zero_le _, HD2.out, own_below HO2.out HR4.out, HW4.out⟩, by simp [slN]⟩
            · go_wp2
              exact ⟨⟨t, _, _, rfl, HT.out, by omega, HD2.out, own_below HO2.out HR4.out, HW4.out⟩, by simp [slN]⟩
          · have d4 : decide (zz < 0) = false := by simpa using hz
            rw [d4] at hgt
            have hd := HDZ.out
            rw [List.dropWhile_cons, if_neg (by rw [hgt]; simp)] at hd
            have hg := HG2.out
            rw [← hd] at hg
            simp only [List.head?_cons, List.tail_cons] at hg
            have HG3 := Lib.hid hg
            clear hd hgt hz hg
            go_wp2_with fail
            refine wp_region_R (R := RB) (n := 14) (by kernel_rfl) rfl ?_
            refine batchB [0, 1, 2, 3, 4, 5, 6, 7, 8, 9, 10] (fuel := 3) rfl (by kernel_rfl) (by kernel_rfl) (fun _ _ d _ _ h => by cases d <;> exact h) ?_
            repeat (first | ((with_reducible apply wq0); rfl; rfl; rfl; intro K hK; go_big_quiet_op; refine hK _ ?_; clear hK K) | ((with_reducible apply wq1); rfl; rfl; rfl; rfl; rfl; rfl; intro K hK; go_big_quiet_op; refine hK _ ?_; clear hK K) | ((with_reducible apply wqs); rfl; rfl; rfl; rfl; rfl; rfl; simp only [Act.put, List.setIfInBounds_toArray, List.set_cons_zero, List.set_cons_succ]) | ((with_reducible apply wqu); rfl; rfl; rfl; rfl; rfl; simp only [same]) | ((with_reducible apply wqu); rfl; rfl; rfl; rfl; rfl; simp only [Act.put, List.setIfInBounds_toArray, List.set_cons_zero, List.set_cons_succ]))
            refine wqIdx_load rfl rfl rfl rfl (fun W hW => load_rec_at _ _ (y1) (y2) W (keep_cell hW q0) (keep_cell hW q1)) ?_
            simp only [Act.put, List.setIfInBounds_toArray, List.set_cons_zero, List.set_cons_succ]
            repeat (first | ((with_reducible apply wq0); rfl; rfl; rfl; intro K hK; go_big_quiet_op; refine hK _ ?_; clear hK K) | ((with_reducible apply wq1); rfl; rfl; rfl; rfl; rfl; rfl; intro K hK; go_big_quiet_op; refine hK _ ?_; clear hK K) | ((with_reducible apply wqs); rfl; rfl; rfl; rfl; rfl; rfl; simp only [Act.put, List.setIfInBounds_toArray, List.set_cons_zero, List.set_cons_succ]) | ((with_reducible apply wqu); rfl; rfl; rfl; rfl; rfl; simp only [same]) | ((with_reducible apply wqu); rfl; rfl; rfl; rfl; rfl; simp only [Act.put, List.setIfInBounds_toArray, List.set_cons_zero, List.set_cons_succ]))
            refine wqIdx_load rfl rfl rfl rfl (fun W hW => load_rec_at _ _ (x1) (x2) W (keep_cell hW p0) (keep_cell hW p1)) ?_
            simp only [Act.put, List.setIfInBounds_toArray, List.set_cons_zero, List.set_cons_succ]
            repeat (first | ((with_reducible apply wq0); rfl; rfl; rfl; intro K hK; go_big_quiet_op; refine hK _ ?_; clear hK K) | ((with_reducible apply wq1); rfl; rfl; rfl; rfl; rfl; rfl; intro K hK; go_big_quiet_op; refine hK _ ?_; clear hK K) | ((with_reducible apply wqs); rfl; rfl; rfl; rfl; rfl; rfl; simp only [Act.put, List.setIfInBounds_toArray, List.set_cons_zero, List.set_cons_succ]) | ((with_reducible apply wqu); rfl; rfl; rfl; rfl; rfl; simp only [same]) | ((with_reducible apply wqu); rfl; rfl; rfl; rfl; rfl; simp only [Act.put, List.setIfInBounds_toArray, List.set_cons_zero, List.set_cons_succ]))
            refine wqIdx_nil ?_
            refine wpAnyR_sole (i := 11) rfl (by kernel_rfl) (fun K hK => ?_)
            go_simp
            refine (PC.out _).mono ?_; rintro e w4 ⟨rfl, b4⟩
            refine hK _ _ b4 ?_
            have HR4 := Lib.hid (Below.of_drew0 b4)
            have HW4 := Lib.hid (below_trans HB2.out (Below.of_drew0 b4))
            clear b4 hK K
            refine batchB [12, 13] (fuel := 0) rfl (by kernel_rfl) (by kernel_rfl) (fun _ _ d _ _ h => by cases d <;> exact h) ?_
            repeat (first | ((with_reducible apply wq0); rfl; rfl; rfl; intro K hK; go_big_quiet_op; refine hK _ ?_; clear hK K) | ((with_reducible apply wq1); rfl; rfl; rfl; rfl; rfl; rfl; intro K hK; go_big_quiet_op; refine hK _ ?_; clear hK K) | ((with_reducible apply wqs); rfl; rfl; rfl; rfl; rfl; rfl; simp only [Act.put, List.setIfInBounds_toArray, List.set_cons_zero, List.set_cons_succ]) | ((with_reducible apply wqu); rfl; rfl; rfl; rfl; rfl; simp only [same]) | ((with_reducible apply wqu); rfl; rfl; rfl; rfl; rfl; simp only [Act.put, List.setIfInBounds_toArray, List.set_cons_zero, List.set_cons_succ]))
            refine wqIdx_nil ?_
            refine wpAnyR_done (by kernel_rfl) ?_ _
            clear p0 p1 q0 q1
            have p0 := (HW4.out.cell (p := ⟨gX, ox + k * 2, none⟩) HLT.out).trans PX0.out
            have p1 := (HW4.out.cell (p := ⟨gX, ox + k * 2 + 1, none⟩) HLT.out).trans PX1.out
            obtain ⟨offc, eC, q0, q1⟩ := (HZ.out.below HW4.out).head
            injection eC with eC
            injection eC with _ eC
            subst eC
            by_cases e1 : y1 = x1
            · by_cases e2 : y2 = x2
              · subst e1 e2
                have hg := HG3.out
                simp only [↓reduceIte] at hg
                have HG4 := Lib.hid hg
                clear hg HG3
                go_wp2_with fail
                refine wp_region_R (R := RB) (n := 13) (by kernel_rfl) rfl ?_
                refine batchB [0, 1, 2, 3, 4, 5, 6, 7, 8, 9, 10, 11, 12] (fuel := 0) rfl (by kernel_rfl) (by kernel_rfl) (fun _ _ d _ _ h => by cases d <;> exact h) ?_
                repeat (first | ((with_reducible apply wq0); rfl; rfl; rfl; intro K hK; go_big_quiet_op; refine hK _ ?_; clear hK K) | ((with_reducible apply wq1); rfl; rfl; rfl; rfl; rfl; rfl; intro K hK; go_big_quiet_op; refine hK _ ?_; clear hK K) | ((with_reducible apply wqs); rfl; rfl; rfl; rfl; rfl; rfl; simp only [Act.put, List.setIfInBounds_toArray, List.set_cons_zero, List.set_cons_succ]) | ((with_reducible apply wqu); rfl; rfl; rfl; rfl; rfl; simp only [same]) | ((with_reducible apply wqu); rfl; rfl; rfl; rfl; rfl; simp only [Act.put, List.setIfInBounds_toArray, List.set_cons_zero, List.set_cons_succ]))
                refine wqIdx_load rfl rfl rfl rfl (fun W hW => load_rec_at _ _ (y1) (y2) W (keep_cell hW q0) (keep_cell hW q1)) ?_
                simp only [Act.put, List.setIfInBounds_toArray, List.set_cons_zero, List.set_cons_succ]
                repeat (first | ((with_reducible apply wq0); rfl; rfl; rfl; intro K hK; go_big_quiet_op; refine hK _ ?_; clear hK K) | ((with_reducible apply wq1); rfl; rfl; rfl; rfl; rfl; rfl; intro K hK; go_big_quiet_op; refine hK _ ?_; clear hK K) | ((with_reducible apply wqs); rfl; rfl; rfl; rfl; rfl; rfl; simp only [Act.put, List.setIfInBounds_toArray, List.set_cons_zero, List.set_cons_succ]) | ((with_reducible apply wqu); rfl; rfl; rfl; rfl; rfl; simp only [same]) | ((with_reducible apply wqu); rfl; rfl; rfl; rfl; rfl; simp only [Act.put, List.setIfInBounds_toArray, List.set_cons_zero, List.set_cons_succ]))
                refine wqIdx_load rfl rfl rfl rfl (fun W hW => load_rec_at _ _ (y1) (y2) W (keep_cell hW p0) (keep_cell hW p1)) ?_
                simp only [Act.put, List.setIfInBounds_toArray, List.set_cons_zero, List.set_cons_succ]
                repeat (first | ((with_reducible apply wq0); rfl; rfl; rfl; intro K hK; go_big_quiet_op; refine hK _ ?_; clear hK K) | ((with_reducible apply wq1); rfl; rfl; rfl; rfl; rfl; rfl; intro K hK; go_big_quiet_op; refine hK _ ?_; clear hK K) | ((with_reducible apply wqs); rfl; rfl; rfl; rfl; rfl; rfl; simp only [Act.put, List.setIfInBounds_toArray, List.set_cons_zero, List.set_cons_succ]) | ((with_reducible apply wqu); rfl; rfl; rfl; rfl; rfl; simp only [same]) | ((with_reducible apply wqu); rfl; rfl; rfl; rfl; rfl; simp only [Act.put, List.setIfInBounds_toArray, List.set_cons_zero, List.set_cons_succ]))
                refine wqIdx_nil ?_
                refine wpAnyR_done (by kernel_rfl) ?_ _
                by_cases hcc : c4 = 1
                · subst hcc
                  have hn0 : t.length = 0 := by omega
                  have e0 := List.eq_nil_of_length_eq_zero hn0
                  subst e0
                  go_wp2
                  exact ⟨⟨k + 1, [], o, _, _, _, _, by omega, by go_num, rfl, rfl, SlP.nil _ _ _, Nat.zero_le _, by omega, own_below HO2.out (below_drew0 HR4.out), HG4.out, below_drew0 HW4.out⟩, by simp [intOf]; omega⟩
                · go_wp2
                  exact ⟨⟨k + 1, t, o, _, _, _, _, by omega, by go_num, rfl, rfl, HT.out, by omega, by omega, own_below HO2.out (below_drew0 HR4.out), HG4.out, below_drew0 HW4.out⟩, by simp [intOf]; omega⟩
              · have d5 : (y2 == x2) = false := by simpa using e2
                subst e1
                have hg := HG3.out
                simp only [Option.some.injEq, Prod.mk.injEq, e2, and_false, ↓reduceIte] at hg
                have HG4 := Lib.hid (show (o ++ [(y1, x2)]) ++ minusS (X.drop (k + 1)) ((y1, y2) :: t) = M by rw [← hg]; simp)
                clear hg HG3 e2
                go_wp2_with fail
                refine wp_region_R (R := RB) (n := 13) (by kernel_rfl) rfl ?_
                refine batchB [0, 1, 2, 3, 4, 5, 6, 7, 8, 9, 10, 11, 12] (fuel := 0) rfl (by kernel_rfl) (by kernel_rfl) (fun _ _ d _ _ h => by cases d <;> exact h) ?_
                repeat (first | ((with_reducible apply wq0); rfl; rfl; rfl; intro K hK; go_big_quiet_op; refine hK _ ?_; clear hK K) | ((with_reducible apply wq1); rfl; rfl; rfl; rfl; rfl; rfl; intro K hK; go_big_quiet_op; refine hK _ ?_; clear hK K) | ((with_reducible apply wqs); rfl; rfl; rfl; rfl; rfl; rfl; simp only [Act.put, List.setIfInBounds_toArray, List.set_cons_zero, List.set_cons_succ]) | ((with_reducible apply wqu); rfl; rfl; rfl; rfl; rfl; simp only [same]) | ((with_reducible apply wqu); rfl; rfl; rfl; rfl; rfl; simp only [Act.put, List.setIfInBounds_toArray, List.set_cons_zero, List.set_cons_succ]))
                refine wqIdx_load rfl rfl rfl rfl (fun W hW => load_rec_at _ _ (y1) (y2) W (keep_cell hW q0) (keep_cell hW q1)) ?_
                simp only [Act.put, List.setIfInBounds_toArray, List.set_cons_zero, List.set_cons_succ]
                repeat (first | ((with_reducible apply wq0); rfl; rfl; rfl; intro K hK; go_big_quiet_op; refine hK _ ?_; clear hK K) | ((with_reducible apply wq1); rfl; rfl; rfl; rfl; rfl; rfl; intro K hK; go_big_quiet_op; refine hK _ ?_; clear hK K) | ((with_reducible apply wqs); rfl; rfl; rfl; rfl; rfl; rfl; simp only [Act.put, List.setIfInBounds_toArray, List.set_cons_zero, List.set_cons_succ]) | ((with_reducible apply wqu); rfl; rfl; rfl; rfl; rfl; simp only [same]) | ((with_reducible apply wqu); rfl; rfl; rfl; rfl; rfl; simp only [Act.put, List.setIfInBounds_toArray, List.set_cons_zero, List.set_cons_succ]))
                refine wqIdx_load rfl rfl rfl rfl (fun W hW => load_rec_at _ _ (y1) (x2) W (keep_cell hW p0) (keep_cell hW p1)) ?_
                simp only [Act.put, List.setIfInBounds_toArray, List.set_cons_zero, List.set_cons_succ]
                repeat (first | ((with_reducible apply wq0); rfl; rfl; rfl; intro K hK; go_big_quiet_op; refine hK _ ?_; clear hK K) | ((with_reducible apply wq1); rfl; rfl; rfl; rfl; rfl; rfl; intro K hK; go_big_quiet_op; refine hK _ ?_; clear hK K) | ((with_reducible apply wqs); rfl; rfl; rfl; rfl; rfl; rfl; simp only [Act.put, List.setIfInBounds_toArray, List.set_cons_zero, List.set_cons_succ]) | ((with_reducible apply wqu); rfl; rfl; rfl; rfl; rfl; simp only [same]) | ((with_reducible apply wqu); rfl; rfl; rfl; rfl; rfl; simp only [Act.put, List.setIfInBounds_toArray, List.set_cons_zero, List.set_cons_succ]))
                refine wqIdx_nil ?_
                refine wpAnyR_done (by kernel_rfl) ?_ _
                have HOX := Lib.hid (World.ownsRow.alloc (own_below HO2.out HR4.out) (.cells #[.int .i64 y1, .int .i64 x2] 24))
                have HRX := Lib.hid (reads_one w4 (y1, x2) 24)
                have hsx : w2.heap.size ≤ (w4.alloc (.cells #[.int .i64 y1, .int .i64 x2] 24)).heap.size := by have h1 := (HW4.out).size; rw [World.size_alloc]; omega
                have HSX := Lib.hid hsx
                have BXA := Lib.hid ((HW4.out).alloc (by have h1 := (HW4.out).size; omega) (.cells #[.int .i64 y1, .int .i64 x2] 24))
                clear hsx
                go_wp2_with (at_builtin; (refine wpList_appP _ rfl (.tmp 50) (.tmp 55) _ rfl Try.underlying22 info_rec3 HOX.out HRX.out 1 rfl rfl (by omega) HSX.out ?_); intro A5 c5 w5 o5 gr5; have O5 := Lib.hid o5; have G5 := Lib.hid gr5; clear o5 gr5)
                have B5 := Lib.hid (BXA.out.grown (grown_of_drew (Grew.by_ G5.out)) HSX.out fun i hi => (World.ownsRow.lt HOX.out i hi).1)
                refine ⟨⟨k + 1, (y1, y2) :: t, o ++ [(y1, x2)], _, _, _, _, by omega, by go_num, rfl, by rw [List.length_append]; rfl, HZ.out, hcz, by rw [List.length_append, List.length_singleton]; omega, ?_, HG4.out, B5.out⟩, by simp [intOf]; omega⟩
                rw [List.length_append]; exact O5.out
            · have d5 : (y1 == x1) = false := by simpa using e1
              have hg := HG3.out
              simp only [Option.some.injEq, Prod.mk.injEq, e1, false_and, ↓reduceIte] at hg
              have HG4 := Lib.hid (show (o ++ [(x1, x2)]) ++ minusS (X.drop (k + 1)) ((y1, y2) :: t) = M by rw [← hg]; simp)
              clear hg HG3 e1
              go_wp2_with fail
              refine wp_region_R (R := RB) (n := 13) (by kernel_rfl) rfl ?_
              refine batchB [0, 1, 2, 3, 4, 5, 6, 7, 8, 9, 10, 11, 12] (fuel := 0) rfl (by kernel_rfl) (by kernel_rfl) (fun _ _ d _ _ h => by cases d <;> exact h) ?_
              repeat (first | ((with_reducible apply wq0); rfl; rfl; rfl; intro K hK; go_big_quiet_op; refine hK _ ?_; clear hK K) | ((with_reducible apply wq1); rfl; rfl; rfl; rfl; rfl; rfl; intro K hK; go_big_quiet_op; refine hK _ ?_; clear hK K) | ((with_reducible apply wqs); rfl; rfl; rfl; rfl; rfl; rfl; simp only [Act.put, List.setIfInBounds_toArray, List.set_cons_zero, List.set_cons_succ]) | ((with_reducible apply wqu); rfl; rfl; rfl; rfl; rfl; simp only [same]) | ((with_reducible apply wqu); rfl; rfl; rfl; rfl; rfl; simp only [Act.put, List.setIfInBounds_toArray, List.set_cons_zero, List.set_cons_succ]))
              refine wqIdx_load rfl rfl rfl rfl (fun W hW => load_rec_at _ _ (y1) (y2) W (keep_cell hW q0) (keep_cell hW q1)) ?_
              simp only [Act.put, List.setIfInBounds_toArray, List.set_cons_zero, List.set_cons_succ]
              repeat (first | ((with_reducible apply wq0); rfl; rfl; rfl; intro K hK; go_big_quiet_op; refine hK _ ?_; clear hK K) | ((with_reducible apply wq1); rfl; rfl; rfl; rfl; rfl; rfl; intro K hK; go_big_quiet_op; refine hK _ ?_; clear hK K) | ((with_reducible apply wqs); rfl; rfl; rfl; rfl; rfl; rfl; simp only [Act.put, List.setIfInBounds_toArray, List.set_cons_zero, List.set_cons_succ]) | ((with_reducible apply wqu); rfl; rfl; rfl; rfl; rfl; simp only [same]) | ((with_reducible apply wqu); rfl; rfl; rfl; rfl; rfl; simp only [Act.put, List.setIfInBounds_toArray, List.set_cons_zero, List.set_cons_succ]))
              refine wqIdx_load rfl rfl rfl rfl (fun W hW => load_rec_at _ _ (x1) (x2) W (keep_cell hW p0) (keep_cell hW p1)) ?_
              simp only [Act.put, List.setIfInBounds_toArray, List.set_cons_zero, List.set_cons_succ]
              repeat (first | ((with_reducible apply wq0); rfl; rfl; rfl; intro K hK; go_big_quiet_op; refine hK _ ?_; clear hK K) | ((with_reducible apply wq1); rfl; rfl; rfl; rfl; rfl; rfl; intro K hK; go_big_quiet_op; refine hK _ ?_; clear hK K) | ((with_reducible apply wqs); rfl; rfl; rfl; rfl; rfl; rfl; simp only [Act.put, List.setIfInBounds_toArray, List.set_cons_zero, List.set_cons_succ]) | ((with_reducible apply wqu); rfl; rfl; rfl; rfl; rfl; simp only [same]) | ((with_reducible apply wqu); rfl; rfl; rfl; rfl; rfl; simp only [Act.put, List.setIfInBounds_toArray, List.set_cons_zero, List.set_cons_succ]))
              refine wqIdx_nil ?_
              refine wpAnyR_done (by kernel_rfl) ?_ _
              have HOX := Lib.hid (World.ownsRow.alloc (own_below HO2.out HR4.out) (.cells #[.int .i64 x1, .int .i64 x2] 24))
              have HRX := Lib.hid (reads_one w4 (x1, x2) 24)
              have hsx : w2.heap.size ≤ (w4.alloc (.cells #[.int .i64 x1, .int .i64 x2] 24)).heap.size := by have h1 := (HW4.out).size; rw [World.size_alloc]; omega
              have HSX := Lib.hid hsx
              have BXA := Lib.hid ((HW4.out).alloc (by have h1 := (HW4.out).size; omega) (.cells #[.int .i64 x1, .int .i64 x2] 24))
              clear hsx
              go_wp2_with (at_builtin; (refine wpList_appP _ rfl (.tmp 50) (.tmp 55) _ rfl Try.underlying22 info_rec3 HOX.out HRX.out 1 rfl rfl (by omega) HSX.out ?_); intro A5 c5 w5 o5 gr5; have O5 := Lib.hid o5; have G5 := Lib.hid gr5; clear o5 gr5)
              have B5 := Lib.hid (BXA.out.grown (grown_of_drew (Grew.by_ G5.out)) HSX.out fun i hi => (World.ownsRow.lt HOX.out i hi).1)
              refine ⟨⟨k + 1, (y1, y2) :: t, o ++ [(x1, x2)], _, _, _, _, by omega, by go_num, rfl, by rw [List.length_append]; rfl, HZ.out, hcz, by rw [List.length_append, List.length_singleton]; omega, ?_, HG4.out, B5.out⟩, by simp [intOf]; omega⟩
              rw [List.length_append]; exact O5.out
    · obtain rfl : k = X.length := by omega
      have hg := HG.out
      rw [List.drop_length] at hg
      simp only [minusS, List.append_nil] at hg
      subst hg
      go_wp2
      go_ret
      exact ⟨A3, c3, rfl, RowS.own (below_trans B2.out HB.out) HO.out (by have := B2.out.size; omega)⟩
end Go.Proofs.Ytibhofdblfgkbaa
