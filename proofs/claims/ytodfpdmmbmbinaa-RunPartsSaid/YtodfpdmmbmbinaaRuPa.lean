/- The law RunParts. -/
import Derived.Test.YtodfpdmmbmbinaaRuPm
import Derived.Test.YtodfpdmmbmbinaaOpE
import Derived.Test.YtodfpdmmbmbinaaRegJ
namespace Go.Proofs.Ytodfpdmmbmbinaa
open Go.RowKit Go.Sort

def okX (x : En) : Bool := enE x == 0
def goods (l : List En) : List En := l.filter okX
theorem goods_ok (l : List En) : ∀ x ∈ goods l, enE x = 0 := fun x hx => by
  have := (List.mem_filter.1 hx).2
  simpa [okX] using this
theorem goods_len (l : List En) : (goods l).length ≤ l.length := List.length_filter_le ..
theorem goods_succ {l : List En} {k : Nat} {x : En} (h : l[k]? = some x) : goods (l.take (k + 1)) = goods (l.take k) ++ (if okX x then [x] else []) := by
  unfold goods
  rw [List.take_add_one, h, List.filter_append]
  congr 1
  show [x].filter okX = _
  rw [List.filter_cons, List.filter_nil]
theorem load_mo_two (h off : Nat) (a b : Int) (w : World) (h0 : w.cell? ⟨h, off, none⟩ = some (.int .i64 a)) (h1 : w.cell? ⟨h, off + 1, none⟩ = some (.int .i64 b)) : (Instr.loadAt 61 (.pointer (some ⟨h, off, none⟩))).run Try.prog w = .ok (.agg #[.int .i64 a, .int .i64 b]) w := by
  go_simp
set_option maxRecDepth 100000 in
set_option maxHeartbeats 4000000 in
theorem parts_in (A : Option Addr) (g : Nat) (l : List En) (c : Nat) (w : World) (hl : SlK encE w g A l) (hlen : l.length ≤ 200) :
    Calls Try.prog 10 #[.slice A l.length c] w fun e w' => e = .returned (.bool true) ∧ Below w.heap.size w w' := by
  have HL := Lib.hid hl
  have P1 := Lib.hid (rnew_ok 4096 w w.heap.size (Nat.le_refl _) (by decide) (by decide))
  have d1 : decide ((l.length : Int) > 200) = false := by rw [decide_eq_false_iff_not]; omega
  clear hl
  go_enter Try.func10, Try.ntmps10
  go_wp2_with fail
  refine P1.out.mono ?_; rintro e w1 ⟨r, rfl, h1, hr1, b1⟩
  have H1 := Lib.hid h1
  have B1 := Lib.hid b1
  have HR1 := Lib.hid hr1
  clear h1 b1 hr1
  go_wp2_with fail
  refine (rlives_any _).mono ?_; rintro e w2 ⟨rfl, b2⟩
  have H2 := Lib.hid (H1.out.below b2)
  have B2 := Lib.hid (B1.out.trans (b2.mono B1.out.size))
  clear b2
  go_wp2_with fail
  go_loopw [5] (fun i wr => ∃ (k : Nat) (hb : Option Nat), k ≤ l.length ∧ i = .int .i64 (k : Int) ∧ RunR wr w.heap.size r hb ⟨4096, (goods (l.take k)).length, goods (l.take k)⟩ ∧ Below w.heap.size w wr) (fun i _ => l.length - (intOf i).toNat)
  case atStart => exact ⟨0, none, Nat.zero_le _, rfl, H2.out, B2.out⟩
  case round =>
    obtain ⟨k, hb, hk, rfl, hd, hbl⟩ := hrel
    have HR := Lib.hid hd
    have HB := Lib.hid hbl
    clear hd hbl
    by_cases hlt : k < l.length
    · have hea := List.getElem?_eq_getElem hlt
      obtain ⟨-, off, rfl, hc⟩ := (HL.out.below HB.out).at_ layE hea
      obtain ⟨x, hx⟩ : ∃ x, x = l[k] := ⟨_, rfl⟩
      rw [← hx] at hc hea
      have HG := Lib.hid (goods_succ hea)
      obtain ⟨⟨a, b⟩, c', d⟩ := x
      have q0 := hc 0 _ rfl
      have q1 := hc 1 _ rfl
      have q2 := hc 2 _ rfl
      have q3 := hc 3 _ rfl
      rw [Nat.add_zero] at q0
      have i1 : decide ((k : Int) < (l.length : Int)) = true := by rw [decide_eq_true_eq]; omega
      have hgl : (goods (l.take k)).length < 4096 := Nat.lt_of_le_of_lt (goods_len _) (by rw [List.length_take]; omega)
      clear hx hea hc
      go_wp2_with fail
      clear q0 q1 q2 q3
      by_cases hok : enE ((a, b), (c', d)) = 0
      · refine (radd_ok HR.out ((a, b), (c', d)) hok hgl HB.out.size).mono ?_
        rintro e w4 ⟨rfl, hb4, h4, k4, -⟩
        have hg := HG.out
        rw [if_pos (by simpa [okX] using hok)] at hg
        have H4 := Lib.hid (show RunR w4 w.heap.size r hb4 ⟨4096, (goods (l.take (k + 1))).length, goods (l.take (k + 1))⟩ by
          rw [hg, List.length_append, List.length_singleton]
          have e : max (goods (l.take k)).length ((goods (l.take k)).length + 1) = (goods (l.take k)).length + 1 := Nat.max_eq_right (Nat.le_succ _)
          have h4' : RunR w4 w.heap.size r hb4 ⟨4096, max (goods (l.take k)).length ((goods (l.take k)).length + 1), goods (l.take k) ++ [((a, b), (c', d))]⟩ := h4
          rw [e] at h4'
          exact h4')
        have B4 := Lib.hid (HB.out.trans (k4.below HR.out.base_le.1 (fun k hk => (HR.out.base_le.2.1 k hk).1) HB.out.size))
        clear h4 k4 hg
        go_wp2_with fail
        exact ⟨⟨k + 1, hb4, by omega, by go_num, H4.out, B4.out⟩, by simp only [intOf]; omega⟩
      · refine (radd_bad HR.out ((a, b), (c', d)) hok).mono ?_
        rintro e w4 ⟨rfl, b4⟩
        have hg := HG.out
        rw [if_neg (by simpa [okX] using hok), List.append_nil] at hg
        have H4 := Lib.hid (show RunR w4 w.heap.size r hb ⟨4096, (goods (l.take (k + 1))).length, goods (l.take (k + 1))⟩ by rw [hg]; exact HR.out.below b4)
        have B4 := Lib.hid (HB.out.trans (b4.mono HB.out.size))
        clear b4 hg
        go_wp2_with fail
        exact ⟨⟨k + 1, hb, by omega, by go_num, H4.out, B4.out⟩, by simp only [intOf]; omega⟩
    · obtain rfl : k = l.length := by omega
      obtain ⟨wl, rfl⟩ : ∃ wl : World, wl = wr := ⟨_, rfl⟩
      have hd := HR.out
      rw [List.take_length] at hd
      have HR := Lib.hid hd
      have hgl : (goods l).length ≤ 200 := Nat.le_trans (goods_len l) hlen
      clear hd hlt
      generalize hgo : goods l = hs at HR hgl
      clear hgo HL
      go_wp2_with fail
      have PA := rall_any HR.out
      rw [show (⟨4096, hs.length, hs⟩ : Rn).held = hs from rfl] at PA
      refine PA.mono ?_
      clear PA
      rintro e w5 ⟨A5, c5, rfl, ⟨g5, s5⟩, b5, -⟩
      have S5 := Lib.hid s5
      have H5 := Lib.hid (HR.out.below b5)
      have B5 := Lib.hid (HB.out.trans (b5.mono HB.out.size))
      have SRT := Lib.hid (srtE_sorted hs)
      have FIL := Lib.hid (fun m : Int × Int => srt_filter hs fun x => x.1 == m)
      have hsl := srtE_length hs
      have HSL := Lib.hid hsl
      obtain ⟨s, hs2⟩ : ∃ s, s = srtE hs := ⟨_, rfl⟩
      rw [← hs2] at S5 SRT FIL hsl HSL ⊢
      have hgs : s.length ≤ 200 := by omega
      clear s5 b5 hs2 hsl
      go_wp2_with fail
      go_loopw [7, 8] (fun sv i wr => ∃ (j : Nat) (A2 : Option Addr) (c2 : Nat), j ≤ s.length ∧ i = .int .i64 (j : Int) ∧ sv = .slice A2 (sumTo s j).length c2 ∧ wr.ownsRow w5.heap.size 65 4 sv (sumTo s j).length (RowV encE (sumTo s j)) ∧ Below w5.heap.size w5 wr) (fun _ i _ => s.length - (intOf i).toNat)
      case atStart => exact ⟨0, none, 0, Nat.zero_le _, rfl, by rw [sumTo_zero]; rfl, by rw [sumTo_zero]; exact own_nil_k layE _ _ _, Below.refl _ _⟩
      case round =>
        obtain ⟨j, A2, c2, hj, rfl, rfl, ho, hb2⟩ := hrel
        have HO := Lib.hid ho
        have HB2 := Lib.hid hb2
        have HR2 := Lib.hid (H5.out.below hb2)
        have S2 := Lib.hid (S5.out.below hb2)
        clear ho hb2
        by_cases hjl : j < s.length
        · have hy := List.getElem?_eq_getElem hjl
          obtain ⟨y, hye⟩ : ∃ y, y = s[j] := ⟨_, rfl⟩
          rw [← hye] at hy
          have HY := Lib.hid hy
          obtain ⟨-, off, e5, hc⟩ := S2.out.at_ layE hy
          have q0 := hc 0 _ rfl
          have q1 := hc 1 _ rfl
          rw [Nat.add_zero] at q0
          have i1 : decide ((j : Int) < (s.length : Int)) = true := by rw [decide_eq_true_eq]; omega
          by_cases hj0 : j = 0
          · subst hj0
            subst e5
            have p0 : (0 : Nat) = 0 := rfl
            have p1 : (0 : Nat) = 0 := rfl
            simp only [Nat.zero_mul, Nat.add_zero] at q0 q1
            clear hye hy hc
            go_wp2_with fail
            refine wp_region_J RT [] (n := 16) (by kernel_rfl) rfl ?_
            refine batchJ RT.refl [0, 1, 2, 3, 4, 5, 6, 7, 8, 9, 10, 11, 12, 13, 14, 15] (fuel := 0) rfl (by kernel_rfl) (by kernel_rfl) (fun _ _ d _ _ h => by cases d <;> exact h) ?_
            (repeat (first | ((with_reducible apply wq0); rfl; rfl; rfl; intro K hK; go_big_quiet_op; refine hK _ ?_; clear hK K) | ((with_reducible apply wq1); rfl; rfl; rfl; rfl; rfl; rfl; intro K hK; go_big_quiet_op; refine hK _ ?_; clear hK K) | ((with_reducible apply wqs); rfl; rfl; rfl; rfl; rfl; rfl; simp only [Act.put, List.setIfInBounds_toArray, List.set_cons_zero, List.set_cons_succ]) | ((with_reducible apply wqu); rfl; rfl; rfl; rfl; rfl; (first | simp only [same, Act.put, List.setIfInBounds_toArray, List.set_cons_zero, List.set_cons_succ] | simp only [Act.put, List.setIfInBounds_toArray, List.set_cons_zero, List.set_cons_succ]))))
            refine wqIdx_nil ?_
            refine wpAnyJ_done (by kernel_rfl) ?_ _
            go_wp2_with fail
            clear p0 p1
            refine (rat_any (HR2.out.below (dr_below (Below.refl _ _))) y.1).mono ?_
            rintro e w6 ⟨A6, c6, rfl, ⟨g6, s6⟩, b6, -⟩
            have b6 := (dr_below (Below.refl wr.heap.size wr)).trans b6
            rw [show (⟨4096, hs.length, hs⟩ : Rn).held = hs from rfl, FIL.out y.1] at s6 ⊢
            have hfl : (s.filter fun x => x.1 == y.1).length ≤ 200 := Nat.le_trans (List.length_filter_le ..) hgs
            have HNW := Lib.hid (sumTo_new s SRT.out 0 y HY.out (fun x h _ => absurd rfl h))
            have HRD := Lib.hid (SlK.reads layE s6 rfl)
            have BW := Lib.hid (HB2.out.trans (b6.mono HB2.out.size))
            have HOA := Lib.hid (own_below HO.out b6)
            have hst : (sumTo s 0).length ≤ 200 := Nat.le_trans (List.length_filter_le ..) hgs
            clear q0 q1 s6 b6
            go_wp2_with (at_builtin; (refine wpList_appK layE (xs := sumTo s 0) (ys := s.filter fun x => x.1 == y.1) _ rfl (.tmp 65) (.tmp 72) _ rfl Try.underlying70 info_en3 rfl HOA.out HRD.out c6 rfl rfl (by omega) (by decide) BW.out.size ?_); intro A7 c7 w7 o7 gr7; have O7 := Lib.hid o7; have B7 := Lib.hid (show Below w5.heap.size w5 w7 from BW.out.grown (Grew.by_ gr7) BW.out.size fun i hi => (World.ownsRow.lt HOA.out i hi).1); clear o7 gr7)
            have hnw := HNW.out
            exact ⟨⟨0 + 1, A7, c7, by omega, by go_num, by rw [hnw, List.length_append], by rw [hnw, List.length_append]; exact O7.out, B7.out⟩, by simp [intOf]; omega⟩
          · have hx := List.getElem?_eq_getElem (show j - 1 < s.length by omega)
            obtain ⟨x, hxe⟩ : ∃ x, x = s[j - 1] := ⟨_, rfl⟩
            rw [← hxe] at hx
            have HX := Lib.hid hx
            obtain ⟨-, off', e6, hc'⟩ := S2.out.at_ layE hx
            have e7 : off' = off := by
              rw [e5] at e6
              injection e6 with e6
              injection e6 with _ e6
              exact e6.symm
            subst e7
            subst e5
            have p0 := hc' 0 _ rfl
            have p1 := hc' 1 _ rfl
            rw [Nat.add_zero] at p0
            have i2 : ((j : Int) == 0) = false := by rw [beq_eq_false_iff_ne]; omega
            have hneed : y.1 = x.1 ∨ y.1 ≠ x.1 := Decidable.em _
            clear hye hy hc hxe hx hc' e6
            obtain ⟨j', rfl⟩ : ∃ j', j = j' + 1 := ⟨j - 1, by omega⟩
            rw [show j' + 1 - 1 = j' from rfl] at p0 p1 HX
            by_cases h1 : y.1.1 = x.1.1
            · by_cases h2 : y.1.2 = x.1.2
              · have k1 : (y.1.1 == x.1.1) = true := by rw [beq_iff_eq]; exact h1
                have k2 : (y.1.2 == x.1.2) = true := by rw [beq_iff_eq]; exact h2
                have hsm := sumTo_same s j' x y HX.out HY.out (Prod.ext h1 h2)
                have HSM := Lib.hid hsm
                clear h1 h2 hneed hsm
                go_wp2_with fail
                refine wp_region_J RT [] (n := 16) (by kernel_rfl) rfl ?_
                refine batchJ RT.refl [0, 1, 2, 3, 4, 5, 6, 7, 8, 9, 10, 11, 12, 13, 14, 15] (fuel := 0) rfl (by kernel_rfl) (by kernel_rfl) (fun _ _ d _ _ h => by cases d <;> exact h) ?_
                (repeat (first | ((with_reducible apply wq0); rfl; rfl; rfl; intro K hK; go_big_quiet_op; refine hK _ ?_; clear hK K) | ((with_reducible apply wq1); rfl; rfl; rfl; rfl; rfl; rfl; intro K hK; go_big_quiet_op; refine hK _ ?_; clear hK K) | ((with_reducible apply wqs); rfl; rfl; rfl; rfl; rfl; rfl; simp only [Act.put, List.setIfInBounds_toArray, List.set_cons_zero, List.set_cons_succ]) | ((with_reducible apply wqu); rfl; rfl; rfl; rfl; rfl; (first | simp only [same, Act.put, List.setIfInBounds_toArray, List.set_cons_zero, List.set_cons_succ] | simp only [Act.put, List.setIfInBounds_toArray, List.set_cons_zero, List.set_cons_succ]))))
                refine wqIdx_load rfl rfl rfl rfl (fun W hW => load_mo_two g5 (off' + (j' + 1) * 4) y.1.1 y.1.2 W (keep_c hW q0) (keep_c hW q1)) ?_
                simp only [Act.put, List.setIfInBounds_toArray, List.set_cons_zero, List.set_cons_succ]
                (repeat (first | ((with_reducible apply wq0); rfl; rfl; rfl; intro K hK; go_big_quiet_op; refine hK _ ?_; clear hK K) | ((with_reducible apply wq1); rfl; rfl; rfl; rfl; rfl; rfl; intro K hK; go_big_quiet_op; refine hK _ ?_; clear hK K) | ((with_reducible apply wqs); rfl; rfl; rfl; rfl; rfl; rfl; simp only [Act.put, List.setIfInBounds_toArray, List.set_cons_zero, List.set_cons_succ]) | ((with_reducible apply wqu); rfl; rfl; rfl; rfl; rfl; (first | simp only [same, Act.put, List.setIfInBounds_toArray, List.set_cons_zero, List.set_cons_succ] | simp only [Act.put, List.setIfInBounds_toArray, List.set_cons_zero, List.set_cons_succ]))))
                refine wqIdx_load rfl rfl rfl rfl (fun W hW => load_mo_two g5 (off' + j' * 4) x.1.1 x.1.2 W (keep_c hW p0) (keep_c hW p1)) ?_
                simp only [Act.put, List.setIfInBounds_toArray, List.set_cons_zero, List.set_cons_succ]
                (repeat (first | ((with_reducible apply wq0); rfl; rfl; rfl; intro K hK; go_big_quiet_op; refine hK _ ?_; clear hK K) | ((with_reducible apply wq1); rfl; rfl; rfl; rfl; rfl; rfl; intro K hK; go_big_quiet_op; refine hK _ ?_; clear hK K) | ((with_reducible apply wqs); rfl; rfl; rfl; rfl; rfl; rfl; simp only [Act.put, List.setIfInBounds_toArray, List.set_cons_zero, List.set_cons_succ]) | ((with_reducible apply wqu); rfl; rfl; rfl; rfl; rfl; (first | simp only [same, Act.put, List.setIfInBounds_toArray, List.set_cons_zero, List.set_cons_succ] | simp only [Act.put, List.setIfInBounds_toArray, List.set_cons_zero, List.set_cons_succ]))))
                refine wqIdx_nil ?_
                refine wpAnyJ_done (by kernel_rfl) ?_ _
                go_wp2_with fail
                have hsm := HSM.out
                have BW := dr_below HB2.out
                have HO2 := own_below HO.out (dr_below (Below.refl wr.heap.size wr))
                exact ⟨⟨j' + 1 + 1, A2, c2, by omega, by go_num, by rw [hsm], by rw [hsm]; exact HO2, BW⟩, by simp [intOf]; omega⟩
              · have k1 : (y.1.1 == x.1.1) = true := by rw [beq_iff_eq]; exact h1
                have k2 : (y.1.2 == x.1.2) = false := by rw [beq_eq_false_iff_ne]; exact h2
                have HNE := Lib.hid (show y.1 ≠ x.1 from fun e => h2 (by rw [e]))
                clear h1 h2 hneed
                go_wp2_with fail
                refine wp_region_J RT [] (n := 16) (by kernel_rfl) rfl ?_
                refine batchJ RT.refl [0, 1, 2, 3, 4, 5, 6, 7, 8, 9, 10, 11, 12, 13, 14, 15] (fuel := 0) rfl (by kernel_rfl) (by kernel_rfl) (fun _ _ d _ _ h => by cases d <;> exact h) ?_
                (repeat (first | ((with_reducible apply wq0); rfl; rfl; rfl; intro K hK; go_big_quiet_op; refine hK _ ?_; clear hK K) | ((with_reducible apply wq1); rfl; rfl; rfl; rfl; rfl; rfl; intro K hK; go_big_quiet_op; refine hK _ ?_; clear hK K) | ((with_reducible apply wqs); rfl; rfl; rfl; rfl; rfl; rfl; simp only [Act.put, List.setIfInBounds_toArray, List.set_cons_zero, List.set_cons_succ]) | ((with_reducible apply wqu); rfl; rfl; rfl; rfl; rfl; (first | simp only [same, Act.put, List.setIfInBounds_toArray, List.set_cons_zero, List.set_cons_succ] | simp only [Act.put, List.setIfInBounds_toArray, List.set_cons_zero, List.set_cons_succ]))))
                refine wqIdx_load rfl rfl rfl rfl (fun W hW => load_mo_two g5 (off' + (j' + 1) * 4) y.1.1 y.1.2 W (keep_c hW q0) (keep_c hW q1)) ?_
                simp only [Act.put, List.setIfInBounds_toArray, List.set_cons_zero, List.set_cons_succ]
                (repeat (first | ((with_reducible apply wq0); rfl; rfl; rfl; intro K hK; go_big_quiet_op; refine hK _ ?_; clear hK K) | ((with_reducible apply wq1); rfl; rfl; rfl; rfl; rfl; rfl; intro K hK; go_big_quiet_op; refine hK _ ?_; clear hK K) | ((with_reducible apply wqs); rfl; rfl; rfl; rfl; rfl; rfl; simp only [Act.put, List.setIfInBounds_toArray, List.set_cons_zero, List.set_cons_succ]) | ((with_reducible apply wqu); rfl; rfl; rfl; rfl; rfl; (first | simp only [same, Act.put, List.setIfInBounds_toArray, List.set_cons_zero, List.set_cons_succ] | simp only [Act.put, List.setIfInBounds_toArray, List.set_cons_zero, List.set_cons_succ]))))
                refine wqIdx_load rfl rfl rfl rfl (fun W hW => load_mo_two g5 (off' + j' * 4) x.1.1 x.1.2 W (keep_c hW p0) (keep_c hW p1)) ?_
                simp only [Act.put, List.setIfInBounds_toArray, List.set_cons_zero, List.set_cons_succ]
                (repeat (first | ((with_reducible apply wq0); rfl; rfl; rfl; intro K hK; go_big_quiet_op; refine hK _ ?_; clear hK K) | ((with_reducible apply wq1); rfl; rfl; rfl; rfl; rfl; rfl; intro K hK; go_big_quiet_op; refine hK _ ?_; clear hK K) | ((with_reducible apply wqs); rfl; rfl; rfl; rfl; rfl; rfl; simp only [Act.put, List.setIfInBounds_toArray, List.set_cons_zero, List.set_cons_succ]) | ((with_reducible apply wqu); rfl; rfl; rfl; rfl; rfl; (first | simp only [same, Act.put, List.setIfInBounds_toArray, List.set_cons_zero, List.set_cons_succ] | simp only [Act.put, List.setIfInBounds_toArray, List.set_cons_zero, List.set_cons_succ]))))
                refine wqIdx_nil ?_
                refine wpAnyJ_done (by kernel_rfl) ?_ _
                go_wp2_with fail
                clear p0 p1
                refine (rat_any (HR2.out.below (dr_below (Below.refl _ _))) y.1).mono ?_
                rintro e w6 ⟨A6, c6, rfl, ⟨g6, s6⟩, b6, -⟩
                have b6 := (dr_below (Below.refl wr.heap.size wr)).trans b6
                rw [show (⟨4096, hs.length, hs⟩ : Rn).held = hs from rfl, FIL.out y.1] at s6 ⊢
                have hfl : (s.filter fun x => x.1 == y.1).length ≤ 200 := Nat.le_trans (List.length_filter_le ..) hgs
                have HNW := Lib.hid (sumTo_new s SRT.out (j' + 1) y HY.out (fun x0 _ hx0 he => by
                rw [show j' + 1 - 1 = j' from rfl, HX.out] at hx0
                injection hx0 with hx0
                subst hx0
                exact HNE.out he))
                have HRD := Lib.hid (SlK.reads layE s6 rfl)
                have BW := Lib.hid (HB2.out.trans (b6.mono HB2.out.size))
                have HOA := Lib.hid (own_below HO.out b6)
                have hst : (sumTo s (j' + 1)).length ≤ 200 := Nat.le_trans (List.length_filter_le ..) hgs
                clear q0 q1 s6 b6
                go_wp2_with (at_builtin; (refine wpList_appK layE (xs := sumTo s (j' + 1)) (ys := s.filter fun x => x.1 == y.1) _ rfl (.tmp 65) (.tmp 72) _ rfl Try.underlying70 info_en3 rfl HOA.out HRD.out c6 rfl rfl (by omega) (by decide) BW.out.size ?_); intro A7 c7 w7 o7 gr7; have O7 := Lib.hid o7; have B7 := Lib.hid (show Below w5.heap.size w5 w7 from BW.out.grown (Grew.by_ gr7) BW.out.size fun i hi => (World.ownsRow.lt HOA.out i hi).1); clear o7 gr7)
                have hnw := HNW.out
                exact ⟨⟨(j' + 1) + 1, A7, c7, by omega, by go_num, by rw [hnw, List.length_append], by rw [hnw, List.length_append]; exact O7.out, B7.out⟩, by simp [intOf]; omega⟩
            · have k1 : (y.1.1 == x.1.1) = false := by rw [beq_eq_false_iff_ne]; exact h1
              have HNE := Lib.hid (show y.1 ≠ x.1 from fun e => h1 (by rw [e]))
              clear h1 hneed
              go_wp2_with fail
              refine wp_region_J RT [] (n := 16) (by kernel_rfl) rfl ?_
              refine batchJ RT.refl [0, 1, 2, 3, 4, 5, 6, 7, 8, 9, 10, 11, 12, 13, 14, 15] (fuel := 0) rfl (by kernel_rfl) (by kernel_rfl) (fun _ _ d _ _ h => by cases d <;> exact h) ?_
              (repeat (first | ((with_reducible apply wq0); rfl; rfl; rfl; intro K hK; go_big_quiet_op; refine hK _ ?_; clear hK K) | ((with_reducible apply wq1); rfl; rfl; rfl; rfl; rfl; rfl; intro K hK; go_big_quiet_op; refine hK _ ?_; clear hK K) | ((with_reducible apply wqs); rfl; rfl; rfl; rfl; rfl; rfl; simp only [Act.put, List.setIfInBounds_toArray, List.set_cons_zero, List.set_cons_succ]) | ((with_reducible apply wqu); rfl; rfl; rfl; rfl; rfl; (first | simp only [same, Act.put, List.setIfInBounds_toArray, List.set_cons_zero, List.set_cons_succ] | simp only [Act.put, List.setIfInBounds_toArray, List.set_cons_zero, List.set_cons_succ]))))
              refine wqIdx_load rfl rfl rfl rfl (fun W hW => load_mo_two g5 (off' + (j' + 1) * 4) y.1.1 y.1.2 W (keep_c hW q0) (keep_c hW q1)) ?_
              simp only [Act.put, List.setIfInBounds_toArray, List.set_cons_zero, List.set_cons_succ]
              (repeat (first | ((with_reducible apply wq0); rfl; rfl; rfl; intro K hK; go_big_quiet_op; refine hK _ ?_; clear hK K) | ((with_reducible apply wq1); rfl; rfl; rfl; rfl; rfl; rfl; intro K hK; go_big_quiet_op; refine hK _ ?_; clear hK K) | ((with_reducible apply wqs); rfl; rfl; rfl; rfl; rfl; rfl; simp only [Act.put, List.setIfInBounds_toArray, List.set_cons_zero, List.set_cons_succ]) | ((with_reducible apply wqu); rfl; rfl; rfl; rfl; rfl; (first | simp only [same, Act.put, List.setIfInBounds_toArray, List.set_cons_zero, List.set_cons_succ] | simp only [Act.put, List.setIfInBounds_toArray, List.set_cons_zero, List.set_cons_succ]))))
              refine wqIdx_load rfl rfl rfl rfl (fun W hW => load_mo_two g5 (off' + j' * 4) x.1.1 x.1.2 W (keep_c hW p0) (keep_c hW p1)) ?_
              simp only [Act.put, List.setIfInBounds_toArray, List.set_cons_zero, List.set_cons_succ]
              (repeat (first | ((with_reducible apply wq0); rfl; rfl; rfl; intro K hK; go_big_quiet_op; refine hK _ ?_; clear hK K) | ((with_reducible apply wq1); rfl; rfl; rfl; rfl; rfl; rfl; intro K hK; go_big_quiet_op; refine hK _ ?_; clear hK K) | ((with_reducible apply wqs); rfl; rfl; rfl; rfl; rfl; rfl; simp only [Act.put, List.setIfInBounds_toArray, List.set_cons_zero, List.set_cons_succ]) | ((with_reducible apply wqu); rfl; rfl; rfl; rfl; rfl; (first | simp only [same, Act.put, List.setIfInBounds_toArray, List.set_cons_zero, List.set_cons_succ] | simp only [Act.put, List.setIfInBounds_toArray, List.set_cons_zero, List.set_cons_succ]))))
              refine wqIdx_nil ?_
              refine wpAnyJ_done (by kernel_rfl) ?_ _
              go_wp2_with fail
              clear p0 p1
              refine (rat_any (HR2.out.below (dr_below (Below.refl _ _))) y.1).mono ?_
              rintro e w6 ⟨A6, c6, rfl, ⟨g6, s6⟩, b6, -⟩
              have b6 := (dr_below (Below.refl wr.heap.size wr)).trans b6
              rw [show (⟨4096, hs.length, hs⟩ : Rn).held = hs from rfl, FIL.out y.1] at s6 ⊢
              have hfl : (s.filter fun x => x.1 == y.1).length ≤ 200 := Nat.le_trans (List.length_filter_le ..) hgs
              have HNW := Lib.hid (sumTo_new s SRT.out (j' + 1) y HY.out (fun x0 _ hx0 he => by
                rw [show j' + 1 - 1 = j' from rfl, HX.out] at hx0
                injection hx0 with hx0
                subst hx0
                exact HNE.out he))
              have HRD := Lib.hid (SlK.reads layE s6 rfl)
              have BW := Lib.hid (HB2.out.trans (b6.mono HB2.out.size))
              have HOA := Lib.hid (own_below HO.out b6)
              have hst : (sumTo s (j' + 1)).length ≤ 200 := Nat.le_trans (List.length_filter_le ..) hgs
              clear q0 q1 s6 b6
              go_wp2_with (at_builtin; (refine wpList_appK layE (xs := sumTo s (j' + 1)) (ys := s.filter fun x => x.1 == y.1) _ rfl (.tmp 65) (.tmp 72) _ rfl Try.underlying70 info_en3 rfl HOA.out HRD.out c6 rfl rfl (by omega) (by decide) BW.out.size ?_); intro A7 c7 w7 o7 gr7; have O7 := Lib.hid o7; have B7 := Lib.hid (show Below w5.heap.size w5 w7 from BW.out.grown (Grew.by_ gr7) BW.out.size fun i hi => (World.ownsRow.lt HOA.out i hi).1); clear o7 gr7)
              have hnw := HNW.out
              exact ⟨⟨(j' + 1) + 1, A7, c7, by omega, by go_num, by rw [hnw, List.length_append], by rw [hnw, List.length_append]; exact O7.out, B7.out⟩, by simp [intOf]; omega⟩
        · obtain rfl : j = s.length := by omega
          have ho := HO.out
          rw [sumTo_all] at ho ⊢
          obtain ⟨g8, -, s8, -, -, -, -⟩ := SlK.of_own layE ho
          have PS := Lib.hid (ren_same_any A2 (A5) g8 g5 s s c2 c5 wr s8 S2.out (by omega) (by omega))
          rw [show (s == s) = true from by simp] at PS
          clear s8 ho hjl
          go_wp2_with fail
          refine PS.out.mono ?_; rintro e w8 ⟨rfl, b8⟩
          have H8 := Lib.hid (HR2.out.below b8)
          have B8 := Lib.hid (B5.out.trans ((HB2.out.trans (b8.mono HB2.out.size)).mono B5.out.size))
          clear b8
          have PL := rlen_any H8.out
          rw [show ((⟨4096, hs.length, hs⟩ : Rn).held.length : Int) = (s.length : Int) by rw [HSL.out]] at PL
          go_wp2_with fail
          refine PL.mono ?_; rintro e w' ⟨rfl, rfl⟩
          clear PL
          go_wp2_with fail
          go_ret
          exact ⟨rfl, B8.out⟩
theorem parts_any (A : Option Addr) (g : Nat) (l : List En) (c : Nat) (w : World) (hle : InE w A g l c) :
    Calls Try.prog 10 #[.slice A l.length c] w fun e w' => e = .returned (.bool true) ∧ Below w.heap.size w w' := by
  by_cases hlen : l.length ≤ 200
  · exact parts_in A g l c w hle.1 hlen
  · have P1 := Lib.hid (rnew_ok 4096 w w.heap.size (Nat.le_refl _) (by decide) (by decide))
    have d1 : decide ((l.length : Int) > 200) = true := by rw [decide_eq_true_eq]; omega
    clear hle hlen
    go_enter Try.func10, Try.ntmps10
    go_wp2_with fail
    refine P1.out.mono ?_; rintro e w1 ⟨r, rfl, -, -, b1⟩
    have B1 := Lib.hid b1
    clear b1
    go_wp2_with fail
    refine (rlives_any _).mono ?_; rintro e w2 ⟨rfl, b2⟩
    have B2 := Lib.hid (B1.out.trans (b2.mono B1.out.size))
    clear b2
    go_wp2_with fail
    refine (rlives_any _).mono ?_; rintro e w3 ⟨rfl, b3⟩
    have B3 := Lib.hid (B2.out.trans (b3.mono B2.out.size))
    clear b3
    go_wp2_with fail
    go_ret
    exact ⟨rfl, B3.out⟩
end Go.Proofs.Ytodfpdmmbmbinaa
