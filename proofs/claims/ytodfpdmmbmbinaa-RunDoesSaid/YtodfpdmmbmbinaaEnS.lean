/- Contracts of the document's entries: Sort. -/
import Derived.Test.YtodfpdmmbmbinaaEnE
namespace Go.Proofs.Ytodfpdmmbmbinaa
open Go.RowKit Go.Sort

def slNE : Value → Nat
  | .slice _ n _ => n
  | _ => 0
theorem slNE_slice (A : Option Addr) (n c : Nat) : slNE (.slice A n c) = n := rfl
theorem RowE.own {w : World} {base e n c : Nat} {A : Option Addr} {m : List En} {w' : World} (hb : Below w.heap.size w w') (ho : w'.ownsRow base e 4 (.slice A n c) n (RowV encE m)) (h0 : w.heap.size ≤ base) : RowE w m A c w' := by
  obtain ⟨g, h1, h2, h3, -, h4, h5⟩ := SlK.of_own layE ho
  refine ⟨⟨g, h2⟩, hb, fun hne => ?_⟩
  have hpos : 0 < n := by rw [h3]; exact List.length_pos_iff.2 hne
  obtain ⟨g', cap, hv, hg, -⟩ := ho.form hpos
  injection hv with hv1 hv2 hv3
  exact ⟨g', hv1, Nat.le_trans h0 hg, by omega, h5⟩
theorem leE_def (x y : En) : leE x y = decide (cmpE x y ≤ 0) := rfl
theorem load_en_four (h off : Nat) (a b c d : Int) (w : World) (h0 : w.cell? ⟨h, off, none⟩ = some (.int .i64 a)) (h1 : w.cell? ⟨h, off + 1, none⟩ = some (.int .i64 b)) (h2 : w.cell? ⟨h, off + 2, none⟩ = some (.int .i64 c)) (h3 : w.cell? ⟨h, off + 3, none⟩ = some (.int .i64 d)) : (Instr.loadAt 65 (.pointer (some ⟨h, off, none⟩))).run Try.prog w = .ok (.agg #[.int .i64 a, .int .i64 b, .int .i64 c, .int .i64 d]) w := by
  go_simp
theorem SlK.head4 {w : World} {h : Nat} {A : Option Addr} {a b c d : Int} {t : List En} (s : SlK encE w h A (((a, b), (c, d)) :: t)) : ∃ off, A = some ⟨h, off, none⟩ ∧ w.cell? ⟨h, off, none⟩ = some (.int .i64 a) ∧ w.cell? ⟨h, off + 1, none⟩ = some (.int .i64 b) ∧ w.cell? ⟨h, off + 2, none⟩ = some (.int .i64 c) ∧ w.cell? ⟨h, off + 3, none⟩ = some (.int .i64 d) := by
  obtain ⟨-, off, e, hc⟩ := s.at_ layE (j := 0) rfl
  rw [Nat.zero_mul, Nat.add_zero] at hc
  exact ⟨off, e, hc 0 _ rfl, hc 1 _ rfl, hc 2 _ rfl, hc 3 _ rfl⟩
theorem SlK.tail4 {w : World} {h off : Nat} {x : En} {t : List En} (s : SlK encE w h (some ⟨h, off, none⟩) (x :: t)) : SlK encE w h (some ⟨h, off + 4, none⟩) t := fun hl => by
  have := s.drop layE (k := 1) (cap := t.length + 2) (by simp) hl
  rw [if_neg (by omega)] at this
  obtain ⟨h1, off', e, h2⟩ := this
  have e2 : some ((⟨h, off, none⟩ : Addr).add (1 * 4)) = some ⟨h, off', none⟩ := e
  rw [Addr.add_lit] at e2
  injection e2 with e2
  injection e2 with _ e2
  exact ⟨h1, off', by rw [← e2], h2⟩
theorem grown_of_drewE {w w' : World} {row : Option Nat} (h : w.drew.grownBy w' row) : w.grownBy w' row := ⟨h.os, h.tape, h.output, h.size, h.block⟩
def halfIE (n : Nat) : Int := ((n / 2 : Nat) : Int)
set_option maxRecDepth 100000 in
set_option maxHeartbeats 1000000 in
theorem ren_sort_small (A : Option Addr) (h : Nat) (l : List En) (c : Nat) (w : World) (hl : SlK encE w h A l) (hn : l.length < 2) :
    Calls Try.prog 38 #[.slice A l.length c] w fun e w' => ∃ A' c', e = .returned (.slice A' (srtE l).length c') ∧ RowE w (srtE l) A' c' w' := by
  rw [srtE_short hn]
  have HL := Lib.hid hl
  have d1 : decide ((l.length : Int) < 2) = true := by simp; omega
  clear hl
  have HB := Lib.hid (alloc_below w (.cells #[] 65))
  have HR := Lib.hid ((HL.out.below HB.out).reads layE rfl)
  have HO := Lib.hid (own_empty_k layE w 65)
  have HS := Lib.hid (show w.heap.size ≤ (w.alloc (.cells #[] 65)).heap.size from HB.out.size)
  go_enter Try.func38, Try.ntmps38
  go_wp2_with (at_builtin; (refine wpList_appK layE (xs := []) (ys := l) _ rfl (.tmp 9) (.tmp 10) _ rfl Try.underlying70 info_en3 rfl HO.out HR.out c rfl rfl (by omega) (by decide) HS.out ?_); intro A5 c5 w5 o5 gr5; have O5 := Lib.hid o5; have G5 := Lib.hid gr5; clear o5 gr5)
  go_ret
  refine ⟨A5, c5, rfl, ?_⟩
  have o5 := O5.out
  rw [Nat.zero_add] at o5
  exact RowE.own (HB.out.grown (Grew.by_ G5.out) HS.out fun i hi => (World.ownsRow.lt HO.out i hi).1) o5 (Nat.le_refl _)
set_option maxRecDepth 100000 in
set_option maxHeartbeats 4000000 in
theorem ren_sort_step (A : Option Addr) (h : Nat) (l : List En) (c : Nat) (w : World) (hl : SlK encE w h A l) (hn : 2 ≤ l.length) (hc : l.length ≤ c) (hc2 : l.length ≤ 10000) (hc3 : c ≤ maxLen)
    (IH : ∀ (A : Option Addr) (h : Nat) (m : List En) (c : Nat) (w : World), m.length < l.length → SlK encE w h A m → m.length ≤ c → c ≤ maxLen →
      Calls Try.prog 38 #[.slice A m.length c] w fun e w' => ∃ A' c', e = .returned (.slice A' (srtE m).length c') ∧ RowE w (srtE m) A' c' w') :
    Calls Try.prog 38 #[.slice A l.length c] w fun e w' => ∃ A' c', e = .returned (.slice A' (srtE l).length c') ∧ RowE w (srtE l) A' c' w' := by
  have d1 : decide ((l.length : Int) < 2) = false := by simp; omega
  have PA := Lib.hid (fun W (b : Below w.heap.size w W) => IH A h (l.take (l.length / 2)) c W (by rw [List.length_take]; omega) ((hl.below b).take layE _) (by rw [List.length_take]; omega) hc3)
  have PB := Lib.hid (fun W (b : Below w.heap.size w W) => IH _ h (l.drop (l.length / 2)) (c - l.length / 2) W (by rw [List.length_drop]; omega) ((hl.below b).drop layE (k := l.length / 2) hc) (by rw [List.length_drop]; omega) (by omega))
  have hne : ¬ c = l.length / 2 := by omega
  rw [if_neg hne] at PB
  rw [List.length_take, Nat.min_eq_left (by omega)] at PA
  rw [List.length_drop] at PB
  clear hl IH
  go_enter Try.func38, Try.ntmps38
  go_wp2_with fail
  refine wp_region_R (R := RB) (n := 14) (by kernel_rfl) rfl ?_
  refine batchB [0, 1, 2, 3, 4, 6, 7, 8, 9, 10] (fuel := 4) rfl (by kernel_rfl) (by kernel_rfl) (fun _ _ d _ _ h => by cases d <;> exact h) ?_
  repeat (first | ((with_reducible apply wq0); rfl; rfl; rfl; intro K hK; go_big_quiet_op; refine hK _ ?_; clear hK K) | ((with_reducible apply wq1); rfl; rfl; rfl; rfl; rfl; rfl; intro K hK; go_big_quiet_op; refine hK _ ?_; clear hK K) | ((with_reducible apply wqs); rfl; rfl; rfl; rfl; rfl; rfl; simp only [Act.put, List.setIfInBounds_toArray, List.set_cons_zero, List.set_cons_succ]) | ((with_reducible apply wqu); rfl; rfl; rfl; rfl; rfl; simp only [same]) | ((with_reducible apply wqu); rfl; rfl; rfl; rfl; rfl; simp only [Act.put, List.setIfInBounds_toArray, List.set_cons_zero, List.set_cons_succ]))
  refine wqIdx_nil ?_
  refine wpAnyR_sole (i := 5) rfl (by kernel_rfl) (fun K hK => ?_)
  go_simp
  refine (PA.out _ (Below.of_drew0 (Below.refl _ _))).mono ?_; rintro e w1 ⟨A1, c1, rfl, hs1⟩
  refine hK _ _ hs1.2.1 ?_
  have H1 := Lib.hid hs1
  have B1 := Lib.hid (Below.of_drew0 hs1.2.1)
  clear hs1
  clear hK K
  refine wpAnyR_sole (i := 11) rfl (by kernel_rfl) (fun K hK => ?_)
  go_simp
  refine (PB.out _ B1.out).mono ?_; rintro e w2 ⟨A2, c2, rfl, hs2⟩
  refine hK _ _ hs2.2.1 ?_
  have H2 := Lib.hid hs2
  have B2 := Lib.hid (below_trans B1.out hs2.2.1)
  clear hs2
  clear hK K
  refine batchB [12, 13] (fuel := 0) rfl (by kernel_rfl) (by kernel_rfl) (fun _ _ d _ _ h => by cases d <;> exact h) ?_
  repeat (first | ((with_reducible apply wq0); rfl; rfl; rfl; intro K hK; go_big_quiet_op; refine hK _ ?_; clear hK K) | ((with_reducible apply wq1); rfl; rfl; rfl; rfl; rfl; rfl; intro K hK; go_big_quiet_op; refine hK _ ?_; clear hK K) | ((with_reducible apply wqs); rfl; rfl; rfl; rfl; rfl; rfl; simp only [Act.put, List.setIfInBounds_toArray, List.set_cons_zero, List.set_cons_succ]) | ((with_reducible apply wqu); rfl; rfl; rfl; rfl; rfl; simp only [same]) | ((with_reducible apply wqu); rfl; rfl; rfl; rfl; rfl; simp only [Act.put, List.setIfInBounds_toArray, List.set_cons_zero, List.set_cons_succ]))
  refine wqIdx_nil ?_
  refine wpAnyR_done (by kernel_rfl) ?_ _
  obtain ⟨⟨g1, s1⟩, -, k1⟩ := H1.out
  obtain ⟨⟨g2, s2⟩, b12, k2⟩ := H2.out
  have S1 := Lib.hid (s1.below b12)
  have S2 := Lib.hid s2
  have C1 : (srtE (l.take (l.length / 2))).length ≤ c1 := by
    by_cases e : srtE (l.take (l.length / 2)) = []
    · rw [e]; exact Nat.zero_le _
    · obtain ⟨_, _, _, h, _⟩ := k1 e; exact h
  have C2 : (srtE (l.drop (l.length / 2))).length ≤ c2 := by
    by_cases e : srtE (l.drop (l.length / 2)) = []
    · rw [e]; exact Nat.zero_le _
    · obtain ⟨_, _, _, h, _⟩ := k2 e; exact h
  have hm : (srtE (l.take (l.length / 2))).merge (srtE (l.drop (l.length / 2))) leE = srtE l := by rw [merge_srtE, List.take_append_drop]
  have hlen : (srtE (l.take (l.length / 2))).length + (srtE (l.drop (l.length / 2))).length = l.length := by
    rw [srtE_length, srtE_length, List.length_take, List.length_drop]; omega
  obtain ⟨S, hS⟩ : ∃ S, srtE l = S := ⟨_, rfl⟩
  rw [hS] at hm
  have HSE := Lib.hid hS
  generalize srtE (l.take (l.length / 2)) = a at S1 C1 hm hlen
  generalize srtE (l.drop (l.length / 2)) = b at S2 C2 hm hlen
  have HM := Lib.hid hm
  clear s1 s2 b12 k1 k2 hm hS H1 H2 PA PB hne B1
  go_wp2_with fail
  go_loopw [3, 4, 5] (fun va vb vo wr => ∃ (x y o : List En) (A1 A2 A3 : Option Addr) (c1 c2 c3 : Nat), va = .slice A1 x.length c1 ∧ vb = .slice A2 y.length c2 ∧ vo = .slice A3 o.length c3 ∧ SlK encE w2 g1 A1 x ∧ SlK encE w2 g2 A2 y ∧ x.length ≤ c1 ∧ y.length ≤ c2 ∧ o.length + x.length + y.length = l.length ∧ wr.ownsRow w2.heap.size 65 4 vo o.length (RowV encE o) ∧ o ++ x.merge y leE = S ∧ Below w2.heap.size w2 wr) (fun va vb _ _ => slNE va + slNE vb)
  case atStart => exact ⟨a, b, [], _, _, none, _, _, 0, rfl, rfl, rfl, S1.out, S2.out, C1, C2, by simpa using hlen, own_nil_k layE _ _ _, by simpa using HM.out, Below.refl _ _⟩
  case round =>
    obtain ⟨x, y, o, A1, A2, A3, c1, c2, c3, rfl, rfl, rfl, hsx, hsy, hcx, hcy, hsum, ho, hmg, hb⟩ := hrel
    have HX := Lib.hid hsx
    have HY := Lib.hid hsy
    have HO := Lib.hid ho
    have HG := Lib.hid hmg
    have HB := Lib.hid hb
    clear hsx hsy ho hmg hb
    cases x with
    | nil =>
      cases y with
      | nil =>
        have hoS : o = S := by have := HG.out; simpa using this
        subst hoS
        go_wp2
        go_ret
        rw [HSE.out]
        exact ⟨A3, c3, rfl, RowE.own (below_trans B2.out HB.out) HO.out (by have := B2.out.size; omega)⟩
      | cons y0 y =>
        obtain ⟨⟨y1, y2⟩, y3, y4⟩ := y0
        have HG2 := Lib.hid (show (o ++ [((y1, y2), (y3, y4))]) ++ ([] : List En).merge y leE = S by rw [← HG.out]; simp)
        obtain ⟨off, eA, q0, q1, q2, q3⟩ := (HY.out.below HB.out).head4
        subst eA
        have HT := Lib.hid HY.out.tail4
        simp only [List.length_cons, List.length_nil] at hsum hcx hcy ⊢
        have d2 : decide ((0 : Int) < (y.length : Int) + 1) = true := by rw [decide_eq_true_eq]; omega
        have d3 : (((y.length : Int) + 1) == 0) = false := by rw [beq_eq_false_iff_ne]; omega
        go_wp2_with fail
        refine wp_region_R (R := RB) (n := 18) (by kernel_rfl) rfl ?_
        refine batchB [0, 1, 2, 3, 4, 5, 6, 7, 8, 9, 10, 11, 12, 13, 14, 15, 16, 17] (fuel := 0) rfl (by kernel_rfl) (by kernel_rfl) (fun _ _ d _ _ h => by cases d <;> exact h) ?_
        repeat (first | ((with_reducible apply wq0); rfl; rfl; rfl; intro K hK; go_big_quiet_op; refine hK _ ?_; clear hK K) | ((with_reducible apply wq1); rfl; rfl; rfl; rfl; rfl; rfl; intro K hK; go_big_quiet_op; refine hK _ ?_; clear hK K) | ((with_reducible apply wqs); rfl; rfl; rfl; rfl; rfl; rfl; simp only [Act.put, List.setIfInBounds_toArray, List.set_cons_zero, List.set_cons_succ]) | ((with_reducible apply wqu); rfl; rfl; rfl; rfl; rfl; simp only [same]) | ((with_reducible apply wqu); rfl; rfl; rfl; rfl; rfl; simp only [Act.put, List.setIfInBounds_toArray, List.set_cons_zero, List.set_cons_succ]))
        refine wqIdx_nil ?_
        refine wpAnyR_done (by kernel_rfl) ?_ _
        have HOX := Lib.hid (World.ownsRow.alloc (own_below HO.out (Below.refl _ _)) (.cells #[.int .i64 y1, .int .i64 y2, .int .i64 y3, .int .i64 y4] 65))
        have HRX := Lib.hid (reads_oneK layE wr ((y1, y2), (y3, y4)) 65)
        have hsx : w2.heap.size ≤ (wr.alloc (.cells #[.int .i64 y1, .int .i64 y2, .int .i64 y3, .int .i64 y4] 65)).heap.size := by have h1 := (HB.out).size; rw [World.size_alloc]; omega
        have HSX := Lib.hid hsx
        have BXA := Lib.hid ((HB.out).alloc (by have h1 := (HB.out).size; omega) (.cells #[.int .i64 y1, .int .i64 y2, .int .i64 y3, .int .i64 y4] 65))
        clear hsx
        by_cases hcc : c2 = 1
        · subst hcc
          go_wp2_with (at_builtin; (refine wpList_appK layE (ys := [((y1, y2), (y3, y4))]) _ rfl (.tmp 58) (.tmp 62) _ rfl Try.underlying70 info_en3 rfl HOX.out HRX.out 1 rfl rfl (by omega) (by decide) HSX.out ?_); intro A5 c5 w5 o5 gr5; have O5 := Lib.hid o5; have G5 := Lib.hid gr5; clear o5 gr5)
          have B5 := Lib.hid (BXA.out.grown (grown_of_drewE (Grew.by_ G5.out)) HSX.out fun i hi => (World.ownsRow.lt HOX.out i hi).1)
          have hn0 : y.length = 0 := by omega
          have e0 := List.eq_nil_of_length_eq_zero hn0
          subst e0
          refine ⟨⟨[], [], o ++ [((y1, y2), (y3, y4))], _, _, _, _, _, _, rfl, rfl, by rw [List.length_append]; rfl, HX.out, SlK.nil _ _ _, hcx, Nat.zero_le _, ?_, ?_, ?_, B5.out⟩, ?_⟩
          · rw [List.length_append]; simp at hsum ⊢; omega
          · rw [List.length_append]; exact O5.out
          · exact HG2.out
          · simp [slNE]
        · go_wp2_with (at_builtin; (refine wpList_appK layE (ys := [((y1, y2), (y3, y4))]) _ rfl (.tmp 58) (.tmp 62) _ rfl Try.underlying70 info_en3 rfl HOX.out HRX.out 1 rfl rfl (by omega) (by decide) HSX.out ?_); intro A5 c5 w5 o5 gr5; have O5 := Lib.hid o5; have G5 := Lib.hid gr5; clear o5 gr5)
          have B5 := Lib.hid (BXA.out.grown (grown_of_drewE (Grew.by_ G5.out)) HSX.out fun i hi => (World.ownsRow.lt HOX.out i hi).1)
          refine ⟨⟨[], y, o ++ [((y1, y2), (y3, y4))], _, _, _, _, _, _, rfl, rfl, by rw [List.length_append]; rfl, HX.out, HT.out, hcx, by omega, ?_, ?_, ?_, B5.out⟩, ?_⟩
          · rw [List.length_append]; simp at hsum ⊢; omega
          · rw [List.length_append]; exact O5.out
          · exact HG2.out
          · simp [slNE]
    | cons x0 x =>
      obtain ⟨⟨x1, x2⟩, x3, x4⟩ := x0
      cases y with
      | nil =>
        have HG2 := Lib.hid (show (o ++ [((x1, x2), (x3, x4))]) ++ x.merge [] leE = S by rw [← HG.out]; simp)
        obtain ⟨off, eA, q0, q1, q2, q3⟩ := (HX.out.below HB.out).head4
        subst eA
        have HT := Lib.hid HX.out.tail4
        simp only [List.length_cons, List.length_nil] at hsum hcx hcy ⊢
        have d2 : decide ((0 : Int) < (x.length : Int) + 1) = true := by rw [decide_eq_true_eq]; omega
        go_wp2_with fail
        refine wp_region_R (R := RB) (n := 18) (by kernel_rfl) rfl ?_
        refine batchB [0, 1, 2, 3, 4, 5, 6, 7, 8, 9, 10, 11, 12, 13, 14, 15, 16, 17] (fuel := 0) rfl (by kernel_rfl) (by kernel_rfl) (fun _ _ d _ _ h => by cases d <;> exact h) ?_
        repeat (first | ((with_reducible apply wq0); rfl; rfl; rfl; intro K hK; go_big_quiet_op; refine hK _ ?_; clear hK K) | ((with_reducible apply wq1); rfl; rfl; rfl; rfl; rfl; rfl; intro K hK; go_big_quiet_op; refine hK _ ?_; clear hK K) | ((with_reducible apply wqs); rfl; rfl; rfl; rfl; rfl; rfl; simp only [Act.put, List.setIfInBounds_toArray, List.set_cons_zero, List.set_cons_succ]) | ((with_reducible apply wqu); rfl; rfl; rfl; rfl; rfl; simp only [same]) | ((with_reducible apply wqu); rfl; rfl; rfl; rfl; rfl; simp only [Act.put, List.setIfInBounds_toArray, List.set_cons_zero, List.set_cons_succ]))
        refine wqIdx_nil ?_
        refine wpAnyR_done (by kernel_rfl) ?_ _
        have HOX := Lib.hid (World.ownsRow.alloc (own_below HO.out (Below.refl _ _)) (.cells #[.int .i64 x1, .int .i64 x2, .int .i64 x3, .int .i64 x4] 65))
        have HRX := Lib.hid (reads_oneK layE wr ((x1, x2), (x3, x4)) 65)
        have hsx : w2.heap.size ≤ (wr.alloc (.cells #[.int .i64 x1, .int .i64 x2, .int .i64 x3, .int .i64 x4] 65)).heap.size := by have h1 := (HB.out).size; rw [World.size_alloc]; omega
        have HSX := Lib.hid hsx
        have BXA := Lib.hid ((HB.out).alloc (by have h1 := (HB.out).size; omega) (.cells #[.int .i64 x1, .int .i64 x2, .int .i64 x3, .int .i64 x4] 65))
        clear hsx
        by_cases hcc : c1 = 1
        · subst hcc
          go_wp2_with (at_builtin; (refine wpList_appK layE (ys := [((x1, x2), (x3, x4))]) _ rfl (.tmp 50) (.tmp 54) _ rfl Try.underlying70 info_en3 rfl HOX.out HRX.out 1 rfl rfl (by omega) (by decide) HSX.out ?_); intro A5 c5 w5 o5 gr5; have O5 := Lib.hid o5; have G5 := Lib.hid gr5; clear o5 gr5)
          have B5 := Lib.hid (BXA.out.grown (grown_of_drewE (Grew.by_ G5.out)) HSX.out fun i hi => (World.ownsRow.lt HOX.out i hi).1)
          have hn0 : x.length = 0 := by omega
          have e0 := List.eq_nil_of_length_eq_zero hn0
          subst e0
          refine ⟨⟨[], [], o ++ [((x1, x2), (x3, x4))], _, _, _, _, _, _, rfl, rfl, by rw [List.length_append]; rfl, SlK.nil _ _ _, HY.out, Nat.zero_le _, hcy, ?_, ?_, ?_, B5.out⟩, ?_⟩
          · rw [List.length_append]; simp at hsum ⊢; omega
          · rw [List.length_append]; exact O5.out
          · exact HG2.out
          · simp [slNE]
        · go_wp2_with (at_builtin; (refine wpList_appK layE (ys := [((x1, x2), (x3, x4))]) _ rfl (.tmp 50) (.tmp 54) _ rfl Try.underlying70 info_en3 rfl HOX.out HRX.out 1 rfl rfl (by omega) (by decide) HSX.out ?_); intro A5 c5 w5 o5 gr5; have O5 := Lib.hid o5; have G5 := Lib.hid gr5; clear o5 gr5)
          have B5 := Lib.hid (BXA.out.grown (grown_of_drewE (Grew.by_ G5.out)) HSX.out fun i hi => (World.ownsRow.lt HOX.out i hi).1)
          refine ⟨⟨x, [], o ++ [((x1, x2), (x3, x4))], _, _, _, _, _, _, rfl, rfl, by rw [List.length_append]; rfl, HT.out, HY.out, by omega, hcy, ?_, ?_, ?_, B5.out⟩, ?_⟩
          · rw [List.length_append]; simp at hsum ⊢; omega
          · rw [List.length_append]; exact O5.out
          · exact HG2.out
          · simp [slNE]
      | cons y0 y =>
        obtain ⟨⟨y1, y2⟩, y3, y4⟩ := y0
        have hmc := List.cons_merge_cons leE ((x1, x2), (x3, x4)) ((y1, y2), (y3, y4)) x y
        rw [leE_def] at hmc
        have hg := HG.out
        rw [hmc] at hg
        have PC := Lib.hid (fun W => ren_compare_any ((x1, x2), (x3, x4)) ((y1, y2), (y3, y4)) W)
        obtain ⟨offa, eA, p0, p1, p2, p3⟩ := (HX.out.below HB.out).head4
        obtain ⟨offb, eB, q0, q1, q2, q3⟩ := (HY.out.below HB.out).head4
        subst eA eB
        simp only [List.length_cons] at hsum hcx hcy ⊢
        have d2 : decide ((0 : Int) < (x.length : Int) + 1) = true := by rw [decide_eq_true_eq]; omega
        have d3 : (((y.length : Int) + 1) == 0) = false := by rw [beq_eq_false_iff_ne]; omega
        clear hmc HG
        generalize cmpE ((x1, x2), (x3, x4)) ((y1, y2), (y3, y4)) = z at PC hg
        by_cases hz : z ≤ 0
        · have d4 : decide (z ≤ 0) = true := by simpa using hz
          rw [d4, if_pos rfl] at hg
          have HG2 := Lib.hid (show (o ++ [((x1, x2), (x3, x4))]) ++ x.merge (((y1, y2), (y3, y4)) :: y) leE = S by rw [← hg]; simp)
          have HT := Lib.hid HX.out.tail4
          clear hg hz
          go_wp2_with fail
          refine wp_region_R (R := RB) (n := 18) (by kernel_rfl) rfl ?_
          refine batchB [0, 1, 2, 3, 4, 5, 6, 7, 8, 9, 10, 11, 12, 13] (fuel := 4) rfl (by kernel_rfl) (by kernel_rfl) (fun _ _ d _ _ h => by cases d <;> exact h) ?_
          repeat (first | ((with_reducible apply wq0); rfl; rfl; rfl; intro K hK; go_big_quiet_op; refine hK _ ?_; clear hK K) | ((with_reducible apply wq1); rfl; rfl; rfl; rfl; rfl; rfl; intro K hK; go_big_quiet_op; refine hK _ ?_; clear hK K) | ((with_reducible apply wqs); rfl; rfl; rfl; rfl; rfl; rfl; simp only [Act.put, List.setIfInBounds_toArray, List.set_cons_zero, List.set_cons_succ]) | ((with_reducible apply wqu); rfl; rfl; rfl; rfl; rfl; simp only [same]) | ((with_reducible apply wqu); rfl; rfl; rfl; rfl; rfl; simp only [Act.put, List.setIfInBounds_toArray, List.set_cons_zero, List.set_cons_succ]))
          refine wqIdx_load rfl rfl rfl rfl (fun W hW => load_en_four _ _ x1 x2 x3 x4 W (keep_cell hW p0) (keep_cell hW p1) (keep_cell hW p2) (keep_cell hW p3)) ?_
          simp only [Act.put, List.setIfInBounds_toArray, List.set_cons_zero, List.set_cons_succ]
          repeat (first | ((with_reducible apply wq0); rfl; rfl; rfl; intro K hK; go_big_quiet_op; refine hK _ ?_; clear hK K) | ((with_reducible apply wq1); rfl; rfl; rfl; rfl; rfl; rfl; intro K hK; go_big_quiet_op; refine hK _ ?_; clear hK K) | ((with_reducible apply wqs); rfl; rfl; rfl; rfl; rfl; rfl; simp only [Act.put, List.setIfInBounds_toArray, List.set_cons_zero, List.set_cons_succ]) | ((with_reducible apply wqu); rfl; rfl; rfl; rfl; rfl; simp only [same]) | ((with_reducible apply wqu); rfl; rfl; rfl; rfl; rfl; simp only [Act.put, List.setIfInBounds_toArray, List.set_cons_zero, List.set_cons_succ]))
          refine wqIdx_load rfl rfl rfl rfl (fun W hW => load_en_four _ _ y1 y2 y3 y4 W (keep_cell hW q0) (keep_cell hW q1) (keep_cell hW q2) (keep_cell hW q3)) ?_
          simp only [Act.put, List.setIfInBounds_toArray, List.set_cons_zero, List.set_cons_succ]
          repeat (first | ((with_reducible apply wq0); rfl; rfl; rfl; intro K hK; go_big_quiet_op; refine hK _ ?_; clear hK K) | ((with_reducible apply wq1); rfl; rfl; rfl; rfl; rfl; rfl; intro K hK; go_big_quiet_op; refine hK _ ?_; clear hK K) | ((with_reducible apply wqs); rfl; rfl; rfl; rfl; rfl; rfl; simp only [Act.put, List.setIfInBounds_toArray, List.set_cons_zero, List.set_cons_succ]) | ((with_reducible apply wqu); rfl; rfl; rfl; rfl; rfl; simp only [same]) | ((with_reducible apply wqu); rfl; rfl; rfl; rfl; rfl; simp only [Act.put, List.setIfInBounds_toArray, List.set_cons_zero, List.set_cons_succ]))
          refine wqIdx_nil ?_
          refine wpAnyR_sole (i := 14) rfl (by kernel_rfl) (fun K hK => ?_)
          go_simp
          refine (PC.out _).mono ?_; rintro e w4 ⟨rfl, b4⟩
          refine hK _ _ b4 ?_
          have HR4 := Lib.hid (Below.of_drew0 b4)
          have HW4 := Lib.hid (below_trans HB.out (Below.of_drew0 b4))
          clear b4
          clear hK K
          refine batchB [15, 16, 17] (fuel := 0) rfl (by kernel_rfl) (by kernel_rfl) (fun _ _ d _ _ h => by cases d <;> exact h) ?_
          repeat (first | ((with_reducible apply wq0); rfl; rfl; rfl; intro K hK; go_big_quiet_op; refine hK _ ?_; clear hK K) | ((with_reducible apply wq1); rfl; rfl; rfl; rfl; rfl; rfl; intro K hK; go_big_quiet_op; refine hK _ ?_; clear hK K) | ((with_reducible apply wqs); rfl; rfl; rfl; rfl; rfl; rfl; simp only [Act.put, List.setIfInBounds_toArray, List.set_cons_zero, List.set_cons_succ]) | ((with_reducible apply wqu); rfl; rfl; rfl; rfl; rfl; simp only [same]) | ((with_reducible apply wqu); rfl; rfl; rfl; rfl; rfl; simp only [Act.put, List.setIfInBounds_toArray, List.set_cons_zero, List.set_cons_succ]))
          refine wqIdx_nil ?_
          refine wpAnyR_done (by kernel_rfl) ?_ _
          clear p0 p1 p2 p3 q0 q1 q2 q3
          obtain ⟨offc, eC, q0, q1, q2, q3⟩ := (HX.out.below HW4.out).head4
          injection eC with eC
          injection eC with _ eC
          subst eC
          have HOX := Lib.hid (World.ownsRow.alloc (own_below HO.out HR4.out) (.cells #[.int .i64 x1, .int .i64 x2, .int .i64 x3, .int .i64 x4] 65))
          have HRX := Lib.hid (reads_oneK layE w4 ((x1, x2), (x3, x4)) 65)
          have hsx : w2.heap.size ≤ (w4.alloc (.cells #[.int .i64 x1, .int .i64 x2, .int .i64 x3, .int .i64 x4] 65)).heap.size := by have h1 := (HW4.out).size; rw [World.size_alloc]; omega
          have HSX := Lib.hid hsx
          have BXA := Lib.hid ((HW4.out).alloc (by have h1 := (HW4.out).size; omega) (.cells #[.int .i64 x1, .int .i64 x2, .int .i64 x3, .int .i64 x4] 65))
          clear hsx
          by_cases hcc : c1 = 1
          · subst hcc
            go_wp2_with (at_builtin; (refine wpList_appK layE (ys := [((x1, x2), (x3, x4))]) _ rfl (.tmp 50) (.tmp 54) _ rfl Try.underlying70 info_en3 rfl HOX.out HRX.out 1 rfl rfl (by omega) (by decide) HSX.out ?_); intro A5 c5 w5 o5 gr5; have O5 := Lib.hid o5; have G5 := Lib.hid gr5; clear o5 gr5)
            have B5 := Lib.hid (BXA.out.grown (Grew.by_ G5.out) HSX.out fun i hi => (World.ownsRow.lt HOX.out i hi).1)
            have hn0 : x.length = 0 := by omega
            have e0 := List.eq_nil_of_length_eq_zero hn0
            subst e0
            refine ⟨⟨[], ((y1, y2), (y3, y4)) :: y, o ++ [((x1, x2), (x3, x4))], _, _, _, _, _, _, rfl, rfl, by rw [List.length_append]; rfl, SlK.nil _ _ _, HY.out, Nat.zero_le _, hcy, ?_, ?_, ?_, B5.out⟩, ?_⟩
            · rw [List.length_append]; simp at hsum ⊢; omega
            · rw [List.length_append]; exact O5.out
            · exact HG2.out
            · simp [slNE]
          · go_wp2_with (at_builtin; (refine wpList_appK layE (ys := [((x1, x2), (x3, x4))]) _ rfl (.tmp 50) (.tmp 54) _ rfl Try.underlying70 info_en3 rfl HOX.out HRX.out 1 rfl rfl (by omega) (by decide) HSX.out ?_); intro A5 c5 w5 o5 gr5; have O5 := Lib.hid o5; have G5 := Lib.hid gr5; clear o5 gr5)
            have B5 := Lib.hid (BXA.out.grown (Grew.by_ G5.out) HSX.out fun i hi => (World.ownsRow.lt HOX.out i hi).1)
            refine ⟨⟨x, ((y1, y2), (y3, y4)) :: y, o ++ [((x1, x2), (x3, x4))], _, _, _, _, _, _, rfl, rfl, by rw [List.length_append]; rfl, HT.out, HY.out, by omega, hcy, ?_, ?_, ?_, B5.out⟩, ?_⟩
            · rw [List.length_append]; simp at hsum ⊢; omega
            · rw [List.length_append]; exact O5.out
            · exact HG2.out
            · simp [slNE]
        · have d4 : decide (z ≤ 0) = false := by simpa using hz
          rw [d4, if_neg (by decide)] at hg
          have HG2 := Lib.hid (show (o ++ [((y1, y2), (y3, y4))]) ++ (((x1, x2), (x3, x4)) :: x).merge y leE = S by rw [← hg]; simp)
          have HT := Lib.hid HY.out.tail4
          clear hg hz
          go_wp2_with fail
          refine wp_region_R (R := RB) (n := 18) (by kernel_rfl) rfl ?_
          refine batchB [0, 1, 2, 3, 4, 5, 6, 7, 8, 9, 10, 11, 12, 13] (fuel := 4) rfl (by kernel_rfl) (by kernel_rfl) (fun _ _ d _ _ h => by cases d <;> exact h) ?_
          repeat (first | ((with_reducible apply wq0); rfl; rfl; rfl; intro K hK; go_big_quiet_op; refine hK _ ?_; clear hK K) | ((with_reducible apply wq1); rfl; rfl; rfl; rfl; rfl; rfl; intro K hK; go_big_quiet_op; refine hK _ ?_; clear hK K) | ((with_reducible apply wqs); rfl; rfl; rfl; rfl; rfl; rfl; simp only [Act.put, List.setIfInBounds_toArray, List.set_cons_zero, List.set_cons_succ]) | ((with_reducible apply wqu); rfl; rfl; rfl; rfl; rfl; simp only [same]) | ((with_reducible apply wqu); rfl; rfl; rfl; rfl; rfl; simp only [Act.put, List.setIfInBounds_toArray, List.set_cons_zero, List.set_cons_succ]))
          refine wqIdx_load rfl rfl rfl rfl (fun W hW => load_en_four _ _ x1 x2 x3 x4 W (keep_cell hW p0) (keep_cell hW p1) (keep_cell hW p2) (keep_cell hW p3)) ?_
          simp only [Act.put, List.setIfInBounds_toArray, List.set_cons_zero, List.set_cons_succ]
          repeat (first | ((with_reducible apply wq0); rfl; rfl; rfl; intro K hK; go_big_quiet_op; refine hK _ ?_; clear hK K) | ((with_reducible apply wq1); rfl; rfl; rfl; rfl; rfl; rfl; intro K hK; go_big_quiet_op; refine hK _ ?_; clear hK K) | ((with_reducible apply wqs); rfl; rfl; rfl; rfl; rfl; rfl; simp only [Act.put, List.setIfInBounds_toArray, List.set_cons_zero, List.set_cons_succ]) | ((with_reducible apply wqu); rfl; rfl; rfl; rfl; rfl; simp only [same]) | ((with_reducible apply wqu); rfl; rfl; rfl; rfl; rfl; simp only [Act.put, List.setIfInBounds_toArray, List.set_cons_zero, List.set_cons_succ]))
          refine wqIdx_load rfl rfl rfl rfl (fun W hW => load_en_four _ _ y1 y2 y3 y4 W (keep_cell hW q0) (keep_cell hW q1) (keep_cell hW q2) (keep_cell hW q3)) ?_
          simp only [Act.put, List.setIfInBounds_toArray, List.set_cons_zero, List.set_cons_succ]
          repeat (first | ((with_reducible apply wq0); rfl; rfl; rfl; intro K hK; go_big_quiet_op; refine hK _ ?_; clear hK K) | ((with_reducible apply wq1); rfl; rfl; rfl; rfl; rfl; rfl; intro K hK; go_big_quiet_op; refine hK _ ?_; clear hK K) | ((with_reducible apply wqs); rfl; rfl; rfl; rfl; rfl; rfl; simp only [Act.put, List.setIfInBounds_toArray, List.set_cons_zero, List.set_cons_succ]) | ((with_reducible apply wqu); rfl; rfl; rfl; rfl; rfl; simp only [same]) | ((with_reducible apply wqu); rfl; rfl; rfl; rfl; rfl; simp only [Act.put, List.setIfInBounds_toArray, List.set_cons_zero, List.set_cons_succ]))
          refine wqIdx_nil ?_
          refine wpAnyR_sole (i := 14) rfl (by kernel_rfl) (fun K hK => ?_)
          go_simp
          refine (PC.out _).mono ?_; rintro e w4 ⟨rfl, b4⟩
          refine hK _ _ b4 ?_
          have HR4 := Lib.hid (Below.of_drew0 b4)
          have HW4 := Lib.hid (below_trans HB.out (Below.of_drew0 b4))
          clear b4
          clear hK K
          refine batchB [15, 16, 17] (fuel := 0) rfl (by kernel_rfl) (by kernel_rfl) (fun _ _ d _ _ h => by cases d <;> exact h) ?_
          repeat (first | ((with_reducible apply wq0); rfl; rfl; rfl; intro K hK; go_big_quiet_op; refine hK _ ?_; clear hK K) | ((with_reducible apply wq1); rfl; rfl; rfl; rfl; rfl; rfl; intro K hK; go_big_quiet_op; refine hK _ ?_; clear hK K) | ((with_reducible apply wqs); rfl; rfl; rfl; rfl; rfl; rfl; simp only [Act.put, List.setIfInBounds_toArray, List.set_cons_zero, List.set_cons_succ]) | ((with_reducible apply wqu); rfl; rfl; rfl; rfl; rfl; simp only [same]) | ((with_reducible apply wqu); rfl; rfl; rfl; rfl; rfl; simp only [Act.put, List.setIfInBounds_toArray, List.set_cons_zero, List.set_cons_succ]))
          refine wqIdx_nil ?_
          refine wpAnyR_done (by kernel_rfl) ?_ _
          clear p0 p1 p2 p3 q0 q1 q2 q3
          obtain ⟨offc, eC, q0, q1, q2, q3⟩ := (HY.out.below HW4.out).head4
          injection eC with eC
          injection eC with _ eC
          subst eC
          have HOX := Lib.hid (World.ownsRow.alloc (own_below HO.out HR4.out) (.cells #[.int .i64 y1, .int .i64 y2, .int .i64 y3, .int .i64 y4] 65))
          have HRX := Lib.hid (reads_oneK layE w4 ((y1, y2), (y3, y4)) 65)
          have hsx : w2.heap.size ≤ (w4.alloc (.cells #[.int .i64 y1, .int .i64 y2, .int .i64 y3, .int .i64 y4] 65)).heap.size := by have h1 := (HW4.out).size; rw [World.size_alloc]; omega
          have HSX := Lib.hid hsx
          have BXA := Lib.hid ((HW4.out).alloc (by have h1 := (HW4.out).size; omega) (.cells #[.int .i64 y1, .int .i64 y2, .int .i64 y3, .int .i64 y4] 65))
          clear hsx
          by_cases hcc : c2 = 1
          · subst hcc
            go_wp2_with (at_builtin; (refine wpList_appK layE (ys := [((y1, y2), (y3, y4))]) _ rfl (.tmp 58) (.tmp 62) _ rfl Try.underlying70 info_en3 rfl HOX.out HRX.out 1 rfl rfl (by omega) (by decide) HSX.out ?_); intro A5 c5 w5 o5 gr5; have O5 := Lib.hid o5; have G5 := Lib.hid gr5; clear o5 gr5)
            have B5 := Lib.hid (BXA.out.grown (Grew.by_ G5.out) HSX.out fun i hi => (World.ownsRow.lt HOX.out i hi).1)
            have hn0 : y.length = 0 := by omega
            have e0 := List.eq_nil_of_length_eq_zero hn0
            subst e0
            refine ⟨⟨((x1, x2), (x3, x4)) :: x, [], o ++ [((y1, y2), (y3, y4))], _, _, _, _, _, _, rfl, rfl, by rw [List.length_append]; rfl, HX.out, SlK.nil _ _ _, hcx, Nat.zero_le _, ?_, ?_, ?_, B5.out⟩, ?_⟩
            · rw [List.length_append]; simp at hsum ⊢; omega
            · rw [List.length_append]; exact O5.out
            · exact HG2.out
            · simp [slNE]
          · go_wp2_with (at_builtin; (refine wpList_appK layE (ys := [((y1, y2), (y3, y4))]) _ rfl (.tmp 58) (.tmp 62) _ rfl Try.underlying70 info_en3 rfl HOX.out HRX.out 1 rfl rfl (by omega) (by decide) HSX.out ?_); intro A5 c5 w5 o5 gr5; have O5 := Lib.hid o5; have G5 := Lib.hid gr5; clear o5 gr5)
            have B5 := Lib.hid (BXA.out.grown (Grew.by_ G5.out) HSX.out fun i hi => (World.ownsRow.lt HOX.out i hi).1)
            refine ⟨⟨((x1, x2), (x3, x4)) :: x, y, o ++ [((y1, y2), (y3, y4))], _, _, _, _, _, _, rfl, rfl, by rw [List.length_append]; rfl, HX.out, HT.out, hcx, by omega, ?_, ?_, ?_, B5.out⟩, ?_⟩
            · rw [List.length_append]; simp at hsum ⊢; omega
            · rw [List.length_append]; exact O5.out
            · exact HG2.out
            · simp [slNE]
theorem ren_sort_any : ∀ (n : Nat) (A : Option Addr) (h : Nat) (l : List En) (c : Nat) (w : World), l.length ≤ n → SlK encE w h A l → l.length ≤ c → l.length ≤ 10000 → c ≤ maxLen →
    Calls Try.prog 38 #[.slice A l.length c] w fun e w' => ∃ A' c', e = .returned (.slice A' (srtE l).length c') ∧ RowE w (srtE l) A' c' w'
  | 0, A, h, l, c, w, hn, hl, _, _, _ => ren_sort_small A h l c w hl (by omega)
  | n + 1, A, h, l, c, w, hn, hl, hc, h2, h3 => by
    by_cases hs : l.length < 2
    · exact ren_sort_small A h l c w hl hs
    · exact ren_sort_step A h l c w hl (by omega) hc h2 h3 fun A h m c w hm hl hc h3 => ren_sort_any n A h m c w (by omega) hl hc (by omega) h3
end Go.Proofs.Ytodfpdmmbmbinaa
