/- Contracts of the document's entries: At, Behind; may, Sorted, Same of both. -/
import Derived.Test.YtfilelgbffbnlaaEnB
namespace Go.Proofs.Ytfilelgbffbnlaa
open Go.RowKit Go.Sort

set_option maxRecDepth 100000 in
set_option maxHeartbeats 2000000 in
theorem ren_at_any (A : Option Addr) (h : Nat) (l : List En) (c : Nat) (m : Int × Int) (w : World) (hl : SlK encE w h A l) (hbig : l.length ≤ 50000) :
    Calls Try.prog 48 #[.slice A l.length c, .agg #[.int .i64 m.1, .int .i64 m.2]] w (RecRow w ((l.filter fun x => x.1 == m).map (·.2))) := by
  have b0 := alloc_below w (.cells #[.int .i64 m.1, .int .i64 m.2] 56)
  have kb := Blk.new w 56 #[.int .i64 m.1, .int .i64 m.2]
  have HS := Lib.hid (hl.below b0)
  have KB := Lib.hid kb
  have B0 := Lib.hid b0
  obtain ⟨w0, hw0⟩ : ∃ w0, w0 = w.alloc (.cells #[.int .i64 m.1, .int .i64 m.2] 56) := ⟨_, rfl⟩
  rw [← hw0] at HS KB B0
  have HW := Lib.hid hw0
  clear hl b0 kb hw0
  go_enter Try.func48, Try.ntmps48
  go_wp2_with fail
  rw [← HW.out]
  go_loopw [5, 6] (fun s i wr => ∃ (k : Nat) (A2 : Option Addr) (c2 : Nat), k ≤ l.length ∧ i = .int .i64 (k : Int) ∧ s = .slice A2 (((l.take k).filter fun x => x.1 == m).map (·.2)).length c2 ∧ wr.ownsRow w0.heap.size 58 2 s (((l.take k).filter fun x => x.1 == m).map (·.2)).length (Prs (((l.take k).filter fun x => x.1 == m).map (·.2))) ∧ Below w0.heap.size w0 wr) (fun _ i _ => l.length - (intOf i).toNat)
  case atStart => exact ⟨0, none, 0, Nat.zero_le _, rfl, rfl, World.ownsRow_nil _ _ _ _, Below.refl _ _⟩
  case round =>
    obtain ⟨k, A2, c2, hk, rfl, rfl, ho, hb⟩ := hrel
    have HO := Lib.hid ho
    have HB := Lib.hid hb
    clear ho hb
    by_cases hlt : k < l.length
    · have hea := List.getElem?_eq_getElem hlt
      obtain ⟨-, off, rfl, hc⟩ := (HS.out.below HB.out).at_ layE hea
      have htk : l.take (k + 1) = l.take k ++ [l[k]] := by rw [List.take_add_one, hea]; rfl
      obtain ⟨x, hx⟩ : ∃ x, x = l[k] := ⟨_, rfl⟩
      rw [← hx] at hc htk
      obtain ⟨⟨a, b⟩, c', d⟩ := x
      have q0 := hc 0 _ rfl
      have q1 := hc 1 _ rfl
      have q2 := hc 2 _ rfl
      have q3 := hc 3 _ rfl
      rw [Nat.add_zero] at q0
      have hm0 := (KB.out.below HB.out KB.out.lt).cell 0
      have hm1 := (KB.out.below HB.out KB.out.lt).cell 1
      have L1 := Lib.hid (fun W (hb : RB wr.drew W) => load_mo_at h (off + k * 4) a b W (keep_cell hb q0) (keep_cell hb q1))
      have L2 := Lib.hid (fun W (hb : RB wr.drew W) => load_mo_at w.heap.size 0 m.1 m.2 W (keep_cell hb hm0) (keep_cell hb hm1))
      have Q2 := Lib.hid (show wr.drew.cell? ⟨h, off + k * 4 + 2, none⟩ = some (.int .i64 c') from q2)
      have Q3 := Lib.hid (show wr.drew.cell? ⟨h, off + k * 4 + 3, none⟩ = some (.int .i64 d) from q3)
      have hf : ((l.take (k + 1)).filter fun x => x.1 == m).map (·.2) = ((l.take k).filter fun x => x.1 == m).map (·.2) ++ (if (a == m.1) && (b == m.2) then [(c', d)] else []) := by
        rw [htk, List.filter_append, List.map_append]
        congr 1
        rw [List.filter_cons, List.filter_nil, show (((a, b), (c', d)).1 == m) = ((a == m.1) && (b == m.2)) from rfl]
        cases ((a == m.1) && (b == m.2)) <;> rfl
      have hlen : (((l.take k).filter fun x => x.1 == m).map (·.2)).length ≤ 50000 := by
        rw [List.length_map]
        exact Nat.le_trans (List.length_filter_le ..) (by rw [List.length_take]; omega)
      generalize ((l.take k).filter fun x => x.1 == m).map (·.2) = ys at HO hf hlen
      generalize hq1 : (a == m.1) = r1 at hf
      generalize hq2 : (b == m.2) = r2 at hf
      have HF := Lib.hid hf
      have HOD := Lib.hid (show wr.drew.ownsRow w0.heap.size 58 2 (.slice A2 ys.length c2) ys.length (Prs ys) from HO.out)
      have HBD := Lib.hid (show Below w0.heap.size w0 wr.drew from ⟨HB.out.os, HB.out.tape, HB.out.output, HB.out.size, HB.out.block⟩)
      clear hea hx htk hc q0 q1 q2 q3 hm0 hm1 hf
      go_wp2_with fail
      refine wp_region_R (R := RB) (n := 7) (by kernel_rfl) rfl ?_
      refine batchB [0, 1, 2, 3, 4, 5, 6] (fuel := 0) rfl (by kernel_rfl) (by kernel_rfl) (fun _ _ d _ _ h => by cases d <;> exact h) ?_
      (repeat (first | ((with_reducible apply wq0); rfl; rfl; rfl; intro K hK; go_big_quiet_op; refine hK _ ?_; clear hK K) | ((with_reducible apply wq1); rfl; rfl; rfl; rfl; rfl; rfl; intro K hK; go_big_quiet_op; refine hK _ ?_; clear hK K) | ((with_reducible apply wqs); rfl; rfl; rfl; rfl; rfl; rfl; simp only [Act.put, List.setIfInBounds_toArray, List.set_cons_zero, List.set_cons_succ]) | ((with_reducible apply wqu); rfl; rfl; rfl; rfl; rfl; simp only [same, Act.put, List.setIfInBounds_toArray, List.set_cons_zero, List.set_cons_succ])))
      refine wqIdx_load rfl rfl rfl rfl L1.out ?_
      simp only [Act.put, List.setIfInBounds_toArray, List.set_cons_zero, List.set_cons_succ]
      (repeat (first | ((with_reducible apply wq0); rfl; rfl; rfl; intro K hK; go_big_quiet_op; refine hK _ ?_; clear hK K) | ((with_reducible apply wq1); rfl; rfl; rfl; rfl; rfl; rfl; intro K hK; go_big_quiet_op; refine hK _ ?_; clear hK K) | ((with_reducible apply wqs); rfl; rfl; rfl; rfl; rfl; rfl; simp only [Act.put, List.setIfInBounds_toArray, List.set_cons_zero, List.set_cons_succ]) | ((with_reducible apply wqu); rfl; rfl; rfl; rfl; rfl; simp only [same, Act.put, List.setIfInBounds_toArray, List.set_cons_zero, List.set_cons_succ])))
      refine wqIdx_load rfl rfl rfl rfl L2.out ?_
      simp only [Act.put, List.setIfInBounds_toArray, List.set_cons_zero, List.set_cons_succ]
      cases r1 <;> cases r2
      all_goals
        (repeat (first | ((with_reducible apply wq0); rfl; rfl; rfl; intro K hK; go_big_quiet_op; refine hK _ ?_; clear hK K) | ((with_reducible apply wq1); rfl; rfl; rfl; rfl; rfl; rfl; intro K hK; go_big_quiet_op; refine hK _ ?_; clear hK K) | ((with_reducible apply wqs); rfl; rfl; rfl; rfl; rfl; rfl; simp only [Act.put, List.setIfInBounds_toArray, List.set_cons_zero, List.set_cons_succ]) | ((with_reducible apply wqu); rfl; rfl; rfl; rfl; rfl; simp only [same, Act.put, List.setIfInBounds_toArray, List.set_cons_zero, List.set_cons_succ])))
        refine wqIdx_nil ?_
        refine wpAnyR_done (by kernel_rfl) ?_ _
      · go_wp2
        have hf := HF.out
        rw [if_neg (by decide), List.append_nil] at hf
        exact ⟨⟨k + 1, A2, c2, by omega, by go_num, by rw [hf], by rw [hf]; exact HOD.out, HBD.out⟩, by simp [intOf]; omega⟩
      · go_wp2
        have hf := HF.out
        rw [if_neg (by decide), List.append_nil] at hf
        exact ⟨⟨k + 1, A2, c2, by omega, by go_num, by rw [hf], by rw [hf]; exact HOD.out, HBD.out⟩, by simp [intOf]; omega⟩
      · go_wp2
        have hf := HF.out
        rw [if_neg (by decide), List.append_nil] at hf
        exact ⟨⟨k + 1, A2, c2, by omega, by go_num, by rw [hf], by rw [hf]; exact HOD.out, HBD.out⟩, by simp [intOf]; omega⟩
      · have q2 := Q2.out
        have q3 := Q3.out
        have HOA := Lib.hid (World.ownsRow.alloc HOD.out (.cells #[.int .i64 c', .int .i64 d] 58))
        have BWA := Lib.hid (HBD.out.alloc HBD.out.size (.cells #[.int .i64 c', .int .i64 d] 58))
        have HR := Lib.hid (reads_one wr.drew (c', d) 58)
        go_wp2_with (at_builtin; (refine wpList_appP (ys := [(c', d)]) _ rfl (.tmp 20) (.tmp 26) _ rfl Try.underlying82 info_rec3 HOA.out HR.out 1 rfl rfl (by omega) BWA.out.size ?_); intro A5 c5 w5 o5 gr5; have O5 := Lib.hid o5; have B5 := Lib.hid (show Below w0.heap.size w0 w5 from BWA.out.grown (Grew.by_ gr5) BWA.out.size fun i hi => (World.ownsRow.lt HOA.out i hi).1); clear o5 gr5)
        have hf := HF.out
        rw [if_pos (by decide)] at hf
        exact ⟨⟨k + 1, A5, c5, by omega, by go_num, by rw [hf, List.length_append]; rfl, by rw [hf, List.length_append]; exact O5.out, B5.out⟩, by simp [intOf]; omega⟩
    · obtain rfl : k = l.length := by omega
      have ho := HO.out
      rw [List.take_length] at ho ⊢
      have HO := Lib.hid ho
      clear ho
      go_wp2
      go_ret
      exact ⟨A2, c2, by rw [List.length_map]; rfl, own_mono HO.out B0.out.size, below_trans B0.out HB.out⟩
set_option maxRecDepth 100000 in
set_option maxHeartbeats 2000000 in
theorem ren_behind_any (A : Option Addr) (h : Nat) (l : List En) (c : Nat) (F : Option Addr) (hf : Nat) (f : List (Int × Int)) (cf : Nat) (w : World) (hl : SlK encE w h A l) (hbig : l.length ≤ 50000) (hF : SlP w hf F f) (hfb : f.length ≤ 50000) :
    Calls Try.prog 50 #[.slice A l.length c, .slice F f.length cf] w (EnRow w (l.filter fun x => f.any fun y => aheadM y x.1)) := by
  have HS := Lib.hid hl
  have HFS := Lib.hid hF
  clear hl hF
  go_enter Try.func50, Try.ntmps50
  go_wp2_with fail
  go_loopw [5, 6] (fun s i wr => ∃ (k : Nat) (A2 : Option Addr) (c2 : Nat), k ≤ l.length ∧ i = .int .i64 (k : Int) ∧ s = .slice A2 ((l.take k).filter fun x => f.any fun y => aheadM y x.1).length c2 ∧ wr.ownsRow w.heap.size 60 4 s ((l.take k).filter fun x => f.any fun y => aheadM y x.1).length (RowV encE ((l.take k).filter fun x => f.any fun y => aheadM y x.1)) ∧ Below w.heap.size w wr) (fun _ i _ => l.length - (intOf i).toNat)
  case atStart => exact ⟨0, none, 0, Nat.zero_le _, rfl, rfl, own_nil_k layE _ _ _, Below.refl _ _⟩
  case round =>
    obtain ⟨k, A2, c2, hk, rfl, rfl, ho, hb⟩ := hrel
    have HO := Lib.hid ho
    have HB := Lib.hid hb
    clear ho hb
    by_cases hlt : k < l.length
    · have hea := List.getElem?_eq_getElem hlt
      obtain ⟨-, off, rfl, hc⟩ := (HS.out.below HB.out).at_ layE hea
      have htk : l.take (k + 1) = l.take k ++ [l[k]] := by rw [List.take_add_one, hea]; rfl
      obtain ⟨x, hx⟩ : ∃ x, x = l[k] := ⟨_, rfl⟩
      rw [← hx] at hc htk hea
      have HEA := Lib.hid hea
      obtain ⟨⟨a, b⟩, c', d⟩ := x
      have q0 := hc 0 _ rfl
      have q1 := hc 1 _ rfl
      rw [Nat.add_zero] at q0
      have P1 := Lib.hid (rcovers_any F hf f cf a b wr (HFS.out.below HB.out) (by omega))
      have hf2 : (l.take (k + 1)).filter (fun x => f.any fun y => aheadM y x.1) = (l.take k).filter (fun x => f.any fun y => aheadM y x.1) ++ (if (f.any fun y => aheadM y (a, b)) then [((a, b), (c', d))] else []) := by
        rw [htk, List.filter_append]
        congr 1
        rw [List.filter_cons, List.filter_nil]
      have hlen : ((l.take k).filter fun x => f.any fun y => aheadM y x.1).length ≤ 50000 := Nat.le_trans (List.length_filter_le ..) (by rw [List.length_take]; omega)
      generalize (l.take k).filter (fun x => f.any fun y => aheadM y x.1) = ys at HO hf2 hlen
      generalize (f.any fun y => aheadM y (a, b)) = q at P1 hf2
      have HF := Lib.hid hf2
      clear hea hx htk hc hf2
      go_wp2_with fail
      refine P1.out.mono ?_; rintro e w1 ⟨rfl, b1⟩
      have HO2 := Lib.hid (own_below HO.out b1)
      have BW := Lib.hid (below_trans HB.out b1)
      clear q0 q1 b1 P1
      cases q
      · go_wp2
        have hf := HF.out
        rw [if_neg (by decide), List.append_nil] at hf
        exact ⟨⟨k + 1, A2, c2, by omega, by go_num, by rw [hf], by rw [hf]; exact HO2.out, BW.out⟩, by simp [intOf]; omega⟩
      · obtain ⟨-, o2, ho2, hc⟩ := (HS.out.below BW.out).at_ layE HEA.out
        obtain rfl : off = o2 := by injection ho2 with h1; injection h1
        have q0 := hc 0 _ rfl
        have q1 := hc 1 _ rfl
        have q2 := hc 2 _ rfl
        have q3 := hc 3 _ rfl
        rw [Nat.add_zero] at q0
        have HR := Lib.hid (reads_oneK layE w1 ((a, b), (c', d)) 60)
        have HOA := Lib.hid (World.ownsRow.alloc HO2.out (.cells (encE ((a, b), (c', d))).toArray 60))
        have BWA := Lib.hid (BW.out.alloc BW.out.size (.cells (encE ((a, b), (c', d))).toArray 60))
        clear hc ho2
        go_wp2_with (at_builtin; (refine wpList_appK layE (ys := [((a, b), (c', d))]) _ rfl (.tmp 20) (.tmp 25) _ rfl Try.underlying54 info_en3 rfl HOA.out HR.out 1 rfl rfl (by omega) (by decide) BWA.out.size ?_); intro A5 c5 w5 o5 gr5; have O5 := Lib.hid o5; have B5 := Lib.hid (show Below w.heap.size w w5 from BWA.out.grown (Grew.by_ gr5) BWA.out.size fun i hi => (World.ownsRow.lt HOA.out i hi).1); clear o5 gr5)
        have hf := HF.out
        rw [if_pos (by decide)] at hf
        exact ⟨⟨k + 1, A5, c5, by omega, by go_num, by rw [hf, List.length_append]; rfl, by rw [hf, List.length_append]; exact O5.out, B5.out⟩, by simp [intOf]; omega⟩
    · obtain rfl : k = l.length := by omega
      have ho := HO.out
      rw [List.take_length] at ho ⊢
      have HO := Lib.hid ho
      clear ho
      go_wp2
      go_ret
      exact ⟨A2, c2, rfl, HO.out, HB.out⟩
/-- What is wrong with the first entry that may not be. -/
def firstE : List En → Int
  | [] => 0
  | x :: r => if enE x = 0 then firstE r else enE x
theorem firstE_append (a b : List En) (h : firstE a = 0) : firstE (a ++ b) = firstE b := by
  induction a with
  | nil => rfl
  | cons x a ih =>
    unfold firstE at h
    by_cases hx : enE x = 0
    · rw [if_pos hx] at h
      show (if enE x = 0 then firstE (a ++ b) else enE x) = _
      rw [if_pos hx]
      exact ih h
    · rw [if_neg hx] at h
      exact absurd h hx
/-- What is wrong with entries. -/
def mayEs (l : List En) : Int := if firstE l = 0 then (if 16384 < l.length then 3 else 0) else firstE l
set_option maxRecDepth 100000 in
set_option maxHeartbeats 2000000 in
theorem en_may_any (A : Option Addr) (h : Nat) (l : List En) (c : Nat) (w : World) (hl : SlK encE w h A l) (hbig : l.length ≤ 50000) :
    Calls Try.prog 74 #[.slice A l.length c] w fun e w' => e = .returned (.int .i64 (mayEs l)) ∧ Below w.heap.size w w' := by
  have HS := Lib.hid hl
  clear hl
  go_enter Try.func74, Try.ntmps74
  go_wp2_with fail
  go_loopw [8] (fun i wr => ∃ k : Nat, k ≤ l.length ∧ i = .int .i64 (k : Int) ∧ firstE (l.take k) = 0 ∧ Below w.heap.size w wr) (fun i _ => l.length - (intOf i).toNat)
  case atStart => exact ⟨0, Nat.zero_le _, rfl, rfl, Below.refl _ _⟩
  case round =>
    obtain ⟨k, hk, rfl, hfi, hb⟩ := hrel
    have HFI := Lib.hid hfi
    have HB := Lib.hid hb
    clear hfi hb
    by_cases hlt : k < l.length
    · have hea := List.getElem?_eq_getElem hlt
      obtain ⟨-, off, rfl, hc⟩ := (HS.out.below HB.out).at_ layE hea
      have htk : l.take (k + 1) = l.take k ++ [l[k]] := by rw [List.take_add_one, hea]; rfl
      have hsp : l = l.take k ++ l[k] :: l.drop (k + 1) := by rw [List.getElem_cons_drop, List.take_append_drop]
      obtain ⟨x, hx⟩ : ∃ x, x = l[k] := ⟨_, rfl⟩
      rw [← hx] at hc htk hsp
      have HSP := Lib.hid hsp
      have HTK := Lib.hid htk
      obtain ⟨⟨a, b⟩, c', d⟩ := x
      have q0 := hc 0 _ rfl
      have q1 := hc 1 _ rfl
      have q2 := hc 2 _ rfl
      have q3 := hc 3 _ rfl
      rw [Nat.add_zero] at q0
      have b1 := alloc_below wr (.cells #[.int .i64 a, .int .i64 b, .int .i64 c', .int .i64 d] 60)
      have P1 := Lib.hid (en_check_any a b c' d (wr.alloc (.cells #[.int .i64 a, .int .i64 b, .int .i64 c', .int .i64 d] 60)))
      have BW := Lib.hid (below_trans HB.out b1)
      obtain ⟨z, hz⟩ : ∃ z, z = enE ((a, b), (c', d)) := ⟨_, rfl⟩
      rw [← hz] at P1
      have HZ := Lib.hid hz
      clear hea hx htk hsp hc hz b1
      go_wp2_with fail
      refine P1.out.mono ?_; rintro e w1 ⟨rfl, b1⟩
      have BW1 := Lib.hid (below_trans BW.out b1)
      clear b1 P1 q0 q1 q2 q3
      by_cases h0 : z = 0
      · have d1 : (z != 0) = false := by simpa using h0
        have H0 := Lib.hid h0
        clear h0
        go_wp2
        refine ⟨⟨k + 1, by omega, by go_num, ?_, BW1.out⟩, by simp [intOf]; omega⟩
        rw [HTK.out, firstE_append _ _ HFI.out]
        show (if enE ((a, b), (c', d)) = 0 then firstE [] else _) = 0
        rw [if_pos (by rw [← HZ.out]; exact H0.out)]
        rfl
      · have d1 : (z != 0) = true := by simpa using h0
        have H0 := Lib.hid h0
        clear h0
        go_wp2
        go_ret
        have hfz : firstE l = z := by
          rw [HSP.out, firstE_append _ _ HFI.out]
          show (if enE ((a, b), (c', d)) = 0 then _ else enE ((a, b), (c', d))) = z
          rw [← HZ.out, if_neg H0.out]
        refine ⟨?_, BW1.out⟩
        unfold mayEs
        rw [hfz, if_neg H0.out]
        rfl
    · obtain rfl : k = l.length := by omega
      have hfi := HFI.out
      rw [List.take_length] at hfi
      by_cases h16 : 16384 < l.length
      · have d1 : decide ((16384 : Int) < (l.length : Int)) = true := by rw [decide_eq_true_eq]; omega
        have HM := Lib.hid (show mayEs l = 3 by unfold mayEs; rw [if_pos hfi, if_pos h16])
        clear hfi
        go_wp2
        go_ret
        exact ⟨by rw [HM.out]; rfl, HB.out⟩
      · have d1 : decide ((16384 : Int) < (l.length : Int)) = false := by rw [decide_eq_false_iff_not]; omega
        have HM := Lib.hid (show mayEs l = 0 by unfold mayEs; rw [if_pos hfi, if_neg h16])
        clear hfi
        go_wp2
        go_ret
        exact ⟨by rw [HM.out]; rfl, HB.out⟩
set_option maxRecDepth 100000 in
set_option maxHeartbeats 2000000 in
theorem ren_may_any (A : Option Addr) (h : Nat) (l : List En) (c : Nat) (w : World) (hl : SlK encE w h A l) (hbig : l.length ≤ 50000) :
    Calls Try.prog 31 #[.slice A l.length c] w fun e w' => e = .returned (.int .i64 (mayEs l)) ∧ Below w.heap.size w w' := by
  have HS := Lib.hid hl
  clear hl
  go_enter Try.func31, Try.ntmps31
  go_wp2_with fail
  go_loopw [3] (fun i wr => ∃ k : Nat, k ≤ l.length ∧ i = .int .i64 (k : Int) ∧ firstE (l.take k) = 0 ∧ Below w.heap.size w wr) (fun i _ => l.length - (intOf i).toNat)
  case atStart => exact ⟨0, Nat.zero_le _, rfl, rfl, Below.refl _ _⟩
  case round =>
    obtain ⟨k, hk, rfl, hfi, hb⟩ := hrel
    have HFI := Lib.hid hfi
    have HB := Lib.hid hb
    clear hfi hb
    by_cases hlt : k < l.length
    · have hea := List.getElem?_eq_getElem hlt
      obtain ⟨-, off, rfl, hc⟩ := (HS.out.below HB.out).at_ layE hea
      have htk : l.take (k + 1) = l.take k ++ [l[k]] := by rw [List.take_add_one, hea]; rfl
      have hsp : l = l.take k ++ l[k] :: l.drop (k + 1) := by rw [List.getElem_cons_drop, List.take_append_drop]
      obtain ⟨x, hx⟩ : ∃ x, x = l[k] := ⟨_, rfl⟩
      rw [← hx] at hc htk hsp
      have HSP := Lib.hid hsp
      have HTK := Lib.hid htk
      obtain ⟨⟨a, b⟩, c', d⟩ := x
      have q0 := hc 0 _ rfl
      have q1 := hc 1 _ rfl
      have q2 := hc 2 _ rfl
      have q3 := hc 3 _ rfl
      rw [Nat.add_zero] at q0
      have P1 := Lib.hid (ren_check_any a b c' d wr)
      obtain ⟨z, hz⟩ : ∃ z, z = enE ((a, b), (c', d)) := ⟨_, rfl⟩
      rw [← hz] at P1
      have HZ := Lib.hid hz
      clear hea hx htk hsp hc hz
      go_wp2_with fail
      refine P1.out.mono ?_; rintro e w1 ⟨rfl, b1⟩
      have BW1 := Lib.hid (below_trans HB.out b1)
      clear b1 P1 q0 q1 q2 q3
      by_cases h0 : z = 0
      · have d1 : (z != 0) = false := by simpa using h0
        have H0 := Lib.hid h0
        clear h0
        go_wp2
        refine ⟨⟨k + 1, by omega, by go_num, ?_, BW1.out⟩, by simp [intOf]; omega⟩
        rw [HTK.out, firstE_append _ _ HFI.out]
        show (if enE ((a, b), (c', d)) = 0 then firstE [] else _) = 0
        rw [if_pos (by rw [← HZ.out]; exact H0.out)]
        rfl
      · have d1 : (z != 0) = true := by simpa using h0
        have H0 := Lib.hid h0
        clear h0
        go_wp2
        go_ret
        have hfz : firstE l = z := by
          rw [HSP.out, firstE_append _ _ HFI.out]
          show (if enE ((a, b), (c', d)) = 0 then _ else enE ((a, b), (c', d))) = z
          rw [← HZ.out, if_neg H0.out]
        refine ⟨?_, BW1.out⟩
        unfold mayEs
        rw [hfz, if_neg H0.out]
        rfl
    · obtain rfl : k = l.length := by omega
      have hfi := HFI.out
      rw [List.take_length] at hfi
      by_cases h16 : 16384 < l.length
      · have d1 : decide ((16384 : Int) < (l.length : Int)) = true := by rw [decide_eq_true_eq]; omega
        have HM := Lib.hid (show mayEs l = 3 by unfold mayEs; rw [if_pos hfi, if_pos h16])
        clear hfi
        go_wp2
        go_ret
        exact ⟨by rw [HM.out]; rfl, HB.out⟩
      · have d1 : decide ((16384 : Int) < (l.length : Int)) = false := by rw [decide_eq_false_iff_not]; omega
        have HM := Lib.hid (show mayEs l = 0 by unfold mayEs; rw [if_pos hfi, if_neg h16])
        clear hfi
        go_wp2
        go_ret
        exact ⟨by rw [HM.out]; rfl, HB.out⟩
end Go.Proofs.Ytfilelgbffbnlaa
