/- Contracts of package rec: Minus. -/
import Derived.Test.YtibhofdblfgkbaaReJ
namespace Go.Proofs.Ytibhofdblfgkbaa
open Go.RowKit Go.Sort Go.Maps Go.ChangeMaps

def bothE (a b : List (Int × Int)) : Int := if mayE a = 0 then mayE b else mayE a
set_option maxRecDepth 100000 in
set_option maxHeartbeats 1000000 in
theorem mayBoth_any (A : Option Addr) (h : Nat) (a : List (Int × Int)) (c : Nat) (B : Option Addr) (g : Nat) (b : List (Int × Int)) (d : Nat) (w : World) (ha : SlP w h A a) (hb : SlP w g B b) (la : a.length ≤ 9223372036854775807) (lb : b.length ≤ 9223372036854775807) :
    Calls Try.prog 80 #[.slice A a.length c, .slice B b.length d] w fun e w' => e = .returned (.int .i64 (bothE a b)) ∧ Below w.heap.size w w' := by
  have P1 := Lib.hid (rc_may_any A h a c w ha la)
  have P2 := Lib.hid (fun W (k : Below w.heap.size w W) => rc_may_any B g b d W (hb.below k) lb)
  clear ha hb
  by_cases h0 : mayE a = 0
  · have hz : bothE a b = mayE b := by unfold bothE; rw [if_pos h0]
    rw [hz]
    rw [h0] at P1
    generalize mayE b = z at P2
    clear h0 hz
    go_enter Try.func80, Try.ntmps80
    go_wp2_with fail
    refine P1.out.mono ?_; rintro e w0 ⟨rfl, b0⟩
    go_wp2_with fail
    refine (P2.out _ b0).mono ?_; rintro e w1 ⟨rfl, b1⟩
    go_wp2
    go_ret
    exact ⟨rfl, below_trans b0 b1⟩
  · have hz : bothE a b = mayE a := by unfold bothE; rw [if_neg h0]
    rw [hz]
    have d1 : (mayE a == 0) = false := by simpa using h0
    generalize mayE a = z at P1 d1
    clear h0 hz
    go_enter Try.func80, Try.ntmps80
    go_wp2_with fail
    refine P1.out.mono ?_; rintro e w0 ⟨rfl, b0⟩
    go_wp2
    go_ret
    exact ⟨rfl, b0⟩
theorem CntAt.mono {w : World} {b n n' : Nat} {t : Int × Int → Nat} {ks : Int × Int → Bool} (h : CntAt w b n t ks) (hn : n ≤ n') : CntAt w b n' t ks := by
  obtain ⟨D, h1, h2⟩ := h
  exact ⟨D, h1.mono hn, h2⟩
theorem okRec_in {x : Int × Int} (h : okRec x = true) : InR x := by
  obtain ⟨a, b⟩ := x
  rw [okRec_iff] at h
  exact ⟨WalkArith.wf_i64 (by omega), WalkArith.wf_i64 (by omega)⟩
set_option maxRecDepth 100000 in
set_option maxHeartbeats 1000000 in
theorem rc_minus_no (A : Option Addr) (h : Nat) (a : List (Int × Int)) (c : Nat) (B : Option Addr) (g : Nat) (b : List (Int × Int)) (d : Nat) (w : World) (ha : SlP w h A a) (hb : SlP w g B b) (la : a.length ≤ 9223372036854775807) (lb : b.length ≤ 9223372036854775807) (h0 : bothE a b ≠ 0) :
    Calls Try.prog 31 #[.slice A a.length c, .slice B b.length d] w fun e w' => e = .returned (.tuple #[.slice none 0 0, .int .i64 (bothE a b)]) ∧ Below w.heap.size w w' := by
  have P1 := Lib.hid (mayBoth_any A h a c B g b d w ha hb la lb)
  have d1 : (bothE a b == 0) = false := by simpa using h0
  generalize bothE a b = z at P1 d1
  clear h0 ha hb
  go_enter Try.func31, Try.ntmps31
  go_wp2_with fail
  refine P1.out.mono ?_; rintro e w0 ⟨rfl, b0⟩
  go_wp2
  go_ret2
  exact ⟨rfl, b0⟩
set_option maxRecDepth 100000 in
set_option maxHeartbeats 4000000 in
theorem rc_minus_ok (A : Option Addr) (h : Nat) (a : List (Int × Int)) (c : Nat) (B : Option Addr) (g : Nat) (b : List (Int × Int)) (d : Nat) (w : World) (ha : SlP w h A a) (hb : SlP w g B b) (h1 : mayE a = 0) (h2 : mayE b = 0) :
    Calls Try.prog 31 #[.slice A a.length c, .slice B b.length d] w fun e w' => ∃ A' c', e = .returned (.tuple #[.slice A' (minusR a b).length c', .int .i64 0]) ∧ RowS w (minusR a b) A' c' w' := by
  obtain ⟨oka, la⟩ := mayE_ok h1
  obtain ⟨okb, lb⟩ := mayE_ok h2
  have P1 := Lib.hid (mayBoth_any A h a c B g b d w ha hb (by omega) (by omega))
  rw [show bothE a b = 0 by unfold bothE; rw [if_pos h1]; exact h2] at P1
  have P2 := Lib.hid (fun W (k : Below w.heap.size w W) => counts_any B g b d W (hb.below k) (by omega) fun x hx => okRec_in (okb x hx))
  have P3 := Lib.hid (fun W (k : Below w.heap.size w W) => inOrder_any A h a c W (ha.below k) (by omega))
  have hS : srt a = srt a := rfl
  have hin : ∀ x ∈ srt a, InR x := fun x hx => okRec_in (oka x ((srt_perm a).mem_iff.1 hx))
  have hsl := srt_length a
  obtain ⟨M, hM⟩ : ∃ M, minusR a b = M := ⟨_, rfl⟩
  have hMM : takeOut (srt a) (cnt b) = M := hM
  rw [hM]
  clear ha hb h1 h2 oka okb hM
  go_enter Try.func31, Try.ntmps31
  go_wp2_with fail
  refine P1.out.mono ?_; rintro e w0 ⟨rfl, b0⟩
  go_wp2_with fail
  refine (P2.out _ b0).mono ?_; rintro e w1 ⟨mb, rfl, hmb, hcn, b1⟩
  have B1 := Lib.hid (below_trans b0 b1)
  have hb0s := b0.size
  have hmb1 := hcn.lt
  have HCN := Lib.hid hcn
  clear hcn b0 b1
  go_wp2_with fail
  refine (P3.out _ B1.out).mono ?_; rintro e w2 ⟨AS, cS, rfl, hra⟩
  have hrs := hra.s
  clear hra
  obtain ⟨⟨gS, sS⟩, b2, kS⟩ := hrs
  have B2 := Lib.hid (below_trans B1.out b2)
  have hgS : srt a ≠ [] → mb < gS := fun hne => by
    obtain ⟨g', e, h3, -⟩ := kS hne
    obtain ⟨-, off, e2, -⟩ := sS hne
    rw [e] at e2
    injection e2 with e2
    injection e2 with e2 _
    omega
  have hgS2 : srt a ≠ [] → gS < w2.heap.size := fun hne => (sS hne).1
  have HC := Lib.hid (HCN.out.kept (row := none) ⟨b2.os, b2.tape, b2.output, b2.size, fun i hi _ => b2.block i hi⟩ (by simp))
  have HSS := Lib.hid sS
  have hb2s := b2.size
  rw [← hsl]
  generalize srt a = S at HSS hgS hgS2 hMM hin hsl
  have HMM := Lib.hid hMM
  have HIN := Lib.hid hin
  clear hS sS b2 kS hMM hin P1 P2 P3 HCN B1
  go_wp2_with fail
  go_loopw [8, 22] (fun vo i wr => ∃ (k : Nat) (o : List (Int × Int)) (A3 : Option Addr) (c3 : Nat) (t : Int × Int → Nat) (ks : Int × Int → Bool), k ≤ S.length ∧ i = .int .i64 (k : Int) ∧ vo = .slice A3 o.length c3 ∧ CntAt wr mb (b.length + k) t ks ∧ wr.ownsRow w2.heap.size 24 2 vo o.length (Prs o) ∧ o ++ takeOut (S.drop k) t = M ∧ o.length ≤ k ∧ (∀ r, t r ≤ 5000) ∧ SlP wr gS AS S ∧ w2.heap.size ≤ wr.heap.size ∧ Below w.heap.size w wr) (fun _ i _ => S.length - (intOf i).toNat)
  case atStart => exact ⟨0, [], none, 0, _, _, Nat.zero_le _, rfl, rfl, HC.out, World.ownsRow_nil _ _ _ _, by simpa using HMM.out, Nat.le_refl _, fun r => Nat.le_trans (cnt_le b r) (by omega), HSS.out, Nat.le_refl _, B2.out⟩
  case round =>
    obtain ⟨k, o, A3, c3, t, ks, hk, rfl, rfl, hcn, ho, hg, hok, ht5, hss, hs2, hb⟩ := hrel
    have HC := Lib.hid hcn
    have HO := Lib.hid ho
    have HG := Lib.hid hg
    have HS := Lib.hid hss
    have HB := Lib.hid hb
    clear hcn ho hg hss hb
    by_cases hlt : k < S.length
    · obtain ⟨x, hx⟩ : ∃ x, S[k]? = some x := ⟨_, List.getElem?_eq_getElem hlt⟩
      have hne0 : S ≠ [] := fun e => by rw [e] at hlt; simp at hlt
      have hg1 := hgS hne0
      have hg2 := hgS2 hne0
      have hin := HIN.out x (List.mem_of_getElem? hx)
      have HDR := Lib.hid (show S.drop k = x :: S.drop (k + 1) by
        rw [List.drop_eq_getElem_cons hlt]
        rw [List.getElem?_eq_getElem hlt] at hx
        injection hx with hx
        rw [hx])
      obtain ⟨x1, x2⟩ := x
      obtain ⟨-, o1, eA, p0, p1⟩ := HS.out.at_ hx
      subst eA
      clear hx
      have C0 := Lib.hid (new_cell wr #[.int .i64 x1, .int .i64 x2] 24 _ rfl 0)
      have C1 := Lib.hid (new_cell wr #[.int .i64 x1, .int .i64 x2] 24 _ rfl 1)
      have hBB := HC.out.lt
      have HC1 := Lib.hid (show CntAt (wr.alloc (.cells #[.int .i64 x1, .int .i64 x2] 24)) mb (b.length + k) t ks from HC.out.kept (World.grownBy_alloc wr _ none) (by simp))
      have HO1 := Lib.hid (World.ownsRow.alloc HO.out (.cells #[.int .i64 x1, .int .i64 x2] 24))
      have HB1 := Lib.hid (HB.out.alloc (by have := HB.out.size; omega) (.cells #[.int .i64 x1, .int .i64 x2] 24))
      have HS1 := Lib.hid (HS.out.below (alloc_below wr (.cells #[.int .i64 x1, .int .i64 x2] 24)))
      have hlook := HC1.out.look x1 x2 hin
      obtain ⟨m, hm⟩ : ∃ m, t (x1, x2) = m := ⟨_, rfl⟩
      have HTM := Lib.hid hm
      rw [hm] at hlook
      have hne : ¬ wr.heap.size = mb := by omega
      have hm5 : m ≤ 5000 := by rw [← hm]; exact ht5 _
      have HT5 := Lib.hid ht5
      clear ht5
      by_cases hm0 : 0 < m
      · have d1 : decide ((0 : Int) < (m : Int)) = true := by rw [decide_eq_true_eq]; omega
        obtain ⟨v0, st, w3, hme, gw1, s1, hlook1, hst⟩ := HC1.out.drew.bump x1 x2 hin (by unfold maxLen; omega)
        obtain ⟨w4, hes, gw2, s2, hc2⟩ := hst (m - 1) (wf_small _ (by omega))
        rw [hm] at hlook1
        have hlookd : (Instr.lookup 99 (.map (some mb)) (.agg #[.int .i64 x1, .int .i64 x2]) false).run Try.prog (wr.alloc (.cells #[.int .i64 x1, .int .i64 x2] 24)).drew = .ok (.int .i64 (m : Nat)) (wr.alloc (.cells #[.int .i64 x1, .int .i64 x2] 24)).drew := by rw [← hm]; exact HC1.out.drew.look x1 x2 hin
        have GW1 := Lib.hid gw1
        have G12 := Lib.hid (grown_mid gw1 gw2 s1)
        have GW2 := Lib.hid gw2
        have HC2 := Lib.hid hc2
        clear hst gw1 gw2 hc2 hm
        rw [show ((m - 1 : Nat) : Int) = (m : Int) - 1 by omega] at hes
        go_wp2_with fail
        refine wp_region_R (R := RK (fun k => k = mb)) (n := 7) (by kernel_rfl) rfl ?_
        refine batchK [0, 1] (fuel := 5) rfl (by kernel_rfl) (by kernel_rfl) (fun _ _ d _ _ h => by cases d <;> exact h) ?_
        repeat (first | ((with_reducible apply wq0); rfl; rfl; rfl; intro K hK; go_big_quiet_op; refine hK _ ?_; clear hK K) | ((with_reducible apply wq1); rfl; rfl; rfl; rfl; rfl; rfl; intro K hK; go_big_quiet_op; refine hK _ ?_; clear hK K) | ((with_reducible apply wqs); rfl; rfl; rfl; rfl; rfl; rfl; simp only [Act.put, List.setIfInBounds_toArray, List.set_cons_zero, List.set_cons_succ]) | ((with_reducible apply wqu); rfl; rfl; rfl; rfl; rfl; simp only [same]) | ((with_reducible apply wqu); rfl; rfl; rfl; rfl; rfl; simp only [Act.put, List.setIfInBounds_toArray, List.set_cons_zero, List.set_cons_succ]))
        refine wqIdx_load rfl rfl rfl rfl (fun W hW => load_rec_at _ _ x1 x2 W (keep_cellK hW hne C0.out) (keep_cellK hW hne C1.out)) ?_
        simp only [Act.put, List.setIfInBounds_toArray, List.set_cons_zero, List.set_cons_succ]
        refine wqIdx_nil ?_
        refine steps_two (i := 2) (j := 4) (by kernel_rfl) ?_ ?_
        · refine ⟨_, rfl, fun K hK => ?_⟩
          go_simp
          refine hK _ _ (RK.refl _ _) ?_
          clear hK K
          refine batchK [3] (fuel := 3) rfl (by kernel_rfl) (by kernel_rfl) (fun _ _ d _ _ h => by cases d <;> exact h) ?_
          repeat (first | ((with_reducible apply wq0); rfl; rfl; rfl; intro K hK; go_big_quiet_op; refine hK _ ?_; clear hK K) | ((with_reducible apply wq1); rfl; rfl; rfl; rfl; rfl; rfl; intro K hK; go_big_quiet_op; refine hK _ ?_; clear hK K) | ((with_reducible apply wqs); rfl; rfl; rfl; rfl; rfl; rfl; simp only [Act.put, List.setIfInBounds_toArray, List.set_cons_zero, List.set_cons_succ]) | ((with_reducible apply wqu); rfl; rfl; rfl; rfl; rfl; simp only [same]) | ((with_reducible apply wqu); rfl; rfl; rfl; rfl; rfl; simp only [Act.put, List.setIfInBounds_toArray, List.set_cons_zero, List.set_cons_succ]))
          refine wqIdx_nil ?_
          refine wpAnyR_sole (i := 4) rfl (by kernel_rfl) (fun K hK => ?_)
          go_simp
          refine hK _ _ (rk_row GW1.out fun _ e => by injection e with e; exact e.symm) ?_
          clear hK K
          refine batchK [5] (fuel := 1) rfl (by kernel_rfl) (by kernel_rfl) (fun _ _ d _ _ h => by cases d <;> exact h) ?_
          repeat (first | ((with_reducible apply wq0); rfl; rfl; rfl; intro K hK; go_big_quiet_op; refine hK _ ?_; clear hK K) | ((with_reducible apply wq1); rfl; rfl; rfl; rfl; rfl; rfl; intro K hK; go_big_quiet_op; refine hK _ ?_; clear hK K) | ((with_reducible apply wqs); rfl; rfl; rfl; rfl; rfl; rfl; simp only [Act.put, List.setIfInBounds_toArray, List.set_cons_zero, List.set_cons_succ]) | ((with_reducible apply wqu); rfl; rfl; rfl; rfl; rfl; simp only [same]) | ((with_reducible apply wqu); rfl; rfl; rfl; rfl; rfl; simp only [Act.put, List.setIfInBounds_toArray, List.set_cons_zero, List.set_cons_succ]))
          refine wqIdx_nil ?_
          refine wpAnyR_sole (i := 6) rfl (by kernel_rfl) (fun K hK => ?_)
          go_simp
          refine hK _ _ (rk_row G12.out fun _ e => by injection e with e; exact e.symm) ?_
          clear hK K
          refine wpAnyR_done (by kernel_rfl) ?_ _
          have ht6 : ∀ r, (fun r => if r = (x1, x2) then m - 1 else t r) r ≤ 5000 := fun r => by
            show (if r = (x1, x2) then m - 1 else t r) ≤ 5000
            split
            · omega
            · exact HT5.out r
          have HO2 := Lib.hid (HO1.out.kept (grown_of_drew GW2.out) (by
            rcases hob : (Value.slice A3 o.length c3).ownBlock with _ | gg
            · exact .inl rfl
            · refine .inr fun e => ?_
              injection e with e
              have := (World.ownsRow.lt HO1.out gg hob).1
              omega))
          have HS2 := Lib.hid (HS1.out.keep GW2.out.size fun hh => GW2.out.block gS hh (fun e => by injection e with e; omega))
          have B2 := Lib.hid (HB1.out.grown (grown_of_drew GW2.out) (by rw [World.size_alloc]; have := HB.out.size; omega) fun i hi => by injection hi with hi; omega)
          have hs2 : w2.heap.size ≤ w4.heap.size := by rw [s2, World.size_drew, World.size_alloc]; omega
          have htk : o ++ takeOut (S.drop (k + 1)) (fun r => if r = (x1, x2) then m - 1 else t r) = M := by
            rw [← HG.out, HDR.out]
            congr 1
            show _ = takeOut ((x1, x2) :: S.drop (k + 1)) t
            rw [takeOut, if_pos (by rw [HTM.out]; omega)]
            congr 1
            funext r
            by_cases e : r = (x1, x2)
            · rw [if_pos e, if_pos e, e, HTM.out]
            · rw [if_neg e, if_neg e]
          go_wp2
          exact ⟨⟨k + 1, o, A3, c3, _, _, by omega, by go_num, rfl, HC2.out, HO2.out, htk, by omega, ht6, HS2.out, hs2, B2.out⟩, by simp [intOf]; omega⟩
        · refine ⟨_, rfl, fun K hK => ?_⟩
          go_simp
          refine hK _ _ (rk_row GW1.out fun _ e => by injection e with e; exact e.symm) ?_
          clear hK K
          refine batchK [5] (fuel := 3) rfl (by kernel_rfl) (by kernel_rfl) (fun _ _ d _ _ h => by cases d <;> exact h) ?_
          repeat (first | ((with_reducible apply wq0); rfl; rfl; rfl; intro K hK; go_big_quiet_op; refine hK _ ?_; clear hK K) | ((with_reducible apply wq1); rfl; rfl; rfl; rfl; rfl; rfl; intro K hK; go_big_quiet_op; refine hK _ ?_; clear hK K) | ((with_reducible apply wqs); rfl; rfl; rfl; rfl; rfl; rfl; simp only [Act.put, List.setIfInBounds_toArray, List.set_cons_zero, List.set_cons_succ]) | ((with_reducible apply wqu); rfl; rfl; rfl; rfl; rfl; simp only [same]) | ((with_reducible apply wqu); rfl; rfl; rfl; rfl; rfl; simp only [Act.put, List.setIfInBounds_toArray, List.set_cons_zero, List.set_cons_succ]))
          refine wqIdx_nil ?_
          refine wpAnyR_sole (i := 2) rfl (by kernel_rfl) (fun K hK => ?_)
          go_simp
          refine hK _ _ (RK.refl _ _) ?_
          clear hK K
          refine batchK [3] (fuel := 1) rfl (by kernel_rfl) (by kernel_rfl) (fun _ _ d _ _ h => by cases d <;> exact h) ?_
          repeat (first | ((with_reducible apply wq0); rfl; rfl; rfl; intro K hK; go_big_quiet_op; refine hK _ ?_; clear hK K) | ((with_reducible apply wq1); rfl; rfl; rfl; rfl; rfl; rfl; intro K hK; go_big_quiet_op; refine hK _ ?_; clear hK K) | ((with_reducible apply wqs); rfl; rfl; rfl; rfl; rfl; rfl; simp only [Act.put, List.setIfInBounds_toArray, List.set_cons_zero, List.set_cons_succ]) | ((with_reducible apply wqu); rfl; rfl; rfl; rfl; rfl; simp only [same]) | ((with_reducible apply wqu); rfl; rfl; rfl; rfl; rfl; simp only [Act.put, List.setIfInBounds_toArray, List.set_cons_zero, List.set_cons_succ]))
          refine wqIdx_nil ?_
          refine wpAnyR_sole (i := 6) rfl (by kernel_rfl) (fun K hK => ?_)
          go_simp
          refine hK _ _ (rk_row G12.out fun _ e => by injection e with e; exact e.symm) ?_
          clear hK K
          refine wpAnyR_done (by kernel_rfl) ?_ _
          have ht6 : ∀ r, (fun r => if r = (x1, x2) then m - 1 else t r) r ≤ 5000 := fun r => by
            show (if r = (x1, x2) then m - 1 else t r) ≤ 5000
            split
            · omega
            · exact HT5.out r
          have HO2 := Lib.hid (HO1.out.kept (grown_of_drew GW2.out) (by
            rcases hob : (Value.slice A3 o.length c3).ownBlock with _ | gg
            · exact .inl rfl
            · refine .inr fun e => ?_
              injection e with e
              have := (World.ownsRow.lt HO1.out gg hob).1
              omega))
          have HS2 := Lib.hid (HS1.out.keep GW2.out.size fun hh => GW2.out.block gS hh (fun e => by injection e with e; omega))
          have B2 := Lib.hid (HB1.out.grown (grown_of_drew GW2.out) (by rw [World.size_alloc]; have := HB.out.size; omega) fun i hi => by injection hi with hi; omega)
          have hs2 : w2.heap.size ≤ w4.heap.size := by rw [s2, World.size_drew, World.size_alloc]; omega
          have htk : o ++ takeOut (S.drop (k + 1)) (fun r => if r = (x1, x2) then m - 1 else t r) = M := by
            rw [← HG.out, HDR.out]
            congr 1
            show _ = takeOut ((x1, x2) :: S.drop (k + 1)) t
            rw [takeOut, if_pos (by rw [HTM.out]; omega)]
            congr 1
            funext r
            by_cases e : r = (x1, x2)
            · rw [if_pos e, if_pos e, e, HTM.out]
            · rw [if_neg e, if_neg e]
          go_wp2
          exact ⟨⟨k + 1, o, A3, c3, _, _, by omega, by go_num, rfl, HC2.out, HO2.out, htk, by omega, ht6, HS2.out, hs2, B2.out⟩, by simp [intOf]; omega⟩
      · have hm00 : m = 0 := by omega
        subst hm00
        have d1 : decide ((0 : Int) < ((0 : Nat) : Int)) = false := rfl
        have HOX := Lib.hid (World.ownsRow.alloc HO1.out (.cells #[.int .i64 x1, .int .i64 x2] 24))
        have hrx := reads_one (wr.alloc (.cells #[.int .i64 x1, .int .i64 x2] 24)) (x1, x2) 24
        rw [World.size_alloc] at hrx
        have HRX := Lib.hid hrx
        clear hrx
        have HSX := Lib.hid (show w2.heap.size ≤ ((wr.alloc (.cells #[.int .i64 x1, .int .i64 x2] 24)).alloc (.cells #[.int .i64 x1, .int .i64 x2] 24)).heap.size by rw [World.size_alloc, World.size_alloc]; omega)
        go_wp2_with (at_builtin; (refine wpList_appP _ rfl (.tmp 36) (.tmp 38) _ rfl Try.underlying22 info_rec3 HOX.out HRX.out 1 rfl rfl (by omega) HSX.out ?_); intro A5 c5 w5 o5 gr5; have O5 := Lib.hid o5; have G5 := Lib.hid gr5; clear o5 gr5)
        have hrow : ∀ i, (Value.slice A3 o.length c3).ownBlock = some i → w2.heap.size ≤ i := fun i hi => (World.ownsRow.lt HOX.out i hi).1
        have hn1 : some mb ≠ (Value.slice A3 o.length c3).ownBlock := fun e => by have := hrow mb e.symm; omega
        have hn2 : some gS ≠ (Value.slice A3 o.length c3).ownBlock := fun e => by have := hrow gS e.symm; omega
        have C5 := Lib.hid ((HC1.out.kept (World.grownBy_alloc _ (.cells #[.int .i64 x1, .int .i64 x2] 24) none) (by simp)).kept (Grew.by_ G5.out) hn1)
        have HS1b := HS1.out.below (alloc_below _ (.cells #[.int .i64 x1, .int .i64 x2] 24))
        have S5 := Lib.hid (HS1b.keep (Grew.by_ G5.out).size fun hh => (Grew.by_ G5.out).block gS hh hn2)
        have B5 := Lib.hid ((HB1.out.alloc (by have := HB1.out.size; omega) (.cells #[.int .i64 x1, .int .i64 x2] 24)).grown (Grew.by_ G5.out) (by have := HSX.out; omega) fun i hi => by have := hrow i hi; omega)
        have hs5 : w2.heap.size ≤ w5.heap.size := Nat.le_trans HSX.out (Grew.by_ G5.out).size
        refine ⟨⟨k + 1, o ++ [(x1, x2)], A5, c5, t, ks, by omega, by go_num, by rw [List.length_append]; rfl, C5.out.mono (by omega), ?_, ?_, ?_, HT5.out, S5.out, hs5, B5.out⟩, by simp [intOf]; omega⟩
        · rw [List.length_append]; exact O5.out
        · rw [← HG.out, HDR.out, takeOut, if_neg (by rw [HTM.out]; omega), List.append_assoc]
          rfl
        · rw [List.length_append]; simp; omega
    · obtain rfl : k = S.length := by omega
      have hg := HG.out
      rw [List.drop_length] at hg
      have hoM : o = M := by simpa [takeOut] using hg
      subst hoM
      go_wp2
      go_ret2
      exact ⟨A3, c3, rfl, RowS.own HB.out HO.out (by omega)⟩
end Go.Proofs.Ytibhofdblfgkbaa
