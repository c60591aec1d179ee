/- The law of package entry about what bytes are as a pack. -/
import Derived.Test.YtfilelgbffbnlaaEnL
import Derived.Test.YtfilelgbffbnlaaEnI
namespace Go.Proofs.Ytfilelgbffbnlaa
open Go.RowKit Go.Sort

theorem readMo_inv {b r : List UInt8} (h : (readMo (some b)).2 = 0) (hr : readS (some b) = some r) : b = putMo (readMo (some b)).1.1 (readMo (some b)).1.2 ++ r ∧ okMo (readMo (some b)).1 = true := by
  unfold readS at hr
  unfold readMo at h ⊢
  rw [if_neg (by rw [hr]; simp)] at h ⊢
  generalize h1 : numM (some b) = p at *
  obtain ⟨x, s1⟩ := p
  simp only at *
  cases s1 with
  | none =>
    rw [numM_none] at hr
    cases hr
  | some b1 =>
    generalize h2 : numM (some b1) = q at *
    obtain ⟨y, s2⟩ := q
    simp only at *
    subst hr
    obtain ⟨e1, -⟩ := numM_inv h1
    obtain ⟨e2, -⟩ := numM_inv h2
    split at h
    · rename_i hok
      rw [if_pos hok]
      refine ⟨?_, hok⟩
      show b = (putL (x : Int).toNat ++ putL (y : Int).toNat) ++ r
      rw [Int.toNat_natCast, Int.toNat_natCast, e1, e2, List.append_assoc]
    · cases h
theorem readRec_inv {b r : List UInt8} (h : (readRec (some b)).2 = 0) (hr : readS (some b) = some r) : b = putMo (readRec (some b)).1.1 (readRec (some b)).1.2 ++ r ∧ okRec (readRec (some b)).1 = true := by
  unfold readS at hr
  unfold readRec at h ⊢
  rw [if_neg (by rw [hr]; simp)] at h ⊢
  generalize h1 : numM (some b) = p at *
  obtain ⟨x, s1⟩ := p
  simp only at *
  cases s1 with
  | none =>
    rw [numM_none] at hr
    cases hr
  | some b1 =>
    generalize h2 : numM (some b1) = q at *
    obtain ⟨y, s2⟩ := q
    simp only at *
    subst hr
    obtain ⟨e1, -⟩ := numM_inv h1
    obtain ⟨e2, -⟩ := numM_inv h2
    split at h
    · rename_i hok
      rw [if_pos hok]
      refine ⟨?_, hok⟩
      show b = (putL (x : Int).toNat ++ putL (y : Int).toNat) ++ r
      rw [Int.toNat_natCast, Int.toNat_natCast, e1, e2, List.append_assoc]
    · cases h
/-- What entries are as bytes, one behind the other. -/
def catE (l : List En) : List UInt8 := l.flatMap putE
theorem unp_inv : ∀ (n : Nat) (r : List UInt8) (l : List En), unpL n (some r) = some l → r.length ≤ n → r = catE l ∧ ∀ x ∈ l, okEn x = true
  | 0, r, l, h, hn => by
    have e : r = [] := List.eq_nil_of_length_eq_zero (by omega)
    injection h with h
    subst h e
    exact ⟨rfl, fun x hx => by cases hx⟩
  | n + 1, r, l, h, hn => by
    unfold unpL at h
    by_cases h0 : leftM (some r) = 0
    · rw [if_pos h0] at h
      have e : r = [] := List.eq_nil_of_length_eq_zero h0
      injection h with h
      subst h e
      exact ⟨rfl, fun x hx => by cases hx⟩
    · rw [if_neg h0] at h
      by_cases hk : (readMo (some r)).2 = 0 ∧ (readRec (readS (some r))).2 = 0
      · rw [if_pos hk, Option.map_eq_some_iff] at h
        obtain ⟨l', h1, rfl⟩ := h
        obtain ⟨r1, hr1⟩ := Option.ne_none_iff_exists'.1 (readMo_some hk.1)
        obtain ⟨k1, k2⟩ := hk
        obtain ⟨e1, o1⟩ := readMo_inv k1 hr1
        rw [hr1] at k2 h1 ⊢
        obtain ⟨r2, hr2⟩ := Option.ne_none_iff_exists'.1 (readRec_some k2)
        obtain ⟨e2, o2⟩ := readRec_inv k2 hr2
        have hl := readS_lt (some r) (readMo_some k1)
        have hl2 := readS_lt (some r1) (readRec_some k2)
        rw [hr1] at hl
        rw [hr2] at hl2 h1
        have hl' : r1.length + 2 ≤ r.length := hl
        have hl2' : r2.length + 2 ≤ r1.length := hl2
        obtain ⟨e3, o3⟩ := unp_inv n r2 l' h1 (by omega)
        refine ⟨?_, fun x hx => ?_⟩
        · show r = putE ((readMo (some r)).1, (readRec (some r1)).1) ++ catE l'
          unfold putE
          rw [List.append_assoc, ← e3, ← e2, ← e1]
        · rcases List.mem_cons.1 hx with rfl | hx
          · show (okMo (readMo (some r)).1 && okRec (readRec (some r1)).1) = true
            rw [o1, o2]; rfl
          · exact o3 x hx
      · rw [if_neg hk] at h; cases h
theorem pack_fold : ∀ (l : List En) (acc : List UInt8), acc.length + (catE l).length ≤ 43 → l.foldl stepP ([], acc) = ([], acc ++ catE l)
  | [], acc, _ => by show ([], acc) = ([], acc ++ []); rw [List.append_nil]
  | x :: l, acc, h => by
    have hc : catE (x :: l) = putE x ++ catE l := rfl
    rw [hc, List.length_append] at h
    rw [List.foldl_cons]
    have hs : stepP ([], acc) x = ([], acc ++ putE x) := by
      unfold stepP
      rw [if_neg (by simp only; omega)]
    rw [hs, pack_fold l (acc ++ putE x) (by rw [List.length_append]; omega), hc, List.append_assoc]
theorem pack_cat (l : List En) (h : (catE l).length ≤ 43) : packM l = if (catE l).length = 0 then [] else [catE l] := by
  have hp : packS l = ([], catE l) := by
    unfold packS
    rw [pack_fold l [] (by simpa using h), List.nil_append]
  unfold packM
  rw [hp]
  rfl
theorem firstE_all : ∀ (l : List En), (∀ x ∈ l, okEn x = true) → firstE l = 0
  | [], _ => rfl
  | x :: l, h => by
    unfold firstE
    have h0 : enE x = 0 := by
      have := enE_zero x
      rw [h x (List.mem_cons_self ..)] at this
      simpa using this
    rw [if_pos h0]
    exact firstE_all l fun y hy => h y (List.mem_cons_of_mem _ hy)
theorem catE_len : ∀ (l : List En), (∀ x ∈ l, okEn x = true) → l.length ≤ (catE l).length
  | [], _ => Nat.le_refl _
  | x :: l, h => by
    have h1 := putE_len x (h x (List.mem_cons_self ..))
    have h2 := catE_len l fun y hy => h y (List.mem_cons_of_mem _ hy)
    have hc : catE (x :: l) = putE x ++ catE l := rfl
    rw [hc, List.length_append, List.length_cons]
    omega
theorem unp_may {b : List UInt8} {l : List En} (h : unpM b = some l) (hb : b.length ≤ 43) : mayEs l = 0 ∧ l.length ≤ 43 ∧ packM l = if b.length = 0 then [] else [b] := by
  obtain ⟨e, ho⟩ := unp_inv _ _ _ h (Nat.le_refl _)
  have h1 := catE_len l ho
  rw [← e] at h1
  refine ⟨?_, by omega, ?_⟩
  · unfold mayEs
    rw [if_pos (firstE_all l ho), if_neg (by omega)]
  · rw [pack_cat l (by rw [← e]; exact hb), ← e]
/-- One pack's row: these bytes. -/
def OneG (w : World) (A' : Option Addr) (l : List UInt8) : Prop :=
  ∃ (g : Nat) (A2 : Option Addr) (h2 c2 : Nat), A' = some ⟨g, 0, none⟩ ∧ w.cell? ⟨g, 0, none⟩ = some (.slice A2 l.length c2) ∧ g < w.heap.size ∧ SlB w h2 A2 l
theorem OneG.below {w w' : World} {A' : Option Addr} {l : List UInt8} (h : OneG w A' l) (hb : Below w.heap.size w w') : OneG w' A' l := by
  obtain ⟨g, A2, h2, c2, e, hc, hg, hs⟩ := h
  exact ⟨g, A2, h2, c2, e, (hb.cell (p := ⟨g, 0, none⟩) hg).trans hc, Nat.lt_of_lt_of_le hg hb.size, hs.below hb fun h => h⟩
theorem Pgs.oneG {w : World} {base c : Nat} {A' : Option Addr} {l : List UInt8} (h : Pgs w base (.slice A' 1 c) [l]) : OneG w A' l := by
  obtain ⟨xs, hl, ho, hp⟩ := h
  obtain ⟨x, rfl⟩ : ∃ x, xs = [x] := by
    match xs, hl with
    | [x], _ => exact ⟨x, rfl⟩
  obtain ⟨A2, n2, c2⟩ := x
  have h1 := hp 0 _ _ rfl rfl
  obtain ⟨hn, ho2⟩ := h1
  simp only at hn
  subst hn
  obtain ⟨g, cap, hv, -, -⟩ := ho.form (by simp)
  injection hv with hv1 hv2 hv3
  subst hv1
  obtain ⟨h2, -, hs, -⟩ := SlB.of_own ho2
  exact ⟨g, A2, h2, c2, rfl, own_cell ho (j := 0) rfl, (World.ownsRow.lt ho g rfl).2, hs⟩
set_option maxRecDepth 100000 in
set_option maxHeartbeats 4000000 in
theorem enRd_any (A : Option Addr) (h : Nat) (b : List UInt8) (c : Nat) (w : World) (hl : SlB w h A b) :
    Calls Try.prog 8 #[.slice A b.length c] w fun e w' => e = .returned (.bool true) ∧ Below w.heap.size w w' := by
  have PL := Lib.hid (fun W => lives_any W)
  by_cases h1 : 1000 < b.length
  · have d1 : decide ((1000 : Int) < (b.length : Int)) = true := by rw [decide_eq_true_eq]; omega
    clear hl
    go_enter Try.func8, Try.ntmps8
    go_wp2_with fail
    refine (PL.out _).mono ?_; rintro e w1 ⟨rfl, b1⟩
    go_wp2
    go_ret
    exact ⟨rfl, b1⟩
  · have d1 : decide ((1000 : Int) < (b.length : Int)) = false := by rw [decide_eq_false_iff_not]; omega
    by_cases h43 : 43 < b.length
    · have d2 : decide ((43 : Int) < (b.length : Int)) = true := by rw [decide_eq_true_eq]; omega
      have P1 := Lib.hid (en_unpack_long A b c w h43)
      clear hl h43 h1
      go_enter Try.func8, Try.ntmps8
      go_wp2_with fail
      refine P1.out.mono ?_; rintro e w1 ⟨rfl, b1⟩
      go_wp2_with fail
      refine (PL.out _).mono ?_; rintro e w2 ⟨rfl, b2⟩
      go_wp2
      go_ret
      exact ⟨rfl, below_trans b1 b2⟩
    · have d2 : decide ((43 : Int) < (b.length : Int)) = false := by rw [decide_eq_false_iff_not]; omega
      have P1 := Lib.hid (en_unpack_any A h b c w hl (by omega))
      have P2 := Lib.hid (fun W (k : Below w.heap.size w W) => ren_unpack_any A h b c W (hl.below k fun h => h) (by omega))
      have SB := Lib.hid (fun W (k : Below w.heap.size w W) => hl.below k fun h => h)
      have hm := fun l (e : unpM b = some l) => unp_may e (show b.length ≤ 43 by omega)
      generalize unpM b = Z at P1 P2 hm
      clear hl h1 h43
      cases Z with
      | none =>
        clear hm
        go_enter Try.func8, Try.ntmps8
        go_wp2_with fail
        refine P1.out.mono ?_; rintro e w1 (⟨-, rfl, b1⟩ | ⟨l, A', c', hz, -⟩)
        rotate_left
        · cases hz
        have B1 := Lib.hid b1
        clear b1
        go_wp2_with fail
        refine (PL.out _).mono ?_; rintro e w2 ⟨rfl, b2⟩
        have B2 := Lib.hid (below_trans B1.out b2)
        clear b2
        go_wp2_with fail
        refine (P2.out _ B2.out).mono ?_; rintro e w3 (⟨-, rfl, b3⟩ | ⟨l, A', c', hz, -⟩)
        rotate_left
        · cases hz
        go_wp2
        go_ret
        exact ⟨rfl, below_trans B2.out b3⟩
      | some l =>
        obtain ⟨m0, ml, mp⟩ := hm l rfl
        have P3 := Lib.hid (fun W A' g' c' (s : SlK encE W g' A' l) => show Calls Try.prog 42 #[.slice A' l.length c'] W (fun e w' => ∃ A2 c2, e = .returned (.tuple #[.slice A2 (packM l).length c2, .int .i64 0]) ∧ Pgs w' W.heap.size (.slice A2 (packM l).length c2) (packM l) ∧ Below W.heap.size W w') from (en_pack_any A' g' l c' W s (by omega)).mono fun e w' => by
          rintro (⟨hz, -⟩ | ⟨-, A2, c2, he, hr⟩)
          · exact absurd m0 hz
          · exact ⟨A2, c2, he, hr⟩)
        have P4 := Lib.hid (fun W A1 A2 h1 h2 c1 c2 (s1 : SlK encE W h1 A1 l) (s2 : SlK encE W h2 A2 l) => ren_same_any A1 A2 h1 h2 l l c1 c2 W s1 s2 (by omega) (by omega))
        rw [show (l == l) = true from beq_self_eq_true l] at P4
        rw [mp] at P3
        clear m0 mp hm
        by_cases hb0 : b.length = 0
        · rw [if_pos hb0] at P3
          have d3 : ((b.length : Int) == 0) = true := by rw [beq_iff_eq]; omega
          clear hb0
          go_enter Try.func8, Try.ntmps8
          go_wp2_with fail
          refine P1.out.mono ?_; rintro e w1 (⟨hz, -⟩ | ⟨l', A1, c1, hz, rfl, ⟨g1, s1⟩, b1, -⟩)
          · cases hz
          injection hz with hz
          subst hz
          have B1 := Lib.hid b1
          have S1 := Lib.hid s1
          clear b1 s1
          go_wp2_with fail
          refine (PL.out _).mono ?_; rintro e w2 ⟨rfl, b2⟩
          have B2 := Lib.hid (below_trans B1.out b2)
          have S2 := Lib.hid (S1.out.below b2)
          clear b2
          go_wp2_with fail
          refine (P2.out _ B2.out).mono ?_; rintro e w3 (⟨hz, -⟩ | ⟨l', A3, c3, hz, rfl, ⟨g3, s3⟩, b3, -⟩)
          · cases hz
          injection hz with hz
          subst hz
          have B3 := Lib.hid (below_trans B2.out b3)
          have S3 := Lib.hid (S2.out.below b3)
          have T3 := Lib.hid s3
          clear b3 s3
          go_wp2_with fail
          refine (P3.out _ _ _ _ S3.out).mono ?_; rintro e w4 ⟨A4, c4, rfl, o4, b4⟩
          have B4 := Lib.hid (below_drew (below_trans B3.out b4))
          have S4 := Lib.hid (show SlK encE w4.drew _ _ _ from S3.out.below (below_drew b4))
          have T4 := Lib.hid (show SlK encE w4.drew _ _ _ from T3.out.below (below_drew b4))
          clear b4 o4
          go_wp2_with fail
          refine wp_region_R (R := RB) (n := 36) (by kernel_rfl) rfl ?_
          refine batchB [0, 1, 2, 3, 4] (fuel := 31) rfl (by kernel_rfl) (by kernel_rfl) (fun _ _ d _ _ h => by cases d <;> exact h) ?_; (repeat (first | ((with_reducible apply wq0); rfl; rfl; rfl; intro K hK; go_big_quiet_op; refine hK _ ?_; clear hK K) | ((with_reducible apply wq1); rfl; rfl; rfl; rfl; rfl; rfl; intro K hK; go_big_quiet_op; refine hK _ ?_; clear hK K) | ((with_reducible apply wqs); rfl; rfl; rfl; rfl; rfl; rfl; simp only [Act.put, List.setIfInBounds_toArray, List.set_cons_zero, List.set_cons_succ]) | ((with_reducible apply wqu); rfl; rfl; rfl; rfl; rfl; (first | simp only [same, Act.put, List.setIfInBounds_toArray, List.set_cons_zero, List.set_cons_succ] | simp only [Act.put, List.setIfInBounds_toArray, List.set_cons_zero, List.set_cons_succ])))); refine wqIdx_nil ?_
          refine wpAnyR_sole (i := 5) rfl (by kernel_rfl) (fun K hK => ?_); go_simp
          refine (P4.out _ _ _ _ _ _ _ S4.out T4.out).mono ?_; rintro e w5 ⟨rfl, b5⟩
          refine hK _ _ b5 ?_
          clear hK K
          have B5 := Lib.hid (below_trans B4.out b5)
          clear b5
          refine batchB [6, 7, 8, 9, 10, 11, 12, 13, 14, 15, 16, 17, 18, 19, 20, 21, 22, 23, 24, 25, 26, 27, 28, 29, 30, 31, 32, 33, 34, 35] (fuel := 0) rfl (by kernel_rfl) (by kernel_rfl) (fun _ _ d _ _ h => by cases d <;> exact h) ?_
          (repeat (first | ((with_reducible apply wq0); rfl; rfl; rfl; intro K hK; go_big_quiet_op; refine hK _ ?_; clear hK K) | ((with_reducible apply wq1); rfl; rfl; rfl; rfl; rfl; rfl; intro K hK; go_big_quiet_op; refine hK _ ?_; clear hK K) | ((with_reducible apply wqs); rfl; rfl; rfl; rfl; rfl; rfl; simp only [Act.put, List.setIfInBounds_toArray, List.set_cons_zero, List.set_cons_succ]) | ((with_reducible apply wqu); rfl; rfl; rfl; rfl; rfl; (first | simp only [same, Act.put, List.setIfInBounds_toArray, List.set_cons_zero, List.set_cons_succ] | simp only [Act.put, List.setIfInBounds_toArray, List.set_cons_zero, List.set_cons_succ]))))
          refine wqIdx_nil ?_
          refine wpAnyR_done (by kernel_rfl) ?_ _
          go_wp2
          go_ret
          exact ⟨rfl, B5.out⟩
        · rw [if_neg hb0] at P3
          have d3 : ((b.length : Int) == 0) = false := by rw [beq_eq_false_iff_ne]; omega
          clear hb0
          go_enter Try.func8, Try.ntmps8
          go_wp2_with fail
          refine P1.out.mono ?_; rintro e w1 (⟨hz, -⟩ | ⟨l', A1, c1, hz, rfl, ⟨g1, s1⟩, b1, -⟩)
          · cases hz
          injection hz with hz
          subst hz
          have B1 := Lib.hid b1
          have S1 := Lib.hid s1
          clear b1 s1
          go_wp2_with fail
          refine (PL.out _).mono ?_; rintro e w2 ⟨rfl, b2⟩
          have B2 := Lib.hid (below_trans B1.out b2)
          have S2 := Lib.hid (S1.out.below b2)
          clear b2
          go_wp2_with fail
          refine (P2.out _ B2.out).mono ?_; rintro e w3 (⟨hz, -⟩ | ⟨l', A3, c3, hz, rfl, ⟨g3, s3⟩, b3, -⟩)
          · cases hz
          injection hz with hz
          subst hz
          have B3 := Lib.hid (below_trans B2.out b3)
          have S3 := Lib.hid (S2.out.below b3)
          have T3 := Lib.hid s3
          clear b3 s3
          go_wp2_with fail
          refine (P3.out _ _ _ _ S3.out).mono ?_; rintro e w4 ⟨A4, c4, rfl, o4, b4⟩
          have B4 := Lib.hid (below_drew (below_trans B3.out b4))
          have S4 := Lib.hid (show SlK encE w4.drew _ _ _ from S3.out.below (below_drew b4))
          have T4 := Lib.hid (show SlK encE w4.drew _ _ _ from T3.out.below (below_drew b4))
          have O4 := Lib.hid (show OneG w4.drew A4 b from o4.oneG.below (below_drew (Below.refl _ _)))
          clear b4 o4
          go_wp2_with fail
          refine wp_region_R (R := RB) (n := 36) (by kernel_rfl) rfl ?_
          refine batchB [0, 1, 2, 3, 4] (fuel := 31) rfl (by kernel_rfl) (by kernel_rfl) (fun _ _ d _ _ h => by cases d <;> exact h) ?_; (repeat (first | ((with_reducible apply wq0); rfl; rfl; rfl; intro K hK; go_big_quiet_op; refine hK _ ?_; clear hK K) | ((with_reducible apply wq1); rfl; rfl; rfl; rfl; rfl; rfl; intro K hK; go_big_quiet_op; refine hK _ ?_; clear hK K) | ((with_reducible apply wqs); rfl; rfl; rfl; rfl; rfl; rfl; simp only [Act.put, List.setIfInBounds_toArray, List.set_cons_zero, List.set_cons_succ]) | ((with_reducible apply wqu); rfl; rfl; rfl; rfl; rfl; (first | simp only [same, Act.put, List.setIfInBounds_toArray, List.set_cons_zero, List.set_cons_succ] | simp only [Act.put, List.setIfInBounds_toArray, List.set_cons_zero, List.set_cons_succ])))); refine wqIdx_nil ?_
          refine wpAnyR_sole (i := 5) rfl (by kernel_rfl) (fun K hK => ?_); go_simp
          refine (P4.out _ _ _ _ _ _ _ S4.out T4.out).mono ?_; rintro e w5 ⟨rfl, b5⟩
          refine hK _ _ b5 ?_
          clear hK K
          have B5 := Lib.hid (below_trans B4.out b5)
          obtain ⟨gp, A9, h9, c9, eP, cP, -, sP⟩ := O4.out.below b5
          subst eP
          have SP := Lib.hid sP
          have CP := Lib.hid cP
          have SBB := Lib.hid (SB.out _ B5.out)
          clear cP sP
          clear b5
          refine batchB [6, 7, 8, 9, 10, 11, 12, 13, 14, 15, 16, 17, 18, 19, 20, 21, 22, 23, 24, 25, 26, 27, 28, 29, 30, 31, 32, 33, 34, 35] (fuel := 0) rfl (by kernel_rfl) (by kernel_rfl) (fun _ _ d _ _ h => by cases d <;> exact h) ?_
          (repeat (first | ((with_reducible apply wq0); rfl; rfl; rfl; intro K hK; go_big_quiet_op; refine hK _ ?_; clear hK K) | ((with_reducible apply wq1); rfl; rfl; rfl; rfl; rfl; rfl; intro K hK; go_big_quiet_op; refine hK _ ?_; clear hK K) | ((with_reducible apply wqs); rfl; rfl; rfl; rfl; rfl; rfl; simp only [Act.put, List.setIfInBounds_toArray, List.set_cons_zero, List.set_cons_succ]) | ((with_reducible apply wqu); rfl; rfl; rfl; rfl; rfl; (first | simp only [same, Act.put, List.setIfInBounds_toArray, List.set_cons_zero, List.set_cons_succ] | simp only [Act.put, List.setIfInBounds_toArray, List.set_cons_zero, List.set_cons_succ]))))
          refine wqIdx_load rfl rfl rfl rfl (fun W hW => load_sl_at _ A9 b.length c9 W (keep_cell hW CP.out)) ?_
          simp only [Act.put, List.setIfInBounds_toArray, List.set_cons_zero, List.set_cons_succ]
          (repeat (first | ((with_reducible apply wq0); rfl; rfl; rfl; intro K hK; go_big_quiet_op; refine hK _ ?_; clear hK K) | ((with_reducible apply wq1); rfl; rfl; rfl; rfl; rfl; rfl; intro K hK; go_big_quiet_op; refine hK _ ?_; clear hK K) | ((with_reducible apply wqs); rfl; rfl; rfl; rfl; rfl; rfl; simp only [Act.put, List.setIfInBounds_toArray, List.set_cons_zero, List.set_cons_succ]) | ((with_reducible apply wqu); rfl; rfl; rfl; rfl; rfl; (first | simp only [same, Act.put, List.setIfInBounds_toArray, List.set_cons_zero, List.set_cons_succ] | simp only [Act.put, List.setIfInBounds_toArray, List.set_cons_zero, List.set_cons_succ]))))
          refine wqIdx_conv rfl rfl rfl rfl (conv_at SP.out c9 rfl) ?_
          simp only [Act.put, List.setIfInBounds_toArray, List.set_cons_zero, List.set_cons_succ]
          (repeat (first | ((with_reducible apply wq0); rfl; rfl; rfl; intro K hK; go_big_quiet_op; refine hK _ ?_; clear hK K) | ((with_reducible apply wq1); rfl; rfl; rfl; rfl; rfl; rfl; intro K hK; go_big_quiet_op; refine hK _ ?_; clear hK K) | ((with_reducible apply wqs); rfl; rfl; rfl; rfl; rfl; rfl; simp only [Act.put, List.setIfInBounds_toArray, List.set_cons_zero, List.set_cons_succ]) | ((with_reducible apply wqu); rfl; rfl; rfl; rfl; rfl; (first | simp only [same, Act.put, List.setIfInBounds_toArray, List.set_cons_zero, List.set_cons_succ] | simp only [Act.put, List.setIfInBounds_toArray, List.set_cons_zero, List.set_cons_succ]))))
          refine wqIdx_conv rfl rfl rfl rfl (conv_at SBB.out c rfl) ?_
          simp only [Act.put, List.setIfInBounds_toArray, List.set_cons_zero, List.set_cons_succ]
          (repeat (first | ((with_reducible apply wq0); rfl; rfl; rfl; intro K hK; go_big_quiet_op; refine hK _ ?_; clear hK K) | ((with_reducible apply wq1); rfl; rfl; rfl; rfl; rfl; rfl; intro K hK; go_big_quiet_op; refine hK _ ?_; clear hK K) | ((with_reducible apply wqs); rfl; rfl; rfl; rfl; rfl; rfl; simp only [Act.put, List.setIfInBounds_toArray, List.set_cons_zero, List.set_cons_succ]) | ((with_reducible apply wqu); rfl; rfl; rfl; rfl; rfl; (first | simp only [same, Act.put, List.setIfInBounds_toArray, List.set_cons_zero, List.set_cons_succ] | simp only [Act.put, List.setIfInBounds_toArray, List.set_cons_zero, List.set_cons_succ]))))
          refine wqIdx_nil ?_
          refine wpAnyR_done (by kernel_rfl) ?_ _
          go_wp2
          go_ret
          exact ⟨rfl, B5.out⟩
end Go.Proofs.Ytfilelgbffbnlaa
