/- The law EditCodes. -/
import Derived.Test.YtfmmdnjoichifaaEdR
import Derived.Test.YtfmmdnjoichifaaEdDF
namespace Go.Proofs.Ytfmmdnjoichifaa
open Go.RowKit Go.Sort

set_option maxRecDepth 100000 in
set_option maxHeartbeats 16000000 in
theorem edcodes_any (a : Ed) (A : Option Addr) (c : Nat) (b : Ed) (B : Option Addr) (d : Nat) (w : World) (ha : RfAt w w.heap.size A a.refs ∧ small a.refs) (hb : RfAt w w.heap.size B b.refs ∧ small b.refs) :
    Calls Try.prog 4 #[edV a A c, edV b B d] w fun x w' => x = .returned (.bool true) ∧ Below w.heap.size w w' := by
  have b0 := below_trans (alloc_below w (.cells (edCs a A c) 50)) (alloc_below _ (.cells (edCs b B d) 50))
  have B0 := Lib.hid b0
  have XA := Lib.hid ((Blk.new w 50 (edCs a A c)).later (alloc_below _ (.cells (edCs b B d) 50)))
  have xb := Blk.new (w.alloc (.cells (edCs a A c) 50)) 50 (edCs b B d)
  rw [World.size_alloc] at xb
  have XB := Lib.hid xb
  have RA := Lib.hid (ha.1.below b0)
  have RB' := Lib.hid (hb.1.below b0)
  have PLA := Lib.hid (large_any a A c w.heap.size _ RA.out ha.2)
  have PLB := Lib.hid (fun W (h : RfAt W w.heap.size B b.refs) => large_any b B d w.heap.size W h hb.2)
  obtain ⟨ka, ea, ra, fa⟩ := a
  obtain ⟨kb, eb, rb, fb⟩ := b
  obtain ⟨-, p0, p1, p2, p3⟩ := EdBox.of XA.out
  obtain ⟨-, q0, q1, q2, q3⟩ := EdBox.of XB.out
  clear b0 xb ha hb
  unfold edV edCs at *
  simp only at *
  go_enter Try.func4, Try.ntmps4
  go_wp2_with fail
  refine PLA.out.mono ?_; rintro x w1 ⟨la, rfl, hla, b1⟩
  have HLA := Lib.hid hla
  have B1 := Lib.hid (below_trans B0.out b1)
  have XA1 := Lib.hid (XA.out.later b1)
  have XB1 := Lib.hid (XB.out.later b1)
  have RA1 := Lib.hid (RA.out.below b1)
  have RB1 := Lib.hid (RB'.out.below b1)
  clear b1 hla p0 p1 p2 p3 q0 q1 q2 q3 PLA XA XB RA RB'
  cases la
  rotate_left
  · go_wp2_with fail
    refine (elives_any _).mono ?_; rintro x w2 ⟨rfl, b2⟩
    have B2 := Lib.hid (B1.out.trans (b2.mono B1.out.size))
    go_wp2_with fail
    go_ret
    exact ⟨rfl, B2.out⟩
  obtain ⟨q0, q1, q2, q3⟩ := (EdBox.of (e := ⟨kb, eb, rb, fb⟩) XB1.out).2
  simp only at q0 q1 q2 q3
  go_wp2_with fail
  refine (PLB.out _ RB1.out).mono ?_; rintro x w2 ⟨lb, rfl, hlb, b2⟩
  have HLB := Lib.hid hlb
  have B2 := Lib.hid (B1.out.trans (b2.mono B1.out.size))
  have XA2 := Lib.hid (XA1.out.later b2)
  have XB2 := Lib.hid (XB1.out.later b2)
  have RA2 := Lib.hid (RA1.out.below b2)
  have RB2 := Lib.hid (RB1.out.below b2)
  clear b2 hlb q0 q1 q2 q3 PLB XA1 XB1 RA1 RB1
  cases lb
  rotate_left
  · go_wp2_with fail
    refine (elives_any _).mono ?_; rintro x w3 ⟨rfl, b3⟩
    have B3 := Lib.hid (B2.out.trans (b3.mono B2.out.size))
    go_wp2_with fail
    go_ret
    exact ⟨rfl, B3.out⟩
  have la3 : fa.length ≤ 300 := HLA.out (by first | rfl | trivial)
  have lb3 : fb.length ≤ 300 := HLB.out (by first | rfl | trivial)
  obtain ⟨p0, p1, p2, p3⟩ := (EdBox.of (e := ⟨ka, ea, ra, fa⟩) XA2.out).2
  simp only at p0 p1 p2 p3
  have PP := Lib.hid (show Calls Try.prog 24 #[edV ⟨ka, ea, ra, fa⟩ A c] w2 fun x w' => ∃ A3 n3 c3 er, x = .returned (.tuple #[.slice A3 n3 c3, .int .i64 er]) ∧ Below w2.heap.size w2 w' ∧ (okEd ⟨ka, ea, ra, fa⟩ = false → n3 = 0 ∧ er = 140) ∧ (okEd ⟨ka, ea, ra, fa⟩ = true → n3 = (putEd ⟨ka, ea, ra, fa⟩).length ∧ er = 0 ∧ w'.ownsRow w2.heap.size 5 1 (.slice A3 n3 c3) n3 (Byt (putEd ⟨ka, ea, ra, fa⟩))) by
    cases hok : okEd ⟨ka, ea, ra, fa⟩
    · exact (ed_put_no ⟨ka, ea, ra, fa⟩ A c w.heap.size w2 RA2.out (by show fa.length ≤ 1000000; omega) hok).mono fun x w' ⟨h1, h2⟩ => ⟨none, 0, 0, 140, h1, h2, fun _ => ⟨rfl, rfl⟩, fun h => (by cases h)⟩
    · exact (ed_put_ok ⟨ka, ea, ra, fa⟩ A c w.heap.size w2 RA2.out hok).mono fun x w' ⟨A3, c3, h1, h2, h3⟩ => ⟨A3, _, c3, 0, h1, h3, fun h => (by cases h), fun _ => ⟨rfl, rfl, h2⟩⟩)
  unfold edV at PP
  simp only at PP
  go_wp2_with fail
  refine PP.out.mono ?_; rintro x w3 ⟨A3, n3, c3, er, rfl, b3, hno, hyes⟩
  have B3 := Lib.hid (B2.out.trans (b3.mono B2.out.size))
  have XA3 := Lib.hid (XA2.out.later b3)
  have XB3 := Lib.hid (XB2.out.later b3)
  have RA3 := Lib.hid (RA2.out.below b3)
  have RB3 := Lib.hid (RB2.out.below b3)
  have HNO := Lib.hid hno
  have HYES := Lib.hid hyes
  clear b3 p0 p1 p2 p3 PP XA2 XB2 RA2 RB2 B2 hno hyes
  go_wp2_with fail
  refine wp_region_J RT [] (n := 11) (by kernel_rfl) rfl ?_
  refine wpAnyJ_sole (i := 0) rfl (by kernel_rfl) (fun K hK => ?_); go_simp
  refine (elives_any _).mono ?_; rintro x w4 ⟨rfl, b4⟩
  refine hK _ _ ⟨fun _ => b4, trivial⟩ ?_
  clear hK K
  have b4' := Below.of_drew0 b4
  have B4 := Lib.hid (B3.out.trans (b4'.mono B3.out.size))
  have XA4 := Lib.hid (XA3.out.later b4')
  have XB4 := Lib.hid (XB3.out.later b4')
  have RA4 := Lib.hid (RA3.out.below b4')
  have RB4 := Lib.hid (RB3.out.below b4')
  have HY4 := Lib.hid (fun h => (HYES.out h).imp id fun h => h.imp id fun h => own_below h b4')
  have CA := Lib.hid (EdBox.of (e := ⟨ka, ea, ra, fa⟩) XA4.out).2
  have CB := Lib.hid (EdBox.of (e := ⟨kb, eb, rb, fb⟩) XB4.out).2
  clear b4 b4' XA3 XB3 RA3 RB3 B3 HYES
  refine batchJ RT.refl [1, 2, 3, 4, 6, 7] (fuel := 4) rfl (by kernel_rfl) (by kernel_rfl) (fun _ _ d _ _ h => by cases d <;> exact h) ?_
  (repeat (first | ((with_reducible apply wq0); rfl; rfl; rfl; intro K hK; go_big_quiet_op; refine hK _ ?_; clear hK K) | ((with_reducible apply wq1); rfl; rfl; rfl; rfl; rfl; rfl; intro K hK; go_big_quiet_op; refine hK _ ?_; clear hK K) | ((with_reducible apply wqs); rfl; rfl; rfl; rfl; rfl; rfl; simp only [Act.put, List.setIfInBounds_toArray, List.set_cons_zero, List.set_cons_succ]) | ((with_reducible apply wqu); rfl; rfl; rfl; rfl; rfl; (first | simp only [same, Act.put, List.setIfInBounds_toArray, List.set_cons_zero, List.set_cons_succ] | simp only [Act.put, List.setIfInBounds_toArray, List.set_cons_zero, List.set_cons_succ]))))
  refine wqIdx_load rfl rfl rfl rfl (fun W hW => load_ed_at _ ⟨ka, ea, ra, fa⟩ A c W (keep_c hW CA.out.1) (keep_c hW CA.out.2.1) (keep_c hW CA.out.2.2.1) (keep_c hW CA.out.2.2.2)) ?_
  simp only [Act.put, List.setIfInBounds_toArray, List.set_cons_zero, List.set_cons_succ]
  (repeat (first | ((with_reducible apply wq0); rfl; rfl; rfl; intro K hK; go_big_quiet_op; refine hK _ ?_; clear hK K) | ((with_reducible apply wq1); rfl; rfl; rfl; rfl; rfl; rfl; intro K hK; go_big_quiet_op; refine hK _ ?_; clear hK K) | ((with_reducible apply wqs); rfl; rfl; rfl; rfl; rfl; rfl; simp only [Act.put, List.setIfInBounds_toArray, List.set_cons_zero, List.set_cons_succ]) | ((with_reducible apply wqu); rfl; rfl; rfl; rfl; rfl; (first | simp only [same, Act.put, List.setIfInBounds_toArray, List.set_cons_zero, List.set_cons_succ] | simp only [Act.put, List.setIfInBounds_toArray, List.set_cons_zero, List.set_cons_succ]))))
  refine wqIdx_load rfl rfl rfl rfl (fun W hW => load_ed_at _ ⟨kb, eb, rb, fb⟩ B d W (keep_c hW CB.out.1) (keep_c hW CB.out.2.1) (keep_c hW CB.out.2.2.1) (keep_c hW CB.out.2.2.2)) ?_
  simp only [Act.put, List.setIfInBounds_toArray, List.set_cons_zero, List.set_cons_succ]
  (repeat (first | ((with_reducible apply wq0); rfl; rfl; rfl; intro K hK; go_big_quiet_op; refine hK _ ?_; clear hK K) | ((with_reducible apply wq1); rfl; rfl; rfl; rfl; rfl; rfl; intro K hK; go_big_quiet_op; refine hK _ ?_; clear hK K) | ((with_reducible apply wqs); rfl; rfl; rfl; rfl; rfl; rfl; simp only [Act.put, List.setIfInBounds_toArray, List.set_cons_zero, List.set_cons_succ]) | ((with_reducible apply wqu); rfl; rfl; rfl; rfl; rfl; (first | simp only [same, Act.put, List.setIfInBounds_toArray, List.set_cons_zero, List.set_cons_succ] | simp only [Act.put, List.setIfInBounds_toArray, List.set_cons_zero, List.set_cons_succ]))))
  refine wqIdx_load rfl rfl rfl rfl (fun W hW => load_ed_at _ ⟨ka, ea, ra, fa⟩ A c W (keep_c hW CA.out.1) (keep_c hW CA.out.2.1) (keep_c hW CA.out.2.2.1) (keep_c hW CA.out.2.2.2)) ?_
  simp only [Act.put, List.setIfInBounds_toArray, List.set_cons_zero, List.set_cons_succ]
  (repeat (first | ((with_reducible apply wq0); rfl; rfl; rfl; intro K hK; go_big_quiet_op; refine hK _ ?_; clear hK K) | ((with_reducible apply wq1); rfl; rfl; rfl; rfl; rfl; rfl; intro K hK; go_big_quiet_op; refine hK _ ?_; clear hK K) | ((with_reducible apply wqs); rfl; rfl; rfl; rfl; rfl; rfl; simp only [Act.put, List.setIfInBounds_toArray, List.set_cons_zero, List.set_cons_succ]) | ((with_reducible apply wqu); rfl; rfl; rfl; rfl; rfl; (first | simp only [same, Act.put, List.setIfInBounds_toArray, List.set_cons_zero, List.set_cons_succ] | simp only [Act.put, List.setIfInBounds_toArray, List.set_cons_zero, List.set_cons_succ]))))
  refine wqIdx_load rfl rfl rfl rfl (fun W hW => load_ed_at _ ⟨kb, eb, rb, fb⟩ B d W (keep_c hW CB.out.1) (keep_c hW CB.out.2.1) (keep_c hW CB.out.2.2.1) (keep_c hW CB.out.2.2.2)) ?_
  simp only [Act.put, List.setIfInBounds_toArray, List.set_cons_zero, List.set_cons_succ]
  refine wqIdx_nil ?_
  refine wpAnyJ_sole (i := 5) rfl (by kernel_rfl) (fun K hK => ?_); go_simp
  refine (ed_same_any ⟨ka, ea, ra, fa⟩ ⟨kb, eb, rb, fb⟩ A B c d w.heap.size w.heap.size w4 RA4.out RB4.out (by show fa.length ≤ 1000000; omega) (by show fb.length ≤ 1000000; omega)).mono ?_
  rintro x w5 ⟨rfl, b5⟩
  refine hK _ _ ⟨fun _ => b5, trivial⟩ ?_
  clear hK K CA CB
  have PS := Lib.hid (red_same_any ⟨ka, ea, ra, fa⟩ ⟨kb, eb, rb, fb⟩ A B c d w.heap.size w.heap.size w5 (RA4.out.below b5) (RB4.out.below b5) (by show fa.length ≤ 1000000; omega) (by show fb.length ≤ 1000000; omega))
  have B5 := Lib.hid (B4.out.trans (b5.mono B4.out.size))
  have XA5 := Lib.hid (XA4.out.later b5)
  have RA5 := Lib.hid (RA4.out.below b5)
  have HY5 := Lib.hid (fun h => (HY4.out h).imp id fun h => h.imp id fun h => own_below h b5)
  clear b5 XA4 XB4 RA4 RB4 B4 HY4
  generalize eqE ⟨ka, ea, ra, fa⟩ ⟨kb, eb, rb, fb⟩ = qq at *
  refine wpAnyJ_sole (i := 8) rfl (by kernel_rfl) (fun K hK => ?_); go_simp
  refine PS.out.mono ?_; rintro x w6 ⟨rfl, b6⟩
  refine hK _ _ ⟨fun _ => b6, trivial⟩ ?_
  clear hK K PS
  have B6 := Lib.hid (B5.out.trans (b6.mono B5.out.size))
  have XA6 := Lib.hid (XA5.out.later b6)
  have RA6 := Lib.hid (RA5.out.below b6)
  have HY6 := Lib.hid (fun h => (HY5.out h).imp id fun h => h.imp id fun h => own_below h b6)
  clear b6 XA5 RA5 B5 HY5
  have hqq : (qq != qq) = false := by simp
  refine batchJ RT.refl [9, 10] (fuel := 0) rfl (by kernel_rfl) (by kernel_rfl) (fun _ _ d _ _ h => by cases d <;> exact h) ?_
  (repeat (first | ((with_reducible apply wq0); rfl; rfl; rfl; intro K hK; go_big_quiet_op; refine hK _ ?_; clear hK K) | ((with_reducible apply wq1); rfl; rfl; rfl; rfl; rfl; rfl; intro K hK; go_big_quiet_op; refine hK _ ?_; clear hK K) | ((with_reducible apply wqs); rfl; rfl; rfl; rfl; rfl; rfl; simp only [Act.put, List.setIfInBounds_toArray, List.set_cons_zero, List.set_cons_succ]) | ((with_reducible apply wqu); rfl; rfl; rfl; rfl; rfl; (first | simp only [same, Act.put, List.setIfInBounds_toArray, List.set_cons_zero, List.set_cons_succ] | simp only [Act.put, List.setIfInBounds_toArray, List.set_cons_zero, List.set_cons_succ]))))
  refine wqIdx_nil ?_
  refine wpAnyJ_done (by kernel_rfl) ?_ _
  obtain ⟨p0, p1, p2, p3⟩ := (EdBox.of (e := ⟨ka, ea, ra, fa⟩) XA6.out).2
  simp only at p0 p1 p2 p3
  have PC := Lib.hid (red_check_any ⟨ka, ea, ra, fa⟩ A c w.heap.size w6 RA6.out (by show fa.length ≤ 1000000; omega))
  unfold edV at PC
  simp only at PC
  go_wp2_with fail
  refine PC.out.mono ?_; rintro x w7 ⟨rfl, b7⟩
  have B7 := Lib.hid (B6.out.trans (b7.mono B6.out.size))
  have XA7 := Lib.hid (XA6.out.later b7)
  have RA7 := Lib.hid (RA6.out.below b7)
  have HY7 := Lib.hid (fun h => (HY6.out h).imp id fun h => h.imp id fun h => own_below h b7)
  clear b7 XA6 RA6 B6 HY6 PC p0 p1 p2 p3 hqq
  cases hok : okEd ⟨ka, ea, ra, fa⟩
  · obtain ⟨rfl, rfl⟩ := HNO.out hok
    have PC := Lib.hid (ed_check_any ⟨ka, ea, ra, fa⟩ A c w.heap.size w7 RA7.out (by show fa.length ≤ 1000000; omega))
    rw [edE_bad hok] at PC
    unfold edV at PC
    simp only at PC
    obtain ⟨p0, p1, p2, p3⟩ := (EdBox.of (e := ⟨ka, ea, ra, fa⟩) XA7.out).2
    simp only at p0 p1 p2 p3
    clear hok
    go_wp2_with fail
    refine PC.out.mono ?_; rintro x w8 ⟨rfl, b8⟩
    have B8 := Lib.hid (B7.out.trans (b8.mono B7.out.size))
    clear b8 p0 p1 p2 p3
    go_wp2
    go_ret
    exact ⟨rfl, B8.out⟩
  · obtain ⟨rfl, rfl, ho7⟩ := HY7.out hok
    have HOK := Lib.hid hok
    have hpl : (putEd ⟨ka, ea, ra, fa⟩).length ≤ 100000 := by
      obtain ⟨h1, h2, -, h4, h5⟩ := (okEd_iff _).1 hok
      simp only at h1 h2 h4 h5
      unfold putEd
      rw [List.length_append, List.length_append, List.length_append]
      have a1 := putL_le9 ka.toNat (by omega)
      have a2 := putMo_le ea ra h2
      have a3 := putL_le9 fa.length (by omega)
      have a4 := putRfs_le fa h5
      simp only at a1 a2 a3 a4 ⊢
      omega
    obtain ⟨h7, -, s7, -⟩ := SlB.of_own ho7
    have PG := Lib.hid (ed_get_any A3 h7 (putEd ⟨ka, ea, ra, fa⟩) c3 w7 s7 hpl)
    rw [getM_put hok] at PG
    have O7 := Lib.hid ho7
    have HPE : putEd ⟨ka, ea, ra, fa⟩ = putEd ⟨ka, ea, ra, fa⟩ := rfl
    have PPT := Lib.hid (fun W (h : RfAt W w.heap.size A fa) => red_put_ok ⟨ka, ea, ra, fa⟩ A c w.heap.size W h hok)
    generalize putEd ⟨ka, ea, ra, fa⟩ = pb at *
    clear hok ho7 s7 HY7 HNO HPE
    go_wp2_with fail
    refine PG.out.mono ?_
    rintro x w8 (⟨hz, -⟩ | ⟨e8, A8, c8, hz, rfl, hr8, b8⟩)
    · cases hz
    injection hz with hz
    subst hz
    have bb := below_trans b8 (alloc_below w8 (.cells (edCs ⟨ka, ea, ra, fa⟩ A8 c8) 50))
    have B8 := Lib.hid (B7.out.trans (bb.mono B7.out.size))
    have XA8 := Lib.hid (XA7.out.later bb)
    have RA8 := Lib.hid (RA7.out.below bb)
    have O8 := Lib.hid (own_below O7.out bb)
    have XG8 := Lib.hid (Blk.new w8 50 (edCs ⟨ka, ea, ra, fa⟩ A8 c8))
    have RG8 := Lib.hid (hr8.below (alloc_below w8 (.cells (edCs ⟨ka, ea, ra, fa⟩ A8 c8) 50)))
    clear b8 bb hr8 PG XA7 RA7 O7 B7
    unfold edV edCs at *
    simp only at *
    have CA := Lib.hid (EdBox.of (e := ⟨ka, ea, ra, fa⟩) XA8.out).2
    go_wp2_with fail
    refine wp_region_J RT [] (n := 25) (by kernel_rfl) rfl ?_
    refine batchJ RT.refl [0, 1, 2, 3] (fuel := 21) rfl (by kernel_rfl) (by kernel_rfl) (fun _ _ d _ _ h => by cases d <;> exact h) ?_
    (repeat (first | ((with_reducible apply wq0); rfl; rfl; rfl; intro K hK; go_big_quiet_op; refine hK _ ?_; clear hK K) | ((with_reducible apply wq1); rfl; rfl; rfl; rfl; rfl; rfl; intro K hK; go_big_quiet_op; refine hK _ ?_; clear hK K) | ((with_reducible apply wqs); rfl; rfl; rfl; rfl; rfl; rfl; simp only [Act.put, List.setIfInBounds_toArray, List.set_cons_zero, List.set_cons_succ]) | ((with_reducible apply wqu); rfl; rfl; rfl; rfl; rfl; (first | simp only [same, Act.put, List.setIfInBounds_toArray, List.set_cons_zero, List.set_cons_succ] | simp only [Act.put, List.setIfInBounds_toArray, List.set_cons_zero, List.set_cons_succ]))))
    refine wqIdx_load rfl rfl rfl rfl (fun W hW => load_ed_at _ ⟨ka, ea, ra, fa⟩ A c W (keep_c hW CA.out.1) (keep_c hW CA.out.2.1) (keep_c hW CA.out.2.2.1) (keep_c hW CA.out.2.2.2)) ?_
    simp only [Act.put, List.setIfInBounds_toArray, List.set_cons_zero, List.set_cons_succ]
    refine wqIdx_nil ?_
    refine wpAnyJ_sole (i := 4) rfl (by kernel_rfl) (fun K hK => ?_); go_simp
    have PC := ed_check_any ⟨ka, ea, ra, fa⟩ A c w.heap.size _ (RA8.out.below (dr_below (Below.refl _ _))) (by show fa.length ≤ 1000000; omega)
    rw [edE_ok HOK.out] at PC
    refine PC.mono ?_; clear PC; rintro x w9 ⟨rfl, b9⟩
    refine hK _ _ ⟨fun _ => b9, trivial⟩ ?_
    clear hK K
    have b9' := Below.of_drew0 b9
    have B9 := Lib.hid (B8.out.trans (b9'.mono B8.out.size))
    have XA9 := Lib.hid (XA8.out.later b9')
    have RA9 := Lib.hid (RA8.out.below b9')
    have O9 := Lib.hid (own_below O8.out b9')
    have XG9 := Lib.hid (XG8.out.later b9')
    have RG9 := Lib.hid (RG8.out.below b9')
    clear b9 b9' CA
    have CA := Lib.hid (EdBox.of (e := ⟨ka, ea, ra, fa⟩) XA9.out).2
    refine batchJ RT.refl [5, 6, 7, 8, 9, 10] (fuel := 14) rfl (by kernel_rfl) (by kernel_rfl) (fun _ _ d _ _ h => by cases d <;> exact h) ?_
    (repeat (first | ((with_reducible apply wq0); rfl; rfl; rfl; intro K hK; go_big_quiet_op; refine hK _ ?_; clear hK K) | ((with_reducible apply wq1); rfl; rfl; rfl; rfl; rfl; rfl; intro K hK; go_big_quiet_op; refine hK _ ?_; clear hK K) | ((with_reducible apply wqs); rfl; rfl; rfl; rfl; rfl; rfl; simp only [Act.put, List.setIfInBounds_toArray, List.set_cons_zero, List.set_cons_succ]) | ((with_reducible apply wqu); rfl; rfl; rfl; rfl; rfl; (first | simp only [same, Act.put, List.setIfInBounds_toArray, List.set_cons_zero, List.set_cons_succ] | simp only [Act.put, List.setIfInBounds_toArray, List.set_cons_zero, List.set_cons_succ]))))
    refine wqIdx_conv rfl rfl rfl rfl (fun W hW => run_convB W Try.underlying30 Try.underlying5 Try.underlying9 c3 (own_bytes_reads (own_below O9.out hW))) ?_; simp only [Act.put, List.setIfInBounds_toArray, List.set_cons_zero, List.set_cons_succ]
    (repeat (first | ((with_reducible apply wq0); rfl; rfl; rfl; intro K hK; go_big_quiet_op; refine hK _ ?_; clear hK K) | ((with_reducible apply wq1); rfl; rfl; rfl; rfl; rfl; rfl; intro K hK; go_big_quiet_op; refine hK _ ?_; clear hK K) | ((with_reducible apply wqs); rfl; rfl; rfl; rfl; rfl; rfl; simp only [Act.put, List.setIfInBounds_toArray, List.set_cons_zero, List.set_cons_succ]) | ((with_reducible apply wqu); rfl; rfl; rfl; rfl; rfl; (first | simp only [same, Act.put, List.setIfInBounds_toArray, List.set_cons_zero, List.set_cons_succ] | simp only [Act.put, List.setIfInBounds_toArray, List.set_cons_zero, List.set_cons_succ]))))
    refine wqIdx_load rfl rfl rfl rfl (fun W hW => load_ed_at _ ⟨ka, ea, ra, fa⟩ A c W (keep_c hW CA.out.1) (keep_c hW CA.out.2.1) (keep_c hW CA.out.2.2.1) (keep_c hW CA.out.2.2.2)) ?_
    simp only [Act.put, List.setIfInBounds_toArray, List.set_cons_zero, List.set_cons_succ]
    refine wqIdx_nil ?_
    refine wpAnyJ_sole (i := 11) rfl (by kernel_rfl) (fun K hK => ?_); go_simp
    refine (PPT.out _ RA9.out).mono ?_; rintro x w10 ⟨A10, c10, rfl, o10, b10⟩
    refine hK _ _ ⟨fun _ => b10, trivial⟩ ?_
    clear hK K
    have B10 := Lib.hid (B9.out.trans (b10.mono B9.out.size))
    have XA10 := Lib.hid (XA9.out.later b10)
    have RA10 := Lib.hid (RA9.out.below b10)
    have O10 := Lib.hid o10
    have XG10 := Lib.hid (XG9.out.later b10)
    have RG10 := Lib.hid (RG9.out.below b10)
    clear b10 o10 CA
    have CA := Lib.hid (EdBox.of (e := ⟨ka, ea, ra, fa⟩) XA10.out).2
    have CG := Lib.hid (EdBox.of (e := ⟨ka, ea, ra, fa⟩) XG10.out).2
    refine batchJ RT.refl [12, 13, 14, 15, 16, 17, 18, 19, 20, 21] (fuel := 3) rfl (by kernel_rfl) (by kernel_rfl) (fun _ _ d _ _ h => by cases d <;> exact h) ?_
    (repeat (first | ((with_reducible apply wq0); rfl; rfl; rfl; intro K hK; go_big_quiet_op; refine hK _ ?_; clear hK K) | ((with_reducible apply wq1); rfl; rfl; rfl; rfl; rfl; rfl; intro K hK; go_big_quiet_op; refine hK _ ?_; clear hK K) | ((with_reducible apply wqs); rfl; rfl; rfl; rfl; rfl; rfl; simp only [Act.put, List.setIfInBounds_toArray, List.set_cons_zero, List.set_cons_succ]) | ((with_reducible apply wqu); rfl; rfl; rfl; rfl; rfl; (first | simp only [same, Act.put, List.setIfInBounds_toArray, List.set_cons_zero, List.set_cons_succ] | simp only [Act.put, List.setIfInBounds_toArray, List.set_cons_zero, List.set_cons_succ]))))
    refine wqIdx_conv rfl rfl rfl rfl (fun W hW => run_convB W Try.underlying30 Try.underlying5 Try.underlying9 c10 (own_bytes_reads (own_below O10.out hW))) ?_; simp only [Act.put, List.setIfInBounds_toArray, List.set_cons_zero, List.set_cons_succ]
    (repeat (first | ((with_reducible apply wq0); rfl; rfl; rfl; intro K hK; go_big_quiet_op; refine hK _ ?_; clear hK K) | ((with_reducible apply wq1); rfl; rfl; rfl; rfl; rfl; rfl; intro K hK; go_big_quiet_op; refine hK _ ?_; clear hK K) | ((with_reducible apply wqs); rfl; rfl; rfl; rfl; rfl; rfl; simp only [Act.put, List.setIfInBounds_toArray, List.set_cons_zero, List.set_cons_succ]) | ((with_reducible apply wqu); rfl; rfl; rfl; rfl; rfl; (first | simp only [same, Act.put, List.setIfInBounds_toArray, List.set_cons_zero, List.set_cons_succ] | simp only [Act.put, List.setIfInBounds_toArray, List.set_cons_zero, List.set_cons_succ]))))
    refine wqIdx_load rfl rfl rfl rfl (fun W hW => load_ed_at _ ⟨ka, ea, ra, fa⟩ A8 c8 W (keep_c hW CG.out.1) (keep_c hW CG.out.2.1) (keep_c hW CG.out.2.2.1) (keep_c hW CG.out.2.2.2)) ?_
    simp only [Act.put, List.setIfInBounds_toArray, List.set_cons_zero, List.set_cons_succ]
    (repeat (first | ((with_reducible apply wq0); rfl; rfl; rfl; intro K hK; go_big_quiet_op; refine hK _ ?_; clear hK K) | ((with_reducible apply wq1); rfl; rfl; rfl; rfl; rfl; rfl; intro K hK; go_big_quiet_op; refine hK _ ?_; clear hK K) | ((with_reducible apply wqs); rfl; rfl; rfl; rfl; rfl; rfl; simp only [Act.put, List.setIfInBounds_toArray, List.set_cons_zero, List.set_cons_succ]) | ((with_reducible apply wqu); rfl; rfl; rfl; rfl; rfl; (first | simp only [same, Act.put, List.setIfInBounds_toArray, List.set_cons_zero, List.set_cons_succ] | simp only [Act.put, List.setIfInBounds_toArray, List.set_cons_zero, List.set_cons_succ]))))
    refine wqIdx_load rfl rfl rfl rfl (fun W hW => load_ed_at _ ⟨ka, ea, ra, fa⟩ A c W (keep_c hW CA.out.1) (keep_c hW CA.out.2.1) (keep_c hW CA.out.2.2.1) (keep_c hW CA.out.2.2.2)) ?_
    simp only [Act.put, List.setIfInBounds_toArray, List.set_cons_zero, List.set_cons_succ]
    refine wqIdx_nil ?_
    refine wpAnyJ_sole (i := 22) rfl (by kernel_rfl) (fun K hK => ?_); go_simp
    refine (red_same_any ⟨ka, ea, ra, fa⟩ ⟨ka, ea, ra, fa⟩ A8 A c8 c 0 w.heap.size w10 RG10.out RA10.out (by show fa.length ≤ 1000000; omega) (by show fa.length ≤ 1000000; omega)).mono ?_
    rintro x w11 ⟨rfl, b11⟩
    rw [eqE_yes rfl]
    refine hK _ _ ⟨fun _ => b11, trivial⟩ ?_
    clear hK K
    have B11 := Lib.hid (B10.out.trans (b11.mono B10.out.size))
    clear b11
    refine batchJ RT.refl [23, 24] (fuel := 0) rfl (by kernel_rfl) (by kernel_rfl) (fun _ _ d _ _ h => by cases d <;> exact h) ?_
    (repeat (first | ((with_reducible apply wq0); rfl; rfl; rfl; intro K hK; go_big_quiet_op; refine hK _ ?_; clear hK K) | ((with_reducible apply wq1); rfl; rfl; rfl; rfl; rfl; rfl; intro K hK; go_big_quiet_op; refine hK _ ?_; clear hK K) | ((with_reducible apply wqs); rfl; rfl; rfl; rfl; rfl; rfl; simp only [Act.put, List.setIfInBounds_toArray, List.set_cons_zero, List.set_cons_succ]) | ((with_reducible apply wqu); rfl; rfl; rfl; rfl; rfl; (first | simp only [same, Act.put, List.setIfInBounds_toArray, List.set_cons_zero, List.set_cons_succ] | simp only [Act.put, List.setIfInBounds_toArray, List.set_cons_zero, List.set_cons_succ]))))
    refine wqIdx_nil ?_
    refine wpAnyJ_done (by kernel_rfl) ?_ _
    go_wp2
    go_ret
    exact ⟨rfl, B11.out⟩
end Go.Proofs.Ytfmmdnjoichifaa
