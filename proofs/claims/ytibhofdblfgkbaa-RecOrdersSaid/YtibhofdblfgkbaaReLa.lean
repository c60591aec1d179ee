/- The law RecOrders. -/
import Derived.Test.YtibhofdblfgkbaaReS
import Derived.Test.YtibhofdblfgkbaaNumOrd
namespace Go.Proofs.Ytibhofdblfgkbaa
open Go.RowKit Go.Sort

def LawOK (w : World) (e : Ending) (w' : World) : Prop := e = .returned (.bool true) ∧ Below w.heap.size w w'
theorem LtAt.pre {a b : List UInt8} (c : List UInt8) (h : LtAt a b) : LtAt (c ++ a) (c ++ b) := by
  induction c with
  | nil => exact h
  | cons x c ih => exact ih.cons x
theorem putMo_lt {a b c d : Int} (h : okRec (a, b) = true) (k : okRec (c, d) = true) (hl : cmpM (a, b) (c, d) < 0) : LtAt (putMo a b) (putMo c d) := by
  rw [okRec_iff] at h k
  have h1 := cmpM_lt (a, b) (c, d)
  rw [decide_eq_true hl] at h1
  rw [eq_comm, ltM_iff] at h1
  show LtAt (putL a.toNat ++ putL b.toNat) (putL c.toNat ++ putL d.toNat)
  rcases h1 with h1 | ⟨h1, h2⟩
  · exact LtAt.append _ _ (putL_lt _ _ (by simp only at h1; omega) (by omega))
  · simp only at h1 h2
    subst h1
    exact LtAt.pre _ (putL_lt _ _ (by omega) (by omega))
theorem cmpM_neg (x y : Int × Int) : cmpM y x = - cmpM x y := by
  unfold cmpM cmpI
  split <;> split <;> (try split) <;> (try split) <;> omega
theorem cmpM_three (x y : Int × Int) : cmpM x y = -1 ∨ cmpM x y = 0 ∨ cmpM x y = 1 := by
  unfold cmpM cmpI
  split <;> (try split) <;> (try split) <;> omega
theorem cmpM_eq {x y : Int × Int} (h : cmpM x y = 0) : x = y := by
  have h1 := cmpM_lt x y
  have h2 := cmpM_lt y x
  have h3 := cmpM_neg x y
  rw [h] at h1
  rw [h3, h] at h2
  exact ltM_total x y h1.symm h2.symm
theorem less_cmp {a b c d : Int} (h : okRec (a, b) = true) (k : okRec (c, d) = true) : Op.bytesLess (putMo a b) (putMo c d) = decide (cmpM (a, b) (c, d) < 0) := by
  rcases cmpM_three (a, b) (c, d) with e | e | e
  · rw [(putMo_lt h k (by omega)).less, e]
    rfl
  · have := cmpM_eq e
    injection this with e1 e2
    subst e1 e2
    rw [less_irrefl, e]
    rfl
  · rw [(putMo_lt k h (by rw [cmpM_neg]; omega)).not_less, e]
    rfl
theorem conv_sl {w : World} {h : Nat} {A : Option Addr} {l : List UInt8} (s : SlB w h A l) (c : Nat) : (convert 41 9 (.slice A l.length c)).run Try.prog w = .ok (.string ⟨l.toArray⟩) w :=
  run_convB w Try.underlying41 Try.underlying5 Try.underlying9 c (s.reads rfl)
/-- What Put leaves, told by whether the record may be. -/
theorem rc_put_e (a b : Int) (w : World) : Calls Try.prog 35 #[.agg #[.int .i64 a, .int .i64 b]] w fun e w' => Below w.heap.size w w' ∧ ((okRec (a, b) = false ∧ e = .returned (.tuple #[.slice none 0 0, .int .i64 30])) ∨ (okRec (a, b) = true ∧ ∃ A c h, e = .returned (.tuple #[.slice A (putMo a b).length c, .int .i64 0]) ∧ SlB w' h A (putMo a b))) := by
  cases h : okRec (a, b)
  · exact (rc_put_no a b w h).mono fun e w' ⟨he, hb⟩ => ⟨hb, .inl ⟨rfl, he⟩⟩
  · refine (rc_put_ok a b w h).mono fun e w' ⟨A, c, he, ho, hb⟩ => ?_
    obtain ⟨g, -, hs, -⟩ := SlB.of_own ho
    exact ⟨hb, .inr ⟨rfl, A, c, g, he, hs⟩⟩
set_option maxRecDepth 100000 in
set_option maxHeartbeats 4000000 in
theorem orders_lt (a b c d : Int) (w : World) (hz : cmpM (a, b) (c, d) = -1) :
    Calls Try.prog 8 #[.agg #[.int .i64 a, .int .i64 b], .agg #[.int .i64 c, .int .i64 d]] w (LawOK w) := by
  have hzn : cmpM (c, d) (a, b) = 1 := by rw [cmpM_neg, hz] <;> rfl
  have PA := Lib.hid (fun W => rc_put_e a b W)
  have PB := Lib.hid (fun W => rc_put_e c d W)
  have PC := Lib.hid (fun W => rc_compare_any a b c d W)
  have PD := Lib.hid (fun W => rrc_compare_any a b c d W)
  have PE := Lib.hid (fun W => rc_compare_any c d a b W)
  rw [hz] at PC PD
  rw [hzn] at PE
  have HL := Lib.hid (fun (h : okRec (a, b) = true) (k : okRec (c, d) = true) => (less_cmp h k).trans (by rw [hz]))
  generalize putMo a b = p at PA HL
  generalize putMo c d = q at PB HL
  have HBX := Lib.hid (below_trans (alloc_below w (.cells #[.int .i64 a, .int .i64 b] 24)) (alloc_below _ (.cells #[.int .i64 c, .int .i64 d] 24)))
  have KA := Lib.hid ((Blk.new w 24 #[.int .i64 a, .int .i64 b]).alloc (.cells #[.int .i64 c, .int .i64 d] 24))
  have KB := Lib.hid (blk_top (w.alloc (.cells #[.int .i64 a, .int .i64 b] 24)) #[.int .i64 c, .int .i64 d] 24 (w.heap.size + 1) (by simp))
  have HK := Lib.hid (fun W (k : Below ((w.alloc (.cells #[.int .i64 a, .int .i64 b] 24)).alloc (.cells #[.int .i64 c, .int .i64 d] 24)).heap.size ((w.alloc (.cells #[.int .i64 a, .int .i64 b] 24)).alloc (.cells #[.int .i64 c, .int .i64 d] 24)) W) =>
    (show W.cell? ⟨w.heap.size, 0, none⟩ = some (.int .i64 a) ∧ W.cell? ⟨w.heap.size, 1, none⟩ = some (.int .i64 b) ∧ W.cell? ⟨w.heap.size + 1, 0, none⟩ = some (.int .i64 c) ∧ W.cell? ⟨w.heap.size + 1, 1, none⟩ = some (.int .i64 d) from
      ⟨(KA.out.below k KA.out.lt).cell 0, (KA.out.below k KA.out.lt).cell 1, (KB.out.below k KB.out.lt).cell 0, (KB.out.below k KB.out.lt).cell 1⟩))
  generalize hW0 : (w.alloc (.cells #[.int .i64 a, .int .i64 b] 24)).alloc (.cells #[.int .i64 c, .int .i64 d] 24) = w0 at HBX HK
  have HW0 := Lib.hid hW0
  have hs0 := HBX.out.size
  clear KA KB hz hzn hW0
  go_enter Try.func8, Try.ntmps8
  go_wp2_with fail
  rw [HW0.out]
  refine (PA.out _).mono ?_; rintro e w1 ⟨b1, ha⟩
  have B1 := Lib.hid b1
  obtain ⟨q0, q1, q2, q3⟩ := HK.out _ b1
  have HA := Lib.hid ha
  clear b1 ha
  rcases HA.out with ⟨ea, rfl⟩ | ⟨ea, A1, c1, h1, rfl, s1⟩
  · clear HA
    go_wp2_with fail
    clear q0 q1 q2 q3
    refine (PB.out _).mono ?_; rintro e w2 ⟨b2, hb⟩
    have B2 := Lib.hid (below_trans B1.out b2)
    obtain ⟨q0, q1, q2, q3⟩ := HK.out _ B2.out
    have HB := Lib.hid hb
    clear b2 hb
    rcases HB.out with ⟨-, rfl⟩ | ⟨-, A2, c2, h2, rfl, -⟩
    all_goals
      clear HB
      go_wp2_with fail
      clear q0 q1 q2 q3
      refine (PC.out _).mono ?_; rintro e w3 ⟨rfl, b3⟩
      have B3 := Lib.hid (below_trans B2.out b3)
      obtain ⟨q0, q1, q2, q3⟩ := HK.out _ B3.out
      clear b3
      go_wp2_with fail
      clear q0 q1 q2 q3
      refine (lives_any _).mono ?_; rintro e w4 ⟨rfl, b4⟩
      have B4 := Lib.hid (below_trans B3.out b4)
      obtain ⟨q0, q1, q2, q3⟩ := HK.out _ B4.out
      clear b4
      go_wp2_with fail
      clear q0 q1 q2 q3
      refine (PD.out _).mono ?_; rintro e w5 ⟨rfl, b5⟩
      have B5 := Lib.hid (below_trans B4.out b5)
      obtain ⟨q0, q1, q2, q3⟩ := HK.out _ B5.out
      clear b5
      go_wp2_with fail
      clear q0 q1 q2 q3
      refine (PE.out _).mono ?_; rintro e w6 ⟨rfl, b6⟩
      have B6 := Lib.hid (below_trans B5.out b6)
      obtain ⟨q0, q1, q2, q3⟩ := HK.out _ B6.out
      clear b6
      go_wp2
      go_ret
      exact ⟨rfl, below_trans HBX.out B6.out⟩
  · clear HA
    have S1 := Lib.hid s1
    clear s1
    go_wp2_with fail
    clear q0 q1 q2 q3
    refine (PB.out _).mono ?_; rintro e w2 ⟨b2, hb⟩
    have B2 := Lib.hid (below_trans B1.out b2)
    have S1 := Lib.hid (S1.out.below b2 fun h => h)
    obtain ⟨q0, q1, q2, q3⟩ := HK.out _ B2.out
    have HB := Lib.hid hb
    clear b2 hb
    rcases HB.out with ⟨eb, rfl⟩ | ⟨eb, A2, c2, h2, rfl, s2⟩
    · clear HB
      go_wp2_with fail
      clear q0 q1 q2 q3
      refine (PC.out _).mono ?_; rintro e w3 ⟨rfl, b3⟩
      have B3 := Lib.hid (below_trans B2.out b3)
      obtain ⟨q0, q1, q2, q3⟩ := HK.out _ B3.out
      clear b3
      go_wp2_with fail
      clear q0 q1 q2 q3
      refine (lives_any _).mono ?_; rintro e w4 ⟨rfl, b4⟩
      have B4 := Lib.hid (below_trans B3.out b4)
      obtain ⟨q0, q1, q2, q3⟩ := HK.out _ B4.out
      clear b4
      go_wp2_with fail
      clear q0 q1 q2 q3
      refine (PD.out _).mono ?_; rintro e w5 ⟨rfl, b5⟩
      have B5 := Lib.hid (below_trans B4.out b5)
      obtain ⟨q0, q1, q2, q3⟩ := HK.out _ B5.out
      clear b5
      go_wp2_with fail
      clear q0 q1 q2 q3
      refine (PE.out _).mono ?_; rintro e w6 ⟨rfl, b6⟩
      have B6 := Lib.hid (below_trans B5.out b6)
      obtain ⟨q0, q1, q2, q3⟩ := HK.out _ B6.out
      clear b6
      go_wp2
      go_ret
      exact ⟨rfl, below_trans HBX.out B6.out⟩
    · clear HB
      have S2 := Lib.hid s2
      have HL2 := Lib.hid (HL.out ea eb)
      clear s2 ea eb
      go_wp2_with fail
      clear q0 q1 q2 q3
      refine (PC.out _).mono ?_; rintro e w3 ⟨rfl, b3⟩
      have B3 := Lib.hid (below_trans B2.out b3)
      have S1 := Lib.hid (S1.out.below b3 fun h => h)
      have S2 := Lib.hid (S2.out.below b3 fun h => h)
      obtain ⟨q0, q1, q2, q3⟩ := HK.out _ B3.out
      clear b3
      go_wp2_with fail
      clear q0 q1 q2 q3
      refine (lives_any _).mono ?_; rintro e w4 ⟨rfl, b4⟩
      have B4 := Lib.hid (below_trans B3.out b4)
      have S1 := Lib.hid (S1.out.below b4 fun h => h)
      have S2 := Lib.hid (S2.out.below b4 fun h => h)
      obtain ⟨q0, q1, q2, q3⟩ := HK.out _ B4.out
      clear b4
      go_wp2_with fail
      clear q0 q1 q2 q3
      refine (PD.out _).mono ?_; rintro e w5 ⟨rfl, b5⟩
      have B5 := Lib.hid (below_trans B4.out b5)
      have S1 := Lib.hid (S1.out.below b5 fun h => h)
      have S2 := Lib.hid (S2.out.below b5 fun h => h)
      obtain ⟨q0, q1, q2, q3⟩ := HK.out _ B5.out
      clear b5
      go_wp2_with fail
      clear q0 q1 q2 q3
      refine (PE.out _).mono ?_; rintro e w6 ⟨rfl, b6⟩
      have B6 := Lib.hid (below_trans B5.out b6)
      have S1 := Lib.hid (S1.out.below b6 fun h => h)
      have S2 := Lib.hid (S2.out.below b6 fun h => h)
      obtain ⟨q0, q1, q2, q3⟩ := HK.out _ B6.out
      clear b6
      have v1 := conv_sl S1.out c1
      have v2 := conv_sl S2.out c2
      have hls := HL2.out
      go_wp2
      go_ret
      exact ⟨rfl, below_trans HBX.out B6.out⟩
set_option maxRecDepth 100000 in
set_option maxHeartbeats 4000000 in
theorem orders_eq (a b c d : Int) (w : World) (hz : cmpM (a, b) (c, d) = 0) :
    Calls Try.prog 8 #[.agg #[.int .i64 a, .int .i64 b], .agg #[.int .i64 c, .int .i64 d]] w (LawOK w) := by
  have hzn : cmpM (c, d) (a, b) = 0 := by rw [cmpM_neg, hz] <;> rfl
  have PA := Lib.hid (fun W => rc_put_e a b W)
  have PB := Lib.hid (fun W => rc_put_e c d W)
  have PC := Lib.hid (fun W => rc_compare_any a b c d W)
  have PD := Lib.hid (fun W => rrc_compare_any a b c d W)
  have PE := Lib.hid (fun W => rc_compare_any c d a b W)
  rw [hz] at PC PD
  rw [hzn] at PE
  have HL := Lib.hid (fun (h : okRec (a, b) = true) (k : okRec (c, d) = true) => (less_cmp h k).trans (by rw [hz]))
  generalize putMo a b = p at PA HL
  generalize putMo c d = q at PB HL
  have HBX := Lib.hid (below_trans (alloc_below w (.cells #[.int .i64 a, .int .i64 b] 24)) (alloc_below _ (.cells #[.int .i64 c, .int .i64 d] 24)))
  have KA := Lib.hid ((Blk.new w 24 #[.int .i64 a, .int .i64 b]).alloc (.cells #[.int .i64 c, .int .i64 d] 24))
  have KB := Lib.hid (blk_top (w.alloc (.cells #[.int .i64 a, .int .i64 b] 24)) #[.int .i64 c, .int .i64 d] 24 (w.heap.size + 1) (by simp))
  have HK := Lib.hid (fun W (k : Below ((w.alloc (.cells #[.int .i64 a, .int .i64 b] 24)).alloc (.cells #[.int .i64 c, .int .i64 d] 24)).heap.size ((w.alloc (.cells #[.int .i64 a, .int .i64 b] 24)).alloc (.cells #[.int .i64 c, .int .i64 d] 24)) W) =>
    (show W.cell? ⟨w.heap.size, 0, none⟩ = some (.int .i64 a) ∧ W.cell? ⟨w.heap.size, 1, none⟩ = some (.int .i64 b) ∧ W.cell? ⟨w.heap.size + 1, 0, none⟩ = some (.int .i64 c) ∧ W.cell? ⟨w.heap.size + 1, 1, none⟩ = some (.int .i64 d) from
      ⟨(KA.out.below k KA.out.lt).cell 0, (KA.out.below k KA.out.lt).cell 1, (KB.out.below k KB.out.lt).cell 0, (KB.out.below k KB.out.lt).cell 1⟩))
  generalize hW0 : (w.alloc (.cells #[.int .i64 a, .int .i64 b] 24)).alloc (.cells #[.int .i64 c, .int .i64 d] 24) = w0 at HBX HK
  have HW0 := Lib.hid hW0
  have hs0 := HBX.out.size
  clear KA KB hz hzn hW0
  go_enter Try.func8, Try.ntmps8
  go_wp2_with fail
  rw [HW0.out]
  refine (PA.out _).mono ?_; rintro e w1 ⟨b1, ha⟩
  have B1 := Lib.hid b1
  obtain ⟨q0, q1, q2, q3⟩ := HK.out _ b1
  have HA := Lib.hid ha
  clear b1 ha
  rcases HA.out with ⟨ea, rfl⟩ | ⟨ea, A1, c1, h1, rfl, s1⟩
  · clear HA
    go_wp2_with fail
    clear q0 q1 q2 q3
    refine (PB.out _).mono ?_; rintro e w2 ⟨b2, hb⟩
    have B2 := Lib.hid (below_trans B1.out b2)
    obtain ⟨q0, q1, q2, q3⟩ := HK.out _ B2.out
    have HB := Lib.hid hb
    clear b2 hb
    rcases HB.out with ⟨-, rfl⟩ | ⟨-, A2, c2, h2, rfl, -⟩
    all_goals
      clear HB
      go_wp2_with fail
      clear q0 q1 q2 q3
      refine (PC.out _).mono ?_; rintro e w3 ⟨rfl, b3⟩
      have B3 := Lib.hid (below_trans B2.out b3)
      obtain ⟨q0, q1, q2, q3⟩ := HK.out _ B3.out
      clear b3
      go_wp2_with fail
      clear q0 q1 q2 q3
      refine (lives_any _).mono ?_; rintro e w4 ⟨rfl, b4⟩
      have B4 := Lib.hid (below_trans B3.out b4)
      obtain ⟨q0, q1, q2, q3⟩ := HK.out _ B4.out
      clear b4
      go_wp2_with fail
      clear q0 q1 q2 q3
      refine (PD.out _).mono ?_; rintro e w5 ⟨rfl, b5⟩
      have B5 := Lib.hid (below_trans B4.out b5)
      obtain ⟨q0, q1, q2, q3⟩ := HK.out _ B5.out
      clear b5
      go_wp2_with fail
      clear q0 q1 q2 q3
      refine (PE.out _).mono ?_; rintro e w6 ⟨rfl, b6⟩
      have B6 := Lib.hid (below_trans B5.out b6)
      obtain ⟨q0, q1, q2, q3⟩ := HK.out _ B6.out
      clear b6
      go_wp2
      go_ret
      exact ⟨rfl, below_trans HBX.out B6.out⟩
  · clear HA
    have S1 := Lib.hid s1
    clear s1
    go_wp2_with fail
    clear q0 q1 q2 q3
    refine (PB.out _).mono ?_; rintro e w2 ⟨b2, hb⟩
    have B2 := Lib.hid (below_trans B1.out b2)
    have S1 := Lib.hid (S1.out.below b2 fun h => h)
    obtain ⟨q0, q1, q2, q3⟩ := HK.out _ B2.out
    have HB := Lib.hid hb
    clear b2 hb
    rcases HB.out with ⟨eb, rfl⟩ | ⟨eb, A2, c2, h2, rfl, s2⟩
    · clear HB
      go_wp2_with fail
      clear q0 q1 q2 q3
      refine (PC.out _).mono ?_; rintro e w3 ⟨rfl, b3⟩
      have B3 := Lib.hid (below_trans B2.out b3)
      obtain ⟨q0, q1, q2, q3⟩ := HK.out _ B3.out
      clear b3
      go_wp2_with fail
      clear q0 q1 q2 q3
      refine (lives_any _).mono ?_; rintro e w4 ⟨rfl, b4⟩
      have B4 := Lib.hid (below_trans B3.out b4)
      obtain ⟨q0, q1, q2, q3⟩ := HK.out _ B4.out
      clear b4
      go_wp2_with fail
      clear q0 q1 q2 q3
      refine (PD.out _).mono ?_; rintro e w5 ⟨rfl, b5⟩
      have B5 := Lib.hid (below_trans B4.out b5)
      obtain ⟨q0, q1, q2, q3⟩ := HK.out _ B5.out
      clear b5
      go_wp2_with fail
      clear q0 q1 q2 q3
      refine (PE.out _).mono ?_; rintro e w6 ⟨rfl, b6⟩
      have B6 := Lib.hid (below_trans B5.out b6)
      obtain ⟨q0, q1, q2, q3⟩ := HK.out _ B6.out
      clear b6
      go_wp2
      go_ret
      exact ⟨rfl, below_trans HBX.out B6.out⟩
    · clear HB
      have S2 := Lib.hid s2
      have HL2 := Lib.hid (HL.out ea eb)
      clear s2 ea eb
      go_wp2_with fail
      clear q0 q1 q2 q3
      refine (PC.out _).mono ?_; rintro e w3 ⟨rfl, b3⟩
      have B3 := Lib.hid (below_trans B2.out b3)
      have S1 := Lib.hid (S1.out.below b3 fun h => h)
      have S2 := Lib.hid (S2.out.below b3 fun h => h)
      obtain ⟨q0, q1, q2, q3⟩ := HK.out _ B3.out
      clear b3
      go_wp2_with fail
      clear q0 q1 q2 q3
      refine (lives_any _).mono ?_; rintro e w4 ⟨rfl, b4⟩
      have B4 := Lib.hid (below_trans B3.out b4)
      have S1 := Lib.hid (S1.out.below b4 fun h => h)
      have S2 := Lib.hid (S2.out.below b4 fun h => h)
      obtain ⟨q0, q1, q2, q3⟩ := HK.out _ B4.out
      clear b4
      go_wp2_with fail
      clear q0 q1 q2 q3
      refine (PD.out _).mono ?_; rintro e w5 ⟨rfl, b5⟩
      have B5 := Lib.hid (below_trans B4.out b5)
      have S1 := Lib.hid (S1.out.below b5 fun h => h)
      have S2 := Lib.hid (S2.out.below b5 fun h => h)
      obtain ⟨q0, q1, q2, q3⟩ := HK.out _ B5.out
      clear b5
      go_wp2_with fail
      clear q0 q1 q2 q3
      refine (PE.out _).mono ?_; rintro e w6 ⟨rfl, b6⟩
      have B6 := Lib.hid (below_trans B5.out b6)
      have S1 := Lib.hid (S1.out.below b6 fun h => h)
      have S2 := Lib.hid (S2.out.below b6 fun h => h)
      obtain ⟨q0, q1, q2, q3⟩ := HK.out _ B6.out
      clear b6
      have v1 := conv_sl S1.out c1
      have v2 := conv_sl S2.out c2
      have hls := HL2.out
      go_wp2
      go_ret
      exact ⟨rfl, below_trans HBX.out B6.out⟩
set_option maxRecDepth 100000 in
set_option maxHeartbeats 4000000 in
theorem orders_gt (a b c d : Int) (w : World) (hz : cmpM (a, b) (c, d) = 1) :
    Calls Try.prog 8 #[.agg #[.int .i64 a, .int .i64 b], .agg #[.int .i64 c, .int .i64 d]] w (LawOK w) := by
  have hzn : cmpM (c, d) (a, b) = -1 := by rw [cmpM_neg, hz] <;> rfl
  have PA := Lib.hid (fun W => rc_put_e a b W)
  have PB := Lib.hid (fun W => rc_put_e c d W)
  have PC := Lib.hid (fun W => rc_compare_any a b c d W)
  have PD := Lib.hid (fun W => rrc_compare_any a b c d W)
  have PE := Lib.hid (fun W => rc_compare_any c d a b W)
  rw [hz] at PC PD
  rw [hzn] at PE
  have HL := Lib.hid (fun (h : okRec (a, b) = true) (k : okRec (c, d) = true) => (less_cmp h k).trans (by rw [hz]))
  generalize putMo a b = p at PA HL
  generalize putMo c d = q at PB HL
  have HBX := Lib.hid (below_trans (alloc_below w (.cells #[.int .i64 a, .int .i64 b] 24)) (alloc_below _ (.cells #[.int .i64 c, .int .i64 d] 24)))
  have KA := Lib.hid ((Blk.new w 24 #[.int .i64 a, .int .i64 b]).alloc (.cells #[.int .i64 c, .int .i64 d] 24))
  have KB := Lib.hid (blk_top (w.alloc (.cells #[.int .i64 a, .int .i64 b] 24)) #[.int .i64 c, .int .i64 d] 24 (w.heap.size + 1) (by simp))
  have HK := Lib.hid (fun W (k : Below ((w.alloc (.cells #[.int .i64 a, .int .i64 b] 24)).alloc (.cells #[.int .i64 c, .int .i64 d] 24)).heap.size ((w.alloc (.cells #[.int .i64 a, .int .i64 b] 24)).alloc (.cells #[.int .i64 c, .int .i64 d] 24)) W) =>
    (show W.cell? ⟨w.heap.size, 0, none⟩ = some (.int .i64 a) ∧ W.cell? ⟨w.heap.size, 1, none⟩ = some (.int .i64 b) ∧ W.cell? ⟨w.heap.size + 1, 0, none⟩ = some (.int .i64 c) ∧ W.cell? ⟨w.heap.size + 1, 1, none⟩ = some (.int .i64 d) from
      ⟨(KA.out.below k KA.out.lt).cell 0, (KA.out.below k KA.out.lt).cell 1, (KB.out.below k KB.out.lt).cell 0, (KB.out.below k KB.out.lt).cell 1⟩))
  generalize hW0 : (w.alloc (.cells #[.int .i64 a, .int .i64 b] 24)).alloc (.cells #[.int .i64 c, .int .i64 d] 24) = w0 at HBX HK
  have HW0 := Lib.hid hW0
  have hs0 := HBX.out.size
  clear KA KB hz hzn hW0
  go_enter Try.func8, Try.ntmps8
  go_wp2_with fail
  rw [HW0.out]
  refine (PA.out _).mono ?_; rintro e w1 ⟨b1, ha⟩
  have B1 := Lib.hid b1
  obtain ⟨q0, q1, q2, q3⟩ := HK.out _ b1
  have HA := Lib.hid ha
  clear b1 ha
  rcases HA.out with ⟨ea, rfl⟩ | ⟨ea, A1, c1, h1, rfl, s1⟩
  · clear HA
    go_wp2_with fail
    clear q0 q1 q2 q3
    refine (PB.out _).mono ?_; rintro e w2 ⟨b2, hb⟩
    have B2 := Lib.hid (below_trans B1.out b2)
    obtain ⟨q0, q1, q2, q3⟩ := HK.out _ B2.out
    have HB := Lib.hid hb
    clear b2 hb
    rcases HB.out with ⟨-, rfl⟩ | ⟨-, A2, c2, h2, rfl, -⟩
    all_goals
      clear HB
      go_wp2_with fail
      clear q0 q1 q2 q3
      refine (PC.out _).mono ?_; rintro e w3 ⟨rfl, b3⟩
      have B3 := Lib.hid (below_trans B2.out b3)
      obtain ⟨q0, q1, q2, q3⟩ := HK.out _ B3.out
      clear b3
      go_wp2_with fail
      clear q0 q1 q2 q3
      refine (lives_any _).mono ?_; rintro e w4 ⟨rfl, b4⟩
      have B4 := Lib.hid (below_trans B3.out b4)
      obtain ⟨q0, q1, q2, q3⟩ := HK.out _ B4.out
      clear b4
      go_wp2_with fail
      clear q0 q1 q2 q3
      refine (PD.out _).mono ?_; rintro e w5 ⟨rfl, b5⟩
      have B5 := Lib.hid (below_trans B4.out b5)
      obtain ⟨q0, q1, q2, q3⟩ := HK.out _ B5.out
      clear b5
      go_wp2_with fail
      clear q0 q1 q2 q3
      refine (PE.out _).mono ?_; rintro e w6 ⟨rfl, b6⟩
      have B6 := Lib.hid (below_trans B5.out b6)
      obtain ⟨q0, q1, q2, q3⟩ := HK.out _ B6.out
      clear b6
      go_wp2
      go_ret
      exact ⟨rfl, below_trans HBX.out B6.out⟩
  · clear HA
    have S1 := Lib.hid s1
    clear s1
    go_wp2_with fail
    clear q0 q1 q2 q3
    refine (PB.out _).mono ?_; rintro e w2 ⟨b2, hb⟩
    have B2 := Lib.hid (below_trans B1.out b2)
    have S1 := Lib.hid (S1.out.below b2 fun h => h)
    obtain ⟨q0, q1, q2, q3⟩ := HK.out _ B2.out
    have HB := Lib.hid hb
    clear b2 hb
    rcases HB.out with ⟨eb, rfl⟩ | ⟨eb, A2, c2, h2, rfl, s2⟩
    · clear HB
      go_wp2_with fail
      clear q0 q1 q2 q3
      refine (PC.out _).mono ?_; rintro e w3 ⟨rfl, b3⟩
      have B3 := Lib.hid (below_trans B2.out b3)
      obtain ⟨q0, q1, q2, q3⟩ := HK.out _ B3.out
      clear b3
      go_wp2_with fail
      clear q0 q1 q2 q3
      refine (lives_any _).mono ?_; rintro e w4 ⟨rfl, b4⟩
      have B4 := Lib.hid (below_trans B3.out b4)
      obtain ⟨q0, q1, q2, q3⟩ := HK.out _ B4.out
      clear b4
      go_wp2_with fail
      clear q0 q1 q2 q3
      refine (PD.out _).mono ?_; rintro e w5 ⟨rfl, b5⟩
      have B5 := Lib.hid (below_trans B4.out b5)
      obtain ⟨q0, q1, q2, q3⟩ := HK.out _ B5.out
      clear b5
      go_wp2_with fail
      clear q0 q1 q2 q3
      refine (PE.out _).mono ?_; rintro e w6 ⟨rfl, b6⟩
      have B6 := Lib.hid (below_trans B5.out b6)
      obtain ⟨q0, q1, q2, q3⟩ := HK.out _ B6.out
      clear b6
      go_wp2
      go_ret
      exact ⟨rfl, below_trans HBX.out B6.out⟩
    · clear HB
      have S2 := Lib.hid s2
      have HL2 := Lib.hid (HL.out ea eb)
      clear s2 ea eb
      go_wp2_with fail
      clear q0 q1 q2 q3
      refine (PC.out _).mono ?_; rintro e w3 ⟨rfl, b3⟩
      have B3 := Lib.hid (below_trans B2.out b3)
      have S1 := Lib.hid (S1.out.below b3 fun h => h)
      have S2 := Lib.hid (S2.out.below b3 fun h => h)
      obtain ⟨q0, q1, q2, q3⟩ := HK.out _ B3.out
      clear b3
      go_wp2_with fail
      clear q0 q1 q2 q3
      refine (lives_any _).mono ?_; rintro e w4 ⟨rfl, b4⟩
      have B4 := Lib.hid (below_trans B3.out b4)
      have S1 := Lib.hid (S1.out.below b4 fun h => h)
      have S2 := Lib.hid (S2.out.below b4 fun h => h)
      obtain ⟨q0, q1, q2, q3⟩ := HK.out _ B4.out
      clear b4
      go_wp2_with fail
      clear q0 q1 q2 q3
      refine (PD.out _).mono ?_; rintro e w5 ⟨rfl, b5⟩
      have B5 := Lib.hid (below_trans B4.out b5)
      have S1 := Lib.hid (S1.out.below b5 fun h => h)
      have S2 := Lib.hid (S2.out.below b5 fun h => h)
      obtain ⟨q0, q1, q2, q3⟩ := HK.out _ B5.out
      clear b5
      go_wp2_with fail
      clear q0 q1 q2 q3
      refine (PE.out _).mono ?_; rintro e w6 ⟨rfl, b6⟩
      have B6 := Lib.hid (below_trans B5.out b6)
      have S1 := Lib.hid (S1.out.below b6 fun h => h)
      have S2 := Lib.hid (S2.out.below b6 fun h => h)
      obtain ⟨q0, q1, q2, q3⟩ := HK.out _ B6.out
      clear b6
      have v1 := conv_sl S1.out c1
      have v2 := conv_sl S2.out c2
      have hls := HL2.out
      go_wp2
      go_ret
      exact ⟨rfl, below_trans HBX.out B6.out⟩
theorem recOrders_any (a b c d : Int) (w : World) : Calls Try.prog 8 #[.agg #[.int .i64 a, .int .i64 b], .agg #[.int .i64 c, .int .i64 d]] w (LawOK w) := by
  rcases cmpM_three (a, b) (c, d) with h | h | h
  · exact orders_lt a b c d w h
  · exact orders_eq a b c d w h
  · exact orders_gt a b c d w h
end Go.Proofs.Ytibhofdblfgkbaa
