/- Contracts of package rec: Put, Read of one record. -/
import Derived.Test.YtalefgcdhakfoaaReB
import Derived.Test.YtalefgcdhakfoaaMoF
namespace Go.Proofs.Ytalefgcdhakfoaa
open Go.RowKit

/-- What reading a moment makes of the bytes that are left. -/
def readRec (s : Option (List UInt8)) : (Int × Int) × Int :=
  if (numM (numM s).2).2 = none then ((0, 0), 10) else if okRec (((numM s).1 : Int), ((numM (numM s).2).1 : Int)) = true then ((((numM s).1 : Int), ((numM (numM s).2).1 : Int)), 0) else ((0, 0), 30)
theorem okRec_iff (a b : Int) : okRec (a, b) = true ↔ 0 ≤ a ∧ a < 1048576 ∧ 0 ≤ b ∧ b < 1048576 := by unfold okRec; simp; omega
theorem recE_ok {m : Int × Int} (h : okRec m = true) : recE m = 0 := by unfold recE; rw [if_pos h]
theorem recE_no {m : Int × Int} (h : okRec m = false) : recE m = 30 := by unfold recE; rw [h]; rfl
theorem putL_small2 (n : Nat) (h : n < 1048576) : (putL n).length ≤ 9 := by
  rw [putL_length]
  have := nb_eight n (by omega)
  split
  · omega
  · split <;> omega
set_option maxRecDepth 100000 in
set_option maxHeartbeats 1000000 in
theorem rc_put_no (a b : Int) (w : World) (h : okRec (a, b) = false) :
    Calls Try.prog 86 #[.agg #[.int .i64 a, .int .i64 b]] w fun e w' => e = .returned (.tuple #[.slice none 0 0, .int .i64 30]) ∧ Below w.heap.size w w' := by
  have P1 := Lib.hid (fun W => rc_check_any a b W)
  rw [recE_no h] at P1
  clear h
  go_enter Try.func86, Try.ntmps86
  go_wp2_with fail
  refine (P1.out _).mono ?_; rintro e w1 ⟨rfl, b1⟩
  go_wp2
  go_ret2
  exact ⟨rfl, below_trans (alloc_below w _) b1⟩
set_option maxRecDepth 100000 in
set_option maxHeartbeats 1000000 in
theorem rc_put_ok (a b : Int) (w : World) (h : okRec (a, b) = true) :
    Calls Try.prog 86 #[.agg #[.int .i64 a, .int .i64 b]] w (PutAns w (putMo a b)) := by
  have P1 := Lib.hid (fun W => rc_check_any a b W)
  rw [recE_ok h] at P1
  rw [okRec_iff] at h
  obtain ⟨a0, a1, b0, b1⟩ := h
  have P2 := Lib.hid (fun W => put_ok a W a0 (by omega))
  have P3 := Lib.hid (fun W => put_ok b W b0 (by omega))
  have l1 := putL_small2 a.toNat (by omega)
  have l2 := putL_small2 b.toNat (by omega)
  have E := Lib.hid (show putMo a b = putL a.toNat ++ putL b.toNat from rfl)
  rw [E.out]
  generalize putL a.toNat = x at P2 l1 ⊢
  generalize putL b.toNat = y at P3 l2 ⊢
  clear a0 a1 b0 b1 E
  go_enter Try.func86, Try.ntmps86
  have HB := Lib.hid (alloc_below w (.cells #[.int .i64 a, .int .i64 b] 96))
  go_wp2_with fail
  refine (P1.out _).mono ?_; rintro e w1 ⟨rfl, b1⟩
  have q0 := box_cell b1 0 (.int .i64 a) rfl
  have q1 := box_cell b1 1 (.int .i64 b) rfl
  have hlt : w.heap.size < w1.heap.size := Nat.lt_of_lt_of_le (by rw [World.size_alloc]; exact Nat.lt_succ_self _) b1.size
  have B1 := Lib.hid (below_trans HB.out b1)
  clear b1
  go_wp2_with fail
  refine (P2.out _).mono ?_; rintro e w2 ⟨v1, rfl, o1, b2⟩
  obtain ⟨A1, c1, rfl⟩ := own_form o1
  have q1' : w2.cell? ⟨w.heap.size, 1, none⟩ = some (.int .i64 b) := (b2.cell (p := ⟨w.heap.size, 1, none⟩) hlt).trans q1
  have B2 := Lib.hid (below_trans B1.out b2)
  have O1 := Lib.hid (own_mono o1 (show w.heap.size ≤ w1.heap.size by omega))
  clear o1 b2 q0 q1
  go_wp2_with fail
  refine (P3.out _).mono ?_; rintro e w3 ⟨v2, rfl, o2, b3⟩
  obtain ⟨A2, c2, rfl⟩ := own_form o2
  have B3 := Lib.hid (below_trans B2.out b3)
  have O1 := Lib.hid (own_below O1.out b3)
  have O2 := Lib.hid (own_bytes_reads o2)
  have HS := Lib.hid (show w.heap.size ≤ w3.heap.size from B3.out.size)
  clear o2 b3
  go_wp2_with (at_builtin; (refine wpList_appB _ rfl (.tmp 26) (.tmp 27) _ rfl Try.underlying30 info_b O1.out O2.out c2 rfl rfl (by omega) HS.out ?_); intro A5 c5 w5 o5 gr5; have O5 := Lib.hid o5; have G5 := Lib.hid gr5; clear o5 gr5)
  go_ret2
  have hlen : (x ++ y).length = x.length + y.length := List.length_append
  exact ⟨A5, c5, by rw [hlen]; rfl, by rw [hlen]; exact O5.out, B3.out.grown (Grew.by_ G5.out) HS.out fun i hi => (World.ownsRow.lt O1.out i hi).1⟩
set_option maxRecDepth 100000 in
set_option maxHeartbeats 1000000 in
theorem rrc_put (a b : Int) (w : World) (h : okRec (a, b) = true) :
    Calls Try.prog 90 #[.agg #[.int .i64 a, .int .i64 b]] w (Own1 w (putMo a b)) := by
  rw [okRec_iff] at h
  obtain ⟨a0, a1, b0, b1⟩ := h
  have P2 := Lib.hid (fun W => rput_any a.toNat W (by omega))
  have P3 := Lib.hid (fun W => rput_any b.toNat W (by omega))
  rw [show ((a.toNat : Nat) : Int) = a by omega] at P2
  rw [show ((b.toNat : Nat) : Int) = b by omega] at P3
  have l1 := putL_small2 a.toNat (by omega)
  have l2 := putL_small2 b.toNat (by omega)
  have E := Lib.hid (show putMo a b = putL a.toNat ++ putL b.toNat from rfl)
  rw [E.out]
  generalize putL a.toNat = x at P2 l1 ⊢
  generalize putL b.toNat = y at P3 l2 ⊢
  clear a0 a1 b0 b1 E
  have HB := Lib.hid (alloc_below w (.cells #[.int .i64 a, .int .i64 b] 96))
  have C0 := Lib.hid (new_cell w #[.int .i64 a, .int .i64 b] 96 _ rfl 0)
  have C1 := Lib.hid (new_cell w #[.int .i64 a, .int .i64 b] 96 _ rfl 1)
  go_enter Try.func90, Try.ntmps90
  go_wp2_with fail
  refine wp_region_R (R := RK (fun b => w.heap.size < b)) (n := 8) (by kernel_rfl) rfl ?_
  refine batchK [0, 1, 3, 4] (fuel := 4) rfl (by kernel_rfl) (by kernel_rfl) (fun _ _ d _ _ h => by cases d <;> exact h) ?_
  repeat (first | ((with_reducible apply wq0); rfl; rfl; rfl; intro K hK; go_big_quiet_op; refine hK _ ?_; clear hK K) | ((with_reducible apply wq1); rfl; rfl; rfl; rfl; rfl; rfl; intro K hK; go_big_quiet_op; refine hK _ ?_; clear hK K) | ((with_reducible apply wqs); rfl; rfl; rfl; rfl; rfl; rfl; simp only [Act.put, List.setIfInBounds_toArray, List.set_cons_zero, List.set_cons_succ]) | ((with_reducible apply wqu); rfl; rfl; rfl; rfl; rfl; simp only [same]))
  refine wqIdx_load rfl rfl rfl rfl (fun W hW => load_i64_at _ a W (keep_cellK hW (Nat.lt_irrefl _) C0.out)) ?_
  simp only [Act.put, List.setIfInBounds_toArray, List.set_cons_zero, List.set_cons_succ]
  repeat (first | ((with_reducible apply wq0); rfl; rfl; rfl; intro K hK; go_big_quiet_op; refine hK _ ?_; clear hK K) | ((with_reducible apply wq1); rfl; rfl; rfl; rfl; rfl; rfl; intro K hK; go_big_quiet_op; refine hK _ ?_; clear hK K) | ((with_reducible apply wqs); rfl; rfl; rfl; rfl; rfl; rfl; simp only [Act.put, List.setIfInBounds_toArray, List.set_cons_zero, List.set_cons_succ]) | ((with_reducible apply wqu); rfl; rfl; rfl; rfl; rfl; simp only [same]))
  refine wqIdx_load rfl rfl rfl rfl (fun W hW => load_i64_at _ b W (keep_cellK hW (Nat.lt_irrefl _) C1.out)) ?_
  simp only [Act.put, List.setIfInBounds_toArray, List.set_cons_zero, List.set_cons_succ]
  refine wqIdx_nil ?_
  refine wpAnyR_sole (i := 2) rfl (by kernel_rfl) (fun K hK => ?_)
  go_simp
  refine (P2.out _).mono ?_; rintro e w2 ⟨v1, rfl, o1, b2⟩
  obtain ⟨A1, c1, rfl⟩ := own_form o1
  refine hK _ _ (rk_below b2) ?_
  clear hK K
  have B2 := Lib.hid (below_trans HB.out (Below.of_drew0 b2))
  have O1 := Lib.hid (own_mono o1 (show w.heap.size ≤ _ from HB.out.size))
  have hb1 := World.ownsRow.lt o1
  clear b2 o1
  refine wpAnyR_sole (i := 5) rfl (by kernel_rfl) (fun K hK => ?_)
  go_simp
  refine (P3.out _).mono ?_; rintro e w3 ⟨v2, rfl, o2, b3⟩
  obtain ⟨A2, c2, rfl⟩ := own_form o2
  refine hK _ _ (rk_below b3) ?_
  clear hK K
  have B3 := Lib.hid (below_trans B2.out b3)
  have O1 := Lib.hid (own_below O1.out b3)
  have O2 := Lib.hid (own_bytes_reads o2)
  have HS := Lib.hid (show w.heap.size ≤ w3.heap.size from B3.out.size)
  clear o2 b3
  refine wpAnyR_sole (i := 6) rfl (by kernel_rfl) (fun K hK => ?_)
  rw [if_pos (wanted0 rfl _)]
  refine wp_appB _ (.tmp 5) (.tmp 8) _ rfl Try.underlying30 info_b O1.out O2.out c2 rfl rfl (by omega) HS.out ?_
  intro A5 c5 w5 o5 gr5
  have O5 := Lib.hid o5
  have G5 := Lib.hid gr5
  refine hK _ _ (rk_grown (Grew.by_ gr5) fun i hi => ?_) ?_
  · have h1 := (hb1 i hi).1
    rw [World.size_drew, World.size_alloc] at h1
    omega
  clear hK K o5 gr5
  simp only [Act.put, List.setIfInBounds_toArray, List.set_cons_zero, List.set_cons_succ]
  refine batchK [7] (fuel := 0) rfl (by kernel_rfl) (by kernel_rfl) (fun _ _ d _ _ h => by cases d <;> exact h) ?_
  repeat (first | ((with_reducible apply wq0); rfl; rfl; rfl; intro K hK; go_big_quiet_op; refine hK _ ?_; clear hK K) | ((with_reducible apply wq1); rfl; rfl; rfl; rfl; rfl; rfl; intro K hK; go_big_quiet_op; refine hK _ ?_; clear hK K) | ((with_reducible apply wqs); rfl; rfl; rfl; rfl; rfl; rfl; simp only [Act.put, List.setIfInBounds_toArray, List.set_cons_zero, List.set_cons_succ]) | ((with_reducible apply wqu); rfl; rfl; rfl; rfl; rfl; simp only [same]))
  refine wqIdx_nil ?_
  refine wpAnyR_done (by kernel_rfl) ?_ _
  go_wp2
  go_ret
  have hlen : (x ++ y).length = x.length + y.length := List.length_append
  exact ⟨_, rfl, by rw [hlen]; exact O5.out, B3.out.grown (Grew.by_ G5.out) HS.out fun i hi => (World.ownsRow.lt O1.out i hi).1⟩
set_option maxRecDepth 100000 in
set_option maxHeartbeats 1000000 in
theorem rc_read_nil (w : World) : Calls Try.prog 66 #[.pointer none] w fun e w' => e = .returned (.tuple #[.agg #[.int .i64 0, .int .i64 0], .int .i64 10]) ∧ Below w.heap.size w w' := by
  have P1 := Lib.hid num_nil
  have P2 := Lib.hid bad_nil
  go_enter Try.func66, Try.ntmps66
  go_wp2_with fail
  refine (P1.out _).mono ?_; rintro e w' ⟨rfl, rfl⟩
  go_wp2_with fail
  refine (P1.out _).mono ?_; rintro e w' ⟨rfl, rfl⟩
  go_wp2_with fail
  refine (P2.out _).mono ?_; rintro e w' ⟨rfl, rfl⟩
  go_wp2
  refine bodyPost_ret (results_cell_tmp_row rfl _ _ w.heap.size 96 #[.int .i64 0, .int .i64 0] (0, 0) _ rfl (show Blk _ _ _ _ by repeat (first | (refine blk_top _ _ _ _ ?_; simp; done) | refine Blk.alloc ?_ _)) Try.underlying96 rfl info_rec) rfl ?_
  exact ⟨rfl, by (repeat (refine below_trans ?_ (alloc_below _ _))); exact Below.refl _ _⟩
set_option maxRecDepth 100000 in
set_option maxHeartbeats 2000000 in
theorem rc_read_at (g h : Nat) (s : Option (List UInt8)) (w : World) (r : RdAt 139 w g h s) :
    Calls Try.prog 66 #[.pointer (some ⟨g, 0, none⟩)] w (ReadAns w g (readRec s)) := by
  have hlt := r.lt
  have R0 := Lib.hid (r.below (alloc_below w (.cells #[.int .i64 0, .int .i64 0] 96)))
  have H0 := Lib.hid (alloc_below w (.cells #[.int .i64 0, .int .i64 0] 96))
  have HK0 := Lib.hid (show Blk (w.alloc (.cells #[.int .i64 0, .int .i64 0] 96)) w.heap.size 96 #[.int .i64 0, .int .i64 0] from Blk.new w _ _)
  obtain ⟨x, s1, hx⟩ : ∃ x s1, numM s = (x, s1) := ⟨_, _, rfl⟩
  obtain ⟨y, s2, hy⟩ : ∃ y s2, numM s1 = (y, s2) := ⟨_, _, rfl⟩
  have hz : readRec s = (if s2 = none then ((0, 0), 10) else if okRec ((x : Int), (y : Int)) = true then (((x : Int), (y : Int)), 0) else ((0, 0), 30)) := by unfold readRec; rw [hx]; simp only; rw [hy]
  obtain ⟨z, hzz⟩ : ∃ z, readRec s = z := ⟨_, rfl⟩
  rw [hzz] at hz ⊢
  have HZ := Lib.hid hz
  have HX := Lib.hid hx
  have HY := Lib.hid hy
  clear r hx hy hz hzz
  go_enter Try.func66, Try.ntmps66
  go_wp2_with fail
  refine (num_at g h s _ R0.out).mono ?_
  rw [HX.out]
  rintro e w1 ⟨rfl, r1, g1⟩
  have HK1 := Lib.hid (HK0.out.grown g1 (by simp; omega))
  have R1 := Lib.hid r1
  have G1 := Lib.hid g1
  have hs1 : w.heap.size < w1.heap.size := HK1.out.lt
  clear r1 g1
  go_wp2_with fail
  refine (num_at g h s1 _ R1.out).mono ?_
  rw [HY.out]
  rintro e w2 ⟨rfl, r2, g2⟩
  have HK2 := Lib.hid (HK1.out.grown g2 (by simp; omega))
  have G2 := Lib.hid g2
  have HBB := Lib.hid (fun B (hB : B ≤ g) (hs : B ≤ w.heap.size) => grown_to (grown_to (H0.out.mono hs) G1.out hB (by rw [World.size_alloc]; omega)) g2 hB (by omega))
  have R2 := Lib.hid (r2.below (alloc_below w2 (.cells #[.int .i64 (x : Int), .int .i64 (y : Int)] 96)))
  have hs2 : w.heap.size < w2.heap.size := HK2.out.lt
  clear r2 g2
  go_wp2_with fail
  refine (bad_at g h s2 _ R2.out).mono ?_
  rintro e w' ⟨rfl, rfl⟩
  have c0 := HK2.out.cell 0
  have c1 := HK2.out.cell 1
  simp at c0 c1
  have f0 := HK2.out.frozen 0
  have f1 := HK2.out.frozen 1
  have hne : ¬ w.heap.size = w2.heap.size := by omega
  have HRES := Lib.hid (fun (v0 v1 : Value) (o : Obj) => (show Blk (((w2.setCell ⟨w.heap.size, 0, none⟩ v0).setCell ⟨w.heap.size, 1, none⟩ v1).alloc o) w.heap.size 96 #[v0, v1] from ((HK2.out.set_ 0 v0).set_ 1 v1).alloc o))
  have HBL := Lib.hid (fun (v0 v1 : Value) (o : Obj) B (hB : B ≤ g) (hs : B ≤ w.heap.size) => (below_setCell (below_setCell (HBB.out B hB hs) (p := ⟨w.heap.size, 0, none⟩) hs v0) (p := ⟨w.heap.size, 1, none⟩) hs v1).alloc (by simp; omega) o)
  cases s2 with
  | none =>
    simp only [Option.isNone_none]
    go_wp2
    refine bodyPost_ret (results_cell_tmp_row rfl _ _ w.heap.size 96 #[.int .i64 0, .int .i64 0] (0, 0) _ rfl (HRES.out _ _ _) Try.underlying96 rfl info_rec) rfl ?_
    rw [show z = ((0, 0), 10) by rw [HZ.out]; simp]
    exact ⟨rfl, HBL.out _ _ _⟩
  | some l2 =>
    have P4 := Lib.hid (fun W => rc_check_any (x : Int) (y : Int) W)
    have HZ2 := Lib.hid (show z = (if okRec ((x : Int), (y : Int)) = true then (((x : Int), (y : Int)), 0) else ((0, 0), 30)) by rw [HZ.out, if_neg (by simp)])
    clear HZ
    cases hok : okRec ((x : Int), (y : Int))
    · rw [recE_no hok] at P4
      have HZ3 := Lib.hid (show z = ((0, 0), 30) by rw [HZ2.out, hok]; rfl)
      clear hok HZ2
      simp only [Option.isNone_some]
      go_wp2_with fail
      refine (P4.out _).mono ?_; rintro e w3 ⟨rfl, b3⟩
      have hs3 : w2.heap.size < w3.heap.size := Nat.lt_of_lt_of_le (by rw [World.size_alloc]; exact Nat.lt_succ_self _) b3.size
      have HK3 := Lib.hid ((HK2.out.alloc (.cells #[.int .i64 (x : Int), .int .i64 (y : Int)] 96)).below b3 (by rw [World.size_alloc]; omega))
      have HBB3 := Lib.hid (fun B (hB : B ≤ g) (hs : B ≤ w.heap.size) => ((HBB.out B hB hs).alloc (by omega) (.cells #[.int .i64 (x : Int), .int .i64 (y : Int)] 96)).trans (b3.mono (by rw [World.size_alloc]; omega)))
      have q0 := box_cell b3 0 (.int .i64 (x : Int)) rfl
      have q1 := box_cell b3 1 (.int .i64 (y : Int)) rfl
      clear c0 c1 f0 f1 b3
      have c0 := HK3.out.cell 0
      have c1 := HK3.out.cell 1
      simp at c0 c1
      have f0 := HK3.out.frozen 0
      have f1 := HK3.out.frozen 1
      have HRES3 := Lib.hid (fun (v0 v1 : Value) => (show Blk ((w3.setCell ⟨w.heap.size, 0, none⟩ v0).setCell ⟨w.heap.size, 1, none⟩ v1) w.heap.size 96 #[v0, v1] from (HK3.out.set_ 0 v0).set_ 1 v1))
      have HBL3 := Lib.hid (fun (v0 v1 : Value) B (hB : B ≤ g) (hs : B ≤ w.heap.size) => below_setCell (below_setCell (HBB3.out B hB hs) (p := ⟨w.heap.size, 0, none⟩) hs v0) (p := ⟨w.heap.size, 1, none⟩) hs v1)
      go_wp2
      refine bodyPost_ret (results_cell_tmp_row rfl _ _ w.heap.size 96 #[.int .i64 0, .int .i64 0] (0, 0) _ rfl (HRES3.out _ _) Try.underlying96 rfl info_rec) rfl ?_
      rw [HZ3.out]
      exact ⟨rfl, HBL3.out _ _⟩
    · rw [recE_ok hok] at P4
      have HZ3 := Lib.hid (show z = (((x : Int), (y : Int)), 0) by rw [HZ2.out, if_pos hok])
      clear hok HZ2
      simp only [Option.isNone_some]
      go_wp2_with fail
      refine (P4.out _).mono ?_; rintro e w3 ⟨rfl, b3⟩
      have hs3 : w2.heap.size < w3.heap.size := Nat.lt_of_lt_of_le (by rw [World.size_alloc]; exact Nat.lt_succ_self _) b3.size
      have HK3 := Lib.hid ((HK2.out.alloc (.cells #[.int .i64 (x : Int), .int .i64 (y : Int)] 96)).below b3 (by rw [World.size_alloc]; omega))
      have HBB3 := Lib.hid (fun B (hB : B ≤ g) (hs : B ≤ w.heap.size) => ((HBB.out B hB hs).alloc (by omega) (.cells #[.int .i64 (x : Int), .int .i64 (y : Int)] 96)).trans (b3.mono (by rw [World.size_alloc]; omega)))
      have q0 := box_cell b3 0 (.int .i64 (x : Int)) rfl
      have q1 := box_cell b3 1 (.int .i64 (y : Int)) rfl
      clear c0 c1 f0 f1 b3
      have c0 := HK3.out.cell 0
      have c1 := HK3.out.cell 1
      simp at c0 c1
      have f0 := HK3.out.frozen 0
      have f1 := HK3.out.frozen 1
      have HRES3 := Lib.hid (fun (v0 v1 : Value) => (show Blk ((w3.setCell ⟨w.heap.size, 0, none⟩ v0).setCell ⟨w.heap.size, 1, none⟩ v1) w.heap.size 96 #[v0, v1] from (HK3.out.set_ 0 v0).set_ 1 v1))
      have HBL3 := Lib.hid (fun (v0 v1 : Value) B (hB : B ≤ g) (hs : B ≤ w.heap.size) => below_setCell (below_setCell (HBB3.out B hB hs) (p := ⟨w.heap.size, 0, none⟩) hs v0) (p := ⟨w.heap.size, 1, none⟩) hs v1)
      go_wp2
      refine bodyPost_ret (results_cell_tmp_row rfl _ _ w.heap.size 96 #[.int .i64 (x : Int), .int .i64 (y : Int)] (0, 0) _ rfl (HRES3.out _ _) Try.underlying96 rfl info_rec) rfl ?_
      rw [HZ3.out]
      exact ⟨rfl, HBL3.out _ _⟩
end Go.Proofs.Ytalefgcdhakfoaa
