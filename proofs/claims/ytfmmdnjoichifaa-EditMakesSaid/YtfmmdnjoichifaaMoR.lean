/- Contracts of package moment: Read, and where the reader stands then. -/
import Derived.Test.YtfmmdnjoichifaaReR
import Derived.Test.YtfmmdnjoichifaaMoF
namespace Go.Proofs.Ytfmmdnjoichifaa
open Go.RowKit

set_option maxRecDepth 100000 in
set_option maxHeartbeats 2000000 in
theorem mread_at2 (g h : Nat) (s : Option (List UInt8)) (w : World) (r : RdAt 151 w g h s) (hh : h ≠ w.heap.size) :
    Calls Try.prog 77 #[.pointer (some ⟨g, 0, none⟩)] w (ReadAns2 151 w g h (readMo s) (numM (numM s).2).2) := by
  have hlt := r.lt
  have R0 := Lib.hid (r.below (alloc_below w (.cells #[.int .i64 0, .int .i64 0] 47)))
  have H0 := Lib.hid (alloc_below w (.cells #[.int .i64 0, .int .i64 0] 47))
  have HK0 := Lib.hid (show Blk (w.alloc (.cells #[.int .i64 0, .int .i64 0] 47)) w.heap.size 47 #[.int .i64 0, .int .i64 0] from Blk.new w _ _)
  obtain ⟨x, s1, hx⟩ : ∃ x s1, numM s = (x, s1) := ⟨_, _, rfl⟩
  obtain ⟨y, s2, hy⟩ : ∃ y s2, numM s1 = (y, s2) := ⟨_, _, rfl⟩
  have hz : readMo s = (if s2 = none then ((0, 0), 10) else if okMo ((x : Int), (y : Int)) = true then (((x : Int), (y : Int)), 0) else ((0, 0), 40)) := by unfold readMo; rw [hx]; simp only; rw [hy]
  have hs2e : (numM (numM s).2).2 = s2 := by rw [hx]; simp only; rw [hy]
  rw [hs2e]
  obtain ⟨z, hzz⟩ : ∃ z, readMo s = z := ⟨_, rfl⟩
  rw [hzz] at hz ⊢
  have HZ := Lib.hid hz
  have HX := Lib.hid hx
  have HY := Lib.hid hy
  clear r hx hy hz hzz hs2e
  go_enter Try.func77, Try.ntmps77
  go_wp2_with fail
  refine (num_at g h s _ R0.out).mono ?_
  rw [HX.out]
  rintro e w1 ⟨rfl, r1, g1⟩
  have HK1 := Lib.hid (HK0.out.grown g1 (by simp; omega))
  have R1 := Lib.hid r1
  have G1 := Lib.hid g1
  have hs1 : w.heap.size < w1.heap.size := HK1.out.lt
  clear r1 g1
  go_wp2_with fail
  refine (num_at g h s1 _ R1.out).mono ?_
  rw [HY.out]
  rintro e w2 ⟨rfl, r2, g2⟩
  have HK2 := Lib.hid (HK1.out.grown g2 (by simp; omega))
  have G2 := Lib.hid g2
  have HBB := Lib.hid (only_trans (only_trans (World.grownBy_alloc w (.cells #[.int .i64 0, .int .i64 0] 47) (some g)) G1.out) g2)
  have RD2 := Lib.hid r2
  have R2 := Lib.hid (r2.below (alloc_below w2 (.cells #[.int .i64 (x : Int), .int .i64 (y : Int)] 47)))
  have hs2 : w.heap.size < w2.heap.size := HK2.out.lt
  clear r2 g2
  go_wp2_with fail
  refine (bad_at g h s2 _ R2.out).mono ?_
  rintro e w' ⟨rfl, rfl⟩
  have c0 := HK2.out.cell 0
  have c1 := HK2.out.cell 1
  simp at c0 c1
  have f0 := HK2.out.frozen 0
  have f1 := HK2.out.frozen 1
  have hne : ¬ w.heap.size = w2.heap.size := by omega
  have HRES := Lib.hid (fun (v0 v1 : Value) (o : Obj) => (show Blk (((w2.setCell ⟨w.heap.size, 0, none⟩ v0).setCell ⟨w.heap.size, 1, none⟩ v1).alloc o) w.heap.size 47 #[v0, v1] from ((HK2.out.set_ 0 v0).set_ 1 v1).alloc o))
  have HBL := Lib.hid (fun (v0 v1 : Value) (o : Obj) => only_below (only_setCell (only_setCell HBB.out (p := ⟨w.heap.size, 0, none⟩) (.inr (Nat.le_refl _)) v0) (p := ⟨w.heap.size, 1, none⟩) (.inr (Nat.le_refl _)) v1) (alloc_below _ o))
  have HRD := Lib.hid (fun (v0 v1 : Value) (o : Obj) => ((RD2.out.set2 (p := ⟨w.heap.size, 0, none⟩) (Nat.ne_of_lt hlt) hh v0).set2 (p := ⟨w.heap.size, 1, none⟩) (Nat.ne_of_lt hlt) hh v1).below (alloc_below _ o))
  cases s2 with
  | none =>
    simp only [Option.isNone_none]
    go_wp2
    refine bodyPost_ret (results_cell_tmp_row rfl _ _ w.heap.size 47 #[.int .i64 0, .int .i64 0] (0, 0) _ rfl (HRES.out _ _ _) Try.underlying47 rfl info_mo) rfl ?_
    rw [show z = ((0, 0), 10) by rw [HZ.out]; simp]
    exact ⟨rfl, HRD.out _ _ _, HBL.out _ _ _⟩
  | some l2 =>
    have P4 := Lib.hid (fun W => check_any (x : Int) (y : Int) W)
    have HZ2 := Lib.hid (show z = (if okMo ((x : Int), (y : Int)) = true then (((x : Int), (y : Int)), 0) else ((0, 0), 40)) by rw [HZ.out, if_neg (by simp)])
    clear HZ
    cases hok : okMo ((x : Int), (y : Int))
    · rw [moE_no hok] at P4
      have HZ3 := Lib.hid (show z = ((0, 0), 40) by rw [HZ2.out, hok]; rfl)
      clear hok HZ2
      simp only [Option.isNone_some]
      go_wp2_with fail
      refine (P4.out _).mono ?_; rintro e w3 ⟨rfl, b3⟩
      have hs3 : w2.heap.size < w3.heap.size := Nat.lt_of_lt_of_le (by rw [World.size_alloc]; exact Nat.lt_succ_self _) b3.size
      have HK3 := Lib.hid ((HK2.out.alloc (.cells #[.int .i64 (x : Int), .int .i64 (y : Int)] 47)).below b3 (by rw [World.size_alloc]; omega))
      have HBB3 := Lib.hid (only_below (only_below HBB.out (alloc_below w2 (.cells #[.int .i64 (x : Int), .int .i64 (y : Int)] 47))) b3)
      have RD3 := Lib.hid ((RD2.out.below (alloc_below w2 (.cells #[.int .i64 (x : Int), .int .i64 (y : Int)] 47))).below b3)
      have q0 := box_cell b3 0 (.int .i64 (x : Int)) rfl
      have q1 := box_cell b3 1 (.int .i64 (y : Int)) rfl
      clear c0 c1 f0 f1 b3
      have c0 := HK3.out.cell 0
      have c1 := HK3.out.cell 1
      simp at c0 c1
      have f0 := HK3.out.frozen 0
      have f1 := HK3.out.frozen 1
      have HRES3 := Lib.hid (fun (v0 v1 : Value) => (show Blk ((w3.setCell ⟨w.heap.size, 0, none⟩ v0).setCell ⟨w.heap.size, 1, none⟩ v1) w.heap.size 47 #[v0, v1] from (HK3.out.set_ 0 v0).set_ 1 v1))
      have HBL3 := Lib.hid (fun (v0 v1 : Value) => only_setCell (only_setCell HBB3.out (p := ⟨w.heap.size, 0, none⟩) (.inr (Nat.le_refl _)) v0) (p := ⟨w.heap.size, 1, none⟩) (.inr (Nat.le_refl _)) v1)
      have HRD3 := Lib.hid (fun (v0 v1 : Value) => (RD3.out.set2 (p := ⟨w.heap.size, 0, none⟩) (Nat.ne_of_lt hlt) hh v0).set2 (p := ⟨w.heap.size, 1, none⟩) (Nat.ne_of_lt hlt) hh v1)
      go_wp2
      refine bodyPost_ret (results_cell_tmp_row rfl _ _ w.heap.size 47 #[.int .i64 0, .int .i64 0] (0, 0) _ rfl (HRES3.out _ _) Try.underlying47 rfl info_mo) rfl ?_
      rw [HZ3.out]
      exact ⟨rfl, HRD3.out _ _, HBL3.out _ _⟩
    · rw [moE_ok hok] at P4
      have HZ3 := Lib.hid (show z = (((x : Int), (y : Int)), 0) by rw [HZ2.out, if_pos hok])
      clear hok HZ2
      simp only [Option.isNone_some]
      go_wp2_with fail
      refine (P4.out _).mono ?_; rintro e w3 ⟨rfl, b3⟩
      have hs3 : w2.heap.size < w3.heap.size := Nat.lt_of_lt_of_le (by rw [World.size_alloc]; exact Nat.lt_succ_self _) b3.size
      have HK3 := Lib.hid ((HK2.out.alloc (.cells #[.int .i64 (x : Int), .int .i64 (y : Int)] 47)).below b3 (by rw [World.size_alloc]; omega))
      have HBB3 := Lib.hid (only_below (only_below HBB.out (alloc_below w2 (.cells #[.int .i64 (x : Int), .int .i64 (y : Int)] 47))) b3)
      have RD3 := Lib.hid ((RD2.out.below (alloc_below w2 (.cells #[.int .i64 (x : Int), .int .i64 (y : Int)] 47))).below b3)
      have q0 := box_cell b3 0 (.int .i64 (x : Int)) rfl
      have q1 := box_cell b3 1 (.int .i64 (y : Int)) rfl
      clear c0 c1 f0 f1 b3
      have c0 := HK3.out.cell 0
      have c1 := HK3.out.cell 1
      simp at c0 c1
      have f0 := HK3.out.frozen 0
      have f1 := HK3.out.frozen 1
      have HRES3 := Lib.hid (fun (v0 v1 : Value) => (show Blk ((w3.setCell ⟨w.heap.size, 0, none⟩ v0).setCell ⟨w.heap.size, 1, none⟩ v1) w.heap.size 47 #[v0, v1] from (HK3.out.set_ 0 v0).set_ 1 v1))
      have HBL3 := Lib.hid (fun (v0 v1 : Value) => only_setCell (only_setCell HBB3.out (p := ⟨w.heap.size, 0, none⟩) (.inr (Nat.le_refl _)) v0) (p := ⟨w.heap.size, 1, none⟩) (.inr (Nat.le_refl _)) v1)
      have HRD3 := Lib.hid (fun (v0 v1 : Value) => (RD3.out.set2 (p := ⟨w.heap.size, 0, none⟩) (Nat.ne_of_lt hlt) hh v0).set2 (p := ⟨w.heap.size, 1, none⟩) (Nat.ne_of_lt hlt) hh v1)
      go_wp2
      refine bodyPost_ret (results_cell_tmp_row rfl _ _ w.heap.size 47 #[.int .i64 (x : Int), .int .i64 (y : Int)] (0, 0) _ rfl (HRES3.out _ _) Try.underlying47 rfl info_mo) rfl ?_
      rw [HZ3.out]
      exact ⟨rfl, HRD3.out _ _, HBL3.out _ _⟩
end Go.Proofs.Ytfmmdnjoichifaa
