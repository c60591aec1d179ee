/- Contracts of a disk: Write. -/
import Derived.Test.YtfmmdnjoichifaaFiY
namespace Go.Proofs.Ytfmmdnjoichifaa
open Go.RowKit Go.Sort

theorem wp_arr_sec {o : Oper} {a : Act} {w : World} {K : Act → World → Prop} {Q : Exit → Act → World → Prop} {A : Option Addr} {c : Nat} (x : Operand) (ho : o.op = .sliceToArrayPointer 94 x) (hx : a.eval x = .slice A 64 c) (h : K (a.put o.dst (.pointer A)) w) : o.wp Try.prog a w K Q := by
  unfold Oper.wp execOp
  simp only [ho, hx, arrayAt_sec, Sem.run_bind, Result.andThen_ok, Sem.run_pure]
  exact h
section
variable {w w' w1 w2 w3 : World} {base d m : Nat} {D : Dk}
set_option maxRecDepth 100000 in
set_option maxHeartbeats 2000000 in
theorem write1_any (h : DiskR w base d m D) {f : Fi} (hf : f ∈ D.fs) {i : Nat} (hi : i < f.now.length) {s : Sec} {A : Option Addr} {c bb bi bd bf : Nat} (h0 : w.cell? ⟨bb, 0, none⟩ = some (.slice A 64 c)) (h1 : Blk w bf 86 #[ptD f.blk]) (h2 : Blk w bi 3 #[.int .i64 (i : Int)]) (h3 : Blk w bd 23 #[ptD d])
    (hs : SecAt w base A s) (hp : D.pend.length ≤ 1000000) (hbase : base ≤ w.heap.size) :
    Calls Try.prog 92 #[.pointer (some ⟨bb, 0, none⟩), .pointer (some ⟨bf, 0, none⟩), .pointer (some ⟨bi, 0, none⟩), .pointer (some ⟨bd, 0, none⟩)] w fun e w' => e = .returned (.tuple #[]) ∧
      DiskR w' base d m { D with fs := updF D.fs { f with now := f.now.set i s }, pend := D.pend ++ [⟨f.blk, i, s⟩] } ∧ DF base m w w' := by
  obtain ⟨ad, rfl, hadb, hcs, -⟩ := hs
  have hi64 : (Try.prog.info? 94).map (·.size) = some (encSec s).length := by rw [laySec.len]; exact info_secS
  obtain ⟨nA, nc, kA, kc, -, -, -, f1, -, hno, -⟩ := h.file hf
  have hnow : ∃ g cur, nA = some ⟨g, 0, none⟩ ∧ w.heap[g]? = some (.cells cur 94 (0, 0)) ∧ f.now.length * 64 ≤ cur.size := by
    rcases hno.2 with ⟨hv, h0⟩ | ⟨g, cap, cur, hv, hb, hh, hnc, hcm, hcs, ht⟩
    · omega
    · injection hv with hv1 hv2 hv3
      exact ⟨g, cur, hv1, hh, by rw [hcs]; exact Nat.mul_le_mul_right 64 hnc⟩
  obtain ⟨g, cur, rfl, hcur, hcz⟩ := hnow
  have F1 := Lib.hid f1
  have HCUR := Lib.hid hcur
  have HCZ := Lib.hid hcz
  have HI := Lib.hid hi64
  have HCS := Lib.hid hcs
  have H := Lib.hid h
  have HF := Lib.hid hf
  have HX0 := Lib.hid h0
  have HX1 := Lib.hid h1
  have HX2 := Lib.hid h2
  have HX3 := Lib.hid h3
  have HP := Lib.hid hp
  have HB := Lib.hid hbase
  have HLI := Lib.hid hi
  have hn3 := (h.small f hf).1
  clear h hf h0 h1 h2 h3 hp hbase hno f1 hcur hcz hcs hi64
  go_enter Try.func92, Try.ntmps92
  go_wp2_with fail
  refine wp_region_J RT [9] (n := 10) (by kernel_rfl) rfl ?_
  refine batchJ RT.refl [0, 1, 2, 3, 4, 5] (fuel := 4) rfl (by kernel_rfl) (by kernel_rfl) (fun _ _ d _ _ h => by cases d <;> exact h) ?_
  (repeat (first | ((with_reducible apply wq0); rfl; rfl; rfl; intro K hK; go_big_quiet_op; refine hK _ ?_; clear hK K) | ((with_reducible apply wq1); rfl; rfl; rfl; rfl; rfl; rfl; intro K hK; go_big_quiet_op; refine hK _ ?_; clear hK K) | ((with_reducible apply wqs); rfl; rfl; rfl; rfl; rfl; rfl; simp only [Act.put, List.setIfInBounds_toArray, List.set_cons_zero, List.set_cons_succ]) | ((with_reducible apply wqu); rfl; rfl; rfl; rfl; rfl; (first | simp only [same, Act.put, List.setIfInBounds_toArray, List.set_cons_zero, List.set_cons_succ] | simp only [Act.put, List.setIfInBounds_toArray, List.set_cons_zero, List.set_cons_succ]))))
  refine wqIdx_load rfl rfl rfl rfl (fun W hW => run_load1 (fun _ => by kernel_rfl) (keep_c hW (HX1.out.cell 0))) ?_; simp only [Act.put, List.setIfInBounds_toArray, List.set_cons_zero, List.set_cons_succ]
  (repeat (first | ((with_reducible apply wq0); rfl; rfl; rfl; intro K hK; go_big_quiet_op; refine hK _ ?_; clear hK K) | ((with_reducible apply wq1); rfl; rfl; rfl; rfl; rfl; rfl; intro K hK; go_big_quiet_op; refine hK _ ?_; clear hK K) | ((with_reducible apply wqs); rfl; rfl; rfl; rfl; rfl; rfl; simp only [Act.put, List.setIfInBounds_toArray, List.set_cons_zero, List.set_cons_succ]) | ((with_reducible apply wqu); rfl; rfl; rfl; rfl; rfl; (first | simp only [same, Act.put, List.setIfInBounds_toArray, List.set_cons_zero, List.set_cons_succ] | simp only [Act.put, List.setIfInBounds_toArray, List.set_cons_zero, List.set_cons_succ]))))
  refine wqIdx_nil_check rfl rfl rfl rfl ?_; simp only [Act.put, List.setIfInBounds_toArray, List.set_cons_zero, List.set_cons_succ]
  (repeat (first | ((with_reducible apply wq0); rfl; rfl; rfl; intro K hK; go_big_quiet_op; refine hK _ ?_; clear hK K) | ((with_reducible apply wq1); rfl; rfl; rfl; rfl; rfl; rfl; intro K hK; go_big_quiet_op; refine hK _ ?_; clear hK K) | ((with_reducible apply wqs); rfl; rfl; rfl; rfl; rfl; rfl; simp only [Act.put, List.setIfInBounds_toArray, List.set_cons_zero, List.set_cons_succ]) | ((with_reducible apply wqu); rfl; rfl; rfl; rfl; rfl; (first | simp only [same, Act.put, List.setIfInBounds_toArray, List.set_cons_zero, List.set_cons_succ] | simp only [Act.put, List.setIfInBounds_toArray, List.set_cons_zero, List.set_cons_succ]))))
  refine wqIdx_load rfl rfl rfl rfl (fun W hW => run_load1 (fun _ => by kernel_rfl) (keep_c hW (F1.out))) ?_; simp only [Act.put, List.setIfInBounds_toArray, List.set_cons_zero, List.set_cons_succ]
  (repeat (first | ((with_reducible apply wq0); rfl; rfl; rfl; intro K hK; go_big_quiet_op; refine hK _ ?_; clear hK K) | ((with_reducible apply wq1); rfl; rfl; rfl; rfl; rfl; rfl; intro K hK; go_big_quiet_op; refine hK _ ?_; clear hK K) | ((with_reducible apply wqs); rfl; rfl; rfl; rfl; rfl; rfl; simp only [Act.put, List.setIfInBounds_toArray, List.set_cons_zero, List.set_cons_succ]) | ((with_reducible apply wqu); rfl; rfl; rfl; rfl; rfl; (first | simp only [same, Act.put, List.setIfInBounds_toArray, List.set_cons_zero, List.set_cons_succ] | simp only [Act.put, List.setIfInBounds_toArray, List.set_cons_zero, List.set_cons_succ]))))
  refine wqIdx_load rfl rfl rfl rfl (fun W hW => run_load1 (fun _ => by kernel_rfl) (keep_c hW (HX2.out.cell 0))) ?_; simp only [Act.put, List.setIfInBounds_toArray, List.set_cons_zero, List.set_cons_succ]
  (repeat (first | ((with_reducible apply wq0); rfl; rfl; rfl; intro K hK; go_big_quiet_op; refine hK _ ?_; clear hK K) | ((with_reducible apply wq1); rfl; rfl; rfl; rfl; rfl; rfl; intro K hK; go_big_quiet_op; refine hK _ ?_; clear hK K) | ((with_reducible apply wqs); rfl; rfl; rfl; rfl; rfl; rfl; simp only [Act.put, List.setIfInBounds_toArray, List.set_cons_zero, List.set_cons_succ]) | ((with_reducible apply wqu); rfl; rfl; rfl; rfl; rfl; (first | simp only [same, Act.put, List.setIfInBounds_toArray, List.set_cons_zero, List.set_cons_succ] | simp only [Act.put, List.setIfInBounds_toArray, List.set_cons_zero, List.set_cons_succ]))))
  refine wqIdx_load rfl rfl rfl rfl (fun W hW => run_load1 (fun _ => by kernel_rfl) (keep_c hW (HX0.out))) ?_; simp only [Act.put, List.setIfInBounds_toArray, List.set_cons_zero, List.set_cons_succ]
  (repeat (first | ((with_reducible apply wq0); rfl; rfl; rfl; intro K hK; go_big_quiet_op; refine hK _ ?_; clear hK K) | ((with_reducible apply wq1); rfl; rfl; rfl; rfl; rfl; rfl; intro K hK; go_big_quiet_op; refine hK _ ?_; clear hK K) | ((with_reducible apply wqs); rfl; rfl; rfl; rfl; rfl; rfl; simp only [Act.put, List.setIfInBounds_toArray, List.set_cons_zero, List.set_cons_succ]) | ((with_reducible apply wqu); rfl; rfl; rfl; rfl; rfl; (first | simp only [same, Act.put, List.setIfInBounds_toArray, List.set_cons_zero, List.set_cons_succ] | simp only [Act.put, List.setIfInBounds_toArray, List.set_cons_zero, List.set_cons_succ]))))
  refine wqIdx_nil ?_
  refine wpAnyJ_sole (i := 6) rfl (by kernel_rfl) (fun K hK => ?_); rw [if_pos (wanted0 rfl _)]
  refine wp_arr_sec (A := some ad) (c := c) (.tmp 9) rfl rfl ?_
  refine hK _ _ ⟨fun _ => rb_of (dr_below (Below.refl _ _)), trivial⟩ ?_
  clear hK K
  simp only [Act.put, List.setIfInBounds_toArray, List.set_cons_zero, List.set_cons_succ]
  refine batchJ RT.refl [7, 8] (fuel := 1) rfl (by kernel_rfl) (by kernel_rfl) (fun _ _ d _ _ h => by cases d <;> exact h) ?_
  refine wqIdx_load rfl rfl rfl rfl (fun W hW => run_load_big Try.underlying94 rfl _ (encSec s) HI.out (fun j v hj => keep_c hW (HCS.out j v hj))) ?_
  simp only [Act.put, List.setIfInBounds_toArray, List.set_cons_zero, List.set_cons_succ]
  (repeat (first | ((with_reducible apply wq0); rfl; rfl; rfl; intro K hK; go_big_quiet_op; refine hK _ ?_; clear hK K) | ((with_reducible apply wq1); rfl; rfl; rfl; rfl; rfl; rfl; intro K hK; go_big_quiet_op; refine hK _ ?_; clear hK K) | ((with_reducible apply wqs); rfl; rfl; rfl; rfl; rfl; rfl; simp only [Act.put, List.setIfInBounds_toArray, List.set_cons_zero, List.set_cons_succ]) | ((with_reducible apply wqu); rfl; rfl; rfl; rfl; rfl; (first | simp only [same, Act.put, List.setIfInBounds_toArray, List.set_cons_zero, List.set_cons_succ] | simp only [Act.put, List.setIfInBounds_toArray, List.set_cons_zero, List.set_cons_succ]))))
  refine wqIdx_nil ?_
  refine wpAnyJ_sole (i := 9) rfl (by kernel_rfl) (fun K hK => ?_); rw [if_pos (wanted0 rfl _)]
  have HS := Lib.hid (H.out.drew.storeNow HF.out F1.out HLI.out s (w := w.drew) HCUR.out)
  refine wp_store_at 94 (.tmp 12) (.tmp 11) rfl (g := g) (off := i * 64) (t := 94) (cells := encSec s) (cur := cur) ?cx rfl HCUR.out HI.out (by have := HCZ.out; have := laySec.len s; omega) (laySec.one s) ?_
  case cx => go_simp
  refine hK _ _ ⟨fun hc => absurd (List.mem_singleton.2 rfl) hc, trivial⟩ ?_
  clear hK K
  obtain ⟨w2, hw2⟩ : ∃ w2, w2 = w.drew.setRow g (cur.toList.take (i * 64) ++ encSec s ++ cur.toList.drop (i * 64 + (encSec s).length)).toArray := ⟨_, rfl⟩
  rw [← hw2] at HS ⊢
  have gs : w.grownBy w2 (some g) := by
    have k := setRow_cells w.drew g (cur.toList.take (i * 64) ++ encSec s ++ cur.toList.drop (i * 64 + (encSec s).length)).toArray 94 cur HCUR.out
    rw [← hw2] at k
    exact ⟨k.os, k.tape, k.output, k.size, k.block⟩
  have nb : ∀ {k t cs}, Blk w k t cs → t ≠ 94 → some k ≠ some g := fun hb ht e => by injection e with e; exact Blk.ne_ hb HCUR.out ht e
  have HY1 := Lib.hid (HX1.out.grown gs (nb HX1.out (by decide)))
  have HY2 := Lib.hid (HX2.out.grown gs (nb HX2.out (by decide)))
  have HY3 := Lib.hid (HX3.out.grown gs (nb HX3.out (by decide)))
  clear hw2 gs nb HX0 HX1 HX2 HX3 HCUR HCZ HCS F1 hi hadb
  refine wpAnyJ_done (by kernel_rfl) ?_ _
  have HF2 := Lib.hid (mem_updF_self HF.out (show f.blk = ({ f with now := f.now.set i s } : Fi).blk from rfl))
  have KF0 := Lib.hid (show KF base w w2 from HS.out.2)
  have HH0 := Lib.hid HS.out.1
  clear HS H HF
  obtain ⟨f2, hf2⟩ : ∃ f2 : Fi, f2 = { f with now := f.now.set i s } := ⟨_, rfl⟩
  obtain ⟨D2, hD2⟩ : ∃ D2 : Dk, D2 = { D with fs := updF D.fs f2 } := ⟨_, rfl⟩
  rw [← hf2] at HF2 HH0
  rw [← hD2] at HH0
  have hfb : f.blk = f2.blk := by rw [hf2]
  have hfl : i < f2.now.length := by rw [hf2]; show i < (f.now.set i s).length; rw [List.length_set]; exact HLI.out
  have hat : f2.now[i]? = some s := by rw [hf2]; show (f.now.set i s)[i]? = some s; rw [List.getElem?_set_self HLI.out]
  have hpd : D2.pend = D.pend := by rw [hD2]
  have hgoal : ({ D with fs := updF D.fs { f with now := f.now.set i s }, pend := D.pend ++ [⟨f.blk, i, s⟩] } : Dk) = { D2 with pend := D2.pend ++ [⟨f2.blk, i, s⟩] } := by rw [hD2, ← hf2, hfb]
  have HF3 : f2 ∈ D2.fs := by rw [hD2]; exact HF2.out
  have HGOAL := Lib.hid hgoal
  rw [hfb] at HY1
  rw [← hpd] at HP
  have HMEM := Lib.hid HF3
  have HAT := Lib.hid hat
  have HIL := Lib.hid (show i ≤ 16384 by have := HLI.out; omega)
  have HFB := Lib.hid hfb
  clear hf2 hD2 hfb hpd hgoal HF3 HF2 HLI hat hn3
  obtain ⟨pA, pc, -, -, -, c2, -, -, -, hpo⟩ := HH0.out.cells
  obtain ⟨nA2, nc2, kA2, kc2, -, -, -, f1, -, hno, -⟩ := HH0.out.file HMEM.out
  have C2 := Lib.hid c2
  have F1 := Lib.hid f1
  have HPO := Lib.hid hpo
  have D1 := Lib.hid (HY3.out.cell 0)
  have G1 := Lib.hid (HY1.out.cell 0)
  have I1 := Lib.hid (HY2.out.cell 0)
  have ND := Lib.hid (show ¬ (bd = d ∨ (Value.slice pA D2.pend.length pc).ownBlock = some bd) from by
    obtain ⟨_, _, hbt, -⟩ := HH0.out.top
    rintro (e | e)
    · exact Blk.ne_ HY3.out hbt (by decide) e
    · exact own_ne_blk HPO.out HY3.out (by decide) e)
  have hnow2 : ∃ g2, nA2 = some ⟨g2, 0, none⟩ ∧ ∀ j v, (encSec s)[j]? = some v → w2.cell? ((⟨g2, i * 64, none⟩ : Addr).add j) = some v := by
    have hno' : w2.ownsRow base 94 64 (.slice nA2 f2.now.length nc2) f2.now.length (RowV encSec f2.now) := hno
    obtain ⟨g2, cap, hv, -, -⟩ := hno'.form (by omega)
    injection hv with hv1 hv2 hv3
    subst hv1
    subst hv3
    refine ⟨g2, rfl, fun j v hj => ?_⟩
    rw [Addr.add_lit]
    have hj64 : j < 64 := by have := (List.getElem?_eq_some_iff.1 hj).1; rw [laySec.len] at this; exact this
    rw [hno'.cellAt (i * 64 + j) (by omega), RowV_get laySec f2.now i j s HAT.out hj64]
    exact hj
  obtain ⟨g2, rfl, hxs⟩ := hnow2
  have XS := Lib.hid hxs
  have HSZ2 := Lib.hid (show base ≤ w2.heap.size from Nat.le_trans HB.out KF0.out.size)
  clear c2 f1 hpo hno hxs
  go_wp2_with fail
  refine wp_region_J (RK (fun k => k = d ∨ (Value.slice pA D2.pend.length pc).ownBlock = some k)) [16, 19] (n := 20) (by kernel_rfl) rfl ?_
  refine batchJ (RK.refl _) [1, 2, 3, 4, 5, 6, 7, 8, 9, 10, 11, 12, 13, 14] (fuel := 6) rfl (by kernel_rfl) (by kernel_rfl) (fun _ _ d _ _ h => by cases d <;> exact h) ?_
  (repeat (first | ((with_reducible apply wq0); rfl; rfl; rfl; intro K hK; go_big_quiet_op; refine hK _ ?_; clear hK K) | ((with_reducible apply wq1); rfl; rfl; rfl; rfl; rfl; rfl; intro K hK; go_big_quiet_op; refine hK _ ?_; clear hK K) | ((with_reducible apply wqs); rfl; rfl; rfl; rfl; rfl; rfl; simp only [Act.put, List.setIfInBounds_toArray, List.set_cons_zero, List.set_cons_succ]) | ((with_reducible apply wqu); rfl; rfl; rfl; rfl; rfl; (first | simp only [same, Act.put, List.setIfInBounds_toArray, List.set_cons_zero, List.set_cons_succ] | simp only [Act.put, List.setIfInBounds_toArray, List.set_cons_zero, List.set_cons_succ]))))
  refine wqIdx_load rfl rfl rfl rfl (fun W hW => run_load1 (fun _ => by kernel_rfl) (keep_c hW (D1.out))) ?_; simp only [Act.put, List.setIfInBounds_toArray, List.set_cons_zero, List.set_cons_succ]
  (repeat (first | ((with_reducible apply wq0); rfl; rfl; rfl; intro K hK; go_big_quiet_op; refine hK _ ?_; clear hK K) | ((with_reducible apply wq1); rfl; rfl; rfl; rfl; rfl; rfl; intro K hK; go_big_quiet_op; refine hK _ ?_; clear hK K) | ((with_reducible apply wqs); rfl; rfl; rfl; rfl; rfl; rfl; simp only [Act.put, List.setIfInBounds_toArray, List.set_cons_zero, List.set_cons_succ]) | ((with_reducible apply wqu); rfl; rfl; rfl; rfl; rfl; (first | simp only [same, Act.put, List.setIfInBounds_toArray, List.set_cons_zero, List.set_cons_succ] | simp only [Act.put, List.setIfInBounds_toArray, List.set_cons_zero, List.set_cons_succ]))))
  refine wqIdx_nil_check rfl rfl rfl rfl ?_; simp only [Act.put, List.setIfInBounds_toArray, List.set_cons_zero, List.set_cons_succ]
  (repeat (first | ((with_reducible apply wq0); rfl; rfl; rfl; intro K hK; go_big_quiet_op; refine hK _ ?_; clear hK K) | ((with_reducible apply wq1); rfl; rfl; rfl; rfl; rfl; rfl; intro K hK; go_big_quiet_op; refine hK _ ?_; clear hK K) | ((with_reducible apply wqs); rfl; rfl; rfl; rfl; rfl; rfl; simp only [Act.put, List.setIfInBounds_toArray, List.set_cons_zero, List.set_cons_succ]) | ((with_reducible apply wqu); rfl; rfl; rfl; rfl; rfl; (first | simp only [same, Act.put, List.setIfInBounds_toArray, List.set_cons_zero, List.set_cons_succ] | simp only [Act.put, List.setIfInBounds_toArray, List.set_cons_zero, List.set_cons_succ]))))
  refine wqIdx_load rfl rfl rfl rfl (fun W hW => run_load1 (fun _ => by kernel_rfl) (keep_c hW (C2.out))) ?_; simp only [Act.put, List.setIfInBounds_toArray, List.set_cons_zero, List.set_cons_succ]
  (repeat (first | ((with_reducible apply wq0); rfl; rfl; rfl; intro K hK; go_big_quiet_op; refine hK _ ?_; clear hK K) | ((with_reducible apply wq1); rfl; rfl; rfl; rfl; rfl; rfl; intro K hK; go_big_quiet_op; refine hK _ ?_; clear hK K) | ((with_reducible apply wqs); rfl; rfl; rfl; rfl; rfl; rfl; simp only [Act.put, List.setIfInBounds_toArray, List.set_cons_zero, List.set_cons_succ]) | ((with_reducible apply wqu); rfl; rfl; rfl; rfl; rfl; (first | simp only [same, Act.put, List.setIfInBounds_toArray, List.set_cons_zero, List.set_cons_succ] | simp only [Act.put, List.setIfInBounds_toArray, List.set_cons_zero, List.set_cons_succ]))))
  refine wqIdx_load rfl rfl rfl rfl (fun W hW => run_load1 (fun _ => by kernel_rfl) (keep_c hW (G1.out))) ?_; simp only [Act.put, List.setIfInBounds_toArray, List.set_cons_zero, List.set_cons_succ]
  (repeat (first | ((with_reducible apply wq0); rfl; rfl; rfl; intro K hK; go_big_quiet_op; refine hK _ ?_; clear hK K) | ((with_reducible apply wq1); rfl; rfl; rfl; rfl; rfl; rfl; intro K hK; go_big_quiet_op; refine hK _ ?_; clear hK K) | ((with_reducible apply wqs); rfl; rfl; rfl; rfl; rfl; rfl; simp only [Act.put, List.setIfInBounds_toArray, List.set_cons_zero, List.set_cons_succ]) | ((with_reducible apply wqu); rfl; rfl; rfl; rfl; rfl; (first | simp only [same, Act.put, List.setIfInBounds_toArray, List.set_cons_zero, List.set_cons_succ] | simp only [Act.put, List.setIfInBounds_toArray, List.set_cons_zero, List.set_cons_succ]))))
  refine wqIdx_load rfl rfl rfl rfl (fun W hW => run_load1 (fun _ => by kernel_rfl) (keep_c hW (I1.out))) ?_; simp only [Act.put, List.setIfInBounds_toArray, List.set_cons_zero, List.set_cons_succ]
  (repeat (first | ((with_reducible apply wq0); rfl; rfl; rfl; intro K hK; go_big_quiet_op; refine hK _ ?_; clear hK K) | ((with_reducible apply wq1); rfl; rfl; rfl; rfl; rfl; rfl; intro K hK; go_big_quiet_op; refine hK _ ?_; clear hK K) | ((with_reducible apply wqs); rfl; rfl; rfl; rfl; rfl; rfl; simp only [Act.put, List.setIfInBounds_toArray, List.set_cons_zero, List.set_cons_succ]) | ((with_reducible apply wqu); rfl; rfl; rfl; rfl; rfl; (first | simp only [same, Act.put, List.setIfInBounds_toArray, List.set_cons_zero, List.set_cons_succ] | simp only [Act.put, List.setIfInBounds_toArray, List.set_cons_zero, List.set_cons_succ]))))
  refine wqIdx_load rfl rfl rfl rfl (fun W hW => run_load1 (fun _ => by kernel_rfl) (keep_c hW (G1.out))) ?_; simp only [Act.put, List.setIfInBounds_toArray, List.set_cons_zero, List.set_cons_succ]
  (repeat (first | ((with_reducible apply wq0); rfl; rfl; rfl; intro K hK; go_big_quiet_op; refine hK _ ?_; clear hK K) | ((with_reducible apply wq1); rfl; rfl; rfl; rfl; rfl; rfl; intro K hK; go_big_quiet_op; refine hK _ ?_; clear hK K) | ((with_reducible apply wqs); rfl; rfl; rfl; rfl; rfl; rfl; simp only [Act.put, List.setIfInBounds_toArray, List.set_cons_zero, List.set_cons_succ]) | ((with_reducible apply wqu); rfl; rfl; rfl; rfl; rfl; (first | simp only [same, Act.put, List.setIfInBounds_toArray, List.set_cons_zero, List.set_cons_succ] | simp only [Act.put, List.setIfInBounds_toArray, List.set_cons_zero, List.set_cons_succ]))))
  refine wqIdx_nil_check rfl rfl rfl rfl ?_; simp only [Act.put, List.setIfInBounds_toArray, List.set_cons_zero, List.set_cons_succ]
  (repeat (first | ((with_reducible apply wq0); rfl; rfl; rfl; intro K hK; go_big_quiet_op; refine hK _ ?_; clear hK K) | ((with_reducible apply wq1); rfl; rfl; rfl; rfl; rfl; rfl; intro K hK; go_big_quiet_op; refine hK _ ?_; clear hK K) | ((with_reducible apply wqs); rfl; rfl; rfl; rfl; rfl; rfl; simp only [Act.put, List.setIfInBounds_toArray, List.set_cons_zero, List.set_cons_succ]) | ((with_reducible apply wqu); rfl; rfl; rfl; rfl; rfl; (first | simp only [same, Act.put, List.setIfInBounds_toArray, List.set_cons_zero, List.set_cons_succ] | simp only [Act.put, List.setIfInBounds_toArray, List.set_cons_zero, List.set_cons_succ]))))
  refine wqIdx_load rfl rfl rfl rfl (fun W hW => run_load1 (fun _ => by kernel_rfl) (keep_c hW (F1.out))) ?_; simp only [Act.put, List.setIfInBounds_toArray, List.set_cons_zero, List.set_cons_succ]
  (repeat (first | ((with_reducible apply wq0); rfl; rfl; rfl; intro K hK; go_big_quiet_op; refine hK _ ?_; clear hK K) | ((with_reducible apply wq1); rfl; rfl; rfl; rfl; rfl; rfl; intro K hK; go_big_quiet_op; refine hK _ ?_; clear hK K) | ((with_reducible apply wqs); rfl; rfl; rfl; rfl; rfl; rfl; simp only [Act.put, List.setIfInBounds_toArray, List.set_cons_zero, List.set_cons_succ]) | ((with_reducible apply wqu); rfl; rfl; rfl; rfl; rfl; (first | simp only [same, Act.put, List.setIfInBounds_toArray, List.set_cons_zero, List.set_cons_succ] | simp only [Act.put, List.setIfInBounds_toArray, List.set_cons_zero, List.set_cons_succ]))))
  refine wqIdx_load rfl rfl rfl rfl (fun W hW => run_load1 (fun _ => by kernel_rfl) (keep_c hW (I1.out))) ?_; simp only [Act.put, List.setIfInBounds_toArray, List.set_cons_zero, List.set_cons_succ]
  (repeat (first | ((with_reducible apply wq0); rfl; rfl; rfl; intro K hK; go_big_quiet_op; refine hK _ ?_; clear hK K) | ((with_reducible apply wq1); rfl; rfl; rfl; rfl; rfl; rfl; intro K hK; go_big_quiet_op; refine hK _ ?_; clear hK K) | ((with_reducible apply wqs); rfl; rfl; rfl; rfl; rfl; rfl; simp only [Act.put, List.setIfInBounds_toArray, List.set_cons_zero, List.set_cons_succ]) | ((with_reducible apply wqu); rfl; rfl; rfl; rfl; rfl; (first | simp only [same, Act.put, List.setIfInBounds_toArray, List.set_cons_zero, List.set_cons_succ] | simp only [Act.put, List.setIfInBounds_toArray, List.set_cons_zero, List.set_cons_succ]))))
  refine wqIdx_load rfl rfl rfl rfl (fun W hW => run_load_big Try.underlying94 rfl _ (encSec s) HI.out (fun j v hj => keep_c hW (XS.out j v hj))) ?_
  simp only [Act.put, List.setIfInBounds_toArray, List.set_cons_zero, List.set_cons_succ]
  refine wqIdx_build rfl rfl rfl (fun w => wrV_build f2.blk (i : Int) s w) rfl ?_; simp only [Act.put, List.setIfInBounds_toArray, List.set_cons_zero, List.set_cons_succ]
  refine wqIdx_nil ?_
  refine batchP (RK.refl _) (RK.trans _) [0] (fuel := 5) rfl (by kernel_rfl) (by kernel_rfl) (fun _ _ d _ _ h => by cases d <;> exact h) ?_
  refine wqIdx_load rfl rfl rfl rfl (fun W hW => run_load1 (fun _ => by kernel_rfl) (keep_k hW (ND.out) (D1.out))) ?_; simp only [Act.put, List.setIfInBounds_toArray, List.set_cons_zero, List.set_cons_succ]
  refine wqIdx_nil ?_
  refine wpAnyJ_sole (i := 15) rfl (by kernel_rfl) (fun K hK => ?_); rw [if_pos (wanted0 rfl _)]
  refine wp_buildSlice_one (.tmp 27) rfl (cs := encWr ⟨f2.blk, i, s⟩) rfl Try.underlying78 info_wrS (by decide) (by decide) (layWr.len _) (zero_wr _) rfl ?_
  refine hK _ _ ⟨fun _ => al_below _ _, rk_of_below (al_below _ _)⟩ ?_
  clear hK K
  simp only [Act.put, List.setIfInBounds_toArray, List.set_cons_zero, List.set_cons_succ]
  have HPA := Lib.hid (World.ownsRow.alloc (World.ownsRow.drew HPO.out) (.cells (encWr ⟨f2.blk, i, s⟩).toArray 96))
  have HRA := Lib.hid (reads_oneK layWr w2.drew ⟨f2.blk, i, s⟩ 96)
  have HSZ := Lib.hid (show base ≤ (w2.drew.alloc (.cells (encWr ⟨f2.blk, i, s⟩).toArray 96)).heap.size from Nat.le_trans HSZ2.out (al_below w2.drew _).size)
  refine wpAnyJ_sole (i := 16) rfl (by kernel_rfl) (fun K hK => ?_); rw [if_pos (wanted0 rfl _)]
  refine wp_appK layWr (ys := [⟨f2.blk, i, s⟩]) (.tmp 17) (.tmp 28) _ rfl Try.underlying78 info_wr3 rfl HPA.out HRA.out 1 rfl rfl (by have := HP.out; omega) (by decide) HSZ.out ?_
  intro A5 c5 w5 o5 gr5
  refine hK _ _ ⟨fun hc => absurd (by decide) hc, rk_of_grown (Grew.by_ gr5) fun g hg => .inr hg⟩ ?_
  clear hK K
  simp only [Act.put, List.setIfInBounds_toArray, List.set_cons_zero, List.set_cons_succ]
  have hg5 := Grew.by_ gr5
  have hpp := HH0.out.drew.pushPend C2.out o5 hg5 ⟨HIL.out, f2, HMEM.out, rfl⟩
  obtain ⟨pA', pc', hbd, -⟩ := HH0.out.top
  have hb5 := (Blk.alloc (Blk.drew hbd) (.cells (encWr ⟨f2.blk, i, s⟩).toArray 96)).grown hg5 (Ne.symm (own_ne_blk HPA.out (Blk.alloc (Blk.drew hbd) _) (by decide)))
  have k5 := hb5.cell 2
  have z5 := hb5.frozen 2
  have HPP := Lib.hid hpp
  clear hb5 hbd hpp o5 gr5 hg5
  refine batchP (RK.refl _) (RK.trans _) [17, 18] (fuel := 1) rfl (by kernel_rfl) (by kernel_rfl) (fun _ _ d _ _ h => by cases d <;> exact h) ?_
  refine wqIdx_nil_check rfl rfl rfl rfl ?_; simp only [Act.put, List.setIfInBounds_toArray, List.set_cons_zero, List.set_cons_succ]
  (repeat (first | ((with_reducible apply wq0); rfl; rfl; rfl; intro K hK; go_big_quiet_op; refine hK _ ?_; clear hK K) | ((with_reducible apply wq1); rfl; rfl; rfl; rfl; rfl; rfl; intro K hK; go_big_quiet_op; refine hK _ ?_; clear hK K) | ((with_reducible apply wqs); rfl; rfl; rfl; rfl; rfl; rfl; simp only [Act.put, List.setIfInBounds_toArray, List.set_cons_zero, List.set_cons_succ]) | ((with_reducible apply wqu); rfl; rfl; rfl; rfl; rfl; (first | simp only [same, Act.put, List.setIfInBounds_toArray, List.set_cons_zero, List.set_cons_succ] | simp only [Act.put, List.setIfInBounds_toArray, List.set_cons_zero, List.set_cons_succ]))))
  refine wqIdx_nil ?_
  refine wpAnyJ_sole (i := 19) rfl (by kernel_rfl) (fun K hK => ?_); go_simp
  refine hK _ _ ⟨fun hc => absurd (by decide) hc, rk_of_grown (gr_set _ _ _ _) fun g hg => .inl (by injection hg with hg; exact hg.symm)⟩ ?_
  clear hK K k5 z5
  refine wpAnyJ_done (by kernel_rfl) ?_ _
  go_wp2
  go_end0
  exact ⟨rfl, by rw [HGOAL.out]; exact HPP.out.1, KF0.out.df.trans HPP.out.2⟩
theorem tick_fs (D : Dk) : (tick D).fs = D.fs := by unfold tick; split <;> rfl
/-- What a disk is behind a write. -/
def wrD (D : Dk) (f : Fi) (i : Nat) (s : Sec) : Dk := { tick D with fs := updF D.fs { f with now := f.now.set i s }, pend := D.pend ++ [⟨f.blk, i, s⟩] }
set_option maxRecDepth 100000 in
set_option maxHeartbeats 2000000 in
theorem write_ok (h : DiskR w base d m D) {f : Fi} (hf : f ∈ D.fs) {i : Nat} (hi : i < f.now.length) {s : Sec} {A : Option Addr} {c : Nat} (hs : SecAt w base A s) (ho : D.off = false) (hgo : goes D) (hp : D.pend.length ≤ 1000000) (hbase : base ≤ w.heap.size) :
    Calls Try.prog 42 #[ptD d, strV f.name, .int .i64 (i : Int), .slice A 64 c] w fun e w' => e = .returned (.int .i64 0) ∧ DiskR w' base d m (wrD D f i s) ∧ DF base m w w' := by
  have b1 := al_below w (.cells #[ptD d] 23)
  have b2 := al_below (w.alloc (.cells #[ptD d] 23)) (.cells #[.int .i64 (i : Int)] 3)
  have b3 := al_below ((w.alloc (.cells #[ptD d] 23)).alloc (.cells #[.int .i64 (i : Int)] 3)) (.cells #[.slice A 64 c] 30)
  have b4 := al_below (((w.alloc (.cells #[ptD d] 23)).alloc (.cells #[.int .i64 (i : Int)] 3)).alloc (.cells #[.slice A 64 c] 30)) (.cells #[ptD f.blk] 86)
  have b13 := below_trans (below_trans b1 b2) b3
  have b14 := below_trans b13 b4
  have X1 := ((Blk.new w 23 #[ptD d]).alloc (.cells #[.int .i64 (i : Int)] 3)).alloc (.cells #[.slice A 64 c] 30)
  have X2 := (Blk.new (w.alloc (.cells #[ptD d] 23)) 3 #[.int .i64 (i : Int)]).alloc (.cells #[.slice A 64 c] 30)
  have X3 := Blk.new ((w.alloc (.cells #[ptD d] 23)).alloc (.cells #[.int .i64 (i : Int)] 3)) 30 #[.slice A 64 c]
  have Y1 := X1.alloc (.cells #[ptD f.blk] 86)
  have Y2 := X2.alloc (.cells #[ptD f.blk] 86)
  have Y3 := X3.alloc (.cells #[ptD f.blk] 86)
  have Y4 := Blk.new (((w.alloc (.cells #[ptD d] 23)).alloc (.cells #[.int .i64 (i : Int)] 3)).alloc (.cells #[.slice A 64 c] 30)) 86 #[ptD f.blk]
  rw [World.size_alloc] at X2 Y2
  rw [World.size_alloc, World.size_alloc] at X3 Y3
  rw [World.size_alloc, World.size_alloc, World.size_alloc] at Y4
  have H3 := h.below b13
  have H4 := h.below b14
  have S4 := hs.below b14
  have P1 := Lib.hid (written_ok H3 hf ho A c)
  have P2 := Lib.hid (has_any H4 hf (i : Int))
  have hh : hasM f.now (i : Int) = true := by unfold hasM; rw [decide_eq_true_eq]; omega
  rw [hh] at P2
  have x1 := X1.cell 0
  have x3 := X3.cell 0
  have y1 := Y1.cell 0
  have y2 := Y2.cell 0
  have y4 := Y4.cell 0
  have DG := Lib.hid (deed_go H4 hgo 92 #[.pointer (some ⟨w.heap.size + 1 + 1, 0, none⟩), .pointer (some ⟨w.heap.size + 1 + 1 + 1, 0, none⟩), .pointer (some ⟨w.heap.size + 1, 0, none⟩), .pointer (some ⟨w.heap.size, 0, none⟩)] (enters_of Try.func92 (by kernel_rfl) rfl) (fun w' => DiskR w' base d m (wrD D f i s) ∧ DF base m w w') fun w5 k1 k2 => by
    have e1 := k2.blk Y1 (map_ne_blk H4.map Y1) (by decide)
    have e2 := k2.blk Y2 (map_ne_blk H4.map Y2) (by decide)
    have e3 := k2.blk Y3 (map_ne_blk H4.map Y3) (by decide)
    have e4 := k2.blk Y4 (map_ne_blk H4.map Y4) (by decide)
    refine (write1_any k1 (f := f) (by rw [tick_fs]; exact hf) hi (e3.cell 0) e4 e2 e1 (S4.df k2 H4.map) (by rw [tick_pend]; exact hp) (Nat.le_trans hbase (Nat.le_trans b14.size k2.size))).mono ?_
    rintro e w' ⟨he, k3, k4⟩
    rw [tick_fs, tick_pend] at k3
    exact ⟨he, k3, (DF.of_below b14).trans (k2.trans k4)⟩)
  clear h b1 b2 b3 b4 b13 b14 X1 X2 X3 Y1 Y2 Y3 Y4 H3 H4 S4 hs hf ho hgo hh hp hbase hi
  go_enter Try.func42, Try.ntmps42
  go_wp2_with fail
  refine P1.out.mono ?_; rintro e w' ⟨rfl, rfl⟩
  go_wp2_with fail
  refine P2.out.mono ?_; rintro e w' ⟨rfl, rfl⟩
  go_wp2_with fail
  refine DG.out.mono ?_; rintro e w' ⟨rfl, hq⟩
  have HQ := Lib.hid hq
  clear hq
  go_wp2
  go_ret
  exact ⟨rfl, HQ.out⟩
end
end Go.Proofs.Ytfmmdnjoichifaa
