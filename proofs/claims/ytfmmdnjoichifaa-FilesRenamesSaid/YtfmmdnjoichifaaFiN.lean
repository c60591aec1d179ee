/- Contracts of a disk: keep. -/
import Derived.Test.YtfmmdnjoichifaaFiL
namespace Go.Proofs.Ytfmmdnjoichifaa
open Go.RowKit Go.Sort

def wrV (x : Wr) : Value := .agg (encWr x).toArray
theorem wr_cells {w : World} {g : Nat} {x : Wr} (h : Blk w g 96 (encWr x).toArray) : w.cell? ⟨g, 0, none⟩ = some (ptD x.f) ∧ w.cell? ⟨g, 1, none⟩ = some (.int .i64 (x.i : Int)) ∧ ∀ j u, (encSec x.b)[j]? = some u → w.cell? ⟨g, 2 + j, none⟩ = some u := by
  refine ⟨by rw [h.cell 0]; rfl, by rw [h.cell 1]; rfl, fun j u hj => ?_⟩
  rw [h.cell (2 + j), List.getElem?_toArray]
  unfold encWr
  rw [show 2 + j = j + 1 + 1 by omega]
  exact hj
/-- What a file keeps, as far as a write goes. -/
def padK (l : List Sec) (i : Nat) : List Sec := l ++ List.replicate (i + 1 - l.length) zS
def keepF (f : Fi) (x : Wr) (n : Nat) : Fi := { f with kept := (padK f.kept x.i).set x.i (mixS ((padK f.kept x.i).getD x.i zS) x.b (min n 64)) }
/-- How much a file keeps, read off the world. -/
def keptLen (w : World) (b : Nat) : Nat := match w.cell? ⟨b, 2, none⟩ with
  | some (.slice _ n _) => n
  | _ => 0
theorem wpList_buildSlice_one {P : Program} {w : World} {ops : Array Oper} {rest : List Oper} {o : Oper} {a : Act} {Q : Exit → Act → World → Prop} {t e : TypeId} {K : Nat} (hgd : o.guard = none) (x : Operand) (ho : o.op = .buildSlice t 1 #[(0, x)]) {cs : List Value} (hx : a.eval x = .agg cs.toArray)
    (ht : P.underlying t = some (.slice e)) (hi : (P.info? e).map (·.size) = some K) (hK : K ≤ 10000) (h0 : 0 < K) (hn : cs.length = K) {z : Value} (hz : (zeroValue e).run P w = .ok z w) (hzs : z.cells.size = K)
    (h : wpList P ops Q rest (a.put o.dst (.slice (some ⟨w.heap.size, 0, none⟩) 1 1)) (w.alloc (.cells cs.toArray e))) : wpList P ops Q (o :: rest) a w :=
  wpList_plain hgd fun _ hk => wp_buildSlice_one x ho hx ht hi hK h0 hn hz hzs (hk _ _ h)
theorem wqIdx_min {P : Program} {l : List Oper} {S : World → Prop} {K : Act → Prop} {i : Nat} {is : List Nat} {o : Oper} {a : Act} {ts : Array TypeId} {x y : Operand} {p q r : Int} (ho : l[i]? = some o) (hw : Region.wanted o (yielded l.toArray a.tmps) = true) (hop : o.op = .call { callee := .builtin .min, args := #[x, y], argTypes := ts }) (hx : a.eval x = .int .i64 p) (hy : a.eval y = .int .i64 q)
    (hv : (if q < p then q else p) = r) (h : WQ P l.toArray S K is (a.put o.dst (.int .i64 r))) : WQ P l.toArray S K (i :: is) a :=
  wqIdx_read ho hw (fun w _ => by
    obtain ⟨dst, op, type, pos, after, guard⟩ := o
    subst hop
    subst hv
    simp [execOp, resolve, invoke, builtin, hx, hy, run_min_int2, Result.andThen]) h
theorem wqIdx_sliceH {P : Program} {l : List Oper} {S : World → Prop} {K : Act → Prop} {i : Nat} {is : List Nat} {o : Oper} {a : Act} {t : TypeId} {x y : Operand} {X Y v : Value} (ho : l[i]? = some o) (hw : Region.wanted o (yielded l.toArray a.tmps) = true) (hop : o.op = .slice t x none (some y) none) (hx : a.eval x = X) (hy : a.eval y = Y)
    (hv : ∀ w, (Instr.sliceAt t X none (some Y) none).run P w = .ok v w) (h : WQ P l.toArray S K is (a.put o.dst v)) : WQ P l.toArray S K (i :: is) a :=
  wqIdx_read ho hw (fun w _ => by
    obtain ⟨dst, op, type, pos, after, guard⟩ := o
    subst hop
    simp only [execOp, Option.map_none, Option.map_some, Sem.run_bind, hx, hy, hv w, Result.andThen, Sem.run_pure]) h
theorem slice_sec (p : Addr) (mn : Nat) (h : mn ≤ 64) (w : World) : (Instr.sliceAt 94 (.pointer (some p)) none (some (.int .i64 (mn : Int))) none).run Try.prog w = .ok (.slice (some p) mn 64) w := by
  have ht : Try.prog.underlying 94 = some (.array (Try.prog.arrayLen 94) (Try.prog.elem 94)) := by kernel_rfl
  have e : Try.prog.arrayLen 94 = 64 := by kernel_rfl
  have hs : (sizeOf (Try.prog.elem 94)).run Try.prog w = .ok 1 w := by kernel_rfl
  rw [run_sliceAt_array_h w _ p ht .i64 mn (by omega) (by rw [e]; omega), hs, e]
  simp [Result.andThen, slicedAt, Addr.add]
theorem wp_copy_row {P : Program} {w : World} {o : Oper} {a : Act} {K : Act → World → Prop} {Q : Exit → Act → World → Prop} (d s : Operand) (dT sT : TypeId) (ho : o.op = .call { callee := .builtin .copy, args := #[d, s], argTypes := #[dT, sT] }) {elem : TypeId} (hu : P.underlying dT = some (.slice elem)) (hs : (P.info? elem).map (·.size) = some 1)
    {g off dLen dCap sLen sCap : Nat} {ad : Addr} (hd : a.eval d = .slice (some ⟨g, off, none⟩) dLen dCap) (hsv : a.eval s = .slice (some ad) sLen sCap) {cur : Array Value} {t : TypeId} (cs : List Value) (hg : w.heap[g]? = some (.cells cur t (0, 0))) (hn : cs.length = Nat.min sLen dLen)
    (hsrc : ∀ j v, cs[j]? = some v → w.cell? (ad.add j) = some v) (hfit : off + cs.length ≤ cur.size) (h1 : ∀ v ∈ cs, v.oneCell' = true)
    (h : K (a.put o.dst (goInt cs.length)) (w.setRow g (cur.toList.take off ++ cs ++ cur.toList.drop (off + cs.length)).toArray)) : o.wp P a w K Q := by
  have hrun := run_copy_row (P := P) w dT sT o.type elem g off dLen dCap ad sLen sCap cur t cs hu hs hg hn hsrc hfit h1
  unfold Oper.wp
  have h' := h
  simp only [List.append_assoc] at h'
  simp [execOp, ho, resolve, invoke, builtin, hd, hsv, hrun, Result.andThen]
  exact h'
abbrev padF (f : Fi) (k : Nat) : Fi := { f with kept := f.kept ++ List.replicate k zS }
theorem padF_zero (f : Fi) : padF f 0 = f := by cases f; simp [padF]
theorem padF_succ (f : Fi) (k : Nat) : ({ padF f k with kept := (padF f k).kept ++ [zS] } : Fi) = padF f (k + 1) := by
  unfold padF
  simp only [List.replicate_succ', List.append_assoc]
section
variable {w : World} {base d m : Nat} {D : Dk}
theorem keep_no (x : Wr) (n : Int) (w : World) (hn : n ≤ 0) : Calls Try.prog 53 #[wrV x, .int .i64 n] w fun e w' => e = .returned (.tuple #[]) ∧ Below w.heap.size w w' := by
  obtain ⟨c0, -, -⟩ := wr_cells (Blk.new w 96 (encWr x).toArray)
  have B := Lib.hid (al_below w (.cells (encWr x).toArray 96))
  have d1 : decide (n ≤ 0) = true := by rw [decide_eq_true_eq]; exact hn
  unfold wrV
  go_enter Try.func53, Try.ntmps53
  go_wp2
  refine bodyPost_ret (results_none rfl _ _ _) rfl ?_
  exact ⟨rfl, B.out⟩
set_option maxRecDepth 100000 in
set_option maxHeartbeats 2000000 in
theorem keep_yes (h : DiskR w base d m D) {f : Fi} (hf : f ∈ D.fs) (x : Wr) (hx : x.f = f.blk) (hxi : x.i ≤ 16384) (n : Nat) (hn : 0 < n) (hn2 : n < 9223372036854775808) (hbase : base ≤ w.heap.size) :
    Calls Try.prog 53 #[wrV x, .int .i64 (n : Int)] w fun e w' => e = .returned (.tuple #[]) ∧ DiskR w' base d m { D with fs := updF D.fs (keepF f x n) } ∧ KF base w w' := by
  have b0 := al_below w (.cells (encWr x).toArray 96)
  have X0 := Blk.new w 96 (encWr x).toArray
  obtain ⟨c0, c1, -⟩ := wr_cells X0
  rw [hx] at c0
  have HX := Lib.hid X0
  have B0 := Lib.hid b0
  have H0 := Lib.hid (h.below b0)
  have HF := Lib.hid hf
  have HXI := Lib.hid hxi
  have HB := Lib.hid (Nat.le_trans hbase b0.size)
  have d1 : decide ((n : Int) ≤ 0) = false := by rw [decide_eq_false_iff_not]; omega
  unfold wrV
  clear h hf hxi hbase X0 b0 hx
  go_enter Try.func53, Try.ntmps53
  go_wp2_with fail
  obtain ⟨gx, hgx⟩ : ∃ gx, gx = w.heap.size := ⟨_, rfl⟩
  obtain ⟨w1, hw1⟩ : ∃ w1, w1 = w.alloc (.cells (encWr x).toArray 96) := ⟨_, rfl⟩
  rw [← hw1] at HX B0 H0 HB ⊢
  rw [← hgx] at HX ⊢
  clear c0 c1 hw1 hgx d1
  go_loopw [16] (fun _ wr => ∃ k : Nat, k ≤ x.i + 1 - f.kept.length ∧ DiskR wr base d m { D with fs := updF D.fs (padF f k) } ∧ KF base w1 wr ∧ Blk wr gx 96 (encWr x).toArray) (fun _ wr => x.i + 1 - keptLen wr f.blk)
  case atStart => exact ⟨0, Nat.zero_le _, by rw [padF_zero, updF_self H0.out.apart HF.out]; exact H0.out, KF.refl _, HX.out⟩
  case round =>
    obtain ⟨k, hk, hd, hdf, hb⟩ := hrel
    have hmf : padF f k ∈ updF D.fs (padF f k) := mem_updF_self HF.out rfl
    obtain ⟨nA, nc, kA, kc, -, -, -, -, f2, -, hkr⟩ := hd.file hmf
    obtain ⟨c0, c1, c2⟩ := wr_cells hb
    have HDF := Lib.hid hdf
    have HD := Lib.hid hd
    have HBX := Lib.hid hb
    have F2 := Lib.hid (show wr.cell? ⟨f.blk, 2, none⟩ = some (.slice kA (padF f k).kept.length kc) from f2)
    have HKR := Lib.hid hkr
    have C1 := Lib.hid c1
    have C2 := Lib.hid c2
    have HSM := Lib.hid (hd.small _ hmf)
    have hlen : (padF f k).kept.length = f.kept.length + k := by show (f.kept ++ List.replicate k zS).length = _; rw [List.length_append, List.length_replicate]
    have HLEN := Lib.hid hlen
    have HK := Lib.hid hk
    have HKL := Lib.hid (show keptLen wr f.blk = f.kept.length + k by unfold keptLen; rw [show wr.cell? ⟨f.blk, 2, none⟩ = some (.slice kA (padF f k).kept.length kc) from f2, hlen])
    clear hd hdf hb f2 hkr c0 c1 c2 hmf
    rw [hlen] at F2
    by_cases hlt : f.kept.length + k ≤ x.i
    · have d2 : decide (((f.kept.length + k : Nat) : Int) ≤ (x.i : Int)) = true := by rw [decide_eq_true_eq]; omega
      have hbld := zS_build wr.drew
      clear hlen hk
      generalize hfl : f.kept.length + k = fl at *
      have HFL := Lib.hid hfl
      clear hfl
      go_wp2_with fail
      refine wp_region_J RT [] (n := 8) (by kernel_rfl) rfl ?_
      refine batchJ RT.refl [0, 1, 2, 3, 4, 5, 6, 7] (fuel := 0) rfl (by kernel_rfl) (by kernel_rfl) (fun _ _ d _ _ h => by cases d <;> exact h) ?_
      (repeat (first | ((with_reducible apply wq0); rfl; rfl; rfl; intro K hK; go_big_quiet_op; refine hK _ ?_; clear hK K) | ((with_reducible apply wq1); rfl; rfl; rfl; rfl; rfl; rfl; intro K hK; go_big_quiet_op; refine hK _ ?_; clear hK K) | ((with_reducible apply wqs); rfl; rfl; rfl; rfl; rfl; rfl; simp only [Act.put, List.setIfInBounds_toArray, List.set_cons_zero, List.set_cons_succ]) | ((with_reducible apply wqu); rfl; rfl; rfl; rfl; rfl; (first | simp only [same, Act.put, List.setIfInBounds_toArray, List.set_cons_zero, List.set_cons_succ] | simp only [Act.put, List.setIfInBounds_toArray, List.set_cons_zero, List.set_cons_succ]))))
      refine wqIdx_nil_check rfl rfl rfl rfl ?_; simp only [Act.put, List.setIfInBounds_toArray, List.set_cons_zero, List.set_cons_succ]
      (repeat (first | ((with_reducible apply wq0); rfl; rfl; rfl; intro K hK; go_big_quiet_op; refine hK _ ?_; clear hK K) | ((with_reducible apply wq1); rfl; rfl; rfl; rfl; rfl; rfl; intro K hK; go_big_quiet_op; refine hK _ ?_; clear hK K) | ((with_reducible apply wqs); rfl; rfl; rfl; rfl; rfl; rfl; simp only [Act.put, List.setIfInBounds_toArray, List.set_cons_zero, List.set_cons_succ]) | ((with_reducible apply wqu); rfl; rfl; rfl; rfl; rfl; (first | simp only [same, Act.put, List.setIfInBounds_toArray, List.set_cons_zero, List.set_cons_succ] | simp only [Act.put, List.setIfInBounds_toArray, List.set_cons_zero, List.set_cons_succ]))))
      refine wqIdx_load rfl rfl rfl rfl (fun W hW => run_load1 (fun _ => by kernel_rfl) (keep_c hW (F2.out))) ?_; simp only [Act.put, List.setIfInBounds_toArray, List.set_cons_zero, List.set_cons_succ]
      (repeat (first | ((with_reducible apply wq0); rfl; rfl; rfl; intro K hK; go_big_quiet_op; refine hK _ ?_; clear hK K) | ((with_reducible apply wq1); rfl; rfl; rfl; rfl; rfl; rfl; intro K hK; go_big_quiet_op; refine hK _ ?_; clear hK K) | ((with_reducible apply wqs); rfl; rfl; rfl; rfl; rfl; rfl; simp only [Act.put, List.setIfInBounds_toArray, List.set_cons_zero, List.set_cons_succ]) | ((with_reducible apply wqu); rfl; rfl; rfl; rfl; rfl; (first | simp only [same, Act.put, List.setIfInBounds_toArray, List.set_cons_zero, List.set_cons_succ] | simp only [Act.put, List.setIfInBounds_toArray, List.set_cons_zero, List.set_cons_succ]))))
      refine wqIdx_load rfl rfl rfl rfl (fun W hW => run_load1 (fun _ => by kernel_rfl) (keep_c hW (C1.out))) ?_; simp only [Act.put, List.setIfInBounds_toArray, List.set_cons_zero, List.set_cons_succ]
      (repeat (first | ((with_reducible apply wq0); rfl; rfl; rfl; intro K hK; go_big_quiet_op; refine hK _ ?_; clear hK K) | ((with_reducible apply wq1); rfl; rfl; rfl; rfl; rfl; rfl; intro K hK; go_big_quiet_op; refine hK _ ?_; clear hK K) | ((with_reducible apply wqs); rfl; rfl; rfl; rfl; rfl; rfl; simp only [Act.put, List.setIfInBounds_toArray, List.set_cons_zero, List.set_cons_succ]) | ((with_reducible apply wqu); rfl; rfl; rfl; rfl; rfl; (first | simp only [same, Act.put, List.setIfInBounds_toArray, List.set_cons_zero, List.set_cons_succ] | simp only [Act.put, List.setIfInBounds_toArray, List.set_cons_zero, List.set_cons_succ]))))
      refine wqIdx_nil ?_
      refine wpAnyJ_done (by kernel_rfl) ?_ _
      have f2d : wr.drew.cell? ⟨f.blk, 2, none⟩ = some (.slice kA fl kc) := F2.out
      have hkr : wr.ownsRow base 94 64 (.slice kA fl kc) fl (RowV encSec (padF f k).kept) := by
        have := HKR.out
        unfold SecRow slN at this
        rw [HLEN.out] at this
        exact this
      have HKA := Lib.hid (World.ownsRow.alloc (World.ownsRow.drew hkr) (.cells (encSec zS).toArray 94))
      have HRA := Lib.hid (reads_oneK laySec wr.drew zS 94)
      have HSA := Lib.hid (show base ≤ (wr.drew.alloc (.cells (encSec zS).toArray 94)).heap.size from Nat.le_trans HB.out (Nat.le_trans HDF.out.size (al_below wr.drew _).size))
      obtain ⟨nA2, nc2, hbf⟩ : ∃ nA2 nc2, Blk wr.drew f.blk 90 #[strV f.name, slN nA2 f.now nc2, .slice kA fl kc] := by
        obtain ⟨role, hro⟩ := HD.out.files
        obtain ⟨nA', nc', kA', kc', hb', -⟩ := hro (padF f k) (mem_updF_self HF.out rfl)
        have e2 : some (Value.slice kA fl kc) = some (slN kA' (padF f k).kept kc') := F2.out.symm.trans (hb'.cell 2)
        injection e2 with e2
        rw [← e2] at hb'
        exact ⟨nA', nc', hb'⟩
      clear hkr
      go_wp2_with (first | (refine wpList_buildSlice_one rfl (.tmp 22) rfl (cs := encSec zS) rfl Try.underlying88 info_secS (by decide) (by decide) (laySec.len _) (zero_sec _) rfl ?_) | (at_builtin; (refine wpList_appK laySec (ys := [zS]) _ rfl (.tmp 21) (.tmp 23) _ rfl Try.underlying88 info_sec3 rfl HKA.out HRA.out 1 rfl rfl (by have := HXI.out; omega) (by decide) HSA.out ?_); intro A5 c5 w5 o5 gr5; have hb5 := (Blk.alloc hbf (.cells (encSec zS).toArray 94)).grown (Grew.by_ gr5) (Ne.symm (own_ne_blk HKA.out (Blk.alloc hbf _) (by decide))); have k5 := hb5.cell 2; have z5 := hb5.frozen 2; have O5 := Lib.hid o5; have G5 := Lib.hid gr5; clear o5 gr5 hb5))
      have hl' : (padF f k).kept.length = fl := HLEN.out
      have hp := HD.out.drew.pushKept (f := padF f k) (s := zS) (mem_updF_self HF.out rfl) (kA := kA) (kc := kc) (A' := A5) (c' := c5) (by rw [slN, hl']; exact f2d) (by rw [hl']; exact O5.out) (by rw [slN, hl']; exact G5.out) (by rw [hl']; have := HXI.out; omega)
      rw [hl'] at hp
      obtain ⟨hp1, hp2⟩ := hp
      have hd2 : DiskR (w5.setCell ⟨f.blk, 2, none⟩ (.slice A5 (fl + 1) c5)) base d m { D with fs := updF D.fs (padF f (k + 1)) } := by
        have h3 : updF (updF D.fs (padF f k)) { padF f k with kept := (padF f k).kept ++ [zS] } = updF D.fs (padF f (k + 1)) := by rw [padF_succ, updF_upd (f := padF f k) (g := padF f (k + 1)) rfl]
        have h4 := hp1
        simp only [h3] at h4
        exact h4
      have hkl : keptLen (w5.setCell ⟨f.blk, 2, none⟩ (.slice A5 (fl + 1) c5)) f.blk = fl + 1 := by
        obtain ⟨_, _, kA3, kc3, -, -, -, -, h5, -⟩ := hd2.file (mem_updF_self HF.out (g := padF f (k + 1)) rfl)
        unfold keptLen
        rw [show (w5.setCell ⟨f.blk, 2, none⟩ (.slice A5 (fl + 1) c5)).cell? ⟨f.blk, 2, none⟩ = some (slN kA3 (padF f (k + 1)).kept kc3) from h5]
        show (padF f (k + 1)).kept.length = fl + 1
        show (f.kept ++ List.replicate (k + 1) zS).length = _
        rw [List.length_append, List.length_replicate]
        have := HFL.out
        omega
      have hgx : Blk (w5.setCell ⟨f.blk, 2, none⟩ (.slice A5 (fl + 1) c5)) gx 96 (encWr x).toArray := by
        have q1 := (Blk.alloc (Blk.drew HBX.out) (.cells (encSec zS).toArray 94)).grown (Grew.by_ G5.out) (Ne.symm (own_ne_blk HKA.out (Blk.alloc (Blk.drew HBX.out) _) (by decide)))
        have q2 := (Blk.alloc hbf (.cells (encSec zS).toArray 94)).grown (Grew.by_ G5.out) (Ne.symm (own_ne_blk HKA.out (Blk.alloc hbf _) (by decide)))
        exact q1.far (Blk.ne_ q1 q2 (by decide)) _
      refine ⟨⟨k + 1, by have := HFL.out; omega, hd2, HDF.out.trans hp2, hgx⟩, ?_⟩
      rw [hkl, HKL.out]
      omega
    · have d2 : decide (((f.kept.length + k : Nat) : Int) ≤ (x.i : Int)) = false := by rw [decide_eq_false_iff_not]; omega
      have hfl := HLEN.out
      obtain ⟨fl, hfl2⟩ : ∃ fl, fl = f.kept.length + k := ⟨_, rfl⟩
      rw [← hfl2] at hlt d2 F2 hfl hlen
      have hkr : wr.ownsRow base 94 64 (.slice kA fl kc) fl (RowV encSec (padF f k).kept) := by
        have := HKR.out
        unfold SecRow slN at this
        rw [HLEN.out, ← hfl2] at this
        exact this
      obtain ⟨g, cap, hv, hgb, hgl⟩ := hkr.form (by omega)
      injection hv with hv1 hv2 hv3
      subst hv1
      subst hv3
      have HKR2 := Lib.hid hkr
      have HFL := Lib.hid hfl2
      have HLT := Lib.hid hlt
      have i1 : decide ((x.i : Int) < (fl : Int)) = true := by rw [decide_eq_true_eq]; omega
      have i2 : x.i < fl := by omega
      clear hkr hfl hfl2 hlen hlt hgb hgl hk
      go_wp2_with fail
      refine wp_region_J RT [] (n := 8) (by kernel_rfl) rfl ?_
      refine batchJ RT.refl [0, 1, 2, 3, 4, 5, 6, 7] (fuel := 0) rfl (by kernel_rfl) (by kernel_rfl) (fun _ _ d _ _ h => by cases d <;> exact h) ?_
      (repeat (first | ((with_reducible apply wq0); rfl; rfl; rfl; intro K hK; go_big_quiet_op; refine hK _ ?_; clear hK K) | ((with_reducible apply wq1); rfl; rfl; rfl; rfl; rfl; rfl; intro K hK; go_big_quiet_op; refine hK _ ?_; clear hK K) | ((with_reducible apply wqs); rfl; rfl; rfl; rfl; rfl; rfl; simp only [Act.put, List.setIfInBounds_toArray, List.set_cons_zero, List.set_cons_succ]) | ((with_reducible apply wqu); rfl; rfl; rfl; rfl; rfl; (first | simp only [same, Act.put, List.setIfInBounds_toArray, List.set_cons_zero, List.set_cons_succ] | simp only [Act.put, List.setIfInBounds_toArray, List.set_cons_zero, List.set_cons_succ]))))
      refine wqIdx_nil_check rfl rfl rfl rfl ?_; simp only [Act.put, List.setIfInBounds_toArray, List.set_cons_zero, List.set_cons_succ]
      (repeat (first | ((with_reducible apply wq0); rfl; rfl; rfl; intro K hK; go_big_quiet_op; refine hK _ ?_; clear hK K) | ((with_reducible apply wq1); rfl; rfl; rfl; rfl; rfl; rfl; intro K hK; go_big_quiet_op; refine hK _ ?_; clear hK K) | ((with_reducible apply wqs); rfl; rfl; rfl; rfl; rfl; rfl; simp only [Act.put, List.setIfInBounds_toArray, List.set_cons_zero, List.set_cons_succ]) | ((with_reducible apply wqu); rfl; rfl; rfl; rfl; rfl; (first | simp only [same, Act.put, List.setIfInBounds_toArray, List.set_cons_zero, List.set_cons_succ] | simp only [Act.put, List.setIfInBounds_toArray, List.set_cons_zero, List.set_cons_succ]))))
      refine wqIdx_load rfl rfl rfl rfl (fun W hW => run_load1 (fun _ => by kernel_rfl) (keep_c hW (F2.out))) ?_; simp only [Act.put, List.setIfInBounds_toArray, List.set_cons_zero, List.set_cons_succ]
      (repeat (first | ((with_reducible apply wq0); rfl; rfl; rfl; intro K hK; go_big_quiet_op; refine hK _ ?_; clear hK K) | ((with_reducible apply wq1); rfl; rfl; rfl; rfl; rfl; rfl; intro K hK; go_big_quiet_op; refine hK _ ?_; clear hK K) | ((with_reducible apply wqs); rfl; rfl; rfl; rfl; rfl; rfl; simp only [Act.put, List.setIfInBounds_toArray, List.set_cons_zero, List.set_cons_succ]) | ((with_reducible apply wqu); rfl; rfl; rfl; rfl; rfl; (first | simp only [same, Act.put, List.setIfInBounds_toArray, List.set_cons_zero, List.set_cons_succ] | simp only [Act.put, List.setIfInBounds_toArray, List.set_cons_zero, List.set_cons_succ]))))
      refine wqIdx_load rfl rfl rfl rfl (fun W hW => run_load1 (fun _ => by kernel_rfl) (keep_c hW (C1.out))) ?_; simp only [Act.put, List.setIfInBounds_toArray, List.set_cons_zero, List.set_cons_succ]
      (repeat (first | ((with_reducible apply wq0); rfl; rfl; rfl; intro K hK; go_big_quiet_op; refine hK _ ?_; clear hK K) | ((with_reducible apply wq1); rfl; rfl; rfl; rfl; rfl; rfl; intro K hK; go_big_quiet_op; refine hK _ ?_; clear hK K) | ((with_reducible apply wqs); rfl; rfl; rfl; rfl; rfl; rfl; simp only [Act.put, List.setIfInBounds_toArray, List.set_cons_zero, List.set_cons_succ]) | ((with_reducible apply wqu); rfl; rfl; rfl; rfl; rfl; (first | simp only [same, Act.put, List.setIfInBounds_toArray, List.set_cons_zero, List.set_cons_succ] | simp only [Act.put, List.setIfInBounds_toArray, List.set_cons_zero, List.set_cons_succ]))))
      refine wqIdx_nil ?_
      refine wpAnyJ_done (by kernel_rfl) ?_ _
      go_wp2_with fail
      refine wp_region_J RT [12] (n := 13) (by kernel_rfl) rfl ?_
      refine batchJ RT.refl [0, 1, 2, 3, 4, 5, 6, 7, 8, 9, 10, 11] (fuel := 1) rfl (by kernel_rfl) (by kernel_rfl) (fun _ _ d _ _ h => by cases d <;> exact h) ?_
      (repeat (first | ((with_reducible apply wq0); rfl; rfl; rfl; intro K hK; go_big_quiet_op; refine hK _ ?_; clear hK K) | ((with_reducible apply wq1); rfl; rfl; rfl; rfl; rfl; rfl; intro K hK; go_big_quiet_op; refine hK _ ?_; clear hK K) | ((with_reducible apply wqs); rfl; rfl; rfl; rfl; rfl; rfl; simp only [Act.put, List.setIfInBounds_toArray, List.set_cons_zero, List.set_cons_succ]) | ((with_reducible apply wqu); rfl; rfl; rfl; rfl; rfl; (first | simp only [same, Act.put, List.setIfInBounds_toArray, List.set_cons_zero, List.set_cons_succ] | simp only [Act.put, List.setIfInBounds_toArray, List.set_cons_zero, List.set_cons_succ]))))
      refine wqIdx_nil_check rfl rfl rfl rfl ?_; simp only [Act.put, List.setIfInBounds_toArray, List.set_cons_zero, List.set_cons_succ]
      (repeat (first | ((with_reducible apply wq0); rfl; rfl; rfl; intro K hK; go_big_quiet_op; refine hK _ ?_; clear hK K) | ((with_reducible apply wq1); rfl; rfl; rfl; rfl; rfl; rfl; intro K hK; go_big_quiet_op; refine hK _ ?_; clear hK K) | ((with_reducible apply wqs); rfl; rfl; rfl; rfl; rfl; rfl; simp only [Act.put, List.setIfInBounds_toArray, List.set_cons_zero, List.set_cons_succ]) | ((with_reducible apply wqu); rfl; rfl; rfl; rfl; rfl; (first | simp only [same, Act.put, List.setIfInBounds_toArray, List.set_cons_zero, List.set_cons_succ] | simp only [Act.put, List.setIfInBounds_toArray, List.set_cons_zero, List.set_cons_succ]))))
      refine wqIdx_load rfl rfl rfl rfl (fun W hW => run_load1 (fun _ => by kernel_rfl) (keep_c hW (F2.out))) ?_; simp only [Act.put, List.setIfInBounds_toArray, List.set_cons_zero, List.set_cons_succ]
      (repeat (first | ((with_reducible apply wq0); rfl; rfl; rfl; intro K hK; go_big_quiet_op; refine hK _ ?_; clear hK K) | ((with_reducible apply wq1); rfl; rfl; rfl; rfl; rfl; rfl; intro K hK; go_big_quiet_op; refine hK _ ?_; clear hK K) | ((with_reducible apply wqs); rfl; rfl; rfl; rfl; rfl; rfl; simp only [Act.put, List.setIfInBounds_toArray, List.set_cons_zero, List.set_cons_succ]) | ((with_reducible apply wqu); rfl; rfl; rfl; rfl; rfl; (first | simp only [same, Act.put, List.setIfInBounds_toArray, List.set_cons_zero, List.set_cons_succ] | simp only [Act.put, List.setIfInBounds_toArray, List.set_cons_zero, List.set_cons_succ]))))
      refine wqIdx_load rfl rfl rfl rfl (fun W hW => run_load1 (fun _ => by kernel_rfl) (keep_c hW (C1.out))) ?_; simp only [Act.put, List.setIfInBounds_toArray, List.set_cons_zero, List.set_cons_succ]
      (repeat (first | ((with_reducible apply wq0); rfl; rfl; rfl; intro K hK; go_big_quiet_op; refine hK _ ?_; clear hK K) | ((with_reducible apply wq1); rfl; rfl; rfl; rfl; rfl; rfl; intro K hK; go_big_quiet_op; refine hK _ ?_; clear hK K) | ((with_reducible apply wqs); rfl; rfl; rfl; rfl; rfl; rfl; simp only [Act.put, List.setIfInBounds_toArray, List.set_cons_zero, List.set_cons_succ]) | ((with_reducible apply wqu); rfl; rfl; rfl; rfl; rfl; (first | simp only [same, Act.put, List.setIfInBounds_toArray, List.set_cons_zero, List.set_cons_succ] | simp only [Act.put, List.setIfInBounds_toArray, List.set_cons_zero, List.set_cons_succ]))))
      obtain ⟨mn, hmn⟩ : ∃ mn, mn = min n 64 := ⟨_, rfl⟩
      refine wqIdx_min rfl rfl rfl rfl rfl (r := (mn : Int)) (by rw [hmn]; split <;> omega) ?_
      simp only [Act.put, List.setIfInBounds_toArray, List.set_cons_zero, List.set_cons_succ]
      have m64 : mn ≤ 64 := by omega
      have HMN := Lib.hid hmn
      clear hmn
      refine wqIdx_sliceH rfl rfl rfl rfl rfl (fun w => slice_sec _ mn m64 w) ?_
      simp only [Act.put, List.setIfInBounds_toArray, List.set_cons_zero, List.set_cons_succ]
      refine wqIdx_nil ?_
      refine wpAnyJ_sole (i := 12) rfl (by kernel_rfl) (fun K hK => ?_); rw [if_pos (wanted0 rfl _)]
      obtain ⟨cur, hcur⟩ := own_blk (World.ownsRow.drew (World.ownsRow.drew HKR2.out)) (g := g) rfl
      have hcl : ((encSec x.b).take mn).length = mn := by rw [List.length_take, laySec.len]; omega
      have hfitx : x.i * 64 + mn ≤ fl * 64 := by omega
      have hsz : fl * 64 ≤ cur.size := by
        have h0 := (World.ownsRow.drew (World.ownsRow.drew HKR2.out))
        rcases h0.2 with ⟨hv, -⟩ | ⟨g', cap, cur', hv, -, hh, hnc, -, hcs, -⟩
        · cases hv
        · injection hv with hv1 hv2 hv3
          injection hv1 with hv1
          injection hv1 with hv1
          subst hv1
          have e1 := hcur.symm.trans hh
          injection e1 with e1
          injection e1 with e1
          rw [e1, hcs]
          exact Nat.mul_le_mul_right 64 hnc
      refine wp_copy_row (.tmp 34) (.tmp 38) _ _ rfl Try.underlying30 (by kernel_rfl) rfl rfl (cur := cur) (t := 94) ((encSec x.b).take mn) hcur ?_ ?_ ?_ ?_ ?_
      · rw [hcl]; exact (Nat.min_eq_left m64).symm
      · intro j v hj
        rw [Addr.add_lit]
        rw [List.getElem?_take] at hj
        split at hj
        · exact C2.out j v hj
        · cases hj
      · rw [hcl]; omega
      · exact fun v hv => laySec.one x.b v (List.mem_of_mem_take hv)
      · refine hK _ _ ⟨fun hc => absurd (List.mem_singleton.2 rfl) hc, trivial⟩ ?_
        clear hK K
        have hl' : (padF f k).kept.length = fl := HLEN.out.trans HFL.out.symm
        have hold : (padF f k).kept[x.i]? = some ((padF f k).kept.getD x.i zS) := by
          rw [List.getD_eq_getElem?_getD, List.getElem?_eq_getElem (by rw [hl']; exact i2)]
          rfl
        have hsp := own_splice (World.ownsRow.drew (World.ownsRow.drew HKR2.out)) hcur (x.i * 64) ((encSec x.b).take mn) (by rw [hcl]; exact hfitx)
        rw [← RowV_mix (padF f k).kept x.i _ x.b mn hold m64] at hsp
        have hpk : padF f k = { f with kept := padK f.kept x.i } := by
          have e : k = x.i + 1 - f.kept.length := by
            have h1 := HK.out
            have h2 := HLT.out
            have h3 := HFL.out
            omega
          unfold padF padK
          rw [e]
        have htk := HD.out.drew.drew.turnKept (f := padF f k) (mem_updF_self HF.out rfl) (g := g) (kc := kc) (kept' := (padF f k).kept.set x.i (mixS ((padF f k).kept.getD x.i zS) x.b mn)) (by rw [hl']; exact F2.out)
          (setRow_cells wr.drew.drew g _ 94 cur hcur) (by rw [hl']; exact hsp) (by simp)
        have hkf : (⟨f.blk, f.name, f.now, (padF f k).kept.set x.i (mixS ((padF f k).kept.getD x.i zS) x.b mn)⟩ : Fi) = keepF f x n := by
          unfold keepF
          rw [hpk, HMN.out]
        have hfin : updF (updF D.fs (padF f k)) ⟨f.blk, f.name, f.now, (padF f k).kept.set x.i (mixS ((padF f k).kept.getD x.i zS) x.b mn)⟩ = updF D.fs (keepF f x n) := by
          rw [hkf]
          exact updF_upd rfl
        obtain ⟨t1, t2⟩ := htk
        have t3 : DiskR (wr.drew.drew.setRow g (cur.toList.take (x.i * 64) ++ (encSec x.b).take mn ++ cur.toList.drop (x.i * 64 + ((encSec x.b).take mn).length)).toArray) base d m { D with fs := updF D.fs (keepF f x n) } := by
          rw [← hfin]
          exact t1
        have htk := And.intro t3 t2
        clear t1 t2 t3 hkf
        have HTK := Lib.hid htk
        clear htk hsp hold hfin hpk hl'
        refine wpAnyJ_done (by kernel_rfl) ?_ _
        go_wp2
        go_end0
        have hT := HTK.out
        rw [List.append_assoc, hcl] at hT
        exact ⟨rfl, hT.1, (KF.of_below B0.out).trans (HDF.out.trans ((KF.drew (KF.drew (KF.refl wr))).trans hT.2))⟩
end
end Go.Proofs.Ytfmmdnjoichifaa
