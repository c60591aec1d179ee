/- Contracts of a disk: Pending. -/
import Derived.Test.YtfmmdnjoichifaaFiO
namespace Go.Proofs.Ytfmmdnjoichifaa
open Go.RowKit Go.Sort

def encPd (x : Nm × Nat) : List Value := [strV x.1, .int .i64 (x.2 : Int)]
theorem layPd : Lay (Nm × Nat) encPd 2 := ⟨fun _ => rfl, fun x u hu => by
  unfold encPd at hu
  rcases List.mem_cons.1 hu with rfl | hu
  · rfl
  · rw [List.mem_singleton.1 hu]; rfl, by decide⟩
theorem info_pdS : (Try.prog.info? 43).map (·.size) = some 2 := by kernel_rfl
theorem info_pd3 : (Try.prog.info? 43).map (fun i => (i.zero, i.size, i.bytes)) = some (some (.agg #[.string ⟨#[]⟩, .int .i64 0]), 2, 24) := by kernel_rfl
theorem zero_pd (w : World) : (zeroValue 43).run Try.prog w = .ok (.agg #[.string ⟨#[]⟩, .int .i64 0]) w := by kernel_rfl
theorem pdV_build (n : Nm) (i : Int) (w : World) : (Instr.build 43 #[(0, strV n), (1, .int .i64 i)]).run Try.prog w = .ok (.agg #[strV n, .int .i64 i]) w := by kernel_rfl
def nameOf (fs : List Fi) (b : Nat) : Nm := match fs.find? (fun f => f.blk == b) with | some f => f.name | none => []
def pendM (D : Dk) : List (Nm × Nat) := D.pend.map fun p => (nameOf D.fs p.f, p.i)
theorem nameOf_mem {fs : List Fi} (hap : fs.Pairwise fun a b => a.blk ≠ b.blk) {f : Fi} (hf : f ∈ fs) : nameOf fs f.blk = f.name := by
  unfold nameOf
  have : fs.find? (fun g => g.blk == f.blk) = some f := by
    induction fs with
    | nil => cases hf
    | cons x fs ih =>
      obtain ⟨h1, h2⟩ := List.pairwise_cons.1 hap
      rcases List.mem_cons.1 hf with rfl | hf
      · rw [List.find?_cons_of_pos (by simp)]
      · rw [List.find?_cons_of_neg (by simpa using h1 f hf)]
        exact ih h2 hf
  rw [this]
section
variable {w : World} {base d m : Nat} {D : Dk}
theorem pending_nil (w : World) : Calls Try.prog 15 #[.pointer none] w fun e w' => e = .returned (.slice none 0 0) ∧ w = w' := by
  go_enter Try.func15, Try.ntmps15
  go_wp2_with fail
  refine (unmade_nil _).mono ?_; rintro e w' ⟨rfl, rfl⟩
  go_wp2
  go_ret
  exact ⟨rfl, rfl⟩
/-- A new row of what is pending. -/
def PdRow (w : World) (l : List (Nm × Nat)) (e : Ending) (w' : World) : Prop := ∃ A c, e = .returned (.slice A l.length c) ∧ w'.ownsRow w.heap.size 43 2 (.slice A l.length c) l.length (RowV encPd l) ∧ Below w.heap.size w w'
set_option maxRecDepth 100000 in
set_option maxHeartbeats 2000000 in
theorem pending_any (h : DiskR w base d m D) (hp : D.pend.length ≤ 1000000) : Calls Try.prog 15 #[ptD d] w (PdRow w (pendM D)) := by
  have P1 := Lib.hid (unmade_any h)
  obtain ⟨pA, pc, -, -, -, c2, -, -, -, hpo⟩ := h.cells
  have H := Lib.hid h
  have HPO := Lib.hid hpo
  have hlen : (pendM D).length = D.pend.length := by unfold pendM; rw [List.length_map]
  unfold PdRow
  rw [hlen]
  have hget : ∀ (k : Nat) (p : Wr), D.pend[k]? = some p → (pendM D)[k]? = some (nameOf D.fs p.f, p.i) := fun k p hk => by unfold pendM; rw [List.getElem?_map, hk]; rfl
  have HGET := Lib.hid hget
  have HLEN := Lib.hid hlen
  generalize pendM D = pm at HGET HLEN ⊢
  have hpl := hp
  clear h hpo hlen hget
  go_enter Try.func15, Try.ntmps15
  go_wp2_with fail
  refine P1.out.mono ?_; rintro e w' ⟨rfl, rfl⟩
  go_wp2_with fail
  go_loopw [3, 13] (fun l i wr => ∃ (k : Nat) (A : Option Addr) (c : Nat), k ≤ D.pend.length ∧ i = .int .i64 (k : Int) ∧ l = .slice A k c ∧ wr.ownsRow w.heap.size 43 2 l k (RowV encPd (pm.take k)) ∧ Below w.heap.size w wr) (fun _ i _ => D.pend.length - (intOf i).toNat)
  case atStart => exact ⟨0, none, 0, Nat.zero_le _, rfl, rfl, own_nil_k layPd _ _ _, Below.refl _ _⟩
  case round =>
    obtain ⟨k, A, c, hkl, rfl, rfl, ho, hb⟩ := hrel
    have HO := Lib.hid ho
    have HB := Lib.hid hb
    clear ho hb
    by_cases hlt : k < D.pend.length
    · have hea := List.getElem?_eq_getElem hlt
      obtain ⟨p, hp'⟩ : ∃ p, p = D.pend[k] := ⟨_, rfl⟩
      rw [← hp'] at hea
      obtain ⟨hpi, f, hf, hfb⟩ := H.out.own p (by rw [hp']; exact List.getElem_mem hlt)
      have hpm := HGET.out k p hea
      rw [← hfb, nameOf_mem H.out.apart hf] at hpm
      have HTK := Lib.hid (show pm.take (k + 1) = pm.take k ++ [(f.name, p.i)] by rw [List.take_add_one, hpm]; rfl)
      have hpr := own_below HPO.out HB.out
      obtain ⟨g, cap, hv, -, -⟩ := hpr.form (by omega)
      injection hv with hv1 hv2 hv3
      subst hv1
      subst hv3
      have hpc : ∀ j u, (encWr p)[j]? = some u → wr.cell? ((⟨g, k * 66, none⟩ : Addr).add j) = some u := fun j u hj => by
        rw [Addr.add_lit]
        have hj66 : j < 66 := by have := (List.getElem?_eq_some_iff.1 hj).1; rwa [layWr.len] at this
        rw [hpr.cellAt (k * 66 + j) (by omega), RowV_get layWr D.pend k j p hea hj66]
        exact hj
      have HPC := Lib.hid hpc
      obtain ⟨_, _, _, _, hfl, -, f0, -⟩ := H.out.file hf
      have F0 := Lib.hid ((HB.out.cell (p := ⟨f.blk, 0, none⟩) hfl).trans f0)
      have hiw : (Try.prog.info? 96).map (·.size) = some (encWr p).length := by rw [layWr.len]; exact info_wrS
      have HIW := Lib.hid hiw
      have HIW2 := Lib.hid (show (Try.prog.info? 96).map (·.size) = some (encWr p).toArray.size by rw [List.size_toArray]; exact hiw)
      have HAL := Lib.hid (show (encWr p).toArray.all (·.oneCell') = true by
        rw [Array.all_eq_true_iff_forall_mem]
        intro v hv
        exact layWr.one p v (by simpa using hv))
      have HFB := Lib.hid hfb
      clear hpc hea hp' hf hfb hpi hiw hv2 hpr hpm f0 hfl
      go_wp2_with (first | (refine wpList_load_big rfl 96 (.tmp 15) rfl (p := ⟨g, k * 66, none⟩) rfl Try.underlying96 rfl (encWr p) HIW.out HPC.out ?_) | (refine wpList_store_new (o := ⟨none, _, _, _, _, _⟩) rfl 96 (.tmp 5) (.tmp 16) rfl rfl rfl HIW2.out ?_ HAL.out ?_))
      · exact (layWr.len p).symm
      go_frame
      have b1 := al_below wr (.cells (encWr p).toArray 96)
      obtain ⟨c0, c1, -⟩ := wr_cells (Blk.new wr 96 (encWr p).toArray)
      rw [← HFB.out] at c0
      have f0 := (b1.cell (p := ⟨f.blk, 0, none⟩) (block_lt_of_cell F0.out)).trans F0.out
      have ho := World.ownsRow.alloc HO.out (.cells (encWr p).toArray 96)
      have C0 := Lib.hid c0
      have C1 := Lib.hid c1
      have F1 := Lib.hid f0
      have HO1 := Lib.hid ho
      have HB1 := Lib.hid (below_trans HB.out b1)
      obtain ⟨gx, hgx⟩ : ∃ gx, gx = wr.heap.size := ⟨_, rfl⟩
      obtain ⟨wb, hwb⟩ : ∃ wb, wb = wr.alloc (.cells (encWr p).toArray 96) := ⟨_, rfl⟩
      rw [← hwb] at C0 C1 F1 HO1 HB1 ⊢
      rw [← hgx] at C0 C1 ⊢
      clear hgx hwb c0 c1 f0 ho b1
      refine wp_region_J RT [10] (n := 12) (by kernel_rfl) rfl ?_
      refine batchJ RT.refl [0, 1, 2, 3, 4, 5, 6, 7, 8] (fuel := 3) rfl (by kernel_rfl) (by kernel_rfl) (fun _ _ d _ _ h => by cases d <;> exact h) ?_
      (repeat (first | ((with_reducible apply wq0); rfl; rfl; rfl; intro K hK; go_big_quiet_op; refine hK _ ?_; clear hK K) | ((with_reducible apply wq1); rfl; rfl; rfl; rfl; rfl; rfl; intro K hK; go_big_quiet_op; refine hK _ ?_; clear hK K) | ((with_reducible apply wqs); rfl; rfl; rfl; rfl; rfl; rfl; simp only [Act.put, List.setIfInBounds_toArray, List.set_cons_zero, List.set_cons_succ]) | ((with_reducible apply wqu); rfl; rfl; rfl; rfl; rfl; (first | simp only [same, Act.put, List.setIfInBounds_toArray, List.set_cons_zero, List.set_cons_succ] | simp only [Act.put, List.setIfInBounds_toArray, List.set_cons_zero, List.set_cons_succ]))))
      refine wqIdx_load rfl rfl rfl rfl (fun W hW => run_load1 (fun _ => by kernel_rfl) (keep_c hW (C0.out))) ?_; simp only [Act.put, List.setIfInBounds_toArray, List.set_cons_zero, List.set_cons_succ]
      (repeat (first | ((with_reducible apply wq0); rfl; rfl; rfl; intro K hK; go_big_quiet_op; refine hK _ ?_; clear hK K) | ((with_reducible apply wq1); rfl; rfl; rfl; rfl; rfl; rfl; intro K hK; go_big_quiet_op; refine hK _ ?_; clear hK K) | ((with_reducible apply wqs); rfl; rfl; rfl; rfl; rfl; rfl; simp only [Act.put, List.setIfInBounds_toArray, List.set_cons_zero, List.set_cons_succ]) | ((with_reducible apply wqu); rfl; rfl; rfl; rfl; rfl; (first | simp only [same, Act.put, List.setIfInBounds_toArray, List.set_cons_zero, List.set_cons_succ] | simp only [Act.put, List.setIfInBounds_toArray, List.set_cons_zero, List.set_cons_succ]))))
      refine wqIdx_nil_check rfl rfl rfl rfl ?_; simp only [Act.put, List.setIfInBounds_toArray, List.set_cons_zero, List.set_cons_succ]
      (repeat (first | ((with_reducible apply wq0); rfl; rfl; rfl; intro K hK; go_big_quiet_op; refine hK _ ?_; clear hK K) | ((with_reducible apply wq1); rfl; rfl; rfl; rfl; rfl; rfl; intro K hK; go_big_quiet_op; refine hK _ ?_; clear hK K) | ((with_reducible apply wqs); rfl; rfl; rfl; rfl; rfl; rfl; simp only [Act.put, List.setIfInBounds_toArray, List.set_cons_zero, List.set_cons_succ]) | ((with_reducible apply wqu); rfl; rfl; rfl; rfl; rfl; (first | simp only [same, Act.put, List.setIfInBounds_toArray, List.set_cons_zero, List.set_cons_succ] | simp only [Act.put, List.setIfInBounds_toArray, List.set_cons_zero, List.set_cons_succ]))))
      refine wqIdx_load rfl rfl rfl rfl (fun W hW => run_load1 (fun _ => by kernel_rfl) (keep_c hW (F1.out))) ?_; simp only [Act.put, List.setIfInBounds_toArray, List.set_cons_zero, List.set_cons_succ]
      (repeat (first | ((with_reducible apply wq0); rfl; rfl; rfl; intro K hK; go_big_quiet_op; refine hK _ ?_; clear hK K) | ((with_reducible apply wq1); rfl; rfl; rfl; rfl; rfl; rfl; intro K hK; go_big_quiet_op; refine hK _ ?_; clear hK K) | ((with_reducible apply wqs); rfl; rfl; rfl; rfl; rfl; rfl; simp only [Act.put, List.setIfInBounds_toArray, List.set_cons_zero, List.set_cons_succ]) | ((with_reducible apply wqu); rfl; rfl; rfl; rfl; rfl; (first | simp only [same, Act.put, List.setIfInBounds_toArray, List.set_cons_zero, List.set_cons_succ] | simp only [Act.put, List.setIfInBounds_toArray, List.set_cons_zero, List.set_cons_succ]))))
      refine wqIdx_load rfl rfl rfl rfl (fun W hW => run_load1 (fun _ => by kernel_rfl) (keep_c hW (C1.out))) ?_; simp only [Act.put, List.setIfInBounds_toArray, List.set_cons_zero, List.set_cons_succ]
      refine wqIdx_build rfl rfl rfl (fun w => pdV_build f.name (p.i : Int) w) rfl ?_; simp only [Act.put, List.setIfInBounds_toArray, List.set_cons_zero, List.set_cons_succ]
      refine wqIdx_nil ?_
      refine wpAnyJ_sole (i := 9) rfl (by kernel_rfl) (fun K hK => ?_); rw [if_pos (wanted0 rfl _)]
      refine wp_buildSlice_one (.tmp 25) rfl (cs := encPd (f.name, p.i)) rfl Try.underlying32 info_pdS (by decide) (by decide) (layPd.len _) (zero_pd _) rfl ?_
      refine hK _ _ ⟨fun _ => al_below _ _, trivial⟩ ?_
      clear hK K
      simp only [Act.put, List.setIfInBounds_toArray, List.set_cons_zero, List.set_cons_succ]
      have HOA := Lib.hid (World.ownsRow.alloc (World.ownsRow.drew HO1.out) (.cells (encPd (f.name, p.i)).toArray 43))
      have HRA := Lib.hid (reads_oneK layPd wb.drew (f.name, p.i) 43)
      have BA := Lib.hid (show Below w.heap.size w (wb.drew.alloc (.cells (encPd (f.name, p.i)).toArray 43)) from (dr_below HB1.out).alloc (Nat.le_trans HB1.out.size (Nat.le_refl _)) _)
      refine wpAnyJ_sole (i := 10) rfl (by kernel_rfl) (fun K hK => ?_); rw [if_pos (wanted0 rfl _)]
      refine wp_appK layPd (ys := [(f.name, p.i)]) (.tmp 17) (.tmp 26) _ rfl Try.underlying32 info_pd3 rfl HOA.out HRA.out 1 rfl rfl (by omega) (by decide) BA.out.size ?_
      intro A5 c5 w5 o5 gr5
      refine hK _ _ ⟨fun hc => absurd (List.mem_singleton.2 rfl) hc, trivial⟩ ?_
      clear hK K
      simp only [Act.put, List.setIfInBounds_toArray, List.set_cons_zero, List.set_cons_succ]
      have O5 := Lib.hid o5
      have B5 := Lib.hid (BA.out.grown (Grew.by_ gr5) BA.out.size fun i hi => (World.ownsRow.lt HOA.out i hi).1)
      clear o5 gr5
      refine batchJ RT.refl [11] (fuel := 0) rfl (by kernel_rfl) (by kernel_rfl) (fun _ _ d _ _ h => by cases d <;> exact h) ?_
      (repeat (first | ((with_reducible apply wq0); rfl; rfl; rfl; intro K hK; go_big_quiet_op; refine hK _ ?_; clear hK K) | ((with_reducible apply wq1); rfl; rfl; rfl; rfl; rfl; rfl; intro K hK; go_big_quiet_op; refine hK _ ?_; clear hK K) | ((with_reducible apply wqs); rfl; rfl; rfl; rfl; rfl; rfl; simp only [Act.put, List.setIfInBounds_toArray, List.set_cons_zero, List.set_cons_succ]) | ((with_reducible apply wqu); rfl; rfl; rfl; rfl; rfl; (first | simp only [same, Act.put, List.setIfInBounds_toArray, List.set_cons_zero, List.set_cons_succ] | simp only [Act.put, List.setIfInBounds_toArray, List.set_cons_zero, List.set_cons_succ]))))
      refine wqIdx_nil ?_
      refine wpAnyJ_done (by kernel_rfl) ?_ _
      go_wp2
      refine ⟨⟨k + 1, A5, c5, by omega, by go_num, rfl, by rw [HTK.out]; exact O5.out, B5.out⟩, by simp [intOf]; omega⟩
    · obtain rfl : k = D.pend.length := by omega
      have ho := HO.out
      rw [List.take_of_length_le (by rw [HLEN.out]; exact Nat.le_refl _)] at ho
      have HO2 := Lib.hid ho
      clear ho
      go_wp2
      go_ret
      exact ⟨A, c, rfl, HO2.out, HB.out⟩
end
end Go.Proofs.Ytfmmdnjoichifaa
