/- Contracts of a disk: Append. -/
import Derived.Test.YtfmmdnjoichifaaFiF
import Derived.Deep.WholeRow
namespace Go.Proofs.Ytfmmdnjoichifaa
open Go.RowKit Go.Sort

theorem add_zero0 (g j : Nat) : (⟨g, 0, none⟩ : Addr).add j = ⟨g, j, none⟩ := by unfold Addr.add; split <;> simp_all
theorem cells_big {w : World} {g : Nat} {t : TypeId} {cs : List Value} (hb : Blk w g t cs.toArray) : ∀ j v, cs[j]? = some v → w.cell? ((⟨g, 0, none⟩ : Addr).add j) = some v := fun j v hj => by
  rw [add_zero0, hb.cell j, List.getElem?_toArray]
  exact hj
theorem info_secS : (Try.prog.info? 94).map (·.size) = some 64 := by kernel_rfl
theorem info_wrS : (Try.prog.info? 96).map (·.size) = some 66 := by kernel_rfl
theorem wpList_store_new {P : Program} {ops : Array Oper} {rest : List Oper} {o : Oper} {a : Act} {Q : Exit → Act → World → Prop} (hgd : o.guard = none) (t : TypeId) (x y : Operand) (ho : o.op = .store t x y) {w : World} {c c' : Array Value} (hx : a.eval x = .pointer (some ⟨w.heap.size, 0, none⟩)) (hy : a.eval y = .agg c')
    (hi : (P.info? t).map (·.size) = some c'.size) (hoo : c.size = c'.size) (h1 : c'.all (·.oneCell') = true) (hK : wpList P ops Q rest (a.put o.dst undef) (w.alloc (.cells c' t))) : wpList P ops Q (o :: rest) a (w.alloc (.cells c t)) := by
  refine wpList_plain hgd fun K hk => ?_
  unfold Oper.wp execOp
  simp only [ho, hx, hy, Sem.run_bind, run_storeAt_new w t c c' hi hoo h1, Result.andThen_ok, Sem.run_pure]
  exact hk _ _ hK
theorem sec_all (s : Sec) : (encSec s).toArray.all (·.oneCell') = true := by
  rw [Array.all_eq_true_iff_forall_mem]
  intro v hv
  exact laySec.one s v (by simpa using hv)
theorem sec_size (s : Sec) : (encSec s).toArray.size = 64 := by rw [List.size_toArray]; exact laySec.len s
theorem arrayAt_sec (A : Option Addr) (c : Nat) (w : World) : (Instr.arrayAt 94 (.slice A 64 c)).run Try.prog w = .ok (.pointer A) w := by
  simp [Instr.arrayAt, run_underlying Try.underlying94]
def zWr : Value := .agg (.pointer none :: .int .i64 0 :: List.replicate 64 (.int .u8 0)).toArray
def zSec : Value := .agg (List.replicate 64 (.int .u8 0)).toArray
theorem info_wr3 : (Try.prog.info? 96).map (fun i => (i.zero, i.size, i.bytes)) = some (some zWr, 66, 80) := by kernel_rfl
theorem info_sec3 : (Try.prog.info? 94).map (fun i => (i.zero, i.size, i.bytes)) = some (some zSec, 64, 64) := by kernel_rfl
theorem zero_wr (w : World) : (zeroValue 96).run Try.prog w = .ok zWr w := (zero_of_info (t := 96) (v := zWr) (n := 66) (by kernel_rfl)).1 w
theorem zero_sec (w : World) : (zeroValue 94).run Try.prog w = .ok zSec w := (zero_of_info (t := 94) (v := zSec) (n := 64) (by kernel_rfl)).1 w
/-- Bytes of a sector behind a slice; the disk is not what they lie in. -/
def SecAt (w : World) (base : Nat) (A : Option Addr) (s : Sec) : Prop := ∃ ad, A = some ad ∧ ad.block < w.heap.size ∧ (∀ j u, (encSec s)[j]? = some u → w.cell? (ad.add j) = some u) ∧ (ad.block < base ∨ ∃ cs fr, w.heap[ad.block]? = some (.cells cs 5 fr))
theorem SecAt.same {w w' : World} {base : Nat} {A : Option Addr} {s : Sec} (h : SecAt w base A s) (hs : w.heap.size ≤ w'.heap.size) (hk : ∀ g, g < w.heap.size → (g < base ∨ ∃ cs fr, w.heap[g]? = some (.cells cs 5 fr)) → w'.heap[g]? = w.heap[g]?) : SecAt w' base A s := by
  obtain ⟨ad, e, h1, h2, h3⟩ := h
  have hh := hk _ h1 h3
  refine ⟨ad, e, Nat.lt_of_lt_of_le h1 hs, fun j u hj => (World.cell?_of_block (a := ad.add j) (by rw [block_of_add]; exact hh)).trans (h2 j u hj), h3.imp id ?_⟩
  rintro ⟨cs, fr, hc⟩
  exact ⟨cs, fr, hh.trans hc⟩
theorem SecAt.below {w w' : World} {base : Nat} {A : Option Addr} {s : Sec} (h : SecAt w base A s) (hb : Below w.heap.size w w') : SecAt w' base A s := h.same hb.size fun g hg _ => hb.block g hg
theorem SecAt.df {w w' : World} {base m : Nat} {A : Option Addr} {s : Sec} {fs : List (Nm × Nat)} (h : SecAt w base A s) (hd : DF base m w w') (hm : MapR w m fs) : SecAt w' base A s := h.same hd.size fun g hg h1 => hd.2.2.2.2 g hg (h1.imp id (by
  rintro ⟨cs, fr, hc⟩ (hd | ⟨cs', t, hc', ht⟩)
  · obtain ⟨es, clock, hm⟩ := hm.isMap
    rw [← hd, hc] at hm
    cases hm
  · rw [hc] at hc'
    injection hc' with hc'
    injection hc' with _ e
    subst e
    revert ht
    decide))
section
variable {w : World} {base d m : Nat} {D : Dk}
set_option maxRecDepth 100000 in
set_option maxHeartbeats 2000000 in
theorem append1_any (h : DiskR w base d m D) {f : Fi} (hf : f ∈ D.fs) {s : Sec} {A : Option Addr} {c bb bd bf : Nat} (h1 : w.cell? ⟨bb, 0, none⟩ = some (.slice A 64 c)) (h2 : Blk w bd 23 #[ptD d]) (h3 : Blk w bf 86 #[ptD f.blk])
    (hs : SecAt w base A s) (hn : f.now.length ≤ 16384) (hp : D.pend.length ≤ 1000000) (hbase : base ≤ w.heap.size) :
    Calls Try.prog 56 #[.pointer (some ⟨bb, 0, none⟩), .pointer (some ⟨bd, 0, none⟩), .pointer (some ⟨bf, 0, none⟩)] w fun e w' => e = .returned (.tuple #[]) ∧
      DiskR w' base d m { D with fs := updF D.fs { f with now := f.now ++ [s] }, pend := D.pend ++ [⟨f.blk, f.now.length, s⟩] } ∧ DF base m w w' := by
  obtain ⟨ad, rfl, hadb, hcs, -⟩ := hs
  have hi64 : (Try.prog.info? 94).map (·.size) = some (encSec s).length := by rw [laySec.len]; exact info_secS
  have haa := arrayAt_sec (some ad) c w
  have HCS := Lib.hid hcs
  have HI := Lib.hid hi64
  have HI2 := Lib.hid (show (Try.prog.info? 94).map (·.size) = some (encSec s).toArray.size by rw [sec_size]; exact info_secS)
  have H := Lib.hid h
  have HF := Lib.hid hf
  have HN := Lib.hid hn
  have HP := Lib.hid hp
  have HB := Lib.hid hbase
  clear h hf hn hp hbase hcs hi64
  go_enter Try.func56, Try.ntmps56
  go_wp2_with (first | (refine wpList_load_big rfl 94 (.tmp 5) rfl (p := ad) rfl Try.underlying94 rfl (encSec s) HI.out HCS.out ?_) | (refine wpList_store_new rfl 94 (.tmp 3) (.tmp 6) rfl rfl rfl HI2.out ?_ (sec_all s) ?_; · rw [sec_size]; rfl))
  go_frame
  have b0 := al_below w (.cells (encSec s).toArray 94)
  have X3 := Blk.new w 94 (encSec s).toArray
  have H0 := H.out.below b0
  obtain ⟨pA, pc, -, -, -, c2, -, -, -, hpo⟩ := H0.cells
  obtain ⟨nA, nc, kA, kc, -, -, -, f1, -, hno, -⟩ := H0.file HF.out
  have HH0 := Lib.hid H0
  have C2 := Lib.hid c2
  have F1 := Lib.hid f1
  have HPO := Lib.hid hpo
  have HNO := Lib.hid hno
  have BD := Lib.hid (h2.alloc (.cells (encSec s).toArray 94))
  have BF := Lib.hid (h3.alloc (.cells (encSec s).toArray 94))
  have BS := Lib.hid X3
  have D1 := Lib.hid (BD.out.cell 0)
  have G1 := Lib.hid (BF.out.cell 0)
  have XS := Lib.hid (cells_big X3)
  have B0 := Lib.hid b0
  clear b0 X3 H0 c2 f1 hpo hno h1 haa h2 h3
  have ND := Lib.hid (show ¬ (bd = d ∨ (Value.slice pA D.pend.length pc).ownBlock = some bd) from by
    obtain ⟨_, _, hbt, -⟩ := HH0.out.top
    rintro (e | e)
    · exact Blk.ne_ BD.out hbt (by decide) e
    · exact own_ne_blk HPO.out BD.out (by decide) e)
  obtain ⟨w1, hw1⟩ : ∃ w1, w1 = w.alloc (.cells (encSec s).toArray 94) := ⟨_, rfl⟩
  rw [← hw1] at HH0 C2 F1 HPO HNO D1 G1 XS B0 BD BF BS ⊢
  clear hw1
  refine wp_region_J (RK (fun k => k = d ∨ (Value.slice pA D.pend.length pc).ownBlock = some k)) [14, 17] (n := 18) (by kernel_rfl) rfl ?_
  refine batchJ (RK.refl _) [1, 2, 3, 4, 5, 6, 7, 8, 9, 10, 11, 12] (fuel := 6) rfl (by kernel_rfl) (by kernel_rfl) (fun _ _ d _ _ h => by cases d <;> exact h) ?_
  (repeat (first | ((with_reducible apply wq0); rfl; rfl; rfl; intro K hK; go_big_quiet_op; refine hK _ ?_; clear hK K) | ((with_reducible apply wq1); rfl; rfl; rfl; rfl; rfl; rfl; intro K hK; go_big_quiet_op; refine hK _ ?_; clear hK K) | ((with_reducible apply wqs); rfl; rfl; rfl; rfl; rfl; rfl; simp only [Act.put, List.setIfInBounds_toArray, List.set_cons_zero, List.set_cons_succ]) | ((with_reducible apply wqu); rfl; rfl; rfl; rfl; rfl; (first | simp only [same, Act.put, List.setIfInBounds_toArray, List.set_cons_zero, List.set_cons_succ] | simp only [Act.put, List.setIfInBounds_toArray, List.set_cons_zero, List.set_cons_succ]))))
  refine wqIdx_load rfl rfl rfl rfl (fun W hW => run_load1 (fun _ => by kernel_rfl) (keep_c hW (D1.out))) ?_; simp only [Act.put, List.setIfInBounds_toArray, List.set_cons_zero, List.set_cons_succ]
  (repeat (first | ((with_reducible apply wq0); rfl; rfl; rfl; intro K hK; go_big_quiet_op; refine hK _ ?_; clear hK K) | ((with_reducible apply wq1); rfl; rfl; rfl; rfl; rfl; rfl; intro K hK; go_big_quiet_op; refine hK _ ?_; clear hK K) | ((with_reducible apply wqs); rfl; rfl; rfl; rfl; rfl; rfl; simp only [Act.put, List.setIfInBounds_toArray, List.set_cons_zero, List.set_cons_succ]) | ((with_reducible apply wqu); rfl; rfl; rfl; rfl; rfl; (first | simp only [same, Act.put, List.setIfInBounds_toArray, List.set_cons_zero, List.set_cons_succ] | simp only [Act.put, List.setIfInBounds_toArray, List.set_cons_zero, List.set_cons_succ]))))
  refine wqIdx_nil_check rfl rfl rfl rfl ?_; simp only [Act.put, List.setIfInBounds_toArray, List.set_cons_zero, List.set_cons_succ]
  (repeat (first | ((with_reducible apply wq0); rfl; rfl; rfl; intro K hK; go_big_quiet_op; refine hK _ ?_; clear hK K) | ((with_reducible apply wq1); rfl; rfl; rfl; rfl; rfl; rfl; intro K hK; go_big_quiet_op; refine hK _ ?_; clear hK K) | ((with_reducible apply wqs); rfl; rfl; rfl; rfl; rfl; rfl; simp only [Act.put, List.setIfInBounds_toArray, List.set_cons_zero, List.set_cons_succ]) | ((with_reducible apply wqu); rfl; rfl; rfl; rfl; rfl; (first | simp only [same, Act.put, List.setIfInBounds_toArray, List.set_cons_zero, List.set_cons_succ] | simp only [Act.put, List.setIfInBounds_toArray, List.set_cons_zero, List.set_cons_succ]))))
  refine wqIdx_load rfl rfl rfl rfl (fun W hW => run_load1 (fun _ => by kernel_rfl) (keep_c hW (C2.out))) ?_; simp only [Act.put, List.setIfInBounds_toArray, List.set_cons_zero, List.set_cons_succ]
  (repeat (first | ((with_reducible apply wq0); rfl; rfl; rfl; intro K hK; go_big_quiet_op; refine hK _ ?_; clear hK K) | ((with_reducible apply wq1); rfl; rfl; rfl; rfl; rfl; rfl; intro K hK; go_big_quiet_op; refine hK _ ?_; clear hK K) | ((with_reducible apply wqs); rfl; rfl; rfl; rfl; rfl; rfl; simp only [Act.put, List.setIfInBounds_toArray, List.set_cons_zero, List.set_cons_succ]) | ((with_reducible apply wqu); rfl; rfl; rfl; rfl; rfl; (first | simp only [same, Act.put, List.setIfInBounds_toArray, List.set_cons_zero, List.set_cons_succ] | simp only [Act.put, List.setIfInBounds_toArray, List.set_cons_zero, List.set_cons_succ]))))
  refine wqIdx_load rfl rfl rfl rfl (fun W hW => run_load1 (fun _ => by kernel_rfl) (keep_c hW (G1.out))) ?_; simp only [Act.put, List.setIfInBounds_toArray, List.set_cons_zero, List.set_cons_succ]
  (repeat (first | ((with_reducible apply wq0); rfl; rfl; rfl; intro K hK; go_big_quiet_op; refine hK _ ?_; clear hK K) | ((with_reducible apply wq1); rfl; rfl; rfl; rfl; rfl; rfl; intro K hK; go_big_quiet_op; refine hK _ ?_; clear hK K) | ((with_reducible apply wqs); rfl; rfl; rfl; rfl; rfl; rfl; simp only [Act.put, List.setIfInBounds_toArray, List.set_cons_zero, List.set_cons_succ]) | ((with_reducible apply wqu); rfl; rfl; rfl; rfl; rfl; (first | simp only [same, Act.put, List.setIfInBounds_toArray, List.set_cons_zero, List.set_cons_succ] | simp only [Act.put, List.setIfInBounds_toArray, List.set_cons_zero, List.set_cons_succ]))))
  refine wqIdx_load rfl rfl rfl rfl (fun W hW => run_load1 (fun _ => by kernel_rfl) (keep_c hW (G1.out))) ?_; simp only [Act.put, List.setIfInBounds_toArray, List.set_cons_zero, List.set_cons_succ]
  (repeat (first | ((with_reducible apply wq0); rfl; rfl; rfl; intro K hK; go_big_quiet_op; refine hK _ ?_; clear hK K) | ((with_reducible apply wq1); rfl; rfl; rfl; rfl; rfl; rfl; intro K hK; go_big_quiet_op; refine hK _ ?_; clear hK K) | ((with_reducible apply wqs); rfl; rfl; rfl; rfl; rfl; rfl; simp only [Act.put, List.setIfInBounds_toArray, List.set_cons_zero, List.set_cons_succ]) | ((with_reducible apply wqu); rfl; rfl; rfl; rfl; rfl; (first | simp only [same, Act.put, List.setIfInBounds_toArray, List.set_cons_zero, List.set_cons_succ] | simp only [Act.put, List.setIfInBounds_toArray, List.set_cons_zero, List.set_cons_succ]))))
  refine wqIdx_nil_check rfl rfl rfl rfl ?_; simp only [Act.put, List.setIfInBounds_toArray, List.set_cons_zero, List.set_cons_succ]
  (repeat (first | ((with_reducible apply wq0); rfl; rfl; rfl; intro K hK; go_big_quiet_op; refine hK _ ?_; clear hK K) | ((with_reducible apply wq1); rfl; rfl; rfl; rfl; rfl; rfl; intro K hK; go_big_quiet_op; refine hK _ ?_; clear hK K) | ((with_reducible apply wqs); rfl; rfl; rfl; rfl; rfl; rfl; simp only [Act.put, List.setIfInBounds_toArray, List.set_cons_zero, List.set_cons_succ]) | ((with_reducible apply wqu); rfl; rfl; rfl; rfl; rfl; (first | simp only [same, Act.put, List.setIfInBounds_toArray, List.set_cons_zero, List.set_cons_succ] | simp only [Act.put, List.setIfInBounds_toArray, List.set_cons_zero, List.set_cons_succ]))))
  refine wqIdx_load rfl rfl rfl rfl (fun W hW => run_load1 (fun _ => by kernel_rfl) (keep_c hW (F1.out))) ?_; simp only [Act.put, List.setIfInBounds_toArray, List.set_cons_zero, List.set_cons_succ]
  (repeat (first | ((with_reducible apply wq0); rfl; rfl; rfl; intro K hK; go_big_quiet_op; refine hK _ ?_; clear hK K) | ((with_reducible apply wq1); rfl; rfl; rfl; rfl; rfl; rfl; intro K hK; go_big_quiet_op; refine hK _ ?_; clear hK K) | ((with_reducible apply wqs); rfl; rfl; rfl; rfl; rfl; rfl; simp only [Act.put, List.setIfInBounds_toArray, List.set_cons_zero, List.set_cons_succ]) | ((with_reducible apply wqu); rfl; rfl; rfl; rfl; rfl; (first | simp only [same, Act.put, List.setIfInBounds_toArray, List.set_cons_zero, List.set_cons_succ] | simp only [Act.put, List.setIfInBounds_toArray, List.set_cons_zero, List.set_cons_succ]))))
  refine wqIdx_load rfl rfl rfl rfl (fun W hW => run_load_big Try.underlying94 rfl _ (encSec s) HI.out (fun j v hj => keep_c hW (XS.out j v hj))) ?_
  simp only [Act.put, List.setIfInBounds_toArray, List.set_cons_zero, List.set_cons_succ]
  refine wqIdx_build rfl rfl rfl (fun w => wrV_build f.blk (f.now.length : Int) s w) rfl ?_; simp only [Act.put, List.setIfInBounds_toArray, List.set_cons_zero, List.set_cons_succ]
  refine wqIdx_nil ?_
  refine batchP (RK.refl _) (RK.trans _) [0] (fuel := 5) rfl (by kernel_rfl) (by kernel_rfl) (fun _ _ d _ _ h => by cases d <;> exact h) ?_
  refine wqIdx_load rfl rfl rfl rfl (fun W hW => run_load1 (fun _ => by kernel_rfl) (keep_k hW (ND.out) (D1.out))) ?_; simp only [Act.put, List.setIfInBounds_toArray, List.set_cons_zero, List.set_cons_succ]
  refine wqIdx_nil ?_
  refine wpAnyJ_sole (i := 13) rfl (by kernel_rfl) (fun K hK => ?_); rw [if_pos (wanted0 rfl _)]
  refine wp_buildSlice_one (.tmp 19) rfl (cs := encWr ⟨f.blk, f.now.length, s⟩) rfl Try.underlying78 info_wrS (by decide) (by decide) (layWr.len _) (zero_wr _) rfl ?_
  refine hK _ _ ⟨fun _ => al_below _ _, rk_of_below (al_below _ _)⟩ ?_
  clear hK K
  simp only [Act.put, List.setIfInBounds_toArray, List.set_cons_zero, List.set_cons_succ]
  have HPA := Lib.hid (World.ownsRow.alloc (World.ownsRow.drew HPO.out) (.cells (encWr ⟨f.blk, f.now.length, s⟩).toArray 96))
  have HRA := Lib.hid (reads_oneK layWr w1.drew ⟨f.blk, f.now.length, s⟩ 96)
  have HSZ := Lib.hid (show base ≤ (w1.drew.alloc (.cells (encWr ⟨f.blk, f.now.length, s⟩).toArray 96)).heap.size from Nat.le_trans HB.out (Nat.le_trans B0.out.size (al_below w1.drew _).size))
  refine wpAnyJ_sole (i := 14) rfl (by kernel_rfl) (fun K hK => ?_); rw [if_pos (wanted0 rfl _)]
  refine wp_appK layWr (ys := [⟨f.blk, f.now.length, s⟩]) (.tmp 11) (.tmp 20) _ rfl Try.underlying78 info_wr3 rfl HPA.out HRA.out 1 rfl rfl (by have := HP.out; omega) (by decide) HSZ.out ?_
  intro A5 c5 w5 o5 gr5
  refine hK _ _ ⟨fun hc => absurd (by decide) hc, rk_of_grown (Grew.by_ gr5) fun g hg => .inr hg⟩ ?_
  clear hK K
  simp only [Act.put, List.setIfInBounds_toArray, List.set_cons_zero, List.set_cons_succ]
  have hg5 := Grew.by_ gr5
  have hpp := HH0.out.drew.pushPend C2.out o5 hg5 ⟨HN.out, f, HF.out, rfl⟩
  obtain ⟨pA', pc', hbd, -⟩ := HH0.out.top
  have hb5 := (Blk.alloc (Blk.drew hbd) (.cells (encWr ⟨f.blk, f.now.length, s⟩).toArray 96)).grown hg5 (Ne.symm (own_ne_blk HPA.out (Blk.alloc (Blk.drew hbd) _) (by decide)))
  have k5 := hb5.cell 2
  have z5 := hb5.frozen 2
  have HPP := Lib.hid hpp
  have G5 := Lib.hid hg5
  have STAY := Lib.hid (fun g t (cs : Array Value) (hb : Blk w1 g t cs) (ht : t ≠ 96) (ht2 : t ≠ 80) => show Blk (w5.setCell ⟨d, 2, none⟩ (.slice A5 (D.pend.length + 1) c5)) g t cs from
    ((Blk.alloc (Blk.drew hb) (.cells (encWr ⟨f.blk, f.now.length, s⟩).toArray 96)).grown hg5 (Ne.symm (own_ne_blk HPA.out (Blk.alloc (Blk.drew hb) _) (Ne.symm ht)))).far (Blk.ne_ ((Blk.alloc (Blk.drew hb) (.cells (encWr ⟨f.blk, f.now.length, s⟩).toArray 96)).grown hg5 (Ne.symm (own_ne_blk HPA.out (Blk.alloc (Blk.drew hb) _) (Ne.symm ht)))) hb5 ht2) _)
  clear hb5 hbd hpp o5 gr5 hg5
  refine batchP (RK.refl _) (RK.trans _) [15, 16] (fuel := 1) rfl (by kernel_rfl) (by kernel_rfl) (fun _ _ d _ _ h => by cases d <;> exact h) ?_
  refine wqIdx_nil_check rfl rfl rfl rfl ?_; simp only [Act.put, List.setIfInBounds_toArray, List.set_cons_zero, List.set_cons_succ]
  (repeat (first | ((with_reducible apply wq0); rfl; rfl; rfl; intro K hK; go_big_quiet_op; refine hK _ ?_; clear hK K) | ((with_reducible apply wq1); rfl; rfl; rfl; rfl; rfl; rfl; intro K hK; go_big_quiet_op; refine hK _ ?_; clear hK K) | ((with_reducible apply wqs); rfl; rfl; rfl; rfl; rfl; rfl; simp only [Act.put, List.setIfInBounds_toArray, List.set_cons_zero, List.set_cons_succ]) | ((with_reducible apply wqu); rfl; rfl; rfl; rfl; rfl; (first | simp only [same, Act.put, List.setIfInBounds_toArray, List.set_cons_zero, List.set_cons_succ] | simp only [Act.put, List.setIfInBounds_toArray, List.set_cons_zero, List.set_cons_succ]))))
  refine wqIdx_nil ?_
  refine wpAnyJ_sole (i := 17) rfl (by kernel_rfl) (fun K hK => ?_); go_simp
  refine hK _ _ ⟨fun hc => absurd (by decide) hc, rk_of_grown (gr_set _ _ _ _) fun g hg => .inl (by injection hg with hg; exact hg.symm)⟩ ?_
  clear hK K k5 z5
  refine wpAnyJ_done (by kernel_rfl) ?_ _
  have X6 := STAY.out _ _ _ BS.out (by decide) (by decide)
  have F6 := STAY.out _ _ _ BF.out (by decide) (by decide)
  have hs6 : base ≤ (w5.setCell ⟨d, 2, none⟩ (.slice A5 (D.pend.length + 1) c5)).heap.size := Nat.le_trans HSZ.out (by have := G5.out.size; simpa using this)
  have HP6 := Lib.hid HPP.out
  clear STAY HPP G5 HSZ HRA HPA C2 F1 HPO HNO D1 G1 XS BD BF BS HH0
  obtain ⟨w6, hw6⟩ : ∃ w6, w6 = w5.setCell ⟨d, 2, none⟩ (.slice A5 (D.pend.length + 1) c5) := ⟨_, rfl⟩
  rw [← hw6] at X6 F6 hs6 HP6 ⊢
  clear hw6
  obtain ⟨nA2, nc2, kA2, kc2, -, -, -, f1, -, hno, -⟩ := HP6.out.1.file HF.out
  have NF := Lib.hid (show ¬ (bf = f.blk ∨ (slN nA2 f.now nc2).ownBlock = some bf) from by
    obtain ⟨role, hro⟩ := HP6.out.1.files
    obtain ⟨_, _, _, _, hbt, -⟩ := hro f HF.out
    rintro (e | e)
    · exact Blk.ne_ F6 hbt (by decide) e
    · exact own_ne_blk hno F6 (by decide) e)
  have G6 := Lib.hid (F6.cell 0)
  have XS := Lib.hid (cells_big X6)
  have F1 := Lib.hid f1
  have HNO := Lib.hid hno
  have BX := Lib.hid F6
  have HSZ := Lib.hid hs6
  clear X6 F6 f1 hno hs6
  go_wp2_with fail
  refine wp_region_J (RK (fun k => k = f.blk ∨ (slN nA2 f.now nc2).ownBlock = some k)) [7, 10] (n := 11) (by kernel_rfl) rfl ?_
  refine batchJ (RK.refl _) [1, 2, 3, 4, 5] (fuel := 6) rfl (by kernel_rfl) (by kernel_rfl) (fun _ _ d _ _ h => by cases d <;> exact h) ?_
  (repeat (first | ((with_reducible apply wq0); rfl; rfl; rfl; intro K hK; go_big_quiet_op; refine hK _ ?_; clear hK K) | ((with_reducible apply wq1); rfl; rfl; rfl; rfl; rfl; rfl; intro K hK; go_big_quiet_op; refine hK _ ?_; clear hK K) | ((with_reducible apply wqs); rfl; rfl; rfl; rfl; rfl; rfl; simp only [Act.put, List.setIfInBounds_toArray, List.set_cons_zero, List.set_cons_succ]) | ((with_reducible apply wqu); rfl; rfl; rfl; rfl; rfl; (first | simp only [same, Act.put, List.setIfInBounds_toArray, List.set_cons_zero, List.set_cons_succ] | simp only [Act.put, List.setIfInBounds_toArray, List.set_cons_zero, List.set_cons_succ]))))
  refine wqIdx_load rfl rfl rfl rfl (fun W hW => run_load1 (fun _ => by kernel_rfl) (keep_c hW (G6.out))) ?_; simp only [Act.put, List.setIfInBounds_toArray, List.set_cons_zero, List.set_cons_succ]
  (repeat (first | ((with_reducible apply wq0); rfl; rfl; rfl; intro K hK; go_big_quiet_op; refine hK _ ?_; clear hK K) | ((with_reducible apply wq1); rfl; rfl; rfl; rfl; rfl; rfl; intro K hK; go_big_quiet_op; refine hK _ ?_; clear hK K) | ((with_reducible apply wqs); rfl; rfl; rfl; rfl; rfl; rfl; simp only [Act.put, List.setIfInBounds_toArray, List.set_cons_zero, List.set_cons_succ]) | ((with_reducible apply wqu); rfl; rfl; rfl; rfl; rfl; (first | simp only [same, Act.put, List.setIfInBounds_toArray, List.set_cons_zero, List.set_cons_succ] | simp only [Act.put, List.setIfInBounds_toArray, List.set_cons_zero, List.set_cons_succ]))))
  refine wqIdx_nil_check rfl rfl rfl rfl ?_; simp only [Act.put, List.setIfInBounds_toArray, List.set_cons_zero, List.set_cons_succ]
  (repeat (first | ((with_reducible apply wq0); rfl; rfl; rfl; intro K hK; go_big_quiet_op; refine hK _ ?_; clear hK K) | ((with_reducible apply wq1); rfl; rfl; rfl; rfl; rfl; rfl; intro K hK; go_big_quiet_op; refine hK _ ?_; clear hK K) | ((with_reducible apply wqs); rfl; rfl; rfl; rfl; rfl; rfl; simp only [Act.put, List.setIfInBounds_toArray, List.set_cons_zero, List.set_cons_succ]) | ((with_reducible apply wqu); rfl; rfl; rfl; rfl; rfl; (first | simp only [same, Act.put, List.setIfInBounds_toArray, List.set_cons_zero, List.set_cons_succ] | simp only [Act.put, List.setIfInBounds_toArray, List.set_cons_zero, List.set_cons_succ]))))
  refine wqIdx_load rfl rfl rfl rfl (fun W hW => run_load1 (fun _ => by kernel_rfl) (keep_c hW (F1.out))) ?_; simp only [Act.put, List.setIfInBounds_toArray, List.set_cons_zero, List.set_cons_succ]
  (repeat (first | ((with_reducible apply wq0); rfl; rfl; rfl; intro K hK; go_big_quiet_op; refine hK _ ?_; clear hK K) | ((with_reducible apply wq1); rfl; rfl; rfl; rfl; rfl; rfl; intro K hK; go_big_quiet_op; refine hK _ ?_; clear hK K) | ((with_reducible apply wqs); rfl; rfl; rfl; rfl; rfl; rfl; simp only [Act.put, List.setIfInBounds_toArray, List.set_cons_zero, List.set_cons_succ]) | ((with_reducible apply wqu); rfl; rfl; rfl; rfl; rfl; (first | simp only [same, Act.put, List.setIfInBounds_toArray, List.set_cons_zero, List.set_cons_succ] | simp only [Act.put, List.setIfInBounds_toArray, List.set_cons_zero, List.set_cons_succ]))))
  refine wqIdx_load rfl rfl rfl rfl (fun W hW => run_load_big Try.underlying94 rfl _ (encSec s) HI.out (fun j v hj => keep_c hW (XS.out j v hj))) ?_
  simp only [Act.put, List.setIfInBounds_toArray, List.set_cons_zero, List.set_cons_succ]
  refine wqIdx_nil ?_
  refine batchP (RK.refl _) (RK.trans _) [0] (fuel := 5) rfl (by kernel_rfl) (by kernel_rfl) (fun _ _ d _ _ h => by cases d <;> exact h) ?_
  refine wqIdx_load rfl rfl rfl rfl (fun W hW => run_load1 (fun _ => by kernel_rfl) (keep_k hW (NF.out) (G6.out))) ?_; simp only [Act.put, List.setIfInBounds_toArray, List.set_cons_zero, List.set_cons_succ]
  refine wqIdx_nil ?_
  refine wpAnyJ_sole (i := 6) rfl (by kernel_rfl) (fun K hK => ?_); rw [if_pos (wanted0 rfl _)]
  refine wp_buildSlice_one (.tmp 29) rfl (cs := encSec s) rfl Try.underlying88 info_secS (by decide) (by decide) (laySec.len _) (zero_sec _) rfl ?_
  refine hK _ _ ⟨fun _ => al_below _ _, rk_of_below (al_below _ _)⟩ ?_
  clear hK K
  simp only [Act.put, List.setIfInBounds_toArray, List.set_cons_zero, List.set_cons_succ]
  have HNA := Lib.hid (World.ownsRow.alloc (World.ownsRow.drew (show w6.ownsRow base 94 64 (slN nA2 f.now nc2) f.now.length (RowV encSec f.now) from HNO.out)) (.cells (encSec s).toArray 94))
  have HRA := Lib.hid (reads_oneK laySec w6.drew s 94)
  have HSA := Lib.hid (show base ≤ (w6.drew.alloc (.cells (encSec s).toArray 94)).heap.size from Nat.le_trans HSZ.out (al_below w6.drew _).size)
  refine wpAnyJ_sole (i := 7) rfl (by kernel_rfl) (fun K hK => ?_); rw [if_pos (wanted0 rfl _)]
  refine wp_appK laySec (ys := [s]) (.tmp 28) (.tmp 30) _ rfl Try.underlying88 info_sec3 rfl HNA.out HRA.out 1 rfl rfl (by have := HN.out; omega) (by decide) HSA.out ?_
  intro A7 c7 w7 o7 gr7
  refine hK _ _ ⟨fun hc => absurd (by decide) hc, rk_of_grown (Grew.by_ gr7) fun g hg => .inr hg⟩ ?_
  clear hK K
  simp only [Act.put, List.setIfInBounds_toArray, List.set_cons_zero, List.set_cons_succ]
  have hpn := HP6.out.1.drew.pushNow HF.out F1.out o7 gr7 HN.out
  obtain ⟨role, hro⟩ := HP6.out.1.files
  obtain ⟨_, _, _, _, hbf, -⟩ := hro f HF.out
  have hb7 := (Blk.alloc (Blk.drew hbf) (.cells (encSec s).toArray 94)).grown (Grew.by_ gr7) (Ne.symm (own_ne_blk HNA.out (Blk.alloc (Blk.drew hbf) _) (by decide)))
  have k7 := hb7.cell 1
  have z7 := hb7.frozen 1
  have HPN := Lib.hid hpn
  clear hb7 hbf hpn o7 gr7 hro
  refine batchP (RK.refl _) (RK.trans _) [8, 9] (fuel := 1) rfl (by kernel_rfl) (by kernel_rfl) (fun _ _ d _ _ h => by cases d <;> exact h) ?_
  refine wqIdx_nil_check rfl rfl rfl rfl ?_; simp only [Act.put, List.setIfInBounds_toArray, List.set_cons_zero, List.set_cons_succ]
  (repeat (first | ((with_reducible apply wq0); rfl; rfl; rfl; intro K hK; go_big_quiet_op; refine hK _ ?_; clear hK K) | ((with_reducible apply wq1); rfl; rfl; rfl; rfl; rfl; rfl; intro K hK; go_big_quiet_op; refine hK _ ?_; clear hK K) | ((with_reducible apply wqs); rfl; rfl; rfl; rfl; rfl; rfl; simp only [Act.put, List.setIfInBounds_toArray, List.set_cons_zero, List.set_cons_succ]) | ((with_reducible apply wqu); rfl; rfl; rfl; rfl; rfl; (first | simp only [same, Act.put, List.setIfInBounds_toArray, List.set_cons_zero, List.set_cons_succ] | simp only [Act.put, List.setIfInBounds_toArray, List.set_cons_zero, List.set_cons_succ]))))
  refine wqIdx_nil ?_
  refine wpAnyJ_sole (i := 10) rfl (by kernel_rfl) (fun K hK => ?_); go_simp
  refine hK _ _ ⟨fun hc => absurd (by decide) hc, rk_of_grown (gr_set _ _ _ _) fun g hg => .inl (by injection hg with hg; exact hg.symm)⟩ ?_
  clear hK K k7 z7
  refine wpAnyJ_done (by kernel_rfl) ?_ _
  go_wp2
  go_end0
  exact ⟨rfl, HPN.out.1, (DF.of_below B0.out).trans (HP6.out.2.trans HPN.out.2)⟩
end
end Go.Proofs.Ytfmmdnjoichifaa
