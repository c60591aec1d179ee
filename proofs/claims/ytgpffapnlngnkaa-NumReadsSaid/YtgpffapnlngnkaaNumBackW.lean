/- The walk of the law NumBack. -/
import Derived.Test.YtgpffapnlngnkaaNumPutsW
import Derived.Test.YtgpffapnlngnkaaNumRd
import Derived.Test.YtgpffapnlngnkaaOp
namespace Go.Proofs.Ytgpffapnlngnkaa
open Go.RowKit

theorem SlI.keep {w w' : World} {h : Nat} {A : Option Addr} {l : List Int} (s : SlI w h A l) (hb : w'.heap[h]? = w.heap[h]?) : SlI w' h A l := fun hl => by
  obtain ⟨ad, rfl, rfl, hc⟩ := s hl
  exact ⟨ad, rfl, rfl, fun j b hj => (World.cell?_of_block (by rw [block_of_add]; exact hb)).trans (hc j b hj)⟩
theorem SlI.cell {w : World} {h : Nat} {A : Option Addr} {l : List Int} (s : SlI w h A l) {k : Nat} (hk : k < l.length) : ∃ ad, A = some ad ∧ ad.block = h ∧ w.cell? (ad.add k) = some (.int .i64 l[k]) := by
  obtain ⟨ad, rfl, hb, hcell⟩ := s (fun e => by rw [e] at hk; simp at hk)
  exact ⟨ad, rfl, hb, hcell k _ (List.getElem?_eq_getElem hk)⟩
theorem load_int_at (p : Addr) (n : Int) (w : World) (h : w.cell? p = some (.int .i64 n)) : (Instr.loadAt 3 (.pointer (some p))).run Try.prog w = .ok (.int .i64 n) w := by
  go_simp

set_option maxRecDepth 100000 in
set_option maxHeartbeats 2000000 in
theorem back_in (A : Option Addr) (g : Nat) (l : List Int) (c : Nat) (s : ByteArray) (w : World) (hin : InI w A g l c) (hs : s.size ≤ 3000) (hl : l.length ≤ 100) :
    Calls Try.prog 5 #[.slice A l.length c, .string s] w (LawPost w) := by
  obtain ⟨hsl, hlc, hcm, hwf, hgl⟩ := hin
  unfold maxLen at hcm
  have d1 : decide (100 < l.length) = false := by simp; omega
  have d2 : decide (3000 < s.size) = false := by simp; omega
  have HSL := Lib.hid hsl
  have HG := Lib.hid hgl
  have HW := Lib.hid hwf
  clear hsl hgl hwf
  have hcat := putCat_le l fun z hz => (HW.out z hz).2
  go_enter Try.func5, Try.ntmps5
  go_wp2_with fail
  go_loopw [5, 6] (fun b i wr => ∃ k : Nat, k ≤ l.length ∧ i = .int .i64 (k : Int) ∧ ∃ A1 c1, b = .slice A1 (putCat (l.take k)).length c1 ∧ wr.ownsRow w.heap.size 5 1 (.slice A1 (putCat (l.take k)).length c1) (putCat (l.take k)).length (Byt (putCat (l.take k))) ∧ Below w.heap.size w wr) (fun _ i _ => l.length - (intOf i).toNat)
  case atStart => exact ⟨0, Nat.zero_le _, rfl, none, 0, rfl, World.ownsRow_nil w _ _ _, Below.refl _ _⟩
  case round =>
    obtain ⟨k, hk, rfl, A1, c1, rfl, ho, hb⟩ := hrel
    have HO := Lib.hid ho
    clear ho
    have hck := putCat_le (l.take k) fun z hz => (HW.out z (List.mem_of_mem_take hz)).2
    have hck2 : (l.take k).length ≤ 100 := by rw [List.length_take]; omega
    by_cases hlt : k < l.length
    · have hgb : g < w.heap.size := HG.out (fun e => by rw [e] at hlt; simp at hlt)
      obtain ⟨ad, rfl, hadb, hcell⟩ := (HSL.out.keep (hb.block g hgb)).cell hlt
      have hw := HW.out l[k] (List.getElem_mem hlt)
      have hstep := Lib.hid (putCat_snoc l k hlt)
      obtain ⟨z, hz⟩ : ∃ z, z = l[k] := ⟨_, rfl⟩
      rw [← hz] at hcell hw
      have HZ := Lib.hid hz
      clear hz
      by_cases hneg : z < 0
      · have d3 : decide (0 ≤ z) = false := by simp; omega
        go_wp2_with fail
        refine (put_neg z _ hneg).mono ?_; rintro e w1 ⟨rfl, b1⟩
        have hcell1 : w1.cell? (ad.add k) = some (.int .i64 z) := (World.cell?_of_block (b1.block _ (World.block_lt_of_cell? _ _ hcell))).trans hcell
        have HO1 := Lib.hid (own_below HO.out b1)
        go_wp2_with (at_builtin; (refine wpList_appB w1 rfl (.tmp 43) (.tmp 44) _ rfl Try.underlying23 info_u8 (ys := []) HO1.out (Reads.none_ (B := 0)) 0 rfl rfl (by omega) (Nat.le_trans hb.size b1.size) ?_); intro A2 c2 w2 o2 gr2; have O2 := Lib.hid o2; have G2 := Lib.hid gr2; clear o2 gr2)
        have e : putCat (l.take (k + 1)) = putCat (l.take k) ++ [] := by rw [hstep.out, ← HZ.out, if_pos hneg]
        refine ⟨⟨k + 1, by omega, by go_num, A2, c2, ?_, ?_, ?_⟩, by simp [intOf]; omega⟩
        · rw [e, List.append_nil]
        · rw [e, List.length_append]; exact O2.out
        · exact (hb.trans (b1.mono hb.size)).grown (Grew.by_ G2.out) (Nat.le_trans hb.size b1.size) fun i hi => (World.ownsRow.lt HO1.out i hi).1
      · have d3 : decide (0 ≤ z) = true := by simp; omega
        go_wp2_with fail
        refine (put_ok z _ (by omega) hw.2).mono ?_; rintro e w1 ⟨v1, rfl, o1, b1⟩
        obtain ⟨A3, c3, rfl⟩ := own_form o1
        have O1 := Lib.hid o1
        clear o1
        have hcell1 : w1.cell? (ad.add k) = some (.int .i64 z) := (World.cell?_of_block (b1.block _ (World.block_lt_of_cell? _ _ hcell))).trans hcell
        have HO1 := Lib.hid (own_below HO.out b1)
        have hp9 := putL_le z.toNat (by omega)
        go_wp2_with (at_builtin; (refine wpList_appB w1 rfl (.tmp 43) (.tmp 44) _ rfl Try.underlying23 info_u8 HO1.out (own_bytes_reads O1.out) c3 rfl rfl (by omega) (Nat.le_trans hb.size b1.size) ?_); intro A2 c2 w2 o2 gr2; have O2 := Lib.hid o2; have G2 := Lib.hid gr2; clear o2 gr2)
        have e : putCat (l.take (k + 1)) = putCat (l.take k) ++ putL z.toNat := by rw [hstep.out, ← HZ.out, if_neg (by omega)]
        refine ⟨⟨k + 1, by omega, by go_num, A2, c2, ?_, ?_, ?_⟩, by simp [intOf]; omega⟩
        · rw [e, List.length_append]
        · rw [e, List.length_append]; exact O2.out
        · exact (hb.trans (b1.mono hb.size)).grown (Grew.by_ G2.out) (Nat.le_trans hb.size b1.size) fun i hi => (World.ownsRow.lt HO1.out i hi).1
    · obtain rfl : k = l.length := by omega
      rw [List.take_length] at HO hck ⊢
      clear hcat
      go_wp2_with fail
      refine (text_any s _ (by omega)).mono ?_; rintro e w1 ⟨v1, rfl, o1, b1⟩
      obtain ⟨A3, c3, rfl⟩ := own_form o1
      have O1 := Lib.hid o1
      clear o1
      have hp9 := putL_le s.size (by omega)
      have htl : (textL (strL s)).length ≤ 3009 := by unfold textL; rw [List.length_append, strL_length]; omega
      have HO1 := Lib.hid (own_below HO.out b1)
      go_wp2_with (at_builtin; (refine wpList_appB w1 rfl (.tmp 46) (.tmp 48) _ rfl Try.underlying23 info_u8 HO1.out (own_bytes_reads O1.out) c3 rfl rfl (by omega) (Nat.le_trans hb.size b1.size) ?_); intro A2 c2 w2 o2 gr2; have O2 := Lib.hid o2; have G2 := Lib.hid gr2; clear o2 gr2)
      have b02 : Below w.heap.size w w2 := (hb.trans (b1.mono hb.size)).grown (Grew.by_ G2.out) (Nat.le_trans hb.size b1.size) fun i hi => (World.ownsRow.lt HO1.out i hi).1
      obtain ⟨h2, -, s2, -⟩ := SlB.of_own O2.out
      have PF := Lib.hid (from_any A2 c2 h2 (putCat l ++ textL (strL s)) w2 s2 (by rw [List.length_append]; omega))
      rw [List.length_append] at PF
      clear s2
      refine PF.out.mono ?_; rintro e w3 ⟨gr, hr, rfl, kg, kh, r3, b3⟩
      have R3 := Lib.hid r3
      clear r3
      have b03 : Below w.heap.size w w3 := b02.trans (b3.mono b02.size)
      have hgr : w.heap.size ≤ gr := Nat.le_trans b02.size kg
      go_wp2_with fail
      refine (lives_any _).mono ?_; rintro e w4 ⟨rfl, b4⟩
      have R4 := Lib.hid (RdAt.below R3.out b4)
      have b04 : Below w.heap.size w w4 := b03.trans (b4.mono b03.size)
      go_wp2_with fail
      go_loopw [10] (fun i wr => ∃ k : Nat, k ≤ l.length ∧ i = .int .i64 (k : Int) ∧ RdAt 55 wr gr hr (some (putCat (l.drop k) ++ textL (strL s))) ∧ Below w.heap.size w wr) (fun i _ => l.length - (intOf i).toNat)
      case atStart => exact ⟨0, Nat.zero_le _, rfl, R4.out, b04⟩
      case round =>
        obtain ⟨k, hk, rfl, r5, hb5⟩ := hrel
        have R5 := Lib.hid r5
        clear r5
        by_cases hlt : k < l.length
        · have hgb : g < w.heap.size := HG.out (fun e => by rw [e] at hlt; simp at hlt)
          obtain ⟨ad, rfl, hadb, hcell⟩ := (HSL.out.keep (hb5.block g hgb)).cell hlt
          have hw := HW.out l[k] (List.getElem_mem hlt)
          have hstep := Lib.hid (putCat_drop l k hlt)
          obtain ⟨z, hz⟩ : ∃ z, z = l[k] := ⟨_, rfl⟩
          rw [← hz] at hcell hw
          have HZ := Lib.hid hz
          clear hz
          have hcells : ∀ W, RK (· = gr) wr.drew W → W.cell? (ad.add k) = some (.int .i64 z) := fun W hW =>
            (World.cell?_of_block (w := wr.drew) (hW.2.2.2.2 _ (by rw [block_of_add, hadb]; exact Nat.lt_of_lt_of_le hgb hb5.size) (by rw [block_of_add, hadb]; omega))).trans hcell
          by_cases hneg : z < 0
          · have d3 : decide (0 ≤ z) = false := by simp; omega
            go_wp2_with fail
            refine wp_region_R (R := RK (· = gr)) (n := 14) (by kernel_rfl) rfl ?_
            refine batchK [0, 1, 2, 3, 4, 5, 6, 8, 9, 10, 11] (fuel := 3) rfl (by kernel_rfl) (by kernel_rfl) (fun _ _ d _ _ h => by cases d <;> exact h) ?_
            repeat (first | ((with_reducible apply wq0); rfl; rfl; rfl; intro K hK; go_big_quiet_op; refine hK _ ?_; clear hK K) | ((with_reducible apply wq1); rfl; rfl; rfl; rfl; rfl; rfl; intro K hK; go_big_quiet_op; refine hK _ ?_; clear hK K) | ((with_reducible apply wqs); rfl; rfl; rfl; rfl; rfl; rfl; simp only [Act.put, List.setIfInBounds_toArray, List.set_cons_zero, List.set_cons_succ]) | ((with_reducible apply wqu); rfl; rfl; rfl; rfl; rfl; simp only [Act.put, List.setIfInBounds_toArray, List.set_cons_zero, List.set_cons_succ]))
            refine wqIdx_load rfl rfl rfl rfl (fun W hW => load_int_at _ z W (hcells W hW)) ?_
            simp only [Act.put, List.setIfInBounds_toArray, List.set_cons_zero, List.set_cons_succ]
            repeat (first | ((with_reducible apply wq0); rfl; rfl; rfl; intro K hK; go_big_quiet_op; refine hK _ ?_; clear hK K) | ((with_reducible apply wq1); rfl; rfl; rfl; rfl; rfl; rfl; intro K hK; go_big_quiet_op; refine hK _ ?_; clear hK K) | ((with_reducible apply wqs); rfl; rfl; rfl; rfl; rfl; rfl; simp only [Act.put, List.setIfInBounds_toArray, List.set_cons_zero, List.set_cons_succ]) | ((with_reducible apply wqu); rfl; rfl; rfl; rfl; rfl; simp only [Act.put, List.setIfInBounds_toArray, List.set_cons_zero, List.set_cons_succ]))
            refine wqIdx_nil ?_
            refine wpAnyR_sole (i := 7) rfl (by kernel_rfl) (fun K hK => ?_)
            go_simp
            refine hK _ _ (RK.refl _ _) ?_
            clear hK K
            refine batchK [12, 13] (fuel := 0) rfl (by kernel_rfl) (by kernel_rfl) (fun _ _ d _ _ h => by cases d <;> exact h) ?_
            repeat (first | ((with_reducible apply wq0); rfl; rfl; rfl; intro K hK; go_big_quiet_op; refine hK _ ?_; clear hK K) | ((with_reducible apply wq1); rfl; rfl; rfl; rfl; rfl; rfl; intro K hK; go_big_quiet_op; refine hK _ ?_; clear hK K) | ((with_reducible apply wqs); rfl; rfl; rfl; rfl; rfl; rfl; simp only [Act.put, List.setIfInBounds_toArray, List.set_cons_zero, List.set_cons_succ]) | ((with_reducible apply wqu); rfl; rfl; rfl; rfl; rfl; simp only [Act.put, List.setIfInBounds_toArray, List.set_cons_zero, List.set_cons_succ]))
            refine wqIdx_nil ?_
            refine wpAnyR_done (by kernel_rfl) ?_ _
            clear hcells
            go_wp2
            refine ⟨⟨k + 1, by omega, by go_num, ?_, hb5.drew⟩, by simp [intOf]; omega⟩
            have e := R5.out
            rw [hstep.out, ← HZ.out, if_pos hneg, List.nil_append] at e
            exact e.keep (fun _ => rfl) (fun _ => rfl)
          · have d3 : decide (0 ≤ z) = true := by simp; omega
            have e5 := R5.out
            rw [hstep.out, ← HZ.out, if_neg (by omega), List.append_assoc] at e5
            have R5' := Lib.hid (RdAt.keep (w' := wr.drew) e5 (fun _ => rfl) (fun _ => rfl))
            clear e5
            have NM := Lib.hid (numM_put z.toNat (by omega) (putCat (l.drop (k + 1)) ++ textL (strL s)))
            go_wp2_with fail
            refine wp_region_R (R := RK (· = gr)) (n := 14) (by kernel_rfl) rfl ?_
            refine batchK [0, 1, 2, 3, 4, 5, 6, 8, 9, 10, 11] (fuel := 3) rfl (by kernel_rfl) (by kernel_rfl) (fun _ _ d _ _ h => by cases d <;> exact h) ?_
            repeat (first | ((with_reducible apply wq0); rfl; rfl; rfl; intro K hK; go_big_quiet_op; refine hK _ ?_; clear hK K) | ((with_reducible apply wq1); rfl; rfl; rfl; rfl; rfl; rfl; intro K hK; go_big_quiet_op; refine hK _ ?_; clear hK K) | ((with_reducible apply wqs); rfl; rfl; rfl; rfl; rfl; rfl; simp only [Act.put, List.setIfInBounds_toArray, List.set_cons_zero, List.set_cons_succ]) | ((with_reducible apply wqu); rfl; rfl; rfl; rfl; rfl; simp only [Act.put, List.setIfInBounds_toArray, List.set_cons_zero, List.set_cons_succ]))
            refine wqIdx_load rfl rfl rfl rfl (fun W hW => load_int_at _ z W (hcells W hW)) ?_
            simp only [Act.put, List.setIfInBounds_toArray, List.set_cons_zero, List.set_cons_succ]
            repeat (first | ((with_reducible apply wq0); rfl; rfl; rfl; intro K hK; go_big_quiet_op; refine hK _ ?_; clear hK K) | ((with_reducible apply wq1); rfl; rfl; rfl; rfl; rfl; rfl; intro K hK; go_big_quiet_op; refine hK _ ?_; clear hK K) | ((with_reducible apply wqs); rfl; rfl; rfl; rfl; rfl; rfl; simp only [Act.put, List.setIfInBounds_toArray, List.set_cons_zero, List.set_cons_succ]) | ((with_reducible apply wqu); rfl; rfl; rfl; rfl; rfl; simp only [Act.put, List.setIfInBounds_toArray, List.set_cons_zero, List.set_cons_succ]))
            refine wqIdx_load rfl rfl rfl rfl (fun W hW => load_int_at _ z W (hcells W hW)) ?_
            simp only [Act.put, List.setIfInBounds_toArray, List.set_cons_zero, List.set_cons_succ]
            refine wqIdx_nil ?_
            refine wpAnyR_sole (i := 7) rfl (by kernel_rfl) (fun K hK => ?_)
            go_simp
            refine (num_at _ _ _ _ R5'.out).mono ?_
            rw [NM.out]
            rintro e w6 ⟨rfl, r6, g6⟩
            have R6 := Lib.hid r6
            clear r6
            refine hK _ _ ⟨g6.os, g6.tape, g6.output, g6.size, fun i hi hne => g6.block i hi (fun e => hne (by injection e))⟩ ?_
            clear hK K
            have d4 : ((z.toNat : Int) != z) = false := by simp; omega
            refine batchK [12, 13] (fuel := 0) rfl (by kernel_rfl) (by kernel_rfl) (fun _ _ d _ _ h => by cases d <;> exact h) ?_
            repeat (first | ((with_reducible apply wq0); rfl; rfl; rfl; intro K hK; go_big_quiet_op; refine hK _ ?_; clear hK K) | ((with_reducible apply wq1); rfl; rfl; rfl; rfl; rfl; rfl; intro K hK; go_big_quiet_op; refine hK _ ?_; clear hK K) | ((with_reducible apply wqs); rfl; rfl; rfl; rfl; rfl; rfl; simp only [Act.put, List.setIfInBounds_toArray, List.set_cons_zero, List.set_cons_succ]) | ((with_reducible apply wqu); rfl; rfl; rfl; rfl; rfl; simp only [Act.put, List.setIfInBounds_toArray, List.set_cons_zero, List.set_cons_succ]))
            refine wqIdx_nil ?_
            refine wpAnyR_done (by kernel_rfl) ?_ _
            clear hcells
            go_wp2
            refine ⟨⟨k + 1, by omega, by go_num, R6.out, ?_⟩, by simp [intOf]; omega⟩
            exact (hb5.drew).grown g6 hb5.size fun i hi => by injection hi with hi; omega
        · obtain rfl : k = l.length := by omega
          rw [List.drop_length] at R5
          have R5' := Lib.hid (show RdAt 55 wr gr hr (some (textL (strL s))) from R5.out)
          have TM := Lib.hid (textM_text (strL s) 3000 (by rw [strL_length]; omega) (by rw [strL_length]; omega))
          go_wp2_with fail
          refine (rdtext_at _ _ 3000 _ _ R5'.out).mono ?_
          rw [TM.out]
          rintro e w6 ⟨rfl, r6, g6⟩
          have R6 := Lib.hid r6
          clear r6
          have es : (⟨(strL s).toArray⟩ : ByteArray) = s := rfl
          go_wp2_with fail
          refine (done_at _ _ _ _ R6.out).mono ?_; rintro e w7 ⟨rfl, rfl⟩
          have dn : doneM (some []) = 0 := rfl
          go_wp2
          go_ret
          exact ⟨rfl, hb5.grown g6 hb5.size fun i hi => by injection hi with hi; omega⟩

set_option maxRecDepth 100000 in
set_option maxHeartbeats 1000000 in
theorem back_any (A : Option Addr) (g : Nat) (l : List Int) (c : Nat) (s : ByteArray) (w : World) (hin : InI w A g l c) (hs : s.size ≤ 9223372036854775807) :
    Calls Try.prog 5 #[.slice A l.length c, .string s] w (LawPost w) := by
  by_cases h1 : 100 < l.length
  · have hlm : l.length ≤ 9223372036854775807 := Nat.le_trans hin.2.1 hin.2.2.1
    have d1 : decide (100 < l.length) = true := by simpa using h1
    go_enter Try.func5, Try.ntmps5
    go_wp2_with fail
    refine (lives_any _).mono ?_; rintro e w1 ⟨rfl, b1⟩
    go_wp2
    go_ret
    exact ⟨rfl, b1⟩
  · by_cases h2 : 3000 < s.size
    · have d1 : decide (100 < l.length) = false := by simpa using h1
      have d2 : decide (3000 < s.size) = true := by simpa using h2
      go_enter Try.func5, Try.ntmps5
      go_wp2_with fail
      refine (lives_any _).mono ?_; rintro e w1 ⟨rfl, b1⟩
      go_wp2
      go_ret
      exact ⟨rfl, b1⟩
    · exact back_in A g l c s w hin (by omega) (by omega)

end Go.Proofs.Ytgpffapnlngnkaa
