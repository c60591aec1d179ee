/- Contracts of a disk: DeleteFunc over what is pending. -/
import Derived.Test.YtfmmdnjoichifaaFiAj
namespace Go.Proofs.Ytfmmdnjoichifaa
open Go.RowKit Go.Sort

theorem wpList_clear_wr {ops : Array Oper} {rest : List Oper} {o : Oper} {a : Act} {w : World} {Q : Exit → Act → World → Prop} (hgd : o.guard = none) {x : Operand} (ho : o.op = .call { callee := .builtin .clear, args := #[x], argTypes := #[78] }) {g k n c : Nat} {cur : Array Value}
    (hx : a.eval x = .slice (some ⟨g, k * 66, none⟩) n c) (hg : w.heap[g]? = some (.cells cur 96 (0, 0))) (hn : 0 < n) (hfit : k * 66 + n * 66 ≤ cur.size)
    (h : wpList Try.prog ops Q rest (a.put o.dst (.tuple #[])) (w.setRow g (cur.toList.take (k * 66) ++ zWrs n ++ cur.toList.drop (k * 66 + n * 66)).toArray)) : wpList Try.prog ops Q (o :: rest) a w := by
  refine wpList_plain hgd fun K hk => ?_
  have hc := run_clear_wr (c := c) hg hn hfit
  obtain ⟨dst, op, type, pos, after, guard⟩ := o
  simp only at ho
  subst ho
  unfold Oper.wp
  simp only [execOp, resolve, invoke, builtin, hx, List.map_toArray, List.map_cons, List.map_nil, Sem.run_bind, Sem.run_pure, Result.andThen, hc]
  exact hk _ _ h
def keepB (b : Nat) (p : Wr) : Bool := p.f != b
theorem take_setS {α : Type} (m : List α) (i : Nat) (p : α) (h : i < m.length) : (m.set i p).take (i + 1) = m.take i ++ [p] := by
  rw [List.take_add_one, List.getElem?_set_self h, List.take_set_of_le (Nat.le_refl _)]
  rfl
theorem drop_setS {α : Type} (m : List α) (i j : Nat) (p : α) (h : i < j) : (m.set i p).drop j = m.drop j := List.drop_set_of_lt h
theorem WRow.cut {w : World} {base g n c i : Nat} {m : List Wr} (h : WRow w base g n c m) (hi : i ≤ n) (hm : m.length = n) : WRow w base g i c (m.take i) := by
  unfold WRow at h ⊢
  have hx := h.1
  rcases h.2 with ⟨hv, h0⟩ | ⟨g', cap, cur', hv, hb, hh, hnc, hcm, hcs, ht⟩
  · cases hv
  · injection hv with hv1 hv2 hv3
    injection hv1 with hv1
    injection hv1 with hv1
    subst hv1
    subst hv3
    have e : RowV encWr (m.take i) = (RowV encWr m).take (i * 66) := by
      have h1 := RowV_append (enc := encWr) (m.take i) (m.drop i)
      rw [List.take_append_drop] at h1
      have hlen : (RowV encWr (m.take i)).length = i * 66 := by rw [RowV_length layWr, List.length_take, Nat.min_eq_left (by omega)]
      rw [h1]
      exact (List.take_left' hlen).symm
    refine ⟨by rw [RowV_length layWr, List.length_take, Nat.min_eq_left (by omega)], .inr ⟨g, c, cur', rfl, hb, hh, Nat.le_trans hi hnc, hcm, hcs, ?_⟩⟩
    rw [e, ← ht, List.take_take, Nat.min_eq_left (by omega)]
theorem WRow.cur {w : World} {base g n c : Nat} {m : List Wr} (h : WRow w base g n c m) : ∃ cur, w.heap[g]? = some (.cells cur 96 (0, 0)) ∧ n * 66 ≤ cur.size ∧ base ≤ g ∧ n ≤ c ∧ c ≤ maxLen := by
  rcases h.2 with ⟨hv, h0⟩ | ⟨g', cap, cur', hv, hb, hh, hnc, hcm, hcs, ht⟩
  · cases hv
  · injection hv with hv1 hv2 hv3
    injection hv1 with hv1
    injection hv1 with hv1
    subst hv1
    subst hv3
    exact ⟨cur', hh, by rw [hcs]; exact Nat.mul_le_mul_right 66 hnc, hb, hnc, hcm⟩
theorem WRow.put {w : World} {base g n c i : Nat} {m : List Wr} (h : WRow w base g n c m) (hi : i < n) (hm : m.length = n) (p : Wr) {cur : Array Value} (hg : w.heap[g]? = some (.cells cur 96 (0, 0))) :
    WRow (w.setRow g (cur.toList.take (i * 66) ++ encWr p ++ cur.toList.drop (i * 66 + (encWr p).length)).toArray) base g n c (m.set i p) := by
  have := own_splice h hg (i * 66) (encWr p) (by rw [layWr.len]; omega)
  unfold WRow
  rw [RowV_set layWr m i p (by omega)]
  rw [layWr.len] at this ⊢
  exact this
theorem WRow.cleared {w : World} {base g c i : Nat} {m : List Wr} (h : WRow w base g i c m) {cur : Array Value} (hg : w.heap[g]? = some (.cells cur 96 (0, 0))) (Z : List Value) {q : Nat} (hq : q = Z.length) (hfit : i * 66 + Z.length ≤ cur.size) :
    WRow (w.setRow g (cur.toList.take (i * 66) ++ (Z ++ cur.toList.drop (i * 66 + q))).toArray) base g i c m := by
  unfold WRow at h ⊢
  have hx := h.1
  rcases h.2 with ⟨hv, h0⟩ | ⟨g', cap, cur', hv, hb, hh, hnc, hcm, hcs, ht⟩
  · cases hv
  · injection hv with hv1 hv2 hv3
    injection hv1 with hv1
    injection hv1 with hv1
    subst hv1
    subst hv3
    have e1 : cur' = cur := by
      rw [hg] at hh
      injection hh with hh
      injection hh with hh
      exact hh.symm
    subst e1
    subst hq
    refine ⟨hx, .inr ⟨g, c, _, rfl, hb, setRow_heap w g cur' _ _ _ hg, hnc, hcm, ?_, ?_⟩⟩
    · simp only [List.size_toArray, List.length_append, List.length_take, List.length_drop, Array.length_toList]; omega
    · show List.take (i * 66) _ = _
      rw [List.take_append_of_le_length (by rw [List.length_take, Array.length_toList]; omega), List.take_take, Nat.min_self]
      exact ht
theorem filter_take_len (l : List Wr) (b j : Nat) : ((l.take j).filter (keepB b)).length ≤ j := Nat.le_trans (List.length_filter_le ..) (by rw [List.length_take]; omega)
/-- All but the row of block g is as it was. -/
theorem FBk.grown {w w' : World} {b g : Nat} (h : FBk w b) (hg : w.grownBy w' (some g)) {cur : Array Value} (hw : w.heap[g]? = some (.cells cur 96 (0, 0))) : FBk w' b := by
  obtain ⟨cs, hc⟩ := h
  have hw' : Blk w g 96 cur := hw
  exact ⟨cs, hc.grown hg (fun e => by injection e with e; exact Blk.ne_ hc hw' (by decide) e)⟩
set_option maxRecDepth 100000 in
set_option maxHeartbeats 4000000 in
theorem deleteFunc_any (w : World) (base g n c : Nat) (l : List Wr) (hl : WRow w base g n c l) (hn : l.length = n) (hbig : n ≤ 1000000) (b B : Nat) (hf : ∀ p ∈ l, FBk w p.f) (hb : FBk w b) (hB : w.cell? ⟨B, 0, none⟩ = some (.pointer (some ⟨b, 0, none⟩))) (hBg : B ≠ g) :
    Calls Try.prog 95 #[.slice (some ⟨g, 0, none⟩) n c, .func (.func 96) #[] #[.pointer (some ⟨B, 0, none⟩)]] w fun e w' =>
      e = .returned (.slice (some ⟨g, 0, none⟩) (l.filter (keepB b)).length c) ∧ WRow w' base g (l.filter (keepB b)).length c (l.filter (keepB b)) ∧ w.grownBy w' (some g) := by
  have PI := Lib.hid (index_any w base g n c l hl hn hbig b B hf hb hB)
  have HL := Lib.hid hl
  have HF := Lib.hid hf
  have HB := Lib.hid hb
  have HC := Lib.hid hB
  have HN := Lib.hid hn
  have HBG := Lib.hid hBg
  obtain ⟨cur0, hcur0, -, -, hnc, hcm⟩ := hl.cur
  have HCUR := Lib.hid hcur0
  clear hl hf hb hB hn hBg hcur0
  go_enter Try.func95, Try.ntmps95
  go_wp2_with fail
  refine PI.out.mono ?_; rintro e w1 ⟨hcase, b1⟩
  have B1 := Lib.hid b1
  clear b1
  rcases hcase with ⟨hno, rfl⟩ | ⟨k, p0, hk0, hp0, hno, rfl⟩
  · have hfil : l.filter (keepB b) = l := by
      rw [List.filter_eq_self]
      intro q hq
      unfold keepB
      rw [bne_iff_ne]
      exact hno q hq
    have HFIL := Lib.hid hfil
    clear hno hfil
    go_wp2_with fail
    go_ret
    rw [HFIL.out, HN.out]
    exact ⟨rfl, own_below HL.out B1.out, ⟨B1.out.os, B1.out.tape, B1.out.output, B1.out.size, fun i hi _ => B1.out.block i hi⟩⟩
  · have hkn : k < n := by have := (List.getElem?_eq_some_iff.1 hk0).1; rw [HN.out] at this; exact this
    have i1 : ((k : Int) == -1) = false := by rw [beq_eq_false_iff_ne]; omega
    have hst : (l.take (k + 1)).filter (keepB b) = l.take k := by
      rw [List.take_add_one, hk0, List.filter_append]
      have e1 : (l.take k).filter (keepB b) = l.take k := by
        rw [List.filter_eq_self]
        intro q hq
        unfold keepB
        rw [bne_iff_ne]
        exact hno q hq
      rw [e1]
      show l.take k ++ [p0].filter (keepB b) = _
      rw [List.filter_cons_of_neg (by unfold keepB; rw [hp0]; simp), List.filter_nil, List.append_nil]
    have HST := Lib.hid hst
    have HW1 := Lib.hid (show w.grownBy w1 (some g) from ⟨B1.out.os, B1.out.tape, B1.out.output, B1.out.size, fun i hi _ => B1.out.block i hi⟩)
    have HL1 := Lib.hid (show WRow w1 base g n c l from own_below HL.out B1.out)
    clear hk0 hp0 hno hst
    go_wp2_with fail
    go_loopw [5, 6] (fun iv jv wr => ∃ (j i : Nat) (m : List Wr), j ≤ n ∧ i < j ∧ iv = .int .i64 (i : Int) ∧ jv = .int .i64 (j : Int) ∧ m.length = n ∧ m.take i = (l.take j).filter (keepB b) ∧ i = ((l.take j).filter (keepB b)).length ∧ m.drop j = l.drop j ∧ WRow wr base g n c m ∧ w.grownBy wr (some g)) (fun _ jv _ => n - (intOf jv).toNat)
    case atStart => exact ⟨k + 1, k, l, by omega, by omega, rfl, by go_num, HN.out, HST.out.symm, by rw [HST.out, List.length_take, HN.out]; omega, rfl, HL1.out, HW1.out⟩
    case round =>
      obtain ⟨j, i, m, hj, hij, rfl, rfl, hml, hmt, hil, hmd, hwr, hgr⟩ := hrel
      have HML := Lib.hid hml
      have HMT := Lib.hid hmt
      have HIL := Lib.hid hil
      have HMD := Lib.hid hmd
      have HWR := Lib.hid hwr
      have HGR := Lib.hid hgr
      clear hml hmt hil hmd hwr hgr
      by_cases hjn : j < n
      · have hjl : j < l.length := by rw [HN.out]; exact hjn
        have hea := List.getElem?_eq_getElem hjl
        obtain ⟨p, hp⟩ : ∃ p, p = l[j] := ⟨_, rfl⟩
        rw [← hp] at hea
        have hmj : m[j]? = some p := by
          have e1 : (m.drop j)[0]? = (l.drop j)[0]? := by rw [HMD.out]
          rw [List.getElem?_drop, List.getElem?_drop, Nat.add_zero] at e1
          rw [e1]
          exact hea
        have hmem : p ∈ l := List.mem_of_getElem? hea
        have HPC := Lib.hid (HWR.out.at_ hmj hjn)
        have HTK := Lib.hid (show (l.take (j + 1)).filter (keepB b) = (l.take j).filter (keepB b) ++ (if keepB b p then [p] else []) by
          rw [List.take_add_one, hea, List.filter_append]
          congr 1
          show [p].filter (keepB b) = _
          rw [List.filter_cons, List.filter_nil])
        have b1 := al_below wr (.cells (encWr p).toArray 96)
        have X1 := Blk.new wr 96 (encWr p).toArray
        have hBw : wr.cell? ⟨B, 0, none⟩ = some (.pointer (some ⟨b, 0, none⟩)) := (World.cell?_of_block (HGR.out.block B (block_lt_of_cell HC.out) (fun e => HBG.out (by injection e)))).trans HC.out
        obtain ⟨gx, hgx⟩ : ∃ gx, gx = wr.heap.size := ⟨_, rfl⟩
        have HPW := Lib.hid (forget1_any p b B _ (((HF.out p hmem).grown HGR.out HCUR.out).below b1) ((HB.out.grown HGR.out HCUR.out).below b1) ((b1.cell (p := ⟨B, 0, none⟩) (block_lt_of_cell hBw)).trans hBw))
        have HWRB := Lib.hid (show WRow (wr.alloc (.cells (encWr p).toArray 96)) base g n c m from own_below HWR.out b1)
        have HB1 := Lib.hid b1
        obtain ⟨wb, hwb⟩ : ∃ wb, wb = wr.alloc (.cells (encWr p).toArray 96) := ⟨_, rfl⟩
        rw [← hgx] at X1
        rw [← hwb] at X1 HPW HWRB HB1
        have HX1 := Lib.hid (cells_big X1)
        have HXB := Lib.hid X1
        have HGX := Lib.hid hgx
        have HWB := Lib.hid hwb
        have HIW := Lib.hid (wr_info p)
        have HIW2 := Lib.hid (show (Try.prog.info? 96).map (·.size) = some (encWr p).toArray.size by rw [List.size_toArray]; exact wr_info p)
        have HAL := Lib.hid (show (encWr p).toArray.all (·.oneCell') = true by
          rw [Array.all_eq_true_iff_forall_mem]
          intro v hv
          exact layWr.one p v (by simpa using hv))
        unfold wrV at HPW
        clear hea hp hmj hmem b1 X1 hBw hgx hwb hjl
        go_wp2_with (first | (refine wpList_load_big rfl 96 (.tmp 24) rfl (p := ⟨g, j * 66, none⟩) rfl Try.underlying96 rfl (encWr p) HIW.out HPC.out ?_) | (refine wpList_store_new (o := ⟨none, _, _, _, _, _⟩) rfl 96 (.tmp 7) (.tmp 25) rfl rfl rfl HIW2.out (layWr.len p).symm HAL.out ?_; rw [← HGX.out, ← HWB.out]) | (refine wpList_load_big rfl 96 (.tmp 7) rfl (p := ⟨gx, 0, none⟩) rfl Try.underlying96 rfl (encWr p) HIW.out HX1.out ?_))
        refine HPW.out.mono ?_; rintro e w2 ⟨rfl, b2⟩
        have HX2 := Lib.hid (cells_big (HXB.out.below b2 HXB.out.lt))
        have hw2 : WRow w2 base g n c m := own_below HWRB.out b2
        obtain ⟨cur2, hc2, hsz2, -, -, -⟩ := hw2.cur
        have HW2 := Lib.hid hw2
        have HC2 := Lib.hid hc2
        have bb : Below wr.heap.size wr w2 := below_trans HB1.out b2
        have HG2 := Lib.hid (show w.grownBy w2 (some g) from gr_trans HGR.out ⟨bb.os, bb.tape, bb.output, bb.size, fun i hi _ => bb.block i hi⟩)
        clear b2 hw2 hc2 bb
        by_cases hpb : p.f = b
        · rw [decide_eq_true hpb]
          have htk := HTK.out
          rw [if_neg (by unfold keepB; rw [hpb]; simp), List.append_nil] at htk
          have HTK2 := Lib.hid htk
          clear hpb htk
          go_wp2_with fail
          exact ⟨⟨j + 1, i, m, by omega, by omega, rfl, by go_num, HML.out, by rw [HTK2.out]; exact HMT.out, by rw [HTK2.out]; exact HIL.out, by
            have := congrArg (List.drop 1) HMD.out
            rw [List.drop_drop, List.drop_drop] at this
            exact this, HW2.out, HG2.out⟩, by simp only [intOf]; omega⟩
        · rw [decide_eq_false hpb]
          have htk := HTK.out
          rw [if_pos (by unfold keepB; rw [bne_iff_ne]; exact hpb)] at htk
          have HTK2 := Lib.hid htk
          have hin : i < n := by omega
          have hput := HW2.out.put hin HML.out p HC2.out
          have hgrp := setRow_cells w2 g (cur2.toList.take (i * 66) ++ encWr p ++ cur2.toList.drop (i * 66 + (encWr p).length)).toArray 96 cur2 HC2.out
          rw [List.append_assoc] at hput hgrp
          have HPUT := Lib.hid hput
          have HGRP := Lib.hid (gr_trans HG2.out hgrp)
          clear hpb htk hput hgrp
          go_wp2_with (first | (refine wpList_load_big rfl 96 (.tmp 7) rfl (p := ⟨gx, 0, none⟩) rfl Try.underlying96 rfl (encWr p) HIW.out HX2.out ?_) | (refine wpList_store_at rfl 96 (.tmp 33) (.tmp 32) rfl (g := g) (off := i * 66) (t := 96) (cells := encWr p) (cur := cur2) rfl rfl HC2.out HIW.out (by rw [layWr.len]; omega) (layWr.one p) ?_))
          refine ⟨⟨j + 1, i + 1, m.set i p, by omega, by omega, by go_num, by go_num, by rw [List.length_set]; exact HML.out, ?_, ?_, ?_, HPUT.out, HGRP.out⟩, by simp only [intOf]; omega⟩
          · rw [HTK2.out, take_setS m i p (by rw [HML.out]; exact hin), HMT.out]
          · rw [HTK2.out, List.length_append, ← HIL.out]; rfl
          · rw [drop_setS m i (j + 1) p (by omega)]
            have := congrArg (List.drop 1) HMD.out
            rw [List.drop_drop, List.drop_drop] at this
            exact this
      · obtain rfl : j = n := by omega
        have hmt := HMT.out
        have hil := HIL.out
        rw [List.take_of_length_le (l := l) (by rw [HN.out]; exact Nat.le_refl _)] at hmt hil
        have HMT2 := Lib.hid hmt
        have HIL2 := Lib.hid hil
        obtain ⟨curz, hcz, hsz, -, hnc2, -⟩ := HWR.out.cur
        have HCZ := Lib.hid hcz
        have hne : (c == i) = false := by rw [beq_eq_false_iff_ne]; omega
        clear hmt hil hcz
        go_wp2_with (refine wpList_clear_wr rfl (x := .tmp 38) rfl (g := g) (k := i) (n := j - i) (c := c - i) (cur := curz) rfl HCZ.out (by omega) (by omega) ?_)
        go_ret
        have hcut := HWR.out.cut (i := i) (by omega) HML.out
        have hfin := hcut.cleared HCZ.out (zWrs (j - i)) (q := (j - i) * 66) (zWrs_len _).symm (by rw [zWrs_len]; omega)
        have hgr := setRow_cells wr g (curz.toList.take (i * 66) ++ (zWrs (j - i) ++ curz.toList.drop (i * 66 + (j - i) * 66))).toArray 96 curz HCZ.out
        rw [HMT2.out] at hfin
        rw [← HIL2.out]
        exact ⟨rfl, hfin, gr_trans HGR.out hgr⟩
end Go.Proofs.Ytfmmdnjoichifaa
