/- Lists of edits; the document's SameList; two states apart; a state made again. -/
import Derived.Test.YtfmmdnjoichifaaEdR
namespace Go.Proofs.Ytfmmdnjoichifaa
open Go.RowKit Go.Sort

/-- Edits that lie in a row. -/
def EdsAt (w : World) (base : Nat) (A : Option Addr) (es : List Ed) : Prop :=
  ∀ (i : Nat) (e : Ed), es[i]? = some e → ∃ h off eA ec, A = some ⟨h, off, none⟩ ∧ h < w.heap.size ∧ (∀ j u, (encX (xOf e eA ec))[j]? = some u → w.cell? ⟨h, off + i * 4 + j, none⟩ = some u) ∧ RfAt w base eA e.refs
theorem EdsAt.below {w w' : World} {base : Nat} {A : Option Addr} {es : List Ed} (h : EdsAt w base A es) (hb : Below w.heap.size w w') : EdsAt w' base A es := fun i e he => by
  obtain ⟨q, off, eA, ec, h1, h2, h3, h4⟩ := h i e he
  exact ⟨q, off, eA, ec, h1, Nat.lt_of_lt_of_le h2 hb.size, fun j u hu => (World.cell?_of_block (a := ⟨q, off + i * 4 + j, none⟩) (hb.block q h2)).trans (h3 j u hu), h4.below hb⟩
theorem eds_own {w : World} {base b : Nat} {A : Option Addr} {c : Nat} {xs : List EdX} {es : List Ed} (ho : w.ownsRow base 50 4 (.slice A es.length c) es.length (RowV encX xs)) (hr : EdRow w b xs es) : EdsAt w b A es := fun i e he => by
  obtain ⟨eA, ec, hx, h4⟩ := hr.2 i e he
  have hi : i < es.length := (List.getElem?_eq_some_iff.1 he).1
  obtain ⟨q, cap, hv, -, hql⟩ := ho.form (by omega)
  injection hv with hv1 hv2 hv3
  subst hv1
  refine ⟨q, 0, eA, ec, rfl, hql, fun j u hu => ?_, h4⟩
  have hj : j < 4 := by have := (List.getElem?_eq_some_iff.1 hu).1; rwa [layX.len] at this
  subst hv3
  have := ho.cellAt (i * 4 + j) (by omega)
  rw [Nat.zero_add, this, RowV_get layX xs i j _ hx hj]
  exact hu
theorem load_edx_at (h off : Nat) (e : Ed) (A : Option Addr) (c : Nat) (w : World) (hc : ∀ j u, (encX (xOf e A c))[j]? = some u → w.cell? ⟨h, off + j, none⟩ = some u) : (Instr.loadAt 50 (.pointer (some ⟨h, off, none⟩))).run Try.prog w = .ok (edV e A c) w := by
  have h0 := hc 0 _ rfl
  have h1 := hc 1 _ rfl
  have h2 := hc 2 _ rfl
  have h3 := hc 3 _ rfl
  rw [Nat.add_zero] at h0
  simp only [xOf] at h0 h1 h2 h3
  unfold edV
  clear hc
  go_simp
set_option maxRecDepth 100000 in
set_option maxHeartbeats 8000000 in
theorem edlist_same (es : List Ed) (A B : Option Addr) (c d ba bb : Nat) (w : World) (ha : EdsAt w ba A es) (hb : EdsAt w bb B es) (hs : ∀ e ∈ es, e.refs.length ≤ 1000000) (hn : es.length ≤ 100000) :
    Calls Try.prog 38 #[.slice A es.length c, .slice B es.length d] w fun x w' => x = .returned (.bool true) ∧ Below w.heap.size w w' := by
  have HA := Lib.hid ha
  have HB := Lib.hid hb
  have HS := Lib.hid hs
  clear ha hb hs
  go_enter Try.func38, Try.ntmps38
  go_wp2_with fail
  go_loopw [5] (fun i wr => ∃ k : Nat, k ≤ es.length ∧ i = .int .i64 (k : Int) ∧ Below w.heap.size w wr) (fun i _ => es.length - (intOf i).toNat)
  case atStart => exact ⟨0, Nat.zero_le _, rfl, Below.refl _ _⟩
  case round =>
    obtain ⟨k, hk, rfl, hb⟩ := hrel
    have BW := Lib.hid hb
    clear hb
    by_cases hlt : k < es.length
    · obtain ⟨e, hea⟩ : ∃ e, es[k]? = some e := ⟨_, List.getElem?_eq_getElem hlt⟩
      have le := HS.out e (List.mem_of_getElem? hea)
      obtain ⟨h, o1, A1, c1, rfl, -, px, rx⟩ := (HA.out.below BW.out) k e hea
      obtain ⟨g, o2, A2, c2, rfl, -, py, ry⟩ := (HB.out.below BW.out) k e hea
      have PX := Lib.hid px
      have PY := Lib.hid py
      have RX := Lib.hid rx
      have RY := Lib.hid ry
      clear px py rx ry hea
      go_wp2_with fail
      refine wp_region_J RT [] (n := 10) (by kernel_rfl) rfl ?_
      refine batchJ RT.refl [0, 1, 2, 3, 4, 5, 6, 7] (fuel := 2) rfl (by kernel_rfl) (by kernel_rfl) (fun _ _ d _ _ h => by cases d <;> exact h) ?_
      (repeat (first | ((with_reducible apply wq0); rfl; rfl; rfl; intro K hK; go_big_quiet_op; refine hK _ ?_; clear hK K) | ((with_reducible apply wq1); rfl; rfl; rfl; rfl; rfl; rfl; intro K hK; go_big_quiet_op; refine hK _ ?_; clear hK K) | ((with_reducible apply wqs); rfl; rfl; rfl; rfl; rfl; rfl; simp only [Act.put, List.setIfInBounds_toArray, List.set_cons_zero, List.set_cons_succ]) | ((with_reducible apply wqu); rfl; rfl; rfl; rfl; rfl; (first | simp only [same, Act.put, List.setIfInBounds_toArray, List.set_cons_zero, List.set_cons_succ] | simp only [Act.put, List.setIfInBounds_toArray, List.set_cons_zero, List.set_cons_succ]))))
      refine wqIdx_load rfl rfl rfl rfl (fun W hW => load_edx_at h _ e A1 c1 W (fun i u hi => keep_c hW (PX.out i u hi))) ?_
      simp only [Act.put, List.setIfInBounds_toArray, List.set_cons_zero, List.set_cons_succ]
      (repeat (first | ((with_reducible apply wq0); rfl; rfl; rfl; intro K hK; go_big_quiet_op; refine hK _ ?_; clear hK K) | ((with_reducible apply wq1); rfl; rfl; rfl; rfl; rfl; rfl; intro K hK; go_big_quiet_op; refine hK _ ?_; clear hK K) | ((with_reducible apply wqs); rfl; rfl; rfl; rfl; rfl; rfl; simp only [Act.put, List.setIfInBounds_toArray, List.set_cons_zero, List.set_cons_succ]) | ((with_reducible apply wqu); rfl; rfl; rfl; rfl; rfl; (first | simp only [same, Act.put, List.setIfInBounds_toArray, List.set_cons_zero, List.set_cons_succ] | simp only [Act.put, List.setIfInBounds_toArray, List.set_cons_zero, List.set_cons_succ]))))
      refine wqIdx_load rfl rfl rfl rfl (fun W hW => load_edx_at g _ e A2 c2 W (fun i u hi => keep_c hW (PY.out i u hi))) ?_
      simp only [Act.put, List.setIfInBounds_toArray, List.set_cons_zero, List.set_cons_succ]
      refine wqIdx_nil ?_
      refine wpAnyJ_sole (i := 8) rfl (by kernel_rfl) (fun K hK => ?_); go_simp
      refine (red_same_any e e A1 A2 c1 c2 ba bb _ (RX.out.below (dr_below (Below.refl _ _))) (RY.out.below (dr_below (Below.refl _ _))) le le).mono ?_
      rintro x w9 ⟨rfl, b9⟩
      rw [eqE_yes rfl]
      refine hK _ _ ⟨fun _ => b9, trivial⟩ ?_
      clear hK K
      have b9' := Below.of_drew0 b9
      have B9 := Lib.hid (BW.out.trans (b9'.mono BW.out.size))
      clear b9 b9'
      refine batchJ RT.refl [9] (fuel := 0) rfl (by kernel_rfl) (by kernel_rfl) (fun _ _ d _ _ h => by cases d <;> exact h) ?_
      (repeat (first | ((with_reducible apply wq0); rfl; rfl; rfl; intro K hK; go_big_quiet_op; refine hK _ ?_; clear hK K) | ((with_reducible apply wq1); rfl; rfl; rfl; rfl; rfl; rfl; intro K hK; go_big_quiet_op; refine hK _ ?_; clear hK K) | ((with_reducible apply wqs); rfl; rfl; rfl; rfl; rfl; rfl; simp only [Act.put, List.setIfInBounds_toArray, List.set_cons_zero, List.set_cons_succ]) | ((with_reducible apply wqu); rfl; rfl; rfl; rfl; rfl; (first | simp only [same, Act.put, List.setIfInBounds_toArray, List.set_cons_zero, List.set_cons_succ] | simp only [Act.put, List.setIfInBounds_toArray, List.set_cons_zero, List.set_cons_succ]))))
      refine wqIdx_nil ?_
      refine wpAnyJ_done (by kernel_rfl) ?_ _
      go_wp2
      exact ⟨⟨k + 1, by omega, by go_num, B9.out⟩, by simp [intOf]; omega⟩
    · obtain rfl : k = es.length := by omega
      go_wp2
      go_ret
      exact ⟨rfl, BW.out⟩
theorem own_down {w : World} {base e size n : Nat} {v : Value} {xs : List Value} (h : w.ownsRow base e size v n xs) : w.ownsRow 0 e size v n xs := by
  refine ⟨h.1, ?_⟩
  rcases h.2 with hv | ⟨g, cap, cur, hv, _, hh, hx⟩
  · exact .inl hv
  · exact .inr ⟨g, cap, cur, hv, Nat.zero_le _, hh, hx⟩
theorem blk_type {w : World} {k : Nat} {t t' : TypeId} {cs cs' : Array Value} (h : Blk w k t cs) (h' : Blk w k t' cs') : t = t' := by
  unfold Blk at h h'
  rw [h] at h'
  injection h' with h'
  injection h' with _ h' _
/-- A state stays while another is changed. -/
theorem StR.ef2 {T : TypeId} {w w' : World} {base g1 g2 : Nat} {hb1 hb2 : Option Nat} {S1 S2 : St} (h2 : StR T w base g2 hb2 S2) (h1 : StR T w base g1 hb1 S1) (hT : T ≠ 110) (hTE : 50 ≠ T) (hg : g2 ≠ g1) (hh : ∀ k, hb1 = some k → hb2 ≠ some k) (f : EF g1 hb1 w w') : StR T w' base g2 hb2 S2 := by
  obtain ⟨A1, c1, xs1, mA1, mc1, hblk1, hbg1, hown1, -, -, hhb1, -⟩ := h1
  have hH := h2
  obtain ⟨A2, c2, xs2, mA2, mc2, hblk2, hbg2, hown2, -, -, hhb2, -⟩ := hH
  refine h2.kept f.size fun k hk ho => f.2.2.2.2 k hk ?_ fun e => ?_
  · rcases ho with rfl | ho | ho
    · exact hg
    · obtain ⟨-, cur, hc⟩ := own_cur hown2 (hhb2 ▸ ho)
      rintro rfl
      exact hTE (blk_type hc hblk1)
    · exact ref_ne ho hblk1 hbg1 hT
  · obtain ⟨hbk, cur, hc⟩ := own_cur hown1 (hhb1 ▸ e.symm)
    rcases ho with rfl | ho | ho
    · exact hTE (blk_type hc hblk2)
    · exact hh k e.symm ho
    · exact ref_ne ho hc hbk (by decide) rfl
/-- A state's edits are of the epochs, one behind the other. -/
def St.seq (S : St) : Prop := (∀ (i : Nat) (e : Ed), S.done[i]? = some e → e.kind = 2 ∧ e.ep = (i : Int)) ∧ ∀ m, S.mark = some m → m.kind ≠ 2 ∧ m.ep = (S.done.length : Int)
theorem apS_seq {S : St} {e : Ed} (h : S.seq) : (apS S e).1.seq := by
  unfold apS
  by_cases h1 : okEd e = true
  · rw [if_pos h1]
    by_cases h2 : goesE S e = true
    · rw [if_pos h2]
      have hep : e.ep = (S.done.length : Int) := by
        unfold goesE at h2
        rw [Bool.and_eq_true, decide_eq_true_eq] at h2
        exact h2.1
      by_cases h3 : e.kind = 2
      · rw [if_pos h3]
        refine ⟨fun i x hx => ?_, fun m hm => by cases hm⟩
        simp only at hx
        by_cases hi : i < S.done.length
        · rw [List.getElem?_append_left hi] at hx
          exact h.1 i x hx
        · have hlt := (List.getElem?_eq_some_iff.1 hx).1
          rw [List.length_append, List.length_singleton] at hlt
          obtain rfl : i = S.done.length := by omega
          rw [List.getElem?_append_right (Nat.le_refl _), Nat.sub_self] at hx
          simp only [List.getElem?_cons_zero, Option.some.injEq] at hx
          subst hx
          exact ⟨h3, hep⟩
      · rw [if_neg h3]
        exact ⟨h.1, fun m hm => by injection hm with hm; subst hm; exact ⟨h3, hep⟩⟩
    · rw [if_neg h2]
      exact h
  · rw [if_neg h1]
    exact h
/-- The state that a state's first edits come to. -/
def preS (S : St) (j : Nat) : St := if j ≤ S.done.length then ⟨S.done.take j, none⟩ else S
theorem edits_len (S : St) : S.edits.length = S.done.length + (if S.mark.isSome then 1 else 0) := by
  obtain ⟨d, m⟩ := S
  unfold St.edits
  cases m <;> simp
theorem edits_ok {S : St} (h : S.ok) : ∀ e ∈ S.edits, okEd e = true := fun e he => by
  unfold St.edits at he
  rcases List.mem_append.1 he with he | he
  · exact h.1 e he
  · exact h.2.1 e (by simpa using he)
theorem preS_end (S : St) : preS S S.edits.length = S := by
  have h := edits_len S
  unfold preS
  cases hm : S.mark with
  | none =>
    rw [hm] at h
    rw [if_pos (by simp at h; omega), List.take_of_length_le (by simp at h; omega)]
    obtain ⟨d, m⟩ := S
    simp only at hm
    rw [hm]
  | some m =>
    rw [hm] at h
    rw [if_neg (by simp at h; omega)]
theorem apS_pre {S : St} (h : S.seq) (hg : S.ok) {j : Nat} {e : Ed} (hj : S.edits[j]? = some e) : apS (preS S j) e = (preS S (j + 1), 0) := by
  unfold St.edits at hj
  by_cases hi : j < S.done.length
  · rw [List.getElem?_append_left hi] at hj
    obtain ⟨h1, h2⟩ := h.1 j e hj
    have h3 := hg.1 e (List.mem_of_getElem? hj)
    have hl : (S.done.take j).length = j := by rw [List.length_take]; omega
    have h4 : goesE ⟨S.done.take j, none⟩ e = true := by
      unfold goesE
      simp only [hl, h2, h1]
      simp
    unfold preS
    rw [if_pos (by omega), if_pos (by omega)]
    unfold apS
    rw [if_pos h3, if_pos h4, if_pos h1, List.take_add_one, hj]
    rfl
  · rw [List.getElem?_append_right (by omega)] at hj
    cases hm : S.mark with
    | none => rw [hm] at hj; simp at hj
    | some m =>
      rw [hm] at hj
      have hlt := (List.getElem?_eq_some_iff.1 hj).1
      rw [Option.toList_some, List.length_singleton] at hlt
      obtain rfl : j = S.done.length := by omega
      rw [Nat.sub_self, Option.toList_some, List.getElem?_cons_zero, Option.some.injEq] at hj
      subst hj
      obtain ⟨h1, h2⟩ := h.2 m hm
      have h3 := hg.2.1 m hm
      have h4 : goesE ⟨S.done, none⟩ m = true := by
        unfold goesE
        simp only [h2]
        simp
      unfold preS
      rw [if_pos (Nat.le_refl _), if_neg (by omega), List.take_length]
      unfold apS
      rw [if_pos h3, if_pos h4, if_neg h1]
      obtain ⟨d, m'⟩ := S
      simp only at hm
      rw [hm]
end Go.Proofs.Ytfmmdnjoichifaa
