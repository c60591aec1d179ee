/- Contracts of the document's records: Sort. -/
import Derived.Test.YtfilelgbffbnlaaRoE
import Derived.Test.YtfilelgbffbnlaaReM
namespace Go.Proofs.Ytfilelgbffbnlaa
open Go.RowKit Go.Sort

theorem sortMo_srt (l : List (Int × Int)) : sortMo l = srt l := by
  unfold sortMo srt
  congr 1
  funext x y
  cases h : ltM y x
  · rw [ltM_not] at h
    show true = leR x y
    symm
    rw [leR_iff]
    omega
  · rw [ltM_iff] at h
    show false = leR x y
    symm
    rw [leR_not]
    omega
theorem leR_cmp (x y : Int × Int) : leR x y = decide (cmpM x y ≤ 0) := by
  have h := cmpM_lt y x
  have h2 : decide (cmpM x y ≤ 0) = !decide (cmpM y x < 0) := by
    unfold cmpM cmpI
    rw [Bool.eq_iff_iff]
    simp only [decide_eq_true_eq, Bool.not_eq_true', decide_eq_false_iff_not]
    split <;> split <;> (try split) <;> (try split) <;> omega
  rw [h2, h]
  cases hh : ltM y x
  · rw [ltM_not] at hh
    show leR x y = true
    rw [leR_iff]
    omega
  · rw [ltM_iff] at hh
    show leR x y = false
    rw [leR_not]
    omega
/-- A list in order, in a row of one's own. -/
def RowS (w : World) (m : List (Int × Int)) (A' : Option Addr) (c' : Nat) (w' : World) : Prop :=
  (∃ h, SlP w' h A' m) ∧ Below w.heap.size w w' ∧ (m ≠ [] → ∃ g, A' = some ⟨g, 0, none⟩ ∧ w.heap.size ≤ g ∧ m.length ≤ c' ∧ c' ≤ maxLen)
theorem RowS.own {w : World} {base e n c : Nat} {A : Option Addr} {m : List (Int × Int)} {w' : World} (hb : Below w.heap.size w w') (ho : w'.ownsRow base e 2 (.slice A n c) n (Prs m)) (h0 : w.heap.size ≤ base) : RowS w m A c w' := by
  obtain ⟨g, h1, h2, h3, -, h4, h5⟩ := SlP.of_own ho
  refine ⟨⟨g, h2⟩, hb, fun hne => ?_⟩
  have hpos : 0 < n := by rw [h3]; exact List.length_pos_iff.2 hne
  obtain ⟨g', cap, hv, hg, -⟩ := ho.form hpos
  injection hv with hv1 hv2 hv3
  exact ⟨g', hv1, Nat.le_trans h0 hg, by omega, h5⟩
theorem SlP.take {w : World} {h : Nat} {A : Option Addr} {l : List (Int × Int)} (s : SlP w h A l) (k : Nat) : SlP w h A (l.take k) := fun hl => by
  obtain ⟨hh, off, e, hc⟩ := s (fun e => by rw [e] at hl; simp at hl)
  refine ⟨hh, off, e, fun j u hj => hc j u ?_⟩
  have h1 : Prs l = Prs (l.take k) ++ Prs (l.drop k) := by rw [← Prs_append, List.take_append_drop]
  rw [h1, List.getElem?_append_left (List.getElem?_eq_some_iff.1 hj).1]
  exact hj
theorem SlP.reads {w : World} {h : Nat} {A : Option Addr} {l : List (Int × Int)} (s : SlP w h A l) : Reads w w.heap.size 2 A l.length (Prs l) :=
  ⟨Prs_length l, fun hn => by
    obtain ⟨hh, off, e, hc⟩ := s (fun e => by rw [e] at hn; simp at hn)
    exact ⟨_, e, hh, fun j u hj => by rw [Addr.add_lit]; exact hc j u hj⟩⟩
theorem own_empty (w : World) (t : TypeId) (size base : Nat) (hb : base ≤ w.heap.size) : (w.alloc (.cells #[] t)).ownsRow base t size (.slice (some ⟨w.heap.size, 0, none⟩) 0 0) 0 [] :=
  ⟨by simp, .inr ⟨w.heap.size, 0, #[], rfl, hb, heap_alloc_new w _, Nat.le_refl _, by decide, by simp, by simp⟩⟩
theorem SlP.head {w : World} {h : Nat} {A : Option Addr} {x1 x2 : Int} {t : List (Int × Int)} (s : SlP w h A ((x1, x2) :: t)) : ∃ off, A = some ⟨h, off, none⟩ ∧ w.cell? ⟨h, off, none⟩ = some (.int .i64 x1) ∧ w.cell? ⟨h, off + 1, none⟩ = some (.int .i64 x2) := by
  obtain ⟨-, off, e, p0, p1⟩ := s.at_ (j := 0) rfl
  rw [Nat.zero_mul, Nat.add_zero] at p0 p1
  exact ⟨off, e, p0, p1⟩
theorem SlP.tail {w : World} {h off : Nat} {x : Int × Int} {t : List (Int × Int)} (s : SlP w h (some ⟨h, off, none⟩) (x :: t)) : SlP w h (some ⟨h, off + 2, none⟩) t := fun hl => by
  have := s.drop (k := 1) (cap := t.length + 2) (by simp) hl
  rw [if_neg (by omega)] at this
  obtain ⟨h1, off', e, h2⟩ := this
  have e2 : some ((⟨h, off, none⟩ : Addr).add (1 * 2)) = some ⟨h, off', none⟩ := e
  rw [Addr.add_lit] at e2
  injection e2 with e2
  injection e2 with _ e2
  exact ⟨h1, off', by rw [← e2], h2⟩
theorem grown_of_drew {w w' : World} {row : Option Nat} (h : w.drew.grownBy w' row) : w.grownBy w' row := ⟨h.os, h.tape, h.output, h.size, h.block⟩
def slN : Value → Nat
  | .slice _ n _ => n
  | _ => 0
theorem slN_slice (A : Option Addr) (n c : Nat) : slN (.slice A n c) = n := rfl
def halfI (n : Nat) : Int := ((n / 2 : Nat) : Int)
set_option maxRecDepth 100000 in
set_option maxHeartbeats 1000000 in
theorem rrc_sort_small (A : Option Addr) (h : Nat) (l : List (Int × Int)) (c : Nat) (w : World) (hl : SlP w h A l) (hn : l.length < 2) :
    Calls Try.prog 102 #[.slice A l.length c] w fun e w' => ∃ A' c', e = .returned (.slice A' (srt l).length c') ∧ RowS w (srt l) A' c' w' := by
  rw [srt_short hn]
  have HL := Lib.hid hl
  have d1 : decide ((l.length : Int) < 2) = true := by simp; omega
  clear hl
  have HB := Lib.hid (alloc_below w (.cells #[] 58))
  have HR := Lib.hid ((HL.out.below HB.out).reads)
  have HO := Lib.hid (own_empty w 58 2 w.heap.size (Nat.le_refl _))
  have HS := Lib.hid (show w.heap.size ≤ (w.alloc (.cells #[] 58)).heap.size from HB.out.size)
  go_enter Try.func102, Try.ntmps102
  go_wp2_with (at_builtin; (refine wpList_appP (xs := []) (ys := l) _ rfl (.tmp 9) (.tmp 10) _ rfl Try.underlying82 info_rec3 HO.out HR.out c rfl rfl (by omega) HS.out ?_); intro A5 c5 w5 o5 gr5; have O5 := Lib.hid o5; have G5 := Lib.hid gr5; clear o5 gr5)
  go_ret
  refine ⟨A5, c5, rfl, ?_⟩
  have o5 := O5.out
  rw [Nat.zero_add] at o5
  exact RowS.own (HB.out.grown (Grew.by_ G5.out) HS.out fun i hi => (World.ownsRow.lt HO.out i hi).1) o5 (Nat.le_refl _)
set_option maxRecDepth 100000 in
set_option maxHeartbeats 4000000 in
theorem rrc_sort_step (A : Option Addr) (h : Nat) (l : List (Int × Int)) (c : Nat) (w : World) (hl : SlP w h A l) (hn : 2 ≤ l.length) (hc : l.length ≤ c) (hc2 : l.length ≤ 10000) (hc3 : c ≤ maxLen)
    (IH : ∀ (A : Option Addr) (h : Nat) (m : List (Int × Int)) (c : Nat) (w : World), m.length < l.length → SlP w h A m → m.length ≤ c → c ≤ maxLen →
      Calls Try.prog 102 #[.slice A m.length c] w fun e w' => ∃ A' c', e = .returned (.slice A' (srt m).length c') ∧ RowS w (srt m) A' c' w') :
    Calls Try.prog 102 #[.slice A l.length c] w fun e w' => ∃ A' c', e = .returned (.slice A' (srt l).length c') ∧ RowS w (srt l) A' c' w' := by
  have d1 : decide ((l.length : Int) < 2) = false := by simp; omega
  have PA := Lib.hid (fun W (b : Below w.heap.size w W) => IH A h (l.take (l.length / 2)) c W (by rw [List.length_take]; omega) ((hl.below b).take _) (by rw [List.length_take]; omega) hc3)
  have PB := Lib.hid (fun W (b : Below w.heap.size w W) => IH _ h (l.drop (l.length / 2)) (c - l.length / 2) W (by rw [List.length_drop]; omega) ((hl.below b).drop (k := l.length / 2) hc) (by rw [List.length_drop]; omega) (by omega))
  have hne : ¬ c = l.length / 2 := by omega
  rw [if_neg hne] at PB
  rw [List.length_take, Nat.min_eq_left (by omega)] at PA
  rw [List.length_drop] at PB
  clear hl IH
  go_enter Try.func102, Try.ntmps102
  go_wp2_with fail
  refine wp_region_R (R := RB) (n := 14) (by kernel_rfl) rfl ?_
  refine batchB [0, 1, 2, 3, 4, 6, 7, 8, 9, 10] (fuel := 4) rfl (by kernel_rfl) (by kernel_rfl) (fun _ _ d _ _ h => by cases d <;> exact h) ?_
  repeat (first | ((with_reducible apply wq0); rfl; rfl; rfl; intro K hK; go_big_quiet_op; refine hK _ ?_; clear hK K) | ((with_reducible apply wq1); rfl; rfl; rfl; rfl; rfl; rfl; intro K hK; go_big_quiet_op; refine hK _ ?_; clear hK K) | ((with_reducible apply wqs); rfl; rfl; rfl; rfl; rfl; rfl; simp only [Act.put, List.setIfInBounds_toArray, List.set_cons_zero, List.set_cons_succ]) | ((with_reducible apply wqu); rfl; rfl; rfl; rfl; rfl; simp only [same]) | ((with_reducible apply wqu); rfl; rfl; rfl; rfl; rfl; simp only [Act.put, List.setIfInBounds_toArray, List.set_cons_zero, List.set_cons_succ]))
  refine wqIdx_nil ?_
  refine wpAnyR_sole (i := 5) rfl (by kernel_rfl) (fun K hK => ?_)
  go_simp
  refine (PA.out _ (Below.of_drew0 (Below.refl _ _))).mono ?_; rintro e w1 ⟨A1, c1, rfl, hs1⟩
  refine hK _ _ hs1.2.1 ?_
  have H1 := Lib.hid hs1
  have B1 := Lib.hid (Below.of_drew0 hs1.2.1)
  clear hs1
  clear hK K
  refine wpAnyR_sole (i := 11) rfl (by kernel_rfl) (fun K hK => ?_)
  go_simp
  refine (PB.out _ B1.out).mono ?_; rintro e w2 ⟨A2, c2, rfl, hs2⟩
  refine hK _ _ hs2.2.1 ?_
  have H2 := Lib.hid hs2
  have B2 := Lib.hid (below_trans B1.out hs2.2.1)
  clear hs2
  clear hK K
  refine batchB [12, 13] (fuel := 0) rfl (by kernel_rfl) (by kernel_rfl) (fun _ _ d _ _ h => by cases d <;> exact h) ?_
  repeat (first | ((with_reducible apply wq0); rfl; rfl; rfl; intro K hK; go_big_quiet_op; refine hK _ ?_; clear hK K) | ((with_reducible apply wq1); rfl; rfl; rfl; rfl; rfl; rfl; intro K hK; go_big_quiet_op; refine hK _ ?_; clear hK K) | ((with_reducible apply wqs); rfl; rfl; rfl; rfl; rfl; rfl; simp only [Act.put, List.setIfInBounds_toArray, List.set_cons_zero, List.set_cons_succ]) | ((with_reducible apply wqu); rfl; rfl; rfl; rfl; rfl; simp only [same]) | ((with_reducible apply wqu); rfl; rfl; rfl; rfl; rfl; simp only [Act.put, List.setIfInBounds_toArray, List.set_cons_zero, List.set_cons_succ]))
  refine wqIdx_nil ?_
  refine wpAnyR_done (by kernel_rfl) ?_ _
  obtain ⟨⟨g1, s1⟩, -, k1⟩ := H1.out
  obtain ⟨⟨g2, s2⟩, b12, k2⟩ := H2.out
  have S1 := Lib.hid (s1.below b12)
  have S2 := Lib.hid s2
  have C1 : (srt (l.take (l.length / 2))).length ≤ c1 := by
    by_cases e : srt (l.take (l.length / 2)) = []
    · rw [e]; exact Nat.zero_le _
    · obtain ⟨_, _, _, h, _⟩ := k1 e; exact h
  have C2 : (srt (l.drop (l.length / 2))).length ≤ c2 := by
    by_cases e : srt (l.drop (l.length / 2)) = []
    · rw [e]; exact Nat.zero_le _
    · obtain ⟨_, _, _, h, _⟩ := k2 e; exact h
  have hm : (srt (l.take (l.length / 2))).merge (srt (l.drop (l.length / 2))) leR = srt l := by rw [merge_srt, List.take_append_drop]
  have hlen : (srt (l.take (l.length / 2))).length + (srt (l.drop (l.length / 2))).length = l.length := by
    rw [srt_length, srt_length, List.length_take, List.length_drop]; omega
  obtain ⟨S, hS⟩ : ∃ S, srt l = S := ⟨_, rfl⟩
  rw [hS] at hm
  have HSE := Lib.hid hS
  generalize srt (l.take (l.length / 2)) = a at S1 C1 hm hlen
  generalize srt (l.drop (l.length / 2)) = b at S2 C2 hm hlen
  have HM := Lib.hid hm
  clear s1 s2 b12 k1 k2 hm hS H1 H2 PA PB hne B1
  go_wp2_with fail
  go_loopw [3, 4, 5] (fun va vb vo wr => ∃ (x y o : List (Int × Int)) (A1 A2 A3 : Option Addr) (c1 c2 c3 : Nat), va = .slice A1 x.length c1 ∧ vb = .slice A2 y.length c2 ∧ vo = .slice A3 o.length c3 ∧ SlP w2 g1 A1 x ∧ SlP w2 g2 A2 y ∧ x.length ≤ c1 ∧ y.length ≤ c2 ∧ o.length + x.length + y.length = l.length ∧ wr.ownsRow w2.heap.size 58 2 vo o.length (Prs o) ∧ o ++ x.merge y leR = S ∧ Below w2.heap.size w2 wr) (fun va vb _ _ => slN va + slN vb)
  case atStart => exact ⟨a, b, [], _, _, none, _, _, 0, rfl, rfl, rfl, S1.out, S2.out, C1, C2, by simpa using hlen, World.ownsRow_nil _ _ _ _, by simpa using HM.out, Below.refl _ _⟩
  case round =>
    obtain ⟨x, y, o, A1, A2, A3, c1, c2, c3, rfl, rfl, rfl, hsx, hsy, hcx, hcy, hsum, ho, hmg, hb⟩ := hrel
    have HX := Lib.hid hsx
    have HY := Lib.hid hsy
    have HO := Lib.hid ho
    have HG := Lib.hid hmg
    have HB := Lib.hid hb
    clear hsx hsy ho hmg hb
    cases x with
    | nil =>
      cases y with
      | nil =>
        have hoS : o = S := by have := HG.out; simpa using this
        subst hoS
        go_wp2
        go_ret
        rw [HSE.out]
        exact ⟨A3, c3, rfl, RowS.own (below_trans B2.out HB.out) HO.out (by have := B2.out.size; omega)⟩
      | cons y0 y =>
        obtain ⟨y1, y2⟩ := y0
        have HG2 := Lib.hid (show (o ++ [(y1, y2)]) ++ ([] : List (Int × Int)).merge y leR = S by rw [← HG.out]; simp)
        obtain ⟨off, eA, q0, q1⟩ := (HY.out.below HB.out).head
        subst eA
        have HT := Lib.hid HY.out.tail
        simp only [List.length_cons, List.length_nil] at hsum hcx hcy ⊢
        have d2 : decide ((0 : Int) < (y.length : Int) + 1) = true := by rw [decide_eq_true_eq]; omega
        have d3 : (((y.length : Int) + 1) == 0) = false := by rw [beq_eq_false_iff_ne]; omega
        go_wp2_with fail
        refine wp_region_R (R := RB) (n := 18) (by kernel_rfl) rfl ?_
        refine batchB [0, 1, 2, 3, 4, 5, 6, 7, 8, 9, 10, 11, 12, 13, 14, 15, 16, 17] (fuel := 0) rfl (by kernel_rfl) (by kernel_rfl) (fun _ _ d _ _ h => by cases d <;> exact h) ?_
        repeat (first | ((with_reducible apply wq0); rfl; rfl; rfl; intro K hK; go_big_quiet_op; refine hK _ ?_; clear hK K) | ((with_reducible apply wq1); rfl; rfl; rfl; rfl; rfl; rfl; intro K hK; go_big_quiet_op; refine hK _ ?_; clear hK K) | ((with_reducible apply wqs); rfl; rfl; rfl; rfl; rfl; rfl; simp only [Act.put, List.setIfInBounds_toArray, List.set_cons_zero, List.set_cons_succ]) | ((with_reducible apply wqu); rfl; rfl; rfl; rfl; rfl; simp only [same]) | ((with_reducible apply wqu); rfl; rfl; rfl; rfl; rfl; simp only [Act.put, List.setIfInBounds_toArray, List.set_cons_zero, List.set_cons_succ]))
        refine wqIdx_nil ?_
        refine wpAnyR_done (by kernel_rfl) ?_ _
        have HOX := Lib.hid (World.ownsRow.alloc (own_below HO.out (Below.refl _ _)) (.cells #[.int .i64 y1, .int .i64 y2] 58))
        have HRX := Lib.hid (reads_one wr (y1, y2) 58)
        have hsx : w2.heap.size ≤ (wr.alloc (.cells #[.int .i64 y1, .int .i64 y2] 58)).heap.size := by have h1 := (HB.out).size; rw [World.size_alloc]; omega
        have HSX := Lib.hid hsx
        have BXA := Lib.hid ((HB.out).alloc (by have h1 := (HB.out).size; omega) (.cells #[.int .i64 y1, .int .i64 y2] 58))
        clear hsx
        by_cases hcc : c2 = 1
        · subst hcc
          go_wp2_with (at_builtin; (refine wpList_appP _ rfl (.tmp 58) (.tmp 62) _ rfl Try.underlying82 info_rec3 HOX.out HRX.out 1 rfl rfl (by omega) HSX.out ?_); intro A5 c5 w5 o5 gr5; have O5 := Lib.hid o5; have G5 := Lib.hid gr5; clear o5 gr5)
          have B5 := Lib.hid (BXA.out.grown (grown_of_drew (Grew.by_ G5.out)) HSX.out fun i hi => (World.ownsRow.lt HOX.out i hi).1)
          have hn0 : y.length = 0 := by omega
          have e0 := List.eq_nil_of_length_eq_zero hn0
          subst e0
          refine ⟨⟨[], [], o ++ [(y1, y2)], _, _, _, _, _, _, rfl, rfl, by rw [List.length_append]; rfl, HX.out, SlP.nil _ _ _, hcx, Nat.zero_le _, ?_, ?_, ?_, B5.out⟩, ?_⟩
          · rw [List.length_append]; simp at hsum ⊢; omega
          · rw [List.length_append]; exact O5.out
          · exact HG2.out
          · simp [slN]
        · go_wp2_with (at_builtin; (refine wpList_appP _ rfl (.tmp 58) (.tmp 62) _ rfl Try.underlying82 info_rec3 HOX.out HRX.out 1 rfl rfl (by omega) HSX.out ?_); intro A5 c5 w5 o5 gr5; have O5 := Lib.hid o5; have G5 := Lib.hid gr5; clear o5 gr5)
          have B5 := Lib.hid (BXA.out.grown (grown_of_drew (Grew.by_ G5.out)) HSX.out fun i hi => (World.ownsRow.lt HOX.out i hi).1)
          refine ⟨⟨[], y, o ++ [(y1, y2)], _, _, _, _, _, _, rfl, rfl, by rw [List.length_append]; rfl, HX.out, HT.out, hcx, by omega, ?_, ?_, ?_, B5.out⟩, ?_⟩
          · rw [List.length_append]; simp at hsum ⊢; omega
          · rw [List.length_append]; exact O5.out
          · exact HG2.out
          · simp [slN]
    | cons x0 x =>
      obtain ⟨x1, x2⟩ := x0
      cases y with
      | nil =>
        have HG2 := Lib.hid (show (o ++ [(x1, x2)]) ++ x.merge [] leR = S by rw [← HG.out]; simp)
        obtain ⟨off, eA, q0, q1⟩ := (HX.out.below HB.out).head
        subst eA
        have HT := Lib.hid HX.out.tail
        simp only [List.length_cons, List.length_nil] at hsum hcx hcy ⊢
        have d2 : decide ((0 : Int) < (x.length : Int) + 1) = true := by rw [decide_eq_true_eq]; omega
        go_wp2_with fail
        refine wp_region_R (R := RB) (n := 18) (by kernel_rfl) rfl ?_
        refine batchB [0, 1, 2, 3, 4, 5, 6, 7, 8, 9, 10, 11, 12, 13, 14, 15, 16, 17] (fuel := 0) rfl (by kernel_rfl) (by kernel_rfl) (fun _ _ d _ _ h => by cases d <;> exact h) ?_
        repeat (first | ((with_reducible apply wq0); rfl; rfl; rfl; intro K hK; go_big_quiet_op; refine hK _ ?_; clear hK K) | ((with_reducible apply wq1); rfl; rfl; rfl; rfl; rfl; rfl; intro K hK; go_big_quiet_op; refine hK _ ?_; clear hK K) | ((with_reducible apply wqs); rfl; rfl; rfl; rfl; rfl; rfl; simp only [Act.put, List.setIfInBounds_toArray, List.set_cons_zero, List.set_cons_succ]) | ((with_reducible apply wqu); rfl; rfl; rfl; rfl; rfl; simp only [same]) | ((with_reducible apply wqu); rfl; rfl; rfl; rfl; rfl; simp only [Act.put, List.setIfInBounds_toArray, List.set_cons_zero, List.set_cons_succ]))
        refine wqIdx_nil ?_
        refine wpAnyR_done (by kernel_rfl) ?_ _
        have HOX := Lib.hid (World.ownsRow.alloc (own_below HO.out (Below.refl _ _)) (.cells #[.int .i64 x1, .int .i64 x2] 58))
        have HRX := Lib.hid (reads_one wr (x1, x2) 58)
        have hsx : w2.heap.size ≤ (wr.alloc (.cells #[.int .i64 x1, .int .i64 x2] 58)).heap.size := by have h1 := (HB.out).size; rw [World.size_alloc]; omega
        have HSX := Lib.hid hsx
        have BXA := Lib.hid ((HB.out).alloc (by have h1 := (HB.out).size; omega) (.cells #[.int .i64 x1, .int .i64 x2] 58))
        clear hsx
        by_cases hcc : c1 = 1
        · subst hcc
          go_wp2_with (at_builtin; (refine wpList_appP _ rfl (.tmp 50) (.tmp 54) _ rfl Try.underlying82 info_rec3 HOX.out HRX.out 1 rfl rfl (by omega) HSX.out ?_); intro A5 c5 w5 o5 gr5; have O5 := Lib.hid o5; have G5 := Lib.hid gr5; clear o5 gr5)
          have B5 := Lib.hid (BXA.out.grown (grown_of_drew (Grew.by_ G5.out)) HSX.out fun i hi => (World.ownsRow.lt HOX.out i hi).1)
          have hn0 : x.length = 0 := by omega
          have e0 := List.eq_nil_of_length_eq_zero hn0
          subst e0
          refine ⟨⟨[], [], o ++ [(x1, x2)], _, _, _, _, _, _, rfl, rfl, by rw [List.length_append]; rfl, SlP.nil _ _ _, HY.out, Nat.zero_le _, hcy, ?_, ?_, ?_, B5.out⟩, ?_⟩
          · rw [List.length_append]; simp at hsum ⊢; omega
          · rw [List.length_append]; exact O5.out
          · exact HG2.out
          · simp [slN]
        · go_wp2_with (at_builtin; (refine wpList_appP _ rfl (.tmp 50) (.tmp 54) _ rfl Try.underlying82 info_rec3 HOX.out HRX.out 1 rfl rfl (by omega) HSX.out ?_); intro A5 c5 w5 o5 gr5; have O5 := Lib.hid o5; have G5 := Lib.hid gr5; clear o5 gr5)
          have B5 := Lib.hid (BXA.out.grown (grown_of_drew (Grew.by_ G5.out)) HSX.out fun i hi => (World.ownsRow.lt HOX.out i hi).1)
          refine ⟨⟨x, [], o ++ [(x1, x2)], _, _, _, _, _, _, rfl, rfl, by rw [List.length_append]; rfl, HT.out, HY.out, by omega, hcy, ?_, ?_, ?_, B5.out⟩, ?_⟩
          · rw [List.length_append]; simp at hsum ⊢; omega
          · rw [List.length_append]; exact O5.out
          · exact HG2.out
          · simp [slN]
      | cons y0 y =>
        obtain ⟨y1, y2⟩ := y0
        have hmc := List.cons_merge_cons leR (x1, x2) (y1, y2) x y
        rw [leR_cmp] at hmc
        have hg := HG.out
        rw [hmc] at hg
        have PC := Lib.hid (fun W => rrc_compare_any x1 x2 y1 y2 W)
        obtain ⟨offa, eA, p0, p1⟩ := (HX.out.below HB.out).head
        obtain ⟨offb, eB, q0, q1⟩ := (HY.out.below HB.out).head
        subst eA eB
        simp only [List.length_cons] at hsum hcx hcy ⊢
        have d2 : decide ((0 : Int) < (x.length : Int) + 1) = true := by rw [decide_eq_true_eq]; omega
        have d3 : (((y.length : Int) + 1) == 0) = false := by rw [beq_eq_false_iff_ne]; omega
        clear hmc HG
        generalize cmpM (x1, x2) (y1, y2) = z at PC hg
        by_cases hz : z ≤ 0
        · have d4 : decide (z ≤ 0) = true := by simpa using hz
          rw [d4, if_pos rfl] at hg
          have HG2 := Lib.hid (show (o ++ [(x1, x2)]) ++ x.merge ((y1, y2) :: y) leR = S by rw [← hg]; simp)
          have HT := Lib.hid HX.out.tail
          clear hg hz
          go_wp2_with fail
          refine wp_region_R (R := RB) (n := 18) (by kernel_rfl) rfl ?_
          refine batchB [0, 1, 2, 3, 4, 5, 6, 7, 8, 9, 10, 11, 12, 13] (fuel := 4) rfl (by kernel_rfl) (by kernel_rfl) (fun _ _ d _ _ h => by cases d <;> exact h) ?_
          repeat (first | ((with_reducible apply wq0); rfl; rfl; rfl; intro K hK; go_big_quiet_op; refine hK _ ?_; clear hK K) | ((with_reducible apply wq1); rfl; rfl; rfl; rfl; rfl; rfl; intro K hK; go_big_quiet_op; refine hK _ ?_; clear hK K) | ((with_reducible apply wqs); rfl; rfl; rfl; rfl; rfl; rfl; simp only [Act.put, List.setIfInBounds_toArray, List.set_cons_zero, List.set_cons_succ]) | ((with_reducible apply wqu); rfl; rfl; rfl; rfl; rfl; simp only [same]) | ((with_reducible apply wqu); rfl; rfl; rfl; rfl; rfl; simp only [Act.put, List.setIfInBounds_toArray, List.set_cons_zero, List.set_cons_succ]))
          refine wqIdx_load rfl rfl rfl rfl (fun W hW => load_rec_at _ _ (x1) (x2) W (keep_cell hW p0) (keep_cell hW p1)) ?_
          simp only [Act.put, List.setIfInBounds_toArray, List.set_cons_zero, List.set_cons_succ]
          repeat (first | ((with_reducible apply wq0); rfl; rfl; rfl; intro K hK; go_big_quiet_op; refine hK _ ?_; clear hK K) | ((with_reducible apply wq1); rfl; rfl; rfl; rfl; rfl; rfl; intro K hK; go_big_quiet_op; refine hK _ ?_; clear hK K) | ((with_reducible apply wqs); rfl; rfl; rfl; rfl; rfl; rfl; simp only [Act.put, List.setIfInBounds_toArray, List.set_cons_zero, List.set_cons_succ]) | ((with_reducible apply wqu); rfl; rfl; rfl; rfl; rfl; simp only [same]) | ((with_reducible apply wqu); rfl; rfl; rfl; rfl; rfl; simp only [Act.put, List.setIfInBounds_toArray, List.set_cons_zero, List.set_cons_succ]))
          refine wqIdx_load rfl rfl rfl rfl (fun W hW => load_rec_at _ _ (y1) (y2) W (keep_cell hW q0) (keep_cell hW q1)) ?_
          simp only [Act.put, List.setIfInBounds_toArray, List.set_cons_zero, List.set_cons_succ]
          repeat (first | ((with_reducible apply wq0); rfl; rfl; rfl; intro K hK; go_big_quiet_op; refine hK _ ?_; clear hK K) | ((with_reducible apply wq1); rfl; rfl; rfl; rfl; rfl; rfl; intro K hK; go_big_quiet_op; refine hK _ ?_; clear hK K) | ((with_reducible apply wqs); rfl; rfl; rfl; rfl; rfl; rfl; simp only [Act.put, List.setIfInBounds_toArray, List.set_cons_zero, List.set_cons_succ]) | ((with_reducible apply wqu); rfl; rfl; rfl; rfl; rfl; simp only [same]) | ((with_reducible apply wqu); rfl; rfl; rfl; rfl; rfl; simp only [Act.put, List.setIfInBounds_toArray, List.set_cons_zero, List.set_cons_succ]))
          refine wqIdx_nil ?_
          refine wpAnyR_sole (i := 14) rfl (by kernel_rfl) (fun K hK => ?_)
          go_simp
          refine (PC.out _).mono ?_; rintro e w4 ⟨rfl, b4⟩
          refine hK _ _ b4 ?_
          have HR4 := Lib.hid (Below.of_drew0 b4)
          have HW4 := Lib.hid (below_trans HB.out (Below.of_drew0 b4))
          clear b4
          clear hK K
          refine batchB [15, 16, 17] (fuel := 0) rfl (by kernel_rfl) (by kernel_rfl) (fun _ _ d _ _ h => by cases d <;> exact h) ?_
          repeat (first | ((with_reducible apply wq0); rfl; rfl; rfl; intro K hK; go_big_quiet_op; refine hK _ ?_; clear hK K) | ((with_reducible apply wq1); rfl; rfl; rfl; rfl; rfl; rfl; intro K hK; go_big_quiet_op; refine hK _ ?_; clear hK K) | ((with_reducible apply wqs); rfl; rfl; rfl; rfl; rfl; rfl; simp only [Act.put, List.setIfInBounds_toArray, List.set_cons_zero, List.set_cons_succ]) | ((with_reducible apply wqu); rfl; rfl; rfl; rfl; rfl; simp only [same]) | ((with_reducible apply wqu); rfl; rfl; rfl; rfl; rfl; simp only [Act.put, List.setIfInBounds_toArray, List.set_cons_zero, List.set_cons_succ]))
          refine wqIdx_nil ?_
          refine wpAnyR_done (by kernel_rfl) ?_ _
          clear p0 p1 q0 q1
          obtain ⟨offc, eC, q0, q1⟩ := (HX.out.below HW4.out).head
          injection eC with eC
          injection eC with _ eC
          subst eC
          have HOX := Lib.hid (World.ownsRow.alloc (own_below HO.out HR4.out) (.cells #[.int .i64 x1, .int .i64 x2] 58))
          have HRX := Lib.hid (reads_one w4 (x1, x2) 58)
          have hsx : w2.heap.size ≤ (w4.alloc (.cells #[.int .i64 x1, .int .i64 x2] 58)).heap.size := by have h1 := (HW4.out).size; rw [World.size_alloc]; omega
          have HSX := Lib.hid hsx
          have BXA := Lib.hid ((HW4.out).alloc (by have h1 := (HW4.out).size; omega) (.cells #[.int .i64 x1, .int .i64 x2] 58))
          clear hsx
          by_cases hcc : c1 = 1
          · subst hcc
            go_wp2_with (at_builtin; (refine wpList_appP _ rfl (.tmp 50) (.tmp 54) _ rfl Try.underlying82 info_rec3 HOX.out HRX.out 1 rfl rfl (by omega) HSX.out ?_); intro A5 c5 w5 o5 gr5; have O5 := Lib.hid o5; have G5 := Lib.hid gr5; clear o5 gr5)
            have B5 := Lib.hid (BXA.out.grown (Grew.by_ G5.out) HSX.out fun i hi => (World.ownsRow.lt HOX.out i hi).1)
            have hn0 : x.length = 0 := by omega
            have e0 := List.eq_nil_of_length_eq_zero hn0
            subst e0
            refine ⟨⟨[], (y1, y2) :: y, o ++ [(x1, x2)], _, _, _, _, _, _, rfl, rfl, by rw [List.length_append]; rfl, SlP.nil _ _ _, HY.out, Nat.zero_le _, hcy, ?_, ?_, ?_, B5.out⟩, ?_⟩
            · rw [List.length_append]; simp at hsum ⊢; omega
            · rw [List.length_append]; exact O5.out
            · exact HG2.out
            · simp [slN]
          · go_wp2_with (at_builtin; (refine wpList_appP _ rfl (.tmp 50) (.tmp 54) _ rfl Try.underlying82 info_rec3 HOX.out HRX.out 1 rfl rfl (by omega) HSX.out ?_); intro A5 c5 w5 o5 gr5; have O5 := Lib.hid o5; have G5 := Lib.hid gr5; clear o5 gr5)
            have B5 := Lib.hid (BXA.out.grown (Grew.by_ G5.out) HSX.out fun i hi => (World.ownsRow.lt HOX.out i hi).1)
            refine ⟨⟨x, (y1, y2) :: y, o ++ [(x1, x2)], _, _, _, _, _, _, rfl, rfl, by rw [List.length_append]; rfl, HT.out, HY.out, by omega, hcy, ?_, ?_, ?_, B5.out⟩, ?_⟩
            · rw [List.length_append]; simp at hsum ⊢; omega
            · rw [List.length_append]; exact O5.out
            · exact HG2.out
            · simp [slN]
        · have d4 : decide (z ≤ 0) = false := by simpa using hz
          rw [d4, if_neg (by decide)] at hg
          have HG2 := Lib.hid (show (o ++ [(y1, y2)]) ++ ((x1, x2) :: x).merge y leR = S by rw [← hg]; simp)
          have HT := Lib.hid HY.out.tail
          clear hg hz
          go_wp2_with fail
          refine wp_region_R (R := RB) (n := 18) (by kernel_rfl) rfl ?_
          refine batchB [0, 1, 2, 3, 4, 5, 6, 7, 8, 9, 10, 11, 12, 13] (fuel := 4) rfl (by kernel_rfl) (by kernel_rfl) (fun _ _ d _ _ h => by cases d <;> exact h) ?_
          repeat (first | ((with_reducible apply wq0); rfl; rfl; rfl; intro K hK; go_big_quiet_op; refine hK _ ?_; clear hK K) | ((with_reducible apply wq1); rfl; rfl; rfl; rfl; rfl; rfl; intro K hK; go_big_quiet_op; refine hK _ ?_; clear hK K) | ((with_reducible apply wqs); rfl; rfl; rfl; rfl; rfl; rfl; simp only [Act.put, List.setIfInBounds_toArray, List.set_cons_zero, List.set_cons_succ]) | ((with_reducible apply wqu); rfl; rfl; rfl; rfl; rfl; simp only [same]) | ((with_reducible apply wqu); rfl; rfl; rfl; rfl; rfl; simp only [Act.put, List.setIfInBounds_toArray, List.set_cons_zero, List.set_cons_succ]))
          refine wqIdx_load rfl rfl rfl rfl (fun W hW => load_rec_at _ _ (x1) (x2) W (keep_cell hW p0) (keep_cell hW p1)) ?_
          simp only [Act.put, List.setIfInBounds_toArray, List.set_cons_zero, List.set_cons_succ]
          repeat (first | ((with_reducible apply wq0); rfl; rfl; rfl; intro K hK; go_big_quiet_op; refine hK _ ?_; clear hK K) | ((with_reducible apply wq1); rfl; rfl; rfl; rfl; rfl; rfl; intro K hK; go_big_quiet_op; refine hK _ ?_; clear hK K) | ((with_reducible apply wqs); rfl; rfl; rfl; rfl; rfl; rfl; simp only [Act.put, List.setIfInBounds_toArray, List.set_cons_zero, List.set_cons_succ]) | ((with_reducible apply wqu); rfl; rfl; rfl; rfl; rfl; simp only [same]) | ((with_reducible apply wqu); rfl; rfl; rfl; rfl; rfl; simp only [Act.put, List.setIfInBounds_toArray, List.set_cons_zero, List.set_cons_succ]))
          refine wqIdx_load rfl rfl rfl rfl (fun W hW => load_rec_at _ _ (y1) (y2) W (keep_cell hW q0) (keep_cell hW q1)) ?_
          simp only [Act.put, List.setIfInBounds_toArray, List.set_cons_zero, List.set_cons_succ]
          repeat (first | ((with_reducible apply wq0); rfl; rfl; rfl; intro K hK; go_big_quiet_op; refine hK _ ?_; clear hK K) | ((with_reducible apply wq1); rfl; rfl; rfl; rfl; rfl; rfl; intro K hK; go_big_quiet_op; refine hK _ ?_; clear hK K) | ((with_reducible apply wqs); rfl; rfl; rfl; rfl; rfl; rfl; simp only [Act.put, List.setIfInBounds_toArray, List.set_cons_zero, List.set_cons_succ]) | ((with_reducible apply wqu); rfl; rfl; rfl; rfl; rfl; simp only [same]) | ((with_reducible apply wqu); rfl; rfl; rfl; rfl; rfl; simp only [Act.put, List.setIfInBounds_toArray, List.set_cons_zero, List.set_cons_succ]))
          refine wqIdx_nil ?_
          refine wpAnyR_sole (i := 14) rfl (by kernel_rfl) (fun K hK => ?_)
          go_simp
          refine (PC.out _).mono ?_; rintro e w4 ⟨rfl, b4⟩
          refine hK _ _ b4 ?_
          have HR4 := Lib.hid (Below.of_drew0 b4)
          have HW4 := Lib.hid (below_trans HB.out (Below.of_drew0 b4))
          clear b4
          clear hK K
          refine batchB [15, 16, 17] (fuel := 0) rfl (by kernel_rfl) (by kernel_rfl) (fun _ _ d _ _ h => by cases d <;> exact h) ?_
          repeat (first | ((with_reducible apply wq0); rfl; rfl; rfl; intro K hK; go_big_quiet_op; refine hK _ ?_; clear hK K) | ((with_reducible apply wq1); rfl; rfl; rfl; rfl; rfl; rfl; intro K hK; go_big_quiet_op; refine hK _ ?_; clear hK K) | ((with_reducible apply wqs); rfl; rfl; rfl; rfl; rfl; rfl; simp only [Act.put, List.setIfInBounds_toArray, List.set_cons_zero, List.set_cons_succ]) | ((with_reducible apply wqu); rfl; rfl; rfl; rfl; rfl; simp only [same]) | ((with_reducible apply wqu); rfl; rfl; rfl; rfl; rfl; simp only [Act.put, List.setIfInBounds_toArray, List.set_cons_zero, List.set_cons_succ]))
          refine wqIdx_nil ?_
          refine wpAnyR_done (by kernel_rfl) ?_ _
          clear p0 p1 q0 q1
          obtain ⟨offc, eC, q0, q1⟩ := (HY.out.below HW4.out).head
          injection eC with eC
          injection eC with _ eC
          subst eC
          have HOX := Lib.hid (World.ownsRow.alloc (own_below HO.out HR4.out) (.cells #[.int .i64 y1, .int .i64 y2] 58))
          have HRX := Lib.hid (reads_one w4 (y1, y2) 58)
          have hsx : w2.heap.size ≤ (w4.alloc (.cells #[.int .i64 y1, .int .i64 y2] 58)).heap.size := by have h1 := (HW4.out).size; rw [World.size_alloc]; omega
          have HSX := Lib.hid hsx
          have BXA := Lib.hid ((HW4.out).alloc (by have h1 := (HW4.out).size; omega) (.cells #[.int .i64 y1, .int .i64 y2] 58))
          clear hsx
          by_cases hcc : c2 = 1
          · subst hcc
            go_wp2_with (at_builtin; (refine wpList_appP _ rfl (.tmp 58) (.tmp 62) _ rfl Try.underlying82 info_rec3 HOX.out HRX.out 1 rfl rfl (by omega) HSX.out ?_); intro A5 c5 w5 o5 gr5; have O5 := Lib.hid o5; have G5 := Lib.hid gr5; clear o5 gr5)
            have B5 := Lib.hid (BXA.out.grown (Grew.by_ G5.out) HSX.out fun i hi => (World.ownsRow.lt HOX.out i hi).1)
            have hn0 : y.length = 0 := by omega
            have e0 := List.eq_nil_of_length_eq_zero hn0
            subst e0
            refine ⟨⟨(x1, x2) :: x, [], o ++ [(y1, y2)], _, _, _, _, _, _, rfl, rfl, by rw [List.length_append]; rfl, HX.out, SlP.nil _ _ _, hcx, Nat.zero_le _, ?_, ?_, ?_, B5.out⟩, ?_⟩
            · rw [List.length_append]; simp at hsum ⊢; omega
            · rw [List.length_append]; exact O5.out
            · exact HG2.out
            · simp [slN]
          · go_wp2_with (at_builtin; (refine wpList_appP _ rfl (.tmp 58) (.tmp 62) _ rfl Try.underlying82 info_rec3 HOX.out HRX.out 1 rfl rfl (by omega) HSX.out ?_); intro A5 c5 w5 o5 gr5; have O5 := Lib.hid o5; have G5 := Lib.hid gr5; clear o5 gr5)
            have B5 := Lib.hid (BXA.out.grown (Grew.by_ G5.out) HSX.out fun i hi => (World.ownsRow.lt HOX.out i hi).1)
            refine ⟨⟨(x1, x2) :: x, y, o ++ [(y1, y2)], _, _, _, _, _, _, rfl, rfl, by rw [List.length_append]; rfl, HX.out, HT.out, hcx, by omega, ?_, ?_, ?_, B5.out⟩, ?_⟩
            · rw [List.length_append]; simp at hsum ⊢; omega
            · rw [List.length_append]; exact O5.out
            · exact HG2.out
            · simp [slN]
theorem rrc_sort_any : ∀ (n : Nat) (A : Option Addr) (h : Nat) (l : List (Int × Int)) (c : Nat) (w : World), l.length ≤ n → SlP w h A l → l.length ≤ c → l.length ≤ 10000 → c ≤ maxLen →
    Calls Try.prog 102 #[.slice A l.length c] w fun e w' => ∃ A' c', e = .returned (.slice A' (srt l).length c') ∧ RowS w (srt l) A' c' w'
  | 0, A, h, l, c, w, hn, hl, _, _, _ => rrc_sort_small A h l c w hl (by omega)
  | n + 1, A, h, l, c, w, hn, hl, hc, h2, h3 => by
    by_cases hs : l.length < 2
    · exact rrc_sort_small A h l c w hl hs
    · exact rrc_sort_step A h l c w hl (by omega) hc h2 h3 fun A h m c w hm hl hc h3 => rrc_sort_any n A h m c w (by omega) hl hc (by omega) h3
end Go.Proofs.Ytfilelgbffbnlaa
