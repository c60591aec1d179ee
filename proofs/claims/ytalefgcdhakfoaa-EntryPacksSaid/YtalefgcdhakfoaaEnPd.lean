/- Contracts of the document's entries: Pack. -/
import Derived.Test.YtalefgcdhakfoaaEnT
import Derived.Test.YtalefgcdhakfoaaEnPm
namespace Go.Proofs.Ytalefgcdhakfoaa
open Go.RowKit Go.Sort

theorem packM_nil : packM [] = [] := rfl
theorem stepP_cur (s : List (List UInt8) × List UInt8) (x : En) (hx : okEn x = true) : (stepP s x).2.length ≠ 0 := by
  have := putE_len x hx
  unfold stepP
  split
  · simp only; omega
  · simp only [List.length_append]; omega
theorem packS_cur {l : List En} (h : ∀ x ∈ l, okEn x = true) (hl : l ≠ []) : (packS l).2.length ≠ 0 := by
  rcases List.eq_nil_or_concat l with h0 | ⟨m, x, rfl⟩
  · exact absurd h0 hl
  · rw [List.concat_eq_append, packS_snoc]
    exact stepP_cur _ x (h x (by simp))
theorem packM_pre {l : List En} (h : ∀ x ∈ l, okEn x = true) (hl : l ≠ []) : packM l = (packS l).1 ++ [(packS l).2] := by
  unfold packM
  rw [if_neg (packS_cur h hl)]
theorem packM_one (x : En) (hx : okEn x = true) : packM [x] = [putE x] := by
  have hl := putE_len x hx
  have e : packS [x] = ([], putE x) := by
    show stepP ([], []) x = _
    unfold stepP
    rw [if_neg (by simp only [List.length_nil]; omega)]
    rfl
  unfold packM
  rw [e, if_neg (by simp only; omega)]
  rfl
theorem packM_snoc {l : List En} (x : En) (h : ∀ y ∈ l, okEn y = true) (hx : okEn x = true) : packM (l ++ [x]) = if 43 < (packS l).2.length + (putE x).length then ((packS l).1 ++ [(packS l).2]) ++ [putE x] else (packS l).1 ++ [(packS l).2 ++ putE x] := by
  rw [packM_pre (l := l ++ [x]) (fun y hy => by rcases List.mem_append.1 hy with hy | hy; exact h y hy; rw [List.mem_singleton.1 hy]; exact hx) (by simp), packS_snoc]
  unfold stepP
  split <;> rfl
theorem packM_len {l : List En} (h : ∀ x ∈ l, okEn x = true) : (packM l).length ≤ l.length + 1 := by
  have := (packS_le l h).1
  unfold packM
  split
  · omega
  · rw [List.length_append, List.length_singleton]; omega
/-- A row's last slice is another one. -/
theorem Pgs.last_at {w : World} {base m c : Nat} {A : Option Addr} {full : List (List UInt8)} {cur : List UInt8} (h : Pgs w base (.slice A (m + 1) c) (full ++ [cur])) (hm : full.length = m) :
    ∃ g A2 c2, A = some ⟨g, 0, none⟩ ∧ base ≤ g ∧ g < w.heap.size ∧ w.cell? ⟨g, m, none⟩ = some (.slice A2 cur.length c2) ∧ w.frozen? ⟨g, m, none⟩ = false ∧ Reads w w.heap.size 1 A2 cur.length (Byt cur) := by
  obtain ⟨xs, hl, ho, hp⟩ := h
  rw [List.length_append, List.length_singleton, hm] at ho hl
  obtain ⟨g, cap, hv, hb, hlt⟩ := ho.form (by omega)
  injection hv with hv1 hv2 hv3
  subst hv1
  subst hv3
  have hx : m < xs.length := by omega
  have h1 := hp m xs[m] cur (List.getElem?_eq_getElem hx) (by rw [← hm, List.getElem?_append_right (Nat.le_refl _), Nat.sub_self]; rfl)
  have hcell := ho.cellAt m (by omega)
  obtain ⟨y, hy⟩ : ∃ y, y = xs[m] := ⟨_, rfl⟩
  rw [List.getElem?_map, List.getElem?_eq_getElem hx, ← hy] at hcell
  rw [← hy] at h1
  obtain ⟨A2, n2, c2⟩ := y
  obtain ⟨hn, ho2⟩ := h1
  simp only at hn
  subst hn
  exact ⟨g, A2, c2, rfl, hb, hlt, hcell, ho.frozenAt m, Reads.of_own ho2⟩
theorem Pgs.last_cell {w : World} {base m c g : Nat} {full : List (List UInt8)} {cur : List UInt8} (h : Pgs w base (.slice (some ⟨g, 0, none⟩) (m + 1) c) (full ++ [cur])) (hm : full.length = m) :
    g < w.heap.size ∧ w.frozen? ⟨g, m, none⟩ = false ∧ ∃ A2 c2, w.cell? ⟨g, m, none⟩ = some (.slice A2 cur.length c2) := by
  obtain ⟨g', A2, c2, e, -, h1, h2, h3, -⟩ := h.last_at hm
  injection e with e
  injection e with e
  subst e
  exact ⟨h1, h3, A2, c2, h2⟩
theorem Pgs.store {w : World} {base m c g : Nat} {full : List (List UInt8)} {cur l : List UInt8} {x : SlT} (h : Pgs w base (.slice (some ⟨g, 0, none⟩) (m + 1) c) (full ++ [cur])) (hm : full.length = m) (hx : PgB w x l) :
    Pgs (w.setCell ⟨g, m, none⟩ (encSl x)) base (.slice (some ⟨g, 0, none⟩) (m + 1) c) (full ++ [l]) ∧ w.grownBy (w.setCell ⟨g, m, none⟩ (encSl x)) (some g) := by
  obtain ⟨xs, hl, ho, hp⟩ := h
  rw [List.length_append, List.length_singleton, hm] at ho hl
  obtain ⟨o2, gr⟩ := ho.stored m (encSl x)
  refine ⟨⟨xs.set m x, by simp [hl, hm], ?_, fun i y k hy hk => ?_⟩, gr⟩
  · rw [List.map_set, List.length_append, List.length_singleton, hm]; exact o2
  · have keep : ∀ y k, PgB w y k → PgB (w.setCell ⟨g, m, none⟩ (encSl x)) y k := fun y k hk => hk.grown ho (by simpa [Value.ownBlock] using gr)
    by_cases hi : i = m
    · subst hi
      rw [List.getElem?_set_self (by omega)] at hy
      rw [← hm, List.getElem?_append_right (Nat.le_refl _), Nat.sub_self] at hk
      simp only [List.getElem?_cons_zero, Option.some.injEq] at hy hk
      subst hy hk
      exact keep _ _ hx
    · rw [List.getElem?_set_ne (Ne.symm hi)] at hy
      have hi2 : i < m := by
        have h1 := (List.getElem?_eq_some_iff.1 hk).1
        rw [List.length_append, List.length_singleton] at h1
        omega
      rw [List.getElem?_append_left (by omega)] at hk
      exact keep _ _ (hp i y k hy (by rw [List.getElem?_append_left (by omega)]; exact hk))
set_option maxRecDepth 100000 in
set_option maxHeartbeats 4000000 in
theorem ren_pack_any (A : Option Addr) (h : Nat) (l : List En) (c : Nat) (w : World) (hl : SlK encE w h A l) (hn : l.length ≤ 50000) (hok : ∀ x ∈ l, okEn x = true) :
    Calls Try.prog 28 #[.slice A l.length c] w fun e w' => ∃ A' c', e = .returned (.slice A' (packM l).length c') ∧ Pgs w' w.heap.size (.slice A' (packM l).length c') (packM l) ∧ Below w.heap.size w w' := by
  have HL := Lib.hid hl
  have OK := Lib.hid hok
  clear hl hok
  go_enter Try.func28, Try.ntmps28
  go_wp2_with fail
  go_loopw [3, 4] (fun p i wr => ∃ (k : Nat) (A1 : Option Addr) (c1 : Nat), k ≤ l.length ∧ i = .int .i64 (k : Int) ∧ p = .slice A1 (packM (l.take k)).length c1 ∧ Pgs wr w.heap.size p (packM (l.take k)) ∧ Below w.heap.size w wr) (fun _ i _ => l.length - (intOf i).toNat)
  case atStart => exact ⟨0, none, 0, Nat.zero_le _, rfl, rfl, Pgs.nil _ _, Below.refl _ _⟩
  case round =>
    obtain ⟨k, A1, c1, hk, rfl, rfl, hp, hb⟩ := hrel
    have HP := Lib.hid hp
    have HB := Lib.hid hb
    clear hp hb
    by_cases hlt : k < l.length
    · have hea := List.getElem?_eq_getElem hlt
      obtain ⟨-, off, rfl, hc⟩ := (HL.out.below HB.out).at_ layE hea
      have htk : l.take (k + 1) = l.take k ++ [l[k]] := by rw [List.take_add_one, hea]; rfl
      have hokx := OK.out l[k] (List.getElem_mem hlt)
      have hokt : ∀ y ∈ l.take k, okEn y = true := fun y hy => OK.out y (List.mem_of_mem_take hy)
      obtain ⟨x, hx⟩ : ∃ x, x = l[k] := ⟨_, rfl⟩
      rw [← hx] at hc htk hokx
      have P1 := Lib.hid (fun W => ren_put_any x W hokx)
      have hlx := putE_len x hokx
      obtain ⟨⟨a, b⟩, c', d⟩ := x
      have q0 := hc 0 _ rfl
      have q1 := hc 1 _ rfl
      have q2 := hc 2 _ rfl
      have q3 := hc 3 _ rfl
      rw [Nat.add_zero] at q0
      have hle := packM_len hokt
      rw [List.length_take] at hle
      by_cases h0 : l.take k = []
      · have hst : packM (l.take (k + 1)) = [putE ((a, b), (c', d))] := by rw [htk, h0]; exact packM_one _ hokx
        rw [h0, packM_nil] at HP
        simp only [List.length_nil] at HP
        rw [h0, packM_nil, List.length_nil]
        have HST := Lib.hid hst
        generalize putE ((a, b), (c', d)) = u at P1 hlx HST
        clear hea hx htk hc hokx hst hokt h0
        unfold enV at P1
        go_wp2_with fail
        refine (P1.out _).mono ?_; rintro e w1 ⟨v1, rfl, o1, b1⟩
        obtain ⟨A3, c3, rfl⟩ := own_form o1
        have BR := Lib.hid b1
        have HP1 := Lib.hid (HP.out.below b1)
        have BW := Lib.hid (below_trans HB.out b1)
        have O3 := Lib.hid o1
        clear q0 q1 q2 q3 b1 P1 o1
        obtain ⟨xs, hxl, hxo, hxp⟩ := HP1.out
        rw [List.length_nil] at hxo
        have X1 := Lib.hid hxl
        have X3 := Lib.hid hxp
        have X2A := Lib.hid (World.ownsRow.alloc hxo (.cells #[.slice A3 u.length c3] 30))
        have X2 := Lib.hid hxo
        clear hxl hxo hxp
        go_wp2_with (at_builtin; (refine wpList_appS (ys := [(A3, u.length, c3)]) _ rfl (.tmp 34) (.tmp 36) _ rfl Try.underlying55 info_bs X2A.out (reads_cell1 w1 _ _) 1 rfl rfl (by simp only [List.length_nil] at *; omega) (by rw [World.size_alloc]; have := BW.out.size; omega) ?_; intro A6 c6 w6 o6 gr6; have O6 := Lib.hid o6; have G6 := Lib.hid (Grew.by_ gr6); clear o6 gr6))
        have hp6 := Pgs.push (ls := []) (x := (A3, u.length, c3)) (l := u) X1.out (by first | exact X2.out | (rw [HFL.out]; exact X2.out)) X3.out ⟨rfl, own_mono O3.out (Nat.zero_le _)⟩ (by first | exact O6.out | (rw [HFL.out]; exact O6.out)) G6.out
        have b6 : Below w.heap.size w w6 := (BW.out.alloc BW.out.size (.cells #[.slice A3 u.length c3] 30)).grown G6.out (Nat.le_trans BW.out.size (alloc_below _ _).size) fun i hi => (World.ownsRow.lt X2A.out i hi).1
        refine ⟨⟨k + 1, A6, c6, by omega, by go_num, by rw [HST.out]; rfl, by rw [HST.out]; exact hp6, b6⟩, by simp [intOf]; omega⟩
      · have hpre := packM_pre hokt h0
        have hst : packM (l.take (k + 1)) = if 43 < (packS (l.take k)).2.length + (putE ((a, b), (c', d))).length then ((packS (l.take k)).1 ++ [(packS (l.take k)).2]) ++ [putE ((a, b), (c', d))] else (packS (l.take k)).1 ++ [(packS (l.take k)).2 ++ putE ((a, b), (c', d))] := by rw [htk]; exact packM_snoc _ hokt hokx
        rw [hpre] at HP hle
        rw [hpre]
        have hcl := (packS_le (l.take k) hokt).2
        have HST := Lib.hid hst
        generalize putE ((a, b), (c', d)) = u at P1 hlx HST
        generalize packS (l.take k) = st at HP hle HST hcl ⊢
        obtain ⟨full, cur⟩ := st
        simp only at HP hle HST hcl ⊢
        obtain ⟨m, hm⟩ : ∃ m, m = full.length := ⟨_, rfl⟩
        have hfl : (full ++ [cur]).length = m + 1 := by rw [List.length_append, List.length_singleton, hm]
        rw [hfl] at HP hle ⊢
        have HM := Lib.hid hm
        have HFL := Lib.hid hfl
        clear hea hx htk hc hokx hst hokt h0 hpre hm hfl
        unfold enV at P1
        obtain ⟨g, A2, c2, rfl, hbg, hg, hcell, hfro, hrd⟩ := HP.out.last_at HM.out.symm
        have LC := Lib.hid hcell
        have HG := Lib.hid hg
        have RD := Lib.hid hrd
        have HBG := Lib.hid hbg
        clear hcell hfro hg hrd hbg
        have n1 : ((m : Int) + 1 - 1) = (m : Int) := by omega
        go_wp2_with fail
        refine (P1.out _).mono ?_; rintro e w1 ⟨v1, rfl, o1, b1⟩
        obtain ⟨A3, c3, rfl⟩ := own_form o1
        have BR := Lib.hid b1
        have HP1 := Lib.hid (HP.out.below b1)
        have BW := Lib.hid (below_trans HB.out b1)
        have O3 := Lib.hid o1
        have hc1 : w1.cell? ⟨g, m, none⟩ = some (.slice A2 cur.length c2) := (b1.cell (p := ⟨g, m, none⟩) HG.out).trans LC.out
        clear q0 q1 q2 q3 b1 P1 o1
        by_cases h43 : 43 < cur.length + u.length
        · have d1 : decide ((43 : Int) < (cur.length : Int) + (u.length : Int)) = true := by rw [decide_eq_true_eq]; omega
          have hst := HST.out
          rw [if_pos h43] at hst
          have HST2 := Lib.hid hst
          clear hst h43 HST
          obtain ⟨xs, hxl, hxo, hxp⟩ := HP1.out
          rw [HFL.out] at hxo
          have X1 := Lib.hid hxl
          have X3 := Lib.hid hxp
          have X2A := Lib.hid (World.ownsRow.alloc hxo (.cells #[.slice A3 u.length c3] 30))
          have X2 := Lib.hid hxo
          clear hxl hxo hxp
          go_wp2_with (at_builtin; (refine wpList_appS (ys := [(A3, u.length, c3)]) _ rfl (.tmp 34) (.tmp 36) _ rfl Try.underlying55 info_bs X2A.out (reads_cell1 w1 _ _) 1 rfl rfl (by simp only [List.length_append, List.length_singleton] at *; omega) (by rw [World.size_alloc]; have := BW.out.size; omega) ?_; intro A6 c6 w6 o6 gr6; have O6 := Lib.hid o6; have G6 := Lib.hid (Grew.by_ gr6); clear o6 gr6))
          have hp6 := Pgs.push (ls := full ++ [cur]) (x := (A3, u.length, c3)) (l := u) X1.out (by first | exact X2.out | (rw [HFL.out]; exact X2.out)) X3.out ⟨rfl, own_mono O3.out (Nat.zero_le _)⟩ (by first | exact O6.out | (rw [HFL.out]; exact O6.out)) G6.out
          have b6 : Below w.heap.size w w6 := (BW.out.alloc BW.out.size (.cells #[.slice A3 u.length c3] 30)).grown G6.out (Nat.le_trans BW.out.size (alloc_below _ _).size) fun i hi => (World.ownsRow.lt X2A.out i hi).1
          refine ⟨⟨k + 1, A6, c6, by omega, by go_num, by rw [HST2.out, List.length_append, HFL.out]; rfl, by rw [HST2.out]; exact hp6, b6⟩, by simp [intOf]; omega⟩
        · have d1 : decide ((43 : Int) < (cur.length : Int) + (u.length : Int)) = false := by rw [decide_eq_false_iff_not]; omega
          have hst := HST.out
          rw [if_neg h43] at hst
          have HST2 := Lib.hid hst
          clear hst h43 HST
          have b0 := alloc_below w1 (.cells #[] 5)
          have B0 := Lib.hid b0
          have O0 := Lib.hid (own_emptyB w1 5)
          have R0 := Lib.hid (((RD.out.below BR.out).more BR.out.size).alloc (Nat.le_refl _) (.cells #[] 5))
          have R3 := Lib.hid ((own_bytes_reads O3.out).alloc (Nat.le_refl _) (.cells #[] 5))
          have hca : (w1.alloc (.cells #[] 5)).cell? ⟨g, m, none⟩ = some (.slice A2 cur.length c2) := (b0.cell (p := ⟨g, m, none⟩) (Nat.lt_of_lt_of_le HG.out BR.out.size)).trans hc1
          clear b0
          go_wp2_with (at_builtin; first | (refine wpList_appB (xs := []) (ys := cur) _ rfl (.tmp 40) (.tmp 44) _ rfl Try.underlying30 info_b O0.out R0.out c2 rfl rfl (by omega) B0.out.size ?_; intro A6 c6 w6 o6 gr6; rw [Nat.zero_add] at o6; rw [List.nil_append] at o6; rw [Nat.zero_add]; have O6 := Lib.hid o6; have G6 := Lib.hid (Grew.by_ gr6); have L6 := Lib.hid (Grew.at_ gr6); clear o6 gr6; have R6 := Lib.hid (R3.out.grown G6.out B0.out.size (fun i hi => by cases hi; exact Nat.le_refl _))) | (refine wpList_appB (xs := cur) (ys := u) _ rfl (.tmp 45) (.tmp 46) _ rfl Try.underlying30 info_b O6.out R6.out c3 rfl rfl (by omega) (Nat.le_trans B0.out.size G6.out.size) ?_; intro A7 c7 w7 o7 gr7; have O7 := Lib.hid o7; have G7 := Lib.hid (Grew.by_ gr7); clear o7 gr7; have B7 := Lib.hid (show Below w1.heap.size w1 w7 from (B0.out.grown G6.out B0.out.size (fun i hi => by cases hi; exact Nat.le_refl _)).grown G7.out (Nat.le_trans B0.out.size G6.out.size) (fun i hi => (World.ownsRow.lt O6.out i hi).1)); have HP7 := Lib.hid (HP1.out.below B7.out); obtain ⟨hg7, hf7, A8, c8, hc7⟩ := HP7.out.last_cell HM.out.symm; have HG7 := Lib.hid hg7; clear hg7))
          obtain ⟨p8, g8⟩ := HP7.out.store (l := cur ++ u) (x := (A7, cur.length + u.length, c7)) HM.out.symm ⟨by rw [List.length_append], by rw [List.length_append]; exact own_mono O7.out (Nat.zero_le _)⟩
          refine ⟨⟨k + 1, some ⟨g, 0, none⟩, c1, by omega, by go_num, by rw [HST2.out, List.length_append, List.length_singleton, ← HM.out], by rw [HST2.out]; exact p8, (below_trans BW.out B7.out).setCell HBG.out _⟩, by simp [intOf]; omega⟩
    · obtain rfl : k = l.length := by omega
      rw [List.take_length] at HP ⊢
      go_wp2
      go_ret
      exact ⟨_, _, rfl, HP.out, HB.out⟩
end Go.Proofs.Ytalefgcdhakfoaa
