/- The law of package entry about packs: what entries are as packs, and what packs are as entries. -/
import Derived.Test.YtalefgcdhakfoaaEnPd
import Derived.Test.YtalefgcdhakfoaaOpE
namespace Go.Proofs.Ytalefgcdhakfoaa
open Go.RowKit Go.Sort

/-- A slice in a row of slices, and its bytes. -/
theorem Pgs.at_ {w : World} {base n c k : Nat} {A : Option Addr} {ls : List (List UInt8)} {b : List UInt8} (h : Pgs w base (.slice A n c) ls) (hk : ls[k]? = some b) :
    ∃ g A2 c2 h2, A = some ⟨g, 0, none⟩ ∧ w.cell? ⟨g, k, none⟩ = some (.slice A2 b.length c2) ∧ SlB w h2 A2 b := by
  obtain ⟨xs, hl, ho, hp⟩ := h
  have hkl := (List.getElem?_eq_some_iff.1 hk).1
  have hn : n = ls.length := by
    rcases ho.2 with ⟨hv, h0⟩ | ⟨g, cap, cur, hv, _⟩
    · omega
    · injection hv
  subst hn
  obtain ⟨g, cap, hv, hb, hlt⟩ := ho.form (by omega)
  injection hv with hv1 hv2 hv3
  subst hv1
  subst hv3
  have hx : k < xs.length := by omega
  have h1 := hp k xs[k] b (List.getElem?_eq_getElem hx) hk
  have hcell := ho.cellAt k (by omega)
  obtain ⟨y, hy⟩ : ∃ y, y = xs[k] := ⟨_, rfl⟩
  rw [List.getElem?_map, List.getElem?_eq_getElem hx, ← hy] at hcell
  rw [← hy] at h1
  obtain ⟨A2, n2, c2⟩ := y
  obtain ⟨hn, ho2⟩ := h1
  simp only at hn
  subst hn
  obtain ⟨h2, -, hs, -⟩ := SlB.of_own ho2
  exact ⟨g, A2, c2, h2, rfl, hcell, hs⟩
theorem part_le {ps : List (List En)} {p : List En} (h : p ∈ ps) : p.length ≤ ps.flatten.length := by
  induction ps with
  | nil => cases h
  | cons q ps ih =>
    rw [List.flatten_cons, List.length_append]
    rcases List.mem_cons.1 h with rfl | h
    · omega
    · have := ih h; omega
theorem flat_take (ps : List (List En)) (k : Nat) : (ps.take k).flatten.length ≤ ps.flatten.length := by
  have h : ps.flatten = (ps.take k).flatten ++ (ps.drop k).flatten := by rw [← List.flatten_append, List.take_append_drop]
  rw [h, List.length_append]
  omega
theorem pack_short {l : List En} (h : ∀ x ∈ l, okEn x = true) : ∀ b ∈ packM l, b.length ≤ 43 := by
  have hf : ∀ (l : List En) (s : List (List UInt8) × List UInt8), (∀ x ∈ l, okEn x = true) → (∀ b ∈ s.1, b.length ≤ 43) → s.2.length ≤ 43 → (∀ b ∈ (l.foldl stepP s).1, b.length ≤ 43) ∧ (l.foldl stepP s).2.length ≤ 43 := by
    intro l
    induction l with
    | nil => intro s _ h1 h2; exact ⟨h1, h2⟩
    | cons x l ih =>
      intro s h0 h1 h2
      have hx := putE_len x (h0 x (List.mem_cons_self ..))
      rw [List.foldl_cons]
      refine ih _ (fun y hy => h0 y (List.mem_cons_of_mem _ hy)) ?_ ?_
      · unfold stepP
        split
        · intro b hb
          rcases List.mem_append.1 hb with hb | hb
          · exact h1 b hb
          · rw [List.mem_singleton.1 hb]; exact h2
        · exact h1
      · unfold stepP
        split
        · simp only; omega
        · simp only [List.length_append]; omega
  obtain ⟨h1, h2⟩ := hf l ([], []) h (fun b hb => by cases hb) (Nat.zero_le _)
  intro b hb
  unfold packM at hb
  split at hb
  · exact h1 b hb
  · rcases List.mem_append.1 hb with hb | hb
    · exact h1 b hb
    · rw [List.mem_singleton.1 hb]; exact h2
set_option maxRecDepth 100000 in
set_option maxHeartbeats 8000000 in
theorem enPk_any (A : Option Addr) (h : Nat) (l : List En) (c : Nat) (w : World) (hle : InE w A h l c) :
    Calls Try.prog 6 #[.slice A l.length c] w fun e w' => e = .returned (.bool true) ∧ Below w.heap.size w w' := by
  have HS := Lib.hid hle.1
  clear hle
  have PL := Lib.hid (fun W => lives_any W)
  by_cases hbig : (1000 < l.length ∧ l.length ≤ 16384) ∨ 32768 < l.length
  · rcases hbig with ⟨h1, h2⟩ | h1
    · have d1 : decide ((1000 : Int) < (l.length : Int)) = true := by rw [decide_eq_true_eq]; omega
      have d2 : decide ((l.length : Int) ≤ (16384 : Int)) = true := by rw [decide_eq_true_eq]; omega
      clear h1 h2
      go_enter Try.func6, Try.ntmps6
      go_wp2_with fail
      refine (PL.out _).mono ?_; rintro e w1 ⟨rfl, b1⟩
      go_wp2
      go_ret
      exact ⟨rfl, b1⟩
    · have d1 : decide ((1000 : Int) < (l.length : Int)) = true := by rw [decide_eq_true_eq]; omega
      have d2 : decide ((l.length : Int) ≤ (16384 : Int)) = false := by rw [decide_eq_false_iff_not]; omega
      have d3 : decide ((32768 : Int) < (l.length : Int)) = true := by rw [decide_eq_true_eq]; omega
      clear h1
      go_enter Try.func6, Try.ntmps6
      go_wp2_with fail
      refine (PL.out _).mono ?_; rintro e w1 ⟨rfl, b1⟩
      go_wp2
      go_ret
      exact ⟨rfl, b1⟩
  · have d3 : decide ((32768 : Int) < (l.length : Int)) = false := by rw [decide_eq_false_iff_not]; omega
    have hlen : l.length ≤ 32768 := by omega
    have P2 := Lib.hid (fun W (k : Below w.heap.size w W) => ren_may_any A h l c W (HS.out.below k) (by omega))
    by_cases h0 : mayEs l = 0
    · have hok := mayEs_ok h0
      have hall := firstE_ok hok.1
      have hn : l.length ≤ 1000 := by have := hok.2; omega
      have d1 : decide ((1000 : Int) < (l.length : Int)) = false := by rw [decide_eq_false_iff_not]; omega
      have P1 := Lib.hid ((en_pack_any A h l c w HS.out (by omega)).mono (R' := fun e w' => ∃ A' c', e = .returned (.tuple #[.slice A' (packM l).length c', .int .i64 0]) ∧ Pgs w' w.heap.size (.slice A' (packM l).length c') (packM l) ∧ Below w.heap.size w w') fun e w' => by
        rintro (⟨hz, -⟩ | ⟨-, A2, c2, he, hr⟩)
        · exact absurd h0 hz
        · exact ⟨A2, c2, he, hr⟩)
      have P3 := Lib.hid (fun W (k : Below w.heap.size w W) => ren_pack_any A h l c W (HS.out.below k) (by omega) hall)
      rw [h0] at P2
      obtain ⟨ps, hps, hfl, hne⟩ := packM_parts l hall
      have hsh := pack_short hall
      have P5 := Lib.hid (fun W A1 h1 c1 (s1 : SlK encE W h1 A1 l) (k : Below w.heap.size w W) => ren_same_any A1 A h1 h l l c1 c W s1 (HS.out.below k) (by omega) (by omega))
      rw [show (l == l) = true from beq_self_eq_true l] at P5
      rw [hps] at P1 P3 hsh
      rw [← hfl] at hall
      have P4 := Lib.hid (fun (W : World) (p : List En) (hp : p ∈ ps) (A' : Option Addr) (g' c' : Nat) (s : SlB W g' A' (catE p)) => show Calls Try.prog 29 #[.slice A' (catE p).length c'] W (fun e w' => ∃ A2 c2, e = .returned (.tuple #[.slice A2 p.length c2, .int .i64 0]) ∧ (∃ g, SlK encE w' g A2 p) ∧ Below W.heap.size W w') from (en_unpack_any A' g' (catE p) c' W s (hsh _ (List.mem_map_of_mem hp))).mono fun e w' => by
        rw [unpM_cat p fun x hx => hall x (List.mem_flatten.2 ⟨p, hp, hx⟩)]
        rintro (⟨hz, -⟩ | ⟨l', A2, c2, hz, he, hg, hb, -⟩)
        · cases hz
        · injection hz with hz
          subst hz
          exact ⟨A2, c2, he, hg, hb⟩)
      have HNE := Lib.hid (fun p hp => List.length_pos_iff.2 (hne p hp))
      have HF := Lib.hid hfl
      have HFB := Lib.hid (fun k => Nat.le_trans (flat_take ps k) (by rw [hfl]; exact hn))
      have HPB := Lib.hid (fun p hp => Nat.le_trans (part_le (ps := ps) (p := p) hp) (by rw [hfl]; exact hn))
      have hml : (ps.map catE).length = ps.length := List.length_map ..
      rw [hml] at P1 P3
      have hpl : ps.length ≤ 1000 := by
        have := packM_len (l := l) (by rw [← hfl]; exact hall)
        have hc : ∀ qs : List (List En), (∀ p ∈ qs, p ≠ []) → qs.length ≤ qs.flatten.length := by
          intro qs
          induction qs with
          | nil => intro _; exact Nat.le_refl _
          | cons q qs ih =>
            intro hq
            have h1 := ih fun p hp => hq p (List.mem_cons_of_mem _ hp)
            have h2 := List.length_pos_iff.2 (hq q (List.mem_cons_self ..))
            rw [List.flatten_cons, List.length_append, List.length_cons]
            omega
        have := hc ps hne
        rw [hfl] at this
        omega
      clear h0 hok hall hps hfl hne hsh hml hbig hlen hn
      go_enter Try.func6, Try.ntmps6
      go_wp2_with fail
      refine P1.out.mono ?_; rintro e w1 ⟨A1, c1, rfl, p1, b1⟩
      have B1 := Lib.hid b1
      have G1 := Lib.hid p1
      clear b1 p1
      go_wp2_with fail
      refine (P2.out _ B1.out).mono ?_; rintro e w2 ⟨rfl, b2⟩
      have B2 := Lib.hid (below_trans B1.out b2)
      have G2 := Lib.hid (G1.out.below b2)
      clear b2
      go_wp2_with fail
      refine (PL.out _).mono ?_; rintro e w3 ⟨rfl, b3⟩
      have B3 := Lib.hid (below_trans B2.out b3)
      have G3 := Lib.hid (G2.out.below b3)
      clear b3
      go_wp2_with fail
      refine (P3.out _ B3.out).mono ?_; rintro e w4 ⟨A4, c4, rfl, p4, b4⟩
      have B4 := Lib.hid (below_trans B3.out b4)
      have G4 := Lib.hid (G3.out.below b4)
      have Q4 := Lib.hid p4
      clear b4 p4
      go_wp2_with fail
      go_loopw [7, 8] (fun p i wr => ∃ (k : Nat) (A5 : Option Addr) (c5 : Nat), k ≤ ps.length ∧ i = .int .i64 (k : Int) ∧ p = .slice A5 (ps.take k).flatten.length c5 ∧ wr.ownsRow w4.heap.size 98 4 p (ps.take k).flatten.length (RowV encE (ps.take k).flatten) ∧ Below w4.heap.size w4 wr) (fun _ i _ => ps.length - (intOf i).toNat)
      case atStart => exact ⟨0, none, 0, Nat.zero_le _, rfl, rfl, own_nil_k layE _ _ _, Below.refl _ _⟩
      case round =>
        obtain ⟨k, A5, c5, hk, rfl, rfl, ho, hb⟩ := hrel
        have HO := Lib.hid ho
        have HB := Lib.hid hb
        clear ho hb
        by_cases hlt : k < ps.length
        · have hea := List.getElem?_eq_getElem hlt
          obtain ⟨p, hp⟩ : ∃ p, p = ps[k] := ⟨_, rfl⟩
          have htk : (ps.take (k + 1)).flatten = (ps.take k).flatten ++ p := by rw [List.take_add_one, hea, ← hp, List.flatten_append]; simp
          have hpm : p ∈ ps := by rw [hp]; exact List.getElem_mem hlt
          have hmk : (ps.map catE)[k]? = some (catE p) := by rw [List.getElem?_map, hea, ← hp]; rfl
          have hfb := HFB.out k
          generalize (ps.take k).flatten = fl at HO htk hfb ⊢
          have HTK := Lib.hid htk
          have hpb := HPB.out p hpm
          have hpos := HNE.out p hpm
          obtain ⟨g1, A6, c6, h6, rfl, hc6, s6⟩ := (G4.out.below HB.out).at_ hmk
          obtain ⟨g2, A7, c7, h7, rfl, hc7, s7⟩ := (Q4.out.below HB.out).at_ hmk
          have P6 := Lib.hid (fun W (k : Below wr.heap.size wr W) => P4.out W p hpm A6 h6 c6 (s6.below k fun h => h))
          have LC6 := Lib.hid hc6
          have LC7 := Lib.hid hc7
          have S6 := Lib.hid s6
          have S7 := Lib.hid s7
          have e0 : (p.length == 0) = false := by rw [beq_eq_false_iff_ne]; omega
          have e1 : ((p.length : Int) == 0) = false := by rw [beq_eq_false_iff_ne]; omega
          generalize catE p = bp at hmk hc6 hc7 P6 LC6 LC7 S6 S7
          clear hea hp htk hpm hmk hc7 s6 s7 P4
          go_wp2_with fail
          refine (P6.out _ (Below.refl _ _)).mono ?_; rintro e w5 ⟨A8, c8, rfl, ⟨g8, s8⟩, b5⟩
          have B5 := Lib.hid (below_drew b5)
          have S8 := Lib.hid s8
          have S65 := Lib.hid (show SlB w5.drew h6 A6 bp from S6.out.below (below_drew b5) fun h => h)
          have S75 := Lib.hid (show SlB w5.drew h7 A7 bp from S7.out.below (below_drew b5) fun h => h)
          have L6 := Lib.hid (show w5.drew.cell? ⟨g1, k, none⟩ = some (.slice A6 bp.length c6) from (B5.out.cell (p := ⟨g1, k, none⟩) (block_lt_of_cell LC6.out)).trans LC6.out)
          have L7 := Lib.hid (show w5.drew.cell? ⟨g2, k, none⟩ = some (.slice A7 bp.length c7) from (B5.out.cell (p := ⟨g2, k, none⟩) (block_lt_of_cell LC7.out)).trans LC7.out)
          clear b5 hc6
          go_wp2_with fail
          refine wp_region_R (R := RB) (n := 20) (by kernel_rfl) rfl ?_
          refine batchB [0, 1, 2, 3, 4, 5, 6, 7, 8, 9, 10, 11, 12, 13, 14, 15, 16, 17, 18, 19] (fuel := 0) rfl (by kernel_rfl) (by kernel_rfl) (fun _ _ d _ _ h => by cases d <;> exact h) ?_
          (repeat (first | ((with_reducible apply wq0); rfl; rfl; rfl; intro K hK; go_big_quiet_op; refine hK _ ?_; clear hK K) | ((with_reducible apply wq1); rfl; rfl; rfl; rfl; rfl; rfl; intro K hK; go_big_quiet_op; refine hK _ ?_; clear hK K) | ((with_reducible apply wqs); rfl; rfl; rfl; rfl; rfl; rfl; simp only [Act.put, List.setIfInBounds_toArray, List.set_cons_zero, List.set_cons_succ]) | ((with_reducible apply wqu); rfl; rfl; rfl; rfl; rfl; (first | simp only [same, Act.put, List.setIfInBounds_toArray, List.set_cons_zero, List.set_cons_succ] | simp only [Act.put, List.setIfInBounds_toArray, List.set_cons_zero, List.set_cons_succ]))))
          refine wqIdx_load rfl rfl rfl rfl (fun W hW => load_sl_at _ A6 bp.length c6 W (keep_cell hW L6.out)) ?_
          simp only [Act.put, List.setIfInBounds_toArray, List.set_cons_zero, List.set_cons_succ]
          (repeat (first | ((with_reducible apply wq0); rfl; rfl; rfl; intro K hK; go_big_quiet_op; refine hK _ ?_; clear hK K) | ((with_reducible apply wq1); rfl; rfl; rfl; rfl; rfl; rfl; intro K hK; go_big_quiet_op; refine hK _ ?_; clear hK K) | ((with_reducible apply wqs); rfl; rfl; rfl; rfl; rfl; rfl; simp only [Act.put, List.setIfInBounds_toArray, List.set_cons_zero, List.set_cons_succ]) | ((with_reducible apply wqu); rfl; rfl; rfl; rfl; rfl; (first | simp only [same, Act.put, List.setIfInBounds_toArray, List.set_cons_zero, List.set_cons_succ] | simp only [Act.put, List.setIfInBounds_toArray, List.set_cons_zero, List.set_cons_succ]))))
          refine wqIdx_conv rfl rfl rfl rfl (conv_at S65.out c6 rfl) ?_
          simp only [Act.put, List.setIfInBounds_toArray, List.set_cons_zero, List.set_cons_succ]
          (repeat (first | ((with_reducible apply wq0); rfl; rfl; rfl; intro K hK; go_big_quiet_op; refine hK _ ?_; clear hK K) | ((with_reducible apply wq1); rfl; rfl; rfl; rfl; rfl; rfl; intro K hK; go_big_quiet_op; refine hK _ ?_; clear hK K) | ((with_reducible apply wqs); rfl; rfl; rfl; rfl; rfl; rfl; simp only [Act.put, List.setIfInBounds_toArray, List.set_cons_zero, List.set_cons_succ]) | ((with_reducible apply wqu); rfl; rfl; rfl; rfl; rfl; (first | simp only [same, Act.put, List.setIfInBounds_toArray, List.set_cons_zero, List.set_cons_succ] | simp only [Act.put, List.setIfInBounds_toArray, List.set_cons_zero, List.set_cons_succ]))))
          refine wqIdx_load rfl rfl rfl rfl (fun W hW => load_sl_at _ A7 bp.length c7 W (keep_cell hW L7.out)) ?_
          simp only [Act.put, List.setIfInBounds_toArray, List.set_cons_zero, List.set_cons_succ]
          (repeat (first | ((with_reducible apply wq0); rfl; rfl; rfl; intro K hK; go_big_quiet_op; refine hK _ ?_; clear hK K) | ((with_reducible apply wq1); rfl; rfl; rfl; rfl; rfl; rfl; intro K hK; go_big_quiet_op; refine hK _ ?_; clear hK K) | ((with_reducible apply wqs); rfl; rfl; rfl; rfl; rfl; rfl; simp only [Act.put, List.setIfInBounds_toArray, List.set_cons_zero, List.set_cons_succ]) | ((with_reducible apply wqu); rfl; rfl; rfl; rfl; rfl; (first | simp only [same, Act.put, List.setIfInBounds_toArray, List.set_cons_zero, List.set_cons_succ] | simp only [Act.put, List.setIfInBounds_toArray, List.set_cons_zero, List.set_cons_succ]))))
          refine wqIdx_conv rfl rfl rfl rfl (conv_at S75.out c7 rfl) ?_
          simp only [Act.put, List.setIfInBounds_toArray, List.set_cons_zero, List.set_cons_succ]
          (repeat (first | ((with_reducible apply wq0); rfl; rfl; rfl; intro K hK; go_big_quiet_op; refine hK _ ?_; clear hK K) | ((with_reducible apply wq1); rfl; rfl; rfl; rfl; rfl; rfl; intro K hK; go_big_quiet_op; refine hK _ ?_; clear hK K) | ((with_reducible apply wqs); rfl; rfl; rfl; rfl; rfl; rfl; simp only [Act.put, List.setIfInBounds_toArray, List.set_cons_zero, List.set_cons_succ]) | ((with_reducible apply wqu); rfl; rfl; rfl; rfl; rfl; (first | simp only [same, Act.put, List.setIfInBounds_toArray, List.set_cons_zero, List.set_cons_succ] | simp only [Act.put, List.setIfInBounds_toArray, List.set_cons_zero, List.set_cons_succ]))))
          refine wqIdx_nil ?_
          refine wpAnyR_done (by kernel_rfl) ?_ _
          have HO5 := Lib.hid (own_below HO.out B5.out)
          have R8 := Lib.hid (SlK.reads layE (show SlK encE w5.drew g8 A8 p from S8.out) rfl)
          have HS5 := Lib.hid (Nat.le_trans HB.out.size B5.out.size)
          go_wp2_with (at_builtin; (refine wpList_appK layE (ys := p) _ rfl (.tmp 85) (.tmp 86) _ rfl Try.underlying54 info_en3 rfl HO5.out R8.out c8 rfl rfl (by omega) (by decide) HS5.out ?_); intro A9 c9 w9 o9 gr9; have O9 := Lib.hid o9; have G9 := Lib.hid (Grew.by_ gr9); clear o9 gr9)
          refine ⟨⟨k + 1, A9, c9, by omega, by go_num, by rw [HTK.out, List.length_append], by rw [HTK.out, List.length_append]; exact O9.out, (below_trans HB.out B5.out).grown G9.out HS5.out fun i hi => (World.ownsRow.lt HO5.out i hi).1⟩, by simp [intOf]; omega⟩
        · obtain rfl : k = ps.length := by omega
          rw [List.take_length, HF.out] at HO
          rw [List.take_length, HF.out]
          obtain ⟨g9, -, s9, -⟩ := SlK.of_own layE HO.out
          have S9 := Lib.hid s9
          clear s9
          go_wp2_with fail
          refine (P5.out _ _ _ _ S9.out (below_trans B4.out HB.out)).mono ?_; rintro e w6 ⟨rfl, b6⟩
          have B6 := Lib.hid (below_trans (below_trans B4.out HB.out) b6)
          go_wp2
          go_ret
          exact ⟨rfl, B6.out⟩
    · have d0 : (mayEs l == 0) = false := by rw [beq_eq_false_iff_ne]; exact h0
      have P1 := Lib.hid ((en_pack_any A h l c w HS.out (by omega)).mono (R' := fun e w' => e = .returned (.tuple #[.slice none 0 0, .int .i64 (mayEs l)]) ∧ Below w.heap.size w w') fun e w' => by
        rintro (⟨-, he, hb⟩ | ⟨hz, -⟩)
        · exact ⟨he, hb⟩
        · exact absurd hz h0)
      generalize mayEs l = z at P1 P2 d0
      have hcase : decide ((1000 : Int) < (l.length : Int)) = false ∨ (decide ((1000 : Int) < (l.length : Int)) = true ∧ decide ((l.length : Int) ≤ (16384 : Int)) = false) := by
        by_cases h1 : l.length ≤ 1000
        · left; rw [decide_eq_false_iff_not]; omega
        · right
          exact ⟨by rw [decide_eq_true_eq]; omega, by rw [decide_eq_false_iff_not]; omega⟩
      clear h0 hbig hlen
      rcases hcase with d1 | ⟨d1, d2⟩
      all_goals
        go_enter Try.func6, Try.ntmps6
        go_wp2_with fail
        refine P1.out.mono ?_; rintro e w1 ⟨rfl, b1⟩
        have B1 := Lib.hid b1
        clear b1
        go_wp2_with fail
        refine (P2.out _ B1.out).mono ?_; rintro e w2 ⟨rfl, b2⟩
        have B2 := Lib.hid (below_trans B1.out b2)
        clear b2
        go_wp2_with fail
        refine (PL.out _).mono ?_; rintro e w3 ⟨rfl, b3⟩
        have B3 := Lib.hid (below_trans B2.out b3)
        clear b3
        go_wp2
        go_ret
        exact ⟨rfl, B3.out⟩
end Go.Proofs.Ytalefgcdhakfoaa
