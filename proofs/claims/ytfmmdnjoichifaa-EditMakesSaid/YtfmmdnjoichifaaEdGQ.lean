/- Parts of the proofs about edit, joined. -/
import Derived.Test.YtfmmdnjoichifaaEdDF
import Derived.Test.YtfmmdnjoichifaaEdAC
import Derived.Test.YtfmmdnjoichifaaNumU
namespace Go.Proofs.Ytfmmdnjoichifaa
open Go.RowKit Go.Sort

def RGetAns (w : World) (z : Option Ed) (e : Ending) (w' : World) : Prop :=
  (z = none ∧ e = .returned (.tuple #[.agg edZ, .bool false]) ∧ Below w.heap.size w w') ∨
    ∃ x A c, z = some x ∧ e = .returned (.tuple #[edV x A c, .bool true]) ∧ RfAt w' 0 A x.refs ∧ Below w.heap.size w w'
theorem rd_new (w : World) (A : Option Addr) (h : Nat) (b : List UInt8) (c : Nat) (s : SlB w h A b) (hc : b.length ≤ c) (hm : c ≤ maxLen) :
    ∃ h', (b ≠ [] → h' < w.heap.size) ∧ RdAt 130 (w.alloc (.cells #[.slice A b.length c, .bool false] 130)) w.heap.size h' (some b) := by
  by_cases hb : b = []
  · subst hb
    exact ⟨w.heap.size + 1, fun h => absurd rfl h, A, c, [], Blk.new w _ _, by omega, hc, hm, SlB.nil _ _ _, fun r hr => by injection hr with hr; exact hr.symm⟩
  · have hlt := s.lt hb
    exact ⟨h, fun _ => hlt, A, c, b, Blk.new w _ _, by omega, hc, hm, s.below (alloc_below w _) fun h => h, fun r hr => by injection hr with hr; exact hr.symm⟩
theorem rd_some {T : TypeId} {w : World} {g h : Nat} {l : List UInt8} (r : RdAt T w g h (some l)) : ∃ A c, w.cell? ⟨g, 0, none⟩ = some (.slice A l.length c) ∧ w.cell? ⟨g, 1, none⟩ = some (.bool false) := by
  obtain ⟨A, c, l', hb, -, -, -, -, hr⟩ := r
  have := hr l rfl
  subst this
  exact ⟨A, c, hb.cell 0, hb.cell 1⟩
theorem own_caps {w : World} {base e n c : Nat} {A : Option Addr} {xs : List Value} (h : w.ownsRow base e 1 (.slice A n c) n xs) : n ≤ c ∧ c ≤ maxLen := by
  rcases h.2 with ⟨hv, h0⟩ | ⟨g, cap, cur, hv, hb, hh, hnc, hcm, hcs, ht⟩
  · injection hv with h1 h2 h3
    subst h2 h3
    exact ⟨Nat.le_refl _, by decide⟩
  · injection hv with h1 h2 h3
    subst h3
    exact ⟨hnc, hcm⟩
theorem own_emptyB (w : World) (t : TypeId) : (w.alloc (.cells #[] t)).ownsRow w.heap.size t 1 (.slice (some ⟨w.heap.size, 0, none⟩) 0 0) 0 (Byt []) :=
  ⟨by simp [Byt], .inr ⟨w.heap.size, 0, #[], rfl, Nat.le_refl _, heap_alloc_new w _, Nat.le_refl _, by decide, by simp, by simp [Byt]⟩⟩
theorem takeM_none_st (n : Int) : (takeM n none).2 = none := rfl
theorem refM_none : (refM none).2 = none := by
  have h : (textM 24 none).2 = none := by
    unfold textM
    simp only
    split <;> rfl
  unfold refM
  simp only
  rw [h]
  rfl
theorem refsM_none : ∀ n, (refsM n none).2 = none
  | 0 => rfl
  | n + 1 => by
    show (refsM n (refM none).2).2 = none
    rw [refM_none]
    exact refsM_none n
theorem textM_good {most : Int} {s : Option (List UInt8)} (h : Good s) : Good (textM most s).2 := by
  unfold textM
  simp only
  split
  · intro l hl; cases hl
  · exact takeM_good (numM_good h)
theorem refM_good {s : Option (List UInt8)} (h : Good s) : Good (refM s).2 := numM_good (numM_good (textM_good h))
/-- What the document reads is what the program reads. -/
theorem getM_by {b : List UInt8} {k ep rd n : Nat} {s1 s2 s3 s4 : Option (List UInt8)} (h1 : numM (some b) = (k, s1)) (h2 : numM s1 = (ep, s2)) (h3 : numM s2 = (rd, s3)) (h4 : numM s3 = (n, s4)) :
    getM b = if s4 = none ∨ 256 < n then none else if doneM (refsM n s4).2 ≠ 0 then none else if okEd ⟨k, ep, rd, (refsM n s4).1⟩ then some ⟨k, ep, rd, (refsM n s4).1⟩ else none := by
  have hs : readS s1 = s3 := by unfold readS; rw [h2]; simp only; rw [h3]
  have hm : readMo s1 = if s3 = none then ((0, 0), 10) else if okMo ((ep : Int), (rd : Int)) = true then (((ep : Int), (rd : Int)), 0) else ((0, 0), 40) := by unfold readMo; rw [h2]; simp only; rw [h3]
  unfold getM
  rw [h1]
  simp only
  rw [hs, h4, hm]
  simp only
  by_cases e3 : s3 = none
  · subst e3
    have e4 : s4 = none := by rw [numM_none] at h4; exact (congrArg Prod.snd h4).symm
    rw [if_pos rfl, if_pos (by simp), if_pos (Or.inl e4 : s4 = none ∨ 256 < n)]
  · rw [if_neg e3]
    cases hok : okMo ((ep : Int), (rd : Int))
    · simp only [Bool.false_eq_true, if_false]
      rw [if_pos (by decide)]
      by_cases e5 : s4 = none ∨ 256 < n
      · rw [if_pos e5]
      · rw [if_neg e5]
        split
        · rfl
        · rw [if_neg]
          intro h
          have := ((okEd_iff _).1 h).2.1
          simp only at this
          rw [hok] at this
          cases this
    · simp only [if_true]
      rw [if_neg (by simp)]
      by_cases e4 : s4 = none
      · rw [if_pos (Or.inl e4 : s4 = none ∨ 256 < n)]
        split
        · rfl
        · rw [e4, refsM_none, if_pos (by decide)]
      · by_cases e5 : 256 < n
        · rw [if_pos e5, if_pos (Or.inr e5 : s4 = none ∨ 256 < n)]
        · rw [if_neg e5, if_neg (show ¬ (s4 = none ∨ 256 < n) from fun h => h.elim e4 e5)]
theorem rfV_build (s : ByteArray) (b n : Int) (w : World) : (Instr.build 110 #[(0, .string s), (1, .int .i64 b), (2, .int .i64 n)]).run Try.prog w = .ok (.agg #[.string s, .int .i64 b, .int .i64 n]) w := by kernel_rfl
set_option maxRecDepth 100000 in
set_option maxHeartbeats 8000000 in
theorem red_get_any (A : Option Addr) (h : Nat) (b : List UInt8) (c : Nat) (w : World) (hl : SlB w h A b) (hn : b.length ≤ 100000) :
    Calls Try.prog 31 #[.slice A b.length c] w (RGetAns w (getM b)) := by
  have K0 := Lib.hid (Blk.new w 50 edZ)
  have b0 := alloc_below w (.cells edZ 50)
  have b00 := alloc_below (w.alloc (.cells edZ 50)) (.cells #[] 5)
  have ba := below_trans b0 b00
  have ho0 := own_emptyB (w.alloc (.cells edZ 50)) 5
  rw [World.size_alloc] at ho0
  have HO0 := Lib.hid ho0
  have HR0 := Lib.hid ((hl.below ba fun h => h).reads (n := b.length) rfl)
  have BA := Lib.hid ba
  have K1 := Lib.hid (K0.out.later b00)
  have HS0 := Lib.hid (show w.heap.size + 1 ≤ ((w.alloc (.cells edZ 50)).alloc (.cells #[] 5)).heap.size by rw [World.size_alloc, World.size_alloc]; omega)
  obtain ⟨k, s1, hk⟩ : ∃ k s1, numM (some b) = (k, s1) := ⟨_, _, rfl⟩
  obtain ⟨ep, s2, hep⟩ : ∃ k s2, numM s1 = (k, s2) := ⟨_, _, rfl⟩
  obtain ⟨rd, s3, hrd⟩ : ∃ k s3, numM s2 = (k, s3) := ⟨_, _, rfl⟩
  obtain ⟨n, s4, hn4⟩ : ∃ k s4, numM s3 = (k, s4) := ⟨_, _, rfl⟩
  have hget := getM_by hk hep hrd hn4
  have g0 : Good (some b) := fun l e => by injection e with e; subst e; omega
  have g1 : Good s1 := by have := numM_good g0; rwa [hk] at this
  have g2 : Good s2 := by have := numM_good g1; rwa [hep] at this
  have g3 : Good s3 := by have := numM_good g2; rwa [hrd] at this
  have g4 : Good s4 := by have := numM_good g3; rwa [hn4] at this
  generalize getM b = Z at hget ⊢
  have HG := Lib.hid hget
  have HK := Lib.hid (And.intro hk (And.intro hep (And.intro hrd hn4)))
  have GO := Lib.hid (And.intro g0 (And.intro g1 (And.intro g2 (And.intro g3 g4))))
  clear hl ba b0 b00 hk hep hrd hn4 hget g0 g1 g2 g3 g4 K0 ho0
  unfold edZ at *
  go_enter Try.func31, Try.ntmps31
  go_wp2_with (at_builtin; (refine wpList_appB (xs := []) (ys := b) _ rfl (.tmp 8) (.tmp 9) _ rfl Try.underlying30 info_b HO0.out HR0.out c rfl rfl (by omega) HS0.out ?_); intro A1 c1 w1 o1 gr1; have O1 := Lib.hid o1; have G1 := Lib.hid (Grew.by_ gr1); clear o1 gr1)
  have o1 := O1.out
  rw [Nat.zero_add, List.nil_append] at o1
  obtain ⟨h0, -, s0, -⟩ := SlB.of_own o1
  obtain ⟨hnc, hcm⟩ := own_caps o1
  obtain ⟨h1, hh1, r1⟩ := rd_new w1 A1 h0 b c1 s0 hnc hcm
  have b1 : Below w.heap.size w w1 := BA.out.grown G1.out BA.out.size fun i hi => by have := (World.ownsRow.lt HO0.out i hi).1; omega
  have b2 := b1.alloc b1.size (.cells #[.slice A1 b.length c1, .bool false] 130)
  have hgl := r1.lt
  have hg0 : w.heap.size + 2 ≤ w1.heap.size := by have := G1.out.size; rw [World.size_alloc, World.size_alloc] at this; omega
  have K2 := Lib.hid ((K1.out.grown G1.out fun e => by have := (World.ownsRow.lt HO0.out _ e.symm).1; omega).later (alloc_below w1 (.cells #[.slice A1 b.length c1, .bool false] 130)))
  obtain ⟨w2, hw2⟩ : ∃ w2, w2 = w1.alloc (.cells #[.slice A1 b.length c1, .bool false] 130) := ⟨_, rfl⟩
  have hsz : w2.heap.size = w1.heap.size + 1 := by rw [hw2, World.size_alloc]
  rw [show w1.alloc (.cells #[.slice A1 b.length c1, .bool false] 130) = w2 from hw2.symm] at r1 b2 hgl K2 ⊢
  generalize hgg : w1.heap.size = g at r1 hgl hg0 hsz ⊢
  obtain ⟨h2, r2, hh2⟩ := r1.nearby (h0 := w.heap.size) (by omega) (by omega)
  have R2 := Lib.hid r2
  have B2 := Lib.hid b2
  clear r1 r2 b1 b2 s0 o1 hnc hcm hh1 hw2 O1 G1 HO0 HR0 HS0 BA K1 hgg
  go_wp2_with fail
  refine (rnum_at g h2 (some b) _ R2.out GO.out.1).mono ?_
  rw [HK.out.1]
  rintro e w3 ⟨rfl, r3, g3⟩
  have K3 := Lib.hid (K2.out.grown g3 (by simp; omega))
  have B3 := Lib.hid (B2.out.grown g3 (by omega) fun i hi => by injection hi with hi; omega)
  have hs3 := g3.size
  have R3 := Lib.hid r3
  clear r3 g3
  go_wp2_with fail
  refine (rnum_at g h2 s1 _ R3.out GO.out.2.1).mono ?_
  rw [HK.out.2.1]
  rintro e w4 ⟨rfl, r4, g4⟩
  have K4 := Lib.hid (K3.out.grown g4 (by simp; omega))
  have B4 := Lib.hid (B3.out.grown g4 (by omega) fun i hi => by injection hi with hi; omega)
  have hs4 := g4.size
  have R4 := Lib.hid r4
  clear r4 g4
  go_wp2_with fail
  refine (rnum_at g h2 s2 _ R4.out GO.out.2.2.1).mono ?_
  rw [HK.out.2.2.1]
  rintro e w5 ⟨rfl, r5, g5⟩
  have K5 := Lib.hid ((K4.out.grown g5 (by simp; omega)).later (alloc_below w5 (.cells #[.int .i64 (k : Int), .int .i64 (ep : Int), .int .i64 (rd : Int), .slice none 0 0] 50)))
  have B5 := Lib.hid ((B4.out.grown g5 (by omega) fun i hi => by injection hi with hi; omega).alloc (by have := g5.size; omega) (.cells #[.int .i64 (k : Int), .int .i64 (ep : Int), .int .i64 (rd : Int), .slice none 0 0] 50))
  have hs5 := g5.size
  have R5 := Lib.hid (r5.below (alloc_below w5 (.cells #[.int .i64 (k : Int), .int .i64 (ep : Int), .int .i64 (rd : Int), .slice none 0 0] 50)))
  have E5 := Lib.hid (Blk.new w5 50 #[.int .i64 (k : Int), .int .i64 (ep : Int), .int .i64 (rd : Int), .slice none 0 0])
  have hE : w.heap.size < w5.heap.size := by omega
  clear r5 g5 K2 K3 K4 R2 R3 R4 B2 B3 B4
  go_wp2_with fail
  refine (rnum_at g h2 s3 _ R5.out GO.out.2.2.2.1).mono ?_
  rw [HK.out.2.2.2]
  rintro e w6 ⟨rfl, r6, g6⟩
  have hs6 := g6.size
  rw [World.size_alloc] at hs6
  have K6 := Lib.hid (K5.out.grown g6 (by simp; omega))
  have E6 := Lib.hid (E5.out.grown g6 (by simp; omega))
  have B6 := Lib.hid (B5.out.grown g6 (by rw [World.size_alloc]; omega) fun i hi => by injection hi with hi; omega)
  have R6 := Lib.hid r6
  clear r6 g6 K5 E5 B5 R5
  obtain ⟨Ar, cr, lr, k0r, k1r, -, -, -, -, -⟩ := rd_cells R6.out
  by_cases her : s4 = none ∨ 256 < n
  · have hz : Z = none := by rw [HG.out, if_pos her]
    have HZ := Lib.hid hz
    have k0 := K6.out.cell 0
    have k1 := K6.out.cell 1
    have k2 := K6.out.cell 2
    have k3 := K6.out.cell 3
    simp at k0 k1 k2 k3
    have z0 := K6.out.frozen 0
    have z1 := K6.out.frozen 1
    have z2 := K6.out.frozen 2
    have z3 := K6.out.frozen 3
    have HRES := Lib.hid (show Blk ((((w6.setCell ⟨w.heap.size, 0, none⟩ (.int .i64 0)).setCell ⟨w.heap.size, 1, none⟩ (.int .i64 0)).setCell ⟨w.heap.size, 2, none⟩ (.int .i64 0)).setCell ⟨w.heap.size, 3, none⟩ (.slice none 0 0)) w.heap.size 50 edZ from (((K6.out.set_ 0 (.int .i64 0)).set_ 1 (.int .i64 0)).set_ 2 (.int .i64 0)).set_ 3 (.slice none 0 0))
    have HBL := Lib.hid (show Below w.heap.size w ((((w6.setCell ⟨w.heap.size, 0, none⟩ (.int .i64 0)).setCell ⟨w.heap.size, 1, none⟩ (.int .i64 0)).setCell ⟨w.heap.size, 2, none⟩ (.int .i64 0)).setCell ⟨w.heap.size, 3, none⟩ (.slice none 0 0)) from below_setCell (below_setCell (below_setCell (below_setCell B6.out (Nat.le_refl _) _) (Nat.le_refl _) _) (Nat.le_refl _) _) (Nat.le_refl _) _)
    clear hz HG
    by_cases e4 : s4 = none
    · subst e4
      simp only [Option.isNone_none] at k1r
      clear her
      go_wp2
      refine bodyPost_ret (results_cell_tmp_row rfl _ _ w.heap.size 50 edZ (0, 0) _ rfl HRES.out Try.underlying50 rfl info_edS) rfl ?_
      exact .inl ⟨HZ.out, rfl, HBL.out⟩
    · have e5 : 256 < n := her.resolve_left e4
      have k1r' : w6.cell? ⟨g, 1, none⟩ = some (.bool false) := by
        rw [k1r]
        cases s4 with
        | none => exact absurd rfl e4
        | some l => rfl
      have d1 : decide ((n : Int) > 256) = true := by rw [decide_eq_true_eq]; omega
      clear her e4 e5 k1r
      go_wp2
      refine bodyPost_ret (results_cell_tmp_row rfl _ _ w.heap.size 50 edZ (0, 0) _ rfl HRES.out Try.underlying50 rfl info_edS) rfl ?_
      exact .inl ⟨HZ.out, rfl, HBL.out⟩
  · have e4 : s4 ≠ none := fun e => her (.inl e)
    have hn256 : n ≤ 256 := by
      have : ¬ 256 < n := fun e => her (.inr e)
      omega
    have k1r' : w6.cell? ⟨g, 1, none⟩ = some (.bool false) := by
      rw [k1r]
      cases s4 with
      | none => exact absurd rfl e4
      | some l => rfl
    have d1 : decide ((n : Int) > 256) = false := by rw [decide_eq_false_iff_not]; omega
    have hg := HG.out
    rw [if_neg her] at hg
    have HG2 := Lib.hid hg
    clear hg HG her e4 k1r
    go_wp2_with fail
    go_loopw [7] (fun i wr => ∃ (j : Nat) (lk : List Rf) (sk : Option (List UInt8)) (A3 : Option Addr) (c3 : Nat), j ≤ n ∧ i = .int .i64 (j : Int) ∧ refsM j s4 = (lk, sk) ∧ Good sk ∧ Blk wr w5.heap.size 50 #[.int .i64 (k : Int), .int .i64 (ep : Int), .int .i64 (rd : Int), .slice A3 lk.length c3] ∧ wr.ownsRow w6.heap.size 110 3 (.slice A3 lk.length c3) lk.length (RowV encRf lk) ∧ RdAt 130 wr g h2 sk ∧ Blk wr w.heap.size 50 edZ ∧ w6.heap.size ≤ wr.heap.size ∧ Below w.heap.size w wr) (fun i _ => n - (intOf i).toNat)
    case atStart => exact ⟨0, [], s4, none, 0, Nat.zero_le _, rfl, rfl, GO.out.2.2.2.2, E6.out, own_nil_k layRf _ _ _, R6.out, K6.out, Nat.le_refl _, B6.out⟩
    case round =>
      obtain ⟨j, lk, sk, A3, c3, hj, rfl, hlk, hgood, he, ho, hr, hz, hsz2, hb⟩ := hrel
      have HLK := Lib.hid hlk
      have HLEN := Lib.hid (show lk.length = j by have := refsM_len j s4; rwa [hlk] at this)
      have E := Lib.hid he
      have O := Lib.hid ho
      have R := Lib.hid hr
      have ZB := Lib.hid hz
      have B := Lib.hid hb
      have GD := Lib.hid hgood
      clear hlk he ho hr hz hb hgood k0r k1r'
      by_cases hlt : j < n
      · have HE3 := Lib.hid (E.out.cell 3)
        have HSN := Lib.hid (refsM_snoc j s4)
        have GD2 := Lib.hid (refM_good GD.out)
        rw [HLK.out] at HSN
        simp only at HSN
        obtain ⟨t, u1, ht⟩ : ∃ t u1, textM 24 sk = (t, u1) := ⟨_, _, rfl⟩
        obtain ⟨xb, u2, hxb⟩ : ∃ x u2, numM u1 = (x, u2) := ⟨_, _, rfl⟩
        obtain ⟨xc, u3, hxc⟩ : ∃ x u3, numM u2 = (x, u3) := ⟨_, _, rfl⟩
        have hrf : refM sk = (⟨⟨t.toArray⟩, xb, xc⟩, u3) := by unfold refM; rw [ht]; simp only; rw [hxb]; simp only; rw [hxc]
        rw [hrf] at HSN GD2
        simp only at HSN GD2
        have v1 : Good u1 := by have := textM_good (most := 24) GD.out; rwa [ht] at this
        have v2 : Good u2 := by have := numM_good v1; rwa [hxb] at this
        have PT := Lib.hid (fun W (r : RdAt 130 W g h2 sk) => rrtext_at g h2 24 sk W r GD.out)
        rw [ht] at PT
        simp only at PT
        have PB := Lib.hid (fun W (r : RdAt 130 W g h2 u1) => rnum_at g h2 u1 W r v1)
        rw [hxb] at PB
        have PC := Lib.hid (fun W (r : RdAt 130 W g h2 u2) => rnum_at g h2 u2 W r v2)
        rw [hxc] at PC
        generalize (⟨t.toArray⟩ : ByteArray) = sb at PT HSN
        clear ht hxb hxc hrf v1 v2
        go_wp2_with fail
        have HLT := Lib.hid hlt
        clear hlt
        have NEG := Lib.hid (show ¬ w5.heap.size = g by omega)
        refine wp_region_JR (RK fun q => q = g) RT [10, 12] (n := 13) (by kernel_rfl) rfl ?_
        refine batchJR (RK.refl _) (RK.trans _) RT.refl [0, 1, 2, 4, 6] (fuel := 8) rfl (by kernel_rfl) (by kernel_rfl) (fun _ _ d _ _ h => by cases d <;> exact h) ?_
        (repeat (first | ((with_reducible apply wq0); rfl; rfl; rfl; intro K hK; go_big_quiet_op; refine hK _ ?_; clear hK K) | ((with_reducible apply wq1); rfl; rfl; rfl; rfl; rfl; rfl; intro K hK; go_big_quiet_op; refine hK _ ?_; clear hK K) | ((with_reducible apply wqs); rfl; rfl; rfl; rfl; rfl; rfl; simp only [Act.put, List.setIfInBounds_toArray, List.set_cons_zero, List.set_cons_succ]) | ((with_reducible apply wqu); rfl; rfl; rfl; rfl; rfl; (first | simp only [same, Act.put, List.setIfInBounds_toArray, List.set_cons_zero, List.set_cons_succ] | simp only [Act.put, List.setIfInBounds_toArray, List.set_cons_zero, List.set_cons_succ]))))
        refine wqIdx_load rfl rfl rfl rfl (fun W hW => run_load1 (fun _ => by kernel_rfl) (keep_k hW (NEG.out) (HE3.out))) ?_; simp only [Act.put, List.setIfInBounds_toArray, List.set_cons_zero, List.set_cons_succ]
        (repeat (first | ((with_reducible apply wq0); rfl; rfl; rfl; intro K hK; go_big_quiet_op; refine hK _ ?_; clear hK K) | ((with_reducible apply wq1); rfl; rfl; rfl; rfl; rfl; rfl; intro K hK; go_big_quiet_op; refine hK _ ?_; clear hK K) | ((with_reducible apply wqs); rfl; rfl; rfl; rfl; rfl; rfl; simp only [Act.put, List.setIfInBounds_toArray, List.set_cons_zero, List.set_cons_succ]) | ((with_reducible apply wqu); rfl; rfl; rfl; rfl; rfl; (first | simp only [same, Act.put, List.setIfInBounds_toArray, List.set_cons_zero, List.set_cons_succ] | simp only [Act.put, List.setIfInBounds_toArray, List.set_cons_zero, List.set_cons_succ]))))
        refine wqIdx_nil ?_
        have hrow : ∀ i, (Value.slice A3 lk.length c3).ownBlock = some i → w6.heap.size ≤ i := fun i hi => (World.ownsRow.lt O.out i hi).1
        have hnr : (Value.slice A3 lk.length c3).ownBlock = none ∨ (Value.slice A3 lk.length c3).ownBlock ≠ some g := by
          rcases hob : (Value.slice A3 lk.length c3).ownBlock with _ | gg
          · exact .inl rfl
          · refine .inr fun e => ?_
            injection e with e
            have := hrow gg hob
            omega
        have HNR := Lib.hid hnr
        clear hnr hrow
        refine wpAnyJ_sole (i := 3) rfl (by kernel_rfl) (fun K hK => ?_); go_simp
        refine (PT.out wr.drew R.out).mono ?_
        rintro x w7 ⟨rfl, r7, g7⟩
        refine hK _ _ ⟨fun _ => rk_of_grown g7 (fun i hi => by injection hi with hi; exact hi.symm), trivial⟩ ?_
        clear hK K PT HE3
        have E7 := Lib.hid ((show Blk wr.drew w5.heap.size 50 #[.int .i64 (k : Int), .int .i64 (ep : Int), .int .i64 (rd : Int), .slice A3 lk.length c3] from E.out).grown g7 (by simp; omega))
        have Z7 := Lib.hid ((show Blk wr.drew w.heap.size 50 edZ from ZB.out).grown g7 (by simp; omega))
        have O7 := Lib.hid ((World.ownsRow.drew O.out).kept g7 HNR.out)
        have hs7 : wr.heap.size ≤ w7.heap.size := g7.size
        have B7 := Lib.hid (B.out.trans (show Below w.heap.size wr w7 from ⟨g7.os, g7.tape, g7.output, g7.size, fun i hi => g7.block i (by have := B.out.size; show i < wr.heap.size; omega) (fun e => by injection e with e; omega)⟩))
        have R7 := Lib.hid r7
        clear r7 g7 E ZB O R B
        refine wpAnyJ_sole (i := 5) rfl (by kernel_rfl) (fun K hK => ?_); go_simp
        refine (PB.out _ R7.out).mono ?_
        rintro x w8 ⟨rfl, r8, g8⟩
        refine hK _ _ ⟨fun _ => rk_of_grown g8 (fun i hi => by injection hi with hi; exact hi.symm), trivial⟩ ?_
        clear hK K PB
        have E8 := Lib.hid (E7.out.grown g8 (by simp; omega))
        have Z8 := Lib.hid (Z7.out.grown g8 (by simp; omega))
        have O8 := Lib.hid (O7.out.kept g8 HNR.out)
        have hs8 : w7.heap.size ≤ w8.heap.size := g8.size
        have B8 := Lib.hid (B7.out.grown g8 (by omega) fun i hi => by injection hi with hi; omega)
        have R8 := Lib.hid r8
        clear r8 g8 E7 Z7 O7 R7 B7
        refine wpAnyJ_sole (i := 7) rfl (by kernel_rfl) (fun K hK => ?_); go_simp
        refine (PC.out _ R8.out).mono ?_
        rintro x w9 ⟨rfl, r9, g9⟩
        refine hK _ _ ⟨fun _ => rk_of_grown g9 (fun i hi => by injection hi with hi; exact hi.symm), trivial⟩ ?_
        clear hK K PC
        have E9 := Lib.hid (E8.out.grown g9 (by simp; omega))
        have Z9 := Lib.hid (Z8.out.grown g9 (by simp; omega))
        have O9 := Lib.hid (O8.out.kept g9 HNR.out)
        have hs9 : w8.heap.size ≤ w9.heap.size := g9.size
        have B9 := Lib.hid (B8.out.grown g9 (by omega) fun i hi => by injection hi with hi; omega)
        have R9 := Lib.hid r9
        clear r9 g9 E8 Z8 O8 R8 B8
        refine batchPR (RK.refl _) RT.refl RT.trans [8] (fuel := 4) rfl (by kernel_rfl) (by kernel_rfl) (fun _ _ d _ _ h => by cases d <;> exact h) ?_
        refine wqIdx_build rfl rfl rfl (fun w => rfV_build sb (xb : Int) (xc : Int) w) rfl ?_; simp only [Act.put, List.setIfInBounds_toArray, List.set_cons_zero, List.set_cons_succ]
        refine wqIdx_nil ?_
        refine wpAnyJ_sole (i := 9) rfl (by kernel_rfl) (fun K hK => ?_); rw [if_pos (wanted0 rfl _)]
        refine wp_buildSlice_one (.tmp 45) rfl (cs := encRf ⟨sb, xb, xc⟩) rfl Try.underlying48 info_rfS (by decide) (by decide) (layRf.len _) (zero_rf _) rfl ?_
        have b10 := alloc_below w9 (.cells (encRf ⟨sb, xb, xc⟩).toArray 110)
        refine hK _ _ ⟨fun _ => rk_of_below b10, trivial⟩ ?_
        clear hK K
        simp only [Act.put, List.setIfInBounds_toArray, List.set_cons_zero, List.set_cons_succ]
        have E10 := Lib.hid (E9.out.later b10)
        have Z10 := Lib.hid (Z9.out.later b10)
        have O10 := Lib.hid (own_below O9.out b10)
        have R10 := Lib.hid (R9.out.below b10)
        have B10 := Lib.hid (B9.out.trans (b10.mono B9.out.size))
        have HRX := Lib.hid (reads_oneK layRf w9 ⟨sb, xb, xc⟩ 110)
        have HSZ := Lib.hid (show w6.heap.size ≤ (w9.alloc (.cells (encRf ⟨sb, xb, xc⟩).toArray 110)).heap.size by rw [World.size_alloc]; omega)
        clear b10
        refine wpAnyJ_sole (i := 10) rfl (by kernel_rfl) (fun K hK => ?_); rw [if_pos (wanted0 rfl _)]
        refine wp_appK layRf (ys := [⟨sb, xb, xc⟩]) (.tmp 38) (.tmp 46) _ rfl Try.underlying48 info_rf rfl O10.out HRX.out 1 rfl rfl (by have := HLEN.out; omega) (by decide) HSZ.out ?_
        intro A5 c5 w11 o11 gr11
        refine hK _ _ ⟨fun hc => absurd (by decide) hc, trivial⟩ ?_
        clear hK K
        simp only [Act.put, List.setIfInBounds_toArray, List.set_cons_zero, List.set_cons_succ]
        have hrow : ∀ i, (Value.slice A3 lk.length c3).ownBlock = some i → w6.heap.size ≤ i := fun i hi => (World.ownsRow.lt O10.out i hi).1
        have E11 := Lib.hid (E10.out.grown (Grew.by_ gr11) fun e => own_blk_ne O10.out E10.out (by decide) e.symm)
        have Z11 := Lib.hid (Z10.out.grown (Grew.by_ gr11) fun e => own_blk_ne O10.out Z10.out (by decide) e.symm)
        have R11 := Lib.hid (R10.out.grown (Grew.by_ gr11) (fun e => by have := hrow g e.symm; omega) (fun e => by have := hrow h2 e.symm; omega))
        have B11 := Lib.hid (B10.out.grown (Grew.by_ gr11) (by rw [World.size_alloc]; omega) fun i hi => by have := hrow i hi; omega)
        have hs11 := (Grew.by_ gr11).size
        rw [World.size_alloc] at hs11
        have O11 := Lib.hid o11
        clear o11 gr11 hrow E9 E10 Z9 Z10 O9 O10 R9 R10 B9 B10
        refine batchPR (RK.refl _) RT.refl RT.trans [11] (fuel := 1) rfl (by kernel_rfl) (by kernel_rfl) (fun _ _ d _ _ h => by cases d <;> exact h) ?_
        (repeat (first | ((with_reducible apply wq0); rfl; rfl; rfl; intro K hK; go_big_quiet_op; refine hK _ ?_; clear hK K) | ((with_reducible apply wq1); rfl; rfl; rfl; rfl; rfl; rfl; intro K hK; go_big_quiet_op; refine hK _ ?_; clear hK K) | ((with_reducible apply wqs); rfl; rfl; rfl; rfl; rfl; rfl; simp only [Act.put, List.setIfInBounds_toArray, List.set_cons_zero, List.set_cons_succ]) | ((with_reducible apply wqu); rfl; rfl; rfl; rfl; rfl; (first | simp only [same, Act.put, List.setIfInBounds_toArray, List.set_cons_zero, List.set_cons_succ] | simp only [Act.put, List.setIfInBounds_toArray, List.set_cons_zero, List.set_cons_succ]))))
        refine wqIdx_nil ?_
        have c3' := E11.out.cell 3
        simp at c3'
        have f3 := E11.out.frozen 3
        refine wpAnyJ_sole (i := 12) rfl (by kernel_rfl) (fun K hK => ?_); go_simp
        refine hK _ _ ⟨fun hc => absurd (by decide) hc, trivial⟩ ?_
        clear hK K
        have E12 := Lib.hid (show Blk (w11.setCell ⟨w5.heap.size, 3, none⟩ (.slice A5 (lk.length + 1) c5)) w5.heap.size 50 #[.int .i64 (k : Int), .int .i64 (ep : Int), .int .i64 (rd : Int), .slice A5 (lk.length + 1) c5] from E11.out.set_ 3 _)
        have Z12 := Lib.hid (show Blk (w11.setCell ⟨w5.heap.size, 3, none⟩ (.slice A5 (lk.length + 1) c5)) w.heap.size 50 edZ from Z11.out.far (p := ⟨w5.heap.size, 3, none⟩) (Nat.ne_of_lt hE) _)
        have R12 := Lib.hid (R11.out.set2 (p := ⟨w5.heap.size, 3, none⟩) (Nat.ne_of_lt (show g < w5.heap.size by omega)) (Nat.ne_of_lt (show h2 < w5.heap.size by omega)) (.slice A5 (lk.length + 1) c5))
        have B12 := Lib.hid (below_setCell B11.out (p := ⟨w5.heap.size, 3, none⟩) (show w.heap.size ≤ w5.heap.size by omega) (.slice A5 (lk.length + 1) c5))
        have O12 := Lib.hid (own_far O11.out (p := ⟨w5.heap.size, 3, none⟩) (fun e => own_blk_ne O11.out E11.out (by decide) e) (.slice A5 (lk.length + 1) c5))
        have hs12 : w6.heap.size ≤ (w11.setCell ⟨w5.heap.size, 3, none⟩ (.slice A5 (lk.length + 1) c5)).heap.size := by rw [World.size_setCell]; omega
        refine wpAnyJ_done (by kernel_rfl) ?_ _
        go_wp2
        have hlt := HLT.out
        have hl1 : lk.length + 1 = (lk ++ [(⟨sb, xb, xc⟩ : Rf)]).length := by rw [List.length_append]; rfl
        refine ⟨⟨j + 1, lk ++ [⟨sb, xb, xc⟩], u3, A5, c5, by omega, by go_num, HSN.out, GD2.out, ?_, ?_, R12.out, Z12.out, hs12, B12.out⟩, by simp only [intOf]; omega⟩
        · rw [← hl1]; exact E12.out
        · rw [← hl1]; exact O12.out
      · obtain rfl : j = n := by omega
        clear hlt hj
        have hg := HG2.out
        rw [HLK.out] at hg
        simp only at hg
        have k0 := ZB.out.cell 0
        have k1 := ZB.out.cell 1
        have k2 := ZB.out.cell 2
        have k3 := ZB.out.cell 3
        simp [edZ] at k0 k1 k2 k3
        have z0 := ZB.out.frozen 0
        have z1 := ZB.out.frozen 1
        have z2 := ZB.out.frozen 2
        have z3 := ZB.out.frozen 3
        have e0 := E.out.cell 0
        have e1 := E.out.cell 1
        have e2 := E.out.cell 2
        have e3 := E.out.cell 3
        simp at e0 e1 e2 e3
        have HOWN := Lib.hid (own_rfAt (base := 0) O.out)
        have PC := Lib.hid (red_check_any ⟨k, ep, rd, lk⟩ A3 c3 0 wr HOWN.out (by rw [HLEN.out]; omega))
        obtain ⟨Ar2, cr2, lr2, u0, u1, -, -, -, -, hlr⟩ := rd_cells R.out
        by_cases hd : sk = none
        · subst hd
          rw [if_pos (by decide)] at hg
          have HZ := Lib.hid hg
          simp only [Option.isNone_none] at u1
          clear hg HG2
          have HRES := Lib.hid (show Blk ((((wr.setCell ⟨w.heap.size, 0, none⟩ (.int .i64 0)).setCell ⟨w.heap.size, 1, none⟩ (.int .i64 0)).setCell ⟨w.heap.size, 2, none⟩ (.int .i64 0)).setCell ⟨w.heap.size, 3, none⟩ (.slice none 0 0)) w.heap.size 50 edZ from (((ZB.out.set_ 0 (.int .i64 0)).set_ 1 (.int .i64 0)).set_ 2 (.int .i64 0)).set_ 3 (.slice none 0 0))
          have HBL := Lib.hid (show Below w.heap.size w ((((wr.setCell ⟨w.heap.size, 0, none⟩ (.int .i64 0)).setCell ⟨w.heap.size, 1, none⟩ (.int .i64 0)).setCell ⟨w.heap.size, 2, none⟩ (.int .i64 0)).setCell ⟨w.heap.size, 3, none⟩ (.slice none 0 0)) from below_setCell (below_setCell (below_setCell (below_setCell B.out (Nat.le_refl _) _) (Nat.le_refl _) _) (Nat.le_refl _) _) (Nat.le_refl _) _)
          go_wp2
          refine bodyPost_ret (results_cell_tmp_row rfl _ _ w.heap.size 50 edZ (0, 0) _ rfl HRES.out Try.underlying50 rfl info_edS) rfl ?_
          exact .inl ⟨HZ.out, rfl, HBL.out⟩
        · obtain ⟨l, rfl⟩ : ∃ l, sk = some l := Option.ne_none_iff_exists'.1 hd
          obtain rfl := hlr l rfl
          simp only [Option.isNone_some] at u1
          clear hd
          by_cases h0 : l = []
          · subst h0
            rw [if_neg (by decide)] at hg
            have HG4 := Lib.hid hg
            clear hg HG2 k0 k1 k2 k3 z0 z1 z2 z3
            unfold edV at PC
            simp only at PC
            simp only [List.length_nil] at u0
            go_wp2_with fail
            refine PC.out.mono ?_; rintro e w11 ⟨rfl, b11⟩
            have E11 := Lib.hid (E.out.later b11)
            have Z11 := Lib.hid (ZB.out.later b11)
            have B11 := Lib.hid (B.out.trans (b11.mono B.out.size))
            have HOWN2 := Lib.hid (HOWN.out.below b11)
            clear b11 e0 e1 e2 e3
            have k0 := Z11.out.cell 0
            have k1 := Z11.out.cell 1
            have k2 := Z11.out.cell 2
            have k3 := Z11.out.cell 3
            simp [edZ] at k0 k1 k2 k3
            have z0 := Z11.out.frozen 0
            have z1 := Z11.out.frozen 1
            have z2 := Z11.out.frozen 2
            have z3 := Z11.out.frozen 3
            have e0 := E11.out.cell 0
            have e1 := E11.out.cell 1
            have e2 := E11.out.cell 2
            have e3 := E11.out.cell 3
            simp at e0 e1 e2 e3
            have HRES := Lib.hid (fun (v0 v1 v2 v3 : Value) => show Blk ((((w11.setCell ⟨w.heap.size, 0, none⟩ v0).setCell ⟨w.heap.size, 1, none⟩ v1).setCell ⟨w.heap.size, 2, none⟩ v2).setCell ⟨w.heap.size, 3, none⟩ v3) w.heap.size 50 #[v0, v1, v2, v3] from (((Z11.out.set_ 0 v0).set_ 1 v1).set_ 2 v2).set_ 3 v3)
            have HBL := Lib.hid (fun (v0 v1 v2 v3 : Value) => show Below w.heap.size w ((((w11.setCell ⟨w.heap.size, 0, none⟩ v0).setCell ⟨w.heap.size, 1, none⟩ v1).setCell ⟨w.heap.size, 2, none⟩ v2).setCell ⟨w.heap.size, 3, none⟩ v3) from below_setCell (below_setCell (below_setCell (below_setCell B11.out (Nat.le_refl _) _) (Nat.le_refl _) _) (Nat.le_refl _) _) (Nat.le_refl _) _)
            cases hok : okEd ⟨k, ep, rd, lk⟩
            · have hz : Z = none := by rw [HG4.out, hok]; rfl
              have HZ := Lib.hid hz
              clear hz hok
              go_wp2
              refine bodyPost_ret (results_cell_tmp_row rfl _ _ w.heap.size 50 edZ (0, 0) _ rfl (HRES.out _ _ _ _) Try.underlying50 rfl info_edS) rfl ?_
              exact .inl ⟨HZ.out, rfl, HBL.out _ _ _ _⟩
            · have hz : Z = some ⟨k, ep, rd, lk⟩ := by rw [HG4.out, hok]; rfl
              have HZ := Lib.hid hz
              clear hz hok
              go_wp2
              refine bodyPost_ret (results_cell_tmp_row rfl _ _ w.heap.size 50 #[.int .i64 (k : Int), .int .i64 (ep : Int), .int .i64 (rd : Int), .slice A3 lk.length c3] (0, 0) _ rfl (HRES.out _ _ _ _) Try.underlying50 rfl info_edS) rfl ?_
              refine .inr ⟨⟨k, ep, rd, lk⟩, A3, c3, HZ.out, rfl, ?_, HBL.out _ _ _ _⟩
              refine HOWN2.out.keep (by simp only [World.size_setCell]; exact Nat.le_refl _) fun q hq ho => ?_
              have hqz : q ≠ w.heap.size := fun e => by
                rcases ho with ho | ⟨cs, fr, ho⟩
                · exact absurd ho (Nat.not_lt_zero _)
                · have := Z11.out
                  unfold Blk at this
                  rw [e, this] at ho
                  injection ho with ho
                  injection ho with _ ht _
                  exact absurd ht (by decide)
              rw [Below.heap_setCell _ _ _ _ hqz, Below.heap_setCell _ _ _ _ hqz, Below.heap_setCell _ _ _ _ hqz, Below.heap_setCell _ _ _ _ hqz]
          · have hd0 : doneM (some l) ≠ 0 := by show (if l = [] then (0 : Int) else 10) ≠ 0; rw [if_neg h0]; decide
            rw [if_pos hd0] at hg
            have HZ := Lib.hid hg
            have hpos : 0 < l.length := List.length_pos_iff.2 h0
            generalize l.length = ll at u0 hpos
            clear hg HG2 hd0 h0 hlr
            have HRES := Lib.hid (show Blk ((((wr.setCell ⟨w.heap.size, 0, none⟩ (.int .i64 0)).setCell ⟨w.heap.size, 1, none⟩ (.int .i64 0)).setCell ⟨w.heap.size, 2, none⟩ (.int .i64 0)).setCell ⟨w.heap.size, 3, none⟩ (.slice none 0 0)) w.heap.size 50 edZ from (((ZB.out.set_ 0 (.int .i64 0)).set_ 1 (.int .i64 0)).set_ 2 (.int .i64 0)).set_ 3 (.slice none 0 0))
            have HBL := Lib.hid (show Below w.heap.size w ((((wr.setCell ⟨w.heap.size, 0, none⟩ (.int .i64 0)).setCell ⟨w.heap.size, 1, none⟩ (.int .i64 0)).setCell ⟨w.heap.size, 2, none⟩ (.int .i64 0)).setCell ⟨w.heap.size, 3, none⟩ (.slice none 0 0)) from below_setCell (below_setCell (below_setCell (below_setCell B.out (Nat.le_refl _) _) (Nat.le_refl _) _) (Nat.le_refl _) _) (Nat.le_refl _) _)
            go_wp2
            refine bodyPost_ret (results_cell_tmp_row rfl _ _ w.heap.size 50 edZ (0, 0) _ rfl HRES.out Try.underlying50 rfl info_edS) rfl ?_
            exact .inl ⟨HZ.out, rfl, HBL.out⟩
end Go.Proofs.Ytfmmdnjoichifaa

namespace Go.Proofs.Ytfmmdnjoichifaa
open Go.RowKit Go.Sort

theorem textM_app (s r : List UInt8) (most : Int) (h : (s.length : Int) ≤ most) (hs : s.length ≤ 9223372036854775807) : textM most (some (textL s ++ r)) = (s, some r) := by
  unfold textM textL
  rw [List.append_assoc, numM_put _ hs]
  simp only
  rw [if_neg (by omega)]
  exact takeM_app s r (s.length : Int) rfl
theorem mk_strL (s : ByteArray) : (⟨(strL s).toArray⟩ : ByteArray) = s := by unfold strL; rw [Array.toArray_toList]
theorem strL_mk (l : List UInt8) : strL ⟨l.toArray⟩ = l := rfl
theorem refM_app (r : Rf) (rest : List UInt8) (h : okRf r = true) : refM (some (putRf r ++ rest)) = (r, some rest) := by
  rw [okRf_iff] at h
  obtain ⟨⟨h1, h2⟩, ⟨h3, h4⟩, h5, h6⟩ := h
  have hl := strL_length r.name
  have e1 : textM 24 (some (putRf r ++ rest)) = (strL r.name, some (putL r.base.toNat ++ (putL r.count.toNat ++ rest))) := by
    unfold putRf
    rw [List.append_assoc, List.append_assoc]
    exact textM_app _ _ _ (by omega) (by omega)
  unfold refM
  rw [e1]
  simp only
  rw [numM_put _ (by omega)]
  simp only
  rw [numM_put _ (by omega)]
  simp only
  rw [mk_strL, show ((r.base.toNat : Nat) : Int) = r.base by omega, show ((r.count.toNat : Nat) : Int) = r.count by omega]
theorem refsM_app : ∀ (l : List Rf) (rest : List UInt8), l.all okRf = true → refsM l.length (some (putRfs l ++ rest)) = (l, some rest)
  | [], rest, _ => rfl
  | x :: l, rest, h => by
    rw [List.all_cons, Bool.and_eq_true] at h
    have e1 : refM (some (putRfs (x :: l) ++ rest)) = (x, some (putRfs l ++ rest)) := by
      rw [show putRfs (x :: l) = putRf x ++ putRfs l from rfl, List.append_assoc]
      exact refM_app x _ h.1
    show ((refM (some (putRfs (x :: l) ++ rest))).1 :: (refsM l.length (refM (some (putRfs (x :: l) ++ rest))).2).1, (refsM l.length (refM (some (putRfs (x :: l) ++ rest))).2).2) = _
    rw [e1]
    simp only
    rw [refsM_app l rest h.2]
theorem getM_put {e : Ed} (h : okEd e = true) : getM (putEd e) = some e := by
  obtain ⟨h1, h2, h3, h4, h5⟩ := (okEd_iff e).1 h
  rw [okMo_iff] at h2
  have e0 : putEd e = putL e.kind.toNat ++ (putL e.ep.toNat ++ (putL e.rd.toNat ++ (putL e.refs.length ++ putRfs e.refs))) := by
    unfold putEd putMo
    simp only [List.append_assoc]
  rw [e0]
  rw [getM_by (numM_put e.kind.toNat (by omega) _) (numM_put e.ep.toNat (by omega) _) (numM_put e.rd.toNat (by omega) _) (numM_put e.refs.length (by omega) _)]
  have hr := refsM_app e.refs [] h5
  rw [List.append_nil] at hr
  rw [hr]
  simp only
  have he : (⟨(e.kind.toNat : Nat), (e.ep.toNat : Nat), (e.rd.toNat : Nat), e.refs⟩ : Ed) = e := by
    obtain ⟨k, ep, rd, refs⟩ := e
    simp only at h1 h2 ⊢
    rw [show ((k.toNat : Nat) : Int) = k by omega, show ((ep.toNat : Nat) : Int) = ep by omega, show ((rd.toNat : Nat) : Int) = rd by omega]
  rw [if_neg (show ¬ (some (putRfs e.refs) = none ∨ 256 < e.refs.length) by rintro (h | h); cases h; omega), if_neg (show ¬ doneM (some []) ≠ 0 by decide), he, if_pos h]
theorem textM_inv {most : Int} {b s r : List UInt8} (h : textM most (some b) = (s, some r)) : b = textL s ++ r := by
  unfold textM at h
  simp only at h
  obtain ⟨n, s1, hn⟩ : ∃ n s1, numM (some b) = (n, s1) := ⟨_, _, rfl⟩
  rw [hn] at h
  simp only at h
  split at h
  · cases h
  · cases s1 with
    | none => cases h
    | some b1 =>
      obtain ⟨e1, -⟩ := numM_inv hn
      unfold takeM at h
      simp only at h
      split at h
      · rename_i hk
        injection h with h1 h2
        injection h2 with h2
        unfold textL
        rw [e1, ← h1, ← h2, List.length_take, List.append_assoc, Int.toNat_natCast, List.take_append_drop, Nat.min_eq_left (by omega)]
      · cases h
theorem refM_inv {b rest : List UInt8} {r : Rf} (h : refM (some b) = (r, some rest)) : b = putRf r ++ rest := by
  unfold refM at h
  obtain ⟨s, s1, hs⟩ : ∃ s s1, textM 24 (some b) = (s, s1) := ⟨_, _, rfl⟩
  rw [hs] at h
  simp only at h
  obtain ⟨x, s2, hx⟩ : ∃ x s2, numM s1 = (x, s2) := ⟨_, _, rfl⟩
  rw [hx] at h
  simp only at h
  obtain ⟨y, s3, hy⟩ : ∃ y s3, numM s2 = (y, s3) := ⟨_, _, rfl⟩
  rw [hy] at h
  simp only at h
  injection h with h1 h2
  subst h2
  cases s2 with
  | none => rw [numM_none] at hy; cases hy
  | some b2 =>
    cases s1 with
    | none => rw [numM_none] at hx; cases hx
    | some b1 =>
      have e1 := textM_inv hs
      obtain ⟨e2, -⟩ := numM_inv hx
      obtain ⟨e3, -⟩ := numM_inv hy
      rw [← h1]
      unfold putRf
      simp only [strL_mk, Int.toNat_natCast]
      rw [e1, e2, e3]
      simp only [List.append_assoc]
theorem refsM_inv : ∀ (n : Nat) {b rest : List UInt8} {l : List Rf}, refsM n (some b) = (l, some rest) → b = putRfs l ++ rest
  | 0, b, rest, l, h => by
    injection h with h1 h2
    injection h2 with h2
    subst h1 h2
    rfl
  | n + 1, b, rest, l, h => by
    obtain ⟨r, s1, hr⟩ : ∃ r s1, refM (some b) = (r, s1) := ⟨_, _, rfl⟩
    have h' : ((refM (some b)).1 :: (refsM n (refM (some b)).2).1, (refsM n (refM (some b)).2).2) = (l, some rest) := h
    rw [hr] at h'
    simp only at h'
    injection h' with h1 h2
    cases s1 with
    | none => rw [refsM_none] at h2; cases h2
    | some b1 =>
      have e1 := refM_inv hr
      have e2 := refsM_inv n (b := b1) (rest := rest) (l := (refsM n (some b1)).1) (by rw [← h2])
      rw [← h1, show putRfs (r :: (refsM n (some b1)).1) = putRf r ++ putRfs (refsM n (some b1)).1 from rfl, e1, List.append_assoc, ← e2]
theorem getM_inv {b : List UInt8} {e : Ed} (h : getM b = some e) : okEd e = true ∧ putEd e = b := by
  obtain ⟨k, s1, hk⟩ : ∃ k s1, numM (some b) = (k, s1) := ⟨_, _, rfl⟩
  obtain ⟨ep, s2, hep⟩ : ∃ k s2, numM s1 = (k, s2) := ⟨_, _, rfl⟩
  obtain ⟨rd, s3, hrd⟩ : ∃ k s3, numM s2 = (k, s3) := ⟨_, _, rfl⟩
  obtain ⟨n, s4, hn4⟩ : ∃ k s4, numM s3 = (k, s4) := ⟨_, _, rfl⟩
  rw [getM_by hk hep hrd hn4] at h
  split at h
  · cases h
  · rename_i h1
    split at h
    · cases h
    · rename_i h2
      split at h
      · rename_i h3
        injection h with h
        subst h
        refine ⟨h3, ?_⟩
        cases s4 with
        | none => exact absurd (.inl rfl) h1
        | some b4 =>
          cases s3 with
          | none => rw [numM_none] at hn4; cases hn4
          | some b3 =>
            cases s2 with
            | none => rw [numM_none] at hrd; cases hrd
            | some b2 =>
              cases s1 with
              | none => rw [numM_none] at hep; cases hep
              | some b1 =>
                obtain ⟨e1, -⟩ := numM_inv hk
                obtain ⟨e2, -⟩ := numM_inv hep
                obtain ⟨e3, -⟩ := numM_inv hrd
                obtain ⟨e4, -⟩ := numM_inv hn4
                have hd : doneM (refsM n (some b4)).2 = 0 := by simpa using h2
                obtain ⟨l, t, hlt⟩ : ∃ l t, refsM n (some b4) = (l, t) := ⟨_, _, rfl⟩
                rw [hlt] at hd ⊢
                simp only at hd ⊢
                have ht : t = some [] := by
                  cases t with
                  | none => exact absurd hd (by decide)
                  | some u =>
                    by_cases hu : u = []
                    · rw [hu]
                    · have : doneM (some u) = (if u = [] then (0 : Int) else 10) := rfl
                      rw [this, if_neg hu] at hd
                      exact absurd hd (by decide)
                rw [ht] at hlt
                have e5 := refsM_inv n hlt
                have hln : l.length = n := by have := refsM_len n (some b4); rwa [hlt] at this
                unfold putEd putMo
                simp only [Int.toNat_natCast]
                rw [hln, e1, e2, e3, e4, e5]
                simp only [List.append_assoc, List.append_nil]
      · cases h
end Go.Proofs.Ytfmmdnjoichifaa
