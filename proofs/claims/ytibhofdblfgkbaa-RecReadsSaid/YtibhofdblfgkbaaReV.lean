/- Contracts of the document's records: Decode. -/
import Derived.Test.YtibhofdblfgkbaaReO
import Derived.Test.YtibhofdblfgkbaaReU
namespace Go.Proofs.Ytibhofdblfgkbaa
open Go.RowKit Go.Sort

def RDecAns (w : World) (z : Option (List (Int × Int))) (e : Ending) (w' : World) : Prop :=
  (z = none ∧ e = .returned (.tuple #[.slice none 0 0, .bool false]) ∧ Below w.heap.size w w') ∨
    ∃ l A' c', z = some l ∧ e = .returned (.tuple #[.slice A' l.length c', .bool true]) ∧ RowS w l A' c' w'
theorem rd_new (w : World) (A : Option Addr) (h : Nat) (b : List UInt8) (c : Nat) (s : SlB w h A b) (hc : b.length ≤ c) (hm : c ≤ maxLen) :
    ∃ h', (b ≠ [] → h' < w.heap.size) ∧ RdAt 60 (w.alloc (.cells #[.slice A b.length c, .bool false] 60)) w.heap.size h' (some b) := by
  by_cases hb : b = []
  · subst hb
    exact ⟨w.heap.size + 1, fun h => absurd rfl h, A, c, [], Blk.new w _ _, by omega, hc, hm, SlB.nil _ _ _, fun r hr => by injection hr with hr; exact hr.symm⟩
  · have hlt := s.lt hb
    exact ⟨h, fun _ => hlt, A, c, b, Blk.new w _ _, by omega, hc, hm, s.below (alloc_below w _) fun h => h, fun r hr => by injection hr with hr; exact hr.symm⟩
set_option maxRecDepth 100000 in
set_option maxHeartbeats 4000000 in
theorem rrc_decode_any (A : Option Addr) (h : Nat) (b : List UInt8) (c : Nat) (w : World) (hl : SlB w h A b) (hn : b.length ≤ 70368744177664) (hc : b.length ≤ c) (hm : c ≤ maxLen) :
    Calls Try.prog 44 #[.slice A b.length c] w (RDecAns w (decR b)) := by
  obtain ⟨h1, hh1, r1⟩ := rd_new w A h b c hl hc hm
  obtain ⟨Z, hZ⟩ : ∃ Z, decR b = Z := ⟨_, rfl⟩
  rw [hZ]
  obtain ⟨n, s1, hns⟩ : ∃ n s1, numM (some b) = (n, s1) := ⟨_, _, rfl⟩
  unfold decR at hZ
  rw [hns] at hZ
  simp only at hZ
  have hb0 : 0 < n → b ≠ [] := fun h0 e => by
    subst e
    have := numM_empty
    rw [hns] at this
    simp only at this
    omega
  have hh : 0 < n → h1 < w.heap.size := fun h0 => hh1 (hb0 h0)
  have hgood : Good (some b) := fun l e => by injection e with e; subst e; exact hn
  have hg1 : Good s1 := by have := numM_good hgood; rw [hns] at this; exact this
  have hno : s1 = none → n = 0 := fun e => by
    have hh := hns
    unfold numM at hh
    subst e
    simp only at hh
    split at hh
    · injection hh with hh _; exact hh.symm
    · split at hh
      · rename_i k1 k2; exact absurd (congrArg Prod.snd hh) k1
      · split at hh
        · split at hh
          · injection hh with hh _; exact hh.symm
          · rename_i k3; exact absurd (congrArg Prod.snd hh) k3
        · split at hh
          · split at hh
            · injection hh with hh _; exact hh.symm
            · rename_i k3; exact absurd (.inl (congrArg Prod.snd hh)) k3
          · injection hh with hh _; exact hh.symm
  have R1 := Lib.hid r1
  have HNS := Lib.hid hns
  have HZ := Lib.hid hZ
  have HA := Lib.hid (alloc_below w (.cells #[.slice A b.length c, .bool false] 60))
  clear hl hZ hns r1
  go_enter Try.func44, Try.ntmps44
  go_wp2_with fail
  refine (rnum_at w.heap.size h1 _ _ R1.out hgood).mono ?_
  rw [HNS.out]
  rintro e w2 ⟨rfl, r2, g2⟩
  have R2 := Lib.hid r2
  have B2 := Lib.hid (HA.out.grown g2 HA.out.size fun i hi => by injection hi with hi; omega)
  have hs2 := g2.size
  rw [World.size_alloc] at hs2
  obtain ⟨Ar, cr, lr, k0, k1, -, -, -⟩ := rd_cells r2
  clear r2 g2
  cases s1 with
  | none =>
    have hn0 := hno rfl
    subst hn0
    have hz := HZ.out
    rw [if_neg (by omega)] at hz
    have hz2 : (none : Option (List (Int × Int))) = Z := by rw [← hz]; rfl
    have HZN := Lib.hid hz2
    clear hz hz2
    simp only [Option.isNone_none] at k1
    go_wp2
    go_ret2
    exact .inl ⟨HZN.out.symm, rfl, B2.out⟩
  | some b1 =>
    simp only [Option.isNone_some] at k1
    by_cases hbig : 4096 < n
    · have d1 : decide ((4096 : Int) < (n : Int)) = true := by rw [decide_eq_true_eq]; omega
      have hz := HZ.out
      rw [if_pos hbig] at hz
      have HZN := Lib.hid hz
      clear hz
      go_wp2
      go_ret2
      exact .inl ⟨HZN.out.symm, rfl, B2.out⟩
    · have d1 : decide ((4096 : Int) < (n : Int)) = false := by rw [decide_eq_false_iff_not]; omega
      have hz := HZ.out
      rw [if_neg hbig] at hz
      have HZ2 := Lib.hid hz
      have GD1 := Lib.hid hg1
      clear hz HZ hg1
      go_wp2_with fail
      clear k0 k1
      go_loopw [6, 7] (fun v i wr => ∃ (k : Nat) (lk : List (Int × Int)) (sk : List UInt8) (A3 : Option Addr) (c3 : Nat), k ≤ n ∧ i = .int .i64 (k : Int) ∧ v = .slice A3 lk.length c3 ∧ lk.length ≤ k ∧ wr.ownsRow w2.heap.size 24 2 v lk.length (Prs lk) ∧ RdAt 60 wr w.heap.size h1 (some sk) ∧ Good (some sk) ∧ decL n (some b1) = (decL (n - k) (some sk)).map (fun y => (lk ++ y.1, y.2)) ∧ w2.heap.size ≤ wr.heap.size ∧ Below w.heap.size w wr) (fun _ i _ => n - (intOf i).toNat)
      case atStart => exact ⟨0, [], b1, none, 0, Nat.zero_le _, rfl, rfl, Nat.le_refl _, World.ownsRow_nil _ _ _ _, R2.out, GD1.out, by simp, Nat.le_refl _, B2.out⟩
      case round =>
        obtain ⟨k, lk, sk, A3, c3, hk, rfl, rfl, hlk, ho, hr, hgd, hd, hs3, hb⟩ := hrel
        have HO := Lib.hid ho
        have R := Lib.hid hr
        have HD := Lib.hid hd
        have HB := Lib.hid hb
        have GD := Lib.hid hgd
        clear ho hr hd hb hgd
        by_cases hlt : k < n
        · have hh1' := hh (by omega)
          have hnk : n - k = (n - (k + 1)) + 1 := by omega
          obtain ⟨z, hz⟩ : ∃ z, readRec (some sk) = z := ⟨_, rfl⟩
          obtain ⟨s', hs'⟩ : ∃ s', (numM (numM (some sk)).2).2 = s' := ⟨_, rfl⟩
          have PR := Lib.hid (fun W (r : RdAt 60 W w.heap.size h1 (some sk)) (hh : h1 ≠ W.heap.size) => rrc_read_at2 w.heap.size h1 (some sk) W r hh GD.out)
          have hd := HD.out
          have hgd2 : Good s' := by rw [← hs']; exact numM_good (numM_good GD.out)
          have hbad : z.2 = 0 → ∃ r', s' = some r' := fun e => by
            obtain ⟨-, r', -, e2⟩ := readRec_bad (some sk) (by rw [hz]; exact e)
            exact ⟨r', by rw [← hs']; exact e2⟩
          rw [hnk, decL, hz, hs'] at hd
          rw [hz, hs'] at PR
          have HD2 := Lib.hid hd
          clear hd hz hs' HD
          obtain ⟨⟨x1, x2⟩, er⟩ := z
          by_cases her : er = 0
          · subst her
            obtain ⟨r', rfl⟩ := hbad rfl
            have GD2 := Lib.hid hgd2
            have hd := HD2.out
            rw [if_pos rfl] at hd
            have HD3 := Lib.hid hd
            clear hd HD2 hgd2 hbad
            go_wp2_with fail
            refine (PR.out _ R.out (by omega)).mono ?_; rintro e w4 ⟨rfl, r4, g4⟩
            have R4 := Lib.hid r4
            have HO4 := Lib.hid (HO.out.kept g4 (by
              rcases hob : (Value.slice A3 lk.length c3).ownBlock with _ | gg
              · exact .inl rfl
              · refine .inr fun e => ?_
                injection e with e
                have := (World.ownsRow.lt HO.out gg hob).1
                omega))
            have B4 := Lib.hid (HB.out.grown g4 HB.out.size fun i hi => by injection hi with hi; omega)
            have hs4 := g4.size
            clear r4 g4
            have HOX := Lib.hid (World.ownsRow.alloc (World.ownsRow.alloc HO4.out (.cells #[.int .i64 x1, .int .i64 x2] 24)) (.cells #[.int .i64 x1, .int .i64 x2] 24))
            have hrx := reads_one (w4.alloc (.cells #[.int .i64 x1, .int .i64 x2] 24)) (x1, x2) 24
            rw [World.size_alloc] at hrx
            have HRX := Lib.hid hrx
            have HSX := Lib.hid (show w2.heap.size ≤ ((w4.alloc (.cells #[.int .i64 x1, .int .i64 x2] 24)).alloc (.cells #[.int .i64 x1, .int .i64 x2] 24)).heap.size by rw [World.size_alloc, World.size_alloc]; omega)
            clear hrx
            go_wp2_with (at_builtin; (refine wpList_appP _ rfl (.tmp 35) (.tmp 37) _ rfl Try.underlying22 info_rec3 HOX.out HRX.out 1 rfl rfl (by omega) HSX.out ?_); intro A5 c5 w5 o5 gr5; have O5 := Lib.hid o5; have G5 := Lib.hid gr5; clear o5 gr5)
            have hrow : ∀ i, (Value.slice A3 lk.length c3).ownBlock = some i → w2.heap.size ≤ i := fun i hi => (World.ownsRow.lt HOX.out i hi).1
            have R4b := (R4.out.below (alloc_below _ (.cells #[.int .i64 x1, .int .i64 x2] 24))).below (alloc_below _ (.cells #[.int .i64 x1, .int .i64 x2] 24))
            have R5 := Lib.hid (R4b.grown (Grew.by_ G5.out) (fun e => by have := hrow w.heap.size e.symm; omega) (fun e => by have := hrow h1 e.symm; omega))
            have B5 := Lib.hid (((B4.out.alloc B4.out.size (.cells #[.int .i64 x1, .int .i64 x2] 24)).alloc (by rw [World.size_alloc]; have := B4.out.size; omega) (.cells #[.int .i64 x1, .int .i64 x2] 24)).grown (Grew.by_ G5.out) (by rw [World.size_alloc, World.size_alloc]; have := B4.out.size; omega) fun i hi => by have := hrow i hi; have := B2.out.size; omega)
            have hs5 : w2.heap.size ≤ w5.heap.size := Nat.le_trans HSX.out (Grew.by_ G5.out).size
            refine ⟨⟨k + 1, lk ++ [(x1, x2)], r', A5, c5, by omega, by go_num, by rw [List.length_append]; rfl, by rw [List.length_append, List.length_singleton]; omega, ?_, R5.out, GD2.out, ?_, hs5, B5.out⟩, by simp [intOf]; omega⟩
            · rw [List.length_append]; exact O5.out
            · rw [HD3.out]
              simp [Option.map_map, Function.comp_def]
          · have d2 : (er == 0) = false := by simpa using her
            have hd := HD2.out
            rw [if_neg her] at hd
            have hz := HZ2.out
            rw [hd] at hz
            have HZN := Lib.hid hz
            clear hd hz HD2 her hbad hgd2
            go_wp2_with fail
            refine (PR.out _ R.out (by omega)).mono ?_; rintro e w4 ⟨rfl, r4, g4⟩
            have B4 := Lib.hid (HB.out.grown g4 HB.out.size fun i hi => by injection hi with hi; omega)
            clear r4 g4
            go_wp2
            go_ret2
            exact .inl ⟨HZN.out.symm, rfl, B4.out.alloc B4.out.size _⟩
        · obtain rfl : k = n := by omega
          have hd := HD.out
          rw [Nat.sub_self, decL] at hd
          simp only [Option.map_some, List.append_nil] at hd
          have hz := HZ2.out
          rw [hd] at hz
          simp only at hz
          obtain ⟨A6, c6, l6, hbk, -, hl6, hc6, -, hr6⟩ := id R.out
          have e6 := hr6 sk rfl
          subst e6
          have k0 : wr.cell? ⟨w.heap.size, 0, none⟩ = some (.slice A6 sk.length c6) := hbk.cell 0
          have PS := Lib.hid (fun gL (sL : SlP wr gL A3 lk) => rrc_sorted_any A3 gL lk c3 wr sL (by omega))
          obtain ⟨gL, -, sL, -, -, -, -⟩ := SlP.of_own HO.out
          have PS2 := Lib.hid (PS.out gL sL)
          have hdz : doneM (some sk) = 0 ↔ sk.length = 0 := by
            cases sk <;> simp [doneM]
          clear PS sL hd HD HZ2 hbk hr6 hl6 hc6
          generalize sortedB lk = sb at hz PS2
          by_cases hdn : sk.length = 0
          · have hd0 := hdz.2 hdn
            have e0 := List.eq_nil_of_length_eq_zero hdn
            subst e0
            cases sb
            · rw [if_neg (by simp)] at hz
              have HZN := Lib.hid hz
              clear hz hdz hd0 hdn
              go_wp2_with fail
              refine PS2.out.mono ?_; rintro e w6 ⟨rfl, b6⟩
              go_wp2
              go_ret2
              exact .inl ⟨HZN.out.symm, rfl, below_trans HB.out b6⟩
            · rw [if_pos ⟨hd0, rfl⟩] at hz
              have HZN := Lib.hid hz
              clear hz hdz hd0 hdn
              go_wp2_with fail
              refine PS2.out.mono ?_; rintro e w6 ⟨rfl, b6⟩
              go_wp2
              go_ret2
              exact .inr ⟨lk, A3, c3, HZN.out.symm, rfl, RowS.own (below_trans HB.out b6) (own_below HO.out b6) (by omega)⟩
          · cases sk with
            | nil => exact absurd rfl hdn
            | cons x0 t =>
              have d3 : decide ((0 : Int) < (t.length : Int) + 1) = true := by rw [decide_eq_true_eq]; omega
              rw [if_neg (fun h => hdn (hdz.1 h.1))] at hz
              have HZN := Lib.hid hz
              clear hz hdz hdn
              go_wp2
              go_ret2
              exact .inl ⟨HZN.out.symm, rfl, HB.out⟩
end Go.Proofs.Ytibhofdblfgkbaa
