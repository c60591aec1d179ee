/- Contracts of package rec: Decode. -/
import Derived.Test.YtibhofdblfgkbaaReG
import Derived.Test.YtibhofdblfgkbaaReR
namespace Go.Proofs.Ytibhofdblfgkbaa
open Go.RowKit Go.Sort

/-- So many records, and what is left. -/
def decL : Nat → Option (List UInt8) → Option (List (Int × Int) × Option (List UInt8))
  | 0, s => some ([], s)
  | n + 1, s => if (readRec s).2 = 0 then (decL n (numM (numM s).2).2).map fun y => ((readRec s).1 :: y.1, y.2) else none
/-- What bytes are as a bag. -/
def decR (b : List UInt8) : Option (List (Int × Int)) :=
  if 4096 < (numM (some b)).1 then none else
    match decL (numM (some b)).1 (numM (some b)).2 with
    | none => none
    | some y => if doneM y.2 = 0 ∧ sortedB y.1 = true then some y.1 else none
def DecAns (w : World) (z : Option (List (Int × Int))) (e : Ending) (w' : World) : Prop :=
  (z = none ∧ e = .returned (.tuple #[.slice none 0 0, .int .i64 10]) ∧ Below w.heap.size w w') ∨
    ∃ l A' c', z = some l ∧ e = .returned (.tuple #[.slice A' l.length c', .int .i64 0]) ∧ RowS w l A' c' w'
theorem numM_empty : (numM (some [])).1 = 0 := by decide
theorem decL_length : ∀ (n : Nat) (s : Option (List UInt8)) (y : List (Int × Int) × Option (List UInt8)), decL n s = some y → y.1.length = n
  | 0, s, y, h => by injection h with h; subst h; rfl
  | n + 1, s, y, h => by
    unfold decL at h
    split at h
    · rw [Option.map_eq_some_iff] at h
      obtain ⟨y', h1, rfl⟩ := h
      rw [List.length_cons, decL_length n _ y' h1]
    · cases h
set_option maxRecDepth 100000 in
set_option maxHeartbeats 2000000 in
theorem rc_decode_any (A : Option Addr) (h : Nat) (b : List UInt8) (c : Nat) (w : World) (hl : SlB w h A b) (hn : b.length ≤ 70368744177664) :
    Calls Try.prog 42 #[.slice A b.length c] w (DecAns w (decR b)) := by
  have P1 := Lib.hid (from_any A c h b w hl hn)
  obtain ⟨Z, hZ⟩ : ∃ Z, decR b = Z := ⟨_, rfl⟩
  rw [hZ]
  obtain ⟨n, s1, hns⟩ : ∃ n s1, numM (some b) = (n, s1) := ⟨_, _, rfl⟩
  unfold decR at hZ
  rw [hns] at hZ
  simp only at hZ
  have hb0 : 0 < n → b ≠ [] := fun h0 e => by
    subst e
    have := numM_empty
    rw [hns] at this
    simp only at this
    omega
  have HNS := Lib.hid hns
  have HZ := Lib.hid hZ
  clear hl hZ hns
  go_enter Try.func42, Try.ntmps42
  go_wp2_with fail
  refine P1.out.mono ?_; rintro e w1 ⟨g, h1, rfl, hg, hh1, r1, b1⟩
  have hh : 0 < n → h1 < w1.heap.size := fun h0 => by
    obtain ⟨A1, c1, l1, -, -, -, -, hs, hr⟩ := id r1
    have := hr b rfl
    subst this
    exact hs.lt (hb0 h0)
  have hgl := r1.lt
  have R1 := Lib.hid r1
  have B1 := Lib.hid b1
  clear r1 b1
  go_wp2_with fail
  refine (num_at g h1 _ _ R1.out).mono ?_
  rw [HNS.out]
  rintro e w2 ⟨rfl, r2, g2⟩
  have R2 := Lib.hid r2
  have B2 := Lib.hid (B1.out.grown g2 B1.out.size fun i hi => by injection hi with hi; omega)
  have hs2 := g2.size
  clear r2 g2
  by_cases hbig : 4096 < n
  · have d1 : decide ((4096 : Int) < (n : Int)) = true := by rw [decide_eq_true_eq]; omega
    have hz := HZ.out
    rw [if_pos hbig] at hz
    have HZN := Lib.hid hz
    clear hz
    go_wp2
    go_ret2
    exact .inl ⟨HZN.out.symm, rfl, B2.out⟩
  · have d1 : decide ((4096 : Int) < (n : Int)) = false := by rw [decide_eq_false_iff_not]; omega
    have hz := HZ.out
    rw [if_neg hbig] at hz
    have HZ2 := Lib.hid hz
    clear hz HZ
    go_wp2_with fail
    go_loopw [6, 16] (fun v i wr => ∃ (k : Nat) (lk : List (Int × Int)) (sk : Option (List UInt8)) (A3 : Option Addr) (c3 : Nat), k ≤ n ∧ i = .int .i64 (k : Int) ∧ v = .slice A3 lk.length c3 ∧ lk.length ≤ k ∧ wr.ownsRow w2.heap.size 24 2 v lk.length (Prs lk) ∧ RdAt 106 wr g h1 sk ∧ decL n s1 = (decL (n - k) sk).map (fun y => (lk ++ y.1, y.2)) ∧ w2.heap.size ≤ wr.heap.size ∧ Below w.heap.size w wr) (fun _ i _ => n - (intOf i).toNat)
    case atStart => exact ⟨0, [], s1, none, 0, Nat.zero_le _, rfl, rfl, Nat.le_refl _, World.ownsRow_nil _ _ _ _, R2.out, by simp, Nat.le_refl _, B2.out⟩
    case round =>
      obtain ⟨k, lk, sk, A3, c3, hk, rfl, rfl, hlk, ho, hr, hd, hs3, hb⟩ := hrel
      have HO := Lib.hid ho
      have R := Lib.hid hr
      have HD := Lib.hid hd
      have HB := Lib.hid hb
      clear ho hr hd hb
      by_cases hlt : k < n
      · have hh1' := hh (by omega)
        have hnk : n - k = (n - (k + 1)) + 1 := by omega
        obtain ⟨z, hz⟩ : ∃ z, readRec sk = z := ⟨_, rfl⟩
        obtain ⟨s', hs'⟩ : ∃ s', (numM (numM sk).2).2 = s' := ⟨_, rfl⟩
        have PR := Lib.hid (fun W (r : RdAt 106 W g h1 sk) (hh : h1 ≠ W.heap.size) => rc_read_at2 g h1 sk W r hh)
        have hd := HD.out
        rw [hnk, decL, hz, hs'] at hd
        rw [hz, hs'] at PR
        have HD2 := Lib.hid hd
        clear hd hz hs' HD
        obtain ⟨⟨x1, x2⟩, er⟩ := z
        by_cases her : er = 0
        · subst her
          have hd := HD2.out
          rw [if_pos rfl] at hd
          have HD3 := Lib.hid hd
          clear hd HD2
          go_wp2_with fail
          refine (PR.out _ R.out (by omega)).mono ?_; rintro e w4 ⟨rfl, r4, g4⟩
          have R4 := Lib.hid r4
          have HO4 := Lib.hid (HO.out.kept g4 (by
            rcases hob : (Value.slice A3 lk.length c3).ownBlock with _ | gg
            · exact .inl rfl
            · refine .inr fun e => ?_
              injection e with e
              have := (World.ownsRow.lt HO.out gg hob).1
              omega))
          have B4 := Lib.hid (HB.out.grown g4 HB.out.size fun i hi => by injection hi with hi; omega)
          have hs4 := g4.size
          clear r4 g4
          have HOX := Lib.hid (World.ownsRow.alloc (World.ownsRow.alloc HO4.out (.cells #[.int .i64 x1, .int .i64 x2] 24)) (.cells #[.int .i64 x1, .int .i64 x2] 24))
          have hrx := reads_one (w4.alloc (.cells #[.int .i64 x1, .int .i64 x2] 24)) (x1, x2) 24
          rw [World.size_alloc] at hrx
          have HRX := Lib.hid hrx
          have HSX := Lib.hid (show w2.heap.size ≤ ((w4.alloc (.cells #[.int .i64 x1, .int .i64 x2] 24)).alloc (.cells #[.int .i64 x1, .int .i64 x2] 24)).heap.size by rw [World.size_alloc, World.size_alloc]; omega)
          clear hrx
          go_wp2_with (at_builtin; (refine wpList_appP _ rfl (.tmp 25) (.tmp 27) _ rfl Try.underlying22 info_rec3 HOX.out HRX.out 1 rfl rfl (by omega) HSX.out ?_); intro A5 c5 w5 o5 gr5; have O5 := Lib.hid o5; have G5 := Lib.hid gr5; clear o5 gr5)
          have hrow : ∀ i, (Value.slice A3 lk.length c3).ownBlock = some i → w2.heap.size ≤ i := fun i hi => (World.ownsRow.lt HOX.out i hi).1
          have R4b := (R4.out.below (alloc_below _ (.cells #[.int .i64 x1, .int .i64 x2] 24))).below (alloc_below _ (.cells #[.int .i64 x1, .int .i64 x2] 24))
          have R5 := Lib.hid (R4b.grown (Grew.by_ G5.out) (fun e => by have := hrow g e.symm; omega) (fun e => by have := hrow h1 e.symm; omega))
          have B5 := Lib.hid (((B4.out.alloc B4.out.size (.cells #[.int .i64 x1, .int .i64 x2] 24)).alloc (by rw [World.size_alloc]; have := B4.out.size; omega) (.cells #[.int .i64 x1, .int .i64 x2] 24)).grown (Grew.by_ G5.out) (by rw [World.size_alloc, World.size_alloc]; have := B4.out.size; omega) fun i hi => by have := hrow i hi; have := B2.out.size; omega)
          have hs5 : w2.heap.size ≤ w5.heap.size := Nat.le_trans HSX.out (Grew.by_ G5.out).size
          refine ⟨⟨k + 1, lk ++ [(x1, x2)], s', A5, c5, by omega, by go_num, by rw [List.length_append]; rfl, by rw [List.length_append, List.length_singleton]; omega, ?_, R5.out, ?_, hs5, B5.out⟩, by simp [intOf]; omega⟩
          · rw [List.length_append]; exact O5.out
          · rw [HD3.out]
            simp [Option.map_map, Function.comp_def]
        · have d2 : (er == 0) = false := by simpa using her
          have hd := HD2.out
          rw [if_neg her] at hd
          have hz := HZ2.out
          rw [hd] at hz
          have HZN := Lib.hid hz
          clear hd hz HD2 her
          go_wp2_with fail
          refine (PR.out _ R.out (by omega)).mono ?_; rintro e w4 ⟨rfl, r4, g4⟩
          have B4 := Lib.hid (HB.out.grown g4 HB.out.size fun i hi => by injection hi with hi; omega)
          clear r4 g4
          go_wp2
          go_ret2
          exact .inl ⟨HZN.out.symm, rfl, B4.out.alloc B4.out.size _⟩
      · obtain rfl : k = n := by omega
        have hd := HD.out
        rw [Nat.sub_self, decL] at hd
        simp only [Option.map_some, List.append_nil] at hd
        have hz := HZ2.out
        rw [hd] at hz
        simp only at hz
        have PD := Lib.hid (done_at g h1 sk wr R.out)
        have PS := Lib.hid (fun gL (sL : SlP wr gL A3 lk) => rc_sorted_any A3 gL lk c3 wr sL (by omega))
        obtain ⟨gL, -, sL, -, -, -, -⟩ := SlP.of_own HO.out
        have PS2 := Lib.hid (PS.out gL sL)
        clear PS sL hd HD HZ2
        generalize doneM sk = dn at hz PD
        generalize sortedB lk = sb at hz PS2
        by_cases hdn : dn = 0
        · subst hdn
          cases sb
          · rw [if_neg (by simp)] at hz
            have HZN := Lib.hid hz
            clear hz
            go_wp2_with fail
            refine PD.out.mono ?_; rintro e w5 ⟨rfl, rfl⟩
            go_wp2_with fail
            refine PS2.out.mono ?_; rintro e w6 ⟨rfl, b6⟩
            go_wp2
            go_ret2
            exact .inl ⟨HZN.out.symm, rfl, below_trans HB.out b6⟩
          · rw [if_pos ⟨rfl, rfl⟩] at hz
            have HZN := Lib.hid hz
            clear hz
            go_wp2_with fail
            refine PD.out.mono ?_; rintro e w5 ⟨rfl, rfl⟩
            go_wp2_with fail
            refine PS2.out.mono ?_; rintro e w6 ⟨rfl, b6⟩
            go_wp2
            go_ret2
            exact .inr ⟨lk, A3, c3, HZN.out.symm, rfl, RowS.own (below_trans HB.out b6) (own_below HO.out b6) B2.out.size⟩
        · have d2 : (dn != 0) = true := by simpa using hdn
          rw [if_neg (by simp [hdn])] at hz
          have HZN := Lib.hid hz
          clear hz hdn
          go_wp2_with fail
          refine PD.out.mono ?_; rintro e w5 ⟨rfl, rfl⟩
          go_wp2
          go_ret2
          exact .inl ⟨HZN.out.symm, rfl, HB.out⟩
end Go.Proofs.Ytibhofdblfgkbaa
