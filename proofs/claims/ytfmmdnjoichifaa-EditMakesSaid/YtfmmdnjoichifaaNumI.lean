/- Contracts of the document's own reader: numbers and texts. -/
import Derived.Test.YtfmmdnjoichifaaNumH
namespace Go.Proofs.Ytfmmdnjoichifaa
open Go.RowKit

theorem takeM_one {s : Option (List UInt8)} {t : List UInt8} {rest : List UInt8} (h : takeM 1 s = (t, some rest)) : ∃ c, t = [c] := by
  have := takeM_some 1 s rest (by rw [h])
  rw [h] at this
  simp only at this
  match t, this with
  | [c], _ => exact ⟨c, rfl⟩
theorem fixedM_take {s : Option (List UInt8)} {c : UInt8} {rest : List UInt8} (h : takeM 1 s = ([c], some rest)) : fixedM 1 s = (c.toNat, some rest) := by
  have hc := c.toNat_lt
  have hb : beV [c] = c.toNat := by simp [beV]
  unfold fixedM
  rw [if_pos (by decide), h]
  simp only [hb]
  rw [if_neg (by omega)]
theorem fixedM_take0 {s : Option (List UInt8)} (h : takeM 1 s = ([], none)) : fixedM 1 s = (0, none) := by
  unfold fixedM
  rw [if_pos (by decide), h]
  simp [beV]
theorem RdAt.lt {T : TypeId} {w : World} {g h : Nat} {s : Option (List UInt8)} (r : RdAt T w g h s) : g < w.heap.size := by
  obtain ⟨A, c, l, hb, -⟩ := r
  exact hb.lt
set_option maxRecDepth 100000 in
set_option maxHeartbeats 1000000 in
theorem rnum_at (g h : Nat) (s : Option (List UInt8)) (w : World) (r : RdAt 130 w g h s) (hgood : Good s) :
    Calls Try.prog 83 #[.pointer (some ⟨g, 0, none⟩)] w (RfPost g h w (.int .i64 ((numM s).1 : Int)) (numM s).2) := by
  have R := Lib.hid r
  clear r
  have htn := takeM_none 1 s
  have h1 := @takeM_one s
  have h2 := @fixedM_take s
  have h3 := @fixedM_take0 s
  have PB := Lib.hid (fun W (rr : RdAt 130 W g h s) => rbytes_at g h 1 s W rr hgood)
  obtain ⟨t, s1, ht⟩ : ∃ t s', takeM 1 s = (t, s') := ⟨_, _, rfl⟩
  have hg2 : Good s1 := by have := takeM_good (n := 1) hgood; rw [ht] at this; exact this
  have HG := Lib.hid hg2
  clear hg2
  rw [ht] at htn PB
  simp only at htn
  rcases s1 with _ | rest
  · obtain rfl := htn rfl
    have e : numM s = (0, none) := by unfold numM; rw [h3 ht]; rfl
    have E := Lib.hid e
    clear e h1 h2 h3 htn ht
    go_enter Try.func83, Try.ntmps83
    go_wp2_with fail
    refine (PB.out _ R.out).mono ?_
    rintro e w1 ⟨A, c, rfl, ho, hr, hg⟩
    obtain ⟨A1, cc1, l1, -, c1, -, f1, -⟩ := rd_cells hr
    simp only [Option.isNone_none] at c1
    have HR := Lib.hid hr
    clear hr ho
    go_wp2
    go_ret
    rw [E.out]
    exact ⟨rfl, HR.out, hg⟩
  · obtain ⟨c, rfl⟩ := h1 ht
    have hf := h2 ht
    have hm : numM s = if c.toNat < 240 then (c.toNat, some rest)
      else if c.toNat < 248 then (if (fixedM 1 (some rest)).2 = none then (0, none) else (240 + (c.toNat - 240) * 256 + (fixedM 1 (some rest)).1, (fixedM 1 (some rest)).2))
      else if c.toNat ≤ 254 then (if (fixedM ((c.toNat : Int) - 246) (some rest)).2 = none ∨ (putL (fixedM ((c.toNat : Int) - 246) (some rest)).1).length ≠ c.toNat - 245 then (0, none) else fixedM ((c.toNat : Int) - 246) (some rest))
      else (0, none) := by unfold numM; rw [hf]; rfl
    have HM := Lib.hid hm
    clear hm hf h1 h2 h3 htn ht
    have hcl := c.toNat_lt
    go_enter Try.func83, Try.ntmps83
    go_wp2_with fail
    refine (PB.out _ R.out).mono ?_
    rintro e w1 ⟨A, cc, rfl, ho, hr, hg⟩
    dsimp only at ho hr ⊢
    obtain ⟨A1, cc1, l1, -, c1, -, f1, -⟩ := rd_cells hr
    simp only [Option.isNone_some] at c1
    obtain ⟨hh, -, hs, -⟩ := SlB.of_own ho
    have HR := Lib.hid hr
    have HS := Lib.hid hs
    clear hr ho hs
    obtain ⟨ad, hA, hcell0⟩ := HS.out.cell (k := 0) (by simp)
    subst hA
    have ead : ad.add 0 = ad := by simp [Addr.add]
    rw [ead] at hcell0
    simp only [List.getElem_cons_zero] at hcell0
    clear ead HS
    obtain ⟨n, hn⟩ : ∃ n, n = c.toNat := ⟨_, rfl⟩
    rw [← hn] at hcell0 hcl HM
    clear hn
    by_cases k1 : n < 240
    · have e : numM s = (n, some rest) := by rw [HM.out, if_pos k1]
      have E := Lib.hid e
      clear e
      have d1 : decide ((n : Int) < 240) = true := by simp; omega
      go_wp2
      go_ret
      rw [E.out]
      exact ⟨rfl, HR.out, hg⟩
    · have d1 : decide ((n : Int) < 240) = false := by simp; omega
      by_cases k2 : n < 248
      · have d2 : decide ((n : Int) < 248) = true := by simp; omega
        have hx := fixedM_one (some rest)
        obtain ⟨x, s2, hf2⟩ : ∃ x s2, fixedM 1 (some rest) = (x, s2) := ⟨_, _, rfl⟩
        rw [hf2] at hx
        simp only at hx
        have F2 := Lib.hid hf2
        clear hf2
        go_wp2_with fail
        refine (rfixed_at g h 1 (some rest) _ HR.out HG.out).mono ?_
        rw [F2.out]
        rintro e w2 ⟨rfl, r2, hg2⟩
        obtain ⟨A2, cc2, l2, -, c1, -, f1, -⟩ := rd_cells r2
        have R2 := Lib.hid r2
        clear r2
        rcases s2 with _ | l2
        · have e : numM s = (0, none) := by rw [HM.out, if_neg k1, if_pos k2, F2.out, if_pos rfl]
          have E := Lib.hid e
          clear e
          simp only [Option.isNone_none] at c1
          go_wp2
          go_ret
          rw [E.out]
          exact ⟨rfl, rd_spoil R2.out, only_trans2 (only_trans hg hg2) _⟩
        · have e : numM s = (240 + (n - 240) * 256 + x, some l2) := by
            rw [HM.out, if_neg k1, if_pos k2, F2.out, if_neg (by simp)]
          have E := Lib.hid e
          clear e
          simp only [Option.isNone_some] at c1
          have en : (240 + 256 * ((n : Int) - 240) + (x : Int)) = ((240 + (n - 240) * 256 + x : Nat) : Int) := by omega
          have hpl : (putL (240 + (n - 240) * 256 + x)).length = 2 := by rw [putL_length, if_neg (by omega), if_pos (by omega)]
          have PP := Lib.hid (rput_any (240 + (n - 240) * 256 + x) w2 (by omega))
          rw [← en] at PP
          have EN := Lib.hid en
          clear en
          go_wp2_with fail
          refine PP.out.mono ?_
          rintro e w3 ⟨v, rfl, ho, hb3⟩
          obtain ⟨h3, B3, rfl, c3, -⟩ := own_form ho
          rw [hpl]
          have c1' : w3.cell? ⟨g, 1, none⟩ = some (.bool false) := by rw [← c1]; exact World.cell?_of_block (a := ⟨g, 1, none⟩) (hb3.block g R2.out.lt)
          clear ho c1
          have HB3 := Lib.hid hb3
          clear hb3
          go_wp2_with fail
          refine (sizeOf_any (n : Int) _ (by omega) (by omega)).mono ?_; rintro e w' ⟨rfl, rfl⟩
          rw [if_pos (by omega)]
          go_wp2
          go_ret
          rw [E.out]
          exact ⟨ret_int (by simp only; exact EN.out), R2.out.below HB3.out, only_below (only_trans hg hg2) HB3.out⟩
      · have d2 : decide ((n : Int) < 248) = false := by simp; omega
        by_cases k3 : n ≤ 254
        · have d3 : decide ((n : Int) < 255) = true := by simp; omega
          have hxl := fixedM_le ((n : Int) - 246) (some rest)
          obtain ⟨x, s2, hf2⟩ : ∃ x s2, fixedM ((n : Int) - 246) (some rest) = (x, s2) := ⟨_, _, rfl⟩
          rw [hf2] at hxl
          simp only at hxl
          have F2 := Lib.hid hf2
          clear hf2
          go_wp2_with fail
          refine (rfixed_at g h ((n : Int) - 246) (some rest) _ HR.out HG.out).mono ?_
          rw [F2.out]
          rintro e w2 ⟨rfl, r2, hg2⟩
          obtain ⟨A2, cc2, l2, -, c1, -, f1, -⟩ := rd_cells r2
          have R2 := Lib.hid r2
          clear r2
          rcases s2 with _ | l2
          · have e : numM s = (0, none) := by rw [HM.out, if_neg k1, if_neg k2, if_pos k3, F2.out, if_pos (.inl rfl)]
            have E := Lib.hid e
            clear e
            simp only [Option.isNone_none] at c1
            go_wp2
            go_ret
            rw [E.out]
            exact ⟨rfl, rd_spoil R2.out, only_trans2 (only_trans hg hg2) _⟩
          · simp only [Option.isNone_some] at c1
            go_wp2_with fail
            refine (rput_any x w2 hxl).mono ?_
            rintro e w3 ⟨v, rfl, ho, hb3⟩
            obtain ⟨h3, B3, rfl, c3, -⟩ := own_form ho
            have c1' : w3.cell? ⟨g, 1, none⟩ = some (.bool false) := by rw [← c1]; exact World.cell?_of_block (a := ⟨g, 1, none⟩) (hb3.block g R2.out.lt)
            have f1' : w3.frozen? ⟨g, 1, none⟩ = false := by rw [← f1]; exact World.frozen?_of_block (a := ⟨g, 1, none⟩) (hb3.block g R2.out.lt)
            have R3 := Lib.hid (R2.out.below hb3)
            have G3 := Lib.hid (only_below (only_trans hg hg2) hb3)
            clear ho c1 f1 hb3 R2
            by_cases c4 : (putL x).length = n - 245
            · have e : numM s = (x, some l2) := by rw [HM.out, if_neg k1, if_neg k2, if_pos k3, F2.out, if_neg (by simp [c4])]
              have E := Lib.hid e
              clear e
              have d4 : ((((putL x).length : Int)) != (n : Int) - 245) = false := by simp; omega
              go_wp2_with fail
              refine (sizeOf_any (n : Int) _ (by omega) (by omega)).mono ?_; rintro e w' ⟨rfl, rfl⟩
              rw [if_neg (by omega)]
              go_wp2
              go_ret
              rw [E.out]
              exact ⟨rfl, R3.out, G3.out⟩
            · have e : numM s = (0, none) := by rw [HM.out, if_neg k1, if_neg k2, if_pos k3, F2.out, if_pos (.inr c4)]
              have E := Lib.hid e
              clear e
              have d4 : ((((putL x).length : Int)) != (n : Int) - 245) = true := by simp; omega
              go_wp2_with fail
              refine (sizeOf_any (n : Int) _ (by omega) (by omega)).mono ?_; rintro e w' ⟨rfl, rfl⟩
              rw [if_neg (by omega)]
              go_wp2
              go_ret
              rw [E.out]
              exact ⟨rfl, rd_spoil R3.out, only_trans2 G3.out _⟩
        · have d3 : decide ((n : Int) < 255) = false := by simp; omega
          have e : numM s = (0, none) := by rw [HM.out, if_neg k1, if_neg k2, if_neg k3]
          have E := Lib.hid e
          clear e
          go_wp2
          go_ret
          rw [E.out]
          exact ⟨rfl, rd_spoil (rd_spoil HR.out), only_trans2 (only_trans2 hg _) _⟩
theorem numM_good {s : Option (List UInt8)} (h : Good s) : Good (numM s).2 := by
  have hn : Good none := fun _ e => by cases e
  unfold numM
  dsimp only
  split
  · exact hn
  · split
    · exact fixedM_good h
    · split
      · split
        · exact hn
        · exact fixedM_good (fixedM_good h)
      · split
        · split
          · exact hn
          · exact fixedM_good (fixedM_good h)
        · exact hn
set_option maxHeartbeats 400000 in
theorem rrtext_at (g h : Nat) (most : Int) (s : Option (List UInt8)) (w : World) (r : RdAt 130 w g h s) (hgood : Good s) :
    Calls Try.prog 84 #[.pointer (some ⟨g, 0, none⟩), .int .i64 most] w (RfPost g h w (.string ⟨(textM most s).1.toArray⟩) (textM most s).2) := by
  have R := Lib.hid r
  clear r
  obtain ⟨n, s1, hn⟩ : ∃ n s1, numM s = (n, s1) := ⟨_, _, rfl⟩
  have hm : textM most s = if (n : Int) > most then ([], none) else takeM (n : Int) s1 := by unfold textM; rw [hn]
  have HN := Lib.hid hn
  have HM := Lib.hid hm
  have hgn := numM_good hgood
  rw [hn] at hgn
  have HG := Lib.hid hgn
  clear hn hm hgn
  go_enter Try.func84, Try.ntmps84
  go_wp2_with fail
  refine (rnum_at _ _ _ _ R.out hgood).mono ?_
  rw [HN.out]
  rintro e w1 ⟨rfl, r1, hg1⟩
  obtain ⟨A2, cc2, l2, -, c1, -, f1, -⟩ := rd_cells r1
  have R1 := Lib.hid r1
  clear r1
  rcases s1 with _ | l1
  · have e : textM most s = ([], none) := by
      rw [HM.out]
      split <;> rfl
    have E := Lib.hid e
    clear e
    simp only [Option.isNone_none] at c1
    go_wp2
    go_ret
    rw [E.out]
    exact ⟨rfl, rd_spoil R1.out, only_trans2 hg1 _⟩
  · simp only [Option.isNone_some] at c1
    by_cases h : most < (n : Int)
    · have e : textM most s = ([], none) := by rw [HM.out, if_pos h]
      have E := Lib.hid e
      clear e
      have d : decide (most < (n : Int)) = true := by simpa using h
      go_wp2
      go_ret
      rw [E.out]
      exact ⟨rfl, rd_spoil R1.out, only_trans2 hg1 _⟩
    · have e : textM most s = takeM (n : Int) (some l1) := by rw [HM.out, if_neg h]
      have E := Lib.hid e
      clear e
      have d : decide (most < (n : Int)) = false := by simpa using h
      obtain ⟨t, s', ht⟩ : ∃ t s', takeM (n : Int) (some l1) = (t, s') := ⟨_, _, rfl⟩
      have HT := Lib.hid ht
      clear ht
      go_wp2_with fail
      refine (rbytes_at _ _ _ _ _ R1.out HG.out).mono ?_
      rw [HT.out]
      rintro e w3 ⟨A, c, rfl, ho, r3, hg3⟩
      obtain ⟨hh, -, hs, -⟩ := SlB.of_own ho
      have R3 := Lib.hid r3
      have hcv := run_convB w3 Try.underlying30 Try.underlying5 Try.underlying9 c (hs.reads rfl)
      clear r3 hs ho
      simp only at hcv
      go_wp2
      go_ret
      rw [E.out, HT.out]
      exact ⟨rfl, R3.out, only_trans hg1 hg3⟩
end Go.Proofs.Ytfmmdnjoichifaa
