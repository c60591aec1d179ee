/- The law EditMakes. -/
import Derived.Test.YtfmmdnjoichifaaEdU
namespace Go.Proofs.Ytfmmdnjoichifaa
open Go.RowKit Go.Sort

set_option maxRecDepth 100000 in
set_option maxHeartbeats 16000000 in
theorem edmakes_any (A : Option Addr) (l : List Ed) (c : Nat) (w : World) (hin : EdsAt w w.heap.size A l ∧ ∀ e ∈ l, small e.refs) :
    Calls Try.prog 7 #[.slice A l.length c] w fun x w' => x = .returned (.bool true) ∧ Below w.heap.size w w' := by
  have HIN := Lib.hid hin.1
  have HSM := Lib.hid hin.2
  have P1 := Lib.hid (st_new w w.heap.size (Nat.le_refl _))
  clear hin
  go_enter Try.func7, Try.ntmps7
  go_wp2_with fail
  refine P1.out.mono ?_; rintro x w1 ⟨g1, rfl, h1, hg1, b1⟩
  have H1 := Lib.hid h1
  have B1 := Lib.hid b1
  have z1 := b1.size
  have y1 := h1.parts.2.2
  clear h1 b1 P1
  go_wp2_with fail
  refine (st_new w1 w.heap.size z1).mono ?_; rintro x w2 ⟨g2, rfl, h2, hg2, b2⟩
  have HT2 := Lib.hid h2
  have HS2 := Lib.hid (H1.out.below b2)
  have B2 := Lib.hid (B1.out.trans (b2.mono z1))
  have hne : g2 ≠ g1 := by omega
  clear h2 b2 H1 B1
  go_wp2_with fail
  refine (elives_any w2).mono ?_; rintro x w3 ⟨rfl, b3⟩
  have HT3 := Lib.hid (HT2.out.below b3)
  have HS3 := Lib.hid (HS2.out.below b3)
  have B3 := Lib.hid (B2.out.trans (b3.mono B2.out.size))
  clear b3 HT2 HS2 B2
  go_wp2_with fail
  go_loopw [5] (fun i wr => ∃ (k : Nat) (S : St) (hb : Option Nat), k ≤ l.length ∧ k ≤ 60 ∧ i = .int .i64 (k : Int) ∧ S.seq ∧ StR 133 wr w.heap.size g1 hb S ∧ StR 133 wr w.heap.size g2 none ⟨[], none⟩ ∧ Below w.heap.size w wr) (fun i _ => 60 - (intOf i).toNat)
  case atStart => exact ⟨0, ⟨[], none⟩, none, Nat.zero_le _, Nat.zero_le _, rfl, ⟨fun i e he => (by cases he), fun m hm => (by cases hm)⟩, HS3.out, HT3.out, B3.out⟩
  case round =>
    obtain ⟨k, S, hb, hk, hk6, rfl, hseq, hs, ht, hbw⟩ := hrel
    have SEQ := Lib.hid hseq
    have HS := Lib.hid hs
    have HT := Lib.hid ht
    have BW := Lib.hid hbw
    clear hseq hs ht hbw HS3 HT3 B3
    by_cases hgo : k < l.length ∧ k < 60
    · obtain ⟨hlt, h60⟩ := hgo
      have i2 : decide ((k : Int) < 60) = true := by rw [decide_eq_true_eq]; omega
      obtain ⟨e, hea⟩ : ∃ e, l[k]? = some e := ⟨_, List.getElem?_eq_getElem hlt⟩
      obtain ⟨h, o1, eA, ec, rfl, -, px, rx⟩ := (HIN.out.below BW.out) k e hea
      have PL := Lib.hid (large_any e eA ec _ _ rx (HSM.out e (List.mem_of_getElem? hea)))
      have PX := Lib.hid px
      have RX := Lib.hid rx
      have q0 := px 0 _ rfl
      have q1 := px 1 _ rfl
      have q2 := px 2 _ rfl
      have q3 := px 3 _ rfl
      simp only [xOf, Nat.add_zero] at q0 q1 q2 q3
      unfold edV at PL
      clear px rx hea
      go_wp2_with fail
      refine PL.out.mono ?_; rintro x w4 ⟨lb, rfl, hlb, b4⟩
      have HS4 := Lib.hid (HS.out.below b4)
      have HT4 := Lib.hid (HT.out.below b4)
      have B4 := Lib.hid (BW.out.trans (b4.mono BW.out.size))
      have RX4 := Lib.hid (RX.out.below b4)
      clear PL q0 q1 q2 q3
      cases lb
      · have q0 := (EdsAt.below (HIN.out.below BW.out) b4)
        have hlen := hlb rfl
        obtain ⟨e', hea⟩ : ∃ e', l[k]? = some e' := ⟨_, List.getElem?_eq_getElem hlt⟩
        clear q0 hea e'
        have q : ∀ j u, (encX (xOf e eA ec))[j]? = some u → w4.cell? ⟨h, o1 + k * 4 + j, none⟩ = some u := fun j u hu => by
          have h1 := PX.out j u hu
          exact (World.cell?_of_block (a := ⟨h, o1 + k * 4 + j, none⟩) (b4.block h (block_lt_of_cell h1))).trans h1
        have q0 := q 0 _ rfl
        have q1 := q 1 _ rfl
        have q2 := q 2 _ rfl
        have q3 := q 3 _ rfl
        simp only [xOf, Nat.add_zero] at q0 q1 q2 q3
        have PA := Lib.hid (st_apply HS4.out B4.out.size e eA ec _ RX4.out (by omega))
        unfold edV at PA
        clear q b4 hlb
        go_wp2_with fail
        refine PA.out.mono ?_; rintro x w5 ⟨rfl, hb5, h5, f5, ho5⟩
        have HT5 := Lib.hid (HT4.out.ef2 HS4.out (by decide) (by decide) hne (fun k hk h => (by cases h)) f5)
        have B5 := Lib.hid (B4.out.trans (f5.below HS4.out.parts.1 (fun k hk => (HS4.out.parts.2.1 k hk).1) B4.out.size))
        have HS5 := Lib.hid h5
        clear q0 q1 q2 q3 PA f5 h5 ho5
        go_wp2
        exact ⟨⟨k + 1, _, hb5, by omega, by omega, by go_num, apS_seq SEQ.out, HS5.out, HT5.out, B5.out⟩, by simp only [intOf]; omega⟩
      · clear b4 hlb
        go_wp2
        exact ⟨⟨k + 1, S, hb, by omega, by omega, by go_num, SEQ.out, HS4.out, HT4.out, B4.out⟩, by simp only [intOf]; omega⟩
    · have hx : k = l.length ∨ (60 < l.length ∧ k = 60) := by omega
      clear hgo hk hk6
      rcases hx with rfl | ⟨i1, rfl⟩
      all_goals
        go_wp2_with fail
        refine (st_edits HS.out).mono ?_; rintro x w4 ⟨A4, c4, xs4, rfl, o4, r4, b4⟩
        have HS4 := Lib.hid (HS.out.below b4)
        have HT4 := Lib.hid (HT.out.below b4)
        have B4 := Lib.hid (BW.out.trans (b4.mono BW.out.size))
        have O4 := Lib.hid o4
        have R4 := Lib.hid r4
        have KQ := Lib.hid (fun k hk => (⟨by have := (World.ownsRow.lt o4 k hk).1; have := HT.out.parts.2.2; omega, (World.ownsRow.lt o4 k hk).2⟩ : g2 < k ∧ k < w4.heap.size))
        have KH := Lib.hid (fun k hk => (HS4.out.parts.2.1 k hk).2)
        have hbig := HS4.out.good.2.2
        have OKS := Lib.hid (edits_ok HS4.out.good)
        have hel := edits_len S
        have hsl : S.edits.length ≤ 65537 := by rw [hel]; split <;> omega
        clear o4 r4 b4 HS HT BW hel hbig
        go_wp2_with fail
        go_loopw [7] (fun i wr => ∃ (j : Nat) (hb2 : Option Nat), j ≤ S.edits.length ∧ i = .int .i64 (j : Int) ∧ StR 133 wr w.heap.size g1 hb S ∧ StR 133 wr w.heap.size g2 hb2 (preS S j) ∧ HbN w4.heap.size hb2 ∧ wr.ownsRow 0 50 4 (.slice A4 S.edits.length c4) S.edits.length (RowV encX xs4) ∧ EdRow wr 0 xs4 S.edits ∧ w4.heap.size ≤ wr.heap.size ∧ Below w.heap.size w wr) (fun i _ => S.edits.length - (intOf i).toNat)
        case atStart => exact ⟨0, none, Nat.zero_le _, rfl, HS4.out, HT4.out, HbN.none_ _, own_down O4.out, R4.out, Nat.le_refl _, B4.out⟩
        case round =>
          obtain ⟨j, hb2, hj, rfl, hs, ht, hn, ho, hr, hz, hbw⟩ := hrel
          by_cases hlt : j < S.edits.length
          · obtain ⟨e, hea⟩ : ∃ e, S.edits[j]? = some e := ⟨_, List.getElem?_eq_getElem hlt⟩
            have HS := Lib.hid hs
            have HT := Lib.hid ht
            have N := Lib.hid hn
            have O := Lib.hid ho
            have R := Lib.hid hr
            have BW := Lib.hid hbw
            obtain ⟨h, o1, eA, ec, rfl, -, px, rx⟩ := (eds_own ho hr) j e hea
            have hel := okEd_len (OKS.out e (List.mem_of_getElem? hea))
            have PA := Lib.hid (st_apply ht hbw.size e eA ec 0 rx (by omega))
            rw [apS_pre SEQ.out hs.good hea] at PA
            have q0 := px 0 _ rfl
            have q1 := px 1 _ rfl
            have q2 := px 2 _ rfl
            have q3 := px 3 _ rfl
            simp only [xOf, Nat.add_zero] at q0 q1 q2 q3
            unfold edV at PA
            clear hs ht hn ho hr hbw px rx hea hel
            go_wp2_with fail
            refine PA.out.mono ?_; rintro x w6 ⟨rfl, hb6, h6, f6, ho6⟩
            have HS6 := Lib.hid (HS.out.ef2 HT.out (by decide) (by decide) (Ne.symm hne) (fun k hk h => (by have := N.out k hk; have := KH.out k h; omega)) f6)
            have O6 := Lib.hid (f6.row O.out fun k hk => ⟨by have := (KQ.out k hk).1; omega, fun e => (by have := N.out k e.symm; have := (KQ.out k hk).2; omega)⟩)
            have R6 := Lib.hid (show EdRow w6 0 xs4 S.edits from ⟨R.out.1, fun i e he => (by obtain ⟨A', c', h1, h2⟩ := R.out.2 i e he; exact ⟨A', c', h1, h2.ef HT.out (by decide) f6⟩)⟩)
            have N6 := Lib.hid (N.out.next ho6 hz)
            have B6 := Lib.hid (BW.out.trans (f6.below HT.out.parts.1 (fun k hk => (HT.out.parts.2.1 k hk).1) BW.out.size))
            have HT6 := Lib.hid h6
            have hz6 := Nat.le_trans hz f6.size
            clear q0 q1 q2 q3 PA f6 h6 ho6
            simp only
            go_wp2
            exact ⟨⟨j + 1, hb6, by omega, by go_num, HS6.out, HT6.out, N6.out, O6.out, R6.out, hz6, B6.out⟩, by simp only [intOf]; omega⟩
          · obtain rfl : j = S.edits.length := by omega
            rw [preS_end] at ht
            have HS := Lib.hid hs
            have HT := Lib.hid ht
            have O := Lib.hid ho
            have R := Lib.hid hr
            have BW := Lib.hid hbw
            have hml := mk_len hs.good
            have PM1 := Lib.hid (fun W hb (h : StR 133 W w.heap.size g1 hb S) => st_mark h)
            have PM2 := Lib.hid (fun W hb (h : StR 133 W w.heap.size g2 hb S) => st_mark h)
            clear hs ht hn ho hr hbw hlt hj hz
            obtain ⟨m, hm⟩ : ∃ m, S.mk' = m := ⟨_, rfl⟩
            obtain ⟨mb, hmb⟩ : ∃ mb, S.mark.isSome = mb := ⟨_, rfl⟩
            simp only [hm, hmb] at PM1 PM2 hml
            obtain ⟨mk, me, mr, mf⟩ := m
            simp only at hml
            have hmb2 : (mb == mb) = true := by simp
            clear hm hmb
            go_wp2_with fail
            refine (PM1.out _ _ HS.out).mono ?_; rintro x w7 ⟨A7, c7, rfl, r7, b7⟩
            have bb := below_trans b7 (alloc_below w7 (.cells (edCs ⟨mk, me, mr, mf⟩ A7 c7) 50))
            have HS7 := Lib.hid (HS.out.below bb)
            have HT7 := Lib.hid (HT.out.below bb)
            have O7 := Lib.hid (own_below O.out bb)
            have R7 := Lib.hid (R.out.below bb)
            have B7 := Lib.hid (BW.out.trans (bb.mono BW.out.size))
            have X7 := Lib.hid (Blk.new w7 50 (edCs ⟨mk, me, mr, mf⟩ A7 c7))
            have RF7 := Lib.hid ((r7 0).below (alloc_below w7 (.cells (edCs ⟨mk, me, mr, mf⟩ A7 c7) 50)))
            clear r7 b7 bb HS HT O R BW PM1
            unfold edV edCs at *
            simp only at *
            go_wp2_with fail
            refine (PM2.out _ _ HT7.out).mono ?_; rintro x w8 ⟨A8, c8, rfl, r8, b8⟩
            have bb := below_trans b8 (alloc_below w8 (.cells (edCs ⟨mk, me, mr, mf⟩ A8 c8) 50))
            have HS8 := Lib.hid (HS7.out.below bb)
            have HT8 := Lib.hid (HT7.out.below bb)
            have O8 := Lib.hid (own_below O7.out bb)
            have R8 := Lib.hid (R7.out.below bb)
            have B8 := Lib.hid (B7.out.trans (bb.mono B7.out.size))
            have X8 := Lib.hid (X7.out.later bb)
            have RF8 := Lib.hid (RF7.out.below bb)
            have Y8 := Lib.hid (Blk.new w8 50 (edCs ⟨mk, me, mr, mf⟩ A8 c8))
            have RG8 := Lib.hid ((r8 0).below (alloc_below w8 (.cells (edCs ⟨mk, me, mr, mf⟩ A8 c8) 50)))
            clear r8 b8 bb HS7 HT7 O7 R7 B7 X7 RF7 PM2
            unfold edV edCs at *
            simp only at *
            go_wp2_with fail
            refine (st_edits HT8.out).mono ?_; rintro x w9 ⟨A9, c9, xs9, rfl, o9, r9, b9⟩
            have P9 := Lib.hid (edlist_same S.edits A4 A9 c4 c9 0 0 w9 (eds_own (own_below O8.out b9) (R8.out.below b9)) (eds_own o9 r9) (fun e he => (by have := okEd_len (OKS.out e he); omega)) (by omega))
            have HS9 := Lib.hid (HS8.out.below b9)
            have HT9 := Lib.hid (HT8.out.below b9)
            have B9 := Lib.hid (B8.out.trans (b9.mono B8.out.size))
            have X9 := Lib.hid (X8.out.later b9)
            have RF9 := Lib.hid (RF8.out.below b9)
            have Y9 := Lib.hid (Y8.out.later b9)
            have RG9 := Lib.hid (RG8.out.below b9)
            clear o9 r9 b9 HS8 HT8 B8 X8 RF8 Y8 RG8 O8 R8
            go_wp2_with fail
            refine P9.out.mono ?_; rintro x w10 ⟨rfl, b10⟩
            have HS10 := Lib.hid (HS9.out.below b10)
            have HT10 := Lib.hid (HT9.out.below b10)
            have B10 := Lib.hid (B9.out.trans (b10.mono B9.out.size))
            have X10 := Lib.hid (X9.out.later b10)
            have RF10 := Lib.hid (RF9.out.below b10)
            have Y10 := Lib.hid (Y9.out.later b10)
            have RG10 := Lib.hid (RG9.out.below b10)
            clear b10 HS9 HT9 B9 X9 RF9 Y9 RG9
            go_wp2_with fail
            refine (st_next HS10.out).mono ?_; rintro x w' ⟨rfl, rfl⟩
            go_wp2_with fail
            refine (st_next HT10.out).mono ?_; rintro x w' ⟨rfl, rfl⟩
            obtain ⟨-, p0, p1, p2, p3⟩ := EdBox.of (e := ⟨mk, me, mr, mf⟩) X10.out
            obtain ⟨-, q0, q1, q2, q3⟩ := EdBox.of (e := ⟨mk, me, mr, mf⟩) Y10.out
            simp only at p0 p1 p2 p3 q0 q1 q2 q3
            have PE := Lib.hid (red_same_any ⟨mk, me, mr, mf⟩ ⟨mk, me, mr, mf⟩ A7 A8 c7 c8 0 0 w10 RF10.out RG10.out (by show mf.length ≤ 1000000; omega) (by show mf.length ≤ 1000000; omega))
            unfold edV at PE
            simp only at PE
            have hll : decide ((S.done.length : Int) = (S.done.length : Int)) = true := by simp
            go_wp2_with fail
            refine PE.out.mono ?_; rintro x w11 ⟨rfl, b11⟩
            rw [eqE_yes rfl]
            have B11 := Lib.hid (B10.out.trans (b11.mono B10.out.size))
            clear b11
            go_wp2
            go_ret
            exact ⟨rfl, B11.out⟩
end Go.Proofs.Ytfmmdnjoichifaa
