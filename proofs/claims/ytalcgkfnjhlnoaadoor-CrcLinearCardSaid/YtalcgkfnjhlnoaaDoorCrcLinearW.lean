/- The walk of the law CrcLinear. -/
import Derived.Test.YtalcgkfnjhlnoaaDoorCrcBurstsW
namespace Go.Proofs.YtalcgkfnjhlnoaaDoor
open Go.RowKit

/-- These bytes are those three turned by one another. -/
def Xor3 (n : Nat) (a b c d : List UInt8) : Prop := ∀ j, j < n → d.getD j 0 = a.getD j 0 ^^^ b.getD j 0 ^^^ c.getD j 0
theorem getD_out (l : List UInt8) (j : Nat) (h : l.length ≤ j) : l.getD j 0 = 0 := by
  rw [List.getD_eq_getElem?_getD, List.getElem?_eq_none h]; rfl
theorem leV_xor3 (n : Nat) (a b c d : List UInt8) (ha : a.length = n) (hb : b.length = n) (hc : c.length = n) (hd : d.length = n) (h : Xor3 n a b c d) : leV d = leV a ^^^ leV b ^^^ leV c := by
  refine Nat.eq_of_testBit_eq fun j => ?_
  rw [Nat.testBit_xor, Nat.testBit_xor, leV_bit, leV_bit, leV_bit, leV_bit]
  by_cases hj : j / 8 < n
  · rw [h _ hj, UInt8.toNat_xor, UInt8.toNat_xor, Nat.testBit_xor, Nat.testBit_xor]
  · rw [getD_out a _ (by omega), getD_out b _ (by omega), getD_out c _ (by omega), getD_out d _ (by omega)]
    simp
theorem xor_six (f A B C : Nat) : f ^^^ A ^^^ (f ^^^ B) ^^^ (f ^^^ C) = f ^^^ (A ^^^ B ^^^ C) := by
  refine Nat.eq_of_testBit_eq fun j => ?_
  simp only [Nat.testBit_xor]
  cases f.testBit j <;> cases A.testBit j <;> cases B.testBit j <;> cases C.testBit j <;> rfl
theorem more_xor3 (n : Nat) (a b c d : List UInt8) (ha : a.length = n) (hb : b.length = n) (hc : c.length = n) (hd : d.length = n) (h : Xor3 n a b c d) : moreM 0 a ^^^ moreM 0 b ^^^ moreM 0 c = moreM 0 d := by
  have hn : ∀ x, notM x = notM 0 ^^^ x := fun x => by
    have := notM_xor x 0
    rw [Nat.xor_zero] at this
    rw [this, Nat.xor_comm]
  unfold moreM
  generalize hf : notM 0 = f at hn
  rw [hn (regM f a), hn (regM f b), hn (regM f c), hn (regM f d), xor_six, regM_bits a, regM_bits b, regM_bits c, regM_bits d, ha, hb, hc, hd, ← bitK_xor, ← bitK_xor, xor_six, leV_xor3 n a b c d ha hb hc hd h]
set_option maxRecDepth 100000 in
set_option maxHeartbeats 2000000 in
theorem linear_in (A B C : Option Addr) (g h i : Nat) (a b c : List UInt8) (ca cb cc : Nat) (w : World) (ha : InB w A g a ca) (hb : InB w B h b cb) (hc : InB w C i c cc) (hla : a.length ≤ 2000) (hab : b.length = a.length) (hac : c.length = a.length) (hh : HalvesAt w) :
    Calls Tryd.prog 8 #[.slice A a.length ca, .slice B a.length cb, .slice C a.length cc] w (LawPost w) := by
  obtain ⟨sa, qa, ma⟩ := ha
  obtain ⟨sb, qb, mb⟩ := hb
  obtain ⟨sc, qc, mc⟩ := hc
  have d1 : decide ((2000 : Int) < (a.length : Int)) = false := by simp; omega
  obtain ⟨n, hn⟩ : ∃ n, n = a.length := ⟨_, rfl⟩
  rw [← hn] at d1 hla hab hac ⊢
  have hmk := run_make_row' (P := Tryd.prog) 23 5 (.int .u8 0) 1 Tryd.underlying23 info_u8 rfl .i64 .i64 n (by omega) (by omega)
  have SA := Lib.hid sa
  have SB := Lib.hid sb
  have SC := Lib.hid sc
  have HN := Lib.hid hn
  have HAB := Lib.hid hab
  have HAC := Lib.hid hac
  have HH := Lib.hid hh
  have QA := Lib.hid qa
  have QB := Lib.hid qb
  have QC := Lib.hid qc
  have MA := Lib.hid ma
  have MB := Lib.hid mb
  have MC := Lib.hid mc
  clear sa sb sc hn hab hac hh qa qb qc ma mb mc
  have T0 := Lib.hid (show TB (w.alloc (.cells (madeCells #[.int .u8 0] n) 5)) w.heap.size (List.replicate n 0) from ⟨_, Blk.new w _ _, by rw [made_byt]; simp [Byt]⟩)
  have B0 := Lib.hid (alloc_below w (.cells (madeCells #[.int .u8 0] n) 5))
  generalize madeCells #[.int .u8 0] n = cs at hmk T0 B0
  go_enter Tryd.func8, Tryd.ntmps8
  go_wp2_with fail
  go_loopw [8] (fun j wr => ∃ (k : Nat) (d : List UInt8), k ≤ n ∧ j = .int .i64 (k : Int) ∧ TB wr w.heap.size d ∧ d.length = n ∧ Xor3 k a b c d ∧ Below w.heap.size w wr) (fun j _ => n - (intOf j).toNat)
  case atStart => exact ⟨0, _, by omega, rfl, T0.out, List.length_replicate .., fun j hj => absurd hj (by omega), B0.out⟩
  case round =>
    obtain ⟨k, d, hk, rfl, htb, hdl, hx, hbw⟩ := hrel
    have TB0 := Lib.hid htb
    have DL := Lib.hid hdl
    have HX := Lib.hid hx
    have BW := Lib.hid hbw
    clear htb hdl hx hbw
    by_cases hk2 : k < n
    · obtain ⟨A', rfl, ka⟩ := (SA.out.below BW.out fun h => h).cell (k := k) (by rw [← HN.out]; exact hk2)
      obtain ⟨B', rfl, kb⟩ := (SB.out.below BW.out fun h => h).cell (k := k) (by rw [HAB.out]; exact hk2)
      obtain ⟨C', rfl, kc⟩ := (SC.out.below BW.out fun h => h).cell (k := k) (by rw [HAC.out]; exact hk2)
      have kd := TB0.out.cell (List.getElem?_eq_getElem (show k < d.length by rw [DL.out]; exact hk2))
      have ka' : wr.drew.cell? (A'.add k) = some (.int .u8 (a[k]'(by rw [← HN.out]; exact hk2)).toNat) := ka
      have kb' : wr.drew.cell? (B'.add k) = some (.int .u8 (b[k]'(by rw [HAB.out]; exact hk2)).toNat) := kb
      have kc' : wr.drew.cell? (C'.add k) = some (.int .u8 (c[k]'(by rw [HAC.out]; exact hk2)).toNat) := kc
      have kd' : wr.drew.cell? ⟨w.heap.size, k, none⟩ = some (.int .u8 (d[k]'(by rw [DL.out]; exact hk2)).toNat) := kd
      have fd' : wr.drew.frozen? ⟨w.heap.size, k, none⟩ = false := TB0.out.frozen k
      clear ka kb kc kd
      have ea : a[k]'(by rw [← HN.out]; exact hk2) = a.getD k 0 := by rw [List.getD_eq_getElem?_getD, List.getElem?_eq_getElem]; rfl
      have eb : b[k]'(by rw [HAB.out]; exact hk2) = b.getD k 0 := by rw [List.getD_eq_getElem?_getD, List.getElem?_eq_getElem]; rfl
      have ec : c[k]'(by rw [HAC.out]; exact hk2) = c.getD k 0 := by rw [List.getD_eq_getElem?_getD, List.getElem?_eq_getElem]; rfl
      rw [ea] at ka'
      rw [eb] at kb'
      rw [ec] at kc'
      clear ea eb ec
      obtain ⟨x, hx⟩ : ∃ x, x = a.getD k 0 := ⟨_, rfl⟩
      obtain ⟨y, hy⟩ : ∃ y, y = b.getD k 0 := ⟨_, rfl⟩
      obtain ⟨z, hz⟩ : ∃ z, z = c.getD k 0 := ⟨_, rfl⟩
      rw [← hx] at ka'
      rw [← hy] at kb'
      rw [← hz] at kc'
      have e1 := u8_xor_nat x.toNat y.toNat x.toNat_lt y.toNat_lt
      rw [← UInt8.toNat_xor] at e1
      have e2 := u8_xor_nat (x ^^^ y).toNat z.toNat (x ^^^ y).toNat_lt z.toNat_lt
      rw [← UInt8.toNat_xor] at e2
      have HV := Lib.hid (show x ^^^ y ^^^ z = a.getD k 0 ^^^ b.getD k 0 ^^^ c.getD k 0 by rw [hx, hy, hz])
      clear hx hy hz
      generalize x ^^^ y ^^^ z = v at e2 HV
      generalize x ^^^ y = xy at e1 e2
      go_wp2_with fail
      go_region
      have TB1 := Lib.hid (TB0.out.set k v)
      have BW1 := Lib.hid (below_drew (below_setCell BW.out (p := ⟨w.heap.size, k, none⟩) (Nat.le_refl _) (.int .u8 (v.toNat : Int))))
      go_wp2
      refine ⟨⟨k + 1, d.set k v, by omega, by go_num, TB1.out, by rw [List.length_set]; exact DL.out, fun j hj => ?_, BW1.out⟩, by simp [intOf]; omega⟩
      by_cases hjk : j = k
      · subst hjk
        rw [← HV.out, List.getD_eq_getElem?_getD, List.getElem?_set_self (by rw [DL.out]; exact hk2)]
        rfl
      · rw [← HX.out j (by omega), List.getD_eq_getElem?_getD, List.getElem?_set_ne (fun e => hjk e.symm), ← List.getD_eq_getElem?_getD]
    · obtain rfl : k = n := by omega
      have hsd : SlB wr w.heap.size (some ⟨w.heap.size, 0, none⟩) d := TB0.out.slb
      have hh1 := HH.out.below BW.out HH.out.pos
      have hnm : k ≤ maxLen := by unfold maxLen; omega
      have PS := Lib.hid (seal_any (some ⟨w.heap.size, 0, none⟩) w.heap.size d k wr hh1 hsd (by rw [DL.out]; omega) hnm (by rw [DL.out]; omega))
      rw [DL.out] at PS
      have HH1 := Lib.hid hh1
      have NM := Lib.hid hnm
      clear hsd hh1 hnm
      go_wp2_with fail
      refine PS.out.mono ?_
      rintro e w1 ⟨A1, c1, rfl, o1, b1⟩
      obtain ⟨g1, hg1, s1, -⟩ := SlB.of_own o1
      obtain ⟨q1, q2⟩ := own_cap o1
      have HH2 := Lib.hid (HH1.out.below b1 HH1.out.pos)
      have PO := Lib.hid (open_any A1 g1 (sealM d) c1 w1 HH2.out s1 q1 q2 (by rw [sealM_length, DL.out]; omega))
      rw [sealM_length, DL.out]
      rw [sealM_length, DL.out] at PO
      have B1 := Lib.hid b1
      clear o1 s1 b1 q1
      go_wp2_with fail
      refine PO.out.mono ?_
      rintro e w2 ⟨ok, A5, c5, h5, d5, rfl, s5, hop, b2⟩
      obtain rfl : ok = true := by
        unfold openM at hop
        rw [sealM_take, if_pos ⟨by rw [sealM_length]; omega, rfl⟩] at hop
        exact (Prod.mk.inj hop).1.symm
      simp only [show okE true = 0 from rfl]
      have HH3 := Lib.hid (HH2.out.below b2 HH2.out.pos)
      have B2 := Lib.hid (below_trans B1.out b2)
      clear b2 s5 hop
      go_wp2_with fail
      refine (lives_any _ HH3.out).mono ?_; rintro e w3 ⟨rfl, b3⟩
      have HH4 := Lib.hid (HH3.out.below b3 HH3.out.pos)
      have B3 := Lib.hid (below_trans B2.out b3)
      have B4 := Lib.hid (below_trans BW.out B3.out)
      clear b3
      have P1 := Lib.hid (sum_any A g a ca w3 HH4.out (SA.out.below B4.out fun h => h) QA.out MA.out)
      have P2 := Lib.hid (sum_any B h b cb w3 HH4.out (SB.out.below B4.out fun h => h) QB.out MB.out)
      have P3 := Lib.hid (sum_any C i c cc w3 HH4.out (SC.out.below B4.out fun h => h) QC.out MC.out)
      have P4 := Lib.hid (sum_any (some ⟨w.heap.size, 0, none⟩) w.heap.size d k w3 HH4.out (TB0.out.slb.below B3.out fun h => h) (by rw [DL.out]; omega) NM.out)
      have P5 := Lib.hid (rsum_any (some ⟨w.heap.size, 0, none⟩) w.heap.size d k w3 (TB0.out.slb.below B3.out fun h => h) (by rw [DL.out]; omega) NM.out)
      rw [← HN.out] at P1
      rw [HAB.out] at P2
      rw [HAC.out] at P3
      rw [DL.out] at P4 P5
      have hm := more_xor3 k a b c d HN.out.symm HAB.out HAC.out DL.out HX.out
      have l1 := moreM_lt (s := 0) a (by decide)
      have l2 := moreM_lt (s := 0) b (by decide)
      have l3 := moreM_lt (s := 0) c (by decide)
      generalize moreM 0 a = m1 at P1 hm l1
      generalize moreM 0 b = m2 at P2 hm l2
      generalize moreM 0 c = m3 at P3 hm l3
      generalize moreM 0 d = m4 at P4 P5 hm
      have e1 := u32_xor_nat m1 m2 l1 l2
      have e2 := u32_xor_nat (m1 ^^^ m2) m3 (Nat.xor_lt_two_pow (n := 32) (by omega) (by omega)) l3
      rw [hm] at e2
      clear hm l1 l2 l3
      generalize m1 ^^^ m2 = m12 at e1 e2
      go_wp2_with fail
      refine P1.out.mono ?_; rintro e w' ⟨rfl, rfl⟩
      go_wp2_with fail
      refine P2.out.mono ?_; rintro e w' ⟨rfl, rfl⟩
      go_wp2_with fail
      refine P3.out.mono ?_; rintro e w' ⟨rfl, rfl⟩
      go_wp2_with fail
      refine P4.out.mono ?_; rintro e w' ⟨rfl, rfl⟩
      go_wp2_with fail
      refine P4.out.mono ?_; rintro e w' ⟨rfl, rfl⟩
      go_wp2_with fail
      refine P5.out.mono ?_; rintro e w' ⟨rfl, rfl⟩
      go_wp2
      go_ret
      exact ⟨rfl, B4.out⟩
theorem linear_law (A B C : Option Addr) (g h i : Nat) (a b c : List UInt8) (ca cb cc : Nat) (w : World) (ha : InB w A g a ca) (hb : InB w B h b cb) (hc : InB w C i c cc) (hh : HalvesAt w) :
    Calls Tryd.prog 8 #[.slice A a.length ca, .slice B b.length cb, .slice C c.length cc] w (LawPost w) := by
  have hlm : a.length ≤ 9223372036854775807 := Nat.le_trans ha.2.1 ha.2.2
  have hlb : b.length ≤ 9223372036854775807 := Nat.le_trans hb.2.1 hb.2.2
  have hlc : c.length ≤ 9223372036854775807 := Nat.le_trans hc.2.1 hc.2.2
  by_cases h1 : 2000 < a.length
  · have d1 : decide ((2000 : Int) < (a.length : Int)) = true := by simp; omega
    have HH := Lib.hid hh
    clear hh ha hb hc
    go_enter Tryd.func8, Tryd.ntmps8
    go_wp2_with fail
    refine (lives_any _ HH.out).mono ?_; rintro e w1 ⟨rfl, b1⟩
    go_wp2
    go_ret
    exact ⟨rfl, b1⟩
  · by_cases h2 : b.length = a.length
    · by_cases h3 : c.length = a.length
      · have := linear_in A B C g h i a b c ca cb cc w ha hb hc (by omega) h2 h3 hh
        rw [h2, h3]
        exact this
      · have d1 : decide ((2000 : Int) < (a.length : Int)) = false := by simp; omega
        have d3 : ((a.length : Int) == (c.length : Int)) = false := beq_false_of' (by omega)
        have HH := Lib.hid hh
        rw [h2]
        clear hh ha hb hc
        go_enter Tryd.func8, Tryd.ntmps8
        go_wp2_with fail
        refine (lives_any _ HH.out).mono ?_; rintro e w1 ⟨rfl, b1⟩
        go_wp2
        go_ret
        exact ⟨rfl, b1⟩
    · have d1 : decide ((2000 : Int) < (a.length : Int)) = false := by simp; omega
      have d3 : ((a.length : Int) == (b.length : Int)) = false := beq_false_of' (by omega)
      have HH := Lib.hid hh
      clear hh ha hb hc
      go_enter Tryd.func8, Tryd.ntmps8
      go_wp2_with fail
      refine (lives_any _ HH.out).mono ?_; rintro e w1 ⟨rfl, b1⟩
      go_wp2
      go_ret
      exact ⟨rfl, b1⟩
end Go.Proofs.YtalcgkfnjhlnoaaDoor
