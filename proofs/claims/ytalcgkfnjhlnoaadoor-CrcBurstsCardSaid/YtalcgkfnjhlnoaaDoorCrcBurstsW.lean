/- The walk of the law CrcBursts. -/
import Derived.Test.YtalcgkfnjhlnoaaDoorCrcSumsW
import Derived.Test.YtalcgkfnjhlnoaaDoorCrcBm
import Derived.RegionTactic
import Derived.ChangeAlike
namespace Go.Proofs.YtalcgkfnjhlnoaaDoor
open Go.RowKit

theorem beq_false_of' {a b : Int} (h : a ≠ b) : (a == b) = false := by simpa using h
/-- These bytes lie at the start of a block. -/
def TB (w : World) (g : Nat) (l : List UInt8) : Prop := ∃ cur, Blk w g 5 cur ∧ cur.toList.take l.length = Byt l
theorem TB.cell {w : World} {g : Nat} {l : List UInt8} (h : TB w g l) {k : Nat} {b : UInt8} (hb : l[k]? = some b) : w.cell? ⟨g, k, none⟩ = some (.int .u8 (b.toNat : Int)) := by
  obtain ⟨cur, hk, ht⟩ := h
  have hl : k < l.length := (List.getElem?_eq_some_iff.1 hb).1
  rw [hk.cell, ← Array.getElem?_toList]
  have := congrArg (·[k]?) ht
  simp only [List.getElem?_take_of_lt hl] at this
  rw [this]
  unfold Byt
  rw [List.getElem?_map, hb]
  rfl
theorem TB.slb {w : World} {g : Nat} {l : List UInt8} (h : TB w g l) : SlB w g (some ⟨g, 0, none⟩) l := fun _ => ⟨_, rfl, rfl, fun j b hj => by
  have e : (⟨g, 0, none⟩ : Addr).add j = ⟨g, j, none⟩ := by unfold Addr.add; split <;> simp_all
  rw [e]
  exact h.cell hj⟩
theorem TB.set {w : World} {g : Nat} {l : List UInt8} (h : TB w g l) (k : Nat) (b : UInt8) : TB (w.setCell ⟨g, k, none⟩ (.int .u8 (b.toNat : Int))) g (l.set k b) := by
  obtain ⟨cur, hk, ht⟩ := h
  refine ⟨_, hk.set_ k _, ?_⟩
  rw [List.length_set, Array.toList_setIfInBounds, List.take_set, ht]
  unfold Byt
  rw [List.map_set]
theorem TB.frozen {w : World} {g : Nat} {l : List UInt8} (h : TB w g l) (k : Nat) : w.frozen? ⟨g, k, none⟩ = false := by
  obtain ⟨cur, hk, _⟩ := h
  exact hk.frozen k
theorem TB.lt {w : World} {g : Nat} {l : List UInt8} (h : TB w g l) : g < w.heap.size := by
  obtain ⟨cur, hk, _⟩ := h
  exact hk.lt
theorem TB.below {w w' : World} {g B : Nat} {l : List UInt8} (h : TB w g l) (hb : Below B w w') (hg : g < B) : TB w' g l := by
  obtain ⟨cur, hk, ht⟩ := h
  exact ⟨cur, hk.below hb hg, ht⟩
/-- A row of one's own, not empty. -/
theorem TB.of_own {w : World} {base n c : Nat} {A : Option Addr} {l : List UInt8} (h : w.ownsRow base 5 1 (.slice A n c) n (Byt l)) (hn : 0 < n) : ∃ g, A = some ⟨g, 0, none⟩ ∧ base ≤ g ∧ TB w g l := by
  have hl := own_len h
  rcases h.2 with ⟨_, rfl⟩ | ⟨g, cap, cur, hv, hb, hh, _, _, _, ht⟩
  · exact absurd hn (by omega)
  · injection hv with h1 h2 h3
    exact ⟨g, h1, hb, cur, hh, by rw [← hl]; simpa using ht⟩
theorem load_u8_at (p : Addr) (n : Int) (w : World) (h : w.cell? p = some (.int .u8 n)) : (Instr.loadAt 5 (.pointer (some p))).run Tryd.prog w = .ok (.int .u8 n) w := by
  go_simp
theorem below_drew {w0 w : World} {B : Nat} (h : Below B w0 w) : Below B w0 w.drew := ⟨h.os, h.tape, h.output, h.size, h.block⟩
theorem below_setCell {w0 w : World} {B : Nat} (h : Below B w0 w) {p : Addr} (hp : B ≤ p.block) (u : Value) : Below B w0 (w.setCell p u) :=
  ⟨h.os, h.tape, h.output, by simpa using h.size, fun k hk => (Below.heap_setCell w p u k (by omega)).trans (h.block k hk)⟩
set_option maxRecDepth 100000 in
set_option maxHeartbeats 2000000 in
theorem bursts_in (A : Option Addr) (g : Nat) (l : List UInt8) (c : Nat) (at_ turn : Nat) (w : World) (ha : InB w A g l c) (hla : l.length ≤ 2000) (ht : turn < 4294967296) (hp : turn ≠ 0) (hat : at_ + 32 ≤ 8 * (l.length + 4)) (hh : HalvesAt w) :
    Calls Tryd.prog 6 #[.slice A l.length c, .int .i64 (at_ : Int), .int .u32 (turn : Int)] w (LawPost w) := by
  obtain ⟨sa, hac, hcm⟩ := ha
  have d1 : decide ((2000 : Int) < (l.length : Int)) = false := by simp; omega
  have d2 : ((turn : Int) == 0) = false := by simpa using hp
  have d3 : decide ((at_ : Int) < 0) = false := by simp
  have d4 : decide (8 * ((l.length : Int) + 4) - 32 < (at_ : Int)) = false := by simp; omega
  have PS := Lib.hid (seal_any A g l c w hh sa hac hcm (by omega))
  have hsl := sealM_length l
  obtain ⟨s, hs⟩ : ∃ s, s = sealM l := ⟨_, rfl⟩
  rw [← hs] at PS hsl
  have HS := Lib.hid hs
  have HSL := Lib.hid hsl
  have HH := Lib.hid hh
  clear sa hh hs hcm hsl
  go_enter Tryd.func6, Tryd.ntmps6
  go_wp2_with fail
  refine PS.out.mono ?_
  rintro e w1 ⟨A1, c1, rfl, o1, b1⟩
  obtain ⟨g1, hg1, s1, -⟩ := SlB.of_own o1
  obtain ⟨q1, q2⟩ := own_cap o1
  rw [HSL.out] at q1 ⊢
  have HH1 := Lib.hid (HH.out.below b1 HH.out.pos)
  clear o1
  go_wp2_with fail
  refine (lives_any _ HH1.out).mono ?_; rintro e w2 ⟨rfl, b2⟩
  have B2 := Lib.hid (below_trans b1 b2)
  have S1 := Lib.hid (s1.below b2 fun h => h)
  have HH2 := Lib.hid (HH1.out.below b2 HH1.out.pos)
  have HE := Lib.hid (empty_own w2 5)
  have HR := Lib.hid ((S1.out.below (alloc_below w2 (.cells #[] 5)) fun h => h).reads (n := l.length + 4) HSL.out.symm)
  clear s1 b2 b1
  go_wp2_with (at_builtin; (refine wpList_appB _ rfl (.tmp 47) (.tmp 48) _ rfl Tryd.underlying23 info_u8 HE.out HR.out c1 rfl rfl (by omega) (by simp) ?_); intro A3 c3 w3 o3 gr3; rw [Nat.zero_add, List.nil_append] at o3; have O3 := Lib.hid o3; have B3 := Lib.hid (show Below w2.heap.size w2 w3 from ((Below.refl _ _).alloc (Nat.le_refl _) _).grown (Grew.by_ gr3) (by simp) (by simp [Value.ownBlock])); clear o3 gr3)
  obtain ⟨g3, rfl, hg3, tb3⟩ := TB.of_own O3.out (by omega)
  go_loopw [9] (fun i wr => ∃ (k : Nat) (t : List UInt8), k ≤ 32 ∧ i = .int .i64 (k : Int) ∧ TB wr g3 t ∧ t.length = l.length + 4 ∧ leV t = leV s ^^^ turn % 2 ^ k * 2 ^ at_ ∧ Below w2.heap.size w2 wr) (fun i _ => 32 - (intOf i).toNat)
  case atStart => exact ⟨0, s, by omega, rfl, tb3, HSL.out, by rw [Nat.pow_zero, Nat.mod_one, Nat.zero_mul, Nat.xor_zero], B3.out⟩
  case round =>
    obtain ⟨k, t, hk, rfl, htb, htl, htv, hbw⟩ := hrel
    have TB0 := Lib.hid htb
    have TL := Lib.hid htl
    have TV := Lib.hid htv
    have BW := Lib.hid hbw
    clear htb htl htv hbw
    by_cases hk2 : k < 32
    · have e2 : bits .and .u32 ((turn : Int) / 2 ^ k) 1 = ((turn / 2 ^ k % 2 : Nat) : Int) := by
        rw [show (turn : Int) / 2 ^ k = ((turn / 2 ^ k : Nat) : Int) by simp, show (1 : Int) = ((1 : Nat) : Int) from rfl, u32_and_nat (turn / 2 ^ k) 1 (Nat.lt_of_le_of_lt (Nat.div_le_self _ _) ht) (by omega)]
        congr 1
        exact Nat.and_two_pow_sub_one_eq_mod (turn / 2 ^ k) 1
      by_cases hbit : turn / 2 ^ k % 2 = 1
      · have e3 : (bits .and .u32 ((turn : Int) / 2 ^ k) 1 == 1) = true := by rw [e2, hbit]; rfl
        clear e2
        go_wp2_with fail
        have hq : (at_ + k) / 8 < t.length := by rw [TL.out]; omega
        have hcl := TB0.out.cell (List.getElem?_eq_getElem hq)
        have hfr := TB0.out.frozen ((at_ + k) / 8)
        have hcd : wr.drew.cell? ⟨g3, (at_ + k) / 8, none⟩ = some (.int .u8 (t[(at_ + k) / 8].toNat : Int)) := hcl
        have hfd : wr.drew.frozen? ⟨g3, (at_ + k) / 8, none⟩ = false := hfr
        obtain ⟨b, hb⟩ : ∃ b, b = t[(at_ + k) / 8] := ⟨_, rfl⟩
        rw [← hb] at hcl hcd
        have HB := Lib.hid (show b = t.getD ((at_ + k) / 8) 0 by rw [hb, List.getD_eq_getElem?_getD, List.getElem?_eq_getElem hq]; rfl)
        clear hb hcl hfr
        have hr8 : (at_ + k) % 8 < 8 := Nat.mod_lt _ (by decide)
        obtain ⟨v, hv⟩ : ∃ v, v = UInt8.ofNat (b.toNat ^^^ 2 ^ ((at_ + k) % 8)) := ⟨_, rfl⟩
        have hvn : v.toNat = b.toNat ^^^ 2 ^ ((at_ + k) % 8) := by
          rw [hv, UInt8.toNat_ofNat']
          exact Nat.mod_eq_of_lt (Nat.xor_lt_two_pow (n := 8) b.toNat_lt (Nat.pow_lt_pow_right (by decide) hr8))
        have e5 : bits .xor .u8 (b.toNat : Int) ((2 : Int) ^ ((at_ + k) % 8) % 256) = (v.toNat : Int) := by
          have h2 : (2 : Nat) ^ ((at_ + k) % 8) < 256 := Nat.pow_lt_pow_right (n := 8) (by decide) hr8
          rw [hvn]
          have h3 : (2 : Int) ^ ((at_ + k) % 8) = ((2 ^ ((at_ + k) % 8) : Nat) : Int) := by simp
          rw [h3]
          generalize (2 : Nat) ^ ((at_ + k) % 8) = m at h2
          rw [show (m : Int) % 256 = (m : Int) by omega, u8_xor_nat _ _ b.toNat_lt h2]
        have HVN := Lib.hid hvn
        have HQ := Lib.hid hq
        clear hv hvn hr8 hq
        go_region
        clear e5 hcd hfd
        have TB1 := Lib.hid (TB0.out.set ((at_ + k) / 8) v)
        have BW1 := Lib.hid (below_drew (below_setCell BW.out (p := ⟨g3, (at_ + k) / 8, none⟩) hg3 (.int .u8 (v.toNat : Int))))
        go_wp2
        refine ⟨⟨k + 1, t.set ((at_ + k) / 8) v, by omega, by go_num, TB1.out, by rw [List.length_set]; exact TL.out, ?_, BW1.out⟩, by simp [intOf]; omega⟩
        have hfl := leV_flip t (at_ + k) HQ.out v (by rw [HVN.out, HB.out])
        rw [hfl, TV.out, low_step, if_pos hbit, Nat.xor_assoc, ← Nat.shiftLeft_eq, ← Nat.shiftLeft_eq, Nat.shiftLeft_xor_distrib, Nat.shiftLeft_eq (2 ^ k), ← Nat.pow_add, Nat.add_comm k]
      · have e3 : (bits .and .u32 ((turn : Int) / 2 ^ k) 1 == 1) = false := by rw [e2]; exact beq_false_of' (by omega)
        clear e2
        go_wp2
        refine ⟨⟨k + 1, t, by omega, by go_num, TB0.out, TL.out, ?_, BW.out⟩, by simp [intOf]; omega⟩
        rw [low_step, if_neg hbit, Nat.xor_zero]
        exact TV.out
    · obtain rfl : k = 32 := by omega
      have hh3 := HH2.out.below BW.out HH2.out.pos
      have PO := Lib.hid (open_any A1 g1 s c1 wr hh3 (S1.out.below BW.out fun h => h) (by rw [HSL.out]; exact q1) q2 (by rw [HSL.out]; omega))
      rw [HSL.out] at PO
      have HH3 := Lib.hid hh3
      clear hh3
      go_wp2_with fail
      refine PO.out.mono ?_
      rintro e w5 ⟨ok, A5, c5, h5, d5, rfl, s5, hop, b5⟩
      obtain rfl : ok = true := by
        unfold openM at hop
        rw [HS.out, sealM_take, if_pos ⟨by rw [sealM_length]; omega, rfl⟩] at hop
        exact (Prod.mk.inj hop).1.symm
      simp only [show okE true = 0 from rfl]
      have PT := Lib.hid (open_any (some ⟨g3, 0, none⟩) g3 t c3 w5 (HH3.out.below b5 HH3.out.pos) ((TB0.out.below b5 TB0.out.lt).slb) (by rw [TL.out]; exact (own_cap O3.out).1) (own_cap O3.out).2 (by rw [TL.out]; omega))
      rw [TL.out] at PT
      have B5 := Lib.hid b5
      clear b5 s5 hop
      go_wp2_with fail
      refine PT.out.mono ?_
      rintro e w6 ⟨ok, A6, c6, h6, d6, rfl, s6, hop, b6⟩
      obtain rfl : ok = false := by
        cases ok
        · rfl
        · exfalso
          unfold openM at hop
          split at hop
          · rename_i hs2
            refine burst s t at_ turn (by rw [TL.out, HSL.out]) (by rw [HSL.out]; exact hat) ht hp ?_ ⟨l, HS.out⟩ ⟨_, hs2.2.symm⟩
            have := TV.out
            rw [Nat.mod_eq_of_lt (show turn < 2 ^ 32 from ht)] at this
            exact this
          · cases hop
      simp only [show okE false = 20 from rfl]
      go_wp2
      go_ret
      exact ⟨rfl, below_trans B2.out (below_trans BW.out (below_trans B5.out b6))⟩
set_option maxRecDepth 100000 in
set_option maxHeartbeats 1000000 in
theorem bursts_off (A : Option Addr) (g : Nat) (l : List UInt8) (c : Nat) (at_ : Int) (turn : Nat) (w : World) (ha : InB w A g l c) (hla : l.length ≤ 2000) (hp : turn ≠ 0) (hat : at_ < 0 ∨ 8 * ((l.length : Int) + 4) - 32 < at_) (hh : HalvesAt w) :
    Calls Tryd.prog 6 #[.slice A l.length c, .int .i64 at_, .int .u32 (turn : Int)] w (LawPost w) := by
  obtain ⟨sa, hac, hcm⟩ := ha
  have d1 : decide ((2000 : Int) < (l.length : Int)) = false := by simp; omega
  have d2 : ((turn : Int) == 0) = false := by simpa using hp
  have PS := Lib.hid (seal_any A g l c w hh sa hac hcm (by omega))
  have hsl := sealM_length l
  generalize sealM l = s at PS hsl
  have HSL := Lib.hid hsl
  have HH := Lib.hid hh
  clear sa hh hcm hsl
  by_cases hneg : at_ < 0
  · have d3 : decide (at_ < 0) = true := by simpa using hneg
    clear hat
    go_enter Tryd.func6, Tryd.ntmps6
    go_wp2_with fail
    refine PS.out.mono ?_
    rintro e w1 ⟨A1, c1, rfl, o1, b1⟩
    rw [HSL.out]
    have HH1 := Lib.hid (HH.out.below b1 HH.out.pos)
    clear o1
    go_wp2_with fail
    refine (lives_any _ HH1.out).mono ?_; rintro e w2 ⟨rfl, b2⟩
    have HH2 := Lib.hid (HH1.out.below b2 HH1.out.pos)
    go_wp2_with fail
    refine (lives_any _ HH2.out).mono ?_; rintro e w3 ⟨rfl, b3⟩
    go_wp2
    go_ret
    exact ⟨rfl, below_trans b1 (below_trans b2 b3)⟩
  · have d3 : decide (at_ < 0) = false := by simpa using hneg
    have d4 : decide (8 * ((l.length : Int) + 4) - 32 < at_) = true := by simp; omega
    clear hat
    go_enter Tryd.func6, Tryd.ntmps6
    go_wp2_with fail
    refine PS.out.mono ?_
    rintro e w1 ⟨A1, c1, rfl, o1, b1⟩
    rw [HSL.out]
    have HH1 := Lib.hid (HH.out.below b1 HH.out.pos)
    clear o1
    go_wp2_with fail
    refine (lives_any _ HH1.out).mono ?_; rintro e w2 ⟨rfl, b2⟩
    have HH2 := Lib.hid (HH1.out.below b2 HH1.out.pos)
    go_wp2_with fail
    refine (lives_any _ HH2.out).mono ?_; rintro e w3 ⟨rfl, b3⟩
    go_wp2
    go_ret
    exact ⟨rfl, below_trans b1 (below_trans b2 b3)⟩
theorem bursts_law (A : Option Addr) (g : Nat) (l : List UInt8) (c : Nat) (at_ : Int) (turn : Nat) (w : World) (ha : InB w A g l c) (ht : turn < 4294967296) (hh : HalvesAt w) :
    Calls Tryd.prog 6 #[.slice A l.length c, .int .i64 at_, .int .u32 (turn : Int)] w (LawPost w) := by
  have hlm : l.length ≤ 9223372036854775807 := Nat.le_trans ha.2.1 ha.2.2
  by_cases h1 : 2000 < l.length
  · have d1 : decide ((2000 : Int) < (l.length : Int)) = true := by simp; omega
    have HH := Lib.hid hh
    clear hh ha
    go_enter Tryd.func6, Tryd.ntmps6
    go_wp2_with fail
    refine (lives_any _ HH.out).mono ?_; rintro e w1 ⟨rfl, b1⟩
    go_wp2
    go_ret
    exact ⟨rfl, b1⟩
  · by_cases h2 : turn = 0
    · subst h2
      have d1 : decide ((2000 : Int) < (l.length : Int)) = false := by simp; omega
      have HH := Lib.hid hh
      clear hh ha
      go_enter Tryd.func6, Tryd.ntmps6
      go_wp2_with fail
      refine (lives_any _ HH.out).mono ?_; rintro e w1 ⟨rfl, b1⟩
      go_wp2
      go_ret
      exact ⟨rfl, b1⟩
    · by_cases h3 : at_ < 0 ∨ 8 * ((l.length : Int) + 4) - 32 < at_
      · exact bursts_off A g l c at_ turn w ha (by omega) h2 h3 hh
      · obtain ⟨k, rfl⟩ := Int.eq_ofNat_of_zero_le (show 0 ≤ at_ by omega)
        exact bursts_in A g l c k turn w ha (by omega) ht h2 (by omega) hh
end Go.Proofs.YtalcgkfnjhlnoaaDoor
