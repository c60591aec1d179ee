/- The walk of the law PageTurned. -/
import Derived.Test.YtfilelgbffbnlaaDoorPgJ
import Derived.Test.YtfilelgbffbnlaaDoorOp
import Derived.RegionTactic
import Derived.ChangeAlike
namespace Go.Proofs.YtfilelgbffbnlaaDoor
open Go.RowKit

theorem beq_false_of' {a b : Int} (h : a ≠ b) : (a == b) = false := by simpa using h
/-- These bytes lie at the start of a block. -/
def TB (w : World) (g : Nat) (l : List UInt8) : Prop := ∃ cur, Blk w g 5 cur ∧ cur.toList.take l.length = Byt l
theorem TB.cell {w : World} {g : Nat} {l : List UInt8} (h : TB w g l) {k : Nat} {b : UInt8} (hb : l[k]? = some b) : w.cell? ⟨g, k, none⟩ = some (.int .u8 (b.toNat : Int)) := by
  obtain ⟨cur, hk, ht⟩ := h
  have hl : k < l.length := (List.getElem?_eq_some_iff.1 hb).1
  rw [hk.cell, ← Array.getElem?_toList]
  have := congrArg (·[k]?) ht
  simp only [List.getElem?_take_of_lt hl] at this
  rw [this]
  unfold Byt
  rw [List.getElem?_map, hb]
  rfl
theorem TB.slb {w : World} {g : Nat} {l : List UInt8} (h : TB w g l) : SlB w g (some ⟨g, 0, none⟩) l := fun _ => ⟨_, rfl, rfl, fun j b hj => by
  have e : (⟨g, 0, none⟩ : Addr).add j = ⟨g, j, none⟩ := by unfold Addr.add; split <;> simp_all
  rw [e]
  exact h.cell hj⟩
theorem TB.set {w : World} {g : Nat} {l : List UInt8} (h : TB w g l) (k : Nat) (b : UInt8) : TB (w.setCell ⟨g, k, none⟩ (.int .u8 (b.toNat : Int))) g (l.set k b) := by
  obtain ⟨cur, hk, ht⟩ := h
  refine ⟨_, hk.set_ k _, ?_⟩
  rw [List.length_set, Array.toList_setIfInBounds, List.take_set, ht]
  unfold Byt
  rw [List.map_set]
theorem TB.frozen {w : World} {g : Nat} {l : List UInt8} (h : TB w g l) (k : Nat) : w.frozen? ⟨g, k, none⟩ = false := by
  obtain ⟨cur, hk, _⟩ := h
  exact hk.frozen k
theorem TB.lt {w : World} {g : Nat} {l : List UInt8} (h : TB w g l) : g < w.heap.size := by
  obtain ⟨cur, hk, _⟩ := h
  exact hk.lt
theorem TB.below {w w' : World} {g B : Nat} {l : List UInt8} (h : TB w g l) (hb : Below B w w') (hg : g < B) : TB w' g l := by
  obtain ⟨cur, hk, ht⟩ := h
  exact ⟨cur, hk.below hb hg, ht⟩
/-- A row of one's own, not empty. -/
theorem TB.of_own {w : World} {base n c : Nat} {A : Option Addr} {l : List UInt8} (h : w.ownsRow base 5 1 (.slice A n c) n (Byt l)) (hn : 0 < n) : ∃ g, A = some ⟨g, 0, none⟩ ∧ base ≤ g ∧ TB w g l := by
  have hl := own_len h
  rcases h.2 with ⟨_, rfl⟩ | ⟨g, cap, cur, hv, hb, hh, _, _, _, ht⟩
  · exact absurd hn (by omega)
  · injection hv with h1 h2 h3
    exact ⟨g, h1, hb, cur, hh, by rw [← hl]; simpa using ht⟩
theorem load_u8_at (p : Addr) (n : Int) (w : World) (h : w.cell? p = some (.int .u8 n)) : (Instr.loadAt 5 (.pointer (some p))).run Tryd.prog w = .ok (.int .u8 n) w := by
  go_simp
theorem below_drew {w0 w : World} {B : Nat} (h : Below B w0 w) : Below B w0 w.drew := ⟨h.os, h.tape, h.output, h.size, h.block⟩
theorem below_setCell {w0 w : World} {B : Nat} (h : Below B w0 w) {p : Addr} (hp : B ≤ p.block) (u : Value) : Below B w0 (w.setCell p u) :=
  ⟨h.os, h.tape, h.output, by simpa using h.size, fun k hk => (Below.heap_setCell w p u k (by omega)).trans (h.block k hk)⟩
set_option maxHeartbeats 1000000 in
theorem turned_off0 (t : Int) (A1 : Option Addr) (g1 : Nat) (b : List UInt8) (c1 : Nat) (at_ : Int) (turn : Nat) (w : World) (hb : InB w A1 g1 b c1) (hh : HalvesAt w) (h0 : 43 < b.length) :
    Calls Tryd.prog 6 #[.int .i64 t, .slice A1 b.length c1, .int .i64 at_, .int .u32 (turn : Int)] w (LawPost w) := by
  have hlb : b.length ≤ 9223372036854775807 := Nat.le_trans hb.2.1 hb.2.2
  have HH := Lib.hid hh
  clear hb hh
  have d0 : decide ((43 : Int) < (b.length : Int)) = true := by rw [decide_eq_true_eq]; omega
  go_enter Tryd.func6, Tryd.ntmps6
  go_wp2_with fail
  refine (lives_any _ HH.out).mono ?_; rintro e w1 ⟨rfl, b1⟩
  go_wp2
  go_ret
  exact ⟨rfl, b1⟩
set_option maxHeartbeats 1000000 in
theorem turned_off1 (t : Int) (A1 : Option Addr) (g1 : Nat) (b : List UInt8) (c1 : Nat) (at_ : Int) (turn : Nat) (w : World) (hb : InB w A1 g1 b c1) (hh : HalvesAt w) (h0 : ¬ 43 < b.length) (h1 : okTag t = false) :
    Calls Tryd.prog 6 #[.int .i64 t, .slice A1 b.length c1, .int .i64 at_, .int .u32 (turn : Int)] w (LawPost w) := by
  have hlb : b.length ≤ 9223372036854775807 := Nat.le_trans hb.2.1 hb.2.2
  have HH := Lib.hid hh
  clear hb hh
  have d0 : decide ((43 : Int) < (b.length : Int)) = false := by rw [decide_eq_false_iff_not]; omega
  go_enter Tryd.func6, Tryd.ntmps6
  go_wp2_with fail
  refine (rmay_any t w).mono ?_; rintro e w' ⟨rfl, rfl⟩
  rw [h1]
  go_wp2_with fail
  refine (lives_any _ HH.out).mono ?_; rintro e w1 ⟨rfl, b1⟩
  go_wp2
  go_ret
  exact ⟨rfl, b1⟩
set_option maxHeartbeats 1000000 in
theorem turned_off2 (t : Int) (A1 : Option Addr) (g1 : Nat) (b : List UInt8) (c1 : Nat) (at_ : Int) (turn : Nat) (w : World) (hb : InB w A1 g1 b c1) (hh : HalvesAt w) (h0 : ¬ 43 < b.length) (h1 : okTag t = true) (h2 : at_ < 0) :
    Calls Tryd.prog 6 #[.int .i64 t, .slice A1 b.length c1, .int .i64 at_, .int .u32 (turn : Int)] w (LawPost w) := by
  have hlb : b.length ≤ 9223372036854775807 := Nat.le_trans hb.2.1 hb.2.2
  have HH := Lib.hid hh
  clear hb hh
  have d0 : decide ((43 : Int) < (b.length : Int)) = false := by rw [decide_eq_false_iff_not]; omega
  have d2 : decide (at_ < 0) = true := by simpa using h2
  clear h2
  go_enter Tryd.func6, Tryd.ntmps6
  go_wp2_with fail
  refine (rmay_any t w).mono ?_; rintro e w' ⟨rfl, rfl⟩
  rw [h1]
  go_wp2_with fail
  refine (lives_any _ HH.out).mono ?_; rintro e w1 ⟨rfl, b1⟩
  go_wp2
  go_ret
  exact ⟨rfl, b1⟩
set_option maxHeartbeats 1000000 in
theorem turned_off3 (t : Int) (A1 : Option Addr) (g1 : Nat) (b : List UInt8) (c1 : Nat) (at_ : Int) (turn : Nat) (w : World) (hb : InB w A1 g1 b c1) (hh : HalvesAt w) (h0 : ¬ 43 < b.length) (h1 : okTag t = true) (h2 : ¬ at_ < 0) (h3 : 480 < at_) :
    Calls Tryd.prog 6 #[.int .i64 t, .slice A1 b.length c1, .int .i64 at_, .int .u32 (turn : Int)] w (LawPost w) := by
  have hlb : b.length ≤ 9223372036854775807 := Nat.le_trans hb.2.1 hb.2.2
  have HH := Lib.hid hh
  clear hb hh
  have d0 : decide ((43 : Int) < (b.length : Int)) = false := by rw [decide_eq_false_iff_not]; omega
  have d2 : decide (at_ < 0) = false := by simpa using h2
  have d3 : decide (480 < at_) = true := by simpa using h3
  clear h2 h3
  go_enter Tryd.func6, Tryd.ntmps6
  go_wp2_with fail
  refine (rmay_any t w).mono ?_; rintro e w' ⟨rfl, rfl⟩
  rw [h1]
  go_wp2_with fail
  refine (lives_any _ HH.out).mono ?_; rintro e w1 ⟨rfl, b1⟩
  go_wp2
  go_ret
  exact ⟨rfl, b1⟩
set_option maxHeartbeats 1000000 in
theorem turned_off4 (t : Int) (A1 : Option Addr) (g1 : Nat) (b : List UInt8) (c1 : Nat) (at_ : Int) (turn : Nat) (w : World) (hb : InB w A1 g1 b c1) (hh : HalvesAt w) (h0 : ¬ 43 < b.length) (h1 : okTag t = true) (h2 : ¬ at_ < 0) (h3 : ¬ 480 < at_) (h4 : turn = 0) :
    Calls Tryd.prog 6 #[.int .i64 t, .slice A1 b.length c1, .int .i64 at_, .int .u32 (turn : Int)] w (LawPost w) := by
  have hlb : b.length ≤ 9223372036854775807 := Nat.le_trans hb.2.1 hb.2.2
  have HH := Lib.hid hh
  clear hb hh
  have d0 : decide ((43 : Int) < (b.length : Int)) = false := by rw [decide_eq_false_iff_not]; omega
  have d2 : decide (at_ < 0) = false := by simpa using h2
  have d3 : decide (480 < at_) = false := by simpa using h3
  have d4 : ((turn : Int) == 0) = true := by rw [h4]; rfl
  clear h2 h3 h4
  go_enter Tryd.func6, Tryd.ntmps6
  go_wp2_with fail
  refine (rmay_any t w).mono ?_; rintro e w' ⟨rfl, rfl⟩
  rw [h1]
  go_wp2_with fail
  refine (lives_any _ HH.out).mono ?_; rintro e w1 ⟨rfl, b1⟩
  go_wp2
  go_ret
  exact ⟨rfl, b1⟩
set_option maxRecDepth 100000 in
set_option maxHeartbeats 8000000 in
theorem turned_in (t : Nat) (A1 : Option Addr) (g1 : Nat) (b : List UInt8) (c1 : Nat) (at_ turn : Nat) (w : World) (hb : InB w A1 g1 b c1) (hh : HalvesAt w)
    (h0 : b.length ≤ 43) (h1 : okTag (t : Int) = true) (h3 : at_ ≤ 480) (ht : turn < 4294967296) (hp : turn ≠ 0) :
    Calls Tryd.prog 6 #[.int .i64 (t : Int), .slice A1 b.length c1, .int .i64 (at_ : Int), .int .u32 (turn : Int)] w (LawPost w) := by
  have d0 : decide ((43 : Int) < (b.length : Int)) = false := by rw [decide_eq_false_iff_not]; omega
  have d2 : decide ((at_ : Int) < 0) = false := by simp
  have d3 : decide ((480 : Int) < (at_ : Int)) = false := by rw [decide_eq_false_iff_not]; omega
  have d4 : ((turn : Int) == 0) = false := by simpa using hp
  obtain ⟨sb, hbc, hcm⟩ := hb
  have P1 := Lib.hid (pput_ok (t : Int) A1 g1 b c1 w h1 sb h0 hbc hcm hh)
  rw [Int.toNat_natCast] at P1
  have hx := pageM_length t b h0
  have hbu := fun (s d : List UInt8) (hd : d.length ≤ 43) => page_burst t b d s h0 hd at_ turn ht hp
  obtain ⟨s, hs⟩ : ∃ s, s = pageM t b := ⟨_, rfl⟩
  rw [← hs] at P1 hx
  simp only [← hs] at hbu
  have HX := Lib.hid hx
  have HBU := Lib.hid hbu
  have HH := Lib.hid hh
  have HT := Lib.hid h1
  clear sb hh h1 hs hx hbu hbc hcm
  go_enter Tryd.func6, Tryd.ntmps6
  go_wp2_with fail
  refine (rmay_any (t : Int) w).mono ?_; rintro e w' ⟨rfl, rfl⟩
  rw [HT.out]
  go_wp2_with fail
  refine P1.out.mono ?_; rintro e w1 ⟨v1, rfl, o1, b1⟩
  obtain ⟨A2, c2, rfl⟩ := own_form o1
  obtain ⟨g2, rfl, hg2, tb1⟩ := TB.of_own o1 (by rw [HX.out]; decide)
  obtain ⟨q1, q2⟩ := own_cap o1
  have B1 := Lib.hid b1
  have TB1 := Lib.hid tb1
  rw [HX.out] at q1 ⊢
  clear o1 b1 tb1 P1
  go_wp2_with fail
  refine (lives_any w1 (HH.out.below B1.out HH.out.pos)).mono ?_; rintro e w2 ⟨rfl, b2⟩
  have B2 := Lib.hid (below_trans B1.out b2)
  have TB2 := Lib.hid (TB1.out.below b2 TB1.out.lt)
  clear b2
  go_wp2_with fail
  go_loopw [11] (fun i wr => ∃ (k : Nat) (z : List UInt8), k ≤ 32 ∧ i = .int .i64 (k : Int) ∧ TB wr g2 z ∧ z.length = 64 ∧ leV z = leV s ^^^ turn % 2 ^ k * 2 ^ at_ ∧ Below w.heap.size w wr) (fun i _ => 32 - (intOf i).toNat)
  case atStart => exact ⟨0, s, by omega, rfl, TB2.out, HX.out, by rw [Nat.pow_zero, Nat.mod_one, Nat.zero_mul, Nat.xor_zero], B2.out⟩
  case round =>
    obtain ⟨k, z, hk, rfl, htb, htl, htv, hbw⟩ := hrel
    have TB0 := Lib.hid htb
    have TL := Lib.hid htl
    have TV := Lib.hid htv
    have BW := Lib.hid hbw
    clear htb htl htv hbw
    by_cases hk2 : k < 32
    · have e2 : bits .and .u32 ((turn : Int) / 2 ^ k) 1 = ((turn / 2 ^ k % 2 : Nat) : Int) := by
        rw [show (turn : Int) / 2 ^ k = ((turn / 2 ^ k : Nat) : Int) by simp, show (1 : Int) = ((1 : Nat) : Int) from rfl, u32_and_nat (turn / 2 ^ k) 1 (Nat.lt_of_le_of_lt (Nat.div_le_self _ _) ht) (by omega)]
        congr 1
        exact Nat.and_two_pow_sub_one_eq_mod (turn / 2 ^ k) 1
      by_cases hbit : turn / 2 ^ k % 2 = 1
      · have e3 : (bits .and .u32 ((turn : Int) / 2 ^ k) 1 == 1) = true := by rw [e2, hbit]; rfl
        clear e2
        go_wp2_with fail
        have hq : (at_ + k) / 8 < z.length := by rw [TL.out]; omega
        have hcl := TB0.out.cell (List.getElem?_eq_getElem hq)
        have hfr := TB0.out.frozen ((at_ + k) / 8)
        have hcd : wr.drew.cell? ⟨g2, (at_ + k) / 8, none⟩ = some (.int .u8 (z[(at_ + k) / 8].toNat : Int)) := hcl
        have hfd : wr.drew.frozen? ⟨g2, (at_ + k) / 8, none⟩ = false := hfr
        obtain ⟨x, hxb⟩ : ∃ x, x = z[(at_ + k) / 8] := ⟨_, rfl⟩
        rw [← hxb] at hcl hcd
        have HB := Lib.hid (show x = z.getD ((at_ + k) / 8) 0 by rw [hxb, List.getD_eq_getElem?_getD, List.getElem?_eq_getElem hq]; rfl)
        clear hxb hcl hfr
        have hr8 : (at_ + k) % 8 < 8 := Nat.mod_lt _ (by decide)
        obtain ⟨v, hv⟩ : ∃ v, v = UInt8.ofNat (x.toNat ^^^ 2 ^ ((at_ + k) % 8)) := ⟨_, rfl⟩
        have hvn : v.toNat = x.toNat ^^^ 2 ^ ((at_ + k) % 8) := by
          rw [hv, UInt8.toNat_ofNat']
          exact Nat.mod_eq_of_lt (Nat.xor_lt_two_pow (n := 8) x.toNat_lt (Nat.pow_lt_pow_right (by decide) hr8))
        have e5 : bits .xor .u8 (x.toNat : Int) ((2 : Int) ^ ((at_ + k) % 8) % 256) = (v.toNat : Int) := by
          have h2 : (2 : Nat) ^ ((at_ + k) % 8) < 256 := Nat.pow_lt_pow_right (n := 8) (by decide) hr8
          rw [hvn]
          have h3 : (2 : Int) ^ ((at_ + k) % 8) = ((2 ^ ((at_ + k) % 8) : Nat) : Int) := by simp
          rw [h3]
          generalize (2 : Nat) ^ ((at_ + k) % 8) = m at h2
          rw [show (m : Int) % 256 = (m : Int) by omega, u8_xor_nat _ _ x.toNat_lt h2]
        have HVN := Lib.hid hvn
        have HQ := Lib.hid hq
        clear hv hvn hr8 hq
        go_region
        clear e5 hcd hfd
        have TB1 := Lib.hid (TB0.out.set ((at_ + k) / 8) v)
        have BW1 := Lib.hid (below_drew (below_setCell BW.out (p := ⟨g2, (at_ + k) / 8, none⟩) hg2 (.int .u8 (v.toNat : Int))))
        go_wp2
        refine ⟨⟨k + 1, z.set ((at_ + k) / 8) v, by omega, by go_num, TB1.out, by rw [List.length_set]; exact TL.out, ?_, BW1.out⟩, by simp [intOf]; omega⟩
        have hfl := leV_flip z (at_ + k) HQ.out v (by rw [HVN.out, HB.out])
        rw [hfl, TV.out, low_step, if_pos hbit, Nat.xor_assoc, ← Nat.shiftLeft_eq, ← Nat.shiftLeft_eq, Nat.shiftLeft_xor_distrib, Nat.shiftLeft_eq (2 ^ k), ← Nat.pow_add, Nat.add_comm k]
      · have e3 : (bits .and .u32 ((turn : Int) / 2 ^ k) 1 == 1) = false := by rw [e2]; exact beq_false_of' (by omega)
        clear e2
        go_wp2
        refine ⟨⟨k + 1, z, by omega, by go_num, TB0.out, TL.out, ?_, BW.out⟩, by simp [intOf]; omega⟩
        rw [low_step, if_neg hbit, Nat.xor_zero]
        exact TV.out
    · obtain rfl : k = 32 := by omega
      have P6 := Lib.hid (pget_any (some ⟨g2, 0, none⟩) g2 z c2 (t : Int) wr TB0.out.slb (by rw [TL.out]; exact q1) q2 (HH.out.below BW.out HH.out.pos))
      have hne : getE z (t : Int) ≠ 0 := fun h => by
        obtain ⟨-, hl, hz⟩ := getE_ok h
        rw [Int.toNat_natCast] at hz
        refine HBU.out z (heldM z) hl ?_ hz
        have := TV.out
        rw [Nat.mod_eq_of_lt (show turn < 2 ^ 32 from ht)] at this
        exact this
      unfold GetAns at P6
      rw [TL.out] at P6
      generalize (getD z (t : Int)).length = l1 at P6
      have hv := getE_values z (t : Int)
      rcases hv with h | h | h
      · exact absurd h hne
      all_goals
        rw [h] at P6
        clear h hne
        go_wp2_with fail
        refine P6.out.mono ?_; rintro e w6 ⟨A6, c6, rfl, -, b6⟩
        have BW6 := Lib.hid (below_trans BW.out b6)
        clear b6
        go_wp2
        go_ret
        exact ⟨rfl, BW6.out⟩
theorem turned_law (t : Int) (A1 : Option Addr) (g1 : Nat) (b : List UInt8) (c1 : Nat) (at_ : Int) (turn : Nat) (w : World) (hb : InB w A1 g1 b c1) (ht : turn < 4294967296) (hh : HalvesAt w) :
    Calls Tryd.prog 6 #[.int .i64 t, .slice A1 b.length c1, .int .i64 at_, .int .u32 (turn : Int)] w (LawPost w) := by
  by_cases h0 : 43 < b.length
  · exact turned_off0 t A1 g1 b c1 at_ turn w hb hh h0
  by_cases h1 : okTag t = true
  · by_cases h2 : at_ < 0
    · exact turned_off2 t A1 g1 b c1 at_ turn w hb hh h0 h1 h2
    by_cases h3 : 480 < at_
    · exact turned_off3 t A1 g1 b c1 at_ turn w hb hh h0 h1 h2 h3
    by_cases h4 : turn = 0
    · exact turned_off4 t A1 g1 b c1 at_ turn w hb hh h0 h1 h2 h3 h4
    have k2 := (okTag_iff t).1 h1
    obtain ⟨t', rfl⟩ := Int.eq_ofNat_of_zero_le (show 0 ≤ t by omega)
    obtain ⟨m, rfl⟩ := Int.eq_ofNat_of_zero_le (show 0 ≤ at_ by omega)
    exact turned_in t' A1 g1 b c1 m turn w hb hh (by omega) h1 (by omega) ht h4
  · exact turned_off1 t A1 g1 b c1 at_ turn w hb hh h0 (by simpa using h1)
end Go.Proofs.YtfilelgbffbnlaaDoor
