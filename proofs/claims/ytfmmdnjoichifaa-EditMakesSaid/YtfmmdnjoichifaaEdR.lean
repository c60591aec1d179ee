/- The laws EditNobody, EditGets, EditCodes. -/
import Derived.Test.YtfmmdnjoichifaaEdP
import Derived.Test.YtfmmdnjoichifaaOpD
namespace Go.Proofs.Ytfmmdnjoichifaa
open Go.RowKit Go.Sort

def szL (l : List Rf) : Nat := (l.map fun r => r.name.size).sum
theorem szL_take {l : List Rf} {k : Nat} {x : Rf} (h : l[k]? = some x) : szL (l.take (k + 1)) = szL (l.take k) + x.name.size := by
  unfold szL
  rw [List.take_add_one, h]
  simp
def LargeAns (w : World) (e : Ed) (x : Ending) (w' : World) : Prop := ∃ b, x = .returned (.bool b) ∧ (b = false → e.refs.length ≤ 300) ∧ Below w.heap.size w w'
set_option maxRecDepth 100000 in
set_option maxHeartbeats 4000000 in
theorem large_any (e : Ed) (A : Option Addr) (c base : Nat) (w : World) (hr : RfAt w base A e.refs) (hs : small e.refs) :
    Calls Try.prog 22 #[edV e A c] w (LargeAns w e) := by
  obtain ⟨kind, ep, rd, refs⟩ := e
  simp only at hr hs
  have HB := Lib.hid (EdBox.new w ⟨kind, ep, rd, refs⟩ A c 50)
  have B0 := Lib.hid (alloc_below w (.cells (edCs ⟨kind, ep, rd, refs⟩ A c) 50))
  have HR := Lib.hid (hr.below B0.out)
  have HS := Lib.hid hs
  unfold edV
  unfold edCs at HR B0 HB
  simp only at HR B0 HB ⊢
  obtain ⟨-, q1, q2, q3, q4⟩ := HB.out
  simp only at q1 q2 q3 q4
  clear hr hs
  go_enter Try.func22, Try.ntmps22
  go_wp2_with fail
  generalize hw0 : w.alloc (.cells #[.int .i64 kind, .int .i64 ep, .int .i64 rd, .slice A refs.length c] 50) = w0 at *
  clear hw0 q1 q2 q3
  go_loopw [3, 4] (fun s i wr => ∃ (k : Nat) (n : Int), k ≤ refs.length ∧ k ≤ 300 ∧ i = .int .i64 (k : Int) ∧ s = .int .i64 n ∧ w0 = wr) (fun _ i _ => 300 - (intOf i).toNat)
  case atStart => exact ⟨0, 0, Nat.zero_le _, Nat.zero_le _, rfl, rfl, rfl⟩
  case round =>
    obtain ⟨k, n, hk, hk3, rfl, rfl, rfl⟩ := hrel
    by_cases hlt : k < refs.length
    · by_cases h3 : k < 300
      · have i2 : decide ((k : Int) < 300) = true := by rw [decide_eq_true_eq]; omega
        have hea := List.getElem?_eq_getElem hlt
        obtain ⟨p, hp⟩ : ∃ p, p = refs[k] := ⟨_, rfl⟩
        rw [← hp] at hea
        obtain ⟨g, off, rfl, -, hc⟩ := HR.out.at_ hea
        have r0 := hc 0 _ rfl
        rw [Nat.add_zero] at r0
        obtain ⟨s, b, m⟩ := p
        simp only at r0
        clear hea hp hc
        cases i3 : decide ((10000 : Int) < wrap64 (n + (s.size : Int)))
        · go_wp2
          exact ⟨⟨k + 1, _, by omega, by omega, by go_num, rfl, by trivial⟩, by simp only [intOf]; omega⟩
        · go_wp2
          go_ret
          exact ⟨true, rfl, fun h => (by cases h), B0.out⟩
      · have i2 : decide ((k : Int) < 300) = false := by rw [decide_eq_false_iff_not]; omega
        have i4 : decide ((300 : Int) < (refs.length : Int)) = true := by rw [decide_eq_true_eq]; omega
        go_wp2
        go_ret
        exact ⟨true, rfl, fun h => (by cases h), B0.out⟩
    · obtain rfl : k = refs.length := by omega
      have i4 : decide ((300 : Int) < (refs.length : Int)) = false := by rw [decide_eq_false_iff_not]; omega
      go_wp2
      go_ret
      exact ⟨false, rfl, fun _ => hk3, B0.out⟩
set_option maxRecDepth 100000 in
set_option maxHeartbeats 8000000 in
theorem ednobody_any (e : Ed) (A : Option Addr) (c : Nat) (n : Int) (w : World) (hr : RfAt w w.heap.size A e.refs ∧ small e.refs) (_ : -9223372036854775808 ≤ n ∧ n ≤ 9223372036854775807) :
    Calls Try.prog 8 #[edV e A c, .int .i64 n] w fun x w' => x = .returned (.bool true) ∧ Below w.heap.size w w' := by
  have b0 := alloc_below w (.cells (edCs e A c) 50)
  have B0 := Lib.hid b0
  have X0 := Lib.hid (Blk.new w 50 (edCs e A c))
  have PL := Lib.hid (large_any e A c _ _ (hr.1.below b0) hr.2)
  have PA := Lib.hid (fun W => st_apply_nil W e A c)
  obtain ⟨kind, ep, rd, refs⟩ := e
  obtain ⟨-, q0, q1, q2, q3⟩ := EdBox.of X0.out
  clear b0 hr
  unfold edV edCs at *
  simp only at *
  go_enter Try.func8, Try.ntmps8
  go_wp2_with fail
  refine PL.out.mono ?_; rintro x w1 ⟨b, rfl, -, b1⟩
  have B1 := Lib.hid (below_trans B0.out b1)
  have X1 := Lib.hid (X0.out.later b1)
  clear b1 q0 q1 q2 q3 PL
  cases b
  · go_wp2_with fail
    refine (st_mark_nil w1).mono ?_; rintro x w2 ⟨A2, c2, rfl, -, b2⟩
    have bb := below_trans b2 (alloc_below w2 (.cells (edCs zE A2 c2) 50))
    have B2 := Lib.hid (B1.out.trans (bb.mono B1.out.size))
    have X2 := Lib.hid (X1.out.later bb)
    clear b2 bb
    rw [show edV zE A2 c2 = .agg #[.int .i64 0, .int .i64 0, .int .i64 0, .slice A2 0 c2] from rfl]
    rw [show edCs zE A2 c2 = #[.int .i64 0, .int .i64 0, .int .i64 0, .slice A2 0 c2] from rfl] at B2 X2
    go_wp2_with fail
    refine (st_done_nil _ n).mono ?_; rintro x w3 ⟨A3, c3, rfl, -, b3⟩
    have bb := below_trans b3 (alloc_below w3 (.cells (edCs zE A3 c3) 50))
    have B3 := Lib.hid (B2.out.trans (bb.mono B2.out.size))
    have X3 := Lib.hid (X2.out.later bb)
    clear b3 bb
    rw [show edV zE A3 c3 = .agg #[.int .i64 0, .int .i64 0, .int .i64 0, .slice A3 0 c3] from rfl]
    rw [show edCs zE A3 c3 = #[.int .i64 0, .int .i64 0, .int .i64 0, .slice A3 0 c3] from rfl] at B3 X3
    go_wp2_with fail
    refine (elives_any _).mono ?_; rintro x w4 ⟨rfl, b4⟩
    have B4 := Lib.hid (B3.out.trans (b4.mono B3.out.size))
    obtain ⟨-, q0, q1, q2, q3⟩ := EdBox.of (e := ⟨kind, ep, rd, refs⟩) (X3.out.later b4)
    simp only at q0 q1 q2 q3
    clear b4
    go_wp2_with fail
    refine (PA.out _).mono ?_; rintro x w5 ⟨rfl, b5⟩
    have B5 := Lib.hid (B4.out.trans (b5.mono B4.out.size))
    clear b5 q0 q1 q2 q3
    go_wp2_with fail
    refine (st_next_nil _).mono ?_; rintro x w' ⟨rfl, rfl⟩
    go_wp2_with fail
    refine (st_edits_nil _).mono ?_; rintro x w6 ⟨rfl, b6⟩
    have B6 := Lib.hid (B5.out.trans (b6.mono B5.out.size))
    clear b6
    go_wp2_with fail
    refine (st_names_nil _).mono ?_; rintro x w7 ⟨v, rfl, hrow, b7⟩
    have B7 := Lib.hid (B6.out.trans (b7.mono B6.out.size))
    obtain ⟨vA, vc, rfl⟩ := own_form hrow
    rw [List.length_nil]
    clear b7 hrow
    go_wp2_with fail
    go_ret
    exact ⟨rfl, B7.out⟩
  · go_wp2_with fail
    refine (elives_any _).mono ?_; rintro x w2 ⟨rfl, b2⟩
    have B2 := Lib.hid (B1.out.trans (b2.mono B1.out.size))
    go_wp2_with fail
    go_ret
    exact ⟨rfl, B2.out⟩
end Go.Proofs.Ytfmmdnjoichifaa
