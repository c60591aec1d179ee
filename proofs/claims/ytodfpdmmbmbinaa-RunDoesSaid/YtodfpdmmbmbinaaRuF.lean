/- Runs: the law's lives. -/
import Derived.Test.YtodfpdmmbmbinaaRuE
import Derived.Test.YtodfpdmmbmbinaaRuC
namespace Go.Proofs.Ytodfpdmmbmbinaa
open Go.RowKit Go.Sort

theorem at_any (e r k : Int) (w : World) : Calls Try.prog 43 #[.int .i64 e, .int .i64 r, .int .i64 k] w fun en w' => en = .returned (enV ((e, r), (k, 0))) ∧ Below w.heap.size w w' := by
  unfold enV
  have B := Lib.hid (alloc_below w (.cells #[.int .i64 e, .int .i64 r, .int .i64 k, .int .i64 0] 65))
  go_enter Try.func43, Try.ntmps43
  go_wp2_with fail
  refine bodyPost_ret (v := .agg #[.int .i64 e, .int .i64 r, .int .i64 k, .int .i64 0]) (results_cell_row rfl _ _ w.heap.size 65 #[.int .i64 e, .int .i64 r, .int .i64 k, .int .i64 0] (0, 0) _ rfl (heap_alloc_new w _) Try.underlying65 rfl info_en) rfl ?_
  exact ⟨rfl, B.out⟩
theorem slk_new' (W : World) (l : List En) (cs : Array Value) (hcs : cs.toList = RowV encE l) : SlK encE (W.alloc (.cells cs 65)) W.heap.size (some ⟨W.heap.size, 0, none⟩) l := fun _ =>
  ⟨by simp, 0, rfl, fun j u hj => by
    rw [Nat.zero_add, (Blk.new W 65 cs).cell j, ← Array.getElem?_toList, hcs]
    exact hj⟩
theorem slp_new' (W : World) (l : List (Int × Int)) (cs : Array Value) (hcs : cs.toList = Prs l) : SlP (W.alloc (.cells cs 61)) W.heap.size (some ⟨W.heap.size, 0, none⟩) l := fun _ =>
  ⟨by simp, 0, rfl, fun j u hj => by
    rw [Nat.zero_add, (Blk.new W 61 cs).cell j, ← Array.getElem?_toList, hcs]
    exact hj⟩
theorem RF.slk {w w' : World} {r : Nat} {hb : Option Nat} {g : Nat} {A : Option Addr} {l : List En} (h : RF r hb w w') (s : SlK encE w g A l) (hr : g ≠ r) (hh : some g ≠ hb) : SlK encE w' g A l := s.keep h.size fun hg => h.2.2.2.2 g hg hr hh
theorem RF.slp {w w' : World} {r : Nat} {hb : Option Nat} {g : Nat} {A : Option Addr} {l : List (Int × Int)} (h : RF r hb w w') (s : SlP w g A l) (hr : g ≠ r) (hh : some g ≠ hb) : SlP w' g A l := s.keep h.size fun hg => h.2.2.2.2 g hg hr hh
/-- Where entries that were told lie. -/
theorem rowE_at {w w' : World} {l : List En} {A : Option Addr} {c : Nat} (h : RowE w l A c w') (hl : l ≠ []) : ∃ g, SlK encE w' g A l ∧ w.heap.size ≤ g ∧ l.length ≤ c ∧ c ≤ maxLen := by
  obtain ⟨⟨g, hs⟩, -, hn⟩ := h
  obtain ⟨g', rfl, e2, e3, e4⟩ := hn hl
  obtain ⟨h1, off, e, h3⟩ := hs hl
  injection e with e
  injection e with e5 e6
  subst e5
  exact ⟨g', hs, e2, e3, e4⟩
def lA : En := ((1, 0), (5, 0))
def lB : En := ((0, 1), (9, 0))
theorem l_srt : srtE [lA, lB] = [lB, lA] := (srtE_unique (l := [lA, lB]) (m := [lB, lA]) ((sortedE_srt [lB, lA]).1 (by decide)) (List.Perm.swap _ _ _)).symm
theorem l_front : frontE [lB, lA] = [(0, 1), (1, 0)] := by decide
theorem l_keep : ([lA, lB].filter fun x => [((1, 0) : Int × Int)].any fun y => aheadM y x.1) = [lA] := by decide
set_option maxRecDepth 100000 in
set_option maxHeartbeats 8000000 in
theorem rlives_any (w : World) : Calls Try.prog 31 #[] w fun e w' => e = .returned (.bool true) ∧ Below w.heap.size w w' := by
  have P1 := Lib.hid (rnew_ok 2 w w.heap.size (Nat.le_refl _) (by omega) (by omega))
  go_enter Try.func31, Try.ntmps31
  go_wp2_with fail
  refine P1.out.mono ?_; rintro e w1 ⟨r, rfl, h1, -, b1⟩
  have H1 := Lib.hid h1
  have B1 := Lib.hid b1
  clear h1 b1
  go_wp2_with fail
  refine (at_any 1 0 5 _).mono ?_; rintro e w2 ⟨rfl, b2⟩
  have H2 := Lib.hid (H1.out.below b2)
  have B2 := Lib.hid (B1.out.trans (b2.mono B1.out.size))
  clear b2
  go_wp2_with fail
  refine (radd_ok H2.out lA (by decide) (show (0 : Nat) < 2 by decide) B2.out.size).mono ?_
  rintro e w3 ⟨rfl, hb3, h3, k3, -⟩
  have H3 := Lib.hid (show RunR w3 w.heap.size r hb3 ⟨2, 1, [lA]⟩ from h3)
  have B3 := Lib.hid (B2.out.trans (k3.below H2.out.base_le.1 (fun k hk => (H2.out.base_le.2.1 k hk).1) B2.out.size))
  clear h3 k3
  go_wp2_with fail
  refine (at_any 0 1 9 _).mono ?_; rintro e w4 ⟨rfl, b4⟩
  have H4 := Lib.hid (H3.out.below b4)
  have B4 := Lib.hid (B3.out.trans (b4.mono B3.out.size))
  clear b4
  go_wp2_with fail
  refine (radd_ok H4.out lB (by decide) (show (1 : Nat) < 2 by decide) B4.out.size).mono ?_
  rintro e w5 ⟨rfl, hb5, h5, k5, -⟩
  have H5 := Lib.hid (show RunR w5 w.heap.size r hb5 ⟨2, 2, [lA, lB]⟩ from h5)
  have B5 := Lib.hid (B4.out.trans (k5.below H4.out.base_le.1 (fun k hk => (H4.out.base_le.2.1 k hk).1) B4.out.size))
  clear h5 k5
  go_wp2_with fail
  refine (at_any 0 0 0 _).mono ?_; rintro e w6 ⟨rfl, b6⟩
  have H6 := Lib.hid (H5.out.below b6)
  have B6 := Lib.hid (B5.out.trans (b6.mono B5.out.size))
  clear b6
  go_wp2_with fail
  refine (radd_full H6.out ((0, 0), (0, 0)) (by decide) rfl).mono ?_; rintro e w7 ⟨rfl, b7⟩
  have H7 := Lib.hid (H6.out.below b7)
  have B7 := Lib.hid (B6.out.trans (b7.mono B6.out.size))
  clear b7
  go_wp2_with fail
  have PA := rall_any H7.out
  rw [show (⟨2, 2, [lA, lB]⟩ : Rn).held = [lA, lB] from rfl, l_srt] at PA
  refine PA.mono ?_
  clear PA
  rintro e w8 ⟨A8, c8, rfl, hr8⟩
  obtain ⟨g8, s8, hg8, -, -⟩ := rowE_at hr8 (by simp)
  have H8 := Lib.hid (H7.out.below hr8.2.1)
  have B8 := Lib.hid (B7.out.trans (hr8.2.1.mono B7.out.size))
  have S8 := Lib.hid s8
  have N8 := Lib.hid (show g8 ≠ r ∧ some g8 ≠ hb5 from ⟨by have := H7.out.base_le.2.2; omega, fun e => by have := (H7.out.base_le.2.1 g8 e.symm).2; omega⟩)
  have L8 := Lib.hid (s8 (by simp)).1
  clear hr8 s8 hg8
  go_wp2_with fail
  have PF := rfront_any H8.out
  rw [show (⟨2, 2, [lA, lB]⟩ : Rn).held = [lA, lB] from rfl, l_srt, l_front] at PF
  refine PF.mono ?_
  clear PF
  rintro e w9 ⟨A9, c9, rfl, o9, b9⟩
  obtain ⟨g9, hg9, s9, -, -, -, -⟩ := SlP.of_own o9
  have H9 := Lib.hid (H8.out.below b9)
  have B9 := Lib.hid (B8.out.trans (b9.mono B8.out.size))
  have S9 := Lib.hid (S8.out.below b9)
  have F9 := Lib.hid s9
  have N9 := Lib.hid (show g9 ≠ r ∧ some g9 ≠ hb5 from ⟨by have := H8.out.base_le.2.2; omega, fun e => by have := (H8.out.base_le.2.1 g9 e.symm).2; omega⟩)
  clear o9 b9 s9 hg9
  go_wp2_with fail
  have b10 := alloc_below w9 (.cells #[.int .i64 1, .int .i64 0] 61)
  have sP := slp_new' w9 [(1, 0)] #[.int .i64 1, .int .i64 0] rfl
  have H10 := Lib.hid (H9.out.below b10)
  have B10 := Lib.hid (B9.out.trans (b10.mono B9.out.size))
  have S10 := Lib.hid (S9.out.below b10)
  have F10 := Lib.hid (F9.out.below b10)
  have P10 := Lib.hid sP
  clear b10 sP
  generalize w9.alloc (.cells #[.int .i64 1, .int .i64 0] 61) = w10 at *
  have PK := rkp_any H10.out (some ⟨w9.heap.size, 0, none⟩) w9.heap.size [(1, 0)] 1 P10.out (by decide) B10.out.size
  rw [show (⟨2, 2, [lA, lB]⟩ : Rn).held = [lA, lB] from rfl, l_keep] at PK
  refine PK.mono ?_
  clear PK
  rintro e w11 ⟨rfl, hb11, h11, k11, f11⟩
  have H11 := Lib.hid (show RunR w11 w.heap.size r hb11 ⟨2, 2, [lA]⟩ from h11)
  have B11 := Lib.hid (B10.out.trans (k11.below H10.out.base_le.1 (fun k hk => (H10.out.base_le.2.1 k hk).1) B10.out.size))
  have S11 := Lib.hid (k11.slk S10.out N8.out.1 N8.out.2)
  have F11 := Lib.hid (k11.slp F10.out N9.out.1 N9.out.2)
  have M8 := Lib.hid (show some g8 ≠ hb11 from fun e => by have h1 := f11 g8 e.symm; have h2 := (S10.out (by simp)).1; omega)
  have M9 := Lib.hid (show some g9 ≠ hb11 from fun e => by have h1 := f11 g9 e.symm; have h3 := (F10.out (by simp)).1; omega)
  clear h11 k11 f11
  go_wp2_with fail
  have PT := rtake_any H11.out B11.out.size
  rw [show (⟨2, 2, [lA]⟩ : Rn).held = [lA] from rfl, show srtE [lA] = [lA] from srtE_short (by decide)] at PT
  refine PT.mono ?_
  clear PT
  rintro e w12 ⟨A12, c12, rfl, ⟨g12, s12, -⟩, -, hb12, h12, k12, -⟩
  have H12 := Lib.hid (show RunR w12 w.heap.size r hb12 ⟨2, 2, []⟩ from h12)
  have B12 := Lib.hid (B11.out.trans (k12.below H11.out.base_le.1 (fun k hk => (H11.out.base_le.2.1 k hk).1) B11.out.size))
  have S12 := Lib.hid (k12.slk S11.out N8.out.1 M8.out)
  have F12 := Lib.hid (k12.slp F11.out N9.out.1 M9.out)
  have T12 := Lib.hid s12
  clear h12 k12 s12
  go_wp2_with fail
  refine (rnew_no 0 w12 (by omega)).mono ?_; rintro e w' ⟨rfl, rfl⟩
  go_wp2_with fail
  refine (at_any 0 1 9 _).mono ?_; rintro e w13 ⟨rfl, b13⟩
  go_wp2_with fail
  refine (at_any 1 0 5 _).mono ?_; rintro e w14 ⟨rfl, b14⟩
  have b1214 := below_trans b13 b14
  have H14 := Lib.hid (H12.out.below b1214)
  have B14 := Lib.hid (B12.out.trans (b1214.mono B12.out.size))
  have S14 := Lib.hid (S12.out.below b1214)
  have F14 := Lib.hid (F12.out.below b1214)
  have T14 := Lib.hid (T12.out.below b1214)
  clear b13 b14 b1214
  unfold enV
  go_wp2_with fail
  have b15 := alloc_below w14 (.cells #[.int .i64 0, .int .i64 1, .int .i64 9, .int .i64 0, .int .i64 1, .int .i64 0, .int .i64 5, .int .i64 0] 65)
  have n15 := slk_new' w14 [lB, lA] #[.int .i64 0, .int .i64 1, .int .i64 9, .int .i64 0, .int .i64 1, .int .i64 0, .int .i64 5, .int .i64 0] rfl
  refine (ren_same_any A8 (some ⟨w14.heap.size, 0, none⟩) g8 w14.heap.size [lB, lA] [lB, lA] c8 2 _ (S14.out.below b15) n15 (by decide) (by decide)).mono ?_
  rintro e w16 ⟨rfl, b16⟩
  rw [show ([lB, lA] == [lB, lA]) = true from by decide]
  have bb := below_trans b15 b16
  have H16 := Lib.hid (H14.out.below bb)
  have B16 := Lib.hid (B14.out.trans (bb.mono B14.out.size))
  have F16 := Lib.hid (F14.out.below bb)
  have T16 := Lib.hid (T14.out.below bb)
  clear b15 n15 b16 bb
  go_wp2_with fail
  have b17 := alloc_below w16 (.cells #[.int .i64 0, .int .i64 1, .int .i64 1, .int .i64 0] 61)
  have n17 := slp_new' w16 [(0, 1), (1, 0)] #[.int .i64 0, .int .i64 1, .int .i64 1, .int .i64 0] rfl
  refine (rsame_any A9 (some ⟨w16.heap.size, 0, none⟩) g9 w16.heap.size [(0, 1), (1, 0)] [(0, 1), (1, 0)] c9 2 _ (F16.out.below b17) n17 (by decide) (by decide)).mono ?_
  rintro e w18 ⟨rfl, b18⟩
  rw [show ([((0 : Int), (1 : Int)), (1, 0)] == [(0, 1), (1, 0)]) = true from by decide]
  have bb := below_trans b17 b18
  have H18 := Lib.hid (H16.out.below bb)
  have B18 := Lib.hid (B16.out.trans (bb.mono B16.out.size))
  have T18 := Lib.hid (T16.out.below bb)
  clear b17 n17 b18 bb
  go_wp2_with fail
  refine (at_any 1 0 5 _).mono ?_; rintro e w19 ⟨rfl, b19⟩
  have H19 := Lib.hid (H18.out.below b19)
  have B19 := Lib.hid (B18.out.trans (b19.mono B18.out.size))
  have T19 := Lib.hid (T18.out.below b19)
  clear b19
  unfold enV
  go_wp2_with fail
  have b20 := alloc_below w19 (.cells #[.int .i64 1, .int .i64 0, .int .i64 5, .int .i64 0] 65)
  have n20 := slk_new' w19 [lA] #[.int .i64 1, .int .i64 0, .int .i64 5, .int .i64 0] rfl
  refine (ren_same_any A12 (some ⟨w19.heap.size, 0, none⟩) g12 w19.heap.size [lA] [lA] c12 1 _ (T19.out.below b20) n20 (by decide) (by decide)).mono ?_
  rintro e w21 ⟨rfl, b21⟩
  rw [show ([lA] == [lA]) = true from by decide]
  have bb := below_trans b20 b21
  have H21 := Lib.hid (H19.out.below bb)
  have B21 := Lib.hid (B19.out.trans (bb.mono B19.out.size))
  clear b20 n20 b21 bb
  go_wp2_with fail
  refine (rlen_any H21.out).mono ?_; rintro e w' ⟨rfl, rfl⟩
  go_wp2_with fail
  refine (rlimit_any H21.out).mono ?_; rintro e w' ⟨rfl, rfl⟩
  go_wp2_with fail
  refine (rmost_any H21.out).mono ?_; rintro e w' ⟨rfl, rfl⟩
  go_wp2_with fail
  go_ret
  exact ⟨rfl, B21.out⟩
end Go.Proofs.Ytodfpdmmbmbinaa
