/- Contracts of files: the law's lives. -/
import Derived.Test.YtfmmdnjoichifaaFiAg
namespace Go.Proofs.Ytfmmdnjoichifaa
open Go.RowKit Go.Sort

def sK : Sec := mixS zS (oneSec 2) 1
def s7 : Sec := turnS 8 1 (oneSec 7) 32
theorem byt_take (l : List UInt8) (k : Nat) : (Byt l).take k = Byt (l.take k) := by unfold Byt; rw [List.map_take]
theorem sK_b : (Byt sK.b).take 2 = [.int .u8 2, .int .u8 0] := by
  rw [byt_take, show sK.b.take 2 = [2, 0] by decide +kernel]
  rfl
theorem s7_b : (Byt s7.b).take 2 = [.int .u8 7, .int .u8 6] := by
  rw [byt_take, show s7.b.take 2 = [7, 6] by decide +kernel]
  rfl
theorem dk_lt {lim : Int} {fb : Nat} {nm : Nm} {now kept : List Sec} {pend : List Wr} (h : (now.length : Int) < lim) : (usedN (dk lim fb nm now kept pend).fs : Int) < (dk lim fb nm now kept pend).limit := by rw [dk_used]; exact h
/-- A row of bytes of which two are known. -/
def ByT (w : World) (A : Option Addr) (x y : Int) : Prop := ∃ g off, A = some ⟨g, off, none⟩ ∧ w.cell? ⟨g, off, none⟩ = some (.int .u8 x) ∧ w.cell? ⟨g, off + 1, none⟩ = some (.int .u8 y)
theorem byT_of {w : World} {base : Nat} {A : Option Addr} {c : Nat} {l : List UInt8} {x y : Int} (h : w.ownsRow base 5 1 (.slice A l.length c) l.length (Byt l)) (hl : l.length = 64) (ht : (Byt l).take 2 = [.int .u8 x, .int .u8 y]) : ByT w A x y := by
  obtain ⟨g, cap, hv, -, -⟩ := h.form (by omega)
  injection hv with hv1 hv2 hv3
  subst hv1
  subst hv3
  refine ⟨g, 0, rfl, ?_, ?_⟩
  · have := h.cellAt 0 (by omega)
    rw [this, ← List.getElem?_take_of_lt (show 0 < 2 by omega), ht]
    rfl
  · have := h.cellAt 1 (by omega)
    rw [show 0 + 1 = 1 from rfl, this, ← List.getElem?_take_of_lt (show 1 < 2 by omega), ht]
    rfl
set_option maxRecDepth 100000 in
set_option maxHeartbeats 4000000 in
theorem lives_any (w : World) : Calls Try.prog 10 #[] w fun e w' => e = .returned (.bool true) ∧ Below w.heap.size w w' := by
  have P1 := Lib.hid (new_ok 3 w w.heap.size (Nat.le_refl _) (by omega) (by omega))
  go_enter Try.func10, Try.ntmps10
  go_wp2_with fail
  refine P1.out.mono ?_; rintro e w1 ⟨d, m, rfl, h1, -, -, b1⟩
  have H1 := Lib.hid h1
  have B1 := Lib.hid b1
  clear h1 b1
  go_wp2_with fail
  refine (create_ok H1.out (n := nmA) (by decide) (fun f hf => by cases hf) (by decide) rfl (fun h => by cases h.1) B1.out.size).mono ?_
  rintro e w2 ⟨rfl, fb, h2, k2⟩
  rw [dk_new] at h2
  have H2 := Lib.hid h2
  have S2 := Lib.hid (Nat.le_trans B1.out.size k2.size)
  have B2 := Lib.hid (B1.out.trans (k2.below B1.out.size))
  clear h2 k2
  go_wp2_with fail
  refine (sector_any 1 _).mono ?_
  rintro e w3 ⟨A3, rfl, s3, b3⟩
  have H3 := Lib.hid (H2.out.below b3)
  have S3 := Lib.hid (Nat.le_trans S2.out b3.size)
  have B3 := Lib.hid (B2.out.trans (b3.mono S2.out))
  have Q3 := Lib.hid (s3.any w.heap.size)
  clear s3 b3
  go_wp2_with fail
  refine (append_ok H3.out (f := fl fb nmA [] []) dk_mem Q3.out rfl dk_goes (dk_lt (by decide)) (show (0 : Nat) ≤ 16384 by decide) (show (0 : Nat) ≤ 1000000 by decide) S3.out).mono ?_
  rintro e w4 ⟨rfl, h4, k4⟩
  rw [dk_ap] at h4
  have h4' : DiskR w4 w.heap.size d m (dk 3 fb nmA [oneSec 1] [] [⟨fb, 0, oneSec 1⟩]) := h4
  have H4 := Lib.hid h4'
  have S4 := Lib.hid (Nat.le_trans S3.out k4.size)
  have B4 := Lib.hid (B3.out.trans (k4.below S3.out))
  clear h4 h4' k4
  go_wp2_with fail
  refine (sector_any 2 _).mono ?_
  rintro e w5 ⟨A5, rfl, s5, b5⟩
  have H5 := Lib.hid (H4.out.below b5)
  have S5 := Lib.hid (Nat.le_trans S4.out b5.size)
  have B5 := Lib.hid (B4.out.trans (b5.mono S4.out))
  have Q5 := Lib.hid (s5.any w.heap.size)
  clear s5 b5
  go_wp2_with fail
  refine (append_ok H5.out (f := fl fb nmA [oneSec 1] []) dk_mem Q5.out rfl dk_goes (dk_lt (by decide)) (show (1 : Nat) ≤ 16384 by decide) (show (1 : Nat) ≤ 1000000 by decide) S5.out).mono ?_
  rintro e w6 ⟨rfl, h6, k6⟩
  rw [dk_ap] at h6
  have h6' : DiskR w6 w.heap.size d m (dk 3 fb nmA [oneSec 1, oneSec 2] [] [⟨fb, 0, oneSec 1⟩, ⟨fb, 1, oneSec 2⟩]) := h6
  have H6 := Lib.hid h6'
  have S6 := Lib.hid (Nat.le_trans S5.out k6.size)
  have B6 := Lib.hid (B5.out.trans (k6.below S5.out))
  clear h6 h6' k6
  go_wp2_with fail
  have hpm : pendM (dk 3 fb nmA [oneSec 1, oneSec 2] [] [⟨fb, 0, oneSec 1⟩, ⟨fb, 1, oneSec 2⟩]) = [(nmA, 0), (nmA, 1)] := by simp [pendM, nameOf, dk, fl]
  have PP := pending_any H6.out (show (2 : Nat) ≤ 1000000 by decide)
  have PP' : Calls Try.prog 15 #[ptD d] w6 (PdRow w6 [(nmA, 0), (nmA, 1)]) := by rw [← hpm]; exact PP
  refine PP'.mono ?_
  clear PP PP' hpm
  rintro e w7 ⟨A7, c7, rfl, o7, b7⟩
  have H7 := Lib.hid (H6.out.below b7)
  have S7 := Lib.hid (Nat.le_trans S6.out b7.size)
  have B7 := Lib.hid (B6.out.trans (b7.mono S6.out))
  have O7 := Lib.hid o7
  clear o7 b7
  go_wp2_with fail
  have b8 := al_below w7 (.cells #[.int .i64 0, .int .i64 1] 3)
  have x8 := Blk.new w7 3 #[.int .i64 0, .int .i64 1]
  have ia : IntAt (w7.alloc (.cells #[.int .i64 0, .int .i64 1] 3)) w.heap.size (some ⟨w7.heap.size, 0, none⟩) [0, 1] := fun _ => ⟨w7.heap.size, 0, rfl, x8.lt, fun j v hj => by
    rw [x8.cell]
    match j, hj with
    | 0, hj => injection hj with hj; subst hj; rfl
    | 1, hj => injection hj with hj; subst hj; rfl, .inr ⟨_, _, x8⟩⟩
  have IA := Lib.hid ia
  have H8 := Lib.hid (H7.out.below b8)
  have S8 := Lib.hid (Nat.le_trans S7.out b8.size)
  have B8 := Lib.hid (B7.out.trans (b8.mono S7.out))
  have O8 := Lib.hid (own_below O7.out b8)
  clear b8 x8 ia
  generalize w7.alloc (.cells #[.int .i64 0, .int .i64 1] 3) = w8 at IA H8 S8 B8 O8 ⊢
  have PC := crash_any H8.out (keep := [0, 1]) (c := 2) IA.out (by decide) (show (2 : Nat) ≤ 1000000 by decide) S8.out
  rw [dk_crash] at PC
  refine PC.mono ?_
  clear PC
  rintro e w9 ⟨rfl, h9, k9⟩
  have H9 := Lib.hid (show DiskR w9 w.heap.size d m (dk 3 fb nmA [zS, sK] [zS, sK] []) from h9)
  have S9 := Lib.hid (Nat.le_trans S8.out k9.size)
  have B9 := Lib.hid (B8.out.trans (k9.below S8.out))
  have O9 := Lib.hid (k9.own H8.out.map O8.out (by decide))
  clear h9 k9
  go_wp2_with fail
  refine (fsize_ok H9.out (f := fl fb nmA [zS, sK] [zS, sK]) dk_mem).mono ?_; rintro e w' ⟨rfl, rfl⟩
  rw [show (((fl fb nmA [zS, sK] [zS, sK]).now.length : Nat) : Int) = 2 from rfl]
  go_wp2_with fail
  refine (read_ok H9.out (f := fl fb nmA [zS, sK] [zS, sK]) dk_mem rfl 1 sK rfl).mono ?_; rintro e w10 ⟨A10, c10, rfl, o10, b10⟩
  rw [show sK.b.length = 64 from sK.h] at o10 ⊢
  have H10 := Lib.hid (H9.out.below b10)
  have S10 := Lib.hid (Nat.le_trans S9.out b10.size)
  have B10 := Lib.hid (B9.out.trans (b10.mono S9.out))
  have O10 := Lib.hid (own_below O9.out b10)
  have R10 := Lib.hid o10
  clear o10 b10
  go_wp2_with fail
  have PR := rename_new H10.out (f := fl fb nmA [zS, sK] [zS, sK]) dk_mem (to := nmB) (by decide) (fun g hg => by rw [dk_fs] at hg; obtain rfl := List.mem_singleton.1 hg; exact (by decide : nmA ≠ nmB)) rfl dk_goes
  rw [dk_ren] at PR
  refine PR.mono ?_
  clear PR
  rintro e w11 ⟨rfl, h11, k11⟩
  have H11 := Lib.hid h11
  have S11 := Lib.hid (Nat.le_trans S10.out k11.size)
  have B11 := Lib.hid (B10.out.trans (k11.below S10.out))
  have O11 := Lib.hid (k11.own H10.out.map O10.out (by decide))
  have R11 := Lib.hid (k11.own H10.out.map R10.out (by decide))
  clear h11 k11
  go_wp2_with fail
  refine (sync_none H11.out (f := fl fb nmB [zS, sK] [zS, sK]) dk_mem rfl dk_goes rfl).mono ?_
  rintro e w12 ⟨rfl, h12, k12⟩
  rw [dk_tick] at h12
  have H12 := Lib.hid h12
  have S12 := Lib.hid (Nat.le_trans S11.out k12.size)
  have B12 := Lib.hid (B11.out.trans (k12.below S11.out))
  have O12 := Lib.hid (k12.own H11.out.map O11.out (by decide))
  have R12 := Lib.hid (k12.own H11.out.map R11.out (by decide))
  clear h12 k12
  go_wp2_with fail
  refine (sector_any 7 _).mono ?_
  rintro e w13 ⟨A13, rfl, s13, b13⟩
  have H13 := Lib.hid (H12.out.below b13)
  have S13 := Lib.hid (Nat.le_trans S12.out b13.size)
  have B13 := Lib.hid (B12.out.trans (b13.mono S12.out))
  have Q13 := Lib.hid (s13.any w.heap.size)
  have O13 := Lib.hid (own_below O12.out b13)
  have R13 := Lib.hid (own_below R12.out b13)
  clear s13 b13
  go_wp2_with fail
  have PW := write_ok (c := 64) H13.out (f := fl fb nmB [zS, sK] [zS, sK]) dk_mem (i := 0) (show (0 : Nat) < 2 by decide) Q13.out rfl dk_goes (show (0 : Nat) ≤ 1000000 by decide) S13.out
  rw [dk_wr] at PW
  refine PW.mono ?_
  clear PW
  rintro e w14 ⟨rfl, h14, k14⟩
  have H14 := Lib.hid (show DiskR w14 w.heap.size d m (dk 3 fb nmB [oneSec 7, sK] [zS, sK] [⟨fb, 0, oneSec 7⟩]) from h14)
  have S14 := Lib.hid (Nat.le_trans S13.out k14.size)
  have B14 := Lib.hid (B13.out.trans (k14.below S13.out))
  have O14 := Lib.hid (k14.own H13.out.map O13.out (by decide))
  have R14 := Lib.hid (k14.own H13.out.map R13.out (by decide))
  clear h14 k14
  go_wp2_with fail
  have PF := flip_ok H14.out (f := fl fb nmB [oneSec 7, sK] [zS, sK]) dk_mem 0 (show (0 : Nat) < 2 by decide) (show (0 : Nat) < 2 by decide) 8 1 (by decide) (by decide) (show (1 : Nat) ≤ 1000000 by decide) S14.out
  rw [dk_flip] at PF
  refine PF.mono ?_
  clear PF
  rintro e w15 ⟨rfl, h15, k15⟩
  obtain ⟨pd, kp, h15'⟩ : ∃ pd kp, DiskR w15 w.heap.size d m (dk 3 fb nmB [s7, sK] kp pd) := ⟨_, _, h15⟩
  have H15 := Lib.hid h15'
  have S15 := Lib.hid (Nat.le_trans S14.out k15.size)
  have B15 := Lib.hid (B14.out.trans (k15.below S14.out))
  have O15 := Lib.hid (k15.own H14.out.map O14.out (by decide))
  have R15 := Lib.hid (k15.own H14.out.map R14.out (by decide))
  clear h15 h15' k15
  go_wp2_with fail
  refine (read_ok H15.out (f := fl fb nmB [s7, sK] kp) dk_mem rfl 0 s7 rfl).mono ?_; rintro e w16 ⟨A16, c16, rfl, o16, b16⟩
  rw [show s7.b.length = 64 from s7.h] at o16 ⊢
  have H16 := Lib.hid (H15.out.below b16)
  have S16 := Lib.hid (Nat.le_trans S15.out b16.size)
  have B16 := Lib.hid (B15.out.trans (b16.mono S15.out))
  have O16 := Lib.hid (own_below O15.out b16)
  have R16 := Lib.hid (own_below R15.out b16)
  have T16 := Lib.hid o16
  clear o16 b16
  go_wp2_with fail
  refine (new_no (-1) w16 (by omega)).mono ?_; rintro e w' ⟨rfl, rfl⟩
  obtain ⟨g7, cap7, hv, -, -⟩ := O16.out.form (show 0 < 2 by decide)
  injection hv with hv1 hv2 hv3
  subst hv1
  subst hv3
  have k2 : w16.cell? ⟨g7, 2, none⟩ = some (.string ⟨#[97]⟩) := O16.out.cellAt 2 (show 2 < 4 by decide)
  have k3 : w16.cell? ⟨g7, 3, none⟩ = some (.int .i64 1) := O16.out.cellAt 3 (show 3 < 4 by decide)
  obtain ⟨ga, oa, rfl, ka, kb⟩ := byT_of (l := sK.b) (by rw [sK.h]; exact R16.out) sK.h sK_b
  obtain ⟨gt, ot, rfl, kc, kd⟩ := byT_of (l := s7.b) (by rw [s7.h]; exact T16.out) s7.h s7_b
  clear hv2
  go_wp2_with fail
  clear k2 k3 ka kb kc kd
  refine (list_one H16.out dk_fs).mono ?_; rintro e w17 ⟨A17, c17, rfl, b17⟩
  have H17 := Lib.hid (H16.out.below b17)
  have S17 := Lib.hid (Nat.le_trans S16.out b17.size)
  have B17 := Lib.hid (B16.out.trans (b17.mono S16.out))
  clear b17
  go_wp2_with fail
  refine (used_any H17.out).mono ?_; rintro e w18 ⟨rfl, b18⟩
  rw [dk_used]
  have H18 := Lib.hid (H17.out.below b18)
  have S18 := Lib.hid (Nat.le_trans S17.out b18.size)
  have B18 := Lib.hid (B17.out.trans (b18.mono S17.out))
  clear b18
  go_wp2_with fail
  refine (stop_ok H18.out 0 (by omega) (by omega)).mono ?_; rintro e w19 ⟨rfl, h19, k19⟩
  have H19 := Lib.hid h19
  have B19 := Lib.hid (B18.out.trans (k19.below S18.out))
  have S19 := Lib.hid (Nat.le_trans S18.out k19.size)
  clear h19 k19
  go_wp2_with fail
  refine (delete_stop H19.out (f := fl fb nmB [s7, sK] kp) (dk_mem (lim := 3) (pend := pd)) rfl rfl rfl).mono ?_; rintro e w20 ⟨rfl, h20, k20⟩
  have H20 := Lib.hid h20
  have B20 := Lib.hid (B19.out.trans (k20.below S19.out))
  clear h20 k20
  go_wp2_with fail
  refine (off_any H20.out).mono ?_; rintro e w' ⟨rfl, rfl⟩
  go_wp2_with fail
  go_ret
  exact ⟨rfl, B20.out⟩
end Go.Proofs.Ytfmmdnjoichifaa
