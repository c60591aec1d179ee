/- Edits: the law's lives. -/
import Derived.Test.YtfmmdnjoichifaaEdGQ
import Derived.Test.YtfmmdnjoichifaaEdH
import Derived.Test.YtfmmdnjoichifaaEdNO
namespace Go.Proofs.Ytfmmdnjoichifaa
open Go.RowKit Go.Sort

def oneE (k ep rd : Int) (s : ByteArray) : Ed := ⟨k, ep, rd, [⟨s, 300, 2⟩]⟩
set_option maxRecDepth 100000 in
set_option maxHeartbeats 2000000 in
theorem one_any (k ep rd : Int) (s : ByteArray) (w : World) : Calls Try.prog 65 #[.int .i64 k, .int .i64 ep, .int .i64 rd, .string s] w (OwnAns w (oneE k ep rd s)) := by
  have hbd : ∀ W : World, (Instr.build 110 #[(0, .string s), (1, .int .i64 300), (2, .int .i64 2)]).run Try.prog W = .ok (.agg #[.string s, .int .i64 300, .int .i64 2]) W := fun W => rfV_build s 300 2 W
  have HX := Lib.hid ((Blk.new w 50 #[.int .i64 k, .int .i64 ep, .int .i64 rd, .slice (some ⟨w.heap.size + 1, 0, none⟩) 1 1]).later (alloc_below _ (.cells #[.string s, .int .i64 300, .int .i64 2] 110)))
  have HB := Lib.hid (below_trans (alloc_below w (.cells #[.int .i64 k, .int .i64 ep, .int .i64 rd, .slice (some ⟨w.heap.size + 1, 0, none⟩) 1 1] 50)) (alloc_below _ (.cells #[.string s, .int .i64 300, .int .i64 2] 110)))
  have HR := Lib.hid (show ∀ base, RfAt ((w.alloc (.cells #[.int .i64 k, .int .i64 ep, .int .i64 rd, .slice (some ⟨w.heap.size + 1, 0, none⟩) 1 1] 50)).alloc (.cells #[.string s, .int .i64 300, .int .i64 2] 110)) base (some ⟨w.heap.size + 1, 0, none⟩) [⟨s, 300, 2⟩] from fun base _ => by
    have R0 := Blk.new (w.alloc (.cells #[.int .i64 k, .int .i64 ep, .int .i64 rd, .slice (some ⟨w.heap.size + 1, 0, none⟩) 1 1] 50)) 110 #[.string s, .int .i64 300, .int .i64 2]
    rw [World.size_alloc] at R0
    refine ⟨w.heap.size + 1, 0, rfl, R0.lt, fun j u hj => ?_, .inr ⟨_, _, R0⟩⟩
    rw [Nat.zero_add]
    have hj' : (encRf ⟨s, 300, 2⟩)[j]? = some u := by rwa [RowV_one1] at hj
    rw [R0.cell j]
    simpa [encRf] using hj')
  go_enter Try.func65, Try.ntmps65
  go_wp2_with fail
  refine bodyPost_ret (results_cell_row rfl _ _ w.heap.size 50 #[.int .i64 k, .int .i64 ep, .int .i64 rd, .slice (some ⟨w.heap.size + 1, 0, none⟩) 1 1] (0, 0) _ rfl HX.out Try.underlying50 rfl info_edS) rfl ?_
  exact ⟨some ⟨w.heap.size + 1, 0, none⟩, 1, rfl, HR.out, HB.out⟩
def eA : Ed := oneE 1 0 2 ⟨#[97]⟩
def eB : Ed := oneE 1 0 2 ⟨#[98]⟩
def eC : Ed := oneE 2 0 0 ⟨#[99]⟩
theorem lvA : okEd eA = true := by decide
theorem lvB : okEd eB = true := by decide
theorem lvC : okEd eC = true := by decide
theorem lvZ : okEd zE = false := by decide
theorem lvP : putEd eA = [1, 0, 2, 1, 1, 97, 240, 60, 2] := by decide
theorem lvG : getM [1, 0, 2, 1, 1, 97, 240, 60, 2] = some eA := by rw [← lvP]; exact getM_put lvA
theorem lvN : getM [0, 2, 1, 1, 97, 240, 60, 2] = none := by
  have : (getM [0, 2, 1, 1, 97, 240, 60, 2]).isNone = true := by decide +kernel
  exact Option.isNone_iff_eq_none.1 this
theorem lv1 : apS ⟨[], none⟩ eA = (⟨[], some eA⟩, 0) := by
  unfold apS
  rw [lvA, show goesE ⟨[], none⟩ eA = true by decide]
  rfl
theorem lv2 : apS ⟨[], some eA⟩ eB = (⟨[], some eA⟩, 1) := by
  unfold apS
  rw [lvB, show goesE ⟨[], some eA⟩ eB = false by decide]
  rfl
theorem lv3 : apS ⟨[], some eA⟩ eC = (⟨[eC], none⟩, 0) := by
  unfold apS
  rw [lvC, show goesE ⟨[], some eA⟩ eC = true by decide]
  rfl
theorem edV_A (A : Option Addr) (c : Nat) : edV eA A c = .agg #[.int .i64 1, .int .i64 0, .int .i64 2, .slice A 1 c] := rfl
theorem edV_C (A : Option Addr) (c : Nat) : edV eC A c = .agg #[.int .i64 2, .int .i64 0, .int .i64 0, .slice A 1 c] := rfl
theorem edCs_A (A : Option Addr) (c : Nat) : edCs eA A c = #[.int .i64 1, .int .i64 0, .int .i64 2, .slice A 1 c] := rfl
theorem lvNm : St.names ⟨[eC], none⟩ = [[99]] := by
  show srtK [[99]] = [[99]]
  unfold srtK
  simp
theorem EF.blk {w w' : World} {g k : Nat} {hb : Option Nat} {t : TypeId} {cs : Array Value} (f : EF g hb w w') (h : Blk w k t cs) (h1 : k ≠ g) (h2 : some k ≠ hb) : Blk w' k t cs := (f.2.2.2.2 k h.lt h1 h2).trans h
theorem EF.row {w w' : World} {g base e size n : Nat} {hb : Option Nat} {v : Value} {xs : List Value} (f : EF g hb w w') (h : w.ownsRow base e size v n xs) (h1 : ∀ k, v.ownBlock = some k → k ≠ g ∧ some k ≠ hb) : w'.ownsRow base e size v n xs :=
  own_same h fun k hk => f.2.2.2.2 k (World.ownsRow.lt h k hk).2 (h1 k hk).1 (h1 k hk).2
theorem RfAt.ef {T : TypeId} {w w' : World} {base g : Nat} {hb : Option Nat} {S : St} {A : Option Addr} {l : List Rf} (h : RfAt w 0 A l) (H : StR T w base g hb S) (hT : T ≠ 110) (f : EF g hb w w') : RfAt w' 0 A l := by
  obtain ⟨A1, c1, xs, mA, mc, hblk, hbg, hown, -, -, hhb, -⟩ := H
  refine h.keep f.size fun k hk ho => f.2.2.2.2 k hk (ref_ne ho hblk (Nat.zero_le _) hT) fun e => ?_
  obtain ⟨-, cur, hc⟩ := own_cur hown (hhb ▸ e.symm)
  exact ref_ne ho hc (Nat.zero_le _) (by decide) rfl
/-- The row is none, or new. -/
def HbN (N : Nat) (hb : Option Nat) : Prop := ∀ k, hb = some k → N ≤ k
theorem HbN.none_ (N : Nat) : HbN N none := fun k h => by cases h
theorem HbN.next {N : Nat} {hb hb' : Option Nat} {w : World} (h : HbN N hb) (ho : hb' = hb ∨ ∃ k, hb' = some k ∧ w.heap.size ≤ k) (hN : N ≤ w.heap.size) : HbN N hb' := fun k hk => by
  rcases ho with ho | ⟨k', ho, hle⟩
  · exact h k (ho ▸ hk)
  · rw [ho] at hk
    injection hk with hk
    omega
set_option maxRecDepth 100000 in
set_option maxHeartbeats 8000000 in
theorem elives_any (w : World) : Calls Try.prog 23 #[] w fun e w' => e = .returned (.bool true) ∧ Below w.heap.size w w' := by
  have P1 := Lib.hid (st_new w w.heap.size (Nat.le_refl _))
  go_enter Try.func23, Try.ntmps23
  go_wp2_with fail
  refine P1.out.mono ?_; rintro x w1 ⟨g, rfl, h1, hg, b1⟩
  have H1 := Lib.hid h1
  have B1 := Lib.hid b1
  have hgl := h1.parts.2.2
  clear h1 b1 P1
  go_wp2_with fail
  refine (one_any 1 0 2 ⟨#[97]⟩ w1).mono ?_; rintro x w2 ⟨A2, c2, rfl, hr2, b2⟩
  have H2 := Lib.hid (H1.out.below b2)
  have B2 := Lib.hid (B1.out.trans (b2.mono B1.out.size))
  have R2 := Lib.hid (hr2 0)
  have z2 := b2.size
  clear hr2 b2
  go_wp2_with fail
  have PP := ed_put_ok eA A2 c2 0 w2 R2.out lvA
  unfold PutAns at PP
  rw [lvP] at PP
  refine PP.mono ?_; rintro x w3 ⟨A3, c3, rfl, o3, b3⟩
  have H3 := Lib.hid (H2.out.below b3)
  have B3 := Lib.hid (B2.out.trans (b3.mono B2.out.size))
  have O3 := Lib.hid o3
  have z3 := b3.size
  clear b3 PP o3
  go_wp2_with fail
  obtain ⟨h3, -, s3, -⟩ := SlB.of_own O3.out
  have S3 := Lib.hid s3
  have PG := ed_get_any A3 h3 _ c3 w3 s3 (by decide)
  rw [lvG] at PG
  refine PG.mono ?_; clear PG s3
  rintro x w4 (⟨hz, -⟩ | ⟨e4, A4, c4, hz, rfl, hr4, b4⟩)
  · cases hz
  injection hz with hz
  subst hz
  rw [edV_A]
  have b4' := alloc_below w4 (.cells #[.int .i64 1, .int .i64 0, .int .i64 2, .slice A4 1 c4] 50)
  have X5 := Lib.hid (Blk.new w4 50 #[.int .i64 1, .int .i64 0, .int .i64 2, .slice A4 1 c4])
  have R5 := Lib.hid (hr4.below b4')
  have bb := below_trans b4 b4'
  have z4 := b4.size
  have H5 := Lib.hid (H3.out.below bb)
  have B5 := Lib.hid (B3.out.trans (bb.mono B3.out.size))
  have O5 := Lib.hid (own_below O3.out bb)
  obtain ⟨g3, cap3, hv3, hg3, hg3l⟩ := O3.out.form (by decide)
  injection hv3 with hv1 hv2 hv3
  subst hv1
  have hcap : 9 ≤ c3 := (own_caps O3.out).1
  have hcap1 : ¬ c3 = 1 := by omega
  obtain ⟨h5, -, s5, -⟩ := SlB.of_own O5.out
  have s6 := SlB.drop s5 (k := 1) (cap := c3) hcap
  have hcut : cutA (some ⟨g3, 0, none⟩) 1 c3 = some ⟨g3, 1, none⟩ := by unfold cutA; rw [if_neg hcap1]; rfl
  rw [hcut] at s6
  have PG2 := Lib.hid (ed_get_any (some ⟨g3, 1, none⟩) h5 _ (c3 - 1) _ s6 (by decide))
  rw [show List.drop 1 [1, 0, 2, 1, 1, 97, 240, 60, 2] = ([0, 2, 1, 1, 97, 240, 60, 2] : List UInt8) from rfl, lvN] at PG2
  clear hr4 b4 b4' bb S3 s5 s6 hcut
  subst hv3
  go_wp2_with fail
  refine PG2.out.mono ?_
  rintro x w6 (⟨-, rfl, b6⟩ | ⟨e6, A6, c6, hz, -⟩)
  rotate_left
  · cases hz
  have b6' := alloc_below w6 (.cells edZ 50)
  have bb := below_trans b6 b6'
  have z6 := b6.size
  rw [World.size_alloc] at z6
  have X7 := Lib.hid (X5.out.later bb)
  have R7 := Lib.hid (R5.out.below bb)
  have H7 := Lib.hid (H5.out.below bb)
  have B7 := Lib.hid (B5.out.trans (bb.mono B5.out.size))
  have O7 := Lib.hid (own_below O5.out bb)
  unfold edZ at X7 R7 H7 B7 O7
  have q0 := X7.out.cell 0
  have q1 := X7.out.cell 1
  have q2 := X7.out.cell 2
  have q3 := X7.out.cell 3
  simp at q0 q1 q2 q3
  clear b6 b6' bb PG2 X5 R5 H5 B5 O5
  go_wp2_with fail
  have PA := st_apply H7.out B7.out.size eA A4 c4 0 R7.out (by decide)
  rw [lv1] at PA
  refine PA.mono ?_; clear PA
  rintro x w8 ⟨rfl, hb8, h8, f8, hor8⟩
  have hN : w4.heap.size < (w6.alloc (.cells #[.int .i64 0, .int .i64 0, .int .i64 0, .slice none 0 0] 50)).heap.size := by rw [World.size_alloc]; omega
  generalize hw7 : w6.alloc (.cells #[.int .i64 0, .int .i64 0, .int .i64 0, .slice none 0 0] 50) = w7 at *
  have B8 := Lib.hid (B7.out.trans (f8.below hg (fun k hk => (by cases hk)) B7.out.size))
  have X8 := Lib.hid (f8.blk X7.out (by omega) (by simp))
  have O8 := Lib.hid (f8.row O7.out fun k hk => (by obtain rfl : g3 = k := (by injection hk); exact ⟨by omega, by simp⟩))
  have H8 := Lib.hid h8
  have RA8 := Lib.hid (R7.out.ef H7.out (by decide) f8)
  have N8 := Lib.hid ((HbN.none_ w7.heap.size).next hor8 (Nat.le_refl _))
  have z8 := f8.size
  clear h8 f8 hor8 q0 q1 q2 q3 X7 R7 H7 B7 O7
  simp only
  go_wp2_with fail
  refine (one_any 1 0 2 ⟨#[98]⟩ w8).mono ?_; rintro x w9 ⟨A9, c9, rfl, hr9, b9⟩
  have X9 := Lib.hid (X8.out.later b9)
  have O9 := Lib.hid (own_below O8.out b9)
  have H9 := Lib.hid (H8.out.below b9)
  have B9 := Lib.hid (B8.out.trans (b9.mono B8.out.size))
  have R9 := Lib.hid (hr9 0)
  have RA9 := Lib.hid (RA8.out.below b9)
  have z9 := b9.size
  clear hr9 b9 X8 O8 H8 B8
  go_wp2_with fail
  have PA := st_apply H9.out B9.out.size eB A9 c9 0 R9.out (by decide)
  rw [lv2] at PA
  refine PA.mono ?_; clear PA
  rintro x w10 ⟨rfl, hb10, h10, f10, hor10⟩
  have B10 := Lib.hid (B9.out.trans (f10.below hg (fun k hk => (by have := N8.out k hk; omega)) B9.out.size))
  have X10 := Lib.hid (f10.blk X9.out (by omega) (fun e => (by have := N8.out _ e.symm; omega)))
  have O10 := Lib.hid (f10.row O9.out fun k hk => (by obtain rfl : g3 = k := (by injection hk); exact ⟨by omega, fun e => (by have := N8.out _ e.symm; omega)⟩))
  have H10 := Lib.hid h10
  have RA10 := Lib.hid (RA9.out.ef H9.out (by decide) f10)
  have N10 := Lib.hid (N8.out.next hor10 (by omega))
  have z10 := f10.size
  clear h10 f10 hor10 X9 R9 H9 B9 O9 N8
  simp only
  go_wp2_with fail
  refine (one_any 2 0 0 ⟨#[99]⟩ w10).mono ?_; rintro x w11 ⟨A11, c11, rfl, hr11, b11⟩
  have X11 := Lib.hid (X10.out.later b11)
  have O11 := Lib.hid (own_below O10.out b11)
  have H11 := Lib.hid (H10.out.below b11)
  have B11 := Lib.hid (B10.out.trans (b11.mono B10.out.size))
  have R11 := Lib.hid (hr11 0)
  have RA11 := Lib.hid (RA10.out.below b11)
  have z11 := b11.size
  clear hr11 b11 X10 O10 H10 B10
  go_wp2_with fail
  have PA := st_apply H11.out B11.out.size eC A11 c11 0 R11.out (by decide)
  rw [lv3] at PA
  refine PA.mono ?_; clear PA
  rintro x w12 ⟨rfl, hb12, h12, f12, hor12⟩
  have B12 := Lib.hid (B11.out.trans (f12.below hg (fun k hk => (by have := N10.out k hk; omega)) B11.out.size))
  have X12 := Lib.hid (f12.blk X11.out (by omega) (fun e => (by have := N10.out _ e.symm; omega)))
  have O12 := Lib.hid (f12.row O11.out fun k hk => (by obtain rfl : g3 = k := (by injection hk); exact ⟨by omega, fun e => (by have := N10.out _ e.symm; omega)⟩))
  have H12 := Lib.hid h12
  have RA12 := Lib.hid (RA11.out.ef H11.out (by decide) f12)
  clear h12 f12 hor12 X11 R11 H11 B11 O11 N10
  simp only
  go_wp2_with fail
  have PM := st_mark H12.out
  rw [show St.mk' ⟨[eC], none⟩ = zE from rfl, show (⟨[eC], none⟩ : St).mark.isSome = false from rfl] at PM
  refine PM.mono ?_; clear PM
  rintro x w13 ⟨A13, c13, rfl, hr13, b13⟩
  have b13' := alloc_below w13 (.cells (edCs zE A13 c13) 50)
  have bb := below_trans b13 b13'
  have X13 := Lib.hid (X12.out.later bb)
  have RA13 := Lib.hid (RA12.out.below bb)
  have O13 := Lib.hid (own_below O12.out bb)
  have H13 := Lib.hid (H12.out.below bb)
  have B13 := Lib.hid (B12.out.trans (bb.mono B12.out.size))
  clear hr13 b13 b13' bb X12 O12 H12 B12
  rw [show edV zE A13 c13 = .agg #[.int .i64 0, .int .i64 0, .int .i64 0, .slice A13 0 c13] from rfl]
  rw [show edCs zE A13 c13 = #[.int .i64 0, .int .i64 0, .int .i64 0, .slice A13 0 c13] from rfl] at X13 O13 H13 B13 RA13
  go_wp2_with fail
  have PD := st_done H13.out 0
  rw [show dnS ⟨[eC], none⟩ 0 = eC from rfl, show inS ⟨[eC], none⟩ 0 = true from rfl] at PD
  refine PD.mono ?_; clear PD
  rintro x w14 ⟨A14, c14, rfl, hr14, b14⟩
  have b14' := alloc_below w14 (.cells (edCs eC A14 c14) 50)
  have bb := below_trans b14 b14'
  have X14 := Lib.hid (X13.out.later bb)
  have RA14 := Lib.hid (RA13.out.below bb)
  have O14 := Lib.hid (own_below O13.out bb)
  have H14 := Lib.hid (H13.out.below bb)
  have B14 := Lib.hid (B13.out.trans (bb.mono B13.out.size))
  have D14 := Lib.hid (Blk.new w14 50 (edCs eC A14 c14))
  have R14 := Lib.hid ((hr14 0).below b14')
  clear hr14 b14 b14' bb X13 O13 H13 B13
  rw [edV_C]
  rw [show edCs eC A14 c14 = #[.int .i64 2, .int .i64 0, .int .i64 0, .slice A14 1 c14] from rfl] at X14 O14 H14 B14 D14 R14 RA14
  go_wp2_with fail
  have PN := st_names H14.out
  rw [lvNm] at PN
  refine PN.mono ?_; clear PN
  rintro x w15 ⟨v15, rfl, hrow, b15⟩
  have X15 := Lib.hid (X14.out.later b15)
  have RA15 := Lib.hid (RA14.out.below b15)
  have O15 := Lib.hid (own_below O14.out b15)
  have H15 := Lib.hid (H14.out.below b15)
  have B15 := Lib.hid (B14.out.trans (b15.mono B14.out.size))
  have D15 := Lib.hid (D14.out.later b15)
  have R15 := Lib.hid (R14.out.below b15)
  obtain ⟨nA, nc, rfl⟩ := own_form hrow
  obtain ⟨ng, ncap, hnv, -, -⟩ := hrow.form (by decide)
  injection hnv with hn1 hn2 hn3
  subst hn1
  have N15 := Lib.hid hrow
  simp only [List.length_singleton]
  clear hrow b15 X14 O14 H14 B14 D14 R14
  go_wp2_with fail
  refine (ed_put_no zE none 0 0 _ (RfAt.nil _ _ _) (by decide) lvZ).mono ?_
  rintro x w16 ⟨rfl, b16⟩
  have X16 := Lib.hid (X15.out.later b16)
  have RA16 := Lib.hid (RA15.out.below b16)
  have O16 := Lib.hid (own_below O15.out b16)
  have H16 := Lib.hid (H15.out.below b16)
  have B16 := Lib.hid (B15.out.trans (b16.mono B15.out.size))
  have D16 := Lib.hid (D15.out.later b16)
  have R16 := Lib.hid (R15.out.below b16)
  have N16 := Lib.hid (own_below N15.out b16)
  clear b16 X15 O15 H15 B15 D15 R15 N15
  go_wp2_with fail
  have CX := Lib.hid (show w16.cell? ⟨w4.heap.size, 0, none⟩ = some (.int .i64 eA.kind) ∧ w16.cell? ⟨w4.heap.size, 1, none⟩ = some (.int .i64 eA.ep) ∧ w16.cell? ⟨w4.heap.size, 2, none⟩ = some (.int .i64 eA.rd) ∧ w16.cell? ⟨w4.heap.size, 3, none⟩ = some (.slice A4 eA.refs.length c4) from (EdBox.of (show Blk w16 w4.heap.size 50 (edCs eA A4 c4) from X16.out)).2)
  have CD := Lib.hid (show w16.cell? ⟨w14.heap.size, 0, none⟩ = some (.int .i64 eC.kind) ∧ w16.cell? ⟨w14.heap.size, 1, none⟩ = some (.int .i64 eC.ep) ∧ w16.cell? ⟨w14.heap.size, 2, none⟩ = some (.int .i64 eC.rd) ∧ w16.cell? ⟨w14.heap.size, 3, none⟩ = some (.slice A14 eC.refs.length c14) from (EdBox.of (show Blk w16 w14.heap.size 50 (edCs eC A14 c14) from D16.out)).2)
  have CN := Lib.hid (show w16.cell? ⟨ng, 0, none⟩ = some (.string ⟨#[99]⟩) from N16.out.cellAt 0 (by decide))
  have SA := Lib.hid (eqE_yes (rfl : eA = eA))
  have SC := Lib.hid (eqE_yes (rfl : eC = eC))
  simp only [List.append_eq, List.cons_append, List.nil_append]
  refine wp_region_J RT [] (n := 76) (by kernel_rfl) rfl ?_
  refine batchJ RT.refl [0, 1, 2, 3, 4, 5, 6, 7, 8, 9, 10, 11, 12] (fuel := 63) rfl (by kernel_rfl) (by kernel_rfl) (fun _ _ d _ _ h => by cases d <;> exact h) ?_
  (repeat (first | ((with_reducible apply wq0); rfl; rfl; rfl; intro K hK; go_big_quiet_op; refine hK _ ?_; clear hK K) | ((with_reducible apply wq1); rfl; rfl; rfl; rfl; rfl; rfl; intro K hK; go_big_quiet_op; refine hK _ ?_; clear hK K) | ((with_reducible apply wqs); rfl; rfl; rfl; rfl; rfl; rfl; simp only [Act.put, List.setIfInBounds_toArray, List.set_cons_zero, List.set_cons_succ]) | ((with_reducible apply wqu); rfl; rfl; rfl; rfl; rfl; (first | simp only [same, Act.put, List.setIfInBounds_toArray, List.set_cons_zero, List.set_cons_succ] | simp only [Act.put, List.setIfInBounds_toArray, List.set_cons_zero, List.set_cons_succ]))))
  refine wqIdx_conv rfl rfl rfl rfl (fun W hW => run_convB W Try.underlying30 Try.underlying5 Try.underlying9 c3 (own_bytes_reads (own_below O16.out (of_rb hW)))) ?_; simp only [Act.put, List.setIfInBounds_toArray, List.set_cons_zero, List.set_cons_succ]
  (repeat (first | ((with_reducible apply wq0); rfl; rfl; rfl; intro K hK; go_big_quiet_op; refine hK _ ?_; clear hK K) | ((with_reducible apply wq1); rfl; rfl; rfl; rfl; rfl; rfl; intro K hK; go_big_quiet_op; refine hK _ ?_; clear hK K) | ((with_reducible apply wqs); rfl; rfl; rfl; rfl; rfl; rfl; simp only [Act.put, List.setIfInBounds_toArray, List.set_cons_zero, List.set_cons_succ]) | ((with_reducible apply wqu); rfl; rfl; rfl; rfl; rfl; (first | simp only [same, Act.put, List.setIfInBounds_toArray, List.set_cons_zero, List.set_cons_succ] | simp only [Act.put, List.setIfInBounds_toArray, List.set_cons_zero, List.set_cons_succ]))))
  refine wqIdx_load rfl rfl rfl rfl (fun W hW => load_ed_at _ eA A4 c4 W (keep_c hW CX.out.1) (keep_c hW CX.out.2.1) (keep_c hW CX.out.2.2.1) (keep_c hW CX.out.2.2.2)) ?_
  simp only [Act.put, List.setIfInBounds_toArray, List.set_cons_zero, List.set_cons_succ]
  refine wqIdx_nil ?_
  refine wpAnyJ_sole (i := 13) rfl (by kernel_rfl) (fun K hK => ?_); go_simp
  refine (one_any 1 0 2 ⟨#[97]⟩ w16.drew).mono ?_; rintro x w17 ⟨A17, c17, rfl, hr17, b17⟩
  refine hK _ _ ⟨fun _ => b17, trivial⟩ ?_
  clear hK K
  have b17' := Below.of_drew0 b17
  have PS := Lib.hid (ed_same_any eA eA A4 A17 c4 c17 0 0 w17 (RA16.out.below b17') (hr17 0) (by decide) (by decide))
  have CD17 := Lib.hid (And.intro CX.out CD.out)
  have B17 := Lib.hid (B16.out.trans (b17'.mono B16.out.size))
  have H17 := Lib.hid (H16.out.below b17')
  have RA17 := Lib.hid (RA16.out.below b17')
  have R17 := Lib.hid (R16.out.below b17')
  have X17 := Lib.hid (X16.out.later b17')
  have D17 := Lib.hid (D16.out.later b17')
  have N17 := Lib.hid (own_below N16.out b17')
  clear b17 b17' hr17 CX CD CN CD17
  refine wpAnyJ_sole (i := 14) rfl (by kernel_rfl) (fun K hK => ?_); go_simp
  refine PS.out.mono ?_; rintro x w18 ⟨rfl, b18⟩
  rw [SA.out]
  refine hK _ _ ⟨fun _ => b18, trivial⟩ ?_
  clear hK K PS
  have CD := Lib.hid (show w18.cell? ⟨w14.heap.size, 0, none⟩ = some (.int .i64 eC.kind) ∧ w18.cell? ⟨w14.heap.size, 1, none⟩ = some (.int .i64 eC.ep) ∧ w18.cell? ⟨w14.heap.size, 2, none⟩ = some (.int .i64 eC.rd) ∧ w18.cell? ⟨w14.heap.size, 3, none⟩ = some (.slice A14 eC.refs.length c14) from (EdBox.of (show Blk w18 w14.heap.size 50 (edCs eC A14 c14) from D17.out.later b18)).2)
  have B18 := Lib.hid (B17.out.trans (b18.mono B17.out.size))
  have H18 := Lib.hid (H17.out.below b18)
  have RA18 := Lib.hid (RA17.out.below b18)
  have R18 := Lib.hid (R17.out.below b18)
  have X18 := Lib.hid (X17.out.later b18)
  have N18 := Lib.hid (own_below N17.out b18)
  clear b18
  refine batchJ RT.refl [15, 16, 17, 18, 19, 20, 21, 22, 23, 24, 25, 26, 27, 28, 29, 30, 31, 32, 33, 34, 35, 36, 37, 38, 39, 40] (fuel := 35) rfl (by kernel_rfl) (by kernel_rfl) (fun _ _ d _ _ h => by cases d <;> exact h) ?_
  (repeat (first | ((with_reducible apply wq0); rfl; rfl; rfl; intro K hK; go_big_quiet_op; refine hK _ ?_; clear hK K) | ((with_reducible apply wq1); rfl; rfl; rfl; rfl; rfl; rfl; intro K hK; go_big_quiet_op; refine hK _ ?_; clear hK K) | ((with_reducible apply wqs); rfl; rfl; rfl; rfl; rfl; rfl; simp only [Act.put, List.setIfInBounds_toArray, List.set_cons_zero, List.set_cons_succ]) | ((with_reducible apply wqu); rfl; rfl; rfl; rfl; rfl; (first | simp only [same, Act.put, List.setIfInBounds_toArray, List.set_cons_zero, List.set_cons_succ] | simp only [Act.put, List.setIfInBounds_toArray, List.set_cons_zero, List.set_cons_succ]))))
  refine wqIdx_load rfl rfl rfl rfl (fun W hW => load_ed_at _ eC A14 c14 W (keep_c hW CD.out.1) (keep_c hW CD.out.2.1) (keep_c hW CD.out.2.2.1) (keep_c hW CD.out.2.2.2)) ?_
  simp only [Act.put, List.setIfInBounds_toArray, List.set_cons_zero, List.set_cons_succ]
  refine wqIdx_nil ?_
  refine wpAnyJ_sole (i := 41) rfl (by kernel_rfl) (fun K hK => ?_); go_simp
  refine (one_any 2 0 0 ⟨#[99]⟩ w18).mono ?_; rintro x w19 ⟨A19, c19, rfl, hr19, b19⟩
  refine hK _ _ ⟨fun _ => b19, trivial⟩ ?_
  clear hK K
  have PS := Lib.hid (ed_same_any eC eC A14 A19 c14 c19 0 0 w19 (R18.out.below b19) (hr19 0) (by decide) (by decide))
  have B19 := Lib.hid (B18.out.trans (b19.mono B18.out.size))
  have H19 := Lib.hid (H18.out.below b19)
  have RA19 := Lib.hid (RA18.out.below b19)
  have X19 := Lib.hid (X18.out.later b19)
  have N19 := Lib.hid (own_below N18.out b19)
  clear b19 hr19 CD
  refine wpAnyJ_sole (i := 42) rfl (by kernel_rfl) (fun K hK => ?_); go_simp
  refine PS.out.mono ?_; rintro x w20 ⟨rfl, b20⟩
  rw [SC.out]
  refine hK _ _ ⟨fun _ => b20, trivial⟩ ?_
  clear hK K PS
  have B20 := Lib.hid (B19.out.trans (b20.mono B19.out.size))
  have H20 := Lib.hid (H19.out.below b20)
  have RA20 := Lib.hid (RA19.out.below b20)
  have X20 := Lib.hid (X19.out.later b20)
  have N20 := Lib.hid (own_below N19.out b20)
  clear b20
  refine batchJ RT.refl [43, 44, 45] (fuel := 30) rfl (by kernel_rfl) (by kernel_rfl) (fun _ _ d _ _ h => by cases d <;> exact h) ?_
  (repeat (first | ((with_reducible apply wq0); rfl; rfl; rfl; intro K hK; go_big_quiet_op; refine hK _ ?_; clear hK K) | ((with_reducible apply wq1); rfl; rfl; rfl; rfl; rfl; rfl; intro K hK; go_big_quiet_op; refine hK _ ?_; clear hK K) | ((with_reducible apply wqs); rfl; rfl; rfl; rfl; rfl; rfl; simp only [Act.put, List.setIfInBounds_toArray, List.set_cons_zero, List.set_cons_succ]) | ((with_reducible apply wqu); rfl; rfl; rfl; rfl; rfl; (first | simp only [same, Act.put, List.setIfInBounds_toArray, List.set_cons_zero, List.set_cons_succ] | simp only [Act.put, List.setIfInBounds_toArray, List.set_cons_zero, List.set_cons_succ]))))
  refine wqIdx_nil ?_
  refine wpAnyJ_sole (i := 46) rfl (by kernel_rfl) (fun K hK => ?_); go_simp
  refine (st_next H20.out).mono ?_; rintro x w' ⟨rfl, rfl⟩
  refine hK _ _ ⟨fun _ => RB.refl _, trivial⟩ ?_
  clear hK K
  refine batchJ RT.refl [47, 48, 49, 50] (fuel := 25) rfl (by kernel_rfl) (by kernel_rfl) (fun _ _ d _ _ h => by cases d <;> exact h) ?_
  (repeat (first | ((with_reducible apply wq0); rfl; rfl; rfl; intro K hK; go_big_quiet_op; refine hK _ ?_; clear hK K) | ((with_reducible apply wq1); rfl; rfl; rfl; rfl; rfl; rfl; intro K hK; go_big_quiet_op; refine hK _ ?_; clear hK K) | ((with_reducible apply wqs); rfl; rfl; rfl; rfl; rfl; rfl; simp only [Act.put, List.setIfInBounds_toArray, List.set_cons_zero, List.set_cons_succ]) | ((with_reducible apply wqu); rfl; rfl; rfl; rfl; rfl; (first | simp only [same, Act.put, List.setIfInBounds_toArray, List.set_cons_zero, List.set_cons_succ] | simp only [Act.put, List.setIfInBounds_toArray, List.set_cons_zero, List.set_cons_succ]))))
  refine wqIdx_nil ?_
  refine wpAnyJ_sole (i := 51) rfl (by kernel_rfl) (fun K hK => ?_); go_simp
  refine (st_edits H20.out).mono ?_; rintro x w21 ⟨A21, c21, xs21, rfl, -, -, b21⟩
  refine hK _ _ ⟨fun _ => b21, trivial⟩ ?_
  clear hK K
  rw [show (St.edits ⟨[eC], none⟩).length = 1 from rfl]
  have B21 := Lib.hid (B20.out.trans (b21.mono B20.out.size))
  have RA21 := Lib.hid (RA20.out.below b21)
  have CX := Lib.hid (show w21.cell? ⟨w4.heap.size, 0, none⟩ = some (.int .i64 eA.kind) ∧ w21.cell? ⟨w4.heap.size, 1, none⟩ = some (.int .i64 eA.ep) ∧ w21.cell? ⟨w4.heap.size, 2, none⟩ = some (.int .i64 eA.rd) ∧ w21.cell? ⟨w4.heap.size, 3, none⟩ = some (.slice A4 eA.refs.length c4) from (EdBox.of (show Blk w21 w4.heap.size 50 (edCs eA A4 c4) from X20.out.later b21)).2)
  have CN := Lib.hid (show w21.cell? ⟨ng, 0, none⟩ = some (.string ⟨#[99]⟩) from (own_below N20.out b21).cellAt 0 (by decide))
  clear b21
  refine batchJ RT.refl [52, 53, 54, 55, 56, 57, 58, 59, 60, 61, 62, 63, 64, 65, 66, 67, 68, 69, 70, 71] (fuel := 4) rfl (by kernel_rfl) (by kernel_rfl) (fun _ _ d _ _ h => by cases d <;> exact h) ?_
  (repeat (first | ((with_reducible apply wq0); rfl; rfl; rfl; intro K hK; go_big_quiet_op; refine hK _ ?_; clear hK K) | ((with_reducible apply wq1); rfl; rfl; rfl; rfl; rfl; rfl; intro K hK; go_big_quiet_op; refine hK _ ?_; clear hK K) | ((with_reducible apply wqs); rfl; rfl; rfl; rfl; rfl; rfl; simp only [Act.put, List.setIfInBounds_toArray, List.set_cons_zero, List.set_cons_succ]) | ((with_reducible apply wqu); rfl; rfl; rfl; rfl; rfl; (first | simp only [same, Act.put, List.setIfInBounds_toArray, List.set_cons_zero, List.set_cons_succ] | simp only [Act.put, List.setIfInBounds_toArray, List.set_cons_zero, List.set_cons_succ]))))
  refine wqIdx_load rfl rfl rfl rfl (fun W hW => run_load1 (fun _ => by kernel_rfl) (keep_c hW (CN.out))) ?_; simp only [Act.put, List.setIfInBounds_toArray, List.set_cons_zero, List.set_cons_succ]
  (repeat (first | ((with_reducible apply wq0); rfl; rfl; rfl; intro K hK; go_big_quiet_op; refine hK _ ?_; clear hK K) | ((with_reducible apply wq1); rfl; rfl; rfl; rfl; rfl; rfl; intro K hK; go_big_quiet_op; refine hK _ ?_; clear hK K) | ((with_reducible apply wqs); rfl; rfl; rfl; rfl; rfl; rfl; simp only [Act.put, List.setIfInBounds_toArray, List.set_cons_zero, List.set_cons_succ]) | ((with_reducible apply wqu); rfl; rfl; rfl; rfl; rfl; (first | simp only [same, Act.put, List.setIfInBounds_toArray, List.set_cons_zero, List.set_cons_succ] | simp only [Act.put, List.setIfInBounds_toArray, List.set_cons_zero, List.set_cons_succ]))))
  refine wqIdx_load rfl rfl rfl rfl (fun W hW => load_ed_at _ eA A4 c4 W (keep_c hW CX.out.1) (keep_c hW CX.out.2.1) (keep_c hW CX.out.2.2.1) (keep_c hW CX.out.2.2.2)) ?_
  simp only [Act.put, List.setIfInBounds_toArray, List.set_cons_zero, List.set_cons_succ]
  refine wqIdx_nil ?_
  refine wpAnyJ_sole (i := 72) rfl (by kernel_rfl) (fun K hK => ?_); go_simp
  have PC := ed_check_any eA A4 c4 0 w21 RA21.out (by decide)
  rw [edE_ok lvA] at PC
  refine PC.mono ?_; clear PC; rintro x w22 ⟨rfl, b22⟩
  refine hK _ _ ⟨fun _ => b22, trivial⟩ ?_
  clear hK K
  have B22 := Lib.hid (B21.out.trans (b22.mono B21.out.size))
  clear b22
  refine batchJ RT.refl [73, 74, 75] (fuel := 0) rfl (by kernel_rfl) (by kernel_rfl) (fun _ _ d _ _ h => by cases d <;> exact h) ?_
  (repeat (first | ((with_reducible apply wq0); rfl; rfl; rfl; intro K hK; go_big_quiet_op; refine hK _ ?_; clear hK K) | ((with_reducible apply wq1); rfl; rfl; rfl; rfl; rfl; rfl; intro K hK; go_big_quiet_op; refine hK _ ?_; clear hK K) | ((with_reducible apply wqs); rfl; rfl; rfl; rfl; rfl; rfl; simp only [Act.put, List.setIfInBounds_toArray, List.set_cons_zero, List.set_cons_succ]) | ((with_reducible apply wqu); rfl; rfl; rfl; rfl; rfl; (first | simp only [same, Act.put, List.setIfInBounds_toArray, List.set_cons_zero, List.set_cons_succ] | simp only [Act.put, List.setIfInBounds_toArray, List.set_cons_zero, List.set_cons_succ]))))
  refine wqIdx_nil ?_
  refine wpAnyJ_done (by kernel_rfl) ?_ _
  go_wp2
  go_ret
  exact ⟨rfl, B22.out⟩
end Go.Proofs.Ytfmmdnjoichifaa
