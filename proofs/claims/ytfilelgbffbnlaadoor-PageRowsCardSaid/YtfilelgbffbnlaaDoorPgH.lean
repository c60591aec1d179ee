/- Contracts of package page: Row. -/
import Derived.Test.YtfilelgbffbnlaaDoorPgG
namespace Go.Proofs.YtfilelgbffbnlaaDoor
open Go.RowKit

def RowNo (w : World) (n : Int) (e : Ending) (w' : World) : Prop := e = .returned (.tuple #[.slice none 0 0, .int .i64 n]) ∧ Below w.heap.size w w'
set_option maxHeartbeats 1000000 in
theorem prow_a2 (tag : Int) (A : Option Addr) (b : List UInt8) (c : Nat) (w : World) (hb : b.length ≤ 9223372036854775807) (hL1 : 1 < b.length) (hE : okTag tag = false) :
    Calls Tryd.prog 13 #[.int .i64 tag, .slice A b.length c] w (RowNo w 1) := by
  obtain ⟨L, hL⟩ : ∃ L, L = b.length := ⟨_, rfl⟩
  have hl : lastM b = (b.length - 1) / 42 := rfl
  rw [← hL] at hL1 hl hb ⊢
  generalize lastM b = la at hl
  clear hL
  have e6 : ((L : Int) - 1) / 42 = (la : Int) := by omega
  clear hl
  go_enter Tryd.func13, Tryd.ntmps13
  go_wp2_with fail
  refine (mayTag_any tag _).mono ?_; rintro e w' ⟨rfl, rfl⟩
  rw [hE]
  go_wp2
  go_ret2
  exact ⟨rfl, Below.refl _ _⟩
set_option maxHeartbeats 1000000 in
theorem prow_b2 (tag : Int) (A : Option Addr) (b : List UInt8) (c : Nat) (w : World) (hb : b.length ≤ 9223372036854775807) (hL1 : 1 < b.length) (hE : okTag tag = true) (hT : ¬ tag ≤ 4611686018427387903 - (lastM b : Int)) :
    Calls Tryd.prog 13 #[.int .i64 tag, .slice A b.length c] w (RowNo w 1) := by
  obtain ⟨L, hL⟩ : ∃ L, L = b.length := ⟨_, rfl⟩
  have hl : lastM b = (b.length - 1) / 42 := rfl
  rw [← hL] at hL1 hl hb ⊢
  generalize lastM b = la at hl hT
  have d1 : decide (4611686018427387903 - (la : Int) < tag) = true := by rw [decide_eq_true_eq]; omega
  clear hL hT
  have e6 : ((L : Int) - 1) / 42 = (la : Int) := by omega
  clear hl
  go_enter Tryd.func13, Tryd.ntmps13
  go_wp2_with fail
  refine (mayTag_any tag _).mono ?_; rintro e w' ⟨rfl, rfl⟩
  rw [hE]
  go_wp2
  go_ret2
  exact ⟨rfl, Below.refl _ _⟩
set_option maxHeartbeats 1000000 in
theorem prow_c2 (tag : Int) (A : Option Addr) (b : List UInt8) (c : Nat) (w : World) (hb : b.length ≤ 9223372036854775807) (hL1 : 1 < b.length) (hE : okTag tag = true) (hT : tag ≤ 4611686018427387903 - (lastM b : Int)) (h6 : 65536 < b.length) :
    Calls Tryd.prog 13 #[.int .i64 tag, .slice A b.length c] w (RowNo w 3) := by
  obtain ⟨L, hL⟩ : ∃ L, L = b.length := ⟨_, rfl⟩
  have hl : lastM b = (b.length - 1) / 42 := rfl
  rw [← hL] at hL1 hl hb ⊢
  rw [← hL] at h6
  generalize lastM b = la at hl hT
  have d1 : decide (4611686018427387903 - (la : Int) < tag) = false := by rw [decide_eq_false_iff_not]; omega
  have d2 : decide ((65536 : Int) < (L : Int)) = true := by rw [decide_eq_true_eq]; omega
  clear hL hT h6
  have e6 : ((L : Int) - 1) / 42 = (la : Int) := by omega
  clear hl
  go_enter Tryd.func13, Tryd.ntmps13
  go_wp2_with fail
  refine (mayTag_any tag _).mono ?_; rintro e w' ⟨rfl, rfl⟩
  rw [hE]
  go_wp2
  go_ret2
  exact ⟨rfl, Below.refl _ _⟩
set_option maxHeartbeats 1000000 in
theorem prow_a1 (tag : Int) (A : Option Addr) (b : List UInt8) (c : Nat) (w : World) (hb : b.length ≤ 9223372036854775807) (hL1 : b.length ≤ 1) (hE : okTag tag = false) :
    Calls Tryd.prog 13 #[.int .i64 tag, .slice A b.length c] w (RowNo w 1) := by
  obtain ⟨L, hL⟩ : ∃ L, L = b.length := ⟨_, rfl⟩
  rw [← hL] at hL1 hb ⊢
  clear hL
  go_enter Tryd.func13, Tryd.ntmps13
  go_wp2_with fail
  refine (mayTag_any tag _).mono ?_; rintro e w' ⟨rfl, rfl⟩
  rw [hE]
  go_wp2
  go_ret2
  exact ⟨rfl, Below.refl _ _⟩
set_option maxRecDepth 100000 in
set_option maxHeartbeats 8000000 in
theorem prow_ok2 (tag : Int) (A : Option Addr) (h : Nat) (b : List UInt8) (c : Nat) (w : World) (hs : SlB w h A b) (hbc : b.length ≤ c) (hc : c ≤ maxLen) (hh : HalvesAt w) (hL1 : 1 < b.length) (hL2 : b.length ≤ 5000) (hE : okTag tag = true) (hT : tag ≤ 4611686018427387903 - (lastM b : Int)) :
    Calls Tryd.prog 13 #[.int .i64 tag, .slice A b.length c] w fun e w' => ∃ v, e = .returned (.tuple #[v, .int .i64 0]) ∧ Pgs w' w.heap.size v (rowM tag.toNat b) ∧ Below w.heap.size w w' := by
  obtain ⟨L, hL⟩ : ∃ L, L = b.length := ⟨_, rfl⟩
  have hl : lastM b = (b.length - 1) / 42 := rfl
  have hti := (okTag_iff tag).1 hE
  obtain ⟨ad, hA, hcell⟩ := hs.cell (k := 0) (by omega)
  subst hA
  obtain ⟨bk, off, sp⟩ := ad
  obtain rfl : sp = none := by simpa [Addr.add] using World.cell?_spot hcell
  have hpl := fun k => pieceM_length b k
  have hps : ∀ k, k < (L + 41) / 42 → SlB w h (some ⟨bk, off + 42 * k, none⟩) (pieceM b k) := fun k hk => by
    have := (hs.drop (k := 42 * k) hbc).take 42
    unfold cutA at this
    rw [if_neg (by omega), Option.map_some, Addr.add_lit] at this
    exact this
  rw [← hL] at hL1 hL2 hl hbc hpl ⊢
  have hrl := rowM_length tag.toNat b
  have hrg := rowM_get tag.toNat b
  have hho : ∀ k, holdM b k = (if k = lastM b then 0 else 1) :: pieceM b k := fun k => rfl
  have hhl := holdM_length b
  generalize lastM b = la at hl hT hrl hrg hho
  have HHO := Lib.hid hho
  have HHL := Lib.hid hhl
  have HRL := Lib.hid hrl
  have HRG := Lib.hid hrg
  have HPS := Lib.hid hps
  have HPL := Lib.hid hpl
  have HH := Lib.hid hh
  have HTI := Lib.hid hti
  have HTL := Lib.hid (show tag + (la : Int) ≤ 4611686018427387903 by omega)
  have e6 : ((L : Int) - 1) / 42 = (la : Int) := by omega
  have d1 : decide (4611686018427387903 - (la : Int) < tag) = false := by rw [decide_eq_false_iff_not]; omega
  have d2 : decide ((65536 : Int) < (L : Int)) = false := by rw [decide_eq_false_iff_not]; omega
  have hnp : (L + 41) / 42 = la + 1 := by omega
  unfold maxLen at hc
  clear hs hcell hL hho hhl hrl hrg hps hpl hh hti hl hT
  go_enter Tryd.func13, Tryd.ntmps13
  go_wp2_with fail
  refine (mayTag_any tag _).mono ?_; rintro e w' ⟨rfl, rfl⟩
  rw [hE]
  go_wp2_with fail
  refine (chunk_any _ L c w).mono ?_; rintro e w1 ⟨rfl, k0, k1, hsz, b1⟩
  have P2 := Lib.hid (collect_chunks _ bk off L c (fun _ => rfl) hbc (by omega) hc w1 _ _ k0 k1)
  have B1 := Lib.hid b1
  clear k0 k1 hsz b1
  go_wp2_with fail
  refine P2.out.mono ?_; rintro e w2 ⟨v2, rfl, o2, b2⟩
  rw [hnp] at o2
  obtain ⟨gp, cp, rfl⟩ := ownsRow_succ o2
  have B2 := Lib.hid (below_trans B1.out b2)
  have O2 := Lib.hid o2
  clear b2 o2 P2
  have d3 : ((la : Int) + 1 == 0) = false := by rw [beq_eq_false_iff_ne]; omega
  have HPC := Lib.hid (fun (k : Nat) (hk : k < la + 1) => (show ((chA bk off L).map encSl)[k]? = some (.slice (some ⟨bk, off + 42 * k, none⟩) (pieceM b k).length (pieceM b k).length) by
    rw [List.getElem?_map, chA_get bk off L k (by omega), HPL.out k]; rfl))
  have HPB := Lib.hid (fun (k : Nat) (hk : k < la + 1) => (HPS.out k (by omega)).below B2.out fun h => h)
  have HH2 := Lib.hid (HH.out.below B2.out HH.out.pos)
  clear e6 d1 d2
  go_wp2_with fail
  go_loopw [8, 42] (fun v iv wr => ∃ k : Nat, k ≤ la + 1 ∧ iv = .int .i64 (k : Int) ∧ Pgs wr w2.heap.size v ((rowM tag.toNat b).take k) ∧ Below w2.heap.size w2 wr) (fun _ iv _ => la + 1 - (intOf iv).toNat)
  case atStart => exact ⟨0, Nat.zero_le _, rfl, by rw [List.take_zero]; exact Pgs.nil _ _, Below.refl _ _⟩
  case round =>
    obtain ⟨k, hk, rfl, hp, hb⟩ := hrel
    have HP := Lib.hid hp
    have HB := Lib.hid hb
    clear hp hb
    by_cases hkl : k < la + 1
    · have d4 : decide ((k : Int) < (la : Int) + 1) = true := by rw [decide_eq_true_eq]; omega
      have q0 := (World.cell?_of_block (a := ⟨gp, k, none⟩) (HB.out.block gp (by have := O2.out; exact (World.ownsRow.lt this gp rfl).2))).trans (own_cell O2.out (HPC.out k hkl))
      have hpb := (HPB.out k hkl).below HB.out fun h => h
      have HPBk := Lib.hid hpb
      by_cases hkla : k = la
      · have d5 : ((k : Int) == (la : Int)) = true := by rw [beq_iff_eq]; omega
        have htk1 : 1 ≤ tag := HTI.out.1
        have htk2 : tag + (k : Int) ≤ 4611686018427387903 := by have := HTL.out; omega
        have hhd : holdM b k = 0 :: pieceM b k := by rw [HHO.out, if_pos hkla]
        have hlen : (holdM b k).length = 1 + (pieceM b k).length := by rw [hhd, List.length_cons, Nat.add_comm]
        have hpcl : (pieceM b k).length ≤ 42 := by rw [HPL.out]; omega
        have hrow : (rowM tag.toNat b).take (k + 1) = (rowM tag.toNat b).take k ++ [pageM (tag + (k : Int)).toNat (holdM b k)] := by
          rw [List.take_add_one, HRG.out k hkl, show (tag + (k : Int)).toNat = tag.toNat + k by omega]
          rfl
        have hpgl := pageM_length (tag + (k : Int)).toNat (holdM b k) (HHL.out k)
        have hh43 := HHL.out k
        obtain ⟨pc, hpc⟩ : ∃ pc, pc = pieceM b k := ⟨_, rfl⟩
        obtain ⟨hd, hhe⟩ : ∃ hd, hd = holdM b k := ⟨_, rfl⟩
        have HPBk := Lib.hid (show SlB wr h (some ⟨bk, off + 42 * k, none⟩) pc by rw [hpc]; exact hpb)
        rw [← hpc, ← hhe] at hlen hhd
        rw [← hpc] at hpcl q0
        rw [← hhe] at hrow hpgl hh43
        clear hpc hhe hpb hkla
        have PP := Lib.hid (fun (W : World) (A9 : Option Addr) (g9 c9 : Nat) (s9 : SlB W g9 A9 hd) (q9 : hd.length ≤ c9) (r9 : c9 ≤ maxLen) (h9 : HalvesAt W) => pput_ok (tag + (k : Int)) A9 g9 hd c9 W ((okTag_iff _).2 ⟨by omega, htk2⟩) s9 hh43 q9 r9 h9)
        generalize pageM (tag + (k : Int)).toNat hd = pg at hrow hpgl PP
        have HROW := Lib.hid hrow
        have HPGL := Lib.hid hpgl
        have HLEN := Lib.hid hlen
        have HHD := Lib.hid hhd
        clear hrow hpgl hlen hhd
        have HF := Lib.hid (one_own wr 0 0 rfl 5)
        have HFB := Lib.hid (alloc_below wr (.cells #[.int .u8 0] 5))
        have HRF := Lib.hid (SlB.reads (n := pc.length) (HPBk.out.below HFB.out fun h => h) rfl)
        go_wp2_with (at_builtin; (refine wpList_appB _ rfl (.tmp 57) (.tmp 58) _ rfl Tryd.underlying22 info_u8 HF.out HRF.out pc.length rfl rfl (by omega) (Nat.le_trans (by simp) HFB.out.size) ?_); intro A4 c4 w4 o4 gr4; have O4 := Lib.hid o4; have B4 := Lib.hid (show Below wr.heap.size wr w4 from HFB.out.grown (Grew.by_ gr4) HFB.out.size fun i hi => (World.ownsRow.lt HF.out i hi).1); clear o4 gr4)
        have o4 := O4.out
        rw [show [0] ++ pc = hd from HHD.out.symm] at o4
        obtain ⟨g4, -, s4, -⟩ := SlB.of_own (l := hd) (by rw [← HLEN.out] at o4; exact o4)
        obtain ⟨q41, q42⟩ := own_cap o4
        have P5 := Lib.hid (PP.out w4 A4 g4 c4 s4 (by rw [HLEN.out]; exact q41) q42 (HH2.out.below (below_trans HB.out B4.out) HH2.out.pos))
        rw [HLEN.out] at P5
        clear o4 s4 q41 q42
        go_wp2_with fail
        refine P5.out.mono ?_; rintro e w5 ⟨v5, rfl, o5, b5⟩
        obtain ⟨A5, c5, rfl⟩ := own_form o5
        have O5 := Lib.hid o5
        have B5 := Lib.hid (below_trans B4.out b5)
        clear o5 b5
        obtain ⟨xs, x1, x2, x3⟩ := HP.out.below B5.out
        have htl : (List.take k (rowM tag.toNat b)).length = k := by rw [List.length_take, HRL.out]; omega
        have X1 := Lib.hid x1
        have X2 := Lib.hid x2
        have X3 := Lib.hid x3
        have x2' := x2
        rw [htl] at x2'
        have X2A := Lib.hid (World.ownsRow.alloc x2' (.cells #[.slice A5 pg.length c5] 22))
        have HTL2 := Lib.hid htl
        clear x1 x2 x3 x2' htl
        go_wp2_with (at_builtin; (refine wpList_appS (ys := [(A5, pg.length, c5)]) _ rfl (.tmp 63) (.tmp 65) _ rfl Tryd.underlying33 info_bs X2A.out (reads_cell1 w5 _ _) 1 rfl rfl (by omega) (by rw [World.size_alloc]; have := HB.out.size; have := B5.out.size; omega) ?_); intro A6 c6 w6 o6 gr6; have O6 := Lib.hid o6; have G6 := Lib.hid (Grew.by_ gr6); clear o6 gr6)
        refine ⟨⟨k + 1, by omega, by go_num, ?_, ?_⟩, by simp [intOf]; omega⟩
        · rw [HROW.out]
          exact Pgs.push X1.out X2.out X3.out (x := (A5, pg.length, c5)) ⟨rfl, own_mono O5.out (Nat.zero_le _)⟩ (by rw [HTL2.out]; exact O6.out) G6.out
        · exact (((below_trans HB.out B5.out).alloc (Nat.le_trans HB.out.size B5.out.size) _).grown G6.out (by rw [World.size_alloc]; have := HB.out.size; have := B5.out.size; omega) fun i hi => (World.ownsRow.lt X2.out i hi).1)
      · have d5 : ((k : Int) == (la : Int)) = false := by rw [beq_eq_false_iff_ne]; omega
        have htk1 : 1 ≤ tag := HTI.out.1
        have htk2 : tag + (k : Int) ≤ 4611686018427387903 := by have := HTL.out; omega
        have hhd : holdM b k = 1 :: pieceM b k := by rw [HHO.out, if_neg hkla]
        have hlen : (holdM b k).length = 1 + (pieceM b k).length := by rw [hhd, List.length_cons, Nat.add_comm]
        have hpcl : (pieceM b k).length ≤ 42 := by rw [HPL.out]; omega
        have hrow : (rowM tag.toNat b).take (k + 1) = (rowM tag.toNat b).take k ++ [pageM (tag + (k : Int)).toNat (holdM b k)] := by
          rw [List.take_add_one, HRG.out k hkl, show (tag + (k : Int)).toNat = tag.toNat + k by omega]
          rfl
        have hpgl := pageM_length (tag + (k : Int)).toNat (holdM b k) (HHL.out k)
        have hh43 := HHL.out k
        obtain ⟨pc, hpc⟩ : ∃ pc, pc = pieceM b k := ⟨_, rfl⟩
        obtain ⟨hd, hhe⟩ : ∃ hd, hd = holdM b k := ⟨_, rfl⟩
        have HPBk := Lib.hid (show SlB wr h (some ⟨bk, off + 42 * k, none⟩) pc by rw [hpc]; exact hpb)
        rw [← hpc, ← hhe] at hlen hhd
        rw [← hpc] at hpcl q0
        rw [← hhe] at hrow hpgl hh43
        clear hpc hhe hpb hkla
        have PP := Lib.hid (fun (W : World) (A9 : Option Addr) (g9 c9 : Nat) (s9 : SlB W g9 A9 hd) (q9 : hd.length ≤ c9) (r9 : c9 ≤ maxLen) (h9 : HalvesAt W) => pput_ok (tag + (k : Int)) A9 g9 hd c9 W ((okTag_iff _).2 ⟨by omega, htk2⟩) s9 hh43 q9 r9 h9)
        generalize pageM (tag + (k : Int)).toNat hd = pg at hrow hpgl PP
        have HROW := Lib.hid hrow
        have HPGL := Lib.hid hpgl
        have HLEN := Lib.hid hlen
        have HHD := Lib.hid hhd
        clear hrow hpgl hlen hhd
        have HF := Lib.hid (one_own wr 1 1 rfl 5)
        have HFB := Lib.hid (alloc_below wr (.cells #[.int .u8 1] 5))
        have HRF := Lib.hid (SlB.reads (n := pc.length) (HPBk.out.below HFB.out fun h => h) rfl)
        go_wp2_with (at_builtin; (refine wpList_appB _ rfl (.tmp 57) (.tmp 58) _ rfl Tryd.underlying22 info_u8 HF.out HRF.out pc.length rfl rfl (by omega) (Nat.le_trans (by simp) HFB.out.size) ?_); intro A4 c4 w4 o4 gr4; have O4 := Lib.hid o4; have B4 := Lib.hid (show Below wr.heap.size wr w4 from HFB.out.grown (Grew.by_ gr4) HFB.out.size fun i hi => (World.ownsRow.lt HF.out i hi).1); clear o4 gr4)
        have o4 := O4.out
        rw [show [1] ++ pc = hd from HHD.out.symm] at o4
        obtain ⟨g4, -, s4, -⟩ := SlB.of_own (l := hd) (by rw [← HLEN.out] at o4; exact o4)
        obtain ⟨q41, q42⟩ := own_cap o4
        have P5 := Lib.hid (PP.out w4 A4 g4 c4 s4 (by rw [HLEN.out]; exact q41) q42 (HH2.out.below (below_trans HB.out B4.out) HH2.out.pos))
        rw [HLEN.out] at P5
        clear o4 s4 q41 q42
        go_wp2_with fail
        refine P5.out.mono ?_; rintro e w5 ⟨v5, rfl, o5, b5⟩
        obtain ⟨A5, c5, rfl⟩ := own_form o5
        have O5 := Lib.hid o5
        have B5 := Lib.hid (below_trans B4.out b5)
        clear o5 b5
        obtain ⟨xs, x1, x2, x3⟩ := HP.out.below B5.out
        have htl : (List.take k (rowM tag.toNat b)).length = k := by rw [List.length_take, HRL.out]; omega
        have X1 := Lib.hid x1
        have X2 := Lib.hid x2
        have X3 := Lib.hid x3
        have x2' := x2
        rw [htl] at x2'
        have X2A := Lib.hid (World.ownsRow.alloc x2' (.cells #[.slice A5 pg.length c5] 22))
        have HTL2 := Lib.hid htl
        clear x1 x2 x3 x2' htl
        go_wp2_with (at_builtin; (refine wpList_appS (ys := [(A5, pg.length, c5)]) _ rfl (.tmp 63) (.tmp 65) _ rfl Tryd.underlying33 info_bs X2A.out (reads_cell1 w5 _ _) 1 rfl rfl (by omega) (by rw [World.size_alloc]; have := HB.out.size; have := B5.out.size; omega) ?_); intro A6 c6 w6 o6 gr6; have O6 := Lib.hid o6; have G6 := Lib.hid (Grew.by_ gr6); clear o6 gr6)
        refine ⟨⟨k + 1, by omega, by go_num, ?_, ?_⟩, by simp [intOf]; omega⟩
        · rw [HROW.out]
          exact Pgs.push X1.out X2.out X3.out (x := (A5, pg.length, c5)) ⟨rfl, own_mono O5.out (Nat.zero_le _)⟩ (by rw [HTL2.out]; exact O6.out) G6.out
        · exact (((below_trans HB.out B5.out).alloc (Nat.le_trans HB.out.size B5.out.size) _).grown G6.out (by rw [World.size_alloc]; have := HB.out.size; have := B5.out.size; omega) fun i hi => (World.ownsRow.lt X2.out i hi).1)
    · obtain rfl : k = la + 1 := by omega
      have hp := HP.out
      rw [List.take_of_length_le (by rw [HRL.out]; omega)] at hp
      have HP := Lib.hid hp
      clear hp
      go_wp2
      go_ret2
      obtain ⟨xs, h1, h2, h3⟩ := HP.out
      exact ⟨_, rfl, ⟨xs, h1, own_mono h2 B2.out.size, h3⟩, below_trans B2.out HB.out⟩
set_option maxRecDepth 100000 in
set_option maxHeartbeats 8000000 in
theorem prow_ok1 (tag : Int) (A : Option Addr) (h : Nat) (b : List UInt8) (c : Nat) (w : World) (hs : SlB w h A b) (hbc : b.length ≤ c) (hc : c ≤ maxLen) (hh : HalvesAt w) (hL0 : 0 < b.length) (hL2 : b.length ≤ 1) (hE : okTag tag = true) (hT : tag ≤ 4611686018427387903 - (lastM b : Int)) :
    Calls Tryd.prog 13 #[.int .i64 tag, .slice A b.length c] w fun e w' => ∃ v, e = .returned (.tuple #[v, .int .i64 0]) ∧ Pgs w' w.heap.size v (rowM tag.toNat b) ∧ Below w.heap.size w w' := by
  obtain ⟨L, hL⟩ : ∃ L, L = b.length := ⟨_, rfl⟩
  have hl : lastM b = (b.length - 1) / 42 := rfl
  have hti := (okTag_iff tag).1 hE
  obtain ⟨ad, hA, hcell⟩ := hs.cell (k := 0) (by omega)
  subst hA
  obtain ⟨bk, off, sp⟩ := ad
  obtain rfl : sp = none := by simpa [Addr.add] using World.cell?_spot hcell
  have hpl := fun k => pieceM_length b k
  have hps : ∀ k, k < (L + 41) / 42 → SlB w h (some ⟨bk, off + 42 * k, none⟩) (pieceM b k) := fun k hk => by
    have := (hs.drop (k := 42 * k) hbc).take 42
    unfold cutA at this
    rw [if_neg (by omega), Option.map_some, Addr.add_lit] at this
    exact this
  rw [← hL] at hL0 hL2 hl hbc hpl ⊢
  have hrl := rowM_length tag.toNat b
  have hrg := rowM_get tag.toNat b
  have hho : ∀ k, holdM b k = (if k = lastM b then 0 else 1) :: pieceM b k := fun k => rfl
  have hhl := holdM_length b
  generalize lastM b = la at hl hT hrl hrg hho
  have HHO := Lib.hid hho
  have HHL := Lib.hid hhl
  have HRL := Lib.hid hrl
  have HRG := Lib.hid hrg
  have HPS := Lib.hid hps
  have HPL := Lib.hid hpl
  have HH := Lib.hid hh
  have HTI := Lib.hid hti
  have HTL := Lib.hid (show tag + (la : Int) ≤ 4611686018427387903 by omega)
  have d1 : decide (4611686018427387903 < tag) = false := by rw [decide_eq_false_iff_not]; omega
  have d2 : decide ((65536 : Int) < (L : Int)) = false := by rw [decide_eq_false_iff_not]; omega
  have hnp : (L + 41) / 42 = la + 1 := by omega
  unfold maxLen at hc
  clear hs hcell hL hho hhl hrl hrg hps hpl hh hti hl hT
  go_enter Tryd.func13, Tryd.ntmps13
  go_wp2_with fail
  refine (mayTag_any tag _).mono ?_; rintro e w' ⟨rfl, rfl⟩
  rw [hE]
  go_wp2_with fail
  refine (chunk_any _ L c w).mono ?_; rintro e w1 ⟨rfl, k0, k1, hsz, b1⟩
  have P2 := Lib.hid (collect_chunks _ bk off L c (fun _ => rfl) hbc (by omega) hc w1 _ _ k0 k1)
  have B1 := Lib.hid b1
  clear k0 k1 hsz b1
  go_wp2_with fail
  refine P2.out.mono ?_; rintro e w2 ⟨v2, rfl, o2, b2⟩
  rw [hnp] at o2
  obtain ⟨gp, cp, rfl⟩ := ownsRow_succ o2
  have B2 := Lib.hid (below_trans B1.out b2)
  have O2 := Lib.hid o2
  clear b2 o2 P2
  have d3 : ((la : Int) + 1 == 0) = false := by rw [beq_eq_false_iff_ne]; omega
  have HPC := Lib.hid (fun (k : Nat) (hk : k < la + 1) => (show ((chA bk off L).map encSl)[k]? = some (.slice (some ⟨bk, off + 42 * k, none⟩) (pieceM b k).length (pieceM b k).length) by
    rw [List.getElem?_map, chA_get bk off L k (by omega), HPL.out k]; rfl))
  have HPB := Lib.hid (fun (k : Nat) (hk : k < la + 1) => (HPS.out k (by omega)).below B2.out fun h => h)
  have HH2 := Lib.hid (HH.out.below B2.out HH.out.pos)
  clear d1 d2
  go_wp2_with fail
  go_loopw [8, 42] (fun v iv wr => ∃ k : Nat, k ≤ la + 1 ∧ iv = .int .i64 (k : Int) ∧ Pgs wr w2.heap.size v ((rowM tag.toNat b).take k) ∧ Below w2.heap.size w2 wr) (fun _ iv _ => la + 1 - (intOf iv).toNat)
  case atStart => exact ⟨0, Nat.zero_le _, rfl, by rw [List.take_zero]; exact Pgs.nil _ _, Below.refl _ _⟩
  case round =>
    obtain ⟨k, hk, rfl, hp, hb⟩ := hrel
    have HP := Lib.hid hp
    have HB := Lib.hid hb
    clear hp hb
    by_cases hkl : k < la + 1
    · have d4 : decide ((k : Int) < (la : Int) + 1) = true := by rw [decide_eq_true_eq]; omega
      have q0 := (World.cell?_of_block (a := ⟨gp, k, none⟩) (HB.out.block gp (by have := O2.out; exact (World.ownsRow.lt this gp rfl).2))).trans (own_cell O2.out (HPC.out k hkl))
      have hpb := (HPB.out k hkl).below HB.out fun h => h
      have HPBk := Lib.hid hpb
      by_cases hkla : k = la
      · have d5 : ((k : Int) == 0) = true := by rw [beq_iff_eq]; omega
        have htk1 : 1 ≤ tag := HTI.out.1
        have htk2 : tag + (k : Int) ≤ 4611686018427387903 := by have := HTL.out; omega
        have hhd : holdM b k = 0 :: pieceM b k := by rw [HHO.out, if_pos hkla]
        have hlen : (holdM b k).length = 1 + (pieceM b k).length := by rw [hhd, List.length_cons, Nat.add_comm]
        have hpcl : (pieceM b k).length ≤ 42 := by rw [HPL.out]; omega
        have hrow : (rowM tag.toNat b).take (k + 1) = (rowM tag.toNat b).take k ++ [pageM (tag + (k : Int)).toNat (holdM b k)] := by
          rw [List.take_add_one, HRG.out k hkl, show (tag + (k : Int)).toNat = tag.toNat + k by omega]
          rfl
        have hpgl := pageM_length (tag + (k : Int)).toNat (holdM b k) (HHL.out k)
        have hh43 := HHL.out k
        obtain ⟨pc, hpc⟩ : ∃ pc, pc = pieceM b k := ⟨_, rfl⟩
        obtain ⟨hd, hhe⟩ : ∃ hd, hd = holdM b k := ⟨_, rfl⟩
        have HPBk := Lib.hid (show SlB wr h (some ⟨bk, off + 42 * k, none⟩) pc by rw [hpc]; exact hpb)
        rw [← hpc, ← hhe] at hlen hhd
        rw [← hpc] at hpcl q0
        rw [← hhe] at hrow hpgl hh43
        clear hpc hhe hpb hkla
        have PP := Lib.hid (fun (W : World) (A9 : Option Addr) (g9 c9 : Nat) (s9 : SlB W g9 A9 hd) (q9 : hd.length ≤ c9) (r9 : c9 ≤ maxLen) (h9 : HalvesAt W) => pput_ok (tag + (k : Int)) A9 g9 hd c9 W ((okTag_iff _).2 ⟨by omega, htk2⟩) s9 hh43 q9 r9 h9)
        generalize pageM (tag + (k : Int)).toNat hd = pg at hrow hpgl PP
        have HROW := Lib.hid hrow
        have HPGL := Lib.hid hpgl
        have HLEN := Lib.hid hlen
        have HHD := Lib.hid hhd
        clear hrow hpgl hlen hhd
        have HF := Lib.hid (one_own wr 0 0 rfl 5)
        have HFB := Lib.hid (alloc_below wr (.cells #[.int .u8 0] 5))
        have HRF := Lib.hid (SlB.reads (n := pc.length) (HPBk.out.below HFB.out fun h => h) rfl)
        go_wp2_with (at_builtin; (refine wpList_appB _ rfl (.tmp 57) (.tmp 58) _ rfl Tryd.underlying22 info_u8 HF.out HRF.out pc.length rfl rfl (by omega) (Nat.le_trans (by simp) HFB.out.size) ?_); intro A4 c4 w4 o4 gr4; have O4 := Lib.hid o4; have B4 := Lib.hid (show Below wr.heap.size wr w4 from HFB.out.grown (Grew.by_ gr4) HFB.out.size fun i hi => (World.ownsRow.lt HF.out i hi).1); clear o4 gr4)
        have o4 := O4.out
        rw [show [0] ++ pc = hd from HHD.out.symm] at o4
        obtain ⟨g4, -, s4, -⟩ := SlB.of_own (l := hd) (by rw [← HLEN.out] at o4; exact o4)
        obtain ⟨q41, q42⟩ := own_cap o4
        have P5 := Lib.hid (PP.out w4 A4 g4 c4 s4 (by rw [HLEN.out]; exact q41) q42 (HH2.out.below (below_trans HB.out B4.out) HH2.out.pos))
        rw [HLEN.out] at P5
        clear o4 s4 q41 q42
        go_wp2_with fail
        refine P5.out.mono ?_; rintro e w5 ⟨v5, rfl, o5, b5⟩
        obtain ⟨A5, c5, rfl⟩ := own_form o5
        have O5 := Lib.hid o5
        have B5 := Lib.hid (below_trans B4.out b5)
        clear o5 b5
        obtain ⟨xs, x1, x2, x3⟩ := HP.out.below B5.out
        have htl : (List.take k (rowM tag.toNat b)).length = k := by rw [List.length_take, HRL.out]; omega
        have X1 := Lib.hid x1
        have X2 := Lib.hid x2
        have X3 := Lib.hid x3
        have x2' := x2
        rw [htl] at x2'
        have X2A := Lib.hid (World.ownsRow.alloc x2' (.cells #[.slice A5 pg.length c5] 22))
        have HTL2 := Lib.hid htl
        clear x1 x2 x3 x2' htl
        go_wp2_with (at_builtin; (refine wpList_appS (ys := [(A5, pg.length, c5)]) _ rfl (.tmp 63) (.tmp 65) _ rfl Tryd.underlying33 info_bs X2A.out (reads_cell1 w5 _ _) 1 rfl rfl (by omega) (by rw [World.size_alloc]; have := HB.out.size; have := B5.out.size; omega) ?_); intro A6 c6 w6 o6 gr6; have O6 := Lib.hid o6; have G6 := Lib.hid (Grew.by_ gr6); clear o6 gr6)
        refine ⟨⟨k + 1, by omega, by go_num, ?_, ?_⟩, by simp [intOf]; omega⟩
        · rw [HROW.out]
          exact Pgs.push X1.out X2.out X3.out (x := (A5, pg.length, c5)) ⟨rfl, own_mono O5.out (Nat.zero_le _)⟩ (by rw [HTL2.out]; exact O6.out) G6.out
        · exact (((below_trans HB.out B5.out).alloc (Nat.le_trans HB.out.size B5.out.size) _).grown G6.out (by rw [World.size_alloc]; have := HB.out.size; have := B5.out.size; omega) fun i hi => (World.ownsRow.lt X2.out i hi).1)
      · have d5 : ((k : Int) == 0) = false := by rw [beq_eq_false_iff_ne]; omega
        have htk1 : 1 ≤ tag := HTI.out.1
        have htk2 : tag + (k : Int) ≤ 4611686018427387903 := by have := HTL.out; omega
        have hhd : holdM b k = 1 :: pieceM b k := by rw [HHO.out, if_neg hkla]
        have hlen : (holdM b k).length = 1 + (pieceM b k).length := by rw [hhd, List.length_cons, Nat.add_comm]
        have hpcl : (pieceM b k).length ≤ 42 := by rw [HPL.out]; omega
        have hrow : (rowM tag.toNat b).take (k + 1) = (rowM tag.toNat b).take k ++ [pageM (tag + (k : Int)).toNat (holdM b k)] := by
          rw [List.take_add_one, HRG.out k hkl, show (tag + (k : Int)).toNat = tag.toNat + k by omega]
          rfl
        have hpgl := pageM_length (tag + (k : Int)).toNat (holdM b k) (HHL.out k)
        have hh43 := HHL.out k
        obtain ⟨pc, hpc⟩ : ∃ pc, pc = pieceM b k := ⟨_, rfl⟩
        obtain ⟨hd, hhe⟩ : ∃ hd, hd = holdM b k := ⟨_, rfl⟩
        have HPBk := Lib.hid (show SlB wr h (some ⟨bk, off + 42 * k, none⟩) pc by rw [hpc]; exact hpb)
        rw [← hpc, ← hhe] at hlen hhd
        rw [← hpc] at hpcl q0
        rw [← hhe] at hrow hpgl hh43
        clear hpc hhe hpb hkla
        have PP := Lib.hid (fun (W : World) (A9 : Option Addr) (g9 c9 : Nat) (s9 : SlB W g9 A9 hd) (q9 : hd.length ≤ c9) (r9 : c9 ≤ maxLen) (h9 : HalvesAt W) => pput_ok (tag + (k : Int)) A9 g9 hd c9 W ((okTag_iff _).2 ⟨by omega, htk2⟩) s9 hh43 q9 r9 h9)
        generalize pageM (tag + (k : Int)).toNat hd = pg at hrow hpgl PP
        have HROW := Lib.hid hrow
        have HPGL := Lib.hid hpgl
        have HLEN := Lib.hid hlen
        have HHD := Lib.hid hhd
        clear hrow hpgl hlen hhd
        have HF := Lib.hid (one_own wr 1 1 rfl 5)
        have HFB := Lib.hid (alloc_below wr (.cells #[.int .u8 1] 5))
        have HRF := Lib.hid (SlB.reads (n := pc.length) (HPBk.out.below HFB.out fun h => h) rfl)
        go_wp2_with (at_builtin; (refine wpList_appB _ rfl (.tmp 57) (.tmp 58) _ rfl Tryd.underlying22 info_u8 HF.out HRF.out pc.length rfl rfl (by omega) (Nat.le_trans (by simp) HFB.out.size) ?_); intro A4 c4 w4 o4 gr4; have O4 := Lib.hid o4; have B4 := Lib.hid (show Below wr.heap.size wr w4 from HFB.out.grown (Grew.by_ gr4) HFB.out.size fun i hi => (World.ownsRow.lt HF.out i hi).1); clear o4 gr4)
        have o4 := O4.out
        rw [show [1] ++ pc = hd from HHD.out.symm] at o4
        obtain ⟨g4, -, s4, -⟩ := SlB.of_own (l := hd) (by rw [← HLEN.out] at o4; exact o4)
        obtain ⟨q41, q42⟩ := own_cap o4
        have P5 := Lib.hid (PP.out w4 A4 g4 c4 s4 (by rw [HLEN.out]; exact q41) q42 (HH2.out.below (below_trans HB.out B4.out) HH2.out.pos))
        rw [HLEN.out] at P5
        clear o4 s4 q41 q42
        go_wp2_with fail
        refine P5.out.mono ?_; rintro e w5 ⟨v5, rfl, o5, b5⟩
        obtain ⟨A5, c5, rfl⟩ := own_form o5
        have O5 := Lib.hid o5
        have B5 := Lib.hid (below_trans B4.out b5)
        clear o5 b5
        obtain ⟨xs, x1, x2, x3⟩ := HP.out.below B5.out
        have htl : (List.take k (rowM tag.toNat b)).length = k := by rw [List.length_take, HRL.out]; omega
        have X1 := Lib.hid x1
        have X2 := Lib.hid x2
        have X3 := Lib.hid x3
        have x2' := x2
        rw [htl] at x2'
        have X2A := Lib.hid (World.ownsRow.alloc x2' (.cells #[.slice A5 pg.length c5] 22))
        have HTL2 := Lib.hid htl
        clear x1 x2 x3 x2' htl
        go_wp2_with (at_builtin; (refine wpList_appS (ys := [(A5, pg.length, c5)]) _ rfl (.tmp 63) (.tmp 65) _ rfl Tryd.underlying33 info_bs X2A.out (reads_cell1 w5 _ _) 1 rfl rfl (by omega) (by rw [World.size_alloc]; have := HB.out.size; have := B5.out.size; omega) ?_); intro A6 c6 w6 o6 gr6; have O6 := Lib.hid o6; have G6 := Lib.hid (Grew.by_ gr6); clear o6 gr6)
        refine ⟨⟨k + 1, by omega, by go_num, ?_, ?_⟩, by simp [intOf]; omega⟩
        · rw [HROW.out]
          exact Pgs.push X1.out X2.out X3.out (x := (A5, pg.length, c5)) ⟨rfl, own_mono O5.out (Nat.zero_le _)⟩ (by rw [HTL2.out]; exact O6.out) G6.out
        · exact (((below_trans HB.out B5.out).alloc (Nat.le_trans HB.out.size B5.out.size) _).grown G6.out (by rw [World.size_alloc]; have := HB.out.size; have := B5.out.size; omega) fun i hi => (World.ownsRow.lt X2.out i hi).1)
    · obtain rfl : k = la + 1 := by omega
      have hp := HP.out
      rw [List.take_of_length_le (by rw [HRL.out]; omega)] at hp
      have HP := Lib.hid hp
      clear hp
      go_wp2
      go_ret2
      obtain ⟨xs, h1, h2, h3⟩ := HP.out
      exact ⟨_, rfl, ⟨xs, h1, own_mono h2 B2.out.size, h3⟩, below_trans B2.out HB.out⟩
set_option maxRecDepth 100000 in
set_option maxHeartbeats 8000000 in
theorem prow_ok0 (tag : Int) (A : Option Addr) (b : List UInt8) (c : Nat) (w : World) (hbc : b.length ≤ c) (hc : c ≤ maxLen) (hh : HalvesAt w) (hL2 : b.length ≤ 0) (hE : okTag tag = true) (hT : tag ≤ 4611686018427387903 - (lastM b : Int)) :
    Calls Tryd.prog 13 #[.int .i64 tag, .slice A b.length c] w fun e w' => ∃ v, e = .returned (.tuple #[v, .int .i64 0]) ∧ Pgs w' w.heap.size v (rowM tag.toNat b) ∧ Below w.heap.size w w' := by
  obtain ⟨L, hL⟩ : ∃ L, L = b.length := ⟨_, rfl⟩
  have hl : lastM b = (b.length - 1) / 42 := rfl
  have hti := (okTag_iff tag).1 hE
  have hpl := fun k => pieceM_length b k
  have hps : ∀ k, pieceM b k = [] := fun k => by unfold pieceM; rw [List.eq_nil_of_length_eq_zero (show b.length = 0 by omega)]; simp
  rw [← hL] at hL2 hl hbc hpl ⊢
  have hrl := rowM_length tag.toNat b
  have hrg := rowM_get tag.toNat b
  have hho : ∀ k, holdM b k = (if k = lastM b then 0 else 1) :: pieceM b k := fun k => rfl
  have hhl := holdM_length b
  generalize lastM b = la at hl hT hrl hrg hho
  have HHO := Lib.hid hho
  have HHL := Lib.hid hhl
  have HRL := Lib.hid hrl
  have HRG := Lib.hid hrg
  have HPS := Lib.hid hps
  have HPL := Lib.hid hpl
  have HH := Lib.hid hh
  have HTI := Lib.hid hti
  have HTL := Lib.hid (show tag + (la : Int) ≤ 4611686018427387903 by omega)
  have d1 : decide (4611686018427387903 < tag) = false := by rw [decide_eq_false_iff_not]; omega
  have d2 : decide ((65536 : Int) < (L : Int)) = false := by rw [decide_eq_false_iff_not]; omega
  have hnp : (L + 41) / 42 = 0 := by omega
  have hla0 : la < 1 := by omega
  unfold maxLen at hc
  clear hL hho hhl hrl hrg hps hpl hh hti hl hT
  go_enter Tryd.func13, Tryd.ntmps13
  go_wp2_with fail
  refine (mayTag_any tag _).mono ?_; rintro e w' ⟨rfl, rfl⟩
  rw [hE]
  go_wp2_with fail
  refine (chunk_any _ L c w).mono ?_; rintro e w1 ⟨rfl, k0, k1, hsz, b1⟩
  have P2 := Lib.hid (collect_chunks A 0 0 L c (fun h0 => absurd h0 (by omega)) hbc (by omega) hc w1 _ _ k0 k1)
  have B1 := Lib.hid b1
  clear k0 k1 hsz b1
  go_wp2_with fail
  refine P2.out.mono ?_; rintro e w2 ⟨v2, rfl, o2, b2⟩
  rw [hnp] at o2
  obtain ⟨A2, c2, rfl⟩ := own_form o2
  have B2a := Lib.hid (below_trans B1.out b2)
  have hb12 := b2.size
  clear b2 o2 P2
  obtain ⟨gp, hgp⟩ : ∃ gp, gp = w2.heap.size := ⟨_, rfl⟩
  obtain ⟨w3, hw3⟩ : ∃ w3, w3 = w2.alloc (.cells #[.slice none 0 0] 22) := ⟨_, rfl⟩
  have B2 := Lib.hid (show Below w.heap.size w w3 by rw [hw3]; exact below_trans B2a.out (alloc_below _ _))
  have O2 := Lib.hid (show w3.ownsRow w1.heap.size 22 1 (.slice (some ⟨gp, 0, none⟩) 1 1) 1 [.slice none 0 0] by
    rw [hw3, hgp]
    refine own_mono (base' := w2.heap.size) (own_blk (Blk.new w2 22 #[.slice none 0 0]) rfl rfl (by decide) (Nat.le_refl _)) ?_
    exact hb12)
  have HW3 := Lib.hid hw3
  have HGP := Lib.hid hgp
  clear hw3 hgp
  have HPC := Lib.hid (fun (k : Nat) (hk : k < la + 1) => (show ([.slice none 0 0] : List Value)[k]? = some (.slice none (pieceM b k).length (pieceM b k).length) by
    rw [HPS.out k, show k = 0 by omega]; rfl))
  have HPB := Lib.hid (fun (k : Nat) (_ : k < la + 1) => (show SlB w3 w3.heap.size none (pieceM b k) by rw [HPS.out k]; exact SlB.nil _ _ _))
  have HH2 := Lib.hid (HH.out.below B2.out HH.out.pos)
  clear d1 d2
  go_wp2_with fail
  rw [← HW3.out, ← HGP.out]
  go_loopw [8, 42] (fun v iv wr => ∃ k : Nat, k ≤ la + 1 ∧ iv = .int .i64 (k : Int) ∧ Pgs wr w3.heap.size v ((rowM tag.toNat b).take k) ∧ Below w3.heap.size w3 wr) (fun _ iv _ => la + 1 - (intOf iv).toNat)
  case atStart => exact ⟨0, Nat.zero_le _, rfl, by rw [List.take_zero]; exact Pgs.nil _ _, Below.refl _ _⟩
  case round =>
    obtain ⟨k, hk, rfl, hp, hb⟩ := hrel
    have HP := Lib.hid hp
    have HB := Lib.hid hb
    clear hp hb
    by_cases hkl : k < la + 1
    · have d4 : decide ((k : Int) < 1) = true := by rw [decide_eq_true_eq]; omega
      have q0 := (World.cell?_of_block (a := ⟨gp, k, none⟩) (HB.out.block gp (by have := O2.out; exact (World.ownsRow.lt this gp rfl).2))).trans (own_cell O2.out (HPC.out k hkl))
      have hpb := (HPB.out k hkl).below HB.out fun h => h
      have HPBk := Lib.hid hpb
      by_cases hkla : k = la
      · have d5 : ((k : Int) == 0) = true := by rw [beq_iff_eq]; omega
        have htk1 : 1 ≤ tag := HTI.out.1
        have htk2 : tag + (k : Int) ≤ 4611686018427387903 := by have := HTL.out; omega
        have hhd : holdM b k = 0 :: pieceM b k := by rw [HHO.out, if_pos hkla]
        have hlen : (holdM b k).length = 1 + (pieceM b k).length := by rw [hhd, List.length_cons, Nat.add_comm]
        have hpcl : (pieceM b k).length ≤ 42 := by rw [HPL.out]; omega
        have hrow : (rowM tag.toNat b).take (k + 1) = (rowM tag.toNat b).take k ++ [pageM (tag + (k : Int)).toNat (holdM b k)] := by
          rw [List.take_add_one, HRG.out k hkl, show (tag + (k : Int)).toNat = tag.toNat + k by omega]
          rfl
        have hpgl := pageM_length (tag + (k : Int)).toNat (holdM b k) (HHL.out k)
        have hh43 := HHL.out k
        obtain ⟨pc, hpc⟩ : ∃ pc, pc = pieceM b k := ⟨_, rfl⟩
        obtain ⟨hd, hhe⟩ : ∃ hd, hd = holdM b k := ⟨_, rfl⟩
        have HPBk := Lib.hid (show SlB wr w3.heap.size none pc by rw [hpc]; exact hpb)
        rw [← hpc, ← hhe] at hlen hhd
        rw [← hpc] at hpcl q0
        rw [← hhe] at hrow hpgl hh43
        clear hpc hhe hpb hkla
        have PP := Lib.hid (fun (W : World) (A9 : Option Addr) (g9 c9 : Nat) (s9 : SlB W g9 A9 hd) (q9 : hd.length ≤ c9) (r9 : c9 ≤ maxLen) (h9 : HalvesAt W) => pput_ok (tag + (k : Int)) A9 g9 hd c9 W ((okTag_iff _).2 ⟨by omega, htk2⟩) s9 hh43 q9 r9 h9)
        generalize pageM (tag + (k : Int)).toNat hd = pg at hrow hpgl PP
        have HROW := Lib.hid hrow
        have HPGL := Lib.hid hpgl
        have HLEN := Lib.hid hlen
        have HHD := Lib.hid hhd
        clear hrow hpgl hlen hhd
        have HF := Lib.hid (one_own wr 0 0 rfl 5)
        have HFB := Lib.hid (alloc_below wr (.cells #[.int .u8 0] 5))
        have HRF := Lib.hid (SlB.reads (n := pc.length) (HPBk.out.below HFB.out fun h => h) rfl)
        go_wp2_with (at_builtin; (refine wpList_appB _ rfl (.tmp 57) (.tmp 58) _ rfl Tryd.underlying22 info_u8 HF.out HRF.out pc.length rfl rfl (by omega) (Nat.le_trans (by simp) HFB.out.size) ?_); intro A4 c4 w4 o4 gr4; have O4 := Lib.hid o4; have B4 := Lib.hid (show Below wr.heap.size wr w4 from HFB.out.grown (Grew.by_ gr4) HFB.out.size fun i hi => (World.ownsRow.lt HF.out i hi).1); clear o4 gr4)
        have o4 := O4.out
        rw [show [0] ++ pc = hd from HHD.out.symm] at o4
        obtain ⟨g4, -, s4, -⟩ := SlB.of_own (l := hd) (by rw [← HLEN.out] at o4; exact o4)
        obtain ⟨q41, q42⟩ := own_cap o4
        have P5 := Lib.hid (PP.out w4 A4 g4 c4 s4 (by rw [HLEN.out]; exact q41) q42 (HH2.out.below (below_trans HB.out B4.out) HH2.out.pos))
        rw [HLEN.out] at P5
        clear o4 s4 q41 q42
        go_wp2_with fail
        refine P5.out.mono ?_; rintro e w5 ⟨v5, rfl, o5, b5⟩
        obtain ⟨A5, c5, rfl⟩ := own_form o5
        have O5 := Lib.hid o5
        have B5 := Lib.hid (below_trans B4.out b5)
        clear o5 b5
        obtain ⟨xs, x1, x2, x3⟩ := HP.out.below B5.out
        have htl : (List.take k (rowM tag.toNat b)).length = k := by rw [List.length_take, HRL.out]; omega
        have X1 := Lib.hid x1
        have X2 := Lib.hid x2
        have X3 := Lib.hid x3
        have x2' := x2
        rw [htl] at x2'
        have X2A := Lib.hid (World.ownsRow.alloc x2' (.cells #[.slice A5 pg.length c5] 22))
        have HTL2 := Lib.hid htl
        clear x1 x2 x3 x2' htl
        go_wp2_with (at_builtin; (refine wpList_appS (ys := [(A5, pg.length, c5)]) _ rfl (.tmp 63) (.tmp 65) _ rfl Tryd.underlying33 info_bs X2A.out (reads_cell1 w5 _ _) 1 rfl rfl (by omega) (by rw [World.size_alloc]; have := HB.out.size; have := B5.out.size; omega) ?_); intro A6 c6 w6 o6 gr6; have O6 := Lib.hid o6; have G6 := Lib.hid (Grew.by_ gr6); clear o6 gr6)
        refine ⟨⟨k + 1, by omega, by go_num, ?_, ?_⟩, by simp [intOf]; omega⟩
        · rw [HROW.out]
          exact Pgs.push X1.out X2.out X3.out (x := (A5, pg.length, c5)) ⟨rfl, own_mono O5.out (Nat.zero_le _)⟩ (by rw [HTL2.out]; exact O6.out) G6.out
        · exact (((below_trans HB.out B5.out).alloc (Nat.le_trans HB.out.size B5.out.size) _).grown G6.out (by rw [World.size_alloc]; have := HB.out.size; have := B5.out.size; omega) fun i hi => (World.ownsRow.lt X2.out i hi).1)
      · have d5 : ((k : Int) == 0) = false := by rw [beq_eq_false_iff_ne]; omega
        have htk1 : 1 ≤ tag := HTI.out.1
        have htk2 : tag + (k : Int) ≤ 4611686018427387903 := by have := HTL.out; omega
        have hhd : holdM b k = 1 :: pieceM b k := by rw [HHO.out, if_neg hkla]
        have hlen : (holdM b k).length = 1 + (pieceM b k).length := by rw [hhd, List.length_cons, Nat.add_comm]
        have hpcl : (pieceM b k).length ≤ 42 := by rw [HPL.out]; omega
        have hrow : (rowM tag.toNat b).take (k + 1) = (rowM tag.toNat b).take k ++ [pageM (tag + (k : Int)).toNat (holdM b k)] := by
          rw [List.take_add_one, HRG.out k hkl, show (tag + (k : Int)).toNat = tag.toNat + k by omega]
          rfl
        have hpgl := pageM_length (tag + (k : Int)).toNat (holdM b k) (HHL.out k)
        have hh43 := HHL.out k
        obtain ⟨pc, hpc⟩ : ∃ pc, pc = pieceM b k := ⟨_, rfl⟩
        obtain ⟨hd, hhe⟩ : ∃ hd, hd = holdM b k := ⟨_, rfl⟩
        have HPBk := Lib.hid (show SlB wr w3.heap.size none pc by rw [hpc]; exact hpb)
        rw [← hpc, ← hhe] at hlen hhd
        rw [← hpc] at hpcl q0
        rw [← hhe] at hrow hpgl hh43
        clear hpc hhe hpb hkla
        have PP := Lib.hid (fun (W : World) (A9 : Option Addr) (g9 c9 : Nat) (s9 : SlB W g9 A9 hd) (q9 : hd.length ≤ c9) (r9 : c9 ≤ maxLen) (h9 : HalvesAt W) => pput_ok (tag + (k : Int)) A9 g9 hd c9 W ((okTag_iff _).2 ⟨by omega, htk2⟩) s9 hh43 q9 r9 h9)
        generalize pageM (tag + (k : Int)).toNat hd = pg at hrow hpgl PP
        have HROW := Lib.hid hrow
        have HPGL := Lib.hid hpgl
        have HLEN := Lib.hid hlen
        have HHD := Lib.hid hhd
        clear hrow hpgl hlen hhd
        have HF := Lib.hid (one_own wr 1 1 rfl 5)
        have HFB := Lib.hid (alloc_below wr (.cells #[.int .u8 1] 5))
        have HRF := Lib.hid (SlB.reads (n := pc.length) (HPBk.out.below HFB.out fun h => h) rfl)
        go_wp2_with (at_builtin; (refine wpList_appB _ rfl (.tmp 57) (.tmp 58) _ rfl Tryd.underlying22 info_u8 HF.out HRF.out pc.length rfl rfl (by omega) (Nat.le_trans (by simp) HFB.out.size) ?_); intro A4 c4 w4 o4 gr4; have O4 := Lib.hid o4; have B4 := Lib.hid (show Below wr.heap.size wr w4 from HFB.out.grown (Grew.by_ gr4) HFB.out.size fun i hi => (World.ownsRow.lt HF.out i hi).1); clear o4 gr4)
        have o4 := O4.out
        rw [show [1] ++ pc = hd from HHD.out.symm] at o4
        obtain ⟨g4, -, s4, -⟩ := SlB.of_own (l := hd) (by rw [← HLEN.out] at o4; exact o4)
        obtain ⟨q41, q42⟩ := own_cap o4
        have P5 := Lib.hid (PP.out w4 A4 g4 c4 s4 (by rw [HLEN.out]; exact q41) q42 (HH2.out.below (below_trans HB.out B4.out) HH2.out.pos))
        rw [HLEN.out] at P5
        clear o4 s4 q41 q42
        go_wp2_with fail
        refine P5.out.mono ?_; rintro e w5 ⟨v5, rfl, o5, b5⟩
        obtain ⟨A5, c5, rfl⟩ := own_form o5
        have O5 := Lib.hid o5
        have B5 := Lib.hid (below_trans B4.out b5)
        clear o5 b5
        obtain ⟨xs, x1, x2, x3⟩ := HP.out.below B5.out
        have htl : (List.take k (rowM tag.toNat b)).length = k := by rw [List.length_take, HRL.out]; omega
        have X1 := Lib.hid x1
        have X2 := Lib.hid x2
        have X3 := Lib.hid x3
        have x2' := x2
        rw [htl] at x2'
        have X2A := Lib.hid (World.ownsRow.alloc x2' (.cells #[.slice A5 pg.length c5] 22))
        have HTL2 := Lib.hid htl
        clear x1 x2 x3 x2' htl
        go_wp2_with (at_builtin; (refine wpList_appS (ys := [(A5, pg.length, c5)]) _ rfl (.tmp 63) (.tmp 65) _ rfl Tryd.underlying33 info_bs X2A.out (reads_cell1 w5 _ _) 1 rfl rfl (by omega) (by rw [World.size_alloc]; have := HB.out.size; have := B5.out.size; omega) ?_); intro A6 c6 w6 o6 gr6; have O6 := Lib.hid o6; have G6 := Lib.hid (Grew.by_ gr6); clear o6 gr6)
        refine ⟨⟨k + 1, by omega, by go_num, ?_, ?_⟩, by simp [intOf]; omega⟩
        · rw [HROW.out]
          exact Pgs.push X1.out X2.out X3.out (x := (A5, pg.length, c5)) ⟨rfl, own_mono O5.out (Nat.zero_le _)⟩ (by rw [HTL2.out]; exact O6.out) G6.out
        · exact (((below_trans HB.out B5.out).alloc (Nat.le_trans HB.out.size B5.out.size) _).grown G6.out (by rw [World.size_alloc]; have := HB.out.size; have := B5.out.size; omega) fun i hi => (World.ownsRow.lt X2.out i hi).1)
    · obtain rfl : k = la + 1 := by omega
      have hp := HP.out
      rw [List.take_of_length_le (by rw [HRL.out]; omega)] at hp
      have HP := Lib.hid hp
      clear hp
      go_wp2
      go_ret2
      obtain ⟨xs, h1, h2, h3⟩ := HP.out
      exact ⟨_, rfl, ⟨xs, h1, own_mono h2 B2.out.size, h3⟩, below_trans B2.out HB.out⟩
theorem rowE_no (tag : Int) (A : Option Addr) (b : List UInt8) (c : Nat) (w : World) (hb : b.length ≤ 9223372036854775807) (h0 : rowE tag b ≠ 0) :
    Calls Tryd.prog 13 #[.int .i64 tag, .slice A b.length c] w (RowNo w (rowE tag b)) := by
  by_cases hE : okTag tag = true
  · by_cases hT : tag ≤ 4611686018427387903 - (lastM b : Int)
    · by_cases h6 : 65536 < b.length
      · rw [show rowE tag b = 3 by unfold rowE; rw [if_pos ⟨hE, hT⟩, if_pos h6]]
        exact prow_c2 tag A b c w hb (by omega) hE hT h6
      · exfalso
        refine h0 ?_
        unfold rowE
        rw [if_pos ⟨hE, hT⟩, if_neg h6]
    · rw [show rowE tag b = 1 by unfold rowE; rw [if_neg fun h => hT h.2]]
      by_cases h1 : 1 < b.length
      · exact prow_b2 tag A b c w hb h1 hE hT
      · exfalso
        have := (okTag_iff tag).1 hE
        have : lastM b = 0 := by unfold lastM; omega
        omega
  · rw [show rowE tag b = 1 by unfold rowE; rw [if_neg fun h => hE h.1]]
    by_cases h1 : 1 < b.length
    · exact prow_a2 tag A b c w hb h1 (by simpa using hE)
    · exact prow_a1 tag A b c w hb (by omega) (by simpa using hE)
def RowOK (w : World) (ls : List (List UInt8)) (e : Ending) (w' : World) : Prop := ∃ v, e = .returned (.tuple #[v, .int .i64 0]) ∧ Pgs w' w.heap.size v ls ∧ Below w.heap.size w w'
theorem rowE_ok (tag : Int) (A : Option Addr) (h : Nat) (b : List UInt8) (c : Nat) (w : World) (hs : SlB w h A b) (hbc : b.length ≤ c) (hc : c ≤ maxLen) (hh : HalvesAt w) (hL2 : b.length ≤ 5000) (h0 : rowE tag b = 0) :
    Calls Tryd.prog 13 #[.int .i64 tag, .slice A b.length c] w (RowOK w (rowM tag.toNat b)) := by
  have hh2 : okTag tag = true ∧ tag ≤ 4611686018427387903 - (lastM b : Int) := by
    unfold rowE at h0
    split at h0
    · assumption
    · exact absurd h0 (by decide)
  by_cases h1 : 1 < b.length
  · exact prow_ok2 tag A h b c w hs hbc hc hh h1 hL2 hh2.1 hh2.2
  · by_cases h3 : 0 < b.length
    · exact prow_ok1 tag A h b c w hs hbc hc hh h3 (by omega) hh2.1 hh2.2
    · exact prow_ok0 tag A b c w hbc hc hh (by omega) hh2.1 hh2.2
end Go.Proofs.YtfilelgbffbnlaaDoor
