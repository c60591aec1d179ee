/- Contracts of the document's Row, and of the law's own 'same'. -/
import Derived.Test.YtfilelgbffbnlaaDoorPgJ
namespace Go.Proofs.YtfilelgbffbnlaaDoor
open Go.RowKit

/-- The document's Put of what may be: a slice that is a page. -/
theorem rpput_pg (n : Int) (A : Option Addr) (h : Nat) (l : List UInt8) (c : Nat) (w : World) (ht : okTag n = true) (hs : SlB w h A l) (hl : l.length ≤ 43) (hlc : l.length ≤ c) (hc : c ≤ maxLen) :
    Calls Tryd.prog 12 #[.int .i64 n, .slice A l.length c] w fun e w' => ∃ A' c', e = .returned (.slice A' 64 c') ∧ PgB w' (A', 64, c') (pageM n.toNat l) ∧ Below w.heap.size w w' :=
  (rpput_ok n A h l c w ht hs hl hlc hc).mono fun e w' ⟨A', c', he, ho, hb⟩ => by
    have hl64 := pageM_length n.toNat l hl
    refine ⟨A', c', by rw [he, hl64], ⟨hl64.symm, ?_⟩, hb⟩
    have := own_mono ho (Nat.zero_le _)
    rw [hl64] at this ⊢
    exact this
theorem drop_piece (b : List UInt8) (k : Nat) : (b.drop (42 * k)).take 42 = pieceM b k := rfl
theorem last_piece (b : List UInt8) (k : Nat) (h : k = lastM b) : b.drop (42 * k) = pieceM b k := by
  unfold pieceM
  rw [List.take_of_length_le]
  rw [List.length_drop, h]
  unfold lastM
  omega
set_option maxRecDepth 100000 in
set_option maxHeartbeats 8000000 in
theorem rrow_ok (t : Nat) (A : Option Addr) (h : Nat) (b : List UInt8) (c : Nat) (w : World) (hs : SlB w h A b) (hbc : b.length ≤ c) (hc : c ≤ maxLen) (h1 : 1 ≤ t) (h2 : t + lastM b ≤ 4611686018427387903) (hL : b.length ≤ 5000) :
    Calls Tryd.prog 15 #[.int .i64 (t : Int), .slice A b.length c] w fun e w' => ∃ v, e = .returned v ∧ Pgs w' w.heap.size v (rowM t b) ∧ Below w.heap.size w w' := by
  have hl : lastM b = (b.length - 1) / 42 := rfl
  have hrl := rowM_length t b
  have hrg := rowM_get t b
  have hho : ∀ k, holdM b k = (if k = lastM b then 0 else 1) :: pieceM b k := fun k => rfl
  have hhl := holdM_length b
  have hlp := last_piece b
  have hpl := fun k => pieceM_length b k
  generalize lastM b = la at *
  have HRL := Lib.hid hrl
  have HRG := Lib.hid hrg
  have HHO := Lib.hid hho
  have HHL := Lib.hid hhl
  have HLP := Lib.hid hlp
  have HPL := Lib.hid hpl
  have HL := Lib.hid hl
  have HS := Lib.hid hs
  have HHC := Lib.hid hc
  have hc2 := hc
  unfold maxLen at hc2
  have hla : la ≤ 5000 := by omega
  clear hrl hrg hho hhl hlp hpl hl hs hc
  go_enter Tryd.func15, Tryd.ntmps15
  go_wp2_with fail
  go_loopw [0, 1, 5] (fun tv bv v wr => ∃ (k : Nat) (A2 : Option Addr) (c2 : Nat), k ≤ la ∧ tv = .int .i64 ((t + k : Nat) : Int) ∧ bv = .slice A2 (b.length - 42 * k) c2 ∧ SlB w h A2 (b.drop (42 * k)) ∧ b.length - 42 * k ≤ c2 ∧ c2 ≤ maxLen ∧ Pgs wr w.heap.size v ((rowM t b).take k) ∧ Below w.heap.size w wr) (fun _ bv _ _ => match bv with | .slice _ n _ => n | _ => 0)
  case atStart => exact ⟨0, A, c, Nat.zero_le _, rfl, rfl, by rw [Nat.mul_zero, List.drop_zero]; exact HS.out, by omega, HHC.out, by rw [List.take_zero]; exact Pgs.nil _ _, Below.refl _ _⟩
  case round =>
    obtain ⟨k, A2, c2, hk, rfl, rfl, hs2, hbc2, hm2, hp, hb⟩ := hrel
    have hhd := HHO.out k
    have hh43 := HHL.out k
    have hpcl := HPL.out k
    have HP := Lib.hid hp
    have HB := Lib.hid hb
    have hm3 := hm2
    unfold maxLen at hm3
    obtain ⟨n, hn⟩ : ∃ n, n = b.length - 42 * k := ⟨_, rfl⟩
    have hdl : (b.drop (42 * k)).length = n := by rw [List.length_drop, hn]
    rw [← hn] at hbc2 ⊢
    have hrow : (rowM t b).take (k + 1) = (rowM t b).take k ++ [pageM ((t + k : Nat) : Int).toNat (holdM b k)] := by
      rw [List.take_add_one, HRG.out k (by omega), Int.toNat_natCast]
      rfl
    have hok : okTag ((t + k : Nat) : Int) = true := (okTag_iff _).2 ⟨by omega, by omega⟩
    have PP := Lib.hid (fun (W : World) (A9 : Option Addr) (g9 c9 : Nat) (s9 : SlB W g9 A9 (holdM b k)) (q9 : (holdM b k).length ≤ c9) (r9 : c9 ≤ maxLen) => rpput_pg ((t + k : Nat) : Int) A9 g9 (holdM b k) c9 W hok s9 hh43 q9 r9)
    generalize pageM ((t + k : Nat) : Int).toNat (holdM b k) = pg at hrow PP
    have HROW := Lib.hid hrow
    have htl : (List.take k (rowM t b)).length = k := by rw [List.length_take, HRL.out]; omega
    have HTL := Lib.hid htl
    have HS2 := Lib.hid (hs2.below hb fun h => h)
    have HSW := Lib.hid hs2
    have HDL := Lib.hid hdl
    have HN := Lib.hid hn
    clear hp hb hrow hm2 hs2 hok htl hdl
    obtain ⟨tk, htk⟩ : ∃ tk, tk = t + k := ⟨_, rfl⟩
    rw [← htk] at PP ⊢
    have HTK := Lib.hid htk
    have htk2 : tk ≤ 4611686018427387903 := by omega
    clear htk
    by_cases hkl : k < la
    · have hhd1 : holdM b k = [1] ++ pieceM b k := by rw [hhd, if_neg (by omega)]; rfl
      have hlen : (holdM b k).length = 1 + 42 := by rw [hhd1, List.length_append, hpcl]; have := HL.out; simp; omega
      have d1 : decide ((42 : Int) < (n : Int)) = true := by have := HL.out; rw [decide_eq_true_eq]; omega
      have hn42 : 42 < n := by have := HL.out; omega
      have hc42 : ¬ c2 = 42 := by omega
      have HHD := Lib.hid hhd1
      have HLEN := Lib.hid hlen
      have HKL := Lib.hid hkl
      have HF := Lib.hid (one_own wr 1 1 rfl 5)
      have HFB := Lib.hid (alloc_below wr (.cells #[.int .u8 1] 5))
      have HRF := Lib.hid (SlB.reads (n := 42) ((HS2.out.take 42).below HFB.out fun h => h) (by rw [List.length_take, HDL.out]; omega))
      clear hn hhd hh43 hpcl hhd1 hlen hkl
      go_wp2_with (at_builtin; (refine wpList_appB _ rfl (.tmp 11) (.tmp 13) _ rfl Tryd.underlying22 info_u8 HF.out HRF.out c2 rfl rfl (by omega) (Nat.le_trans (by simp) HFB.out.size) ?_); intro A4 c4 w4 o4 gr4; have O4 := Lib.hid o4; have B4 := Lib.hid (show Below wr.heap.size wr w4 from HFB.out.grown (Grew.by_ gr4) HFB.out.size fun i hi => (World.ownsRow.lt HF.out i hi).1); clear o4 gr4)
      have o4 := O4.out
      rw [drop_piece, ← HHD.out] at o4
      obtain ⟨g4, -, s4, -⟩ := SlB.of_own (l := holdM b k) (by rw [← HLEN.out] at o4; exact o4)
      obtain ⟨q41, q42⟩ := own_cap o4
      have P5 := Lib.hid (PP.out w4 A4 g4 c4 s4 (by rw [HLEN.out]; exact q41) q42)
      rw [HLEN.out] at P5
      clear o4 s4 q41 q42
      go_wp2_with fail
      refine P5.out.mono ?_; rintro e w5 ⟨A5, c5, rfl, p5, b5⟩
      have HP5 := Lib.hid p5
      have B5 := Lib.hid (below_trans B4.out b5)
      clear p5 b5
      obtain ⟨xs, x1, x2, x3⟩ := HP.out.below B5.out
      have X1 := Lib.hid x1
      have X2 := Lib.hid x2
      have X3 := Lib.hid x3
      have x2' := x2
      rw [HTL.out] at x2'
      have X2A := Lib.hid (World.ownsRow.alloc x2' (.cells #[.slice A5 64 c5] 22))
      clear x1 x2 x3 x2'
      go_wp2_with (at_builtin; (refine wpList_appS (ys := [(A5, 64, c5)]) _ rfl (.tmp 9) (.tmp 16) _ rfl Tryd.underlying33 info_bs X2A.out (reads_cell1 w5 _ _) 1 rfl rfl (by omega) (by rw [World.size_alloc]; have := HB.out.size; have := B5.out.size; omega) ?_); intro A6 c6 w6 o6 gr6; have O6 := Lib.hid o6; have G6 := Lib.hid (Grew.by_ gr6); clear o6 gr6)
      have HD := HSW.out.drop (k := 42) (cap := c2) (by rw [HDL.out]; exact hbc2)
      unfold cutA at HD
      rw [if_neg hc42, List.drop_drop] at HD
      have hb6 : Below wr.heap.size wr (w5.alloc (.cells #[.slice A5 64 c5] 22)) := B5.out.alloc B5.out.size _
      refine ⟨⟨k + 1, _, c2 - 42, by have := HKL.out; omega, by have := HTK.out; go_num, by rw [show b.length - 42 * (k + 1) = n - 42 by have := HN.out; omega], ?_, by have := HN.out; omega, by unfold maxLen; omega, ?_, ?_⟩, by show n - 42 < n; omega⟩
      · rw [Nat.mul_succ]
        exact HD
      · rw [HROW.out]
        exact Pgs.push X1.out X2.out X3.out HP5.out (by rw [HTL.out]; exact O6.out) G6.out
      · exact (((below_trans HB.out B5.out).alloc (Nat.le_trans HB.out.size B5.out.size) _).grown G6.out (by rw [World.size_alloc]; have := HB.out.size; have := B5.out.size; omega) fun i hi => (World.ownsRow.lt X2.out i hi).1)
    · obtain rfl : k = la := by omega
      have hhd1 : holdM b k = [0] ++ pieceM b k := by rw [hhd, if_pos rfl]; rfl
      have hpn : (pieceM b k).length = n := by rw [← HDL.out, HLP.out k rfl]
      have hlen : (holdM b k).length = 1 + n := by rw [hhd1, List.length_append, hpn]; rfl
      have hn43 : n ≤ 42 := by rw [← hpn, hpcl]; omega
      have d1 : decide ((42 : Int) < (n : Int)) = false := by rw [decide_eq_false_iff_not]; omega
      have HHD := Lib.hid hhd1
      have HLEN := Lib.hid hlen
      have HF := Lib.hid (one_own wr 0 0 rfl 5)
      have HFB := Lib.hid (alloc_below wr (.cells #[.int .u8 0] 5))
      have HRF := Lib.hid (SlB.reads (n := n) (HS2.out.below HFB.out fun h => h) HDL.out.symm)
      clear hn hhd hh43 hpcl hhd1 hlen hpn
      go_wp2_with (at_builtin; (refine wpList_appB _ rfl (.tmp 24) (.tmp 25) _ rfl Tryd.underlying22 info_u8 HF.out HRF.out c2 rfl rfl (by omega) (Nat.le_trans (by simp) HFB.out.size) ?_); intro A4 c4 w4 o4 gr4; have O4 := Lib.hid o4; have B4 := Lib.hid (show Below wr.heap.size wr w4 from HFB.out.grown (Grew.by_ gr4) HFB.out.size fun i hi => (World.ownsRow.lt HF.out i hi).1); clear o4 gr4)
      have o4 := O4.out
      rw [HLP.out k rfl, ← HHD.out] at o4
      obtain ⟨g4, -, s4, -⟩ := SlB.of_own (l := holdM b k) (by rw [← HLEN.out] at o4; exact o4)
      obtain ⟨q41, q42⟩ := own_cap o4
      have P5 := Lib.hid (PP.out w4 A4 g4 c4 s4 (by rw [HLEN.out]; exact q41) q42)
      rw [HLEN.out] at P5
      clear o4 s4 q41 q42
      go_wp2_with fail
      refine P5.out.mono ?_; rintro e w5 ⟨A5, c5, rfl, p5, b5⟩
      have HP5 := Lib.hid p5
      have B5 := Lib.hid (below_trans B4.out b5)
      clear p5 b5
      obtain ⟨xs, x1, x2, x3⟩ := HP.out.below B5.out
      have X1 := Lib.hid x1
      have X2 := Lib.hid x2
      have X3 := Lib.hid x3
      have x2' := x2
      rw [HTL.out] at x2'
      have X2A := Lib.hid (World.ownsRow.alloc x2' (.cells #[.slice A5 64 c5] 22))
      clear x1 x2 x3 x2'
      go_wp2_with (at_builtin; (refine wpList_appS (ys := [(A5, 64, c5)]) _ rfl (.tmp 22) (.tmp 28) _ rfl Tryd.underlying33 info_bs X2A.out (reads_cell1 w5 _ _) 1 rfl rfl (by omega) (by rw [World.size_alloc]; have := HB.out.size; have := B5.out.size; omega) ?_); intro A6 c6 w6 o6 gr6; have O6 := Lib.hid o6; have G6 := Lib.hid (Grew.by_ gr6); clear o6 gr6)
      go_ret
      have hps := Pgs.push X1.out X2.out X3.out HP5.out (by rw [HTL.out]; exact O6.out) G6.out
      rw [← HROW.out, List.take_of_length_le (by rw [HRL.out]; exact Nat.le_refl _)] at hps
      exact ⟨_, rfl, hps, (((below_trans HB.out B5.out).alloc (Nat.le_trans HB.out.size B5.out.size) _).grown G6.out (by rw [World.size_alloc]; have := HB.out.size; have := B5.out.size; omega) fun i hi => (World.ownsRow.lt X2.out i hi).1)⟩
theorem load_sl_at (p : Addr) (A : Option Addr) (n c : Nat) (w : World) (h : w.cell? p = some (.slice A n c)) : (Instr.loadAt 22 (.pointer (some p))).run Tryd.prog w = .ok (.slice A n c) w := by
  go_simp
set_option maxRecDepth 100000 in
set_option maxHeartbeats 4000000 in
theorem same_row (t : Nat) (b : List UInt8) (b1 b2 : Nat) (v1 v2 : Value) (w : World) (hL : b.length ≤ 5000) (p1 : Pgs w b1 v1 (rowM t b)) (p2 : Pgs w b2 v2 (rowM t b)) :
    Calls Tryd.prog 14 #[v1, v2] w fun e w' => e = .returned (.bool true) ∧ Below w.heap.size w w' := by
  obtain ⟨g1, c1, rfl⟩ := p1.form
  obtain ⟨g2, c2, rfl⟩ := p2.form
  have r1 := p1.rowAt rfl
  have r2 := p2.rowAt rfl
  have R1 := Lib.hid (fun W (k : Below w.heap.size w W) => r1.below k)
  have R2 := Lib.hid (fun W (k : Below w.heap.size w W) => r2.below k)
  have hla : lastM b ≤ 5000 := by unfold lastM; omega
  unfold RowAt at R1 R2
  clear p1 p2 r1 r2
  generalize lastM b = la at *
  go_enter Tryd.func14, Tryd.ntmps14
  go_wp2_with fail
  go_loopw [5] (fun iv wr => ∃ k : Nat, k ≤ la + 1 ∧ iv = .int .i64 (k : Int) ∧ Below w.heap.size w wr) (fun iv _ => la + 1 - (intOf iv).toNat)
  case atStart => exact ⟨0, Nat.zero_le _, rfl, Below.refl _ _⟩
  case round =>
    obtain ⟨k, hk, rfl, hb⟩ := hrel
    have HB := Lib.hid hb
    clear hb
    by_cases hkl : k < la + 1
    · have d1 : decide ((k : Int) < (la : Int) + 1) = true := by rw [decide_eq_true_eq]; omega
      obtain ⟨⟨xa, xn, xc⟩, q1, pb1, -⟩ := R1.out wr.drew (show Below w.heap.size w wr.drew from ⟨HB.out.os, HB.out.tape, HB.out.output, HB.out.size, HB.out.block⟩) k hkl
      obtain ⟨⟨ya, yn, yc⟩, q2, pb2, -⟩ := R2.out wr.drew (show Below w.heap.size w wr.drew from ⟨HB.out.os, HB.out.tape, HB.out.output, HB.out.size, HB.out.block⟩) k hkl
      generalize pageM (t + k) (holdM b k) = pg at pb1 pb2
      obtain ⟨rfl, gx, sx, -, -⟩ := pb1.slb
      obtain ⟨rfl, gy, sy, -, -⟩ := pb2.slb
      have L1 := Lib.hid (fun W (hb : RB wr.drew W) => load_sl_at ⟨g1, k, none⟩ xa pg.length xc W ((World.cell?_of_block (a := ⟨g1, k, none⟩) (hb.block g1 (World.block_lt_of_cell? _ _ q1))).trans q1))
      have L2 := Lib.hid (fun W (hb : RB wr.drew W) => load_sl_at ⟨g2, k, none⟩ ya pg.length yc W ((World.cell?_of_block (a := ⟨g2, k, none⟩) (hb.block g2 (World.block_lt_of_cell? _ _ q2))).trans q2))
      have SX := Lib.hid sx
      have SY := Lib.hid sy
      clear pb1 pb2 sx sy q1 q2
      go_wp2_with fail
      refine wp_region_R (R := RB) (n := 11) (by kernel_rfl) rfl ?_
      refine batchB [0, 1, 2, 3, 4, 5, 6, 7, 8, 9, 10] (fuel := 0) rfl (by kernel_rfl) (by kernel_rfl) (fun _ _ d _ _ h => by cases d <;> exact h) ?_
      (repeat (first | ((with_reducible apply wq0); rfl; rfl; rfl; intro K hK; go_big_quiet_op; refine hK _ ?_; clear hK K) | ((with_reducible apply wq1); rfl; rfl; rfl; rfl; rfl; rfl; intro K hK; go_big_quiet_op; refine hK _ ?_; clear hK K) | ((with_reducible apply wqs); rfl; rfl; rfl; rfl; rfl; rfl; simp only [Act.put, List.setIfInBounds_toArray, List.set_cons_zero, List.set_cons_succ]) | ((with_reducible apply wqu); rfl; rfl; rfl; rfl; rfl; simp only [same, Act.put, List.setIfInBounds_toArray, List.set_cons_zero, List.set_cons_succ])))
      refine wqIdx_load rfl rfl rfl rfl L1.out ?_
      simp only [Act.put, List.setIfInBounds_toArray, List.set_cons_zero, List.set_cons_succ]
      refine wqIdx_conv rfl rfl rfl rfl (conv_later SX.out xc rfl) ?_; simp only [Act.put, List.setIfInBounds_toArray, List.set_cons_zero, List.set_cons_succ]
      (repeat (first | ((with_reducible apply wq0); rfl; rfl; rfl; intro K hK; go_big_quiet_op; refine hK _ ?_; clear hK K) | ((with_reducible apply wq1); rfl; rfl; rfl; rfl; rfl; rfl; intro K hK; go_big_quiet_op; refine hK _ ?_; clear hK K) | ((with_reducible apply wqs); rfl; rfl; rfl; rfl; rfl; rfl; simp only [Act.put, List.setIfInBounds_toArray, List.set_cons_zero, List.set_cons_succ]) | ((with_reducible apply wqu); rfl; rfl; rfl; rfl; rfl; simp only [same, Act.put, List.setIfInBounds_toArray, List.set_cons_zero, List.set_cons_succ])))
      refine wqIdx_load rfl rfl rfl rfl L2.out ?_
      simp only [Act.put, List.setIfInBounds_toArray, List.set_cons_zero, List.set_cons_succ]
      refine wqIdx_conv rfl rfl rfl rfl (conv_later SY.out yc rfl) ?_; simp only [Act.put, List.setIfInBounds_toArray, List.set_cons_zero, List.set_cons_succ]
      (repeat (first | ((with_reducible apply wq0); rfl; rfl; rfl; intro K hK; go_big_quiet_op; refine hK _ ?_; clear hK K) | ((with_reducible apply wq1); rfl; rfl; rfl; rfl; rfl; rfl; intro K hK; go_big_quiet_op; refine hK _ ?_; clear hK K) | ((with_reducible apply wqs); rfl; rfl; rfl; rfl; rfl; rfl; simp only [Act.put, List.setIfInBounds_toArray, List.set_cons_zero, List.set_cons_succ]) | ((with_reducible apply wqu); rfl; rfl; rfl; rfl; rfl; simp only [same, Act.put, List.setIfInBounds_toArray, List.set_cons_zero, List.set_cons_succ])))
      refine wqIdx_nil ?_
      refine wpAnyR_done (by kernel_rfl) ?_ _
      go_wp2
      exact ⟨⟨k + 1, by omega, by go_num, ⟨HB.out.os, HB.out.tape, HB.out.output, HB.out.size, HB.out.block⟩⟩, by simp [intOf]; omega⟩
    · obtain rfl : k = la + 1 := by omega
      go_wp2
      go_ret
      exact ⟨rfl, HB.out⟩
end Go.Proofs.YtfilelgbffbnlaaDoor
