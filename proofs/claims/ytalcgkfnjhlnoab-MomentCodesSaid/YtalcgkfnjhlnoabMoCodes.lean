/- The walk of the law MomentCodes. -/
import Derived.Test.YtalcgkfnjhlnoabMoWalks
import Derived.Test.YtalcgkfnjhlnoabMoF
import Derived.Test.YtalcgkfnjhlnoabNumRd
namespace Go.Proofs.Ytalcgkfnjhlnoab
open Go.RowKit Go.Sort

/-- string(b) in whatever world comes behind this one. -/
theorem conv_later {w1 : World} {h : Nat} {A : Option Addr} {l : List UInt8} (s : SlB w1 h A l) (c : Nat) {n : Nat} (hn : n = l.length) :
    ∀ w, RB w1 w → (convert 34 9 (.slice A n c)).run Try.prog w = .ok (.string ⟨l.toArray⟩) w :=
  fun w hb => run_convB w Try.underlying34 Try.underlying5 Try.underlying9 c ((s.below hb fun h => h).reads hn)
theorem empty_own (w : World) (t : TypeId) : (w.alloc (.cells #[] t)).ownsRow w.heap.size t 1 (.slice (some ⟨w.heap.size, 0, none⟩) 0 0) 0 (Byt []) := own_new w #[] _ 0 _ rfl rfl (by decide) (Nat.le_refl _)
theorem own_slb {w : World} {base e n c : Nat} {A : Option Addr} {l : List UInt8} (o : w.ownsRow base e 1 (.slice A n c) n (Byt l)) (hb : base < w.heap.size) : ∃ h, base ≤ h ∧ h < w.heap.size ∧ SlB w h A l := by
  obtain ⟨h, hbh, s, -⟩ := SlB.of_own o
  by_cases hl : l = []
  · subst hl; exact ⟨base, Nat.le_refl _, hb, SlB.nil _ _ _⟩
  · exact ⟨h, hbh, s.lt hl, s⟩
theorem readMo_put (a b : Int) (h : okMo (a, b) = true) : readMo (some (putMo a b)) = ((a, b), 0) := by
  have h2 := (okMo_iff a b).1 h
  obtain ⟨a0, a1, b0, b1⟩ := h2
  have e1 : numM (some (putMo a b)) = (a.toNat, some (putL b.toNat)) := numM_put a.toNat (by omega) _
  have e2 : numM (some (putL b.toNat)) = (b.toNat, some []) := by
    have := numM_put b.toNat (by omega) []
    rwa [List.append_nil] at this
  unfold readMo
  rw [e1]
  simp only
  rw [e2]
  simp only
  rw [show ((a.toNat : Nat) : Int) = a by omega, show ((b.toNat : Nat) : Int) = b by omega, if_neg (by simp), if_pos h]
theorem putMo_small (a b : Int) (h : okMo (a, b) = true) : (putMo a b).length ≤ 18 := by
  have h2 := (okMo_iff a b).1 h
  have l1 := putL_small a.toNat (by omega)
  have l2 := putL_small b.toNat (by omega)
  unfold putMo
  rw [List.length_append]
  omega
/-- What Put answers, either way. -/
def PutAny (a b : Int) (w : World) (e : Ending) (w' : World) : Prop :=
  ∃ P ez A c g, e = .returned (.tuple #[.slice A P.length c, .int .i64 ez]) ∧ SlB w' g A P ∧ P.length ≤ c ∧ c ≤ maxLen ∧ Below w.heap.size w w' ∧ ((okMo (a, b) = true ∧ P = putMo a b ∧ ez = 0) ∨ (okMo (a, b) = false ∧ P = [] ∧ ez = 40))
theorem mput_any (a b : Int) (w : World) : Calls Try.prog 58 #[.agg #[.int .i64 a, .int .i64 b]] w (PutAny a b w) := by
  cases h : okMo (a, b)
  · refine (mput_no a b w h).mono ?_
    rintro e w' ⟨rfl, hb⟩
    exact ⟨[], 40, none, 0, 0, rfl, SlB.nil _ _ _, Nat.le_refl _, by decide, hb, .inr ⟨h, rfl, rfl⟩⟩
  · refine (mput_ok a b w h).mono ?_
    rintro e w' ⟨A, c, rfl, o, hb⟩
    obtain ⟨g, -, s, -⟩ := SlB.of_own o
    obtain ⟨q1, q2⟩ := own_cap o
    exact ⟨putMo a b, 0, A, c, g, rfl, s, q1, q2, hb, .inl ⟨h, rfl, rfl⟩⟩
set_option maxRecDepth 100000 in
set_option maxHeartbeats 4000000 in
theorem codes_in (x1 x2 : Int) (A : Option Addr) (g : Nat) (l : List UInt8) (c : Nat) (w : World) (hin : InB w A g l c) (hl : l.length ≤ 1000) :
    Calls Try.prog 13 #[.agg #[.int .i64 x1, .int .i64 x2], .slice A l.length c] w (LawPost w) := by
  obtain ⟨hs, hlc, hc⟩ := hin
  have d1 : decide ((1000 : Int) < (l.length : Int)) = false := by simp; omega
  have KA := Blk.new w 58 #[.int .i64 x1, .int .i64 x2]
  have X0 := Lib.hid (show Cells _ [(w.heap.size, .int .i64 x1, .int .i64 x2)] from fun p hp => by
    simp only [List.mem_cons, List.not_mem_nil, or_false] at hp
    subst hp
    exact ⟨KA.lt, KA.cell 0, KA.cell 1⟩)
  have H0 := Lib.hid (alloc_below w (.cells #[.int .i64 x1, .int .i64 x2] 58))
  have SL := Lib.hid hs
  have LM := Lib.hid (show l.length ≤ 70368744177664 by omega)
  have P1 := Lib.hid (fun W => mput_any x1 x2 W)
  clear KA hs
  go_enter Try.func13, Try.ntmps13
  go_wp2_with fail
  refine (P1.out _).mono ?_; rintro e w1 ⟨P, ez, A1, c1, g1, rfl, s1, q1, q2, b1, hcase⟩
  have X1 := Lib.hid (X0.out.below b1)
  have H1 := Lib.hid (below_trans H0.out b1)
  have S1 := Lib.hid s1
  have HC := Lib.hid hcase
  have Q1 := Lib.hid q1
  have Q2 := Lib.hid q2
  clear s1 b1 hcase q1 q2 X0 H0
  go_wp2_with fail
  refine (from_any A c g l w1 (SL.out.below H1.out fun h => h) LM.out).mono ?_
  rintro e w2 ⟨gr, hr, rfl, hgr, hhr, r2, b2⟩
  obtain ⟨z1, z2, ze, hz⟩ : ∃ z1 z2 ze, readMo (some l) = ((z1, z2), ze) := ⟨_, _, _, rfl⟩
  have PR := Lib.hid (mread_at gr hr (some l) w2 r2)
  rw [hz] at PR
  have HZ := Lib.hid hz
  have B2 := Lib.hid b2
  clear r2 b2 hz
  go_wp2_with fail
  refine PR.out.mono ?_
  rintro e w3 ⟨rfl, b3'⟩
  simp only
  have b3 : Below w1.heap.size w1 w3 := B2.out.trans (b3' _ hgr B2.out.size)
  have X3 := Lib.hid (X1.out.below b3)
  have H3 := Lib.hid (below_trans H1.out b3)
  have S3 := Lib.hid (S1.out.below b3 fun h => h)
  clear b3 b3' X1 H1 S1 B2 PR hgr hhr
  have bx := alloc_below w3 (.cells #[.int .i64 z1, .int .i64 z2] 58)
  have hE := below_trans bx (alloc_below _ (.cells #[] 5))
  have he := empty_own (w3.alloc (.cells #[.int .i64 z1, .int .i64 z2] 58)) 5
  rw [World.size_alloc] at he
  have HE := Lib.hid he
  clear he
  have HR := Lib.hid ((SL.out.below (below_trans H3.out hE) fun h => h).reads (n := l.length) rfl)
  have BE := Lib.hid hE
  clear bx hE
  go_wp2_with (at_builtin; (refine wpList_appB _ rfl (.tmp 31) (.tmp 32) _ rfl Try.underlying34 info_b HE.out HR.out c rfl rfl (by omega) (by simp) ?_); intro A4 c4 w4 o4 gr4; rw [Nat.zero_add, List.nil_append] at o4; have O4 := Lib.hid o4; have G4 := Lib.hid gr4; clear o4 gr4)
  have b34 : Below (w3.alloc (.cells #[.int .i64 z1, .int .i64 z2] 58)).heap.size (w3.alloc (.cells #[.int .i64 z1, .int .i64 z2] 58)) w4 := ((Below.refl _ _).alloc (Nat.le_refl _) _).grown (Grew.by_ G4.out) (by simp) (by simp [Value.ownBlock])
  have hlt4 : w3.heap.size + 1 < w4.heap.size := by have := (Grew.by_ G4.out).size; simp only [World.size_alloc] at this; omega
  have X4 := Lib.hid (X3.out.next b34)
  have H4 := Lib.hid (below_trans H3.out (below_trans (alloc_below _ _) b34))
  have S4 := Lib.hid (S3.out.below (below_trans (alloc_below _ _) b34) fun h => h)
  obtain ⟨h4, hb4, hl4, s4⟩ := own_slb O4.out hlt4
  obtain ⟨q41, q42⟩ := own_cap O4.out
  clear b34 X3 H3 S3 HE HR BE G4
  have hx : RdAt 53 (w4.alloc (.cells #[.slice A4 l.length c4, .bool false] 53)) w4.heap.size h4 (some l) :=
    ⟨A4, c4, l, Blk.new w4 _ _, by omega, q41, q42, s4.keep' fun hh => Below.heap_alloc w4 _ _ hh, fun r e => (Option.some.inj e).symm⟩
  have PR2 := Lib.hid (rread_at _ _ (some l) _ hx (fun r e => by rw [← Option.some.inj e]; exact LM.out))
  rw [HZ.out] at PR2
  clear hx s4 O4 hb4 hl4 q41 q42 hlt4
  refine PR2.out.mono ?_
  rintro e w5 ⟨rfl, b5'⟩
  simp only
  have b5 : Below w4.heap.size w4 w5 := (alloc_below w4 _).trans (b5' _ (Nat.le_refl _) (by simp))
  have X5 := Lib.hid (X4.out.below b5)
  have H5 := Lib.hid (below_trans H4.out b5)
  have S5 := Lib.hid (S4.out.below b5 fun h => h)
  clear b5 b5' X4 H4 S4 PR2
  go_wp2_with fail
  refine (mread_nil _).mono ?_
  rintro e w6 ⟨rfl, b6⟩
  have X6 := Lib.hid (X5.out.next b6)
  have H6 := Lib.hid (below_trans H5.out (below_trans (alloc_below _ _) b6))
  have S6 := Lib.hid (S5.out.below (below_trans (alloc_below _ _) b6) fun h => h)
  clear b6 X5 H5 S5
  go_wp2_with fail
  refine (lives_any _).mono ?_; rintro e w7 ⟨rfl, b7⟩
  have X7 := Lib.hid (X6.out.next b7)
  have H7 := Lib.hid (below_trans H6.out (below_trans (alloc_below _ _) b7))
  have S7 := Lib.hid (S6.out.below (below_trans (alloc_below _ _) b7) fun h => h)
  clear b7 X6 H6 S6
  obtain ⟨la0, lb0, ca0, cb0⟩ := X7.out.at_ 0 rfl
  obtain ⟨la1, lb1, ca1, cb1⟩ := X7.out.at_ 1 rfl
  obtain ⟨la2, lb2, ca2, cb2⟩ := X7.out.at_ 2 rfl
  obtain ⟨la3, lb3, ca3, cb3⟩ := X7.out.at_ 3 rfl
  have PC := Lib.hid (fun W => rcheck_any x1 x2 W)
  go_wp2_with fail
  refine (PC.out _).mono ?_; rintro e w8 ⟨rfl, b8⟩
  have X8 := Lib.hid (X7.out.below b8)
  have H8 := Lib.hid (below_trans H7.out b8)
  have S8 := Lib.hid (S7.out.below b8 fun h => h)
  clear b8 X7 H7 S7 PC
  clear la0 lb0 ca0 cb0 la1 lb1 ca1 cb1 la2 lb2 ca2 cb2 la3 lb3 ca3 cb3
  rcases HC.out with ⟨hok, rfl, rfl⟩ | ⟨hok, rfl, rfl⟩
  · rw [hok]
    have hsm := putMo_small x1 x2 hok
    go_wp2_with fail
    refine (from_any A1 c1 g1 (putMo x1 x2) w8 S8.out (by omega)).mono ?_
    rintro e w9 ⟨gr9, hr9, rfl, hgr9, hhr9, r9, b9⟩
    have PR3 := Lib.hid (mread_at gr9 hr9 _ w9 r9)
    rw [readMo_put x1 x2 hok] at PR3
    have PP := Lib.hid (fun W => rput_mo x1 x2 W hok)
    have B9 := Lib.hid b9
    clear r9 b9
    go_wp2_with fail
    refine PR3.out.mono ?_
    rintro e w10 ⟨rfl, b10'⟩
    simp only
    have b10 : Below w8.heap.size w8 w10 := B9.out.trans (b10' _ hgr9 B9.out.size)
    have bz := alloc_below w10 (.cells #[.int .i64 x1, .int .i64 x2] 58)
    have XA := Lib.hid ((X8.out.below b10).next (t := 58) (v0 := .int .i64 x1) (v1 := .int .i64 x2) (Below.refl _ _))
    have HA := Lib.hid (below_trans H8.out (below_trans b10 bz))
    have SA := Lib.hid (S8.out.below (below_trans b10 bz) fun h => h)
    clear b10 b10' X8 H8 S8 PR3 B9 bz hgr9 hhr9
    go_wp2_with fail
    obtain ⟨-, -, z0, z1'⟩ := XA.out.at_ 0 rfl
    obtain ⟨-, -, m0, m1⟩ := XA.out.at_ 4 rfl
    refine wp_region_R (R := RB) (n := 20) (by kernel_rfl) rfl ?_
    refine batchB [0, 1, 2, 3, 4, 5] (fuel := 14) rfl (by kernel_rfl) (by kernel_rfl) (fun _ _ d _ _ h => by cases d <;> exact h) ?_
    repeat (first | ((with_reducible apply wq0); rfl; rfl; rfl; intro K hK; go_big_quiet_op; refine hK _ ?_; clear hK K) | ((with_reducible apply wq1); rfl; rfl; rfl; rfl; rfl; rfl; intro K hK; go_big_quiet_op; refine hK _ ?_; clear hK K) | ((with_reducible apply wqs); rfl; rfl; rfl; rfl; rfl; rfl; simp only [Act.put, List.setIfInBounds_toArray, List.set_cons_zero, List.set_cons_succ]) | ((with_reducible apply wqu); rfl; rfl; rfl; rfl; rfl; simp only [same]))
    refine wqIdx_conv rfl rfl rfl rfl (conv_later (w1 := (w10.alloc (.cells #[.int .i64 x1, .int .i64 x2] 58)).drew) SA.out c1 rfl) ?_
    simp only [Act.put, List.setIfInBounds_toArray, List.set_cons_zero, List.set_cons_succ]
    refine wqIdx_load rfl rfl rfl rfl (fun W hW => load_mo_at _ _ x1 x2 W (keep_cell hW m0) (keep_cell hW m1)) ?_
    simp only [Act.put, List.setIfInBounds_toArray, List.set_cons_zero, List.set_cons_succ]
    refine wqIdx_nil ?_
    refine wpAnyR_sole (i := 6) rfl (by kernel_rfl) (fun K hK => ?_)
    go_simp
    refine (PP.out _).mono ?_; rintro e w11 ⟨vv, rfl, ow, b11⟩
    obtain ⟨Aw, cw, rfl⟩ := own_form ow
    obtain ⟨gw, -, sw, -⟩ := SlB.of_own ow
    have SW := Lib.hid sw
    refine hK _ _ b11 ?_
    have m0 := keep_cell b11 m0
    have m1 := keep_cell b11 m1
    have z0 := keep_cell b11 z0
    have z1' := keep_cell b11 z1'
    have HF := Lib.hid (below_trans HA.out (Below.of_drew0 b11))
    clear hK K b11 ow sw
    refine batchB [7, 8, 9, 10, 11, 12, 13, 14, 15, 16, 17, 18, 19] (fuel := 0) rfl (by kernel_rfl) (by kernel_rfl) (fun _ _ d _ _ h => by cases d <;> exact h) ?_
    refine wqIdx_conv rfl rfl rfl rfl (conv_later SW.out cw rfl) ?_
    simp only [Act.put, List.setIfInBounds_toArray, List.set_cons_zero, List.set_cons_succ]
    repeat (first | ((with_reducible apply wq0); rfl; rfl; rfl; intro K hK; go_big_quiet_op; refine hK _ ?_; clear hK K) | ((with_reducible apply wq1); rfl; rfl; rfl; rfl; rfl; rfl; intro K hK; go_big_quiet_op; refine hK _ ?_; clear hK K) | ((with_reducible apply wqs); rfl; rfl; rfl; rfl; rfl; rfl; simp only [Act.put, List.setIfInBounds_toArray, List.set_cons_zero, List.set_cons_succ]) | ((with_reducible apply wqu); rfl; rfl; rfl; rfl; rfl; simp only [same]))
    refine wqIdx_load rfl rfl rfl rfl (fun W hW => load_mo_at _ _ x1 x2 W (keep_cell hW z0) (keep_cell hW z1')) ?_
    simp only [Act.put, List.setIfInBounds_toArray, List.set_cons_zero, List.set_cons_succ]
    refine wqIdx_load rfl rfl rfl rfl (fun W hW => load_mo_at _ _ x1 x2 W (keep_cell hW m0) (keep_cell hW m1)) ?_
    simp only [Act.put, List.setIfInBounds_toArray, List.set_cons_zero, List.set_cons_succ]
    repeat (first | ((with_reducible apply wq0); rfl; rfl; rfl; intro K hK; go_big_quiet_op; refine hK _ ?_; clear hK K) | ((with_reducible apply wq1); rfl; rfl; rfl; rfl; rfl; rfl; intro K hK; go_big_quiet_op; refine hK _ ?_; clear hK K) | ((with_reducible apply wqs); rfl; rfl; rfl; rfl; rfl; rfl; simp only [Act.put, List.setIfInBounds_toArray, List.set_cons_zero, List.set_cons_succ]) | ((with_reducible apply wqu); rfl; rfl; rfl; rfl; rfl; simp only [same]))
    refine wqIdx_nil ?_
    refine wpAnyR_done (by kernel_rfl) ?_ _
    go_wp2
    go_ret
    exact ⟨rfl, HF.out⟩
  · rw [hok]
    go_wp2
    go_ret
    exact ⟨rfl, H8.out⟩
theorem codes_any (x1 x2 : Int) (A : Option Addr) (g : Nat) (l : List UInt8) (c : Nat) (w : World) (hin : InB w A g l c) :
    Calls Try.prog 13 #[.agg #[.int .i64 x1, .int .i64 x2], .slice A l.length c] w (LawPost w) := by
  by_cases h : 1000 < l.length
  · have hlm : l.length ≤ 9223372036854775807 := Nat.le_trans hin.2.1 hin.2.2
    have d1 : decide ((1000 : Int) < (l.length : Int)) = true := by simp; omega
    have H0 := Lib.hid (alloc_below w (.cells #[.int .i64 x1, .int .i64 x2] 58))
    clear hin
    go_enter Try.func13, Try.ntmps13
    go_wp2_with fail
    refine (lives_any _).mono ?_; rintro e w1 ⟨rfl, b1⟩
    go_wp2
    go_ret
    exact ⟨rfl, below_trans H0.out b1⟩
  · exact codes_in x1 x2 A g l c w hin (by omega)
end Go.Proofs.Ytalcgkfnjhlnoab
