/- Contracts of package page: Put, and the document's Put. -/
import Derived.Test.YtfilelgbffbnlaaDoorPgA
import Derived.Laws.CopyOwn
namespace Go.Proofs.YtfilelgbffbnlaaDoor
open Go.RowKit

theorem info_u8s : (Tryd.prog.info? 5).map (·.size) = some 1 := by kernel_rfl
theorem pput_arg (n : Int) (A : Option Addr) (l : List UInt8) (c : Nat) (w : World) (h : okTag n = false) :
    Calls Tryd.prog 8 #[.int .i64 n, .slice A l.length c] w fun e w' => e = .returned (.tuple #[.slice none 0 0, .int .i64 1]) ∧ Below w.heap.size w w' := by
  go_enter Tryd.func8, Tryd.ntmps8
  go_wp2_with fail
  refine (mayTag_any n w).mono ?_; rintro e w' ⟨rfl, rfl⟩
  rw [h]
  go_wp2
  go_ret2
  exact ⟨rfl, Below.refl _ _⟩
theorem pput_long (n : Int) (A : Option Addr) (l : List UInt8) (c : Nat) (w : World) (h : okTag n = true) (hl : 43 < l.length) :
    Calls Tryd.prog 8 #[.int .i64 n, .slice A l.length c] w fun e w' => e = .returned (.tuple #[.slice none 0 0, .int .i64 3]) ∧ Below w.heap.size w w' := by
  have d1 : decide ((43 : Int) < (l.length : Int)) = true := by rw [decide_eq_true_eq]; omega
  go_enter Tryd.func8, Tryd.ntmps8
  go_wp2_with fail
  refine (mayTag_any n w).mono ?_; rintro e w' ⟨rfl, rfl⟩
  rw [h]
  go_wp2
  go_ret2
  exact ⟨rfl, Below.refl _ _⟩
theorem splice_zeros (l : List UInt8) (k : Nat) : splice (Byt (List.replicate k 0)) 0 (Byt l) = Byt (l ++ List.replicate (k - l.length) 0) := by
  unfold splice
  rw [List.take_zero, List.nil_append, Byt_append, Byt_length]
  congr 1
  simp [Byt]
theorem slb_of_blk {w : World} {g : Nat} {t : TypeId} {l : List UInt8} (h : Blk w g t (Byt l).toArray) : SlB w g (some ⟨g, 0, none⟩) l := fun _ => ⟨_, rfl, rfl, fun j b hj => by
  have e : (⟨g, 0, none⟩ : Addr).add j = ⟨g, j, none⟩ := by unfold Addr.add; split <;> simp_all
  rw [e, h.cell]
  simp only [List.getElem?_toArray, Byt, List.getElem?_map, hj]
  rfl⟩
set_option maxRecDepth 100000 in
set_option maxHeartbeats 2000000 in
theorem pput_ok (n : Int) (A : Option Addr) (h : Nat) (l : List UInt8) (c : Nat) (w : World) (ht : okTag n = true) (hs : SlB w h A l) (hl : l.length ≤ 43) (hlc : l.length ≤ c) (hc : c ≤ maxLen) (hh : HalvesAt w) :
    Calls Tryd.prog 8 #[.int .i64 n, .slice A l.length c] w (OwnOK w (pageM n.toNat l)) := by
  have h2 := (okTag_iff n).1 ht
  have d1 : decide ((43 : Int) < (l.length : Int)) = false := by rw [decide_eq_false_iff_not]; omega
  have PF := Lib.hid (fix_yes n 8 w (by omega) ⟨by omega, by decide, by decide, by show _ < 256 ^ 8; omega⟩)
  have hfl := be_length 8 n.toNat
  have hpg : pageM n.toNat l = sealM (be 8 n.toNat ++ [UInt8.ofNat l.length] ++ (l ++ List.replicate (43 - l.length) 0)) ++ be 8 n.toNat := by
    unfold pageM pageBody
    rw [List.append_assoc]
  rw [show (8 : Int).toNat = 8 from rfl] at PF
  generalize be 8 n.toNat = F at PF hfl hpg
  have HPG := Lib.hid hpg
  have HFL := Lib.hid hfl
  have hmk := fun W => run_make_row' (P := Tryd.prog) 22 5 (.int .u8 0) 1 Tryd.underlying22 info_u8 rfl .i64 .i64 43 (by omega) (by omega) W
  rw [made_byt] at hmk
  simp only [show ((43 : Nat) : Int) = 43 from rfl] at hmk
  obtain ⟨Z, hZ⟩ : ∃ Z, Z = Byt (List.replicate 43 0) := ⟨_, rfl⟩
  rw [← hZ] at hmk
  have HZ0 := Lib.hid (show splice Z 0 (Byt l) = Byt (l ++ List.replicate (43 - l.length) 0) by rw [hZ, splice_zeros])
  have hZl : 0 + (Byt l).length ≤ Z.length := by rw [hZ, Byt_length, Byt_length, List.length_replicate]; omega
  have HZL := Lib.hid hZl
  clear hZ hZl
  have HS := Lib.hid hs
  have HH := Lib.hid hh
  clear hs hpg hh hfl
  unfold maxLen at hc
  go_enter Tryd.func8, Tryd.ntmps8
  go_wp2_with fail
  refine (mayTag_any n w).mono ?_; rintro e w' ⟨rfl, rfl⟩
  rw [ht]
  go_wp2_with fail
  refine PF.out.mono ?_; rintro e w1 ⟨v1, rfl, o1, b1⟩
  obtain ⟨A1, c1, rfl⟩ := own_form o1
  have O1 := Lib.hid o1
  have B1 := Lib.hid b1
  have HZ := Lib.hid (Blk.new w1 5 Z.toArray)
  have BZ := Lib.hid (b1.alloc b1.size (.cells Z.toArray 5))
  have SZ := Lib.hid ((HS.out.below b1 fun h => h).below (alloc_below w1 (.cells Z.toArray 5)) fun h => h)
  clear o1 b1
  go_wp2_with (refine wpList_copy_splice rfl (.tmp 24) (.tmp 25) 22 22 rfl 5 Tryd.underlying22 info_u8s _ _ _ _ _ _ rfl rfl w1.heap.size 0 Z 5 HZ.out (Byt l) (by rw [Byt_length]; exact (Nat.min_eq_left hl).symm) (fun hp => ⟨rfl, by obtain ⟨ad, e, -, hx⟩ := (SZ.out.reads (n := l.length) rfl).2 (by rw [Byt_length] at hp; exact hp); exact ⟨ad, e, hx⟩⟩) HZL.out (Byt_one l) w1.heap.size _ (Below.refl _ _) (Nat.le_refl _) ?_; intro w2 hg2 hb2)
  obtain ⟨gF, hgF, sF, -⟩ := SlB.of_own O1.out
  obtain ⟨qF1, qF2⟩ := own_cap O1.out
  have hX : Blk w2 w1.heap.size 5 (Byt (l ++ List.replicate (43 - l.length) 0)).toArray := by rw [← HZ0.out]; exact hg2.out
  have hXl : (l ++ List.replicate (43 - l.length) (0 : UInt8)).length = 43 := by rw [List.length_append, List.length_replicate]; omega
  have b12 : Below w1.heap.size w1 w2 := ((Below.refl _ _).alloc (Nat.le_refl _) _).trans hb2
  have bw2 := below_trans B1.out b12
  have o3 := one_own w2 (l.length : Int) (UInt8.ofNat l.length) (by simp; omega) 5
  obtain ⟨g3, hg3, s3, -⟩ := SlB.of_own o3
  have b3 := alloc_below w2 (.cells #[.int .u8 (l.length : Int)] 5)
  have HG := Blk.new (w2.alloc (.cells #[.int .u8 (l.length : Int)] 5)) 22 #[.slice A1 F.length c1, .slice (some ⟨w2.heap.size, 0, none⟩) 1 1, .slice (some ⟨w1.heap.size, 0, none⟩) 43 43]
  have b4 := below_trans b3 (alloc_below (w2.alloc (.cells #[.int .u8 (l.length : Int)] 5)) (.cells #[.slice A1 F.length c1, .slice (some ⟨w2.heap.size, 0, none⟩) 1 1, .slice (some ⟨w1.heap.size, 0, none⟩) 43 43] 22))
  have P5 := Lib.hid (concatU8_three A1 gF F c1 (some ⟨w2.heap.size, 0, none⟩) g3 [UInt8.ofNat l.length] 1 (some ⟨w1.heap.size, 0, none⟩) w1.heap.size (l ++ List.replicate (43 - l.length) 0) 43 (w2.heap.size + 1) _
    ((sF.below b12 fun h => h).below b4 fun h => h) (s3.below (alloc_below _ _) fun h => h) (((slb_of_blk hX)).below b4 fun h => h) (by rw [HFL.out]; omega) (by simp) (by rw [hXl]; omega)
    (by rw [hXl]; rw [World.size_alloc] at HG; exact HG))
  have b5 := below_trans bw2 b4
  have B5 := Lib.hid b5
  have HH5 := Lib.hid (HH.out.below b5 HH.out.pos)
  have SF := Lib.hid ((sF.below b12 fun h => h).below b4 fun h => h)
  clear sF s3 o3 b3 b4 b5 hX HG b12 bw2 hg2 hb2 hXl
  refine P5.out.mono ?_; rintro e w5 ⟨A5, c5, rfl, o5, b5⟩
  obtain ⟨g5, hg5, s5, -⟩ := SlB.of_own o5
  obtain ⟨q51, q52⟩ := own_cap o5
  have B6 := Lib.hid (below_trans B5.out b5)
  have HH6 := Lib.hid (HH5.out.below b5 HH5.out.pos)
  have SF6 := Lib.hid (SF.out.below b5 fun h => h)
  have hbl : (F ++ [UInt8.ofNat l.length] ++ (l ++ List.replicate (43 - l.length) 0)).length = 52 := by
    rw [List.length_append, List.length_append, List.length_append, List.length_replicate, HFL.out]
    simp only [List.length_cons, List.length_nil]
    omega
  have hpg := HPG.out
  generalize F ++ [UInt8.ofNat l.length] ++ (l ++ List.replicate (43 - l.length) 0) = body at *
  have P7 := Lib.hid (seal_any A5 g5 body c5 w5 HH6.out s5 q51 q52 (by omega))
  have hsl := sealM_length body
  rw [hbl] at hsl
  have HPG := Lib.hid hpg
  have HSL := Lib.hid hsl
  clear s5 o5 b5 hpg hsl hbl
  go_wp2_with fail
  refine P7.out.mono ?_; rintro e w7 ⟨A7, c7, rfl, o7, b7⟩
  have O7 := Lib.hid o7
  have B7 := Lib.hid b7
  have HR := Lib.hid (SlB.reads (n := F.length) (SF6.out.below b7 fun h => h) rfl)
  have hsz : (sealM body).length + F.length ≤ 140737488355328 := by rw [HSL.out, HFL.out]; omega
  generalize sealM body = sb at *
  clear o7 b7
  go_wp2_with (at_builtin; (refine wpList_appB _ rfl (.tmp 36) (.tmp 37) _ rfl Tryd.underlying22 info_u8 O7.out HR.out c1 rfl rfl hsz B7.out.size ?_); intro A8 c8 w8 o8 gr8; have O8 := Lib.hid o8; have G8 := Lib.hid gr8; clear o8 gr8)
  go_ret2
  rw [HPG.out]
  have B8 : Below w.heap.size w w8 := below_trans B6.out ((B7.out).grown (Grew.by_ G8.out) B7.out.size fun i hi => (World.ownsRow.lt O7.out i hi).1)
  refine ⟨_, rfl, ?_, B8⟩
  rw [List.length_append]
  exact own_mono O8.out B6.out.size
theorem rep_succ (k : Nat) : List.replicate (k + 1) (0 : UInt8) = List.replicate k 0 ++ [0] := by rw [List.replicate_succ']
set_option maxRecDepth 100000 in
set_option maxHeartbeats 4000000 in
theorem rpput_ok (n : Int) (A : Option Addr) (h : Nat) (l : List UInt8) (c : Nat) (w : World) (ht : okTag n = true) (hs : SlB w h A l) (hl : l.length ≤ 43) (hlc : l.length ≤ c) (hc : c ≤ maxLen) :
    Calls Tryd.prog 12 #[.int .i64 n, .slice A l.length c] w (OwnB w (pageM n.toNat l)) := by
  have h2 := (okTag_iff n).1 ht
  have PF := Lib.hid (rfix_i n 8 n.toNat 8 w (by omega) rfl (by omega) (by decide) (by decide))
  unfold RefFix at PF
  have hfl := be_length 8 n.toNat
  have hpg : pageM n.toNat l = sealM (be 8 n.toNat ++ [UInt8.ofNat l.length] ++ l ++ List.replicate (43 - l.length) 0) ++ be 8 n.toNat := by
    unfold pageM pageBody
    simp only [List.append_assoc]
  generalize be 8 n.toNat = F at PF hfl hpg
  have HPG := Lib.hid hpg
  have HFL := Lib.hid hfl
  have HS := Lib.hid hs
  clear hs hpg hfl
  unfold maxLen at hc
  go_enter Tryd.func12, Tryd.ntmps12
  go_wp2_with fail
  refine PF.out.mono ?_; rintro e w1 ⟨A1, c1, rfl, o1, b1⟩
  obtain ⟨gF, hgF, sF, -⟩ := SlB.of_own o1
  have B1 := Lib.hid b1
  have SF := Lib.hid sF
  have HE := Lib.hid (empty_own w1 5)
  have HR := Lib.hid (SlB.reads (n := 8) (sF.below (alloc_below w1 (.cells #[] 5)) fun h => h) HFL.out.symm)
  clear o1 b1 sF
  have hx5 : (l.length : Int) = ((UInt8.ofNat l.length).toNat : Int) := by simp; omega
  have HX5 := Lib.hid hx5
  clear hx5
  go_wp2_with (at_builtin; first
    | ((refine wpList_appB _ rfl (.tmp 13) (.tmp 14) _ rfl Tryd.underlying22 info_u8 HE.out HR.out c1 rfl rfl (by omega) (by simp) ?_); intro A2 c2 w2 o2 gr2; rw [Nat.zero_add, List.nil_append] at o2; have O2 := Lib.hid o2; have B2 := Lib.hid (show Below w1.heap.size w1 w2 from ((Below.refl _ _).alloc (Nat.le_refl _) _).grown (Grew.by_ gr2) (by simp) (by simp [Value.ownBlock])); clear o2 gr2)
    | ((refine wpList_appB _ rfl (.tmp 16) (.tmp 20) _ rfl Tryd.underlying22 info_u8 (World.ownsRow.alloc O2.out _) (own_bytes_reads (one_own w2 (l.length : Int) (UInt8.ofNat l.length) HX5.out 5)) 1 rfl rfl (by omega) (by rw [World.size_alloc]; have := B2.out.size; omega) ?_); intro A3 c3 w3 o3 gr3; have O3 := Lib.hid o3; have B3 := Lib.hid (show Below w1.heap.size w1 w3 from (B2.out.alloc B2.out.size _).grown (Grew.by_ gr3) (by rw [World.size_alloc]; have := B2.out.size; omega) fun i hi => (World.ownsRow.lt O2.out i hi).1); have HR3 := Lib.hid (SlB.reads (n := l.length) (HS.out.below (below_trans B1.out B3.out) fun h => h) rfl); clear o3 gr3)
    | ((refine wpList_appB _ rfl (.tmp 22) (.tmp 23) _ rfl Tryd.underlying22 info_u8 O3.out HR3.out c rfl rfl (by omega) (by have := B3.out.size; omega) ?_); intro A4 c4 w4 o4 gr4; have O4 := Lib.hid o4; have B4 := Lib.hid (show Below w1.heap.size w1 w4 from B3.out.grown (Grew.by_ gr4) B3.out.size fun i hi => (World.ownsRow.lt O3.out i hi).1); clear o4 gr4))
  have o4 := O4.out
  obtain ⟨pre, hpre⟩ : ∃ pre, pre = F ++ [UInt8.ofNat l.length] ++ l := ⟨_, rfl⟩
  rw [← hpre] at o4
  have HPG := HPG.out
  rw [← hpre] at HPG
  have HPG := Lib.hid HPG
  have hpl : pre.length = 9 + l.length := by rw [hpre, List.length_append, List.length_append, HFL.out]; rfl
  have HPL := Lib.hid hpl
  have O4 := Lib.hid o4
  clear o4 hpre hpl
  go_loopw [7] (fun o wr => ∃ (m : Nat) (A5 : Option Addr) (c5 : Nat), 9 + l.length ≤ m ∧ m ≤ 52 ∧ o = .slice A5 m c5 ∧ wr.ownsRow w1.heap.size 5 1 (.slice A5 m c5) m (Byt (pre ++ List.replicate (m - (9 + l.length)) 0)) ∧ Below w1.heap.size w1 wr) (fun o _ => match o with | .slice _ n _ => 52 - n | _ => 0)
  case atStart => exact ⟨9 + l.length, A4, c4, by omega, by omega, rfl, by rw [Nat.sub_self, List.replicate_zero, List.append_nil]; exact O4.out, B4.out⟩
  case round =>
    obtain ⟨m, A5, c5, hm1, hm2, rfl, ho, hb⟩ := hrel
    have HO := Lib.hid ho
    have HB := Lib.hid hb
    clear ho hb
    by_cases h52 : m < 52
    · have d1 : decide ((m : Int) < 52) = true := by rw [decide_eq_true_eq]; omega
      go_wp2_with (at_builtin; (refine wpList_appB _ rfl (.tmp 28) (.tmp 29) _ rfl Tryd.underlying22 info_u8 (World.ownsRow.alloc HO.out _) (own_bytes_reads (one_own wr 0 0 rfl 5)) 1 rfl rfl (by omega) (by rw [World.size_alloc]; have := HB.out.size; omega) ?_); intro A6 c6 w6 o6 gr6; have O6 := Lib.hid o6; have B6 := Lib.hid (show Below w1.heap.size w1 w6 from (HB.out.alloc HB.out.size _).grown (Grew.by_ gr6) (by rw [World.size_alloc]; have := HB.out.size; omega) fun i hi => (World.ownsRow.lt HO.out i hi).1); clear o6 gr6)
      refine ⟨⟨m + 1, A6, c6, by omega, by omega, rfl, ?_, B6.out⟩, by show 52 - (m + 1) < 52 - m; omega⟩
      rw [show m + 1 - (9 + l.length) = m - (9 + l.length) + 1 by omega, rep_succ, ← List.append_assoc]
      exact O6.out
    · obtain rfl : m = 52 := by omega
      have hho := HO.out
      rw [show 52 - (9 + l.length) = 43 - l.length by omega] at hho
      obtain ⟨body, hbo⟩ : ∃ body, body = pre ++ List.replicate (43 - l.length) 0 := ⟨_, rfl⟩
      have hbl : body.length = 52 := by rw [hbo, List.length_append, List.length_replicate, HPL.out]; omega
      have hpg2 := HPG.out
      rw [← hbo] at hho hpg2
      obtain ⟨g5, hg5, s5, -⟩ := SlB.of_own hho
      obtain ⟨q51, q52⟩ := own_cap hho
      have P7 := Lib.hid (rseal_any A5 g5 body c5 wr s5 (by omega) q52 (by omega))
      rw [hbl] at P7
      have hsl := sealM_length body
      rw [hbl] at hsl
      have HPG2 := Lib.hid hpg2
      have HSL := Lib.hid hsl
      clear s5 hho hpg2 hsl hbl hbo
      go_wp2_with fail
      refine P7.out.mono ?_; rintro e w7 ⟨A7, c7, rfl, o7, b7⟩
      have O7 := Lib.hid o7
      have B7 := Lib.hid b7
      have HR7 := Lib.hid (SlB.reads (n := 8) ((SF.out.below HB.out fun h => h).below b7 fun h => h) HFL.out.symm)
      have hsz : (sealM body).length + 8 ≤ 140737488355328 := by rw [HSL.out]; omega
      generalize sealM body = sb at *
      clear o7 b7
      go_wp2_with (at_builtin; (refine wpList_appB _ rfl (.tmp 33) (.tmp 34) _ rfl Tryd.underlying22 info_u8 O7.out HR7.out c1 rfl rfl hsz B7.out.size ?_); intro A8 c8 w8 o8 gr8; have O8 := Lib.hid o8; have G8 := Lib.hid gr8; clear o8 gr8)
      go_ret
      rw [HPG2.out]
      have B8 : Below w.heap.size w w8 := below_trans B1.out (below_trans HB.out ((B7.out).grown (Grew.by_ G8.out) B7.out.size fun i hi => (World.ownsRow.lt O7.out i hi).1))
      refine ⟨A8, c8, ?_, ?_, B8⟩
      · rw [List.length_append, HFL.out]; rfl
      · rw [List.length_append, HFL.out]
        exact own_mono O8.out (Nat.le_trans B1.out.size HB.out.size)
end Go.Proofs.YtfilelgbffbnlaaDoor
