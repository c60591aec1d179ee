/- The law of package entry about order: the entries of each moment in order, one moment behind the other. -/
import Derived.Test.YtfilelgbffbnlaaEnL
import Derived.Test.YtfilelgbffbnlaaOpE
import Derived.Test.YtfilelgbffbnlaaRoF
namespace Go.Proofs.Ytfilelgbffbnlaa
open Go.RowKit Go.Sort

set_option maxRecDepth 100000 in
set_option maxHeartbeats 2000000 in
theorem rrc_same_any (A : Option Addr) (h : Nat) (a : List (Int × Int)) (c : Nat) (B : Option Addr) (g : Nat) (b : List (Int × Int)) (d : Nat) (w : World) (ha : SlP w h A a) (hb : SlP w g B b) (hl : a.length = b.length) (hc : a.length ≤ c) (hd : b.length ≤ d) (hcm : c ≤ maxLen) (hdm : d ≤ maxLen) (la : a.length ≤ 10000) (lb : b.length ≤ 10000) :
    Calls Try.prog 52 #[.slice A a.length c, .slice B b.length d] w fun e w' => e = .returned (.bool (srt a == srt b)) ∧ Below w.heap.size w w' := by
  have P1 := Lib.hid (rrc_sort_any a.length A h a c w (Nat.le_refl _) ha hc la hcm)
  have P2 := Lib.hid (fun W (k : Below w.heap.size w W) => rrc_sort_any b.length B g b d W (Nat.le_refl _) (hb.below k) hd lb hdm)
  have PX := Lib.hid (fun W A1 A2 h1 h2 c1 c2 (s1 : SlP W h1 A1 (srt a)) (s2 : SlP W h2 A2 (srt b)) => rexact_any A1 A2 h1 h2 (srt a) (srt b) c1 c2 W s1 s2 (by rw [srt_length]; omega) (by rw [srt_length]; omega))
  have d1 : ((a.length : Int) == (b.length : Int)) = true := by simp; omega
  clear ha hb hc hd hcm hdm hl
  obtain ⟨z, hz⟩ : ∃ z, (srt a == srt b) = z := ⟨_, rfl⟩
  rw [hz] at PX ⊢
  clear hz
  go_enter Try.func52, Try.ntmps52
  go_wp2_with fail
  refine P1.out.mono ?_; rintro e w1 ⟨A1, c1, rfl, ⟨h1, s1⟩, b1, -⟩
  have S1 := Lib.hid s1
  have B1 := Lib.hid b1
  clear s1 b1
  go_wp2_with fail
  refine (P2.out _ B1.out).mono ?_; rintro e w2 ⟨A2, c2, rfl, ⟨h2, s2⟩, b2, -⟩
  have S1 := Lib.hid (S1.out.below b2)
  have S2 := Lib.hid s2
  have B2 := Lib.hid (below_trans B1.out b2)
  clear s2 b2
  go_wp2_with fail
  refine (PX.out _ _ _ _ _ _ _ S1.out S2.out).mono ?_; rintro e w3 ⟨rfl, b3⟩
  have B3 := Lib.hid (below_trans B2.out b3)
  go_wp2
  go_ret
  exact ⟨rfl, B3.out⟩
/-- The records at a moment. -/
def atM (l : List En) (m : Int × Int) : List (Int × Int) := (l.filter fun x => x.1 == m).map (·.2)
theorem atM_sorted (l : List En) (m : Int × Int) (h : SrtPE l) : sortedB (atM l m) = true := by
  have h1 : (atM l m).Pairwise fun a b => cmpM a b ≤ 0 := by
    unfold atM
    rw [List.pairwise_map]
    refine List.Pairwise.imp_of_mem ?_ (h.filter _)
    intro a b ha hb hab
    have e1 : a.1 = m := by simpa using (List.mem_filter.1 ha).2
    have e2 : b.1 = m := by simpa using (List.mem_filter.1 hb).2
    unfold leE at hab
    rw [decide_eq_true_eq] at hab
    have h0 : cmpM a.1 b.1 = 0 := (cmpM_zero _ _).2 (by rw [e1, e2]; exact ⟨rfl, rfl⟩)
    have he : cmpE a b = orI (cmpM a.1 b.1) (cmpM a.2 b.2) := rfl
    rw [he, h0] at hab
    exact hab
  refine (sortedB_iff _).2 fun i x y hx hy => ?_
  obtain ⟨hi, ex⟩ := List.getElem?_eq_some_iff.1 hx
  obtain ⟨hj, ey⟩ := List.getElem?_eq_some_iff.1 hy
  have := List.pairwise_iff_getElem.1 h1 i (i + 1) hi hj (Nat.lt_succ_self i)
  rw [ex, ey] at this
  exact this
theorem atM_perm (l : List En) (m : Int × Int) : (atM (srtE l) m).Perm (atM l m) := ((srtE_perm l).filter _).map _
set_option maxRecDepth 100000 in
set_option maxHeartbeats 4000000 in
theorem enOr_any (A : Option Addr) (h : Nat) (l : List En) (c : Nat) (m1 m2 : Int) (w : World) (hle : InE w A h l c) :
    Calls Try.prog 10 #[.slice A l.length c, .agg #[.int .i64 m1, .int .i64 m2]] w fun e w' => e = .returned (.bool true) ∧ Below w.heap.size w w' := by
  have PL := Lib.hid (fun W => lives_any W)
  have ba := alloc_below w (.cells #[.int .i64 m1, .int .i64 m2] 56)
  have kb := Blk.new w 56 #[.int .i64 m1, .int .i64 m2]
  have hS := hle.1.below ba
  obtain ⟨w0, hw0⟩ : ∃ w0, w0 = w.alloc (.cells #[.int .i64 m1, .int .i64 m2] 56) := ⟨_, rfl⟩
  rw [← hw0] at ba kb hS
  have BA := Lib.hid ba
  have KB := Lib.hid kb
  have HS := Lib.hid hS
  have HW := Lib.hid hw0
  clear hle ba kb hS hw0
  by_cases h1 : 500 < l.length
  · have d1 : decide ((500 : Int) < (l.length : Int)) = true := by rw [decide_eq_true_eq]; omega
    go_enter Try.func10, Try.ntmps10
    go_wp2_with fail
    refine (PL.out _).mono ?_; rintro e w1 ⟨rfl, b1⟩
    go_wp2
    go_ret
    rw [← HW.out] at b1
    exact ⟨rfl, below_trans BA.out b1⟩
  · have hl1 : l.length ≤ 500 := by omega
    have d1 : decide ((500 : Int) < (l.length : Int)) = false := by rw [decide_eq_false_iff_not]; omega
    have P0 := Lib.hid (ren_may_any A h l c w0 HS.out (by omega))
    clear h1
    by_cases h0 : mayEs l = 0
    · rw [h0] at P0
      have P1 := Lib.hid (fun W (b : Below w0.heap.size w0 W) => show Calls Try.prog 30 #[.slice A l.length c] W (fun e w' => ∃ A' c', e = .returned (.tuple #[.slice A' (srtE l).length c', .int .i64 0]) ∧ RowE W (srtE l) A' c' w') from (en_sort_any A h l c W (HS.out.below b) (by omega)).mono fun e w' => by
        rintro (⟨hz, -⟩ | ⟨-, A', c', he, hr⟩)
        · exact absurd h0 hz
        · exact ⟨A', c', by rw [srtE_length]; exact he, hr⟩)
      have P2 := Lib.hid (fun W g' A' c' (s : SlK encE W g' A' (srtE l)) => en_at_any A' g' (srtE l) c' (m1, m2) W s (by rw [srtE_length]; omega))
      have P3 := Lib.hid (fun W (b : Below w0.heap.size w0 W) => en_at_any A h l c (m1, m2) W (HS.out.below b) (by omega))
      have hso : sortedE (srtE l) = true := (sortedE_srt _).2 (srtE_sorted l)
      have P4 := Lib.hid (fun W g' A' c' (s : SlK encE W g' A' (srtE l)) => hso ▸ en_sorted_any A' g' (srtE l) c' W s (by rw [srtE_length]; omega))
      have hat := atM_sorted (srtE l) (m1, m2) (srtE_sorted l)
      have hp := atM_perm l (m1, m2)
      rw [show ((srtE l).filter fun x => x.1 == (m1, m2)).map (·.2) = atM (srtE l) (m1, m2) from rfl] at P2
      rw [show (l.filter fun x => x.1 == (m1, m2)).map (·.2) = atM l (m1, m2) from rfl] at P3
      have n2 : (atM l (m1, m2)).length ≤ 500 := by unfold atM; rw [List.length_map]; exact Nat.le_trans (List.length_filter_le ..) hl1
      have n1 : (atM (srtE l) (m1, m2)).length ≤ 500 := by rw [hp.length_eq]; exact n2
      generalize atM (srtE l) (m1, m2) = us at P2 hat hp n1
      generalize atM l (m1, m2) = bs at P3 hp n2
      have hsr : (srt us == srt bs) = true := by rw [srt_congr hp]; exact beq_self_eq_true _
      have hle := hp.length_eq
      have P5 := Lib.hid (fun W g' A' c' (s : SlP W g' A' us) => hat ▸ rrc_sorted_any A' g' us c' W s (by omega))
      have P6 := Lib.hid (fun W A1 A2 h1 h2 c1 c2 (s1 : SlP W h1 A1 us) (s2 : SlP W h2 A2 bs) k1 k2 k3 k4 => hsr ▸ rrc_same_any A1 h1 us c1 A2 h2 bs c2 W s1 s2 hle k1 k2 k3 k4 (by omega) (by omega))
      have LM := Lib.hid (fun W (b : Below w0.heap.size w0 W) => (⟨(b.cell (p := ⟨w.heap.size, 0, none⟩) KB.out.lt).trans (KB.out.cell 0), (b.cell (p := ⟨w.heap.size, 1, none⟩) KB.out.lt).trans (KB.out.cell 1)⟩ : W.cell? ⟨w.heap.size, 0, none⟩ = some (.int .i64 m1) ∧ W.cell? ⟨w.heap.size, 1, none⟩ = some (.int .i64 m2)))
      clear hso hat hp hsr hle h0
      generalize srtE l = sl at P1 P2 P4
      go_enter Try.func10, Try.ntmps10
      go_wp2_with fail
      rw [← HW.out]
      refine P0.out.mono ?_; rintro e w1 ⟨rfl, b1⟩
      have B1 := Lib.hid b1
      clear b1
      go_wp2_with fail
      refine (P1.out _ B1.out).mono ?_; rintro e w2 ⟨A2, c2, rfl, ⟨h2, s2⟩, b2, -⟩
      have B2 := Lib.hid (below_trans B1.out b2)
      have S2 := Lib.hid s2
      obtain ⟨q0, q1⟩ := LM.out _ B2.out
      clear b2 s2
      go_wp2_with fail
      refine (P2.out _ _ _ _ S2.out).mono ?_; rintro e w3 ⟨A3, c3, rfl, o3, b3⟩
      have B3 := Lib.hid (below_trans B2.out b3)
      have S3 := Lib.hid (S2.out.below b3)
      obtain ⟨h3, -, t3, -, -, k3, m3⟩ := SlP.of_own o3
      have T3 := Lib.hid t3
      clear b3 o3 t3 q0 q1
      go_wp2_with fail
      refine (PL.out _).mono ?_; rintro e w4 ⟨rfl, b4⟩
      have B4 := Lib.hid (below_trans B3.out b4)
      have S4 := Lib.hid (S3.out.below b4)
      have T4 := Lib.hid (T3.out.below b4)
      clear b4
      go_wp2_with fail
      refine (P4.out _ _ _ _ S4.out).mono ?_; rintro e w5 ⟨rfl, b5⟩
      have B5 := Lib.hid (below_trans B4.out b5)
      have T5 := Lib.hid (T4.out.below b5)
      clear b5
      go_wp2_with fail
      refine (P5.out _ _ _ _ T5.out).mono ?_; rintro e w6 ⟨rfl, b6⟩
      have B6 := Lib.hid (below_trans B5.out b6)
      have T6 := Lib.hid (T5.out.below b6)
      obtain ⟨q0, q1⟩ := LM.out _ B6.out
      clear b6
      go_wp2_with fail
      refine (P3.out _ B6.out).mono ?_; rintro e w7 ⟨A7, c7, rfl, o7, b7⟩
      have B7 := Lib.hid (below_trans B6.out b7)
      have T7 := Lib.hid (T6.out.below b7)
      obtain ⟨h7, -, t7, -, -, k7, m7⟩ := SlP.of_own o7
      have U7 := Lib.hid t7
      clear b7 o7 t7 q0 q1
      go_wp2_with fail
      refine (P6.out _ _ _ _ _ _ _ T7.out U7.out k3 k7 m3 m7).mono ?_; rintro e w8 ⟨rfl, b8⟩
      have B8 := Lib.hid (below_trans B7.out b8)
      clear b8
      go_wp2
      go_ret
      exact ⟨rfl, below_trans BA.out B8.out⟩
    · have d2 : (mayEs l == 0) = false := by simpa using h0
      clear h0
      generalize mayEs l = z at P0 d2
      go_enter Try.func10, Try.ntmps10
      go_wp2_with fail
      rw [← HW.out]
      refine P0.out.mono ?_; rintro e w1 ⟨rfl, b1⟩
      have B1 := Lib.hid (below_trans BA.out b1)
      clear b1
      go_wp2_with fail
      refine (PL.out _).mono ?_; rintro e w2 ⟨rfl, b2⟩
      go_wp2
      go_ret
      exact ⟨rfl, below_trans B1.out b2⟩
end Go.Proofs.Ytfilelgbffbnlaa
