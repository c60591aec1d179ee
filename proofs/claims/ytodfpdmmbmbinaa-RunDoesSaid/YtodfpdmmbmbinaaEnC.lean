/- Contracts of the document's entries: At, Behind; may, Sorted, Same of both. -/
import Derived.Test.YtodfpdmmbmbinaaEnB
namespace Go.Proofs.Ytodfpdmmbmbinaa
open Go.RowKit Go.Sort

set_option maxRecDepth 100000 in
set_option maxHeartbeats 2000000 in
theorem ren_behind_any (A : Option Addr) (h : Nat) (l : List En) (c : Nat) (F : Option Addr) (hf : Nat) (f : List (Int × Int)) (cf : Nat) (w : World) (hl : SlK encE w h A l) (hbig : l.length ≤ 50000) (hF : SlP w hf F f) (hfb : f.length ≤ 50000) :
    Calls Try.prog 88 #[.slice A l.length c, .slice F f.length cf] w (EnRow w (l.filter fun x => f.any fun y => aheadM y x.1)) := by
  have HS := Lib.hid hl
  have HFS := Lib.hid hF
  clear hl hF
  go_enter Try.func88, Try.ntmps88
  go_wp2_with fail
  go_loopw [5, 6] (fun s i wr => ∃ (k : Nat) (A2 : Option Addr) (c2 : Nat), k ≤ l.length ∧ i = .int .i64 (k : Int) ∧ s = .slice A2 ((l.take k).filter fun x => f.any fun y => aheadM y x.1).length c2 ∧ wr.ownsRow w.heap.size 65 4 s ((l.take k).filter fun x => f.any fun y => aheadM y x.1).length (RowV encE ((l.take k).filter fun x => f.any fun y => aheadM y x.1)) ∧ Below w.heap.size w wr) (fun _ i _ => l.length - (intOf i).toNat)
  case atStart => exact ⟨0, none, 0, Nat.zero_le _, rfl, rfl, own_nil_k layE _ _ _, Below.refl _ _⟩
  case round =>
    obtain ⟨k, A2, c2, hk, rfl, rfl, ho, hb⟩ := hrel
    have HO := Lib.hid ho
    have HB := Lib.hid hb
    clear ho hb
    by_cases hlt : k < l.length
    · have hea := List.getElem?_eq_getElem hlt
      obtain ⟨-, off, rfl, hc⟩ := (HS.out.below HB.out).at_ layE hea
      have htk : l.take (k + 1) = l.take k ++ [l[k]] := by rw [List.take_add_one, hea]; rfl
      obtain ⟨x, hx⟩ : ∃ x, x = l[k] := ⟨_, rfl⟩
      rw [← hx] at hc htk hea
      have HEA := Lib.hid hea
      obtain ⟨⟨a, b⟩, c', d⟩ := x
      have q0 := hc 0 _ rfl
      have q1 := hc 1 _ rfl
      rw [Nat.add_zero] at q0
      have P1 := Lib.hid (rcovers_any F hf f cf a b wr (HFS.out.below HB.out) (by omega))
      have hf2 : (l.take (k + 1)).filter (fun x => f.any fun y => aheadM y x.1) = (l.take k).filter (fun x => f.any fun y => aheadM y x.1) ++ (if (f.any fun y => aheadM y (a, b)) then [((a, b), (c', d))] else []) := by
        rw [htk, List.filter_append]
        congr 1
        rw [List.filter_cons, List.filter_nil]
      have hlen : ((l.take k).filter fun x => f.any fun y => aheadM y x.1).length ≤ 50000 := Nat.le_trans (List.length_filter_le ..) (by rw [List.length_take]; omega)
      generalize (l.take k).filter (fun x => f.any fun y => aheadM y x.1) = ys at HO hf2 hlen
      generalize (f.any fun y => aheadM y (a, b)) = q at P1 hf2
      have HF := Lib.hid hf2
      clear hea hx htk hc hf2
      go_wp2_with fail
      refine P1.out.mono ?_; rintro e w1 ⟨rfl, b1⟩
      have HO2 := Lib.hid (own_below HO.out b1)
      have BW := Lib.hid (below_trans HB.out b1)
      clear q0 q1 b1 P1
      cases q
      · go_wp2
        have hf := HF.out
        rw [if_neg (by decide), List.append_nil] at hf
        exact ⟨⟨k + 1, A2, c2, by omega, by go_num, by rw [hf], by rw [hf]; exact HO2.out, BW.out⟩, by simp [intOf]; omega⟩
      · obtain ⟨-, o2, ho2, hc⟩ := (HS.out.below BW.out).at_ layE HEA.out
        obtain rfl : off = o2 := by injection ho2 with h1; injection h1
        have q0 := hc 0 _ rfl
        have q1 := hc 1 _ rfl
        have q2 := hc 2 _ rfl
        have q3 := hc 3 _ rfl
        rw [Nat.add_zero] at q0
        have HR := Lib.hid (reads_oneK layE w1 ((a, b), (c', d)) 65)
        have HOA := Lib.hid (World.ownsRow.alloc HO2.out (.cells (encE ((a, b), (c', d))).toArray 65))
        have BWA := Lib.hid (BW.out.alloc BW.out.size (.cells (encE ((a, b), (c', d))).toArray 65))
        clear hc ho2
        go_wp2_with (at_builtin; (refine wpList_appK layE (ys := [((a, b), (c', d))]) _ rfl (.tmp 20) (.tmp 25) _ rfl Try.underlying70 info_en3 rfl HOA.out HR.out 1 rfl rfl (by omega) (by decide) BWA.out.size ?_); intro A5 c5 w5 o5 gr5; have O5 := Lib.hid o5; have B5 := Lib.hid (show Below w.heap.size w w5 from BWA.out.grown (Grew.by_ gr5) BWA.out.size fun i hi => (World.ownsRow.lt HOA.out i hi).1); clear o5 gr5)
        have hf := HF.out
        rw [if_pos (by decide)] at hf
        exact ⟨⟨k + 1, A5, c5, by omega, by go_num, by rw [hf, List.length_append]; rfl, by rw [hf, List.length_append]; exact O5.out, B5.out⟩, by simp [intOf]; omega⟩
    · obtain rfl : k = l.length := by omega
      have ho := HO.out
      rw [List.take_length] at ho ⊢
      have HO := Lib.hid ho
      clear ho
      go_wp2
      go_ret
      exact ⟨A2, c2, rfl, HO.out, HB.out⟩
/-- What is wrong with the first entry that may not be. -/
def firstE : List En → Int
  | [] => 0
  | x :: r => if enE x = 0 then firstE r else enE x
theorem firstE_append (a b : List En) (h : firstE a = 0) : firstE (a ++ b) = firstE b := by
  induction a with
  | nil => rfl
  | cons x a ih =>
    unfold firstE at h
    by_cases hx : enE x = 0
    · rw [if_pos hx] at h
      show (if enE x = 0 then firstE (a ++ b) else enE x) = _
      rw [if_pos hx]
      exact ih h
    · rw [if_neg hx] at h
      exact absurd h hx
/-- What is wrong with entries. -/
def mayEs (l : List En) : Int := if firstE l = 0 then (if 16384 < l.length then 3 else 0) else firstE l
set_option maxRecDepth 100000 in
set_option maxHeartbeats 2000000 in
theorem en_may_any (A : Option Addr) (h : Nat) (l : List En) (c : Nat) (w : World) (hl : SlK encE w h A l) (hbig : l.length ≤ 50000) :
    Calls Try.prog 113 #[.slice A l.length c] w fun e w' => e = .returned (.int .i64 (mayEs l)) ∧ Below w.heap.size w w' := by
  have HS := Lib.hid hl
  clear hl
  go_enter Try.func113, Try.ntmps113
  go_wp2_with fail
  go_loopw [8] (fun i wr => ∃ k : Nat, k ≤ l.length ∧ i = .int .i64 (k : Int) ∧ firstE (l.take k) = 0 ∧ Below w.heap.size w wr) (fun i _ => l.length - (intOf i).toNat)
  case atStart => exact ⟨0, Nat.zero_le _, rfl, rfl, Below.refl _ _⟩
  case round =>
    obtain ⟨k, hk, rfl, hfi, hb⟩ := hrel
    have HFI := Lib.hid hfi
    have HB := Lib.hid hb
    clear hfi hb
    by_cases hlt : k < l.length
    · have hea := List.getElem?_eq_getElem hlt
      obtain ⟨-, off, rfl, hc⟩ := (HS.out.below HB.out).at_ layE hea
      have htk : l.take (k + 1) = l.take k ++ [l[k]] := by rw [List.take_add_one, hea]; rfl
      have hsp : l = l.take k ++ l[k] :: l.drop (k + 1) := by rw [List.getElem_cons_drop, List.take_append_drop]
      obtain ⟨x, hx⟩ : ∃ x, x = l[k] := ⟨_, rfl⟩
      rw [← hx] at hc htk hsp
      have HSP := Lib.hid hsp
      have HTK := Lib.hid htk
      obtain ⟨⟨a, b⟩, c', d⟩ := x
      have q0 := hc 0 _ rfl
      have q1 := hc 1 _ rfl
      have q2 := hc 2 _ rfl
      have q3 := hc 3 _ rfl
      rw [Nat.add_zero] at q0
      have b1 := alloc_below wr (.cells #[.int .i64 a, .int .i64 b, .int .i64 c', .int .i64 d] 65)
      have P1 := Lib.hid (en_check_any a b c' d (wr.alloc (.cells #[.int .i64 a, .int .i64 b, .int .i64 c', .int .i64 d] 65)))
      have BW := Lib.hid (below_trans HB.out b1)
      obtain ⟨z, hz⟩ : ∃ z, z = enE ((a, b), (c', d)) := ⟨_, rfl⟩
      rw [← hz] at P1
      have HZ := Lib.hid hz
      clear hea hx htk hsp hc hz b1
      go_wp2_with fail
      refine P1.out.mono ?_; rintro e w1 ⟨rfl, b1⟩
      have BW1 := Lib.hid (below_trans BW.out b1)
      clear b1 P1 q0 q1 q2 q3
      by_cases h0 : z = 0
      · have d1 : (z != 0) = false := by simpa using h0
        have H0 := Lib.hid h0
        clear h0
        go_wp2
        refine ⟨⟨k + 1, by omega, by go_num, ?_, BW1.out⟩, by simp [intOf]; omega⟩
        rw [HTK.out, firstE_append _ _ HFI.out]
        show (if enE ((a, b), (c', d)) = 0 then firstE [] else _) = 0
        rw [if_pos (by rw [← HZ.out]; exact H0.out)]
        rfl
      · have d1 : (z != 0) = true := by simpa using h0
        have H0 := Lib.hid h0
        clear h0
        go_wp2
        go_ret
        have hfz : firstE l = z := by
          rw [HSP.out, firstE_append _ _ HFI.out]
          show (if enE ((a, b), (c', d)) = 0 then _ else enE ((a, b), (c', d))) = z
          rw [← HZ.out, if_neg H0.out]
        refine ⟨?_, BW1.out⟩
        unfold mayEs
        rw [hfz, if_neg H0.out]
        rfl
    · obtain rfl : k = l.length := by omega
      have hfi := HFI.out
      rw [List.take_length] at hfi
      by_cases h16 : 16384 < l.length
      · have d1 : decide ((16384 : Int) < (l.length : Int)) = true := by rw [decide_eq_true_eq]; omega
        have HM := Lib.hid (show mayEs l = 3 by unfold mayEs; rw [if_pos hfi, if_pos h16])
        clear hfi
        go_wp2
        go_ret
        exact ⟨by rw [HM.out]; rfl, HB.out⟩
      · have d1 : decide ((16384 : Int) < (l.length : Int)) = false := by rw [decide_eq_false_iff_not]; omega
        have HM := Lib.hid (show mayEs l = 0 by unfold mayEs; rw [if_pos hfi, if_neg h16])
        clear hfi
        go_wp2
        go_ret
        exact ⟨by rw [HM.out]; rfl, HB.out⟩
end Go.Proofs.Ytodfpdmmbmbinaa
