/- Contracts of package crc: what was sealed is opened. -/
import Derived.Test.YtalcgkfnjhlnoaaDoorCrcB
import Derived.Test.YtalcgkfnjhlnoaaDoorRegR
namespace Go.Proofs.YtalcgkfnjhlnoaaDoor
open Go.RowKit

set_option maxHeartbeats 400000 in
theorem equal_yes (A B : Option Addr) (h g : Nat) (l : List UInt8) (c d : Nat) (w : World) (hl : SlB w h A l) (hm : SlB w g B l) :
    Calls Tryd.prog 21 #[.slice A l.length c, .slice B l.length d] w fun e w' => e = .returned (.bool true) ∧ w = w' := by
  have h1 := run_convB w Tryd.underlying23 Tryd.underlying5 Tryd.underlying9 c (hl.reads (n := l.length) rfl)
  have h2 := run_convB w Tryd.underlying23 Tryd.underlying5 Tryd.underlying9 d (hm.reads (n := l.length) rfl)
  clear hl hm
  go_enter Tryd.func21, Tryd.ntmps21
  go_wp2
  go_ret
  exact ⟨rfl, rfl⟩
set_option maxHeartbeats 400000 in
theorem equal_no (A B : Option Addr) (h g : Nat) (l m : List UInt8) (c d : Nat) (w : World) (hl : SlB w h A l) (hm : SlB w g B m) (hne : l ≠ m) :
    Calls Tryd.prog 21 #[.slice A l.length c, .slice B m.length d] w fun e w' => e = .returned (.bool false) ∧ w = w' := by
  have h1 := run_convB w Tryd.underlying23 Tryd.underlying5 Tryd.underlying9 c (hl.reads (n := l.length) rfl)
  have h2 := run_convB w Tryd.underlying23 Tryd.underlying5 Tryd.underlying9 d (hm.reads (n := m.length) rfl)
  have hs : (l == m) = false := by simpa using hne
  clear hl hm hne
  go_enter Tryd.func21, Tryd.ntmps21
  go_wp2
  go_ret
  exact ⟨rfl, rfl⟩
def SealedB (l : List UInt8) : Prop := 4 ≤ l.length ∧ sealM (l.take (l.length - 4)) = l
/-- What Open answers: the bytes in a new row. -/
def OpenYes (w : World) (l : List UInt8) (v : Value) (e : Ending) (w' : World) : Prop :=
  ∃ A c h, e = .returned (.tuple #[.slice A (l.length - 4) c, v]) ∧ SlB w' h A (l.take (l.length - 4)) ∧ w.heap.size ≤ h ∧ l.length - 4 ≤ c ∧ c ≤ maxLen ∧ Below w.heap.size w w'
def OpenNo (w : World) (v : Value) (e : Ending) (w' : World) : Prop := e = .returned (.tuple #[.slice none 0 0, v]) ∧ Below w.heap.size w w'
set_option maxRecDepth 100000 in
set_option maxHeartbeats 400000 in
theorem open_short (A : Option Addr) (l : List UInt8) (c : Nat) (w : World) (hs : l.length < 4) :
    Calls Tryd.prog 10 #[.slice A l.length c] w (OpenNo w (.int .i64 20)) := by
  have d1 : decide ((l.length : Int) - 4 < 0) = true := by simp; omega
  go_enter Tryd.func10, Tryd.ntmps10
  go_wp2
  go_ret2
  exact ⟨rfl, Below.refl _ _⟩
set_option maxRecDepth 100000 in
set_option maxHeartbeats 400000 in
theorem open_long (A : Option Addr) (h : Nat) (l : List UInt8) (c : Nat) (w : World) (hh : HalvesAt w) (hl : SlB w h A l) (hlc : l.length ≤ c) (hc : c ≤ maxLen) (hb : l.length ≤ 70368744177664) (hs : 4 ≤ l.length) :
    Calls Tryd.prog 10 #[.slice A l.length c] w fun e w' => (sealM (l.take (l.length - 4)) = l → OpenYes w l (.int .i64 0) e w') ∧ (sealM (l.take (l.length - 4)) ≠ l → OpenNo w (.int .i64 20) e w') := by
  obtain ⟨n, hn⟩ : ∃ n, l.length - 4 = n := ⟨_, rfl⟩
  have hn4 : n + 4 = l.length := by omega
  have htk : (l.take n).length = n := by rw [List.length_take]; omega
  have P := Lib.hid (seal_any A h (l.take n) c w hh (hl.take n) (by omega) hc (by omega))
  have hsm := sealM_length (l.take n)
  rw [htk] at P hsm
  obtain ⟨t, ht⟩ : ∃ t, t = sealM (l.take n) := ⟨_, rfl⟩
  rw [← ht] at P hsm
  have hnl : ((l.length : Int) - 4) = (n : Int) := by omega
  have HS := Lib.hid hl
  unfold OpenYes
  rw [hn, ← ht]
  clear hh hl hn hs ht htk
  unfold maxLen at hc
  go_enter Tryd.func10, Tryd.ntmps10
  go_wp2_with fail
  refine P.out.mono ?_; rintro e w1 ⟨A1, c1, rfl, o1, b1⟩
  obtain ⟨g1, hg1, s1, -⟩ := SlB.of_own o1
  obtain ⟨hc1, hc2⟩ := own_cap o1
  have S1 := Lib.hid s1
  have S2 := Lib.hid (HS.out.below b1 fun hh => hh)
  have B1 := Lib.hid b1
  clear o1 s1 b1
  by_cases he : t = l
  · have HE := Lib.hid he
    rw [he] at hc1 S1 ⊢
    clear he hsm
    go_wp2_with fail
    refine (equal_yes A1 A g1 h l c1 c w1 S1.out S2.out).mono ?_; rintro e w' ⟨rfl, rfl⟩
    go_wp2
    go_ret2
    exact ⟨fun _ => ⟨A1, c1, g1, rfl, S1.out.take n, hg1, by omega, hc2, B1.out⟩, fun h => absurd HE.out h⟩
  · have HE := Lib.hid he
    clear he hsm hnl hn4
    go_wp2_with fail
    refine (equal_no A1 A g1 h _ l c1 c w1 S1.out S2.out HE.out).mono ?_; rintro e w' ⟨rfl, rfl⟩
    go_wp2
    go_ret2
    exact ⟨fun h => absurd h HE.out, fun _ => ⟨rfl, B1.out⟩⟩
set_option maxRecDepth 100000 in
set_option maxHeartbeats 400000 in
theorem ropen_short (A : Option Addr) (l : List UInt8) (c : Nat) (w : World) (hs : l.length < 4) :
    Calls Tryd.prog 11 #[.slice A l.length c] w (OpenNo w (.bool false)) := by
  have d1 : decide ((l.length : Int) < 4) = true := by simp; omega
  go_enter Tryd.func11, Tryd.ntmps11
  go_wp2
  go_ret2
  exact ⟨rfl, Below.refl _ _⟩
theorem up_conv {w1 w2 : World} {h : Nat} {A : Option Addr} {l : List UInt8} (s : SlB w1 h A l) (hb : RB w1 w2) : SlB w2 h A l := s.below hb fun h => h
/-- string(b) in whatever world comes behind this one. -/
theorem conv_later {w1 : World} {h : Nat} {A : Option Addr} {l : List UInt8} (s : SlB w1 h A l) (c : Nat) {n : Nat} (hn : n = l.length) :
    ∀ w, RB w1 w → (convert 23 9 (.slice A n c)).run Tryd.prog w = .ok (.string ⟨l.toArray⟩) w :=
  fun w hb => run_convB w Tryd.underlying23 Tryd.underlying5 Tryd.underlying9 c ((up_conv s hb).reads hn)
set_option maxRecDepth 100000 in
set_option maxHeartbeats 1000000 in
theorem ropen_long (A : Option Addr) (h : Nat) (l : List UInt8) (c : Nat) (w : World) (hl : SlB w h A l) (hlc : l.length ≤ c) (hc : c ≤ maxLen) (hb : l.length ≤ 70368744177664) (hs : 4 ≤ l.length) :
    Calls Tryd.prog 11 #[.slice A l.length c] w fun e w' => (sealM (l.take (l.length - 4)) = l → OpenYes w l (.bool true) e w') ∧ (sealM (l.take (l.length - 4)) ≠ l → OpenNo w (.bool false) e w') := by
  obtain ⟨n, hn⟩ : ∃ n, l.length - 4 = n := ⟨_, rfl⟩
  have hn4 : n + 4 = l.length := by omega
  have htk : (l.take n).length = n := by rw [List.length_take]; omega
  have P := Lib.hid (rseal_any A h (l.take n) c w.drew (hl.take n) (by omega) hc (by omega))
  have hsm := sealM_length (l.take n)
  rw [htk] at P hsm
  obtain ⟨t, ht⟩ : ∃ t, t = sealM (l.take n) := ⟨_, rfl⟩
  rw [← ht] at P hsm
  have hnl : ((l.length : Int) - 4) = (n : Int) := by omega
  have d1 : decide ((l.length : Int) < 4) = false := by simp; omega
  have HS := Lib.hid hl
  have HT := Lib.hid htk
  unfold OpenYes
  rw [hn, ← ht]
  clear hl hn hs ht htk
  unfold maxLen at hc
  go_enter Tryd.func11, Tryd.ntmps11
  go_wp2_with fail
  refine wp_region_R (R := RB) (n := 8) (by kernel_rfl) rfl ?_
  refine batchB [0, 1, 2, 5, 6] (fuel := 3) rfl (by kernel_rfl) (by kernel_rfl) (fun _ _ d _ _ h => by cases d <;> exact h) ?_
  repeat (first | ((with_reducible apply wq0); rfl; rfl; rfl; intro K hK; go_big_quiet_op; refine hK _ ?_; clear hK K) | ((with_reducible apply wq1); rfl; rfl; rfl; rfl; rfl; rfl; intro K hK; go_big_quiet_op; refine hK _ ?_; clear hK K) | ((with_reducible apply wqs); rfl; rfl; rfl; rfl; rfl; rfl; simp only [Act.put, List.setIfInBounds_toArray, List.set_cons_zero, List.set_cons_succ]) | ((with_reducible apply wqu); rfl; rfl; rfl; rfl; rfl; simp only [same]))
  refine wqIdx_conv rfl rfl rfl rfl (conv_later (w1 := w.drew) HS.out c rfl) ?_
  simp only [Act.put, List.setIfInBounds_toArray, List.set_cons_zero, List.set_cons_succ]
  refine wqIdx_nil ?_
  refine wpAnyR_sole (i := 3) rfl (by kernel_rfl) (fun K hK => ?_)
  go_simp
  refine P.out.mono ?_; rintro e w1 ⟨A1, c1, rfl, o1, b1⟩
  obtain ⟨g1, hg1, s1, -⟩ := SlB.of_own o1
  have S1 := Lib.hid s1
  have B1 := Lib.hid (RB.of_drew b1)
  have hsz := b1.size
  refine hK _ _ b1 ?_
  clear o1 s1 b1
  clear hK K
  refine batchB [4, 7] (fuel := 0) rfl (by kernel_rfl) (by kernel_rfl) (fun _ _ d _ _ h => by cases d <;> exact h) ?_
  refine wqIdx_conv rfl rfl rfl rfl (conv_later S1.out c1 rfl) ?_
  simp only [Act.put, List.setIfInBounds_toArray, List.set_cons_zero, List.set_cons_succ]
  by_cases he : t = l
  · have HT0 := Lib.hid he
    rw [he] at S1 ⊢
    clear he hsm
    repeat (first | ((with_reducible apply wq0); rfl; rfl; rfl; intro K hK; go_big_quiet_op; refine hK _ ?_; clear hK K) | ((with_reducible apply wq1); rfl; rfl; rfl; rfl; rfl; rfl; intro K hK; go_big_quiet_op; refine hK _ ?_; clear hK K) | ((with_reducible apply wqs); rfl; rfl; rfl; rfl; rfl; rfl; simp only [Act.put, List.setIfInBounds_toArray, List.set_cons_zero, List.set_cons_succ]) | ((with_reducible apply wqu); rfl; rfl; rfl; rfl; rfl; simp only [same]))
    refine wqIdx_nil ?_
    refine wpAnyR_done (by kernel_rfl) ?_ _
    have HE := Lib.hid (show (w1.alloc (.cells #[] 5)).ownsRow w1.heap.size 5 1 (.slice (some ⟨w1.heap.size, 0, none⟩) 0 0) 0 (Byt []) from own_new w1 #[] _ 0 _ rfl rfl (by decide) (Nat.le_refl _))
    have HR := Lib.hid (SlB.reads (n := n) ((SlB.keep' (SlB.below HS.out B1.out fun h => h) (fun hh => Below.heap_alloc w1 (.cells #[] 5) _ hh)).take n) HT.out.symm)
    have hnn : n ≤ 70368744177664 := by omega
    have hnc : n ≤ c := by omega
    have HT4 := Lib.hid hn4
    go_wp2_with (at_builtin; (refine wpList_appB _ rfl (.tmp 19) (.tmp 22) _ rfl Tryd.underlying23 info_u8 HE.out HR.out c rfl rfl (by omega) (by simp) ?_); intro A2 c2 w2 o2 gr2; rw [Nat.zero_add, List.nil_append] at o2; have O2 := Lib.hid o2; have G2 := Lib.hid gr2; clear o2 gr2)
    go_ret2
    obtain ⟨g3, hg3, s3, -⟩ := SlB.of_own O2.out
    obtain ⟨hc1, hc2⟩ := own_cap O2.out
    refine ⟨fun _ => ⟨A2, c2, g3, rfl, s3, ?_, hc1, hc2, ?_⟩, fun h => absurd HT0.out h⟩
    · have := B1.out.size; omega
    · exact below_trans B1.out (((Below.refl _ _).alloc (Nat.le_refl _) _).grown (Grew.by_ G2.out) (by simp) (by simp [Value.ownBlock]))
  · have HE := Lib.hid he
    have e1 : (t == l) = false := by simpa using he
    have e2 : (t != l) = true := by simpa using he
    clear he hsm
    repeat (first | ((with_reducible apply wq0); rfl; rfl; rfl; intro K hK; go_big_quiet_op; refine hK _ ?_; clear hK K) | ((with_reducible apply wq1); rfl; rfl; rfl; rfl; rfl; rfl; intro K hK; go_big_quiet_op; refine hK _ ?_; clear hK K) | ((with_reducible apply wqs); rfl; rfl; rfl; rfl; rfl; rfl; simp only [Act.put, List.setIfInBounds_toArray, List.set_cons_zero, List.set_cons_succ]) | ((with_reducible apply wqu); rfl; rfl; rfl; rfl; rfl; simp only [same]))
    refine wqIdx_nil ?_
    refine wpAnyR_done (by kernel_rfl) ?_ _
    go_wp2
    go_ret2
    exact ⟨fun h => absurd h HE.out, fun _ => ⟨rfl, B1.out⟩⟩
end Go.Proofs.YtalcgkfnjhlnoaaDoor
