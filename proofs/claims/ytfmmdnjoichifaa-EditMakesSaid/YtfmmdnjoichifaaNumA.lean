/- Contracts of num's functions that only compute. -/
import Derived.Test.YtfmmdnjoichifaaNumWd
import Derived.Test.YtfmmdnjoichifaaShelf
namespace Go.Proofs.Ytfmmdnjoichifaa
open Go.RowKit

def nbi (n : Int) : Int := (nb n.toNat : Int)
set_option maxHeartbeats 400000 in
theorem size_neg (n : Int) (w : World) (h : n < 0) : Calls Try.prog 104 #[.int .i64 n] w fun e w' => e = .returned (.int .i64 0) ∧ w = w' := by
  go_enter Try.func104, Try.ntmps104
  go_wp2
  go_ret
  exact ⟨rfl, rfl⟩
set_option maxHeartbeats 400000 in
theorem size_one (n : Int) (w : World) (h : 0 ≤ n) (h' : n < 240) : Calls Try.prog 104 #[.int .i64 n] w fun e w' => e = .returned (.int .i64 1) ∧ w = w' := by
  go_enter Try.func104, Try.ntmps104
  go_wp2
  go_ret
  exact ⟨rfl, rfl⟩
set_option maxHeartbeats 400000 in
theorem size_two (n : Int) (w : World) (h : 240 ≤ n) (h' : n < 2288) : Calls Try.prog 104 #[.int .i64 n] w fun e w' => e = .returned (.int .i64 2) ∧ w = w' := by
  go_enter Try.func104, Try.ntmps104
  go_wp2
  go_ret
  exact ⟨rfl, rfl⟩
set_option maxHeartbeats 400000 in
theorem size_long (n : Int) (w : World) (h : 2288 ≤ n) (h' : n ≤ 9223372036854775807) : Calls Try.prog 104 #[.int .i64 n] w fun e w' => e = .returned (.int .i64 (1 + nbi n)) ∧ w = w' := by
  go_enter Try.func104, Try.ntmps104
  have h1 : (0 : Int) ≤ (Lib.bitLen n.toNat : Int) := by omega
  have h2 : (Lib.bitLen n.toNat : Int) ≤ 64 := by have := bitLen_lt 64 n.toNat (by omega) (by omega); omega
  go_wp2_with fail
  refine (Go.Proofs.Try.bits_Len64 n w (by omega) (by omega)).mono ?_; rintro e w' ⟨rfl, rfl⟩
  go_wp2
  go_ret
  exact ⟨ret_int (by unfold nbi nb; omega), rfl⟩

theorem size_ok (n : Nat) (w : World) (h : n ≤ 9223372036854775807) : Calls Try.prog 104 #[.int .i64 (n : Int)] w fun e w' => e = .returned (.int .i64 ((putL n).length : Int)) ∧ w = w' := by
  rw [putL_length]
  by_cases h1 : n < 240
  · rw [if_pos h1]; exact size_one n w (by omega) (by omega)
  · rw [if_neg h1]
    by_cases h2 : n < 2288
    · rw [if_pos h2]; exact size_two n w (by omega) (by omega)
    · rw [if_neg h2]
      refine (size_long n w (by omega) (by omega)).mono fun e w' ⟨he, hw⟩ => ⟨he.trans (ret_int ?_), hw⟩
      unfold nbi; rw [Int.toNat_natCast]; omega

theorem info_u8 : (Try.prog.info? 5).map (fun i => (i.zero, i.size, i.bytes)) = some (some (.int .u8 0), 1, 1) := by kernel_rfl

/-- The cells of highFirst's row behind k rounds. -/
def hfCell (n size k j : Nat) : Value := if size - k ≤ j then byteV (n / 256 ^ (size - 1 - j)) else .int .u8 0
theorem hf_step (n size k j : Nat) (hk : k < size) (hj : j < size) : hfCell n size (k + 1) j = if j = size - 1 - k then byteV (n / 256 ^ k) else hfCell n size k j := by
  unfold hfCell
  by_cases e : j = size - 1 - k
  · subst e
    rw [if_pos rfl, if_pos (by omega)]
    congr 3
    omega
  · rw [if_neg e]
    by_cases h : size - k ≤ j
    · rw [if_pos h, if_pos (by omega)]
    · rw [if_neg h, if_neg (by omega)]
set_option maxHeartbeats 400000 in
theorem highFirst_any (n : Nat) (size : Nat) (w : World) (hn : n ≤ 9223372036854775807) (h0 : 1 ≤ size) (h8 : size ≤ 8) :
    Calls Try.prog 127 #[.int .i64 (n : Int), .int .i64 (size : Int)] w fun e w' =>
      e = .returned (.slice (some ⟨w.heap.size, 0, none⟩) size size) ∧ w'.rowIs w.heap.size 5 size (hfCell n size size) ∧ Below w.heap.size w w' := by
  have hmk := fun W => run_make_row' (P := Try.prog) 30 5 (.int .u8 0) 1 Try.underlying30 info_u8 rfl .i64 .i64 size (by omega) (by omega) W
  go_enter Try.func127, Try.ntmps127
  go_wp2
  go_loopw [0, 6] (fun x i wr => ∃ k : Nat, k ≤ size ∧ i = .int .i64 ((size : Int) - 1 - k) ∧ x = .int .i64 ((n / 256 ^ k : Nat) : Int) ∧ wr.rowIs w.heap.size 5 size (hfCell n size k) ∧ Below w.heap.size w wr) (fun _ i _ => (intOf i + 1).toNat)
  case atStart =>
    refine ⟨0, Nat.zero_le _, by simp, by simp, (World.rowIs_made w _ _ _).congr fun j hj => ?_, (Below.refl _ _).alloc (Nat.le_refl _) _⟩
    unfold hfCell
    rw [if_neg (by omega)]
  case round =>
    obtain ⟨k, hk, rfl, rfl, hrow, hb⟩ := hrel
    have hm : n / 256 ^ k ≤ 9223372036854775807 := Nat.le_trans (Nat.div_le_self _ _) hn
    clear hmk
    by_cases hlt : k < size
    · have hc := hrow.cell (i := size - 1 - k) (by omega)
      have hf := hrow.frozen (size - 1 - k)
      have hi : ((size : Int) - 1 - k).toNat = size - 1 - k := by omega
      obtain ⟨m, hmm⟩ : ∃ m, m = n / 256 ^ k := ⟨_, rfl⟩
      rw [← hmm] at hm ⊢
      have HM := Lib.hid hmm
      clear hmm
      go_wp2
      have e : m / 256 = n / 256 ^ (k + 1) := by rw [HM.out, Nat.pow_succ, Nat.div_div_eq_div_mul]
      refine ⟨⟨k + 1, by omega, by go_num, by rw [← e]; rfl, (hrow.set _ _).congr fun j hj => ?_, hb.setCell (Nat.le_refl _) _⟩, by simp [intOf]; omega⟩
      rw [hf_step n size k j hlt hj, HM.out]
      rfl
    · go_wp2
      go_ret
      obtain rfl : k = size := by omega
      exact ⟨rfl, hrow, hb⟩

theorem hf_be (n size : Nat) : (List.range size).map (hfCell n size size) = Byt (be size n) := by
  rw [Byt_be]
  refine List.map_congr_left fun i hi => ?_
  unfold hfCell
  rw [if_pos (by omega)]
/-- highFirst: the bytes, in an array of its own. -/
theorem highFirst_own (n : Nat) (size : Nat) (w : World) (hn : n ≤ 9223372036854775807) (h0 : 1 ≤ size) (h8 : size ≤ 8) :
    Calls Try.prog 127 #[.int .i64 (n : Int), .int .i64 (size : Int)] w fun e w' =>
      e = .returned (.slice (some ⟨w.heap.size, 0, none⟩) size size) ∧ w'.ownsRow w.heap.size 5 1 (.slice (some ⟨w.heap.size, 0, none⟩) size size) size (Byt (be size n)) ∧ Below w.heap.size w w' :=
  (highFirst_any n size w hn h0 h8).mono fun _ _ ⟨he, hr, hb⟩ => ⟨he, own_of_row hr (Nat.le_refl _) (by unfold maxLen; omega) (hf_be n size).symm, hb⟩

theorem highFirst_i (n size : Int) (k m : Nat) (w : World) (hm : n = (m : Int)) (hk : size = (k : Int)) (hn : m ≤ 9223372036854775807) (h0 : 1 ≤ k) (h8 : k ≤ 8) :
    Calls Try.prog 127 #[.int .i64 n, .int .i64 size] w fun e w' =>
      e = .returned (.slice (some ⟨w.heap.size, 0, none⟩) k k) ∧ w'.ownsRow w.heap.size 5 1 (.slice (some ⟨w.heap.size, 0, none⟩) k k) k (Byt (be k m)) ∧ Below w.heap.size w w' := by
  subst hm; subst hk
  exact highFirst_own m k w hn h0 h8

/-- What a contract says of two results, the first an owned row of bytes. -/
def OwnOK (w : World) (l : List UInt8) (e : Ending) (w' : World) : Prop :=
  ∃ v, e = .returned (.tuple #[v, .int .i64 0]) ∧ w'.ownsRow w.heap.size 5 1 v l.length (Byt l) ∧ Below w.heap.size w w'
/-- .. of one result. -/
def Own1 (w : World) (l : List UInt8) (e : Ending) (w' : World) : Prop :=
  ∃ v, e = .returned v ∧ w'.ownsRow w.heap.size 5 1 v l.length (Byt l) ∧ Below w.heap.size w w'
def ErrArg2 (w : World) (e : Ending) (w' : World) : Prop := e = .returned (.tuple #[.slice none 0 0, .int .i64 1]) ∧ Below w.heap.size w w'

set_option maxHeartbeats 400000 in
theorem put_neg (n : Int) (w : World) (h : n < 0) : Calls Try.prog 100 #[.int .i64 n] w (ErrArg2 w) := by
  go_enter Try.func100, Try.ntmps100
  go_wp2_with fail
  refine (size_neg n _ h).mono ?_; rintro e w' ⟨rfl, rfl⟩
  go_wp2
  go_ret2
  exact ⟨rfl, Below.refl _ _⟩
set_option maxHeartbeats 400000 in
theorem put_one (n : Nat) (w : World) (h : n < 240) : Calls Try.prog 100 #[.int .i64 (n : Int)] w (OwnOK w (putL n)) := by
  go_enter Try.func100, Try.ntmps100
  go_wp2_with fail
  refine (size_one n _ (by omega) (by omega)).mono ?_; rintro e w' ⟨rfl, rfl⟩
  go_wp2
  go_ret2
  have e : putL n = [UInt8.ofNat n] := by unfold putL; rw [if_pos h]
  refine ⟨_, rfl, ?_, (Below.refl _ _).alloc (Nat.le_refl _) _⟩
  rw [e]
  exact own_new w _ _ 1 _ (Byt1 n (by omega)).symm (by simp [Byt]) (by decide) (Nat.le_refl _)
set_option maxHeartbeats 400000 in
theorem put_two (n : Nat) (w : World) (h : 240 ≤ n) (h' : n < 2288) : Calls Try.prog 100 #[.int .i64 (n : Int)] w (OwnOK w (putL n)) := by
  go_enter Try.func100, Try.ntmps100
  go_wp2_with fail
  refine (size_two n _ (by omega) (by omega)).mono ?_; rintro e w' ⟨rfl, rfl⟩
  go_wp2
  go_ret2
  have e : putL n = [UInt8.ofNat (240 + (n - 240) / 256), UInt8.ofNat (n - 240)] := by unfold putL; rw [if_neg (by omega), if_pos h']
  refine ⟨_, rfl, ?_, (Below.refl _ _).alloc (Nat.le_refl _) _⟩
  rw [e]
  exact own_new w _ _ 2 _ (by simp [Byt]; omega) (by simp [Byt]) (by decide) (Nat.le_refl _)
set_option maxHeartbeats 400000 in
theorem put_long (n : Nat) (w : World) (h : 2288 ≤ n) (h' : n ≤ 9223372036854775807) : Calls Try.prog 100 #[.int .i64 (n : Int)] w (OwnOK w (putL n)) := by
  have h2 := nb_two n h (by omega)
  have h8 := nb_eight n (by omega)
  have e : putL n = UInt8.ofNat (246 + nb n) :: be (nb n) n := by unfold putL; rw [if_neg (by omega), if_neg (by omega)]
  have E := Lib.hid e
  clear e
  have es : nbi (n : Int) = (nb n : Int) := by unfold nbi; rw [Int.toNat_natCast]
  have hsz := fun W => size_long n W (by omega) (by omega)
  rw [es] at hsz
  have HS := Lib.hid hsz
  clear hsz es
  go_enter Try.func100, Try.ntmps100
  go_wp2_with fail
  refine (HS.out _).mono ?_; rintro e w' ⟨rfl, rfl⟩
  go_wp2_with fail
  refine (highFirst_i _ _ (nb n) n _ rfl (by omega) h' (by omega) h8).mono ?_; rintro e w1 ⟨rfl, hown, hb⟩
  simp only [World.size_alloc] at hown hb
  have HO := Lib.hid hown
  clear hown
  have hnew : (w.alloc (.cells #[.int .u8 (246 + (1 + (nb n : Int)) - 1)] 5)).ownsRow w.heap.size 5 1 (.slice (some ⟨w.heap.size, 0, none⟩) 1 1) 1 (Byt [UInt8.ofNat (246 + nb n)]) :=
    own_new w _ _ 1 _ (by rw [Byt1 _ (by omega)]; simp; omega) (by simp [Byt]) (by decide) (Nat.le_refl _)
  have hnew1 := Lib.hid (hnew.kept (row := none) ⟨hb.os, hb.tape, hb.output, hb.size, fun k hk _ => hb.block k (by simpa using hk)⟩ (.inr (by simp [Value.ownBlock])))
  have hz := hb.size
  clear hnew
  go_wp2_with (at_builtin; go_loud (refine wpList_appB _ rfl (.tmp 31) (.tmp 35) _ rfl Try.underlying30 info_u8 hnew1.out (own_bytes_reads HO.out) (nb n) rfl rfl (by omega) (by simp at hz; omega) ?_); intro A2 c2 w2 hown2 hgr2; have hg2 := hgr2.by_)
  go_ret2
  refine ⟨_, rfl, ?_, ?_⟩
  · rw [E.out, show (UInt8.ofNat (246 + nb n) :: be (nb n) n).length = 1 + nb n by simp [be_length]; omega]; exact hown2
  · have b1 : Below w.heap.size w w1 := ((Below.refl _ _).alloc (Nat.le_refl _) _).trans (hb.mono (Nat.le_succ _))
    exact b1.grown hg2 b1.size (by simp [Value.ownBlock])
theorem put_ok (n : Int) (w : World) (h : 0 ≤ n) (h' : n ≤ 9223372036854775807) : Calls Try.prog 100 #[.int .i64 n] w (OwnOK w (putL n.toNat)) := by
  obtain ⟨m, rfl⟩ := Int.eq_ofNat_of_zero_le h
  rw [Int.toNat_natCast]
  by_cases h1 : m < 240
  · exact put_one m w h1
  · by_cases h2 : m < 2288
    · exact put_two m w (by omega) h2
    · exact put_long m w (by omega) (by omega)

end Go.Proofs.Ytfmmdnjoichifaa
