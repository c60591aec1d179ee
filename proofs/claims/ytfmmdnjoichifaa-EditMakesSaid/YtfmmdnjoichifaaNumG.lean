/- Contracts of the document's own answers for num: Fix, Put, Text. -/
import Derived.Test.YtfmmdnjoichifaaNumF
import Derived.Test.YtfmmdnjoichifaaRegR
namespace Go.Proofs.Ytfmmdnjoichifaa
open Go.RowKit

def RefFixNo (w : World) (e : Ending) (w' : World) : Prop := e = .returned (.tuple #[.slice none 0 0, .bool false]) ∧ Below w.heap.size w w'
set_option maxHeartbeats 400000 in
theorem rfix_off (n size : Int) (w : World) (h : n < 0 ∨ size < 1 ∨ 8 < size) : Calls Try.prog 108 #[.int .i64 n, .int .i64 size] w (RefFixNo w) := by
  by_cases h1 : n < 0
  · have d1 : decide (n < 0) = true := by simpa using h1
    clear h
    go_enter Try.func108, Try.ntmps108
    go_wp2
    go_ret2
    exact ⟨rfl, Below.refl _ _⟩
  · have d1 : decide (n < 0) = false := by simpa using h1
    by_cases h2 : size < 1
    · have d2 : decide (size < 1) = true := by simpa using h2
      clear h
      go_enter Try.func108, Try.ntmps108
      go_wp2
      go_ret2
      exact ⟨rfl, Below.refl _ _⟩
    · have d2 : decide (size < 1) = false := by simpa using h2
      have d3 : decide (8 < size) = true := by simp; omega
      clear h
      go_enter Try.func108, Try.ntmps108
      go_wp2
      go_ret2
      exact ⟨rfl, Below.refl _ _⟩
/-- .. the bytes, and whether they are all. -/
def RefFix (w : World) (n k : Nat) (e : Ending) (w' : World) : Prop :=
  ∃ A c, e = .returned (.tuple #[.slice A k c, .bool (decide (n < 256 ^ k))]) ∧ w'.ownsRow w.heap.size 5 1 (.slice A k c) k (Byt (be k n)) ∧ Below w.heap.size w w'
set_option maxHeartbeats 1000000 in
theorem rfix_any (n size : Nat) (w : World) (hn : n ≤ 9223372036854775807) (h0 : 1 ≤ size) (h8 : size ≤ 8) :
    Calls Try.prog 108 #[.int .i64 (n : Int), .int .i64 (size : Int)] w (RefFix w n size) := by
  have hmk := fun W => run_make_row' (P := Try.prog) 30 5 (.int .u8 0) 1 Try.underlying30 info_u8 rfl .i64 .i64 size (by omega) (by omega) W
  have d1 : decide ((n : Int) < 0) = false := by simp
  have d2 : decide ((size : Int) < 1) = false := by simp; omega
  have d3 : decide (8 < (size : Int)) = false := by simp; omega
  go_enter Try.func108, Try.ntmps108
  go_wp2
  go_loopw [0, 7] (fun x i wr => ∃ k : Nat, k ≤ size ∧ i = .int .i64 ((size : Int) - 1 - k) ∧ x = .int .i64 ((n / 256 ^ k : Nat) : Int) ∧ wr.rowIs w.heap.size 5 size (hfCell n size k) ∧ Below w.heap.size w wr) (fun _ i _ => (intOf i + 1).toNat)
  case atStart =>
    refine ⟨0, Nat.zero_le _, by simp, by simp, (World.rowIs_made w _ _ _).congr fun j hj => ?_, (Below.refl _ _).alloc (Nat.le_refl _) _⟩
    unfold hfCell
    rw [if_neg (by omega)]
  case round =>
    obtain ⟨k, hk, rfl, rfl, hrow, hb⟩ := hrel
    have hm : n / 256 ^ k ≤ 9223372036854775807 := Nat.le_trans (Nat.div_le_self _ _) hn
    clear hmk d2 d3
    by_cases hlt : k < size
    · have hc := hrow.cell (i := size - 1 - k) (by omega)
      have hf := hrow.frozen (size - 1 - k)
      have hi : ((size : Int) - 1 - k).toNat = size - 1 - k := by omega
      obtain ⟨m, hmm⟩ : ∃ m, m = n / 256 ^ k := ⟨_, rfl⟩
      rw [← hmm] at hm ⊢
      have HM := Lib.hid hmm
      clear hmm
      go_wp2
      have e : m / 256 = n / 256 ^ (k + 1) := by rw [HM.out, Nat.pow_succ, Nat.div_div_eq_div_mul]
      refine ⟨⟨k + 1, by omega, by go_num, by rw [← e]; rfl, (hrow.set _ _).congr fun j hj => ?_, hb.setCell (Nat.le_refl _) _⟩, by simp [intOf]; omega⟩
      rw [hf_step n size k j hlt hj, HM.out]
      rfl
    · obtain rfl : k = size := by omega
      have hz : (((n / 256 ^ k : Nat) : Int) == 0) = decide (n < 256 ^ k) := by
        rw [Bool.eq_iff_iff, beq_iff_eq, decide_eq_true_iff, show (((n / 256 ^ k : Nat) : Int) = 0 ↔ n / 256 ^ k = 0) by omega, Nat.div_eq_zero_iff]
        have := Nat.pow_pos (n := k) (show 0 < 256 by omega)
        omega
      have HZ := Lib.hid hz
      clear hz hm
      obtain ⟨m, hmm⟩ : ∃ m, m = n / 256 ^ k := ⟨_, rfl⟩
      rw [← hmm] at HZ ⊢
      clear hmm
      go_wp2
      go_ret2
      unfold RefFix
      rw [← HZ.out]
      exact ⟨some ⟨w.heap.size, 0, none⟩, k, rfl, own_of_row hrow (Nat.le_refl _) (by unfold maxLen; omega) (hf_be n k).symm, hb⟩
theorem nb_eq (n k : Nat) (hn : n < 2 ^ 64) (h1 : 2 ≤ k) (h2 : n < 256 ^ k) (h3 : 256 ^ (k - 1) ≤ n) (h8 : k ≤ 8) : nb n = k := by
  have e : ∀ j, (256 : Nat) ^ j = 2 ^ (8 * j) := fun j => by rw [show (256 : Nat) = 2 ^ 8 from rfl, ← Nat.pow_mul]
  rw [e] at h2 h3
  have a := nb_le k n h2 h8
  have b := nb_gt (k - 1) n h3 hn
  omega
set_option maxRecDepth 100000 in
set_option maxHeartbeats 400000 in
theorem rput_short (n : Nat) (w : World) (h : n < 2288) : Calls Try.prog 80 #[.int .i64 (n : Int)] w (Own1 w (putL n)) := by
  by_cases h1 : n < 240
  · go_enter Try.func80, Try.ntmps80
    go_wp2
    go_ret
    have e : putL n = [UInt8.ofNat n] := by unfold putL; rw [if_pos h1]
    refine ⟨_, rfl, ?_, (Below.refl _ _).alloc (Nat.le_refl _) _⟩
    rw [e]
    exact own_new w _ _ 1 _ (Byt1 n (by omega)).symm (by simp [Byt]) (by decide) (Nat.le_refl _)
  · go_enter Try.func80, Try.ntmps80
    go_wp2
    go_ret
    have e : putL n = [UInt8.ofNat (240 + (n - 240) / 256), UInt8.ofNat (n - 240)] := by unfold putL; rw [if_neg (by omega), if_pos h]
    refine ⟨_, rfl, ?_, (Below.refl _ _).alloc (Nat.le_refl _) _⟩
    rw [e]
    exact own_new w _ _ 2 _ (by simp [Byt]; omega) (by simp [Byt]) (by decide) (Nat.le_refl _)
theorem rfix_i (n size : Int) (m k : Nat) (w : World) (hm : n = (m : Int)) (hk : size = (k : Int)) (hn : m ≤ 9223372036854775807) (h0 : 1 ≤ k) (h8 : k ≤ 8) :
    Calls Try.prog 108 #[.int .i64 n, .int .i64 size] w (RefFix w m k) := by
  subst hm; subst hk
  exact rfix_any m k w hn h0 h8
/-- A head byte in an array of its own. -/
theorem head_own (w : World) (x : Int) (b : UInt8) (hx : x = (b.toNat : Int)) (t : TypeId) :
    (w.alloc (.cells #[.int .u8 x] t)).ownsRow w.heap.size t 1 (.slice (some ⟨w.heap.size, 0, none⟩) 1 1) 1 (Byt [b]) := by
  subst hx
  exact own_new w #[.int .u8 (b.toNat : Int)] t 1 _ (by simp [Byt]) (by simp [Byt]) (by decide) (Nat.le_refl _)
set_option maxRecDepth 100000 in
set_option maxHeartbeats 1000000 in
theorem rput_long (n : Nat) (w : World) (h : 2288 ≤ n) (h' : n ≤ 9223372036854775807) : Calls Try.prog 80 #[.int .i64 (n : Int)] w (Own1 w (putL n)) := by
  have e : putL n = UInt8.ofNat (246 + nb n) :: be (nb n) n := by unfold putL; rw [if_neg (by omega), if_neg (by omega)]
  have E := Lib.hid e
  clear e
  go_enter Try.func80, Try.ntmps80
  go_wp2
  go_loopw [3] (fun i wr => ∃ k : Nat, 2 ≤ k ∧ k ≤ 8 ∧ i = .int .i64 (k : Int) ∧ 256 ^ (k - 1) ≤ n ∧ Below w.heap.size w wr) (fun i _ => (8 - intOf i).toNat)
  case atStart => exact ⟨2, by omega, by omega, rfl, by omega, Below.refl _ _⟩
  case round =>
    obtain ⟨k, hk2, hk8, rfl, hge, hb⟩ := hrel
    have HG := Lib.hid hge
    clear hge
    by_cases hlt : k < 8
    · go_wp2_with fail
      refine (rfix_i _ _ n k _ rfl rfl h' (by omega) hk8).mono ?_; rintro e w1 ⟨A, c, rfl, hown, hb1⟩
      have HO := Lib.hid hown
      clear hown
      have hb' : Below w.heap.size w w1 := hb.trans (hb1.mono hb.size)
      by_cases hin : n < 256 ^ k
      · have en := nb_eq n k (by omega) hk2 hin HG.out hk8
        have EN := Lib.hid en
        have di : decide (n < 256 ^ k) = true := by simpa using hin
        clear en hin
        have hnew := Lib.hid (head_own w1 (246 + (k : Int)) (UInt8.ofNat (246 + k)) (by simp; omega) 5)
        have HO2 := Lib.hid (HO.out.alloc (.cells #[.int .u8 (246 + (k : Int))] 5))
        go_wp2_with (at_builtin; (refine wpList_appB _ rfl (.tmp 41) (.tmp 42) _ rfl Try.underlying30 info_u8 hnew.out (own_bytes_reads HO2.out) c rfl rfl (by omega) (by simp) ?_); intro A2 c2 w2 hown2 hgr2; have hg2 := hgr2.by_)
        go_ret
        have b2 : Below w.heap.size w w2 := (hb'.alloc hb'.size _).grown hg2 (by simp; have := hb'.size; omega) (by simp [Value.ownBlock]; exact hb'.size)
        refine ⟨_, rfl, ?_, b2⟩
        rw [E.out, EN.out, show (UInt8.ofNat (246 + k) :: be k n).length = 1 + k by simp [be_length]; omega]
        exact own_mono hown2 hb'.size
      · have di : decide (n < 256 ^ k) = false := by simpa using hin
        have hge := Lib.hid (Nat.le_of_not_lt hin)
        clear hin
        go_wp2
        exact ⟨⟨k + 1, by omega, by omega, by go_num, by simpa using hge.out, hb'⟩, by simp [intOf]; omega⟩
    · obtain rfl : k = 8 := by omega
      go_wp2_with fail
      refine (rfix_i _ _ n 8 _ rfl rfl h' (by omega) (by omega)).mono ?_; rintro e w1 ⟨A, c, rfl, hown, hb1⟩
      have HO := Lib.hid hown
      clear hown
      have hb' : Below w.heap.size w w1 := hb.trans (hb1.mono hb.size)
      have en := nb_eq n 8 (by omega) (by omega) (by omega) HG.out (by omega)
      have EN := Lib.hid en
      clear en
      have hnew := Lib.hid (head_own w1 254 (UInt8.ofNat (246 + 8)) (by decide) 5)
      have HO2 := Lib.hid (HO.out.alloc (.cells #[.int .u8 254] 5))
      go_wp2_with (at_builtin; (refine wpList_appB _ rfl (.tmp 49) (.tmp 50) _ rfl Try.underlying30 info_u8 hnew.out (own_bytes_reads HO2.out) c rfl rfl (by omega) (by simp) ?_); intro A2 c2 w2 hown2 hgr2; have hg2 := hgr2.by_)
      go_ret
      have b2 : Below w.heap.size w w2 := (hb'.alloc hb'.size _).grown hg2 (by simp; have := hb'.size; omega) (by simp [Value.ownBlock]; exact hb'.size)
      refine ⟨_, rfl, ?_, b2⟩
      rw [E.out, EN.out, show (UInt8.ofNat (246 + 8) :: be 8 n).length = 1 + 8 by simp [be_length]]
      exact own_mono hown2 hb'.size
theorem rput_any (n : Nat) (w : World) (h : n ≤ 9223372036854775807) : Calls Try.prog 80 #[.int .i64 (n : Int)] w (Own1 w (putL n)) := by
  by_cases h1 : n < 2288
  · exact rput_short n w h1
  · exact rput_long n w (by omega) h
set_option maxHeartbeats 400000 in
theorem rtext_any (s : ByteArray) (w : World) (hs : s.size ≤ 140737488351232) : Calls Try.prog 82 #[.string s] w (Own1 w (textL (strL s))) := by
  obtain ⟨i0, hi0, hz0, hz1, hz2⟩ := info_parts info_u8
  have hp := putL_length s.size
  have hp2 : (putL s.size).length ≤ 9 := by
    have := nb_eight s.size (by omega)
    rw [hp]; split
    · omega
    · split <;> omega
  clear hp
  have hput := fun W => rput_any s.size W (by omega)
  have HPUT := Lib.hid hput
  clear hput
  go_enter Try.func82, Try.ntmps82
  go_wp2_with fail
  refine (HPUT.out _).mono ?_; rintro e w1 ⟨v, rfl, hown, hb⟩
  have HO := Lib.hid hown
  clear hown
  have hz := hb.size
  go_wp2_with (at_builtin; refine Lib.wpList_append_own_string w1 rfl (.tmp 5) (.tmp 6) _ _ rfl w.heap.size 5 i0 Try.underlying30 Try.underlying9 hi0 hz0 hz1 hz2 v _ _ rfl HO.out s rfl (by unfold maxLen; omega) (by omega) hz ?_; intro v2 w2 hown2 hg2 hat2)
  go_ret
  refine ⟨v2, rfl, ?_, hb.grown hg2 hz fun k hk => (HO.out.lt k hk).1⟩
  have e : Lib.strCells s = Byt (strL s) := rfl
  rw [textL, strL_length, Byt_append, List.length_append, strL_length, ← e]
  exact hown2

end Go.Proofs.Ytfmmdnjoichifaa
