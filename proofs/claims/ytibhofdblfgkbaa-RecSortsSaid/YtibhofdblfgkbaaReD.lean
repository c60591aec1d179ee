/- Contracts of package rec: Count. -/
import Derived.Test.YtibhofdblfgkbaaReC
namespace Go.Proofs.Ytibhofdblfgkbaa
open Go.RowKit Go.Sort

/-- How often a record is there. -/
def cntR (l : List (Int × Int)) (r : Int × Int) : Nat := (l.filter fun x => x == r).length
theorem cntR_take {l : List (Int × Int)} {k : Nat} {x : Int × Int} (r : Int × Int) (h : l[k]? = some x) : cntR (l.take (k + 1)) r = cntR (l.take k) r + if x == r then 1 else 0 := by
  unfold cntR
  rw [List.take_add_one, h, List.filter_append, List.length_append]
  congr 1
  simp only [Option.toList_some, List.filter_cons, List.filter_nil]
  split <;> simp_all
theorem cntR_le (l : List (Int × Int)) (r : Int × Int) : cntR l r ≤ l.length := List.length_filter_le _ _
set_option maxRecDepth 100000 in
set_option maxHeartbeats 1000000 in
theorem rc_count_any (A : Option Addr) (h : Nat) (l : List (Int × Int)) (c : Nat) (a b : Int) (w : World) (hl : SlP w h A l) (hn : l.length ≤ 9223372036854775807) :
    Calls Try.prog 24 #[.slice A l.length c, .agg #[.int .i64 a, .int .i64 b]] w fun e w' => e = .returned (.int .i64 (cntR l (a, b) : Nat)) ∧ Below w.heap.size w w' := by
  have HL := Lib.hid hl
  have HB0 := Lib.hid (alloc_below w (.cells #[.int .i64 a, .int .i64 b] 24))
  have KB := Lib.hid (Blk.new w 24 #[.int .i64 a, .int .i64 b])
  clear hl
  go_enter Try.func24, Try.ntmps24
  go_wp2_with fail
  go_loopw [5, 10] (fun n i wr => ∃ k : Nat, k ≤ l.length ∧ i = .int .i64 (k : Int) ∧ n = .int .i64 (cntR (l.take k) (a, b) : Nat) ∧ Below (w.heap.size + 1) (w.alloc (.cells #[.int .i64 a, .int .i64 b] 24)) wr) (fun _ i _ => l.length - (intOf i).toNat)
  case atStart => exact ⟨0, Nat.zero_le _, rfl, rfl, Below.refl _ _⟩
  case round =>
    obtain ⟨k, hk, rfl, rfl, hbw⟩ := hrel
    have BW := Lib.hid hbw
    have BF := Lib.hid (HB0.out.trans (hbw.mono (Nat.le_succ _)))
    clear hbw
    by_cases hlt : k < l.length
    · obtain ⟨x, hx⟩ : ∃ x, l[k]? = some x := ⟨_, List.getElem?_eq_getElem hlt⟩
      have HS := Lib.hid (cntR_take (a, b) hx)
      have hle := Nat.le_trans (cntR_le (l.take k) (a, b)) (by rw [List.length_take]; exact Nat.min_le_left _ _)
      generalize cntR (l.take k) (a, b) = n at HS hle
      obtain ⟨x1, x2⟩ := x
      obtain ⟨-, o1, eA, p0, p1⟩ := (HL.out.below BF.out).at_ hx
      subst eA
      have k0 : wr.cell? ⟨w.heap.size, 0, none⟩ = some (.int .i64 a) := (BW.out.cell (p := ⟨w.heap.size, 0, none⟩) (Nat.lt_succ_self _)).trans (KB.out.cell 0)
      have k1 : wr.cell? ⟨w.heap.size, 1, none⟩ = some (.int .i64 b) := (BW.out.cell (p := ⟨w.heap.size, 1, none⟩) (Nat.lt_succ_self _)).trans (KB.out.cell 1)
      have hlt0 : w.heap.size < wr.heap.size := Nat.lt_of_lt_of_le (by simp) BW.out.size
      have HBX := Lib.hid (alloc_below wr (.cells #[.int .i64 x1, .int .i64 x2] 24))
      have K0 := Lib.hid (HBX.out.cell (p := ⟨w.heap.size, 0, none⟩) hlt0 |>.trans k0)
      have K1 := Lib.hid (HBX.out.cell (p := ⟨w.heap.size, 1, none⟩) hlt0 |>.trans k1)
      have HB2 := Lib.hid (BW.out.trans (HBX.out.mono (Nat.succ_le_of_lt hlt0)))
      clear k0 k1 hx
      by_cases e1 : x1 = a
      · by_cases e2 : x2 = b
        · have hs : cntR (l.take (k + 1)) (a, b) = n + 1 := by rw [HS.out, e1, e2]; simp
          have HSN := Lib.hid hs
          have d1 : (x1 == a) = true := by simpa using e1
          have d2 : (x2 == b) = true := by simpa using e2
          clear HS hs e1 e2
          have k0 := K0.out
          have k1 := K1.out
          go_wp2
          exact ⟨⟨k + 1, by omega, by go_num, by rw [HSN.out]; go_num, HB2.out⟩, by simp [intOf]; omega⟩
        · have hs : cntR (l.take (k + 1)) (a, b) = n := by
            have h9 : ¬ ((x1, x2) == (a, b)) = true := by simpa using fun _ => e2
            rw [HS.out, if_neg h9]; rfl
          have HSN := Lib.hid hs
          have d1 : (x1 == a) = true := by simpa using e1
          have d2 : (x2 == b) = false := by simpa using e2
          clear HS hs e1 e2
          have k0 := K0.out
          have k1 := K1.out
          go_wp2
          exact ⟨⟨k + 1, by omega, by go_num, by rw [HSN.out], HB2.out⟩, by simp [intOf]; omega⟩
      · have hs : cntR (l.take (k + 1)) (a, b) = n := by
          have h9 : ¬ ((x1, x2) == (a, b)) = true := by simpa using fun e _ => e1 e
          rw [HS.out, if_neg h9]; rfl
        have HSN := Lib.hid hs
        have d1 : (x1 == a) = false := by simpa using e1
        clear HS hs e1
        have k0 := K0.out
        have k1 := K1.out
        go_wp2
        exact ⟨⟨k + 1, by omega, by go_num, by rw [HSN.out], HB2.out⟩, by simp [intOf]; omega⟩
    · obtain rfl : k = l.length := by omega
      rw [List.take_length]
      go_wp2
      go_ret
      exact ⟨rfl, BF.out⟩
end Go.Proofs.Ytibhofdblfgkbaa
