/- Contracts of num.Reader's Bytes, Text, Left, Done. -/
import Derived.Test.YtalefgcdhakfoaaNumD
namespace Go.Proofs.Ytalefgcdhakfoaa
open Go.RowKit

/-- What 'Bytes' hands out: a row of its own. -/
def BytesPost (g h : Nat) (w : World) (t : List UInt8 × Option (List UInt8)) (e : Ending) (w' : World) : Prop :=
  ∃ A c, e = .returned (.slice A t.1.length c) ∧ w'.ownsRow w.heap.size 5 1 (.slice A t.1.length c) t.1.length (Byt t.1) ∧ RdAt 139 w' g h t.2 ∧ w.grownBy w' (some g)
theorem takeM_le (n : Int) (s : Option (List UInt8)) (L : Nat) (hl : ∀ l, s = some l → l.length ≤ L) : (takeM n s).1.length ≤ L := by
  rcases s with _ | l
  · exact Nat.zero_le _
  · have := hl l rfl
    unfold takeM
    by_cases hn : 0 ≤ n ∧ n ≤ l.length
    · simp only [if_pos hn, List.length_take]; omega
    · simp only [if_neg hn]; exact Nat.zero_le _
def textM (most : Int) (s : Option (List UInt8)) : List UInt8 × Option (List UInt8) :=
  let n := numM s
  if (n.1 : Int) > most then ([], none) else takeM (n.1 : Int) n.2
def leftM : Option (List UInt8) → Nat
  | none => 0
  | some l => l.length
set_option maxHeartbeats 400000 in
theorem left_nil (w : World) : Calls Try.prog 64 #[.pointer none] w fun e w' => e = .returned (.int .i64 0) ∧ w = w' := by
  go_enter Try.func64, Try.ntmps64
  go_wp2_with fail
  refine (bad_nil _).mono ?_; rintro e w' ⟨rfl, rfl⟩
  go_wp2
  go_ret
  exact ⟨rfl, rfl⟩
set_option maxHeartbeats 400000 in
theorem left_at (g h : Nat) (s : Option (List UInt8)) (w : World) (r : RdAt 139 w g h s) :
    Calls Try.prog 64 #[.pointer (some ⟨g, 0, none⟩)] w fun e w' => e = .returned (.int .i64 (leftM s : Int)) ∧ w = w' := by
  have R := Lib.hid r
  obtain ⟨A, c, l, hb, _, hlc, hcm, _, hr⟩ := r
  have c0 := hb.cell 0
  simp at c0
  clear hb
  unfold maxLen at hcm
  rcases s with _ | l'
  · clear hr
    go_enter Try.func64, Try.ntmps64
    go_wp2_with fail
    refine (bad_at _ _ _ _ R.out).mono ?_; rintro e w' ⟨rfl, rfl⟩
    go_wp2
    go_ret
    exact ⟨rfl, rfl⟩
  · obtain rfl := hr l' rfl
    clear hr
    go_enter Try.func64, Try.ntmps64
    go_wp2_with fail
    refine (bad_at _ _ _ _ R.out).mono ?_; rintro e w' ⟨rfl, rfl⟩
    go_wp2
    go_ret
    exact ⟨rfl, rfl⟩
def doneM : Option (List UInt8) → Int
  | none => 10
  | some l => if l = [] then 0 else 10
end Go.Proofs.Ytalefgcdhakfoaa
