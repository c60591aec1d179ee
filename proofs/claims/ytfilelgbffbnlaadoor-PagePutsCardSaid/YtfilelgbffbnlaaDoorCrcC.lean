/- Contracts of package crc: what was sealed is opened. -/
import Derived.Test.YtfilelgbffbnlaaDoorCrcB
import Derived.Test.YtfilelgbffbnlaaDoorRegR
namespace Go.Proofs.YtfilelgbffbnlaaDoor
open Go.RowKit

set_option maxHeartbeats 400000 in
theorem equal_yes (A B : Option Addr) (h g : Nat) (l : List UInt8) (c d : Nat) (w : World) (hl : SlB w h A l) (hm : SlB w g B l) :
    Calls Tryd.prog 22 #[.slice A l.length c, .slice B l.length d] w fun e w' => e = .returned (.bool true) ∧ w = w' := by
  have h1 := run_convB w Tryd.underlying22 Tryd.underlying5 Tryd.underlying9 c (hl.reads (n := l.length) rfl)
  have h2 := run_convB w Tryd.underlying22 Tryd.underlying5 Tryd.underlying9 d (hm.reads (n := l.length) rfl)
  clear hl hm
  go_enter Tryd.func22, Tryd.ntmps22
  go_wp2
  go_ret
  exact ⟨rfl, rfl⟩
set_option maxHeartbeats 400000 in
theorem equal_no (A B : Option Addr) (h g : Nat) (l m : List UInt8) (c d : Nat) (w : World) (hl : SlB w h A l) (hm : SlB w g B m) (hne : l ≠ m) :
    Calls Tryd.prog 22 #[.slice A l.length c, .slice B m.length d] w fun e w' => e = .returned (.bool false) ∧ w = w' := by
  have h1 := run_convB w Tryd.underlying22 Tryd.underlying5 Tryd.underlying9 c (hl.reads (n := l.length) rfl)
  have h2 := run_convB w Tryd.underlying22 Tryd.underlying5 Tryd.underlying9 d (hm.reads (n := m.length) rfl)
  have hs : (l == m) = false := by simpa using hne
  clear hl hm hne
  go_enter Tryd.func22, Tryd.ntmps22
  go_wp2
  go_ret
  exact ⟨rfl, rfl⟩
def SealedB (l : List UInt8) : Prop := 4 ≤ l.length ∧ sealM (l.take (l.length - 4)) = l
/-- What Open answers: the bytes in a new row. -/
def OpenYes (w : World) (l : List UInt8) (v : Value) (e : Ending) (w' : World) : Prop :=
  ∃ A c h, e = .returned (.tuple #[.slice A (l.length - 4) c, v]) ∧ SlB w' h A (l.take (l.length - 4)) ∧ w.heap.size ≤ h ∧ l.length - 4 ≤ c ∧ c ≤ maxLen ∧ Below w.heap.size w w'
def OpenNo (w : World) (v : Value) (e : Ending) (w' : World) : Prop := e = .returned (.tuple #[.slice none 0 0, v]) ∧ Below w.heap.size w w'
theorem up_conv {w1 w2 : World} {h : Nat} {A : Option Addr} {l : List UInt8} (s : SlB w1 h A l) (hb : RB w1 w2) : SlB w2 h A l := s.below hb fun h => h
/-- string(b) in whatever world comes behind this one. -/
theorem conv_later {w1 : World} {h : Nat} {A : Option Addr} {l : List UInt8} (s : SlB w1 h A l) (c : Nat) {n : Nat} (hn : n = l.length) :
    ∀ w, RB w1 w → (convert 22 9 (.slice A n c)).run Tryd.prog w = .ok (.string ⟨l.toArray⟩) w :=
  fun w hb => run_convB w Tryd.underlying22 Tryd.underlying5 Tryd.underlying9 c ((up_conv s hb).reads hn)
end Go.Proofs.YtfilelgbffbnlaaDoor
