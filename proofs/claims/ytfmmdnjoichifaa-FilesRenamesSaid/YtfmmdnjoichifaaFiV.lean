/- Contracts of a disk: Delete where the power goes, turn. -/
import Derived.Test.YtfmmdnjoichifaaFiU
import Derived.Test.YtfmmdnjoichifaaFiR
namespace Go.Proofs.Ytfmmdnjoichifaa
open Go.RowKit Go.Sort

section
variable {w w' w1 w2 w3 : World} {base d m : Nat} {D : Dk}
set_option maxRecDepth 100000 in
set_option maxHeartbeats 400000 in
theorem delete_stop (h : DiskR w base d m D) {f : Fi} (hf : f ∈ D.fs) (ho : D.off = false) (hs : D.stops = true) (hz : D.others = 0) :
    Calls Try.prog 45 #[ptD d, strV f.name] w fun e w' => e = .returned (.int .i64 50) ∧ DiskR w' base d m (offD D) ∧ DF base m w w' := by
  have b1 := al_below w (.cells #[ptD d] 23)
  have b2 := al_below (w.alloc (.cells #[ptD d] 23)) (.cells #[strV f.name] 9)
  have b12 := below_trans b1 b2
  have X1 := (Blk.new w 23 #[ptD d]).alloc (.cells #[strV f.name] 9)
  have X2 := Blk.new (w.alloc (.cells #[ptD d] 23)) 9 #[strV f.name]
  rw [World.size_alloc] at X2
  have H2 := h.below b12
  have P1 := Lib.hid (reach_ok H2 hf ho)
  have x1 := X1.cell 0
  have x2 := X2.cell 0
  have DG := Lib.hid ((deed_off H2 hs hz 94 #[.pointer (some ⟨w.heap.size, 0, none⟩), .pointer (some ⟨w.heap.size + 1, 0, none⟩)]).mono (R' := fun e w' => e = .returned (.int .i64 50) ∧ DiskR w' base d m (offD D) ∧ DF base m w w') fun e w' ⟨he, k1, k2⟩ => ⟨he, k1, (DF.of_below b12).trans k2⟩)
  obtain ⟨s1, e1⟩ : ∃ s, strV f.name = .string s := ⟨_, rfl⟩
  rw [e1] at P1 x1 x2 DG ⊢
  clear h b1 b2 b12 X1 X2 H2 hf ho hs hz e1
  go_enter Try.func45, Try.ntmps45
  go_wp2_with fail
  refine P1.out.mono ?_; rintro e w' ⟨rfl, rfl⟩
  go_wp2_with fail
  refine DG.out.mono ?_; rintro e w' ⟨rfl, hq⟩
  have HQ := Lib.hid hq
  clear hq
  go_wp2
  go_ret
  exact ⟨rfl, HQ.out⟩
end
end Go.Proofs.Ytfmmdnjoichifaa
