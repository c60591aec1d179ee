/- Contracts of a disk: Sync over what is pending, the call. -/
import Derived.Test.YtfmmdnjoichifaaFiAo
namespace Go.Proofs.Ytfmmdnjoichifaa
open Go.RowKit Go.Sort

section
variable {w w1 w2 w' : World} {base d m : Nat} {D : Dk}
set_option maxRecDepth 100000 in
/-- Sync, by what its deed does, with the boxes whole. -/
theorem sync_by2 (h : DiskR w base d m D) {f : Fi} (hf : f ∈ D.fs) (ho : D.off = false) (hgo : goes D) (Q : World → Prop)
    (hs : ∀ w1 bd bf, DiskR w1 base d m (tick D) → DF base m w w1 → Blk w1 bd 23 #[ptD d] → Blk w1 bf 86 #[ptD f.blk] → Calls Try.prog 52 #[.pointer (some ⟨bd, 0, none⟩), .pointer (some ⟨bf, 0, none⟩)] w1 fun e w' => e = .returned (.tuple #[]) ∧ Q w') :
    Calls Try.prog 12 #[ptD d, strV f.name] w fun e w' => e = .returned (.int .i64 0) ∧ Q w' := by
  have b1 := al_below w (.cells #[ptD d] 23)
  have b2 := al_below (w.alloc (.cells #[ptD d] 23)) (.cells #[ptD f.blk] 86)
  have X1 := Blk.new w 23 #[ptD d]
  have Y1 := X1.alloc (.cells #[ptD f.blk] 86)
  have X2 := Blk.new (w.alloc (.cells #[ptD d] 23)) 86 #[ptD f.blk]
  rw [World.size_alloc] at X2
  have H1 := h.below b1
  have H2 := h.below (below_trans b1 b2)
  have P1 := Lib.hid (reach_ok H1 hf ho)
  have x1 := X1.cell 0
  have y1 := Y1.cell 0
  have DG := Lib.hid (deed_go H2 hgo 52 #[.pointer (some ⟨w.heap.size, 0, none⟩), .pointer (some ⟨w.heap.size + 1, 0, none⟩)] (enters_of Try.func52 (by kernel_rfl) rfl) Q fun w5 k1 k2 => by
    have e1 := k2.blk Y1 (map_ne_blk H2.map Y1) (by decide)
    have e2 := k2.blk X2 (map_ne_blk H2.map X2) (by decide)
    exact hs w5 _ _ k1 ((DF.of_below (below_trans b1 b2)).trans k2) e1 e2)
  clear h b1 b2 X1 X2 Y1 H1 H2 hf ho hgo hs
  go_enter Try.func12, Try.ntmps12
  go_wp2_with fail
  refine P1.out.mono ?_; rintro e w' ⟨rfl, rfl⟩
  go_wp2_with fail
  refine DG.out.mono ?_; rintro e w' ⟨rfl, hq⟩
  have HQ := Lib.hid hq
  clear hq
  go_wp2
  go_ret
  exact ⟨rfl, HQ.out⟩
/-- The disk behind a Sync. -/
def syncD (D : Dk) (b : Nat) : Dk := { D with fs := syncFs D.fs D.pend b D.pend.length, pend := D.pend.filter (keepB b) }
theorem sync_any (h : DiskR w base d m D) {f : Fi} (hf : f ∈ D.fs) (ho : D.off = false) (hgo : goes D) (hp : D.pend.length ≤ 1000000) (hbase : base ≤ w.heap.size) :
    Calls Try.prog 12 #[ptD d, strV f.name] w fun e w' => e = .returned (.int .i64 0) ∧ DiskR w' base d m (syncD (tick D) f.blk) ∧ DF base m w w' :=
  sync_by2 h hf ho hgo (fun w' => DiskR w' base d m (syncD (tick D) f.blk) ∧ DF base m w w') fun w1 _ _ k1 k2 e1 e2 =>
    (sync1_any k1 ⟨f, by rw [tick_fs]; exact hf, rfl⟩ (by rw [tick_pend]; exact hp) (Nat.le_trans hbase k2.2.2.2.1) e1 e2).mono fun _ _ ⟨he, k3, k4⟩ => ⟨he, k3, k2.trans k4⟩
end
end Go.Proofs.Ytfmmdnjoichifaa
