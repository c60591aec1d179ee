/- Contracts of a disk: forget and Sync where nothing is pending. -/
import Derived.Test.YtfmmdnjoichifaaFiS
namespace Go.Proofs.Ytfmmdnjoichifaa
open Go.RowKit Go.Sort

section
variable {w w' : World} {base d m : Nat} {D : Dk}
theorem index_none (A : Option Addr) (c : Nat) (fv : Value) (w : World) : Calls Try.prog 116 #[.slice A 0 c, fv] w fun e w' => e = .returned (.int .i64 (-1)) ∧ w = w' := by
  go_enter Try.func116, Try.ntmps116
  go_wp2_with fail
  go_loopw [8] (fun i wr => i = .int .i64 0 ∧ w = wr) (fun _ _ => 0)
  case atStart => exact ⟨rfl, rfl⟩
  case round =>
    obtain ⟨rfl, rfl⟩ := hrel
    go_wp2_with fail
    go_ret
    exact ⟨rfl, rfl⟩
theorem deleteFunc_none (A : Option Addr) (c : Nat) (fv : Value) (w : World) : Calls Try.prog 95 #[.slice A 0 c, fv] w fun e w' => e = .returned (.slice A 0 c) ∧ w = w' := by
  have P := Lib.hid (index_none A c fv w)
  go_enter Try.func95, Try.ntmps95
  go_wp2_with fail
  refine P.out.mono ?_; rintro e w' ⟨rfl, rfl⟩
  go_wp2_with fail
  go_ret
  exact ⟨rfl, rfl⟩
theorem DiskR.forgot (h : DiskR w base d m D) (hp : D.pend = []) {pA : Option Addr} {pc : Nat} (hc : w.cell? ⟨d, 2, none⟩ = some (.slice pA 0 pc)) : DiskR (w.setCell ⟨d, 2, none⟩ (.slice pA 0 pc)) base d m D ∧ DF base m w (w.setCell ⟨d, 2, none⟩ (.slice pA 0 pc)) :=
  h.setTop (off' := D.off) (stops' := D.stops) (others' := D.others) (gr_set w d 2 (.slice pA 0 pc)) (by have := h.lim; omega) fun pB pd hb => by
    have c := hb.cell 2
    rw [hc, hp] at c
    injection c with c
    injection c with c1 _ c2
    subst c1
    subst c2
    rw [hp] at hb ⊢
    exact hb.set_ 2 _
theorem forget_none (h : DiskR w base d m D) (hp : D.pend = []) (b : Nat) : Calls Try.prog 54 #[ptD d, ptD b] w fun e w' => e = .returned (.tuple #[]) ∧ DiskR w' base d m D ∧ DF base m w w' := by
  have b0 := al_below w (.cells #[ptD b] 86)
  have h1 := h.below b0
  obtain ⟨pA, pc, hb, -⟩ := h1.top
  have c2 := hb.cell 2
  have f2 := hb.frozen 2
  rw [hp] at c2
  have c2' : (w.alloc (.cells #[ptD b] 86)).cell? ⟨d, 2, none⟩ = some (.slice pA 0 pc) := c2
  clear c2
  have HS := Lib.hid (h1.forgot hp c2')
  have B0 := Lib.hid b0
  have P := Lib.hid (fun fv W => deleteFunc_none pA pc fv W)
  clear h h1 hb b0 hp
  go_enter Try.func54, Try.ntmps54
  go_wp2_with fail
  refine (P.out _ _).mono ?_; rintro e w' ⟨rfl, rfl⟩
  go_wp2_with fail
  go_end0
  exact ⟨rfl, HS.out.1, (DF.of_below B0.out).trans HS.out.2⟩
set_option maxRecDepth 100000 in
theorem sync1_none (h : DiskR w base d m D) (hp : D.pend = []) {bd bf b : Nat} (h1 : w.cell? ⟨bd, 0, none⟩ = some (ptD d)) (h2 : w.cell? ⟨bf, 0, none⟩ = some (ptD b)) :
    Calls Try.prog 52 #[.pointer (some ⟨bd, 0, none⟩), .pointer (some ⟨bf, 0, none⟩)] w fun e w' => e = .returned (.tuple #[]) ∧ DiskR w' base d m D ∧ DF base m w w' := by
  obtain ⟨pA, pc, hb, -⟩ := h.top
  have c2 := hb.cell 2
  rw [hp] at c2
  have c2' : w.cell? ⟨d, 2, none⟩ = some (.slice pA 0 pc) := c2
  have P := Lib.hid (forget_none h hp b)
  clear c2 hb h hp
  go_enter Try.func52, Try.ntmps52
  go_wp2_with fail
  go_loopw [9] (fun i wr => i = .int .i64 0 ∧ w = wr) (fun _ _ => 0)
  case atStart => exact ⟨rfl, rfl⟩
  case round =>
    obtain ⟨rfl, rfl⟩ := hrel
    go_wp2_with fail
    refine P.out.mono ?_; rintro e w' ⟨rfl, hq⟩
    have HQ := Lib.hid hq
    clear hq
    go_wp2
    go_end0
    exact ⟨rfl, HQ.out⟩
set_option maxRecDepth 100000 in
/-- Sync, by what its deed does. -/
theorem sync_by (h : DiskR w base d m D) {f : Fi} (hf : f ∈ D.fs) (ho : D.off = false) (hgo : goes D) (Q : World → Prop)
    (hs : ∀ w1 bd bf, DiskR w1 base d m (tick D) → DF base m w w1 → w1.cell? ⟨bd, 0, none⟩ = some (ptD d) → w1.cell? ⟨bf, 0, none⟩ = some (ptD f.blk) → Calls Try.prog 52 #[.pointer (some ⟨bd, 0, none⟩), .pointer (some ⟨bf, 0, none⟩)] w1 fun e w' => e = .returned (.tuple #[]) ∧ Q w') :
    Calls Try.prog 12 #[ptD d, strV f.name] w fun e w' => e = .returned (.int .i64 0) ∧ Q w' := by
  have b1 := al_below w (.cells #[ptD d] 23)
  have b2 := al_below (w.alloc (.cells #[ptD d] 23)) (.cells #[ptD f.blk] 86)
  have X1 := Blk.new w 23 #[ptD d]
  have Y1 := X1.alloc (.cells #[ptD f.blk] 86)
  have X2 := Blk.new (w.alloc (.cells #[ptD d] 23)) 86 #[ptD f.blk]
  rw [World.size_alloc] at X2
  have H1 := h.below b1
  have H2 := h.below (below_trans b1 b2)
  have P1 := Lib.hid (reach_ok H1 hf ho)
  have x1 := X1.cell 0
  have y1 := Y1.cell 0
  have DG := Lib.hid (deed_go H2 hgo 52 #[.pointer (some ⟨w.heap.size, 0, none⟩), .pointer (some ⟨w.heap.size + 1, 0, none⟩)] (enters_of Try.func52 (by kernel_rfl) rfl) Q fun w5 k1 k2 => by
    have e1 := k2.blk Y1 (map_ne_blk H2.map Y1) (by decide)
    have e2 := k2.blk X2 (map_ne_blk H2.map X2) (by decide)
    exact hs w5 _ _ k1 ((DF.of_below (below_trans b1 b2)).trans k2) (e1.cell 0) (e2.cell 0))
  clear h b1 b2 X1 X2 Y1 H1 H2 hf ho hgo hs
  go_enter Try.func12, Try.ntmps12
  go_wp2_with fail
  refine P1.out.mono ?_; rintro e w' ⟨rfl, rfl⟩
  go_wp2_with fail
  refine DG.out.mono ?_; rintro e w' ⟨rfl, hq⟩
  have HQ := Lib.hid hq
  clear hq
  go_wp2
  go_ret
  exact ⟨rfl, HQ.out⟩
theorem tick_pend (D : Dk) : (tick D).pend = D.pend := by unfold tick; split <;> rfl
theorem sync_none (h : DiskR w base d m D) {f : Fi} (hf : f ∈ D.fs) (ho : D.off = false) (hgo : goes D) (hp : D.pend = []) :
    Calls Try.prog 12 #[ptD d, strV f.name] w fun e w' => e = .returned (.int .i64 0) ∧ DiskR w' base d m (tick D) ∧ DF base m w w' :=
  sync_by h hf ho hgo (fun w' => DiskR w' base d m (tick D) ∧ DF base m w w') fun _ _ _ k1 k2 e1 e2 => (sync1_none k1 (by rw [tick_pend]; exact hp) e1 e2).mono fun _ _ ⟨he, k3, k4⟩ => ⟨he, k3, k2.trans k4⟩
end
end Go.Proofs.Ytfmmdnjoichifaa
