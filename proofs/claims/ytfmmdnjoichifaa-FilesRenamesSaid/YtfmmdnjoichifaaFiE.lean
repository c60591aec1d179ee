/- Contracts of a disk: Used. -/
import Derived.Test.YtfmmdnjoichifaaFiD
namespace Go.Proofs.Ytfmmdnjoichifaa
open Go.RowKit Go.Sort

def usedN (fs : List Fi) : Nat := (fs.map (·.now.length)).sum
def sumL (fs : List Fi) (left : Nm → Bool) : Nat := (fs.map fun f => if left f.name then 0 else f.now.length).sum
theorem sumL_all (fs : List Fi) (left : Nm → Bool) (h : ∀ k, left k = false) : sumL fs left = usedN fs := by
  unfold sumL usedN
  congr 1
  apply List.map_congr_left
  intro f _
  rw [h, if_neg (by simp)]
theorem sumL_none (fs : List Fi) (left : Nm → Bool) (h : ∀ f ∈ fs, left f.name = true) : sumL fs left = 0 := by
  unfold sumL
  induction fs with
  | nil => rfl
  | cons f fs ih =>
    rw [List.map_cons, List.sum_cons, h f (List.mem_cons_self ..), if_pos rfl, ih fun g hg => h g (List.mem_cons_of_mem _ hg)]
theorem sumL_step : ∀ (fs : List Fi) (left : Nm → Bool) (f : Fi), fs.Pairwise (fun a b => a.name ≠ b.name) → f ∈ fs → left f.name = true → sumL fs (fun k => left k && k != f.name) = sumL fs left + f.now.length
  | [], _, _, _, h, _ => by cases h
  | g :: fs, left, f, hp, hf, hl => by
    obtain ⟨h1, h2⟩ := List.pairwise_cons.1 hp
    have hc : ∀ (l : Nm → Bool), sumL (g :: fs) l = (if l g.name then 0 else g.now.length) + sumL fs l := fun l => by unfold sumL; rw [List.map_cons, List.sum_cons]
    rw [hc, hc]
    rcases List.mem_cons.1 hf with e | hf
    · subst e
      have hrest : sumL fs (fun k => left k && k != f.name) = sumL fs left := by
        unfold sumL
        congr 1
        apply List.map_congr_left
        intro x hx
        have : (x.name != f.name) = true := by simpa using (h1 x hx).symm
        show (if (left x.name && x.name != f.name) = true then 0 else x.now.length) = _
        rw [this, Bool.and_true]
      rw [hrest, hl]
      simp
      omega
    · have hne : (g.name != f.name) = true := by simpa using h1 f hf
      rw [sumL_step fs left f h2 hf hl, hne, Bool.and_true]
      omega
theorem sumL_le (fs : List Fi) (left : Nm → Bool) (h : ∀ f ∈ fs, f.now.length ≤ 16385) : sumL fs left ≤ fs.length * 16385 := by
  unfold sumL
  induction fs with
  | nil => simp
  | cons f fs ih =>
    have := ih fun g hg => h g (List.mem_cons_of_mem _ hg)
    have h1 := h f (List.mem_cons_self ..)
    rw [List.map_cons, List.sum_cons, List.length_cons, Nat.succ_mul]
    split <;> omega
theorem lookO_inv {fs : List Fi} {n : Nm} {b : Nat} (h : lookO (nmOf fs) n = some b) : ∃ f ∈ fs, f.name = n ∧ f.blk = b := by
  unfold lookO nmOf at h
  rw [Option.map_eq_some_iff] at h
  obtain ⟨p, hp, rfl⟩ := h
  have h1 := List.find?_some hp
  have h2 := List.mem_of_find?_eq_some hp
  obtain ⟨f, hf, rfl⟩ := List.mem_map.1 h2
  exact ⟨f, hf, by simpa using h1, rfl⟩
section
variable {w : World} {base d m : Nat} {D : Dk}
theorem DiskR.pwn (h : DiskR w base d m D) : D.fs.Pairwise fun a b => a.name ≠ b.name := by
  have h1 := h.map.pw
  unfold nmOf at h1
  rw [List.pairwise_map] at h1
  exact h1
set_option maxRecDepth 100000 in
set_option maxHeartbeats 1000000 in
theorem used_any (h : DiskR w base d m D) : Calls Try.prog 19 #[ptD d] w fun e w' => e = .returned (.int .i64 (usedN D.fs : Int)) ∧ Below w.heap.size w w' := by
  have P1 := Lib.hid (unmade_any h)
  obtain ⟨pA, pc, hd, -, c1, -⟩ := h.cells
  have HM := Lib.hid h.map
  have HF := Lib.hid (fun f hf => h.file (f := f) hf)
  have HP := Lib.hid h.pwn
  have HS := Lib.hid (fun f hf => (h.small f hf).1)
  have hfew := h.lim.2.2.2.2
  clear h
  go_enter Try.func19, Try.ntmps19
  go_wp2_with fail
  refine P1.out.mono ?_; rintro e w' ⟨rfl, rfl⟩
  go_wp2_with (at_range; refine wpList_rangeR rfl (.tmp 11) rfl rfl HM.out ?_; intro w0 hr0 hg0 hs0; have R0 := Lib.hid hr0; have G0 := Lib.hid (grown_below hg0); clear hr0 hg0 hs0)
  go_frame
  go_loopw [3] (fun x wr => ∃ (left : Nm → Bool) (cnt : Nat), x = .int .i64 (sumL D.fs left : Int) ∧ RangeR wr m w.heap.size (nmOf D.fs) left cnt ∧ Below w.heap.size w wr) (fun _ wr => wr.rangeLeft m w.heap.size)
  case atStart => exact ⟨_, _, by rw [sumL_none _ _ fun f hf => by { rw [lookO_mem (R0.out.mapR.pw) (b := f.blk) (by unfold nmOf; exact List.mem_map.2 ⟨f, hf, rfl⟩)]; rfl }]; rfl, R0.out, G0.out⟩
  case round =>
    obtain ⟨left, cnt, rfl, hr, hb⟩ := hrel
    have HR := Lib.hid hr
    have HB := Lib.hid hb
    have hle := sumL_le D.fs left HS.out
    have hle2 : sumL D.fs left ≤ 4194560 := Nat.le_trans hle (by have := Nat.mul_le_mul_right 16385 hfew; omega)
    clear hr hb hle
    go_wp2_with (at_next; refine wpList_nextR rfl (.tmp 12) rfl rfl HR.out ?_ ?_)
    · intro hc0 hl0
      have e1 := sumL_all D.fs left hl0
      rw [e1]
      clear e1 hc0 hl0 HR hle2
      go_wp2
      go_ret
      exact ⟨rfl, HB.out⟩
    · intro key b w1 cnt' hkb hlk hr1 hlt hg1 hs1 hen
      obtain ⟨f, hf, rfl, rfl⟩ := lookO_inv hkb
      have hst := sumL_step D.fs left f HP.out hf hlk
      have B1 := Lib.hid (show Below w.heap.size w w1 from HB.out.grown hg1 HB.out.size fun i hi => by injection hi with hi; omega)
      obtain ⟨nA, nc, kA, kc, f0, -, -, f1, -⟩ := HF.out f hf
      have k1 : w1.cell? ⟨f.blk, 1, none⟩ = some (slN nA f.now nc) := (B1.out.cell (p := ⟨f.blk, 1, none⟩) f0).trans f1
      have hnl := HS.out f hf
      have HST := Lib.hid hst
      have R1 := Lib.hid hr1
      have hle3 : sumL D.fs left ≤ 4194560 := hle2
      have hm1 : w1.rangeLeft m w.heap.size < wr.rangeLeft m w.heap.size := by rw [hr1.left_eq, HR.out.left_eq]; exact hlt
      have HM1 := Lib.hid hm1
      generalize sumL D.fs left = s at HST hle2 hle3
      clear hst hr1 hlt hg1 hs1 hkb hlk f1 f0 hm1 HR hle3
      go_wp2
      refine ⟨⟨_, cnt', ?_, R1.out, B1.out⟩, HM1.out⟩
      rw [HST.out]
      go_num
end
end Go.Proofs.Ytfmmdnjoichifaa
