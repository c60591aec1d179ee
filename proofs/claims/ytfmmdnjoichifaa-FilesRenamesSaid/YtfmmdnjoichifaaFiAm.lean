/- Contracts of a disk: remove of a name that is there, over what is pending. -/
import Derived.Test.YtfmmdnjoichifaaFiAl
import Derived.Test.YtfmmdnjoichifaaFiU
namespace Go.Proofs.Ytfmmdnjoichifaa
open Go.RowKit Go.Sort

section
variable {w w1 w2 w' : World} {base d m : Nat} {D : Dk}
theorem DiskR.fblk (h : DiskR w base d m D) {f : Fi} (hf : f ∈ D.fs) : FBk w f.blk := by
  obtain ⟨role, h6⟩ := h.files
  obtain ⟨nA, nc, kA, kc, hfb, -⟩ := h6 f hf
  exact ⟨_, hfb⟩
/-- The disk behind a removal. -/
def remD (D : Dk) (f : Fi) : Dk := { D with fs := D.fs.filter fun g => g.name != f.name, pend := D.pend.filter (keepB f.blk) }
theorem remD_own (h : DiskR w base d m D) {f : Fi} (hf : f ∈ D.fs) : ∀ p ∈ D.pend.filter (keepB f.blk), p.i ≤ 16384 ∧ ∃ g ∈ D.fs.filter (fun g => g.name != f.name), g.blk = p.f := by
  intro p hp
  obtain ⟨hp, hk⟩ := List.mem_filter.1 hp
  obtain ⟨hi, g, hg, hgb⟩ := h.own p hp
  refine ⟨hi, g, List.mem_filter.2 ⟨hg, ?_⟩, hgb⟩
  refine bne_iff_ne.2 fun e => ?_
  have hb := name_blk h hg hf e
  unfold keepB at hk
  rw [← hgb, hb] at hk
  simp at hk
set_option maxRecDepth 100000 in
set_option maxHeartbeats 2000000 in
theorem remove_there (h : DiskR w base d m D) {f : Fi} (hf : f ∈ D.fs) (hbig : D.pend.length ≤ 1000000) : Calls Try.prog 58 #[ptD d, strV f.name] w fun e w' => e = .returned (.tuple #[]) ∧ DiskR w' base d m (remD D f) ∧ DF base m w w' := by
  have hlf : f.name.length ≤ maxLen := by have := (h.small f hf).2.2.2; unfold maxLen; omega
  have hl := h.look hf
  obtain ⟨pA, pc, htop, hown⟩ := h.top
  have c1 := htop.cell 1
  obtain ⟨w2, hrun, hm2, hg2⟩ := h.map.del hlf 0
  have nm : ∀ g t cs, Blk w g t cs → some g ≠ some m := fun g t cs hb e => by injection e with e; exact map_ne_blk h.map hb e
  have bt := htop.grown hg2 (nm _ _ _ htop)
  have o2 := hown.kept hg2 (own_ne_map hown h.map)
  have PF := Lib.hid (forget_raw (w := w2) (base := base) D.pend pA pc f.blk _ bt rfl o2 hbig (fun p hp => by
    obtain ⟨-, g, hg, e⟩ := h.own p hp
    rw [← e]
    obtain ⟨cs, hc⟩ := h.fblk hg
    exact ⟨cs, hc.grown hg2 (nm _ _ _ hc)⟩) (by
    obtain ⟨cs, hc⟩ := h.fblk hf
    exact ⟨cs, hc.grown hg2 (nm _ _ _ hc)⟩))
  have HM2 := Lib.hid hm2
  have HG2 := Lib.hid hg2
  have H := Lib.hid h
  have HF := Lib.hid hf
  have HLF := Lib.hid hlf
  have HTOP := Lib.hid htop
  have HOWN := Lib.hid hown
  have HB := Lib.hid hbig
  obtain ⟨s1, e1⟩ : ∃ s : ByteArray, s = ⟨f.name.toArray⟩ := ⟨_, rfl⟩
  have n1 : strV f.name = .string s1 := by rw [e1]; rfl
  have N1 := Lib.hid n1
  rw [n1] at hl hrun ⊢
  clear e1 n1 h hf hlf htop hown hbig hm2 hg2 nm bt o2
  go_enter Try.func58, Try.ntmps58
  go_wp2_with fail
  refine PF.out.mono ?_
  rintro e w3 ⟨rfl, w4, g4, o4, rfl⟩
  have HR := Lib.hid (H.out.less (HTOP.out.cell 2) HG2.out (by rw [← nmOf_filter]; exact HM2.out) (fun g hg => (List.mem_filter.1 hg).1) (H.out.apart.filter _) (Nat.le_trans (List.length_filter_le _ _) H.out.lim.2.2.2.2) g4 o4 (remD_own H.out HF.out))
  clear g4 o4 hrun hl c1
  go_wp2_with fail
  go_end0
  exact ⟨rfl, HR.out⟩
end
end Go.Proofs.Ytfmmdnjoichifaa
