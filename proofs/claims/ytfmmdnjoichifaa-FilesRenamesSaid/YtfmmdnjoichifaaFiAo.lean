/- Contracts of a disk: Sync over what is pending. -/
import Derived.Test.YtfmmdnjoichifaaFiAn
import Derived.Test.YtfmmdnjoichifaaFiP
namespace Go.Proofs.Ytfmmdnjoichifaa
open Go.RowKit Go.Sort

section
variable {w w1 w2 w' : World} {base d m : Nat} {D : Dk}
def stepS (b : Nat) (fs : List Fi) (p : Wr) : List Fi := if p.f = b then (match findB fs b with | some f => updF fs (keepF f p 64) | none => fs) else fs
/-- The files behind a Sync of what is pending, as far as it is done. -/
def syncFs (fs : List Fi) (pend : List Wr) (b k : Nat) : List Fi := (pend.take k).foldl (stepS b) fs
theorem syncFs_succ (fs : List Fi) (pend : List Wr) (b k : Nat) (p : Wr) (h : pend[k]? = some p) : syncFs fs pend b (k + 1) = stepS b (syncFs fs pend b k) p := by
  unfold syncFs
  rw [List.take_add_one, h, List.foldl_append]
  rfl
theorem stepS_blks (b : Nat) (fs : List Fi) (p : Wr) : (stepS b fs p).map (·.blk) = fs.map (·.blk) := by
  unfold stepS
  split
  · split
    · exact updF_blks _ _
    · rfl
  · rfl
theorem syncFs_blks (fs : List Fi) (pend : List Wr) (b k : Nat) : (syncFs fs pend b k).map (·.blk) = fs.map (·.blk) := by
  unfold syncFs
  generalize pend.take k = l
  induction l generalizing fs with
  | nil => rfl
  | cons x l ih => rw [List.foldl_cons, ih, stepS_blks]
theorem syncFs_has {fs : List Fi} (pend : List Wr) {b : Nat} (k : Nat) (h : ∃ f ∈ fs, f.blk = b) : ∃ f ∈ syncFs fs pend b k, f.blk = b := by
  have := List.mem_map.2 h
  rw [← syncFs_blks fs pend b k] at this
  exact List.mem_map.1 this
/-- forget, over what is pending. -/
theorem forget_any (h : DiskR w base d m D) {b : Nat} (hb : ∃ f ∈ D.fs, f.blk = b) (hp : D.pend.length ≤ 1000000) :
    Calls Try.prog 54 #[ptD d, ptD b] w fun e w' => e = .returned (.tuple #[]) ∧ DiskR w' base d m { D with pend := D.pend.filter (keepB b) } ∧ DF base m w w' := by
  obtain ⟨pA, pc, htop, hown⟩ := h.top
  have fb : FBk w b := by obtain ⟨f, hf, rfl⟩ := hb; exact h.fblk hf
  refine (forget_raw (w := w) (base := base) D.pend pA pc b _ htop rfl hown hp (fun p hp => by
    obtain ⟨-, g, hg, e⟩ := h.own p hp
    rw [← e]
    exact h.fblk hg) fb).mono ?_
  rintro e w' ⟨rfl, w4, g4, o4, rfl⟩
  exact ⟨rfl, h.less (htop.cell 2) (World.grownBy.refl _ _) h.map (fun g hg => hg) h.apart h.lim.2.2.2.2 g4 o4 fun p hp => h.own p (List.mem_filter.1 hp).1⟩
set_option maxRecDepth 100000 in
set_option maxHeartbeats 2000000 in
theorem sync1_any (h : DiskR w base d m D) {bd bf b : Nat} (hb : ∃ f ∈ D.fs, f.blk = b) (hp : D.pend.length ≤ 1000000) (hbase : base ≤ w.heap.size) (Y1 : Blk w bd 23 #[ptD d]) (Y2 : Blk w bf 86 #[ptD b]) :
    Calls Try.prog 52 #[.pointer (some ⟨bd, 0, none⟩), .pointer (some ⟨bf, 0, none⟩)] w fun e w' => e = .returned (.tuple #[]) ∧ DiskR w' base d m { D with fs := syncFs D.fs D.pend b D.pend.length, pend := D.pend.filter (keepB b) } ∧ DF base m w w' := by
  obtain ⟨pA, pc, -, -, -, c2, -, -, -, hpo⟩ := h.cells
  have y1 := Y1.cell 0
  have y2 := Y2.cell 0
  have H := Lib.hid h
  have HBB := Lib.hid hb
  have HP := Lib.hid hp
  have HB := Lib.hid hbase
  have HPO := Lib.hid hpo
  have HY1 := Lib.hid Y1
  have HY2 := Lib.hid Y2
  clear h hp hbase hpo hb Y1 Y2
  go_enter Try.func52, Try.ntmps52
  go_wp2_with fail
  go_loopw [9] (fun i wr => ∃ k : Nat, k ≤ D.pend.length ∧ i = .int .i64 (k : Int) ∧ DiskR wr base d m { D with fs := syncFs D.fs D.pend b k } ∧ KF base w wr) (fun i _ => D.pend.length - (intOf i).toNat)
  case atStart => exact ⟨0, Nat.zero_le _, rfl, H.out, KF.refl _⟩
  case round =>
    obtain ⟨k, hkl, rfl, hd, hkf⟩ := hrel
    have HD := Lib.hid hd
    have HKF := Lib.hid hkf
    have HPR := Lib.hid (hkf.own HPO.out (by decide))
    have Z1 := Lib.hid (hkf.blk HY1.out (by decide))
    have Z2 := Lib.hid (hkf.blk HY2.out (by decide))
    have z1 := Z1.out.cell 0
    have z2 := Z2.out.cell 0
    have hple := HP.out
    clear hd hkf y1 y2 c2
    by_cases hlt : k < D.pend.length
    · have hea := List.getElem?_eq_getElem hlt
      obtain ⟨p, hp⟩ : ∃ p, p = D.pend[k] := ⟨_, rfl⟩
      rw [← hp] at hea
      obtain ⟨hpi, f, hf, hfb⟩ := HD.out.own p (by rw [hp]; exact List.getElem_mem hlt)
      obtain ⟨g, cap, hv, -, -⟩ := HPR.out.form (by omega)
      injection hv with hv1 hv2 hv3
      subst hv1
      subst hv3
      have hpc : ∀ j u, (encWr p)[j]? = some u → wr.cell? ((⟨g, k * 66, none⟩ : Addr).add j) = some u := fun j u hj => by
        rw [Addr.add_lit]
        have hj66 : j < 66 := by have := (List.getElem?_eq_some_iff.1 hj).1; rwa [layWr.len] at this
        rw [HPR.out.cellAt (k * 66 + j) (by omega), RowV_get layWr D.pend k j p hea hj66]
        exact hj
      have HPC := Lib.hid hpc
      have HST := Lib.hid (syncFs_succ D.fs D.pend b k p hea)
      have HF := Lib.hid hf
      have HFB := Lib.hid hfb
      have HPI := Lib.hid hpi
      have hiw : (Try.prog.info? 96).map (·.size) = some (encWr p).length := by rw [layWr.len]; exact info_wrS
      have HIW := Lib.hid hiw
      have HIW2 := Lib.hid (show (Try.prog.info? 96).map (·.size) = some (encWr p).toArray.size by rw [List.size_toArray]; exact hiw)
      have HAL := Lib.hid (show (encWr p).toArray.all (·.oneCell') = true by
        rw [Array.all_eq_true_iff_forall_mem]
        intro v hv
        exact layWr.one p v (by simpa using hv))
      have b1 := al_below wr (.cells (encWr p).toArray 96)
      have X1 := Blk.new wr 96 (encWr p).toArray
      obtain ⟨q0, -⟩ := wr_cells X1
      have h1 := HD.out.below b1
      have KB := Lib.hid (KF.of_below (base := base) b1)
      have HSB := Lib.hid (Nat.le_trans HB.out (Nat.le_trans HKF.out.size b1.size))
      have HH1 := Lib.hid h1
      have HX1 := Lib.hid (cells_big X1)
      have qe := eql_blk (HH1.out.fblk HF.out) (b := b) (by
        obtain ⟨f', hf', rfl⟩ := syncFs_has D.pend k HBB.out
        exact HH1.out.fblk hf')
      rw [HFB.out] at qe
      have z2b := ((Z2.out.below b1 Z2.out.lt).cell 0)
      have HEA := Lib.hid hea
      clear hpc hea hp hf hfb hpi hiw hv2 b1 X1 h1
      by_cases hpb : p.f = b
      · rw [decide_eq_true hpb] at qe
        have PK := Lib.hid (keep_yes HH1.out (f := f) HF.out p HFB.out.symm HPI.out 64 (by decide) (by decide) HSB.out)
        have hs2 : stepS b (syncFs D.fs D.pend b k) p = updF (syncFs D.fs D.pend b k) (keepF f p 64) := by
          have fm := findB_mem HH1.out.apart HF.out
          rw [show f.blk = b from HFB.out.trans hpb] at fm
          have fm2 : findB (syncFs D.fs D.pend b k) b = some f := fm
          unfold stepS
          rw [if_pos hpb, fm2]
        have HS2 := Lib.hid hs2
        clear hs2 hpb
        go_wp2_with (first | (refine wpList_load_big rfl 96 (.tmp 11) rfl (p := ⟨g, k * 66, none⟩) rfl Try.underlying96 rfl (encWr p) HIW.out HPC.out ?_) | (refine wpList_store_new (o := ⟨none, _, _, _, _, _⟩) rfl 96 (.tmp 3) (.tmp 12) rfl rfl rfl HIW2.out ?_ HAL.out ?_) | (refine wpList_load_big rfl 96 (.tmp 3) rfl (p := ⟨wr.heap.size, 0, none⟩) rfl Try.underlying96 rfl (encWr p) HIW.out HX1.out ?_))
        · exact (layWr.len p).symm
        refine PK.out.mono ?_; rintro e w3 ⟨rfl, k1, k2⟩
        have K1 := Lib.hid k1
        have K2 := Lib.hid k2
        clear k1 k2 qe
        go_wp2_with fail
        refine ⟨⟨k + 1, by omega, by go_num, ?_, HKF.out.trans (KB.out.trans K2.out)⟩, by simp [intOf]; omega⟩
        rw [HST.out, HS2.out]
        exact K1.out
      · rw [decide_eq_false hpb] at qe
        have hs2 : stepS b (syncFs D.fs D.pend b k) p = syncFs D.fs D.pend b k := by
          unfold stepS
          rw [if_neg hpb]
        have HS2 := Lib.hid hs2
        clear hs2 hpb
        go_wp2_with (first | (refine wpList_load_big rfl 96 (.tmp 11) rfl (p := ⟨g, k * 66, none⟩) rfl Try.underlying96 rfl (encWr p) HIW.out HPC.out ?_) | (refine wpList_store_new (o := ⟨none, _, _, _, _, _⟩) rfl 96 (.tmp 3) (.tmp 12) rfl rfl rfl HIW2.out ?_ HAL.out ?_))
        · exact (layWr.len p).symm
        refine ⟨⟨k + 1, by omega, by go_num, ?_, HKF.out.trans KB.out⟩, by simp [intOf]; omega⟩
        rw [HST.out, HS2.out]
        exact HH1.out
    · obtain rfl : k = D.pend.length := by omega
      have PF := Lib.hid (forget_any HD.out (b := b) (syncFs_has D.pend _ HBB.out) HP.out)
      clear hkl hlt hple
      go_wp2_with fail
      refine PF.out.mono ?_; rintro e w3 ⟨rfl, k1, k2⟩
      have K1 := Lib.hid k1
      have K2 := Lib.hid k2
      clear k1 k2
      go_wp2
      go_end0
      exact ⟨rfl, K1.out, HKF.out.df.trans K2.out⟩
end
end Go.Proofs.Ytfmmdnjoichifaa
