/- Contracts of a disk: sectors are cloned; a file's are other ones. -/
import Derived.Test.YtfmmdnjoichifaaFiN
namespace Go.Proofs.Ytfmmdnjoichifaa
open Go.RowKit Go.Sort

section
variable {w w1 w' : World} {base d m : Nat} {D : Dk}
/-- New sectors. -/
def NewSec (w : World) (l : List Sec) (e : Ending) (w' : World) : Prop := ∃ A c, e = .returned (.slice A l.length c) ∧ w'.ownsRow w.heap.size 94 64 (.slice A l.length c) l.length (RowV encSec l) ∧ Below w.heap.size w w'
set_option maxRecDepth 100000 in
theorem cloneSec_any {A : Option Addr} {l : List Sec} {c : Nat} (h : SecRow w base (slN A l c) l) (hl : l.length ≤ 20000) : Calls Try.prog 64 #[slN A l c] w (NewSec w l) := by
  rcases h.2 with ⟨hv, h0⟩ | ⟨g, cap, cur, hv, -⟩
  · injection hv with hv1 hv2 hv3
    subst hv1
    subst hv3
    have hnil : l = [] := List.eq_nil_of_length_eq_zero h0
    subst hnil
    have q := Lib.run_eql_slice_nil (P := Try.prog) w 88 94 none 0 0 0 0 Try.underlying88
    clear h hv2 h0 hl
    show Calls _ _ #[.slice none 0 0] w _
    go_enter Try.func64, Try.ntmps64
    go_wp2
    go_ret
    exact ⟨none, 0, rfl, own_nil_k laySec _ _ _, Below.refl _ _⟩
  · injection hv with hv1 hv2 hv3
    subst hv1
    subst hv3
    have q := Lib.run_eql_slice_nil (P := Try.prog) w 88 94 (some ⟨g, 0, none⟩) l.length c 0 0 Try.underlying88
    have b0 := al_below w (.cells #[] 94)
    have B0 := Lib.hid b0
    have O0 := Lib.hid (own_empty_k laySec w 94)
    have hr : Reads w w.heap.size 64 (some ⟨g, 0, none⟩) l.length (RowV encSec l) := Reads.of_own h
    have R0 := Lib.hid (hr.alloc (Nat.le_refl _) (.cells #[] 94))
    clear h hv2 hr b0
    go_enter Try.func64, Try.ntmps64
    go_wp2_with (at_builtin; (refine wpList_appK laySec (xs := []) (ys := l) _ rfl (.tmp 5) (.tmp 6) _ rfl Try.underlying88 info_sec3 rfl O0.out R0.out c rfl rfl (by omega) (by decide) B0.out.size ?_); intro A5 c5 w5 o5 gr5; have O5 := Lib.hid o5; have G5 := Lib.hid gr5; clear o5 gr5)
    go_ret
    have o5 := O5.out
    rw [Nat.zero_add, List.nil_append] at o5
    exact ⟨A5, c5, rfl, o5, B0.out.grown (Grew.by_ G5.out) B0.out.size fun i hi => (World.ownsRow.lt O0.out i hi).1⟩
/-- A file has other sectors, in a new row. -/
theorem DiskR.setNow (h : DiskR w base d m D) {f : Fi} (hf : f ∈ D.fs) {A' : Option Addr} {c' : Nat} {l : List Sec} (hb : Below w.heap.size w w1) (hrow : w1.ownsRow w.heap.size 94 64 (.slice A' l.length c') l.length (RowV encSec l)) (hl : l.length ≤ 16385) (hbase : base ≤ w.heap.size) :
    DiskR (w1.setCell ⟨f.blk, 1, none⟩ (.slice A' l.length c')) base d m { D with fs := updF D.fs { f with now := l } } ∧ KF base w (w1.setCell ⟨f.blk, 1, none⟩ (.slice A' l.length c')) := by
  have hsz : ∀ g t cs, Blk w g t cs → g < w.heap.size := fun g t cs h => h.lt
  obtain ⟨h1, h2, h3, ⟨pA, pc, h4, h5⟩, ⟨role, h6⟩, h7, h8, h9, h10⟩ := h
  obtain ⟨nA, nc, kA, kc, hb', hfb, hrn, hrk, rn, rk⟩ := h6 f hf
  have gs := gr_set w1 f.blk 1 (.slice A' l.length c')
  have hbf := hb'.below hb hb'.lt
  have hbd := h4.below hb h4.lt
  have hm1 := h3.below hb
  have hfd : f.blk ≠ d := Blk.ne_ hb' h4 (by decide)
  have hro : ∀ g, g < w.heap.size → (if w.heap.size ≤ g then 2 * f.blk else role g) = role g := fun g hg => if_neg (by omega)
  refine ⟨⟨h1, h2, ?_, ⟨pA, pc, ?_, ?_⟩, ⟨fun g => if w.heap.size ≤ g then 2 * f.blk else role g, fun g hgm => ?_⟩, fun p hp => ⟨(h7 p hp).1, updF_own (h7 p hp).2⟩, updF_apart h8, fun g hgm => ?_, ?_⟩, ?_⟩
  · show MapR _ m (nmOf (updF D.fs { f with now := l }))
    rw [updF_names (f' := { f with now := l }) h8 hf rfl rfl]
    exact hm1.kept gs (fun e => by injection e with e; exact map_ne_blk hm1 hbf e.symm)
  · exact hbd.grown gs (fun e => by injection e with e; exact hfd e.symm)
  · exact (own_below h5 hb).kept gs (.inr (own_ne_blk (own_below h5 hb) hbf (by decide)))
  · rcases mem_updF hgm with rfl | ⟨hg2, hne⟩
    · refine ⟨A', c', kA, kc, ?_, hfb, ?_, ?_, fun g hgo => ?_, fun g hgo => ?_⟩
      · have := hbf.set_ 1 (.slice A' l.length c')
        exact this
      · exact own_mono (hrow.kept gs (.inr (own_ne_blk hrow hbf (by decide)))) hbase
      · have hk1 : SecRow w1 base (slN kA f.kept kc) f.kept := own_below hrk hb
        exact hk1.kept gs (.inr (own_ne_blk hk1 hbf (by decide)))
      · exact if_pos (World.ownsRow.lt hrow g hgo).1
      · show (if w.heap.size ≤ g then 2 * f.blk else role g) = 2 * f.blk + 1
        rw [hro g (World.ownsRow.lt hrk g hgo).2]
        exact rk g hgo
    · have hne' : g.blk ≠ f.blk := hne
      have hk1 : FileR w1 base (fun g => if w.heap.size ≤ g then 2 * f.blk else role g) g := ((h6 g hg2).role hro).below hb
      refine hk1.kept gs (fun e => by injection e with e; exact hne' e.symm) fun k hk => ?_
      injection hk with hk
      subst hk
      exact .inl ⟨_, _, hbf, by decide⟩
  · rcases mem_updF hgm with rfl | ⟨hg2, -⟩
    · exact ⟨hl, (h9 f hf).2⟩
    · exact h9 g hg2
  · refine ⟨h10.1, h10.2.1, h10.2.2.1, h10.2.2.2.1, ?_⟩
    show (updF D.fs _).length ≤ 256
    rw [updF_length]
    exact h10.2.2.2.2
  · exact (KF.of_below hb).trans (KF.of_grown gs fun g hgd => by
      injection hgd with hgd
      subst hgd
      exact ⟨hfb, kty_blk hbf (.inl rfl)⟩)
/-- A block that is no cells, and not the map, is another's. -/
theorem DiskR.other (h : DiskR w base d m D) {r : Nat} (hg : w.grownBy w' (some r)) (hr : ¬ ∃ t c, Blk w r t c) (hrm : r ≠ m) : DiskR w' base d m D := by
  obtain ⟨h1, h2, h3, ⟨pA, pc, h4, h5⟩, ⟨role, h6⟩, h7, h8, h9, h10⟩ := h
  have hne : ∀ g t cs, Blk w g t cs → some g ≠ some r := fun g t cs hb e => by injection e with e; subst e; exact hr ⟨t, cs, hb⟩
  refine ⟨h1, h2, h3.kept hg (fun e => by injection e with e; exact hrm e.symm), ⟨pA, pc, h4.grown hg (hne _ _ _ h4), h5.kept hg ?_⟩, ⟨role, fun f hf => ?_⟩, h7, h8, h9, h10⟩
  · cases hv : (Value.slice pA D.pend.length pc).ownBlock with
    | none => exact .inl rfl
    | some g =>
      obtain ⟨cur, hc⟩ := own_blk h5 hv
      exact .inr (hne _ _ _ hc)
  · obtain ⟨_, _, _, _, hb', -⟩ := h6 f hf
    exact (h6 f hf).kept hg (Ne.symm (hne _ _ _ hb')) fun g hgd => .inr (.inl (by injection hgd with hgd; subst hgd; exact hr))
theorem DF.other {r : Nat} (h : DF base m w w1) (hg : w1.grownBy w' (some r)) (hr : w.heap.size ≤ r) : DF base m w w' :=
  ⟨hg.os.trans h.1, hg.tape.trans h.2.1, hg.output.trans h.2.2.1, Nat.le_trans h.size hg.size, fun k hk hs => (hg.block k (Nat.lt_of_lt_of_le hk h.size) (fun e => by injection e with e; omega)).trans (h.2.2.2.2 k hk hs)⟩
end
end Go.Proofs.Ytfmmdnjoichifaa
