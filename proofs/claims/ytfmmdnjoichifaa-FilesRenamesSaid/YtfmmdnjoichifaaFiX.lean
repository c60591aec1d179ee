/- Contracts of a disk: a sector of what a file has is written over. -/
import Derived.Test.YtfmmdnjoichifaaFiV
namespace Go.Proofs.Ytfmmdnjoichifaa
open Go.RowKit Go.Sort

section
variable {w w' w1 w2 w3 : World} {base d m : Nat} {D : Dk}
theorem DiskR.turnNow (h : DiskR w base d m D) {f : Fi} (hf : f ∈ D.fs) {g nc : Nat} {now' : List Sec} (hcell : w.cell? ⟨f.blk, 1, none⟩ = some (.slice (some ⟨g, 0, none⟩) f.now.length nc)) (hg : w.grownBy w' (some g))
    (hrow : w'.ownsRow base 94 64 (.slice (some ⟨g, 0, none⟩) f.now.length nc) f.now.length (RowV encSec now')) (hlen : now'.length = f.now.length) :
    DiskR w' base d m { D with fs := updF D.fs { f with now := now' } } ∧ KF base w w' := by
  obtain ⟨h1, h2, h3, ⟨pA, pc, h4, h5⟩, ⟨role, h6⟩, h7, h8, h9, h10⟩ := h
  obtain ⟨nA, nc', kA, kc, hb', hbase, hrn, hrk, rn, rk⟩ := h6 f hf
  have e : slN nA f.now nc' = .slice (some ⟨g, 0, none⟩) f.now.length nc := by
    have e2 := hb'.cell 1
    rw [hcell] at e2
    injection e2 with e2
    exact e2.symm
  rw [e] at hb' hrn rn
  have hgb : (Value.slice (some ⟨g, 0, none⟩) f.now.length nc).ownBlock = some g := rfl
  have hrg := rn g hgb
  have hrn' : w.ownsRow base 94 64 (.slice (some ⟨g, 0, none⟩) f.now.length nc) f.now.length (RowV encSec f.now) := hrn
  obtain ⟨cur, hcur⟩ := own_blk hrn' hgb
  have hm2 : MapR w' m (nmOf D.fs) := h3.kept hg (fun e => by
    injection e with e
    exact map_ne_blk h3 hcur e.symm)
  refine ⟨⟨h1, h2, ?_, ⟨pA, pc, h4.grown hg (fun e => by injection e with e; exact Blk.ne_ h4 hcur (by decide) e), h5.kept hg (.inr (own_ne_blk h5 hcur (by decide)))⟩, ⟨role, fun x hx => ?_⟩, fun p hp => ⟨(h7 p hp).1, updF_own (h7 p hp).2⟩, updF_apart h8, fun x hx => ?_, ?_⟩, KF.of_grown hg fun k hk => ?_⟩
  · show MapR _ m (nmOf (updF D.fs { f with now := now' }))
    rw [updF_names (f' := { f with now := now' }) h8 hf rfl rfl]
    exact hm2
  · rcases mem_updF hx with rfl | ⟨hx2, hne⟩
    · refine ⟨some ⟨g, 0, none⟩, nc, kA, kc, ?_, hbase, ?_, hrk.kept hg ?_, fun k hk => ?_, rk⟩
      · have := hb'.grown hg (fun e => by injection e with e; exact Blk.ne_ hb' hcur (by decide) e)
        show Blk _ f.blk _ #[strV f.name, .slice (some ⟨g, 0, none⟩) now'.length nc, slN kA f.kept kc]
        rw [hlen]
        exact this
      · show World.ownsRow _ _ _ _ (.slice (some ⟨g, 0, none⟩) now'.length nc) now'.length _
        rw [hlen]
        exact hrow
      · cases hk : (slN kA f.kept kc).ownBlock with
        | none => exact .inl rfl
        | some k =>
          refine .inr fun e => ?_
          injection e with e
          subst e
          have := rk k hk
          omega
      · injection hk with hk
        subst hk
        exact hrg
    · have hne' : x.blk ≠ f.blk := hne
      obtain ⟨_, _, _, _, hb2, -⟩ := h6 x hx2
      refine (h6 x hx2).kept hg (fun e => by injection e with e; exact Blk.ne_ hcur hb2 (by decide) e) fun k hk => .inr (.inr ?_)
      injection hk with hk
      subst hk
      omega
  · rcases mem_updF hx with rfl | ⟨hx2, -⟩
    · have := h9 f hf
      refine ⟨?_, this.2.1, this.2.2⟩
      show now'.length ≤ 16385
      omega
    · exact h9 x hx2
  · refine ⟨h10.1, h10.2.1, h10.2.2.1, h10.2.2.2.1, ?_⟩
    show (updF D.fs _).length ≤ 256
    rw [updF_length]
    exact h10.2.2.2.2
  · injection hk with hk
    subst hk
    exact ⟨(World.ownsRow.lt hrn' g hgb).1, kty_blk hcur (.inr rfl)⟩
end
end Go.Proofs.Ytfmmdnjoichifaa
