/- Contracts of a disk: pending writes are written over, in their row. -/
import Derived.Test.YtfmmdnjoichifaaFiZ
namespace Go.Proofs.Ytfmmdnjoichifaa
open Go.RowKit Go.Sort

section
variable {w w' : World} {base d m : Nat} {D : Dk}
theorem DiskR.turnPend (h : DiskR w base d m D) {g pc : Nat} {pend' : List Wr} (hcell : w.cell? ⟨d, 2, none⟩ = some (.slice (some ⟨g, 0, none⟩) D.pend.length pc)) (hg : w.grownBy w' (some g))
    (hrow : w'.ownsRow base 96 66 (.slice (some ⟨g, 0, none⟩) D.pend.length pc) D.pend.length (RowV encWr pend')) (hlen : pend'.length = D.pend.length) (hown : ∀ p ∈ pend', p.i ≤ 16384 ∧ ∃ f ∈ D.fs, f.blk = p.f) :
    DiskR w' base d m { D with pend := pend' } ∧ DF base m w w' := by
  obtain ⟨h1, h2, h3, ⟨pA, pc', h4, h5⟩, ⟨role, h6⟩, h7, h8, h9, h10⟩ := h
  have e : Value.slice pA D.pend.length pc' = .slice (some ⟨g, 0, none⟩) D.pend.length pc := by
    have e2 := h4.cell 2
    rw [hcell] at e2
    injection e2 with e2
    exact e2.symm
  rw [e] at h4 h5
  have hgb : (Value.slice (some ⟨g, 0, none⟩) D.pend.length pc).ownBlock = some g := rfl
  obtain ⟨cur, hcur⟩ := own_blk h5 hgb
  refine ⟨⟨h1, h2, h3.kept hg (fun e => by injection e with e; exact map_ne_blk h3 hcur e.symm), ⟨some ⟨g, 0, none⟩, pc, ?_, ?_⟩, ⟨role, fun f hf => ?_⟩, hown, h8, h9, h10⟩, DF.of_grown hg fun k hk => ?_⟩
  · have := h4.grown hg (fun e => by injection e with e; exact Blk.ne_ h4 hcur (by decide) e)
    show Blk _ d _ #[.int .i64 D.limit, .map (some m), .slice (some ⟨g, 0, none⟩) pend'.length pc, .bool D.off, .bool D.stops, .int .i64 D.others]
    rw [hlen]
    exact this
  · show World.ownsRow _ _ _ _ (.slice (some ⟨g, 0, none⟩) pend'.length pc) pend'.length _
    rw [hlen]
    exact hrow
  · obtain ⟨_, _, _, _, hb2, -⟩ := h6 f hf
    refine (h6 f hf).kept hg (fun e => by injection e with e; exact Blk.ne_ hcur hb2 (by decide) e) fun k hk => .inl ?_
    injection hk with hk
    subst hk
    exact ⟨_, _, hcur, by decide⟩
  · injection hk with hk
    subst hk
    exact ⟨(World.ownsRow.lt h5 g hgb).1, dty_blk hcur (.inr (.inl rfl))⟩
end
end Go.Proofs.Ytfmmdnjoichifaa
