/- Contracts of a disk: forget where writes are pending. -/
import Derived.Test.YtfmmdnjoichifaaFiAk
import Derived.Test.YtfmmdnjoichifaaFiAg
namespace Go.Proofs.Ytfmmdnjoichifaa
open Go.RowKit Go.Sort

section
variable {w w1 w2 w' : World} {base d m : Nat} {D : Dk}
theorem DiskR.less (h : DiskR w base d m D) {fs' : List Fi} {pend' : List Wr} {pA : Option Addr} {pc : Nat} (hc : w.cell? ⟨d, 2, none⟩ = some (.slice pA D.pend.length pc))
    (hg1 : w.grownBy w1 (some m)) (hm1 : MapR w1 m (nmOf fs')) (hsub : ∀ f ∈ fs', f ∈ D.fs) (hap : fs'.Pairwise fun f g => f.blk ≠ g.blk) (hlen : fs'.length ≤ 256)
    (hg2 : w1.grownBy w2 (Value.slice pA D.pend.length pc).ownBlock) (ho2 : w2.ownsRow base 96 66 (.slice pA pend'.length pc) pend'.length (RowV encWr pend')) (how : ∀ p ∈ pend', p.i ≤ 16384 ∧ ∃ f ∈ fs', f.blk = p.f) :
    DiskR (w2.setCell ⟨d, 2, none⟩ (.slice pA pend'.length pc)) base d m { D with fs := fs', pend := pend' } ∧ DF base m w (w2.setCell ⟨d, 2, none⟩ (.slice pA pend'.length pc)) := by
  obtain ⟨h1, h2, h3, ⟨pA', pc', h4, h5⟩, ⟨role, h6⟩, h7, h8, h9, h10⟩ := h
  have e : Value.slice pA' D.pend.length pc' = .slice pA D.pend.length pc := by
    have e2 := h4.cell 2
    rw [hc] at e2
    injection e2 with e2
    exact e2.symm
  rw [e] at h4 h5
  have hdm : d ≠ m := map_ne_blk h3 h4
  have b1 := h4.grown hg1 (fun e => hdm (by injection e))
  have o1 := h5.kept hg1 (by
    rcases own_ne_map h5 h3 with e | e
    · exact .inl e
    · exact .inr e)
  have b2 := b1.grown hg2 (Ne.symm (own_ne_blk o1 b1 (by decide)))
  have hgs := gr_set w2 d 2 (.slice pA pend'.length pc)
  have b3 := b2.set_ 2 (.slice pA pend'.length pc)
  have hrow : ∀ g, (Value.slice pA D.pend.length pc).ownBlock = some g → ∃ cur, Blk w1 g 96 cur := fun g hg => own_blk o1 hg
  have hm2 : MapR w2 m (nmOf fs') := hm1.kept hg2 (fun e => by
    obtain ⟨cur, hcur⟩ := hrow m e.symm
    exact map_ne_blk hm1 hcur rfl)
  have hm3 : MapR (w2.setCell ⟨d, 2, none⟩ (.slice pA pend'.length pc)) m (nmOf fs') := hm2.kept hgs (fun e => hdm (by injection e with e; exact e.symm))
  have o3 := ownsRow_setCell_other (a := ⟨d, 2, none⟩) ho2 (own_ne_blk ho2 b2 (by decide)) (.slice pA pend'.length pc)
  refine ⟨⟨h1, h2, hm3, ⟨pA, pc, b3, o3⟩, ⟨role, fun f hf => ?_⟩, how, hap, fun f hf => h9 f (hsub f hf), ?_⟩, ?_⟩
  · have f0 := h6 f (hsub f hf)
    have f1 := f0.kept hg1 (fun e => f0.blk_ne_map h3 (by injection e with e; exact e.symm)) fun g hg => .inr (.inl (by injection hg with hg; subst hg; exact map_no_blk h3))
    obtain ⟨_, _, _, _, hb1, -⟩ := f1
    have f1 := f0.kept hg1 (fun e => f0.blk_ne_map h3 (by injection e with e; exact e.symm)) fun g hg => .inr (.inl (by injection hg with hg; subst hg; exact map_no_blk h3))
    have f2 := f1.kept hg2 (fun e => by
      obtain ⟨cur, hcur⟩ := hrow f.blk e
      exact Blk.ne_ hcur hb1 (by decide) rfl) fun g hg => by
        obtain ⟨cur, hcur⟩ := hrow g hg
        exact .inl ⟨_, _, hcur, by decide⟩
    obtain ⟨_, _, _, _, hb2, -⟩ := f2
    have f2 := f1.kept hg2 (fun e => by
      obtain ⟨cur, hcur⟩ := hrow f.blk e
      exact Blk.ne_ hcur hb1 (by decide) rfl) fun g hg => by
        obtain ⟨cur, hcur⟩ := hrow g hg
        exact .inl ⟨_, _, hcur, by decide⟩
    exact f2.kept hgs (fun e => by injection e with e; exact Blk.ne_ b2 hb2 (by decide) e) fun g hg => .inl (by injection hg with hg; subst hg; exact ⟨_, _, b2, by decide⟩)
  · exact ⟨h10.1, h10.2.1, h10.2.2.1, h10.2.2.2.1, hlen⟩
  · have d1 : DF base m w w1 := DF.of_grown hg1 fun g hg => by injection hg with hg; subst hg; exact ⟨h2, .inl rfl⟩
    have d2 : DF base m w1 w2 := DF.of_grown hg2 fun g hg => by
      obtain ⟨cur, hcur⟩ := hrow g hg
      exact ⟨(World.ownsRow.lt o1 g hg).1, dty_blk hcur (.inr (.inl rfl))⟩
    have d3 : DF base m w2 _ := DF.of_grown hgs fun g hg => by injection hg with hg; subst hg; exact ⟨h1, dty_blk b2 (.inl rfl)⟩
    exact d1.trans (d2.trans d3)
/-- forget, by raw facts. -/
theorem forget_raw (l : List Wr) (pA : Option Addr) (pc : Nat) (b : Nat) (cs : Array Value) (hd : Blk w d 80 cs) (hcs : cs[2]? = some (.slice pA l.length pc)) (ho : w.ownsRow base 96 66 (.slice pA l.length pc) l.length (RowV encWr l)) (hbig : l.length ≤ 1000000)
    (hf : ∀ p ∈ l, FBk w p.f) (hb : FBk w b) :
    Calls Try.prog 54 #[ptD d, ptD b] w fun e w' => e = .returned (.tuple #[]) ∧ ∃ w2, w.grownBy w2 (Value.slice pA l.length pc).ownBlock ∧ w2.ownsRow base 96 66 (.slice pA (l.filter (keepB b)).length pc) (l.filter (keepB b)).length (RowV encWr (l.filter (keepB b))) ∧
      w' = w2.setCell ⟨d, 2, none⟩ (.slice pA (l.filter (keepB b)).length pc) := by
  have b0 := al_below w (.cells #[ptD b] 86)
  have hd1 := hd.below b0 hd.lt
  have c2 : (w.alloc (.cells #[ptD b] 86)).cell? ⟨d, 2, none⟩ = some (.slice pA l.length pc) := (hd1.cell 2).trans hcs
  have xb := Blk.new w 86 #[ptD b]
  have kb : (w.alloc (.cells #[ptD b] 86)).cell? ⟨w.heap.size, 0, none⟩ = some (.pointer (some ⟨b, 0, none⟩)) := xb.cell 0
  have o1 := own_below ho b0
  have PD : Calls Try.prog 95 #[.slice pA l.length pc, .func (.func 96) #[] #[.pointer (some ⟨w.heap.size, 0, none⟩)]] (w.alloc (.cells #[ptD b] 86)) fun e w' =>
      e = .returned (.slice pA (l.filter (keepB b)).length pc) ∧ w'.ownsRow base 96 66 (.slice pA (l.filter (keepB b)).length pc) (l.filter (keepB b)).length (RowV encWr (l.filter (keepB b))) ∧ (w.alloc (.cells #[ptD b] 86)).grownBy w' (Value.slice pA l.length pc).ownBlock := by
    by_cases hl : l = []
    · subst hl
      refine (deleteFunc_none pA pc _ _).mono ?_
      rintro e w' ⟨rfl, rfl⟩
      exact ⟨rfl, o1, World.grownBy.refl _ _⟩
    · have hpos : 0 < l.length := List.length_pos_iff.2 hl
      obtain ⟨g, cap, hv, hgb, hgl⟩ := ho.form hpos
      injection hv with hv1 hv2 hv3
      subst hv1
      subst hv3
      exact (deleteFunc_any _ base g l.length pc l o1 rfl hbig b w.heap.size (fun p hp => (hf p hp).below b0) (hb.below b0) kb (by omega))
  have HPD := Lib.hid PD
  have f2 := hd1.frozen 2
  have HD1 := Lib.hid hd1
  have HO1 := Lib.hid o1
  have HCS := Lib.hid hcs
  have B0 := Lib.hid b0
  clear PD hd hcs ho hf hb b0 hd1 xb kb o1
  go_enter Try.func54, Try.ntmps54
  go_wp2_with fail
  refine HPD.out.mono ?_; rintro e w2 ⟨rfl, o2, g2⟩
  have hd2 := HD1.out.grown g2 (Ne.symm (own_ne_blk HO1.out HD1.out (by decide)))
  have k2 : w2.cell? ⟨d, 2, none⟩ = some (.slice pA l.length pc) := (hd2.cell 2).trans HCS.out
  have z2 := hd2.frozen 2
  have O2 := Lib.hid o2
  have G2 := Lib.hid g2
  have HD2 := Lib.hid hd2
  clear o2 g2 hd2 c2
  go_wp2_with fail
  go_end0
  exact ⟨rfl, w2, gr_trans ⟨B0.out.os, B0.out.tape, B0.out.output, B0.out.size, fun i hi _ => B0.out.block i hi⟩ G2.out, O2.out, rfl⟩
end
end Go.Proofs.Ytfmmdnjoichifaa
