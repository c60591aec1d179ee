/- A disk in memory: what a file keeps grows, and turns. -/
import Derived.Test.YtfmmdnjoichifaaFiH
namespace Go.Proofs.Ytfmmdnjoichifaa
open Go.RowKit Go.Sort

theorem setRow_cells (w : World) (g : Nat) (cs : Array Value) (t : TypeId) (cur : Array Value) (_ : w.heap[g]? = some (.cells cur t (0, 0))) : w.grownBy (w.setRow g cs) (some g) :=
  ⟨rfl, rfl, rfl, by simp, fun k _ hk => setRow_other w g k cs (fun e => hk (by rw [e]))⟩
/-- A piece of a row is written over. -/
theorem own_splice {w : World} {base e K n g c : Nat} {xs : List Value} (h : w.ownsRow base e K (.slice (some ⟨g, 0, none⟩) n c) n xs) {cur : Array Value} (hg : w.heap[g]? = some (.cells cur e (0, 0))) (o : Nat) (vs : List Value) (hfit : o + vs.length ≤ n * K) :
    (w.setRow g (cur.toList.take o ++ vs ++ cur.toList.drop (o + vs.length)).toArray).ownsRow base e K (.slice (some ⟨g, 0, none⟩) n c) n (xs.take o ++ vs ++ xs.drop (o + vs.length)) := by
  have hx := h.1
  rcases h.2 with ⟨hv, h0⟩ | ⟨g', cap, cur', hv, hb, hh, hnc, hcm, hcs, ht⟩
  · cases hv
  · injection hv with hv1 hv2 hv3
    injection hv1 with hv1
    injection hv1 with hv1
    subst hv1
    subst hv3
    have e1 : cur' = cur := by
      rw [hg] at hh
      injection hh with hh
      injection hh with hh
      exact hh.symm
    subst e1
    have hcl : n * K ≤ cur'.size := by rw [hcs]; exact Nat.mul_le_mul_right K hnc
    refine ⟨?_, .inr ⟨g, c, _, rfl, hb, setRow_heap w g cur' _ e _ hg, hnc, hcm, ?_, ?_⟩⟩
    · simp only [List.length_append, List.length_take, List.length_drop]; omega
    · simp only [List.size_toArray, List.length_append, List.length_take, List.length_drop, Array.length_toList]; omega
    · show List.take (n * K) _ = _
      have hl1 : (cur'.toList.take o).length = o := by rw [List.length_take, Array.length_toList]; omega
      rw [List.append_assoc, List.take_append, hl1, List.take_append]
      rw [List.take_of_length_le (l := cur'.toList.take o) (by omega), List.take_of_length_le (l := vs) (by omega), ← ht, List.append_assoc]
      congr 1
      · rw [List.take_take, Nat.min_eq_left (by omega)]
      · congr 1
        rw [List.drop_take]
        congr 1
        omega
section
variable {w w2 : World} {base d m : Nat} {D : Dk}
/-- A file keeps a sector more. -/
theorem DiskR.pushKept (h : DiskR w base d m D) {f : Fi} (hf : f ∈ D.fs) {s : Sec} {o : Obj} {kA A' : Option Addr} {kc c' : Nat} (hcell : w.cell? ⟨f.blk, 2, none⟩ = some (slN kA f.kept kc))
    (ho' : w2.ownsRow base 94 64 (.slice A' (f.kept.length + 1) c') (f.kept.length + 1) (RowV encSec (f.kept ++ [s]))) (hgw : Grew (w.alloc o) w2 (slN kA f.kept kc) (.slice A' (f.kept.length + 1) c')) (hn : f.kept.length ≤ 16384) :
    DiskR (w2.setCell ⟨f.blk, 2, none⟩ (.slice A' (f.kept.length + 1) c')) base d m { D with fs := updF D.fs { f with kept := f.kept ++ [s] } } ∧ KF base w (w2.setCell ⟨f.blk, 2, none⟩ (.slice A' (f.kept.length + 1) c')) := by
  have hb0 := al_below w o
  have hg := Grew.by_ hgw
  obtain ⟨h1, h2, h3, ⟨pA, pc, h4, h5⟩, ⟨role, h6⟩, h7, h8, h9, h10⟩ := h.below hb0
  obtain ⟨nA, nc, kA', kc', hb', hbase, hrk, hrn, rk, rn⟩ := h6 f hf
  have e : kA' = kA ∧ kc' = kc := by
    have e1 := (hb0.cell (p := ⟨f.blk, 2, none⟩) (block_lt_of_cell hcell)).trans hcell
    have e2 := hb'.cell 2
    rw [e1] at e2
    injection e2 with e2
    injection e2 with e2 _ e3
    exact ⟨e2.symm, e3.symm⟩
  obtain ⟨rfl, rfl⟩ := e
  have gs := gr_set w2 f.blk 2 (.slice A' (f.kept.length + 1) c')
  have hbd := h4.grown hg (Ne.symm (own_ne_blk hrn h4 (by decide)))
  have hbf := hb'.grown hg (Ne.symm (own_ne_blk hrn hb' (by decide)))
  have hpend := h5.kept hg (own_neq h5 hrn (by decide))
  have hm2 : MapR w2 m (nmOf D.fs) := h3.kept hg (fun e => by
    rcases own_ne_map hrn h3 with h | h
    · rw [h] at e; cases e
    · exact h e.symm)
  have hW : ∀ g, g < (w.alloc o).heap.size → (if g = (w.alloc o).heap.size then 2 * f.blk + 1 else role g) = role g := fun g hg => if_neg (by omega)
  have hfd : f.blk ≠ d := Blk.ne_ hb' h4 (by decide)
  have hkept : SecRow w2 base (slN nA f.now nc) f.now := hrk.kept hg (by
    cases hk : (slN nA f.now nc).ownBlock with
    | none => exact .inl rfl
    | some g =>
      refine .inr fun e => ?_
      have e1 := rk g hk
      have e2 := rn g e.symm
      omega)
  have hnow : SecRow (w2.setCell ⟨f.blk, 2, none⟩ (.slice A' (f.kept.length + 1) c')) base (slN A' (f.kept ++ [s]) c') (f.kept ++ [s]) := by
    have := ho'.kept gs (.inr (own_ne_blk ho' hbf (by decide)))
    unfold SecRow slN
    rw [List.length_append, List.length_singleton]
    exact this
  refine ⟨⟨h1, h2, ?_, ⟨pA, pc, ?_, ?_⟩, ⟨fun g => if g = (w.alloc o).heap.size then 2 * f.blk + 1 else role g, fun g hgm => ?_⟩, fun p hp => ⟨(h7 p hp).1, updF_own (h7 p hp).2⟩, updF_apart h8, fun g hgm => ?_, ?_⟩, ?_⟩
  · show MapR _ m (nmOf (updF D.fs { f with kept := f.kept ++ [s] }))
    rw [updF_names (f' := { f with kept := f.kept ++ [s] }) h8 hf rfl rfl]
    refine hm2.kept gs (fun e => ?_)
    injection e with e
    exact map_ne_blk hm2 hbf e.symm
  · exact hbd.grown gs (fun e => by injection e with e; exact hfd e.symm)
  · exact hpend.kept gs (.inr (own_ne_blk hpend hbf (by decide)))
  · rcases mem_updF hgm with rfl | ⟨hg2, hne⟩
    · refine ⟨nA, nc, A', c', ?_, hbase, hkept.kept gs (.inr (own_ne_blk hkept hbf (by decide))), hnow, fun g hgo => ?_, fun g hgo => ?_⟩
      · have := hbf.set_ 2 (.slice A' (f.kept.length + 1) c')
        show Blk _ f.blk _ #[strV f.name, slN nA f.now nc, .slice A' (f.kept ++ [s]).length c']
        rw [List.length_append, List.length_singleton]
        exact this
      · show (if g = (w.alloc o).heap.size then 2 * f.blk + 1 else role g) = 2 * f.blk
        rw [hW g (World.ownsRow.lt hrk g hgo).2]
        exact rk g hgo
      · show (if g = (w.alloc o).heap.size then 2 * f.blk + 1 else role g) = 2 * f.blk + 1
        have hgo' : (Value.slice A' (f.kept.length + 1) c').ownBlock = some g := by cases A' <;> exact hgo
        rcases Grew.at_ hgw with h | h
        · rw [h] at hgo'
          split
          · rfl
          · exact rn g hgo'
        · rw [h] at hgo'
          injection hgo' with e
          rw [if_pos e.symm]
    · have hne' : g.blk ≠ f.blk := hne
      have hk1 : FileR w2 base (fun g => if g = (w.alloc o).heap.size then 2 * f.blk + 1 else role g) g := by
        obtain ⟨_, _, _, _, hb2, -⟩ := h6 g hg2
        refine ((h6 g hg2).role hW).kept hg (own_ne_blk hrn hb2 (by decide)) fun k hk => .inr (.inr ?_)
        have e1 := rn k hk
        have e2 := hW k (World.ownsRow.lt hrn k hk).2
        rw [e2, e1]
        omega
      refine hk1.kept gs (fun e => by injection e with e; exact hne' e.symm) fun k hk => ?_
      injection hk with hk
      subst hk
      exact .inl ⟨_, _, hbf, by decide⟩
  · rcases mem_updF hgm with rfl | ⟨hg2, -⟩
    · have := h9 f hf
      refine ⟨this.1, ?_, this.2.2⟩
      show (f.kept ++ [s]).length ≤ 16385
      rw [List.length_append, List.length_singleton]
      omega
    · exact h9 g hg2
  · refine ⟨h10.1, h10.2.1, h10.2.2.1, h10.2.2.2.1, ?_⟩
    show (updF D.fs _).length ≤ 256
    rw [updF_length]
    exact h10.2.2.2.2
  · exact (KF.of_below hb0).trans ((KF.of_grown hg (kty_own hrn (.inr rfl))).trans (KF.of_grown gs fun g hgd => by
      injection hgd with hgd
      subst hgd
      exact ⟨hbase, kty_blk hbf (.inl rfl)⟩))
end
end Go.Proofs.Ytfmmdnjoichifaa
