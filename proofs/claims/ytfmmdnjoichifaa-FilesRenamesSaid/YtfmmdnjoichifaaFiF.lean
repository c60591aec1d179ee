/- A disk in memory: a write more is pending, a file has a sector more. -/
import Derived.Test.YtfmmdnjoichifaaFiE
namespace Go.Proofs.Ytfmmdnjoichifaa
open Go.RowKit Go.Sort

/-- A file in the place of the one of that block. -/
def updF (fs : List Fi) (f : Fi) : List Fi := fs.map fun g => if g.blk = f.blk then f else g
theorem updF_length (fs : List Fi) (f : Fi) : (updF fs f).length = fs.length := by unfold updF; rw [List.length_map]
theorem mem_updF {fs : List Fi} {f g : Fi} (h : g ∈ updF fs f) : g = f ∨ (g ∈ fs ∧ g.blk ≠ f.blk) := by
  unfold updF at h
  obtain ⟨x, hx, he⟩ := List.mem_map.1 h
  split at he
  · exact .inl he.symm
  · subst he
    exact .inr ⟨hx, by assumption⟩
theorem updF_blks (fs : List Fi) (f : Fi) : (updF fs f).map (·.blk) = fs.map (·.blk) := by
  unfold updF
  rw [List.map_map]
  apply List.map_congr_left
  intro x _
  show (if x.blk = f.blk then f else x).blk = x.blk
  split
  · rename_i h; exact h.symm
  · rfl
theorem updF_names {fs : List Fi} {f f' : Fi} (hap : fs.Pairwise fun a b => a.blk ≠ b.blk) (hf : f ∈ fs) (hb : f'.blk = f.blk) (hn : f'.name = f.name) : nmOf (updF fs f') = nmOf fs := by
  unfold nmOf updF
  rw [List.map_map]
  apply List.map_congr_left
  intro x hx
  show ((if x.blk = f'.blk then f' else x).name, (if x.blk = f'.blk then f' else x).blk) = (x.name, x.blk)
  split
  · rename_i h
    have e : x = f := by
      have key : ∀ l : List Fi, l.Pairwise (fun a b => a.blk ≠ b.blk) → x ∈ l → f ∈ l → x = f := by
        intro l hl hx hf
        induction l with
        | nil => cases hx
        | cons y l ih =>
          obtain ⟨h2, h3⟩ := List.pairwise_cons.1 hl
          rcases List.mem_cons.1 hx with e1 | x2
          · rcases List.mem_cons.1 hf with e2 | f2
            · rw [e1, e2]
            · rw [← e1] at h2; exact absurd (h.trans hb) (h2 f f2)
          · rcases List.mem_cons.1 hf with e2 | f2
            · rw [← e2] at h2; exact absurd (h.trans hb).symm (h2 x x2)
            · exact ih h3 x2 f2
      exact key _ hap hx hf
    subst e
    rw [hb, hn]
  · rfl
theorem updF_apart {fs : List Fi} {f : Fi} (hap : fs.Pairwise fun a b => a.blk ≠ b.blk) : (updF fs f).Pairwise fun a b => a.blk ≠ b.blk := by
  have h1 : (fs.map (·.blk)).Pairwise (· ≠ ·) := List.pairwise_map.2 hap
  rw [← updF_blks fs f] at h1
  exact List.pairwise_map.1 h1
theorem updF_own {fs : List Fi} {f : Fi} {b : Nat} (h : ∃ g ∈ fs, g.blk = b) : ∃ g ∈ updF fs f, g.blk = b := by
  obtain ⟨g, hg, rfl⟩ := h
  have : g.blk ∈ (updF fs f).map (·.blk) := by rw [updF_blks]; exact List.mem_map.2 ⟨g, hg, rfl⟩
  exact List.mem_map.1 this
section
variable {w w2 : World} {base d m : Nat} {D : Dk}
theorem own_neq {w : World} {b1 b2 e1 e2 s1 s2 n1 n2 : Nat} {v1 v2 : Value} {xs ys : List Value} (h : w.ownsRow b1 e1 s1 v1 n1 xs) (k : w.ownsRow b2 e2 s2 v2 n2 ys) (hne : e1 ≠ e2) : v1.ownBlock = none ∨ v1.ownBlock ≠ v2.ownBlock := by
  cases hv : v1.ownBlock with
  | none => exact .inl rfl
  | some g =>
    refine .inr fun e => ?_
    obtain ⟨c1, h1⟩ := own_blk h hv
    obtain ⟨c2, h2⟩ := own_blk k e.symm
    exact Blk.ne_ h1 h2 hne rfl
/-- A write more is pending. -/
theorem DiskR.pushPend (h : DiskR w base d m D) {x : Wr} {o : Obj} {pA A' : Option Addr} {pc c' : Nat} (hcell : w.cell? ⟨d, 2, none⟩ = some (.slice pA D.pend.length pc))
    (ho' : w2.ownsRow base 96 66 (.slice A' (D.pend.length + 1) c') (D.pend.length + 1) (RowV encWr (D.pend ++ [x]))) (hg : (w.alloc o).grownBy w2 (Value.slice pA D.pend.length pc).ownBlock) (hx : x.i ≤ 16384 ∧ ∃ f ∈ D.fs, f.blk = x.f) :
    DiskR (w2.setCell ⟨d, 2, none⟩ (.slice A' (D.pend.length + 1) c')) base d m { D with pend := D.pend ++ [x] } ∧ DF base m w (w2.setCell ⟨d, 2, none⟩ (.slice A' (D.pend.length + 1) c')) := by
  have hb0 := al_below w o
  obtain ⟨h1, h2, h3, ⟨pA', pc', h4, h5⟩, ⟨role, h6⟩, h7, h8, h9, h10⟩ := h.below hb0
  have e : pA' = pA ∧ pc' = pc := by
    have e1 := (hb0.cell (p := ⟨d, 2, none⟩) (block_lt_of_cell hcell)).trans hcell
    have e2 := h4.cell 2
    rw [e1] at e2
    injection e2 with e2
    injection e2 with e2 _ e3
    exact ⟨e2.symm, e3.symm⟩
  obtain ⟨rfl, rfl⟩ := e
  have hbd := h4.grown hg (Ne.symm (own_ne_blk h5 h4 (by decide)))
  have hm2 : MapR w2 m (nmOf D.fs) := h3.kept hg (fun e => by
    rcases own_ne_map h5 h3 with h | h
    · rw [h] at e; cases e
    · exact h e.symm)
  have hf2 : ∀ f ∈ D.fs, FileR w2 base role f := fun f hf => by
    obtain ⟨nA, nc, kA, kc, hb', -⟩ := h6 f hf
    refine (h6 f hf).kept hg (own_ne_blk h5 hb' (by decide)) fun g hgd => ?_
    obtain ⟨cur, hc⟩ := own_blk h5 hgd
    exact .inl ⟨_, _, hc, by decide⟩
  have gs := gr_set w2 d 2 (.slice A' (D.pend.length + 1) c')
  have hown2 := ho'.kept gs (.inr (own_ne_blk ho' hbd (by decide)))
  refine ⟨⟨h1, h2, hm2.kept gs (fun e => ?_), ⟨A', c', ?_, ?_⟩, ⟨role, fun f hf => ?_⟩, fun p hp => ?_, h8, h9, h10⟩, ?_⟩
  · injection e with e
    exact map_ne_blk hm2 hbd e.symm
  · have := hbd.set_ 2 (.slice A' (D.pend.length + 1) c')
    show Blk _ d _ #[.int .i64 D.limit, .map (some m), .slice A' (D.pend ++ [x]).length c', .bool D.off, .bool D.stops, .int .i64 D.others]
    rw [List.length_append, List.length_singleton]
    exact this
  · show World.ownsRow _ _ _ _ (.slice A' (D.pend ++ [x]).length c') (D.pend ++ [x]).length _
    rw [List.length_append, List.length_singleton]
    exact hown2
  · obtain ⟨nA, nc, kA, kc, hb', -⟩ := hf2 f hf
    exact (hf2 f hf).kept gs (fun e => by injection e with e; exact Blk.ne_ hb' hbd (by decide) e.symm) fun g hgd => by
      injection hgd with hgd
      subst hgd
      exact .inl ⟨_, _, hbd, by decide⟩
  · rcases List.mem_append.1 hp with hp | hp
    · exact h7 p hp
    · rw [List.mem_singleton.1 hp]; exact hx
  · exact (DF.of_below hb0).trans ((DF.of_grown hg (dty_own h5 (.inr (.inl rfl)))).trans (DF.of_grown gs fun g hgd => by
      injection hgd with hgd
      subst hgd
      exact ⟨h1, dty_blk hbd (.inl rfl)⟩))
/-- A file has a sector more. -/
theorem DiskR.pushNow (h : DiskR w base d m D) {f : Fi} (hf : f ∈ D.fs) {s : Sec} {o : Obj} {nA A' : Option Addr} {nc c' : Nat} (hcell : w.cell? ⟨f.blk, 1, none⟩ = some (slN nA f.now nc))
    (ho' : w2.ownsRow base 94 64 (.slice A' (f.now.length + 1) c') (f.now.length + 1) (RowV encSec (f.now ++ [s]))) (hgw : Grew (w.alloc o) w2 (slN nA f.now nc) (.slice A' (f.now.length + 1) c')) (hn : f.now.length ≤ 16384) :
    DiskR (w2.setCell ⟨f.blk, 1, none⟩ (.slice A' (f.now.length + 1) c')) base d m { D with fs := updF D.fs { f with now := f.now ++ [s] } } ∧ DF base m w (w2.setCell ⟨f.blk, 1, none⟩ (.slice A' (f.now.length + 1) c')) := by
  have hb0 := al_below w o
  have hg := Grew.by_ hgw
  obtain ⟨h1, h2, h3, ⟨pA, pc, h4, h5⟩, ⟨role, h6⟩, h7, h8, h9, h10⟩ := h.below hb0
  obtain ⟨nA', nc', kA, kc, hb', hbase, hrn, hrk, rn, rk⟩ := h6 f hf
  have e : nA' = nA ∧ nc' = nc := by
    have e1 := (hb0.cell (p := ⟨f.blk, 1, none⟩) (block_lt_of_cell hcell)).trans hcell
    have e2 := hb'.cell 1
    rw [e1] at e2
    injection e2 with e2
    injection e2 with e2 _ e3
    exact ⟨e2.symm, e3.symm⟩
  obtain ⟨rfl, rfl⟩ := e
  have gs := gr_set w2 f.blk 1 (.slice A' (f.now.length + 1) c')
  have hbd := h4.grown hg (Ne.symm (own_ne_blk hrn h4 (by decide)))
  have hbf := hb'.grown hg (Ne.symm (own_ne_blk hrn hb' (by decide)))
  have hpend := h5.kept hg (own_neq h5 hrn (by decide))
  have hm2 : MapR w2 m (nmOf D.fs) := h3.kept hg (fun e => by
    rcases own_ne_map hrn h3 with h | h
    · rw [h] at e; cases e
    · exact h e.symm)
  have hW : ∀ g, g < (w.alloc o).heap.size → (if g = (w.alloc o).heap.size then 2 * f.blk else role g) = role g := fun g hg => if_neg (by omega)
  have hfd : f.blk ≠ d := Blk.ne_ hb' h4 (by decide)
  have hkept : SecRow w2 base (slN kA f.kept kc) f.kept := hrk.kept hg (by
    cases hk : (slN kA f.kept kc).ownBlock with
    | none => exact .inl rfl
    | some g =>
      refine .inr fun e => ?_
      have e1 := rk g hk
      have e2 := rn g e.symm
      omega)
  have hnow : SecRow (w2.setCell ⟨f.blk, 1, none⟩ (.slice A' (f.now.length + 1) c')) base (slN A' (f.now ++ [s]) c') (f.now ++ [s]) := by
    have := ho'.kept gs (.inr (own_ne_blk ho' hbf (by decide)))
    unfold SecRow slN
    rw [List.length_append, List.length_singleton]
    exact this
  refine ⟨⟨h1, h2, ?_, ⟨pA, pc, ?_, ?_⟩, ⟨fun g => if g = (w.alloc o).heap.size then 2 * f.blk else role g, fun g hgm => ?_⟩, fun p hp => ⟨(h7 p hp).1, updF_own (h7 p hp).2⟩, updF_apart h8, fun g hgm => ?_, ?_⟩, ?_⟩
  · show MapR _ m (nmOf (updF D.fs { f with now := f.now ++ [s] }))
    rw [updF_names (f' := { f with now := f.now ++ [s] }) h8 hf rfl rfl]
    refine hm2.kept gs (fun e => ?_)
    injection e with e
    exact map_ne_blk hm2 hbf e.symm
  · exact hbd.grown gs (fun e => by injection e with e; exact hfd e.symm)
  · exact hpend.kept gs (.inr (own_ne_blk hpend hbf (by decide)))
  · rcases mem_updF hgm with rfl | ⟨hg2, hne⟩
    · refine ⟨A', c', kA, kc, ?_, hbase, hnow, hkept.kept gs (.inr (own_ne_blk hkept hbf (by decide))), fun g hgo => ?_, fun g hgo => ?_⟩
      · have := hbf.set_ 1 (.slice A' (f.now.length + 1) c')
        show Blk _ f.blk _ #[strV f.name, .slice A' (f.now ++ [s]).length c', slN kA f.kept kc]
        rw [List.length_append, List.length_singleton]
        exact this
      · show (if g = (w.alloc o).heap.size then 2 * f.blk else role g) = 2 * f.blk
        have hgo' : (Value.slice A' (f.now.length + 1) c').ownBlock = some g := by cases A' <;> exact hgo
        rcases Grew.at_ hgw with h | h
        · rw [h] at hgo'
          split
          · rfl
          · exact rn g hgo'
        · rw [h] at hgo'
          injection hgo' with e
          rw [if_pos e.symm]
      · show (if g = (w.alloc o).heap.size then 2 * f.blk else role g) = 2 * f.blk + 1
        rw [hW g (World.ownsRow.lt hrk g hgo).2]
        exact rk g hgo
    · have hne' : g.blk ≠ f.blk := hne
      have hk1 : FileR w2 base (fun g => if g = (w.alloc o).heap.size then 2 * f.blk else role g) g := by
        obtain ⟨_, _, _, _, hb2, -⟩ := h6 g hg2
        refine ((h6 g hg2).role hW).kept hg (own_ne_blk hrn hb2 (by decide)) fun k hk => .inr (.inr ?_)
        have e1 := rn k hk
        have e2 := hW k (World.ownsRow.lt hrn k hk).2
        rw [e2, e1]
        omega
      refine hk1.kept gs (fun e => by injection e with e; exact hne' e.symm) fun k hk => ?_
      injection hk with hk
      subst hk
      exact .inl ⟨_, _, hbf, by decide⟩
  · rcases mem_updF hgm with rfl | ⟨hg2, -⟩
    · have := h9 f hf
      refine ⟨?_, this.2⟩
      show (f.now ++ [s]).length ≤ 16385
      rw [List.length_append, List.length_singleton]
      omega
    · exact h9 g hg2
  · refine ⟨h10.1, h10.2.1, h10.2.2.1, h10.2.2.2.1, ?_⟩
    show (updF D.fs _).length ≤ 256
    rw [updF_length]
    exact h10.2.2.2.2
  · exact (DF.of_below hb0).trans ((DF.of_grown hg (dty_own hrn (.inr (.inr (.inr rfl))))).trans (DF.of_grown gs fun g hgd => by
      injection hgd with hgd
      subst hgd
      exact ⟨hbase, dty_blk hbf (.inr (.inr (.inl rfl)))⟩))
end
end Go.Proofs.Ytfmmdnjoichifaa
