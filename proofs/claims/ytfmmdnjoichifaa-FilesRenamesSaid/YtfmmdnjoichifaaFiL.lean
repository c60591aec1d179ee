/- Contracts of a disk: how a write is kept. -/
import Derived.Test.YtfmmdnjoichifaaFiK
namespace Go.Proofs.Ytfmmdnjoichifaa
open Go.RowKit Go.Sort

theorem RowV_set {α : Type} {enc : α → List Value} {K : Nat} (L : Lay α enc K) : ∀ (l : List α) (i : Nat) (x : α), i < l.length → RowV enc (l.set i x) = (RowV enc l).take (i * K) ++ enc x ++ (RowV enc l).drop (i * K + K)
  | [], i, x, h => by cases h
  | y :: l, 0, x, _ => by
    rw [List.set_cons_zero, RowV_cons, RowV_cons, Nat.zero_mul, List.take_zero, List.nil_append, Nat.zero_add, List.drop_left' (L.len y)]
  | y :: l, i + 1, x, h => by
    have hl := L.len y
    rw [List.set_cons_succ, RowV_cons, RowV_cons, RowV_set L l i x (by simpa using h), Nat.succ_mul, List.take_append, List.drop_append, hl,
      List.take_of_length_le (l := enc y) (by omega), show (enc y).drop (i * K + K + K) = [] from List.drop_eq_nil_of_le (by omega), List.nil_append, show i * K + K - K = i * K by omega, show i * K + K + K - K = i * K + K by omega,
      List.append_assoc, List.append_assoc, List.append_assoc]
/-- The first n bytes of a sector over those of another one. -/
def mixS (old new : Sec) (n : Nat) : Sec := ⟨new.b.take n ++ old.b.drop n, by
  have h1 := old.h
  have h2 := new.h
  rw [List.length_append, List.length_take, List.length_drop]
  omega⟩
theorem encSec_mix (old new : Sec) (n : Nat) : encSec (mixS old new n) = (encSec new).take n ++ (encSec old).drop n := by
  unfold encSec mixS Byt
  rw [List.map_append, List.map_take, List.map_drop]
theorem RowV_mix (l : List Sec) (i : Nat) (old new : Sec) (n : Nat) (h : l[i]? = some old) (hn : n ≤ 64) :
    RowV encSec (l.set i (mixS old new n)) = (RowV encSec l).take (i * 64) ++ (encSec new).take n ++ (RowV encSec l).drop (i * 64 + ((encSec new).take n).length) := by
  have hi := (List.getElem?_eq_some_iff.1 h).1
  have hl : ((encSec new).take n).length = n := by rw [List.length_take, laySec.len]; omega
  rw [RowV_set laySec l i _ hi, encSec_mix, hl]
  have h64 := laySec.len old
  have hd : (RowV encSec l).drop (i * 64) = encSec old ++ (RowV encSec l).drop (i * 64 + 64) := by
    apply List.ext_getElem?
    intro j
    rw [List.getElem?_drop]
    by_cases hj : j < 64
    · rw [List.getElem?_append_left (by omega), RowV_get laySec l i j old h hj]
    · rw [List.getElem?_append_right (by omega), List.getElem?_drop, h64]
      congr 1
      omega
  have hd2 : (RowV encSec l).drop (i * 64 + n) = (encSec old).drop n ++ (RowV encSec l).drop (i * 64 + 64) := by
    rw [← List.drop_drop, hd, List.drop_append, h64, List.drop_drop, show i * 64 + 64 + (n - 64) = i * 64 + 64 by omega]
  rw [hd2]
  simp only [List.append_assoc]
def zS : Sec := ⟨List.replicate 64 0, by simp⟩
theorem zS_build (w : World) : (Instr.build 94 #[]).run Try.prog w = .ok (.agg (encSec zS).toArray) w := by kernel_rfl
theorem updF_upd {fs : List Fi} {f g : Fi} (h : f.blk = g.blk) : updF (updF fs f) g = updF fs g := by
  unfold updF
  rw [List.map_map]
  apply List.map_congr_left
  intro x _
  show (if (if x.blk = f.blk then f else x).blk = g.blk then g else (if x.blk = f.blk then f else x)) = if x.blk = g.blk then g else x
  by_cases hx : x.blk = f.blk
  · rw [if_pos hx, if_pos h, if_pos (hx.trans h)]
  · rw [if_neg hx]
theorem mem_updF_self {fs : List Fi} {f g : Fi} (hf : f ∈ fs) (h : f.blk = g.blk) : g ∈ updF fs g := by
  unfold updF
  exact List.mem_map.2 ⟨f, hf, by rw [if_pos h]⟩
theorem updF_self {fs : List Fi} (hap : fs.Pairwise fun a b => a.blk ≠ b.blk) {f : Fi} (hf : f ∈ fs) : updF fs f = fs := by
  unfold updF
  have : ∀ x ∈ fs, (if x.blk = f.blk then f else x) = x := by
    intro x hx
    split
    · rename_i h
      have key : ∀ l : List Fi, l.Pairwise (fun a b => a.blk ≠ b.blk) → x ∈ l → f ∈ l → f = x := by
        intro l hl hx hf
        induction l with
        | nil => cases hx
        | cons y l ih =>
          obtain ⟨h2, h3⟩ := List.pairwise_cons.1 hl
          rcases List.mem_cons.1 hx with e1 | x2
          · rcases List.mem_cons.1 hf with e2 | f2
            · rw [e1, e2]
            · rw [← e1] at h2; exact absurd h (h2 f f2)
          · rcases List.mem_cons.1 hf with e2 | f2
            · rw [← e2] at h2; exact absurd h.symm (h2 x x2)
            · exact ih h3 x2 f2
      exact key _ hap hx hf
    · rfl
  calc fs.map (fun x => if x.blk = f.blk then f else x) = fs.map id := List.map_congr_left this
    _ = fs := List.map_id _
section
variable {w w' : World} {base d m : Nat} {D : Dk}
/-- What a file keeps is written over, in its row. -/
theorem DiskR.turnKept (h : DiskR w base d m D) {f : Fi} (hf : f ∈ D.fs) {g kc : Nat} {kept' : List Sec} (hcell : w.cell? ⟨f.blk, 2, none⟩ = some (.slice (some ⟨g, 0, none⟩) f.kept.length kc)) (hg : w.grownBy w' (some g))
    (hrow : w'.ownsRow base 94 64 (.slice (some ⟨g, 0, none⟩) f.kept.length kc) f.kept.length (RowV encSec kept')) (hlen : kept'.length = f.kept.length) :
    DiskR w' base d m { D with fs := updF D.fs { f with kept := kept' } } ∧ KF base w w' := by
  obtain ⟨h1, h2, h3, ⟨pA, pc, h4, h5⟩, ⟨role, h6⟩, h7, h8, h9, h10⟩ := h
  obtain ⟨nA, nc, kA, kc', hb', hbase, hrn, hrk, rn, rk⟩ := h6 f hf
  have e : slN kA f.kept kc' = .slice (some ⟨g, 0, none⟩) f.kept.length kc := by
    have e2 := hb'.cell 2
    rw [hcell] at e2
    injection e2 with e2
    exact e2.symm
  rw [e] at hb' hrk rk
  have hgb : (Value.slice (some ⟨g, 0, none⟩) f.kept.length kc).ownBlock = some g := rfl
  have hrg := rk g hgb
  have hrk' : w.ownsRow base 94 64 (.slice (some ⟨g, 0, none⟩) f.kept.length kc) f.kept.length (RowV encSec f.kept) := hrk
  obtain ⟨cur, hcur⟩ := own_blk hrk' hgb
  have hm2 : MapR w' m (nmOf D.fs) := h3.kept hg (fun e => by
    injection e with e
    exact map_ne_blk h3 hcur e.symm)
  refine ⟨⟨h1, h2, ?_, ⟨pA, pc, h4.grown hg (fun e => by injection e with e; exact Blk.ne_ h4 hcur (by decide) e), h5.kept hg (.inr (own_ne_blk h5 hcur (by decide)))⟩, ⟨role, fun x hx => ?_⟩, fun p hp => ⟨(h7 p hp).1, updF_own (h7 p hp).2⟩, updF_apart h8, fun x hx => ?_, ?_⟩, KF.of_grown hg fun k hk => ?_⟩
  · show MapR _ m (nmOf (updF D.fs { f with kept := kept' }))
    rw [updF_names (f' := { f with kept := kept' }) h8 hf rfl rfl]
    exact hm2
  · rcases mem_updF hx with rfl | ⟨hx2, hne⟩
    · refine ⟨nA, nc, some ⟨g, 0, none⟩, kc, ?_, hbase, hrn.kept hg ?_, ?_, rn, fun k hk => ?_⟩
      · have := hb'.grown hg (fun e => by injection e with e; exact Blk.ne_ hb' hcur (by decide) e)
        show Blk _ f.blk _ #[strV f.name, slN nA f.now nc, .slice (some ⟨g, 0, none⟩) kept'.length kc]
        rw [hlen]
        exact this
      · cases hk : (slN nA f.now nc).ownBlock with
        | none => exact .inl rfl
        | some k =>
          refine .inr fun e => ?_
          injection e with e
          subst e
          have := rn k hk
          omega
      · show World.ownsRow _ _ _ _ (.slice (some ⟨g, 0, none⟩) kept'.length kc) kept'.length _
        rw [hlen]
        exact hrow
      · injection hk with hk
        subst hk
        exact hrg
    · have hne' : x.blk ≠ f.blk := hne
      obtain ⟨_, _, _, _, hb2, -⟩ := h6 x hx2
      refine (h6 x hx2).kept hg (fun e => by injection e with e; exact Blk.ne_ hcur hb2 (by decide) e) fun k hk => .inr (.inr ?_)
      injection hk with hk
      subst hk
      omega
  · rcases mem_updF hx with rfl | ⟨hx2, -⟩
    · have := h9 f hf
      refine ⟨this.1, ?_, this.2.2⟩
      show kept'.length ≤ 16385
      omega
    · exact h9 x hx2
  · refine ⟨h10.1, h10.2.1, h10.2.2.1, h10.2.2.2.1, ?_⟩
    show (updF D.fs _).length ≤ 256
    rw [updF_length]
    exact h10.2.2.2.2
  · injection hk with hk
    subst hk
    exact kty_own hrk' (.inr rfl) _ hgb
end
end Go.Proofs.Ytfmmdnjoichifaa
