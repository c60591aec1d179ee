/- The disks of the law's lives, told by plain records. -/
import Derived.Test.YtfmmdnjoichifaaFiAf
import Derived.Test.YtfmmdnjoichifaaFiAe
namespace Go.Proofs.Ytfmmdnjoichifaa
open Go.RowKit Go.Sort

theorem SecAt.any {w : World} {A : Option Addr} {s : Sec} (h : SecAt w 0 A s) (base : Nat) : SecAt w base A s := by
  obtain ⟨ad, h1, h2, h3, h4⟩ := h
  exact ⟨ad, h1, h2, h3, .inr (h4.resolve_left (by omega))⟩
def nmA : Nm := [97]
def nmB : Nm := [98]
def fl (fb : Nat) (nm : Nm) (now kept : List Sec) : Fi := ⟨fb, nm, now, kept⟩
def dk (lim : Int) (fb : Nat) (nm : Nm) (now kept : List Sec) (pend : List Wr) : Dk := ⟨lim, [fl fb nm now kept], pend, false, false, 0⟩
section
variable {lim : Int} {fb : Nat} {nm : Nm} {now kept : List Sec} {pend : List Wr}
theorem dk_new : ({ tick (newD lim) with fs := (newD lim).fs ++ [⟨fb, nm, [], []⟩] } : Dk) = dk lim fb nm [] [] [] := rfl
theorem dk_fs : (dk lim fb nm now kept pend).fs = [fl fb nm now kept] := rfl
theorem dk_mem : fl fb nm now kept ∈ (dk lim fb nm now kept pend).fs := List.mem_singleton.2 rfl
theorem dk_goes : goes (dk lim fb nm now kept pend) := fun h => by cases h.1
theorem dk_used : usedN (dk lim fb nm now kept pend).fs = now.length := by
  show ([fl fb nm now kept].map (·.now.length)).sum = _
  simp [fl]
theorem dk_ap (s : Sec) : apD (dk lim fb nm now kept pend) (fl fb nm now kept) s = dk lim fb nm (now ++ [s]) kept (pend ++ [⟨fb, now.length, s⟩]) := by
  simp [apD, dk, tick, updF, fl]
theorem dk_wr (i : Nat) (s : Sec) : wrD (dk lim fb nm now kept pend) (fl fb nm now kept) i s = dk lim fb nm (now.set i s) kept (pend ++ [⟨fb, i, s⟩]) := by
  simp [wrD, dk, tick, updF, fl]
theorem dk_tick : tick (dk lim fb nm now kept pend) = dk lim fb nm now kept pend := rfl
theorem dk_ren (to : Nm) : ({ tick (dk lim fb nm now kept pend) with fs := renFs (dk lim fb nm now kept pend).fs (fl fb nm now kept) to } : Dk) = dk lim fb to now kept pend := by
  simp [dk, tick, renFs, fl]
theorem dk_flip (i at' tn : Nat) : flipD (dk lim fb nm now kept pend) (fl fb nm now kept) i at' tn = dk lim fb nm (now.set i (turnS at' tn (now.getD i zS) 32)) (kept.set i (turnS at' tn (kept.getD i zS) 32)) (pend.map (flipP fb i at' tn)) := by
  simp [flipD, dk, updF, fl, flipF]
theorem dk_crash (s1 s2 : Sec) : crashD (dk lim fb nm now [] [⟨fb, 0, s1⟩, ⟨fb, 1, s2⟩]) [0, 1] = dk lim fb nm [zS, mixS zS s2 1] [zS, mixS zS s2 1] [] := by
  simp [crashD, dk, keptFs, stepC, findB, updF, keepF, padK, fl, List.zipIdx_cons]
theorem dk_crash_nil (_ : Nat) (D : Dk) : crashD D [] = { D with fs := D.fs.map fun f => { f with now := f.kept }, pend := [], off := false, stops := false } := by
  have : ∀ (l : List (Wr × Nat)) (fs : List Fi), l.foldl (stepC []) fs = fs := by
    intro l
    induction l with
    | nil => intro fs; rfl
    | cons p l ih =>
      intro fs
      rw [List.foldl_cons]
      have : stepC [] fs p = fs := by unfold stepC; rw [if_neg (fun h => by have := h.1; simp at this)]
      rw [this]
      exact ih fs
  unfold crashD keptFs
  rw [this]
end
theorem DF.own {w w' : World} {base m b e size n : Nat} {v : Value} {xs : List Value} {fs : List (Nm × Nat)} (h : DF base m w w') (hm : MapR w m fs) (ho : w.ownsRow b e size v n xs) (he : e ≠ 80 ∧ e ≠ 96 ∧ e ≠ 90 ∧ e ≠ 94) : w'.ownsRow b e size v n xs := by
  have hx := ho.1
  refine ⟨hx, ?_⟩
  rcases ho.2 with hv | ⟨g, cap, cur, rfl, hb, hh, h1, h2, h3, h4⟩
  · exact .inl hv
  · have hbk : Blk w g e cur := hh
    exact .inr ⟨g, cap, cur, rfl, hb, h.blk hbk (map_ne_blk hm hbk) he, h1, h2, h3, h4⟩
end Go.Proofs.Ytfmmdnjoichifaa
