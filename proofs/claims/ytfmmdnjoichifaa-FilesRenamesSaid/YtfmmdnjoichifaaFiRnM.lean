/- Mathematics of the law FilesRenames: the disk behind each step. -/
import Derived.Test.YtfmmdnjoichifaaFiAh
import Derived.Test.YtfmmdnjoichifaaFiAp
namespace Go.Proofs.Ytfmmdnjoichifaa
open Go.RowKit Go.Sort

def secsA (k : Nat) : List Sec := (List.range k).map fun j => oneSec (UInt8.ofNat j)
theorem secsA_len (k : Nat) : (secsA k).length = k := by unfold secsA; rw [List.length_map, List.length_range]
theorem secsA_succ (k : Nat) : secsA (k + 1) = secsA k ++ [oneSec (UInt8.ofNat k)] := by
  unfold secsA
  rw [List.range_succ, List.map_append]
  rfl
def pendA (fb k : Nat) : List Wr := (List.range k).map fun j => ⟨fb, j, oneSec (UInt8.ofNat j)⟩
theorem pendA_len (fb k : Nat) : (pendA fb k).length = k := by unfold pendA; rw [List.length_map, List.length_range]
theorem pendA_succ (fb k : Nat) : pendA fb (k + 1) = pendA fb k ++ [⟨fb, k, oneSec (UInt8.ofNat k)⟩] := by
  unfold pendA
  rw [List.range_succ, List.map_append]
  rfl
theorem padK_len (l : List Sec) (i : Nat) : (padK l i).length = max l.length (i + 1) := by
  unfold padK
  rw [List.length_append, List.length_replicate]
  omega
theorem keepF_len (f : Fi) (x : Wr) (n : Nat) : (keepF f x n).kept.length = max f.kept.length (x.i + 1) := by
  show ((padK f.kept x.i).set x.i _).length = _
  rw [List.length_set, padK_len]
def d2 (fa fb : Nat) (now kept nowb : List Sec) (pend : List Wr) : Dk := ⟨16384, [fl fa nmA now kept, fl fb nmB nowb []], pend, false, false, 0⟩
section
variable {fa fb : Nat} {now kept nowb : List Sec} {pend : List Wr}
theorem d2_a : fl fa nmA now kept ∈ (d2 fa fb now kept nowb pend).fs := List.mem_cons_self ..
theorem d2_b : fl fb nmB nowb [] ∈ (d2 fa fb now kept nowb pend).fs := List.mem_cons_of_mem _ (List.mem_singleton.2 rfl)
theorem d2_goes : goes (d2 fa fb now kept nowb pend) := fun h => by cases h.1
theorem d2_tick : tick (d2 fa fb now kept nowb pend) = d2 fa fb now kept nowb pend := rfl
theorem d2_used : usedN (d2 fa fb now kept nowb pend).fs = now.length + nowb.length := by
  show ([fl fa nmA now kept, fl fb nmB nowb []].map (·.now.length)).sum = _
  simp [fl]
theorem d2_apa (hne : fa ≠ fb) (s : Sec) : apD (d2 fa fb now kept nowb pend) (fl fa nmA now kept) s = d2 fa fb (now ++ [s]) kept nowb (pend ++ [⟨fa, now.length, s⟩]) := by
  simp [apD, d2, tick, updF, fl, hne.symm]
theorem d2_apb (hne : fa ≠ fb) (s : Sec) : apD (d2 fa fb now kept nowb pend) (fl fb nmB nowb []) s = d2 fa fb now kept (nowb ++ [s]) (pend ++ [⟨fb, nowb.length, s⟩]) := by
  simp [apD, d2, tick, updF, fl, hne]
theorem stepS_a (hne : fa ≠ fb) (p : Wr) (hp : p.f = fa) : stepS fa [fl fa nmA now kept, fl fb nmB nowb []] p = [fl fa nmA now (keepF (fl fa nmA now kept) p 64).kept, fl fb nmB nowb []] := by
  simp [stepS, hp, findB, updF, fl, keepF, hne.symm]
theorem sync_len (hne : fa ≠ fb) : ∀ k : Nat, ∃ kept', (pendA fa k).foldl (stepS fa) [fl fa nmA now [], fl fb nmB nowb []] = [fl fa nmA now kept', fl fb nmB nowb []] ∧ kept'.length = k
  | 0 => ⟨[], rfl, rfl⟩
  | k + 1 => by
    obtain ⟨x, hx, hl⟩ := sync_len hne k
    refine ⟨(keepF (fl fa nmA now x) ⟨fa, k, oneSec (UInt8.ofNat k)⟩ 64).kept, ?_, ?_⟩
    · rw [pendA_succ, List.foldl_append, hx]
      exact stepS_a hne _ rfl
    · rw [keepF_len]
      show max x.length (k + 1) = k + 1
      omega
theorem filter_none (l : List Wr) (h : ∀ p ∈ l, p.f = fa) : l.filter (keepB fa) = [] := by
  rw [List.filter_eq_nil_iff]
  intro p hp
  unfold keepB
  rw [h p hp]
  simp
theorem pendA_f (k : Nat) : ∀ p ∈ pendA fa k, p.f = fa ∧ p.i < k := by
  intro p hp
  unfold pendA at hp
  obtain ⟨j, hj, rfl⟩ := List.mem_map.1 hp
  exact ⟨rfl, List.mem_range.1 hj⟩
theorem d2_sync (hne : fa ≠ fb) (k : Nat) : ∃ kept', syncD (tick (d2 fa fb now [] nowb (pendA fa k))) fa = d2 fa fb now kept' nowb [] ∧ kept'.length = k := by
  obtain ⟨x, hx, hl⟩ := sync_len (now := now) (nowb := nowb) hne k
  refine ⟨x, ?_, hl⟩
  have e1 : syncFs [fl fa nmA now [], fl fb nmB nowb []] (pendA fa k) fa (pendA fa k).length = [fl fa nmA now x, fl fb nmB nowb []] := by
    unfold syncFs
    rw [List.take_length, hx]
  show (⟨16384, syncFs [fl fa nmA now [], fl fb nmB nowb []] (pendA fa k) fa (pendA fa k).length, (pendA fa k).filter (keepB fa), false, false, 0⟩ : Dk) = _
  rw [e1, filter_none _ fun p hp => (pendA_f k p hp).1]
  rfl
/-- The disk behind the rename. -/
theorem d2_ren (_ : fa ≠ fb) : renD (tick (d2 fa fb now kept nowb pend)) (fl fa nmA now kept) (fl fb nmB nowb []) = dk 16384 fa nmB now kept (pend.filter (keepB fb)) := by
  simp [renD, remD, renFs, d2, dk, tick, fl, nmA, nmB]
theorem keptFs_len (hb : List Int) (n : Nat) (hp : ∀ p ∈ pend, p.f = fa ∧ p.i < n) (hk : kept.length ≤ n) : ∀ j : Nat, ∃ kept', keptFs [fl fa nmB now kept] pend hb j = [fl fa nmB now kept'] ∧ kept.length ≤ kept'.length ∧ kept'.length ≤ n
  | 0 => ⟨kept, rfl, Nat.le_refl _, hk⟩
  | j + 1 => by
    obtain ⟨x, hx, h1, h2⟩ := keptFs_len hb n hp hk j
    by_cases hj : j < pend.length
    · have hg : pend[j]? = some pend[j] := List.getElem?_eq_getElem hj
      obtain ⟨pf, pi⟩ := hp _ (List.getElem_mem hj)
      rw [keptFs_succ _ _ _ _ _ hg, hx]
      generalize pend[j] = p at pf pi
      unfold stepC
      split
      · refine ⟨(keepF (fl fa nmB now x) p (hb.getD j 0).toNat).kept, by simp [findB, pf, updF, fl, keepF], ?_⟩
        rw [keepF_len]
        show kept.length ≤ max x.length (p.i + 1) ∧ max x.length (p.i + 1) ≤ n
        omega
      · exact ⟨x, rfl, h1, h2⟩
    · refine ⟨x, ?_, h1, h2⟩
      rw [← hx]
      unfold keptFs
      have hz : pend.zipIdx.length = pend.length := List.length_zipIdx
      rw [List.take_of_length_le (by omega), List.take_of_length_le (by omega)]
theorem dk_crashB (hb : List Int) (n : Nat) (hp : ∀ p ∈ pend, p.f = fa ∧ p.i < n) (hk : kept.length ≤ n) : ∃ kept', crashD (dk 16384 fa nmB now kept pend) hb = dk 16384 fa nmB kept' kept' [] ∧ kept.length ≤ kept'.length ∧ kept'.length ≤ n := by
  obtain ⟨x, hx, h⟩ := keptFs_len (now := now) hb n hp hk pend.length
  refine ⟨x, ?_, h⟩
  show (⟨16384, (keptFs [fl fa nmB now kept] pend hb pend.length).map fun f => { f with now := f.kept }, [], false, false, 0⟩ : Dk) = _
  rw [hx]
  rfl
theorem dk_pendM (hp : ∀ p ∈ pend, p.f = fa) : ∀ x ∈ pendM (dk 16384 fa nmB now kept pend), x.1 = nmB := by
  intro x hx
  unfold pendM at hx
  obtain ⟨p, hp', rfl⟩ := List.mem_map.1 hx
  show nameOf [fl fa nmB now kept] p.f = nmB
  rw [hp p hp']
  simp [nameOf, fl]
def pendB (fb k : Nat) : List Wr := (List.range k).map fun j => ⟨fb, j, oneSec 200⟩
theorem pendB_len (k : Nat) : (pendB fb k).length = k := by unfold pendB; rw [List.length_map, List.length_range]
theorem pendB_succ (k : Nat) : pendB fb (k + 1) = pendB fb k ++ [⟨fb, k, oneSec 200⟩] := by
  unfold pendB
  rw [List.range_succ, List.map_append]
  rfl
theorem pendB_f (k : Nat) : ∀ p ∈ pendB fb k, p.f = fb := by
  intro p hp
  unfold pendB at hp
  obtain ⟨j, hj, rfl⟩ := List.mem_map.1 hp
  rfl
theorem filter_ab (hne : fa ≠ fb) (hp : ∀ p ∈ pend, p.f = fa) (k : Nat) : (pend ++ pendB fb k).filter (keepB fb) = pend := by
  rw [List.filter_append, filter_none _ (pendB_f k), List.append_nil, List.filter_eq_self]
  intro p h
  unfold keepB
  rw [hp p h]
  simp [hne]
end
end Go.Proofs.Ytfmmdnjoichifaa
