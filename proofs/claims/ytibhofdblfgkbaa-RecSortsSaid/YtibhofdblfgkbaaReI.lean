/- Contracts of package rec: counts. -/
import Derived.Test.YtibhofdblfgkbaaReH
import Derived.Test.YtibhofdblfgkbaaTwo
namespace Go.Proofs.Ytibhofdblfgkbaa
open Go.RowKit Go.Sort Go.Maps Go.ChangeMaps

theorem ok_world {α : Type} {a b : α} {w w' : World} (h : Result.ok a w = Result.ok b w') : w = w' := by injection h
theorem ok_val {α : Type} {a b : α} {w w' : World} (h : Result.ok a w = Result.ok b w') : a = b := by injection h
theorem setBlock_twice (w : World) (b : Nat) (o o' : Obj) : setBlock (setBlock w b o) b o' = setBlock w b o' := by
  unfold setBlock
  simp
theorem setBlock_grown (w : World) {b : Nat} {es : Array MapEntry} {clock : Nat} (o' : Obj) (hb : w.heap[b]? = some (.map es clock)) : w.grownBy (setBlock w b o') (some b) :=
  ⟨rfl, rfl, rfl, by simp [setBlock], fun i _ hi => heap_setBlock_other hb _ (fun e => hi (by rw [e]))⟩
theorem setBlock_size (w : World) (b : Nat) (o' : Obj) : (setBlock w b o').heap.size = w.heap.size := by simp [setBlock]
set_option maxRecDepth 100000 in
set_option maxHeartbeats 1000000 in
theorem CntAt.bump {w : World} {b n : Nat} {t : Int × Int → Nat} {ks : Int × Int → Bool} (h : CntAt w b n t ks) (x1 x2 : Int) (hx : InR (x1, x2)) (hn : n < maxLen) :
    ∃ (v0 : Value) (st : Nat) (w1 : World), (Instr.mapEntry 99 (.map (some b)) (.agg #[.int .i64 x1, .int .i64 x2])).run Try.prog w = .ok (.tuple #[v0, .int .i64 (st : Nat)]) w1 ∧ w.grownBy w1 (some b) ∧ w1.heap.size = w.heap.size ∧
      (Instr.lookup 99 (.map (some b)) (.agg #[.int .i64 x1, .int .i64 x2]) false).run Try.prog w1 = .ok (.int .i64 (t (x1, x2) : Nat)) w1 ∧
      ∀ c : Nat, (Lit.int .i64 (c : Nat)).wf = true → ∃ w2, (Instr.entryStore 99 (.map (some b)) (.int .i64 (st : Nat)) (.int .i64 (c : Nat))).run Try.prog w1 = .ok () w2 ∧ w.grownBy w2 (some b) ∧ w2.heap.size = w.heap.size ∧
        CntAt w2 b (n + 1) (fun r => if r = (x1, x2) then c else t r) (fun r => ks r || r == (x1, x2)) := by
  have hlook := h.look x1 x2 hx
  obtain ⟨D, hown, h2, h3, h4, h5⟩ := h
  have hat : D.atKey (klR (x1, x2)) (.lit (.int .i64 0)) = .lit (.int .i64 (t (x1, x2) : Nat)) := by
    cases hk : ks (x1, x2)
    · have e := h2 _ hx
      rw [hk] at e
      rw [h4 _ hx hk]
      exact atKey_of_not_has e _
    · exact h3 _ _ hx hk
  obtain ⟨es, clock, hb, F, hs, hD⟩ := id hown
  have hkey := keyOfRec x1 x2 hx
  obtain ⟨v0, st, es1, clock1, r1, -, r2⟩ := WideElems.entry_then_store lawRec Try.underlying99 (z := .int .i64 0) (fun u => zeroInt u) hb F hkey
  refine ⟨v0, st, setBlock w b (.map es1 clock1), r1, setBlock_grown w _ hb, setBlock_size _ _ _, ?_, fun c hc => ?_⟩
  · rcases lawRec.find w hkey es.toList F.keys with ⟨f1, f2⟩ | ⟨j, e0, f1, f2, f3⟩
    · obtain ⟨w', u1, u2, -⟩ := hown.update keyedRec Try.underlying99 hn hkey (elR_int 0 (by decide))
      have e1 : (Instr.mapUpdate 99 (.map (some b)) (.agg #[.int .i64 x1, .int .i64 x2]) (.int .i64 0)).run Try.prog w = .ok () (setBlock w b (.map (es.push ⟨.agg #[.int .i64 x1, .int .i64 x2], .int .i64 0, clock⟩) (clock + 1))) := by
        simp [Instr.mapUpdate, run_underlying Try.underlying99, MapKept.run_getObj_map hb, lawRec.check w false hkey, f1, MapKept.run_setObj_map _ hb, Result.andThen, setBlock]
      have e2 : (Instr.mapEntry 99 (.map (some b)) (.agg #[.int .i64 x1, .int .i64 x2])).run Try.prog w = .ok (.tuple #[.int .i64 0, goInt clock]) (setBlock w b (.map (es.push ⟨.agg #[.int .i64 x1, .int .i64 x2], .int .i64 0, clock⟩) (clock + 1))) := by
        simp [Instr.mapEntry, run_underlying Try.underlying99, MapKept.run_getObj_map hb, lawRec.check w false hkey, f1, zeroInt w, MapKept.run_setObj_map _ hb, Result.andThen, setBlock]
      have e3 : (Instr.lookup 99 (.map (some b)) (.agg #[.int .i64 x1, .int .i64 x2]) false).run Try.prog w = .ok (.int .i64 0) w := by
        rcases Maps.fit_look false keyedRec Try.underlying99 (zeroInt w) hb F hkey with ⟨hrun, -, -⟩ | ⟨e0, y, k1, k2, -⟩
        · exact hrun
        · exact absurd k2 (f2 e0 k1)
      have ht : t (x1, x2) = 0 := by
        rw [hlook] at e3
        have g3 := ok_val e3
        injection g3 with _ g3
        omega
      rw [u1] at e1
      rw [r1] at e2
      have g1 := ok_world e1
      have g2 := ok_world e2
      rw [g2, ← g1]
      refine look_of_own u2 hx ?_
      rw [atKey_put_same hown.isMap (klR_key hx), ht]
      rfl
    · have hj : es[j]? = some e0 := by simpa using f2
      have hsame : es.modify j (fun e => { e with key := .agg #[.int .i64 x1, .int .i64 x2] }) = es := by
        apply Array.ext'
        rw [Array.toList_modify, modify_eq_set _ _ _ _ f2]
        have : ({ e0 with key := .agg #[.int .i64 x1, .int .i64 x2] } : MapEntry) = e0 := by rw [← f3]
        rw [this]
        exact WideElems.set_self _ _ _ f2
      have e2 : (Instr.mapEntry 99 (.map (some b)) (.agg #[.int .i64 x1, .int .i64 x2])).run Try.prog w = .ok (.tuple #[e0.val, goInt e0.born]) (setBlock w b (.map es clock)) := by
        simp [Instr.mapEntry, run_underlying Try.underlying99, MapKept.run_getObj_map hb, lawRec.check w false hkey, f1, hj, f3, lawRec.stays w hkey, hsame, MapKept.run_setObj_map _ hb, Result.andThen, setBlock]
      rw [r1] at e2
      have g2 := ok_world e2
      rw [g2]
      exact look_of_own ⟨es, clock, heap_setBlock_same hb _, F, hs, hD⟩ hx hat
  · obtain ⟨es', clock', q1, q2⟩ := r2 (setBlock w b (.map es1 clock1)) (.int .i64 (c : Nat)) (heap_setBlock_same hb _)
    obtain ⟨w', u1, u2, u3⟩ := hown.update keyedRec Try.underlying99 hn hkey (elR_int (c : Nat) hc)
    rw [u1] at q2
    have g2 := ok_world q2
    rw [setBlock_twice, ← g2] at q1
    refine ⟨w', q1, u3, by rw [g2]; exact setBlock_size _ _ _, D.put (klR (x1, x2)) (.lit (.int .i64 (c : Nat))), u2, fun x hxx => ?_, fun x z hxx hkx => ?_, fun x hxx hkx => ?_, fun k hk => ?_⟩
    · show _ = (ks x || x == (x1, x2))
      by_cases e : x = (x1, x2)
      · subst e
        rw [has_put_same hown.isMap (klR_key hx)]
        simp
      · rw [has_put_other (fun he => e (klR_inj hxx hx he)), h2 x hxx]
        have : (x == (x1, x2)) = false := by simpa using e
        rw [this, Bool.or_false]
    · show _ = DataW.lit (.int .i64 ((if x = (x1, x2) then c else t x : Nat) : Int))
      have hkx' : (ks x || x == (x1, x2)) = true := hkx
      by_cases e : x = (x1, x2)
      · subst e
        rw [atKey_put_same hown.isMap (klR_key hx), if_pos rfl]
      · have he : (x == (x1, x2)) = false := by simpa using e
        rw [he, Bool.or_false] at hkx'
        rw [atKey_put_other (fun he => e (klR_inj hxx hx he)), if_neg e]
        exact h3 x z hxx hkx'
    · show (if x = (x1, x2) then c else t x) = 0
      have hkx' : (ks x || x == (x1, x2)) = false := hkx
      have he : x ≠ (x1, x2) := fun e => by rw [e] at hkx'; simp at hkx'
      rw [if_neg he]
      simp only [Bool.or_eq_false_iff] at hkx'
      exact h4 x hxx hkx'.1
    · by_cases e : k = klR (x1, x2)
      · exact ⟨_, hx, e⟩
      · rw [has_put_other e] at hk
        exact h5 k hk
end Go.Proofs.Ytibhofdblfgkbaa
