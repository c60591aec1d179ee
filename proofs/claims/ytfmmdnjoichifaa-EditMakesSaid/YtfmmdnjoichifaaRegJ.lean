/- Regions that draw their order: what only reads is taken first, though operations that come later write what it reads. No program. -/
import Derived.Test.YtfmmdnjoichifaaRegR
namespace Go.Proofs.Ytfmmdnjoichifaa
open Go.RowKit

/-- No word on what late steps leave. -/
def RT (_ _ : World) : Prop := True
theorem RT.refl (w : World) : RT w w := trivial
theorem RT.trans (a b c : World) (_ : RT a b) (_ : RT b c) : RT a c := trivial
section
variable {P : Program} {ops : Array Oper} {Q : Exit → Act → World → Prop} {md : Region.Mode} {R R1 : World → World → Prop} {late : List Nat}

/-- Whatever order is picked from here on; an operation that is not late leads from its world into one that 'R' lets come. -/
def wpAnyJ (P : Program) (md : Region.Mode) (ops : Array Oper) (Q : Exit → Act → World → Prop) (late : List Nat) (R R1 : World → World → Prop) : Nat → Array Bool → Act → World → Prop
  | 0, listed, a, w => Region.ready md ops listed = [] ∧ Q .normal a w
  | fuel + 1, listed, a, w =>
    (Region.ready md ops listed = [] → Q .normal a w) ∧
    ∀ i ∈ Region.ready md ops listed, wpOp P ops Q i (fun a' w' => ((i ∉ late → R w w') ∧ R1 w w') ∧ wpAnyJ P md ops Q late R R1 fuel (listed.setIfInBounds i true) a' w') a w
theorem wpAny_of_J : ∀ (fuel : Nat) (listed : Array Bool) (a : Act) (w : World), wpAnyJ P md ops Q late R R1 fuel listed a w → wpAny P md ops Q fuel listed a w
  | 0, _, _, _, h => h
  | fuel + 1, _, _, _, h => ⟨h.1, fun i hi => wpOp_mono (fun a' w' h' => wpAny_of_J fuel _ a' w' h'.2) (h.2 i hi)⟩
/-- What only reads may be taken first: whatever is late waits for it. -/
theorem wpAnyJ_first (h1refl : ∀ w, R1 w w) (hrefl : ∀ w, R w w) (htrans : ∀ a b c, R a b → R b c → R a c) {i : Nat} {oi : Oper} {v : Value} (hi : ops[i]? = some oi) (hsel : ∀ (j : Nat) (o : Oper) cs b, ops[j]? = some o → o.op ≠ .select cs b)
    (hQ : ∀ c a w, Q (.panic c) (a.put oi.dst v) w → Q (.panic c) a w) (B : List Nat) (hb : ∀ b ∈ B, ∃ ob, ops[b]? = some ob ∧ ∃ e ∈ ob.after, Region.binds md e = true ∧ (e.on = i ∨ e.on ∈ B)) :
    ∀ (fuel : Nat) (listed : Array Bool) (a : Act) (w : World),
      (∀ j oj, ops[j]? = some oj → j ≠ i → listed.getD j true = false → (∀ e ∈ oj.after, Region.binds md e = true → e.on ≠ i) → oi.apart ops oj = true) →
      (∀ j ∈ late, listed.getD j true = false → j ∈ B) → (∀ b, b = i ∨ b ∈ B → listed.getD b true = false) →
      i ∈ Region.ready md ops listed → YieldsIf P ops (R w) oi v a →
      wpAnyJ P md ops Q late R R1 fuel (listed.setIfInBounds i true) (a.put oi.dst v) w → wpAnyJ P md ops Q late R R1 (fuel + 1) listed a w := by
  intro fuel
  induction fuel with
  | zero =>
    intro listed a w _ _ _ hr hy H
    refine ⟨fun h => (by rw [h] at hr; cases hr), fun j hj => ?_⟩
    by_cases hji : j = i
    · subst hji; exact hy.wpOp hi (hrefl w) ⟨⟨fun _ => hrefl w, h1refl w⟩, H⟩
    · have := ready_mono hj hji
      rw [H.1] at this
      cases this
  | succ fuel ih =>
    intro listed a w hfree hl hu hr hy H
    refine ⟨fun h => (by rw [h] at hr; cases hr), fun j hj => ?_⟩
    by_cases hji : j = i
    · subst hji; exact hy.wpOp hi (hrefl w) ⟨⟨fun _ => hrefl w, h1refl w⟩, H⟩
    · have h1 := H.2 j (ready_mono hj hji)
      obtain ⟨hjun, oj, hoj, hall⟩ := mem_ready.1 hj
      have hnot : ∀ e ∈ oj.after, Region.binds md e = true → e.on ≠ i := fun e he hb heq => by
        have h1 := hall e he hb
        have h0 := (mem_ready.1 hr).1
        rw [heq] at h1
        rcases Nat.lt_or_ge i listed.size with h' | h'
        · simp [h'] at h0 h1; rw [h0] at h1; cases h1
        · simp [Array.getElem?_eq_none h'] at h1
      have hjB : j ∉ B := fun hjb => by
        obtain ⟨ob, hob, e, he, hbe, hon⟩ := hb j hjb
        rw [hoj] at hob
        injection hob with hob
        subst hob
        have h1 := hall e he hbe
        have h0 := hu e.on hon
        rcases Nat.lt_or_ge e.on listed.size with h' | h'
        · simp [h'] at h0 h1; rw [h0] at h1; cases h1
        · simp [Array.getElem?_eq_none h'] at h1
      have hjl : j ∉ late := fun hjl => hjB (hl j hjl hjun)
      have h2 := wpOp_putIf hoj (hfree j oj hoj hji hjun hnot) (fun cs b => hsel i oi cs b hi) (fun cs b => hsel j oj cs b hoj) hQ hy h1
      have hstep : ∀ k, (listed.setIfInBounds j true).getD k true = false → listed.getD k true = false := fun k hun => by
        by_cases hjk : j = k
        · subst hjk; exact hjun
        · rw [getD_set_ne true hjk] at hun; exact hun
      have hfree' : ∀ k ok, ops[k]? = some ok → k ≠ i → (listed.setIfInBounds j true).getD k true = false →
          (∀ e ∈ ok.after, Region.binds md e = true → e.on ≠ i) → oi.apart ops ok = true := fun k ok hk hki hun hno => hfree k ok hk hki (hstep k hun) hno
      have hu' : ∀ b, b = i ∨ b ∈ B → (listed.setIfInBounds j true).getD b true = false := fun b hbb => by
        have hne : j ≠ b := fun e => by
          rcases hbb with h | h
          · exact hji (e.trans h)
          · exact hjB (e ▸ h)
        rw [getD_set_ne true hne]
        exact hu b hbb
      refine wpOp_mono (fun a' w' h3 => ⟨h3.2.1, ih (listed.setIfInBounds j true) a' w' hfree' (fun k hk hun => hl k hk (hstep k hun)) hu' (ready_mono hr (Ne.symm hji)) (yieldsIf_mono (fun w'' h => htrans _ _ _ (h3.2.1.1 hjl) h) h3.1) ?_⟩) h2
      rw [Array.setIfInBounds_comm _ _ hji]
      exact h3.2.2

/-- What waits for an operation, as far as one looks from it on. -/
def waits (md : Region.Mode) (ops : Array Oper) (i : Nat) : List Nat :=
  (List.range ops.size).foldl (fun B j => match ops[j]? with
    | some o => if o.after.toList.any (fun e => Region.binds md e && (e.on == i || B.contains e.on)) then j :: B else B
    | none => B) []
def lateOk (md : Region.Mode) (ops : Array Oper) (late : List Nat) (i : Nat) (listed : Array Bool) : Bool :=
  let B := waits md ops i
  late.all (fun j => listed.getD j true || B.contains j) && !listed.getD i true && B.all (fun b => !listed.getD b true) &&
    B.all (fun b => match ops[b]? with
      | some o => o.after.toList.any (fun e => Region.binds md e && (e.on == i || B.contains e.on))
      | none => false)
def takeableJ (md : Region.Mode) (ops : Array Oper) (late : List Nat) : List Nat → Array Bool → Bool
  | [], _ => true
  | i :: is, listed => (Region.ready md ops listed).contains i && Region.free md ops listed i && lateOk md ops late i listed && takeableJ md ops late is (listed.setIfInBounds i true)
theorem wpAnyJ_batch (h1refl : ∀ w, R1 w w) (hrefl : ∀ w, R w w) (htrans : ∀ a b c, R a b → R b c → R a c) (hs : Region.noSelect ops = true) (hQ : ∀ c a d v w, Q (.panic c) (Act.put a d v) w → Q (.panic c) a w) {w : World} :
    ∀ (is : List Nat) (fuel : Nat) (listed : Array Bool) (a : Act), takeableJ md ops late is listed = true →
      wqIdx P ops (R w) (fun a' => wpAnyJ P md ops Q late R R1 fuel (listAll is listed) a' w) is a → wpAnyJ P md ops Q late R R1 (fuel + is.length) listed a w
  | [], _, _, _, _, h => h
  | i :: is, fuel, listed, a, ht, h => by
    simp only [takeableJ, Bool.and_eq_true] at ht
    obtain ⟨⟨⟨hr, hf⟩, hlo⟩, ht'⟩ := ht
    simp only [lateOk, Bool.and_eq_true, List.all_eq_true, Bool.or_eq_true, Bool.not_eq_true', List.contains_iff_mem] at hlo
    obtain ⟨⟨⟨hl1, hl2⟩, hl3⟩, hl4⟩ := hlo
    unfold wqIdx at h
    split at h
    · exact h.elim
    · rename_i o ho
      have hy : ∃ v, YieldsIf P ops (R w) o v a ∧ wqIdx P ops (R w) (fun a' => wpAnyJ P md ops Q late R R1 fuel (listAll is (listed.setIfInBounds i true)) a' w) is (a.put o.dst v) := by
        by_cases hw : Region.wanted o (yielded ops a.tmps) = true
        · rw [if_pos hw] at h
          obtain ⟨v, hv, hk⟩ := h
          exact ⟨v, .inl ⟨hw, hv⟩, hk⟩
        · rw [if_neg hw] at h
          exact ⟨undef, .inr ⟨by simpa using hw, rfl⟩, h⟩
      obtain ⟨v, hy, hk⟩ := hy
      have := wpAnyJ_batch h1refl hrefl htrans hs hQ is fuel (listed.setIfInBounds i true) (a.put o.dst v) ht' hk
      refine wpAnyJ_first h1refl hrefl htrans ho (Region.noSelect_spec hs) (fun c a w h => hQ c a _ _ w h) (waits md ops i) (fun b hb => ?_) (fuel + is.length) listed a w (Region.free_spec ho hf) (fun j hj hun => ?_) (fun b hb => ?_) (by simpa using hr) hy this
      · have h4 := hl4 b hb
        split at h4
        · rename_i ob hob
          rw [List.any_eq_true] at h4
          obtain ⟨e, he, h5⟩ := h4
          simp only [Bool.and_eq_true, Bool.or_eq_true, beq_iff_eq, List.contains_iff_mem] at h5
          exact ⟨ob, hob, e, by simpa using he, h5.1, h5.2⟩
        · cases h4
      · rcases hl1 j hj with h1 | h1
        · rw [h1] at hun; cases hun
        · exact h1
      · rcases hb with rfl | hb
        · exact hl2
        · exact hl3 b hb
/-- A batch of what only reads. -/
theorem batchJ (h1refl : ∀ w, R1 w w) {w : World} (is : List Nat) {fuel N : Nat} {listed : Array Bool} {a : Act} (hN : N = fuel + is.length) (hs : Region.noSelect ops = true) (ht : takeableJ md ops late is listed = true)
    (hQ : ∀ c a d v w, Q (.panic c) (Act.put a d v) w → Q (.panic c) a w) (h : WQ P ops (RB w) (fun a' => wpAnyJ P md ops Q late RB R1 fuel (listAll is listed) a' w) is a) : wpAnyJ P md ops Q late RB R1 N listed a w := by
  subst hN
  exact wpAnyJ_batch h1refl RB.refl RB.trans hs hQ is fuel listed a ht h.out
/-- What reads what no step turns may be taken first, whatever else comes. -/
theorem wpAnyJ_firstP {i : Nat} {oi : Oper} {v : Value} (hi : ops[i]? = some oi) (hsel : ∀ (j : Nat) (o : Oper) cs b, ops[j]? = some o → o.op ≠ .select cs b) (h1refl : ∀ w, R1 w w) (h1trans : ∀ a b c, R1 a b → R1 b c → R1 a c) (hrefl : ∀ w, R w w)
    (hQ : ∀ c a w, Q (.panic c) (a.put oi.dst v) w → Q (.panic c) a w) :
    ∀ (fuel : Nat) (listed : Array Bool) (a : Act) (w : World),
      (∀ j oj, ops[j]? = some oj → j ≠ i → listed.getD j true = false → (∀ e ∈ oj.after, Region.binds md e = true → e.on ≠ i) → oi.apart ops oj = true) →
      i ∈ Region.ready md ops listed → YieldsIf P ops (R1 w) oi v a →
      wpAnyJ P md ops Q late R R1 fuel (listed.setIfInBounds i true) (a.put oi.dst v) w → wpAnyJ P md ops Q late R R1 (fuel + 1) listed a w := by
  intro fuel
  induction fuel with
  | zero =>
    intro listed a w _ hr hy H
    refine ⟨fun h => (by rw [h] at hr; cases hr), fun j hj => ?_⟩
    by_cases hji : j = i
    · subst hji; exact hy.wpOp hi (h1refl w) ⟨⟨fun _ => hrefl w, h1refl w⟩, H⟩
    · have := ready_mono hj hji
      rw [H.1] at this
      cases this
  | succ fuel ih =>
    intro listed a w hfree hr hy H
    refine ⟨fun h => (by rw [h] at hr; cases hr), fun j hj => ?_⟩
    by_cases hji : j = i
    · subst hji; exact hy.wpOp hi (h1refl w) ⟨⟨fun _ => hrefl w, h1refl w⟩, H⟩
    · have h1 := H.2 j (ready_mono hj hji)
      obtain ⟨hjun, oj, hoj, hall⟩ := mem_ready.1 hj
      have hnot : ∀ e ∈ oj.after, Region.binds md e = true → e.on ≠ i := fun e he hb heq => by
        have h1 := hall e he hb
        have h0 := (mem_ready.1 hr).1
        rw [heq] at h1
        rcases Nat.lt_or_ge i listed.size with h' | h'
        · simp [h'] at h0 h1; rw [h0] at h1; cases h1
        · simp [Array.getElem?_eq_none h'] at h1
      have h2 := wpOp_putIf hoj (hfree j oj hoj hji hjun hnot) (fun cs b => hsel i oi cs b hi) (fun cs b => hsel j oj cs b hoj) hQ hy h1
      have hfree' : ∀ k ok, ops[k]? = some ok → k ≠ i → (listed.setIfInBounds j true).getD k true = false →
          (∀ e ∈ ok.after, Region.binds md e = true → e.on ≠ i) → oi.apart ops ok = true := fun k ok hk hki hun hno => by
        refine hfree k ok hk hki ?_ hno
        by_cases hjk : j = k
        · subst hjk; exact hjun
        · rw [getD_set_ne true hjk] at hun; exact hun
      refine wpOp_mono (fun a' w' h3 => ⟨h3.2.1, ih (listed.setIfInBounds j true) a' w' hfree' (ready_mono hr (Ne.symm hji)) (yieldsIf_mono (fun w'' h => h1trans _ _ _ h3.2.1.2 h) h3.1) ?_⟩) h2
      rw [Array.setIfInBounds_comm _ _ hji]
      exact h3.2.2
theorem wpAnyJ_pure (h1refl : ∀ w, R1 w w) (h1trans : ∀ a b c, R1 a b → R1 b c → R1 a c) (hrefl : ∀ w, R w w) (hs : Region.noSelect ops = true) (hQ : ∀ c a d v w, Q (.panic c) (Act.put a d v) w → Q (.panic c) a w) {w : World} :
    ∀ (is : List Nat) (fuel : Nat) (listed : Array Bool) (a : Act), takeable md ops is listed = true →
      wqIdx P ops (R1 w) (fun a' => wpAnyJ P md ops Q late R R1 fuel (listAll is listed) a' w) is a → wpAnyJ P md ops Q late R R1 (fuel + is.length) listed a w
  | [], _, _, _, _, h => h
  | i :: is, fuel, listed, a, ht, h => by
    simp only [takeable, Bool.and_eq_true] at ht
    obtain ⟨⟨hr, hf⟩, ht'⟩ := ht
    unfold wqIdx at h
    split at h
    · exact h.elim
    · rename_i o ho
      have hy : ∃ v, YieldsIf P ops (R1 w) o v a ∧ wqIdx P ops (R1 w) (fun a' => wpAnyJ P md ops Q late R R1 fuel (listAll is (listed.setIfInBounds i true)) a' w) is (a.put o.dst v) := by
        by_cases hw : Region.wanted o (yielded ops a.tmps) = true
        · rw [if_pos hw] at h
          obtain ⟨v, hv, hk⟩ := h
          exact ⟨v, .inl ⟨hw, hv⟩, hk⟩
        · rw [if_neg hw] at h
          exact ⟨undef, .inr ⟨by simpa using hw, rfl⟩, h⟩
      obtain ⟨v, hy, hk⟩ := hy
      have := wpAnyJ_pure h1refl h1trans hrefl hs hQ is fuel (listed.setIfInBounds i true) (a.put o.dst v) ht' hk
      exact wpAnyJ_firstP ho (Region.noSelect_spec hs) h1refl h1trans hrefl (fun c a w h => hQ c a _ _ w h) (fuel + is.length) listed a w (Region.free_spec ho hf) (by simpa using hr) hy this
/-- A batch of what reads what no step turns: nothing need wait for it. -/
theorem batchP (h1refl : ∀ w, R1 w w) (h1trans : ∀ a b c, R1 a b → R1 b c → R1 a c) {w : World} (is : List Nat) {fuel N : Nat} {listed : Array Bool} {a : Act} (hN : N = fuel + is.length) (hs : Region.noSelect ops = true) (ht : takeable md ops is listed = true)
    (hQ : ∀ c a d v w, Q (.panic c) (Act.put a d v) w → Q (.panic c) a w) (h : WQ P ops (R1 w) (fun a' => wpAnyJ P md ops Q late RB R1 fuel (listAll is listed) a' w) is a) : wpAnyJ P md ops Q late RB R1 N listed a w := by
  subst hN
  exact wpAnyJ_pure h1refl h1trans RB.refl hs hQ is fuel listed a ht h.out
/-- One operation comes up, and no other may. -/
theorem wpAnyJ_sole {l : List Oper} {i : Nat} {o : Oper} {fuel : Nat} {listed : Array Bool} {a : Act} {w : World} (ho : l[i]? = some o) (hr : Region.ready md l.toArray listed = [i])
    (h : ∀ K' : Act → World → Prop, (∀ a' w', ((i ∉ late → R w w') ∧ R1 w w') → wpAnyJ P md l.toArray Q late R R1 fuel (listed.setIfInBounds i true) a' w' → K' a' w') →
      if Region.wanted o (yielded l.toArray a.tmps) = true then Oper.wp P o a w K' Q else K' (a.put o.dst undef) w) : wpAnyJ P md l.toArray Q late R R1 (fuel + 1) listed a w := by
  refine ⟨fun h0 => (by rw [h0] at hr; cases hr), fun j hj => ?_⟩
  rw [hr] at hj
  obtain rfl : j = i := by simpa using hj
  exact wpOp_step (by simpa using ho) fun K' hK => h K' fun a' w' hR hW => hK a' w' ⟨hR, hW⟩
theorem wpAnyJ_done {listed : Array Bool} {a : Act} {w : World} (hr : Region.ready md ops listed = []) (h : Q .normal a w) : ∀ fuel, wpAnyJ P md ops Q late R R1 fuel listed a w
  | 0 => ⟨hr, h⟩
  | _ + 1 => ⟨fun _ => h, by rw [hr]; simp⟩
theorem wp_region_J {id : Nat} {a : Act} {w : World} {n : Nat} (R1 : World → World → Prop) (late : List Nat) (hm : P.follows .mixedOrders = true) (hn : ops.size = n)
    (h : wpAnyJ P .any ops Q late RB R1 n (Array.replicate n false) a w.drew) : (Code.region id ops true).wp P Q a w := by
  subst hn
  exact wp_region_any hm (wpAny_of_J _ _ _ _ h)
end
end Go.Proofs.Ytfmmdnjoichifaa
