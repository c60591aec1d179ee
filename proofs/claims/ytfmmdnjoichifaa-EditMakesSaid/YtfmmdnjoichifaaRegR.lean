/- Regions that draw their order and hold calls: what only reads is taken first, in the worlds that a relation lets come; a call is carried out when nothing else may come up. No program. -/
import Derived.Test.YtfmmdnjoichifaaRows
import Derived.WalkKit
import Derived.OrdersHeld
import Derived.Deep.QuietTactic
import Derived.BigQuiet
namespace Go.Proofs.Ytfmmdnjoichifaa
open Go.RowKit

section
variable {P : Program} {ops : Array Oper} {Q : Exit → Act → World → Prop} {md : Region.Mode} {R : World → World → Prop}

/-- Whatever order is picked from here on, and every operation leads from its world into one that 'R' lets come. -/
def wpAnyR (P : Program) (md : Region.Mode) (ops : Array Oper) (Q : Exit → Act → World → Prop) (R : World → World → Prop) : Nat → Array Bool → Act → World → Prop
  | 0, listed, a, w => Region.ready md ops listed = [] ∧ Q .normal a w
  | fuel + 1, listed, a, w =>
    (Region.ready md ops listed = [] → Q .normal a w) ∧
    ∀ i ∈ Region.ready md ops listed, wpOp P ops Q i (fun a' w' => R w w' ∧ wpAnyR P md ops Q R fuel (listed.setIfInBounds i true) a' w') a w
theorem wpAny_of_R : ∀ (fuel : Nat) (listed : Array Bool) (a : Act) (w : World), wpAnyR P md ops Q R fuel listed a w → wpAny P md ops Q fuel listed a w
  | 0, _, _, _, h => h
  | fuel + 1, _, _, _, h => ⟨h.1, fun i hi => wpOp_mono (fun a' w' h' => wpAny_of_R fuel _ a' w' h'.2) (h.2 i hi)⟩
theorem yieldsIf_mono {S S' : World → Prop} (hS : ∀ w, S' w → S w) {o : Oper} {v : Value} {a : Act} (h : YieldsIf P ops S o v a) : YieldsIf P ops S' o v a :=
  h.imp (fun ⟨hw, hv⟩ => ⟨hw, fun w hw' => hv w (hS w hw')⟩) id
/-- What only reads may be taken first. -/
theorem wpAnyR_first (hrefl : ∀ w, R w w) (htrans : ∀ a b c, R a b → R b c → R a c) {i : Nat} {oi : Oper} {v : Value} (hi : ops[i]? = some oi) (hsel : ∀ (j : Nat) (o : Oper) cs b, ops[j]? = some o → o.op ≠ .select cs b)
    (hQ : ∀ c a w, Q (.panic c) (a.put oi.dst v) w → Q (.panic c) a w) :
    ∀ (fuel : Nat) (listed : Array Bool) (a : Act) (w : World),
      (∀ j oj, ops[j]? = some oj → j ≠ i → listed.getD j true = false → (∀ e ∈ oj.after, Region.binds md e = true → e.on ≠ i) → oi.apart ops oj = true) →
      i ∈ Region.ready md ops listed → YieldsIf P ops (R w) oi v a →
      wpAnyR P md ops Q R fuel (listed.setIfInBounds i true) (a.put oi.dst v) w → wpAnyR P md ops Q R (fuel + 1) listed a w := by
  intro fuel
  induction fuel with
  | zero =>
    intro listed a w _ hr hy H
    refine ⟨fun h => (by rw [h] at hr; cases hr), fun j hj => ?_⟩
    by_cases hji : j = i
    · subst hji; exact hy.wpOp hi (hrefl w) ⟨hrefl w, H⟩
    · have := ready_mono hj hji
      rw [H.1] at this
      cases this
  | succ fuel ih =>
    intro listed a w hfree hr hy H
    refine ⟨fun h => (by rw [h] at hr; cases hr), fun j hj => ?_⟩
    by_cases hji : j = i
    · subst hji; exact hy.wpOp hi (hrefl w) ⟨hrefl w, H⟩
    · have h1 := H.2 j (ready_mono hj hji)
      obtain ⟨hjun, oj, hoj, hall⟩ := mem_ready.1 hj
      have hnot : ∀ e ∈ oj.after, Region.binds md e = true → e.on ≠ i := fun e he hb heq => by
        have h1 := hall e he hb
        have h0 := (mem_ready.1 hr).1
        rw [heq] at h1
        rcases Nat.lt_or_ge i listed.size with h' | h'
        · simp [h'] at h0 h1; rw [h0] at h1; cases h1
        · simp [Array.getElem?_eq_none h'] at h1
      have h2 := wpOp_putIf hoj (hfree j oj hoj hji hjun hnot) (fun cs b => hsel i oi cs b hi) (fun cs b => hsel j oj cs b hoj) hQ hy h1
      have hfree' : ∀ k ok, ops[k]? = some ok → k ≠ i → (listed.setIfInBounds j true).getD k true = false →
          (∀ e ∈ ok.after, Region.binds md e = true → e.on ≠ i) → oi.apart ops ok = true := fun k ok hk hki hun hno => by
        refine hfree k ok hk hki ?_ hno
        by_cases hjk : j = k
        · subst hjk; exact hjun
        · rw [getD_set_ne true hjk] at hun; exact hun
      refine wpOp_mono (fun a' w' h3 => ⟨h3.2.1, ih (listed.setIfInBounds j true) a' w' hfree' (ready_mono hr (Ne.symm hji)) (yieldsIf_mono (fun w'' h => htrans _ _ _ h3.2.1 h) h3.1) ?_⟩) h2
      rw [Array.setIfInBounds_comm _ _ hji]
      exact h3.2.2

/-- A row of operations, by their numbers, each of which only reads. -/
def wqIdx (P : Program) (ops : Array Oper) (S : World → Prop) (K : Act → Prop) : List Nat → Act → Prop
  | [], a => K a
  | i :: is, a => match ops[i]? with
    | none => False
    | some o => if Region.wanted o (yielded ops a.tmps) then ∃ v, (∀ w, S w → (execOp a.eval o).run P w = .ok (.value v) w) ∧ wqIdx P ops S K is (a.put o.dst v) else wqIdx P ops S K is (a.put o.dst undef)
/-- May they come up so, one behind the other, and touches nobody who could come before them what they touch? -/
def takeable (md : Region.Mode) (ops : Array Oper) : List Nat → Array Bool → Bool
  | [], _ => true
  | i :: is, listed => (Region.ready md ops listed).contains i && Region.free md ops listed i && takeable md ops is (listed.setIfInBounds i true)
def listAll : List Nat → Array Bool → Array Bool
  | [], listed => listed
  | i :: is, listed => listAll is (listed.setIfInBounds i true)

theorem wpAnyR_batch (hrefl : ∀ w, R w w) (htrans : ∀ a b c, R a b → R b c → R a c) (hs : Region.noSelect ops = true) (hQ : ∀ c a d v w, Q (.panic c) (Act.put a d v) w → Q (.panic c) a w) {w : World} :
    ∀ (is : List Nat) (fuel : Nat) (listed : Array Bool) (a : Act), takeable md ops is listed = true →
      wqIdx P ops (R w) (fun a' => wpAnyR P md ops Q R fuel (listAll is listed) a' w) is a → wpAnyR P md ops Q R (fuel + is.length) listed a w
  | [], _, _, _, _, h => h
  | i :: is, fuel, listed, a, ht, h => by
    simp only [takeable, Bool.and_eq_true] at ht
    obtain ⟨⟨hr, hf⟩, ht'⟩ := ht
    unfold wqIdx at h
    split at h
    · exact h.elim
    · rename_i o ho
      have hy : ∃ v, YieldsIf P ops (R w) o v a ∧ wqIdx P ops (R w) (fun a' => wpAnyR P md ops Q R fuel (listAll is (listed.setIfInBounds i true)) a' w) is (a.put o.dst v) := by
        by_cases hw : Region.wanted o (yielded ops a.tmps) = true
        · rw [if_pos hw] at h
          obtain ⟨v, hv, hk⟩ := h
          exact ⟨v, .inl ⟨hw, hv⟩, hk⟩
        · rw [if_neg hw] at h
          exact ⟨undef, .inr ⟨by simpa using hw, rfl⟩, h⟩
      obtain ⟨v, hy, hk⟩ := hy
      have := wpAnyR_batch hrefl htrans hs hQ is fuel (listed.setIfInBounds i true) (a.put o.dst v) ht' hk
      exact wpAnyR_first hrefl htrans ho (Region.noSelect_spec hs) (fun c a w h => hQ c a _ _ w h) (fuel + is.length) listed a w (Region.free_spec ho hf) (by simpa using hr) hy this
/-- The same, behind a name that nothing opens by itself. -/
structure WQ (P : Program) (ops : Array Oper) (S : World → Prop) (K : Act → Prop) (is : List Nat) (a : Act) : Prop where
  out : wqIdx P ops S K is a
/-- What is asked of the worlds: what was there is as it was. -/
def RB (w w' : World) : Prop := Below w.heap.size w w'
theorem RB.refl (w : World) : RB w w := Below.refl _ _
theorem RB.trans (a b c : World) (h : RB a b) (k : RB b c) : RB a c := Below.trans h (k.mono h.size)
theorem RB.of_drew {w w' : World} (h : RB w.drew w') : RB w w' := ⟨h.os, h.tape, h.output, h.size, h.block⟩
/-- .. but in blocks that are named. -/
def RK (S : Nat → Prop) (w w' : World) : Prop := w'.os = w.os ∧ w'.tape = w.tape ∧ w'.output = w.output ∧ w.heap.size ≤ w'.heap.size ∧ ∀ k, k < w.heap.size → ¬ S k → w'.heap[k]? = w.heap[k]?
theorem RK.refl (S : Nat → Prop) (w : World) : RK S w w := ⟨rfl, rfl, rfl, Nat.le_refl _, fun _ _ _ => rfl⟩
theorem RK.trans (S : Nat → Prop) (a b c : World) (h : RK S a b) (k : RK S b c) : RK S a c :=
  ⟨k.1.trans h.1, k.2.1.trans h.2.1, k.2.2.1.trans h.2.2.1, Nat.le_trans h.2.2.2.1 k.2.2.2.1, fun i hi hs => (k.2.2.2.2 i (Nat.lt_of_lt_of_le hi h.2.2.2.1) hs).trans (h.2.2.2.2 i hi hs)⟩
/-- A batch at 'RB'. -/
theorem batchB {P : Program} {ops : Array Oper} {Q : Exit → Act → World → Prop} {md : Region.Mode} {w : World} (is : List Nat) {fuel N : Nat} {listed : Array Bool} {a : Act} (hN : N = fuel + is.length) (hs : Region.noSelect ops = true) (ht : takeable md ops is listed = true)
    (hQ : ∀ c a d v w, Q (.panic c) (Act.put a d v) w → Q (.panic c) a w) (h : WQ P ops (RB w) (fun a' => wpAnyR P md ops Q RB fuel (listAll is listed) a' w) is a) : wpAnyR P md ops Q RB N listed a w := by
  subst hN
  exact wpAnyR_batch RB.refl RB.trans hs hQ is fuel listed a ht h.out
theorem batchK {P : Program} {ops : Array Oper} {Q : Exit → Act → World → Prop} {md : Region.Mode} {S : Nat → Prop} {w : World} (is : List Nat) {fuel N : Nat} {listed : Array Bool} {a : Act} (hN : N = fuel + is.length) (hs : Region.noSelect ops = true) (ht : takeable md ops is listed = true)
    (hQ : ∀ c a d v w, Q (.panic c) (Act.put a d v) w → Q (.panic c) a w) (h : WQ P ops (RK S w) (fun a' => wpAnyR P md ops Q (RK S) fuel (listAll is listed) a' w) is a) : wpAnyR P md ops Q (RK S) N listed a w := by
  subst hN
  exact wpAnyR_batch (RK.refl S) (RK.trans S) hs hQ is fuel listed a ht h.out
/-- One operation comes up, and no other may. -/
theorem wpAnyR_sole {l : List Oper} {i : Nat} {o : Oper} {fuel : Nat} {listed : Array Bool} {a : Act} {w : World} (ho : l[i]? = some o) (hr : Region.ready md l.toArray listed = [i])
    (h : ∀ K' : Act → World → Prop, (∀ a' w', R w w' → wpAnyR P md l.toArray Q R fuel (listed.setIfInBounds i true) a' w' → K' a' w') →
      if Region.wanted o (yielded l.toArray a.tmps) = true then Oper.wp P o a w K' Q else K' (a.put o.dst undef) w) : wpAnyR P md l.toArray Q R (fuel + 1) listed a w := by
  refine ⟨fun h0 => (by rw [h0] at hr; cases hr), fun j hj => ?_⟩
  rw [hr] at hj
  obtain rfl : j = i := by simpa using hj
  exact wpOp_step (by simpa using ho) fun K' hK => h K' fun a' w' hR hW => hK a' w' ⟨hR, hW⟩
theorem wpAnyR_done {listed : Array Bool} {a : Act} {w : World} (hr : Region.ready md ops listed = []) (h : Q .normal a w) : ∀ fuel, wpAnyR P md ops Q R fuel listed a w
  | 0 => ⟨hr, h⟩
  | _ + 1 => ⟨fun _ => h, by rw [hr]; simp⟩
theorem wp_region_R {id : Nat} {a : Act} {w : World} {n : Nat} (hm : P.follows .mixedOrders = true) (hn : ops.size = n)
    (h : wpAnyR P .any ops Q R n (Array.replicate n false) a w.drew) : (Code.region id ops true).wp P Q a w := by
  subst hn
  exact wp_region_any hm (wpAny_of_R _ _ _ _ h)
end

section
variable {P : Program} {l : List Oper} {S : World → Prop} {K : Act → Prop} {i : Nat} {is : List Nat} {o : Oper} {a : Act}
theorem wqIdx_nil (h : K a) : WQ P l.toArray S K [] a := ⟨h⟩
theorem wqIdx_skip (ho : l[i]? = some o) (hw : Region.wanted o (yielded l.toArray a.tmps) = false) (h : WQ P l.toArray S K is (a.put o.dst undef)) : WQ P l.toArray S K (i :: is) a := by
  refine ⟨?_⟩
  unfold wqIdx
  simp only [List.getElem?_toArray, ho, hw]
  exact h.out
theorem wqIdx_read (ho : l[i]? = some o) (hw : Region.wanted o (yielded l.toArray a.tmps) = true) {v : Value} (hv : ∀ w, S w → (execOp a.eval o).run P w = .ok (.value v) w) (h : WQ P l.toArray S K is (a.put o.dst v)) : WQ P l.toArray S K (i :: is) a := by
  refine ⟨?_⟩
  unfold wqIdx
  simp only [List.getElem?_toArray, ho, hw, if_true]
  exact ⟨v, hv, h.out⟩
/-- Kinds of operations that read no memory. -/
def plainKind : Op → Bool
  | .move _ | .assign _ | .pick .. | .binOp .. | .unOp .. | .slice .. | .fieldAddr .. | .field .. | .indexAddr .. | .index .. | .extract .. | .call { callee := .builtin .len, .. } | .call { callee := .builtin .cap, .. } => true
  | _ => false
/-- Kinds of operations that yield a value, or nothing at all. -/
def valueKind : Op → Bool
  | .move _ | .assign _ | .pick .. | .load .. | .binOp .. | .unOp .. | .convert .. | .slice .. | .fieldAddr .. | .field .. | .indexAddr .. | .index .. | .extract .. | .lookup .. | .call { callee := .builtin .len, .. } | .call { callee := .builtin .cap, .. } => true
  | _ => false
theorem value_of_bind {s : Sem Value} {w w' : World} {n : Next} (h : (do pure (.value (← s)) : Sem Next).run P w = .ok n w') : ∃ u, n = .value u := by
  simp only [Sem.run_bind, Sem.run_pure] at h
  generalize s.run P w = r at h
  cases r with
  | ok x w1 => simp only [Result.andThen] at h; injection h with h1 h2; exact ⟨x, h1.symm⟩
  | halt x w1 => simp [Result.andThen] at h
theorem value_of_kind {ρ : Operand → Value} {o : Oper} {w w' : World} {n : Next} (hk : valueKind o.op = true) (h : (execOp ρ o).run P w = .ok n w') : ∃ u, n = .value u := by
  obtain ⟨dst, op, type, pos, after, guard⟩ := o
  cases op with
  | move x => simp only [execOp, Sem.run_pure] at h; injection h with h1 h2; exact ⟨_, h1.symm⟩
  | assign x => simp only [execOp, Sem.run_pure] at h; injection h with h1 h2; exact ⟨_, h1.symm⟩
  | pick c a b =>
    simp only [execOp, Sem.run_bind, Sem.run_pure] at h
    generalize (asBool (ρ c)).run P w = r at h
    cases r with
    | ok x w1 => simp only [Result.andThen] at h; injection h with h1 h2; exact ⟨_, h1.symm⟩
    | halt x w1 => simp [Result.andThen] at h
  | load t x => exact value_of_bind h
  | binOp p t x y u => exact value_of_bind h
  | unOp p t x => exact value_of_bind h
  | convert s d x => exact value_of_bind h
  | slice t x l hh m => exact value_of_bind h
  | fieldAddr t x f => exact value_of_bind h
  | field t x f => exact value_of_bind h
  | indexAddr t x y => exact value_of_bind h
  | index t x y => exact value_of_bind h
  | extract x y => exact value_of_bind h
  | lookup t x y c => exact value_of_bind h
  | call c =>
    obtain ⟨callee, args, ats⟩ := c
    cases callee with
    | builtin b =>
      cases b <;> simp only [valueKind, Bool.false_eq_true] at hk
      all_goals (simp only [execOp, resolve, invoke, builtin, Sem.run_bind, Sem.run_pure, Result.andThen_ok] at h; exact value_of_bind (by simpa only [Sem.run_bind, Sem.run_pure] using h))
    | value f => simp [valueKind] at hk
    | invoke r m => simp [valueKind] at hk
  | _ => simp [valueKind] at hk
theorem plain_value {o : Op} (h : plainKind o = true) : valueKind o = true := by
  cases o with
  | call c =>
    obtain ⟨callee, args, ats⟩ := c
    cases callee with
    | builtin b => cases b <;> first | rfl | simp [plainKind] at h
    | _ => simp [plainKind] at h
  | _ => first | rfl | simp [plainKind] at h
/-- For the walk's own step: the operation stands as one of a quiet walk. -/
theorem wqIdx_any (ho : l[i]? = some o) (hw : Region.wanted o (yielded l.toArray a.tmps) = true) (hk : valueKind o.op = true)
    (h : ∀ K' : Act → Prop, (∀ a', WQ P l.toArray S K is a' → K' a') → o.quiet P a (fun _ => True) K') : WQ P l.toArray S K (i :: is) a := by
  obtain ⟨v, hv, hn⟩ := h _ (fun _ h => h)
  refine wqIdx_read ho hw (fun w _ => ?_) hn
  have hq := hv w trivial
  unfold Oper.quietAt at hq
  generalize hr : (execOp a.eval o).run P w = r at hq
  cases r with
  | ok n w' =>
    obtain ⟨u, rfl⟩ := value_of_kind hk hr
    simp only [Oper.quietUpon] at hq
    obtain ⟨rfl, rfl⟩ := hq
    rfl
  | halt x w' => simp only [Oper.quietUpon] at hq
theorem wqIdx_val (ho : l[i]? = some o) (hw : Region.wanted o (yielded l.toArray a.tmps) = true) (hk : plainKind o.op = true)
    (h : ∀ K' : Act → Prop, (∀ a', WQ P l.toArray S K is a' → K' a') → o.quiet P a (fun _ => True) K') : WQ P l.toArray S K (i :: is) a := wqIdx_any ho hw (plain_value hk) h
theorem wanted0 (hg : o.guard = none) (y : Nat → Option Bool) : Region.wanted o y = true := by simp [Region.wanted, hg]
theorem wanted1 {j d : Nat} {b b' : Bool} {oj : Oper} {ts : List Value} (hg : o.guard = some (j, b)) (hj : l[j]? = some oj) (hd : oj.dst = some d) (hv : ts[d]? = some (.bool b')) {ds : List Deferred} :
    Region.wanted o (yielded l.toArray (Act.mk ts.toArray ds).tmps) = (b' == b) := by
  simp [Region.wanted, hg, yielded, hj, hd, hv]
theorem wq0 (ho : l[i]? = some o) (hg : o.guard = none) (hk : plainKind o.op = true)
    (h : ∀ K' : Act → Prop, (∀ a', WQ P l.toArray S K is a' → K' a') → o.quiet P a (fun _ => True) K') : WQ P l.toArray S K (i :: is) a := wqIdx_val ho (wanted0 hg _) hk h
theorem wq1 {j d : Nat} {b : Bool} {oj : Oper} {ts : List Value} {ds : List Deferred} (ho : l[i]? = some o) (hg : o.guard = some (j, b)) (hj : l[j]? = some oj) (hd : oj.dst = some d) (hv : ts[d]? = some (.bool b)) (hk : plainKind o.op = true)
    (h : ∀ K' : Act → Prop, (∀ a', WQ P l.toArray S K is a' → K' a') → o.quiet P ⟨ts.toArray, ds⟩ (fun _ => True) K') : WQ P l.toArray S K (i :: is) ⟨ts.toArray, ds⟩ :=
  wqIdx_val ho ((wanted1 hg hj hd hv).trans (by simp)) hk h
theorem wqs {j d : Nat} {b b' : Bool} {oj : Oper} {ts : List Value} {ds : List Deferred} (ho : l[i]? = some o) (hg : o.guard = some (j, b)) (hj : l[j]? = some oj) (hd : oj.dst = some d) (hv : ts[d]? = some (.bool b')) (hb : (b' == b) = false)
    (h : WQ P l.toArray S K is (Act.put ⟨ts.toArray, ds⟩ o.dst undef)) : WQ P l.toArray S K (i :: is) ⟨ts.toArray, ds⟩ :=
  wqIdx_skip ho ((wanted1 hg hj hd hv).trans hb) h
theorem wanted2 {j d : Nat} {b : Bool} {oj : Oper} {ts : List Value} (hg : o.guard = some (j, b)) (hj : l[j]? = some oj) (hd : oj.dst = some d) (hv : ts[d]? = some undef) {ds : List Deferred} :
    Region.wanted o (yielded l.toArray (Act.mk ts.toArray ds).tmps) = false := by
  simp [Region.wanted, hg, yielded, hj, hd, hv, undef]
theorem wqu {j d : Nat} {b : Bool} {oj : Oper} {ts : List Value} {ds : List Deferred} (ho : l[i]? = some o) (hg : o.guard = some (j, b)) (hj : l[j]? = some oj) (hd : oj.dst = some d) (hv : ts[d]? = some undef)
    (h : WQ P l.toArray S K is (Act.put ⟨ts.toArray, ds⟩ o.dst undef)) : WQ P l.toArray S K (i :: is) ⟨ts.toArray, ds⟩ :=
  wqIdx_skip ho (wanted2 hg hj hd hv) h
theorem wqIdx_nil_check {x : Operand} {p : Addr} (ho : l[i]? = some o) (hw : Region.wanted o (yielded l.toArray a.tmps) = true) (hop : o.op = .nilCheck x) (hx : a.eval x = .pointer (some p))
    (h : WQ P l.toArray S K is (a.put o.dst (.pointer (some p)))) : WQ P l.toArray S K (i :: is) a :=
  wqIdx_read ho hw (fun w _ => by obtain ⟨dst, op, type, pos, after, guard⟩ := o; subst hop; simp only [execOp, hx, Sem.run_pure]) h
/-- string(b). -/
theorem wqIdx_conv {src dst : TypeId} {x : Operand} {A : Option Addr} {n c : Nat} {s : ByteArray} (ho : l[i]? = some o) (hw : Region.wanted o (yielded l.toArray a.tmps) = true) (hop : o.op = .convert src dst x) (hx : a.eval x = .slice A n c)
    (hc : ∀ w, S w → (convert src dst (.slice A n c)).run P w = .ok (.string s) w) (h : WQ P l.toArray S K is (a.put o.dst (.string s))) : WQ P l.toArray S K (i :: is) a :=
  wqIdx_read ho hw (fun w hS => by obtain ⟨dst, op, type, pos, after, guard⟩ := o; subst hop; simp only [execOp, hx, Sem.run_bind, hc w hS, Result.andThen, Sem.run_pure]) h
/-- A load. -/
theorem wqIdx_load {t : TypeId} {x : Operand} {p : Addr} {v : Value} (ho : l[i]? = some o) (hw : Region.wanted o (yielded l.toArray a.tmps) = true) (hop : o.op = .load t x) (hx : a.eval x = .pointer (some p))
    (hc : ∀ w, S w → (Instr.loadAt t (.pointer (some p))).run P w = .ok v w) (h : WQ P l.toArray S K is (a.put o.dst v)) : WQ P l.toArray S K (i :: is) a :=
  wqIdx_read ho hw (fun w hS => by obtain ⟨dst, op, type, pos, after, guard⟩ := o; subst hop; simp only [execOp, hx, Sem.run_bind, hc w hS, Result.andThen, Sem.run_pure]) h
end
end Go.Proofs.Ytfmmdnjoichifaa
