/- Words on memory: a map from names to places. -/
import Derived.Test.YtfmmdnjoichifaaNumWd
import Derived.Maps.OwnSet
import Derived.Maps.RangeWalk
import Derived.Maps.Ext
import Derived.Sort.MapsRangeIn
namespace Go.Proofs.Ytfmmdnjoichifaa
open Go.RowKit Go.Maps

/-- How a place reads. -/
def ptrR : Value → Option (DataW Unit × List MemPlace)
  | .pointer none => some (.lit (.int .i64 (-1)), [])
  | .pointer (some ⟨b, 0, none⟩) => some (.lit (.int .i64 (b : Int)), [])
  | _ => none
theorem ptrR_none : ptrR (.pointer none) = some (.lit (.int .i64 (-1)), []) := rfl
theorem ptrR_some (b : Nat) : ptrR (.pointer (some ⟨b, 0, none⟩)) = some (.lit (.int .i64 (b : Int)), []) := rfl
theorem ptrR_inv {v : Value} {z : DataW Unit × List MemPlace} (h : ptrR v = some z) : (v = .pointer none ∧ z.1 = .lit (.int .i64 (-1))) ∨ ∃ b : Nat, v = .pointer (some ⟨b, 0, none⟩) ∧ z.1 = .lit (.int .i64 (b : Int)) := by
  unfold ptrR at h
  split at h
  · injection h with h; subst h; exact .inl ⟨rfl, rfl⟩
  · injection h with h; subst h; exact .inr ⟨_, rfl, rfl⟩
  · cases h
abbrev Nm := List UInt8
/-- A name as a string. -/
def strV (n : Nm) : Value := .string ⟨n.toArray⟩
def lookO (fs : List (Nm × Nat)) (key : Nm) : Option Nat := (fs.find? fun p => p.1 == key).map (·.2)
def ptrV (o : Option Nat) : Value := .pointer (o.map fun b => ⟨b, 0, none⟩)
def lookI (fs : List (Nm × Nat)) (key : Nm) : Int := match lookO fs key with | some b => (b : Int) | none => -1
/-- Block m is a map that has these names, each with its place. -/
def MapR (w : World) (m : Nat) (fs : List (Nm × Nat)) : Prop :=
  ∃ D : DataW Unit, w.ownsMap Try.prog 9 ptrR m (Maps.size D) D ∧ (∀ key, D.atKey (.string key) (.lit (.int .i64 (-1))) = .lit (.int .i64 (lookI fs key))) ∧
    (∀ key, Maps.has D (.string key) = (lookO fs key).isSome) ∧ Maps.size D = fs.length ∧ fs.Pairwise (fun p q => p.1 ≠ q.1)
theorem ownsMap_tight {k : TypeId} {R : Value → Option (DataW Unit × List MemPlace)} {w : World} {b n : Nat} {D : DataW Unit} (h : w.ownsMap Try.prog k R b n D) : w.ownsMap Try.prog k R b (Maps.size D) D := by
  obtain ⟨es, clock, hb, F, hs, rfl⟩ := h
  exact ⟨es, clock, hb, F, by simp [Maps.size, length_sorted], rfl⟩
theorem strK : Keyed Try.prog 9 := string_keyed Try.underlying9
theorem strKey (n : Nm) (h : n.length ≤ maxLen) : keyOf Try.prog 9 (strV n) = some (.string n) :=
  WideMaps.keyOf_string_mk (P := Try.prog) Try.underlying9 (s := ⟨n.toArray⟩) (by show n.toArray.size ≤ maxLen; simpa using h)
theorem lit_inj {a b : Int} (h : (DataW.lit (.int .i64 a) : DataW Unit) = .lit (.int .i64 b)) : a = b := by
  injection h with h
  injection h
theorem zeroFile (w : World) : (zeroValue 86).run Try.prog w = .ok (.pointer none) w := by kernel_rfl
section
variable {w w' : World} {m : Nat} {fs : List (Nm × Nat)}
theorem MapR.lt (h : MapR w m fs) : m < w.heap.size := by obtain ⟨D, h, -⟩ := h; exact h.lt
theorem MapR.kept {row : Option Nat} (h : MapR w m fs) (hg : w.grownBy w' row) (hne : some m ≠ row) : MapR w' m fs := by
  obtain ⟨D, h, r⟩ := h; exact ⟨D, h.kept hg hne, r⟩
theorem MapR.same (h : MapR w m fs) (hh : w'.heap[m]? = w.heap[m]?) : MapR w' m fs := by
  obtain ⟨D, ⟨es, clock, hb, F, hs, hD⟩, r⟩ := h
  exact ⟨D, ⟨es, clock, hh.trans hb, F, hs, hD⟩, r⟩
theorem MapR.below (h : MapR w m fs) (hb : Below w.heap.size w w') : MapR w' m fs := h.same (hb.block m h.lt)
theorem MapR.isMap (h : MapR w m fs) : ∃ es clock, w.heap[m]? = some (.map es clock) := by
  obtain ⟨D, ⟨es, clock, hb, -⟩, -⟩ := h; exact ⟨es, clock, hb⟩
theorem lookO_nil (key : Nm) : lookO [] key = none := rfl
theorem MapR.made (w : World) : MapR (w.alloc (.map #[] 0)) w.heap.size [] :=
  ⟨.map [], World.ownsMap_made _ _ _ _, fun _ => rfl, fun _ => rfl, rfl, List.Pairwise.nil⟩
/-- m[k]. -/
theorem MapR.look (h : MapR w m fs) (key : Nm) (hk : key.length ≤ maxLen) : (Instr.lookup 77 (.map (some m)) (strV key) false).run Try.prog w = .ok (ptrV (lookO fs key)) w := by
  obtain ⟨D, ho, ha, -⟩ := h
  obtain ⟨v, ps, hrun, hv⟩ := ho.lookup strK Try.underlying77 (zeroFile w) ptrR_none (strKey key hk)
  rw [ha] at hv
  rw [hrun]
  rcases ptrR_inv hv with ⟨rfl, e⟩ | ⟨b, rfl, e⟩
  · have e := lit_inj e
    unfold lookI at e
    split at e
    · omega
    · rename_i h; rw [h]; rfl
  · have e := lit_inj e
    unfold lookI at e
    split at e
    · rename_i b' h
      have : b' = b := by omega
      subst this
      rw [h]; rfl
    · omega
/-- len(m). -/
theorem MapR.len (h : MapR w m fs) (ty : TypeId) : (Builtin.len_ #[77] ty #[.map (some m)]).run Try.prog w = .ok (.int .i64 (fs.length : Int)) w := by
  obtain ⟨D, ho, -, -, hs, -⟩ := h
  rw [ho.len Try.underlying77 ty, hs]
theorem str_ne {a b : Nm} (h : a ≠ b) : (Lit.string a) ≠ Lit.string b := fun e => h (by injection e)
theorem lookO_append (a : List (Nm × Nat)) (k : Nm) (b : Nat) (key : Nm) (hk : lookO a k = none) : lookO (a ++ [(k, b)]) key = if key = k then some b else lookO a key := by
  unfold lookO at hk ⊢
  rw [Option.map_eq_none_iff] at hk
  rw [List.find?_append]
  by_cases h : key = k
  · subst h
    rw [if_pos rfl, hk]
    simp
  · rw [if_neg h]
    have : [(k, b)].find? (fun p => p.1 == key) = none := by simp; exact fun e => h e.symm
    rw [this]
    simp
theorem lookO_filter (a : List (Nm × Nat)) (k key : Nm) : lookO (a.filter fun p => p.1 != k) key = if key = k then none else lookO a key := by
  unfold lookO
  induction a with
  | nil => simp
  | cons p a ih =>
    by_cases hp : p.1 = k
    · rw [List.filter_cons_of_neg (by simp [hp]), ih]
      by_cases h : key = k
      · rw [if_pos h, if_pos h]
      · rw [if_neg h, if_neg h, List.find?_cons_of_neg (by simp [hp]; exact fun e => h e.symm)]
    · rw [List.filter_cons_of_pos (by simp [hp])]
      by_cases h : p.1 = key
      · rw [List.find?_cons_of_pos (by simp [h]), List.find?_cons_of_pos (by simp [h]), if_neg (fun e => hp (h.trans e))]
      · rw [List.find?_cons_of_neg (by simp [h]), List.find?_cons_of_neg (by simp [h]), ih]
theorem lookO_isSome {a : List (Nm × Nat)} {k : Nm} : (lookO a k).isSome = a.any fun p => p.1 == k := by
  unfold lookO
  rw [Option.isSome_map, Bool.eq_iff_iff, List.find?_isSome, List.any_eq_true]
theorem pw_filter_len {a : List (Nm × Nat)} (h : a.Pairwise fun p q => p.1 ≠ q.1) (k : Nm) : (a.filter fun p => p.1 != k).length + (if (lookO a k).isSome then 1 else 0) = a.length := by
  rw [lookO_isSome]
  induction a with
  | nil => rfl
  | cons p a ih =>
    obtain ⟨h1, h2⟩ := List.pairwise_cons.1 h
    have ih := ih h2
    by_cases hp : p.1 = k
    · have hn : a.any (fun p => p.1 == k) = false := by
        rw [List.any_eq_false]
        intro q hq
        simp only [beq_iff_eq]
        intro e
        exact h1 q hq (hp.trans e.symm)
      rw [hn, if_neg (by simp)] at ih
      rw [List.filter_cons_of_neg (by simp [hp]), List.any_cons, show (p.1 == k) = true by simpa using hp, Bool.true_or, if_pos rfl, List.length_cons]
      omega
    · rw [List.filter_cons_of_pos (by simp [hp]), List.any_cons, show (p.1 == k) = false by simpa using hp, Bool.false_or, List.length_cons, List.length_cons]
      generalize (if (a.any fun p => p.1 == k) = true then 1 else 0) = x at ih ⊢
      omega
/-- m[k] = v, of a new k. -/
theorem MapR.put (h : MapR w m fs) {key : Nm} (hk : key.length ≤ maxLen) (hnew : lookO fs key = none) (b : Nat) (hl : fs.length < 100000) :
    ∃ w', (Instr.mapUpdate 77 (.map (some m)) (strV key) (.pointer (some ⟨b, 0, none⟩))).run Try.prog w = .ok () w' ∧ MapR w' m (fs ++ [(key, b)]) ∧ w.grownBy w' (some m) := by
  obtain ⟨D, ho, ha, hh, hs, hp⟩ := h
  obtain ⟨w', hrun, ho', hg⟩ := ho.update strK Try.underlying77 (by unfold maxLen; omega) (strKey key hk) (ptrR_some b)
  have hm := ho.isMap
  refine ⟨w', hrun, ⟨_, ownsMap_tight ho', fun k => ?_, fun k => ?_, ?_, ?_⟩, hg⟩
  · unfold lookI
    rw [lookO_append _ _ _ _ hnew]
    by_cases e : k = key
    · subst e
      rw [if_pos rfl, atKey_put_same hm (strK.key (strKey k hk))]
    · rw [if_neg e, atKey_put_other (str_ne e), ha]
      rfl
  · rw [lookO_append _ _ _ _ hnew]
    by_cases e : k = key
    · subst e
      rw [if_pos rfl, has_put_same hm (strK.key (strKey k hk))]
      rfl
    · rw [if_neg e, has_put_other (str_ne e), hh]
  · rw [size_put (ho.tidy strK), hh, hnew, hs]
    simp
  · rw [List.pairwise_append]
    refine ⟨hp, List.pairwise_singleton _ _, fun p hpm q hq => ?_⟩
    rw [List.mem_singleton.1 hq]
    intro e
    have h1 : (lookO fs key).isSome = true := by
      rw [lookO_isSome, List.any_eq_true]
      exact ⟨p, hpm, by simpa using e⟩
    rw [hnew] at h1
    cases h1
/-- delete(m, k). -/
theorem MapR.del (h : MapR w m fs) {key : Nm} (hk : key.length ≤ maxLen) (ty : TypeId) :
    ∃ w', (Builtin.delete_ #[77, 9] ty #[.map (some m), strV key]).run Try.prog w = .ok (.tuple #[]) w' ∧ MapR w' m (fs.filter fun p => p.1 != key) ∧ w.grownBy w' (some m) := by
  obtain ⟨D, ho, ha, hh, hs, hp⟩ := h
  obtain ⟨w', hrun, ho', hg⟩ := ho.drop strK Try.underlying77 (strKey key hk) ty
  refine ⟨w', hrun, ⟨_, ownsMap_tight ho', fun k => ?_, fun k => ?_, ?_, ?_⟩, hg.grown⟩
  · unfold lookI
    rw [lookO_filter]
    by_cases e : k = key
    · subst e
      rw [if_pos rfl, atKey_del_same]
    · rw [if_neg e, atKey_del_other (str_ne e), ha]
      rfl
  · rw [lookO_filter]
    by_cases e : k = key
    · subst e
      rw [if_pos rfl, has_del_same]
      rfl
    · rw [if_neg e, has_del_other (str_ne e), hh]
  · have h1 := size_del (k := .string key) (ho.tidy strK)
    have h2 := pw_filter_len hp key
    rw [hh, hs] at h1
    generalize (if (lookO fs key).isSome = true then 1 else 0) = x at h1 h2
    omega
  · exact hp.sublist List.filter_sublist
/-- A loop over the map is under way: which names are still to come. -/
def RangeR (w : World) (m r : Nat) (fs : List (Nm × Nat)) (left : Nm → Bool) (cnt : Nat) : Prop :=
  ∃ (D : DataW Unit) (left' : Lit → Bool), w.ranges Try.prog 9 ptrR m r (Maps.size D) D left' cnt ∧ (∀ key, left key = left' (.string key)) ∧ (∀ key, D.atKey (.string key) (.lit (.int .i64 (-1))) = .lit (.int .i64 (lookI fs key))) ∧
    (∀ key, Maps.has D (.string key) = (lookO fs key).isSome) ∧ Maps.size D = fs.length ∧ fs.Pairwise (fun p q => p.1 ≠ q.1)
theorem RangeR.mapR {r cnt : Nat} {left : Nm → Bool} (h : RangeR w m r fs left cnt) : MapR w m fs := by
  obtain ⟨D, left', h1, -, h2⟩ := h
  exact ⟨D, h1.owns, h2⟩
theorem RangeR.left_eq {r cnt : Nat} {left : Nm → Bool} (h : RangeR w m r fs left cnt) : w.rangeLeft m r = cnt := by
  obtain ⟨D, left', h1, -⟩ := h
  exact h1.left_eq
theorem RangeR.kept {r cnt : Nat} {left : Nm → Bool} {row : Option Nat} (h : RangeR w m r fs left cnt) (hg : w.grownBy w' row) (hm : some m ≠ row) (hr : some r ≠ row) : RangeR w' m r fs left cnt := by
  obtain ⟨D, left', h1, h2⟩ := h
  exact ⟨D, left', h1.kept hg hm hr, h2⟩
theorem RangeR.lt {r cnt : Nat} {left : Nm → Bool} (h : RangeR w m r fs left cnt) : r < w.heap.size := by
  obtain ⟨D, left', h1, -⟩ := h
  exact h1.lt
theorem keyOf_str_inv {key : Value} {kl : Lit} (h : keyOf Try.prog 9 key = some kl) : ∃ n : Nm, key = strV n ∧ kl = .string n := by
  obtain ⟨s, rfl⟩ := Maps.keyOf_string_inv Try.underlying9 h
  refine ⟨s.data.toList, ?_, ?_⟩
  · show Value.string s = .string ⟨s.data.toList.toArray⟩
    rw [Array.toArray_toList]
  · simp [keyOf, Try.underlying9, mapKey] at h
    exact h.2.symm
/-- range m. -/
theorem wpList_rangeR {ops : Array Oper} {rest : List Oper} {o : Oper} {a : Act} {Q : Exit → Act → World → Prop} (hg : o.guard = none) (x : Operand) (hop : o.op = Op.range 77 x) (hm : a.eval x = .map (some m)) (h : MapR w m fs)
    (hK : ∀ w', RangeR w' m w.heap.size fs (fun k => (lookO fs k).isSome) fs.length → w.grownBy w' none → w'.heap.size = w.heap.size + 1 → wpList Try.prog ops Q rest (a.put o.dst (.pointer (some ⟨w.heap.size, 0, none⟩))) w') :
    wpList Try.prog ops Q (o :: rest) a w := by
  obtain ⟨D, ho, ha, hh, hs, hp⟩ := h
  refine wpList_range_own w hg x _ hop 9 86 strK Try.underlying77 ptrR m (Maps.size D) D hm ho fun w' h1 h2 h3 => ?_
  rw [hs] at h1
  exact hK w' ⟨D, Maps.has D, by rw [hs]; exact h1, fun k => (hh k).symm, ha, hh, hs, hp⟩ h2 h3
/-- The step. -/
theorem wpList_nextR {r cnt : Nat} {left : Nm → Bool} {ops : Array Oper} {rest : List Oper} {o : Oper} {a : Act} {Q : Exit → Act → World → Prop} (hg : o.guard = none) (it : Operand) (hop : o.op = Op.next it false) (hit : a.eval it = .pointer (some ⟨r, 0, none⟩)) (h : RangeR w m r fs left cnt)
    (hDone : cnt = 0 → (∀ k, left k = false) → wpList Try.prog ops Q rest (a.put o.dst (.tuple #[.bool false])) w)
    (hMore : ∀ (key : Nm) (b : Nat) (w' : World) (cnt' : Nat), lookO fs key = some b → left key = true → RangeR w' m r fs (fun k => left k && k != key) cnt' → cnt' < cnt → w.grownBy w' (some r) → w'.heap.size = w.heap.size →
      (Instr.entry (.pointer (some ⟨r, 0, none⟩))).run Try.prog w' = .ok (.tuple #[strV key, .pointer (some ⟨b, 0, none⟩)]) w' → wpList Try.prog ops Q rest (a.put o.dst (.tuple #[.bool true, strV key, .pointer (some ⟨b, 0, none⟩)])) w') :
    wpList Try.prog ops Q (o :: rest) a w := by
  obtain ⟨D, left', h1, hl, ha, hh, hs, hp⟩ := h
  refine wpList_plain hg fun K' hK' => ?_
  unfold Oper.wp
  rcases h1.next strK o.type with ⟨h0, hlf, hrun⟩ | ⟨key, v, kl, y, w', cnt', hkey, hlk, hv, hat, hrun, hrg, hlt, hgr, hsz, hen⟩
  · simp [execOp, hop, hit, hrun, Result.andThen]
    exact hK' _ _ (hDone h0 fun k => by rw [hl]; exact hlf _)
  · obtain ⟨n, rfl, rfl⟩ := keyOf_str_inv hkey
    have hex : (lookO fs n).isSome = true := by rw [← hh]; exact Maps.has_true_of_atKey hat
    obtain ⟨b, hb⟩ := Option.isSome_iff_exists.1 hex
    have e1 : y.1 = .lit (.int .i64 (b : Int)) := by
      rw [← hat (.lit (.int .i64 (-1))), ha]
      unfold lookI
      rw [hb]
    have e2 : v = .pointer (some ⟨b, 0, none⟩) := by
      rcases ptrR_inv hv with ⟨-, e⟩ | ⟨c, rfl, e⟩
      · rw [e1] at e
        have := lit_inj e
        omega
      · rw [e1] at e
        have := lit_inj e
        have : b = c := by omega
        subst this
        rfl
    subst e2
    simp [execOp, hop, hit, hrun, Result.andThen]
    refine hK' _ _ (hMore n b w' cnt' hb (by rw [hl]; exact hlk) ⟨D, _, hrg, fun k => ?_, ha, hh, hs, hp⟩ hlt hgr hsz hen)
    show (left k && k != n) = (left' (.string k) && !(Lit.string k).sameKey (.string n))
    rw [hl]
    by_cases e : k = n
    · subst e
      rw [WideAt.sameKey_self (strK.key hkey)]
      simp
    · rw [Maps.sameKey_ne (str_ne e)]
      simp [e]
end
end Go.Proofs.Ytfmmdnjoichifaa
