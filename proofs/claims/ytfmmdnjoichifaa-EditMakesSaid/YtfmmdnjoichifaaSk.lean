/- Words on memory: slices of structs of K plain cells each, whatever they are. No program. -/
import Derived.Test.YtfmmdnjoichifaaNumWd
import Derived.Test.YtfmmdnjoichifaaRegR
import Derived.Test.YtfmmdnjoichifaaPr
namespace Go.Proofs.Ytfmmdnjoichifaa
open Go.RowKit Go.Sort

/-- How an element lies in cells: K of them, each plain. -/
structure Lay (α : Type) (enc : α → List Value) (K : Nat) : Prop where
  len : ∀ x, (enc x).length = K
  one : ∀ x, ∀ u ∈ enc x, u.oneCell' = true
  pos : 0 < K
def RowV {α : Type} (enc : α → List Value) (l : List α) : List Value := l.flatMap enc
section
variable {α : Type} {enc : α → List Value} {K : Nat}
theorem RowV_nil : RowV enc ([] : List α) = [] := rfl
theorem RowV_cons (x : α) (l : List α) : RowV enc (x :: l) = enc x ++ RowV enc l := rfl
theorem RowV_append (a b : List α) : RowV enc (a ++ b) = RowV enc a ++ RowV enc b := by unfold RowV; rw [List.flatMap_append]
theorem RowV_one1 (x : α) : RowV enc [x] = enc x := by rw [RowV_cons, RowV_nil, List.append_nil]
theorem RowV_length (L : Lay α enc K) (l : List α) : (RowV enc l).length = l.length * K := by
  induction l with
  | nil => rw [RowV_nil, List.length_nil, List.length_nil, Nat.zero_mul]
  | cons x l ih => rw [RowV_cons, List.length_append, ih, L.len, List.length_cons, Nat.succ_mul, Nat.add_comm]
theorem RowV_one (L : Lay α enc K) (l : List α) : ∀ u ∈ RowV enc l, u.oneCell' = true := by
  intro u hu
  unfold RowV at hu
  rw [List.mem_flatMap] at hu
  obtain ⟨x, _, hx⟩ := hu
  exact L.one x u hx
theorem RowV_get (L : Lay α enc K) : ∀ (l : List α) (j i : Nat) (x : α), l[j]? = some x → i < K → (RowV enc l)[j * K + i]? = (enc x)[i]?
  | [], j, i, x, h, _ => by simp at h
  | y :: l, 0, i, x, h, hi => by
    simp at h
    subst h
    rw [RowV_cons, Nat.zero_mul, Nat.zero_add, List.getElem?_append_left (by rw [L.len]; exact hi)]
  | y :: l, j + 1, i, x, h, hi => by
    have h' : l[j]? = some x := by simpa using h
    rw [RowV_cons, List.getElem?_append_right (by rw [L.len, Nat.succ_mul]; omega), L.len, show (j + 1) * K + i - K = j * K + i by rw [Nat.succ_mul]; omega]
    exact RowV_get L l j i x h' hi
theorem RowV_drop (L : Lay α enc K) (l : List α) (k : Nat) : RowV enc (l.drop k) = (RowV enc l).drop (k * K) := by
  induction l generalizing k with
  | nil => simp [RowV]
  | cons x l ih =>
    cases k with
    | zero => simp
    | succ k => rw [List.drop_succ_cons, ih, RowV_cons, show (k + 1) * K = (enc x).length + k * K by rw [L.len, Nat.succ_mul, Nat.add_comm], List.drop_append, List.drop_eq_nil_of_le (Nat.le_add_right _ _), List.nil_append, Nat.add_sub_cancel_left]
/-- A slice of such elements lies in block h. -/
def SlK (enc : α → List Value) (w : World) (h : Nat) (A : Option Addr) (l : List α) : Prop :=
  l ≠ [] → h < w.heap.size ∧ ∃ off, A = some ⟨h, off, none⟩ ∧ ∀ (j : Nat) (u : Value), (RowV enc l)[j]? = some u → w.cell? ⟨h, off + j, none⟩ = some u
variable {w w' : World} {h : Nat} {A : Option Addr} {l : List α}
theorem SlK.nil (w : World) (h : Nat) (A : Option Addr) : SlK enc w h A [] := fun e => absurd rfl e
theorem SlK.keep (s : SlK enc w h A l) (hs : w.heap.size ≤ w'.heap.size) (hb : h < w.heap.size → w'.heap[h]? = w.heap[h]?) : SlK enc w' h A l := fun hl => by
  obtain ⟨hh, off, e, hc⟩ := s hl
  exact ⟨Nat.lt_of_lt_of_le hh hs, off, e, fun j u hj => (World.cell?_of_block (a := ⟨h, off + j, none⟩) (hb hh)).trans (hc j u hj)⟩
theorem SlK.below (s : SlK enc w h A l) (hb : Below w.heap.size w w') : SlK enc w' h A l := s.keep hb.size fun hh => hb.block h hh
theorem SlK.grown (s : SlK enc w h A l) {row : Option Nat} (hg : w.grownBy w' row) (hr : some h ≠ row) : SlK enc w' h A l := s.keep hg.size fun hh => hg.block h hh hr
theorem SlK.at_ (L : Lay α enc K) (s : SlK enc w h A l) {j : Nat} {x : α} (hj : l[j]? = some x) : h < w.heap.size ∧ ∃ off, A = some ⟨h, off, none⟩ ∧ ∀ i u, (enc x)[i]? = some u → w.cell? ⟨h, off + j * K + i, none⟩ = some u := by
  obtain ⟨hh, off, e, hc⟩ := s (fun e => by rw [e] at hj; simp at hj)
  refine ⟨hh, off, e, fun i u hi => ?_⟩
  have hiK : i < K := by have := (List.getElem?_eq_some_iff.1 hi).1; rwa [L.len] at this
  rw [Nat.add_assoc]
  exact hc _ _ ((RowV_get L l j i x hj hiK).trans hi)
theorem SlK.drop (L : Lay α enc K) (s : SlK enc w h A l) {k cap : Nat} (hc : l.length ≤ cap) : SlK enc w h (if cap = k then A else A.map (·.add (k * K))) (l.drop k) := fun hl => by
  have hk : k < l.length := by
    rcases Nat.lt_or_ge k l.length with h1 | h1
    · exact h1
    · exact absurd (List.drop_eq_nil_of_le h1) hl
  obtain ⟨hh, off, e, hcell⟩ := s (fun e => by rw [e] at hk; simp at hk)
  subst e
  rw [if_neg (by omega)]
  refine ⟨hh, off + k * K, ?_, fun j u hj => ?_⟩
  · show some ((⟨h, off, none⟩ : Addr).add (k * K)) = _
    rw [Addr.add_lit]
  · rw [RowV_drop L, List.getElem?_drop] at hj
    have := hcell _ _ hj
    rw [← Nat.add_assoc] at this
    exact this
theorem SlK.take (_ : Lay α enc K) (s : SlK enc w h A l) (k : Nat) : SlK enc w h A (l.take k) := fun hl => by
  obtain ⟨hh, off, e, hcell⟩ := s (fun e => by rw [e] at hl; simp at hl)
  refine ⟨hh, off, e, fun j u hj => hcell j u ?_⟩
  have h1 : RowV enc l = RowV enc (l.take k) ++ RowV enc (l.drop k) := by rw [← RowV_append, List.take_append_drop]
  rw [h1, List.getElem?_append_left (List.getElem?_eq_some_iff.1 hj).1]
  exact hj
theorem SlK.reads (L : Lay α enc K) (s : SlK enc w h A l) {n : Nat} (hn : n = l.length) : Reads w w.heap.size K A n (RowV enc l) := by
  subst hn
  refine ⟨RowV_length L l, fun h0 => ?_⟩
  obtain ⟨hh, off, rfl, hc⟩ := s (fun e => by rw [e] at h0; simp at h0)
  exact ⟨_, rfl, hh, fun j u hu => by rw [Addr.add_lit]; exact hc j u hu⟩
theorem SlK.of_own (L : Lay α enc K) {base e n c : Nat} (hown : w.ownsRow base e K (.slice A n c) n (RowV enc l)) : ∃ g, base ≤ g ∧ SlK enc w g A l ∧ n = l.length ∧ (∀ k, (Value.slice A n c).ownBlock = some k → k = g) ∧ n ≤ c ∧ c ≤ maxLen := by
  have hn : n = l.length := by
    have := hown.1
    rw [RowV_length L] at this
    exact (Nat.eq_of_mul_eq_mul_right L.pos this).symm
  rcases hown.2 with ⟨hv, h0⟩ | ⟨g, cap, cur, hv, hb, hh, hnc, hcm, hcs, ht⟩
  · injection hv with h1 h2 h3
    subst h1 h2 h3
    have : l = [] := List.eq_nil_of_length_eq_zero (by omega)
    subst this
    exact ⟨base, Nat.le_refl _, SlK.nil _ _ _, hn, fun k hk => by simp [Value.ownBlock] at hk, Nat.le_refl _, by decide⟩
  · injection hv with h1 h2 h3
    subst h1 h3
    have hlt : g < w.heap.size := by
      rcases Nat.lt_or_ge g w.heap.size with h | h
      · exact h
      · rw [Array.getElem?_eq_none h] at hh; cases hh
    refine ⟨g, hb, fun _ => ⟨hlt, 0, rfl, fun j u hj => ?_⟩, hn, fun k hk => by simp [Value.ownBlock] at hk; exact hk.symm, hnc, hcm⟩
    rw [Nat.zero_add, cell_of_row w g j cur e (0, 0) hh, ← Array.getElem?_toList]
    have hj2 : j < n * K := by
      have := (List.getElem?_eq_some_iff.1 hj).1
      rw [RowV_length L] at this
      rw [hn]; exact this
    have h2 := congrArg (·[j]?) ht
    simp only [List.getElem?_take_of_lt hj2] at h2
    rw [h2]
    exact hj
theorem flatK_rowV [Inhabited α] (L : Lay α enc K) (l : List α) : flatK enc K l.toArray = (RowV enc l).toArray := by
  have hKp := L.pos
  refine ext_get! (by rw [size_flatK]; simp [RowV_length L]) fun t ht => ?_
  have ht' : t < l.toArray.size * K := by simpa using ht
  rw [get_flatK _ _ _ t ht']
  have hl : t / K < l.length := by
    simp at ht'
    exact Nat.div_lt_of_lt_mul (by rw [Nat.mul_comm]; exact ht')
  have hx : l.toArray[t / K]! = l[t / K] := by
    rw [getElem!_pos l.toArray (t / K) (by simpa using hl)]
    simp
  rw [hx]
  have hm : t % K < K := Nat.mod_lt _ hKp
  have key := RowV_get L l (t / K) (t % K) l[t / K] (List.getElem?_eq_getElem hl) hm
  rw [show t / K * K + t % K = t by rw [Nat.mul_comm]; exact Nat.div_add_mod t K] at key
  have hs : t < (RowV enc l).toArray.size := by simp [RowV_length L]; simpa using ht'
  rw [getElem!_pos (RowV enc l).toArray t hs]
  have he : (enc l[t / K])[t % K]? = some ((enc l[t / K])[t % K]!) := by
    rw [getElem!_pos (enc l[t / K]) (t % K) (by rw [L.len]; exact hm)]
    exact List.getElem?_eq_getElem (by rw [L.len]; exact hm)
  rw [he] at key
  obtain ⟨_, h2⟩ := List.getElem?_eq_some_iff.1 key
  simpa using h2.symm
/-- A row of one's own is what the sort asks for. -/
theorem holdsK_rowV [Inhabited α] (L : Lay α enc K) {w : World} {g : Nat} {e : TypeId} {cur : Array Value} {l : List α} {n : Nat} (hh : w.heap[g]? = some (.cells cur e (0, 0))) (ht : cur.toList.take (n * K) = RowV enc l) : HoldsK enc K w g 0 l.toArray := by
  unfold HoldsK
  rw [flatK_rowV L]
  intro j hj
  have hj' : j < (RowV enc l).length := by simpa using hj
  have hn : (RowV enc l).length ≤ n * K := by rw [← ht]; simp; omega
  rw [Nat.zero_add]
  refine ⟨?_, Blk.frozen (t := e) hh j⟩
  rw [cell_of_row w g j cur e (0, 0) hh, ← Array.getElem?_toList]
  have h2 := congrArg (·[j]?) ht
  simp only [List.getElem?_take_of_lt (show j < n * K by omega)] at h2
  rw [h2, List.getElem?_eq_getElem hj', getElem!_pos _ j hj]
  simp
/-- Behind the sort. -/
theorem sorted_slk [Inhabited α] (L : Lay α enc K) {w : World} {g m : Nat} {l S : List α} {os : Array Obj} (hH : HoldsK enc K w g 0 l.toArray) (hg : g < w.heap.size) (hl : S.length = l.length) : SlK enc (sortWorldK enc K w g 0 m S.toArray os) g (some ⟨g, 0, none⟩) S := fun _ => by
  have h1 : Holds id (putRow id (Go.Sort.ahead w m) g 0 (flatK enc K S.toArray)) g 0 (flatK enc K S.toArray) := holds_putRow id _ g 0 (flatK enc K l.toArray) _ hH (by rw [size_flatK, size_flatK]; simp [hl])
  have h2 := holds_grow id _ os g 0 _ (by rw [size_putRow]; exact hg) h1
  rw [flatK_rowV L] at h2
  refine ⟨?_, 0, rfl, fun j u hj => ?_⟩
  · show g < (grow _ os).heap.size
    rw [size_grow]
    show g < (putRow id (Go.Sort.ahead w m) g 0 _).heap.size + _
    rw [size_putRow]
    exact Nat.lt_of_lt_of_le hg (Nat.le_add_right _ _)
  · have hj' : j < (RowV enc S).toArray.size := by simpa using (List.getElem?_eq_some_iff.1 hj).1
    have h3 := (h2 j hj').1
    rw [getElem!_pos _ j hj'] at h3
    have h4 : (RowV enc S).toArray[j] = u := by
      obtain ⟨_, e⟩ := List.getElem?_eq_some_iff.1 hj
      simpa using e
    rw [h4] at h3
    unfold sortWorldK putRowK
    rw [flatK_rowV L]
    exact h3
theorem sorted_below_k [Inhabited α] {w : World} {g m B : Nat} {d : Array α} {os : Array Obj} (hB : B ≤ g) (hg : g < w.heap.size) : Below B w (sortWorldK enc K w g 0 m d os) := by
  refine ⟨rfl, rfl, rfl, ?_, fun k hk => ?_⟩
  · show w.heap.size ≤ (grow _ os).heap.size
    rw [size_grow]
    show _ ≤ (putRow id (Go.Sort.ahead w m) g 0 _).heap.size + _
    rw [size_putRow]
    exact Nat.le_add_right _ _
  · unfold sortWorldK putRowK
    rw [heap_grow_old _ _ (by rw [size_putRow]; show k < w.heap.size; omega)]
    unfold putRow mapBlock
    simp only [Array.getElem?_modify]
    rw [if_neg (by omega)]
    rfl
/-- append of such elements to a row of the call's own. -/
theorem wpList_appK (L : Lay α enc K) {P : Program} (w : World) {ops : Array Oper} {rest : List Oper} {o : Oper} {a : Act} {Q : Exit → Act → World → Prop} (hgd : o.guard = none) (s x : Operand) (t : TypeId)
    (ho : o.op = .call { callee := .builtin .append, args := #[s, x], argTypes := #[t, t] })
    {e bytes : Nat} {z : Value} (ht : P.underlying t = some (.slice e)) (hinfo : (P.info? e).map (fun i => (i.zero, i.size, i.bytes)) = some (some z, K, bytes)) (hz : z.cells.size = K)
    {base : Nat} {v : Value} {xs ys : List α} {n : Nat} (hown : w.ownsRow base e K v n (RowV enc xs)) {B : Nat} {A : Option Addr} {m : Nat} (hr : Reads w B K A m (RowV enc ys)) (c : Nat)
    (hs : a.eval s = v) (hx : a.eval x = .slice A m c) (hle : n + m ≤ 10000000) (hby : bytes ≤ 1000) (hbase : base ≤ w.heap.size)
    (h : ∀ A' c' w', w'.ownsRow base e K (.slice A' (n + m) c') (n + m) (RowV enc (xs ++ ys)) → Grew w w' v (.slice A' (n + m) c') → wpList P ops Q rest (a.put o.dst (.slice A' (n + m) c')) w') :
    wpList P ops Q (o :: rest) a w := by
  obtain ⟨i0, hi0, hz0, hz1, hz2⟩ := info_parts hinfo
  refine wpList_append_any w hgd s x t ho base e i0 _ K bytes ht hi0 hz0 hz1 hz2 hz L.pos v n (RowV enc xs) hs hown B A m c (RowV enc ys) hx hr (RowV_one L ys) (by unfold maxLen; omega) (Nat.le_trans (Nat.mul_le_mul hle hby) (by decide)) hbase ?_
  intro v' w' h1 h2
  obtain ⟨A', c', rfl⟩ := own_form h1
  refine h A' c' w' ?_ h2
  rw [RowV_append]
  exact h1
/-- One element, built anew. -/
theorem reads_oneK (L : Lay α enc K) (w : World) (x : α) (t : TypeId) : Reads (w.alloc (.cells (enc x).toArray t)) (w.heap.size + 1) K (some ⟨w.heap.size, 0, none⟩) 1 (RowV enc [x]) :=
  ⟨by rw [RowV_length L]; rfl, fun _ => ⟨_, rfl, Nat.lt_succ_self _, fun j u hj => by
    rw [RowV_one1] at hj
    rw [Addr.add_lit, Nat.zero_add]
    have := (Blk.new w t (enc x).toArray).cell j
    rw [this]
    simpa using hj⟩⟩
theorem own_empty_k (L : Lay α enc K) (w : World) (t : TypeId) : (w.alloc (.cells #[] t)).ownsRow w.heap.size t K (.slice (some ⟨w.heap.size, 0, none⟩) 0 0) 0 (RowV enc ([] : List α)) :=
  ⟨by rw [RowV_length L, List.length_nil], .inr ⟨w.heap.size, 0, #[], rfl, Nat.le_refl _, heap_alloc_new w _, Nat.le_refl _, by decide, by simp, by simp [RowV]⟩⟩
theorem own_nil_k (_ : Lay α enc K) (w : World) (base : Nat) (t : TypeId) : w.ownsRow base t K (.slice none 0 0) 0 (RowV enc ([] : List α)) := by
  have := World.ownsRow_nil w base t K
  exact this
end
end Go.Proofs.Ytfmmdnjoichifaa
