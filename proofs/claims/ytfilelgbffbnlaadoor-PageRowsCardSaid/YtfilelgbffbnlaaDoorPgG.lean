/- Contracts of package page: Row. -/
import Derived.Test.YtfilelgbffbnlaaDoorPgF
import Derived.Shelf.Abstract
namespace Go.Proofs.YtfilelgbffbnlaaDoor
open Go.RowKit Go.Shelf

set_option maxHeartbeats 1000000 in
theorem collect_chunks (A : Option Addr) (b off L c : Nat) (hA : 0 < L → A = some ⟨b, off, none⟩) (hLc : L ≤ c) (hL : L ≤ 100000) (hc : c ≤ 9223372036854775807) (w : World) (Bs Bn : Nat)
    (hs : w.cell? ⟨Bs, 0, none⟩ = some (.slice A L c)) (h42 : w.cell? ⟨Bn, 0, none⟩ = some (.int .i64 42)) :
    Calls Tryd.prog 27 #[.func (.func 37) #[] #[.pointer (some ⟨Bs, 0, none⟩), .pointer (some ⟨Bn, 0, none⟩)]] w fun e w' =>
      ∃ v : Value, e = .returned v ∧ w'.ownsRow w.heap.size 22 1 v ((L + 41) / 42) ((chA b off L).map encSl) ∧ Below w.heap.size w w' := by
  have hs' := World.block_lt_of_cell? w ⟨Bs, 0, none⟩ hs
  have hn' := World.block_lt_of_cell? w ⟨Bn, 0, none⟩ h42
  refine (callsIn_wide.1 (collect_in Fence.wide 5 trivial trivial rfl (by omega) 37 #[.pointer (some ⟨Bs, 0, none⟩), .pointer (some ⟨Bn, 0, none⟩)] trivial (enters_of Tryd.func37 (by kernel_rfl) rfl) _ ((L + 41) / 42) (by unfold maxLen; omega) (by omega) w
    (chunk_gives 3 (by omega) Bs Bn b off L c A hA hLc hL hc w hs h42 hs' hn'))).mono ?_
  rintro e w' ⟨v, ss, rfl, rfl, ho, -, hb⟩
  rw [chA_length] at ho
  exact ⟨v, rfl, ho, hb⟩
def pieceM (b : List UInt8) (i : Nat) : List UInt8 := (b.drop (42 * i)).take 42
def lastM (b : List UInt8) : Nat := (b.length - 1) / 42
def holdM (b : List UInt8) (i : Nat) : List UInt8 := (if i = lastM b then 0 else 1) :: pieceM b i
def rowM (t : Nat) (b : List UInt8) : List (List UInt8) := (List.range (lastM b + 1)).map fun i => pageM (t + i) (holdM b i)
theorem rowM_length (t : Nat) (b : List UInt8) : (rowM t b).length = lastM b + 1 := by unfold rowM; rw [List.length_map, List.length_range]
theorem rowM_get (t : Nat) (b : List UInt8) (i : Nat) (h : i < lastM b + 1) : (rowM t b)[i]? = some (pageM (t + i) (holdM b i)) := by
  unfold rowM
  rw [List.getElem?_map, List.getElem?_range h]
  rfl
theorem pieceM_length (b : List UInt8) (i : Nat) : (pieceM b i).length = min 42 (b.length - 42 * i) := by unfold pieceM; rw [List.length_take, List.length_drop]
theorem holdM_length (b : List UInt8) (i : Nat) : (holdM b i).length ≤ 43 := by unfold holdM; rw [List.length_cons, pieceM_length]; omega
/-- What is wrong with a row of a tag and so many bytes. -/
def rowE (tag : Int) (b : List UInt8) : Int := if okTag tag = true ∧ tag ≤ 4611686018427387903 - (lastM b : Int) then (if 65536 < b.length then 3 else 0) else 1
/-- Slices, each of bytes in a row of its own. -/
def PgB (w : World) (x : SlT) (l : List UInt8) : Prop := x.2.1 = l.length ∧ w.ownsRow 0 5 1 (encSl x) l.length (Byt l)
theorem PgB.below {w w' : World} {x : SlT} {l : List UInt8} (h : PgB w x l) (hb : Below w.heap.size w w') : PgB w' x l := ⟨h.1, own_below h.2 hb⟩
theorem own_ne {w : World} {b1 b2 e1 e2 s1 s2 n1 n2 : Nat} {v1 v2 : Value} {xs ys : List Value} (h : w.ownsRow b1 e1 s1 v1 n1 xs) (k : w.ownsRow b2 e2 s2 v2 n2 ys) (hne : e1 ≠ e2) : v1.ownBlock = none ∨ v1.ownBlock ≠ v2.ownBlock := by
  rcases h.2 with ⟨rfl, _⟩ | ⟨g, cap, cur, rfl, _, hh, _⟩
  · exact .inl rfl
  · refine .inr fun e => ?_
    exact own_blk_ne (t := e1) k (show Blk w g e1 cur from hh) (Ne.symm hne) e.symm
theorem PgB.grown {w w' : World} {x : SlT} {l : List UInt8} {base n : Nat} {v : Value} {xs : List Value} (h : PgB w x l) (ho : w.ownsRow base 22 1 v n xs) (hg : w.grownBy w' v.ownBlock) : PgB w' x l :=
  ⟨h.1, h.2.kept hg (own_ne h.2 ho (by decide))⟩
/-- A row of such slices. -/
def Pgs (w : World) (base : Nat) (v : Value) (ls : List (List UInt8)) : Prop :=
  ∃ xs : List SlT, xs.length = ls.length ∧ w.ownsRow base 22 1 v ls.length (xs.map encSl) ∧ ∀ (i : Nat) (x : SlT) (l : List UInt8), xs[i]? = some x → ls[i]? = some l → PgB w x l
theorem Pgs.below {w w' : World} {base : Nat} {v : Value} {ls : List (List UInt8)} (h : Pgs w base v ls) (hb : Below w.heap.size w w') : Pgs w' base v ls := by
  obtain ⟨xs, hl, ho, hp⟩ := h
  exact ⟨xs, hl, own_below ho hb, fun i x l hx hy => (hp i x l hx hy).below hb⟩
theorem Pgs.nil (w : World) (base : Nat) : Pgs w base (.slice none 0 0) [] := ⟨[], rfl, World.ownsRow_nil _ _ _ _, fun i x l hx _ => by simp at hx⟩
theorem reads_cell1 (w : World) (v : Value) (t : TypeId) : Reads (w.alloc (.cells #[v] t)) (w.heap.size + 1) 1 (some ⟨w.heap.size, 0, none⟩) 1 [v] :=
  ⟨rfl, fun _ => ⟨_, rfl, Nat.lt_succ_self _, fun j u hj => by
    match j, hj with
    | 0, hj =>
      simp only [List.getElem?_cons_zero, Option.some.injEq] at hj
      subst hj
      exact (Blk.new w t #[v]).cell 0⟩⟩
/-- One more is appended. -/
theorem Pgs.push {w w' : World} {base : Nat} {v v' : Value} {ls : List (List UInt8)} {x : SlT} {l : List UInt8} {o : Obj} {xs : List SlT} (hl : xs.length = ls.length) (ho : w.ownsRow base 22 1 v ls.length (xs.map encSl)) (hp : ∀ (i : Nat) (x : SlT) (l : List UInt8), xs[i]? = some x → ls[i]? = some l → PgB w x l) (hx : PgB w x l)
    (ho' : w'.ownsRow base 22 1 v' (ls.length + 1) ((xs ++ [x]).map encSl)) (hg : (w.alloc o).grownBy w' v.ownBlock) : Pgs w' base v' (ls ++ [l]) := by
  refine ⟨xs ++ [x], by simp [hl], by simpa using ho', fun i y m hy hm => ?_⟩
  have keep : ∀ y m, PgB w y m → PgB w' y m := fun y m hpy => PgB.grown (hpy.below (alloc_below w o)) (World.ownsRow.alloc ho o) hg
  by_cases hi : i < xs.length
  · rw [List.getElem?_append_left hi] at hy
    rw [List.getElem?_append_left (by omega)] at hm
    exact keep _ _ (hp i y m hy hm)
  · have : i = xs.length := by
      have h1 := (List.getElem?_eq_some_iff.1 hy).1
      rw [List.length_append, List.length_singleton] at h1
      omega
    subst this
    rw [List.getElem?_append_right (Nat.le_refl _), Nat.sub_self] at hy
    rw [hl, List.getElem?_append_right (Nat.le_refl _), Nat.sub_self] at hm
    simp only [List.getElem?_cons_zero, Option.some.injEq] at hy hm
    subst hy hm
    exact keep _ _ hx
/-- append of slices to a row of slices of the call's own. -/
theorem wpList_appS {P : Program} (w : World) {ops : Array Oper} {rest : List Oper} {o : Oper} {a : Act} {Q : Exit → Act → World → Prop} (hgd : o.guard = none) (s x : Operand) (t : TypeId)
    (ho : o.op = .call { callee := .builtin .append, args := #[s, x], argTypes := #[t, t] })
    {e : TypeId} (ht : P.underlying t = some (.slice e)) (hinfo : (P.info? e).map (fun i => (i.zero, i.size, i.bytes)) = some (some (.slice none 0 0), 1, 24))
    {base : Nat} {v : Value} {xs ys : List SlT} {n : Nat} (hown : w.ownsRow base e 1 v n (xs.map encSl)) {B : Nat} {A : Option Addr} {m : Nat} (hr : Reads w B 1 A m (ys.map encSl)) (c : Nat)
    (hs : a.eval s = v) (hx : a.eval x = .slice A m c) (hle : n + m ≤ 1000000) (hbase : base ≤ w.heap.size)
    (h : ∀ A' c' w', w'.ownsRow base e 1 (.slice A' (n + m) c') (n + m) ((xs ++ ys).map encSl) → Grew w w' v (.slice A' (n + m) c') → wpList P ops Q rest (a.put o.dst (.slice A' (n + m) c')) w') :
    wpList P ops Q (o :: rest) a w := by
  obtain ⟨i0, hi0, hz0, hz1, hz2⟩ := info_parts hinfo
  refine wpList_append_any w hgd s x t ho base e i0 _ 1 24 ht hi0 hz0 hz1 hz2 rfl (by omega) v n (xs.map encSl) hs hown B A m c (ys.map encSl) hx hr (fun u hu => by
    simp only [List.mem_map] at hu
    obtain ⟨y, _, rfl⟩ := hu
    rfl) (by unfold maxLen; omega) (by omega) hbase ?_
  intro v' w' h1 h2
  obtain ⟨A', c', rfl⟩ := own_form h1
  refine h A' c' w' ?_ h2
  rw [List.map_append]
  exact h1
theorem own_blk {w : World} {g t n base : Nat} {cs : Array Value} {xs : List Value} (h : Blk w g t cs) (hc : cs.toList = xs) (hl : xs.length = n) (hn : n ≤ maxLen) (hb : base ≤ g) : w.ownsRow base t 1 (.slice (some ⟨g, 0, none⟩) n n) n xs := by
  subst hc
  have hs : cs.size = n := by rw [← hl]; rfl
  refine ⟨by simpa using hs, .inr ⟨g, n, cs, rfl, hb, h, Nat.le_refl _, hn, by simpa using hs, ?_⟩⟩
  rw [Nat.mul_one, ← hs]
  exact List.take_of_length_le (by simp)
theorem addr_add0 (g j : Nat) : (⟨g, 0, none⟩ : Addr).add j = ⟨g, j, none⟩ := by unfold Addr.add; split <;> simp_all
theorem own_cell {w : World} {base e n c g : Nat} {xs : List Value} (h : w.ownsRow base e 1 (.slice (some ⟨g, 0, none⟩) n c) n xs) {j : Nat} {u : Value} (hj : xs[j]? = some u) : w.cell? ⟨g, j, none⟩ = some u := by
  have := h.cells (g := g) rfl j u hj
  rwa [addr_add0] at this
end Go.Proofs.YtfilelgbffbnlaaDoor
