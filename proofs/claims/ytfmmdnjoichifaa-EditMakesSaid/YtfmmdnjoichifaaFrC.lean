/- Contracts of package moment: Front. -/
import Derived.Test.YtfmmdnjoichifaaFrB
namespace Go.Proofs.Ytfmmdnjoichifaa
open Go.RowKit Go.Sort

theorem wpList_appP {P : Program} (w : World) {ops : Array Oper} {rest : List Oper} {o : Oper} {a : Act} {Q : Exit → Act → World → Prop} (hgd : o.guard = none) (s x : Operand) (t : TypeId)
    (ho : o.op = .call { callee := .builtin .append, args := #[s, x], argTypes := #[t, t] })
    {e : TypeId} (ht : P.underlying t = some (.slice e)) (hinfo : (P.info? e).map (fun i => (i.zero, i.size, i.bytes)) = some (some (.agg #[.int .i64 0, .int .i64 0]), 2, 16))
    {base : Nat} {v : Value} {xs ys : List (Int × Int)} {n : Nat} (hown : w.ownsRow base e 2 v n (Prs xs)) {B : Nat} {A : Option Addr} {m : Nat} (hr : Reads w B 2 A m (Prs ys)) (c : Nat)
    (hs : a.eval s = v) (hx : a.eval x = .slice A m c) (hle : n + m ≤ 100000) (hbase : base ≤ w.heap.size)
    (h : ∀ A' c' w', w'.ownsRow base e 2 (.slice A' (n + m) c') (n + m) (Prs (xs ++ ys)) → Grew w w' v (.slice A' (n + m) c') → wpList P ops Q rest (a.put o.dst (.slice A' (n + m) c')) w') :
    wpList P ops Q (o :: rest) a w := by
  obtain ⟨i0, hi0, hzz⟩ := Option.map_eq_some_iff.1 hinfo
  simp only [Prod.mk.injEq] at hzz
  obtain ⟨hz0, hz1, hz2⟩ := hzz
  refine wpList_append_any w hgd s x t ho base e i0 _ 2 16 ht hi0 hz0 hz1 hz2 rfl (by omega) v n (Prs xs) hs hown B A m c (Prs ys) hx hr (Prs_one ys) (by unfold maxLen; omega) (by omega) hbase ?_
  intro v' w' h1 h2
  obtain ⟨A', c', rfl⟩ := own_form h1
  refine h A' c' w' ?_ h2
  rw [Prs_append]
  exact h1
theorem own_cap2 {w : World} {base e n c : Nat} {A : Option Addr} {xs : List Value} (h : w.ownsRow base e 2 (.slice A n c) n xs) : n ≤ c ∧ c ≤ maxLen := by
  rcases h.2 with ⟨hv, h0⟩ | ⟨g, cap, cur, hv, _, _, hnc, hcm, _, _⟩
  · injection hv with h1 h2 h3
    subst h2 h3
    exact ⟨Nat.le_refl _, by decide⟩
  · injection hv with h1 h2 h3
    subst h3
    exact ⟨hnc, hcm⟩
theorem reads_one (w : World) (x : Int × Int) (t : TypeId) : Reads (w.alloc (.cells #[.int .i64 x.1, .int .i64 x.2] t)) (w.heap.size + 1) 2 (some ⟨w.heap.size, 0, none⟩) 1 (Prs [x]) :=
  ⟨rfl, fun _ => ⟨_, rfl, Nat.lt_succ_self _, fun j u hu => by
    rw [Addr.add_lit, Nat.zero_add, (Blk.new w t _).cell j]
    match j, hu with
    | 0, hu => simpa [Prs, encP] using hu
    | 1, hu => simpa [Prs, encP] using hu
    | j + 2, hu => simp [Prs, encP] at hu⟩⟩
theorem box_cell {wr w4 : World} {cs : Array Value} {t : TypeId} (b4 : Below (wr.alloc (.cells cs t)).heap.size (wr.alloc (.cells cs t)) w4) (i : Nat) (v : Value) (h : cs[i]? = some v) : w4.cell? ⟨wr.heap.size, i, none⟩ = some v :=
  (b4.cell (p := ⟨wr.heap.size, i, none⟩) (by rw [World.size_alloc]; exact Nat.lt_succ_self _)).trans (((Blk.new wr t cs).cell i).trans h)
theorem frontS_nil (m : Int × Int) : frontS [] m = [m] := rfl
theorem foldl_take (S : List (Int × Int)) (k : Nat) (x : Int × Int) (h : S[k]? = some x) : (S.take (k + 1)).foldl frontS [] = frontS ((S.take k).foldl frontS []) x := by
  rw [List.take_add_one, h, List.foldl_append]; rfl
theorem frontS_length (F : List (Int × Int)) (m : Int × Int) : (frontS F m).length ≤ F.length + 1 := by
  unfold frontS; split
  · omega
  · simp
theorem foldl_length (S : List (Int × Int)) (k : Nat) (hk : k ≤ S.length) : ((S.take k).foldl frontS []).length ≤ k := by
  induction k with
  | zero => simp
  | succ k ih =>
    rw [foldl_take S k S[k] (List.getElem?_eq_getElem (by omega))]
    have := frontS_length ((S.take k).foldl frontS []) S[k]
    have := ih (by omega)
    omega
theorem foldl_front (S : List (Int × Int)) (hs : S.Pairwise fun x y => ltM y x = false) (k : Nat) (hk : k ≤ S.length) : FrontIn (S.take k) ((S.take k).foldl frontS []) := by
  induction k with
  | zero => simpa using FrontIn.nil
  | succ k ih =>
    have hx := List.getElem?_eq_getElem (show k < S.length by omega)
    rw [foldl_take S k S[k] hx, List.take_add_one, hx]
    refine (ih (by omega)).step S[k] fun y hy => ?_
    rw [List.pairwise_iff_getElem] at hs
    obtain ⟨i, hi, e⟩ := List.getElem_of_mem hy
    rw [List.length_take] at hi
    rw [← e, List.getElem_take]
    exact hs i k (by omega) (by omega) (by omega)
def FrontAns (w : World) (l : List (Int × Int)) (e : Ending) (w' : World) : Prop :=
  Below w.heap.size w w' ∧ (((∃ x ∈ l, okMo x = false) ∧ e = .returned (.tuple #[.slice none 0 0, .int .i64 40])) ∨ ((∀ x ∈ l, okMo x = true) ∧ ∃ F, FrontOK l F ∧
    ((256 < F.length ∧ e = .returned (.tuple #[.slice none 0 0, .int .i64 31])) ∨ (F.length ≤ 256 ∧ ∃ A c h, e = .returned (.tuple #[.slice A F.length c, .int .i64 0]) ∧ SlP w' h A F ∧ F.length ≤ c ∧ c ≤ maxLen))))
end Go.Proofs.Ytfmmdnjoichifaa
