/- Words on memory: structs of many cells are read, built, boxed and appended whole. -/
import Derived.Test.YtfmmdnjoichifaaFiC
import Derived.Laws.CopyRow
namespace Go.Proofs.Ytfmmdnjoichifaa
open Go.RowKit Go.Sort

section
variable {P : Program} {w : World}
theorem run_load_big {t : TypeId} {d : TypeDesc} (hu : P.underlying t = some d) (hd : (match d with | .struct _ | .array _ _ => true | _ => false) = true) (a : Addr) (cs : List Value) (hi : (P.info? t).map (·.size) = some cs.length)
    (h : ∀ j v, cs[j]? = some v → w.cell? (a.add j) = some v) : (Instr.loadAt t (.pointer (some a))).run P w = .ok (.agg cs.toArray) w := by
  have hl : (loadCells a cs.length).run P w = .ok cs.toArray w := run_loadCells_list (P := P) w a cs h
  cases hq : P.info? t with
  | none => simp [hq] at hi
  | some i =>
    have hs : i.size = cs.length := by simpa [hq] using hi
    have hagg : (isAgg t).run P w = .ok true w := by
      unfold isAgg
      rw [Sem.run_bind, run_underlying hu w]
      cases d <;> simp_all
    simp [Instr.loadAt, Instr.sureAddr, loadVar, Sem.run_bind, hagg, sizeOf, typeInfo, hq, hs, hl]
theorem wpList_load_big {ops : Array Oper} {rest : List Oper} {o : Oper} {a : Act} {Q : Exit → Act → World → Prop} (hgd : o.guard = none) (t : TypeId) (x : Operand) (ho : o.op = .load t x) {p : Addr} (hx : a.eval x = .pointer (some p)) {d : TypeDesc} (hu : P.underlying t = some d)
    (hd : (match d with | .struct _ | .array _ _ => true | _ => false) = true) (cs : List Value) (hi : (P.info? t).map (·.size) = some cs.length) (h : ∀ j v, cs[j]? = some v → w.cell? (p.add j) = some v)
    (hK : wpList P ops Q rest (a.put o.dst (.agg cs.toArray)) w) : wpList P ops Q (o :: rest) a w := by
  refine wpList_plain hgd fun K hk => ?_
  unfold Oper.wp execOp
  simp only [ho, hx, Sem.run_bind, run_load_big hu hd p cs hi h, Result.andThen_ok, Sem.run_pure]
  exact hk _ _ hK
theorem foldl_set : ∀ (l : List Value) (off : Nat) (cells : Array Value) (k : Nat), ((l.zipIdx k).foldl (fun cs (x : Value × Nat) => cs.setIfInBounds (off + x.2) x.1) cells).size = cells.size ∧
    ∀ i, ((l.zipIdx k).foldl (fun cs (x : Value × Nat) => cs.setIfInBounds (off + x.2) x.1) cells)[i]? = if off + k ≤ i ∧ i < off + k + l.length ∧ i < cells.size then l[i - (off + k)]? else cells[i]?
  | [], off, cells, k => ⟨rfl, fun i => by
    rw [if_neg (by simp only [List.length_nil]; omega)]
    rfl⟩
  | v :: l, off, cells, k => by
    rw [List.zipIdx_cons, List.foldl_cons]
    obtain ⟨h1, h2⟩ := foldl_set l off (cells.setIfInBounds (off + k) v) (k + 1)
    refine ⟨h1.trans (by simp), fun i => ?_⟩
    rw [h2 i]
    simp only [Array.size_setIfInBounds, List.length_cons]
    by_cases hi : off + (k + 1) ≤ i ∧ i < off + (k + 1) + l.length ∧ i < cells.size
    · rw [if_pos hi, if_pos (by omega), show i - (off + k) = (i - (off + (k + 1))) + 1 by omega, List.getElem?_cons_succ]
    · rw [if_neg hi, Array.getElem?_setIfInBounds]
      by_cases he : off + k = i
      · subst he
        rw [if_pos rfl]
        by_cases hs : off + k < cells.size
        · rw [if_pos hs, if_pos ⟨Nat.le_refl _, by omega, hs⟩, Nat.sub_self]
          rfl
        · rw [if_neg hs, if_neg (by omega), Array.getElem?_eq_none (by omega)]
      · rw [if_neg he, if_neg (by omega)]
theorem fill_last {place : Nat → Option (Nat × Nat)} {cells : Array Value} {i off n : Nat} {cs : List Value} (hp : place i = some (off, n)) (hn : cs.length = n) (hs : cells.size = off + n) :
    Instr.fill place cells [(i, .agg cs.toArray)] = some (cells.toList.take off ++ cs).toArray := by
  have e : (Value.agg cs.toArray).cells = cs.toArray := rfl
  have hz : cs.toArray.zipIdx.foldl (fun acc (x : Value × Nat) => acc.setIfInBounds (off + x.2) x.1) cells = (cs.zipIdx 0).foldl (fun acc (x : Value × Nat) => acc.setIfInBounds (off + x.2) x.1) cells := by
    rw [← Array.foldl_toList, Array.toList_zipIdx]
  simp only [Instr.fill, hp, e]
  rw [if_neg (by simp only [List.size_toArray]; simp [hn]; omega)]
  congr 1
  refine Eq.trans hz ?_
  obtain ⟨h1, h2⟩ := foldl_set cs off cells 0
  apply Array.ext_getElem?
  intro j
  rw [h2 j]
  simp only [List.getElem?_toArray, Nat.add_zero, hn]
  by_cases hj : j < off
  · rw [if_neg (by omega), List.getElem?_append_left (by rw [List.length_take, Array.length_toList]; omega), List.getElem?_take_of_lt hj, Array.getElem?_toList]
  · rw [List.getElem?_append_right (by rw [List.length_take, Array.length_toList]; omega), List.length_take, Array.length_toList, show min off cells.size = off by omega]
    by_cases hj2 : j < off + n
    · rw [if_pos ⟨by omega, hj2, by omega⟩]
    · rw [if_neg (by omega), Array.getElem?_eq_none (by omega), List.getElem?_eq_none (by omega)]
/-- A slice of one element, built of a struct. -/
theorem run_buildSlice_one {t e : TypeId} {K : Nat} (ht : P.underlying t = some (.slice e)) (hi : (P.info? e).map (·.size) = some K) (hK : K ≤ 10000) (h0 : 0 < K) {cs : List Value} (hn : cs.length = K) {z : Value} (hz : (zeroValue e).run P w = .ok z w) (hzs : z.cells.size = K) :
    (Instr.buildSlice t 1 #[(0, .agg cs.toArray)]).run P w = .ok (.slice (some ⟨w.heap.size, 0, none⟩) 1 1) (w.alloc (.cells cs.toArray e)) := by
  cases hq : P.info? e with
  | none => simp [hq] at hi
  | some i =>
    have hs : i.size = K := by simpa [hq] using hi
    have hf := fill_last (place := fun i => some (i * K, K)) (cells := (Array.range (1 * K)).map (z.cells[· % z.cells.size]!)) (i := 0) (off := 0) (n := K) (cs := cs) (by simp) hn (by simp)
    simp only [List.take_zero, List.nil_append] at hf
    have hsz : (sizeOf e).run P w = .ok K w := by simp [sizeOf, typeInfo, hq, hs]
    simp only [Instr.buildSlice, Sem.run_bind, run_underlying ht w, Result.andThen_ok, hsz]
    rw [if_neg (show ¬ 1 * K > 2 ^ 24 by omega), if_neg (show ¬ 1 * K = 0 by omega)]
    simp only [Sem.run_bind, hz, Result.andThen_ok, Sem.run_pure, hf]
    rfl
theorem wp_buildSlice_one {o : Oper} {a : Act} {Kk : Act → World → Prop} {Q : Exit → Act → World → Prop} {t e : TypeId} {K : Nat} (x : Operand) (ho : o.op = .buildSlice t 1 #[(0, x)]) {cs : List Value} (hx : a.eval x = .agg cs.toArray)
    (ht : P.underlying t = some (.slice e)) (hi : (P.info? e).map (·.size) = some K) (hK : K ≤ 10000) (h0 : 0 < K) (hn : cs.length = K) {z : Value} (hz : (zeroValue e).run P w = .ok z w) (hzs : z.cells.size = K)
    (h : Kk (a.put o.dst (.slice (some ⟨w.heap.size, 0, none⟩) 1 1)) (w.alloc (.cells cs.toArray e))) : o.wp P a w Kk Q := by
  unfold Oper.wp execOp
  have e1 : (#[(0, x)] : Array (Nat × Operand)).map (fun (i, y) => (i, a.eval y)) = #[(0, .agg cs.toArray)] := by simp [hx]
  simp only [ho, Sem.run_bind, e1, run_buildSlice_one ht hi hK h0 hn hz hzs, Result.andThen_ok, Sem.run_pure]
  exact h
/-- append of such elements, as one operation. -/
theorem wp_appK {α : Type} {enc : α → List Value} {K : Nat} (L : Lay α enc K) {o : Oper} {a : Act} {Kk : Act → World → Prop} {Q : Exit → Act → World → Prop} (s x : Operand) (t : TypeId)
    (ho : o.op = .call { callee := .builtin .append, args := #[s, x], argTypes := #[t, t] })
    {e bytes : Nat} {z : Value} (ht : P.underlying t = some (.slice e)) (hinfo : (P.info? e).map (fun i => (i.zero, i.size, i.bytes)) = some (some z, K, bytes)) (hz : z.cells.size = K)
    {base : Nat} {v : Value} {xs ys : List α} {n : Nat} (hown : w.ownsRow base e K v n (RowV enc xs)) {B : Nat} {A : Option Addr} {m : Nat} (hr : Reads w B K A m (RowV enc ys)) (c : Nat)
    (hs : a.eval s = v) (hx : a.eval x = .slice A m c) (hle : n + m ≤ 10000000) (hby : bytes ≤ 1000) (hbase : base ≤ w.heap.size)
    (h : ∀ A' c' w', w'.ownsRow base e K (.slice A' (n + m) c') (n + m) (RowV enc (xs ++ ys)) → Grew w w' v (.slice A' (n + m) c') → Kk (a.put o.dst (.slice A' (n + m) c')) w') : o.wp P a w Kk Q := by
  obtain ⟨i0, hi0, hz0, hz1, hz2⟩ := info_parts hinfo
  refine wp_append_any w s x t ho base e i0 _ K bytes ht hi0 hz0 hz1 hz2 hz L.pos v n (RowV enc xs) hs hown B A m c (RowV enc ys) hx hr (RowV_one L ys) (by unfold maxLen; omega) (Nat.le_trans (Nat.mul_le_mul hle hby) (by decide)) hbase ?_
  intro v' w' h1 h2
  obtain ⟨A', c', rfl⟩ := own_form h1
  refine h A' c' w' ?_ h2
  rw [RowV_append]
  exact h1
theorem wqIdx_build {l : List Oper} {S : World → Prop} {K : Act → Prop} {i : Nat} {is : List Nat} {o : Oper} {a : Act} {t : TypeId} {parts : Array (Nat × Operand)} {parts' : Array (Nat × Value)} {v : Value} (ho : l[i]? = some o) (hw : Region.wanted o (yielded l.toArray a.tmps) = true) (hop : o.op = .build t parts)
    (hv : ∀ w, (Instr.build t parts').run P w = .ok v w) (hp : parts.toList.map (fun (i, x) => (i, a.eval x)) = parts'.toList) (h : WQ P l.toArray S K is (a.put o.dst v)) : WQ P l.toArray S K (i :: is) a := by
  have hp' : parts.map (fun (i, x) => (i, a.eval x)) = parts' := by
    apply Array.toList_inj.1
    rw [Array.toList_map]
    exact hp
  exact wqIdx_read ho hw (fun w _ => by obtain ⟨dst, op, type, pos, after, guard⟩ := o; subst hop; simp only [execOp, Sem.run_bind, hp', hv w, Result.andThen, Sem.run_pure]) h
end
theorem wqIdx_lookup {P : Program} {l : List Oper} {S : World → Prop} {K : Act → Prop} {i : Nat} {is : List Nat} {o : Oper} {a : Act} {t : TypeId} {x y : Operand} {mv kv v : Value} (ho : l[i]? = some o) (hw : Region.wanted o (yielded l.toArray a.tmps) = true) (hop : o.op = .lookup t x y false) (hx : a.eval x = mv) (hy : a.eval y = kv)
    (hv : ∀ w, S w → (Instr.lookup t mv kv false).run P w = .ok v w) (h : WQ P l.toArray S K is (a.put o.dst v)) : WQ P l.toArray S K (i :: is) a :=
  wqIdx_read ho hw (fun w hS => by obtain ⟨dst, op, type, pos, after, guard⟩ := o; subst hop; simp only [execOp, Sem.run_bind, hx, hy, hv w hS, Result.andThen, Sem.run_pure]) h
theorem rb_of {w w' : World} (h : Below w.heap.size w w') : RB w.drew w' := ⟨h.os, h.tape, h.output, h.size, h.block⟩
theorem of_rb {w w' : World} (h : RB w.drew w') : Below w.heap.size w w' := ⟨h.os, h.tape, h.output, h.size, h.block⟩
theorem keep_k {S : Nat → Prop} {w0 W : World} {p : Addr} {v : Value} (h : RK S w0 W) (hs : ¬ S p.block) (hc : w0.cell? p = some v) : W.cell? p = some v := (World.cell?_of_block (h.2.2.2.2 p.block (block_lt_of_cell hc) hs)).trans hc
theorem rk_of_below {S : Nat → Prop} {w w' : World} (h : Below w.heap.size w w') : RK S w w' := ⟨h.os, h.tape, h.output, h.size, fun i hi _ => h.block i hi⟩
theorem rk_of_grown {S : Nat → Prop} {w w' : World} {row : Option Nat} (h : w.grownBy w' row) (hr : ∀ g, row = some g → S g) : RK S w w' := ⟨h.os, h.tape, h.output, h.size, fun i hi hs => h.block i hi fun e => hs (hr i e.symm)⟩
theorem keep_c {w0 W : World} {p : Addr} {v : Value} (h : RB w0 W) (hc : w0.cell? p = some v) : W.cell? p = some v := (h.cell (block_lt_of_cell hc)).trans hc
theorem run_load1 {t : TypeId} (hag : ∀ w, (isAgg t).run Try.prog w = .ok false w) {w : World} {p : Addr} {v : Value} (h : w.cell? p = some v) : (Instr.loadAt t (.pointer (some p))).run Try.prog w = .ok v w := by
  simp only [Instr.loadAt, Instr.sureAddr, loadVar, Sem.run_bind, Sem.run_pure, Result.andThen_ok, hag]
  go_simp
theorem wrV_build (f : Nat) (i : Int) (s : Sec) (w : World) : (Instr.build 96 #[(0, .pointer (some ⟨f, 0, none⟩)), (1, .int .i64 i), (2, .agg (encSec s).toArray)]).run Try.prog w = .ok (.agg (.pointer (some ⟨f, 0, none⟩) :: .int .i64 i :: encSec s).toArray) w := by
  refine run_build w _ _ _ ?_
  have e1 : Try.prog.built 96 [(0, .pointer (some ⟨f, 0, none⟩)), (1, .int .i64 i), (2, .agg (encSec s).toArray)] = Instr.fill ((#[(0, 1), (1, 1), (2, 64)] : Array (Nat × Nat))[·]?) (.pointer (some ⟨f, 0, none⟩) :: .int .i64 i :: List.replicate 64 (.int .u8 0)).toArray [(2, .agg (encSec s).toArray)] := by kernel_rfl
  refine e1.trans ?_
  rw [fill_last (off := 2) (n := 64) rfl (laySec.len s) (by simp)]
  rfl
theorem fileV_build (n : Nm) (w : World) : (Instr.build 90 #[(0, strV n)]).run Try.prog w = .ok (.agg #[strV n, .slice none 0 0, .slice none 0 0]) w := by
  kernel_rfl
end Go.Proofs.Ytfmmdnjoichifaa
