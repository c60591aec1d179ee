/- Contracts of package moment: a moment's bytes, put and read. -/
import Derived.Test.YtodfpdmmbmbinaaFrC
import Derived.Test.YtodfpdmmbmbinaaNumI
namespace Go.Proofs.Ytodfpdmmbmbinaa
open Go.RowKit Go.Sort

theorem info_b : (Try.prog.info? 5).map (fun i => (i.zero, i.size, i.bytes)) = some (some (.int .u8 0), 1, 1) := by kernel_rfl
theorem keep_cellK {S : Nat → Prop} {w0 W : World} {p : Addr} {v : Value} (h : RK S w0 W) (hs : ¬ S p.block) (hc : w0.cell? p = some v) : W.cell? p = some v :=
  (World.cell?_of_block (h.2.2.2.2 p.block (World.block_lt_of_cell? w0 p hc) hs)).trans hc
theorem rk_below {S : Nat → Prop} {w w' : World} (h : Below w.heap.size w w') : RK S w w' := ⟨h.os, h.tape, h.output, h.size, fun i hi _ => h.block i hi⟩
theorem rk_grown {S : Nat → Prop} {w w' : World} {row : Option Nat} (h : w.grownBy w' row) (hr : ∀ g, row = some g → S g) : RK S w w' :=
  ⟨h.os, h.tape, h.output, h.size, fun i hi hs => h.block i hi (fun e => hs (hr i e.symm))⟩
theorem Below.of_drew0 {w w' : World} (h : Below w.drew.heap.size w.drew w') : Below w.heap.size w w' := ⟨h.os, h.tape, h.output, h.size, h.block⟩
theorem World.size_drew (w : World) : w.drew.heap.size = w.heap.size := rfl
def putMo (a b : Int) : List UInt8 := putL a.toNat ++ putL b.toNat
theorem okMo_iff (a b : Int) : okMo (a, b) = true ↔ 0 ≤ a ∧ a < 65536 ∧ 0 ≤ b ∧ b < 65536 := by unfold okMo; simp; omega
theorem moE_ok {m : Int × Int} (h : okMo m = true) : moE m = 0 := by unfold moE; rw [if_pos h]
theorem moE_no {m : Int × Int} (h : okMo m = false) : moE m = 40 := by unfold moE; rw [h]; rfl
theorem putL_small (n : Nat) (h : n < 65536) : (putL n).length ≤ 9 := by
  rw [putL_length]
  have := nb_eight n (by omega)
  split
  · omega
  · split <;> omega
def PutAns (w : World) (l : List UInt8) (e : Ending) (w' : World) : Prop :=
  ∃ A c, e = .returned (.tuple #[.slice A l.length c, .int .i64 0]) ∧ w'.ownsRow w.heap.size 5 1 (.slice A l.length c) l.length (Byt l) ∧ Below w.heap.size w w'
/-- An append that comes up alone. -/
theorem wp_appB {P : Program} (w : World) {o : Oper} {a : Act} {K : Act → World → Prop} {Q : Exit → Act → World → Prop} (s x : Operand) (t : TypeId)
    (ho : o.op = .call { callee := .builtin .append, args := #[s, x], argTypes := #[t, t] })
    {e : TypeId} (ht : P.underlying t = some (.slice e)) (hinfo : (P.info? e).map (fun i => (i.zero, i.size, i.bytes)) = some (some (.int .u8 0), 1, 1))
    {base : Nat} {v : Value} {xs ys : List UInt8} {n : Nat} (hown : w.ownsRow base e 1 v n (Byt xs)) {B : Nat} {A : Option Addr} {m : Nat} (hr : Reads w B 1 A m (Byt ys)) (c : Nat)
    (hs : a.eval s = v) (hx : a.eval x = .slice A m c) (hle : n + m ≤ 140737488355328) (hbase : base ≤ w.heap.size)
    (h : ∀ A' c' w', w'.ownsRow base e 1 (.slice A' (n + m) c') (n + m) (Byt (xs ++ ys)) → Grew w w' v (.slice A' (n + m) c') → K (a.put o.dst (.slice A' (n + m) c')) w') : o.wp P a w K Q := by
  obtain ⟨i0, hi0, hz0, hz1, hz2⟩ := info_parts hinfo
  refine wp_append_any w s x t ho base e i0 _ 1 1 ht hi0 hz0 hz1 hz2 rfl (by omega) v n (Byt xs) hs hown B A m c (Byt ys) hx hr (Byt_one ys) (by unfold maxLen; omega) (by omega) hbase ?_
  intro v' w' h1 h2
  obtain ⟨A', c', rfl⟩ := own_form h1
  refine h A' c' w' ?_ h2
  rw [Byt_append]
  exact h1
theorem below_setCell {w0 w : World} {B : Nat} (h : Below B w0 w) {p : Addr} (hp : B ≤ p.block) (u : Value) : Below B w0 (w.setCell p u) :=
  ⟨h.os, h.tape, h.output, by simpa using h.size, fun k hk => (Below.heap_setCell w p u k (by omega)).trans (h.block k hk)⟩
/-- What reading a moment makes of the bytes that are left. -/
def readMo (s : Option (List UInt8)) : (Int × Int) × Int :=
  if (numM (numM s).2).2 = none then ((0, 0), 10) else if okMo (((numM s).1 : Int), ((numM (numM s).2).1 : Int)) = true then ((((numM s).1 : Int), ((numM (numM s).2).1 : Int)), 0) else ((0, 0), 40)
def readS (s : Option (List UInt8)) : Option (List UInt8) := (numM (numM s).2).2
def ReadAns (w : World) (g : Nat) (z : (Int × Int) × Int) (e : Ending) (w' : World) : Prop :=
  e = .returned (.tuple #[.agg #[.int .i64 z.1.1, .int .i64 z.1.2], .int .i64 z.2]) ∧ ∀ B, B ≤ g → B ≤ w.heap.size → Below B w w'
theorem grown_to {w0 w w' : World} {g B : Nat} (h : Below B w0 w) (hg : w.grownBy w' (some g)) (hB : B ≤ g) (hs : B ≤ w.heap.size) : Below B w0 w' := h.grown hg hs fun i hi => by injection hi with hi; omega
end Go.Proofs.Ytodfpdmmbmbinaa
