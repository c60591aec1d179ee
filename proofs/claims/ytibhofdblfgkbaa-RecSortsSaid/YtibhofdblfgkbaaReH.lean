/- Contracts of package rec: counts. -/
import Derived.Test.YtibhofdblfgkbaaReG
import Derived.Test.YtibhofdblfgkbaaRw
import Derived.Maps.Own
import Derived.Maps.Ext
import Derived.Maps.OwnSet
import Derived.Maps.RangeWalk
import Derived.DeepKeys4
import Derived.WideKeyEntry
namespace Go.Proofs.Ytibhofdblfgkbaa
open Go.RowKit Go.Sort Go.Maps

theorem rowRec : (24 : TypeId) < Try.prog.types.size := of_decide_eq_true (by kernel_rfl)
theorem wideRec : (match Try.prog.underlying 24 with | some (.array _ _) | some (.struct _) => true | _ => false) = true := by rw [Try.underlying24]
set_option maxRecDepth 100000 in
theorem lawRec : WideMaps.KeyLaw Try.prog 24 := deep_law_laid Try.laidOut (m := 2) (by omega) rowRec (by kernel_rfl) wideRec
theorem keyedRec : Keyed Try.prog 24 := Keyed.of_law lawRec
def klR (x : Int × Int) : Lit := .string (keyBytes [.int .i64 x.1, .int .i64 x.2])
def InR (x : Int × Int) : Prop := (Lit.int .i64 x.1).wf = true ∧ (Lit.int .i64 x.2).wf = true
set_option maxRecDepth 100000 in
theorem keyOfRec (a b : Int) (h : InR (a, b)) : keyOf Try.prog 24 (.agg #[.int .i64 a, .int .i64 b]) = some (klR (a, b)) := by
  have kt : Try.prog.keyType 24 = true := by kernel_rfl
  have c2 : Try.prog.cellsOf 24 = 2 := by kernel_rfl
  have ci : Try.prog.cellsOf 3 = 1 := by kernel_rfl
  have ts : ∃ n, Try.prog.types.size + 1 = n + 1 + 1 := ⟨Try.prog.types.size - 1, by have : 0 < Try.prog.types.size := Nat.lt_of_le_of_lt (Nat.zero_le _) rowRec; omega⟩
  obtain ⟨n, hn⟩ := ts
  unfold keyOf
  rw [Try.underlying24]
  simp only [kt, Value.formed, Try.underlying24, c2, hn]
  simp [Program.keyLits, Try.underlying24, Try.underlying3, c2, ci, Value.cells, h.1, h.2, klR]
theorem klR_inj {x y : Int × Int} (hx : InR x) (hy : InR y) (h : klR x = klR y) : x = y := by
  have h1 := keyOfRec x.1 x.2 hx
  have h2 := keyOfRec y.1 y.2 hy
  rw [show (x.1, x.2) = x from rfl] at h1
  rw [show (y.1, y.2) = y from rfl, ← h] at h2
  have := keyedRec.inj h1 h2
  simp at this
  exact Prod.ext this.1 this.2
theorem klR_key {x : Int × Int} (hx : InR x) : WideAt.IsKeyLit (klR x) := keyedRec.key (keyOfRec x.1 x.2 hx)
noncomputable def elR : Value → Option (DataW Unit × List MemPlace) := plainElem Try.prog 3
theorem elR_int (n : Int) (h : (Lit.int .i64 n).wf = true) : elR (.int .i64 n) = some (.lit (.int .i64 n), []) := plainElem_int Try.underlying3 h
/-- A map of the call's own: of each record a number, and whether it is there. -/
def CntAt (w : World) (b n : Nat) (t : Int × Int → Nat) (ks : Int × Int → Bool) : Prop :=
  ∃ D : DataW Unit, w.ownsMap Try.prog 24 elR b n D ∧ (∀ x, InR x → has D (klR x) = ks x) ∧ (∀ x z, InR x → ks x = true → D.atKey (klR x) z = .lit (.int .i64 (t x : Nat))) ∧
    (∀ x, InR x → ks x = false → t x = 0) ∧ (∀ k, has D k = true → ∃ x, InR x ∧ k = klR x)
section
variable {w w' : World} {b n : Nat} {t : Int × Int → Nat} {ks : Int × Int → Bool}
theorem CntAt.kept {row : Option Nat} (h : CntAt w b n t ks) (hg : w.grownBy w' row) (hne : some b ≠ row) : CntAt w' b n t ks := by
  obtain ⟨D, h1, h2⟩ := h
  exact ⟨D, h1.kept hg hne, h2⟩
theorem CntAt.lt (h : CntAt w b n t ks) : b < w.heap.size := by obtain ⟨D, h1, _⟩ := h; exact h1.lt
theorem CntAt.drew (h : CntAt w b n t ks) : CntAt w.drew b n t ks := h
theorem zeroInt (w : World) : (zeroValue 3).run Try.prog w = .ok (.int .i64 0) w := by kernel_rfl
theorem CntAt.atD (h : CntAt w b n t ks) : ∃ D : DataW Unit, w.ownsMap Try.prog 24 elR b n D ∧ ∀ x, InR x → D.atKey (klR x) (.lit (.int .i64 0)) = .lit (.int .i64 (t x : Nat)) := by
  obtain ⟨D, h1, h2, h3, h4, h5⟩ := h
  refine ⟨D, h1, fun x hx => ?_⟩
  cases hk : ks x
  · have e := h2 x hx
    rw [hk] at e
    rw [h4 x hx hk]
    exact atKey_of_not_has e _
  · exact h3 x _ hx hk
set_option maxRecDepth 100000 in
theorem look_of_own {D : DataW Unit} (h : w.ownsMap Try.prog 24 elR b n D) {x1 x2 : Int} (hx : InR (x1, x2)) {m : Nat} (hm : D.atKey (klR (x1, x2)) (.lit (.int .i64 0)) = .lit (.int .i64 (m : Nat))) :
    (Instr.lookup 99 (.map (some b)) (.agg #[.int .i64 x1, .int .i64 x2]) false).run Try.prog w = .ok (.int .i64 (m : Nat)) w := by
  obtain ⟨c, hrun, hat, -⟩ := World.ownsMap.lookup_int (e := 3) h keyedRec Try.underlying99 Try.underlying3 (zeroInt w) (keyOfRec x1 x2 hx)
  rw [hm] at hat
  injection hat with hat
  injection hat with _ hat
  rw [hrun, hat]
theorem CntAt.look (h : CntAt w b n t ks) (x1 x2 : Int) (hx : InR (x1, x2)) :
    (Instr.lookup 99 (.map (some b)) (.agg #[.int .i64 x1, .int .i64 x2]) false).run Try.prog w = .ok (.int .i64 (t (x1, x2) : Nat)) w := by
  obtain ⟨D, h1, h2⟩ := h.atD
  exact look_of_own h1 hx (h2 _ hx)
end
end Go.Proofs.Ytibhofdblfgkbaa
