/- For every entries and moment the law oxbowlaw07.EntryOrders returns true: entries in order are those of each moment in order, one moment behind the other. No condition. -/
import Derived.Test.YtfilelgbffbnlaaEnOrW
import Derived.Test.YtfilelgbffbnlaaRw
import Derived.Test.YtfilelgbffbnlaaOp
import Derived.Test.YtfilelgbffbnlaaOpS
import Derived.Test.YtfilelgbffbnlaaOpE
namespace Go.Proofs.Ytfilelgbffbnlaa
open Go.ChangeShapes Go.WideShapes Go.ChangeAt Go.RowKit Go.ChangeMaps

theorem enOr_params : Try.f10.params = #[54, 56] := rfl
set_option maxRecDepth 100000 in
theorem enOr_lifted (os : Os) (started : os.Started) (H : Type) (enc : TypeId × Value → H) :
    ReturnsInHanded {} Try.checked os 10 .any (Rows.entryOrdersSpec.pre6 enc Try.prog Try.f10 Rows.entryOrdersRow.domain false) (Rows.entryOrdersSpec.post enc Try.prog Try.f10 false true false false) := by
  refine returnsInHanded_of_change (C := Try.checked) Try.own started (by kernel_rfl) Try.func10
    (ChangeSpec.witness6 (enc := enc) (C := Try.checked) false ⟨#[], #[.slice none 0 0, .agg #[.int .i64 0, .int .i64 0]], []⟩ 8 (by kernel_rfl) (by kernel_rfl) (by kernel_rfl) (by kernel_rfl)) ?_
  intro W base args ds gs before hval0 hW hcnd _
  have hval : ∀ (j : Nat) t v, Try.f10.params[j]? = some t → args[j]? = some v → Value.okWide Try.prog W .any base t v := hval0
  have hW' := hW
  obtain ⟨p, q, hA0, hV, rfl, hfz, hnd⟩ := hW
  have hA : DataW.TrodAll enc Try.prog W 0 (fun _ => true) true Try.f10.params.toList args.toList ds p := hA0
  rw [enOr_params] at hA hval
  obtain ⟨v0, v1, d0, d1, p0, p1, rfl, rfl, rfl, h0, h1⟩ := trodAll_two hA
  obtain ⟨A0, g0, l0, k0, rfl, b0⟩ := open_entries Try.underlying54 enT (hval 0 _ v0 rfl rfl) h0
  obtain ⟨x1, y1, rfl, b1, c1⟩ := open_ints2 Try.underlying56 (by kernel_rfl) rfl rfl (by kernel_rfl) (by kernel_rfl) Try.underlying3 Try.underlying3 (hval 1 _ v1 rfl rfl) h1
  refine (enOr_any A0 g0 l0 k0 x1 y1 W b0).mono fun e W' ⟨he, hb⟩ => ?_
  subst he
  exact ⟨_, rfl, law_post (P := Try.prog) Try.laidOut (by kernel_rfl) rfl Try.underlying4 rfl rfl hW' hb⟩
theorem enOr_holds : Rows.EntryOrdersSaid :=
  OpenClaim.holds_of_wide 10 Try.f10 rfl rfl rfl rfl rfl rfl rfl ⟨rfl, rfl, rfl, rfl, rfl⟩ rfl rfl rfl rfl rfl (by kernel_rfl) Try.func10 (by kernel_rfl)
    (of_decide_eq_true (by kernel_rfl)) (by unfold Func.isWrapper; first | (rw [if_pos (by decide +kernel)]; kernel_rfl) | (rw [if_neg (by decide +kernel)]; exact ⟨rfl, rfl⟩))
    (fun os started H enc _ => enOr_lifted os started H enc)
#print axioms enOr_holds
end Go.Proofs.Ytfilelgbffbnlaa
