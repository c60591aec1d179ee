/- For every entries the law oxbowlaw07.EntryPacks returns true: they are packed by the program as by the document, each pack is unpacked, and what is unpacked, one pack behind the other, are the entries. No condition. -/
import Derived.Test.YtalefgcdhakfoaaEnPkW
import Derived.Test.YtalefgcdhakfoaaRw
import Derived.Test.YtalefgcdhakfoaaOp
import Derived.Test.YtalefgcdhakfoaaOpE
namespace Go.Proofs.Ytalefgcdhakfoaa
open Go.ChangeShapes Go.WideShapes Go.ChangeAt Go.RowKit Go.ChangeMaps

theorem enPk_params : Try.f6.params = #[54] := rfl
set_option maxRecDepth 100000 in
theorem enPk_lifted (os : Os) (started : os.Started) (H : Type) (enc : TypeId × Value → H) :
    ReturnsInHanded {} Try.checked os 6 .any (Rows.entryPacksSpec.pre6 enc Try.prog Try.f6 Rows.entryPacksRow.domain false) (Rows.entryPacksSpec.post enc Try.prog Try.f6 false true false false) := by
  refine returnsInHanded_of_change (C := Try.checked) Try.own started (by kernel_rfl) Try.func6
    (ChangeSpec.witness6 (enc := enc) (C := Try.checked) false ⟨#[], #[.slice none 0 0], []⟩ 8 (by kernel_rfl) (by kernel_rfl) (by kernel_rfl) (by kernel_rfl)) ?_
  intro W base args ds gs before hval0 hW hcnd _
  have hval : ∀ (j : Nat) t v, Try.f6.params[j]? = some t → args[j]? = some v → Value.okWide Try.prog W .any base t v := hval0
  have hW' := hW
  obtain ⟨p, q, hA0, hV, rfl, hfz, hnd⟩ := hW
  have hA : DataW.TrodAll enc Try.prog W 0 (fun _ => true) true Try.f6.params.toList args.toList ds p := hA0
  rw [enPk_params] at hA hval
  obtain ⟨v0, d0, rfl, rfl, h0⟩ := trodAll_one hA
  obtain ⟨A0, g0, l0, k0, rfl, b0⟩ := open_entries Try.underlying54 enT (hval 0 _ v0 rfl rfl) h0
  refine (enPk_any A0 g0 l0 k0 W b0).mono fun e W' ⟨he, hb⟩ => ?_
  subst he
  exact ⟨_, rfl, law_post (P := Try.prog) Try.laidOut (by kernel_rfl) rfl Try.underlying4 rfl rfl hW' hb⟩
theorem enPk_holds : Rows.EntryPacksSaid :=
  OpenClaim.holds_of_wide 6 Try.f6 rfl rfl rfl rfl rfl rfl rfl ⟨rfl, rfl, rfl, rfl, rfl⟩ rfl rfl rfl rfl rfl (by kernel_rfl) Try.func6 (by kernel_rfl)
    (of_decide_eq_true (by kernel_rfl)) (by unfold Func.isWrapper; first | (rw [if_pos (by decide +kernel)]; kernel_rfl) | (rw [if_neg (by decide +kernel)]; exact ⟨rfl, rfl⟩))
    (fun os started H enc _ => enPk_lifted os started H enc)
#print axioms enPk_holds
end Go.Proofs.Ytalefgcdhakfoaa
