/- For every bytes the law oxbowlaw07.EntryReads returns true: what they are as a pack, told by the program as by the document, and they are the bytes of these entries. No condition. -/
import Derived.Test.YtfilelgbffbnlaaEnRdW
import Derived.Test.YtfilelgbffbnlaaRw
import Derived.Test.YtfilelgbffbnlaaOp
namespace Go.Proofs.Ytfilelgbffbnlaa
open Go.ChangeShapes Go.WideShapes Go.ChangeAt Go.RowKit Go.ChangeMaps

theorem enRd_params : Try.f8.params = #[30] := rfl
set_option maxRecDepth 100000 in
theorem enRd_lifted (os : Os) (started : os.Started) (H : Type) (enc : TypeId × Value → H) :
    ReturnsInHanded {} Try.checked os 8 .any (Rows.entryReadsSpec.pre6 enc Try.prog Try.f8 Rows.entryReadsRow.domain false) (Rows.entryReadsSpec.post enc Try.prog Try.f8 false true false false) := by
  refine returnsInHanded_of_change (C := Try.checked) Try.own started (by kernel_rfl) Try.func8
    (ChangeSpec.witness6 (enc := enc) (C := Try.checked) false ⟨#[], #[.slice none 0 0], []⟩ 8 (by kernel_rfl) (by kernel_rfl) (by kernel_rfl) (by kernel_rfl)) ?_
  intro W base args ds gs before hval0 hW hcnd _
  have hval : ∀ (j : Nat) t v, Try.f8.params[j]? = some t → args[j]? = some v → Value.okWide Try.prog W .any base t v := hval0
  have hW' := hW
  obtain ⟨p, q, hA0, hV, rfl, hfz, hnd⟩ := hW
  have hA : DataW.TrodAll enc Try.prog W 0 (fun _ => true) true Try.f8.params.toList args.toList ds p := hA0
  rw [enRd_params] at hA hval
  obtain ⟨v0, d0, rfl, rfl, h0⟩ := trodAll_one hA
  obtain ⟨A0, g0, l0, c0, rfl, b0⟩ := open_bytes Try.underlying30 Try.underlying5 (by kernel_rfl) (hval 0 _ v0 rfl rfl) h0
  refine (enRd_any A0 g0 l0 c0 W b0.1).mono fun e W' ⟨he, hb⟩ => ?_
  subst he
  exact ⟨_, rfl, law_post (P := Try.prog) Try.laidOut (by kernel_rfl) rfl Try.underlying4 rfl rfl hW' hb⟩
theorem enRd_holds : Rows.EntryReadsSaid :=
  OpenClaim.holds_of_wide 8 Try.f8 rfl rfl rfl rfl rfl rfl rfl ⟨rfl, rfl, rfl, rfl, rfl⟩ rfl rfl rfl rfl rfl (by kernel_rfl) Try.func8 (by kernel_rfl)
    (of_decide_eq_true (by kernel_rfl)) (by unfold Func.isWrapper; first | (rw [if_pos (by decide +kernel)]; kernel_rfl) | (rw [if_neg (by decide +kernel)]; exact ⟨rfl, rfl⟩))
    (fun os started H enc _ => enRd_lifted os started H enc)
#print axioms enRd_holds
end Go.Proofs.Ytfilelgbffbnlaa
