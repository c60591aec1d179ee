/- For every entries, moment and front the law oxbowlaw07.EntryChooses returns true: what is at a moment and behind a front, told by the program as by the document. No condition. -/
import Derived.Test.YtfilelgbffbnlaaEnChW
import Derived.Test.YtfilelgbffbnlaaRw
import Derived.Test.YtfilelgbffbnlaaOp
import Derived.Test.YtfilelgbffbnlaaOpS
import Derived.Test.YtfilelgbffbnlaaOpE
namespace Go.Proofs.Ytfilelgbffbnlaa
open Go.ChangeShapes Go.WideShapes Go.ChangeAt Go.RowKit Go.ChangeMaps

theorem enCh_params : Try.f9.params = #[54, 56, 80] := rfl
set_option maxRecDepth 100000 in
theorem enCh_lifted (os : Os) (started : os.Started) (H : Type) (enc : TypeId × Value → H) :
    ReturnsInHanded {} Try.checked os 9 .any (Rows.entryChoosesSpec.pre6 enc Try.prog Try.f9 Rows.entryChoosesRow.domain false) (Rows.entryChoosesSpec.post enc Try.prog Try.f9 false true false false) := by
  refine returnsInHanded_of_change (C := Try.checked) Try.own started (by kernel_rfl) Try.func9
    (ChangeSpec.witness6 (enc := enc) (C := Try.checked) false ⟨#[], #[.slice none 0 0, .agg #[.int .i64 0, .int .i64 0], .slice none 0 0], []⟩ 8 (by kernel_rfl) (by kernel_rfl) (by kernel_rfl) (by kernel_rfl)) ?_
  intro W base args ds gs before hval0 hW hcnd _
  have hval : ∀ (j : Nat) t v, Try.f9.params[j]? = some t → args[j]? = some v → Value.okWide Try.prog W .any base t v := hval0
  have hW' := hW
  obtain ⟨p, q, hA0, hV, rfl, hfz, hnd⟩ := hW
  have hA : DataW.TrodAll enc Try.prog W 0 (fun _ => true) true Try.f9.params.toList args.toList ds p := hA0
  rw [enCh_params] at hA hval
  obtain ⟨v0, v1, v2, d0, d1, d2, p0, p1, p2, rfl, rfl, rfl, h0, h1, h2⟩ := trodAll_three hA
  obtain ⟨A0, g0, l0, k0, rfl, b0⟩ := open_entries Try.underlying54 enT (hval 0 _ v0 rfl rfl) h0
  obtain ⟨x1, y1, rfl, b1, c1⟩ := open_ints2 Try.underlying56 (by kernel_rfl) rfl rfl (by kernel_rfl) (by kernel_rfl) Try.underlying3 Try.underlying3 (hval 1 _ v1 rfl rfl) h1
  obtain ⟨A2, g2, l2, k2, rfl, b2⟩ := open_pairs Try.underlying80 Try.underlying56 (by kernel_rfl) rfl rfl (by kernel_rfl) (by kernel_rfl) Try.underlying3 Try.underlying3 (hval 2 _ v2 rfl rfl) h2
  refine (enCh_any A0 g0 l0 k0 x1 y1 A2 g2 l2 k2 W b0 b2).mono fun e W' ⟨he, hb⟩ => ?_
  subst he
  exact ⟨_, rfl, law_post (P := Try.prog) Try.laidOut (by kernel_rfl) rfl Try.underlying4 rfl rfl hW' hb⟩
theorem enCh_holds : Rows.EntryChoosesSaid :=
  OpenClaim.holds_of_wide 9 Try.f9 rfl rfl rfl rfl rfl rfl rfl ⟨rfl, rfl, rfl, rfl, rfl⟩ rfl rfl rfl rfl rfl (by kernel_rfl) Try.func9 (by kernel_rfl)
    (of_decide_eq_true (by kernel_rfl)) (by unfold Func.isWrapper; first | (rw [if_pos (by decide +kernel)]; kernel_rfl) | (rw [if_neg (by decide +kernel)]; exact ⟨rfl, rfl⟩))
    (fun os started H enc _ => enCh_lifted os started H enc)
#print axioms enCh_holds
end Go.Proofs.Ytfilelgbffbnlaa
