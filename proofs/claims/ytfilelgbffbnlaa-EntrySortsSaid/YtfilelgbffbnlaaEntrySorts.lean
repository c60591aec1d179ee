/- For every entries and any two entries the law oxbowlaw07.EntrySorts returns true: entries in order, which may be, how any two stand, how long one is, told by the program as by the document. No condition. -/
import Derived.Test.YtfilelgbffbnlaaEnSoW
import Derived.Test.YtfilelgbffbnlaaRw
import Derived.Test.YtfilelgbffbnlaaOp
import Derived.Test.YtfilelgbffbnlaaOpE
namespace Go.Proofs.Ytfilelgbffbnlaa
open Go.ChangeShapes Go.WideShapes Go.ChangeAt Go.RowKit Go.ChangeMaps

theorem enSo_params : Try.f6.params = #[54, 60, 60] := rfl
set_option maxRecDepth 100000 in
theorem enSo_lifted (os : Os) (started : os.Started) (H : Type) (enc : TypeId × Value → H) :
    ReturnsInHanded {} Try.checked os 6 .any (Rows.entrySortsSpec.pre6 enc Try.prog Try.f6 Rows.entrySortsRow.domain false) (Rows.entrySortsSpec.post enc Try.prog Try.f6 false true false false) := by
  refine returnsInHanded_of_change (C := Try.checked) Try.own started (by kernel_rfl) Try.func6
    (ChangeSpec.witness6 (enc := enc) (C := Try.checked) false ⟨#[], #[.slice none 0 0, .agg #[.int .i64 0, .int .i64 0, .int .i64 0, .int .i64 0], .agg #[.int .i64 0, .int .i64 0, .int .i64 0, .int .i64 0]], []⟩ 8 (by kernel_rfl) (by kernel_rfl) (by kernel_rfl) (by kernel_rfl)) ?_
  intro W base args ds gs before hval0 hW hcnd _
  have hval : ∀ (j : Nat) t v, Try.f6.params[j]? = some t → args[j]? = some v → Value.okWide Try.prog W .any base t v := hval0
  have hW' := hW
  obtain ⟨p, q, hA0, hV, rfl, hfz, hnd⟩ := hW
  have hA : DataW.TrodAll enc Try.prog W 0 (fun _ => true) true Try.f6.params.toList args.toList ds p := hA0
  rw [enSo_params] at hA hval
  obtain ⟨v0, v1, v2, d0, d1, d2, p0, p1, p2, rfl, rfl, rfl, h0, h1, h2⟩ := trodAll_three hA
  obtain ⟨A0, g0, l0, k0, rfl, b0⟩ := open_entries Try.underlying54 enT (hval 0 _ v0 rfl rfl) h0
  obtain ⟨z1, rfl⟩ := open_en enT (hval 1 _ v1 rfl rfl) h1
  obtain ⟨z2, rfl⟩ := open_en enT (hval 2 _ v2 rfl rfl) h2
  refine (enSo_any A0 g0 l0 k0 z1 z2 W b0).mono fun e W' ⟨he, hb⟩ => ?_
  subst he
  exact ⟨_, rfl, law_post (P := Try.prog) Try.laidOut (by kernel_rfl) rfl Try.underlying4 rfl rfl hW' hb⟩
theorem enSo_holds : Rows.EntrySortsSaid :=
  OpenClaim.holds_of_wide 6 Try.f6 rfl rfl rfl rfl rfl rfl rfl ⟨rfl, rfl, rfl, rfl, rfl⟩ rfl rfl rfl rfl rfl (by kernel_rfl) Try.func6 (by kernel_rfl)
    (of_decide_eq_true (by kernel_rfl)) (by unfold Func.isWrapper; first | (rw [if_pos (by decide +kernel)]; kernel_rfl) | (rw [if_neg (by decide +kernel)]; exact ⟨rfl, rfl⟩))
    (fun os started H enc _ => enSo_lifted os started H enc)
#print axioms enSo_holds
end Go.Proofs.Ytfilelgbffbnlaa
