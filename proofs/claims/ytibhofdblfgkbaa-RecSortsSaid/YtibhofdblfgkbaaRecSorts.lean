/- For every bag and every record the law oxbowlaw03.RecSorts returns true: records in order, each once, by keys; whether they may be. No condition. -/
import Derived.Test.YtibhofdblfgkbaaReYy
import Derived.Test.YtibhofdblfgkbaaReYf
import Derived.Test.YtibhofdblfgkbaaRw
import Derived.Test.YtibhofdblfgkbaaOp
import Derived.Test.YtibhofdblfgkbaaOpS
namespace Go.Proofs.Ytibhofdblfgkbaa
open Go.ChangeShapes Go.WideShapes Go.ChangeAt Go.RowKit Go.ChangeMaps

theorem recSorts_any (A : Option Addr) (h : Nat) (l : List (Int × Int)) (c : Nat) (a b : Int) (w : World) (hin : InP w A h l c) :
    Calls Try.prog 3 #[.slice A l.length c, .agg #[.int .i64 a, .int .i64 b]] w (LawSo w) :=
  sorts_of (fun A h l c w hl hc hm la => rrc_groups_any A h l c w hl hc hm la) A h l c a b w hin
theorem recSorts_params : Try.f3.params = #[22, 24] := rfl
set_option maxRecDepth 100000 in
theorem recSorts_lifted (os : Os) (started : os.Started) (H : Type) (enc : TypeId × Value → H) :
    ReturnsInHanded {} Try.checked os 3 .any (Rows.recSortsSpec.pre6 enc Try.prog Try.f3 Rows.recSortsRow.domain false) (Rows.recSortsSpec.post enc Try.prog Try.f3 false true false false) := by
  refine returnsInHanded_of_change (C := Try.checked) Try.own started (by kernel_rfl) Try.func3
    (ChangeSpec.witness6 (enc := enc) (C := Try.checked) false ⟨#[], #[.slice none 0 0, .agg #[.int .i64 0, .int .i64 0]], []⟩ 8 (by kernel_rfl) (by kernel_rfl) (by kernel_rfl) (by kernel_rfl)) ?_
  intro W base args ds gs before hval0 hW hcnd _
  have hval : ∀ (j : Nat) t v, Try.f3.params[j]? = some t → args[j]? = some v → Value.okWide Try.prog W .any base t v := hval0
  have hW' := hW
  obtain ⟨p, q, hA0, hV, rfl, hfz, hnd⟩ := hW
  have hA : DataW.TrodAll enc Try.prog W 0 (fun _ => true) true Try.f3.params.toList args.toList ds p := hA0
  rw [recSorts_params] at hA hval
  obtain ⟨v0, v1, d0, d1, p0, p1, rfl, rfl, rfl, h0, h1⟩ := trodAll_two hA
  obtain ⟨A0, g0, l0, k0, rfl, b0⟩ := open_pairs Try.underlying22 Try.underlying24 (by kernel_rfl) rfl rfl (by kernel_rfl) (by kernel_rfl) Try.underlying3 Try.underlying3 (hval 0 _ v0 rfl rfl) h0
  obtain ⟨x1, y1, rfl, b1, c1⟩ := open_ints2 Try.underlying24 (by kernel_rfl) rfl rfl (by kernel_rfl) (by kernel_rfl) Try.underlying3 Try.underlying3 (hval 1 _ v1 rfl rfl) h1
  refine (recSorts_any A0 g0 l0 k0 x1 y1 W b0).mono fun e W' ⟨he, hb⟩ => ?_
  subst he
  exact ⟨_, rfl, law_post (P := Try.prog) Try.laidOut (by kernel_rfl) rfl Try.underlying4 rfl rfl hW' hb⟩
theorem recSorts_holds : Rows.RecSortsSaid :=
  OpenClaim.holds_of_wide 3 Try.f3 rfl rfl rfl rfl rfl rfl rfl ⟨rfl, rfl, rfl, rfl, rfl⟩ rfl rfl rfl rfl rfl (by kernel_rfl) Try.func3 (by kernel_rfl)
    (of_decide_eq_true (by kernel_rfl)) (by unfold Func.isWrapper; first | (rw [if_pos (by decide +kernel)]; kernel_rfl) | (rw [if_neg (by decide +kernel)]; exact ⟨rfl, rfl⟩))
    (fun os started H enc _ => recSorts_lifted os started H enc)
#print axioms recSorts_holds
end Go.Proofs.Ytibhofdblfgkbaa
