/- For every number tag, all bytes, every bit and every turn of 32 bits the law oxbowlaw06.PageTurned returns true: a page of which some within 32 bits in a row are turned is none of its tag. Its one listed variable, the table oxbow/crc.halves, is tied to the program's text. No other condition. -/
import Derived.Test.YtfilelgbffbnlaaDoorCrcLaid
import Derived.Test.YtfilelgbffbnlaaDoorPgTurnedW
import Derived.Test.YtfilelgbffbnlaaDoorCards
import Derived.Test.YtfilelgbffbnlaaDoorTie
import Derived.Test.YtfilelgbffbnlaaDoorRw
import Derived.Test.YtfilelgbffbnlaaDoorOp
import Derived.Test.YtfilelgbffbnlaaDoorTr
namespace Go.Proofs.YtfilelgbffbnlaaDoor
open Go.ChangeShapes Go.WideShapes Go.ChangeAt Go.RowKit Go.ChangeMaps

theorem pageTurned_params : Tryd.f6.params = #[3, 22, 3, 42] := rfl
set_option maxRecDepth 100000 in
theorem pageTurned_lifted (os : Os) (started : os.Started) (H : Type) (enc : TypeId × Value → H) :
    ReturnsInHanded {} Tryd.checked os 6 .any (fun w args => (Rows.pageTurnedSpec.pre enc Tryd.prog Tryd.f6 [] false w args ∧ laidMetH Tryd.prog laidH w) ∧ sizedMet enc Tryd.prog Tryd.f6 (OpenSpec.ofChange Rows.pageTurnedSpec) false w args)
      (Rows.pageTurnedSpec.post enc Tryd.prog Tryd.f6 false true false false) := by
  refine returnsInHanded_of_change_and (C := Tryd.checked) (X := fun w _ => laidMetH Tryd.prog laidH w) (fun _ _ _ hh h => h.of_heap hh) Tryd.own started (by kernel_rfl) Tryd.func6
    (ChangeSpec.witness_at (enc := enc) (C := Tryd.checked) (os := os) (X := fun w _ => laidMetH Tryd.prog laidH w) false (World.laidAll Tryd.prog os laidH) #[.int .i64 0, .slice none 0 0, .int .i64 0, .int .u32 0] 8 (World.laidAll_os _ _ _) (by kernel_rfl) (by kernel_rfl) (by kernel_rfl) (by kernel_rfl) (by kernel_rfl)
      (by rw [MakeChecks.laidMetH_plain _ _ _ (by kernel_rfl)]; exact laidMet_laidAll _ (by kernel_rfl) (by kernel_rfl))) ?_
  intro W base args ds gs before hval0 hW _ _ hL _
  have hval : ∀ (j : Nat) t v, Tryd.f6.params[j]? = some t → args[j]? = some v → Value.okWide Tryd.prog W .any base t v := hval0
  have hW' := hW
  obtain ⟨p, q, hA0, hV, rfl, hfz, hnd⟩ := hW
  have hA : DataW.TrodAll enc Tryd.prog W 0 (fun _ => true) true Tryd.f6.params.toList args.toList ds p := hA0
  rw [pageTurned_params] at hA hval
  obtain ⟨v0, v1, v2, v3, d0, d1, d2, d3, p0, p1, p2, p3, rfl, rfl, rfl, h0, h1, h2, h3⟩ := trodAll_four hA
  obtain ⟨n0, rfl, rfl, rfl, x0⟩ := open_int Tryd.underlying3 (hval 0 _ v0 rfl rfl) h0
  have b0 := wf_int x0
  obtain ⟨A1, g1, l1, c1, rfl, b1⟩ := open_bytes Tryd.underlying22 Tryd.underlying5 (by kernel_rfl) (hval 1 _ v1 rfl rfl) h1
  obtain ⟨n2, rfl, rfl, rfl, x2⟩ := open_int Tryd.underlying3 (hval 2 _ v2 rfl rfl) h2
  have b2 := wf_int x2
  obtain ⟨n3, rfl, rfl, rfl, x3⟩ := open_int Tryd.underlying42 (hval 3 _ v3 rfl rfl) h3
  obtain ⟨y3, b3⟩ := wf_u32 x3
  obtain ⟨u3, rfl⟩ := Int.eq_ofNat_of_zero_le y3
  refine (turned_law n0 A1 g1 l1 c1 n2 u3 W b1 (by omega) (halves_of_laid hL)).mono fun e W' ⟨he, hb⟩ => ?_
  subst he
  exact ⟨_, rfl, law_post (P := Tryd.prog) Tryd.laidOut (by kernel_rfl) rfl Tryd.underlying4 rfl rfl hW' hb⟩
theorem pageTurned_row : Rows.PageTurnedSaid :=
  OpenClaim.holds_of_wide 6 Tryd.f6 rfl rfl rfl rfl rfl rfl rfl ⟨rfl, rfl, rfl, rfl, rfl⟩ rfl rfl rfl rfl rfl (by kernel_rfl) Tryd.func6 (by kernel_rfl)
    (of_decide_eq_true (by kernel_rfl)) (by unfold Func.isWrapper; first | (rw [if_pos (by decide +kernel)]; kernel_rfl) | (rw [if_neg (by decide +kernel)]; exact ⟨rfl, rfl⟩))
    (fun os started H enc _ => pageTurned_lifted os started H enc)
theorem pageTurned_holds : Rows.PageTurnedCardSaid :=
  Claim7.holds_tied_plain_at .later [] [.data] true _ false pageTurned_row (fun _ h => by cases h) (by kernel_rfl) (fun _ h => by cases h) pageTurned_row_tie rfl ⟨rfl, rfl⟩ (by kernel_rfl) rfl
    (fun f fn hf hfn => by
      obtain rfl : f = 6 := Option.some.inj ((show Tryd.prog.funcNamed "oxbow/oxbowlaw06.PageTurned" = some 6 by kernel_rfl).symm.trans hf) |>.symm
      obtain rfl : fn = Tryd.f6 := (Option.some.inj (Tryd.func6.symm.trans hfn)).symm
      exact ⟨by kernel_rfl, fun j t ht => by
        rw [pageTurned_params] at ht
        have hm : t ∈ [3, 22, 3, 42] := by simpa using Array.mem_of_getElem? ht
        have hall : ([3, 22, 3, 42].all fun u => !Tryd.prog.wantsStandIn u) = true := by kernel_rfl
        exact (show Tryd.prog.wantsStandIn t = false by simpa using List.all_eq_true.1 hall t hm)⟩)
    (by kernel_rfl)
#print axioms pageTurned_holds
end Go.Proofs.YtfilelgbffbnlaaDoor
