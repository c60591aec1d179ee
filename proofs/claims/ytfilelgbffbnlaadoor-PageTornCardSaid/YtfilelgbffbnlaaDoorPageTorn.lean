/- For every two numbers as tags, all bytes of two pages and every number of bytes that are kept the law oxbowlaw06.PageTorn returns true: a page of which just the first bytes were written over another one is neither, unless all of one of them is there. Its one listed variable, the table oxbow/crc.halves, is tied to the program's text. No other condition. -/
import Derived.Test.YtfilelgbffbnlaaDoorCrcLaid
import Derived.Test.YtfilelgbffbnlaaDoorPgTornW
import Derived.Test.YtfilelgbffbnlaaDoorCards
import Derived.Test.YtfilelgbffbnlaaDoorTie
import Derived.Test.YtfilelgbffbnlaaDoorRw
import Derived.Test.YtfilelgbffbnlaaDoorOp
import Derived.Test.YtfilelgbffbnlaaDoorTr
namespace Go.Proofs.YtfilelgbffbnlaaDoor
open Go.ChangeShapes Go.WideShapes Go.ChangeAt Go.RowKit Go.ChangeMaps

theorem pageTorn_params : Tryd.f5.params = #[3, 22, 3, 22, 3] := rfl
set_option maxRecDepth 100000 in
theorem pageTorn_lifted (os : Os) (started : os.Started) (H : Type) (enc : TypeId × Value → H) :
    ReturnsInHanded {} Tryd.checked os 5 .any (fun w args => (Rows.pageTornSpec.pre enc Tryd.prog Tryd.f5 [] false w args ∧ laidMetH Tryd.prog laidH w) ∧ sizedMet enc Tryd.prog Tryd.f5 (OpenSpec.ofChange Rows.pageTornSpec) false w args)
      (Rows.pageTornSpec.post enc Tryd.prog Tryd.f5 false true false false) := by
  refine returnsInHanded_of_change_and (C := Tryd.checked) (X := fun w _ => laidMetH Tryd.prog laidH w) (fun _ _ _ hh h => h.of_heap hh) Tryd.own started (by kernel_rfl) Tryd.func5
    (ChangeSpec.witness_at (enc := enc) (C := Tryd.checked) (os := os) (X := fun w _ => laidMetH Tryd.prog laidH w) false (World.laidAll Tryd.prog os laidH) #[.int .i64 0, .slice none 0 0, .int .i64 0, .slice none 0 0, .int .i64 0] 8 (World.laidAll_os _ _ _) (by kernel_rfl) (by kernel_rfl) (by kernel_rfl) (by kernel_rfl) (by kernel_rfl)
      (by rw [MakeChecks.laidMetH_plain _ _ _ (by kernel_rfl)]; exact laidMet_laidAll _ (by kernel_rfl) (by kernel_rfl))) ?_
  intro W base args ds gs before hval0 hW _ _ hL _
  have hval : ∀ (j : Nat) t v, Tryd.f5.params[j]? = some t → args[j]? = some v → Value.okWide Tryd.prog W .any base t v := hval0
  have hW' := hW
  obtain ⟨p, q, hA0, hV, rfl, hfz, hnd⟩ := hW
  have hA : DataW.TrodAll enc Tryd.prog W 0 (fun _ => true) true Tryd.f5.params.toList args.toList ds p := hA0
  rw [pageTorn_params] at hA hval
  obtain ⟨v0, v1, v2, v3, v4, d0, d1, d2, d3, d4, p0, p1, p2, p3, p4, rfl, rfl, rfl, h0, h1, h2, h3, h4⟩ := trodAll_five hA
  obtain ⟨n0, rfl, rfl, rfl, x0⟩ := open_int Tryd.underlying3 (hval 0 _ v0 rfl rfl) h0
  have b0 := wf_int x0
  obtain ⟨A1, g1, l1, c1, rfl, b1⟩ := open_bytes Tryd.underlying22 Tryd.underlying5 (by kernel_rfl) (hval 1 _ v1 rfl rfl) h1
  obtain ⟨n2, rfl, rfl, rfl, x2⟩ := open_int Tryd.underlying3 (hval 2 _ v2 rfl rfl) h2
  have b2 := wf_int x2
  obtain ⟨A3, g3, l3, c3, rfl, b3⟩ := open_bytes Tryd.underlying22 Tryd.underlying5 (by kernel_rfl) (hval 3 _ v3 rfl rfl) h3
  obtain ⟨n4, rfl, rfl, rfl, x4⟩ := open_int Tryd.underlying3 (hval 4 _ v4 rfl rfl) h4
  have b4 := wf_int x4
  refine (torn_law n0 A1 g1 l1 c1 n2 A3 g3 l3 c3 n4 W b1 b3 (halves_of_laid hL)).mono fun e W' ⟨he, hb⟩ => ?_
  subst he
  exact ⟨_, rfl, law_post (P := Tryd.prog) Tryd.laidOut (by kernel_rfl) rfl Tryd.underlying4 rfl rfl hW' hb⟩
theorem pageTorn_row : Rows.PageTornSaid :=
  OpenClaim.holds_of_wide 5 Tryd.f5 rfl rfl rfl rfl rfl rfl rfl ⟨rfl, rfl, rfl, rfl, rfl⟩ rfl rfl rfl rfl rfl (by kernel_rfl) Tryd.func5 (by kernel_rfl)
    (of_decide_eq_true (by kernel_rfl)) (by unfold Func.isWrapper; first | (rw [if_pos (by decide +kernel)]; kernel_rfl) | (rw [if_neg (by decide +kernel)]; exact ⟨rfl, rfl⟩))
    (fun os started H enc _ => pageTorn_lifted os started H enc)
theorem pageTorn_holds : Rows.PageTornCardSaid :=
  Claim7.holds_tied_plain_at .later [] [.data] true _ false pageTorn_row (fun _ h => by cases h) (by kernel_rfl) (fun _ h => by cases h) pageTorn_row_tie rfl ⟨rfl, rfl⟩ (by kernel_rfl) rfl
    (fun f fn hf hfn => by
      obtain rfl : f = 5 := Option.some.inj ((show Tryd.prog.funcNamed "oxbow/oxbowlaw06.PageTorn" = some 5 by kernel_rfl).symm.trans hf) |>.symm
      obtain rfl : fn = Tryd.f5 := (Option.some.inj (Tryd.func5.symm.trans hfn)).symm
      exact ⟨by kernel_rfl, fun j t ht => by
        rw [pageTorn_params] at ht
        have hm : t ∈ [3, 22, 3, 22, 3] := by simpa using Array.mem_of_getElem? ht
        have hall : ([3, 22, 3, 22, 3].all fun u => !Tryd.prog.wantsStandIn u) = true := by kernel_rfl
        exact (show Tryd.prog.wantsStandIn t = false by simpa using List.all_eq_true.1 hall t hm)⟩)
    (by kernel_rfl)
#print axioms pageTorn_holds
end Go.Proofs.YtfilelgbffbnlaaDoor
