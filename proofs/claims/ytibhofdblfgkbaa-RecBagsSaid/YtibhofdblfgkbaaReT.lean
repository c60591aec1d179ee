/- Contracts of package rec: Union. -/
import Derived.Test.YtibhofdblfgkbaaReK
import Derived.Lib.AppendZerosOnto
namespace Go.Proofs.Ytibhofdblfgkbaa
open Go.RowKit Go.Sort

theorem wpList_app_eq {P : Program} {w w' : World} {ops : Array Oper} {rest : List Oper} {o : Oper} {a : Act} {Q : Exit → Act → World → Prop} (hgd : o.guard = none) (s x : Operand) (t t2 : TypeId)
    (ho : o.op = .call { callee := .builtin .append, args := #[s, x], argTypes := #[t, t2] }) {sv xv v' : Value} (hs : a.eval s = sv) (hx : a.eval x = xv) (hrun : (Builtin.append_ #[t, t2] o.type #[sv, xv]).run P w = .ok v' w')
    (h : wpList P ops Q rest (a.put o.dst v') w') : wpList P ops Q (o :: rest) a w :=
  wpList_plain hgd fun _ hK => by
    unfold Oper.wp execOp
    simp only [ho, resolve, invoke, builtin, Sem.run_bind, Sem.run_pure, Result.andThen_ok, List.map_toArray, List.map_cons, List.map_nil, hs, hx, hrun]
    exact hK _ _ h
set_option maxRecDepth 100000 in
set_option maxHeartbeats 1000000 in
theorem growRec_nil (n : Nat) (w : World) (hn : n ≤ 100000) :
    Calls Try.prog 104 #[.slice none 0 0, .int .i64 (n : Int)] w fun e w' => ∃ A c, e = .returned (.slice A 0 c) ∧ w'.ownsRow w.heap.size 24 2 (.slice A 0 c) 0 [] ∧ Below w.heap.size w w' := by
  have d1 : decide ((n : Int) < 0) = false := by rw [decide_eq_false_iff_not]; omega
  by_cases h0 : n = 0
  · subst h0
    go_enter Try.func104, Try.ntmps104
    go_wp2
    go_ret
    exact ⟨none, 0, rfl, World.ownsRow_nil _ _ _ _, Below.refl _ _⟩
  · obtain ⟨i0, hi0, hzz⟩ := Option.map_eq_some_iff.1 info_rec3
    simp only [Prod.mk.injEq] at hzz
    obtain ⟨hz0, hz1, hz2⟩ := hzz
    have d2 : decide ((0 : Int) < (n : Int)) = true := by rw [decide_eq_true_eq]; omega
    have hrz := fun ty => Lib.run_append_grow_zeros w 22 3 ty 24 i0 (.agg #[.int .i64 0, .int .i64 0]) .i64 .i64 Try.underlying22 Try.underlying3 hi0 hz0 none 0 0 [] (by rw [hz1]; exact run_firstCells_none w.drew 2 0 0 0) n (by omega) (by omega) (by omega) (by omega)
      (by rw [hz2]; omega)
      (growslice_fits (by omega) (by rw [hz2]; omega))
    simp only [Nat.zero_add] at hrz
    have hGn : n ≤ grownCap w n 0 24 := grownCap_ge w _ _ _
    have hG63 := grownCap_le_maxLen w n 0 24 (by unfold maxLen; omega)
    have hown : (w.drew.alloc (.cells (([] : List Value).toArray ++ Builtin.zeroCells (Value.agg #[.int .i64 0, .int .i64 0]).cells n ++ Builtin.zeroCells (Value.agg #[.int .i64 0, .int .i64 0]).cells (grownCap w n 0 24 - n)) 24)).ownsRow w.heap.size 24 2 (.slice (some ⟨w.heap.size, 0, none⟩) 0 (grownCap w n 0 24)) 0 [] :=
      ⟨by simp, .inr ⟨w.heap.size, _, _, rfl, Nat.le_refl _, heap_alloc_new w.drew _, Nat.zero_le _, hG63, by
        simp only [Array.size_append, List.size_toArray, size_zeroCells, List.length_nil]
        rw [show (Value.agg #[.int .i64 0, .int .i64 0]).cells.size = 2 from rfl]
        omega, by simp⟩⟩
    have HOWN := Lib.hid hown
    have HBL := Lib.hid (show Below w.heap.size w (w.drew.alloc (.cells (([] : List Value).toArray ++ Builtin.zeroCells (Value.agg #[.int .i64 0, .int .i64 0]).cells n ++ Builtin.zeroCells (Value.agg #[.int .i64 0, .int .i64 0]).cells (grownCap w n 0 24 - n)) 24)) from ⟨rfl, rfl, rfl, by simp, fun k hk => Below.heap_alloc w.drew _ k hk⟩)
    generalize w.drew.alloc (.cells (([] : List Value).toArray ++ Builtin.zeroCells (Value.agg #[.int .i64 0, .int .i64 0]).cells n ++ Builtin.zeroCells (Value.agg #[.int .i64 0, .int .i64 0]).cells (grownCap w n 0 24 - n)) 24) = w1 at hrz HOWN HBL
    generalize grownCap w n 0 24 = G at hrz HOWN hGn hG63
    clear hi0 hz0 hz1 hz2 hown
    unfold maxLen at hG63
    go_enter Try.func104, Try.ntmps104
    go_wp2_with (at_builtin; refine wpList_app_eq rfl (.tmp 20) (.tmp 21) _ _ rfl rfl rfl (hrz _) ?_)
    go_ret
    exact ⟨_, _, rfl, HOWN.out, HBL.out⟩
theorem list2 {w : World} {B : Nat} {va vb : Value} (t : TypeId) (h : Blk w B t #[va, vb]) : w.cell? ⟨B, 0, none⟩ = some va ∧ w.cell? ⟨B, 1, none⟩ = some vb := ⟨h.cell 0, h.cell 1⟩
set_option maxRecDepth 100000 in
set_option maxHeartbeats 4000000 in
theorem concatRec_two (A : Option Addr) (h : Nat) (a : List (Int × Int)) (c : Nat) (B : Option Addr) (g : Nat) (b : List (Int × Int)) (d : Nat) (G : Nat) (w : World) (ha : SlP w h A a) (hb : SlP w g B b) (la : a.length ≤ 10000) (lb : b.length ≤ 10000)
    (hG : Blk w G 22 #[.slice A a.length c, .slice B b.length d]) :
    Calls Try.prog 81 #[.slice (some ⟨G, 0, none⟩) 2 2] w fun e w' => ∃ A' c', e = .returned (.slice A' (a ++ b).length c') ∧ RowS w (a ++ b) A' c' w' := by
  have HA := Lib.hid ha
  have HB := Lib.hid hb
  have HG := Lib.hid hG
  have hGl := hG.lt
  have P1 := Lib.hid (fun W => growRec_nil (a.length + b.length) W (by omega))
  clear ha hb hG
  go_enter Try.func81, Try.ntmps81
  go_wp2_with fail
  go_loopw [3, 11] (fun s i wr => ∃ k : Nat, k ≤ 2 ∧ i = .int .i64 (k : Int) ∧ s = .int .i64 (if k = 0 then 0 else if k = 1 then (a.length : Int) else (a.length : Int) + (b.length : Int)) ∧ w = wr) (fun _ i _ => 2 - (intOf i).toNat)
  case atStart => exact ⟨0, by omega, rfl, rfl, rfl⟩
  case round =>
    obtain ⟨k, hk, rfl, rfl, rfl⟩ := hrel
    obtain ⟨q0, q1⟩ := list2 _ HG.out
    match k, hk with
    | 0, _ =>
      have d1 : decide ((a.length : Int) < 0) = false := by rw [decide_eq_false_iff_not]; omega
      go_wp2
      exact ⟨⟨1, by omega, rfl, by simp⟩, by decide⟩
    | 1, _ =>
      have d1 : decide ((a.length : Int) + (b.length : Int) < 0) = false := by rw [decide_eq_false_iff_not]; omega
      go_wp2
      exact ⟨⟨2, by omega, rfl, by simp⟩, by decide⟩
    | 2, _ =>
      clear q0 q1
      go_wp2_with fail
      refine (P1.out _).mono ?_; rintro e w1 ⟨A1, c1, rfl, o1, b1⟩
      have O1 := Lib.hid o1
      have B1 := Lib.hid b1
      have hs1 := b1.size
      clear o1 b1
      go_wp2_with fail
      go_loopw [6, 27] (fun v i wr => ∃ (k : Nat) (xs : List (Int × Int)) (A2 : Option Addr) (c2 : Nat), k ≤ 2 ∧ i = .int .i64 (k : Int) ∧ v = .slice A2 xs.length c2 ∧ xs = (if k = 0 then [] else if k = 1 then a else a ++ b) ∧ wr.ownsRow w.heap.size 24 2 v xs.length (Prs xs) ∧ w1.heap.size ≤ wr.heap.size ∧ Below w.heap.size w wr) (fun _ i _ => 2 - (intOf i).toNat)
      case atStart => exact ⟨0, [], A1, c1, by omega, rfl, rfl, rfl, O1.out, Nat.le_refl _, B1.out⟩
      case round =>
        obtain ⟨k, xs, A2, c2, hk, rfl, rfl, hxs, ho, hs2, hb⟩ := hrel
        have HO := Lib.hid ho
        have HBW := Lib.hid hb
        have HX := Lib.hid hxs
        have hsw := hb.size
        obtain ⟨q0, q1⟩ := list2 _ (HG.out.below hb hGl)
        clear ho hb hxs
        match k, hk with
        | 0, _ =>
          have hx0 : xs = [] := HX.out
          subst hx0
          have HR := Lib.hid (HA.out.below HBW.out).reads
          have HS := Lib.hid hsw
          go_wp2_with (at_builtin; (refine wpList_appP (ys := a) _ rfl (.tmp 31) (.tmp 32) _ rfl Try.underlying22 info_rec3 HO.out HR.out c rfl rfl (by simp only [List.length_nil]; omega) HS.out ?_); intro A5 c5 w5 o5 gr5; have O5 := Lib.hid o5; have G5 := Lib.hid gr5; clear o5 gr5)
          have B5 := Lib.hid (HBW.out.grown (Grew.by_ G5.out) hsw fun i hi => (World.ownsRow.lt HO.out i hi).1)
          have o5 := O5.out
          rw [List.length_nil, Nat.zero_add] at o5
          exact ⟨⟨1, a, A5, c5, by omega, rfl, by simp, rfl, o5, Nat.le_trans hs2 (Grew.by_ G5.out).size, B5.out⟩, by decide⟩
        | 1, _ =>
          have hx0 : xs = a := HX.out
          subst hx0
          have HR := Lib.hid (HB.out.below HBW.out).reads
          have HS := Lib.hid hsw
          go_wp2_with (at_builtin; (refine wpList_appP (ys := b) _ rfl (.tmp 31) (.tmp 32) _ rfl Try.underlying22 info_rec3 HO.out HR.out d rfl rfl (by omega) HS.out ?_); intro A5 c5 w5 o5 gr5; have O5 := Lib.hid o5; have G5 := Lib.hid gr5; clear o5 gr5)
          have B5 := Lib.hid (HBW.out.grown (Grew.by_ G5.out) hsw fun i hi => (World.ownsRow.lt HO.out i hi).1)
          exact ⟨⟨2, xs ++ b, A5, c5, by omega, rfl, by rw [List.length_append], rfl, by rw [List.length_append]; exact O5.out, Nat.le_trans hs2 (Grew.by_ G5.out).size, B5.out⟩, by decide⟩
        | 2, _ =>
          have hx0 : xs = a ++ b := HX.out
          clear q0 q1
          go_wp2
          go_ret
          rw [← hx0]
          exact ⟨A2, c2, rfl, RowS.own HBW.out HO.out (Nat.le_refl _)⟩
set_option maxRecDepth 100000 in
set_option maxHeartbeats 2000000 in
theorem rc_union_no (A : Option Addr) (h : Nat) (a : List (Int × Int)) (c : Nat) (B : Option Addr) (g : Nat) (b : List (Int × Int)) (d : Nat) (w : World) (ha : SlP w h A a) (hb : SlP w g B b) (la : a.length ≤ 9223372036854775807) (lb : b.length ≤ 9223372036854775807) (h0 : bothE a b ≠ 0) :
    Calls Try.prog 30 #[.slice A a.length c, .slice B b.length d] w fun e w' => e = .returned (.tuple #[.slice none 0 0, .int .i64 (bothE a b)]) ∧ Below w.heap.size w w' := by
  have P1 := Lib.hid (mayBoth_any A h a c B g b d w ha hb la lb)
  have d1 : (bothE a b == 0) = false := by simpa using h0
  generalize bothE a b = z at P1 d1
  clear h0 ha hb
  go_enter Try.func30, Try.ntmps30
  go_wp2_with fail
  refine P1.out.mono ?_; rintro e w0 ⟨rfl, b0⟩
  go_wp2
  go_ret2
  exact ⟨rfl, b0⟩
set_option maxRecDepth 100000 in
set_option maxHeartbeats 4000000 in
theorem rc_union_ok (A : Option Addr) (h : Nat) (a : List (Int × Int)) (c : Nat) (B : Option Addr) (g : Nat) (b : List (Int × Int)) (d : Nat) (w : World) (ha : SlP w h A a) (hb : SlP w g B b) (h1 : mayE a = 0) (h2 : mayE b = 0) :
    Calls Try.prog 30 #[.slice A a.length c, .slice B b.length d] w fun e w' => (mayE (a ++ b) ≠ 0 ∧ e = .returned (.tuple #[.slice none 0 0, .int .i64 (mayE (a ++ b))]) ∧ Below w.heap.size w w') ∨ (mayE (a ++ b) = 0 ∧ ∃ A' c', e = .returned (.tuple #[.slice A' (srt (a ++ b)).length c', .int .i64 0]) ∧ RowS w (srt (a ++ b)) A' c' w') := by
  obtain ⟨-, la⟩ := mayE_ok h1
  obtain ⟨-, lb⟩ := mayE_ok h2
  have P1 := Lib.hid (mayBoth_any A h a c B g b d w ha hb (by omega) (by omega))
  rw [show bothE a b = 0 by unfold bothE; rw [if_pos h1]; exact h2] at P1
  have P2 := Lib.hid (fun W (k : Below w.heap.size w W) => concatRec_two A h a c B g b d W.heap.size (W.alloc (.cells #[.slice A a.length c, .slice B b.length d] 22)) ((ha.below k).below (alloc_below W _)) ((hb.below k).below (alloc_below W _)) (by omega) (by omega) (Blk.new W _ _))
  have P3 := Lib.hid (fun W A' h' c' (s : SlP W h' A' (a ++ b)) => rc_sort_any A' h' (a ++ b) c' W s (by rw [List.length_append]; omega))
  have hlen := srt_length (a ++ b)
  have HL := Lib.hid hlen
  clear ha hb h1 h2 hlen
  generalize hM : a ++ b = M at P2 P3 HL ⊢
  have HBX := Lib.hid (fun W => alloc_below W (.cells #[.slice A a.length c, .slice B b.length d] 22))
  clear hM
  go_enter Try.func30, Try.ntmps30
  go_wp2_with fail
  refine P1.out.mono ?_; rintro e w0 ⟨rfl, b0⟩
  go_wp2_with fail
  refine (P2.out _ b0).mono ?_; rintro e w1 ⟨A1, c1, rfl, ⟨⟨h1, s1⟩, b1, -⟩⟩
  have B1 := Lib.hid (below_trans (below_trans b0 (HBX.out _)) b1)
  have S1 := Lib.hid s1
  clear s1 b1 b0
  go_wp2_with fail
  refine (P3.out _ _ _ _ S1.out).mono ?_; rintro e w2 (⟨hz, rfl, b2⟩ | ⟨hz, A2, c2, rfl, hr⟩)
  · have HZ := Lib.hid hz
    clear hz
    go_wp2
    go_ret2
    exact .inl ⟨HZ.out, rfl, below_trans B1.out b2⟩
  · have HZ := Lib.hid hz
    have HR := Lib.hid hr.s
    clear hz hr
    go_wp2
    go_ret2
    obtain ⟨k1, k2, k3⟩ := HR.out
    refine .inr ⟨HZ.out, A2, c2, by rw [HL.out]; rfl, k1, below_trans B1.out k2, fun hne => ?_⟩
    obtain ⟨g', e1, e2, e3⟩ := k3 hne
    exact ⟨g', e1, Nat.le_trans B1.out.size e2, e3⟩
end Go.Proofs.Ytibhofdblfgkbaa
