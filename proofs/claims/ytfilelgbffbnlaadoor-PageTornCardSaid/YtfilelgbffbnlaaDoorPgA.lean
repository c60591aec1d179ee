/- Contracts of package page: Grow and Concat at bytes; may a tag be. -/
import Derived.Test.YtfilelgbffbnlaaDoorPgM
import Derived.Test.YtfilelgbffbnlaaDoorNumG
import Derived.Test.YtfilelgbffbnlaaDoorRegR
import Derived.Lib.AppendZerosOnto
namespace Go.Proofs.YtfilelgbffbnlaaDoor
open Go.RowKit

theorem wpList_app_eq {P : Program} {w w' : World} {ops : Array Oper} {rest : List Oper} {o : Oper} {a : Act} {Q : Exit → Act → World → Prop} (hgd : o.guard = none) (s x : Operand) (t t2 : TypeId)
    (ho : o.op = .call { callee := .builtin .append, args := #[s, x], argTypes := #[t, t2] }) {sv xv v' : Value} (hs : a.eval s = sv) (hx : a.eval x = xv) (hrun : (Builtin.append_ #[t, t2] o.type #[sv, xv]).run P w = .ok v' w')
    (h : wpList P ops Q rest (a.put o.dst v') w') : wpList P ops Q (o :: rest) a w :=
  wpList_plain hgd fun _ hK => by
    unfold Oper.wp execOp
    simp only [ho, resolve, invoke, builtin, Sem.run_bind, Sem.run_pure, Result.andThen_ok, List.map_toArray, List.map_cons, List.map_nil, hs, hx, hrun]
    exact hK _ _ h
theorem mayTag_any (n : Int) (w : World) : Calls Tryd.prog 17 #[.int .i64 n] w fun e w' => e = .returned (.bool (okTag n)) ∧ w = w' := by
  unfold okTag
  by_cases h : 1 ≤ n
  · by_cases h2 : n ≤ 4611686018427387903
    · have d1 : decide (1 ≤ n) = true := by simpa using h
      have d2 : decide (n ≤ 4611686018427387903) = true := by simpa using h2
      rw [d1, d2]
      go_enter Tryd.func17, Tryd.ntmps17
      go_wp2
      go_ret
      exact ⟨rfl, rfl⟩
    · have d1 : decide (1 ≤ n) = true := by simpa using h
      have d2 : decide (n ≤ 4611686018427387903) = false := by simpa using h2
      rw [d1, d2]
      go_enter Tryd.func17, Tryd.ntmps17
      go_wp2
      go_ret
      exact ⟨rfl, rfl⟩
  · have d1 : decide (1 ≤ n) = false := by simpa using h
    rw [d1]
    go_enter Tryd.func17, Tryd.ntmps17
    go_wp2
    go_ret
    exact ⟨rfl, rfl⟩
theorem rmay_any (n : Int) (w : World) : Calls Tryd.prog 9 #[.int .i64 n] w fun e w' => e = .returned (.bool (okTag n)) ∧ w = w' := by
  unfold okTag
  by_cases h : 1 ≤ n
  · by_cases h2 : n ≤ 4611686018427387903
    · have d1 : decide (1 ≤ n) = true := by simpa using h
      have d2 : decide (n ≤ 4611686018427387903) = true := by simpa using h2
      rw [d1, d2]
      go_enter Tryd.func9, Tryd.ntmps9
      go_wp2
      go_ret
      exact ⟨rfl, rfl⟩
    · have d1 : decide (1 ≤ n) = true := by simpa using h
      have d2 : decide (n ≤ 4611686018427387903) = false := by simpa using h2
      rw [d1, d2]
      go_enter Tryd.func9, Tryd.ntmps9
      go_wp2
      go_ret
      exact ⟨rfl, rfl⟩
  · have d1 : decide (1 ≤ n) = false := by simpa using h
    rw [d1]
    go_enter Tryd.func9, Tryd.ntmps9
    go_wp2
    go_ret
    exact ⟨rfl, rfl⟩
set_option maxRecDepth 100000 in
set_option maxHeartbeats 1000000 in
theorem growU8_nil (n : Nat) (w : World) (hn : n ≤ 100000) :
    Calls Tryd.prog 31 #[.slice none 0 0, .int .i64 (n : Int)] w fun e w' => ∃ A c, e = .returned (.slice A 0 c) ∧ w'.ownsRow w.heap.size 5 1 (.slice A 0 c) 0 (Byt []) ∧ Below w.heap.size w w' := by
  have d1 : decide ((n : Int) < 0) = false := by rw [decide_eq_false_iff_not]; omega
  by_cases h0 : n = 0
  · subst h0
    go_enter Tryd.func31, Tryd.ntmps31
    go_wp2
    go_ret
    exact ⟨none, 0, rfl, World.ownsRow_nil _ _ _ _, Below.refl _ _⟩
  · obtain ⟨i0, hi0, hzz⟩ := Option.map_eq_some_iff.1 info_u8
    simp only [Prod.mk.injEq] at hzz
    obtain ⟨hz0, hz1, hz2⟩ := hzz
    have d2 : decide ((0 : Int) < (n : Int)) = true := by rw [decide_eq_true_eq]; omega
    have hrz := fun ty => Lib.run_append_grow_zeros w 22 3 ty 5 i0 (.int .u8 0) .i64 .i64 Tryd.underlying22 Tryd.underlying3 hi0 hz0 none 0 0 [] (by rw [hz1]; exact run_firstCells_none w.drew 1 0 0 0) n (by omega) (by omega) (by omega) (by omega)
      (by rw [hz2]; omega)
      (growslice_fits (by omega) (by rw [hz2]; omega))
    simp only [Nat.zero_add] at hrz
    have hGn : n ≤ grownCap w n 0 5 := grownCap_ge w _ _ _
    have hG63 := grownCap_le_maxLen w n 0 5 (by unfold maxLen; omega)
    have hown : (w.drew.alloc (.cells (([] : List Value).toArray ++ Builtin.zeroCells (Value.int .u8 0).cells n ++ Builtin.zeroCells (Value.int .u8 0).cells (grownCap w n 0 5 - n)) 5)).ownsRow w.heap.size 5 1 (.slice (some ⟨w.heap.size, 0, none⟩) 0 (grownCap w n 0 5)) 0 (Byt []) :=
      ⟨by simp [Byt], .inr ⟨w.heap.size, _, _, rfl, Nat.le_refl _, heap_alloc_new w.drew _, Nat.zero_le _, hG63, by
        simp only [Array.size_append, List.size_toArray, size_zeroCells, List.length_nil]
        rw [show (Value.int .u8 0).cells.size = 1 from rfl]
        omega, by simp [Byt]⟩⟩
    have HOWN := Lib.hid hown
    have HBL := Lib.hid (show Below w.heap.size w (w.drew.alloc (.cells (([] : List Value).toArray ++ Builtin.zeroCells (Value.int .u8 0).cells n ++ Builtin.zeroCells (Value.int .u8 0).cells (grownCap w n 0 5 - n)) 5)) from ⟨rfl, rfl, rfl, by simp, fun k hk => Below.heap_alloc w.drew _ k hk⟩)
    generalize w.drew.alloc (.cells (([] : List Value).toArray ++ Builtin.zeroCells (Value.int .u8 0).cells n ++ Builtin.zeroCells (Value.int .u8 0).cells (grownCap w n 0 5 - n)) 5) = w1 at hrz HOWN HBL
    generalize grownCap w n 0 5 = G at hrz HOWN hGn hG63
    clear hi0 hz0 hz1 hz2 hown
    unfold maxLen at hG63
    go_enter Tryd.func31, Tryd.ntmps31
    go_wp2_with (at_builtin; refine wpList_app_eq rfl (.tmp 20) (.tmp 21) _ _ rfl rfl rfl (hrz _) ?_)
    go_ret
    exact ⟨_, _, rfl, HOWN.out, HBL.out⟩
theorem list3 {w : World} {B : Nat} {va vb vc : Value} {t : TypeId} (h : Blk w B t #[va, vb, vc]) : w.cell? ⟨B, 0, none⟩ = some va ∧ w.cell? ⟨B, 1, none⟩ = some vb ∧ w.cell? ⟨B, 2, none⟩ = some vc := ⟨h.cell 0, h.cell 1, h.cell 2⟩
set_option maxRecDepth 100000 in
set_option maxHeartbeats 4000000 in
theorem concatU8_three (A : Option Addr) (h : Nat) (a : List UInt8) (c : Nat) (B : Option Addr) (g : Nat) (b : List UInt8) (d : Nat) (C : Option Addr) (i3 : Nat) (m : List UInt8) (e3 : Nat) (G : Nat) (w : World) (ha : SlB w h A a) (hb : SlB w g B b) (hm : SlB w i3 C m)
    (la : a.length ≤ 10000) (lb : b.length ≤ 10000) (lm : m.length ≤ 10000) (hG : Blk w G 22 #[.slice A a.length c, .slice B b.length d, .slice C m.length e3]) :
    Calls Tryd.prog 19 #[.slice (some ⟨G, 0, none⟩) 3 3] w (OwnB w (a ++ b ++ m)) := by
  have HA := Lib.hid ha
  have HB := Lib.hid hb
  have HM := Lib.hid hm
  have HG := Lib.hid hG
  have hGl := hG.lt
  have P1 := Lib.hid (fun W => growU8_nil (a.length + b.length + m.length) W (by omega))
  clear ha hb hG hm
  go_enter Tryd.func19, Tryd.ntmps19
  go_wp2_with fail
  go_loopw [3, 11] (fun s i wr => ∃ k : Nat, k ≤ 3 ∧ i = .int .i64 (k : Int) ∧ s = .int .i64 (if k = 0 then 0 else if k = 1 then (a.length : Int) else if k = 2 then (a.length : Int) + (b.length : Int) else (a.length : Int) + (b.length : Int) + (m.length : Int)) ∧ w = wr) (fun _ i _ => 3 - (intOf i).toNat)
  case atStart => exact ⟨0, by omega, rfl, rfl, rfl⟩
  case round =>
    obtain ⟨k, hk, rfl, rfl, rfl⟩ := hrel
    obtain ⟨q0, q1, q2⟩ := list3 HG.out
    match k, hk with
    | 0, _ =>
      have d1 : decide ((a.length : Int) < 0) = false := by rw [decide_eq_false_iff_not]; omega
      go_wp2
      exact ⟨⟨1, by omega, rfl, by simp⟩, by decide⟩
    | 1, _ =>
      have d1 : decide ((a.length : Int) + (b.length : Int) < 0) = false := by rw [decide_eq_false_iff_not]; omega
      go_wp2
      exact ⟨⟨2, by omega, rfl, by simp⟩, by decide⟩
    | 2, _ =>
      have d1 : decide ((a.length : Int) + (b.length : Int) + (m.length : Int) < 0) = false := by rw [decide_eq_false_iff_not]; omega
      go_wp2
      exact ⟨⟨3, by omega, rfl, by simp⟩, by decide⟩
    | 3, _ =>
      clear q0 q1 q2
      go_wp2_with fail
      refine (P1.out _).mono ?_; rintro e w1 ⟨A1, c1, rfl, o1, b1⟩
      have O1 := Lib.hid o1
      have B1 := Lib.hid b1
      clear o1 b1
      go_wp2_with fail
      go_loopw [6, 27] (fun v i wr => ∃ (k : Nat) (xs : List UInt8) (A2 : Option Addr) (c2 : Nat), k ≤ 3 ∧ i = .int .i64 (k : Int) ∧ v = .slice A2 xs.length c2 ∧ xs = (if k = 0 then [] else if k = 1 then a else if k = 2 then a ++ b else a ++ b ++ m) ∧ wr.ownsRow w.heap.size 5 1 v xs.length (Byt xs) ∧ Below w.heap.size w wr) (fun _ i _ => 3 - (intOf i).toNat)
      case atStart => exact ⟨0, [], A1, c1, by omega, rfl, rfl, rfl, O1.out, B1.out⟩
      case round =>
        obtain ⟨k, xs, A2, c2, hk, rfl, rfl, hxs, ho, hb⟩ := hrel
        have HO := Lib.hid ho
        have HBW := Lib.hid hb
        have HX := Lib.hid hxs
        have hsw := hb.size
        obtain ⟨q0, q1, q2⟩ := list3 (HG.out.below hb hGl)
        clear ho hb hxs
        match k, hk with
        | 0, _ =>
          have hx0 : xs = [] := HX.out
          subst hx0
          have HR := Lib.hid (SlB.reads (n := a.length) (HA.out.below HBW.out fun h => h) rfl)
          have HS := Lib.hid hsw
          go_wp2_with (at_builtin; (refine wpList_appB (ys := a) _ rfl (.tmp 31) (.tmp 32) _ rfl Tryd.underlying22 info_u8 HO.out HR.out c rfl rfl (by simp only [List.length_nil]; omega) HS.out ?_); intro A5 c5 w5 o5 gr5; have O5 := Lib.hid o5; have G5 := Lib.hid gr5; clear o5 gr5)
          have B5 := Lib.hid (HBW.out.grown (Grew.by_ G5.out) hsw fun i hi => (World.ownsRow.lt HO.out i hi).1)
          have o5 := O5.out
          rw [List.length_nil, Nat.zero_add] at o5
          exact ⟨⟨1, a, A5, c5, by omega, rfl, by simp, rfl, o5, B5.out⟩, by decide⟩
        | 1, _ =>
          have hx0 : xs = a := HX.out
          subst hx0
          have HR := Lib.hid (SlB.reads (n := b.length) (HB.out.below HBW.out fun h => h) rfl)
          have HS := Lib.hid hsw
          go_wp2_with (at_builtin; (refine wpList_appB (ys := b) _ rfl (.tmp 31) (.tmp 32) _ rfl Tryd.underlying22 info_u8 HO.out HR.out d rfl rfl (by omega) HS.out ?_); intro A5 c5 w5 o5 gr5; have O5 := Lib.hid o5; have G5 := Lib.hid gr5; clear o5 gr5)
          have B5 := Lib.hid (HBW.out.grown (Grew.by_ G5.out) hsw fun i hi => (World.ownsRow.lt HO.out i hi).1)
          exact ⟨⟨2, xs ++ b, A5, c5, by omega, rfl, by rw [List.length_append], rfl, by rw [List.length_append]; exact O5.out, B5.out⟩, by decide⟩
        | 2, _ =>
          have hx0 : xs = a ++ b := HX.out
          have hxl := congrArg List.length hx0
          rw [List.length_append] at hxl
          have HXL := Lib.hid hxl
          have hxm : xs.length + m.length ≤ 140737488355328 := by omega
          clear hxl hx0
          have HR := Lib.hid (SlB.reads (n := m.length) (HM.out.below HBW.out fun h => h) rfl)
          have HS := Lib.hid hsw
          go_wp2_with (at_builtin; (refine wpList_appB (ys := m) _ rfl (.tmp 31) (.tmp 32) _ rfl Tryd.underlying22 info_u8 HO.out HR.out e3 rfl rfl hxm HS.out ?_); intro A5 c5 w5 o5 gr5; have O5 := Lib.hid o5; have G5 := Lib.hid gr5; clear o5 gr5)
          have B5 := Lib.hid (HBW.out.grown (Grew.by_ G5.out) hsw fun i hi => (World.ownsRow.lt HO.out i hi).1)
          exact ⟨⟨3, xs ++ m, A5, c5, by omega, rfl, by rw [List.length_append], by rw [show xs = a ++ b from HX.out]; rfl, by rw [List.length_append]; exact O5.out, B5.out⟩, by decide⟩
        | 3, _ =>
          have hx0 : xs = a ++ b ++ m := HX.out
          clear q0 q1 q2
          go_wp2
          go_ret
          rw [← hx0]
          exact ⟨A2, c2, rfl, HO.out, HBW.out⟩
end Go.Proofs.YtfilelgbffbnlaaDoor
