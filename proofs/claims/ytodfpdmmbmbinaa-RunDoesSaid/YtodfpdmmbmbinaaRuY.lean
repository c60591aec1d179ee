/- For every int and every slice of calls told in data the law oxbowlaw12.RunDoes returns true: a run answers every call, in every order, as the document's run does. No condition. -/
import Derived.Test.YtodfpdmmbmbinaaOpE
import Derived.Test.YtodfpdmmbmbinaaRuX
import Derived.Test.YtodfpdmmbmbinaaRw
import Derived.Test.YtodfpdmmbmbinaaOp
namespace Go.Proofs.Ytodfpdmmbmbinaa
open Go.ChangeShapes Go.WideShapes Go.ChangeAt Go.RowKit Go.ChangeMaps Go.Deep
section
variable {H : Type} {enc : TypeId × Value → H} {w : World} {spare : Nat → Bool}
theorem slice_formM {P : Program} {t e : TypeId} {fuel base : Nat} {held : Bool} {cs : List Value} {x : DataW H × List MemPlace} (ht : P.underlying t = some (.slice e)) (h : DataW.trod enc P w base spare held fuel t cs = some x) : ∃ A l c, cs = [.slice A l c] := by
  rcases DataW.trod_slice ht h with ⟨hcs, -⟩ | ⟨a, len, cap, elems, rest, n, _, hcs, -⟩
  · exact ⟨_, _, _, hcs⟩
  · exact ⟨_, _, _, hcs⟩
set_option maxRecDepth 100000 in
theorem open_rop {r : Reach} {b0 : Nat} {v : Value} {d : DataW H} {ps : List MemPlace} (hval : Value.okWide Try.prog w r b0 68 v) (hd : DataW.Trod enc Try.prog w 0 spare true 68 v d ps) : ∃ z : RopIn, v = .agg (ropV z) := by
  obtain ⟨cs, rfl, hcs⟩ := okWide_struct Try.underlying68 hval
  obtain ⟨fuel, hf⟩ := hd
  have c0 : Try.prog.cellsOf 68 = 6 := by kernel_rfl
  have c1 : Try.prog.cellsOf 3 = 1 := by kernel_rfl
  have c2 : Try.prog.cellsOf 65 = 4 := by kernel_rfl
  have c3 : Try.prog.cellsOf 66 = 1 := by kernel_rfl
  rw [c0] at hcs
  obtain ⟨l⟩ := cs
  have hl : l.length = 6 := by simpa using hcs
  have hf' : DataW.trod enc Try.prog w 0 spare true fuel 68 l = some (d, ps) := by simpa [Value.cells] using hf
  obtain ⟨xs, k, -, -, -, hxl, hh⟩ := DataW.trod_struct Try.underlying68 hf'
  match l, hl with
  | [v0, v1, v2, v3, v4, v5], _ =>
    have hx3 : xs.length = 3 := hxl
    match xs, hx3 with
    | [y0, y1, y2], _ =>
      have g0 := hh 0 _ rfl
      have g1 := hh 1 _ rfl
      have g2 := hh 2 _ rfl
      simp [c1, c2, c3] at g0 g1 g2
      obtain ⟨n0, e0, -, -⟩ := DataW.trod_int Try.underlying3 g0
      obtain ⟨z, e1⟩ := trod_en enT (by rfl) g1
      obtain ⟨A2, l2, k2, e2⟩ := slice_formM Try.underlying66 g2
      obtain ⟨⟨a, b⟩, c, e⟩ := z
      injection e0 with e0
      injection e2 with e2
      have e1' : v1 = .int .i64 a ∧ v2 = .int .i64 b ∧ v3 = .int .i64 c ∧ v4 = .int .i64 e := by simpa [encE] using e1
      obtain ⟨rfl, rfl, rfl, rfl⟩ := e1'
      subst e0 e2
      exact ⟨⟨n0, ((a, b), (c, e)), A2, l2, k2⟩, rfl⟩
end
end Go.Proofs.Ytodfpdmmbmbinaa

namespace Go.Proofs.Ytodfpdmmbmbinaa
open Go.ChangeShapes Go.WideShapes Go.ChangeAt Go.RowKit Go.ChangeMaps Go.Deep
/-- A call, and the moments that its slice holds. -/
structure RopF where
  z : RopIn
  f : List (Int × Int)
  hf : Nat
def RopF.good (w : World) (x : RopF) : Prop := x.z.n = x.f.length ∧ SlP w x.hf x.z.F x.f ∧ (x.f ≠ [] → x.hf < w.heap.size)
/-- Calls lie in a row. -/
def InR (w : World) (A : Option Addr) (l : List RopF) : Prop :=
  (l ≠ [] → ∃ g off, A = some ⟨g, off, none⟩ ∧ g < w.heap.size ∧ ∀ (i : Nat) (x : RopF), l[i]? = some x → ∀ (j : Nat) (v : Value), j < 6 → (ropV x.z)[j]? = some v → w.cell? ⟨g, off + i * 6 + j, none⟩ = some v) ∧ ∀ x ∈ l, x.good w
section
variable {H : Type} {enc : TypeId × Value → H} {P : Program} {w : World} {spare : Nat → Bool}
theorem trod_pairs {t e : TypeId} {f0 f1 : Field} {fuel base : Nat} {held : Bool} {cs : List Value} {xx : DataW H × List MemPlace} (ht : P.underlying t = some (.slice e)) (he : P.underlying e = some (.struct #[f0, f1])) (ce : P.cellsOf e = 2) (o0 : f0.offset = 0) (o1 : f1.offset = 1)
    (c0 : P.cellsOf f0.type = 1) (c1 : P.cellsOf f1.type = 1) (i0 : P.underlying f0.type = some (.int .i64)) (i1 : P.underlying f1.type = some (.int .i64))
    (hf : DataW.trod enc P w base spare held fuel t cs = some xx) : ∃ A g l c, cs = [.slice A l.length c] ∧ SlP w g A l ∧ (l ≠ [] → g < w.heap.size) := by
  rcases Go.Deep.open_slice_pairs ht he ce o0 o1 c0 c1 hf with ⟨hcs, -⟩ | ⟨a, len0, cap0, m, n, V0, V1, D0, D1, P0, P1, hcs, -, hl, hm, hmm, -, hx⟩
  · exact ⟨none, 0, [], 0, hcs, SlP.nil _ _ _, fun h => absurd rfl h⟩
  · have hlm : len0 ≤ m := by rw [hmm]; split <;> omega
    have hint : ∀ i, i < m → ∃ z : Int × Int, V0 i = .int .i64 z.1 ∧ V1 i = .int .i64 z.2 := fun i hi => by
      obtain ⟨-, -, t0, t1⟩ := hx i hi
      obtain ⟨n0, e0, -⟩ := DataW.trod_int i0 t0
      obtain ⟨n1, e1, -⟩ := DataW.trod_int i1 t1
      exact ⟨(n0, n1), by simpa using e0, by simpa using e1⟩
    have hs : SlP w a.block (some a) ((List.range len0).map fun i => (intOf (V0 i), intOf (V1 i))) := by
      intro hne
      have hpos : 0 < len0 := by
        rcases Nat.eq_zero_or_pos len0 with h | h
        · subst h; exact absurd rfl hne
        · exact h
      obtain ⟨b, off, spot⟩ := a
      obtain ⟨k0, -, -, -⟩ := hx 0 (by omega)
      have hspot : spot = none := by simpa [Addr.add] using World.cell?_spot k0
      subst hspot
      refine ⟨World.block_lt_of_cell? w _ (by simpa [Addr.add] using k0), off, rfl, fun j u hj => ?_⟩
      have hjl : j < len0 * 2 := by
        have := (List.getElem?_eq_some_iff.1 hj).1
        rw [Prs_length] at this
        simpa using this
      have hq : j / 2 < len0 := by omega
      obtain ⟨z, e0, e1⟩ := hint (j / 2) (by omega)
      obtain ⟨q0, q1, -, -⟩ := hx (j / 2) (by omega)
      have hz : ((List.range len0).map fun i => (intOf (V0 i), intOf (V1 i)))[j / 2]? = some z := by
        rw [List.getElem?_map, List.getElem?_range hq, Option.map_some, e0, e1]; rfl
      obtain ⟨p0, p1⟩ := Prs_get _ _ _ hz
      rw [Addr.add_lit] at q0 q1
      rcases Nat.mod_two_eq_zero_or_one j with h | h
      · have ej : j = j / 2 * 2 := by omega
        rw [ej, p0] at hj
        rw [ej, q0, e0]
        exact hj
      · have ej : j = j / 2 * 2 + 1 := by omega
        rw [ej, p1] at hj
        rw [ej, q1, e1]
        exact hj
    exact ⟨some a, a.block, _, cap0, by rw [hcs]; simp, hs, fun hne => (hs hne).1⟩
set_option maxRecDepth 100000 in
theorem trod_rop {w : World} {fuel base : Nat} {held : Bool} {l : List Value} {xx : DataW H × List MemPlace} (hl : l.length = 6) (hf' : DataW.trod enc Try.prog w base spare held fuel 68 l = some xx) : ∃ x : RopF, l = (ropV x.z).toList ∧ x.good w := by
  have c1 : Try.prog.cellsOf 3 = 1 := by kernel_rfl
  have c2 : Try.prog.cellsOf 65 = 4 := by kernel_rfl
  have c3 : Try.prog.cellsOf 66 = 1 := by kernel_rfl
  obtain ⟨xs, k, -, -, -, hxl, hh⟩ := DataW.trod_struct Try.underlying68 hf'
  match l, hl with
  | [v0, v1, v2, v3, v4, v5], _ =>
    have hx3 : xs.length = 3 := hxl
    match xs, hx3 with
    | [y0, y1, y2], _ =>
      have g0 := hh 0 _ rfl
      have g1 := hh 1 _ rfl
      have g2 := hh 2 _ rfl
      simp [c1, c2, c3] at g0 g1 g2
      obtain ⟨n0, e0, -, -⟩ := DataW.trod_int Try.underlying3 g0
      obtain ⟨z, e1⟩ := trod_en enT (by rfl) g1
      obtain ⟨A2, hg, f, k2, e2, hs, hlt⟩ := trod_pairs Try.underlying66 Try.underlying61 (by kernel_rfl) rfl rfl (by kernel_rfl) (by kernel_rfl) Try.underlying3 Try.underlying3 g2
      obtain ⟨⟨a, b⟩, c, e⟩ := z
      injection e0 with e0
      injection e2 with e2
      have e1' : v1 = .int .i64 a ∧ v2 = .int .i64 b ∧ v3 = .int .i64 c ∧ v4 = .int .i64 e := by simpa [encE] using e1
      obtain ⟨rfl, rfl, rfl, rfl⟩ := e1'
      subst e0 e2
      exact ⟨⟨⟨n0, ((a, b), (c, e)), A2, f.length, k2⟩, f, hg⟩, rfl, rfl, hs, hlt⟩
set_option maxRecDepth 100000 in
theorem open_rops {w : World} {r : Reach} {b0 : Nat} {v : Value} {d : DataW H} {ps : List MemPlace} (hval : Value.okWide Try.prog w r b0 54 v) (hd : DataW.Trod enc Try.prog w 0 spare true 54 v d ps) : ∃ A l c, v = .slice A l.length c ∧ InR w A l := by
  obtain ⟨a0, len0, cap0, rfl⟩ := okWide_slice Try.underlying54 hval
  obtain ⟨fuel, hf⟩ := hd
  have ce : Try.prog.cellsOf 68 = 6 := by kernel_rfl
  rcases open_slice Try.underlying54 hf with ⟨hcs, -⟩ | ⟨a, len, cap, m, n, D, Pl, hcs, -, hl, hm, hmm, -, hx⟩
  · simp [Value.cells] at hcs
    obtain ⟨rfl, rfl, rfl⟩ := hcs
    exact ⟨none, [], 0, rfl, fun h => absurd rfl h, fun x hx => by cases hx⟩
  · simp [Value.cells] at hcs
    obtain ⟨rfl, rfl, rfl⟩ := hcs
    have hlm : len0 ≤ m := by rw [hmm]; split <;> omega
    have each : ∀ i, i < m → ∃ z : RopF, (∀ j, j < 6 → w.cell? (a.add (i * 6 + j)) = (ropV z.z)[j]?) ∧ z.good w := fun i hi => by
      obtain ⟨cs', h1, h2⟩ := hx i hi
      rw [ce] at h1
      obtain ⟨_, hlen, hcell⟩ := World.cells?_some h1
      obtain ⟨z, rfl, hz⟩ := trod_rop hlen h2
      refine ⟨z, fun j hj => ?_, hz⟩
      have := hcell j hj
      rw [add_add] at this
      rw [this, Array.getElem?_toList]
    have : Inhabited RopF := ⟨⟨⟨0, ((0, 0), (0, 0)), none, 0, 0⟩, [], 0⟩⟩
    obtain ⟨q, hq⟩ := choose_lt each
    refine ⟨some a, (List.range len0).map q, cap0, by simp, fun hne => ?_, fun x hx => ?_⟩
    · have hpos : 0 < len0 := by
        rcases Nat.eq_zero_or_pos len0 with h | h
        · subst h; exact absurd rfl hne
        · exact h
      obtain ⟨b, off, spot⟩ := a
      have k0 : w.cell? ((⟨b, off, spot⟩ : Addr).add 0) = some (.int .i64 (q 0).z.k) := by
        have := (hq 0 (by omega)).1 0 (by omega)
        rw [Nat.zero_mul, Nat.add_zero] at this
        exact this
      have hspot : spot = none := by simpa [Addr.add] using World.cell?_spot k0
      subst hspot
      refine ⟨b, off, rfl, World.block_lt_of_cell? w _ k0, fun i x hi j v hj hv => ?_⟩
      have hil : i < len0 := by
        have := (List.getElem?_eq_some_iff.1 hi).1
        simpa using this
      rw [List.getElem?_map, List.getElem?_range hil, Option.map_some] at hi
      injection hi with hi
      have h6 := (hq i (by omega)).1 j hj
      rw [Addr.add_lit, hi, hv] at h6
      rw [Nat.add_assoc]
      exact h6
    · obtain ⟨i, hi, rfl⟩ := List.mem_map.1 hx
      exact (hq i (by have := List.mem_range.1 hi; omega)).2
end
end Go.Proofs.Ytodfpdmmbmbinaa

namespace Go.Proofs.Ytodfpdmmbmbinaa
open Go.RowKit Go.Sort

theorem info_rop : (Try.prog.info? 68).map (·.size) = some 6 := by kernel_rfl
theorem load_rop {W : World} {g off : Nat} {z : RopIn} (h : ∀ (j : Nat) (v : Value), j < 6 → (ropV z)[j]? = some v → W.cell? ⟨g, off + j, none⟩ = some v) : (Instr.loadAt 68 (.pointer (some ⟨g, off, none⟩))).run Try.prog W = .ok (.agg (ropV z)) W := by
  have := run_load_big (P := Try.prog) (w := W) Try.underlying68 rfl ⟨g, off, none⟩ (ropV z).toList info_rop (fun j v hj => by
    rw [Addr.add_lit]
    rw [Array.getElem?_toList] at hj
    exact h j v (by have := (Array.getElem?_eq_some_iff.1 hj).1; exact this) hj)
  exact this
theorem below_slp {w w' : World} {base h : Nat} {A : Option Addr} {f : List (Int × Int)} (hb : Below base w w') (hs : SlP w h A f) (hh : f ≠ [] → h < base) : SlP w' h A f := by
  by_cases hf : f = []
  · rw [hf]; exact SlP.nil _ _ _
  · exact hs.keep hb.size fun _ => hb.block h (hh hf)
theorem does_no (lim : Int) (A : Option Addr) (l : List RopF) (c : Nat) (w : World) (hl : lim < 1 ∨ 4096 < lim) : Calls Try.prog 6 #[.int .i64 lim, .slice A l.length c] w fun e w' => e = .returned (.bool true) ∧ Below w.heap.size w w' := by
  have P1 := Lib.hid (rnew_no lim w hl)
  have P2 := Lib.hid (xnew_no lim w hl)
  clear hl
  go_enter Try.func6, Try.ntmps6
  go_wp2_with fail
  refine P1.out.mono ?_; rintro e w' ⟨rfl, rfl⟩
  go_wp2_with fail
  refine P2.out.mono ?_; rintro e w' ⟨rfl, rfl⟩
  go_wp2_with fail
  refine (rlives_any _).mono ?_; rintro e w2 ⟨rfl, b2⟩
  have B2 := Lib.hid b2
  clear b2
  by_cases h0 : 0 < l.length
  · have i1 : decide ((0 : Int) < (l.length : Int)) = true := by rw [decide_eq_true_eq]; omega
    go_wp2_with fail
    go_loopw [8] (fun i wr => i = .int .i64 0 ∧ w2 = wr) (fun _ _ => 0)
    case atStart => exact ⟨rfl, rfl⟩
    case round =>
      obtain ⟨rfl, rfl⟩ := hrel
      go_wp2_with fail
      go_ret
      exact ⟨rfl, B2.out⟩
  · have i1 : decide ((0 : Int) < (l.length : Int)) = false := by rw [decide_eq_false_iff_not]; omega
    go_wp2_with fail
    go_loopw [8] (fun i wr => i = .int .i64 0 ∧ w2 = wr) (fun _ _ => 0)
    case atStart => exact ⟨rfl, rfl⟩
    case round =>
      obtain ⟨rfl, rfl⟩ := hrel
      go_wp2_with fail
      go_ret
      exact ⟨rfl, B2.out⟩
set_option maxRecDepth 100000 in
set_option maxHeartbeats 8000000 in
theorem does_yes (lim : Nat) (A : Option Addr) (l : List RopF) (c : Nat) (w : World) (hR : InR w A l) (h1 : 1 ≤ lim) (h2 : lim ≤ 4096) : Calls Try.prog 6 #[.int .i64 (lim : Int), .slice A l.length c] w fun e w' => e = .returned (.bool true) ∧ Below w.heap.size w w' := by
  have P1 := Lib.hid (rnew_ok lim w w.heap.size (Nat.le_refl _) h1 h2)
  have HI := Lib.hid hR
  have HL := Lib.hid (And.intro h1 h2)
  clear hR h1 h2
  go_enter Try.func6, Try.ntmps6
  go_wp2_with fail
  refine P1.out.mono ?_; rintro e w1 ⟨r, rfl, hr1, -, b1⟩
  have R1 := Lib.hid hr1
  have B1 := Lib.hid b1
  clear hr1 b1
  go_wp2_with fail
  refine (xnew_ok lim w1 w.heap.size B1.out.size HL.out.1 HL.out.2).mono ?_; rintro e w2 ⟨x, rfl, hx2, -, b2⟩
  have T2 := Lib.hid (show Two w2 w.heap.size r x none none ⟨lim, 0, []⟩ from ⟨R1.out.below b2, hx2, fun k h => by cases h⟩)
  have B2 := Lib.hid (B1.out.trans (b2.mono B1.out.size))
  clear hx2 b2
  go_wp2_with fail
  refine (rlives_any _).mono ?_; rintro e w3 ⟨rfl, b3⟩
  have T3 := Lib.hid (T2.out.below b3)
  have B3 := Lib.hid (B2.out.trans (b3.mono B2.out.size))
  clear b3
  go_wp2_with fail
  go_loopw [8] (fun i wr => ∃ (k : Nat) (hb hx : Option Nat) (R : Rn), k ≤ l.length ∧ k ≤ 80 ∧ i = .int .i64 (k : Int) ∧ Two wr w.heap.size r x hb hx R ∧ R.limit = lim ∧ R.held.length ≤ k ∧ Below w.heap.size w wr) (fun i _ => l.length - (intOf i).toNat)
  case atStart => exact ⟨0, none, none, _, Nat.zero_le _, Nat.zero_le _, rfl, T3.out, rfl, Nat.zero_le _, B3.out⟩
  case round =>
    obtain ⟨k, hb, hx, R, hk, hk80, rfl, ht, hlim, hlen, hbl⟩ := hrel
    have HT := Lib.hid ht
    have HB := Lib.hid hbl
    have HLI := Lib.hid hlim
    clear ht hbl hlim
    by_cases hgo : k < l.length ∧ k < 80
    · obtain ⟨hkl, hk8⟩ := hgo
      have i1 : decide ((k : Int) < (l.length : Int)) = true := by rw [decide_eq_true_eq]; omega
      have i2 : decide ((k : Int) < 80) = true := by rw [decide_eq_true_eq]; omega
      obtain ⟨y, hy⟩ : ∃ y, l[k]? = some y := ⟨_, List.getElem?_eq_getElem hkl⟩
      obtain ⟨g, off, rfl, hgl, hc⟩ := HI.out.1 (fun e => by rw [e] at hkl; cases hkl)
      have hcy := hc k y hy
      have hgood := HI.out.2 y (List.mem_of_getElem? hy)
      have HGD := Lib.hid hgood
      have hcw : ∀ (j : Nat) (v : Value), j < 6 → (ropV y.z)[j]? = some v → wr.cell? ⟨g, off + k * 6 + j, none⟩ = some v := fun j v hj hv => (HB.out.cell (p := ⟨g, off + k * 6 + j, none⟩) hgl).trans (hcy j v hj hv)
      have q5 : wr.cell? ⟨g, off + k * 6 + 5, none⟩ = some (.slice y.z.F y.z.n y.z.c) := hcw 5 _ (by decide) rfl
      have HCW := Lib.hid hcw
      clear hc hcy hcw hgood hy hgl
      by_cases hn : y.z.n ≤ 100
      · have i3 : decide ((y.z.n : Int) > 100) = false := by rw [decide_eq_false_iff_not]; omega
        go_wp2_with fail
        refine wp_region_J RT [6] (n := 55) (by kernel_rfl) rfl ?_
        refine batchJ RT.refl [0, 1, 2, 3, 4, 5] (fuel := 49) rfl (by kernel_rfl) (by kernel_rfl) (fun _ _ d _ _ h => by cases d <;> exact h) ?_
        (repeat (first | ((with_reducible apply wq0); rfl; rfl; rfl; intro K hK; go_big_quiet_op; refine hK _ ?_; clear hK K) | ((with_reducible apply wq1); rfl; rfl; rfl; rfl; rfl; rfl; intro K hK; go_big_quiet_op; refine hK _ ?_; clear hK K) | ((with_reducible apply wqs); rfl; rfl; rfl; rfl; rfl; rfl; simp only [Act.put, List.setIfInBounds_toArray, List.set_cons_zero, List.set_cons_succ]) | ((with_reducible apply wqu); rfl; rfl; rfl; rfl; rfl; (first | simp only [same, Act.put, List.setIfInBounds_toArray, List.set_cons_zero, List.set_cons_succ] | simp only [Act.put, List.setIfInBounds_toArray, List.set_cons_zero, List.set_cons_succ]))))
        refine wqIdx_load rfl rfl rfl rfl (fun W hW => load_rop (z := y.z) fun j v hj hv => keep_c hW (HCW.out j v hj hv)) ?_
        simp only [Act.put, List.setIfInBounds_toArray, List.set_cons_zero, List.set_cons_succ]
        refine wqIdx_nil ?_
        refine wpAnyJ_sole (i := 6) rfl (by kernel_rfl) (fun K hK => ?_); go_simp
        have HTD := Lib.hid (HT.out.below (dr_below (Below.refl _ _)))
        have BD := Lib.hid (dr_below HB.out)
        refine (do_any HTD.out y.z (below_slp BD.out HGD.out.2.1 HGD.out.2.2) HGD.out.2.2 HGD.out.1 (by have := HGD.out.1; omega) BD.out.size).mono ?_
        rintro e w4 ⟨rfl, b4, hb4, hx4, R4, t4, l4, n4⟩
        have T4 := Lib.hid t4
        have L4 := Lib.hid (l4.trans HLI.out)
        have N4 := Lib.hid (show R4.held.length ≤ k + 1 by omega)
        have B4 := Lib.hid (BD.out.trans b4)
        refine hK _ _ ⟨fun hc => absurd (by decide) hc, trivial⟩ ?_
        clear hK K t4 l4 n4 b4
        obtain ⟨XA, XC, -, x1, x2, x0, xo, -⟩ := T4.out.2.1.cells
        have X0 := Lib.hid x0
        have X1 := Lib.hid x1
        have X2 := Lib.hid x2
        have XO := Lib.hid xo
        have N9 := Lib.hid (show R4.held.length ≤ 81 by have := N4.out; omega)
        clear x0 x1 x2 xo
        refine batchJ RT.refl [7, 8, 9, 11, 12, 13, 14, 15] (fuel := 40) rfl (by kernel_rfl) (by kernel_rfl) (fun _ _ d _ _ h => by cases d <;> exact h) ?_
        (repeat (first | ((with_reducible apply wq0); rfl; rfl; rfl; intro K hK; go_big_quiet_op; refine hK _ ?_; clear hK K) | ((with_reducible apply wq1); rfl; rfl; rfl; rfl; rfl; rfl; intro K hK; go_big_quiet_op; refine hK _ ?_; clear hK K) | ((with_reducible apply wqs); rfl; rfl; rfl; rfl; rfl; rfl; simp only [Act.put, List.setIfInBounds_toArray, List.set_cons_zero, List.set_cons_succ]) | ((with_reducible apply wqu); rfl; rfl; rfl; rfl; rfl; (first | simp only [same, Act.put, List.setIfInBounds_toArray, List.set_cons_zero, List.set_cons_succ] | simp only [Act.put, List.setIfInBounds_toArray, List.set_cons_zero, List.set_cons_succ]))))
        refine wqIdx_nil_check rfl rfl rfl rfl ?_; simp only [Act.put, List.setIfInBounds_toArray, List.set_cons_zero, List.set_cons_succ]
        (repeat (first | ((with_reducible apply wq0); rfl; rfl; rfl; intro K hK; go_big_quiet_op; refine hK _ ?_; clear hK K) | ((with_reducible apply wq1); rfl; rfl; rfl; rfl; rfl; rfl; intro K hK; go_big_quiet_op; refine hK _ ?_; clear hK K) | ((with_reducible apply wqs); rfl; rfl; rfl; rfl; rfl; rfl; simp only [Act.put, List.setIfInBounds_toArray, List.set_cons_zero, List.set_cons_succ]) | ((with_reducible apply wqu); rfl; rfl; rfl; rfl; rfl; (first | simp only [same, Act.put, List.setIfInBounds_toArray, List.set_cons_zero, List.set_cons_succ] | simp only [Act.put, List.setIfInBounds_toArray, List.set_cons_zero, List.set_cons_succ]))))
        refine wqIdx_load rfl rfl rfl rfl (fun W hW => run_load1 (fun _ => by kernel_rfl) (keep_c hW (X0.out))) ?_; simp only [Act.put, List.setIfInBounds_toArray, List.set_cons_zero, List.set_cons_succ]
        (repeat (first | ((with_reducible apply wq0); rfl; rfl; rfl; intro K hK; go_big_quiet_op; refine hK _ ?_; clear hK K) | ((with_reducible apply wq1); rfl; rfl; rfl; rfl; rfl; rfl; intro K hK; go_big_quiet_op; refine hK _ ?_; clear hK K) | ((with_reducible apply wqs); rfl; rfl; rfl; rfl; rfl; rfl; simp only [Act.put, List.setIfInBounds_toArray, List.set_cons_zero, List.set_cons_succ]) | ((with_reducible apply wqu); rfl; rfl; rfl; rfl; rfl; (first | simp only [same, Act.put, List.setIfInBounds_toArray, List.set_cons_zero, List.set_cons_succ] | simp only [Act.put, List.setIfInBounds_toArray, List.set_cons_zero, List.set_cons_succ]))))
        refine wqIdx_nil ?_
        refine wpAnyJ_sole (i := 10) rfl (by kernel_rfl) (fun K hK => ?_); go_simp
        refine (rlen_any T4.out.1).mono ?_; rintro e w' ⟨rfl, rfl⟩
        refine hK _ _ ⟨fun _ => Below.refl _ _, trivial⟩ ?_
        clear hK K
        refine batchJ RT.refl [16, 17, 18, 19, 21, 22, 23, 24] (fuel := 31) rfl (by kernel_rfl) (by kernel_rfl) (fun _ _ d _ _ h => by cases d <;> exact h) ?_
        (repeat (first | ((with_reducible apply wq0); rfl; rfl; rfl; intro K hK; go_big_quiet_op; refine hK _ ?_; clear hK K) | ((with_reducible apply wq1); rfl; rfl; rfl; rfl; rfl; rfl; intro K hK; go_big_quiet_op; refine hK _ ?_; clear hK K) | ((with_reducible apply wqs); rfl; rfl; rfl; rfl; rfl; rfl; simp only [Act.put, List.setIfInBounds_toArray, List.set_cons_zero, List.set_cons_succ]) | ((with_reducible apply wqu); rfl; rfl; rfl; rfl; rfl; (first | simp only [same, Act.put, List.setIfInBounds_toArray, List.set_cons_zero, List.set_cons_succ] | simp only [Act.put, List.setIfInBounds_toArray, List.set_cons_zero, List.set_cons_succ]))))
        refine wqIdx_nil_check rfl rfl rfl rfl ?_; simp only [Act.put, List.setIfInBounds_toArray, List.set_cons_zero, List.set_cons_succ]
        (repeat (first | ((with_reducible apply wq0); rfl; rfl; rfl; intro K hK; go_big_quiet_op; refine hK _ ?_; clear hK K) | ((with_reducible apply wq1); rfl; rfl; rfl; rfl; rfl; rfl; intro K hK; go_big_quiet_op; refine hK _ ?_; clear hK K) | ((with_reducible apply wqs); rfl; rfl; rfl; rfl; rfl; rfl; simp only [Act.put, List.setIfInBounds_toArray, List.set_cons_zero, List.set_cons_succ]) | ((with_reducible apply wqu); rfl; rfl; rfl; rfl; rfl; (first | simp only [same, Act.put, List.setIfInBounds_toArray, List.set_cons_zero, List.set_cons_succ] | simp only [Act.put, List.setIfInBounds_toArray, List.set_cons_zero, List.set_cons_succ]))))
        refine wqIdx_load rfl rfl rfl rfl (fun W hW => run_load1 (fun _ => by kernel_rfl) (keep_c hW (X1.out))) ?_; simp only [Act.put, List.setIfInBounds_toArray, List.set_cons_zero, List.set_cons_succ]
        refine wqIdx_nil ?_
        refine wpAnyJ_sole (i := 20) rfl (by kernel_rfl) (fun K hK => ?_); go_simp
        refine (rlimit_any T4.out.1).mono ?_; rintro e w' ⟨rfl, rfl⟩
        refine hK _ _ ⟨fun _ => Below.refl _ _, trivial⟩ ?_
        clear hK K
        refine batchJ RT.refl [25, 26, 27, 28, 30, 31, 32, 33] (fuel := 22) rfl (by kernel_rfl) (by kernel_rfl) (fun _ _ d _ _ h => by cases d <;> exact h) ?_
        (repeat (first | ((with_reducible apply wq0); rfl; rfl; rfl; intro K hK; go_big_quiet_op; refine hK _ ?_; clear hK K) | ((with_reducible apply wq1); rfl; rfl; rfl; rfl; rfl; rfl; intro K hK; go_big_quiet_op; refine hK _ ?_; clear hK K) | ((with_reducible apply wqs); rfl; rfl; rfl; rfl; rfl; rfl; simp only [Act.put, List.setIfInBounds_toArray, List.set_cons_zero, List.set_cons_succ]) | ((with_reducible apply wqu); rfl; rfl; rfl; rfl; rfl; (first | simp only [same, Act.put, List.setIfInBounds_toArray, List.set_cons_zero, List.set_cons_succ] | simp only [Act.put, List.setIfInBounds_toArray, List.set_cons_zero, List.set_cons_succ]))))
        refine wqIdx_nil_check rfl rfl rfl rfl ?_; simp only [Act.put, List.setIfInBounds_toArray, List.set_cons_zero, List.set_cons_succ]
        (repeat (first | ((with_reducible apply wq0); rfl; rfl; rfl; intro K hK; go_big_quiet_op; refine hK _ ?_; clear hK K) | ((with_reducible apply wq1); rfl; rfl; rfl; rfl; rfl; rfl; intro K hK; go_big_quiet_op; refine hK _ ?_; clear hK K) | ((with_reducible apply wqs); rfl; rfl; rfl; rfl; rfl; rfl; simp only [Act.put, List.setIfInBounds_toArray, List.set_cons_zero, List.set_cons_succ]) | ((with_reducible apply wqu); rfl; rfl; rfl; rfl; rfl; (first | simp only [same, Act.put, List.setIfInBounds_toArray, List.set_cons_zero, List.set_cons_succ] | simp only [Act.put, List.setIfInBounds_toArray, List.set_cons_zero, List.set_cons_succ]))))
        refine wqIdx_load rfl rfl rfl rfl (fun W hW => run_load1 (fun _ => by kernel_rfl) (keep_c hW (X2.out))) ?_; simp only [Act.put, List.setIfInBounds_toArray, List.set_cons_zero, List.set_cons_succ]
        refine wqIdx_nil ?_
        refine wpAnyJ_sole (i := 29) rfl (by kernel_rfl) (fun K hK => ?_); go_simp
        refine (rmost_any T4.out.1).mono ?_; rintro e w' ⟨rfl, rfl⟩
        refine hK _ _ ⟨fun _ => Below.refl _ _, trivial⟩ ?_
        clear hK K
        refine batchJ RT.refl [34, 35, 36, 37, 39, 40, 41, 42] (fuel := 13) rfl (by kernel_rfl) (by kernel_rfl) (fun _ _ d _ _ h => by cases d <;> exact h) ?_
        (repeat (first | ((with_reducible apply wq0); rfl; rfl; rfl; intro K hK; go_big_quiet_op; refine hK _ ?_; clear hK K) | ((with_reducible apply wq1); rfl; rfl; rfl; rfl; rfl; rfl; intro K hK; go_big_quiet_op; refine hK _ ?_; clear hK K) | ((with_reducible apply wqs); rfl; rfl; rfl; rfl; rfl; rfl; simp only [Act.put, List.setIfInBounds_toArray, List.set_cons_zero, List.set_cons_succ]) | ((with_reducible apply wqu); rfl; rfl; rfl; rfl; rfl; (first | simp only [same, Act.put, List.setIfInBounds_toArray, List.set_cons_zero, List.set_cons_succ] | simp only [Act.put, List.setIfInBounds_toArray, List.set_cons_zero, List.set_cons_succ]))))
        refine wqIdx_nil_check rfl rfl rfl rfl ?_; simp only [Act.put, List.setIfInBounds_toArray, List.set_cons_zero, List.set_cons_succ]
        (repeat (first | ((with_reducible apply wq0); rfl; rfl; rfl; intro K hK; go_big_quiet_op; refine hK _ ?_; clear hK K) | ((with_reducible apply wq1); rfl; rfl; rfl; rfl; rfl; rfl; intro K hK; go_big_quiet_op; refine hK _ ?_; clear hK K) | ((with_reducible apply wqs); rfl; rfl; rfl; rfl; rfl; rfl; simp only [Act.put, List.setIfInBounds_toArray, List.set_cons_zero, List.set_cons_succ]) | ((with_reducible apply wqu); rfl; rfl; rfl; rfl; rfl; (first | simp only [same, Act.put, List.setIfInBounds_toArray, List.set_cons_zero, List.set_cons_succ] | simp only [Act.put, List.setIfInBounds_toArray, List.set_cons_zero, List.set_cons_succ]))))
        refine wqIdx_load rfl rfl rfl rfl (fun W hW => run_load1 (fun _ => by kernel_rfl) (keep_c hW (X0.out))) ?_; simp only [Act.put, List.setIfInBounds_toArray, List.set_cons_zero, List.set_cons_succ]
        refine wqIdx_nil ?_
        obtain ⟨gx, -, slx, -, -, hc1, hc2⟩ := SlK.of_own layE XO.out
        have SLX := Lib.hid slx
        have HC1 := Lib.hid hc1
        have HC2 := Lib.hid hc2
        clear slx hc1 hc2
        refine wpAnyJ_sole (i := 38) rfl (by kernel_rfl) (fun K hK => ?_); go_simp
        refine (rall_any T4.out.1).mono ?_; rintro e w5 ⟨A5, c5, rfl, ⟨g5, s5⟩, b5, -⟩
        rw [srtE_length]
        have T5 := Lib.hid (T4.out.below b5)
        have S5 := Lib.hid s5
        have B5 := Lib.hid (B4.out.trans (b5.mono B4.out.size))
        have Y5 := Lib.hid (SLX.out.below b5)
        refine hK _ _ ⟨fun _ => b5, trivial⟩ ?_
        clear hK K b5 s5
        refine wpAnyJ_sole (i := 43) rfl (by kernel_rfl) (fun K hK => ?_); go_simp
        refine (ren_sort_any R4.held.length XA gx R4.held XC w5 (Nat.le_refl _) Y5.out HC1.out (by have := N9.out; omega) HC2.out).mono ?_
        rintro e w6 ⟨A6, c6, rfl, ⟨g6, s6⟩, b6, -⟩
        rw [srtE_length]
        have T6 := Lib.hid (T5.out.below b6)
        have S6 := Lib.hid s6
        have V6 := Lib.hid (S5.out.below b6)
        have B6 := Lib.hid (B5.out.trans (b6.mono B5.out.size))
        refine hK _ _ ⟨fun _ => b6, trivial⟩ ?_
        clear hK K b6 s6
        have PSM := ren_same_any A5 A6 g5 g6 (srtE R4.held) (srtE R4.held) c5 c6 w6 V6.out S6.out (by rw [srtE_length]; have := N9.out; omega) (by rw [srtE_length]; have := N9.out; omega)
        rw [srtE_length, show (srtE R4.held == srtE R4.held) = true from by simp] at PSM
        have PSM := Lib.hid PSM
        refine wpAnyJ_sole (i := 44) rfl (by kernel_rfl) (fun K hK => ?_); go_simp
        refine PSM.out.mono ?_; rintro e w7 ⟨rfl, b7⟩
        have T7 := Lib.hid (T6.out.below b7)
        have B7 := Lib.hid (B6.out.trans (b7.mono B6.out.size))
        refine hK _ _ ⟨fun _ => b7, trivial⟩ ?_
        clear hK K b7
        refine batchJ RT.refl [45, 46, 47, 48, 50] (fuel := 5) rfl (by kernel_rfl) (by kernel_rfl) (fun _ _ d _ _ h => by cases d <;> exact h) ?_
        (repeat (first | ((with_reducible apply wq0); rfl; rfl; rfl; intro K hK; go_big_quiet_op; refine hK _ ?_; clear hK K) | ((with_reducible apply wq1); rfl; rfl; rfl; rfl; rfl; rfl; intro K hK; go_big_quiet_op; refine hK _ ?_; clear hK K) | ((with_reducible apply wqs); rfl; rfl; rfl; rfl; rfl; rfl; simp only [Act.put, List.setIfInBounds_toArray, List.set_cons_zero, List.set_cons_succ]) | ((with_reducible apply wqu); rfl; rfl; rfl; rfl; rfl; (first | simp only [same, Act.put, List.setIfInBounds_toArray, List.set_cons_zero, List.set_cons_succ] | simp only [Act.put, List.setIfInBounds_toArray, List.set_cons_zero, List.set_cons_succ]))))
        refine wqIdx_nil ?_
        have PF := rfront_any T7.out.1
        have PX := fun (W : World) (hb : Below w7.heap.size w7 W) => xfront_any (T7.out.below hb).2.1 (by have := N9.out; omega)
        have hfl := frontE_len (srtE R4.held)
        generalize frontE (srtE R4.held) = fr at PF PX hfl
        have PF := Lib.hid PF
        have PX := Lib.hid PX
        refine wpAnyJ_sole (i := 49) rfl (by kernel_rfl) (fun K hK => ?_); go_simp
        refine PF.out.mono ?_; rintro e w8 ⟨A8, c8, rfl, o8, b8⟩
        obtain ⟨g8, -, s8, -, -, -, -⟩ := SlP.of_own o8
        have T8 := Lib.hid (T7.out.below b8)
        have S8 := Lib.hid s8
        have B8 := Lib.hid (B7.out.trans (b8.mono B7.out.size))
        have PX8 := Lib.hid (PX.out w8 b8)
        refine hK _ _ ⟨fun _ => b8, trivial⟩ ?_
        clear hK K b8 s8 o8
        refine wpAnyJ_sole (i := 51) rfl (by kernel_rfl) (fun K hK => ?_); go_simp
        refine PX8.out.mono ?_; rintro e w9 ⟨A9, c9, g9, rfl, s9, b9⟩
        have T9 := Lib.hid (T8.out.below b9)
        have S9 := Lib.hid s9
        have V9 := Lib.hid (S8.out.below b9)
        have B9 := Lib.hid (B8.out.trans (b9.mono B8.out.size))
        refine hK _ _ ⟨fun _ => b9, trivial⟩ ?_
        clear hK K b9 s9
        have PSN := rsame_any A8 A9 g8 g9 fr fr c8 c9 w9 V9.out S9.out (by omega) (by omega)
        rw [show (fr == fr) = true from by simp] at PSN
        have PSN := Lib.hid PSN
        refine wpAnyJ_sole (i := 52) rfl (by kernel_rfl) (fun K hK => ?_); go_simp
        refine PSN.out.mono ?_; rintro e w10 ⟨rfl, b10⟩
        have T10 := Lib.hid (T9.out.below b10)
        have B10 := Lib.hid (B9.out.trans (b10.mono B9.out.size))
        refine hK _ _ ⟨fun _ => b10, trivial⟩ ?_
        clear hK K b10
        refine batchJ RT.refl [53, 54] (fuel := 0) rfl (by kernel_rfl) (by kernel_rfl) (fun _ _ d _ _ h => by cases d <;> exact h) ?_
        (repeat (first | ((with_reducible apply wq0); rfl; rfl; rfl; intro K hK; go_big_quiet_op; refine hK _ ?_; clear hK K) | ((with_reducible apply wq1); rfl; rfl; rfl; rfl; rfl; rfl; intro K hK; go_big_quiet_op; refine hK _ ?_; clear hK K) | ((with_reducible apply wqs); rfl; rfl; rfl; rfl; rfl; rfl; simp only [Act.put, List.setIfInBounds_toArray, List.set_cons_zero, List.set_cons_succ]) | ((with_reducible apply wqu); rfl; rfl; rfl; rfl; rfl; (first | simp only [same, Act.put, List.setIfInBounds_toArray, List.set_cons_zero, List.set_cons_succ] | simp only [Act.put, List.setIfInBounds_toArray, List.set_cons_zero, List.set_cons_succ]))))
        refine wqIdx_nil ?_
        refine wpAnyJ_done (by kernel_rfl) ?_ _
        go_wp2_with fail
        exact ⟨⟨k + 1, hb4, hx4, R4, by omega, by omega, by go_num, T10.out, L4.out, N4.out, B10.out⟩, by simp only [intOf]; omega⟩
      · have i3 : decide ((y.z.n : Int) > 100) = true := by rw [decide_eq_true_eq]; omega
        go_wp2_with fail
        exact ⟨⟨k + 1, hb, hx, R, by omega, by omega, by go_num, HT.out, HLI.out, by omega, HB.out⟩, by simp only [intOf]; omega⟩
    · by_cases hkl : k < l.length
      · have i1 : decide ((k : Int) < (l.length : Int)) = true := by rw [decide_eq_true_eq]; omega
        have i2 : decide ((k : Int) < 80) = false := by rw [decide_eq_false_iff_not]; omega
        clear hgo
        go_wp2_with fail
        go_ret
        exact ⟨rfl, HB.out⟩
      · have i1 : decide ((k : Int) < (l.length : Int)) = false := by rw [decide_eq_false_iff_not]; omega
        clear hgo
        go_wp2_with fail
        go_ret
        exact ⟨rfl, HB.out⟩
theorem does_any (lim : Int) (A : Option Addr) (l : List RopF) (c : Nat) (w : World) (_ : -9223372036854775808 ≤ lim ∧ lim ≤ 9223372036854775807) (hR : InR w A l) : Calls Try.prog 6 #[.int .i64 lim, .slice A l.length c] w fun e w' => e = .returned (.bool true) ∧ Below w.heap.size w w' := by
  by_cases hl : lim < 1 ∨ 4096 < lim
  · exact does_no lim A l c w hl
  · obtain ⟨lim, rfl⟩ : ∃ x : Nat, lim = (x : Int) := ⟨lim.toNat, by omega⟩
    exact does_yes lim A l c w hR (by omega) (by omega)
end Go.Proofs.Ytodfpdmmbmbinaa

namespace Go.Proofs.Ytodfpdmmbmbinaa
open Go.ChangeShapes Go.WideShapes Go.ChangeAt Go.RowKit Go.ChangeMaps

theorem does_params : Try.f6.params = #[3, 54] := rfl
set_option maxRecDepth 100000 in
theorem does_lifted (os : Os) (started : os.Started) (H : Type) (enc : TypeId × Value → H) :
    ReturnsInHanded {} Try.checked os 6 .any (Rows.runDoesSpec.pre6 enc Try.prog Try.f6 Rows.runDoesRow.domain false) (Rows.runDoesSpec.post enc Try.prog Try.f6 false true false false) := by
  refine returnsInHanded_of_change (C := Try.checked) Try.own started (by kernel_rfl) Try.func6
    (ChangeSpec.witness6 (enc := enc) (C := Try.checked) false ⟨#[], #[.int .i64 0, .slice none 0 0], []⟩ 8 (by kernel_rfl) (by kernel_rfl) (by kernel_rfl) (by kernel_rfl)) ?_
  intro W base args ds gs before hval0 hW hcnd _
  have hval : ∀ (j : Nat) t v, Try.f6.params[j]? = some t → args[j]? = some v → Value.okWide Try.prog W .any base t v := hval0
  have hW' := hW
  obtain ⟨p, q, hA0, hV, rfl, hfz, hnd⟩ := hW
  have hA : DataW.TrodAll enc Try.prog W 0 (fun _ => true) true Try.f6.params.toList args.toList ds p := hA0
  rw [does_params] at hA hval
  obtain ⟨v0, v1, d0, d1, p0, p1, rfl, rfl, rfl, h0, h1⟩ := trodAll_two hA
  obtain ⟨x0, rfl, rfl, rfl, w0⟩ := open_int Try.underlying3 (hval 0 _ v0 rfl rfl) h0
  have b0 := wf_int w0
  obtain ⟨A1, l1, k1, rfl, b1⟩ := open_rops (hval 1 _ v1 rfl rfl) h1
  refine (does_any x0 A1 l1 k1 W b0 b1).mono fun e W' ⟨he, hb⟩ => ?_
  subst he
  exact ⟨_, rfl, law_post (P := Try.prog) Try.laidOut (by kernel_rfl) rfl Try.underlying4 rfl rfl hW' hb⟩
theorem does_holds : Rows.RunDoesSaid :=
  OpenClaim.holds_of_wide 6 Try.f6 rfl rfl rfl rfl rfl rfl rfl ⟨rfl, rfl, rfl, rfl, rfl⟩ rfl rfl rfl rfl rfl (by kernel_rfl) Try.func6 (by kernel_rfl)
    (of_decide_eq_true (by kernel_rfl)) (by unfold Func.isWrapper; first | (rw [if_pos (by decide +kernel)]; kernel_rfl) | (rw [if_neg (by decide +kernel)]; exact ⟨rfl, rfl⟩))
    (fun os started H enc _ => does_lifted os started H enc)
#print axioms does_holds
end Go.Proofs.Ytodfpdmmbmbinaa
