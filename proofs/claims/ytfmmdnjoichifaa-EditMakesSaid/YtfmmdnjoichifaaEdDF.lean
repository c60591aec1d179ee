/- Parts of the proofs about edit, joined. -/
import Derived.Test.YtfmmdnjoichifaaEdAC
import Derived.Test.YtfmmdnjoichifaaMoE
import Derived.Test.YtfmmdnjoichifaaFiW
import Derived.Test.YtfmmdnjoichifaaRegJ
import Derived.Lib.AppendZerosOnto
import Derived.Test.YtfmmdnjoichifaaMoL
import Derived.Test.YtfmmdnjoichifaaMoR
namespace Go.Proofs.Ytfmmdnjoichifaa
open Go.RowKit Go.Sort

/-- A row of bytes of one's own. -/
def OwnB (w : World) (l : List UInt8) (e : Ending) (w' : World) : Prop := ∃ A c, e = .returned (.slice A l.length c) ∧ w'.ownsRow w.heap.size 5 1 (.slice A l.length c) l.length (Byt l) ∧ Below w.heap.size w w'
theorem wpList_app_eq {P : Program} {w w' : World} {ops : Array Oper} {rest : List Oper} {o : Oper} {a : Act} {Q : Exit → Act → World → Prop} (hgd : o.guard = none) (s x : Operand) (t t2 : TypeId)
    (ho : o.op = .call { callee := .builtin .append, args := #[s, x], argTypes := #[t, t2] }) {sv xv v' : Value} (hs : a.eval s = sv) (hx : a.eval x = xv) (hrun : (Builtin.append_ #[t, t2] o.type #[sv, xv]).run P w = .ok v' w')
    (h : wpList P ops Q rest (a.put o.dst v') w') : wpList P ops Q (o :: rest) a w :=
  wpList_plain hgd fun _ hK => by
    unfold Oper.wp execOp
    simp only [ho, resolve, invoke, builtin, Sem.run_bind, Sem.run_pure, Result.andThen_ok, List.map_toArray, List.map_cons, List.map_nil, hs, hx, hrun]
    exact hK _ _ h
set_option maxRecDepth 100000 in
set_option maxHeartbeats 1000000 in
theorem growU8_nil (n : Nat) (w : World) (hn : n ≤ 100000) :
    Calls Try.prog 101 #[.slice none 0 0, .int .i64 (n : Int)] w fun e w' => ∃ A c, e = .returned (.slice A 0 c) ∧ w'.ownsRow w.heap.size 5 1 (.slice A 0 c) 0 (Byt []) ∧ Below w.heap.size w w' := by
  have d1 : decide ((n : Int) < 0) = false := by rw [decide_eq_false_iff_not]; omega
  by_cases h0 : n = 0
  · subst h0
    go_enter Try.func101, Try.ntmps101
    go_wp2
    go_ret
    exact ⟨none, 0, rfl, World.ownsRow_nil _ _ _ _, Below.refl _ _⟩
  · obtain ⟨i0, hi0, hzz⟩ := Option.map_eq_some_iff.1 info_u8
    simp only [Prod.mk.injEq] at hzz
    obtain ⟨hz0, hz1, hz2⟩ := hzz
    have d2 : decide ((0 : Int) < (n : Int)) = true := by rw [decide_eq_true_eq]; omega
    have hrz := fun ty => Lib.run_append_grow_zeros w 30 3 ty 5 i0 (.int .u8 0) .i64 .i64 Try.underlying30 Try.underlying3 hi0 hz0 none 0 0 [] (by rw [hz1]; exact run_firstCells_none w.drew 1 0 0 0) n (by omega) (by omega) (by omega) (by omega)
      (by rw [hz2]; omega)
      (growslice_fits (by omega) (by rw [hz2]; omega))
    simp only [Nat.zero_add] at hrz
    have hGn : n ≤ grownCap w n 0 5 := grownCap_ge w _ _ _
    have hG63 := grownCap_le_maxLen w n 0 5 (by unfold maxLen; omega)
    have hown : (w.drew.alloc (.cells (([] : List Value).toArray ++ Builtin.zeroCells (Value.int .u8 0).cells n ++ Builtin.zeroCells (Value.int .u8 0).cells (grownCap w n 0 5 - n)) 5)).ownsRow w.heap.size 5 1 (.slice (some ⟨w.heap.size, 0, none⟩) 0 (grownCap w n 0 5)) 0 (Byt []) :=
      ⟨by simp [Byt], .inr ⟨w.heap.size, _, _, rfl, Nat.le_refl _, heap_alloc_new w.drew _, Nat.zero_le _, hG63, by
        simp only [Array.size_append, List.size_toArray, size_zeroCells, List.length_nil]
        rw [show (Value.int .u8 0).cells.size = 1 from rfl]
        omega, by simp [Byt]⟩⟩
    have HOWN := Lib.hid hown
    have HBL := Lib.hid (show Below w.heap.size w (w.drew.alloc (.cells (([] : List Value).toArray ++ Builtin.zeroCells (Value.int .u8 0).cells n ++ Builtin.zeroCells (Value.int .u8 0).cells (grownCap w n 0 5 - n)) 5)) from ⟨rfl, rfl, rfl, by simp, fun k hk => Below.heap_alloc w.drew _ k hk⟩)
    generalize w.drew.alloc (.cells (([] : List Value).toArray ++ Builtin.zeroCells (Value.int .u8 0).cells n ++ Builtin.zeroCells (Value.int .u8 0).cells (grownCap w n 0 5 - n)) 5) = w1 at hrz HOWN HBL
    generalize grownCap w n 0 5 = G at hrz HOWN hGn hG63
    clear hi0 hz0 hz1 hz2 hown
    unfold maxLen at hG63
    go_enter Try.func101, Try.ntmps101
    go_wp2_with (at_builtin; refine wpList_app_eq rfl (.tmp 20) (.tmp 21) _ _ rfl rfl rfl (hrz _) ?_)
    go_ret
    exact ⟨_, _, rfl, HOWN.out, HBL.out⟩
theorem list3 {w : World} {B : Nat} {va vb vc : Value} {t : TypeId} (h : Blk w B t #[va, vb, vc]) : w.cell? ⟨B, 0, none⟩ = some va ∧ w.cell? ⟨B, 1, none⟩ = some vb ∧ w.cell? ⟨B, 2, none⟩ = some vc := ⟨h.cell 0, h.cell 1, h.cell 2⟩
set_option maxRecDepth 100000 in
set_option maxHeartbeats 4000000 in
theorem concatU8_three (A : Option Addr) (h : Nat) (a : List UInt8) (c : Nat) (B : Option Addr) (g : Nat) (b : List UInt8) (d : Nat) (C : Option Addr) (i3 : Nat) (m : List UInt8) (e3 : Nat) (G : Nat) (w : World) (ha : SlB w h A a) (hb : SlB w g B b) (hm : SlB w i3 C m)
    (la : a.length ≤ 10000) (lb : b.length ≤ 10000) (lm : m.length ≤ 10000) (hG : Blk w G 30 #[.slice A a.length c, .slice B b.length d, .slice C m.length e3]) :
    Calls Try.prog 67 #[.slice (some ⟨G, 0, none⟩) 3 3] w (OwnB w (a ++ b ++ m)) := by
  have HA := Lib.hid ha
  have HB := Lib.hid hb
  have HM := Lib.hid hm
  have HG := Lib.hid hG
  have hGl := hG.lt
  have P1 := Lib.hid (fun W => growU8_nil (a.length + b.length + m.length) W (by omega))
  clear ha hb hG hm
  go_enter Try.func67, Try.ntmps67
  go_wp2_with fail
  go_loopw [3, 11] (fun s i wr => ∃ k : Nat, k ≤ 3 ∧ i = .int .i64 (k : Int) ∧ s = .int .i64 (if k = 0 then 0 else if k = 1 then (a.length : Int) else if k = 2 then (a.length : Int) + (b.length : Int) else (a.length : Int) + (b.length : Int) + (m.length : Int)) ∧ w = wr) (fun _ i _ => 3 - (intOf i).toNat)
  case atStart => exact ⟨0, by omega, rfl, rfl, rfl⟩
  case round =>
    obtain ⟨k, hk, rfl, rfl, rfl⟩ := hrel
    obtain ⟨q0, q1, q2⟩ := list3 HG.out
    match k, hk with
    | 0, _ =>
      have d1 : decide ((a.length : Int) < 0) = false := by rw [decide_eq_false_iff_not]; omega
      go_wp2
      exact ⟨⟨1, by omega, rfl, by simp⟩, by decide⟩
    | 1, _ =>
      have d1 : decide ((a.length : Int) + (b.length : Int) < 0) = false := by rw [decide_eq_false_iff_not]; omega
      go_wp2
      exact ⟨⟨2, by omega, rfl, by simp⟩, by decide⟩
    | 2, _ =>
      have d1 : decide ((a.length : Int) + (b.length : Int) + (m.length : Int) < 0) = false := by rw [decide_eq_false_iff_not]; omega
      go_wp2
      exact ⟨⟨3, by omega, rfl, by simp⟩, by decide⟩
    | 3, _ =>
      clear q0 q1 q2
      go_wp2_with fail
      refine (P1.out _).mono ?_; rintro e w1 ⟨A1, c1, rfl, o1, b1⟩
      have O1 := Lib.hid o1
      have B1 := Lib.hid b1
      clear o1 b1
      go_wp2_with fail
      go_loopw [6, 27] (fun v i wr => ∃ (k : Nat) (xs : List UInt8) (A2 : Option Addr) (c2 : Nat), k ≤ 3 ∧ i = .int .i64 (k : Int) ∧ v = .slice A2 xs.length c2 ∧ xs = (if k = 0 then [] else if k = 1 then a else if k = 2 then a ++ b else a ++ b ++ m) ∧ wr.ownsRow w.heap.size 5 1 v xs.length (Byt xs) ∧ Below w.heap.size w wr) (fun _ i _ => 3 - (intOf i).toNat)
      case atStart => exact ⟨0, [], A1, c1, by omega, rfl, rfl, rfl, O1.out, B1.out⟩
      case round =>
        obtain ⟨k, xs, A2, c2, hk, rfl, rfl, hxs, ho, hb⟩ := hrel
        have HO := Lib.hid ho
        have HBW := Lib.hid hb
        have HX := Lib.hid hxs
        have hsw := hb.size
        obtain ⟨q0, q1, q2⟩ := list3 (HG.out.below hb hGl)
        clear ho hb hxs
        match k, hk with
        | 0, _ =>
          have hx0 : xs = [] := HX.out
          subst hx0
          have HR := Lib.hid (SlB.reads (n := a.length) (HA.out.below HBW.out fun h => h) rfl)
          have HS := Lib.hid hsw
          go_wp2_with (at_builtin; (refine wpList_appB (ys := a) _ rfl (.tmp 31) (.tmp 32) _ rfl Try.underlying30 info_u8 HO.out HR.out c rfl rfl (by simp only [List.length_nil]; omega) HS.out ?_); intro A5 c5 w5 o5 gr5; have O5 := Lib.hid o5; have G5 := Lib.hid gr5; clear o5 gr5)
          have B5 := Lib.hid (HBW.out.grown (Grew.by_ G5.out) hsw fun i hi => (World.ownsRow.lt HO.out i hi).1)
          have o5 := O5.out
          rw [List.length_nil, Nat.zero_add] at o5
          exact ⟨⟨1, a, A5, c5, by omega, rfl, by simp, rfl, o5, B5.out⟩, by decide⟩
        | 1, _ =>
          have hx0 : xs = a := HX.out
          subst hx0
          have HR := Lib.hid (SlB.reads (n := b.length) (HB.out.below HBW.out fun h => h) rfl)
          have HS := Lib.hid hsw
          go_wp2_with (at_builtin; (refine wpList_appB (ys := b) _ rfl (.tmp 31) (.tmp 32) _ rfl Try.underlying30 info_u8 HO.out HR.out d rfl rfl (by omega) HS.out ?_); intro A5 c5 w5 o5 gr5; have O5 := Lib.hid o5; have G5 := Lib.hid gr5; clear o5 gr5)
          have B5 := Lib.hid (HBW.out.grown (Grew.by_ G5.out) hsw fun i hi => (World.ownsRow.lt HO.out i hi).1)
          exact ⟨⟨2, xs ++ b, A5, c5, by omega, rfl, by rw [List.length_append], rfl, by rw [List.length_append]; exact O5.out, B5.out⟩, by decide⟩
        | 2, _ =>
          have hx0 : xs = a ++ b := HX.out
          have hxl := congrArg List.length hx0
          rw [List.length_append] at hxl
          have HXL := Lib.hid hxl
          have hxm : xs.length + m.length ≤ 140737488355328 := by omega
          clear hxl hx0
          have HR := Lib.hid (SlB.reads (n := m.length) (HM.out.below HBW.out fun h => h) rfl)
          have HS := Lib.hid hsw
          go_wp2_with (at_builtin; (refine wpList_appB (ys := m) _ rfl (.tmp 31) (.tmp 32) _ rfl Try.underlying30 info_u8 HO.out HR.out e3 rfl rfl hxm HS.out ?_); intro A5 c5 w5 o5 gr5; have O5 := Lib.hid o5; have G5 := Lib.hid gr5; clear o5 gr5)
          have B5 := Lib.hid (HBW.out.grown (Grew.by_ G5.out) hsw fun i hi => (World.ownsRow.lt HO.out i hi).1)
          exact ⟨⟨3, xs ++ m, A5, c5, by omega, rfl, by rw [List.length_append], by rw [show xs = a ++ b from HX.out]; rfl, by rw [List.length_append]; exact O5.out, B5.out⟩, by decide⟩
        | 3, _ =>
          have hx0 : xs = a ++ b ++ m := HX.out
          clear q0 q1 q2
          go_wp2
          go_ret
          rw [← hx0]
          exact ⟨A2, c2, rfl, HO.out, HBW.out⟩
set_option maxRecDepth 100000 in
theorem number_any (n : Int) (w : World) (h : 0 ≤ n) (h' : n ≤ 9223372036854775807) : Calls Try.prog 68 #[.int .i64 n] w (OwnB w (putL n.toNat)) := by
  have P1 := Lib.hid (put_ok n w h h')
  clear h h'
  generalize putL n.toNat = x at P1 ⊢
  go_enter Try.func68, Try.ntmps68
  go_wp2_with fail
  refine P1.out.mono ?_; rintro e w1 ⟨v, rfl, o1, b1⟩
  obtain ⟨A1, c1, rfl⟩ := own_form o1
  have O1 := Lib.hid o1
  have B1 := Lib.hid b1
  clear o1 b1
  go_wp2
  go_ret
  exact ⟨_, _, rfl, O1.out, B1.out⟩
def putRf (r : Rf) : List UInt8 := textL (strL r.name) ++ putL r.base.toNat ++ putL r.count.toNat
def putRfs (l : List Rf) : List UInt8 := l.flatMap putRf
def putEd (e : Ed) : List UInt8 := putL e.kind.toNat ++ putMo e.ep e.rd ++ putL e.refs.length ++ putRfs e.refs
theorem okRf_iff (r : Rf) : okRf r = true ↔ (1 ≤ r.name.size ∧ r.name.size ≤ 24) ∧ (1 ≤ r.base ∧ r.base ≤ 2305843009213693952) ∧ 0 ≤ r.count ∧ r.count ≤ 16384 := by
  unfold okRf
  simp only [Bool.and_eq_true, decide_eq_true_eq, and_assoc]
theorem putL_le9 (n : Nat) (hn : n ≤ 9223372036854775807) : (putL n).length ≤ 9 := by
  rw [putL_length]
  split
  · omega
  · split
    · omega
    · have := nb_eight n (by omega); omega
theorem textL_le (s : ByteArray) (h : s.size ≤ 24) : (textL (strL s)).length ≤ 33 := by
  unfold textL
  rw [List.length_append, strL_length]
  have := putL_le9 s.size (by omega)
  omega
theorem putRf_le (r : Rf) (h : okRf r = true) : (putRf r).length ≤ 51 := by
  rw [okRf_iff] at h
  unfold putRf
  rw [List.length_append, List.length_append]
  have h1 := textL_le r.name h.1.2
  have h2 := putL_le9 r.base.toNat (by omega)
  have h3 := putL_le9 r.count.toNat (by omega)
  omega
theorem putRfs_snoc {l : List Rf} {k : Nat} {x : Rf} (h : l[k]? = some x) : putRfs (l.take (k + 1)) = putRfs (l.take k) ++ putRf x := by
  unfold putRfs
  rw [List.take_add_one, h, List.flatMap_append]
  simp
theorem putRfs_le : ∀ (l : List Rf), l.all okRf = true → (putRfs l).length ≤ 51 * l.length
  | [], _ => Nat.le_refl _
  | x :: l, h => by
    rw [List.all_cons, Bool.and_eq_true] at h
    have h1 := putRfs_le l h.2
    have h2 := putRf_le x h.1
    unfold putRfs at h1 ⊢
    rw [List.flatMap_cons, List.length_append, List.length_cons]
    omega
theorem okEd_iff (e : Ed) : okEd e = true ↔ (e.kind = 1 ∨ e.kind = 2) ∧ okMo (e.ep, e.rd) = true ∧ (e.kind = 2 → e.rd = 0) ∧ e.refs.length ≤ 256 ∧ e.refs.all okRf = true := by
  unfold okEd
  simp only [Bool.and_eq_true, decide_eq_true_eq, and_assoc]
theorem putMo_le (a b : Int) (h : okMo (a, b) = true) : (putMo a b).length ≤ 18 := by
  rw [okMo_iff] at h
  unfold putMo
  rw [List.length_append]
  have h1 := putL_small a.toNat (by omega)
  have h2 := putL_small b.toNat (by omega)
  omega
theorem Blk.later {w w' : World} {g : Nat} {t : TypeId} {cs : Array Value} (h : Blk w g t cs) (hb : Below w.heap.size w w') : Blk w' g t cs := h.below hb h.lt
set_option maxRecDepth 100000 in
set_option maxHeartbeats 4000000 in
theorem ed_put_no (e : Ed) (A : Option Addr) (c base : Nat) (w : World) (hr : RfAt w base A e.refs) (hbig : e.refs.length ≤ 1000000) (h : okEd e = false) :
    Calls Try.prog 24 #[edV e A c] w fun x w' => x = .returned (.tuple #[.slice none 0 0, .int .i64 140]) ∧ Below w.heap.size w w' := by
  have HB := Lib.hid (EdBox.new w e A c 50)
  have B0 := Lib.hid (alloc_below w (.cells (edCs e A c) 50))
  have P1 := Lib.hid (fun W (h : RfAt W base A e.refs) => ed_check_any e A c base W h hbig)
  rw [edE_bad h] at P1
  have HR := Lib.hid (hr.below B0.out)
  obtain ⟨kind, ep, rd, refs⟩ := e
  obtain ⟨-, q1, q2, q3, q4⟩ := HB.out
  unfold edCs at q1 q2 q3 q4
  simp only at q1 q2 q3 q4
  clear hr h
  unfold edV at P1 ⊢
  go_enter Try.func24, Try.ntmps24
  go_wp2_with fail
  refine (P1.out _ HR.out).mono ?_; rintro x w1 ⟨rfl, b1⟩
  have B1 := Lib.hid (below_trans B0.out b1)
  clear b1
  go_wp2
  go_ret2
  exact ⟨rfl, B1.out⟩
set_option maxRecDepth 100000 in
set_option maxHeartbeats 8000000 in
theorem ed_put_ok (e : Ed) (A : Option Addr) (c base : Nat) (w : World) (hr : RfAt w base A e.refs) (h : okEd e = true) :
    Calls Try.prog 24 #[edV e A c] w (PutAns w (putEd e)) := by
  obtain ⟨h1, h2, -, h4, h5⟩ := (okEd_iff e).1 h
  have HB := Lib.hid (Blk.new w 50 (edCs e A c))
  have B0 := Lib.hid (alloc_below w (.cells (edCs e A c) 50))
  have P1 := Lib.hid (fun W (h : RfAt W base A e.refs) => ed_check_any e A c base W h (by omega))
  rw [edE_ok h] at P1
  have HR := Lib.hid hr
  have P2 := Lib.hid (fun W => mput_ok e.ep e.rd W h2)
  have P3 := Lib.hid (fun W => number_any e.kind W (by omega) (by omega))
  have P4 := Lib.hid (fun W => number_any (e.refs.length : Int) W (by omega) (by omega))
  rw [Int.toNat_natCast] at P4
  have l2 := putMo_le _ _ h2
  have l3 := putL_le9 e.kind.toNat (by omega)
  have l4 := putL_le9 e.refs.length (by omega)
  have HOK := Lib.hid h5
  have hE : putEd e = putL e.kind.toNat ++ putMo e.ep e.rd ++ putL e.refs.length ++ putRfs e.refs := rfl
  obtain ⟨kind, ep, rd, refs⟩ := e
  obtain ⟨-, q1, q2, q3, q4⟩ := EdBox.of HB.out
  unfold edCs at q1 q2 q3 q4
  simp only at q1 q2 q3 q4 hE P1 P2 P3 P4 l2 l3 l4 h4 HR
  generalize putEd ⟨kind, ep, rd, refs⟩ = Z at hE ⊢
  have HE := Lib.hid hE
  generalize putL kind.toNat = x1 at P3 l3 HE
  generalize putMo ep rd = x2 at P2 l2 HE
  generalize putL refs.length = x3 at P4 l4 HE
  clear hr h h1 h2 h5 hE
  unfold edV at P1 ⊢
  go_enter Try.func24, Try.ntmps24
  go_wp2_with fail
  refine (P1.out _ (HR.out.below B0.out)).mono ?_; rintro x w1 ⟨rfl, b1⟩
  clear q1 q2 q3 q4
  have HB1 := Lib.hid (HB.out.later b1)
  obtain ⟨-, q1, q2, q3, q4⟩ := EdBox.of HB1.out
  simp only at q1 q2 q3 q4
  have B1 := Lib.hid (below_trans B0.out b1)
  clear b1 P1
  go_wp2_with fail
  refine (P2.out _).mono ?_; rintro x w2 ⟨A2, c2, rfl, o2, b2⟩
  clear q1 q2 q3 q4
  have HB2 := Lib.hid (HB1.out.later b2)
  have O2 := Lib.hid o2
  have B2 := Lib.hid (below_trans B1.out b2)
  clear b2 o2
  go_wp2_with fail
  obtain ⟨-, q1, q2, q3, q4⟩ := EdBox.of HB2.out
  simp only at q1 q2 q3 q4
  have Q1 := Lib.hid q1
  have Q4 := Lib.hid q4
  clear q1 q2 q3 q4
  refine wp_region_J RT [] (n := 11) (by kernel_rfl) rfl ?_
  refine batchJ RT.refl [0, 1, 3, 4, 5, 6] (fuel := 5) rfl (by kernel_rfl) (by kernel_rfl) (fun _ _ d _ _ h => by cases d <;> exact h) ?_
  (repeat (first | ((with_reducible apply wq0); rfl; rfl; rfl; intro K hK; go_big_quiet_op; refine hK _ ?_; clear hK K) | ((with_reducible apply wq1); rfl; rfl; rfl; rfl; rfl; rfl; intro K hK; go_big_quiet_op; refine hK _ ?_; clear hK K) | ((with_reducible apply wqs); rfl; rfl; rfl; rfl; rfl; rfl; simp only [Act.put, List.setIfInBounds_toArray, List.set_cons_zero, List.set_cons_succ]) | ((with_reducible apply wqu); rfl; rfl; rfl; rfl; rfl; (first | simp only [same, Act.put, List.setIfInBounds_toArray, List.set_cons_zero, List.set_cons_succ] | simp only [Act.put, List.setIfInBounds_toArray, List.set_cons_zero, List.set_cons_succ]))))
  refine wqIdx_load rfl rfl rfl rfl (fun W hW => run_load1 (fun _ => by kernel_rfl) (keep_c hW (Q1.out))) ?_; simp only [Act.put, List.setIfInBounds_toArray, List.set_cons_zero, List.set_cons_succ]
  (repeat (first | ((with_reducible apply wq0); rfl; rfl; rfl; intro K hK; go_big_quiet_op; refine hK _ ?_; clear hK K) | ((with_reducible apply wq1); rfl; rfl; rfl; rfl; rfl; rfl; intro K hK; go_big_quiet_op; refine hK _ ?_; clear hK K) | ((with_reducible apply wqs); rfl; rfl; rfl; rfl; rfl; rfl; simp only [Act.put, List.setIfInBounds_toArray, List.set_cons_zero, List.set_cons_succ]) | ((with_reducible apply wqu); rfl; rfl; rfl; rfl; rfl; (first | simp only [same, Act.put, List.setIfInBounds_toArray, List.set_cons_zero, List.set_cons_succ] | simp only [Act.put, List.setIfInBounds_toArray, List.set_cons_zero, List.set_cons_succ]))))
  refine wqIdx_load rfl rfl rfl rfl (fun W hW => run_load1 (fun _ => by kernel_rfl) (keep_c hW (Q4.out))) ?_; simp only [Act.put, List.setIfInBounds_toArray, List.set_cons_zero, List.set_cons_succ]
  (repeat (first | ((with_reducible apply wq0); rfl; rfl; rfl; intro K hK; go_big_quiet_op; refine hK _ ?_; clear hK K) | ((with_reducible apply wq1); rfl; rfl; rfl; rfl; rfl; rfl; intro K hK; go_big_quiet_op; refine hK _ ?_; clear hK K) | ((with_reducible apply wqs); rfl; rfl; rfl; rfl; rfl; rfl; simp only [Act.put, List.setIfInBounds_toArray, List.set_cons_zero, List.set_cons_succ]) | ((with_reducible apply wqu); rfl; rfl; rfl; rfl; rfl; (first | simp only [same, Act.put, List.setIfInBounds_toArray, List.set_cons_zero, List.set_cons_succ] | simp only [Act.put, List.setIfInBounds_toArray, List.set_cons_zero, List.set_cons_succ]))))
  refine wqIdx_nil ?_
  refine wpAnyJ_sole (i := 2) rfl (by kernel_rfl) (fun K hK => ?_); go_simp
  refine (P3.out _).mono ?_; rintro x w3 ⟨A3, c3, rfl, o3, b3⟩
  refine hK _ _ ⟨fun _ => b3, trivial⟩ ?_
  clear hK K
  have O3 := Lib.hid o3
  have B3 := Lib.hid (below_trans B2.out (Below.of_drew0 b3))
  have O2' := Lib.hid (own_below O2.out (Below.of_drew0 b3))
  have HB3 := Lib.hid (HB2.out.later (Below.of_drew0 b3))
  clear b3 o3
  refine wpAnyJ_sole (i := 7) rfl (by kernel_rfl) (fun K hK => ?_); go_simp
  refine (P4.out _).mono ?_; rintro x w4 ⟨A4, c4, rfl, o4, b4⟩
  refine hK _ _ ⟨fun _ => b4, trivial⟩ ?_
  clear hK K
  have O4 := Lib.hid o4
  have O3' := Lib.hid (own_below O3.out b4)
  have O2'' := Lib.hid (own_below O2'.out b4)
  have B4 := Lib.hid (below_trans B3.out b4)
  have HB4 := Lib.hid (HB3.out.later b4)
  clear b4 o4
  refine wpAnyJ_sole (i := 8) rfl (by kernel_rfl) (fun K hK => ?_); go_simp
  have b5 := alloc_below w4 (.cells #[.slice A3 x1.length c3, .slice A2 x2.length c2, .slice A4 x3.length c4] 30)
  refine hK _ _ ⟨fun _ => b5, trivial⟩ ?_
  clear hK K
  have G5 := Lib.hid (Blk.new w4 30 #[.slice A3 x1.length c3, .slice A2 x2.length c2, .slice A4 x3.length c4])
  obtain ⟨g3, -, s3, -⟩ := SlB.of_own (own_below O3'.out b5)
  obtain ⟨g2, -, s2, -⟩ := SlB.of_own (own_below O2''.out b5)
  obtain ⟨g4, -, s4, -⟩ := SlB.of_own (own_below O4.out b5)
  have P5 := Lib.hid (concatU8_three A3 g3 x1 c3 A2 g2 x2 c2 A4 g4 x3 c4 _ _ s3 s2 s4 (by omega) (by omega) (by omega) G5.out)
  have B5 := Lib.hid (below_trans B4.out b5)
  have HB5 := Lib.hid (HB4.out.later b5)
  clear b5 s3 s2 s4
  refine wpAnyJ_sole (i := 9) rfl (by kernel_rfl) (fun K hK => ?_); go_simp
  refine P5.out.mono ?_; rintro x w6 ⟨A6, c6, rfl, o6, b6⟩
  refine hK _ _ ⟨fun _ => b6, trivial⟩ ?_
  clear hK K
  have B6 := Lib.hid (below_trans B5.out b6)
  have HB6 := Lib.hid (HB5.out.later b6)
  have O6 := Lib.hid (own_mono o6 (show w.heap.size ≤ _ from B5.out.size))
  clear b6 o6
  refine batchJ RT.refl [10] (fuel := 0) rfl (by kernel_rfl) (by kernel_rfl) (fun _ _ d _ _ h => by cases d <;> exact h) ?_
  (repeat (first | ((with_reducible apply wq0); rfl; rfl; rfl; intro K hK; go_big_quiet_op; refine hK _ ?_; clear hK K) | ((with_reducible apply wq1); rfl; rfl; rfl; rfl; rfl; rfl; intro K hK; go_big_quiet_op; refine hK _ ?_; clear hK K) | ((with_reducible apply wqs); rfl; rfl; rfl; rfl; rfl; rfl; simp only [Act.put, List.setIfInBounds_toArray, List.set_cons_zero, List.set_cons_succ]) | ((with_reducible apply wqu); rfl; rfl; rfl; rfl; rfl; (first | simp only [same, Act.put, List.setIfInBounds_toArray, List.set_cons_zero, List.set_cons_succ] | simp only [Act.put, List.setIfInBounds_toArray, List.set_cons_zero, List.set_cons_succ]))))
  refine wqIdx_nil ?_
  refine wpAnyJ_done (by kernel_rfl) ?_ _
  have hl6 : (x1 ++ x2 ++ x3).length ≤ 36 := by rw [List.length_append, List.length_append]; omega
  obtain ⟨y, hy⟩ : ∃ y, y = x1 ++ x2 ++ x3 := ⟨_, rfl⟩
  rw [← hy] at O6 hl6
  rw [← hy]
  have HY := Lib.hid hy
  clear hy
  clear P2 P3 P4 P5 l2 l3 l4
  obtain ⟨-, q1, q2, q3, q4⟩ := EdBox.of HB6.out
  simp only at q1 q2 q3 q4
  go_wp2_with fail
  clear q1 q2 q3 q4
  go_loopw [7, 34] (fun v i wr => ∃ (k : Nat) (A1 : Option Addr) (c1 : Nat), k ≤ refs.length ∧ i = .int .i64 (k : Int) ∧ v = .slice A1 (y ++ putRfs (refs.take k)).length c1 ∧ wr.ownsRow w.heap.size 5 1 v (y ++ putRfs (refs.take k)).length (Byt (y ++ putRfs (refs.take k))) ∧ Below w.heap.size w wr ∧ Blk wr w.heap.size 50 (edCs ⟨kind, ep, rd, refs⟩ A c)) (fun _ i _ => refs.length - (intOf i).toNat)
  case atStart => exact ⟨0, A6, c6, Nat.zero_le _, rfl, by simp [putRfs], by simpa [putRfs] using O6.out, B6.out, HB6.out⟩
  case round =>
    obtain ⟨k, A1, c1, hk, rfl, rfl, ho, hb, hbx⟩ := hrel
    have HO := Lib.hid ho
    have HBW := Lib.hid hb
    have HX := Lib.hid hbx
    obtain ⟨-, q1, q2, q3, q4⟩ := EdBox.of hbx
    simp only at q1 q2 q3 q4
    clear ho hb hbx
    by_cases hlt : k < refs.length
    · have hea := List.getElem?_eq_getElem hlt
      obtain ⟨p, hp⟩ : ∃ p, p = refs[k] := ⟨_, rfl⟩
      rw [← hp] at hea
      have hokp := (List.all_eq_true.1 HOK.out) p (hp ▸ List.getElem_mem hlt)
      obtain ⟨⟨n1, n2⟩, ⟨m1, m2⟩, z1, z2⟩ := (okRf_iff p).1 hokp
      have HS := Lib.hid (putRfs_snoc hea)
      have hrl := putRf_le p hokp
      have hyl : (y ++ putRfs (refs.take k)).length ≤ 20000 := by
        rw [List.length_append]
        have := putRfs_le (refs.take k) (by rw [List.all_eq_true]; intro x hx; exact (List.all_eq_true.1 HOK.out) x (List.mem_of_mem_take hx))
        rw [List.length_take] at this
        omega
      obtain ⟨g, off, rfl, -, hc⟩ := (HR.out.below HBW.out).at_ hea
      have F1 := Lib.hid (fun W => text_any p.name W (by omega))
      have F2 := Lib.hid (fun W => number_any p.base W (by omega) (by omega))
      have F3 := Lib.hid (fun W => number_any p.count W (by omega) (by omega))
      have t1 := textL_le p.name n2
      have t2 := putL_le9 p.base.toNat (by omega)
      have t3 := putL_le9 p.count.toNat (by omega)
      have hpr : putRf p = textL (strL p.name) ++ putL p.base.toNat ++ putL p.count.toNat := rfl
      rw [hpr] at HS hrl
      have r0 := hc 0 _ rfl
      have r1 := hc 1 _ rfl
      have r2 := hc 2 _ rfl
      rw [Nat.add_zero] at r0
      obtain ⟨s, b, n⟩ := p
      simp only at F1 F2 F3 t1 t2 t3 HS hrl
      generalize textL (strL s) = y1 at F1 t1 HS hrl
      generalize putL b.toNat = y2 at F2 t2 HS hrl
      generalize putL n.toNat = y3 at F3 t3 HS hrl
      obtain ⟨z, hz⟩ : ∃ z, z = y ++ putRfs (refs.take k) := ⟨_, rfl⟩
      rw [← hz] at HO hyl
      rw [← hz]
      have HZ2 := Lib.hid hz
      clear hz
      clear hea hp hc hokp n1 n2 m1 m2 hpr
      have BX := Blk.new wr 110 #[.string s, .int .i64 b, .int .i64 n]
      have HC0 := Lib.hid (BX.cell 0)
      have HC1 := Lib.hid (BX.cell 1)
      have HC2 := Lib.hid (BX.cell 2)
      have ba := alloc_below wr (.cells #[.string s, .int .i64 b, .int .i64 n] 110)
      have HO1 := Lib.hid (own_below HO.out ba)
      have HBW1 := Lib.hid (below_trans HBW.out ba)
      have HX1 := Lib.hid (HX.out.later ba)
      clear BX ba HO HX
      go_wp2_with fail
      clear q1 q2 q3 q4 r0 r1 r2
      refine wp_region_J RT [12, 13] (n := 14) (by kernel_rfl) rfl ?_
      refine batchJ RT.refl [0, 1, 2, 4, 5, 7, 8] (fuel := 7) rfl (by kernel_rfl) (by kernel_rfl) (fun _ _ d _ _ h => by cases d <;> exact h) ?_
      (repeat (first | ((with_reducible apply wq0); rfl; rfl; rfl; intro K hK; go_big_quiet_op; refine hK _ ?_; clear hK K) | ((with_reducible apply wq1); rfl; rfl; rfl; rfl; rfl; rfl; intro K hK; go_big_quiet_op; refine hK _ ?_; clear hK K) | ((with_reducible apply wqs); rfl; rfl; rfl; rfl; rfl; rfl; simp only [Act.put, List.setIfInBounds_toArray, List.set_cons_zero, List.set_cons_succ]) | ((with_reducible apply wqu); rfl; rfl; rfl; rfl; rfl; (first | simp only [same, Act.put, List.setIfInBounds_toArray, List.set_cons_zero, List.set_cons_succ] | simp only [Act.put, List.setIfInBounds_toArray, List.set_cons_zero, List.set_cons_succ]))))
      refine wqIdx_load rfl rfl rfl rfl (fun W hW => run_load1 (fun _ => by kernel_rfl) (keep_c hW (HC0.out))) ?_; simp only [Act.put, List.setIfInBounds_toArray, List.set_cons_zero, List.set_cons_succ]
      (repeat (first | ((with_reducible apply wq0); rfl; rfl; rfl; intro K hK; go_big_quiet_op; refine hK _ ?_; clear hK K) | ((with_reducible apply wq1); rfl; rfl; rfl; rfl; rfl; rfl; intro K hK; go_big_quiet_op; refine hK _ ?_; clear hK K) | ((with_reducible apply wqs); rfl; rfl; rfl; rfl; rfl; rfl; simp only [Act.put, List.setIfInBounds_toArray, List.set_cons_zero, List.set_cons_succ]) | ((with_reducible apply wqu); rfl; rfl; rfl; rfl; rfl; (first | simp only [same, Act.put, List.setIfInBounds_toArray, List.set_cons_zero, List.set_cons_succ] | simp only [Act.put, List.setIfInBounds_toArray, List.set_cons_zero, List.set_cons_succ]))))
      refine wqIdx_load rfl rfl rfl rfl (fun W hW => run_load1 (fun _ => by kernel_rfl) (keep_c hW (HC1.out))) ?_; simp only [Act.put, List.setIfInBounds_toArray, List.set_cons_zero, List.set_cons_succ]
      (repeat (first | ((with_reducible apply wq0); rfl; rfl; rfl; intro K hK; go_big_quiet_op; refine hK _ ?_; clear hK K) | ((with_reducible apply wq1); rfl; rfl; rfl; rfl; rfl; rfl; intro K hK; go_big_quiet_op; refine hK _ ?_; clear hK K) | ((with_reducible apply wqs); rfl; rfl; rfl; rfl; rfl; rfl; simp only [Act.put, List.setIfInBounds_toArray, List.set_cons_zero, List.set_cons_succ]) | ((with_reducible apply wqu); rfl; rfl; rfl; rfl; rfl; (first | simp only [same, Act.put, List.setIfInBounds_toArray, List.set_cons_zero, List.set_cons_succ] | simp only [Act.put, List.setIfInBounds_toArray, List.set_cons_zero, List.set_cons_succ]))))
      refine wqIdx_load rfl rfl rfl rfl (fun W hW => run_load1 (fun _ => by kernel_rfl) (keep_c hW (HC2.out))) ?_; simp only [Act.put, List.setIfInBounds_toArray, List.set_cons_zero, List.set_cons_succ]
      refine wqIdx_nil ?_
      refine wpAnyJ_sole (i := 3) rfl (by kernel_rfl) (fun K hK => ?_); go_simp
      refine (F1.out _).mono ?_; rintro x w7 ⟨v7, rfl, o7, b7⟩
      obtain ⟨A7, c7, rfl⟩ := own_form o7
      refine hK _ _ ⟨fun _ => b7, trivial⟩ ?_
      clear hK K
      have O7 := Lib.hid o7
      have b7' := Below.of_drew0 b7
      have B7 := Lib.hid (below_trans HBW1.out b7')
      have HO2 := Lib.hid (own_below HO1.out b7')
      have HX2 := Lib.hid (HX1.out.later b7')
      clear b7 b7' o7
      refine wpAnyJ_sole (i := 6) rfl (by kernel_rfl) (fun K hK => ?_); go_simp
      refine (F2.out _).mono ?_; rintro x w8 ⟨A8, c8, rfl, o8, b8⟩
      refine hK _ _ ⟨fun _ => b8, trivial⟩ ?_
      clear hK K
      have O8 := Lib.hid o8
      have O7' := Lib.hid (own_below O7.out b8)
      have B8 := Lib.hid (below_trans B7.out b8)
      have HO3 := Lib.hid (own_below HO2.out b8)
      have HX3 := Lib.hid (HX2.out.later b8)
      clear b8 o8
      refine wpAnyJ_sole (i := 9) rfl (by kernel_rfl) (fun K hK => ?_); go_simp
      refine (F3.out _).mono ?_; rintro x w9 ⟨A9, c9, rfl, o9, b9⟩
      refine hK _ _ ⟨fun _ => b9, trivial⟩ ?_
      clear hK K
      have O9 := Lib.hid o9
      have O8' := Lib.hid (own_below O8.out b9)
      have O7'' := Lib.hid (own_below O7'.out b9)
      have B9 := Lib.hid (below_trans B8.out b9)
      have HO4 := Lib.hid (own_below HO3.out b9)
      have HX4 := Lib.hid (HX3.out.later b9)
      clear b9 o9
      refine wpAnyJ_sole (i := 10) rfl (by kernel_rfl) (fun K hK => ?_); go_simp
      have b10 := alloc_below w9 (.cells #[.slice A7 y1.length c7, .slice A8 y2.length c8, .slice A9 y3.length c9] 30)
      refine hK _ _ ⟨fun _ => b10, trivial⟩ ?_
      clear hK K
      have G5 := Lib.hid (Blk.new w9 30 #[.slice A7 y1.length c7, .slice A8 y2.length c8, .slice A9 y3.length c9])
      obtain ⟨g7, -, s7, -⟩ := SlB.of_own (own_below O7''.out b10)
      obtain ⟨g8, -, s8, -⟩ := SlB.of_own (own_below O8'.out b10)
      obtain ⟨g9, -, s9, -⟩ := SlB.of_own (own_below O9.out b10)
      have P5 := Lib.hid (concatU8_three A7 g7 y1 c7 A8 g8 y2 c8 A9 g9 y3 c9 _ _ s7 s8 s9 (by omega) (by omega) (by omega) G5.out)
      have B10 := Lib.hid (below_trans B9.out b10)
      have HO5 := Lib.hid (own_below HO4.out b10)
      have HX5 := Lib.hid (HX4.out.later b10)
      clear b10 s7 s8 s9
      refine wpAnyJ_sole (i := 11) rfl (by kernel_rfl) (fun K hK => ?_); go_simp
      refine P5.out.mono ?_; rintro x w11 ⟨A11, c11, rfl, o11, b11⟩
      refine hK _ _ ⟨fun _ => b11, trivial⟩ ?_
      clear hK K
      have B11 := Lib.hid (below_trans B10.out b11)
      have HO6 := Lib.hid (own_below HO5.out b11)
      have HX6 := Lib.hid (HX5.out.later b11)
      have R11 := Lib.hid (own_bytes_reads o11)
      have HSZ := Lib.hid (show w.heap.size ≤ w11.heap.size from B11.out.size)
      clear b11 o11
      generalize y1 ++ y2 ++ y3 = yy at HS hrl R11 ⊢
      refine wpAnyJ_sole (i := 12) rfl (by kernel_rfl) (fun K hK => ?_); rw [if_pos (wanted0 rfl _)]
      refine wp_appB _ (.tmp 38) (.tmp 49) _ rfl Try.underlying30 info_b HO6.out R11.out c11 rfl rfl (by omega) HSZ.out ?_
      intro A5 c5 w12 o12 gr12
      have hown : ∀ i, (Value.slice A1 z.length c1).ownBlock = some i → w.heap.size ≤ i ∧ i < w11.heap.size := fun i hi => World.ownsRow.lt HO6.out i hi
      have O12 := Lib.hid o12
      have BE := Lib.hid (B11.out.grown (Grew.by_ gr12) HSZ.out fun i hi => (hown i hi).1)
      have hne : (Value.slice A1 z.length c1).ownBlock ≠ some w.heap.size := own_blk_ne HO6.out HX6.out (by decide)
      have HX7 := Lib.hid (HX6.out.grown (Grew.by_ gr12) fun e => hne e.symm)
      refine hK _ _ ⟨fun hc => absurd (by decide) hc, trivial⟩ ?_
      clear hK K o12 gr12 hown hne
      simp only [Act.put, List.setIfInBounds_toArray, List.set_cons_zero, List.set_cons_succ]
      refine batchP RT.refl RT.trans [13] (fuel := 0) rfl (by kernel_rfl) (by kernel_rfl) (fun _ _ d _ _ h => by cases d <;> exact h) ?_
      (repeat (first | ((with_reducible apply wq0); rfl; rfl; rfl; intro K hK; go_big_quiet_op; refine hK _ ?_; clear hK K) | ((with_reducible apply wq1); rfl; rfl; rfl; rfl; rfl; rfl; intro K hK; go_big_quiet_op; refine hK _ ?_; clear hK K) | ((with_reducible apply wqs); rfl; rfl; rfl; rfl; rfl; rfl; simp only [Act.put, List.setIfInBounds_toArray, List.set_cons_zero, List.set_cons_succ]) | ((with_reducible apply wqu); rfl; rfl; rfl; rfl; rfl; (first | simp only [same, Act.put, List.setIfInBounds_toArray, List.set_cons_zero, List.set_cons_succ] | simp only [Act.put, List.setIfInBounds_toArray, List.set_cons_zero, List.set_cons_succ]))))
      refine wqIdx_nil ?_
      refine wpAnyJ_done (by kernel_rfl) ?_ _
      have hsn : z ++ yy = y ++ putRfs (refs.take (k + 1)) := by rw [HZ2.out, HS.out, List.append_assoc]
      have o12 := O12.out
      rw [show z.length + yy.length = (y ++ putRfs (refs.take (k + 1))).length by rw [← hsn, List.length_append], hsn] at o12
      have O13 := Lib.hid o12
      rw [show z.length + yy.length = (y ++ putRfs (refs.take (k + 1))).length by rw [← hsn, List.length_append]]
      clear o12 hsn O12
      go_wp2
      exact ⟨⟨k + 1, A5, c5, by omega, by go_num, rfl, O13.out, BE.out, HX7.out⟩, by simp only [intOf]; omega⟩
    · obtain rfl : k = refs.length := by omega
      have ho := HO.out
      have hz : y ++ putRfs (refs.take refs.length) = Z := by rw [List.take_length, HE.out, HY.out]
      rw [hz] at ho
      have HO2 := Lib.hid ho
      rw [hz]
      clear ho hz q1 q2 q3 q4
      go_wp2
      go_ret2
      exact ⟨A1, c1, rfl, HO2.out, HBW.out⟩
end Go.Proofs.Ytfmmdnjoichifaa

namespace Go.Proofs.Ytfmmdnjoichifaa
open Go.RowKit Go.Sort

theorem EdBk.late {w w' : World} {g : Nat} {e : Ed} {A : Option Addr} {c : Nat} (h : Blk w g 50 (edCs e A c)) (hb : Below w.heap.size w w') : w'.cell? ⟨g, 0, none⟩ = some (.int .i64 e.kind) ∧ w'.cell? ⟨g, 1, none⟩ = some (.int .i64 e.ep) ∧ w'.cell? ⟨g, 2, none⟩ = some (.int .i64 e.rd) ∧ w'.cell? ⟨g, 3, none⟩ = some (.slice A e.refs.length c) := (EdBox.of (h.later hb)).2
theorem rf_cells {w w' : World} {base g off k : Nat} {l : List Rf} {s : ByteArray} {b n : Int} (h : RfAt w base (some ⟨g, off, none⟩) l) (hb : Below w.heap.size w w') (hk : l[k]? = some ⟨s, b, n⟩) :
    w'.cell? ⟨g, off + k * 3, none⟩ = some (.string s) ∧ w'.cell? ⟨g, off + k * 3 + 1, none⟩ = some (.int .i64 b) ∧ w'.cell? ⟨g, off + k * 3 + 2, none⟩ = some (.int .i64 n) := by
  obtain ⟨g', off', e', -, hc⟩ := (h.below hb).at_ hk
  injection e' with e'
  injection e' with eg eo
  subst eg eo
  exact ⟨hc 0 _ rfl, hc 1 _ rfl, hc 2 _ rfl⟩
set_option maxRecDepth 100000 in
set_option maxHeartbeats 8000000 in
theorem red_put_ok (e : Ed) (A : Option Addr) (c base : Nat) (w : World) (hr : RfAt w base A e.refs) (h : okEd e = true) :
    Calls Try.prog 30 #[edV e A c] w (OwnB w (putEd e)) := by
  obtain ⟨h1, h2, -, h4, h5⟩ := (okEd_iff e).1 h
  have HB := Lib.hid (Blk.new w 50 (edCs e A c))
  have B0 := Lib.hid (alloc_below w (.cells (edCs e A c) 50))
  have HR := Lib.hid hr
  have P2 := Lib.hid (fun W => rput_mo e.ep e.rd W h2)
  have P3 := Lib.hid (fun W => rput_any e.kind.toNat W (by omega))
  rw [show ((e.kind.toNat : Nat) : Int) = e.kind by omega] at P3
  have P4 := Lib.hid (fun W => rput_any e.refs.length W (by omega))
  have l2 := putMo_le _ _ h2
  have l3 := putL_le9 e.kind.toNat (by omega)
  have l4 := putL_le9 e.refs.length (by omega)
  have HOK := Lib.hid h5
  have hE : putEd e = putL e.kind.toNat ++ putMo e.ep e.rd ++ putL e.refs.length ++ putRfs e.refs := rfl
  obtain ⟨kind, ep, rd, refs⟩ := e
  obtain ⟨-, q1, q2, q3, q4⟩ := EdBox.of HB.out
  unfold edCs at q1 q2 q3 q4
  simp only at q1 q2 q3 q4 hE P2 P3 P4 l2 l3 l4 h4 HR
  generalize putEd ⟨kind, ep, rd, refs⟩ = Z at hE ⊢
  have HE := Lib.hid hE
  generalize putL kind.toNat = x1 at P3 l3 HE
  generalize putMo ep rd = x2 at P2 l2 HE
  generalize putL refs.length = x3 at P4 l4 HE
  clear hr h h1 h2 h5 hE
  unfold edV
  go_enter Try.func30, Try.ntmps30
  go_wp2_with fail
  have Q1 := Lib.hid q1
  have Q2 := Lib.hid q2
  have Q3 := Lib.hid q3
  clear q1 q2 q3 q4
  refine wp_region_J RT [6, 7] (n := 8) (by kernel_rfl) rfl ?_
  refine batchJ RT.refl [0, 1, 3, 4] (fuel := 4) rfl (by kernel_rfl) (by kernel_rfl) (fun _ _ d _ _ h => by cases d <;> exact h) ?_
  (repeat (first | ((with_reducible apply wq0); rfl; rfl; rfl; intro K hK; go_big_quiet_op; refine hK _ ?_; clear hK K) | ((with_reducible apply wq1); rfl; rfl; rfl; rfl; rfl; rfl; intro K hK; go_big_quiet_op; refine hK _ ?_; clear hK K) | ((with_reducible apply wqs); rfl; rfl; rfl; rfl; rfl; rfl; simp only [Act.put, List.setIfInBounds_toArray, List.set_cons_zero, List.set_cons_succ]) | ((with_reducible apply wqu); rfl; rfl; rfl; rfl; rfl; (first | simp only [same, Act.put, List.setIfInBounds_toArray, List.set_cons_zero, List.set_cons_succ] | simp only [Act.put, List.setIfInBounds_toArray, List.set_cons_zero, List.set_cons_succ]))))
  refine wqIdx_load rfl rfl rfl rfl (fun W hW => run_load1 (fun _ => by kernel_rfl) (keep_c hW (Q1.out))) ?_; simp only [Act.put, List.setIfInBounds_toArray, List.set_cons_zero, List.set_cons_succ]
  (repeat (first | ((with_reducible apply wq0); rfl; rfl; rfl; intro K hK; go_big_quiet_op; refine hK _ ?_; clear hK K) | ((with_reducible apply wq1); rfl; rfl; rfl; rfl; rfl; rfl; intro K hK; go_big_quiet_op; refine hK _ ?_; clear hK K) | ((with_reducible apply wqs); rfl; rfl; rfl; rfl; rfl; rfl; simp only [Act.put, List.setIfInBounds_toArray, List.set_cons_zero, List.set_cons_succ]) | ((with_reducible apply wqu); rfl; rfl; rfl; rfl; rfl; (first | simp only [same, Act.put, List.setIfInBounds_toArray, List.set_cons_zero, List.set_cons_succ] | simp only [Act.put, List.setIfInBounds_toArray, List.set_cons_zero, List.set_cons_succ]))))
  refine wqIdx_load rfl rfl rfl rfl (fun W hW => load_mo_at _ 1 ep rd W (keep_c hW Q2.out) (keep_c hW Q3.out)) ?_
  simp only [Act.put, List.setIfInBounds_toArray, List.set_cons_zero, List.set_cons_succ]
  refine wqIdx_nil ?_
  refine wpAnyJ_sole (i := 2) rfl (by kernel_rfl) (fun K hK => ?_); go_simp
  refine (P3.out _).mono ?_; rintro x w3 ⟨v3, rfl, o3, b3⟩
  obtain ⟨A3, c3, rfl⟩ := own_form o3
  refine hK _ _ ⟨fun _ => b3, trivial⟩ ?_
  clear hK K
  have O3 := Lib.hid (own_mono o3 (show w.heap.size ≤ _ from B0.out.size))
  have B3 := Lib.hid (below_trans B0.out (Below.of_drew0 b3))
  have HB3 := Lib.hid (HB.out.later (Below.of_drew0 b3))
  clear b3 o3
  refine wpAnyJ_sole (i := 5) rfl (by kernel_rfl) (fun K hK => ?_); go_simp
  refine (P2.out _).mono ?_; rintro x w4 ⟨v4, rfl, o4, b4⟩
  obtain ⟨A4, c4, rfl⟩ := own_form o4
  refine hK _ _ ⟨fun _ => b4, trivial⟩ ?_
  clear hK K
  have R4 := Lib.hid (own_bytes_reads o4)
  have O3' := Lib.hid (own_below O3.out b4)
  have B4 := Lib.hid (below_trans B3.out b4)
  have HB4 := Lib.hid (HB3.out.later b4)
  have HSZ := Lib.hid (show w.heap.size ≤ w4.heap.size from B4.out.size)
  clear b4 o4
  refine wpAnyJ_sole (i := 6) rfl (by kernel_rfl) (fun K hK => ?_); rw [if_pos (wanted0 rfl _)]
  refine wp_appB _ (.tmp 7) (.tmp 10) _ rfl Try.underlying30 info_b O3'.out R4.out c4 rfl rfl (by omega) HSZ.out ?_
  intro A5 c5 w5 o5 gr5
  have hown : ∀ i, (Value.slice A3 x1.length c3).ownBlock = some i → w.heap.size ≤ i ∧ i < w4.heap.size := fun i hi => World.ownsRow.lt O3'.out i hi
  have hne : (Value.slice A3 x1.length c3).ownBlock ≠ some w.heap.size := own_blk_ne O3'.out HB4.out (by decide)
  have O5 := Lib.hid o5
  have B5 := Lib.hid (B4.out.grown (Grew.by_ gr5) HSZ.out fun i hi => (hown i hi).1)
  have HB5 := Lib.hid (HB4.out.grown (Grew.by_ gr5) fun e => hne e.symm)
  refine hK _ _ ⟨fun hc => absurd (by decide) hc, trivial⟩ ?_
  clear hK K o5 gr5 hown hne
  simp only [Act.put, List.setIfInBounds_toArray, List.set_cons_zero, List.set_cons_succ]
  refine batchP RT.refl RT.trans [7] (fuel := 0) rfl (by kernel_rfl) (by kernel_rfl) (fun _ _ d _ _ h => by cases d <;> exact h) ?_
  (repeat (first | ((with_reducible apply wq0); rfl; rfl; rfl; intro K hK; go_big_quiet_op; refine hK _ ?_; clear hK K) | ((with_reducible apply wq1); rfl; rfl; rfl; rfl; rfl; rfl; intro K hK; go_big_quiet_op; refine hK _ ?_; clear hK K) | ((with_reducible apply wqs); rfl; rfl; rfl; rfl; rfl; rfl; simp only [Act.put, List.setIfInBounds_toArray, List.set_cons_zero, List.set_cons_succ]) | ((with_reducible apply wqu); rfl; rfl; rfl; rfl; rfl; (first | simp only [same, Act.put, List.setIfInBounds_toArray, List.set_cons_zero, List.set_cons_succ] | simp only [Act.put, List.setIfInBounds_toArray, List.set_cons_zero, List.set_cons_succ]))))
  refine wqIdx_nil ?_
  refine wpAnyJ_done (by kernel_rfl) ?_ _
  have hl5 : x1.length + x2.length ≤ 30 := by omega
  obtain ⟨-, q1, q2, q3, q4⟩ := EdBox.of HB5.out
  simp only at q1 q2 q3 q4
  go_wp2_with fail
  refine (P4.out _).mono ?_; rintro x w6 ⟨v6, rfl, o6, b6⟩
  obtain ⟨A6, c6, rfl⟩ := own_form o6
  have R6 := Lib.hid (own_bytes_reads o6)
  have O6 := Lib.hid (own_below O5.out b6)
  have B6 := Lib.hid (below_trans B5.out b6)
  have HB6 := Lib.hid (HB5.out.later b6)
  have HS6 := Lib.hid (show w.heap.size ≤ w6.heap.size from B6.out.size)
  clear b6 o6 q1 q2 q3 q4
  have hxl : x1.length + x2.length = (x1 ++ x2).length := List.length_append.symm
  rw [hxl] at O6 hl5
  rw [hxl]
  obtain ⟨x12, hx12⟩ : ∃ x12, x12 = x1 ++ x2 := ⟨_, rfl⟩
  rw [← hx12] at O6 hl5
  rw [← hx12]
  have HX12 := Lib.hid hx12
  clear hx12 hxl
  go_wp2_with (at_builtin; (refine wpList_appB _ rfl (.tmp 12) (.tmp 16) _ rfl Try.underlying30 info_b O6.out R6.out c6 rfl rfl (by omega) HS6.out ?_); intro A7 c7 w7 o7 gr7; have O7 := Lib.hid o7; have G7 := Lib.hid gr7; clear o7 gr7)
  have BE := Lib.hid (B6.out.grown (Grew.by_ G7.out) HS6.out fun i hi => (World.ownsRow.lt O6.out i hi).1)
  have HB7 := Lib.hid (HB6.out.grown (Grew.by_ G7.out) fun e => own_blk_ne O6.out HB6.out (by decide) e.symm)
  obtain ⟨y, hy⟩ : ∃ y, y = x12 ++ x3 := ⟨_, rfl⟩
  have hyl : x12.length + x3.length = y.length := by rw [hy, List.length_append]
  have o7 := O7.out
  rw [hyl, ← hy] at o7
  have O8 := Lib.hid o7
  rw [hyl]
  have HY := Lib.hid hy
  have hy39 : y.length ≤ 39 := by omega
  clear o7 hy hyl O7 O6 HB HB3 HB4 HB5 HB6 O5 O3' O3 P2 P3 P4
  go_wp2_with fail
  go_loopw [3, 4] (fun v i wr => ∃ (k : Nat) (A1 : Option Addr) (c1 : Nat), k ≤ refs.length ∧ i = .int .i64 (k : Int) ∧ v = .slice A1 (y ++ putRfs (refs.take k)).length c1 ∧ wr.ownsRow w.heap.size 5 1 v (y ++ putRfs (refs.take k)).length (Byt (y ++ putRfs (refs.take k))) ∧ Below w.heap.size w wr ∧ Blk wr w.heap.size 50 (edCs ⟨kind, ep, rd, refs⟩ A c)) (fun _ i _ => refs.length - (intOf i).toNat)
  case atStart => exact ⟨0, A7, c7, Nat.zero_le _, rfl, by simp [putRfs], by simpa [putRfs] using O8.out, BE.out, HB7.out⟩
  case round =>
    obtain ⟨k, A1, c1, hk, rfl, rfl, ho, hb, hbx⟩ := hrel
    have HO := Lib.hid ho
    have HBW := Lib.hid hb
    have HX := Lib.hid hbx
    obtain ⟨-, q1, q2, q3, q4⟩ := EdBox.of hbx
    simp only at q1 q2 q3 q4
    clear ho hb hbx
    by_cases hlt : k < refs.length
    · have hea := List.getElem?_eq_getElem hlt
      obtain ⟨p, hp⟩ : ∃ p, p = refs[k] := ⟨_, rfl⟩
      rw [← hp] at hea
      have HEA := Lib.hid hea
      have hokp := (List.all_eq_true.1 HOK.out) p (hp ▸ List.getElem_mem hlt)
      obtain ⟨⟨n1, n2⟩, ⟨m1, m2⟩, z1, z2⟩ := (okRf_iff p).1 hokp
      have HS := Lib.hid (putRfs_snoc hea)
      have hyl : (y ++ putRfs (refs.take k)).length ≤ 20000 := by
        rw [List.length_append]
        have := putRfs_le (refs.take k) (by rw [List.all_eq_true]; intro x hx; exact (List.all_eq_true.1 HOK.out) x (List.mem_of_mem_take hx))
        rw [List.length_take] at this
        omega
      obtain ⟨g, off, rfl, -, hc⟩ := (HR.out.below HBW.out).at_ hea
      have F1 := Lib.hid (fun W => rtext_any p.name W (by omega))
      have F2 := Lib.hid (fun W => rput_any p.base.toNat W (by omega))
      rw [show ((p.base.toNat : Nat) : Int) = p.base by omega] at F2
      have F3 := Lib.hid (fun W => rput_any p.count.toNat W (by omega))
      rw [show ((p.count.toNat : Nat) : Int) = p.count by omega] at F3
      have t1 := textL_le p.name n2
      have t2 := putL_le9 p.base.toNat (by omega)
      have t3 := putL_le9 p.count.toNat (by omega)
      have hpr : putRf p = textL (strL p.name) ++ putL p.base.toNat ++ putL p.count.toNat := rfl
      rw [hpr] at HS
      have r0 := hc 0 _ rfl
      rw [Nat.add_zero] at r0
      obtain ⟨s, b, n⟩ := p
      simp only at F1 F2 F3 t1 t2 t3 HS
      generalize textL (strL s) = y1 at F1 t1 HS
      generalize putL b.toNat = y2 at F2 t2 HS
      generalize putL n.toNat = y3 at F3 t3 HS
      obtain ⟨z, hz⟩ : ∃ z, z = y ++ putRfs (refs.take k) := ⟨_, rfl⟩
      rw [← hz] at HO hyl
      rw [← hz]
      have HZ2 := Lib.hid hz
      clear hz hea hp hc hokp n1 n2 m1 m2 hpr
      go_wp2_with fail
      refine (F1.out _).mono ?_; rintro x w8 ⟨v8, rfl, o8, b8⟩
      obtain ⟨A8, c8, rfl⟩ := own_form o8
      have R8 := Lib.hid (own_bytes_reads o8)
      have O8 := Lib.hid (own_below HO.out b8)
      have B8 := Lib.hid (HBW.out.trans (b8.mono HBW.out.size))
      have HX8 := Lib.hid (HX.out.later b8)
      have HS8 := Lib.hid (show w.heap.size ≤ w8.heap.size from B8.out.size)
      clear b8 o8 q1 q2 q3 q4 r0
      go_wp2_with (at_builtin; (refine wpList_appB _ rfl (.tmp 25) (.tmp 32) _ rfl Try.underlying30 info_b O8.out R8.out c8 rfl rfl (by omega) HS8.out ?_); intro A9 c9 w9 o9 gr9; have O9 := Lib.hid o9; have G9 := Lib.hid gr9; clear o9 gr9; have B9 := Lib.hid (B8.out.grown (Grew.by_ G9.out) HS8.out fun i hi => (World.ownsRow.lt O8.out i hi).1); have HX9 := Lib.hid (HX8.out.grown (Grew.by_ G9.out) fun e => own_blk_ne O8.out HX8.out (by decide) e.symm); have q4 : w9.cell? ⟨w.heap.size, 3, none⟩ = some (.slice (some ⟨g, off, none⟩) refs.length c) := HX9.out.cell 3; have r1 := (rf_cells HR.out B9.out HEA.out).2.1)
      obtain ⟨z8, hz8⟩ : ∃ z8, z8 = z ++ y1 := ⟨_, rfl⟩
      have hzl : z.length + y1.length = z8.length := by rw [hz8, List.length_append]
      have o9 := O9.out
      rw [hzl, ← hz8] at o9
      have O9' := Lib.hid o9
      rw [hzl]
      have HZ8 := Lib.hid hz8
      have hl8 : z8.length ≤ 20100 := by omega
      clear o9 hz8 hzl O8 HX8 HO HX
      refine (F2.out _).mono ?_; rintro x w10 ⟨v10, rfl, o10, b10⟩
      obtain ⟨A10, c10, rfl⟩ := own_form o10
      have R10 := Lib.hid (own_bytes_reads o10)
      have O10 := Lib.hid (own_below O9'.out b10)
      have B10 := Lib.hid (B9.out.trans (b10.mono B9.out.size))
      have HX10 := Lib.hid (HX9.out.later b10)
      have HS10 := Lib.hid (show w.heap.size ≤ w10.heap.size from B10.out.size)
      clear b10 o10 q4 r1
      go_wp2_with (at_builtin; (refine wpList_appB _ rfl (.tmp 34) (.tmp 41) _ rfl Try.underlying30 info_b O10.out R10.out c10 rfl rfl (by omega) HS10.out ?_); intro A11 c11 w11 o11 gr11; have O11 := Lib.hid o11; have G11 := Lib.hid gr11; clear o11 gr11; have B11 := Lib.hid (B10.out.grown (Grew.by_ G11.out) HS10.out fun i hi => (World.ownsRow.lt O10.out i hi).1); have HX11 := Lib.hid (HX10.out.grown (Grew.by_ G11.out) fun e => own_blk_ne O10.out HX10.out (by decide) e.symm); have q4 : w11.cell? ⟨w.heap.size, 3, none⟩ = some (.slice (some ⟨g, off, none⟩) refs.length c) := HX11.out.cell 3; have r2 := (rf_cells HR.out B11.out HEA.out).2.2)
      obtain ⟨z9, hz9⟩ : ∃ z9, z9 = z8 ++ y2 := ⟨_, rfl⟩
      have hzl : z8.length + y2.length = z9.length := by rw [hz9, List.length_append]
      have o11 := O11.out
      rw [hzl, ← hz9] at o11
      have O11' := Lib.hid o11
      rw [hzl]
      have HZ9 := Lib.hid hz9
      have hl9 : z9.length ≤ 20200 := by omega
      clear o11 hz9 hzl O10 HX10 O9' HX9
      refine (F3.out _).mono ?_; rintro x w12 ⟨v12, rfl, o12, b12⟩
      obtain ⟨A12, c12, rfl⟩ := own_form o12
      have R12 := Lib.hid (own_bytes_reads o12)
      have O12 := Lib.hid (own_below O11'.out b12)
      have B12 := Lib.hid (B11.out.trans (b12.mono B11.out.size))
      have HX12 := Lib.hid (HX11.out.later b12)
      have HS12 := Lib.hid (show w.heap.size ≤ w12.heap.size from B12.out.size)
      clear b12 o12 q4 r2
      go_wp2_with (at_builtin; (refine wpList_appB _ rfl (.tmp 43) (.tmp 50) _ rfl Try.underlying30 info_b O12.out R12.out c12 rfl rfl (by omega) HS12.out ?_); intro A13 c13 w13 o13 gr13; have O13 := Lib.hid o13; have G13 := Lib.hid gr13; clear o13 gr13)
      have B13 := Lib.hid (B12.out.grown (Grew.by_ G13.out) HS12.out fun i hi => (World.ownsRow.lt O12.out i hi).1)
      have HX13 := Lib.hid (HX12.out.grown (Grew.by_ G13.out) fun e => own_blk_ne O12.out HX12.out (by decide) e.symm)
      have hz13 : z9 ++ y3 = y ++ putRfs (refs.take (k + 1)) := by rw [HZ9.out, HZ8.out, HZ2.out, HS.out]; simp only [List.append_assoc]
      have hzl : z9.length + y3.length = (y ++ putRfs (refs.take (k + 1))).length := by rw [← hz13, List.length_append]
      have o13 := O13.out
      rw [hzl, hz13] at o13
      have O14 := Lib.hid o13
      rw [hzl]
      clear o13 hz13 hzl
      exact ⟨⟨k + 1, A13, c13, by omega, by go_num, rfl, O14.out, B13.out, HX13.out⟩, by simp only [intOf]; omega⟩
    · obtain rfl : k = refs.length := by omega
      have ho := HO.out
      have hz : y ++ putRfs (refs.take refs.length) = Z := by rw [List.take_length, HE.out, HY.out, HX12.out]
      rw [hz] at ho
      have HO2 := Lib.hid ho
      rw [hz]
      clear ho hz
      go_wp2
      go_ret
      exact ⟨A1, c1, rfl, HO2.out, HBW.out⟩
end Go.Proofs.Ytfmmdnjoichifaa

namespace Go.Proofs.Ytfmmdnjoichifaa
open Go.RowKit Go.Sort

def refM (s : Option (List UInt8)) : Rf × Option (List UInt8) := (⟨⟨(textM 24 s).1.toArray⟩, (numM (textM 24 s).2).1, (numM (numM (textM 24 s).2).2).1⟩, (numM (numM (textM 24 s).2).2).2)
theorem info_rfS : (Try.prog.info? 110).map (·.size) = some 3 := by kernel_rfl
theorem RdAt.ne {T : TypeId} {w : World} {g h : Nat} {s : Option (List UInt8)} (r : RdAt T w g h s) : g ≠ h := by
  obtain ⟨A, c, l, -, h1, -⟩ := r
  exact h1
set_option maxRecDepth 100000 in
set_option maxHeartbeats 2000000 in
theorem edref_at (g h : Nat) (s : Option (List UInt8)) (w : World) (r : RdAt 151 w g h s) (hh : h ≠ w.heap.size) :
    Calls Try.prog 78 #[.pointer (some ⟨g, 0, none⟩)] w fun e w' => e = .returned (rfV (refM s).1) ∧ RdAt 151 w' g h (refM s).2 ∧ w.grownBy w' (some g) := by
  have hlt := r.lt
  have R0 := Lib.hid (r.below (alloc_below w (.cells #[.string ⟨#[]⟩, .int .i64 0, .int .i64 0] 110)))
  have HK0 := Lib.hid (Blk.new w 110 #[.string ⟨#[]⟩, .int .i64 0, .int .i64 0])
  obtain ⟨t, s1, ht⟩ : ∃ t s1, textM 24 s = (t, s1) := ⟨_, _, rfl⟩
  obtain ⟨x, s2, hx⟩ : ∃ x s2, numM s1 = (x, s2) := ⟨_, _, rfl⟩
  obtain ⟨y, s3, hy⟩ : ∃ y s3, numM s2 = (y, s3) := ⟨_, _, rfl⟩
  have hz : refM s = (⟨⟨t.toArray⟩, x, y⟩, s3) := by unfold refM; rw [ht]; simp only; rw [hx]; simp only; rw [hy]
  rw [hz]
  have PT := Lib.hid (fun W (r : RdAt 151 W g h s) => rdtext_at g h 24 s W r)
  rw [ht] at PT
  simp only at PT
  have HX := Lib.hid hx
  have HY := Lib.hid hy
  generalize (⟨t.toArray⟩ : ByteArray) = sb at PT ⊢
  unfold rfV
  clear r hx hy hz ht
  go_enter Try.func78, Try.ntmps78
  go_wp2_with fail
  refine (PT.out _ R0.out).mono ?_
  rintro e w1 ⟨rfl, r1, g1⟩
  have HK1 := Lib.hid (HK0.out.grown g1 (by simp; omega))
  have R1 := Lib.hid r1
  have G1 := Lib.hid g1
  clear r1 g1
  go_wp2_with fail
  refine (num_at g h s1 _ R1.out).mono ?_
  rw [HX.out]
  rintro e w2 ⟨rfl, r2, g2⟩
  have HK2 := Lib.hid (HK1.out.grown g2 (by simp; omega))
  have R2 := Lib.hid r2
  have G2 := Lib.hid g2
  clear r2 g2
  go_wp2_with fail
  refine (num_at g h s2 _ R2.out).mono ?_
  rw [HY.out]
  rintro e w3 ⟨rfl, r3, g3⟩
  have HK3 := Lib.hid (HK2.out.grown g3 (by simp; omega))
  have HBB := Lib.hid (only_trans (only_trans (only_trans (World.grownBy_alloc w (.cells #[.string ⟨#[]⟩, .int .i64 0, .int .i64 0] 110) (some g)) G1.out) G2.out) g3)
  have R3 := Lib.hid r3
  clear r3 g3
  have c0 := HK3.out.cell 0
  have c1 := HK3.out.cell 1
  have c2 := HK3.out.cell 2
  simp at c0 c1 c2
  have f0 := HK3.out.frozen 0
  have f1 := HK3.out.frozen 1
  have f2 := HK3.out.frozen 2
  have HRES := Lib.hid (fun (v0 v1 v2 : Value) => (show Blk (((w3.setCell ⟨w.heap.size, 0, none⟩ v0).setCell ⟨w.heap.size, 1, none⟩ v1).setCell ⟨w.heap.size, 2, none⟩ v2) w.heap.size 110 #[v0, v1, v2] from ((HK3.out.set_ 0 v0).set_ 1 v1).set_ 2 v2))
  have HBL := Lib.hid (fun (v0 v1 v2 : Value) => only_setCell (only_setCell (only_setCell HBB.out (p := ⟨w.heap.size, 0, none⟩) (.inr (Nat.le_refl _)) v0) (p := ⟨w.heap.size, 1, none⟩) (.inr (Nat.le_refl _)) v1) (p := ⟨w.heap.size, 2, none⟩) (.inr (Nat.le_refl _)) v2)
  have HRD := Lib.hid (fun (v0 v1 v2 : Value) => ((R3.out.set2 (p := ⟨w.heap.size, 0, none⟩) (Nat.ne_of_lt hlt) hh v0).set2 (p := ⟨w.heap.size, 1, none⟩) (Nat.ne_of_lt hlt) hh v1).set2 (p := ⟨w.heap.size, 2, none⟩) (Nat.ne_of_lt hlt) hh v2)
  go_wp2_with fail
  refine bodyPost_ret (results_cell_row rfl _ _ w.heap.size 110 #[.string sb, .int .i64 (x : Int), .int .i64 (y : Int)] (0, 0) _ rfl (HRES.out _ _ _) Try.underlying110 rfl info_rfS) rfl ?_
  exact ⟨rfl, HRD.out _ _ _, HBL.out _ _ _⟩
/-- So many refs are read. -/
def refsM : Nat → Option (List UInt8) → List Rf × Option (List UInt8)
  | 0, s => ([], s)
  | n + 1, s => ((refM s).1 :: (refsM n (refM s).2).1, (refsM n (refM s).2).2)
theorem refsM_snoc : ∀ (n : Nat) (s : Option (List UInt8)), refsM (n + 1) s = ((refsM n s).1 ++ [(refM (refsM n s).2).1], (refM (refsM n s).2).2)
  | 0, s => rfl
  | n + 1, s => by
    have ih := refsM_snoc n (refM s).2
    show ((refM s).1 :: (refsM (n + 1) (refM s).2).1, (refsM (n + 1) (refM s).2).2) = _
    rw [ih]
    rfl
theorem refsM_len : ∀ (n : Nat) (s : Option (List UInt8)), (refsM n s).1.length = n
  | 0, _ => rfl
  | n + 1, s => by show (refsM n (refM s).2).1.length + 1 = n + 1; rw [refsM_len]
/-- What bytes are as an edit. -/
def getM (b : List UInt8) : Option Ed :=
  if (readMo (numM (some b)).2).2 ≠ 0 then none else
  if 256 < (numM (readS (numM (some b)).2)).1 then none else
  if doneM (refsM (numM (readS (numM (some b)).2)).1 (numM (readS (numM (some b)).2)).2).2 ≠ 0 then none else
  if okEd ⟨(numM (some b)).1, (readMo (numM (some b)).2).1.1, (readMo (numM (some b)).2).1.2, (refsM (numM (readS (numM (some b)).2)).1 (numM (readS (numM (some b)).2)).2).1⟩ then some ⟨(numM (some b)).1, (readMo (numM (some b)).2).1.1, (readMo (numM (some b)).2).1.2, (refsM (numM (readS (numM (some b)).2)).1 (numM (readS (numM (some b)).2)).2).1⟩ else none
def GetAns (w : World) (z : Option Ed) (e : Ending) (w' : World) : Prop :=
  (z = none ∧ e = .returned (.tuple #[.agg #[.int .i64 0, .int .i64 0, .int .i64 0, .slice none 0 0], .int .i64 140]) ∧ Below w.heap.size w w') ∨
    ∃ x A c, z = some x ∧ e = .returned (.tuple #[edV x A c, .int .i64 0]) ∧ RfAt w' 0 A x.refs ∧ Below w.heap.size w w'
theorem info_edS : (Try.prog.info? 50).map (·.size) = some 4 := by kernel_rfl
theorem own_rfAt {w : World} {base b : Nat} {A : Option Addr} {n c : Nat} {l : List Rf} (h : w.ownsRow b 110 3 (.slice A n c) n (RowV encRf l)) : RfAt w base A l := fun hl => by
  obtain ⟨g, -, hs, hn, -⟩ := SlK.of_own layRf h
  have hpos : 0 < n := by rw [hn]; exact List.length_pos_iff.2 hl
  obtain ⟨g', cap, hv, -, hgl⟩ := h.form hpos
  injection hv with hv1 hv2 hv3
  subst hv1
  subst hv3
  refine ⟨g', 0, rfl, hgl, fun j u hj => ?_, .inr ?_⟩
  · rw [Nat.zero_add]
    have hj' : j < n * 3 := by have := (List.getElem?_eq_some_iff.1 hj).1; rwa [RowV_length layRf, ← hn] at this
    rw [h.cellAt j hj']
    exact hj
  · rcases h.2 with ⟨hv, -⟩ | ⟨g2, cap2, cur, hv, -, hh, -⟩
    · cases hv
    · injection hv with hv1 hv2 hv3
      injection hv1 with hv1
      injection hv1 with hv1
      subst hv1
      exact ⟨cur, (0, 0), hh⟩
section
variable {P : Program} {ops : Array Oper} {Q : Exit → Act → World → Prop} {md : Region.Mode} {R R1 : World → World → Prop} {late : List Nat}
theorem wp_region_JR {id : Nat} {a : Act} {w : World} {n : Nat} (R R1 : World → World → Prop) (late : List Nat) (hm : P.follows .mixedOrders = true) (hn : ops.size = n)
    (h : wpAnyJ P .any ops Q late R R1 n (Array.replicate n false) a w.drew) : (Code.region id ops true).wp P Q a w := by
  subst hn
  exact wp_region_any hm (wpAny_of_J _ _ _ _ h)
theorem batchJR (hrefl : ∀ w, R w w) (htrans : ∀ a b c, R a b → R b c → R a c) (h1refl : ∀ w, R1 w w) {w : World} (is : List Nat) {fuel N : Nat} {listed : Array Bool} {a : Act} (hN : N = fuel + is.length) (hs : Region.noSelect ops = true) (ht : takeableJ md ops late is listed = true)
    (hQ : ∀ c a d v w, Q (.panic c) (Act.put a d v) w → Q (.panic c) a w) (h : WQ P ops (R w) (fun a' => wpAnyJ P md ops Q late R R1 fuel (listAll is listed) a' w) is a) : wpAnyJ P md ops Q late R R1 N listed a w := by
  subst hN
  exact wpAnyJ_batch h1refl hrefl htrans hs hQ is fuel listed a ht h.out
theorem batchPR (hrefl : ∀ w, R w w) (h1refl : ∀ w, R1 w w) (h1trans : ∀ a b c, R1 a b → R1 b c → R1 a c) {w : World} (is : List Nat) {fuel N : Nat} {listed : Array Bool} {a : Act} (hN : N = fuel + is.length) (hs : Region.noSelect ops = true) (ht : takeable md ops is listed = true)
    (hQ : ∀ c a d v w, Q (.panic c) (Act.put a d v) w → Q (.panic c) a w) (h : WQ P ops (R1 w) (fun a' => wpAnyJ P md ops Q late R R1 fuel (listAll is listed) a' w) is a) : wpAnyJ P md ops Q late R R1 N listed a w := by
  subst hN
  exact wpAnyJ_pure h1refl h1trans hrefl hs hQ is fuel listed a ht h.out
end
theorem zero_rf (w : World) : (zeroValue 110).run Try.prog w = .ok (.agg #[.string ⟨#[]⟩, .int .i64 0, .int .i64 0]) w := by kernel_rfl
theorem RdAt.nearby {T : TypeId} {w : World} {g h h0 : Nat} {s : Option (List UInt8)} (r : RdAt T w g h s) (hne : g ≠ h0) (hlt : h0 < w.heap.size) : ∃ h', RdAt T w g h' s ∧ h' < w.heap.size := by
  obtain ⟨A, c, l, hb, hgh, hl, hc, hs, hr⟩ := r
  by_cases e : l = []
  · subst e; exact ⟨h0, ⟨A, c, [], hb, hne, hl, hc, SlB.nil _ _ _, hr⟩, hlt⟩
  · exact ⟨h, ⟨A, c, l, hb, hgh, hl, hc, hs, hr⟩, hs.lt e⟩
def edZ : Array Value := #[.int .i64 0, .int .i64 0, .int .i64 0, .slice none 0 0]
theorem own_far {w : World} {base e size n : Nat} {v : Value} {xs : List Value} (h : w.ownsRow base e size v n xs) {p : Addr} (hp : v.ownBlock ≠ some p.block) (u : Value) : (w.setCell p u).ownsRow base e size v n xs := by
  refine ⟨h.1, ?_⟩
  rcases h.2 with hv | ⟨g, cap, cur, hv, hb, hh, hx⟩
  · exact .inl hv
  · exact .inr ⟨g, cap, cur, hv, hb, (Below.heap_setCell w p u g (fun e => hp (by rw [hv, ← e]; rfl))).trans hh, hx⟩
set_option maxRecDepth 100000 in
set_option maxHeartbeats 8000000 in
theorem ed_get_any (A : Option Addr) (h : Nat) (b : List UInt8) (c : Nat) (w : World) (hl : SlB w h A b) (hn : b.length ≤ 100000) :
    Calls Try.prog 29 #[.slice A b.length c] w (GetAns w (getM b)) := by
  have B0 := Lib.hid (alloc_below w (.cells #[.int .i64 0, .int .i64 0, .int .i64 0, .slice none 0 0] 50))
  have K0 := Lib.hid (Blk.new w 50 #[.int .i64 0, .int .i64 0, .int .i64 0, .slice none 0 0])
  have P1 := Lib.hid (fun W (hs : SlB W h A b) => from_any A c h b W hs (by omega))
  have HL := Lib.hid (hl.below B0.out fun h => h)
  clear hl
  go_enter Try.func29, Try.ntmps29
  go_wp2_with fail
  refine (P1.out _ HL.out).mono ?_; rintro e w1 ⟨g, h1, rfl, hg, hh1, r1, b1⟩
  have R0 := Lib.hid r1
  have K1 := Lib.hid (K0.out.later b1)
  have B1 := Lib.hid (below_trans B0.out b1)
  have hgl := r1.lt
  rw [World.size_alloc] at hg hh1
  clear r1 b1 P1 HL
  obtain ⟨h2, r2, hh2⟩ := R0.out.nearby (h0 := w.heap.size) (by omega) K1.out.lt
  have R1 := Lib.hid r2
  clear r2 R0 hh1 h1
  obtain ⟨k, s1, hk⟩ : ∃ k s1, numM (some b) = (k, s1) := ⟨_, _, rfl⟩
  obtain ⟨mo, hmo⟩ : ∃ mo, readMo s1 = mo := ⟨_, rfl⟩
  obtain ⟨n, s3, hn3⟩ : ∃ n s3, numM (readS s1) = (n, s3) := ⟨_, _, rfl⟩
  have hget : getM b = if mo.2 ≠ 0 then none else if 256 < n then none else if doneM (refsM n s3).2 ≠ 0 then none else if okEd ⟨k, mo.1.1, mo.1.2, (refsM n s3).1⟩ then some ⟨k, mo.1.1, mo.1.2, (refsM n s3).1⟩ else none := by
    unfold getM
    rw [hk]
    simp only
    rw [hmo, hn3]
  obtain ⟨Z, hZ⟩ : ∃ Z, Z = getM b := ⟨_, rfl⟩
  rw [← hZ] at hget
  have HZE := Lib.hid hZ
  have HG := Lib.hid hget
  have PM := Lib.hid (fun W (r : RdAt 151 W g h2 s1) (hh : h2 ≠ W.heap.size) => mread_at2 g h2 s1 W r hh)
  rw [hmo, show (numM (numM s1).2).2 = readS s1 from rfl] at PM
  generalize readS s1 = s2 at hn3 PM
  obtain ⟨⟨ep, rd⟩, er⟩ := mo
  have HN3 := Lib.hid hn3
  have HK := Lib.hid hk
  clear hk hmo hn3 hget hZ
  go_wp2_with fail
  have PN := num_at g h2 (some b) _ R1.out
  rw [HK.out] at PN
  refine PN.mono ?_
  clear PN
  rintro e w2 ⟨rfl, r2, g2⟩
  have K2 := Lib.hid (K1.out.grown g2 (by simp; omega))
  have B2 := Lib.hid (B1.out.grown g2 (by omega) fun i hi => by injection hi with hi; omega)
  have hs2 := g2.size
  have R2 := Lib.hid (r2.below (alloc_below w2 (.cells #[.int .i64 (k : Int), .int .i64 0, .int .i64 0, .slice none 0 0] 50)))
  have K2' := Lib.hid (K2.out.later (alloc_below w2 (.cells #[.int .i64 (k : Int), .int .i64 0, .int .i64 0, .slice none 0 0] 50)))
  have E2 := Lib.hid (Blk.new w2 50 #[.int .i64 (k : Int), .int .i64 0, .int .i64 0, .slice none 0 0])
  have B2' := Lib.hid (B2.out.alloc (by omega) (.cells #[.int .i64 (k : Int), .int .i64 0, .int .i64 0, .slice none 0 0] 50))
  have hE : w.heap.size < w2.heap.size := by omega
  clear r2 g2 R1 K1
  go_wp2_with fail
  refine (PM.out _ R2.out (by rw [World.size_alloc]; omega)).mono ?_
  rintro e w3 ⟨rfl, r3, g3⟩
  have hs3 := g3.size
  rw [World.size_alloc] at hs3
  have K3 := Lib.hid (K2'.out.grown g3 (by simp; omega))
  have E3 := Lib.hid (E2.out.grown g3 (by simp; omega))
  have B3 := Lib.hid (B2'.out.grown g3 (by rw [World.size_alloc]; omega) fun i hi => by injection hi with hi; omega)
  have R3 := Lib.hid r3
  clear r3 g3
  simp only
  have R4 := Lib.hid (R3.out.below (alloc_below w3 (.cells #[.int .i64 ep, .int .i64 rd] 47)))
  have K4 := Lib.hid (K3.out.later (alloc_below w3 (.cells #[.int .i64 ep, .int .i64 rd] 47)))
  have E4 := Lib.hid (E3.out.later (alloc_below w3 (.cells #[.int .i64 ep, .int .i64 rd] 47)))
  have B4 := Lib.hid (B3.out.alloc (by omega) (.cells #[.int .i64 ep, .int .i64 rd] 47))
  have M4 := Lib.hid (Blk.new w3 47 #[.int .i64 ep, .int .i64 rd])
  have c0 := M4.out.cell 0
  have c1 := M4.out.cell 1
  have c2 := E4.out.cell 1
  have c3 := E4.out.cell 2
  simp at c0 c1 c2 c3
  have f1 := E4.out.frozen 1
  have f2 := E4.out.frozen 2
  have E5 := Lib.hid (show Blk (((w3.alloc (.cells #[.int .i64 ep, .int .i64 rd] 47)).setCell ⟨w2.heap.size, 1, none⟩ (.int .i64 ep)).setCell ⟨w2.heap.size, 2, none⟩ (.int .i64 rd)) w2.heap.size 50 #[.int .i64 (k : Int), .int .i64 ep, .int .i64 rd, .slice none 0 0] from (E4.out.set_ 1 (.int .i64 ep)).set_ 2 (.int .i64 rd))
  have K5 := Lib.hid (show Blk (((w3.alloc (.cells #[.int .i64 ep, .int .i64 rd] 47)).setCell ⟨w2.heap.size, 1, none⟩ (.int .i64 ep)).setCell ⟨w2.heap.size, 2, none⟩ (.int .i64 rd)) w.heap.size 50 edZ from (K4.out.far (p := ⟨w2.heap.size, 1, none⟩) (Nat.ne_of_lt hE) _).far (p := ⟨w2.heap.size, 2, none⟩) (Nat.ne_of_lt hE) _)
  have R5 := Lib.hid ((R4.out.set2 (p := ⟨w2.heap.size, 1, none⟩) (Nat.ne_of_lt (show g < w2.heap.size by omega)) (Nat.ne_of_lt (show h2 < w2.heap.size by omega)) (.int .i64 ep)).set2 (p := ⟨w2.heap.size, 2, none⟩) (Nat.ne_of_lt (show g < w2.heap.size by omega)) (Nat.ne_of_lt (show h2 < w2.heap.size by omega)) (.int .i64 rd))
  have B5 := Lib.hid (below_setCell (below_setCell B4.out (p := ⟨w2.heap.size, 1, none⟩) (show w.heap.size ≤ w2.heap.size by omega) (.int .i64 ep)) (p := ⟨w2.heap.size, 2, none⟩) (show w.heap.size ≤ w2.heap.size by omega) (.int .i64 rd))
  go_wp2_with fail
  have PN := num_at g h2 s2 _ R5.out
  rw [HN3.out] at PN
  refine PN.mono ?_
  clear PN
  rintro e w6 ⟨rfl, r6, g6⟩
  clear c0 c1 c2 c3 f1 f2
  have hs6 := g6.size
  simp only [World.size_setCell, World.size_alloc] at hs6
  have K6 := Lib.hid (K5.out.grown g6 (by simp; omega))
  have E6 := Lib.hid (E5.out.grown g6 (by simp; omega))
  have B6 := Lib.hid (B5.out.grown g6 (by simp only [World.size_setCell, World.size_alloc]; omega) fun i hi => by injection hi with hi; omega)
  have R6 := Lib.hid r6
  clear r6 g6 K2 K2' K3 K4 K5 E2 E3 E4 E5 B2 B2' B3 B4 B5 R2 R3 R4 R5 M4 K0 B0 B1
  by_cases her : er = 0 ∧ n ≤ 256
  · obtain ⟨rfl, hn256⟩ := her
    have d1 : decide ((n : Int) > 256) = false := by rw [decide_eq_false_iff_not]; omega
    have hg := HG.out
    rw [if_neg (by simp), if_neg (by omega)] at hg
    have HG2 := Lib.hid hg
    clear hg HG
    go_wp2_with fail
    go_loopw [31] (fun i wr => ∃ (j : Nat) (lk : List Rf) (sk : Option (List UInt8)) (A3 : Option Addr) (c3 : Nat), j ≤ n ∧ i = .int .i64 (j : Int) ∧ refsM j s3 = (lk, sk) ∧ Blk wr w2.heap.size 50 #[.int .i64 (k : Int), .int .i64 ep, .int .i64 rd, .slice A3 lk.length c3] ∧ wr.ownsRow w6.heap.size 110 3 (.slice A3 lk.length c3) lk.length (RowV encRf lk) ∧ RdAt 151 wr g h2 sk ∧ Blk wr w.heap.size 50 edZ ∧ w6.heap.size ≤ wr.heap.size ∧ Below w.heap.size w wr) (fun i _ => n - (intOf i).toNat)
    case atStart => exact ⟨0, [], s3, none, 0, Nat.zero_le _, rfl, rfl, E6.out, own_nil_k layRf _ _ _, R6.out, K6.out, Nat.le_refl _, B6.out⟩
    case round =>
      obtain ⟨j, lk, sk, A3, c3, hj, rfl, hlk, he, ho, hr, hz, hsz, hb⟩ := hrel
      have HLK := Lib.hid hlk
      have HLEN := Lib.hid (show lk.length = j by have := refsM_len j s3; rwa [hlk] at this)
      have E := Lib.hid he
      have O := Lib.hid ho
      have R := Lib.hid hr
      have ZB := Lib.hid hz
      have B := Lib.hid hb
      clear hlk he ho hr hz hb
      by_cases hlt : j < n
      · have HE3 := Lib.hid (E.out.cell 3)
        have PF := Lib.hid (fun W (r : RdAt 151 W g h2 sk) (hh : h2 ≠ W.heap.size) => edref_at g h2 sk W r hh)
        have HSN := Lib.hid (refsM_snoc j s3)
        rw [HLK.out] at HSN
        simp only at HSN
        generalize refM sk = qq at PF HSN
        obtain ⟨⟨sb, xb, xc⟩, sx⟩ := qq
        simp only at PF HSN
        go_wp2_with fail
        have HLT := Lib.hid hlt
        clear hlt
        have NEG := Lib.hid (show ¬ w2.heap.size = g by omega)
        refine wp_region_JR (RK fun q => q = g) RT [5, 7] (n := 8) (by kernel_rfl) rfl ?_
        refine batchJR (RK.refl _) (RK.trans _) RT.refl [0, 1, 2] (fuel := 5) rfl (by kernel_rfl) (by kernel_rfl) (fun _ _ d _ _ h => by cases d <;> exact h) ?_
        (repeat (first | ((with_reducible apply wq0); rfl; rfl; rfl; intro K hK; go_big_quiet_op; refine hK _ ?_; clear hK K) | ((with_reducible apply wq1); rfl; rfl; rfl; rfl; rfl; rfl; intro K hK; go_big_quiet_op; refine hK _ ?_; clear hK K) | ((with_reducible apply wqs); rfl; rfl; rfl; rfl; rfl; rfl; simp only [Act.put, List.setIfInBounds_toArray, List.set_cons_zero, List.set_cons_succ]) | ((with_reducible apply wqu); rfl; rfl; rfl; rfl; rfl; (first | simp only [same, Act.put, List.setIfInBounds_toArray, List.set_cons_zero, List.set_cons_succ] | simp only [Act.put, List.setIfInBounds_toArray, List.set_cons_zero, List.set_cons_succ]))))
        refine wqIdx_load rfl rfl rfl rfl (fun W hW => run_load1 (fun _ => by kernel_rfl) (keep_k hW (NEG.out) (HE3.out))) ?_; simp only [Act.put, List.setIfInBounds_toArray, List.set_cons_zero, List.set_cons_succ]
        (repeat (first | ((with_reducible apply wq0); rfl; rfl; rfl; intro K hK; go_big_quiet_op; refine hK _ ?_; clear hK K) | ((with_reducible apply wq1); rfl; rfl; rfl; rfl; rfl; rfl; intro K hK; go_big_quiet_op; refine hK _ ?_; clear hK K) | ((with_reducible apply wqs); rfl; rfl; rfl; rfl; rfl; rfl; simp only [Act.put, List.setIfInBounds_toArray, List.set_cons_zero, List.set_cons_succ]) | ((with_reducible apply wqu); rfl; rfl; rfl; rfl; rfl; (first | simp only [same, Act.put, List.setIfInBounds_toArray, List.set_cons_zero, List.set_cons_succ] | simp only [Act.put, List.setIfInBounds_toArray, List.set_cons_zero, List.set_cons_succ]))))
        refine wqIdx_nil ?_
        refine wpAnyJ_sole (i := 3) rfl (by kernel_rfl) (fun K hK => ?_); go_simp
        refine (PF.out wr.drew R.out (Nat.ne_of_lt (show h2 < wr.heap.size by omega))).mono ?_
        rintro x w7 ⟨rfl, r7, g7⟩
        refine hK _ _ ⟨fun _ => rk_of_grown g7 (fun i hi => by injection hi with hi; exact hi.symm), trivial⟩ ?_
        clear hK K PF HE3
        have E7 := Lib.hid ((show Blk wr.drew w2.heap.size 50 #[.int .i64 (k : Int), .int .i64 ep, .int .i64 rd, .slice A3 lk.length c3] from E.out).grown g7 (by simp; omega))
        have Z7 := Lib.hid ((show Blk wr.drew w.heap.size 50 edZ from ZB.out).grown g7 (by simp; omega))
        have O7 := Lib.hid ((World.ownsRow.drew O.out).kept g7 (by
          rcases hob : (Value.slice A3 lk.length c3).ownBlock with _ | gg
          · exact .inl rfl
          · refine .inr fun e => ?_
            injection e with e
            have := (World.ownsRow.lt O.out gg hob).1
            omega))
        have hs7 : wr.heap.size ≤ w7.heap.size := g7.size
        have B7 := Lib.hid (B.out.trans (show Below w.heap.size wr w7 from ⟨g7.os, g7.tape, g7.output, g7.size, fun i hi => g7.block i (by have := B.out.size; show i < wr.heap.size; omega) (fun e => by injection e with e; omega)⟩))
        have R7 := Lib.hid r7
        clear r7 g7 E ZB O R B
        unfold rfV
        refine wpAnyJ_sole (i := 4) rfl (by kernel_rfl) (fun K hK => ?_); rw [if_pos (wanted0 rfl _)]
        refine wp_buildSlice_one (.tmp 36) rfl (cs := encRf ⟨sb, xb, xc⟩) rfl Try.underlying48 info_rfS (by decide) (by decide) (layRf.len _) (zero_rf _) rfl ?_
        have b8 := alloc_below w7 (.cells (encRf ⟨sb, xb, xc⟩).toArray 110)
        refine hK _ _ ⟨fun _ => rk_of_below b8, trivial⟩ ?_
        clear hK K
        simp only [Act.put, List.setIfInBounds_toArray, List.set_cons_zero, List.set_cons_succ]
        have E8 := Lib.hid (E7.out.later b8)
        have Z8 := Lib.hid (Z7.out.later b8)
        have O8 := Lib.hid (own_below O7.out b8)
        have R8 := Lib.hid (R7.out.below b8)
        have B8 := Lib.hid (B7.out.trans (b8.mono B7.out.size))
        have hrx := reads_oneK layRf w7 ⟨sb, xb, xc⟩ 110
        have HRX := Lib.hid hrx
        have HSZ := Lib.hid (show w6.heap.size ≤ (w7.alloc (.cells (encRf ⟨sb, xb, xc⟩).toArray 110)).heap.size by rw [World.size_alloc]; omega)
        clear b8 hrx
        refine wpAnyJ_sole (i := 5) rfl (by kernel_rfl) (fun K hK => ?_); rw [if_pos (wanted0 rfl _)]
        refine wp_appK layRf (ys := [⟨sb, xb, xc⟩]) (.tmp 34) (.tmp 37) _ rfl Try.underlying48 info_rf rfl O8.out HRX.out 1 rfl rfl (by have := HLEN.out; omega) (by decide) HSZ.out ?_
        intro A5 c5 w9 o9 gr9
        refine hK _ _ ⟨fun hc => absurd (by decide) hc, trivial⟩ ?_
        clear hK K
        simp only [Act.put, List.setIfInBounds_toArray, List.set_cons_zero, List.set_cons_succ]
        have hrow : ∀ i, (Value.slice A3 lk.length c3).ownBlock = some i → w6.heap.size ≤ i := fun i hi => (World.ownsRow.lt O8.out i hi).1
        have E9 := Lib.hid (E8.out.grown (Grew.by_ gr9) fun e => own_blk_ne O8.out E8.out (by decide) e.symm)
        have Z9 := Lib.hid (Z8.out.grown (Grew.by_ gr9) fun e => own_blk_ne O8.out Z8.out (by decide) e.symm)
        have R9 := Lib.hid (R8.out.grown (Grew.by_ gr9) (fun e => by have := hrow g e.symm; omega) (fun e => by have := hrow h2 e.symm; omega))
        have B9 := Lib.hid (B8.out.grown (Grew.by_ gr9) (by rw [World.size_alloc]; omega) fun i hi => by have := hrow i hi; omega)
        have hs9 := (Grew.by_ gr9).size
        rw [World.size_alloc] at hs9
        have O9 := Lib.hid o9
        clear o9 gr9 hrow E7 E8 Z7 Z8 O7 O8 R7 R8 B7 B8
        refine batchPR (RK.refl _) RT.refl RT.trans [6] (fuel := 1) rfl (by kernel_rfl) (by kernel_rfl) (fun _ _ d _ _ h => by cases d <;> exact h) ?_
        (repeat (first | ((with_reducible apply wq0); rfl; rfl; rfl; intro K hK; go_big_quiet_op; refine hK _ ?_; clear hK K) | ((with_reducible apply wq1); rfl; rfl; rfl; rfl; rfl; rfl; intro K hK; go_big_quiet_op; refine hK _ ?_; clear hK K) | ((with_reducible apply wqs); rfl; rfl; rfl; rfl; rfl; rfl; simp only [Act.put, List.setIfInBounds_toArray, List.set_cons_zero, List.set_cons_succ]) | ((with_reducible apply wqu); rfl; rfl; rfl; rfl; rfl; (first | simp only [same, Act.put, List.setIfInBounds_toArray, List.set_cons_zero, List.set_cons_succ] | simp only [Act.put, List.setIfInBounds_toArray, List.set_cons_zero, List.set_cons_succ]))))
        refine wqIdx_nil ?_
        have c3' := E9.out.cell 3
        simp at c3'
        have f3 := E9.out.frozen 3
        refine wpAnyJ_sole (i := 7) rfl (by kernel_rfl) (fun K hK => ?_); go_simp
        refine hK _ _ ⟨fun hc => absurd (by decide) hc, trivial⟩ ?_
        clear hK K
        have E10 := Lib.hid (show Blk (w9.setCell ⟨w2.heap.size, 3, none⟩ (.slice A5 (lk.length + 1) c5)) w2.heap.size 50 #[.int .i64 (k : Int), .int .i64 ep, .int .i64 rd, .slice A5 (lk.length + 1) c5] from E9.out.set_ 3 _)
        have Z10 := Lib.hid (show Blk (w9.setCell ⟨w2.heap.size, 3, none⟩ (.slice A5 (lk.length + 1) c5)) w.heap.size 50 edZ from Z9.out.far (p := ⟨w2.heap.size, 3, none⟩) (Nat.ne_of_lt hE) _)
        have R10 := Lib.hid (R9.out.set2 (p := ⟨w2.heap.size, 3, none⟩) (Nat.ne_of_lt (show g < w2.heap.size by omega)) (Nat.ne_of_lt (show h2 < w2.heap.size by omega)) (.slice A5 (lk.length + 1) c5))
        have B10 := Lib.hid (below_setCell B9.out (p := ⟨w2.heap.size, 3, none⟩) (show w.heap.size ≤ w2.heap.size by omega) (.slice A5 (lk.length + 1) c5))
        have O10 := Lib.hid (own_far O9.out (p := ⟨w2.heap.size, 3, none⟩) (fun e => own_blk_ne O9.out E9.out (by decide) e) (.slice A5 (lk.length + 1) c5))
        have hs10 : w6.heap.size ≤ (w9.setCell ⟨w2.heap.size, 3, none⟩ (.slice A5 (lk.length + 1) c5)).heap.size := by rw [World.size_setCell]; omega
        refine wpAnyJ_done (by kernel_rfl) ?_ _
        go_wp2
        have hlt := HLT.out
        have hl1 : lk.length + 1 = (lk ++ [(⟨sb, xb, xc⟩ : Rf)]).length := by rw [List.length_append]; rfl
        refine ⟨⟨j + 1, lk ++ [⟨sb, xb, xc⟩], sx, A5, c5, by omega, by go_num, HSN.out, ?_, ?_, R10.out, Z10.out, hs10, B10.out⟩, by simp only [intOf]; omega⟩
        · rw [← hl1]; exact E10.out
        · rw [← hl1]; exact O10.out
      · obtain rfl : j = n := by omega
        clear hlt hj
        have hg := HG2.out
        rw [HLK.out] at hg
        simp only at hg
        have HG3 := Lib.hid hg
        have k0 := ZB.out.cell 0
        have k1 := ZB.out.cell 1
        have k2 := ZB.out.cell 2
        have k3 := ZB.out.cell 3
        simp [edZ] at k0 k1 k2 k3
        have z0 := ZB.out.frozen 0
        have z1 := ZB.out.frozen 1
        have z2 := ZB.out.frozen 2
        have z3 := ZB.out.frozen 3
        have e0 := E.out.cell 0
        have e1 := E.out.cell 1
        have e2 := E.out.cell 2
        have e3 := E.out.cell 3
        simp at e0 e1 e2 e3
        have PD := Lib.hid (done_at g h2 sk wr R.out)
        have HOWN := Lib.hid (own_rfAt (base := 0) O.out)
        have PC := Lib.hid (ed_check_any ⟨k, ep, rd, lk⟩ A3 c3 0 wr HOWN.out (by rw [HLEN.out]; omega))
        clear hg HG2 PM
        go_wp2_with fail
        refine PD.out.mono ?_; rintro e w10 ⟨rfl, rfl⟩
        by_cases hd : doneM sk = 0
        · have hg := HG3.out
          rw [if_neg (by simpa using hd)] at hg
          have HG4 := Lib.hid hg
          rw [hd]
          clear hg hd HG3 PD k0 k1 k2 k3 z0 z1 z2 z3
          unfold edV at PC
          simp only at PC
          go_wp2_with fail
          refine PC.out.mono ?_; rintro e w11 ⟨rfl, b11⟩
          have E11 := Lib.hid (E.out.later b11)
          have Z11 := Lib.hid (ZB.out.later b11)
          have B11 := Lib.hid (B.out.trans (b11.mono B.out.size))
          have HOWN2 := Lib.hid (HOWN.out.below b11)
          clear b11 e0 e1 e2 e3
          have k0 := Z11.out.cell 0
          have k1 := Z11.out.cell 1
          have k2 := Z11.out.cell 2
          have k3 := Z11.out.cell 3
          simp [edZ] at k0 k1 k2 k3
          have z0 := Z11.out.frozen 0
          have z1 := Z11.out.frozen 1
          have z2 := Z11.out.frozen 2
          have z3 := Z11.out.frozen 3
          have e0 := E11.out.cell 0
          have e1 := E11.out.cell 1
          have e2 := E11.out.cell 2
          have e3 := E11.out.cell 3
          simp at e0 e1 e2 e3
          have HRES := Lib.hid (fun (v0 v1 v2 v3 : Value) => show Blk ((((w11.setCell ⟨w.heap.size, 0, none⟩ v0).setCell ⟨w.heap.size, 1, none⟩ v1).setCell ⟨w.heap.size, 2, none⟩ v2).setCell ⟨w.heap.size, 3, none⟩ v3) w.heap.size 50 #[v0, v1, v2, v3] from (((Z11.out.set_ 0 v0).set_ 1 v1).set_ 2 v2).set_ 3 v3)
          have HBL := Lib.hid (fun (v0 v1 v2 v3 : Value) => show Below w.heap.size w ((((w11.setCell ⟨w.heap.size, 0, none⟩ v0).setCell ⟨w.heap.size, 1, none⟩ v1).setCell ⟨w.heap.size, 2, none⟩ v2).setCell ⟨w.heap.size, 3, none⟩ v3) from below_setCell (below_setCell (below_setCell (below_setCell B11.out (Nat.le_refl _) _) (Nat.le_refl _) _) (Nat.le_refl _) _) (Nat.le_refl _) _)
          cases hok : okEd ⟨k, ep, rd, lk⟩
          · have hz : Z = none := by rw [HG4.out, hok]; rfl
            have HZ := Lib.hid hz
            rw [edE_bad hok]
            clear hz hok
            go_wp2
            refine bodyPost_ret (results_cell_tmp_row rfl _ _ w.heap.size 50 edZ (0, 0) _ rfl (HRES.out _ _ _ _) Try.underlying50 rfl info_edS) rfl ?_
            exact .inl ⟨HZE.out.symm.trans HZ.out, rfl, HBL.out _ _ _ _⟩
          · have hz : Z = some ⟨k, ep, rd, lk⟩ := by rw [HG4.out, hok]; rfl
            have HZ := Lib.hid hz
            rw [edE_ok hok]
            clear hz hok
            go_wp2
            refine bodyPost_ret (results_cell_tmp_row rfl _ _ w.heap.size 50 #[.int .i64 (k : Int), .int .i64 ep, .int .i64 rd, .slice A3 lk.length c3] (0, 0) _ rfl (HRES.out _ _ _ _) Try.underlying50 rfl info_edS) rfl ?_
            refine .inr ⟨⟨k, ep, rd, lk⟩, A3, c3, HZE.out.symm.trans HZ.out, rfl, ?_, HBL.out _ _ _ _⟩
            refine HOWN2.out.keep (by simp only [World.size_setCell]; exact Nat.le_refl _) fun q hq ho => ?_
            have hqz : q ≠ w.heap.size := fun e => by
              rcases ho with ho | ⟨cs, fr, ho⟩
              · exact absurd ho (Nat.not_lt_zero _)
              · have := Z11.out
                unfold Blk at this
                rw [e, this] at ho
                injection ho with ho
                injection ho with _ ht _
                exact absurd ht (by decide)
            rw [Below.heap_setCell _ _ _ _ hqz, Below.heap_setCell _ _ _ _ hqz, Below.heap_setCell _ _ _ _ hqz, Below.heap_setCell _ _ _ _ hqz]
        · have hg := HG3.out
          rw [if_pos hd] at hg
          have HZ := Lib.hid hg
          have d2 : (doneM sk != 0) = true := by simpa using hd
          generalize doneM sk = dm at d2 ⊢
          have HRES := Lib.hid (show Blk ((((wr.setCell ⟨w.heap.size, 0, none⟩ (.int .i64 0)).setCell ⟨w.heap.size, 1, none⟩ (.int .i64 0)).setCell ⟨w.heap.size, 2, none⟩ (.int .i64 0)).setCell ⟨w.heap.size, 3, none⟩ (.slice none 0 0)) w.heap.size 50 edZ from (((ZB.out.set_ 0 (.int .i64 0)).set_ 1 (.int .i64 0)).set_ 2 (.int .i64 0)).set_ 3 (.slice none 0 0))
          have HBL := Lib.hid (show Below w.heap.size w ((((wr.setCell ⟨w.heap.size, 0, none⟩ (.int .i64 0)).setCell ⟨w.heap.size, 1, none⟩ (.int .i64 0)).setCell ⟨w.heap.size, 2, none⟩ (.int .i64 0)).setCell ⟨w.heap.size, 3, none⟩ (.slice none 0 0)) from below_setCell (below_setCell (below_setCell (below_setCell B.out (Nat.le_refl _) _) (Nat.le_refl _) _) (Nat.le_refl _) _) (Nat.le_refl _) _)
          clear hg hd HG3 PD
          go_wp2
          refine bodyPost_ret (results_cell_tmp_row rfl _ _ w.heap.size 50 edZ (0, 0) _ rfl HRES.out Try.underlying50 rfl info_edS) rfl ?_
          exact .inl ⟨HZE.out.symm.trans HZ.out, rfl, HBL.out⟩
  · have hz : Z = none := by
      rw [HG.out]
      by_cases h0 : er = 0
      · rw [if_neg (by simpa using h0), if_pos (by omega)]
      · rw [if_pos h0]
    have HZ := Lib.hid hz
    have k0 := K6.out.cell 0
    have k1 := K6.out.cell 1
    have k2 := K6.out.cell 2
    have k3 := K6.out.cell 3
    simp [edZ] at k0 k1 k2 k3
    have z0 := K6.out.frozen 0
    have z1 := K6.out.frozen 1
    have z2 := K6.out.frozen 2
    have z3 := K6.out.frozen 3
    have HRES := Lib.hid (show Blk ((((w6.setCell ⟨w.heap.size, 0, none⟩ (.int .i64 0)).setCell ⟨w.heap.size, 1, none⟩ (.int .i64 0)).setCell ⟨w.heap.size, 2, none⟩ (.int .i64 0)).setCell ⟨w.heap.size, 3, none⟩ (.slice none 0 0)) w.heap.size 50 edZ from (((K6.out.set_ 0 (.int .i64 0)).set_ 1 (.int .i64 0)).set_ 2 (.int .i64 0)).set_ 3 (.slice none 0 0))
    have HBL := Lib.hid (show Below w.heap.size w ((((w6.setCell ⟨w.heap.size, 0, none⟩ (.int .i64 0)).setCell ⟨w.heap.size, 1, none⟩ (.int .i64 0)).setCell ⟨w.heap.size, 2, none⟩ (.int .i64 0)).setCell ⟨w.heap.size, 3, none⟩ (.slice none 0 0)) from below_setCell (below_setCell (below_setCell (below_setCell B6.out (Nat.le_refl _) _) (Nat.le_refl _) _) (Nat.le_refl _) _) (Nat.le_refl _) _)
    clear hz HG
    by_cases h0 : er = 0
    · have h256 : 256 < n := by omega
      have d1 : decide ((n : Int) > 256) = true := by rw [decide_eq_true_eq]; omega
      subst h0
      clear her h256
      go_wp2
      refine bodyPost_ret (results_cell_tmp_row rfl _ _ w.heap.size 50 edZ (0, 0) _ rfl HRES.out Try.underlying50 rfl info_edS) rfl ?_
      exact .inl ⟨HZE.out.symm.trans HZ.out, rfl, HBL.out⟩
    · have d1 : (er != 0) = true := by simpa using h0
      clear her h0
      go_wp2
      refine bodyPost_ret (results_cell_tmp_row rfl _ _ w.heap.size 50 edZ (0, 0) _ rfl HRES.out Try.underlying50 rfl info_edS) rfl ?_
      exact .inl ⟨HZE.out.symm.trans HZ.out, rfl, HBL.out⟩
end Go.Proofs.Ytfmmdnjoichifaa
