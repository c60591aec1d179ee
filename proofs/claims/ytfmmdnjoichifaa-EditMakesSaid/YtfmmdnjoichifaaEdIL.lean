/- Parts of the proofs about edit, joined. -/
import Derived.Test.YtfmmdnjoichifaaEdDF
import Derived.Test.YtfmmdnjoichifaaShelfB
namespace Go.Proofs.Ytfmmdnjoichifaa
open Go.RowKit Go.Sort

structure St where
  done : List Ed
  mark : Option Ed
def zE : Ed := ⟨0, 0, 0, []⟩
def St.mk' (S : St) : Ed := S.mark.getD zE
structure EdX where
  k : Int
  ep : Int
  rd : Int
  A : Option Addr
  n : Nat
  c : Nat
def encX (x : EdX) : List Value := [.int .i64 x.k, .int .i64 x.ep, .int .i64 x.rd, .slice x.A x.n x.c]
theorem layX : Lay EdX encX 4 := ⟨fun _ => rfl, fun x u hu => by simp [encX] at hu; rcases hu with rfl | rfl | rfl | rfl <;> rfl, by decide⟩
def xOf (e : Ed) (A : Option Addr) (c : Nat) : EdX := ⟨e.kind, e.ep, e.rd, A, e.refs.length, c⟩
theorem encX_of (e : Ed) (A : Option Addr) (c : Nat) : (encX (xOf e A c)).toArray = edCs e A c := rfl
/-- A row of edits, each with its refs. -/
def EdRow (w : World) (base : Nat) (xs : List EdX) (es : List Ed) : Prop := xs.length = es.length ∧ ∀ (i : Nat) (e : Ed), es[i]? = some e → ∃ A c, xs[i]? = some (xOf e A c) ∧ RfAt w base A e.refs
def St.ok (S : St) : Prop := (∀ e ∈ S.done, okEd e = true) ∧ (∀ e, S.mark = some e → okEd e = true) ∧ S.done.length ≤ 65536
/-- Block g is a state; hb: where its row lies. -/
def StR (T : TypeId) (w : World) (base g : Nat) (hb : Option Nat) (S : St) : Prop :=
  ∃ A c xs mA mc, Blk w g T #[.slice A S.done.length c, .int .i64 S.mk'.kind, .int .i64 S.mk'.ep, .int .i64 S.mk'.rd, .slice mA S.mk'.refs.length mc, .bool S.mark.isSome] ∧ base ≤ g ∧ w.ownsRow base 50 4 (.slice A S.done.length c) S.done.length (RowV encX xs) ∧ EdRow w base xs S.done ∧ RfAt w base mA S.mk'.refs ∧ hb = (Value.slice A S.done.length c).ownBlock ∧ S.ok
/-- What a call leaves as it was: all but the state and its row. -/
def EF (g : Nat) (hb : Option Nat) (w w' : World) : Prop := w'.os = w.os ∧ w'.tape = w.tape ∧ w'.output = w.output ∧ w.heap.size ≤ w'.heap.size ∧ ∀ k, k < w.heap.size → k ≠ g → some k ≠ hb → w'.heap[k]? = w.heap[k]?
section
variable {w w' w1 : World} {base g : Nat} {hb : Option Nat} {S : St} {T : TypeId}
theorem EF.of_below (h : Below w.heap.size w w') : EF g hb w w' := ⟨h.os, h.tape, h.output, h.size, fun k hk _ _ => h.block k hk⟩
theorem EF.size (h : EF g hb w w') : w.heap.size ≤ w'.heap.size := h.2.2.2.1
theorem EF.below (h : EF g hb w w') (hr : base ≤ g) (hh : ∀ k, hb = some k → base ≤ k) (hs : base ≤ w.heap.size) : Below base w w' :=
  ⟨h.1, h.2.1, h.2.2.1, h.2.2.2.1, fun i hi => h.2.2.2.2 i (by omega) (by omega) (fun e => by have := hh i e.symm; omega)⟩
theorem EdRow.keep {xs : List EdX} {es : List Ed} (h : EdRow w base xs es) (hs : w.heap.size ≤ w'.heap.size) (hk : ∀ k, k < w.heap.size → (k < base ∨ ∃ cs fr, w.heap[k]? = some (.cells cs 110 fr)) → w'.heap[k]? = w.heap[k]?) : EdRow w' base xs es :=
  ⟨h.1, fun i e he => by obtain ⟨A, c, h1, h2⟩ := h.2 i e he; exact ⟨A, c, h1, h2.keep hs hk⟩⟩
theorem EdRow.below {xs : List EdX} {es : List Ed} (h : EdRow w base xs es) (hb : Below w.heap.size w w') : EdRow w' base xs es := h.keep hb.size fun k hk _ => hb.block k hk
theorem EdRow.snoc {xs : List EdX} {es : List Ed} (h : EdRow w base xs es) {e : Ed} {A : Option Addr} {c : Nat} (hr : RfAt w base A e.refs) : EdRow w base (xs ++ [xOf e A c]) (es ++ [e]) := by
  refine ⟨by rw [List.length_append, List.length_append, h.1]; rfl, fun i e' he => ?_⟩
  by_cases hi : i < es.length
  · rw [List.getElem?_append_left hi] at he
    obtain ⟨A', c', h1, h2⟩ := h.2 i e' he
    exact ⟨A', c', by rw [List.getElem?_append_left (by rw [h.1]; exact hi)]; exact h1, h2⟩
  · have hlt := (List.getElem?_eq_some_iff.1 he).1
    rw [List.length_append, List.length_singleton] at hlt
    obtain rfl : i = es.length := by omega
    rw [List.getElem?_append_right (Nat.le_refl _), Nat.sub_self] at he
    simp only [List.getElem?_cons_zero, Option.some.injEq] at he
    subst he
    exact ⟨A, c, by rw [← h.1, List.getElem?_append_right (Nat.le_refl _), Nat.sub_self]; rfl, hr⟩
theorem StR.parts (h : StR T w base g hb S) : base ≤ g ∧ (∀ k, hb = some k → base ≤ k ∧ k < w.heap.size) ∧ g < w.heap.size := by
  obtain ⟨A, c, xs, mA, mc, h1, h2, h3, -, -, h6, -⟩ := h
  exact ⟨h2, fun k hk => World.ownsRow.lt h3 k (h6 ▸ hk), h1.lt⟩
theorem StR.good (h : StR T w base g hb S) : S.ok := by
  obtain ⟨A, c, xs, mA, mc, -, -, -, -, -, -, h7⟩ := h
  exact h7
/-- The state stays while others are written. -/
theorem StR.kept (h : StR T w base g hb S) (hs : w.heap.size ≤ w'.heap.size) (hk : ∀ k, k < w.heap.size → (k = g ∨ hb = some k ∨ k < base ∨ ∃ cs fr, w.heap[k]? = some (.cells cs 110 fr)) → w'.heap[k]? = w.heap[k]?) : StR T w' base g hb S := by
  obtain ⟨A, c, xs, mA, mc, h1, h2, h3, h4, h5, h6, h7⟩ := h
  refine ⟨A, c, xs, mA, mc, (hk g h1.lt (.inl rfl)).trans h1, h2, ⟨h3.1, ?_⟩, h4.keep hs fun k hk' ho => hk k hk' (.inr (.inr ho)), h5.keep hs fun k hk' ho => hk k hk' (.inr (.inr ho)), h6, h7⟩
  rcases h3.2 with hv | ⟨g', cap, cur, hv, hb1, hh, hx⟩
  · exact .inl hv
  · have : hb = some g' := by rw [h6, hv]; rfl
    have hlt : g' < w.heap.size := Blk.lt (t := 50) hh
    exact .inr ⟨g', cap, cur, hv, hb1, (hk g' hlt (.inr (.inl this))).trans hh, hx⟩
theorem StR.below (h : StR T w base g hb S) (hb' : Below w.heap.size w w') : StR T w' base g hb S := h.kept hb'.size fun k hk _ => hb'.block k hk
theorem StR.cells (h : StR T w base g hb S) : ∃ A c mA mc, w.cell? ⟨g, 0, none⟩ = some (.slice A S.done.length c) ∧ w.cell? ⟨g, 1, none⟩ = some (.int .i64 S.mk'.kind) ∧ w.cell? ⟨g, 2, none⟩ = some (.int .i64 S.mk'.ep) ∧ w.cell? ⟨g, 3, none⟩ = some (.int .i64 S.mk'.rd) ∧ w.cell? ⟨g, 4, none⟩ = some (.slice mA S.mk'.refs.length mc) ∧ w.cell? ⟨g, 5, none⟩ = some (.bool S.mark.isSome) ∧ RfAt w base mA S.mk'.refs ∧
    ∀ (i : Nat) (e : Ed), S.done[i]? = some e → ∃ eA ec q, A = some ⟨q, 0, none⟩ ∧ q < w.heap.size ∧ (∀ j u, (encX (xOf e eA ec))[j]? = some u → w.cell? ⟨q, i * 4 + j, none⟩ = some u) ∧ RfAt w base eA e.refs := by
  obtain ⟨A, c, xs, mA, mc, h1, h2, h3, h4, h5, h6, h7⟩ := h
  refine ⟨A, c, mA, mc, h1.cell 0, h1.cell 1, h1.cell 2, h1.cell 3, h1.cell 4, h1.cell 5, h5, fun i e he => ?_⟩
  obtain ⟨eA, ec, hx, hr⟩ := h4.2 i e he
  have hi : i < S.done.length := (List.getElem?_eq_some_iff.1 he).1
  obtain ⟨q, cap, hv, -, hql⟩ := h3.form (by omega)
  injection hv with hv1 hv2 hv3
  subst hv1
  subst hv3
  refine ⟨eA, ec, q, rfl, hql, fun j u hu => ?_, hr⟩
  have hj : j < 4 := by have := (List.getElem?_eq_some_iff.1 hu).1; rwa [layX.len] at this
  have := h3.cellAt (i * 4 + j) (by omega)
  rw [this, RowV_get layX xs i j _ hx hj]
  exact hu
end
theorem stV_build (w : World) : (Instr.build 133 #[]).run Try.prog w = .ok (.agg #[.slice none 0 0, .int .i64 0, .int .i64 0, .int .i64 0, .slice none 0 0, .bool false]) w := by kernel_rfl
set_option maxRecDepth 100000 in
theorem st_new (w : World) (base : Nat) (hbase : base ≤ w.heap.size) : Calls Try.prog 32 #[] w fun e w' => ∃ g, e = .returned (.pointer (some ⟨g, 0, none⟩)) ∧ StR 133 w' base g none ⟨[], none⟩ ∧ w.heap.size ≤ g ∧ Below w.heap.size w w' := by
  have B := Lib.hid (alloc_below w (.cells #[.slice none 0 0, .int .i64 0, .int .i64 0, .int .i64 0, .slice none 0 0, .bool false] 133))
  have X := Lib.hid (Blk.new w 133 #[.slice none 0 0, .int .i64 0, .int .i64 0, .int .i64 0, .slice none 0 0, .bool false])
  have HB := Lib.hid hbase
  clear hbase
  go_enter Try.func32, Try.ntmps32
  go_wp2_with fail
  go_ret
  exact ⟨_, rfl, ⟨none, 0, [], none, 0, X.out, HB.out, own_nil_k layX _ _ _, ⟨rfl, fun i e he => (by cases he)⟩, RfAt.nil _ _ _, rfl, ⟨fun e he => (by cases he), fun e he => (by cases he), Nat.zero_le _⟩⟩, Nat.le_refl _, B.out⟩
theorem st_next {w : World} {base g : Nat} {hb : Option Nat} {S : St} (h : StR 133 w base g hb S) : Calls Try.prog 39 #[.pointer (some ⟨g, 0, none⟩)] w fun e w' => e = .returned (.int .i64 (S.done.length : Int)) ∧ w = w' := by
  obtain ⟨A, c, mA, mc, c0, -⟩ := h.cells
  clear h
  go_enter Try.func39, Try.ntmps39
  go_wp2
  go_ret
  exact ⟨rfl, rfl⟩
theorem st_next_nil (w : World) : Calls Try.prog 39 #[.pointer none] w fun e w' => e = .returned (.int .i64 0) ∧ w = w' := by
  go_enter Try.func39, Try.ntmps39
  go_wp2
  go_ret
  exact ⟨rfl, rfl⟩
/-- A clone of refs. -/
def CloneR (w : World) (l : List Rf) (e : Ending) (w' : World) : Prop := ∃ A' c', e = .returned (.slice A' l.length c') ∧ (∀ base, RfAt w' base A' l) ∧ Below w.heap.size w w'
set_option maxRecDepth 100000 in
theorem clone_rf_empty (A : Option Addr) (c : Nat) (w : World) : Calls Try.prog 112 #[.slice A 0 c] w (CloneR w []) := by
  have q22 : ∀ (w : World) (a : Option Addr) (n c n' c' : Nat), (binOp .eql 48 (.slice a n c) (.slice none n' c')).run Try.prog w = .ok (.bool a.isNone) w := fun w a n c n' c' => Lib.run_eql_slice_nil w _ _ a n c n' c' Try.underlying48
  cases A
  · go_enter Try.func112, Try.ntmps112
    go_wp2
    go_ret
    exact ⟨none, 0, rfl, fun _ => RfAt.nil _ _ _, Below.refl _ _⟩
  · go_enter Try.func112, Try.ntmps112
    go_wp2
    go_ret
    exact ⟨_, _, rfl, fun _ => RfAt.nil _ _ _, alloc_below _ _⟩
set_option maxHeartbeats 400000 in
theorem clone_rf_any (A : Option Addr) (base : Nat) (l : List Rf) (c : Nat) (w : World) (hl : RfAt w base A l) (hn : l.length ≤ 20000) :
    Calls Try.prog 112 #[.slice A l.length c] w (CloneR w l) := by
  by_cases h0 : l = []
  · subst h0
    exact clone_rf_empty A c w
  · obtain ⟨hh, off, rfl, -, hc, -⟩ := hl h0
    obtain ⟨i0, hi0, hzz⟩ := Option.map_eq_some_iff.1 info_rf
    simp only [Prod.mk.injEq] at hzz
    obtain ⟨hz0, hz1, hz2⟩ := hzz
    refine (AnyE.slices_Clone Try.cloneRf i0 _ 3 32 hi0 hz0 hz1 hz2 rfl (by omega) Try.sizeOf110 hh off l.length c (RowV encRf l) w (RowV_length layRf l) (by unfold maxLen; omega) (by omega) hc (RowV_one layRf l)).mono ?_
    rintro e w' ⟨v', rfl, ho, -, hb⟩
    obtain ⟨A', c', rfl⟩ := own_form ho
    exact ⟨A', c', rfl, fun b => own_rfAt ho, hb⟩
/-- An edit with refs of its own. -/
def OwnAns (w : World) (e : Ed) (x : Ending) (w' : World) : Prop := ∃ A' c', x = .returned (edV e A' c') ∧ (∀ base, RfAt w' base A' e.refs) ∧ Below w.heap.size w w'
set_option maxRecDepth 100000 in
set_option maxHeartbeats 2000000 in
theorem ed_own_any (e : Ed) (A : Option Addr) (c base : Nat) (w : World) (hr : RfAt w base A e.refs) (hn : e.refs.length ≤ 20000) :
    Calls Try.prog 86 #[edV e A c] w (OwnAns w e) := by
  have b0 := alloc_below w (.cells (edCs e A c) 50)
  have b1 := alloc_below (w.alloc (.cells (edCs e A c) 50)) (.cells edZ 50)
  have X0 := (Blk.new w 50 (edCs e A c)).later b1
  have X1 := Blk.new (w.alloc (.cells (edCs e A c) 50)) 50 edZ
  rw [World.size_alloc] at X1
  have B := Lib.hid (below_trans b0 b1)
  have P := Lib.hid (clone_rf_any A base e.refs c _ (hr.below B.out) hn)
  have HX0 := Lib.hid X0
  have HX1 := Lib.hid X1
  have s3 := X0.cell 3
  clear b0 b1 hr X0 X1
  obtain ⟨k, ep, rd, refs⟩ := e
  unfold edV edZ edCs at *
  simp only at *
  go_enter Try.func86, Try.ntmps86
  go_wp2_with fail
  refine P.out.mono ?_; rintro x w2 ⟨A2, c2, rfl, hr2, b2⟩
  have HX0' := Lib.hid (HX0.out.later b2)
  have HX1' := Lib.hid (HX1.out.later b2)
  have B2 := Lib.hid (below_trans B.out b2)
  have HR2 := Lib.hid hr2
  have a0 := HX0'.out.cell 0
  have a1 := HX0'.out.cell 1
  have a2 := HX0'.out.cell 2
  have a3 := HX0'.out.cell 3
  have z3 := HX0'.out.frozen 3
  have y0 := HX1'.out.cell 0
  have y1 := HX1'.out.cell 1
  have y2 := HX1'.out.cell 2
  have y3 := HX1'.out.cell 3
  have f0 := HX1'.out.frozen 0
  have f1 := HX1'.out.frozen 1
  have f2 := HX1'.out.frozen 2
  have f3 := HX1'.out.frozen 3
  simp at a0 a1 a2 a3 y0 y1 y2 y3
  clear hr2 b2 s3
  have HRES := Lib.hid (fun (u v0 v1 v2 v3 : Value) => show Blk (((((w2.setCell ⟨w.heap.size, 3, none⟩ u).setCell ⟨w.heap.size + 1, 0, none⟩ v0).setCell ⟨w.heap.size + 1, 1, none⟩ v1).setCell ⟨w.heap.size + 1, 2, none⟩ v2).setCell ⟨w.heap.size + 1, 3, none⟩ v3) (w.heap.size + 1) 50 #[v0, v1, v2, v3] from ((((HX1'.out.far (p := ⟨w.heap.size, 3, none⟩) (by simp) u).set_ 0 v0).set_ 1 v1).set_ 2 v2).set_ 3 v3)
  have HBL := Lib.hid (fun (u v0 v1 v2 v3 : Value) => show Below w.heap.size w (((((w2.setCell ⟨w.heap.size, 3, none⟩ u).setCell ⟨w.heap.size + 1, 0, none⟩ v0).setCell ⟨w.heap.size + 1, 1, none⟩ v1).setCell ⟨w.heap.size + 1, 2, none⟩ v2).setCell ⟨w.heap.size + 1, 3, none⟩ v3) from below_setCell (below_setCell (below_setCell (below_setCell (below_setCell B2.out (Nat.le_refl _) _) (Nat.le_succ _) _) (Nat.le_succ _) _) (Nat.le_succ _) _) (Nat.le_succ _) _)
  have HRF := Lib.hid (fun (u v0 v1 v2 v3 : Value) (b : Nat) => show RfAt (((((w2.setCell ⟨w.heap.size, 3, none⟩ u).setCell ⟨w.heap.size + 1, 0, none⟩ v0).setCell ⟨w.heap.size + 1, 1, none⟩ v1).setCell ⟨w.heap.size + 1, 2, none⟩ v2).setCell ⟨w.heap.size + 1, 3, none⟩ v3) b A2 refs from by
    have h := (HR2.out 0).keep (w' := ((((w2.setCell ⟨w.heap.size, 3, none⟩ u).setCell ⟨w.heap.size + 1, 0, none⟩ v0).setCell ⟨w.heap.size + 1, 1, none⟩ v1).setCell ⟨w.heap.size + 1, 2, none⟩ v2).setCell ⟨w.heap.size + 1, 3, none⟩ v3) (by simp only [World.size_setCell]; exact Nat.le_refl _) fun q hq ho => by
      have hqz : ∀ z cs, Blk w2 z 50 cs → q ≠ z := fun z cs hz e => by
        rcases ho with ho | ⟨cs', fr, ho⟩
        · exact absurd ho (Nat.not_lt_zero _)
        · unfold Blk at hz
          rw [e, hz] at ho
          injection ho with ho
          injection ho with _ ht _
          exact absurd ht (by decide)
      have n0 := hqz _ _ HX0'.out
      have n1 := hqz _ _ HX1'.out
      rw [Below.heap_setCell _ _ _ _ n1, Below.heap_setCell _ _ _ _ n1, Below.heap_setCell _ _ _ _ n1, Below.heap_setCell _ _ _ _ n1, Below.heap_setCell _ _ _ _ n0]
    intro hl
    obtain ⟨q, off, e, h1, h2, h3⟩ := h hl
    exact ⟨q, off, e, h1, h2, .inr (h3.resolve_left (Nat.not_lt_zero _))⟩)
  go_wp2_with fail
  refine bodyPost_ret (results_cell_row rfl _ _ (w.heap.size + 1) 50 #[.int .i64 k, .int .i64 ep, .int .i64 rd, .slice A2 refs.length c2] (0, 0) _ rfl (HRES.out _ _ _ _ _) Try.underlying50 rfl info_edS) rfl ?_
  exact ⟨A2, c2, rfl, fun b => HRF.out _ _ _ _ _ b, HBL.out _ _ _ _ _⟩
end Go.Proofs.Ytfmmdnjoichifaa

namespace Go.Proofs.Ytfmmdnjoichifaa
open Go.RowKit Go.Sort

theorem edV_z : edV zE none 0 = .agg edZ := rfl
/-- Four cells of a result are stored. -/
theorem store4 {w : World} {g : Nat} {cs : Array Value} (h : Blk w g 50 cs) (hs : cs.size = 4) (v0 v1 v2 v3 : Value) : Blk ((((w.setCell ⟨g, 0, none⟩ v0).setCell ⟨g, 1, none⟩ v1).setCell ⟨g, 2, none⟩ v2).setCell ⟨g, 3, none⟩ v3) g 50 #[v0, v1, v2, v3] := by
  have h1 := (((h.set_ 0 v0).set_ 1 v1).set_ 2 v2).set_ 3 v3
  obtain ⟨⟨l⟩⟩ := cs
  · exact absurd hs (by decide)
  · rename_i a l
    match l, hs with
    | [b, c, d], _ => exact h1
theorem store4_below {w0 w : World} {g B : Nat} (h : Below B w0 w) (hg : B ≤ g) (v0 v1 v2 v3 : Value) : Below B w0 ((((w.setCell ⟨g, 0, none⟩ v0).setCell ⟨g, 1, none⟩ v1).setCell ⟨g, 2, none⟩ v2).setCell ⟨g, 3, none⟩ v3) :=
  below_setCell (below_setCell (below_setCell (below_setCell h hg _) hg _) hg _) hg _
theorem store4_rf {w : World} {g b : Nat} {A : Option Addr} {l : List Rf} {cs : Array Value} (h : Blk w g 50 cs) (hr : ∀ base, RfAt w base A l) (v0 v1 v2 v3 : Value) : RfAt ((((w.setCell ⟨g, 0, none⟩ v0).setCell ⟨g, 1, none⟩ v1).setCell ⟨g, 2, none⟩ v2).setCell ⟨g, 3, none⟩ v3) b A l := by
  have h' := (hr 0).keep (w' := (((w.setCell ⟨g, 0, none⟩ v0).setCell ⟨g, 1, none⟩ v1).setCell ⟨g, 2, none⟩ v2).setCell ⟨g, 3, none⟩ v3) (by simp only [World.size_setCell]; exact Nat.le_refl _) fun q hq ho => by
    have n0 : q ≠ g := fun e => by
      rcases ho with ho | ⟨cs', fr, ho⟩
      · exact absurd ho (Nat.not_lt_zero _)
      · unfold Blk at h
        rw [e, h] at ho
        injection ho with ho
        injection ho with _ ht _
        exact absurd ht (by decide)
    rw [Below.heap_setCell _ _ _ _ n0, Below.heap_setCell _ _ _ _ n0, Below.heap_setCell _ _ _ _ n0, Below.heap_setCell _ _ _ _ n0]
  intro hl
  obtain ⟨q, off, e, h1, h2, h3⟩ := h' hl
  exact ⟨q, off, e, h1, h2, .inr (h3.resolve_left (Nat.not_lt_zero _))⟩
theorem okEd_len {e : Ed} (h : okEd e = true) : e.refs.length ≤ 256 := ((okEd_iff e).1 h).2.2.2.1
theorem mk_len {S : St} (h : S.ok) : S.mk'.refs.length ≤ 256 := by
  unfold St.mk'
  cases hm : S.mark with
  | none => exact Nat.zero_le _
  | some e => exact okEd_len (h.2.1 e hm)
def TwoAns (w : World) (e : Ed) (b : Bool) (x : Ending) (w' : World) : Prop := ∃ A' c', x = .returned (.tuple #[edV e A' c', .bool b]) ∧ (∀ base, RfAt w' base A' e.refs) ∧ Below w.heap.size w w'
set_option maxRecDepth 100000 in
set_option maxHeartbeats 2000000 in
theorem st_mark {w : World} {base g : Nat} {hb : Option Nat} {S : St} (h : StR 133 w base g hb S) : Calls Try.prog 37 #[.pointer (some ⟨g, 0, none⟩)] w (TwoAns w S.mk' S.mark.isSome) := by
  have b0 := alloc_below w (.cells edZ 50)
  have B0 := Lib.hid b0
  have X0 := Lib.hid (Blk.new w 50 edZ)
  obtain ⟨A, c, mA, mc, c0, c1, c2, c3, c4, c5, hr, -⟩ := (h.below b0).cells
  have P := Lib.hid (ed_own_any S.mk' mA mc base _ hr (by have := mk_len h.good; omega))
  have HM := Lib.hid (show S.mark = none → S.mk' = zE from fun e => by unfold St.mk'; rw [e]; rfl)
  clear h b0 hr
  generalize S.mk' = e at *
  generalize S.mark = mark at *
  cases mark with
  | none =>
    obtain rfl := HM.out rfl
    have f0 := X0.out.cell 0
    have f1 := X0.out.cell 1
    have f2 := X0.out.cell 2
    have f3 := X0.out.cell 3
    have z0 := X0.out.frozen 0
    have z1 := X0.out.frozen 1
    have z2 := X0.out.frozen 2
    have z3 := X0.out.frozen 3
    simp [edZ] at f0 f1 f2 f3
    simp only [Option.isSome_none] at c5 ⊢
    unfold edZ at *
    go_enter Try.func37, Try.ntmps37
    go_wp2_with fail
    refine bodyPost_ret (results_cell_tmp_row rfl _ _ w.heap.size 50 #[.int .i64 0, .int .i64 0, .int .i64 0, .slice none 0 0] (0, 0) _ rfl X0.out Try.underlying50 rfl info_edS) rfl ?_
    exact ⟨none, 0, rfl, fun _ => RfAt.nil _ _ _, B0.out⟩
  | some m =>
    simp only [Option.isSome_some] at c5 ⊢
    obtain ⟨k, ep, rd, refs⟩ := e
    unfold edV edZ at *
    simp only at *
    go_enter Try.func37, Try.ntmps37
    go_wp2_with fail
    refine P.out.mono ?_; rintro x w2 ⟨A2, c2', rfl, hr2, b2⟩
    have X2 := Lib.hid (X0.out.later b2)
    have B2 := Lib.hid (below_trans B0.out b2)
    have HR2 := Lib.hid hr2
    have f0 := X2.out.cell 0
    have f1 := X2.out.cell 1
    have f2 := X2.out.cell 2
    have f3 := X2.out.cell 3
    have z0 := X2.out.frozen 0
    have z1 := X2.out.frozen 1
    have z2 := X2.out.frozen 2
    have z3 := X2.out.frozen 3
    simp at f0 f1 f2 f3
    have HRES := Lib.hid (store4 X2.out rfl)
    have HBL := Lib.hid (store4_below B2.out (Nat.le_refl _))
    have HRF := Lib.hid (fun b => store4_rf (b := b) X2.out hr2)
    clear hr2 b2 c0 c1 c2 c3 c4 c5
    unfold edV
    simp only
    go_wp2_with fail
    refine bodyPost_ret (results_cell_tmp_row rfl _ _ w.heap.size 50 #[.int .i64 k, .int .i64 ep, .int .i64 rd, .slice A2 refs.length c2'] (0, 0) _ rfl (HRES.out _ _ _ _) Try.underlying50 rfl info_edS) rfl ?_
    exact ⟨A2, c2', rfl, fun b => HRF.out b _ _ _ _, HBL.out _ _ _ _⟩
def inS (S : St) (n : Int) : Bool := decide (0 ≤ n) && decide (n < (S.done.length : Int))
def dnS (S : St) (n : Int) : Ed := if inS S n then (S.done[n.toNat]?).getD zE else zE
set_option maxRecDepth 100000 in
set_option maxHeartbeats 2000000 in
theorem st_mark_nil (w : World) : Calls Try.prog 37 #[.pointer none] w (TwoAns w zE false) := by
  have B0 := Lib.hid (alloc_below w (.cells edZ 50))
  have X0 := Lib.hid (Blk.new w 50 edZ)
  unfold edZ at *
  go_enter Try.func37, Try.ntmps37
  go_wp2_with fail
  refine bodyPost_ret (results_cell_tmp_row rfl _ _ w.heap.size 50 #[.int .i64 0, .int .i64 0, .int .i64 0, .slice none 0 0] (0, 0) _ rfl X0.out Try.underlying50 rfl info_edS) rfl ?_
  exact ⟨none, 0, rfl, fun _ => RfAt.nil _ _ _, B0.out⟩
set_option maxRecDepth 100000 in
set_option maxHeartbeats 2000000 in
theorem st_done {w : World} {base g : Nat} {hb : Option Nat} {S : St} (h : StR 133 w base g hb S) (n : Int) : Calls Try.prog 40 #[.pointer (some ⟨g, 0, none⟩), .int .i64 n] w (TwoAns w (dnS S n) (inS S n)) := by
  have b0 := alloc_below w (.cells edZ 50)
  have B0 := Lib.hid b0
  have X0 := Lib.hid (Blk.new w 50 edZ)
  have PN := Lib.hid (st_next (h.below b0))
  by_cases h0 : n < 0
  · have d1 : decide (n < 0) = true := by rw [decide_eq_true_eq]; exact h0
    have hin : inS S n = false := by unfold inS; rw [decide_eq_false (by omega)]; rfl
    have hdn : dnS S n = zE := by unfold dnS; rw [hin]; rfl
    rw [hin, hdn]
    clear hin hdn h0 h b0
    unfold edZ at *
    go_enter Try.func40, Try.ntmps40
    go_wp2_with fail
    refine bodyPost_ret (results_cell_tmp_row rfl _ _ w.heap.size 50 #[.int .i64 0, .int .i64 0, .int .i64 0, .slice none 0 0] (0, 0) _ rfl X0.out Try.underlying50 rfl info_edS) rfl ?_
    exact ⟨none, 0, rfl, fun _ => RfAt.nil _ _ _, B0.out⟩
  · obtain ⟨i, rfl⟩ : ∃ i : Nat, n = (i : Int) := ⟨n.toNat, by omega⟩
    have d1 : decide ((i : Int) < 0) = false := by rw [decide_eq_false_iff_not]; omega
    by_cases h1 : i < S.done.length
    · have hin : inS S i = true := by unfold inS; rw [decide_eq_true (by omega), decide_eq_true (by omega)]; rfl
      have hea := List.getElem?_eq_getElem h1
      obtain ⟨e, he⟩ : ∃ e, e = S.done[i] := ⟨_, rfl⟩
      rw [← he] at hea
      have hdn : dnS S i = e := by unfold dnS; rw [hin, if_pos rfl, Int.toNat_natCast, hea]; rfl
      obtain ⟨A, c, mA, mc, c0, -, -, -, -, -, -, hc⟩ := (h.below b0).cells
      obtain ⟨eA, ec, q, rfl, -, hq, hr⟩ := hc i e hea
      have hok := okEd_len (h.good.1 e (List.mem_of_getElem? hea))
      have P := Lib.hid (ed_own_any e eA ec base _ hr (by omega))
      have q0 := hq 0 _ rfl
      have q1 := hq 1 _ rfl
      have q2 := hq 2 _ rfl
      have q3 := hq 3 _ rfl
      simp only [xOf, Nat.add_zero] at q0 q1 q2 q3
      rw [hin, hdn]
      have d2 : decide (S.done.length ≤ i) = false := by rw [decide_eq_false_iff_not]; omega
      have hbig := h.good.2.2
      clear hin hdn h0 h b0 hc hq hr he hea hok
      obtain ⟨k, ep, rd, refs⟩ := e
      unfold edV edZ at *
      simp only at *
      go_enter Try.func40, Try.ntmps40
      go_wp2_with fail
      refine PN.out.mono ?_; rintro x w' ⟨rfl, rfl⟩
      go_wp2_with fail
      refine P.out.mono ?_; rintro x w2 ⟨A2, c2', rfl, hr2, b2⟩
      have X2 := Lib.hid (X0.out.later b2)
      have B2 := Lib.hid (below_trans B0.out b2)
      have f0 := X2.out.cell 0
      have f1 := X2.out.cell 1
      have f2 := X2.out.cell 2
      have f3 := X2.out.cell 3
      have z0 := X2.out.frozen 0
      have z1 := X2.out.frozen 1
      have z2 := X2.out.frozen 2
      have z3 := X2.out.frozen 3
      simp at f0 f1 f2 f3
      have HRES := Lib.hid (store4 X2.out rfl)
      have HBL := Lib.hid (store4_below B2.out (Nat.le_refl _))
      have HRF := Lib.hid (fun b => store4_rf (b := b) X2.out hr2)
      clear hr2 b2 c0 q0 q1 q2 q3
      unfold edV
      simp only
      go_wp2_with fail
      refine bodyPost_ret (results_cell_tmp_row rfl _ _ w.heap.size 50 #[.int .i64 k, .int .i64 ep, .int .i64 rd, .slice A2 refs.length c2'] (0, 0) _ rfl (HRES.out _ _ _ _) Try.underlying50 rfl info_edS) rfl ?_
      exact ⟨A2, c2', rfl, fun b => HRF.out b _ _ _ _, HBL.out _ _ _ _⟩
    · have d2 : decide (S.done.length ≤ i) = true := by rw [decide_eq_true_eq]; omega
      have hin : inS S i = false := by unfold inS; rw [decide_eq_true (by omega), decide_eq_false (by omega)]; rfl
      have hdn : dnS S i = zE := by unfold dnS; rw [hin]; rfl
      rw [hin, hdn]
      clear hin hdn h0 h b0 h1
      unfold edZ at *
      go_enter Try.func40, Try.ntmps40
      go_wp2_with fail
      refine PN.out.mono ?_; rintro x w' ⟨rfl, rfl⟩
      go_wp2_with fail
      refine bodyPost_ret (results_cell_tmp_row rfl _ _ w.heap.size 50 #[.int .i64 0, .int .i64 0, .int .i64 0, .slice none 0 0] (0, 0) _ rfl X0.out Try.underlying50 rfl info_edS) rfl ?_
      exact ⟨none, 0, rfl, fun _ => RfAt.nil _ _ _, B0.out⟩
set_option maxRecDepth 100000 in
set_option maxHeartbeats 2000000 in
theorem st_done_nil (w : World) (n : Int) : Calls Try.prog 40 #[.pointer none, .int .i64 n] w (TwoAns w zE false) := by
  have B0 := Lib.hid (alloc_below w (.cells edZ 50))
  have X0 := Lib.hid (Blk.new w 50 edZ)
  have PN := Lib.hid (fun W => st_next_nil W)
  cases h0 : decide (n < 0)
  · have d2 : decide (0 ≤ n) = true := by rw [decide_eq_true_eq]; rw [decide_eq_false_iff_not] at h0; omega
    unfold edZ at *
    go_enter Try.func40, Try.ntmps40
    go_wp2_with fail
    refine (PN.out _).mono ?_; rintro x w' ⟨rfl, rfl⟩
    go_wp2_with fail
    refine bodyPost_ret (results_cell_tmp_row rfl _ _ w.heap.size 50 #[.int .i64 0, .int .i64 0, .int .i64 0, .slice none 0 0] (0, 0) _ rfl X0.out Try.underlying50 rfl info_edS) rfl ?_
    exact ⟨none, 0, rfl, fun _ => RfAt.nil _ _ _, B0.out⟩
  · unfold edZ at *
    go_enter Try.func40, Try.ntmps40
    go_wp2_with fail
    refine bodyPost_ret (results_cell_tmp_row rfl _ _ w.heap.size 50 #[.int .i64 0, .int .i64 0, .int .i64 0, .slice none 0 0] (0, 0) _ rfl X0.out Try.underlying50 rfl info_edS) rfl ?_
    exact ⟨none, 0, rfl, fun _ => RfAt.nil _ _ _, B0.out⟩
end Go.Proofs.Ytfmmdnjoichifaa

namespace Go.Proofs.Ytfmmdnjoichifaa
open Go.RowKit Go.Sort

def goesE (S : St) (e : Ed) : Bool := decide (e.ep = (S.done.length : Int)) && (decide (e.kind = 2) || !S.mark.isSome || decide (S.mk'.rd < e.rd))
def apS (S : St) (e : Ed) : St × Int := if okEd e then (if goesE S e then (if e.kind = 2 then (⟨S.done ++ [e], none⟩, 0) else (⟨S.done, some e⟩, 0)) else (S, 1)) else (S, 140)
theorem load_ed_at (h : Nat) (e : Ed) (A : Option Addr) (c : Nat) (w : World) (q0 : w.cell? ⟨h, 0, none⟩ = some (.int .i64 e.kind)) (q1 : w.cell? ⟨h, 1, none⟩ = some (.int .i64 e.ep)) (q2 : w.cell? ⟨h, 2, none⟩ = some (.int .i64 e.rd)) (q3 : w.cell? ⟨h, 3, none⟩ = some (.slice A e.refs.length c)) : (Instr.loadAt 50 (.pointer (some ⟨h, 0, none⟩))).run Try.prog w = .ok (edV e A c) w := by
  unfold edV
  go_simp
theorem zero_ed (w : World) : (zeroValue 50).run Try.prog w = .ok (.agg #[.int .i64 0, .int .i64 0, .int .i64 0, .slice none 0 0]) w := by kernel_rfl
theorem info_ed3 : (Try.prog.info? 50).map (fun i => (i.zero, i.size, i.bytes)) = some (some (.agg #[.int .i64 0, .int .i64 0, .int .i64 0, .slice none 0 0]), 4, 48) := by kernel_rfl
set_option maxRecDepth 100000 in
set_option maxHeartbeats 4000000 in
theorem st_goes {w : World} {base g : Nat} {hb : Option Nat} {S : St} (h : StR 133 w base g hb S) (e : Ed) (A : Option Addr) (c : Nat) : Calls Try.prog 85 #[.pointer (some ⟨g, 0, none⟩), edV e A c] w fun x w' => x = .returned (.bool (goesE S e)) ∧ Below w.heap.size w w' := by
  have b0 := alloc_below w (.cells (edCs e A c) 50)
  have B0 := Lib.hid b0
  have X0 := Lib.hid (Blk.new w 50 (edCs e A c))
  have h1 := h.below b0
  have PN := Lib.hid (st_next (h1.below (dr_below (Below.refl _ _))))
  obtain ⟨A1, c1, mA, mc, c0, -, -, c3, -, c5, -, -⟩ := h1.cells
  have C3 := Lib.hid c3
  have C5 := Lib.hid c5
  obtain ⟨-, p0, p1, p2, p3⟩ := EdBox.of X0.out
  have Q0 := Lib.hid p0
  have Q1 := Lib.hid p1
  have Q2 := Lib.hid p2
  have HG := Lib.hid (show goesE S e = (decide (e.ep = (S.done.length : Int)) && (decide (e.kind = 2) || !S.mark.isSome || decide (S.mk'.rd < e.rd))) from rfl)
  rw [HG.out]
  clear h h1 b0 c0 c3 c5 p0 p1 p2 p3 HG
  generalize S.mk'.rd = mrd at *
  generalize S.mark.isSome = mk at *
  generalize S.done.length = n at *
  obtain ⟨k, ep, rd, refs⟩ := e
  unfold edV edCs at *
  simp only at *
  by_cases he : ep = (n : Int)
  · subst he
    rw [decide_eq_true rfl, Bool.true_and]
    by_cases hk : k = 2
    · subst hk
      rw [decide_eq_true rfl, Bool.true_or, Bool.true_or]
      go_enter Try.func85, Try.ntmps85
      go_wp2_with fail
      refine wp_region_J RT [] (n := 6) (by kernel_rfl) rfl ?_
      refine batchJ RT.refl [0, 1, 2, 3] (fuel := 2) rfl (by kernel_rfl) (by kernel_rfl) (fun _ _ d _ _ h => by cases d <;> exact h) ?_
      (repeat (first | ((with_reducible apply wq0); rfl; rfl; rfl; intro K hK; go_big_quiet_op; refine hK _ ?_; clear hK K) | ((with_reducible apply wq1); rfl; rfl; rfl; rfl; rfl; rfl; intro K hK; go_big_quiet_op; refine hK _ ?_; clear hK K) | ((with_reducible apply wqs); rfl; rfl; rfl; rfl; rfl; rfl; simp only [Act.put, List.setIfInBounds_toArray, List.set_cons_zero, List.set_cons_succ]) | ((with_reducible apply wqu); rfl; rfl; rfl; rfl; rfl; (first | simp only [same, Act.put, List.setIfInBounds_toArray, List.set_cons_zero, List.set_cons_succ] | simp only [Act.put, List.setIfInBounds_toArray, List.set_cons_zero, List.set_cons_succ]))))
      refine wqIdx_load rfl rfl rfl rfl (fun W hW => run_load1 (fun _ => by kernel_rfl) (keep_c hW (Q1.out))) ?_; simp only [Act.put, List.setIfInBounds_toArray, List.set_cons_zero, List.set_cons_succ]
      (repeat (first | ((with_reducible apply wq0); rfl; rfl; rfl; intro K hK; go_big_quiet_op; refine hK _ ?_; clear hK K) | ((with_reducible apply wq1); rfl; rfl; rfl; rfl; rfl; rfl; intro K hK; go_big_quiet_op; refine hK _ ?_; clear hK K) | ((with_reducible apply wqs); rfl; rfl; rfl; rfl; rfl; rfl; simp only [Act.put, List.setIfInBounds_toArray, List.set_cons_zero, List.set_cons_succ]) | ((with_reducible apply wqu); rfl; rfl; rfl; rfl; rfl; (first | simp only [same, Act.put, List.setIfInBounds_toArray, List.set_cons_zero, List.set_cons_succ] | simp only [Act.put, List.setIfInBounds_toArray, List.set_cons_zero, List.set_cons_succ]))))
      refine wqIdx_nil ?_
      refine wpAnyJ_sole (i := 4) rfl (by kernel_rfl) (fun K hK => ?_); go_simp
      refine PN.out.mono ?_; rintro x w' ⟨rfl, rfl⟩
      refine hK _ _ ⟨fun _ => RB.refl _, trivial⟩ ?_
      clear hK K
      refine batchJ RT.refl [5] (fuel := 0) rfl (by kernel_rfl) (by kernel_rfl) (fun _ _ d _ _ h => by cases d <;> exact h) ?_
      (repeat (first | ((with_reducible apply wq0); rfl; rfl; rfl; intro K hK; go_big_quiet_op; refine hK _ ?_; clear hK K) | ((with_reducible apply wq1); rfl; rfl; rfl; rfl; rfl; rfl; intro K hK; go_big_quiet_op; refine hK _ ?_; clear hK K) | ((with_reducible apply wqs); rfl; rfl; rfl; rfl; rfl; rfl; simp only [Act.put, List.setIfInBounds_toArray, List.set_cons_zero, List.set_cons_succ]) | ((with_reducible apply wqu); rfl; rfl; rfl; rfl; rfl; (first | simp only [same, Act.put, List.setIfInBounds_toArray, List.set_cons_zero, List.set_cons_succ] | simp only [Act.put, List.setIfInBounds_toArray, List.set_cons_zero, List.set_cons_succ]))))
      refine wqIdx_nil ?_
      refine wpAnyJ_done (by kernel_rfl) ?_ _
      go_wp2_with fail
      refine wp_region_J RT [] (n := 23) (by kernel_rfl) rfl ?_
      refine batchJ RT.refl [0, 1, 2, 3, 4, 5, 6, 7, 8, 9, 10, 11, 12, 13, 14, 15, 16, 17, 18, 19, 20, 21, 22] (fuel := 0) rfl (by kernel_rfl) (by kernel_rfl) (fun _ _ d _ _ h => by cases d <;> exact h) ?_
      (repeat (first | ((with_reducible apply wq0); rfl; rfl; rfl; intro K hK; go_big_quiet_op; refine hK _ ?_; clear hK K) | ((with_reducible apply wq1); rfl; rfl; rfl; rfl; rfl; rfl; intro K hK; go_big_quiet_op; refine hK _ ?_; clear hK K) | ((with_reducible apply wqs); rfl; rfl; rfl; rfl; rfl; rfl; simp only [Act.put, List.setIfInBounds_toArray, List.set_cons_zero, List.set_cons_succ]) | ((with_reducible apply wqu); rfl; rfl; rfl; rfl; rfl; (first | simp only [same, Act.put, List.setIfInBounds_toArray, List.set_cons_zero, List.set_cons_succ] | simp only [Act.put, List.setIfInBounds_toArray, List.set_cons_zero, List.set_cons_succ]))))
      refine wqIdx_load rfl rfl rfl rfl (fun W hW => run_load1 (fun _ => by kernel_rfl) (keep_c hW (Q0.out))) ?_; simp only [Act.put, List.setIfInBounds_toArray, List.set_cons_zero, List.set_cons_succ]
      (repeat (first | ((with_reducible apply wq0); rfl; rfl; rfl; intro K hK; go_big_quiet_op; refine hK _ ?_; clear hK K) | ((with_reducible apply wq1); rfl; rfl; rfl; rfl; rfl; rfl; intro K hK; go_big_quiet_op; refine hK _ ?_; clear hK K) | ((with_reducible apply wqs); rfl; rfl; rfl; rfl; rfl; rfl; simp only [Act.put, List.setIfInBounds_toArray, List.set_cons_zero, List.set_cons_succ]) | ((with_reducible apply wqu); rfl; rfl; rfl; rfl; rfl; (first | simp only [same, Act.put, List.setIfInBounds_toArray, List.set_cons_zero, List.set_cons_succ] | simp only [Act.put, List.setIfInBounds_toArray, List.set_cons_zero, List.set_cons_succ]))))
      refine wqIdx_nil ?_
      refine wpAnyJ_done (by kernel_rfl) ?_ _
      go_wp2
      go_ret
      exact ⟨rfl, dr_below (dr_below B0.out)⟩
    · have d1 : (k == 2) = false := by simpa using hk
      rw [decide_eq_false hk, Bool.false_or]
      clear hk
      cases mk
      · rw [Bool.not_false, Bool.true_or]
        go_enter Try.func85, Try.ntmps85
        go_wp2_with fail
        refine wp_region_J RT [] (n := 6) (by kernel_rfl) rfl ?_
        refine batchJ RT.refl [0, 1, 2, 3] (fuel := 2) rfl (by kernel_rfl) (by kernel_rfl) (fun _ _ d _ _ h => by cases d <;> exact h) ?_
        (repeat (first | ((with_reducible apply wq0); rfl; rfl; rfl; intro K hK; go_big_quiet_op; refine hK _ ?_; clear hK K) | ((with_reducible apply wq1); rfl; rfl; rfl; rfl; rfl; rfl; intro K hK; go_big_quiet_op; refine hK _ ?_; clear hK K) | ((with_reducible apply wqs); rfl; rfl; rfl; rfl; rfl; rfl; simp only [Act.put, List.setIfInBounds_toArray, List.set_cons_zero, List.set_cons_succ]) | ((with_reducible apply wqu); rfl; rfl; rfl; rfl; rfl; (first | simp only [same, Act.put, List.setIfInBounds_toArray, List.set_cons_zero, List.set_cons_succ] | simp only [Act.put, List.setIfInBounds_toArray, List.set_cons_zero, List.set_cons_succ]))))
        refine wqIdx_load rfl rfl rfl rfl (fun W hW => run_load1 (fun _ => by kernel_rfl) (keep_c hW (Q1.out))) ?_; simp only [Act.put, List.setIfInBounds_toArray, List.set_cons_zero, List.set_cons_succ]
        (repeat (first | ((with_reducible apply wq0); rfl; rfl; rfl; intro K hK; go_big_quiet_op; refine hK _ ?_; clear hK K) | ((with_reducible apply wq1); rfl; rfl; rfl; rfl; rfl; rfl; intro K hK; go_big_quiet_op; refine hK _ ?_; clear hK K) | ((with_reducible apply wqs); rfl; rfl; rfl; rfl; rfl; rfl; simp only [Act.put, List.setIfInBounds_toArray, List.set_cons_zero, List.set_cons_succ]) | ((with_reducible apply wqu); rfl; rfl; rfl; rfl; rfl; (first | simp only [same, Act.put, List.setIfInBounds_toArray, List.set_cons_zero, List.set_cons_succ] | simp only [Act.put, List.setIfInBounds_toArray, List.set_cons_zero, List.set_cons_succ]))))
        refine wqIdx_nil ?_
        refine wpAnyJ_sole (i := 4) rfl (by kernel_rfl) (fun K hK => ?_); go_simp
        refine PN.out.mono ?_; rintro x w' ⟨rfl, rfl⟩
        refine hK _ _ ⟨fun _ => RB.refl _, trivial⟩ ?_
        clear hK K
        refine batchJ RT.refl [5] (fuel := 0) rfl (by kernel_rfl) (by kernel_rfl) (fun _ _ d _ _ h => by cases d <;> exact h) ?_
        (repeat (first | ((with_reducible apply wq0); rfl; rfl; rfl; intro K hK; go_big_quiet_op; refine hK _ ?_; clear hK K) | ((with_reducible apply wq1); rfl; rfl; rfl; rfl; rfl; rfl; intro K hK; go_big_quiet_op; refine hK _ ?_; clear hK K) | ((with_reducible apply wqs); rfl; rfl; rfl; rfl; rfl; rfl; simp only [Act.put, List.setIfInBounds_toArray, List.set_cons_zero, List.set_cons_succ]) | ((with_reducible apply wqu); rfl; rfl; rfl; rfl; rfl; (first | simp only [same, Act.put, List.setIfInBounds_toArray, List.set_cons_zero, List.set_cons_succ] | simp only [Act.put, List.setIfInBounds_toArray, List.set_cons_zero, List.set_cons_succ]))))
        refine wqIdx_nil ?_
        refine wpAnyJ_done (by kernel_rfl) ?_ _
        go_wp2_with fail
        refine wp_region_J RT [] (n := 23) (by kernel_rfl) rfl ?_
        refine batchJ RT.refl [0, 1, 2, 3, 4, 5, 6, 7, 8, 9, 10, 11, 12, 13, 14, 15, 16, 17, 18, 19, 20, 21, 22] (fuel := 0) rfl (by kernel_rfl) (by kernel_rfl) (fun _ _ d _ _ h => by cases d <;> exact h) ?_
        (repeat (first | ((with_reducible apply wq0); rfl; rfl; rfl; intro K hK; go_big_quiet_op; refine hK _ ?_; clear hK K) | ((with_reducible apply wq1); rfl; rfl; rfl; rfl; rfl; rfl; intro K hK; go_big_quiet_op; refine hK _ ?_; clear hK K) | ((with_reducible apply wqs); rfl; rfl; rfl; rfl; rfl; rfl; simp only [Act.put, List.setIfInBounds_toArray, List.set_cons_zero, List.set_cons_succ]) | ((with_reducible apply wqu); rfl; rfl; rfl; rfl; rfl; (first | simp only [same, Act.put, List.setIfInBounds_toArray, List.set_cons_zero, List.set_cons_succ] | simp only [Act.put, List.setIfInBounds_toArray, List.set_cons_zero, List.set_cons_succ]))))
        refine wqIdx_load rfl rfl rfl rfl (fun W hW => run_load1 (fun _ => by kernel_rfl) (keep_c hW (Q0.out))) ?_; simp only [Act.put, List.setIfInBounds_toArray, List.set_cons_zero, List.set_cons_succ]
        (repeat (first | ((with_reducible apply wq0); rfl; rfl; rfl; intro K hK; go_big_quiet_op; refine hK _ ?_; clear hK K) | ((with_reducible apply wq1); rfl; rfl; rfl; rfl; rfl; rfl; intro K hK; go_big_quiet_op; refine hK _ ?_; clear hK K) | ((with_reducible apply wqs); rfl; rfl; rfl; rfl; rfl; rfl; simp only [Act.put, List.setIfInBounds_toArray, List.set_cons_zero, List.set_cons_succ]) | ((with_reducible apply wqu); rfl; rfl; rfl; rfl; rfl; (first | simp only [same, Act.put, List.setIfInBounds_toArray, List.set_cons_zero, List.set_cons_succ] | simp only [Act.put, List.setIfInBounds_toArray, List.set_cons_zero, List.set_cons_succ]))))
        refine wqIdx_nil_check rfl rfl rfl rfl ?_; simp only [Act.put, List.setIfInBounds_toArray, List.set_cons_zero, List.set_cons_succ]
        (repeat (first | ((with_reducible apply wq0); rfl; rfl; rfl; intro K hK; go_big_quiet_op; refine hK _ ?_; clear hK K) | ((with_reducible apply wq1); rfl; rfl; rfl; rfl; rfl; rfl; intro K hK; go_big_quiet_op; refine hK _ ?_; clear hK K) | ((with_reducible apply wqs); rfl; rfl; rfl; rfl; rfl; rfl; simp only [Act.put, List.setIfInBounds_toArray, List.set_cons_zero, List.set_cons_succ]) | ((with_reducible apply wqu); rfl; rfl; rfl; rfl; rfl; (first | simp only [same, Act.put, List.setIfInBounds_toArray, List.set_cons_zero, List.set_cons_succ] | simp only [Act.put, List.setIfInBounds_toArray, List.set_cons_zero, List.set_cons_succ]))))
        refine wqIdx_load rfl rfl rfl rfl (fun W hW => run_load1 (fun _ => by kernel_rfl) (keep_c hW (C5.out))) ?_; simp only [Act.put, List.setIfInBounds_toArray, List.set_cons_zero, List.set_cons_succ]
        (repeat (first | ((with_reducible apply wq0); rfl; rfl; rfl; intro K hK; go_big_quiet_op; refine hK _ ?_; clear hK K) | ((with_reducible apply wq1); rfl; rfl; rfl; rfl; rfl; rfl; intro K hK; go_big_quiet_op; refine hK _ ?_; clear hK K) | ((with_reducible apply wqs); rfl; rfl; rfl; rfl; rfl; rfl; simp only [Act.put, List.setIfInBounds_toArray, List.set_cons_zero, List.set_cons_succ]) | ((with_reducible apply wqu); rfl; rfl; rfl; rfl; rfl; (first | simp only [same, Act.put, List.setIfInBounds_toArray, List.set_cons_zero, List.set_cons_succ] | simp only [Act.put, List.setIfInBounds_toArray, List.set_cons_zero, List.set_cons_succ]))))
        refine wqIdx_nil ?_
        refine wpAnyJ_done (by kernel_rfl) ?_ _
        go_wp2
        go_ret
        exact ⟨rfl, dr_below (dr_below B0.out)⟩
      · rw [Bool.not_true, Bool.false_or]
        generalize hq : decide (mrd < rd) = q
        go_enter Try.func85, Try.ntmps85
        go_wp2_with fail
        refine wp_region_J RT [] (n := 6) (by kernel_rfl) rfl ?_
        refine batchJ RT.refl [0, 1, 2, 3] (fuel := 2) rfl (by kernel_rfl) (by kernel_rfl) (fun _ _ d _ _ h => by cases d <;> exact h) ?_
        (repeat (first | ((with_reducible apply wq0); rfl; rfl; rfl; intro K hK; go_big_quiet_op; refine hK _ ?_; clear hK K) | ((with_reducible apply wq1); rfl; rfl; rfl; rfl; rfl; rfl; intro K hK; go_big_quiet_op; refine hK _ ?_; clear hK K) | ((with_reducible apply wqs); rfl; rfl; rfl; rfl; rfl; rfl; simp only [Act.put, List.setIfInBounds_toArray, List.set_cons_zero, List.set_cons_succ]) | ((with_reducible apply wqu); rfl; rfl; rfl; rfl; rfl; (first | simp only [same, Act.put, List.setIfInBounds_toArray, List.set_cons_zero, List.set_cons_succ] | simp only [Act.put, List.setIfInBounds_toArray, List.set_cons_zero, List.set_cons_succ]))))
        refine wqIdx_load rfl rfl rfl rfl (fun W hW => run_load1 (fun _ => by kernel_rfl) (keep_c hW (Q1.out))) ?_; simp only [Act.put, List.setIfInBounds_toArray, List.set_cons_zero, List.set_cons_succ]
        (repeat (first | ((with_reducible apply wq0); rfl; rfl; rfl; intro K hK; go_big_quiet_op; refine hK _ ?_; clear hK K) | ((with_reducible apply wq1); rfl; rfl; rfl; rfl; rfl; rfl; intro K hK; go_big_quiet_op; refine hK _ ?_; clear hK K) | ((with_reducible apply wqs); rfl; rfl; rfl; rfl; rfl; rfl; simp only [Act.put, List.setIfInBounds_toArray, List.set_cons_zero, List.set_cons_succ]) | ((with_reducible apply wqu); rfl; rfl; rfl; rfl; rfl; (first | simp only [same, Act.put, List.setIfInBounds_toArray, List.set_cons_zero, List.set_cons_succ] | simp only [Act.put, List.setIfInBounds_toArray, List.set_cons_zero, List.set_cons_succ]))))
        refine wqIdx_nil ?_
        refine wpAnyJ_sole (i := 4) rfl (by kernel_rfl) (fun K hK => ?_); go_simp
        refine PN.out.mono ?_; rintro x w' ⟨rfl, rfl⟩
        refine hK _ _ ⟨fun _ => RB.refl _, trivial⟩ ?_
        clear hK K
        refine batchJ RT.refl [5] (fuel := 0) rfl (by kernel_rfl) (by kernel_rfl) (fun _ _ d _ _ h => by cases d <;> exact h) ?_
        (repeat (first | ((with_reducible apply wq0); rfl; rfl; rfl; intro K hK; go_big_quiet_op; refine hK _ ?_; clear hK K) | ((with_reducible apply wq1); rfl; rfl; rfl; rfl; rfl; rfl; intro K hK; go_big_quiet_op; refine hK _ ?_; clear hK K) | ((with_reducible apply wqs); rfl; rfl; rfl; rfl; rfl; rfl; simp only [Act.put, List.setIfInBounds_toArray, List.set_cons_zero, List.set_cons_succ]) | ((with_reducible apply wqu); rfl; rfl; rfl; rfl; rfl; (first | simp only [same, Act.put, List.setIfInBounds_toArray, List.set_cons_zero, List.set_cons_succ] | simp only [Act.put, List.setIfInBounds_toArray, List.set_cons_zero, List.set_cons_succ]))))
        refine wqIdx_nil ?_
        refine wpAnyJ_done (by kernel_rfl) ?_ _
        go_wp2_with fail
        refine wp_region_J RT [] (n := 23) (by kernel_rfl) rfl ?_
        refine batchJ RT.refl [0, 1, 2, 3, 4, 5, 6, 7, 8, 9, 10, 11, 12, 13, 14, 15, 16, 17, 18, 19, 20, 21, 22] (fuel := 0) rfl (by kernel_rfl) (by kernel_rfl) (fun _ _ d _ _ h => by cases d <;> exact h) ?_
        (repeat (first | ((with_reducible apply wq0); rfl; rfl; rfl; intro K hK; go_big_quiet_op; refine hK _ ?_; clear hK K) | ((with_reducible apply wq1); rfl; rfl; rfl; rfl; rfl; rfl; intro K hK; go_big_quiet_op; refine hK _ ?_; clear hK K) | ((with_reducible apply wqs); rfl; rfl; rfl; rfl; rfl; rfl; simp only [Act.put, List.setIfInBounds_toArray, List.set_cons_zero, List.set_cons_succ]) | ((with_reducible apply wqu); rfl; rfl; rfl; rfl; rfl; (first | simp only [same, Act.put, List.setIfInBounds_toArray, List.set_cons_zero, List.set_cons_succ] | simp only [Act.put, List.setIfInBounds_toArray, List.set_cons_zero, List.set_cons_succ]))))
        refine wqIdx_load rfl rfl rfl rfl (fun W hW => run_load1 (fun _ => by kernel_rfl) (keep_c hW (Q0.out))) ?_; simp only [Act.put, List.setIfInBounds_toArray, List.set_cons_zero, List.set_cons_succ]
        (repeat (first | ((with_reducible apply wq0); rfl; rfl; rfl; intro K hK; go_big_quiet_op; refine hK _ ?_; clear hK K) | ((with_reducible apply wq1); rfl; rfl; rfl; rfl; rfl; rfl; intro K hK; go_big_quiet_op; refine hK _ ?_; clear hK K) | ((with_reducible apply wqs); rfl; rfl; rfl; rfl; rfl; rfl; simp only [Act.put, List.setIfInBounds_toArray, List.set_cons_zero, List.set_cons_succ]) | ((with_reducible apply wqu); rfl; rfl; rfl; rfl; rfl; (first | simp only [same, Act.put, List.setIfInBounds_toArray, List.set_cons_zero, List.set_cons_succ] | simp only [Act.put, List.setIfInBounds_toArray, List.set_cons_zero, List.set_cons_succ]))))
        refine wqIdx_nil_check rfl rfl rfl rfl ?_; simp only [Act.put, List.setIfInBounds_toArray, List.set_cons_zero, List.set_cons_succ]
        (repeat (first | ((with_reducible apply wq0); rfl; rfl; rfl; intro K hK; go_big_quiet_op; refine hK _ ?_; clear hK K) | ((with_reducible apply wq1); rfl; rfl; rfl; rfl; rfl; rfl; intro K hK; go_big_quiet_op; refine hK _ ?_; clear hK K) | ((with_reducible apply wqs); rfl; rfl; rfl; rfl; rfl; rfl; simp only [Act.put, List.setIfInBounds_toArray, List.set_cons_zero, List.set_cons_succ]) | ((with_reducible apply wqu); rfl; rfl; rfl; rfl; rfl; (first | simp only [same, Act.put, List.setIfInBounds_toArray, List.set_cons_zero, List.set_cons_succ] | simp only [Act.put, List.setIfInBounds_toArray, List.set_cons_zero, List.set_cons_succ]))))
        refine wqIdx_load rfl rfl rfl rfl (fun W hW => run_load1 (fun _ => by kernel_rfl) (keep_c hW (C5.out))) ?_; simp only [Act.put, List.setIfInBounds_toArray, List.set_cons_zero, List.set_cons_succ]
        (repeat (first | ((with_reducible apply wq0); rfl; rfl; rfl; intro K hK; go_big_quiet_op; refine hK _ ?_; clear hK K) | ((with_reducible apply wq1); rfl; rfl; rfl; rfl; rfl; rfl; intro K hK; go_big_quiet_op; refine hK _ ?_; clear hK K) | ((with_reducible apply wqs); rfl; rfl; rfl; rfl; rfl; rfl; simp only [Act.put, List.setIfInBounds_toArray, List.set_cons_zero, List.set_cons_succ]) | ((with_reducible apply wqu); rfl; rfl; rfl; rfl; rfl; (first | simp only [same, Act.put, List.setIfInBounds_toArray, List.set_cons_zero, List.set_cons_succ] | simp only [Act.put, List.setIfInBounds_toArray, List.set_cons_zero, List.set_cons_succ]))))
        refine wqIdx_load rfl rfl rfl rfl (fun W hW => run_load1 (fun _ => by kernel_rfl) (keep_c hW (Q2.out))) ?_; simp only [Act.put, List.setIfInBounds_toArray, List.set_cons_zero, List.set_cons_succ]
        (repeat (first | ((with_reducible apply wq0); rfl; rfl; rfl; intro K hK; go_big_quiet_op; refine hK _ ?_; clear hK K) | ((with_reducible apply wq1); rfl; rfl; rfl; rfl; rfl; rfl; intro K hK; go_big_quiet_op; refine hK _ ?_; clear hK K) | ((with_reducible apply wqs); rfl; rfl; rfl; rfl; rfl; rfl; simp only [Act.put, List.setIfInBounds_toArray, List.set_cons_zero, List.set_cons_succ]) | ((with_reducible apply wqu); rfl; rfl; rfl; rfl; rfl; (first | simp only [same, Act.put, List.setIfInBounds_toArray, List.set_cons_zero, List.set_cons_succ] | simp only [Act.put, List.setIfInBounds_toArray, List.set_cons_zero, List.set_cons_succ]))))
        refine wqIdx_nil_check rfl rfl rfl rfl ?_; simp only [Act.put, List.setIfInBounds_toArray, List.set_cons_zero, List.set_cons_succ]
        (repeat (first | ((with_reducible apply wq0); rfl; rfl; rfl; intro K hK; go_big_quiet_op; refine hK _ ?_; clear hK K) | ((with_reducible apply wq1); rfl; rfl; rfl; rfl; rfl; rfl; intro K hK; go_big_quiet_op; refine hK _ ?_; clear hK K) | ((with_reducible apply wqs); rfl; rfl; rfl; rfl; rfl; rfl; simp only [Act.put, List.setIfInBounds_toArray, List.set_cons_zero, List.set_cons_succ]) | ((with_reducible apply wqu); rfl; rfl; rfl; rfl; rfl; (first | simp only [same, Act.put, List.setIfInBounds_toArray, List.set_cons_zero, List.set_cons_succ] | simp only [Act.put, List.setIfInBounds_toArray, List.set_cons_zero, List.set_cons_succ]))))
        refine wqIdx_load rfl rfl rfl rfl (fun W hW => run_load1 (fun _ => by kernel_rfl) (keep_c hW (C3.out))) ?_; simp only [Act.put, List.setIfInBounds_toArray, List.set_cons_zero, List.set_cons_succ]
        (repeat (first | ((with_reducible apply wq0); rfl; rfl; rfl; intro K hK; go_big_quiet_op; refine hK _ ?_; clear hK K) | ((with_reducible apply wq1); rfl; rfl; rfl; rfl; rfl; rfl; intro K hK; go_big_quiet_op; refine hK _ ?_; clear hK K) | ((with_reducible apply wqs); rfl; rfl; rfl; rfl; rfl; rfl; simp only [Act.put, List.setIfInBounds_toArray, List.set_cons_zero, List.set_cons_succ]) | ((with_reducible apply wqu); rfl; rfl; rfl; rfl; rfl; (first | simp only [same, Act.put, List.setIfInBounds_toArray, List.set_cons_zero, List.set_cons_succ] | simp only [Act.put, List.setIfInBounds_toArray, List.set_cons_zero, List.set_cons_succ]))))
        refine wqIdx_nil ?_
        refine wpAnyJ_done (by kernel_rfl) ?_ _
        go_wp2
        go_ret
        exact ⟨rfl, dr_below (dr_below B0.out)⟩
  · have d1 : (ep != (n : Int)) = true := by simpa using he
    rw [decide_eq_false he, Bool.false_and]
    clear he
    go_enter Try.func85, Try.ntmps85
    go_wp2_with fail
    refine wp_region_J RT [] (n := 6) (by kernel_rfl) rfl ?_
    refine batchJ RT.refl [0, 1, 2, 3] (fuel := 2) rfl (by kernel_rfl) (by kernel_rfl) (fun _ _ d _ _ h => by cases d <;> exact h) ?_
    (repeat (first | ((with_reducible apply wq0); rfl; rfl; rfl; intro K hK; go_big_quiet_op; refine hK _ ?_; clear hK K) | ((with_reducible apply wq1); rfl; rfl; rfl; rfl; rfl; rfl; intro K hK; go_big_quiet_op; refine hK _ ?_; clear hK K) | ((with_reducible apply wqs); rfl; rfl; rfl; rfl; rfl; rfl; simp only [Act.put, List.setIfInBounds_toArray, List.set_cons_zero, List.set_cons_succ]) | ((with_reducible apply wqu); rfl; rfl; rfl; rfl; rfl; (first | simp only [same, Act.put, List.setIfInBounds_toArray, List.set_cons_zero, List.set_cons_succ] | simp only [Act.put, List.setIfInBounds_toArray, List.set_cons_zero, List.set_cons_succ]))))
    refine wqIdx_load rfl rfl rfl rfl (fun W hW => run_load1 (fun _ => by kernel_rfl) (keep_c hW (Q1.out))) ?_; simp only [Act.put, List.setIfInBounds_toArray, List.set_cons_zero, List.set_cons_succ]
    (repeat (first | ((with_reducible apply wq0); rfl; rfl; rfl; intro K hK; go_big_quiet_op; refine hK _ ?_; clear hK K) | ((with_reducible apply wq1); rfl; rfl; rfl; rfl; rfl; rfl; intro K hK; go_big_quiet_op; refine hK _ ?_; clear hK K) | ((with_reducible apply wqs); rfl; rfl; rfl; rfl; rfl; rfl; simp only [Act.put, List.setIfInBounds_toArray, List.set_cons_zero, List.set_cons_succ]) | ((with_reducible apply wqu); rfl; rfl; rfl; rfl; rfl; (first | simp only [same, Act.put, List.setIfInBounds_toArray, List.set_cons_zero, List.set_cons_succ] | simp only [Act.put, List.setIfInBounds_toArray, List.set_cons_zero, List.set_cons_succ]))))
    refine wqIdx_nil ?_
    refine wpAnyJ_sole (i := 4) rfl (by kernel_rfl) (fun K hK => ?_); go_simp
    refine PN.out.mono ?_; rintro x w' ⟨rfl, rfl⟩
    refine hK _ _ ⟨fun _ => RB.refl _, trivial⟩ ?_
    clear hK K
    refine batchJ RT.refl [5] (fuel := 0) rfl (by kernel_rfl) (by kernel_rfl) (fun _ _ d _ _ h => by cases d <;> exact h) ?_
    (repeat (first | ((with_reducible apply wq0); rfl; rfl; rfl; intro K hK; go_big_quiet_op; refine hK _ ?_; clear hK K) | ((with_reducible apply wq1); rfl; rfl; rfl; rfl; rfl; rfl; intro K hK; go_big_quiet_op; refine hK _ ?_; clear hK K) | ((with_reducible apply wqs); rfl; rfl; rfl; rfl; rfl; rfl; simp only [Act.put, List.setIfInBounds_toArray, List.set_cons_zero, List.set_cons_succ]) | ((with_reducible apply wqu); rfl; rfl; rfl; rfl; rfl; (first | simp only [same, Act.put, List.setIfInBounds_toArray, List.set_cons_zero, List.set_cons_succ] | simp only [Act.put, List.setIfInBounds_toArray, List.set_cons_zero, List.set_cons_succ]))))
    refine wqIdx_nil ?_
    refine wpAnyJ_done (by kernel_rfl) ?_ _
    go_wp2
    go_ret
    exact ⟨rfl, dr_below B0.out⟩
theorem st_apply_nil (w : World) (e : Ed) (A : Option Addr) (c : Nat) : Calls Try.prog 33 #[.pointer none, edV e A c] w fun x w' => x = .returned (.int .i64 6) ∧ Below w.heap.size w w' := by
  have B0 := Lib.hid (alloc_below w (.cells (edCs e A c) 50))
  unfold edV edCs at *
  go_enter Try.func33, Try.ntmps33
  go_wp2
  go_ret
  exact ⟨rfl, B0.out⟩
/-- A call that may change a state. -/
def ApAns (T : TypeId) (w : World) (base g : Nat) (hb : Option Nat) (S : St × Int) (x : Ending) (w' : World) : Prop :=
  x = .returned (.int .i64 S.2) ∧ ∃ hb', StR T w' base g hb' S.1 ∧ EF g hb w w' ∧ (hb' = hb ∨ ∃ k, hb' = some k ∧ w.heap.size ≤ k)
theorem stay_ap {T : TypeId} {w w' : World} {base g : Nat} {hb : Option Nat} {S : St} (h : StR T w base g hb S) (hbl : Below w.heap.size w w') (n : Int) : ApAns T w base g hb (S, n) (.returned (.int .i64 n)) w' :=
  ⟨rfl, hb, h.below hbl, EF.of_below hbl, .inl rfl⟩
def set5 (w : World) (g : Nat) (v1 v2 v3 v4 v5 : Value) : World := ((((w.setCell ⟨g, 1, none⟩ v1).setCell ⟨g, 2, none⟩ v2).setCell ⟨g, 3, none⟩ v3).setCell ⟨g, 4, none⟩ v4).setCell ⟨g, 5, none⟩ v5
theorem set5_heap {w : World} {g k : Nat} (v1 v2 v3 v4 v5 : Value) (h : k ≠ g) : (set5 w g v1 v2 v3 v4 v5).heap[k]? = w.heap[k]? := by
  unfold set5
  rw [Below.heap_setCell _ _ _ _ h, Below.heap_setCell _ _ _ _ h, Below.heap_setCell _ _ _ _ h, Below.heap_setCell _ _ _ _ h, Below.heap_setCell _ _ _ _ h]
theorem set5_size (w : World) (g : Nat) (v1 v2 v3 v4 v5 : Value) : (set5 w g v1 v2 v3 v4 v5).heap.size = w.heap.size := by
  unfold set5
  simp only [World.size_setCell]
theorem set5_env {w0 w : World} {g : Nat} (h : Below 0 w0 w) (v1 v2 v3 v4 v5 : Value) : Below 0 w0 (set5 w g v1 v2 v3 v4 v5) :=
  below_setCell (below_setCell (below_setCell (below_setCell (below_setCell h (Nat.zero_le _) _) (Nat.zero_le _) _) (Nat.zero_le _) _) (Nat.zero_le _) _) (Nat.zero_le _) _
theorem set5_blk {w : World} {g : Nat} {T : TypeId} {u0 u1 u2 u3 u4 u5 : Value} (h : Blk w g T #[u0, u1, u2, u3, u4, u5]) (v1 v2 v3 v4 v5 : Value) : Blk (set5 w g v1 v2 v3 v4 v5) g T #[u0, v1, v2, v3, v4, v5] :=
  ((((h.set_ 1 v1).set_ 2 v2).set_ 3 v3).set_ 4 v4).set_ 5 v5
theorem own_same {w w' : World} {base e size n : Nat} {v : Value} {xs : List Value} (h : w.ownsRow base e size v n xs) (hk : ∀ k, v.ownBlock = some k → w'.heap[k]? = w.heap[k]?) : w'.ownsRow base e size v n xs := by
  refine ⟨h.1, ?_⟩
  rcases h.2 with hv | ⟨g, cap, cur, hv, hb, hh, hx⟩
  · exact .inl hv
  · exact .inr ⟨g, cap, cur, hv, hb, (hk g (by rw [hv]; rfl)).trans hh, hx⟩
/-- Refs lie in no block of a state, and in no row of edits. -/
theorem ref_ne {w : World} {base k q : Nat} {cs : Array Value} {t : TypeId} (hk : k < base ∨ ∃ cs fr, w.heap[k]? = some (.cells cs 110 fr)) (hq : Blk w q t cs) (hb : base ≤ q) (ht : t ≠ 110) : k ≠ q := by
  intro e
  rcases hk with hk | ⟨cs', fr, hk⟩
  · omega
  · unfold Blk at hq
    rw [e, hq] at hk
    injection hk with hk
    injection hk with _ h _
    exact ht h
theorem own_cur {w : World} {base e size n k : Nat} {v : Value} {xs : List Value} (h : w.ownsRow base e size v n xs) (hk : v.ownBlock = some k) : base ≤ k ∧ ∃ cur, Blk w k e cur := by
  rcases h.2 with ⟨rfl, _⟩ | ⟨g, cap, cur, hv, hb, hh, _⟩
  · cases hk
  · rw [hv] at hk
    injection hk with hk
    subst hk
    exact ⟨hb, cur, hh⟩
theorem st_pushed {T : TypeId} (hTR : T ≠ 110) (hTE : 50 ≠ T) {w w4 w5 : World} {base g : Nat} {S : St} {e : Ed} {A1 A5 A3 : Option Addr} {c1 c5 c3 : Nat} {xs : List EdX} {u0 u1 u2 u3 u4 u5 t0 t1 t2 t3 t4 t5 : Value} (hbg : base ≤ g) (hgood : S.ok) (hoke : okEd e = true) (hlen : S.done.length < 65536) (_ : g < w.heap.size)
    (hbl : Below w.heap.size w w4) (_ : base ≤ w.heap.size) (bk4 : Blk w4 g T #[t0, t1, t2, t3, t4, t5]) (bk5 : Blk w5 g T #[u0, u1, u2, u3, u4, u5])
    (ow : w4.ownsRow base 50 4 (.slice A1 S.done.length c1) S.done.length (RowV encX xs)) (hrw : EdRow w4 base xs S.done) (hr : RfAt w4 base A3 e.refs)
    (o5 : w5.ownsRow base 50 4 (.slice A5 (S.done.length + 1) c5) (S.done.length + 1) (RowV encX (xs ++ [xOf e A3 c3])))
    (g5 : w4.grownBy w5 (Value.slice A1 S.done.length c1).ownBlock) (hat : (Value.slice A5 (S.done.length + 1) c5).ownBlock = (Value.slice A1 S.done.length c1).ownBlock ∨ (Value.slice A5 (S.done.length + 1) c5).ownBlock = some w4.heap.size) :
    ApAns T w base g (Value.slice A1 S.done.length c1).ownBlock (⟨S.done ++ [e], none⟩, 0) (.returned (.int .i64 0)) (set5 (w5.setCell ⟨g, 0, none⟩ (.slice A5 (S.done.length + 1) c5)) g (.int .i64 0) (.int .i64 0) (.int .i64 0) (.slice none 0 0) (.bool false)) := by
  obtain ⟨wf, hwf⟩ : ∃ wf, wf = set5 (w5.setCell ⟨g, 0, none⟩ (.slice A5 (S.done.length + 1) c5)) g (.int .i64 0) (.int .i64 0) (.int .i64 0) (.slice none 0 0) (.bool false) := ⟨_, rfl⟩
  have hblk : Blk wf g T #[.slice A5 (S.done.length + 1) c5, .int .i64 0, .int .i64 0, .int .i64 0, .slice none 0 0, .bool false] := by
    rw [hwf]
    exact set5_blk (show Blk (w5.setCell ⟨g, 0, none⟩ (.slice A5 (S.done.length + 1) c5)) g T #[.slice A5 (S.done.length + 1) c5, u1, u2, u3, u4, u5] from bk5.set_ 0 _) _ _ _ _ _
  have hoth : ∀ k, k ≠ g → wf.heap[k]? = w5.heap[k]? := fun k n1 => by rw [hwf, set5_heap _ _ _ _ _ n1, Below.heap_setCell _ _ _ _ n1]
  have hsz : w4.heap.size ≤ wf.heap.size := by
    rw [hwf, set5_size, World.size_setCell]
    exact g5.size
  have hos : wf.os = w5.os ∧ wf.tape = w5.tape ∧ wf.output = w5.output := by
    have h := set5_env (g := g) (below_setCell (Below.refl 0 w5) (p := ⟨g, 0, none⟩) (Nat.zero_le _) (.slice A5 (S.done.length + 1) c5)) (.int .i64 0) (.int .i64 0) (.int .i64 0) (.slice none 0 0) (.bool false)
    rw [← hwf] at h
    exact ⟨h.os, h.tape, h.output⟩
  rw [← hwf]
  clear hwf
  have hrow : ∀ k, (Value.slice A1 S.done.length c1).ownBlock = some k → base ≤ k ∧ ∃ cur, Blk w4 k 50 cur := fun k hk => own_cur ow hk
  have keep : ∀ k, k < w4.heap.size → (k < base ∨ ∃ cs fr, w4.heap[k]? = some (.cells cs 110 fr)) → wf.heap[k]? = w4.heap[k]? := fun k hk ho => by
    have n1 : k ≠ g := ref_ne ho bk4 hbg hTR
    rw [hoth k n1]
    refine g5.block k hk fun e => ?_
    obtain ⟨hb, cur, hc⟩ := hrow k e.symm
    exact ref_ne ho hc hb (by decide) rfl
  have hn5 : ∀ k, (Value.slice A5 (S.done.length + 1) c5).ownBlock = some k → k ≠ g := fun k hk e => own_blk_ne o5 bk5 hTE (by rw [hk, e])
  have hl1 : (S.done ++ [e]).length = S.done.length + 1 := by rw [List.length_append]; rfl
  have hgd : St.ok ⟨S.done ++ [e], none⟩ := by
    refine ⟨fun x hx => ?_, fun x hx => (by cases hx), by show (S.done ++ [e]).length ≤ 65536; rw [hl1]; omega⟩
    rcases List.mem_append.1 hx with hx | hx
    · exact hgood.1 x hx
    · rw [List.mem_singleton.1 hx]; exact hoke
  have h1 : StR T wf base g (Value.slice A5 (S.done.length + 1) c5).ownBlock ⟨S.done ++ [e], none⟩ := by
    refine ⟨A5, c5, xs ++ [xOf e A3 c3], none, 0, ?_, hbg, ?_, (hrw.snoc hr).keep hsz keep, RfAt.nil _ _ _, ?_, hgd⟩
    · rw [show (⟨S.done ++ [e], none⟩ : St).done.length = S.done.length + 1 from hl1]
      exact hblk
    · rw [show (⟨S.done ++ [e], none⟩ : St).done.length = S.done.length + 1 from hl1]
      exact own_same o5 fun k hk => hoth k (hn5 k hk)
    · rw [show (⟨S.done ++ [e], none⟩ : St).done.length = S.done.length + 1 from hl1]
  have h2 : EF g (Value.slice A1 S.done.length c1).ownBlock w wf :=
    ⟨hos.1.trans (g5.os.trans hbl.os), hos.2.1.trans (g5.tape.trans hbl.tape), hos.2.2.trans (g5.output.trans hbl.output), Nat.le_trans hbl.size hsz, fun k hk n1 n2 => (hoth k n1).trans ((g5.block k (Nat.lt_of_lt_of_le hk hbl.size) n2).trans (hbl.block k hk))⟩
  exact ⟨rfl, _, h1, h2, hat.imp id fun h => ⟨_, h, hbl.size⟩⟩
theorem st_marked {T : TypeId} (hTR : T ≠ 110) (hTE : 50 ≠ T) {w w4 : World} {base g : Nat} {S : St} {e : Ed} {A1 A3 : Option Addr} {c1 c3 : Nat} {xs : List EdX} {t1 t2 t3 t4 t5 : Value} (hbg : base ≤ g) (hgood : S.ok) (hoke : okEd e = true)
    (hbl : Below w.heap.size w w4) (_ : base ≤ w.heap.size) (bk4 : Blk w4 g T #[.slice A1 S.done.length c1, t1, t2, t3, t4, t5])
    (ow : w4.ownsRow base 50 4 (.slice A1 S.done.length c1) S.done.length (RowV encX xs)) (hrw : EdRow w4 base xs S.done) (hr : RfAt w4 base A3 e.refs) :
    ApAns T w base g (Value.slice A1 S.done.length c1).ownBlock (⟨S.done, some e⟩, 0) (.returned (.int .i64 0)) (set5 w4 g (.int .i64 e.kind) (.int .i64 e.ep) (.int .i64 e.rd) (.slice A3 e.refs.length c3) (.bool true)) := by
  obtain ⟨wf, hwf⟩ : ∃ wf, wf = set5 w4 g (.int .i64 e.kind) (.int .i64 e.ep) (.int .i64 e.rd) (.slice A3 e.refs.length c3) (.bool true) := ⟨_, rfl⟩
  have hblk : Blk wf g T #[.slice A1 S.done.length c1, .int .i64 e.kind, .int .i64 e.ep, .int .i64 e.rd, .slice A3 e.refs.length c3, .bool true] := by
    rw [hwf]
    exact set5_blk bk4 _ _ _ _ _
  have hoth : ∀ k, k ≠ g → wf.heap[k]? = w4.heap[k]? := fun k n1 => by rw [hwf, set5_heap _ _ _ _ _ n1]
  have hsz : w4.heap.size ≤ wf.heap.size := by rw [hwf, set5_size]; exact Nat.le_refl _
  have hos : wf.os = w4.os ∧ wf.tape = w4.tape ∧ wf.output = w4.output := by
    have h := set5_env (g := g) (Below.refl 0 w4) (.int .i64 e.kind) (.int .i64 e.ep) (.int .i64 e.rd) (.slice A3 e.refs.length c3) (.bool true)
    rw [← hwf] at h
    exact ⟨h.os, h.tape, h.output⟩
  rw [← hwf]
  clear hwf
  have keep : ∀ k, k < w4.heap.size → (k < base ∨ ∃ cs fr, w4.heap[k]? = some (.cells cs 110 fr)) → wf.heap[k]? = w4.heap[k]? := fun k hk ho => hoth k (ref_ne ho bk4 hbg hTR)
  have hn5 : ∀ k, (Value.slice A1 S.done.length c1).ownBlock = some k → k ≠ g := fun k hk e => own_blk_ne ow bk4 hTE (by rw [hk, e])
  have hgd : St.ok ⟨S.done, some e⟩ := ⟨hgood.1, fun x hx => (by injection hx with hx; subst hx; exact hoke), hgood.2.2⟩
  have h1 : StR T wf base g (Value.slice A1 S.done.length c1).ownBlock ⟨S.done, some e⟩ := ⟨A1, c1, xs, A3, c3, hblk, hbg, own_same ow fun k hk => hoth k (hn5 k hk), hrw.keep hsz keep, hr.keep hsz keep, rfl, hgd⟩
  have h2 : EF g (Value.slice A1 S.done.length c1).ownBlock w wf :=
    ⟨hos.1.trans hbl.os, hos.2.1.trans hbl.tape, hos.2.2.trans hbl.output, Nat.le_trans hbl.size hsz, fun k hk n1 _ => (hoth k n1).trans (hbl.block k hk)⟩
  exact ⟨rfl, _, h1, h2, .inl rfl⟩
set_option maxRecDepth 100000 in
set_option maxHeartbeats 8000000 in
theorem st_apply {w : World} {base g : Nat} {hb : Option Nat} {S : St} (h : StR 133 w base g hb S) (hbase : base ≤ w.heap.size) (e : Ed) (A : Option Addr) (c ba : Nat) (hr : RfAt w ba A e.refs) (hn : e.refs.length ≤ 20000) :
    Calls Try.prog 33 #[.pointer (some ⟨g, 0, none⟩), edV e A c] w (ApAns 133 w base g hb (apS S e)) := by
  have b0 := alloc_below w (.cells (edCs e A c) 50)
  have B0 := Lib.hid b0
  have X0 := Lib.hid (Blk.new w 50 (edCs e A c))
  have H0 := Lib.hid h
  have H1 := Lib.hid (h.below b0)
  have HR := Lib.hid (hr.below b0)
  have PC := Lib.hid (ed_check_any e A c ba _ (hr.below b0) (by omega))
  have PG := Lib.hid (fun W hW => st_goes (w := W) (h.below hW) e A c)
  obtain ⟨Z, hZ⟩ : ∃ Z, Z = apS S e := ⟨_, rfl⟩
  rw [← hZ]
  have HZ := Lib.hid hZ
  obtain ⟨-, p0, p1, p2, p3⟩ := EdBox.of X0.out
  have HGL := Lib.hid (And.intro h.good h.parts)
  clear h b0 hr hZ
  cases hok : okEd e
  · have hz : Z = (S, 140) := by rw [HZ.out]; unfold apS; rw [hok]; rfl
    have HZ2 := Lib.hid hz
    rw [edE_bad hok] at PC
    clear hz hok HZ
    unfold edV edCs at *
    go_enter Try.func33, Try.ntmps33
    go_wp2_with fail
    refine PC.out.mono ?_; rintro x w1 ⟨rfl, b1⟩
    have B1 := Lib.hid (below_trans B0.out b1)
    clear b1
    go_wp2
    go_ret
    rw [HZ2.out]
    exact stay_ap H0.out B1.out 140
  · rw [edE_ok hok] at PC
    have HOK := Lib.hid hok
    cases hgo : goesE S e
    · have hz : Z = (S, 1) := by rw [HZ.out]; unfold apS; rw [hok, hgo]; rfl
      have HZ2 := Lib.hid hz
      rw [hgo] at PG
      clear hz hok hgo HZ
      unfold edV edCs at *
      go_enter Try.func33, Try.ntmps33
      go_wp2_with fail
      refine PC.out.mono ?_; rintro x w1 ⟨rfl, b1⟩
      have B1 := Lib.hid (below_trans B0.out b1)
      clear p0 p1 p2 p3
      obtain ⟨-, p0, p1, p2, p3⟩ := (EdBox.of X0.out).below b1
      clear b1
      go_wp2_with fail
      refine (PG.out _ B1.out).mono ?_; rintro x w2 ⟨rfl, b2⟩
      have B2 := Lib.hid (below_trans B1.out b2)
      clear b2
      go_wp2
      go_ret
      rw [HZ2.out]
      exact stay_ap H0.out B2.out 1
    · have hz : Z = if e.kind = 2 then (⟨S.done ++ [e], none⟩, 0) else (⟨S.done, some e⟩, 0) := by rw [HZ.out]; unfold apS; rw [hok, hgo]; rfl
      have hlen : S.done.length < 65536 := by
        have h1 := ((okEd_iff e).1 hok).2.1
        rw [okMo_iff] at h1
        unfold goesE at hgo
        rw [Bool.and_eq_true, decide_eq_true_eq] at hgo
        omega
      have HZ2 := Lib.hid hz
      rw [hgo] at PG
      clear hz hok hgo HZ
      by_cases hk : e.kind = 2
      · have hz := HZ2.out
        rw [if_pos hk] at hz
        have HZ3 := Lib.hid hz
        have d1 : (e.kind == 2) = true := by simpa using hk
        clear hk hz HZ2
        unfold edV edCs at *
        go_enter Try.func33, Try.ntmps33
        go_wp2_with fail
        refine PC.out.mono ?_; rintro x w1 ⟨rfl, b1⟩
        have B1 := Lib.hid (below_trans B0.out b1)
        have HR1 := Lib.hid (HR.out.below b1)
        have X1 := Lib.hid (X0.out.later b1)
        clear p0 p1 p2 p3
        obtain ⟨-, p0, p1, p2, p3⟩ := EdBox.of X1.out
        clear b1
        go_wp2_with fail
        refine (PG.out _ B1.out).mono ?_; rintro x w2 ⟨rfl, b2⟩
        have B2 := Lib.hid (below_trans B1.out b2)
        have HR2 := Lib.hid (HR1.out.below b2)
        have X2 := Lib.hid (X1.out.later b2)
        clear p0 p1 p2 p3
        obtain ⟨-, p0, p1, p2, p3⟩ := EdBox.of X2.out
        clear b2
        go_wp2_with fail
        obtain ⟨A1, c1, xs, mA, mc, hblk, hbg, hown, hrow, hmr, hhb, hgood⟩ := H0.out.below B2.out
        have PO := Lib.hid (ed_own_any e A c ba w2.drew (HR2.out.below (dr_below (Below.refl _ _))) hn)
        have HBK := Lib.hid hblk
        have HOW := Lib.hid hown
        have HRW := Lib.hid hrow
        have HSM := Lib.hid (And.intro hbg (And.intro hhb hgood))
        have HC0 := Lib.hid (hblk.cell 0)
        have HP := Lib.hid (And.intro p0 (And.intro p1 (And.intro p2 p3)))
        clear hblk hown hrow hmr hbg hhb hgood p0 p1 p2 p3 PC PG
        refine wp_region_J RT [8, 11] (n := 12) (by kernel_rfl) rfl ?_
        refine batchP RT.refl RT.trans [0, 1, 2, 3] (fuel := 8) rfl (by kernel_rfl) (by kernel_rfl) (fun _ _ d _ _ h => by cases d <;> exact h) ?_
        (repeat (first | ((with_reducible apply wq0); rfl; rfl; rfl; intro K hK; go_big_quiet_op; refine hK _ ?_; clear hK K) | ((with_reducible apply wq1); rfl; rfl; rfl; rfl; rfl; rfl; intro K hK; go_big_quiet_op; refine hK _ ?_; clear hK K) | ((with_reducible apply wqs); rfl; rfl; rfl; rfl; rfl; rfl; simp only [Act.put, List.setIfInBounds_toArray, List.set_cons_zero, List.set_cons_succ]) | ((with_reducible apply wqu); rfl; rfl; rfl; rfl; rfl; (first | simp only [same, Act.put, List.setIfInBounds_toArray, List.set_cons_zero, List.set_cons_succ] | simp only [Act.put, List.setIfInBounds_toArray, List.set_cons_zero, List.set_cons_succ]))))
        refine wqIdx_nil_check rfl rfl rfl rfl ?_; simp only [Act.put, List.setIfInBounds_toArray, List.set_cons_zero, List.set_cons_succ]
        (repeat (first | ((with_reducible apply wq0); rfl; rfl; rfl; intro K hK; go_big_quiet_op; refine hK _ ?_; clear hK K) | ((with_reducible apply wq1); rfl; rfl; rfl; rfl; rfl; rfl; intro K hK; go_big_quiet_op; refine hK _ ?_; clear hK K) | ((with_reducible apply wqs); rfl; rfl; rfl; rfl; rfl; rfl; simp only [Act.put, List.setIfInBounds_toArray, List.set_cons_zero, List.set_cons_succ]) | ((with_reducible apply wqu); rfl; rfl; rfl; rfl; rfl; (first | simp only [same, Act.put, List.setIfInBounds_toArray, List.set_cons_zero, List.set_cons_succ] | simp only [Act.put, List.setIfInBounds_toArray, List.set_cons_zero, List.set_cons_succ]))))
        refine wqIdx_nil ?_
        refine batchJ RT.refl [4, 5] (fuel := 6) rfl (by kernel_rfl) (by kernel_rfl) (fun _ _ d _ _ h => by cases d <;> exact h) ?_
        refine wqIdx_load rfl rfl rfl rfl (fun W hW => run_load1 (fun _ => by kernel_rfl) (keep_c hW (HC0.out))) ?_; simp only [Act.put, List.setIfInBounds_toArray, List.set_cons_zero, List.set_cons_succ]
        refine wqIdx_load rfl rfl rfl rfl (fun W hW => load_ed_at _ e A c W (keep_c hW HP.out.1) (keep_c hW HP.out.2.1) (keep_c hW HP.out.2.2.1) (keep_c hW HP.out.2.2.2)) ?_
        simp only [Act.put, List.setIfInBounds_toArray, List.set_cons_zero, List.set_cons_succ]
        refine wqIdx_nil ?_
        refine wpAnyJ_sole (i := 6) rfl (by kernel_rfl) (fun K hK => ?_); go_simp
        refine PO.out.mono ?_; rintro x w3 ⟨A3, c3, rfl, hr3, b3⟩
        refine hK _ _ ⟨fun _ => b3, trivial⟩ ?_
        clear hK K
        have b3' := Below.of_drew0 b3
        have BK3 := Lib.hid (HBK.out.later b3')
        have OW3 := Lib.hid (own_below HOW.out b3')
        have RW3 := Lib.hid (HRW.out.below b3')
        have B3 := Lib.hid (below_trans B2.out b3')
        have HR3 := Lib.hid (hr3 base)
        clear b3 b3' hr3 PO
        refine wpAnyJ_sole (i := 7) rfl (by kernel_rfl) (fun K hK => ?_); rw [if_pos (wanted0 rfl _)]
        refine wp_buildSlice_one (.tmp 26) rfl (cs := encX (xOf e A3 c3)) rfl Try.underlying61 info_edS (by decide) (by decide) (layX.len _) (zero_ed _) rfl ?_
        have b4 := alloc_below w3 (.cells (encX (xOf e A3 c3)).toArray 50)
        refine hK _ _ ⟨fun _ => b4, trivial⟩ ?_
        clear hK K
        simp only [Act.put, List.setIfInBounds_toArray, List.set_cons_zero, List.set_cons_succ]
        have BK4 := Lib.hid (BK3.out.later b4)
        have OW4 := Lib.hid (own_below OW3.out b4)
        have RW4 := Lib.hid (RW3.out.below b4)
        have B4 := Lib.hid (below_trans B3.out b4)
        have HR4 := Lib.hid (HR3.out.below b4)
        have HRX := Lib.hid (reads_oneK layX w3 (xOf e A3 c3) 50)
        have HSZ := Lib.hid (show base ≤ (w3.alloc (.cells (encX (xOf e A3 c3)).toArray 50)).heap.size from Nat.le_trans hbase B4.out.size)
        clear b4
        refine wpAnyJ_sole (i := 8) rfl (by kernel_rfl) (fun K hK => ?_); rw [if_pos (wanted0 rfl _)]
        refine wp_appK layX (ys := [xOf e A3 c3]) (.tmp 24) (.tmp 27) _ rfl Try.underlying61 info_ed3 rfl OW4.out HRX.out 1 rfl rfl (by omega) (by decide) HSZ.out ?_
        intro A5 c5 w5 o5 gr5
        refine hK _ _ ⟨fun hc => absurd (by decide) hc, trivial⟩ ?_
        clear hK K
        simp only [Act.put, List.setIfInBounds_toArray, List.set_cons_zero, List.set_cons_succ]
        have hne := own_blk_ne OW4.out BK4.out (by decide)
        have hg5 := Grew.by_ gr5
        have hat := Grew.at_ gr5
        have BK5 := Lib.hid (BK4.out.grown hg5 fun e => hne e.symm)
        have O5 := Lib.hid o5
        have G5 := Lib.hid (And.intro hg5 hat)
        clear o5 gr5 hne hg5 hat
        refine batchP RT.refl RT.trans [9, 10] (fuel := 1) rfl (by kernel_rfl) (by kernel_rfl) (fun _ _ d _ _ h => by cases d <;> exact h) ?_
        (repeat (first | ((with_reducible apply wq0); rfl; rfl; rfl; intro K hK; go_big_quiet_op; refine hK _ ?_; clear hK K) | ((with_reducible apply wq1); rfl; rfl; rfl; rfl; rfl; rfl; intro K hK; go_big_quiet_op; refine hK _ ?_; clear hK K) | ((with_reducible apply wqs); rfl; rfl; rfl; rfl; rfl; rfl; simp only [Act.put, List.setIfInBounds_toArray, List.set_cons_zero, List.set_cons_succ]) | ((with_reducible apply wqu); rfl; rfl; rfl; rfl; rfl; (first | simp only [same, Act.put, List.setIfInBounds_toArray, List.set_cons_zero, List.set_cons_succ] | simp only [Act.put, List.setIfInBounds_toArray, List.set_cons_zero, List.set_cons_succ]))))
        refine wqIdx_nil_check rfl rfl rfl rfl ?_; simp only [Act.put, List.setIfInBounds_toArray, List.set_cons_zero, List.set_cons_succ]
        (repeat (first | ((with_reducible apply wq0); rfl; rfl; rfl; intro K hK; go_big_quiet_op; refine hK _ ?_; clear hK K) | ((with_reducible apply wq1); rfl; rfl; rfl; rfl; rfl; rfl; intro K hK; go_big_quiet_op; refine hK _ ?_; clear hK K) | ((with_reducible apply wqs); rfl; rfl; rfl; rfl; rfl; rfl; simp only [Act.put, List.setIfInBounds_toArray, List.set_cons_zero, List.set_cons_succ]) | ((with_reducible apply wqu); rfl; rfl; rfl; rfl; rfl; (first | simp only [same, Act.put, List.setIfInBounds_toArray, List.set_cons_zero, List.set_cons_succ] | simp only [Act.put, List.setIfInBounds_toArray, List.set_cons_zero, List.set_cons_succ]))))
        refine wqIdx_nil ?_
        have k0 := BK5.out.cell 0
        simp at k0
        have f0 := BK5.out.frozen 0
        refine wpAnyJ_sole (i := 11) rfl (by kernel_rfl) (fun K hK => ?_); go_simp
        refine hK _ _ ⟨fun hc => absurd (by decide) hc, trivial⟩ ?_
        clear hK K k0 f0
        refine wpAnyJ_done (by kernel_rfl) ?_ _
        have BK6 := Lib.hid (BK5.out.set_ 0 (.slice A5 (S.done.length + 1) c5))
        have k1 := BK6.out.cell 1
        have k2 := BK6.out.cell 2
        have k3 := BK6.out.cell 3
        have k4 := BK6.out.cell 4
        have k5 := BK6.out.cell 5
        simp at k1 k2 k3 k4 k5
        have f1 := BK6.out.frozen 1
        have f2 := BK6.out.frozen 2
        have f3 := BK6.out.frozen 3
        have f4 := BK6.out.frozen 4
        have f5 := BK6.out.frozen 5
        have HFIN := Lib.hid (st_pushed (T := 133) (by decide) (by decide) HSM.out.1 HSM.out.2.2 HOK.out hlen HGL.out.2.2.2 B4.out hbase BK4.out BK5.out OW4.out RW4.out HR4.out O5.out G5.out.1 G5.out.2)
        rw [← HSM.out.2.1] at HFIN
        go_wp2_with fail
        go_ret
        rw [HZ3.out]
        exact HFIN.out
      · have hz := HZ2.out
        rw [if_neg hk] at hz
        have HZ3 := Lib.hid hz
        have d1 : (e.kind == 2) = false := by simpa using hk
        clear hk hz HZ2
        unfold edV edCs at *
        go_enter Try.func33, Try.ntmps33
        go_wp2_with fail
        refine PC.out.mono ?_; rintro x w1 ⟨rfl, b1⟩
        have B1 := Lib.hid (below_trans B0.out b1)
        have HR1 := Lib.hid (HR.out.below b1)
        have X1 := Lib.hid (X0.out.later b1)
        clear p0 p1 p2 p3
        obtain ⟨-, p0, p1, p2, p3⟩ := EdBox.of X1.out
        clear b1
        go_wp2_with fail
        refine (PG.out _ B1.out).mono ?_; rintro x w2 ⟨rfl, b2⟩
        have B2 := Lib.hid (below_trans B1.out b2)
        have HR2 := Lib.hid (HR1.out.below b2)
        have X2 := Lib.hid (X1.out.later b2)
        clear p0 p1 p2 p3
        obtain ⟨-, p0, p1, p2, p3⟩ := EdBox.of X2.out
        clear b2
        go_wp2_with fail
        obtain ⟨A1, c1, xs, mA, mc, hblk, hbg, hown, hrow, hmr, hhb, hgood⟩ := H0.out.below B2.out
        have PO := Lib.hid (ed_own_any e A c ba w2 HR2.out hn)
        have HBK := Lib.hid hblk
        have HOW := Lib.hid hown
        have HRW := Lib.hid hrow
        have HSM := Lib.hid (And.intro hbg (And.intro hhb hgood))
        unfold edV at PO
        clear hblk hown hrow hmr hbg hhb hgood PC PG
        refine PO.out.mono ?_; rintro x w3 ⟨A3, c3, rfl, hr3, b3⟩
        have BK3 := Lib.hid (HBK.out.later b3)
        have HFIN := Lib.hid (st_marked (c3 := c3) (T := 133) (by decide) (by decide) HSM.out.1 HSM.out.2.2 HOK.out (below_trans B2.out b3) hbase BK3.out (own_below HOW.out b3) (HRW.out.below b3) (hr3 base))
        rw [← HSM.out.2.1] at HFIN
        have k1 := BK3.out.cell 1
        have k2 := BK3.out.cell 2
        have k3 := BK3.out.cell 3
        have k4 := BK3.out.cell 4
        have k5 := BK3.out.cell 5
        simp at k1 k2 k3 k4 k5
        have f1 := BK3.out.frozen 1
        have f2 := BK3.out.frozen 2
        have f3 := BK3.out.frozen 3
        have f4 := BK3.out.frozen 4
        have f5 := BK3.out.frozen 5
        clear b3 hr3 p0 p1 p2 p3
        unfold edV
        go_wp2_with fail
        go_ret
        rw [HZ3.out]
        exact HFIN.out
end Go.Proofs.Ytfmmdnjoichifaa

namespace Go.Proofs.Ytfmmdnjoichifaa
open Go.RowKit Go.Sort

theorem RfAt.up {w : World} {A : Option Addr} {l : List Rf} (h : RfAt w 0 A l) (b : Nat) : RfAt w b A l := fun hl => by
  obtain ⟨q, off, e, h1, h2, h3⟩ := h hl
  exact ⟨q, off, e, h1, h2, .inr (h3.resolve_left (Nat.not_lt_zero _))⟩
def St.edits (S : St) : List Ed := S.done ++ S.mark.toList
/-- A new row of edits. -/
def EditsAns (w : World) (base : Nat) (l : List Ed) (x : Ending) (w' : World) : Prop :=
  ∃ A c xs, x = .returned (.slice A l.length c) ∧ w'.ownsRow w.heap.size 50 4 (.slice A l.length c) l.length (RowV encX xs) ∧ EdRow w' base xs l ∧ Below w.heap.size w w'
def slNX : Value → Nat
  | .slice _ n _ => n
  | _ => 0
set_option maxRecDepth 100000 in
set_option maxHeartbeats 4000000 in
theorem st_edits {w : World} {base g : Nat} {hb : Option Nat} {S : St} (h : StR 133 w base g hb S) : Calls Try.prog 36 #[.pointer (some ⟨g, 0, none⟩)] w (EditsAns w 0 S.edits) := by
  have H := Lib.hid h
  have PN := Lib.hid (st_next h)
  have HN := Lib.hid h.good.2.2
  clear h
  go_enter Try.func36, Try.ntmps36
  go_wp2_with fail
  refine PN.out.mono ?_; rintro x w' ⟨rfl, rfl⟩
  clear PN
  go_wp2_with fail
  go_loopw [3, 11] (fun v i wr => ∃ (k : Nat) (A1 : Option Addr) (c1 : Nat) (xs : List EdX), k ≤ S.done.length ∧ i = .int .i64 (k : Int) ∧ v = .slice A1 k c1 ∧ wr.ownsRow w.heap.size 50 4 v k (RowV encX xs) ∧ EdRow wr 0 xs (S.done.take k) ∧ Below w.heap.size w wr) (fun _ i _ => S.done.length - (intOf i).toNat)
  case atStart => exact ⟨0, none, 0, [], Nat.zero_le _, rfl, rfl, own_nil_k layX _ _ _, ⟨rfl, fun i e he => (by cases he)⟩, Below.refl _ _⟩
  case round =>
    obtain ⟨k, A1, c1, xs, hk, rfl, rfl, ho, hx, hb⟩ := hrel
    have HO := Lib.hid ho
    have HX := Lib.hid hx
    have HB := Lib.hid hb
    have hbig := HN.out
    clear ho hx hb
    by_cases hlt : k < S.done.length
    · have hea := List.getElem?_eq_getElem hlt
      have hin : inS S (k : Int) = true := by unfold inS; rw [decide_eq_true (by omega), decide_eq_true (by omega)]; rfl
      have hdn : dnS S (k : Int) = S.done[k] := by unfold dnS; rw [hin, if_pos rfl, Int.toNat_natCast, hea]; rfl
      have PD := Lib.hid (st_done (H.out.below HB.out) (k : Int))
      rw [hin, hdn] at PD
      have htk := Lib.hid (show S.done.take (k + 1) = S.done.take k ++ [S.done[k]] by rw [List.take_add_one, hea]; rfl)
      generalize S.done[k] = e at *
      clear hin hdn hea
      go_wp2_with fail
      refine PD.out.mono ?_; rintro x w2 ⟨A2, c2, rfl, hr2, b2⟩
      have b3 := alloc_below w2 (.cells (edCs e A2 c2) 50)
      have b23 := below_trans b2 b3
      have O3 := Lib.hid (own_below HO.out b23)
      have X3 := Lib.hid (HX.out.below b23)
      have R3 := Lib.hid ((hr2 0).below b3)
      have B3 := Lib.hid (HB.out.trans (b23.mono HB.out.size))
      have E3 := Lib.hid (Blk.new w2 50 (edCs e A2 c2))
      have s2 := b2.size
      clear hr2 b2 b3 b23 PD
      unfold edV
      obtain ⟨ke, epe, rde, re⟩ := e
      unfold edCs at *
      simp only at *
      have b4 := alloc_below (w2.alloc (.cells #[.int .i64 ke, .int .i64 epe, .int .i64 rde, .slice A2 re.length c2] 50)) (.cells (encX (xOf ⟨ke, epe, rde, re⟩ A2 c2)).toArray 50)
      have O4 := Lib.hid (own_below O3.out b4)
      have HRX := Lib.hid (reads_oneK layX (w2.alloc (.cells #[.int .i64 ke, .int .i64 epe, .int .i64 rde, .slice A2 re.length c2] 50)) (xOf ⟨ke, epe, rde, re⟩ A2 c2) 50)
      rw [World.size_alloc] at HRX
      have HSZ := Lib.hid (Nat.le_trans B3.out.size b4.size)
      have B4 := Lib.hid (B3.out.trans (b4.mono B3.out.size))
      have X4 := Lib.hid (X3.out.below b4)
      have R4 := Lib.hid (R3.out.below b4)
      clear b4
      go_wp2_with (at_builtin; (refine wpList_appK layX (ys := [xOf ⟨ke, epe, rde, re⟩ A2 c2]) _ rfl (.tmp 20) (.tmp 22) _ rfl Try.underlying61 info_ed3 rfl O4.out HRX.out 1 rfl rfl (by omega) (by decide) HSZ.out ?_); intro A5 c5 w5 o5 gr5; have O5 := Lib.hid o5; have G5 := Lib.hid gr5; clear o5 gr5)
      have hg5 := Grew.by_ G5.out
      have hrow : ∀ k', (Value.slice A1 k c1).ownBlock = some k' → w.heap.size ≤ k' := fun k' hk' => (World.ownsRow.lt O4.out k' hk').1
      have B5 := Lib.hid (B4.out.grown hg5 HSZ.out hrow)
      have X5 := Lib.hid ((X4.out.snoc (e := ⟨ke, epe, rde, re⟩) (c := c2) R4.out).keep hg5.size fun q hq ho => hg5.block q hq fun e => by
        obtain ⟨-, cur, hc⟩ := own_cur O4.out e.symm
        exact ref_ne ho hc (Nat.zero_le _) (by decide) rfl)
      rw [← htk.out] at X5
      exact ⟨⟨k + 1, A5, c5, xs ++ [xOf ⟨ke, epe, rde, re⟩ A2 c2], by omega, by go_num, rfl, O5.out, X5.out, B5.out⟩, by simp only [intOf]; omega⟩
    · obtain rfl : k = S.done.length := by omega
      have hx := HX.out
      rw [List.take_length] at hx
      have HX2 := Lib.hid hx
      have PM := Lib.hid (st_mark (H.out.below HB.out))
      have HM := Lib.hid (show S.mark.isSome = false → S.edits = S.done from fun e => by unfold St.edits; cases hm : S.mark with | none => simp | some m => rw [hm] at e; cases e)
      have HM2 := Lib.hid (show S.mark.isSome = true → S.edits = S.done ++ [S.mk'] from fun e => by unfold St.edits St.mk'; cases hm : S.mark with | none => rw [hm] at e; cases e | some m => rfl)
      clear hx hlt hk
      generalize S.mk' = e at *
      generalize S.mark.isSome = mk at *
      go_wp2_with fail
      refine PM.out.mono ?_; rintro x w2 ⟨A2, c2, rfl, hr2, b2⟩
      have b3 := alloc_below w2 (.cells (edCs e A2 c2) 50)
      have b23 := below_trans b2 b3
      have O3 := Lib.hid (own_below HO.out b23)
      have X3 := Lib.hid (HX2.out.below b23)
      have R3 := Lib.hid ((hr2 0).below b3)
      have B3 := Lib.hid (HB.out.trans (b23.mono HB.out.size))
      clear hr2 b2 b3 b23 PM
      cases mk
      · have HED := Lib.hid (HM.out rfl)
        unfold edV
        unfold edCs at *
        clear HM HM2
        go_wp2
        go_ret
        rw [HED.out]
        exact ⟨A1, c1, xs, rfl, O3.out, X3.out, B3.out⟩
      · have HED := Lib.hid (HM2.out rfl)
        have E3 := Lib.hid (Blk.new w2 50 (edCs e A2 c2))
        unfold edV
        obtain ⟨ke, epe, rde, re⟩ := e
        unfold edCs at *
        simp only at *
        have b4 := alloc_below (w2.alloc (.cells #[.int .i64 ke, .int .i64 epe, .int .i64 rde, .slice A2 re.length c2] 50)) (.cells (encX (xOf ⟨ke, epe, rde, re⟩ A2 c2)).toArray 50)
        have O4 := Lib.hid (own_below O3.out b4)
        have HRX := Lib.hid (reads_oneK layX (w2.alloc (.cells #[.int .i64 ke, .int .i64 epe, .int .i64 rde, .slice A2 re.length c2] 50)) (xOf ⟨ke, epe, rde, re⟩ A2 c2) 50)
        rw [World.size_alloc] at HRX
        have HSZ := Lib.hid (Nat.le_trans B3.out.size b4.size)
        have B4 := Lib.hid (B3.out.trans (b4.mono B3.out.size))
        have X4 := Lib.hid (X3.out.below b4)
        have R4 := Lib.hid (R3.out.below b4)
        clear b4 HM HM2
        go_wp2_with (at_builtin; (refine wpList_appK layX (ys := [xOf ⟨ke, epe, rde, re⟩ A2 c2]) _ rfl (.tmp 31) (.tmp 33) _ rfl Try.underlying61 info_ed3 rfl O4.out HRX.out 1 rfl rfl (by omega) (by decide) HSZ.out ?_); intro A5 c5 w5 o5 gr5; have O5 := Lib.hid o5; have G5 := Lib.hid gr5; clear o5 gr5)
        have hg5 := Grew.by_ G5.out
        have hrow : ∀ k', (Value.slice A1 S.done.length c1).ownBlock = some k' → w.heap.size ≤ k' := fun k' hk' => (World.ownsRow.lt O4.out k' hk').1
        have B5 := Lib.hid (B4.out.grown hg5 HSZ.out hrow)
        have X5 := Lib.hid ((X4.out.snoc (e := ⟨ke, epe, rde, re⟩) (c := c2) R4.out).keep hg5.size fun q hq ho => hg5.block q hq fun e => by
          obtain ⟨-, cur, hc⟩ := own_cur O4.out e.symm
          exact ref_ne ho hc (Nat.zero_le _) (by decide) rfl)
        go_ret
        rw [HED.out]
        have hl1 : (S.done ++ [(⟨ke, epe, rde, re⟩ : Ed)]).length = S.done.length + 1 := by rw [List.length_append]; rfl
        exact ⟨A5, c5, xs ++ [xOf ⟨ke, epe, rde, re⟩ A2 c2], by rw [hl1]; rfl, by rw [hl1]; exact O5.out, X5.out, B5.out⟩
theorem st_edits_nil (w : World) : Calls Try.prog 36 #[.pointer none] w fun x w' => x = .returned (.slice none 0 0) ∧ Below w.heap.size w w' := by
  have PN := Lib.hid (fun W => st_next_nil W)
  have PM := Lib.hid (fun W => st_mark_nil W)
  go_enter Try.func36, Try.ntmps36
  go_wp2_with fail
  refine (PN.out _).mono ?_; rintro x w' ⟨rfl, rfl⟩
  go_wp2_with fail
  go_loopw [3, 11] (fun v i wr => v = .slice none 0 0 ∧ i = .int .i64 0 ∧ w = wr) (fun _ _ _ => 0)
  case atStart => exact ⟨rfl, rfl, rfl⟩
  case round =>
    obtain ⟨rfl, rfl, rfl⟩ := hrel
    go_wp2_with fail
    refine (PM.out _).mono ?_; rintro x w2 ⟨A2, c2, rfl, hr2, b2⟩
    have B3 := Lib.hid (below_trans b2 (alloc_below w2 (.cells (edCs zE A2 c2) 50)))
    unfold edV
    unfold edCs at *
    clear b2
    go_wp2
    go_ret
    exact ⟨rfl, B3.out⟩
end Go.Proofs.Ytfmmdnjoichifaa
