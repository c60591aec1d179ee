/- A run in memory; what its small functions answer; the entries that a function chooses. -/
import Derived.Test.YtodfpdmmbmbinaaEnS
import Derived.Test.YtodfpdmmbmbinaaFrC
namespace Go.Proofs.Ytodfpdmmbmbinaa
open Go.RowKit Go.Sort

structure Rn where
  limit : Nat
  most : Nat
  held : List En
def Rn.ok (R : Rn) : Prop := 1 ≤ R.limit ∧ R.limit ≤ 4096 ∧ R.most ≤ R.limit ∧ R.held.length ≤ R.limit ∧ ∀ x ∈ R.held, enE x = 0
abbrev ptR (r : Nat) : Value := .pointer (some ⟨r, 0, none⟩)
/-- Block r is a run whose entries lie in block hb. -/
def RunR (w : World) (base r : Nat) (hb : Option Nat) (R : Rn) : Prop :=
  ∃ A c, Blk w r 115 #[.int .i64 (R.limit : Int), .int .i64 (R.most : Int), .slice A R.held.length c] ∧ base ≤ r ∧ w.ownsRow base 65 4 (.slice A R.held.length c) R.held.length (RowV encE R.held) ∧ hb = (Value.slice A R.held.length c).ownBlock ∧ R.ok
/-- What a call leaves as it was: all but the run and its row. -/
def RF (r : Nat) (hb : Option Nat) (w w' : World) : Prop := w'.os = w.os ∧ w'.tape = w.tape ∧ w'.output = w.output ∧ w.heap.size ≤ w'.heap.size ∧ ∀ k, k < w.heap.size → k ≠ r → some k ≠ hb → w'.heap[k]? = w.heap[k]?
section
variable {w w' w1 : World} {base r : Nat} {hb : Option Nat} {R : Rn}
theorem RF.of_below (h : Below w.heap.size w w') : RF r hb w w' := ⟨h.os, h.tape, h.output, h.size, fun k hk _ _ => h.block k hk⟩
theorem RF.refl (w : World) : RF r hb w w := ⟨rfl, rfl, rfl, Nat.le_refl _, fun _ _ _ _ => rfl⟩
theorem RF.size (h : RF r hb w w') : w.heap.size ≤ w'.heap.size := h.2.2.2.1
theorem RF.below (h : RF r hb w w') (hr : base ≤ r) (hh : ∀ k, hb = some k → base ≤ k) (hs : base ≤ w.heap.size) : Below base w w' :=
  ⟨h.1, h.2.1, h.2.2.1, h.2.2.2.1, fun i hi => h.2.2.2.2 i (by omega) (by omega) (fun e => by have := hh i e.symm; omega)⟩
theorem RunR.base_le (h : RunR w base r hb R) : base ≤ r ∧ (∀ k, hb = some k → base ≤ k ∧ k < w.heap.size) ∧ r < w.heap.size := by
  obtain ⟨A, c, h1, h2, h3, h4, -⟩ := h
  exact ⟨h2, fun k hk => World.ownsRow.lt h3 k (h4 ▸ hk), h1.lt⟩
theorem RunR.below (h : RunR w base r hb R) (hb' : Below w.heap.size w w') : RunR w' base r hb R := by
  obtain ⟨A, c, h1, h2, h3, h4, h5⟩ := h
  exact ⟨A, c, h1.below hb' h1.lt, h2, own_below h3 hb', h4, h5⟩
/-- The run stays while others are written. -/
theorem RunR.kept (h : RunR w base r hb R) (hk : ∀ k, k = r ∨ hb = some k → w'.heap[k]? = w.heap[k]?) : RunR w' base r hb R := by
  obtain ⟨A, c, h1, h2, h3, h4, h5⟩ := h
  refine ⟨A, c, (hk r (.inl rfl)).trans h1, h2, ⟨h3.1, ?_⟩, h4, h5⟩
  rcases h3.2 with hv | ⟨g, cap, cur, hv, hb1, hh, h6⟩
  · exact .inl hv
  · have : hb = some g := by rw [h4, hv]; rfl
    exact .inr ⟨g, cap, cur, hv, hb1, (hk g (.inr this)).trans hh, h6⟩
theorem RunR.cells (h : RunR w base r hb R) : ∃ A c, r < w.heap.size ∧ w.cell? ⟨r, 0, none⟩ = some (.int .i64 (R.limit : Int)) ∧ w.cell? ⟨r, 1, none⟩ = some (.int .i64 (R.most : Int)) ∧ w.cell? ⟨r, 2, none⟩ = some (.slice A R.held.length c) ∧
    w.ownsRow base 65 4 (.slice A R.held.length c) R.held.length (RowV encE R.held) ∧ hb = (Value.slice A R.held.length c).ownBlock := by
  obtain ⟨A, c, h1, h2, h3, h4, h5⟩ := h
  exact ⟨A, c, h1.lt, h1.cell 0, h1.cell 1, h1.cell 2, h3, h4⟩
theorem RunR.good (h : RunR w base r hb R) : R.ok := by
  obtain ⟨A, c, h1, h2, h3, h4, h5⟩ := h
  exact h5
theorem runmade_any (h : RunR w base r hb R) : Calls Try.prog 71 #[ptR r] w fun e w' => e = .returned (.bool false) ∧ w = w' := by
  obtain ⟨A, c, hl, c0, -⟩ := h.cells
  have hg := h.good
  have d1 : ((R.limit : Int) == 0) = false := by rw [beq_eq_false_iff_ne]; have := hg.1; omega
  clear h hg
  go_enter Try.func71, Try.ntmps71
  go_wp2
  go_ret
  exact ⟨rfl, rfl⟩
theorem rununmade_nil (w : World) : Calls Try.prog 71 #[.pointer none] w fun e w' => e = .returned (.bool true) ∧ w = w' := by
  go_enter Try.func71, Try.ntmps71
  go_wp2
  go_ret
  exact ⟨rfl, rfl⟩
theorem rlen_any (h : RunR w base r hb R) : Calls Try.prog 33 #[ptR r] w fun e w' => e = .returned (.int .i64 (R.held.length : Int)) ∧ w = w' := by
  have P := Lib.hid (runmade_any h)
  obtain ⟨A, c, hl, c0, c1, c2, -⟩ := h.cells
  clear h
  go_enter Try.func33, Try.ntmps33
  go_wp2_with fail
  refine P.out.mono ?_; rintro e w' ⟨rfl, rfl⟩
  go_wp2
  go_ret
  exact ⟨rfl, rfl⟩
theorem rlimit_any (h : RunR w base r hb R) : Calls Try.prog 34 #[ptR r] w fun e w' => e = .returned (.int .i64 (R.limit : Int)) ∧ w = w' := by
  have P := Lib.hid (runmade_any h)
  obtain ⟨A, c, hl, c0, c1, c2, -⟩ := h.cells
  clear h
  go_enter Try.func34, Try.ntmps34
  go_wp2_with fail
  refine P.out.mono ?_; rintro e w' ⟨rfl, rfl⟩
  go_wp2
  go_ret
  exact ⟨rfl, rfl⟩
theorem rmost_any (h : RunR w base r hb R) : Calls Try.prog 35 #[ptR r] w fun e w' => e = .returned (.int .i64 (R.most : Int)) ∧ w = w' := by
  have P := Lib.hid (runmade_any h)
  obtain ⟨A, c, hl, c0, c1, c2, -⟩ := h.cells
  clear h
  go_enter Try.func35, Try.ntmps35
  go_wp2_with fail
  refine P.out.mono ?_; rintro e w' ⟨rfl, rfl⟩
  go_wp2
  go_ret
  exact ⟨rfl, rfl⟩
theorem rlen_nil (w : World) : Calls Try.prog 33 #[.pointer none] w fun e w' => e = .returned (.int .i64 0) ∧ w = w' := by
  go_enter Try.func33, Try.ntmps33
  go_wp2_with fail
  refine (rununmade_nil _).mono ?_; rintro e w' ⟨rfl, rfl⟩
  go_wp2
  go_ret
  exact ⟨rfl, rfl⟩
theorem rlimit_nil (w : World) : Calls Try.prog 34 #[.pointer none] w fun e w' => e = .returned (.int .i64 0) ∧ w = w' := by
  go_enter Try.func34, Try.ntmps34
  go_wp2_with fail
  refine (rununmade_nil _).mono ?_; rintro e w' ⟨rfl, rfl⟩
  go_wp2
  go_ret
  exact ⟨rfl, rfl⟩
theorem rmost_nil (w : World) : Calls Try.prog 35 #[.pointer none] w fun e w' => e = .returned (.int .i64 0) ∧ w = w' := by
  go_enter Try.func35, Try.ntmps35
  go_wp2_with fail
  refine (rununmade_nil _).mono ?_; rintro e w' ⟨rfl, rfl⟩
  go_wp2
  go_ret
  exact ⟨rfl, rfl⟩
theorem rnew_no (lim : Int) (w : World) (h : lim < 1 ∨ 4096 < lim) : Calls Try.prog 29 #[.int .i64 lim] w fun e w' => e = .returned (.tuple #[.pointer none, .int .i64 1]) ∧ w = w' := by
  by_cases h1 : lim < 1
  · have d1 : decide (lim < 1) = true := by rw [decide_eq_true_eq]; exact h1
    go_enter Try.func29, Try.ntmps29
    go_wp2
    go_ret2
    exact ⟨rfl, rfl⟩
  · have d1 : decide (lim < 1) = false := by rw [decide_eq_false_iff_not]; exact h1
    have d2 : decide (lim > 4096) = true := by rw [decide_eq_true_eq]; omega
    go_enter Try.func29, Try.ntmps29
    go_wp2
    go_ret2
    exact ⟨rfl, rfl⟩
theorem runV_build (n : Int) (w : World) : (Instr.build 115 #[(0, .int .i64 n)]).run Try.prog w = .ok (.agg #[.int .i64 n, .int .i64 0, .slice none 0 0]) w := by kernel_rfl
theorem rnew_ok (lim : Nat) (w : World) (base : Nat) (hb : base ≤ w.heap.size) (h0 : 1 ≤ lim) (h1 : lim ≤ 4096) :
    Calls Try.prog 29 #[.int .i64 (lim : Int)] w fun e w' => ∃ r, e = .returned (.tuple #[ptR r, .int .i64 0]) ∧ RunR w' base r none ⟨lim, 0, []⟩ ∧ w.heap.size ≤ r ∧ Below w.heap.size w w' := by
  have d1 : decide ((lim : Int) < 1) = false := by rw [decide_eq_false_iff_not]; omega
  have d2 : decide ((lim : Int) > 4096) = false := by rw [decide_eq_false_iff_not]; omega
  have hbd := Lib.hid (runV_build (lim : Int) w)
  have B := Lib.hid (alloc_below w (.cells #[.int .i64 (lim : Int), .int .i64 0, .slice none 0 0] 115))
  have X := Lib.hid (Blk.new w 115 #[.int .i64 (lim : Int), .int .i64 0, .slice none 0 0])
  have HB := Lib.hid hb
  have HL := Lib.hid (And.intro h0 h1)
  clear hb h0 h1
  go_enter Try.func29, Try.ntmps29
  go_wp2_with fail
  go_ret2
  exact ⟨w.heap.size, rfl, ⟨none, 0, X.out, HB.out, own_nil_k layE _ _ _, rfl, HL.out.1, HL.out.2, Nat.zero_le _, Nat.zero_le _, fun x hx => by cases hx⟩, Nat.le_refl _, B.out⟩
/-- A function on entries, told by what it answers in every later world. -/
def PredC (g : Nat) (bnd cap : Array Value) (p : En → Bool) (w : World) : Prop :=
  ∀ (W : World) (x : En), Below w.heap.size w W → Calls Try.prog g (bnd.push (enV x) ++ cap) W fun e W' => e = .returned (.bool (p x)) ∧ Below W.heap.size W W'
set_option maxRecDepth 100000 in
set_option maxHeartbeats 2000000 in
theorem some_any (h : RunR w base r hb R) (p : En → Bool) (g : Nat) (bnd cap : Array Value) (eg : ∀ args w, (callFunc g args).run Try.prog w = .ok (.enter g args) w) (hp : PredC g bnd cap p w) :
    Calls Try.prog 90 #[ptR r, .func (.func g) bnd cap] w (EnRow w (R.held.filter p)) := by
  have PU := Lib.hid (runmade_any h)
  obtain ⟨A, c, hl, rc0, rc1, rc2, ho, -⟩ := h.cells
  have hbig : R.held.length ≤ 4096 := by have := h.good; exact Nat.le_trans this.2.2.2.1 this.2.1
  obtain ⟨gg, -, hs, -, -, -, -⟩ := SlK.of_own layE ho
  have HL := Lib.hid hs
  have HP := Lib.hid hp
  clear h hp ho hs
  generalize R.held = l at *
  go_enter Try.func90, Try.ntmps90
  go_wp2_with fail
  refine PU.out.mono ?_; rintro e w' ⟨rfl, rfl⟩
  go_wp2_with fail
  go_loopw [5, 15] (fun s i wr => ∃ (k : Nat) (A2 : Option Addr) (c2 : Nat), k ≤ l.length ∧ i = .int .i64 (k : Int) ∧ s = .slice A2 ((l.take k).filter p).length c2 ∧ wr.ownsRow w.heap.size 65 4 s ((l.take k).filter p).length (RowV encE ((l.take k).filter p)) ∧ Below w.heap.size w wr) (fun _ i _ => l.length - (intOf i).toNat)
  case atStart => exact ⟨0, none, 0, Nat.zero_le _, rfl, rfl, own_nil_k layE _ _ _, Below.refl _ _⟩
  case round =>
    obtain ⟨k, A2, c2, hk, rfl, rfl, ho, hb⟩ := hrel
    have HO := Lib.hid ho
    have HB := Lib.hid hb
    clear ho hb
    by_cases hlt : k < l.length
    · have hea := List.getElem?_eq_getElem hlt
      obtain ⟨-, off, rfl, hc⟩ := (HL.out.below HB.out).at_ layE hea
      have htk : l.take (k + 1) = l.take k ++ [l[k]] := by rw [List.take_add_one, hea]; rfl
      obtain ⟨x, hx⟩ : ∃ x, x = l[k] := ⟨_, rfl⟩
      rw [← hx] at hc htk
      obtain ⟨⟨a, b⟩, c', d⟩ := x
      have q0 := hc 0 _ rfl
      have q1 := hc 1 _ rfl
      have q2 := hc 2 _ rfl
      have q3 := hc 3 _ rfl
      rw [Nat.add_zero] at q0
      have HT := Lib.hid htk
      have B1 := Lib.hid (alloc_below wr (.cells #[.int .i64 a, .int .i64 b, .int .i64 c', .int .i64 d] 65))
      have HX := Lib.hid (EnBox.new wr ((a, b), (c', d)) 65)
      have P1 := Lib.hid (HP.out _ ((a, b), (c', d)) (HB.out.trans (B1.out.mono HB.out.size)))
      clear hea hx htk hc
      go_wp2_with fail
      refine P1.out.mono ?_; rintro e w1 ⟨rfl, b1⟩
      clear q0 q1 q2 q3
      obtain ⟨q0, q1, q2, q3⟩ := (HX.out.below b1).four
      have B2 := Lib.hid (below_trans B1.out b1)
      have BW := Lib.hid (HB.out.trans (B2.out.mono HB.out.size))
      have HO2 := Lib.hid (own_below HO.out B2.out)
      obtain ⟨q, hq⟩ : ∃ q, q = p ((a, b), (c', d)) := ⟨_, rfl⟩
      rw [← hq]
      have hf : (l.take (k + 1)).filter p = (l.take k).filter p ++ (if q then [((a, b), (c', d))] else []) := by
        rw [HT.out, List.filter_append, hq]
        congr 1
        rw [List.filter_cons, List.filter_nil]
      have hlen : ((l.take k).filter p).length ≤ 100000 := Nat.le_trans (List.length_filter_le ..) (by rw [List.length_take]; omega)
      have HF := Lib.hid hf
      clear hq hf b1 P1
      obtain ⟨ys, hys⟩ : ∃ ys, ys = (l.take k).filter p := ⟨_, rfl⟩
      rw [← hys] at HF HO2 hlen
      have HYS := Lib.hid hys
      rw [← hys]
      clear hys HO
      cases q
      · go_wp2
        have hf := HF.out
        rw [if_neg (by decide), List.append_nil] at hf
        exact ⟨⟨k + 1, A2, c2, by omega, by go_num, by rw [hf], by rw [hf]; exact HO2.out, BW.out⟩, by simp [intOf]; omega⟩
      · have HR := Lib.hid (reads_oneK layE w1 ((a, b), (c', d)) 65)
        have HOA := Lib.hid (World.ownsRow.alloc HO2.out (.cells (encE ((a, b), (c', d))).toArray 65))
        have BWA := Lib.hid (BW.out.alloc BW.out.size (.cells (encE ((a, b), (c', d))).toArray 65))
        go_wp2_with (at_builtin; (refine wpList_appK layE (ys := [((a, b), (c', d))]) _ rfl (.tmp 22) (.tmp 24) _ rfl Try.underlying70 info_en3 rfl HOA.out HR.out 1 rfl rfl (by omega) (by decide) BWA.out.size ?_); intro A5 c5 w5 o5 gr5; have O5 := Lib.hid o5; have B5 := Lib.hid (show Below w.heap.size w w5 from BWA.out.grown (Grew.by_ gr5) BWA.out.size fun i hi => (World.ownsRow.lt HOA.out i hi).1); clear o5 gr5)
        have hf := HF.out
        rw [if_pos trivial] at hf
        exact ⟨⟨k + 1, A5, c5, by omega, by go_num, by rw [hf, List.length_append]; rfl, by rw [hf, List.length_append]; exact O5.out, B5.out⟩, by simp [intOf]; omega⟩
    · obtain rfl : k = l.length := by omega
      have ho := HO.out
      rw [List.take_length] at ho ⊢
      have HO := Lib.hid ho
      clear ho
      go_wp2
      go_ret
      exact ⟨A2, c2, rfl, HO.out, HB.out⟩
end
end Go.Proofs.Ytodfpdmmbmbinaa
