/- Runs: entries in order, entries that go. -/
import Derived.Test.YtodfpdmmbmbinaaRuA
namespace Go.Proofs.Ytodfpdmmbmbinaa
open Go.RowKit Go.Sort

section
variable {w w' w1 : World} {base r : Nat} {hb : Option Nat} {R : Rn}
theorem firstE_ok : ∀ (l : List En), (∀ x ∈ l, enE x = 0) → firstE l = 0
  | [], _ => rfl
  | x :: l, h => by
    unfold firstE
    rw [if_pos (h x (List.mem_cons.2 (.inl rfl)))]
    exact firstE_ok l fun y hy => h y (List.mem_cons.2 (.inr hy))
theorem mayEs_of {l : List En} (h : ∀ x ∈ l, enE x = 0) (hl : l.length ≤ 16384) : mayEs l = 0 := by
  unfold mayEs
  rw [firstE_ok l h, if_pos rfl, if_neg (by omega)]
/-- A new row of entries in order. -/
def SrtRow (w : World) (l : List En) (e : Ending) (w' : World) : Prop := ∃ A c, e = .returned (.slice A l.length c) ∧ RowE w l A c w'
theorem rowE_mono {w0 w : World} {l : List En} {A : Option Addr} {c : Nat} (hb : Below w0.heap.size w0 w) (h : RowE w l A c w') : RowE w0 l A c w' :=
  ⟨h.1, hb.trans (h.2.1.mono hb.size), fun hn => by
    obtain ⟨g, h1, h2, h3⟩ := h.2.2 hn
    exact ⟨g, h1, Nat.le_trans hb.size h2, h3⟩⟩
theorem sorted_any (h : RunR w base r hb R) (p : En → Bool) (g : Nat) (bnd cap : Array Value) (eg : ∀ args w, (callFunc g args).run Try.prog w = .ok (.enter g args) w) (hp : PredC g bnd cap p w) :
    Calls Try.prog 72 #[ptR r, .func (.func g) bnd cap] w (SrtRow w (srtE (R.held.filter p))) := by
  have PS := Lib.hid (some_any h p g bnd cap eg hp)
  have hg := h.good
  have hlen : (R.held.filter p).length ≤ 4096 := Nat.le_trans (List.length_filter_le ..) (Nat.le_trans hg.2.2.2.1 hg.2.1)
  have HM := Lib.hid (mayEs_of (l := R.held.filter p) (fun x hx => hg.2.2.2.2 x (List.mem_filter.1 hx).1) (by omega))
  clear h hp hg
  generalize R.held.filter p = l at *
  go_enter Try.func72, Try.ntmps72
  go_wp2_with fail
  refine PS.out.mono ?_; rintro e w1 ⟨A1, c1, rfl, o1, b1⟩
  obtain ⟨g1, -, s1, -, -, -, -⟩ := SlK.of_own layE o1
  have S1 := Lib.hid s1
  have B1 := Lib.hid b1
  clear o1 b1 s1
  go_wp2_with fail
  refine (en_sort_any A1 g1 l c1 w1 S1.out (by omega)).mono ?_
  rintro e w2 (⟨hc, -, -⟩ | ⟨-, A2, c2, rfl, hr⟩)
  · exact absurd HM.out hc
  · have HR := Lib.hid (rowE_mono B1.out hr)
    clear hr
    go_wp2_with fail
    go_ret
    exact ⟨A2, c2, by rw [srtE_length]; rfl, HR.out⟩
theorem rkeep_any (h : RunR w base r hb R) (p : En → Bool) (g : Nat) (bnd cap : Array Value) (eg : ∀ args w, (callFunc g args).run Try.prog w = .ok (.enter g args) w) (hp : PredC g bnd cap p w) (hbase : base ≤ w.heap.size) :
    Calls Try.prog 78 #[ptR r, .func (.func g) bnd cap] w fun e w' => e = .returned (.int .i64 ((R.held.length : Int) - ((R.held.filter p).length : Int))) ∧
      ∃ hb', RunR w' base r hb' { R with held := R.held.filter p } ∧ RF r hb w w' ∧ ∀ k, hb' = some k → w.heap.size ≤ k := by
  have PU := Lib.hid (runmade_any h)
  have PS := Lib.hid (some_any h p g bnd cap eg hp)
  have H := Lib.hid h
  have hg := h.good
  have hlen : (R.held.filter p).length ≤ R.held.length := List.length_filter_le ..
  have hl2 : R.held.length ≤ 4096 := Nat.le_trans hg.2.2.2.1 hg.2.1
  have HB := Lib.hid hbase
  clear h hp hg hbase
  go_enter Try.func78, Try.ntmps78
  go_wp2_with fail
  refine PU.out.mono ?_; rintro e w' ⟨rfl, rfl⟩
  go_wp2_with fail
  refine PS.out.mono ?_; rintro e w1 ⟨A1, c1, rfl, o1, b1⟩
  have H1 := Lib.hid (H.out.below b1)
  have O1 := Lib.hid o1
  have B1 := Lib.hid b1
  obtain ⟨A, c, hx, h2, h3, h4, h5⟩ := H1.out
  have c2 := hx.cell 2
  have f2 := hx.frozen 2
  have HX := Lib.hid (hx.set_ 2 (.slice A1 (R.held.filter p).length c1))
  have OX := Lib.hid (own_mono (ownsRow_setCell_other (a := ⟨r, 2, none⟩) o1 (own_blk_ne o1 hx (by decide)) (.slice A1 (R.held.filter p).length c1)) HB.out)
  clear o1 b1 hx h3 h4
  have OF := Lib.hid (fun k (hk : (Value.slice A1 (R.held.filter p).length c1).ownBlock = some k) => (World.ownsRow.lt O1.out k hk).1)
  have hok : Rn.ok { R with held := R.held.filter p } := ⟨h5.1, h5.2.1, h5.2.2.1, Nat.le_trans hlen h5.2.2.2.1, fun x hx => h5.2.2.2.2 x (List.mem_filter.1 hx).1⟩
  have HOK := Lib.hid hok
  have H2 := Lib.hid h2
  clear h2 h5 hok
  go_wp2_with fail
  go_ret
  refine ⟨by rfl, _, ⟨A1, c1, HX.out, H2.out, OX.out, rfl, HOK.out⟩, ⟨B1.out.os, B1.out.tape, B1.out.output, by rw [World.size_setCell]; exact B1.out.size, fun k hk hkr _ => ?_⟩, OF.out⟩
  exact (Below.heap_setCell w1 ⟨r, 2, none⟩ _ k hkr).trans (B1.out.block k hk)
/-- All's function. -/
theorem all1_any (w : World) : PredC 73 #[] #[] (fun _ => true) w := fun W x _ => by
  show Calls Try.prog 73 #[enV x] W fun e W' => e = .returned (.bool true) ∧ Below W.heap.size W W'
  have b1 := Lib.hid (alloc_below W (.cells (encE x).toArray 65))
  unfold enV
  go_enter Try.func73, Try.ntmps73
  go_wp2
  go_ret
  exact ⟨rfl, b1.out⟩
theorem take1_any (w : World) : PredC 79 #[] #[] (fun _ => false) w := fun W x _ => by
  show Calls Try.prog 79 #[enV x] W fun e W' => e = .returned (.bool false) ∧ Below W.heap.size W W'
  have b1 := Lib.hid (alloc_below W (.cells (encE x).toArray 65))
  unfold enV
  go_enter Try.func79, Try.ntmps79
  go_wp2
  go_ret
  exact ⟨rfl, b1.out⟩
theorem of_any (m : Int × Int) (w : World) : PredC 80 #[.agg #[.int .i64 m.1, .int .i64 m.2]] #[] (fun x => x.1 == m) w := fun W x hb => by
  have he : (x.1 == m) = ((x.1.1 == m.1) && (x.1.2 == m.2)) := rfl
  show Calls Try.prog 80 #[.agg #[.int .i64 m.1, .int .i64 m.2], enV x] W fun e W' => e = .returned (.bool (x.1 == m)) ∧ Below W.heap.size W W'
  rw [he]
  generalize hq1 : (x.1.1 == m.1) = q1
  generalize hq2 : (x.1.2 == m.2) = q2
  have b1 := alloc_below W (.cells #[.int .i64 m.1, .int .i64 m.2] 122)
  have b2 := alloc_below (W.alloc (.cells #[.int .i64 m.1, .int .i64 m.2] 122)) (.cells (encE x).toArray 65)
  have B := Lib.hid (below_trans b1 b2)
  unfold enV
  clear hb he b1 b2
  cases q1 <;> cases q2
  all_goals
    go_enter Try.func80, Try.ntmps80
    go_wp2
    go_ret
    exact ⟨rfl, B.out⟩
theorem keep1_any (F : Option Addr) (hf : Nat) (f : List (Int × Int)) (cf : Nat) (B : Nat) (w : World) (hF : SlP w hf F f) (hbig : f.length ≤ 9223372036854775807) (hB : B < w.heap.size) (h0 : w.cell? ⟨B, 0, none⟩ = some (.slice F f.length cf)) :
    PredC 81 #[] #[.pointer (some ⟨B, 0, none⟩)] (fun x => f.any fun y => aheadM y x.1) w := fun W x hb => by
  have k0 : W.cell? ⟨B, 0, none⟩ = some (.slice F f.length cf) := (hb.cell (p := ⟨B, 0, none⟩) hB).trans h0
  have hBW : B < W.heap.size := Nat.lt_of_lt_of_le hB hb.size
  have hne : B ≠ W.heap.size := by omega
  show Calls Try.prog 81 #[enV x, .pointer (some ⟨B, 0, none⟩)] W fun e W' => e = .returned (.bool (f.any fun y => aheadM y x.1)) ∧ Below W.heap.size W W'
  have b1 := Lib.hid (alloc_below W (.cells (encE x).toArray 65))
  have P := Lib.hid (covers_any F hf f cf x.1.1 x.1.2 (W.alloc (.cells (encE x).toArray 65)) ((hF.keep hb.size fun hh => hb.block hf hh).below b1.out) hbig)
  have e1 : ((x.1.1, x.1.2) : Int × Int) = x.1 := rfl
  rw [e1] at P
  generalize (f.any fun y => aheadM y x.1) = q at P ⊢
  unfold enV
  clear hb h0 hF e1
  go_enter Try.func81, Try.ntmps81
  go_wp2_with fail
  refine P.out.mono ?_; rintro e w' ⟨rfl, b2⟩
  go_wp2
  go_ret
  exact ⟨rfl, below_trans b1.out b2⟩
end
end Go.Proofs.Ytodfpdmmbmbinaa
