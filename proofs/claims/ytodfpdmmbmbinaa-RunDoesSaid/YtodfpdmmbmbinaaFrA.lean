/- Contracts of package moment: Covers, Beyond. -/
import Derived.Test.YtodfpdmmbmbinaaMoD
import Derived.Test.YtodfpdmmbmbinaaPr
import Derived.Test.YtodfpdmmbmbinaaShelfB
namespace Go.Proofs.Ytodfpdmmbmbinaa
open Go.RowKit Go.Sort

theorem enc_cells {w : World} {h : Nat} {off : Nat} {l : List (Int × Int)} (hc : ∀ (j : Nat) (u : Value), (Prs l)[j]? = some u → w.cell? ⟨h, off + j, none⟩ = some u) :
    ∀ j, j < l.length → ∀ i v, (encP l[j]!)[i]? = some v → w.cell? ⟨h, off + j * 2 + i, none⟩ = some v := by
  intro j hj i v hi
  obtain ⟨p0, p1⟩ := Prs_get l j l[j] (List.getElem?_eq_getElem hj)
  rw [getElem!_pos l j hj] at hi
  match i, hi with
  | 0, hi => simp [encP] at hi; rw [← hi, Nat.add_zero]; exact hc _ _ p0
  | 1, hi => simp [encP] at hi; rw [← hi, Nat.add_assoc]; exact hc _ _ p1
  | i + 2, hi => simp [encP] at hi
set_option maxRecDepth 100000 in
set_option maxHeartbeats 400000 in
theorem indexMo_empty (A : Option Addr) (c : Nat) (fv : Value) (w : World) :
    Calls Try.prog 117 #[.slice A 0 c, fv] w fun e w' => e = .returned (.int .i64 (-1)) ∧ w = w' := by
  go_enter Try.func117, Try.ntmps117
  go_wp2
  go_loop [5, 8] (fun _ i => i = .int .i64 0) (fun _ _ => 0)
  case atStart => exact rfl
  case round =>
    subst hrel
    go_wp2
    go_ret
    exact ⟨rfl, rfl⟩
set_option maxRecDepth 100000 in
set_option maxHeartbeats 1000000 in
theorem containsMo_any (p : Int × Int → Bool) (g : Nat) (lb : Array Value) (eg : ∀ args w, (callFunc g args).run Try.prog w = .ok (.enter g args) w) (A : Option Addr) (h : Nat) (l : List (Int × Int)) (c : Nat) (w : World)
    (hp : PredBelow Try.prog g lb (fun x => .agg (encP x).toArray) p w) (hl : SlP w h A l) (hbig : l.length ≤ 9223372036854775807) :
    Calls Try.prog 93 #[.slice A l.length c, .func (.func g) #[] lb] w fun e w' => e = .returned (.bool (l.any p)) ∧ Below w.heap.size w w' := by
  by_cases hn : l = []
  · subst hn
    clear hp hl hbig eg
    go_enter Try.func93, Try.ntmps93
    go_wp2_with fail
    refine (indexMo_empty _ _ _ _).mono ?_
    rintro e w' ⟨rfl, rfl⟩
    go_wp2
    go_ret
    exact ⟨rfl, Below.refl _ _⟩
  · obtain ⟨hh, off, rfl, hc⟩ := hl hn
    have hcon := AnyQ.slices_ContainsFunc Try.containsMo 2 Try.isAgg61 Try.sizeOf61 encP (fun _ => rfl) p g lb eg h off l.length c l w hp (Nat.le_refl _) hbig hh (enc_cells hc)
    rw [List.take_length] at hcon
    exact hcon
set_option maxRecDepth 100000 in
set_option maxHeartbeats 400000 in
theorem covers_pred (a b : Int) (B : Nat) (w : World) (hB : B < w.heap.size) (h0 : w.cell? ⟨B, 0, none⟩ = some (.int .i64 a)) (h1 : w.cell? ⟨B, 1, none⟩ = some (.int .i64 b)) :
    PredBelow Try.prog 94 #[.pointer (some ⟨B, 0, none⟩)] (fun x => .agg (encP x).toArray) (fun x => aheadM x (a, b)) w := fun W x hb => by
  have k0 : W.cell? ⟨B, 0, none⟩ = some (.int .i64 a) := (hb.cell (p := ⟨B, 0, none⟩) hB).trans h0
  have k1 : W.cell? ⟨B, 1, none⟩ = some (.int .i64 b) := (hb.cell (p := ⟨B, 1, none⟩) hB).trans h1
  have hBW : B < W.heap.size := Nat.lt_of_lt_of_le hB hb.size
  have hne : B ≠ W.heap.size := by omega
  show Calls Try.prog 94 #[.agg #[.int .i64 x.1, .int .i64 x.2], .pointer (some ⟨B, 0, none⟩)] W _
  have P := Lib.hid (fun W => ahead_any x.1 x.2 a b W)
  have HB := Lib.hid hb
  clear hb h0 h1
  go_enter Try.func94, Try.ntmps94
  go_wp2_with fail
  refine (P.out _).mono ?_; rintro e w' ⟨rfl, b1⟩
  go_wp2
  go_ret
  have b2 := below_trans (alloc_below W _) b1
  exact ⟨rfl, HB.out.trans (b2.mono HB.out.size)⟩
set_option maxRecDepth 100000 in
set_option maxHeartbeats 400000 in
theorem covers_any (A : Option Addr) (h : Nat) (l : List (Int × Int)) (c : Nat) (a b : Int) (w : World) (hl : SlP w h A l) (hbig : l.length ≤ 9223372036854775807) :
    Calls Try.prog 75 #[.slice A l.length c, .agg #[.int .i64 a, .int .i64 b]] w fun e w' => e = .returned (.bool (l.any fun x => aheadM x (a, b))) ∧ Below w.heap.size w w' := by
  have eg : ∀ args w, (callFunc 94 args).run Try.prog w = .ok (.enter 94 args) w := enters_of Try.func94 (by kernel_rfl) rfl
  have P := Lib.hid (containsMo_any (fun x => aheadM x (a, b)) 94 #[.pointer (some ⟨w.heap.size, 0, none⟩)] eg A h l c (w.alloc (.cells #[.int .i64 a, .int .i64 b] 61)) (covers_pred a b w.heap.size _ (by simp) (by simp) (by simp)) (hl.below (alloc_below w _)) hbig)
  have hb := Lib.hid (alloc_below w (.cells #[.int .i64 a, .int .i64 b] 61))
  generalize (l.any fun x => aheadM x (a, b)) = r at P ⊢
  clear hl eg
  go_enter Try.func75, Try.ntmps75
  go_wp2_with fail
  refine P.out.mono ?_; rintro e w' ⟨rfl, b1⟩
  go_wp2
  go_ret
  exact ⟨rfl, below_trans hb.out b1⟩
end Go.Proofs.Ytodfpdmmbmbinaa
