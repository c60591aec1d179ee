/- Contracts of a disk: Read; of no disk at all. -/
import Derived.Test.YtfmmdnjoichifaaFiO
namespace Go.Proofs.Ytfmmdnjoichifaa
open Go.RowKit Go.Sort

theorem create_nil (w : World) (n : Nm) : Calls Try.prog 11 #[.pointer none, strV n] w fun e w' => e = .returned (.int .i64 6) ∧ Below w.heap.size w w' := by
  have B := Lib.hid (below_trans (al_below w (.cells #[.pointer none] 23)) (al_below _ (.cells #[strV n] 9)))
  go_enter Try.func11, Try.ntmps11
  go_wp2_with fail
  refine (unmade_nil _).mono ?_; rintro e w' ⟨rfl, rfl⟩
  go_wp2
  go_ret
  exact ⟨rfl, B.out⟩
theorem used_nil (w : World) : Calls Try.prog 19 #[.pointer none] w fun e w' => e = .returned (.int .i64 0) ∧ w = w' := by
  go_enter Try.func19, Try.ntmps19
  go_wp2_with fail
  refine (unmade_nil _).mono ?_; rintro e w' ⟨rfl, rfl⟩
  go_wp2
  go_ret
  exact ⟨rfl, rfl⟩
theorem list_nil (w : World) : Calls Try.prog 18 #[.pointer none] w fun e w' => e = .returned (.slice none 0 0) ∧ w = w' := by
  go_enter Try.func18, Try.ntmps18
  go_wp2_with fail
  refine (unmade_nil _).mono ?_; rintro e w' ⟨rfl, rfl⟩
  go_wp2
  go_ret
  exact ⟨rfl, rfl⟩
theorem read_nil (w : World) (n i : Value) : Calls Try.prog 20 #[.pointer none, n, i] w fun e w' => e = .returned (.tuple #[.slice none 0 0, .int .i64 6]) ∧ w = w' := by
  go_enter Try.func20, Try.ntmps20
  go_wp2_with fail
  refine (reach_nil _ _).mono ?_; rintro e w' ⟨rfl, rfl⟩
  go_wp2
  go_ret2
  exact ⟨rfl, rfl⟩
theorem flip_nil (w : World) (n i a t : Value) : Calls Try.prog 43 #[.pointer none, n, i, a, t] w fun e w' => e = .returned (.int .i64 6) ∧ w = w' := by
  go_enter Try.func43, Try.ntmps43
  go_wp2_with fail
  refine (unmade_nil _).mono ?_; rintro e w' ⟨rfl, rfl⟩
  go_wp2
  go_ret
  exact ⟨rfl, rfl⟩
theorem delete_nil (w : World) (n : Nm) : Calls Try.prog 45 #[.pointer none, strV n] w fun e w' => e = .returned (.int .i64 6) ∧ Below w.heap.size w w' := by
  have B := Lib.hid (below_trans (al_below w (.cells #[.pointer none] 23)) (al_below _ (.cells #[strV n] 9)))
  go_enter Try.func45, Try.ntmps45
  go_wp2_with fail
  refine (reach_nil _ _).mono ?_; rintro e w' ⟨rfl, rfl⟩
  go_wp2
  go_ret
  exact ⟨rfl, B.out⟩
theorem sync_nil (w : World) (n : Nm) : Calls Try.prog 12 #[.pointer none, strV n] w fun e w' => e = .returned (.int .i64 6) ∧ Below w.heap.size w w' := by
  have B := Lib.hid (below_trans (al_below w (.cells #[.pointer none] 23)) (al_below _ (.cells #[.pointer none] 86)))
  go_enter Try.func12, Try.ntmps12
  go_wp2_with fail
  refine (reach_nil _ _).mono ?_; rintro e w' ⟨rfl, rfl⟩
  go_wp2
  go_ret
  exact ⟨rfl, B.out⟩
theorem write_nil (w : World) (n : Nm) (i : Int) (A : Option Addr) (l c : Nat) : Calls Try.prog 42 #[.pointer none, strV n, .int .i64 i, .slice A l c] w fun e w' => e = .returned (.int .i64 6) ∧ Below w.heap.size w w' := by
  have B := Lib.hid (below_trans (below_trans (below_trans (al_below w (.cells #[.pointer none] 23)) (al_below _ (.cells #[.int .i64 i] 3))) (al_below _ (.cells #[.slice A l c] 30))) (al_below _ (.cells #[.pointer none] 86)))
  go_enter Try.func42, Try.ntmps42
  go_wp2_with fail
  refine (written_nil _ _ _ _ _).mono ?_; rintro e w' ⟨rfl, rfl⟩
  go_wp2
  go_ret
  exact ⟨rfl, B.out⟩
theorem rename_nil (w : World) (a b : Nm) : Calls Try.prog 16 #[.pointer none, strV a, strV b] w fun e w' => e = .returned (.int .i64 6) ∧ Below w.heap.size w w' := by
  have B := Lib.hid (below_trans (below_trans (below_trans (al_below w (.cells #[.pointer none] 23)) (al_below _ (.cells #[strV a] 9))) (al_below _ (.cells #[strV b] 9))) (al_below _ (.cells #[.pointer none] 86)))
  go_enter Try.func16, Try.ntmps16
  go_wp2_with fail
  refine (unmade_nil _).mono ?_; rintro e w' ⟨rfl, rfl⟩
  go_wp2_with fail
  refine (reach_nil _ _).mono ?_; rintro e w' ⟨rfl, rfl⟩
  go_wp2
  go_ret
  exact ⟨rfl, B.out⟩
section
variable {w : World} {base d m : Nat} {D : Dk}
set_option maxRecDepth 100000 in
theorem cloneBy_any {ad : Addr} {l : List UInt8} {c : Nat} (hr : Reads w w.heap.size 1 (some ad) l.length (Byt l)) (hl : l.length ≤ 1000000) : Calls Try.prog 63 #[.slice (some ad) l.length c] w (Own1 w l) := by
  have q := Lib.run_eql_slice_nil (P := Try.prog) w 30 5 (some ad) l.length c 0 0 Try.underlying30
  have b0 := al_below w (.cells #[] 5)
  have B0 := Lib.hid b0
  have O0 := Lib.hid (show (w.alloc (.cells #[] 5)).ownsRow w.heap.size 5 1 (.slice (some ⟨w.heap.size, 0, none⟩) 0 0) 0 (Byt []) from ⟨rfl, .inr ⟨w.heap.size, 0, #[], rfl, Nat.le_refl _, heap_alloc_new w _, Nat.le_refl _, by decide, by simp, by simp [Byt]⟩⟩)
  have R0 := Lib.hid (hr.alloc (Nat.le_refl _) (.cells #[] 5))
  clear hr b0
  go_enter Try.func63, Try.ntmps63
  go_wp2_with (at_builtin; (refine wpList_appB (xs := []) (ys := l) _ rfl (.tmp 5) (.tmp 6) _ rfl Try.underlying30 info_u8 O0.out R0.out c rfl rfl (by omega) B0.out.size ?_); intro A5 c5 w5 o5 gr5; have O5 := Lib.hid o5; have G5 := Lib.hid gr5; clear o5 gr5)
  go_ret
  have o5 := O5.out
  rw [Nat.zero_add, List.nil_append] at o5
  exact ⟨.slice A5 l.length c5, rfl, o5, B0.out.grown (Grew.by_ G5.out) B0.out.size fun i hi => (World.ownsRow.lt O0.out i hi).1⟩
/-- Two results: an owned row of these bytes, and OK. -/
def ByOK (w : World) (l : List UInt8) (e : Ending) (w' : World) : Prop := ∃ A c, e = .returned (.tuple #[.slice A l.length c, .int .i64 0]) ∧ w'.ownsRow w.heap.size 5 1 (.slice A l.length c) l.length (Byt l) ∧ Below w.heap.size w w'
set_option maxRecDepth 100000 in
theorem read_ok (h : DiskR w base d m D) {f : Fi} (hf : f ∈ D.fs) (ho : D.off = false) (i : Nat) (s : Sec) (hi : f.now[i]? = some s) : Calls Try.prog 20 #[ptD d, strV f.name, .int .i64 (i : Int)] w (ByOK w s.b) := by
  have hil := (List.getElem?_eq_some_iff.1 hi).1
  have P1 := Lib.hid (reach_ok h hf ho)
  have P2 := Lib.hid (has_any h hf (i : Int))
  have hh : hasM f.now (i : Int) = true := by unfold hasM; rw [decide_eq_true_eq]; omega
  rw [hh] at P2
  obtain ⟨nA, nc, kA, kc, -, -, -, f1, -, hnr, -⟩ := h.file hf
  have hsm := (h.small f hf).1
  have hnr' : w.ownsRow base 94 64 (.slice nA f.now.length nc) f.now.length (RowV encSec f.now) := hnr
  obtain ⟨g, cap, hv, -, hgl⟩ := hnr'.form (by omega)
  injection hv with hv1 hv2 hv3
  subst hv1
  subst hv3
  have hrd : Reads w w.heap.size 1 (some ⟨g, i * 64, none⟩) s.b.length (Byt s.b) := by
    refine ⟨by rw [Byt_length, Nat.mul_one], fun _ => ⟨_, rfl, hgl, fun j u hj => ?_⟩⟩
    rw [Addr.add_lit]
    have hj64 : j < 64 := by have := (List.getElem?_eq_some_iff.1 hj).1; rw [Byt_length, s.h] at this; exact this
    rw [hnr'.cellAt (i * 64 + j) (by omega), RowV_get laySec f.now i j s hi hj64]
    exact hj
  have P3 := Lib.hid (cloneBy_any (ad := ⟨g, i * 64, none⟩) (l := s.b) (c := 64) hrd (by rw [s.h]; decide))
  have hsl := s.h
  rw [hsl] at P3
  have F1 := f1
  have i1 : decide ((i : Int) < (f.now.length : Int)) = true := by rw [decide_eq_true_eq]; omega
  have HS := Lib.hid hsl
  clear h hf ho hi hnr hnr' hrd hv2 hgl hh f1 hsl
  go_enter Try.func20, Try.ntmps20
  go_wp2_with fail
  refine P1.out.mono ?_; rintro e w' ⟨rfl, rfl⟩
  go_wp2_with fail
  refine P2.out.mono ?_; rintro e w' ⟨rfl, rfl⟩
  go_wp2_with fail
  refine P3.out.mono ?_; rintro e w' ⟨v, rfl, ho, hb⟩
  have HO := Lib.hid ho
  have HB := Lib.hid hb
  clear ho hb
  obtain ⟨A', c', rfl⟩ := own_form HO.out
  go_wp2
  go_ret2
  exact ⟨A', c', rfl, HO.out, HB.out⟩
end
end Go.Proofs.Ytfmmdnjoichifaa
