/- What must come of every program lives (page). -/
import Derived.Test.YtfilelgbffbnlaaDoorPgI
namespace Go.Proofs.YtfilelgbffbnlaaDoor
open Go.RowKit

/-- Bytes that were just built. -/
theorem new_slb (w : World) (t : TypeId) (l : List UInt8) (fr : Nat × Nat) : SlB (w.alloc (.cells (Byt l).toArray t fr)) w.heap.size (some ⟨w.heap.size, 0, none⟩) l := fun _ =>
  ⟨_, rfl, rfl, fun j b hj => by
    have h := cell_of_row (w.alloc (.cells (Byt l).toArray t fr)) w.heap.size j (Byt l).toArray t fr (heap_alloc_new w _)
    have e : (⟨w.heap.size, 0, none⟩ : Addr).add j = ⟨w.heap.size, j, none⟩ := by unfold Addr.add; split <;> simp_all
    rw [e, h, List.getElem?_toArray]
    unfold Byt
    rw [List.getElem?_map, hj]
    rfl⟩
theorem alloc_freeze (w : World) (cs : Array Value) (t : TypeId) (n : Nat) : (w.alloc (.cells cs t)).freeze ⟨w.heap.size, n, none⟩ 1 = w.alloc (.cells cs t (n, n + 1)) := by
  unfold World.freeze
  rw [if_neg Nat.one_ne_zero]
  simp only [World.alloc]
  congr 1
  apply Array.ext_getElem?
  intro i
  rw [Array.getElem?_modify]
  by_cases h : w.heap.size = i
  · subst h
    simp
  · have h' : ¬ i = w.heap.size := fun e => h e.symm
    simp [h, h', Array.getElem?_push]
/-- A literal's bytes, as a slice of bytes: the cell behind them is marked. -/
theorem conv_lit (w : World) (cs : Array Value) (n c m : Nat) (hm : cs.size = m) : (convert 22 22 (.slice (some ⟨w.heap.size, 0, none⟩) n c)).run Tryd.prog (w.alloc (.cells cs 5)) = .ok (.slice (some ⟨w.heap.size, 0, none⟩) n c) (w.alloc (.cells cs 5 (m, m + 1))) := by
  have hs : (w.alloc (.cells cs 5)).shape? w.heap.size = some (5, m) := by
    unfold World.shape?
    rw [heap_alloc_new]
    simp [hm]
  have hf := alloc_freeze w cs 5 m
  simp [convert, run_underlying Tryd.underlying22, run_underlying Tryd.underlying5, markStringish, hs, hf, go_sem]
theorem Pgs.rowAt {w : World} {base g n c t : Nat} {b : List UInt8} (h : Pgs w base (.slice (some ⟨g, 0, none⟩) n c) (rowM t b)) (hn : n = lastM b + 1) : RowAt w g t b := fun i hi => by
  obtain ⟨xs, hl, ho, hp⟩ := h
  rw [rowM_length] at hl ho
  subst hn
  have hx : xs[i]? = some (xs[i]'(by omega)) := List.getElem?_eq_getElem (by omega)
  refine ⟨xs[i]'(by omega), own_cell ho (by rw [List.getElem?_map, hx]; rfl), hp i _ _ hx (rowM_get t b i hi), (World.ownsRow.lt ho g rfl).2⟩
theorem Pgs.form {w : World} {base : Nat} {v : Value} {t : Nat} {b : List UInt8} (h : Pgs w base v (rowM t b)) : ∃ g c, v = .slice (some ⟨g, 0, none⟩) (lastM b + 1) c := by
  obtain ⟨xs, hl, ho, -⟩ := h
  rw [rowM_length] at ho
  exact ownsRow_succ ho
/-- Put of what may be: a slice that is a page. -/
theorem pput_pg (n : Int) (A : Option Addr) (h : Nat) (l : List UInt8) (c : Nat) (w : World) (ht : okTag n = true) (hs : SlB w h A l) (hl : l.length ≤ 43) (hlc : l.length ≤ c) (hc : c ≤ maxLen) (hh : HalvesAt w) :
    Calls Tryd.prog 8 #[.int .i64 n, .slice A l.length c] w fun e w' => ∃ A' c', e = .returned (.tuple #[.slice A' 64 c', .int .i64 0]) ∧ PgB w' (A', 64, c') (pageM n.toNat l) ∧ Below w.heap.size w w' :=
  (pput_ok n A h l c w ht hs hl hlc hc hh).mono fun e w' ⟨v, he, ho, hb⟩ => by
    obtain ⟨A', c', rfl⟩ := own_form ho
    have hl64 := pageM_length n.toNat l hl
    refine ⟨A', c', by rw [he, hl64], ⟨hl64.symm, ?_⟩, hb⟩
    have := own_mono ho (Nat.zero_le _)
    rw [hl64] at this ⊢
    exact this
theorem PgB.slb {w : World} {A : Option Addr} {n c : Nat} {l : List UInt8} (h : PgB w (A, n, c) l) : n = l.length ∧ ∃ g, SlB w g A l ∧ l.length ≤ c ∧ c ≤ maxLen := by
  obtain ⟨h1, h2⟩ := h
  simp only at h1
  subst h1
  obtain ⟨g, -, s, -⟩ := SlB.of_own h2
  exact ⟨rfl, g, s, own_cap h2⟩
def zs43 : List UInt8 := List.replicate 43 0
theorem zs43_length : zs43.length = 43 := List.length_replicate ..
theorem zs43_last : lastM zs43 = 1 := by unfold lastM; rw [zs43_length]
theorem zs43_rowE : rowE 5 zs43 = 0 := by unfold rowE; rw [zs43_last, zs43_length]; decide
set_option maxRecDepth 100000 in
set_option maxHeartbeats 4000000 in
theorem lives_any (w : World) (hh : HalvesAt w) : Calls Tryd.prog 7 #[] w fun e w' => e = .returned (.bool true) ∧ Below w.heap.size w w' := by
  have k1 := conv_lit w #[.int .u8 97, .int .u8 98] 2 2 2 rfl
  have s1 : SlB (w.alloc (.cells #[.int .u8 97, .int .u8 98] 5 (2, 3))) w.heap.size (some ⟨w.heap.size, 0, none⟩) [97, 98] := new_slb w 5 [97, 98] (2, 3)
  have B0 := Lib.hid (alloc_below w (.cells #[.int .u8 97, .int .u8 98] 5 (2, 3)))
  have HH := Lib.hid hh
  have P1 := Lib.hid (pput_pg 7 _ _ [97, 98] 2 _ (by decide) s1 (by decide) (by decide) (by decide) (hh.below B0.out hh.pos))
  have hmk := fun W => run_make_row' (P := Tryd.prog) 22 5 (.int .u8 0) 1 Tryd.underlying22 info_u8 rfl .i64 .i64 43 (by omega) (by omega) W
  rw [made_byt] at hmk
  simp only [show ((43 : Nat) : Int) = 43 from rfl] at hmk
  have HMK := Lib.hid hmk
  rw [show (7 : Int).toNat = 7 from rfl] at P1
  have HP1 := Lib.hid (getE_page 7 [97, 98] (by decide) (by decide))
  have HP2 := Lib.hid (getE_other 7 [97, 98] (by decide) 8 (by decide))
  have HP3 := Lib.hid (pageM_tagOk 7 [97, 98] (by decide) (by decide))
  have HP4 := Lib.hid (pageM_tagV 7 [97, 98] (by decide))
  have HP5 := Lib.hid (getD_page 7 [97, 98] (by decide) (by decide))
  generalize pageM 7 [97, 98] = pg at P1 HP1 HP2 HP3 HP4 HP5
  clear s1 hh hmk
  go_enter Tryd.func7, Tryd.ntmps7
  go_wp2_with fail
  refine P1.out.mono ?_; rintro e w1 ⟨A1, c1, rfl, p1, b1⟩
  obtain ⟨hn1, g1, s1, q11, q12⟩ := p1.slb
  have B1 := Lib.hid (below_trans B0.out b1)
  have S1 := Lib.hid s1
  have P2 := Lib.hid (pget_any A1 g1 pg c1 7 w1 s1 q11 q12 (HH.out.below B1.out HH.out.pos))
  unfold GetAns at P2
  rw [show ((7 : Nat) : Int) = 7 from rfl] at HP1 HP5
  rw [HP5.out, HP1.out, ← hn1] at P2
  have HN1 := Lib.hid hn1
  have Q11 := Lib.hid q11
  have Q12 := Lib.hid q12
  clear k1 p1 b1 s1 hn1 q11 q12
  go_wp2_with fail
  refine P2.out.mono ?_; rintro e w2 ⟨A2, c2, rfl, n2, b2⟩
  obtain ⟨g2, s2, -, -, -⟩ := n2
  have B2 := Lib.hid (below_trans B1.out b2)
  have S2 := Lib.hid s2
  have S12 := S1.out.below b2 fun h => h
  have P3 := Lib.hid (pget_any A1 g1 pg c1 8 w2 S12 Q11.out Q12.out (HH.out.below B2.out HH.out.pos))
  unfold GetAns at P3
  rw [HP2.out, ← HN1.out] at P3
  have S12 := Lib.hid S12
  clear s2 b2 P2
  go_wp2_with fail
  refine P3.out.mono ?_; rintro e w3 ⟨A3, c3, rfl, -, b3⟩
  have B3 := Lib.hid (below_trans B2.out b3)
  have S2 := Lib.hid (S2.out.below b3 fun h => h)
  have P4 := Lib.hid (ptag_any A1 g1 pg c1 w3 (S12.out.below b3 fun h => h) Q11.out Q12.out)
  unfold TagAns tagT at P4
  rw [HP3.out, if_pos rfl, HP4.out, ← HN1.out] at P4
  clear b3 P3
  generalize (getD pg 8).length = l3
  go_wp2_with fail
  refine P4.out.mono ?_; rintro e w4 ⟨rfl, b4⟩
  have B4 := Lib.hid (below_trans B3.out b4)
  have S2 := Lib.hid (S2.out.below b4 fun h => h)
  have hmk := HMK.out w4
  have HZ := new_slb w4 5 zs43 (0, 0)
  have b5 := alloc_below w4 (.cells (Byt zs43).toArray 5)
  have B5 := Lib.hid (below_trans B4.out b5)
  have S2 := Lib.hid (S2.out.below b5 fun h => h)
  have P5 := Lib.hid (rowE_ok 5 _ _ zs43 43 _ HZ (by rw [zs43_length]; exact Nat.le_refl _) (by decide) (HH.out.below B5.out HH.out.pos) (by rw [zs43_length]; decide) zs43_rowE)
  rw [zs43_length] at P5
  rw [show List.replicate 43 (0 : UInt8) = zs43 from rfl] at hmk
  unfold RowOK at P5
  generalize hw5 : w4.alloc (.cells (Byt zs43).toArray 5) = w5 at hmk P5 b5 B5 S2
  clear b4 b5 HZ P4
  go_wp2_with fail
  refine P5.out.mono ?_; rintro e w6 ⟨v6, rfl, p6, b6⟩
  obtain ⟨g6, c6, rfl⟩ := p6.form
  have hra := p6.rowAt rfl
  rw [zs43_last]
  have B6 := Lib.hid (below_trans B5.out b6)
  have S2 := Lib.hid (S2.out.below b6 fun h => h)
  have P6 := Lib.hid (unrow_ok g6 2 c6 5 zs43 w6 (by decide) (by rw [zs43_last]; decide) (by rw [zs43_length]; decide) (by rw [zs43_last]; decide) (by decide) hra (HH.out.below B6.out HH.out.pos))
  rw [zs43_length, zs43_last] at P6
  clear hra p6 b6 P5 hmk
  go_wp2_with fail
  refine P6.out.mono ?_; rintro e w7 ⟨A7, c7, rfl, -, b7⟩
  have B7 := Lib.hid (below_trans B6.out b7)
  have S2 := Lib.hid (S2.out.below b7 fun h => h)
  have P7 := Lib.hid (pput_arg 0 none [] 0 w7 (by decide))
  clear b7 P6
  go_wp2_with fail
  refine P7.out.mono ?_; rintro e w8 ⟨rfl, b8⟩
  have B8 := Lib.hid (below_trans B7.out b8)
  have v2 := conv_later (S2.out.below b8 fun h => h) c2 (n := 2) rfl w8 (RB.refl _)
  clear b8 P7
  go_wp2
  go_ret
  exact ⟨rfl, B8.out⟩
end Go.Proofs.YtfilelgbffbnlaaDoor
