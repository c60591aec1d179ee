/- Contracts of package page: Unrow of a row. -/
import Derived.Test.YtfilelgbffbnlaaDoorPgH
namespace Go.Proofs.YtfilelgbffbnlaaDoor
open Go.RowKit

theorem SlB.form {w : World} {h : Nat} {A : Option Addr} {l : List UInt8} (s : SlB w h A l) (hl : l ≠ []) : ∃ off, A = some ⟨h, off, none⟩ ∧ ∀ (j : Nat) (b : UInt8), l[j]? = some b → w.cell? ⟨h, off + j, none⟩ = some (.int .u8 (b.toNat : Int)) := by
  obtain ⟨⟨bk, off, sp⟩, rfl, hb, hc⟩ := s hl
  obtain rfl : bk = h := hb
  obtain rfl : sp = none := by
    match l, hl with
    | b :: _, _ => simpa [Addr.add] using World.cell?_spot (hc 0 b rfl)
  exact ⟨off, rfl, fun j b hj => by rw [← Addr.add_lit]; exact hc j b hj⟩
def mayHoldM : List UInt8 → Bool
  | [] => false
  | x :: r => if x = 1 then decide (r.length = 42) else decide (x = 0)
theorem mayHold_any (A : Option Addr) (h : Nat) (l : List UInt8) (c : Nat) (w : World) (hs : SlB w h A l) (hl : l.length ≤ 100000) :
    Calls Tryd.prog 29 #[.slice A l.length c] w fun e w' => e = .returned (.bool (mayHoldM l)) ∧ w = w' := by
  match l, hs, hl with
  | [], _, _ =>
    go_enter Tryd.func29, Tryd.ntmps29
    go_wp2
    go_ret
    exact ⟨rfl, rfl⟩
  | x :: r, hs, hl =>
    obtain ⟨off, rfl, hc⟩ := hs.form (by simp)
    have q0 := hc 0 x rfl
    rw [Nat.add_zero] at q0
    have d0 : (((x :: r).length : Int) == 0) = false := by rw [beq_eq_false_iff_ne, List.length_cons]; omega
    have hlen : (x :: r).length = r.length + 1 := rfl
    clear hc hs
    by_cases h1 : x = 1
    · have hm : mayHoldM (x :: r) = decide (r.length = 42) := by show (if x = 1 then decide (r.length = 42) else decide (x = 0)) = _; rw [if_pos h1]
      have d1 : ((x.toNat : Int) == 1) = true := by rw [h1]; rfl
      have d2 : ((((x :: r).length : Nat) : Int) == 43) = decide (r.length = 42) := by
        rw [Bool.eq_iff_iff, beq_iff_eq, decide_eq_true_iff, hlen]; omega
      rw [hm]
      clear hlen
      have hpos : 0 < (x :: r).length := by simp
      generalize (x :: r).length = n at *
      clear h1 hm
      generalize decide (r.length = 42) = q at *
      go_enter Tryd.func29, Tryd.ntmps29
      go_wp2
      go_ret
      exact ⟨rfl, rfl⟩
    · have hm : mayHoldM (x :: r) = decide (x = 0) := by show (if x = 1 then decide (r.length = 42) else decide (x = 0)) = _; rw [if_neg h1]
      have d1 : ((x.toNat : Int) == 1) = false := by rw [beq_eq_false_iff_ne]; intro h; exact h1 (UInt8.toNat_inj.1 (by rw [show (1 : UInt8).toNat = 1 from rfl]; omega))
      have d2 : ((x.toNat : Int) == 0) = decide (x = 0) := by
        rw [Bool.eq_iff_iff, beq_iff_eq, decide_eq_true_iff]
        exact ⟨fun h => UInt8.toNat_inj.1 (by rw [show (0 : UInt8).toNat = 0 from rfl]; omega), fun h => by rw [h]; rfl⟩
      rw [hm]
      clear hlen
      have hpos : 0 < (x :: r).length := by simp
      generalize (x :: r).length = n at *
      clear h1 hm
      generalize decide (x = 0) = q at *
      go_enter Tryd.func29, Tryd.ntmps29
      go_wp2
      go_ret
      exact ⟨rfl, rfl⟩
theorem getD_page (t : Nat) (d : List UInt8) (ht : okTag (t : Int) = true) (hd : d.length ≤ 43) : getD (pageM t d) (t : Int) = d := by
  unfold getD
  rw [if_pos (getE_page t d ht hd), pageM_held t d hd]
/-- Get of a page of its tag. -/
theorem pget_page (x : SlT) (t : Nat) (d : List UInt8) (tag : Int) (w : World) (htag : tag = (t : Int)) (ht : okTag (t : Int) = true) (hd : d.length ≤ 43) (hp : PgB w x (pageM t d)) (hh : HalvesAt w) :
    Calls Tryd.prog 10 #[encSl x, .int .i64 tag] w fun e w' => ∃ A c, e = .returned (.tuple #[.slice A d.length c, .int .i64 0]) ∧ NewS w w' A c d ∧ Below w.heap.size w w' := by
  subst htag
  obtain ⟨xa, xn, xc⟩ := x
  obtain ⟨h1, h2⟩ := hp
  simp only at h1
  subst h1
  obtain ⟨g, -, s, -⟩ := SlB.of_own h2
  obtain ⟨q1, q2⟩ := own_cap h2
  have := pget_any xa g (pageM t d) xc (t : Int) w s q1 q2 hh
  unfold GetAns at this
  rw [getE_page t d ht hd, getD_page t d ht hd] at this
  exact this
theorem take_piece (b : List UInt8) (k : Nat) : b.take (42 * (k + 1)) = b.take (42 * k) ++ pieceM b k := by
  unfold pieceM
  rw [Nat.mul_succ, List.take_add]
/-- The first cells of a slice of slices are a row's pages. -/
def RowAt (w : World) (g : Nat) (t : Nat) (b : List UInt8) : Prop := ∀ i, i < lastM b + 1 → ∃ x : SlT, w.cell? ⟨g, i, none⟩ = some (encSl x) ∧ PgB w x (pageM (t + i) (holdM b i)) ∧ g < w.heap.size
theorem RowAt.below {w w' : World} {g t : Nat} {b : List UInt8} (h : RowAt w g t b) (hb : Below w.heap.size w w') : RowAt w' g t b := fun i hi => by
  obtain ⟨x, h1, h2, h3⟩ := h i hi
  exact ⟨x, (World.cell?_of_block (a := ⟨g, i, none⟩) (hb.block g h3)).trans h1, h2.below hb, Nat.lt_of_lt_of_le h3 hb.size⟩
set_option maxRecDepth 100000 in
set_option maxHeartbeats 8000000 in
theorem unrow_ok (g n cc : Nat) (t : Nat) (b : List UInt8) (w : World) (h1 : 1 ≤ t) (h2 : t + lastM b ≤ 4611686018427387903) (hb : b.length ≤ 5000) (hn : lastM b + 1 ≤ n) (hnm : n ≤ 9223372036854775807) (hr : RowAt w g t b) (hh : HalvesAt w) :
    Calls Tryd.prog 16 #[.slice (some ⟨g, 0, none⟩) n cc, .int .i64 (t : Int)] w fun e w' => ∃ A c, e = .returned (.tuple #[.slice A b.length c, .int .i64 ((lastM b + 1 : Nat) : Int), .int .i64 0]) ∧ NewS w w' A c b ∧ Below w.heap.size w w' := by
  have hl : lastM b = (b.length - 1) / 42 := rfl
  have HR := Lib.hid hr
  have HH := Lib.hid hh
  have hpl := fun k => pieceM_length b k
  have hho : ∀ k, holdM b k = (if k = lastM b then 0 else 1) :: pieceM b k := fun k => rfl
  have HHL := Lib.hid (holdM_length b)
  unfold RowAt at HR
  generalize lastM b = la at *
  have HPL := Lib.hid hpl
  have HHO := Lib.hid hho
  have HL := Lib.hid hl
  clear hr hh hpl hho hl
  go_enter Tryd.func16, Tryd.ntmps16
  go_wp2_with fail
  go_loopw [7, 14] (fun v iv wr => ∃ (k : Nat) (A2 : Option Addr) (c2 : Nat), k ≤ la ∧ iv = .int .i64 (k : Int) ∧ v = .slice A2 (b.take (42 * k)).length c2 ∧ wr.ownsRow w.heap.size 5 1 v (b.take (42 * k)).length (Byt (b.take (42 * k))) ∧ Below w.heap.size w wr) (fun _ iv _ => la + 1 - (intOf iv).toNat)
  case atStart => exact ⟨0, none, 0, Nat.zero_le _, rfl, rfl, World.ownsRow_nil _ _ _ _, Below.refl _ _⟩
  case round =>
    obtain ⟨k, A2, c2, hk, rfl, rfl, ho, hbw⟩ := hrel
    have HO := Lib.hid ho
    have HB := Lib.hid hbw
    clear ho hbw
    have d4 : decide ((k : Int) < (n : Int)) = true := by rw [decide_eq_true_eq]; omega
    obtain ⟨⟨xa, xn, xc⟩, q0, hpb, hg⟩ := HR.out k (by omega)
    have q0 := (World.cell?_of_block (a := ⟨g, k, none⟩) (HB.out.block g hg)).trans q0
    have P1 := Lib.hid (pget_page (xa, xn, xc) (t + k) (holdM b k) ((t : Int) + (k : Int)) wr (by omega) ((okTag_iff _).2 ⟨by omega, by omega⟩) (HHL.out k) (hpb.below HB.out) (HH.out.below HB.out HH.out.pos))
    have hlen : (holdM b k).length = (pieceM b k).length + 1 := by rw [HHO.out, List.length_cons]
    have hcons := HHO.out k
    have hpcl := HPL.out k
    have htk := take_piece b k
    have htl : (b.take (42 * k)).length + (pieceM b k).length = (b.take (42 * (k + 1))).length := by rw [htk, List.length_append]
    obtain ⟨pc, hpc⟩ : ∃ pc, pc = pieceM b k := ⟨_, rfl⟩
    obtain ⟨hd, hhe⟩ : ∃ hd, hd = holdM b k := ⟨_, rfl⟩
    obtain ⟨tk, hte⟩ : ∃ tk, tk = b.take (42 * k) := ⟨_, rfl⟩
    rw [← hhe] at P1 hlen hcons
    rw [← hpc] at hlen hcons hpcl htk htl
    rw [← hte] at htk htl HO ⊢
    have HTK := Lib.hid htk
    have HTL := Lib.hid htl
    have HLEN := Lib.hid hlen
    have hpc42 : pc.length ≤ 42 := by omega
    have htk5 : tk.length ≤ 5000 := by rw [hte, List.length_take]; omega
    clear hpb hpc hhe hte htk htl hlen
    by_cases hkl : k = la
    · have hd0 : hd = 0 :: pc := by rw [hcons, if_pos hkl]
      have hmay : mayHoldM hd = true := by
        rw [hd0]
        show (if (0 : UInt8) = 1 then decide (pc.length = 42) else decide ((0 : UInt8) = 0)) = true
        rw [if_neg (by decide)]
        rfl
      have HD0 := Lib.hid hd0
      have HKL := Lib.hid hkl
      clear hd0 hcons hkl hpcl
      go_wp2_with fail
      refine P1.out.mono ?_; rintro e w1 ⟨A3, c3, rfl, n3, b3⟩
      obtain ⟨g3, s3, hg3, q31, q32⟩ := n3
      have B3 := Lib.hid (below_trans HB.out b3)
      have S3 := Lib.hid s3
      have HO3 := Lib.hid (own_below HO.out b3)
      clear b3 s3
      have PM := Lib.hid (mayHold_any A3 g3 hd c3 w1 S3.out (by rw [HLEN.out]; omega))
      rw [hmay] at PM
      rw [HLEN.out] at PM q31 ⊢
      clear hmay
      go_wp2_with fail
      refine PM.out.mono ?_; rintro e w' ⟨rfl, rfl⟩
      obtain ⟨o3, hA3, hc3⟩ := S3.out.form (by rw [HD0.out]; simp)
      have q1 := hc3 0 0 (by rw [HD0.out]; rfl)
      rw [Nat.add_zero, show ((0 : UInt8).toNat : Int) = 0 from rfl] at q1
      have hdr := S3.out.drop (k := 1) (cap := c3) (by rw [HLEN.out]; exact q31)
      rw [HD0.out, List.drop_one, List.tail_cons] at hdr
      subst hA3
      unfold maxLen at q32
      unfold cutA at hdr
      have hb3 := B3.out.size
      have HNE := Lib.hid (show some g3 ≠ (Value.slice A2 tk.length c2).ownBlock from fun e => by have := (World.ownsRow.lt HO.out g3 e.symm).2; omega)
      clear hc3 S3 PM P1 HO
      by_cases hc1 : c3 = 1
      · subst hc1
        rw [if_pos rfl] at hdr
        obtain rfl : pc = [] := List.eq_nil_of_length_eq_zero (by omega)
        have HRD := Lib.hid (hdr.reads (n := 0) rfl)
        clear hdr q31
        go_wp2_with (at_builtin; (refine wpList_appB (ys := []) w1 rfl (.tmp 35) (.tmp 37) _ rfl Tryd.underlying22 info_u8 HO3.out HRD.out 0 rfl rfl (by omega) hb3 ?_); intro A5 c5 w5 o5 gr5; have O5 := Lib.hid o5; have B5 := Lib.hid (show Below w.heap.size w w5 from B3.out.grown (Grew.by_ gr5) hb3 fun i hi => (World.ownsRow.lt HO3.out i hi).1); have q2 := (World.cell?_of_block (a := ⟨g3, o3, none⟩) ((Grew.by_ gr5).block g3 (World.block_lt_of_cell? w1 _ q1) HNE.out)).trans q1; clear o5 gr5)
        go_ret3
        have hbb : tk ++ [] = b := by rw [← HTK.out]; exact List.take_of_length_le (by have := HL.out; have := HKL.out; omega)
        have hll : b.length = tk.length + 0 := by rw [← hbb, List.length_append]; rfl
        have o5 := O5.out
        rw [hbb] at o5
        refine ⟨A5, c5, ?_, ?_, B5.out⟩
        · rw [hll, ← HKL.out]; rfl
        · rw [← hll] at o5; exact NewS.of_own o5
      · rw [if_neg hc1, Option.map_some, Addr.add_lit] at hdr
        have HRD := Lib.hid (hdr.reads (n := pc.length) rfl)
        clear hdr
        go_wp2_with (at_builtin; (refine wpList_appB (ys := pc) w1 rfl (.tmp 35) (.tmp 37) _ rfl Tryd.underlying22 info_u8 HO3.out HRD.out (c3 - 1) rfl rfl (by omega) hb3 ?_); intro A5 c5 w5 o5 gr5; have O5 := Lib.hid o5; have B5 := Lib.hid (show Below w.heap.size w w5 from B3.out.grown (Grew.by_ gr5) hb3 fun i hi => (World.ownsRow.lt HO3.out i hi).1); have q2 := (World.cell?_of_block (a := ⟨g3, o3, none⟩) ((Grew.by_ gr5).block g3 (World.block_lt_of_cell? w1 _ q1) HNE.out)).trans q1; clear o5 gr5)
        go_ret3
        have hbb : tk ++ pc = b := by rw [← HTK.out]; exact List.take_of_length_le (by have := HL.out; have := HKL.out; omega)
        have hll : b.length = tk.length + pc.length := by rw [← hbb, List.length_append]
        have o5 := O5.out
        rw [hbb] at o5
        refine ⟨A5, c5, ?_, ?_, B5.out⟩
        · rw [hll, ← HKL.out]; rfl
        · rw [← hll] at o5; exact NewS.of_own o5
    · have hd0 : hd = 1 :: pc := by rw [hcons, if_neg hkl]
      have hmay : mayHoldM hd = true := by
        rw [hd0]
        show (if (1 : UInt8) = 1 then decide (pc.length = 42) else decide ((1 : UInt8) = 0)) = true
        rw [if_pos (by decide)]
        rw [decide_eq_true_iff]; have := HL.out; omega
      have HD0 := Lib.hid hd0
      have HKL := Lib.hid hkl
      clear hd0 hcons hkl hpcl
      go_wp2_with fail
      refine P1.out.mono ?_; rintro e w1 ⟨A3, c3, rfl, n3, b3⟩
      obtain ⟨g3, s3, hg3, q31, q32⟩ := n3
      have B3 := Lib.hid (below_trans HB.out b3)
      have S3 := Lib.hid s3
      have HO3 := Lib.hid (own_below HO.out b3)
      clear b3 s3
      have PM := Lib.hid (mayHold_any A3 g3 hd c3 w1 S3.out (by rw [HLEN.out]; omega))
      rw [hmay] at PM
      rw [HLEN.out] at PM q31 ⊢
      clear hmay
      go_wp2_with fail
      refine PM.out.mono ?_; rintro e w' ⟨rfl, rfl⟩
      obtain ⟨o3, hA3, hc3⟩ := S3.out.form (by rw [HD0.out]; simp)
      have q1 := hc3 0 1 (by rw [HD0.out]; rfl)
      rw [Nat.add_zero, show ((1 : UInt8).toNat : Int) = 1 from rfl] at q1
      have hdr := S3.out.drop (k := 1) (cap := c3) (by rw [HLEN.out]; exact q31)
      rw [HD0.out, List.drop_one, List.tail_cons] at hdr
      subst hA3
      unfold maxLen at q32
      unfold cutA at hdr
      have hb3 := B3.out.size
      have HNE := Lib.hid (show some g3 ≠ (Value.slice A2 tk.length c2).ownBlock from fun e => by have := (World.ownsRow.lt HO.out g3 e.symm).2; omega)
      clear hc3 S3 PM P1 HO
      by_cases hc1 : c3 = 1
      · subst hc1
        rw [if_pos rfl] at hdr
        obtain rfl : pc = [] := List.eq_nil_of_length_eq_zero (by omega)
        have HRD := Lib.hid (hdr.reads (n := 0) rfl)
        clear hdr q31
        go_wp2_with (at_builtin; (refine wpList_appB (ys := []) w1 rfl (.tmp 35) (.tmp 37) _ rfl Tryd.underlying22 info_u8 HO3.out HRD.out 0 rfl rfl (by omega) hb3 ?_); intro A5 c5 w5 o5 gr5; have O5 := Lib.hid o5; have B5 := Lib.hid (show Below w.heap.size w w5 from B3.out.grown (Grew.by_ gr5) hb3 fun i hi => (World.ownsRow.lt HO3.out i hi).1); have q2 := (World.cell?_of_block (a := ⟨g3, o3, none⟩) ((Grew.by_ gr5).block g3 (World.block_lt_of_cell? w1 _ q1) HNE.out)).trans q1; clear o5 gr5)
        have o5 := O5.out
        rw [← HTK.out] at o5
        have hll : tk.length + 0 = (List.take (42 * (k + 1)) b).length := by rw [HTK.out, List.length_append]; rfl
        rw [hll] at o5
        exact ⟨⟨k + 1, A5, c5, by have := HKL.out; omega, by go_num, by rw [← hll]; rfl, by first | exact o5 | (rw [← hll]; rw [← hll] at o5; exact o5), B5.out⟩, by simp [intOf]; omega⟩
      · rw [if_neg hc1, Option.map_some, Addr.add_lit] at hdr
        have HRD := Lib.hid (hdr.reads (n := pc.length) rfl)
        clear hdr
        go_wp2_with (at_builtin; (refine wpList_appB (ys := pc) w1 rfl (.tmp 35) (.tmp 37) _ rfl Tryd.underlying22 info_u8 HO3.out HRD.out (c3 - 1) rfl rfl (by omega) hb3 ?_); intro A5 c5 w5 o5 gr5; have O5 := Lib.hid o5; have B5 := Lib.hid (show Below w.heap.size w w5 from B3.out.grown (Grew.by_ gr5) hb3 fun i hi => (World.ownsRow.lt HO3.out i hi).1); have q2 := (World.cell?_of_block (a := ⟨g3, o3, none⟩) ((Grew.by_ gr5).block g3 (World.block_lt_of_cell? w1 _ q1) HNE.out)).trans q1; clear o5 gr5)
        have o5 := O5.out
        rw [← HTK.out] at o5
        have hll : tk.length + pc.length = (List.take (42 * (k + 1)) b).length := by rw [HTK.out, List.length_append]
        rw [hll] at o5
        exact ⟨⟨k + 1, A5, c5, by have := HKL.out; omega, by go_num, by rw [← hll], by first | exact o5 | (rw [← hll]; rw [← hll] at o5; exact o5), B5.out⟩, by simp [intOf]; omega⟩
end Go.Proofs.YtfilelgbffbnlaaDoor
