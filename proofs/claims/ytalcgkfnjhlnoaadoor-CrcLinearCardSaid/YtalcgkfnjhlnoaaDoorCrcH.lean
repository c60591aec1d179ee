/- Contracts of package crc: the register behind any number of bytes of 0; Zeros and Join. -/
import Derived.Test.YtalcgkfnjhlnoaaDoorCrcG
namespace Go.Proofs.YtalcgkfnjhlnoaaDoor
open Go.RowKit

/-- So many bytes of 0. -/
def zit : Nat → Nat → Nat
  | 0, r => r
  | m + 1, r => zeroM (zit m r)
theorem zit_lin : ∀ m, Lin (zit m)
  | 0 => ⟨fun _ _ => rfl, fun _ h => h⟩
  | m + 1 => ⟨fun a b => by show zeroM (zit m (a ^^^ b)) = _; rw [(zit_lin m).add, zeroM_lin.add]; rfl, fun a h => zeroM_lin.lt _ ((zit_lin m).lt a h)⟩
theorem zit_add (m n r : Nat) : zit (m + n) r = zit m (zit n r) := by
  induction m with
  | zero => rw [Nat.zero_add]; rfl
  | succ m ih => rw [Nat.succ_add]; show zeroM (zit (m + n) r) = zeroM (zit m (zit n r)); rw [ih]
theorem zit_mul (m n r : Nat) : zit (m * (n + 1)) r = zit (m * n) (zit m r) := by rw [Nat.mul_succ, zit_add]
theorem effA_twice (m : Nat) : effA (fun n => zit m (zit m n)) = effA (zit (m + m)) := by
  congr 1
  funext n
  rw [zit_add]
theorem i64_and_one (a : Nat) (ha : a ≤ 9223372036854775807) : bits .and .i64 (a : Int) 1 = ((a % 2 : Nat) : Int) := by
  have h1 : (BitVec.ofInt 64 (a : Int)).toNat = a := by
    rw [BitVec.ofInt_natCast, BitVec.toNat_ofNat]; exact Nat.mod_eq_of_lt (by omega)
  have h2 : (BitVec.ofInt 64 (1 : Int)).toNat = 1 := by decide
  show IntKind.i64.wrap ((BitVec.ofInt 64 (a : Int) &&& BitVec.ofInt 64 (1 : Int)).toNat : Int) = _
  rw [BitVec.toNat_and, h1, h2, show a &&& 1 = a % 2 from Nat.and_two_pow_sub_one_eq_mod a 1]
  rcases Nat.mod_two_eq_zero_or_one a with h | h <;> rw [h] <;> decide
theorem behind_twice (m : Nat) (w : World) : Calls Tryd.prog 26 #[.agg (effA (zit m))] w fun e w' => e = .returned (.agg (effA (zit (m + m)))) ∧ Below w.heap.size w w' := by
  have h := twice_any (zit m) w (zit_lin m)
  rw [effA_twice] at h
  exact h
theorem zit_odd (m nn rr : Nat) (h : nn % 2 = 1) : zit ((m + m) * (nn / 2)) (zit m rr) = zit (m * nn) rr := by
  obtain ⟨q, rfl⟩ : ∃ q, nn = 2 * q + 1 := ⟨nn / 2, by omega⟩
  rw [zit_mul, show (2 * q + 1) / 2 = q by omega, ← Nat.two_mul, Nat.mul_comm 2 m, Nat.mul_assoc]
theorem zit_even (m nn rr : Nat) (h : nn % 2 = 0) : zit ((m + m) * (nn / 2)) rr = zit (m * nn) rr := by
  obtain ⟨q, rfl⟩ : ∃ q, nn = 2 * q := ⟨nn / 2, by omega⟩
  rw [show (2 * q) / 2 = q by omega, ← Nat.two_mul, Nat.mul_comm 2 m, Nat.mul_assoc]
theorem effA_all (T : Nat → Nat) : (effA T).all (·.oneCell') = true := by simp [effA, Value.oneCell']
/-- Where the register is, with so many bytes of 0 to come: 'm' times 'nn' of them. -/
structure Bh (w0 : World) (r0 n0 : Nat) (R N D : Value) (w : World) : Prop where
  out : ∃ rr nn m g, R = .int .u32 ((rr : Nat) : Int) ∧ N = .int .i64 ((nn : Nat) : Int) ∧ D = .pointer (some ⟨g, 0, none⟩) ∧ rr < 4294967296 ∧ nn ≤ n0 ∧ zit (m * nn) rr = zit n0 r0 ∧ Blk w g 47 (effA (zit m)) ∧ w0.heap.size ≤ g ∧ Below w0.heap.size w0 w
set_option maxRecDepth 100000 in
set_option maxHeartbeats 1000000 in
theorem behind_nat (r n : Nat) (w : World) (hr : r < 4294967296) (hn : n ≤ 9223372036854775807) (hh : HalvesAt w) :
    Calls Tryd.prog 23 #[.int .u32 (r : Int), .int .i64 (n : Int)] w fun e w' => e = .returned (.int .u32 (zit n r : Int)) ∧ Below w.heap.size w w' := by
  have P := Lib.hid (oneZero_any w hh)
  have HI := Lib.hid (fun T => (show (Tryd.prog.info? 47).map (·.size) = some (effA T).size by rw [effA_size]; kernel_rfl))
  have HA := Lib.hid (fun S T => (show (effA S).size = (effA T).size by rw [effA_size, effA_size]))
  have HK := Lib.hid (fun T => (show (effK zeroM 0).size = (effA T).size by rw [effK_size, effA_size]))
  clear hh
  go_enter Tryd.func23, Tryd.ntmps23
  go_wp2_with fail
  refine P.out.mono ?_; rintro e w1 ⟨rfl, b1⟩
  have B1 := Lib.hid b1
  clear b1
  go_wp2_with (first | (refine wpList_store_row rfl 47 _ _ rfl w1.heap.size (effA zeroM) rfl rfl 47 (effK zeroM 0) (Blk.new w1 _ (effK zeroM 0)) (HI.out _) (HK.out _) (effA_all _) ?_))
  simp only [Act.put]
  go_loopw [0, 1, 5] (fun R N D wr => Bh w r n R N D wr) (fun _ N _ _ => (intOf N).toNat)
  case atStart =>
    refine ⟨r, n, 1, w1.heap.size, rfl, rfl, rfl, hr, Nat.le_refl _, by rw [Nat.one_mul], setRow_heap _ _ (effK zeroM 0) _ _ _ (Blk.new w1 _ (effK zeroM 0)), B1.out.size, below_setRow (B1.out.alloc B1.out.size _) B1.out.size _⟩
  case round =>
    obtain ⟨rr, nn, m, g, rfl, rfl, rfl, hrr, hnn, hz, hb, hg, hk⟩ := hrel
    have HB := Lib.hid hb
    have KP := Lib.hid hk
    have HZ := Lib.hid hz
    clear hb hk hz
    by_cases hpos : 0 < nn
    · have d1 : decide ((0 : Int) < (nn : Int)) = true := by simp; omega
      have e1 : bits .and .i64 (nn : Int) 1 = ((nn % 2 : Nat) : Int) := by
        exact i64_and_one nn (by omega)
      have PT := Lib.hid (fun W => to_any (zit m) rr W hrr (zit_lin m))
      have PW := Lib.hid (fun W => behind_twice m W)
      by_cases hodd : nn % 2 = 1
      · rw [hodd] at e1
        have hlt := (zit_lin m).lt rr hrr
        go_wp2_with (first | (refine wpList_load_row rfl 47 _ rfl g rfl 47 (effA (zit m)) (0, 0) _ HB.out Tryd.underlying47 rfl (HI.out _) ?_))
        refine (PT.out _).mono ?_; rintro e w2 ⟨rfl, b2⟩
        have HB2 := Lib.hid (HB.out.below b2 HB.out.lt)
        have KP2 := Lib.hid (below_trans KP.out b2)
        clear b2
        go_wp2_with (first | (refine wpList_load_row rfl 47 _ rfl g rfl 47 (effA (zit m)) (0, 0) _ HB2.out Tryd.underlying47 rfl (HI.out _) ?_))
        refine (PW.out _).mono ?_; rintro e w3 ⟨rfl, b3⟩
        have HB3 := Lib.hid (HB2.out.below b3 HB2.out.lt)
        have KP3 := Lib.hid (below_trans KP2.out b3)
        have HS := Lib.hid (setRow_heap _ _ _ (effA (zit (m + m))) _ _ HB3.out)
        have NB := Lib.hid (show ((w3.setRow g (effA (zit (m + m)))).alloc (.cells (effK zeroM 0) 47)).heap[w3.heap.size]? = some (.cells (effK zeroM 0) 47 (0, 0)) from by
          have := Blk.new (w3.setRow g (effA (zit (m + m)))) 47 (effK zeroM 0)
          rw [size_setRow] at this
          exact this)
        clear b3
        go_wp2_with (first | (refine wpList_store_row rfl 47 _ _ rfl g (effA (zit (m + m))) rfl rfl 47 _ HB3.out (HI.out _) (HA.out _ _) (effA_all _) ?_) | (refine wpList_load_row rfl 47 _ rfl g rfl 47 (effA (zit (m + m))) (0, 0) _ HS.out Tryd.underlying47 rfl (HI.out _) ?_) | (refine wpList_store_row rfl 47 _ _ rfl w3.heap.size (effA (zit (m + m))) rfl rfl 47 (effK zeroM 0) NB.out (HI.out _) (HK.out _) (effA_all _) ?_))
        have hsz : (w3.setRow g (effA (zit (m + m)))).heap.size = w3.heap.size := size_setRow _ _ _
        have hk3 := KP3.out.size
        refine ⟨⟨zit m rr, nn / 2, m + m, w3.heap.size, rfl, by go_num, rfl, hlt, by omega, (zit_odd m nn rr hodd).trans HZ.out, setRow_heap _ _ _ _ _ _ NB.out, hk3, below_setRow ((below_setRow KP3.out hg _).alloc (by rw [hsz]; exact hk3) _) hk3 _⟩, ?_⟩
        simp [intOf]
        omega
      · have h0 : nn % 2 = 0 := by omega
        rw [h0] at e1
        clear hodd
        go_wp2_with (first | (refine wpList_load_row rfl 47 _ rfl g rfl 47 (effA (zit m)) (0, 0) _ HB.out Tryd.underlying47 rfl (HI.out _) ?_))
        have HB2 := HB
        have KP2 := KP
        refine (PW.out _).mono ?_; rintro e w3 ⟨rfl, b3⟩
        have HB3 := Lib.hid (HB2.out.below b3 HB2.out.lt)
        have KP3 := Lib.hid (below_trans KP2.out b3)
        have HS := Lib.hid (setRow_heap _ _ _ (effA (zit (m + m))) _ _ HB3.out)
        have NB := Lib.hid (show ((w3.setRow g (effA (zit (m + m)))).alloc (.cells (effK zeroM 0) 47)).heap[w3.heap.size]? = some (.cells (effK zeroM 0) 47 (0, 0)) from by
          have := Blk.new (w3.setRow g (effA (zit (m + m)))) 47 (effK zeroM 0)
          rw [size_setRow] at this
          exact this)
        clear b3
        go_wp2_with (first | (refine wpList_store_row rfl 47 _ _ rfl g (effA (zit (m + m))) rfl rfl 47 _ HB3.out (HI.out _) (HA.out _ _) (effA_all _) ?_) | (refine wpList_load_row rfl 47 _ rfl g rfl 47 (effA (zit (m + m))) (0, 0) _ HS.out Tryd.underlying47 rfl (HI.out _) ?_) | (refine wpList_store_row rfl 47 _ _ rfl w3.heap.size (effA (zit (m + m))) rfl rfl 47 (effK zeroM 0) NB.out (HI.out _) (HK.out _) (effA_all _) ?_))
        have hsz : (w3.setRow g (effA (zit (m + m)))).heap.size = w3.heap.size := size_setRow _ _ _
        have hk3 := KP3.out.size
        refine ⟨⟨rr, nn / 2, m + m, w3.heap.size, rfl, by go_num, rfl, hrr, by omega, (zit_even m nn rr h0).trans HZ.out, setRow_heap _ _ _ _ _ _ NB.out, hk3, below_setRow ((below_setRow KP3.out hg _).alloc (by rw [hsz]; exact hk3) _) hk3 _⟩, ?_⟩
        simp [intOf]
        omega
    · obtain rfl : nn = 0 := by omega
      go_wp2
      go_ret
      have e : zit n r = rr := HZ.out.symm
      rw [e]
      exact ⟨rfl, KP.out⟩
end Go.Proofs.YtalcgkfnjhlnoaaDoor
