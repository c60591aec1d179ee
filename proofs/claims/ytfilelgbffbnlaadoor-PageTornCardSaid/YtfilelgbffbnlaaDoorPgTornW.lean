/- The walk of the law PageTorn. -/
import Derived.Test.YtfilelgbffbnlaaDoorPgJ
import Derived.Test.YtfilelgbffbnlaaDoorOp
namespace Go.Proofs.YtfilelgbffbnlaaDoor
open Go.RowKit

/-- Anything goes: of regions whose batches read no memory. -/
def RT (_ _ : World) : Prop := True
theorem batchT {P : Program} {ops : Array Oper} {Q : Exit → Act → World → Prop} {md : Region.Mode} {w : World} (is : List Nat) {fuel N : Nat} {listed : Array Bool} {a : Act} (hN : N = fuel + is.length) (hs : Region.noSelect ops = true) (ht : takeable md ops is listed = true)
    (hQ : ∀ c a d v w, Q (.panic c) (Act.put a d v) w → Q (.panic c) a w) (h : WQ P ops (RT w) (fun a' => wpAnyR P md ops Q RT fuel (listAll is listed) a' w) is a) : wpAnyR P md ops Q RT N listed a w := by
  subst hN
  exact wpAnyR_batch (fun _ => trivial) (fun _ _ _ _ _ => trivial) hs hQ is fuel listed a ht h.out
/-- An append that comes up alone. -/
theorem wp_appB {P : Program} (w : World) {o : Oper} {a : Act} {K : Act → World → Prop} {Q : Exit → Act → World → Prop} (s x : Operand) (t : TypeId)
    (ho : o.op = .call { callee := .builtin .append, args := #[s, x], argTypes := #[t, t] })
    {e : TypeId} (ht : P.underlying t = some (.slice e)) (hinfo : (P.info? e).map (fun i => (i.zero, i.size, i.bytes)) = some (some (.int .u8 0), 1, 1))
    {base : Nat} {v : Value} {xs ys : List UInt8} {n : Nat} (hown : w.ownsRow base e 1 v n (Byt xs)) {B : Nat} {A : Option Addr} {m : Nat} (hr : Reads w B 1 A m (Byt ys)) (c : Nat)
    (hs : a.eval s = v) (hx : a.eval x = .slice A m c) (hle : n + m ≤ 140737488355328) (hbase : base ≤ w.heap.size)
    (h : ∀ A' c' w', w'.ownsRow base e 1 (.slice A' (n + m) c') (n + m) (Byt (xs ++ ys)) → Grew w w' v (.slice A' (n + m) c') → K (a.put o.dst (.slice A' (n + m) c')) w') : o.wp P a w K Q := by
  obtain ⟨i0, hi0, hz0, hz1, hz2⟩ := info_parts hinfo
  refine wp_append_any w s x t ho base e i0 _ 1 1 ht hi0 hz0 hz1 hz2 rfl (by omega) v n (Byt xs) hs hown B A m c (Byt ys) hx hr (Byt_one ys) (by unfold maxLen; omega) (by omega) hbase ?_
  intro v' w' h1 h2
  obtain ⟨A', c', rfl⟩ := own_form h1
  refine h A' c' w' ?_ h2
  rw [Byt_append]
  exact h1
set_option maxHeartbeats 1000000 in
theorem torn_off0 (o : Int) (A1 : Option Addr) (g1 : Nat) (a : List UInt8) (c1 : Nat) (t : Int) (A3 : Option Addr) (g3 : Nat) (b : List UInt8) (c3 : Nat) (n : Int) (w : World) (ha : InB w A1 g1 a c1) (hb : InB w A3 g3 b c3) (hh : HalvesAt w) (h0 : 43 < a.length) :
    Calls Tryd.prog 5 #[.int .i64 o, .slice A1 a.length c1, .int .i64 t, .slice A3 b.length c3, .int .i64 n] w (LawPost w) := by
  have hla : a.length ≤ 9223372036854775807 := Nat.le_trans ha.2.1 ha.2.2
  have hlb : b.length ≤ 9223372036854775807 := Nat.le_trans hb.2.1 hb.2.2
  have HH := Lib.hid hh
  clear ha hb hh
  have d0 : decide ((43 : Int) < (a.length : Int)) = true := by rw [decide_eq_true_eq]; omega
  go_enter Tryd.func5, Tryd.ntmps5
  go_wp2_with fail
  refine (lives_any _ HH.out).mono ?_; rintro e w1 ⟨rfl, b1⟩
  go_wp2
  go_ret
  exact ⟨rfl, b1⟩
set_option maxHeartbeats 1000000 in
theorem torn_off1 (o : Int) (A1 : Option Addr) (g1 : Nat) (a : List UInt8) (c1 : Nat) (t : Int) (A3 : Option Addr) (g3 : Nat) (b : List UInt8) (c3 : Nat) (n : Int) (w : World) (ha : InB w A1 g1 a c1) (hb : InB w A3 g3 b c3) (hh : HalvesAt w) (h0 : ¬ 43 < a.length) (h1 : 43 < b.length) :
    Calls Tryd.prog 5 #[.int .i64 o, .slice A1 a.length c1, .int .i64 t, .slice A3 b.length c3, .int .i64 n] w (LawPost w) := by
  have hla : a.length ≤ 9223372036854775807 := Nat.le_trans ha.2.1 ha.2.2
  have hlb : b.length ≤ 9223372036854775807 := Nat.le_trans hb.2.1 hb.2.2
  have HH := Lib.hid hh
  clear ha hb hh
  have d0 : decide ((43 : Int) < (a.length : Int)) = false := by rw [decide_eq_false_iff_not]; omega
  have d1 : decide ((43 : Int) < (b.length : Int)) = true := by rw [decide_eq_true_eq]; omega
  go_enter Tryd.func5, Tryd.ntmps5
  go_wp2_with fail
  refine (lives_any _ HH.out).mono ?_; rintro e w1 ⟨rfl, b1⟩
  go_wp2
  go_ret
  exact ⟨rfl, b1⟩
set_option maxHeartbeats 1000000 in
theorem torn_off2 (o : Int) (A1 : Option Addr) (g1 : Nat) (a : List UInt8) (c1 : Nat) (t : Int) (A3 : Option Addr) (g3 : Nat) (b : List UInt8) (c3 : Nat) (n : Int) (w : World) (ha : InB w A1 g1 a c1) (hb : InB w A3 g3 b c3) (hh : HalvesAt w) (h0 : ¬ 43 < a.length) (h1 : ¬ 43 < b.length) (h2 : okTag o = false) :
    Calls Tryd.prog 5 #[.int .i64 o, .slice A1 a.length c1, .int .i64 t, .slice A3 b.length c3, .int .i64 n] w (LawPost w) := by
  have hla : a.length ≤ 9223372036854775807 := Nat.le_trans ha.2.1 ha.2.2
  have hlb : b.length ≤ 9223372036854775807 := Nat.le_trans hb.2.1 hb.2.2
  have HH := Lib.hid hh
  clear ha hb hh
  have d0 : decide ((43 : Int) < (a.length : Int)) = false := by rw [decide_eq_false_iff_not]; omega
  have d1 : decide ((43 : Int) < (b.length : Int)) = false := by rw [decide_eq_false_iff_not]; omega
  go_enter Tryd.func5, Tryd.ntmps5
  go_wp2_with fail
  refine (rmay_any o w).mono ?_; rintro e w' ⟨rfl, rfl⟩
  rw [h2]
  go_wp2_with fail
  refine (lives_any _ HH.out).mono ?_; rintro e w1 ⟨rfl, b1⟩
  go_wp2
  go_ret
  exact ⟨rfl, b1⟩
set_option maxHeartbeats 1000000 in
theorem torn_off3 (o : Int) (A1 : Option Addr) (g1 : Nat) (a : List UInt8) (c1 : Nat) (t : Int) (A3 : Option Addr) (g3 : Nat) (b : List UInt8) (c3 : Nat) (n : Int) (w : World) (ha : InB w A1 g1 a c1) (hb : InB w A3 g3 b c3) (hh : HalvesAt w) (h0 : ¬ 43 < a.length) (h1 : ¬ 43 < b.length) (h2 : okTag o = true) (h3 : okTag t = false) :
    Calls Tryd.prog 5 #[.int .i64 o, .slice A1 a.length c1, .int .i64 t, .slice A3 b.length c3, .int .i64 n] w (LawPost w) := by
  have hla : a.length ≤ 9223372036854775807 := Nat.le_trans ha.2.1 ha.2.2
  have hlb : b.length ≤ 9223372036854775807 := Nat.le_trans hb.2.1 hb.2.2
  have HH := Lib.hid hh
  clear ha hb hh
  have d0 : decide ((43 : Int) < (a.length : Int)) = false := by rw [decide_eq_false_iff_not]; omega
  have d1 : decide ((43 : Int) < (b.length : Int)) = false := by rw [decide_eq_false_iff_not]; omega
  go_enter Tryd.func5, Tryd.ntmps5
  go_wp2_with fail
  refine (rmay_any o w).mono ?_; rintro e w' ⟨rfl, rfl⟩
  rw [h2]
  go_wp2_with fail
  refine (rmay_any t _).mono ?_; rintro e w' ⟨rfl, rfl⟩
  rw [h3]
  go_wp2_with fail
  refine (lives_any _ HH.out).mono ?_; rintro e w1 ⟨rfl, b1⟩
  go_wp2
  go_ret
  exact ⟨rfl, b1⟩
set_option maxHeartbeats 1000000 in
theorem torn_off4 (o : Int) (A1 : Option Addr) (g1 : Nat) (a : List UInt8) (c1 : Nat) (t : Int) (A3 : Option Addr) (g3 : Nat) (b : List UInt8) (c3 : Nat) (n : Int) (w : World) (ha : InB w A1 g1 a c1) (hb : InB w A3 g3 b c3) (hh : HalvesAt w) (h0 : ¬ 43 < a.length) (h1 : ¬ 43 < b.length) (h2 : okTag o = true) (h3 : okTag t = true) (h4 : o = t) :
    Calls Tryd.prog 5 #[.int .i64 o, .slice A1 a.length c1, .int .i64 t, .slice A3 b.length c3, .int .i64 n] w (LawPost w) := by
  have hla : a.length ≤ 9223372036854775807 := Nat.le_trans ha.2.1 ha.2.2
  have hlb : b.length ≤ 9223372036854775807 := Nat.le_trans hb.2.1 hb.2.2
  have HH := Lib.hid hh
  clear ha hb hh
  have d0 : decide ((43 : Int) < (a.length : Int)) = false := by rw [decide_eq_false_iff_not]; omega
  have d1 : decide ((43 : Int) < (b.length : Int)) = false := by rw [decide_eq_false_iff_not]; omega
  have d4 : (o == t) = true := by simpa using h4
  clear h4
  go_enter Tryd.func5, Tryd.ntmps5
  go_wp2_with fail
  refine (rmay_any o w).mono ?_; rintro e w' ⟨rfl, rfl⟩
  rw [h2]
  go_wp2_with fail
  refine (rmay_any t _).mono ?_; rintro e w' ⟨rfl, rfl⟩
  rw [h3]
  go_wp2_with fail
  refine (lives_any _ HH.out).mono ?_; rintro e w1 ⟨rfl, b1⟩
  go_wp2
  go_ret
  exact ⟨rfl, b1⟩
set_option maxHeartbeats 1000000 in
theorem torn_off5 (o : Int) (A1 : Option Addr) (g1 : Nat) (a : List UInt8) (c1 : Nat) (t : Int) (A3 : Option Addr) (g3 : Nat) (b : List UInt8) (c3 : Nat) (n : Int) (w : World) (ha : InB w A1 g1 a c1) (hb : InB w A3 g3 b c3) (hh : HalvesAt w) (h0 : ¬ 43 < a.length) (h1 : ¬ 43 < b.length) (h2 : okTag o = true) (h3 : okTag t = true) (h4 : o ≠ t) (h5 : n < 0) :
    Calls Tryd.prog 5 #[.int .i64 o, .slice A1 a.length c1, .int .i64 t, .slice A3 b.length c3, .int .i64 n] w (LawPost w) := by
  have hla : a.length ≤ 9223372036854775807 := Nat.le_trans ha.2.1 ha.2.2
  have hlb : b.length ≤ 9223372036854775807 := Nat.le_trans hb.2.1 hb.2.2
  have HH := Lib.hid hh
  clear ha hb hh
  have d0 : decide ((43 : Int) < (a.length : Int)) = false := by rw [decide_eq_false_iff_not]; omega
  have d1 : decide ((43 : Int) < (b.length : Int)) = false := by rw [decide_eq_false_iff_not]; omega
  have d4 : (o == t) = false := by simpa using h4
  have d5 : decide (n < 0) = true := by simpa using h5
  clear h4 h5
  go_enter Tryd.func5, Tryd.ntmps5
  go_wp2_with fail
  refine (rmay_any o w).mono ?_; rintro e w' ⟨rfl, rfl⟩
  rw [h2]
  go_wp2_with fail
  refine (rmay_any t _).mono ?_; rintro e w' ⟨rfl, rfl⟩
  rw [h3]
  go_wp2_with fail
  refine (lives_any _ HH.out).mono ?_; rintro e w1 ⟨rfl, b1⟩
  go_wp2
  go_ret
  exact ⟨rfl, b1⟩
set_option maxHeartbeats 1000000 in
theorem torn_off6 (o : Int) (A1 : Option Addr) (g1 : Nat) (a : List UInt8) (c1 : Nat) (t : Int) (A3 : Option Addr) (g3 : Nat) (b : List UInt8) (c3 : Nat) (n : Int) (w : World) (ha : InB w A1 g1 a c1) (hb : InB w A3 g3 b c3) (hh : HalvesAt w) (h0 : ¬ 43 < a.length) (h1 : ¬ 43 < b.length) (h2 : okTag o = true) (h3 : okTag t = true) (h4 : o ≠ t) (h5 : ¬ n < 0) (h6 : 64 < n) :
    Calls Tryd.prog 5 #[.int .i64 o, .slice A1 a.length c1, .int .i64 t, .slice A3 b.length c3, .int .i64 n] w (LawPost w) := by
  have hla : a.length ≤ 9223372036854775807 := Nat.le_trans ha.2.1 ha.2.2
  have hlb : b.length ≤ 9223372036854775807 := Nat.le_trans hb.2.1 hb.2.2
  have HH := Lib.hid hh
  clear ha hb hh
  have d0 : decide ((43 : Int) < (a.length : Int)) = false := by rw [decide_eq_false_iff_not]; omega
  have d1 : decide ((43 : Int) < (b.length : Int)) = false := by rw [decide_eq_false_iff_not]; omega
  have d4 : (o == t) = false := by simpa using h4
  have d5 : decide (n < 0) = false := by simpa using h5
  have d6 : decide (64 < n) = true := by simpa using h6
  clear h4 h5 h6
  go_enter Tryd.func5, Tryd.ntmps5
  go_wp2_with fail
  refine (rmay_any o w).mono ?_; rintro e w' ⟨rfl, rfl⟩
  rw [h2]
  go_wp2_with fail
  refine (rmay_any t _).mono ?_; rintro e w' ⟨rfl, rfl⟩
  rw [h3]
  go_wp2_with fail
  refine (lives_any _ HH.out).mono ?_; rintro e w1 ⟨rfl, b1⟩
  go_wp2
  go_ret
  exact ⟨rfl, b1⟩
set_option maxRecDepth 100000 in
set_option maxHeartbeats 8000000 in
theorem torn_in (o t : Nat) (A1 : Option Addr) (g1 : Nat) (a : List UInt8) (c1 : Nat) (A3 : Option Addr) (g3 : Nat) (b : List UInt8) (c3 : Nat) (m : Nat) (w : World) (ha : InB w A1 g1 a c1) (hb : InB w A3 g3 b c3) (hh : HalvesAt w)
    (h0 : a.length ≤ 43) (h1 : b.length ≤ 43) (h2 : okTag (o : Int) = true) (h3 : okTag (t : Int) = true) (h4 : o ≠ t) (h6 : m ≤ 64) :
    Calls Tryd.prog 5 #[.int .i64 (o : Int), .slice A1 a.length c1, .int .i64 (t : Int), .slice A3 b.length c3, .int .i64 (m : Int)] w (LawPost w) := by
  have d0 : decide ((43 : Int) < (a.length : Int)) = false := by rw [decide_eq_false_iff_not]; omega
  have d1 : decide ((43 : Int) < (b.length : Int)) = false := by rw [decide_eq_false_iff_not]; omega
  have d4 : ((o : Int) == (t : Int)) = false := by rw [beq_eq_false_iff_ne]; omega
  have d5 : decide ((m : Int) < 0) = false := by simp
  have d6 : decide ((64 : Int) < (m : Int)) = false := by rw [decide_eq_false_iff_not]; omega
  obtain ⟨sa, hac, hcm⟩ := ha
  obtain ⟨sb, hbc, hdm⟩ := hb
  have P1 := Lib.hid (pput_pg (o : Int) A1 g1 a c1 w h2 sa h0 hac hcm hh)
  have P2 := Lib.hid (fun W (k : Below w.heap.size w W) => pput_pg (t : Int) A3 g3 b c3 W h3 (sb.below k fun h => h) h1 hbc hdm (hh.below k hh.pos))
  rw [Int.toNat_natCast] at P1
  simp only [Int.toNat_natCast] at P2
  have HH := Lib.hid hh
  have HO := Lib.hid h2
  have HT := Lib.hid h3
  have hx := pageM_length o a h0
  have hy := pageM_length t b h1
  have hz1 := torn_new o t a b h2 h3 h0 h1 h4 m h6
  have hz2 := torn_old o t a b h2 h3 h0 h1 h4 m h6
  generalize pageM o a = x at *
  generalize pageM t b = y at *
  have HX := Lib.hid hx
  have HY := Lib.hid hy
  have HZ1 := Lib.hid hz1
  have HZ2 := Lib.hid hz2
  clear sa sb hh h2 h3 hx hy hz1 hz2 h4 hac hbc hcm hdm
  go_enter Tryd.func5, Tryd.ntmps5
  go_wp2_with fail
  refine (rmay_any (o : Int) w).mono ?_; rintro e w' ⟨rfl, rfl⟩
  rw [HO.out]
  go_wp2_with fail
  refine (rmay_any (t : Int) w).mono ?_; rintro e w' ⟨rfl, rfl⟩
  rw [HT.out]
  go_wp2_with fail
  refine P1.out.mono ?_; rintro e w1 ⟨Ax, cx, rfl, p1, b1⟩
  have B1 := Lib.hid b1
  have PX := Lib.hid p1
  have P2 := Lib.hid (P2.out w1 b1)
  clear b1 p1 P1
  go_wp2_with fail
  refine P2.out.mono ?_; rintro e w2 ⟨Ay, cy, rfl, p2, b2⟩
  have B2 := Lib.hid (below_trans B1.out b2)
  have PX := Lib.hid (PX.out.below b2)
  have PY := Lib.hid p2
  clear b2 p2 P2
  go_wp2_with fail
  refine (lives_any w2 (HH.out.below B2.out HH.out.pos)).mono ?_; rintro e w3 ⟨rfl, b3⟩
  have B3 := Lib.hid (below_trans B2.out b3)
  obtain ⟨-, gx, sx, qx1, qx2⟩ := (PX.out.below b3).slb
  obtain ⟨-, gy, sy, qy1, qy2⟩ := (PY.out.below b3).slb
  rw [HX.out] at qx1
  rw [HY.out] at qy1
  have SX := Lib.hid sx
  have SY := Lib.hid sy
  unfold maxLen at qx2 qy2
  clear b3 sx sy PX PY
  obtain ⟨z, hz⟩ : ∃ z, z = y.take m ++ x.drop m := ⟨_, rfl⟩
  have hz64 : z.length = 64 := by rw [hz, List.length_append, List.length_take, List.length_drop, HX.out, HY.out]; omega
  have HZ := Lib.hid hz
  have HZ64 := Lib.hid hz64
  clear hz hz64
  have HE := Lib.hid (empty_own w3.drew 5)
  have b3a := alloc_below w3.drew (.cells #[] 5)
  have b3d : Below w3.heap.size w3 (w3.drew.alloc (.cells #[] 5)) := ⟨b3a.os, b3a.tape, b3a.output, b3a.size, b3a.block⟩
  have HR1 := Lib.hid ((SY.out.take m).below b3d (fun h => h) |>.reads (n := m) (by rw [List.length_take, HY.out]; omega))
  have hcy : ¬ cy < m := by omega
  by_cases hcx : cx = m
  · have hd := SX.out.drop (k := m) (cap := cx) (by rw [HX.out]; omega)
    unfold cutA at hd
    rw [if_pos hcx] at hd
    have HD := Lib.hid hd
    clear hd
    obtain rfl : m = 64 := by omega
    subst hcx
    go_wp2_with fail
    refine wp_region_R (R := RT) (n := 10) (by kernel_rfl) rfl ?_
    refine batchT [1, 2, 3, 5, 6, 7] (fuel := 4) rfl (by kernel_rfl) (by kernel_rfl) (fun _ _ d _ _ h => by cases d <;> exact h) ?_
    (repeat (first | ((with_reducible apply wq0); rfl; rfl; rfl; intro K hK; go_big_quiet_op; refine hK _ ?_; clear hK K) | ((with_reducible apply wq1); rfl; rfl; rfl; rfl; rfl; rfl; intro K hK; go_big_quiet_op; refine hK _ ?_; clear hK K) | ((with_reducible apply wqs); rfl; rfl; rfl; rfl; rfl; rfl; simp only [Act.put, List.setIfInBounds_toArray, List.set_cons_zero, List.set_cons_succ]) | ((with_reducible apply wqu); rfl; rfl; rfl; rfl; rfl; simp only [same, Act.put, List.setIfInBounds_toArray, List.set_cons_zero, List.set_cons_succ])))
    refine wqIdx_nil ?_
    refine wpAnyR_sole (i := 0) rfl (by kernel_rfl) (fun K hK => ?_); go_simp
    refine hK _ _ trivial ?_
    clear hK K
    refine wpAnyR_sole (i := 4) rfl (by kernel_rfl) (fun K hK => ?_)
    rw [if_pos (wanted0 rfl _)]
    refine wp_appB _ (.tmp 84) (.tmp 87) _ rfl Tryd.underlying22 info_u8 HE.out HR1.out cy rfl rfl (by omega) (by simp) ?_
    intro A4 c4 w4 o4 gr4
    rw [Nat.zero_add, List.nil_append] at o4
    rw [Nat.zero_add]
    have B4 := Lib.hid (show Below w3.heap.size w3 w4 from b3d.grown (Grew.by_ gr4) (by simp) (by simp [Value.ownBlock]))
    refine hK _ _ trivial ?_
    have O4 := Lib.hid o4
    have HR2 := Lib.hid (SlB.reads (n := 0) (HD.out.below B4.out fun h => h) (by rw [List.length_drop, HX.out]))
    clear hK K o4 gr4
    refine wpAnyR_sole (i := 8) rfl (by kernel_rfl) (fun K hK => ?_)
    rw [if_pos (wanted0 rfl _)]
    refine wp_appB _ (.tmp 88) (.tmp 91) _ rfl Tryd.underlying22 info_u8 O4.out HR2.out _ rfl rfl (by omega) B4.out.size ?_
    intro A5 c5 w5 o5 gr5
    rw [← HZ.out] at o5
    have B5 := Lib.hid (show Below w3.heap.size w3 w5 from B4.out.grown (Grew.by_ gr5) B4.out.size fun i hi => (World.ownsRow.lt O4.out i hi).1)
    rw [Nat.add_zero] at o5 ⊢
    refine hK _ _ trivial ?_
    obtain ⟨g5, -, s5, -⟩ := SlB.of_own (l := z) (by rw [← HZ64.out] at o5; exact o5)
    obtain ⟨q51, q52⟩ := own_cap o5
    have S5 := Lib.hid s5
    have Q51 := Lib.hid q51
    have Q52 := Lib.hid q52
    clear hK K o5 gr5 s5 q51 q52 b3a b3d
    simp only [Act.put, List.setIfInBounds_toArray, List.set_cons_zero, List.set_cons_succ]
    refine batchT [9] (fuel := 0) rfl (by kernel_rfl) (by kernel_rfl) (fun _ _ d _ _ h => by cases d <;> exact h) ?_
    (repeat (first | ((with_reducible apply wq0); rfl; rfl; rfl; intro K hK; go_big_quiet_op; refine hK _ ?_; clear hK K) | ((with_reducible apply wq1); rfl; rfl; rfl; rfl; rfl; rfl; intro K hK; go_big_quiet_op; refine hK _ ?_; clear hK K) | ((with_reducible apply wqs); rfl; rfl; rfl; rfl; rfl; rfl; simp only [Act.put, List.setIfInBounds_toArray, List.set_cons_zero, List.set_cons_succ]) | ((with_reducible apply wqu); rfl; rfl; rfl; rfl; rfl; simp only [same, Act.put, List.setIfInBounds_toArray, List.set_cons_zero, List.set_cons_succ])))
    refine wqIdx_nil ?_
    refine wpAnyR_done (by kernel_rfl) ?_ _
    have BW5 := Lib.hid (below_trans B3.out B5.out)
    have P6 := Lib.hid (pget_any A5 g5 z c5 (t : Int) w5 S5.out (by rw [HZ64.out]; exact Q51.out) Q52.out (HH.out.below BW5.out HH.out.pos))
    unfold GetAns at P6
    rw [HZ64.out] at P6
    obtain ⟨e1, he1⟩ : ∃ e1, e1 = getE z (t : Int) := ⟨_, rfl⟩
    obtain ⟨e2, he2⟩ : ∃ e2, e2 = getE z (o : Int) := ⟨_, rfl⟩
    rw [← he1] at P6
    have hq1 : (e1 == 0) = (z == y) := by
      rw [he1, Bool.eq_iff_iff, beq_iff_eq, beq_iff_eq]
      have := HZ1.out
      rw [← HZ.out] at this
      exact this
    have hq2 : (e2 == 0) = (z == x) := by
      rw [he2, Bool.eq_iff_iff, beq_iff_eq, beq_iff_eq]
      have := HZ2.out
      rw [← HZ.out] at this
      exact this
    have HE2 := Lib.hid he2
    clear he1 he2
    generalize (getD z (t : Int)).length = l1 at P6
    go_wp2_with fail
    refine P6.out.mono ?_; rintro e w6 ⟨A6, c6, rfl, -, b6⟩
    have B6 := Lib.hid (below_trans B5.out b6)
    have BW6 := Lib.hid (below_trans BW5.out b6)
    have S6 := Lib.hid (S5.out.below b6 fun h => h)
    have P7 := Lib.hid (pget_any A5 g5 z c5 (o : Int) w6 S6.out (by rw [HZ64.out]; exact Q51.out) Q52.out (HH.out.below BW6.out HH.out.pos))
    unfold GetAns at P7
    rw [HZ64.out, ← HE2.out] at P7
    generalize (getD z (o : Int)).length = l2 at P7
    clear b6 P6
    go_wp2_with fail
    refine P7.out.mono ?_; rintro e w7 ⟨A7, c7, rfl, -, b7⟩
    have v1 := conv_later (S6.out.below b7 fun h => h) c5 HZ64.out.symm w7 (RB.refl _)
    have v2 := conv_later (SY.out.below (below_trans B6.out b7) fun h => h) cy HY.out.symm w7 (RB.refl _)
    have v3 := conv_later (SX.out.below (below_trans B6.out b7) fun h => h) 64 HX.out.symm w7 (RB.refl _)
    have BW7 := Lib.hid (below_trans BW6.out b7)
    clear b7 P7
    generalize hs1 : (z == y) = r1 at hq1
    generalize hs2 : (z == x) = r2 at hq2
    go_wp2
    go_ret
    exact ⟨rfl, BW7.out⟩
  · have hd := SX.out.drop (k := m) (cap := cx) (by rw [HX.out]; omega)
    unfold cutA at hd
    rw [if_neg hcx] at hd
    have HD := Lib.hid hd
    clear hd
    have hcx2 : ¬ cx = m := hcx
    skip
    go_wp2_with fail
    refine wp_region_R (R := RT) (n := 10) (by kernel_rfl) rfl ?_
    refine batchT [1, 2, 3, 5, 6, 7] (fuel := 4) rfl (by kernel_rfl) (by kernel_rfl) (fun _ _ d _ _ h => by cases d <;> exact h) ?_
    (repeat (first | ((with_reducible apply wq0); rfl; rfl; rfl; intro K hK; go_big_quiet_op; refine hK _ ?_; clear hK K) | ((with_reducible apply wq1); rfl; rfl; rfl; rfl; rfl; rfl; intro K hK; go_big_quiet_op; refine hK _ ?_; clear hK K) | ((with_reducible apply wqs); rfl; rfl; rfl; rfl; rfl; rfl; simp only [Act.put, List.setIfInBounds_toArray, List.set_cons_zero, List.set_cons_succ]) | ((with_reducible apply wqu); rfl; rfl; rfl; rfl; rfl; simp only [same, Act.put, List.setIfInBounds_toArray, List.set_cons_zero, List.set_cons_succ])))
    refine wqIdx_nil ?_
    refine wpAnyR_sole (i := 0) rfl (by kernel_rfl) (fun K hK => ?_); go_simp
    refine hK _ _ trivial ?_
    clear hK K
    refine wpAnyR_sole (i := 4) rfl (by kernel_rfl) (fun K hK => ?_)
    rw [if_pos (wanted0 rfl _)]
    refine wp_appB _ (.tmp 84) (.tmp 87) _ rfl Tryd.underlying22 info_u8 HE.out HR1.out cy rfl rfl (by omega) (by simp) ?_
    intro A4 c4 w4 o4 gr4
    rw [Nat.zero_add, List.nil_append] at o4
    rw [Nat.zero_add]
    have B4 := Lib.hid (show Below w3.heap.size w3 w4 from b3d.grown (Grew.by_ gr4) (by simp) (by simp [Value.ownBlock]))
    refine hK _ _ trivial ?_
    have O4 := Lib.hid o4
    have HR2 := Lib.hid (SlB.reads (n := 64 - m) (HD.out.below B4.out fun h => h) (by rw [List.length_drop, HX.out]))
    clear hK K o4 gr4
    refine wpAnyR_sole (i := 8) rfl (by kernel_rfl) (fun K hK => ?_)
    rw [if_pos (wanted0 rfl _)]
    refine wp_appB _ (.tmp 88) (.tmp 91) _ rfl Tryd.underlying22 info_u8 O4.out HR2.out _ rfl rfl (by omega) B4.out.size ?_
    intro A5 c5 w5 o5 gr5
    rw [← HZ.out] at o5
    have B5 := Lib.hid (show Below w3.heap.size w3 w5 from B4.out.grown (Grew.by_ gr5) B4.out.size fun i hi => (World.ownsRow.lt O4.out i hi).1)
    rw [show m + (64 - m) = 64 by omega] at o5 ⊢
    refine hK _ _ trivial ?_
    obtain ⟨g5, -, s5, -⟩ := SlB.of_own (l := z) (by rw [← HZ64.out] at o5; exact o5)
    obtain ⟨q51, q52⟩ := own_cap o5
    have S5 := Lib.hid s5
    have Q51 := Lib.hid q51
    have Q52 := Lib.hid q52
    clear hK K o5 gr5 s5 q51 q52 b3a b3d
    simp only [Act.put, List.setIfInBounds_toArray, List.set_cons_zero, List.set_cons_succ]
    refine batchT [9] (fuel := 0) rfl (by kernel_rfl) (by kernel_rfl) (fun _ _ d _ _ h => by cases d <;> exact h) ?_
    (repeat (first | ((with_reducible apply wq0); rfl; rfl; rfl; intro K hK; go_big_quiet_op; refine hK _ ?_; clear hK K) | ((with_reducible apply wq1); rfl; rfl; rfl; rfl; rfl; rfl; intro K hK; go_big_quiet_op; refine hK _ ?_; clear hK K) | ((with_reducible apply wqs); rfl; rfl; rfl; rfl; rfl; rfl; simp only [Act.put, List.setIfInBounds_toArray, List.set_cons_zero, List.set_cons_succ]) | ((with_reducible apply wqu); rfl; rfl; rfl; rfl; rfl; simp only [same, Act.put, List.setIfInBounds_toArray, List.set_cons_zero, List.set_cons_succ])))
    refine wqIdx_nil ?_
    refine wpAnyR_done (by kernel_rfl) ?_ _
    have BW5 := Lib.hid (below_trans B3.out B5.out)
    have P6 := Lib.hid (pget_any A5 g5 z c5 (t : Int) w5 S5.out (by rw [HZ64.out]; exact Q51.out) Q52.out (HH.out.below BW5.out HH.out.pos))
    unfold GetAns at P6
    rw [HZ64.out] at P6
    obtain ⟨e1, he1⟩ : ∃ e1, e1 = getE z (t : Int) := ⟨_, rfl⟩
    obtain ⟨e2, he2⟩ : ∃ e2, e2 = getE z (o : Int) := ⟨_, rfl⟩
    rw [← he1] at P6
    have hq1 : (e1 == 0) = (z == y) := by
      rw [he1, Bool.eq_iff_iff, beq_iff_eq, beq_iff_eq]
      have := HZ1.out
      rw [← HZ.out] at this
      exact this
    have hq2 : (e2 == 0) = (z == x) := by
      rw [he2, Bool.eq_iff_iff, beq_iff_eq, beq_iff_eq]
      have := HZ2.out
      rw [← HZ.out] at this
      exact this
    have HE2 := Lib.hid he2
    clear he1 he2
    generalize (getD z (t : Int)).length = l1 at P6
    go_wp2_with fail
    refine P6.out.mono ?_; rintro e w6 ⟨A6, c6, rfl, -, b6⟩
    have B6 := Lib.hid (below_trans B5.out b6)
    have BW6 := Lib.hid (below_trans BW5.out b6)
    have S6 := Lib.hid (S5.out.below b6 fun h => h)
    have P7 := Lib.hid (pget_any A5 g5 z c5 (o : Int) w6 S6.out (by rw [HZ64.out]; exact Q51.out) Q52.out (HH.out.below BW6.out HH.out.pos))
    unfold GetAns at P7
    rw [HZ64.out, ← HE2.out] at P7
    generalize (getD z (o : Int)).length = l2 at P7
    clear b6 P6
    go_wp2_with fail
    refine P7.out.mono ?_; rintro e w7 ⟨A7, c7, rfl, -, b7⟩
    have v1 := conv_later (S6.out.below b7 fun h => h) c5 HZ64.out.symm w7 (RB.refl _)
    have v2 := conv_later (SY.out.below (below_trans B6.out b7) fun h => h) cy HY.out.symm w7 (RB.refl _)
    have v3 := conv_later (SX.out.below (below_trans B6.out b7) fun h => h) cx HX.out.symm w7 (RB.refl _)
    have BW7 := Lib.hid (below_trans BW6.out b7)
    clear b7 P7
    generalize hs1 : (z == y) = r1 at hq1
    generalize hs2 : (z == x) = r2 at hq2
    go_wp2
    go_ret
    exact ⟨rfl, BW7.out⟩
theorem torn_law (o : Int) (A1 : Option Addr) (g1 : Nat) (a : List UInt8) (c1 : Nat) (t : Int) (A3 : Option Addr) (g3 : Nat) (b : List UInt8) (c3 : Nat) (n : Int) (w : World) (ha : InB w A1 g1 a c1) (hb : InB w A3 g3 b c3) (hh : HalvesAt w) :
    Calls Tryd.prog 5 #[.int .i64 o, .slice A1 a.length c1, .int .i64 t, .slice A3 b.length c3, .int .i64 n] w (LawPost w) := by
  by_cases h0 : 43 < a.length
  · exact torn_off0 o A1 g1 a c1 t A3 g3 b c3 n w ha hb hh h0
  by_cases h1 : 43 < b.length
  · exact torn_off1 o A1 g1 a c1 t A3 g3 b c3 n w ha hb hh h0 h1
  by_cases h2 : okTag o = true
  · by_cases h3 : okTag t = true
    · by_cases h4 : o = t
      · exact torn_off4 o A1 g1 a c1 t A3 g3 b c3 n w ha hb hh h0 h1 h2 h3 h4
      by_cases h5 : n < 0
      · exact torn_off5 o A1 g1 a c1 t A3 g3 b c3 n w ha hb hh h0 h1 h2 h3 h4 h5
      by_cases h6 : 64 < n
      · exact torn_off6 o A1 g1 a c1 t A3 g3 b c3 n w ha hb hh h0 h1 h2 h3 h4 h5 h6
      have k2 := (okTag_iff o).1 h2
      have k3 := (okTag_iff t).1 h3
      obtain ⟨o', rfl⟩ := Int.eq_ofNat_of_zero_le (show 0 ≤ o by omega)
      obtain ⟨t', rfl⟩ := Int.eq_ofNat_of_zero_le (show 0 ≤ t by omega)
      obtain ⟨m, rfl⟩ := Int.eq_ofNat_of_zero_le (show 0 ≤ n by omega)
      exact torn_in o' t' A1 g1 a c1 A3 g3 b c3 m w ha hb hh (by omega) (by omega) h2 h3 (by omega) (by omega)
    · exact torn_off3 o A1 g1 a c1 t A3 g3 b c3 n w ha hb hh h0 h1 h2 (by simpa using h3)
  · exact torn_off2 o A1 g1 a c1 t A3 g3 b c3 n w ha hb hh h0 h1 (by simpa using h2)
end Go.Proofs.YtfilelgbffbnlaaDoor
