/- Contracts of package moment: a moment's bytes, put and read. -/
import Derived.Test.YtfmmdnjoichifaaFrC
import Derived.Test.YtfmmdnjoichifaaNumI
namespace Go.Proofs.Ytfmmdnjoichifaa
open Go.RowKit Go.Sort

theorem info_b : (Try.prog.info? 5).map (fun i => (i.zero, i.size, i.bytes)) = some (some (.int .u8 0), 1, 1) := by kernel_rfl
theorem keep_cellK {S : Nat → Prop} {w0 W : World} {p : Addr} {v : Value} (h : RK S w0 W) (hs : ¬ S p.block) (hc : w0.cell? p = some v) : W.cell? p = some v :=
  (World.cell?_of_block (h.2.2.2.2 p.block (World.block_lt_of_cell? w0 p hc) hs)).trans hc
theorem rk_below {S : Nat → Prop} {w w' : World} (h : Below w.heap.size w w') : RK S w w' := ⟨h.os, h.tape, h.output, h.size, fun i hi _ => h.block i hi⟩
theorem rk_grown {S : Nat → Prop} {w w' : World} {row : Option Nat} (h : w.grownBy w' row) (hr : ∀ g, row = some g → S g) : RK S w w' :=
  ⟨h.os, h.tape, h.output, h.size, fun i hi hs => h.block i hi (fun e => hs (hr i e.symm))⟩
theorem Below.of_drew0 {w w' : World} (h : Below w.drew.heap.size w.drew w') : Below w.heap.size w w' := ⟨h.os, h.tape, h.output, h.size, h.block⟩
theorem World.size_drew (w : World) : w.drew.heap.size = w.heap.size := rfl
def putMo (a b : Int) : List UInt8 := putL a.toNat ++ putL b.toNat
theorem okMo_iff (a b : Int) : okMo (a, b) = true ↔ 0 ≤ a ∧ a < 65536 ∧ 0 ≤ b ∧ b < 65536 := by unfold okMo; simp; omega
theorem moE_ok {m : Int × Int} (h : okMo m = true) : moE m = 0 := by unfold moE; rw [if_pos h]
theorem moE_no {m : Int × Int} (h : okMo m = false) : moE m = 40 := by unfold moE; rw [h]; rfl
theorem putL_small (n : Nat) (h : n < 65536) : (putL n).length ≤ 9 := by
  rw [putL_length]
  have := nb_eight n (by omega)
  split
  · omega
  · split <;> omega
def PutAns (w : World) (l : List UInt8) (e : Ending) (w' : World) : Prop :=
  ∃ A c, e = .returned (.tuple #[.slice A l.length c, .int .i64 0]) ∧ w'.ownsRow w.heap.size 5 1 (.slice A l.length c) l.length (Byt l) ∧ Below w.heap.size w w'
set_option maxRecDepth 100000 in
set_option maxHeartbeats 1000000 in
theorem mput_no (a b : Int) (w : World) (h : okMo (a, b) = false) :
    Calls Try.prog 66 #[.agg #[.int .i64 a, .int .i64 b]] w fun e w' => e = .returned (.tuple #[.slice none 0 0, .int .i64 40]) ∧ Below w.heap.size w w' := by
  have P1 := Lib.hid (fun W => check_any a b W)
  rw [moE_no h] at P1
  clear h
  go_enter Try.func66, Try.ntmps66
  go_wp2_with fail
  refine (P1.out _).mono ?_; rintro e w1 ⟨rfl, b1⟩
  go_wp2
  go_ret2
  exact ⟨rfl, below_trans (alloc_below w _) b1⟩
set_option maxRecDepth 100000 in
set_option maxHeartbeats 1000000 in
theorem mput_ok (a b : Int) (w : World) (h : okMo (a, b) = true) :
    Calls Try.prog 66 #[.agg #[.int .i64 a, .int .i64 b]] w (PutAns w (putMo a b)) := by
  have P1 := Lib.hid (fun W => check_any a b W)
  rw [moE_ok h] at P1
  rw [okMo_iff] at h
  obtain ⟨a0, a1, b0, b1⟩ := h
  have P2 := Lib.hid (fun W => put_ok a W a0 (by omega))
  have P3 := Lib.hid (fun W => put_ok b W b0 (by omega))
  have l1 := putL_small a.toNat (by omega)
  have l2 := putL_small b.toNat (by omega)
  have E := Lib.hid (show putMo a b = putL a.toNat ++ putL b.toNat from rfl)
  rw [E.out]
  generalize putL a.toNat = x at P2 l1 ⊢
  generalize putL b.toNat = y at P3 l2 ⊢
  clear a0 a1 b0 b1 E
  go_enter Try.func66, Try.ntmps66
  have HB := Lib.hid (alloc_below w (.cells #[.int .i64 a, .int .i64 b] 47))
  go_wp2_with fail
  refine (P1.out _).mono ?_; rintro e w1 ⟨rfl, b1⟩
  have q0 := box_cell b1 0 (.int .i64 a) rfl
  have q1 := box_cell b1 1 (.int .i64 b) rfl
  have hlt : w.heap.size < w1.heap.size := Nat.lt_of_lt_of_le (by rw [World.size_alloc]; exact Nat.lt_succ_self _) b1.size
  have B1 := Lib.hid (below_trans HB.out b1)
  clear b1
  go_wp2_with fail
  refine (P2.out _).mono ?_; rintro e w2 ⟨v1, rfl, o1, b2⟩
  obtain ⟨A1, c1, rfl⟩ := own_form o1
  have q1' : w2.cell? ⟨w.heap.size, 1, none⟩ = some (.int .i64 b) := (b2.cell (p := ⟨w.heap.size, 1, none⟩) hlt).trans q1
  have B2 := Lib.hid (below_trans B1.out b2)
  have O1 := Lib.hid (own_mono o1 (show w.heap.size ≤ w1.heap.size by omega))
  clear o1 b2 q0 q1
  go_wp2_with fail
  refine (P3.out _).mono ?_; rintro e w3 ⟨v2, rfl, o2, b3⟩
  obtain ⟨A2, c2, rfl⟩ := own_form o2
  have B3 := Lib.hid (below_trans B2.out b3)
  have O1 := Lib.hid (own_below O1.out b3)
  have O2 := Lib.hid (own_bytes_reads o2)
  have HS := Lib.hid (show w.heap.size ≤ w3.heap.size from B3.out.size)
  clear o2 b3
  go_wp2_with (at_builtin; (refine wpList_appB _ rfl (.tmp 26) (.tmp 27) _ rfl Try.underlying30 info_b O1.out O2.out c2 rfl rfl (by omega) HS.out ?_); intro A5 c5 w5 o5 gr5; have O5 := Lib.hid o5; have G5 := Lib.hid gr5; clear o5 gr5)
  go_ret2
  have hlen : (x ++ y).length = x.length + y.length := List.length_append
  exact ⟨A5, c5, by rw [hlen]; rfl, by rw [hlen]; exact O5.out, B3.out.grown (Grew.by_ G5.out) HS.out fun i hi => (World.ownsRow.lt O1.out i hi).1⟩
/-- An append that comes up alone. -/
theorem wp_appB {P : Program} (w : World) {o : Oper} {a : Act} {K : Act → World → Prop} {Q : Exit → Act → World → Prop} (s x : Operand) (t : TypeId)
    (ho : o.op = .call { callee := .builtin .append, args := #[s, x], argTypes := #[t, t] })
    {e : TypeId} (ht : P.underlying t = some (.slice e)) (hinfo : (P.info? e).map (fun i => (i.zero, i.size, i.bytes)) = some (some (.int .u8 0), 1, 1))
    {base : Nat} {v : Value} {xs ys : List UInt8} {n : Nat} (hown : w.ownsRow base e 1 v n (Byt xs)) {B : Nat} {A : Option Addr} {m : Nat} (hr : Reads w B 1 A m (Byt ys)) (c : Nat)
    (hs : a.eval s = v) (hx : a.eval x = .slice A m c) (hle : n + m ≤ 140737488355328) (hbase : base ≤ w.heap.size)
    (h : ∀ A' c' w', w'.ownsRow base e 1 (.slice A' (n + m) c') (n + m) (Byt (xs ++ ys)) → Grew w w' v (.slice A' (n + m) c') → K (a.put o.dst (.slice A' (n + m) c')) w') : o.wp P a w K Q := by
  obtain ⟨i0, hi0, hz0, hz1, hz2⟩ := info_parts hinfo
  refine wp_append_any w s x t ho base e i0 _ 1 1 ht hi0 hz0 hz1 hz2 rfl (by omega) v n (Byt xs) hs hown B A m c (Byt ys) hx hr (Byt_one ys) (by unfold maxLen; omega) (by omega) hbase ?_
  intro v' w' h1 h2
  obtain ⟨A', c', rfl⟩ := own_form h1
  refine h A' c' w' ?_ h2
  rw [Byt_append]
  exact h1
set_option maxRecDepth 100000 in
set_option maxHeartbeats 1000000 in
theorem rput_mo (a b : Int) (w : World) (h : okMo (a, b) = true) :
    Calls Try.prog 81 #[.agg #[.int .i64 a, .int .i64 b]] w (Own1 w (putMo a b)) := by
  rw [okMo_iff] at h
  obtain ⟨a0, a1, b0, b1⟩ := h
  have P2 := Lib.hid (fun W => rput_any a.toNat W (by omega))
  have P3 := Lib.hid (fun W => rput_any b.toNat W (by omega))
  rw [show ((a.toNat : Nat) : Int) = a by omega] at P2
  rw [show ((b.toNat : Nat) : Int) = b by omega] at P3
  have l1 := putL_small a.toNat (by omega)
  have l2 := putL_small b.toNat (by omega)
  have E := Lib.hid (show putMo a b = putL a.toNat ++ putL b.toNat from rfl)
  rw [E.out]
  generalize putL a.toNat = x at P2 l1 ⊢
  generalize putL b.toNat = y at P3 l2 ⊢
  clear a0 a1 b0 b1 E
  have HB := Lib.hid (alloc_below w (.cells #[.int .i64 a, .int .i64 b] 47))
  have C0 := Lib.hid (new_cell w #[.int .i64 a, .int .i64 b] 47 _ rfl 0)
  have C1 := Lib.hid (new_cell w #[.int .i64 a, .int .i64 b] 47 _ rfl 1)
  go_enter Try.func81, Try.ntmps81
  go_wp2_with fail
  refine wp_region_R (R := RK (fun b => w.heap.size < b)) (n := 8) (by kernel_rfl) rfl ?_
  refine batchK [0, 1, 3, 4] (fuel := 4) rfl (by kernel_rfl) (by kernel_rfl) (fun _ _ d _ _ h => by cases d <;> exact h) ?_
  repeat (first | ((with_reducible apply wq0); rfl; rfl; rfl; intro K hK; go_big_quiet_op; refine hK _ ?_; clear hK K) | ((with_reducible apply wq1); rfl; rfl; rfl; rfl; rfl; rfl; intro K hK; go_big_quiet_op; refine hK _ ?_; clear hK K) | ((with_reducible apply wqs); rfl; rfl; rfl; rfl; rfl; rfl; simp only [Act.put, List.setIfInBounds_toArray, List.set_cons_zero, List.set_cons_succ]) | ((with_reducible apply wqu); rfl; rfl; rfl; rfl; rfl; simp only [same]))
  refine wqIdx_load rfl rfl rfl rfl (fun W hW => load_i64_at _ a W (keep_cellK hW (Nat.lt_irrefl _) C0.out)) ?_
  simp only [Act.put, List.setIfInBounds_toArray, List.set_cons_zero, List.set_cons_succ]
  repeat (first | ((with_reducible apply wq0); rfl; rfl; rfl; intro K hK; go_big_quiet_op; refine hK _ ?_; clear hK K) | ((with_reducible apply wq1); rfl; rfl; rfl; rfl; rfl; rfl; intro K hK; go_big_quiet_op; refine hK _ ?_; clear hK K) | ((with_reducible apply wqs); rfl; rfl; rfl; rfl; rfl; rfl; simp only [Act.put, List.setIfInBounds_toArray, List.set_cons_zero, List.set_cons_succ]) | ((with_reducible apply wqu); rfl; rfl; rfl; rfl; rfl; simp only [same]))
  refine wqIdx_load rfl rfl rfl rfl (fun W hW => load_i64_at _ b W (keep_cellK hW (Nat.lt_irrefl _) C1.out)) ?_
  simp only [Act.put, List.setIfInBounds_toArray, List.set_cons_zero, List.set_cons_succ]
  refine wqIdx_nil ?_
  refine wpAnyR_sole (i := 2) rfl (by kernel_rfl) (fun K hK => ?_)
  go_simp
  refine (P2.out _).mono ?_; rintro e w2 ⟨v1, rfl, o1, b2⟩
  obtain ⟨A1, c1, rfl⟩ := own_form o1
  refine hK _ _ (rk_below b2) ?_
  clear hK K
  have B2 := Lib.hid (below_trans HB.out (Below.of_drew0 b2))
  have O1 := Lib.hid (own_mono o1 (show w.heap.size ≤ _ from HB.out.size))
  have hb1 := World.ownsRow.lt o1
  clear b2 o1
  refine wpAnyR_sole (i := 5) rfl (by kernel_rfl) (fun K hK => ?_)
  go_simp
  refine (P3.out _).mono ?_; rintro e w3 ⟨v2, rfl, o2, b3⟩
  obtain ⟨A2, c2, rfl⟩ := own_form o2
  refine hK _ _ (rk_below b3) ?_
  clear hK K
  have B3 := Lib.hid (below_trans B2.out b3)
  have O1 := Lib.hid (own_below O1.out b3)
  have O2 := Lib.hid (own_bytes_reads o2)
  have HS := Lib.hid (show w.heap.size ≤ w3.heap.size from B3.out.size)
  clear o2 b3
  refine wpAnyR_sole (i := 6) rfl (by kernel_rfl) (fun K hK => ?_)
  rw [if_pos (wanted0 rfl _)]
  refine wp_appB _ (.tmp 5) (.tmp 8) _ rfl Try.underlying30 info_b O1.out O2.out c2 rfl rfl (by omega) HS.out ?_
  intro A5 c5 w5 o5 gr5
  have O5 := Lib.hid o5
  have G5 := Lib.hid gr5
  refine hK _ _ (rk_grown (Grew.by_ gr5) fun i hi => ?_) ?_
  · have h1 := (hb1 i hi).1
    rw [World.size_drew, World.size_alloc] at h1
    omega
  clear hK K o5 gr5
  simp only [Act.put, List.setIfInBounds_toArray, List.set_cons_zero, List.set_cons_succ]
  refine batchK [7] (fuel := 0) rfl (by kernel_rfl) (by kernel_rfl) (fun _ _ d _ _ h => by cases d <;> exact h) ?_
  repeat (first | ((with_reducible apply wq0); rfl; rfl; rfl; intro K hK; go_big_quiet_op; refine hK _ ?_; clear hK K) | ((with_reducible apply wq1); rfl; rfl; rfl; rfl; rfl; rfl; intro K hK; go_big_quiet_op; refine hK _ ?_; clear hK K) | ((with_reducible apply wqs); rfl; rfl; rfl; rfl; rfl; rfl; simp only [Act.put, List.setIfInBounds_toArray, List.set_cons_zero, List.set_cons_succ]) | ((with_reducible apply wqu); rfl; rfl; rfl; rfl; rfl; simp only [same]))
  refine wqIdx_nil ?_
  refine wpAnyR_done (by kernel_rfl) ?_ _
  go_wp2
  go_ret
  have hlen : (x ++ y).length = x.length + y.length := List.length_append
  exact ⟨_, rfl, by rw [hlen]; exact O5.out, B3.out.grown (Grew.by_ G5.out) HS.out fun i hi => (World.ownsRow.lt O1.out i hi).1⟩
theorem below_setCell {w0 w : World} {B : Nat} (h : Below B w0 w) {p : Addr} (hp : B ≤ p.block) (u : Value) : Below B w0 (w.setCell p u) :=
  ⟨h.os, h.tape, h.output, by simpa using h.size, fun k hk => (Below.heap_setCell w p u k (by omega)).trans (h.block k hk)⟩
/-- What reading a moment makes of the bytes that are left. -/
def readMo (s : Option (List UInt8)) : (Int × Int) × Int :=
  if (numM (numM s).2).2 = none then ((0, 0), 10) else if okMo (((numM s).1 : Int), ((numM (numM s).2).1 : Int)) = true then ((((numM s).1 : Int), ((numM (numM s).2).1 : Int)), 0) else ((0, 0), 40)
def readS (s : Option (List UInt8)) : Option (List UInt8) := (numM (numM s).2).2
def ReadAns (w : World) (g : Nat) (z : (Int × Int) × Int) (e : Ending) (w' : World) : Prop :=
  e = .returned (.tuple #[.agg #[.int .i64 z.1.1, .int .i64 z.1.2], .int .i64 z.2]) ∧ ∀ B, B ≤ g → B ≤ w.heap.size → Below B w w'
theorem grown_to {w0 w w' : World} {g B : Nat} (h : Below B w0 w) (hg : w.grownBy w' (some g)) (hB : B ≤ g) (hs : B ≤ w.heap.size) : Below B w0 w' := h.grown hg hs fun i hi => by injection hi with hi; omega
set_option maxRecDepth 100000 in
set_option maxHeartbeats 1000000 in
theorem mread_nil (w : World) : Calls Try.prog 77 #[.pointer none] w fun e w' => e = .returned (.tuple #[.agg #[.int .i64 0, .int .i64 0], .int .i64 10]) ∧ Below w.heap.size w w' := by
  have P1 := Lib.hid num_nil
  have P2 := Lib.hid bad_nil
  go_enter Try.func77, Try.ntmps77
  go_wp2_with fail
  refine (P1.out _).mono ?_; rintro e w' ⟨rfl, rfl⟩
  go_wp2_with fail
  refine (P1.out _).mono ?_; rintro e w' ⟨rfl, rfl⟩
  go_wp2_with fail
  refine (P2.out _).mono ?_; rintro e w' ⟨rfl, rfl⟩
  go_wp2
  refine bodyPost_ret (results_cell_tmp_row rfl _ _ w.heap.size 47 #[.int .i64 0, .int .i64 0] (0, 0) _ rfl (show Blk _ _ _ _ by repeat (first | (refine blk_top _ _ _ _ ?_; simp; done) | refine Blk.alloc ?_ _)) Try.underlying47 rfl info_mo) rfl ?_
  exact ⟨rfl, by (repeat (refine below_trans ?_ (alloc_below _ _))); exact Below.refl _ _⟩
set_option maxRecDepth 100000 in
set_option maxHeartbeats 2000000 in
theorem mread_at (g h : Nat) (s : Option (List UInt8)) (w : World) (r : RdAt 151 w g h s) :
    Calls Try.prog 77 #[.pointer (some ⟨g, 0, none⟩)] w (ReadAns w g (readMo s)) := by
  have hlt := r.lt
  have R0 := Lib.hid (r.below (alloc_below w (.cells #[.int .i64 0, .int .i64 0] 47)))
  have H0 := Lib.hid (alloc_below w (.cells #[.int .i64 0, .int .i64 0] 47))
  have HK0 := Lib.hid (show Blk (w.alloc (.cells #[.int .i64 0, .int .i64 0] 47)) w.heap.size 47 #[.int .i64 0, .int .i64 0] from Blk.new w _ _)
  obtain ⟨x, s1, hx⟩ : ∃ x s1, numM s = (x, s1) := ⟨_, _, rfl⟩
  obtain ⟨y, s2, hy⟩ : ∃ y s2, numM s1 = (y, s2) := ⟨_, _, rfl⟩
  have hz : readMo s = (if s2 = none then ((0, 0), 10) else if okMo ((x : Int), (y : Int)) = true then (((x : Int), (y : Int)), 0) else ((0, 0), 40)) := by unfold readMo; rw [hx]; simp only; rw [hy]
  obtain ⟨z, hzz⟩ : ∃ z, readMo s = z := ⟨_, rfl⟩
  rw [hzz] at hz ⊢
  have HZ := Lib.hid hz
  have HX := Lib.hid hx
  have HY := Lib.hid hy
  clear r hx hy hz hzz
  go_enter Try.func77, Try.ntmps77
  go_wp2_with fail
  refine (num_at g h s _ R0.out).mono ?_
  rw [HX.out]
  rintro e w1 ⟨rfl, r1, g1⟩
  have HK1 := Lib.hid (HK0.out.grown g1 (by simp; omega))
  have R1 := Lib.hid r1
  have G1 := Lib.hid g1
  have hs1 : w.heap.size < w1.heap.size := HK1.out.lt
  clear r1 g1
  go_wp2_with fail
  refine (num_at g h s1 _ R1.out).mono ?_
  rw [HY.out]
  rintro e w2 ⟨rfl, r2, g2⟩
  have HK2 := Lib.hid (HK1.out.grown g2 (by simp; omega))
  have G2 := Lib.hid g2
  have HBB := Lib.hid (fun B (hB : B ≤ g) (hs : B ≤ w.heap.size) => grown_to (grown_to (H0.out.mono hs) G1.out hB (by rw [World.size_alloc]; omega)) g2 hB (by omega))
  have R2 := Lib.hid (r2.below (alloc_below w2 (.cells #[.int .i64 (x : Int), .int .i64 (y : Int)] 47)))
  have hs2 : w.heap.size < w2.heap.size := HK2.out.lt
  clear r2 g2
  go_wp2_with fail
  refine (bad_at g h s2 _ R2.out).mono ?_
  rintro e w' ⟨rfl, rfl⟩
  have c0 := HK2.out.cell 0
  have c1 := HK2.out.cell 1
  simp at c0 c1
  have f0 := HK2.out.frozen 0
  have f1 := HK2.out.frozen 1
  have hne : ¬ w.heap.size = w2.heap.size := by omega
  have HRES := Lib.hid (fun (v0 v1 : Value) (o : Obj) => (show Blk (((w2.setCell ⟨w.heap.size, 0, none⟩ v0).setCell ⟨w.heap.size, 1, none⟩ v1).alloc o) w.heap.size 47 #[v0, v1] from ((HK2.out.set_ 0 v0).set_ 1 v1).alloc o))
  have HBL := Lib.hid (fun (v0 v1 : Value) (o : Obj) B (hB : B ≤ g) (hs : B ≤ w.heap.size) => (below_setCell (below_setCell (HBB.out B hB hs) (p := ⟨w.heap.size, 0, none⟩) hs v0) (p := ⟨w.heap.size, 1, none⟩) hs v1).alloc (by simp; omega) o)
  cases s2 with
  | none =>
    simp only [Option.isNone_none]
    go_wp2
    refine bodyPost_ret (results_cell_tmp_row rfl _ _ w.heap.size 47 #[.int .i64 0, .int .i64 0] (0, 0) _ rfl (HRES.out _ _ _) Try.underlying47 rfl info_mo) rfl ?_
    rw [show z = ((0, 0), 10) by rw [HZ.out]; simp]
    exact ⟨rfl, HBL.out _ _ _⟩
  | some l2 =>
    have P4 := Lib.hid (fun W => check_any (x : Int) (y : Int) W)
    have HZ2 := Lib.hid (show z = (if okMo ((x : Int), (y : Int)) = true then (((x : Int), (y : Int)), 0) else ((0, 0), 40)) by rw [HZ.out, if_neg (by simp)])
    clear HZ
    cases hok : okMo ((x : Int), (y : Int))
    · rw [moE_no hok] at P4
      have HZ3 := Lib.hid (show z = ((0, 0), 40) by rw [HZ2.out, hok]; rfl)
      clear hok HZ2
      simp only [Option.isNone_some]
      go_wp2_with fail
      refine (P4.out _).mono ?_; rintro e w3 ⟨rfl, b3⟩
      have hs3 : w2.heap.size < w3.heap.size := Nat.lt_of_lt_of_le (by rw [World.size_alloc]; exact Nat.lt_succ_self _) b3.size
      have HK3 := Lib.hid ((HK2.out.alloc (.cells #[.int .i64 (x : Int), .int .i64 (y : Int)] 47)).below b3 (by rw [World.size_alloc]; omega))
      have HBB3 := Lib.hid (fun B (hB : B ≤ g) (hs : B ≤ w.heap.size) => ((HBB.out B hB hs).alloc (by omega) (.cells #[.int .i64 (x : Int), .int .i64 (y : Int)] 47)).trans (b3.mono (by rw [World.size_alloc]; omega)))
      have q0 := box_cell b3 0 (.int .i64 (x : Int)) rfl
      have q1 := box_cell b3 1 (.int .i64 (y : Int)) rfl
      clear c0 c1 f0 f1 b3
      have c0 := HK3.out.cell 0
      have c1 := HK3.out.cell 1
      simp at c0 c1
      have f0 := HK3.out.frozen 0
      have f1 := HK3.out.frozen 1
      have HRES3 := Lib.hid (fun (v0 v1 : Value) => (show Blk ((w3.setCell ⟨w.heap.size, 0, none⟩ v0).setCell ⟨w.heap.size, 1, none⟩ v1) w.heap.size 47 #[v0, v1] from (HK3.out.set_ 0 v0).set_ 1 v1))
      have HBL3 := Lib.hid (fun (v0 v1 : Value) B (hB : B ≤ g) (hs : B ≤ w.heap.size) => below_setCell (below_setCell (HBB3.out B hB hs) (p := ⟨w.heap.size, 0, none⟩) hs v0) (p := ⟨w.heap.size, 1, none⟩) hs v1)
      go_wp2
      refine bodyPost_ret (results_cell_tmp_row rfl _ _ w.heap.size 47 #[.int .i64 0, .int .i64 0] (0, 0) _ rfl (HRES3.out _ _) Try.underlying47 rfl info_mo) rfl ?_
      rw [HZ3.out]
      exact ⟨rfl, HBL3.out _ _⟩
    · rw [moE_ok hok] at P4
      have HZ3 := Lib.hid (show z = (((x : Int), (y : Int)), 0) by rw [HZ2.out, if_pos hok])
      clear hok HZ2
      simp only [Option.isNone_some]
      go_wp2_with fail
      refine (P4.out _).mono ?_; rintro e w3 ⟨rfl, b3⟩
      have hs3 : w2.heap.size < w3.heap.size := Nat.lt_of_lt_of_le (by rw [World.size_alloc]; exact Nat.lt_succ_self _) b3.size
      have HK3 := Lib.hid ((HK2.out.alloc (.cells #[.int .i64 (x : Int), .int .i64 (y : Int)] 47)).below b3 (by rw [World.size_alloc]; omega))
      have HBB3 := Lib.hid (fun B (hB : B ≤ g) (hs : B ≤ w.heap.size) => ((HBB.out B hB hs).alloc (by omega) (.cells #[.int .i64 (x : Int), .int .i64 (y : Int)] 47)).trans (b3.mono (by rw [World.size_alloc]; omega)))
      have q0 := box_cell b3 0 (.int .i64 (x : Int)) rfl
      have q1 := box_cell b3 1 (.int .i64 (y : Int)) rfl
      clear c0 c1 f0 f1 b3
      have c0 := HK3.out.cell 0
      have c1 := HK3.out.cell 1
      simp at c0 c1
      have f0 := HK3.out.frozen 0
      have f1 := HK3.out.frozen 1
      have HRES3 := Lib.hid (fun (v0 v1 : Value) => (show Blk ((w3.setCell ⟨w.heap.size, 0, none⟩ v0).setCell ⟨w.heap.size, 1, none⟩ v1) w.heap.size 47 #[v0, v1] from (HK3.out.set_ 0 v0).set_ 1 v1))
      have HBL3 := Lib.hid (fun (v0 v1 : Value) B (hB : B ≤ g) (hs : B ≤ w.heap.size) => below_setCell (below_setCell (HBB3.out B hB hs) (p := ⟨w.heap.size, 0, none⟩) hs v0) (p := ⟨w.heap.size, 1, none⟩) hs v1)
      go_wp2
      refine bodyPost_ret (results_cell_tmp_row rfl _ _ w.heap.size 47 #[.int .i64 (x : Int), .int .i64 (y : Int)] (0, 0) _ rfl (HRES3.out _ _) Try.underlying47 rfl info_mo) rfl ?_
      rw [HZ3.out]
      exact ⟨rfl, HBL3.out _ _⟩
end Go.Proofs.Ytfmmdnjoichifaa
