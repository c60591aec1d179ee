/- Package entry: what must come of every program (lives). -/
import Derived.Test.YtalefgcdhakfoaaEnH
namespace Go.Proofs.Ytalefgcdhakfoaa
open Go.RowKit Go.Sort

theorem load_sl_at (p : Addr) (A : Option Addr) (n c : Nat) (w : World) (h : w.cell? p = some (.slice A n c)) : (Instr.loadAt 30 (.pointer (some p))).run Try.prog w = .ok (.slice A n c) w := by
  go_simp
theorem conv_at {w1 : World} {h : Nat} {A : Option Addr} {l : List UInt8} (s : SlB w1 h A l) (c : Nat) {n : Nat} (hn : n = l.length) :
    ∀ w, RB w1 w → (convert 30 9 (.slice A n c)).run Try.prog w = .ok (.string ⟨l.toArray⟩) w :=
  fun w hb => run_convB w Try.underlying30 Try.underlying5 Try.underlying9 c ((s.below hb fun h => h).reads hn)
theorem below_drew {B : Nat} {w w' : World} (h : Below B w w') : Below B w w'.drew := ⟨h.os, h.tape, h.output, h.size, h.block⟩
theorem addr_add0 (g j : Nat) : (⟨g, 0, none⟩ : Addr).add j = ⟨g, j, none⟩ := by unfold Addr.add; split <;> simp_all
theorem own_cell {w : World} {base e n c g : Nat} {xs : List Value} (h : w.ownsRow base e 1 (.slice (some ⟨g, 0, none⟩) n c) n xs) {j : Nat} {u : Value} (hj : xs[j]? = some u) : w.cell? ⟨g, j, none⟩ = some u := by
  have := h.cells (g := g) rfl j u hj
  rwa [addr_add0] at this
def liA : En := ((1, 2), (3, 4))
def liB : En := ((1, 1), (9, 9))
theorem slk_new (W : World) (l : List En) (cs : Array Value) (hcs : cs.toList = RowV encE l) : SlK encE (W.alloc (.cells cs 98)) W.heap.size (some ⟨W.heap.size, 0, none⟩) l := fun _ =>
  ⟨by simp, 0, rfl, fun j u hj => by
    rw [Nat.zero_add, (Blk.new W 98 cs).cell j, ← Array.getElem?_toList, hcs]
    exact hj⟩
theorem slp_new (w : World) (x y : Int) : SlP (w.alloc (.cells #[.int .i64 x, .int .i64 y] 94)) w.heap.size (some ⟨w.heap.size, 0, none⟩) [(x, y)] := fun _ =>
  ⟨by simp, 0, rfl, fun j u hj => by
    rw [Nat.zero_add, (Blk.new w 94 _).cell j]
    match j, hj with
    | 0, hj => exact hj
    | 1, hj => exact hj
    | j + 2, hj => exact hj⟩
theorem new_slb (w : World) (t : TypeId) (l : List UInt8) (fr : Nat × Nat) : SlB (w.alloc (.cells (Byt l).toArray t fr)) w.heap.size (some ⟨w.heap.size, 0, none⟩) l := fun _ =>
  ⟨_, rfl, rfl, fun j b hj => by
    have h := cell_of_row (w.alloc (.cells (Byt l).toArray t fr)) w.heap.size j (Byt l).toArray t fr (heap_alloc_new w _)
    have e : (⟨w.heap.size, 0, none⟩ : Addr).add j = ⟨w.heap.size, j, none⟩ := by unfold Addr.add; split <;> simp_all
    rw [e, h, List.getElem?_toArray]
    unfold Byt
    rw [List.getElem?_map, hj]
    rfl⟩
theorem slb_new (W : World) (l : List UInt8) (cs : Array Value) (hcs : cs.toList = Byt l) : SlB (W.alloc (.cells cs 5)) W.heap.size (some ⟨W.heap.size, 0, none⟩) l := by
  have e : cs = (Byt l).toArray := by rw [← hcs]
  subst e
  exact new_slb W _ l (0, 0)
theorem load_en_box {W0 W : World} {g : Nat} {x : En} (h : EnBox W0 g x) (hb : RB W0 W) : (Instr.loadAt 98 (.pointer (some ⟨g, 0, none⟩))).run Try.prog W = .ok (enV x) W := by
  have k := h.below hb
  exact load_en_at g 0 x W (fun i u hi => by rw [Nat.zero_add]; exact k.2 i u hi)
theorem li_srt : srtE [liA, liB] = [liB, liA] := (srtE_unique (l := [liA, liB]) (m := [liB, liA]) ((sortedE_srt [liB, liA]).1 (by decide)) (List.Perm.swap _ _ _)).symm
theorem li_may : mayEs [liA, liB] = 0 := by decide
theorem li_pack : packM [liA, liB] = [[1, 2, 3, 4, 1, 1, 9, 9]] := by decide
theorem li_unp : unpM [1, 2, 3, 4] = some [liA] := by decide
theorem li_unp3 : unpM [1, 2, 3] = none := by decide
theorem li_size : sizeE liA = 4 := by decide
/-- One pack's row. -/
def One (w : World) (A' : Option Addr) : Prop :=
  ∃ (g : Nat) (A2 : Option Addr) (h2 c2 : Nat), A' = some ⟨g, 0, none⟩ ∧ w.cell? ⟨g, 0, none⟩ = some (.slice A2 8 c2) ∧ g < w.heap.size ∧ SlB w h2 A2 [1, 2, 3, 4, 1, 1, 9, 9]
theorem One.below {w w' : World} {A' : Option Addr} (h : One w A') (hb : Below w.heap.size w w') : One w' A' := by
  obtain ⟨g, A2, h2, c2, e, hc, hg, hs⟩ := h
  exact ⟨g, A2, h2, c2, e, (hb.cell (p := ⟨g, 0, none⟩) hg).trans hc, Nat.lt_of_lt_of_le hg hb.size, hs.below hb fun h => h⟩
theorem Pgs.one {w : World} {base c : Nat} {A' : Option Addr} (h : Pgs w base (.slice A' 1 c) [[1, 2, 3, 4, 1, 1, 9, 9]]) : One w A' := by
  obtain ⟨xs, hl, ho, hp⟩ := h
  obtain ⟨x, rfl⟩ : ∃ x, xs = [x] := by
    match xs, hl with
    | [x], _ => exact ⟨x, rfl⟩
  obtain ⟨A2, n2, c2⟩ := x
  have h1 := hp 0 _ _ rfl rfl
  obtain ⟨hn, ho2⟩ := h1
  simp only at hn
  subst hn
  obtain ⟨g, cap, hv, -, -⟩ := ho.form (by decide)
  injection hv with hv1 hv2 hv3
  subst hv1
  obtain ⟨h2, -, hs, -⟩ := SlB.of_own ho2
  exact ⟨g, A2, h2, c2, rfl, own_cell ho (j := 0) rfl, (World.ownsRow.lt ho g rfl).2, hs⟩
set_option maxRecDepth 100000 in
set_option maxHeartbeats 8000000 in
theorem lives_any (w : World) : Calls Try.prog 25 #[] w fun e w' => e = .returned (.bool true) ∧ Below w.heap.size w w' := by
  have P1 := Lib.hid (show ∀ (W : World) (h : Nat) (A : Option Addr) (s : SlK encE W h A [liA, liB]), Calls Try.prog 52 #[.slice A 2 2] W (fun e w' => ∃ A' c', e = .returned (.tuple #[.slice A' 2 c', .int .i64 0]) ∧ RowE W [liB, liA] A' c' w') from fun W h A s => (en_sort_any A h [liA, liB] 2 W s (by decide)).mono fun e w' => by
    rintro (⟨hz, -⟩ | ⟨-, A', c', he, hr⟩)
    · exact absurd li_may hz
    · rw [li_srt] at hr
      exact ⟨A', c', he, hr⟩)
  have P2 := Lib.hid (show ∀ (W : World) (h : Nat) (A : Option Addr) (s : SlK encE W h A [liA, liB]), Calls Try.prog 26 #[.slice A 2 2] W (fun e w' => ∃ A' c', e = .returned (.tuple #[.slice A' 1 c', .int .i64 0]) ∧ One w' A' ∧ Below W.heap.size W w') from fun W h A s => (en_pack_any A h [liA, liB] 2 W s (by decide)).mono fun e w' => by
    rintro (⟨hz, -⟩ | ⟨-, A', c', he, hr, hb⟩)
    · exact absurd li_may hz
    · rw [li_pack] at he hr
      exact ⟨A', c', he, hr.one, hb⟩)
  have P3 := Lib.hid (show ∀ (W : World) (h : Nat) (A : Option Addr) (s : SlB W h A [1, 2, 3, 4]), Calls Try.prog 29 #[.slice A 4 4] W (fun e w' => ∃ A' c', e = .returned (.tuple #[.slice A' 1 c', .int .i64 0]) ∧ RowE W [liA] A' c' w') from fun W h A s => (en_unpack_any A h [1, 2, 3, 4] 4 W s (by decide)).mono fun e w' => by
    rintro (⟨hz, -⟩ | ⟨l, A', c', hz, he, hr⟩)
    · rw [li_unp] at hz; cases hz
    · rw [li_unp] at hz
      injection hz with hz
      subst hz
      exact ⟨A', c', he, hr⟩)
  have P4 := Lib.hid (show ∀ (W : World) (h : Nat) (A : Option Addr) (s : SlB W h A [1, 2, 3]), Calls Try.prog 29 #[.slice A 3 3] W (fun e w' => e = .returned (.tuple #[.slice none 0 0, .int .i64 10]) ∧ Below W.heap.size W w') from fun W h A s => (en_unpack_any A h [1, 2, 3] 3 W s (by decide)).mono fun e w' => by
    rintro (⟨-, he, hb⟩ | ⟨l, A', c', hz, -⟩)
    · exact ⟨he, hb⟩
    · rw [li_unp3] at hz; cases hz)
  have P5 := Lib.hid (show ∀ (W : World) (h g c : Nat) (A B : Option Addr) (s : SlK encE W h A [liB, liA]) (t : SlK encE W g B [liB, liA]), Calls Try.prog 30 #[.slice A 2 c, .slice B 2 2] W (fun e w' => e = .returned (.bool true) ∧ Below W.heap.size W w') from fun W h g c A B s t => ren_same_any A B h g [liB, liA] [liB, liA] c 2 W s t (by decide) (by decide))
  have P6 := Lib.hid (show ∀ (W : World), Calls Try.prog 53 #[enV liA] W (fun e w' => e = .returned (.int .i64 4) ∧ Below W.heap.size W w') from fun W => li_size ▸ en_size_any liA W)
  have P7 := Lib.hid (show ∀ (W : World), Calls Try.prog 54 #[enV liA, enV liB] W (fun e w' => e = .returned (.int .i64 1) ∧ Below W.heap.size W w') from fun W => en_compare_any liA liB W)
  have P8 := Lib.hid (show ∀ (W : World) (h c : Nat) (A : Option Addr) (s : SlK encE W h A [liB, liA]), Calls Try.prog 55 #[.slice A 2 c] W (fun e w' => e = .returned (.bool true) ∧ Below W.heap.size W w') from fun W h c A s => (show sortedE [liB, liA] = true by decide) ▸ en_sorted_any A h [liB, liA] c W s (by decide))
  have P9 := Lib.hid (show ∀ (W : World) (h c : Nat) (A : Option Addr) (s : SlK encE W h A [liB, liA]), Calls Try.prog 56 #[.slice A 2 c, .agg #[.int .i64 1, .int .i64 2]] W (fun e w' => ∃ A' c', e = .returned (.slice A' 1 c') ∧ Below W.heap.size W w') from fun W h c A s => (en_at_any A h [liB, liA] c (1, 2) W s (by decide)).mono fun e w' ⟨A', c', he, _, hb⟩ => ⟨A', c', he, hb⟩)
  have P10 := Lib.hid (show ∀ (W : World) (h c hf : Nat) (A F : Option Addr) (s : SlK encE W h A [liB, liA]) (t : SlP W hf F [(1, 2)]), Calls Try.prog 57 #[.slice A 2 c, .slice F 1 1] W (fun e w' => ∃ A' c', e = .returned (.slice A' 1 c') ∧ Below W.heap.size W w') from fun W h c hf A F s t => (en_behind_any A h [liB, liA] c F hf [(1, 2)] 1 W s (by decide) t (by decide)).mono fun e w' ⟨A', c', he, _, hb⟩ => ⟨A', c', he, hb⟩)
  have P11 := Lib.hid (show ∀ (W : World), Calls Try.prog 58 #[.agg #[.int .i64 (-1), .int .i64 0, .int .i64 0, .int .i64 0]] W (fun e w' => e = .returned (.int .i64 40) ∧ Below W.heap.size W w') from fun W => en_check_any (-1) 0 0 0 W)
  have hb0 := (EnBox.new w liA 98).below (alloc_below _ (.cells #[.int .i64 1, .int .i64 1, .int .i64 9, .int .i64 9] 98))
  have hb1 := EnBox.new (w.alloc (.cells #[.int .i64 1, .int .i64 2, .int .i64 3, .int .i64 4] 98)) liB 98
  rw [World.size_alloc] at hb1
  have hbl := below_trans (alloc_below w (.cells #[.int .i64 1, .int .i64 2, .int .i64 3, .int .i64 4] 98)) (alloc_below _ (.cells #[.int .i64 1, .int .i64 1, .int .i64 9, .int .i64 9] 98))
  have hsz : ((w.alloc (.cells #[.int .i64 1, .int .i64 2, .int .i64 3, .int .i64 4] 98)).alloc (.cells #[.int .i64 1, .int .i64 1, .int .i64 9, .int .i64 9] 98)).heap.size = w.heap.size + 1 + 1 := by rw [World.size_alloc, World.size_alloc]
  obtain ⟨W0, hW0⟩ : ∃ W0, W0 = (w.alloc (.cells #[.int .i64 1, .int .i64 2, .int .i64 3, .int .i64 4] 98)).alloc (.cells #[.int .i64 1, .int .i64 1, .int .i64 9, .int .i64 9] 98) := ⟨_, rfl⟩
  rw [show (w.alloc (.cells (encE liA).toArray 98)).alloc (.cells #[.int .i64 1, .int .i64 1, .int .i64 9, .int .i64 9] 98) = W0 from hW0.symm] at hb0
  rw [show (w.alloc (.cells #[.int .i64 1, .int .i64 2, .int .i64 3, .int .i64 4] 98)).alloc (.cells (encE liB).toArray 98) = W0 from hW0.symm] at hb1
  rw [← hW0] at hsz hbl
  have HA := Lib.hid hb0
  have HB := Lib.hid hb1
  have B0 := Lib.hid hbl
  have HSZ := Lib.hid hsz
  have HW := Lib.hid hW0
  clear hb0 hb1 hbl hsz hW0
  go_enter Try.func25, Try.ntmps25
  go_wp2_with fail
  rw [← HW.out, ← HSZ.out]
  refine (P1.out _ _ _ (slk_new W0 [liA, liB] _ rfl)).mono ?_; rintro e w3 ⟨A3, c3, rfl, ⟨h3, s3⟩, b3, -⟩
  have B3 := Lib.hid (below_trans (alloc_below W0 _) b3)
  have S3 := Lib.hid s3
  obtain ⟨q0, q1, q2, q3⟩ := (HA.out.below B3.out).four
  obtain ⟨q4, q5, q6, q7⟩ := (HB.out.below B3.out).four
  clear s3 b3
  go_wp2_with fail
  refine (P2.out _ _ _ (slk_new w3 [liA, liB] _ rfl)).mono ?_; rintro e w4 ⟨A4, c4, rfl, o4, b4⟩
  have b4' := below_trans (alloc_below w3 _) b4
  have B4 := Lib.hid (below_trans B3.out b4')
  have S4 := Lib.hid (S3.out.below b4')
  have O4 := Lib.hid o4
  clear q0 q1 q2 q3 q4 q5 q6 q7 b4 b4' o4
  go_wp2_with fail
  refine (P3.out _ _ _ (slb_new w4 [1, 2, 3, 4] _ rfl)).mono ?_; rintro e w5 ⟨A5, c5, rfl, ⟨h5, s5⟩, b5, -⟩
  have b5' := below_trans (alloc_below w4 _) b5
  have B5 := Lib.hid (below_trans B4.out b5')
  have S5 := Lib.hid (S4.out.below b5')
  have O5 := Lib.hid (O4.out.below b5')
  have D5 := Lib.hid s5
  clear b5 b5' s5
  go_wp2_with fail
  refine (P4.out _ _ _ (slb_new w5 [1, 2, 3] _ rfl)).mono ?_; rintro e w6 ⟨rfl, b6⟩
  have b6' := below_trans (alloc_below w5 _) b6
  have B6 := Lib.hid (below_drew (below_trans B5.out b6'))
  have S6 := Lib.hid (show SlK encE w6.drew h3 A3 [liB, liA] from S5.out.below (below_drew b6'))
  have O6 := Lib.hid (show One w6.drew A4 from O5.out.below (below_drew b6'))
  have D6 := Lib.hid (show SlK encE w6.drew h5 A5 [liA] from D5.out.below (below_drew b6'))
  have KA := Lib.hid (HA.out.below B6.out)
  have KB := Lib.hid (HB.out.below B6.out)
  have LA := Lib.hid (show ∀ W, RB w6.drew W → (Instr.loadAt 98 (.pointer (some ⟨w.heap.size, 0, none⟩))).run Try.prog W = .ok (.agg #[.int .i64 1, .int .i64 2, .int .i64 3, .int .i64 4]) W from fun W hW => load_en_box KA.out hW)
  have LB := Lib.hid (show ∀ W, RB w6.drew W → (Instr.loadAt 98 (.pointer (some ⟨w.heap.size + 1, 0, none⟩))).run Try.prog W = .ok (.agg #[.int .i64 1, .int .i64 1, .int .i64 9, .int .i64 9]) W from fun W hW => load_en_box KB.out hW)
  have LM := Lib.hid (show ∀ W, RB w6.drew W → (Instr.loadAt 94 (.pointer (some ⟨w.heap.size, 0, none⟩))).run Try.prog W = .ok (.agg #[.int .i64 1, .int .i64 2]) W from fun W hW => load_mo_box KA.out hW)
  clear b6 b6'
  go_wp2_with fail
  simp only [List.append_eq, List.cons_append, List.nil_append]
  refine wp_region_R (R := RB) (n := 84) (by kernel_rfl) rfl ?_
  refine batchB [0, 1, 2, 3, 4, 5] (fuel := 78) rfl (by kernel_rfl) (by kernel_rfl) (fun _ _ d _ _ h => by cases d <;> exact h) ?_
  (repeat (first | ((with_reducible apply wq0); rfl; rfl; rfl; intro K hK; go_big_quiet_op; refine hK _ ?_; clear hK K) | ((with_reducible apply wq1); rfl; rfl; rfl; rfl; rfl; rfl; intro K hK; go_big_quiet_op; refine hK _ ?_; clear hK K) | ((with_reducible apply wqs); rfl; rfl; rfl; rfl; rfl; rfl; simp only [Act.put, List.setIfInBounds_toArray, List.set_cons_zero, List.set_cons_succ]) | ((with_reducible apply wqu); rfl; rfl; rfl; rfl; rfl; (first | simp only [same, Act.put, List.setIfInBounds_toArray, List.set_cons_zero, List.set_cons_succ] | simp only [Act.put, List.setIfInBounds_toArray, List.set_cons_zero, List.set_cons_succ]))))
  refine wqIdx_load rfl rfl rfl rfl LB.out ?_
  simp only [Act.put, List.setIfInBounds_toArray, List.set_cons_zero, List.set_cons_succ]
  (repeat (first | ((with_reducible apply wq0); rfl; rfl; rfl; intro K hK; go_big_quiet_op; refine hK _ ?_; clear hK K) | ((with_reducible apply wq1); rfl; rfl; rfl; rfl; rfl; rfl; intro K hK; go_big_quiet_op; refine hK _ ?_; clear hK K) | ((with_reducible apply wqs); rfl; rfl; rfl; rfl; rfl; rfl; simp only [Act.put, List.setIfInBounds_toArray, List.set_cons_zero, List.set_cons_succ]) | ((with_reducible apply wqu); rfl; rfl; rfl; rfl; rfl; (first | simp only [same, Act.put, List.setIfInBounds_toArray, List.set_cons_zero, List.set_cons_succ] | simp only [Act.put, List.setIfInBounds_toArray, List.set_cons_zero, List.set_cons_succ]))))
  refine wqIdx_load rfl rfl rfl rfl LA.out ?_
  simp only [Act.put, List.setIfInBounds_toArray, List.set_cons_zero, List.set_cons_succ]
  (repeat (first | ((with_reducible apply wq0); rfl; rfl; rfl; intro K hK; go_big_quiet_op; refine hK _ ?_; clear hK K) | ((with_reducible apply wq1); rfl; rfl; rfl; rfl; rfl; rfl; intro K hK; go_big_quiet_op; refine hK _ ?_; clear hK K) | ((with_reducible apply wqs); rfl; rfl; rfl; rfl; rfl; rfl; simp only [Act.put, List.setIfInBounds_toArray, List.set_cons_zero, List.set_cons_succ]) | ((with_reducible apply wqu); rfl; rfl; rfl; rfl; rfl; (first | simp only [same, Act.put, List.setIfInBounds_toArray, List.set_cons_zero, List.set_cons_succ] | simp only [Act.put, List.setIfInBounds_toArray, List.set_cons_zero, List.set_cons_succ]))))
  refine wqIdx_nil ?_
  refine wpAnyR_sole (i := 6) rfl (by kernel_rfl) (fun K hK => ?_); go_simp
  refine hK _ _ (alloc_below w6.drew _) ?_
  clear hK K
  have B7 := Lib.hid (alloc_below w6.drew (.cells #[.int .i64 1, .int .i64 1, .int .i64 9, .int .i64 9, .int .i64 1, .int .i64 2, .int .i64 3, .int .i64 4] 98))
  refine wpAnyR_sole (i := 7) rfl (by kernel_rfl) (fun K hK => ?_); go_simp
  refine (P5.out _ _ _ _ _ _ (S6.out.below B7.out) (slk_new w6.drew [liB, liA] _ rfl)).mono ?_; rintro e w8 ⟨rfl, b8⟩
  refine hK _ _ b8 ?_
  clear hK K
  have B8 := Lib.hid (below_trans B7.out b8)
  clear b8
  obtain ⟨gp, A9, h9, c9, eP, cP, -, sP⟩ := O6.out.below B8.out
  subst eP
  have SP := Lib.hid sP
  have CP := Lib.hid cP
  obtain ⟨-, offd, eD, hcD⟩ := (D6.out.below B8.out).at_ layE (j := 0) rfl
  subst eD
  have LD := Lib.hid (show ∀ W, RB w8 W → (Instr.loadAt 98 (.pointer (some ⟨h5, offd, none⟩))).run Try.prog W = .ok (.agg #[.int .i64 1, .int .i64 2, .int .i64 3, .int .i64 4]) W from fun W hW => load_en_at h5 offd liA W (fun i u hi => by have := hcD i u hi; rw [Nat.zero_mul, Nat.add_zero] at this; exact keep_cell hW this))
  have LA8 := Lib.hid (fun W (hW : RB w8 W) => LA.out W (below_trans B8.out hW))
  clear cP sP hcD
  refine batchB [8, 9, 10, 11, 12, 13, 14, 15, 16, 17, 18, 19, 20, 21, 22, 23, 24, 25, 26, 27, 28, 29, 30, 31, 32, 33, 34, 35, 36, 37, 38, 39, 40, 41, 42, 43, 44, 45, 46] (fuel := 37) rfl (by kernel_rfl) (by kernel_rfl) (fun _ _ d _ _ h => by cases d <;> exact h) ?_
  (repeat (first | ((with_reducible apply wq0); rfl; rfl; rfl; intro K hK; go_big_quiet_op; refine hK _ ?_; clear hK K) | ((with_reducible apply wq1); rfl; rfl; rfl; rfl; rfl; rfl; intro K hK; go_big_quiet_op; refine hK _ ?_; clear hK K) | ((with_reducible apply wqs); rfl; rfl; rfl; rfl; rfl; rfl; simp only [Act.put, List.setIfInBounds_toArray, List.set_cons_zero, List.set_cons_succ]) | ((with_reducible apply wqu); rfl; rfl; rfl; rfl; rfl; (first | simp only [same, Act.put, List.setIfInBounds_toArray, List.set_cons_zero, List.set_cons_succ] | simp only [Act.put, List.setIfInBounds_toArray, List.set_cons_zero, List.set_cons_succ]))))
  refine wqIdx_load rfl rfl rfl rfl (fun W hW => load_sl_at _ A9 8 c9 W (keep_cell hW CP.out)) ?_
  simp only [Act.put, List.setIfInBounds_toArray, List.set_cons_zero, List.set_cons_succ]
  (repeat (first | ((with_reducible apply wq0); rfl; rfl; rfl; intro K hK; go_big_quiet_op; refine hK _ ?_; clear hK K) | ((with_reducible apply wq1); rfl; rfl; rfl; rfl; rfl; rfl; intro K hK; go_big_quiet_op; refine hK _ ?_; clear hK K) | ((with_reducible apply wqs); rfl; rfl; rfl; rfl; rfl; rfl; simp only [Act.put, List.setIfInBounds_toArray, List.set_cons_zero, List.set_cons_succ]) | ((with_reducible apply wqu); rfl; rfl; rfl; rfl; rfl; (first | simp only [same, Act.put, List.setIfInBounds_toArray, List.set_cons_zero, List.set_cons_succ] | simp only [Act.put, List.setIfInBounds_toArray, List.set_cons_zero, List.set_cons_succ]))))
  refine wqIdx_conv rfl rfl rfl rfl (conv_at SP.out c9 rfl) ?_
  simp only [Act.put, List.setIfInBounds_toArray, List.set_cons_zero, List.set_cons_succ]
  (repeat (first | ((with_reducible apply wq0); rfl; rfl; rfl; intro K hK; go_big_quiet_op; refine hK _ ?_; clear hK K) | ((with_reducible apply wq1); rfl; rfl; rfl; rfl; rfl; rfl; intro K hK; go_big_quiet_op; refine hK _ ?_; clear hK K) | ((with_reducible apply wqs); rfl; rfl; rfl; rfl; rfl; rfl; simp only [Act.put, List.setIfInBounds_toArray, List.set_cons_zero, List.set_cons_succ]) | ((with_reducible apply wqu); rfl; rfl; rfl; rfl; rfl; (first | simp only [same, Act.put, List.setIfInBounds_toArray, List.set_cons_zero, List.set_cons_succ] | simp only [Act.put, List.setIfInBounds_toArray, List.set_cons_zero, List.set_cons_succ]))))
  refine wqIdx_load rfl rfl rfl rfl LD.out ?_
  simp only [Act.put, List.setIfInBounds_toArray, List.set_cons_zero, List.set_cons_succ]
  (repeat (first | ((with_reducible apply wq0); rfl; rfl; rfl; intro K hK; go_big_quiet_op; refine hK _ ?_; clear hK K) | ((with_reducible apply wq1); rfl; rfl; rfl; rfl; rfl; rfl; intro K hK; go_big_quiet_op; refine hK _ ?_; clear hK K) | ((with_reducible apply wqs); rfl; rfl; rfl; rfl; rfl; rfl; simp only [Act.put, List.setIfInBounds_toArray, List.set_cons_zero, List.set_cons_succ]) | ((with_reducible apply wqu); rfl; rfl; rfl; rfl; rfl; (first | simp only [same, Act.put, List.setIfInBounds_toArray, List.set_cons_zero, List.set_cons_succ] | simp only [Act.put, List.setIfInBounds_toArray, List.set_cons_zero, List.set_cons_succ]))))
  refine wqIdx_load rfl rfl rfl rfl LA8.out ?_
  simp only [Act.put, List.setIfInBounds_toArray, List.set_cons_zero, List.set_cons_succ]
  (repeat (first | ((with_reducible apply wq0); rfl; rfl; rfl; intro K hK; go_big_quiet_op; refine hK _ ?_; clear hK K) | ((with_reducible apply wq1); rfl; rfl; rfl; rfl; rfl; rfl; intro K hK; go_big_quiet_op; refine hK _ ?_; clear hK K) | ((with_reducible apply wqs); rfl; rfl; rfl; rfl; rfl; rfl; simp only [Act.put, List.setIfInBounds_toArray, List.set_cons_zero, List.set_cons_succ]) | ((with_reducible apply wqu); rfl; rfl; rfl; rfl; rfl; (first | simp only [same, Act.put, List.setIfInBounds_toArray, List.set_cons_zero, List.set_cons_succ] | simp only [Act.put, List.setIfInBounds_toArray, List.set_cons_zero, List.set_cons_succ]))))
  refine wqIdx_load rfl rfl rfl rfl LA8.out ?_
  simp only [Act.put, List.setIfInBounds_toArray, List.set_cons_zero, List.set_cons_succ]
  (repeat (first | ((with_reducible apply wq0); rfl; rfl; rfl; intro K hK; go_big_quiet_op; refine hK _ ?_; clear hK K) | ((with_reducible apply wq1); rfl; rfl; rfl; rfl; rfl; rfl; intro K hK; go_big_quiet_op; refine hK _ ?_; clear hK K) | ((with_reducible apply wqs); rfl; rfl; rfl; rfl; rfl; rfl; simp only [Act.put, List.setIfInBounds_toArray, List.set_cons_zero, List.set_cons_succ]) | ((with_reducible apply wqu); rfl; rfl; rfl; rfl; rfl; (first | simp only [same, Act.put, List.setIfInBounds_toArray, List.set_cons_zero, List.set_cons_succ] | simp only [Act.put, List.setIfInBounds_toArray, List.set_cons_zero, List.set_cons_succ]))))
  refine wqIdx_nil ?_
  refine wpAnyR_sole (i := 47) rfl (by kernel_rfl) (fun K hK => ?_); go_simp
  refine (P6.out _).mono ?_; rintro e w9 ⟨rfl, b9⟩
  refine hK _ _ b9 ?_
  clear hK K
  have B9 := Lib.hid (below_trans B8.out b9)
  clear b9
  refine batchB [48, 49, 50, 51, 52] (fuel := 31) rfl (by kernel_rfl) (by kernel_rfl) (fun _ _ d _ _ h => by cases d <;> exact h) ?_
  (repeat (first | ((with_reducible apply wq0); rfl; rfl; rfl; intro K hK; go_big_quiet_op; refine hK _ ?_; clear hK K) | ((with_reducible apply wq1); rfl; rfl; rfl; rfl; rfl; rfl; intro K hK; go_big_quiet_op; refine hK _ ?_; clear hK K) | ((with_reducible apply wqs); rfl; rfl; rfl; rfl; rfl; rfl; simp only [Act.put, List.setIfInBounds_toArray, List.set_cons_zero, List.set_cons_succ]) | ((with_reducible apply wqu); rfl; rfl; rfl; rfl; rfl; (first | simp only [same, Act.put, List.setIfInBounds_toArray, List.set_cons_zero, List.set_cons_succ] | simp only [Act.put, List.setIfInBounds_toArray, List.set_cons_zero, List.set_cons_succ]))))
  refine wqIdx_load rfl rfl rfl rfl (fun W hW => LA.out W (below_trans B9.out hW)) ?_
  simp only [Act.put, List.setIfInBounds_toArray, List.set_cons_zero, List.set_cons_succ]
  (repeat (first | ((with_reducible apply wq0); rfl; rfl; rfl; intro K hK; go_big_quiet_op; refine hK _ ?_; clear hK K) | ((with_reducible apply wq1); rfl; rfl; rfl; rfl; rfl; rfl; intro K hK; go_big_quiet_op; refine hK _ ?_; clear hK K) | ((with_reducible apply wqs); rfl; rfl; rfl; rfl; rfl; rfl; simp only [Act.put, List.setIfInBounds_toArray, List.set_cons_zero, List.set_cons_succ]) | ((with_reducible apply wqu); rfl; rfl; rfl; rfl; rfl; (first | simp only [same, Act.put, List.setIfInBounds_toArray, List.set_cons_zero, List.set_cons_succ] | simp only [Act.put, List.setIfInBounds_toArray, List.set_cons_zero, List.set_cons_succ]))))
  refine wqIdx_load rfl rfl rfl rfl (fun W hW => LB.out W (below_trans B9.out hW)) ?_
  simp only [Act.put, List.setIfInBounds_toArray, List.set_cons_zero, List.set_cons_succ]
  (repeat (first | ((with_reducible apply wq0); rfl; rfl; rfl; intro K hK; go_big_quiet_op; refine hK _ ?_; clear hK K) | ((with_reducible apply wq1); rfl; rfl; rfl; rfl; rfl; rfl; intro K hK; go_big_quiet_op; refine hK _ ?_; clear hK K) | ((with_reducible apply wqs); rfl; rfl; rfl; rfl; rfl; rfl; simp only [Act.put, List.setIfInBounds_toArray, List.set_cons_zero, List.set_cons_succ]) | ((with_reducible apply wqu); rfl; rfl; rfl; rfl; rfl; (first | simp only [same, Act.put, List.setIfInBounds_toArray, List.set_cons_zero, List.set_cons_succ] | simp only [Act.put, List.setIfInBounds_toArray, List.set_cons_zero, List.set_cons_succ]))))
  refine wqIdx_nil ?_
  refine wpAnyR_sole (i := 53) rfl (by kernel_rfl) (fun K hK => ?_); go_simp
  refine (P7.out _).mono ?_; rintro e w10 ⟨rfl, b10⟩
  refine hK _ _ b10 ?_
  clear hK K
  have B10 := Lib.hid (below_trans B9.out b10)
  clear b10
  refine batchB [54, 55, 56, 57] (fuel := 26) rfl (by kernel_rfl) (by kernel_rfl) (fun _ _ d _ _ h => by cases d <;> exact h) ?_; (repeat (first | ((with_reducible apply wq0); rfl; rfl; rfl; intro K hK; go_big_quiet_op; refine hK _ ?_; clear hK K) | ((with_reducible apply wq1); rfl; rfl; rfl; rfl; rfl; rfl; intro K hK; go_big_quiet_op; refine hK _ ?_; clear hK K) | ((with_reducible apply wqs); rfl; rfl; rfl; rfl; rfl; rfl; simp only [Act.put, List.setIfInBounds_toArray, List.set_cons_zero, List.set_cons_succ]) | ((with_reducible apply wqu); rfl; rfl; rfl; rfl; rfl; (first | simp only [same, Act.put, List.setIfInBounds_toArray, List.set_cons_zero, List.set_cons_succ] | simp only [Act.put, List.setIfInBounds_toArray, List.set_cons_zero, List.set_cons_succ])))); refine wqIdx_nil ?_
  refine wpAnyR_sole (i := 58) rfl (by kernel_rfl) (fun K hK => ?_); go_simp
  refine (P8.out _ _ _ _ (S6.out.below B10.out)).mono ?_; rintro e w11 ⟨rfl, b11⟩
  refine hK _ _ b11 ?_
  clear hK K
  have B11 := Lib.hid (below_trans B10.out b11)
  clear b11
  refine batchB [59, 60, 61, 62, 63] (fuel := 20) rfl (by kernel_rfl) (by kernel_rfl) (fun _ _ d _ _ h => by cases d <;> exact h) ?_
  (repeat (first | ((with_reducible apply wq0); rfl; rfl; rfl; intro K hK; go_big_quiet_op; refine hK _ ?_; clear hK K) | ((with_reducible apply wq1); rfl; rfl; rfl; rfl; rfl; rfl; intro K hK; go_big_quiet_op; refine hK _ ?_; clear hK K) | ((with_reducible apply wqs); rfl; rfl; rfl; rfl; rfl; rfl; simp only [Act.put, List.setIfInBounds_toArray, List.set_cons_zero, List.set_cons_succ]) | ((with_reducible apply wqu); rfl; rfl; rfl; rfl; rfl; (first | simp only [same, Act.put, List.setIfInBounds_toArray, List.set_cons_zero, List.set_cons_succ] | simp only [Act.put, List.setIfInBounds_toArray, List.set_cons_zero, List.set_cons_succ]))))
  refine wqIdx_load rfl rfl rfl rfl (fun W hW => LM.out W (below_trans B11.out hW)) ?_
  simp only [Act.put, List.setIfInBounds_toArray, List.set_cons_zero, List.set_cons_succ]
  (repeat (first | ((with_reducible apply wq0); rfl; rfl; rfl; intro K hK; go_big_quiet_op; refine hK _ ?_; clear hK K) | ((with_reducible apply wq1); rfl; rfl; rfl; rfl; rfl; rfl; intro K hK; go_big_quiet_op; refine hK _ ?_; clear hK K) | ((with_reducible apply wqs); rfl; rfl; rfl; rfl; rfl; rfl; simp only [Act.put, List.setIfInBounds_toArray, List.set_cons_zero, List.set_cons_succ]) | ((with_reducible apply wqu); rfl; rfl; rfl; rfl; rfl; (first | simp only [same, Act.put, List.setIfInBounds_toArray, List.set_cons_zero, List.set_cons_succ] | simp only [Act.put, List.setIfInBounds_toArray, List.set_cons_zero, List.set_cons_succ]))))
  refine wqIdx_nil ?_
  refine wpAnyR_sole (i := 64) rfl (by kernel_rfl) (fun K hK => ?_); go_simp
  refine (P9.out _ _ _ _ (S6.out.below B11.out)).mono ?_; rintro e w12 ⟨A12, c12, rfl, b12⟩
  refine hK _ _ b12 ?_
  clear hK K
  have B12 := Lib.hid (below_trans B11.out b12)
  clear b12
  refine batchB [65, 66, 67, 68, 69, 70, 71] (fuel := 12) rfl (by kernel_rfl) (by kernel_rfl) (fun _ _ d _ _ h => by cases d <;> exact h) ?_
  (repeat (first | ((with_reducible apply wq0); rfl; rfl; rfl; intro K hK; go_big_quiet_op; refine hK _ ?_; clear hK K) | ((with_reducible apply wq1); rfl; rfl; rfl; rfl; rfl; rfl; intro K hK; go_big_quiet_op; refine hK _ ?_; clear hK K) | ((with_reducible apply wqs); rfl; rfl; rfl; rfl; rfl; rfl; simp only [Act.put, List.setIfInBounds_toArray, List.set_cons_zero, List.set_cons_succ]) | ((with_reducible apply wqu); rfl; rfl; rfl; rfl; rfl; (first | simp only [same, Act.put, List.setIfInBounds_toArray, List.set_cons_zero, List.set_cons_succ] | simp only [Act.put, List.setIfInBounds_toArray, List.set_cons_zero, List.set_cons_succ]))))
  refine wqIdx_load rfl rfl rfl rfl (fun W hW => LM.out W (below_trans B12.out hW)) ?_
  simp only [Act.put, List.setIfInBounds_toArray, List.set_cons_zero, List.set_cons_succ]
  (repeat (first | ((with_reducible apply wq0); rfl; rfl; rfl; intro K hK; go_big_quiet_op; refine hK _ ?_; clear hK K) | ((with_reducible apply wq1); rfl; rfl; rfl; rfl; rfl; rfl; intro K hK; go_big_quiet_op; refine hK _ ?_; clear hK K) | ((with_reducible apply wqs); rfl; rfl; rfl; rfl; rfl; rfl; simp only [Act.put, List.setIfInBounds_toArray, List.set_cons_zero, List.set_cons_succ]) | ((with_reducible apply wqu); rfl; rfl; rfl; rfl; rfl; (first | simp only [same, Act.put, List.setIfInBounds_toArray, List.set_cons_zero, List.set_cons_succ] | simp only [Act.put, List.setIfInBounds_toArray, List.set_cons_zero, List.set_cons_succ]))))
  refine wqIdx_nil ?_
  refine wpAnyR_sole (i := 72) rfl (by kernel_rfl) (fun K hK => ?_); go_simp
  refine hK _ _ (alloc_below w12 _) ?_
  clear hK K
  have B13 := Lib.hid (below_trans B12.out (alloc_below w12 (.cells #[.int .i64 1, .int .i64 2] 94)))
  refine wpAnyR_sole (i := 73) rfl (by kernel_rfl) (fun K hK => ?_); go_simp
  refine (P10.out _ _ _ _ _ _ (S6.out.below B13.out) (slp_new w12 1 2)).mono ?_; rintro e w14 ⟨A14, c14, rfl, b14⟩
  refine hK _ _ b14 ?_
  clear hK K
  have B14 := Lib.hid (below_trans B13.out b14)
  clear b14
  refine batchB [74, 75, 76, 77] (fuel := 6) rfl (by kernel_rfl) (by kernel_rfl) (fun _ _ d _ _ h => by cases d <;> exact h) ?_; (repeat (first | ((with_reducible apply wq0); rfl; rfl; rfl; intro K hK; go_big_quiet_op; refine hK _ ?_; clear hK K) | ((with_reducible apply wq1); rfl; rfl; rfl; rfl; rfl; rfl; intro K hK; go_big_quiet_op; refine hK _ ?_; clear hK K) | ((with_reducible apply wqs); rfl; rfl; rfl; rfl; rfl; rfl; simp only [Act.put, List.setIfInBounds_toArray, List.set_cons_zero, List.set_cons_succ]) | ((with_reducible apply wqu); rfl; rfl; rfl; rfl; rfl; (first | simp only [same, Act.put, List.setIfInBounds_toArray, List.set_cons_zero, List.set_cons_succ] | simp only [Act.put, List.setIfInBounds_toArray, List.set_cons_zero, List.set_cons_succ])))); refine wqIdx_nil ?_
  refine wpAnyR_sole (i := 78) rfl (by kernel_rfl) (fun K hK => ?_); go_simp
  refine hK _ _ (RB.refl _) ?_
  clear hK K
  refine wpAnyR_sole (i := 79) rfl (by kernel_rfl) (fun K hK => ?_); go_simp
  refine hK _ _ (RB.refl _) ?_
  clear hK K
  refine wpAnyR_sole (i := 80) rfl (by kernel_rfl) (fun K hK => ?_); go_simp
  refine (P11.out _).mono ?_; rintro e w15 ⟨rfl, b15⟩
  refine hK _ _ b15 ?_
  clear hK K
  have B15 := Lib.hid (below_trans B14.out b15)
  clear b15
  refine batchB [81, 82, 83] (fuel := 0) rfl (by kernel_rfl) (by kernel_rfl) (fun _ _ d _ _ h => by cases d <;> exact h) ?_; (repeat (first | ((with_reducible apply wq0); rfl; rfl; rfl; intro K hK; go_big_quiet_op; refine hK _ ?_; clear hK K) | ((with_reducible apply wq1); rfl; rfl; rfl; rfl; rfl; rfl; intro K hK; go_big_quiet_op; refine hK _ ?_; clear hK K) | ((with_reducible apply wqs); rfl; rfl; rfl; rfl; rfl; rfl; simp only [Act.put, List.setIfInBounds_toArray, List.set_cons_zero, List.set_cons_succ]) | ((with_reducible apply wqu); rfl; rfl; rfl; rfl; rfl; (first | simp only [same, Act.put, List.setIfInBounds_toArray, List.set_cons_zero, List.set_cons_succ] | simp only [Act.put, List.setIfInBounds_toArray, List.set_cons_zero, List.set_cons_succ])))); refine wqIdx_nil ?_
  refine wpAnyR_done (by kernel_rfl) ?_ _
  go_wp2
  go_ret
  exact ⟨rfl, below_trans B0.out (below_trans B6.out B15.out)⟩
end Go.Proofs.Ytalefgcdhakfoaa
