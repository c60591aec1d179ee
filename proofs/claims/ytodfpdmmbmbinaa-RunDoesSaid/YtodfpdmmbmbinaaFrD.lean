/- Contracts of the document's front. -/
import Derived.Test.YtodfpdmmbmbinaaFrR
import Derived.Test.YtodfpdmmbmbinaaMoL
namespace Go.Proofs.Ytodfpdmmbmbinaa
open Go.RowKit Go.Sort

section
variable {P : Program} {l : List Oper} {Q : Exit → Act → World → Prop} {md : Region.Mode} {R : World → World → Prop}
/-- What is owed for one operation that may come up. -/
def StepAt (P : Program) (l : List Oper) (Q : Exit → Act → World → Prop) (md : Region.Mode) (R : World → World → Prop) (fuel : Nat) (listed : Array Bool) (a : Act) (w : World) (i : Nat) : Prop :=
  ∃ o, l[i]? = some o ∧ ∀ K' : Act → World → Prop, (∀ a' w', R w w' → wpAnyR P md l.toArray Q R fuel (listed.setIfInBounds i true) a' w' → K' a' w') →
      if Region.wanted o (yielded l.toArray a.tmps) = true then Oper.wp P o a w K' Q else K' (a.put o.dst undef) w
theorem wpAnyR_steps {is : List Nat} {fuel : Nat} {listed : Array Bool} {a : Act} {w : World} (hr : Region.ready md l.toArray listed = is) (hne : is ≠ [])
    (h : ∀ i ∈ is, StepAt P l Q md R fuel listed a w i) : wpAnyR P md l.toArray Q R (fuel + 1) listed a w := by
  refine ⟨fun h0 => absurd (hr.symm.trans h0) hne, fun j hj => ?_⟩
  rw [hr] at hj
  obtain ⟨o, ho, h⟩ := h j hj
  exact wpOp_step (by simpa using ho) fun K' hK => h K' fun a' w' hR hW => hK a' w' ⟨hR, hW⟩
theorem wpAnyR_two {i j : Nat} {fuel : Nat} {listed : Array Bool} {a : Act} {w : World} (hr : Region.ready md l.toArray listed = [i, j])
    (hi : StepAt P l Q md R fuel listed a w i) (hj : StepAt P l Q md R fuel listed a w j) : wpAnyR P md l.toArray Q R (fuel + 1) listed a w :=
  wpAnyR_steps hr (by simp) fun k hk => by
    rcases List.mem_cons.1 hk with rfl | hk
    · exact hi
    · rw [List.mem_singleton] at hk; subst hk; exact hj
theorem wpAnyR_three {i j m : Nat} {fuel : Nat} {listed : Array Bool} {a : Act} {w : World} (hr : Region.ready md l.toArray listed = [i, j, m])
    (hi : StepAt P l Q md R fuel listed a w i) (hj : StepAt P l Q md R fuel listed a w j) (hm : StepAt P l Q md R fuel listed a w m) : wpAnyR P md l.toArray Q R (fuel + 1) listed a w :=
  wpAnyR_steps hr (by simp) fun k hk => by
    rcases List.mem_cons.1 hk with rfl | hk
    · exact hi
    · rcases List.mem_cons.1 hk with rfl | hk
      · exact hj
      · rw [List.mem_singleton] at hk; subst hk; exact hm
end
theorem SlP.reads {w : World} {h : Nat} {A : Option Addr} {l : List (Int × Int)} (s : SlP w h A l) : Reads w w.heap.size 2 A l.length (Prs l) :=
  ⟨Prs_length l, fun hn => by
    obtain ⟨hh, off, e, hc⟩ := s (fun e => by rw [e] at hn; simp at hn)
    refine ⟨_, e, hh, fun j u hu => ?_⟩
    rw [Addr.add_lit]
    exact hc j u hu⟩
theorem SlP.take {w : World} {h : Nat} {A : Option Addr} {l : List (Int × Int)} (s : SlP w h A l) (k : Nat) : SlP w h A (l.take k) := fun hl => by
  obtain ⟨hh, off, e, hc⟩ := s (fun e => by rw [e] at hl; simp at hl)
  refine ⟨hh, off, e, fun j u hj => hc j u ?_⟩
  have h2 : Prs l = Prs (l.take k) ++ Prs (l.drop k) := by rw [← Prs_append, List.take_append_drop]
  rw [h2, List.getElem?_append_left (List.getElem?_eq_some_iff.1 hj).1]
  exact hj
theorem SlP.kept {S : Nat → Prop} {w w' : World} {h : Nat} {A : Option Addr} {l : List (Int × Int)} (s : SlP w h A l) (k : RK S w w') (hs : ¬ S h) : SlP w' h A l :=
  s.keep k.2.2.2.1 fun hh => k.2.2.2.2 h hh hs
theorem SlP.at2 {w : World} {h g' o : Nat} {l : List (Int × Int)} (s : SlP w h (some ⟨g', o, none⟩) l) {j : Nat} {x : Int × Int} (hj : l[j]? = some x) : w.cell? ⟨g', o + j * 2, none⟩ = some (.int .i64 x.1) ∧ w.cell? ⟨g', o + j * 2 + 1, none⟩ = some (.int .i64 x.2) := by
  obtain ⟨-, o2, e, h0, h1⟩ := s.at_ hj
  injection e with e
  injection e with e1 e2
  subst e1 e2
  exact ⟨h0, h1⟩
theorem SlP.keptB {B : Nat} {w w' : World} {h : Nat} {A : Option Addr} {l : List (Int × Int)} (s : SlP w h A l) (k : RK (fun b => B ≤ b) w w') (hB : w.heap.size ≤ B) : SlP w' h A l :=
  s.keep k.2.2.2.1 fun hh => k.2.2.2.2 h hh (by simp only; omega)
theorem below_of_rk {B : Nat} {w w' : World} (k : RK (fun b => B ≤ b) w w') (hB : B ≤ w.heap.size) : Below B w w' := ⟨k.1, k.2.1, k.2.2.1, k.2.2.2.1, fun i hi => k.2.2.2.2 i (by omega) (by simp only; omega)⟩
theorem rk_below' {S : Nat → Prop} {w w' : World} (h : Below w.heap.size w w') : RK S w w' := ⟨h.os, h.tape, h.output, h.size, fun i hi _ => h.block i hi⟩
theorem rk_grown' {S : Nat → Prop} {w w' : World} {row : Option Nat} (h : w.grownBy w' row) (hr : ∀ g, row = some g → S g) : RK S w w' :=
  ⟨h.os, h.tape, h.output, h.size, fun i hi hs => h.block i hi (fun e => hs (hr i e.symm))⟩
theorem reads_blk {w : World} {g : Nat} {t : TypeId} (x : Int × Int) (h : Blk w g t #[.int .i64 x.1, .int .i64 x.2]) : Reads w w.heap.size 2 (some ⟨g, 0, none⟩) 1 (Prs [x]) :=
  ⟨rfl, fun _ => ⟨_, rfl, h.lt, fun j u hu => by
    rw [Addr.add_lit, Nat.zero_add, h.cell j]
    match j, hu with
    | 0, hu => simpa [Prs, encP] using hu
    | 1, hu => simpa [Prs, encP] using hu
    | j + 2, hu => simp [Prs, encP] at hu⟩⟩
theorem empty_own2 (w : World) (t : TypeId) : (w.alloc (.cells #[] t)).ownsRow w.heap.size t 2 (.slice (some ⟨w.heap.size, 0, none⟩) 0 0) 0 (Prs []) := ⟨rfl, .inr ⟨w.heap.size, 0, #[], rfl, Nat.le_refl _, heap_alloc_new w _, Nat.le_refl _, by decide, rfl, rfl⟩⟩
theorem wp_appP {P : Program} (w : World) {o : Oper} {a : Act} {K : Act → World → Prop} {Q : Exit → Act → World → Prop} (s x : Operand) (t : TypeId)
    (ho : o.op = .call { callee := .builtin .append, args := #[s, x], argTypes := #[t, t] })
    {e : TypeId} (ht : P.underlying t = some (.slice e)) (hinfo : (P.info? e).map (fun i => (i.zero, i.size, i.bytes)) = some (some (.agg #[.int .i64 0, .int .i64 0]), 2, 16))
    {base : Nat} {v : Value} {xs ys : List (Int × Int)} {n : Nat} (hown : w.ownsRow base e 2 v n (Prs xs)) {B : Nat} {A : Option Addr} {m : Nat} (hr : Reads w B 2 A m (Prs ys)) (c : Nat)
    (hs : a.eval s = v) (hx : a.eval x = .slice A m c) (hle : n + m ≤ 100000) (hbase : base ≤ w.heap.size)
    (h : ∀ A' c' w', w'.ownsRow base e 2 (.slice A' (n + m) c') (n + m) (Prs (xs ++ ys)) → Grew w w' v (.slice A' (n + m) c') → K (a.put o.dst (.slice A' (n + m) c')) w') : o.wp P a w K Q := by
  obtain ⟨i0, hi0, hzz⟩ := Option.map_eq_some_iff.1 hinfo
  simp only [Prod.mk.injEq] at hzz
  obtain ⟨hz0, hz1, hz2⟩ := hzz
  refine wp_append_any w s x t ho base e i0 _ 2 16 ht hi0 hz0 hz1 hz2 rfl (by omega) v n (Prs xs) hs hown B A m c (Prs ys) hx hr (Prs_one ys) (by unfold maxLen; omega) (by omega) hbase ?_
  intro v' w' h1 h2
  obtain ⟨A', c', rfl⟩ := own_form h1
  refine h A' c' w' ?_ h2
  rw [Prs_append]
  exact h1
theorem all_snoc (l : List (Int × Int)) (x y : Int × Int) (k : Nat) (h : l[k]? = some y) : ((l.take (k + 1)).all fun y => !(y != x && aheadM y x)) = (((l.take k).all fun y => !(y != x && aheadM y x)) && !(y != x && aheadM y x)) := by
  rw [List.take_add_one, h, List.all_append]
  simp
theorem pair_ne {x1 x2 y1 y2 : Int} (h : ¬ (y1 = x1 ∧ y2 = x2)) : ((y1, y2) != (x1, x2)) = true := by
  rw [bne_iff_ne]; intro e; injection e with e1 e2; exact h ⟨e1, e2⟩
set_option maxRecDepth 100000 in
set_option maxHeartbeats 4000000 in
theorem ref4front_any (A : Option Addr) (g : Nat) (l : List (Int × Int)) (c : Nat) (w : World) (hl : SlP w g A l) (hn : l.length ≤ 300) :
    Calls Try.prog 76 #[.slice A l.length c] w fun e w' => ∃ A' c', e = .returned (.slice A' (l.foldl (stepR l) []).length c') ∧ w'.ownsRow w.heap.size 61 2 (.slice A' (l.foldl (stepR l) []).length c') (l.foldl (stepR l) []).length (Prs (l.foldl (stepR l) [])) ∧ Below w.heap.size w w' := by
  have SL := Lib.hid hl
  clear hl
  go_enter Try.func76, Try.ntmps76
  go_wp2_with fail
  go_loopw [3, 4] (fun f i wr => ∃ (k : Nat) (A1 : Option Addr) (c1 : Nat), k ≤ l.length ∧ i = .int .i64 (k : Int) ∧ f = .slice A1 ((l.take k).foldl (stepR l) []).length c1 ∧ wr.ownsRow w.heap.size 61 2 f ((l.take k).foldl (stepR l) []).length (Prs ((l.take k).foldl (stepR l) [])) ∧ Below w.heap.size w wr) (fun _ i _ => l.length - (intOf i).toNat)
  case atStart => exact ⟨0, none, 0, Nat.zero_le _, rfl, rfl, World.ownsRow_nil _ _ _ _, Below.refl _ _⟩
  case round =>
    rename World => wO
    obtain ⟨k, A1, c1, hk, rfl, rfl, ho, hb⟩ := hrel
    have HO := Lib.hid ho
    have HB := Lib.hid hb
    clear ho hb
    by_cases hlt : k < l.length
    · obtain ⟨x, hx⟩ : ∃ x, l[k]? = some x := ⟨_, List.getElem?_eq_getElem hlt⟩
      have HF := Lib.hid (foldlR_take l k x hx)
      have hFl := foldlR_length l k (by omega)
      generalize (l.take k).foldl (stepR l) [] = F at HO HF hFl
      obtain ⟨x1, x2⟩ := x
      have HX := Lib.hid hx
      obtain ⟨-, ox, eA, -, -⟩ := (SL.out.below HB.out).at_ hx
      have EA := Lib.hid eA
      clear eA hx
      go_wp2_with fail
      go_loopw [5, 6] (fun b i wr2 => ∃ j : Nat, j ≤ l.length ∧ i = .int .i64 (j : Int) ∧ b = .bool ((l.take j).all fun y => !(y != (x1, x2) && aheadM y (x1, x2))) ∧ Below wO.heap.size wO wr2) (fun _ i _ => l.length - (intOf i).toNat)
      case atStart => exact ⟨0, Nat.zero_le _, rfl, rfl, Below.refl _ _⟩
      case round =>
        obtain ⟨j, hj, rfl, rfl, hb2⟩ := hrel
        have HB2 := Lib.hid (below_trans HB.out hb2)
        have HW2 := Lib.hid hb2
        clear hb2
        by_cases hlt2 : j < l.length
        · obtain ⟨y, hy⟩ : ∃ y, l[j]? = some y := ⟨_, List.getElem?_eq_getElem hlt2⟩
          have HS := Lib.hid (all_snoc l (x1, x2) y j hy)
          generalize ((l.take j).all fun y => !(y != (x1, x2) && aheadM y (x1, x2))) = b0 at HS
          obtain ⟨y1, y2⟩ := y
          obtain ⟨-, o1, e1, p0, p1⟩ := (SL.out.below HB2.out).at_ hy
          obtain ⟨-, o2, e2, q0, q1⟩ := (SL.out.below HB2.out).at_ HX.out
          obtain rfl : o2 = o1 := by rw [e1] at e2; injection e2 with e2; injection e2 with _ e2; exact e2.symm
          subst e1
          clear e2 hy
          have PA := Lib.hid (fun W => rahead_any y1 y2 x1 x2 W)
          by_cases e1 : y1 = x1
          · by_cases e2 : y2 = x2
            · subst e1 e2
              have hsn : (b0 && !(((y1, y2) : Int × Int) != (y1, y2) && aheadM (y1, y2) (y1, y2))) = b0 := by simp
              have HSN := Lib.hid (HS.out.trans hsn)
              clear hsn HS
              go_wp2_with fail
              refine wp_region_R (R := RB) (n := 20) (by kernel_rfl) rfl ?_
              refine batchB [0, 1, 2, 3, 4, 5, 6, 7, 8, 9, 10, 11, 12, 13, 14, 15, 16, 17] (fuel := 2) rfl (by kernel_rfl) (by kernel_rfl) (fun _ _ d _ _ h => by cases d <;> exact h) ?_
              repeat (first | ((with_reducible apply wq0); rfl; rfl; rfl; intro K hK; go_big_quiet_op; refine hK _ ?_; clear hK K) | ((with_reducible apply wq1); rfl; rfl; rfl; rfl; rfl; rfl; intro K hK; go_big_quiet_op; refine hK _ ?_; clear hK K) | ((with_reducible apply wqs); rfl; rfl; rfl; rfl; rfl; rfl; simp only [Act.put, List.setIfInBounds_toArray, List.set_cons_zero, List.set_cons_succ]) | ((with_reducible apply wqu); rfl; rfl; rfl; rfl; rfl; simp only [Act.put, List.setIfInBounds_toArray, List.set_cons_zero, List.set_cons_succ]))
              refine wqIdx_load rfl rfl rfl rfl (fun W hW => load_mo_at _ _ (y1) (y2) W (keep_cell hW p0) (keep_cell hW p1)) ?_
              simp only [Act.put, List.setIfInBounds_toArray, List.set_cons_zero, List.set_cons_succ]
              repeat (first | ((with_reducible apply wq0); rfl; rfl; rfl; intro K hK; go_big_quiet_op; refine hK _ ?_; clear hK K) | ((with_reducible apply wq1); rfl; rfl; rfl; rfl; rfl; rfl; intro K hK; go_big_quiet_op; refine hK _ ?_; clear hK K) | ((with_reducible apply wqs); rfl; rfl; rfl; rfl; rfl; rfl; simp only [Act.put, List.setIfInBounds_toArray, List.set_cons_zero, List.set_cons_succ]) | ((with_reducible apply wqu); rfl; rfl; rfl; rfl; rfl; simp only [Act.put, List.setIfInBounds_toArray, List.set_cons_zero, List.set_cons_succ]))
              refine wqIdx_load rfl rfl rfl rfl (fun W hW => load_mo_at _ _ (y1) (y2) W (keep_cell hW q0) (keep_cell hW q1)) ?_
              simp only [Act.put, List.setIfInBounds_toArray, List.set_cons_zero, List.set_cons_succ]
              repeat (first | ((with_reducible apply wq0); rfl; rfl; rfl; intro K hK; go_big_quiet_op; refine hK _ ?_; clear hK K) | ((with_reducible apply wq1); rfl; rfl; rfl; rfl; rfl; rfl; intro K hK; go_big_quiet_op; refine hK _ ?_; clear hK K) | ((with_reducible apply wqs); rfl; rfl; rfl; rfl; rfl; rfl; simp only [Act.put, List.setIfInBounds_toArray, List.set_cons_zero, List.set_cons_succ]) | ((with_reducible apply wqu); rfl; rfl; rfl; rfl; rfl; simp only [Act.put, List.setIfInBounds_toArray, List.set_cons_zero, List.set_cons_succ]))
              refine wqIdx_nil ?_
              refine wpAnyR_sole (i := 18) rfl (by kernel_rfl) (fun K hK => ?_)
              go_simp
              refine hK _ _ (RB.refl _) ?_
              clear hK K
              refine batchB [19] (fuel := 0) rfl (by kernel_rfl) (by kernel_rfl) (fun _ _ d _ _ h => by cases d <;> exact h) ?_
              repeat (first | ((with_reducible apply wq0); rfl; rfl; rfl; intro K hK; go_big_quiet_op; refine hK _ ?_; clear hK K) | ((with_reducible apply wq1); rfl; rfl; rfl; rfl; rfl; rfl; intro K hK; go_big_quiet_op; refine hK _ ?_; clear hK K) | ((with_reducible apply wqs); rfl; rfl; rfl; rfl; rfl; rfl; simp only [Act.put, List.setIfInBounds_toArray, List.set_cons_zero, List.set_cons_succ]) | ((with_reducible apply wqu); rfl; rfl; rfl; rfl; rfl; simp only [Act.put, List.setIfInBounds_toArray, List.set_cons_zero, List.set_cons_succ]))
              refine wqIdx_nil ?_
              refine wpAnyR_done (by kernel_rfl) ?_ _
              go_wp2
              exact ⟨⟨j + 1, by omega, by go_num, by rw [HSN.out], below_drew0 HW2.out⟩, by simp [intOf]; omega⟩
            · have d1 : (y1 == x1) = true := by simpa using e1
              have d2 : (y2 == x2) = false := by simpa using e2
              have HSN := Lib.hid (show ((l.take (j + 1)).all fun y => !(y != (x1, x2) && aheadM y (x1, x2))) = (b0 && !(aheadM (y1, y2) (x1, x2))) by rw [HS.out, pair_ne (by omega)]; simp)
              clear HS e1
              try clear e2
              generalize aheadM (y1, y2) (x1, x2) = r at PA HSN
              go_wp2_with fail
              refine wp_region_R (R := RB) (n := 20) (by kernel_rfl) rfl ?_
              refine batchB [0, 1, 2, 3, 4, 5, 6, 7, 8, 9, 10, 11, 12, 13, 14, 15, 16, 17] (fuel := 2) rfl (by kernel_rfl) (by kernel_rfl) (fun _ _ d _ _ h => by cases d <;> exact h) ?_
              repeat (first | ((with_reducible apply wq0); rfl; rfl; rfl; intro K hK; go_big_quiet_op; refine hK _ ?_; clear hK K) | ((with_reducible apply wq1); rfl; rfl; rfl; rfl; rfl; rfl; intro K hK; go_big_quiet_op; refine hK _ ?_; clear hK K) | ((with_reducible apply wqs); rfl; rfl; rfl; rfl; rfl; rfl; simp only [Act.put, List.setIfInBounds_toArray, List.set_cons_zero, List.set_cons_succ]) | ((with_reducible apply wqu); rfl; rfl; rfl; rfl; rfl; simp only [Act.put, List.setIfInBounds_toArray, List.set_cons_zero, List.set_cons_succ]))
              refine wqIdx_load rfl rfl rfl rfl (fun W hW => load_mo_at _ _ (y1) (y2) W (keep_cell hW p0) (keep_cell hW p1)) ?_
              simp only [Act.put, List.setIfInBounds_toArray, List.set_cons_zero, List.set_cons_succ]
              repeat (first | ((with_reducible apply wq0); rfl; rfl; rfl; intro K hK; go_big_quiet_op; refine hK _ ?_; clear hK K) | ((with_reducible apply wq1); rfl; rfl; rfl; rfl; rfl; rfl; intro K hK; go_big_quiet_op; refine hK _ ?_; clear hK K) | ((with_reducible apply wqs); rfl; rfl; rfl; rfl; rfl; rfl; simp only [Act.put, List.setIfInBounds_toArray, List.set_cons_zero, List.set_cons_succ]) | ((with_reducible apply wqu); rfl; rfl; rfl; rfl; rfl; simp only [Act.put, List.setIfInBounds_toArray, List.set_cons_zero, List.set_cons_succ]))
              refine wqIdx_load rfl rfl rfl rfl (fun W hW => load_mo_at _ _ (x1) (x2) W (keep_cell hW q0) (keep_cell hW q1)) ?_
              simp only [Act.put, List.setIfInBounds_toArray, List.set_cons_zero, List.set_cons_succ]
              repeat (first | ((with_reducible apply wq0); rfl; rfl; rfl; intro K hK; go_big_quiet_op; refine hK _ ?_; clear hK K) | ((with_reducible apply wq1); rfl; rfl; rfl; rfl; rfl; rfl; intro K hK; go_big_quiet_op; refine hK _ ?_; clear hK K) | ((with_reducible apply wqs); rfl; rfl; rfl; rfl; rfl; rfl; simp only [Act.put, List.setIfInBounds_toArray, List.set_cons_zero, List.set_cons_succ]) | ((with_reducible apply wqu); rfl; rfl; rfl; rfl; rfl; simp only [Act.put, List.setIfInBounds_toArray, List.set_cons_zero, List.set_cons_succ]))
              refine wqIdx_load rfl rfl rfl rfl (fun W hW => load_mo_at _ _ (y1) (y2) W (keep_cell hW p0) (keep_cell hW p1)) ?_
              simp only [Act.put, List.setIfInBounds_toArray, List.set_cons_zero, List.set_cons_succ]
              repeat (first | ((with_reducible apply wq0); rfl; rfl; rfl; intro K hK; go_big_quiet_op; refine hK _ ?_; clear hK K) | ((with_reducible apply wq1); rfl; rfl; rfl; rfl; rfl; rfl; intro K hK; go_big_quiet_op; refine hK _ ?_; clear hK K) | ((with_reducible apply wqs); rfl; rfl; rfl; rfl; rfl; rfl; simp only [Act.put, List.setIfInBounds_toArray, List.set_cons_zero, List.set_cons_succ]) | ((with_reducible apply wqu); rfl; rfl; rfl; rfl; rfl; simp only [Act.put, List.setIfInBounds_toArray, List.set_cons_zero, List.set_cons_succ]))
              refine wqIdx_load rfl rfl rfl rfl (fun W hW => load_mo_at _ _ (x1) (x2) W (keep_cell hW q0) (keep_cell hW q1)) ?_
              simp only [Act.put, List.setIfInBounds_toArray, List.set_cons_zero, List.set_cons_succ]
              repeat (first | ((with_reducible apply wq0); rfl; rfl; rfl; intro K hK; go_big_quiet_op; refine hK _ ?_; clear hK K) | ((with_reducible apply wq1); rfl; rfl; rfl; rfl; rfl; rfl; intro K hK; go_big_quiet_op; refine hK _ ?_; clear hK K) | ((with_reducible apply wqs); rfl; rfl; rfl; rfl; rfl; rfl; simp only [Act.put, List.setIfInBounds_toArray, List.set_cons_zero, List.set_cons_succ]) | ((with_reducible apply wqu); rfl; rfl; rfl; rfl; rfl; simp only [Act.put, List.setIfInBounds_toArray, List.set_cons_zero, List.set_cons_succ]))
              refine wqIdx_nil ?_
              refine wpAnyR_sole (i := 18) rfl (by kernel_rfl) (fun K hK => ?_)
              go_simp
              refine (PA.out _).mono ?_; rintro e w3 ⟨rfl, b3⟩
              refine hK _ _ b3 ?_
              have HW3 := Lib.hid (below_trans HW2.out (Below.of_drew0 b3))
              clear b3
              clear hK K
              refine batchB [19] (fuel := 0) rfl (by kernel_rfl) (by kernel_rfl) (fun _ _ d _ _ h => by cases d <;> exact h) ?_
              repeat (first | ((with_reducible apply wq0); rfl; rfl; rfl; intro K hK; go_big_quiet_op; refine hK _ ?_; clear hK K) | ((with_reducible apply wq1); rfl; rfl; rfl; rfl; rfl; rfl; intro K hK; go_big_quiet_op; refine hK _ ?_; clear hK K) | ((with_reducible apply wqs); rfl; rfl; rfl; rfl; rfl; rfl; simp only [Act.put, List.setIfInBounds_toArray, List.set_cons_zero, List.set_cons_succ]) | ((with_reducible apply wqu); rfl; rfl; rfl; rfl; rfl; simp only [Act.put, List.setIfInBounds_toArray, List.set_cons_zero, List.set_cons_succ]))
              refine wqIdx_nil ?_
              refine wpAnyR_done (by kernel_rfl) ?_ _
              cases r
              · go_wp2
                exact ⟨⟨j + 1, by omega, by go_num, by rw [HSN.out]; simp, HW3.out⟩, by simp [intOf]; omega⟩
              · go_wp2
                exact ⟨⟨j + 1, by omega, by go_num, by rw [HSN.out]; simp, HW3.out⟩, by simp [intOf]; omega⟩
          · have d1 : (y1 == x1) = false := by simpa using e1
            have HSN := Lib.hid (show ((l.take (j + 1)).all fun y => !(y != (x1, x2) && aheadM y (x1, x2))) = (b0 && !(aheadM (y1, y2) (x1, x2))) by rw [HS.out, pair_ne (by omega)]; simp)
            clear HS e1
            try clear e2
            generalize aheadM (y1, y2) (x1, x2) = r at PA HSN
            go_wp2_with fail
            refine wp_region_R (R := RB) (n := 20) (by kernel_rfl) rfl ?_
            refine batchB [0, 1, 2, 3, 4, 5, 6, 7, 8, 9, 10, 11, 12, 13, 14, 15, 16, 17] (fuel := 2) rfl (by kernel_rfl) (by kernel_rfl) (fun _ _ d _ _ h => by cases d <;> exact h) ?_
            repeat (first | ((with_reducible apply wq0); rfl; rfl; rfl; intro K hK; go_big_quiet_op; refine hK _ ?_; clear hK K) | ((with_reducible apply wq1); rfl; rfl; rfl; rfl; rfl; rfl; intro K hK; go_big_quiet_op; refine hK _ ?_; clear hK K) | ((with_reducible apply wqs); rfl; rfl; rfl; rfl; rfl; rfl; simp only [Act.put, List.setIfInBounds_toArray, List.set_cons_zero, List.set_cons_succ]) | ((with_reducible apply wqu); rfl; rfl; rfl; rfl; rfl; simp only [Act.put, List.setIfInBounds_toArray, List.set_cons_zero, List.set_cons_succ]))
            refine wqIdx_load rfl rfl rfl rfl (fun W hW => load_mo_at _ _ (y1) (y2) W (keep_cell hW p0) (keep_cell hW p1)) ?_
            simp only [Act.put, List.setIfInBounds_toArray, List.set_cons_zero, List.set_cons_succ]
            repeat (first | ((with_reducible apply wq0); rfl; rfl; rfl; intro K hK; go_big_quiet_op; refine hK _ ?_; clear hK K) | ((with_reducible apply wq1); rfl; rfl; rfl; rfl; rfl; rfl; intro K hK; go_big_quiet_op; refine hK _ ?_; clear hK K) | ((with_reducible apply wqs); rfl; rfl; rfl; rfl; rfl; rfl; simp only [Act.put, List.setIfInBounds_toArray, List.set_cons_zero, List.set_cons_succ]) | ((with_reducible apply wqu); rfl; rfl; rfl; rfl; rfl; simp only [Act.put, List.setIfInBounds_toArray, List.set_cons_zero, List.set_cons_succ]))
            refine wqIdx_load rfl rfl rfl rfl (fun W hW => load_mo_at _ _ (x1) (x2) W (keep_cell hW q0) (keep_cell hW q1)) ?_
            simp only [Act.put, List.setIfInBounds_toArray, List.set_cons_zero, List.set_cons_succ]
            repeat (first | ((with_reducible apply wq0); rfl; rfl; rfl; intro K hK; go_big_quiet_op; refine hK _ ?_; clear hK K) | ((with_reducible apply wq1); rfl; rfl; rfl; rfl; rfl; rfl; intro K hK; go_big_quiet_op; refine hK _ ?_; clear hK K) | ((with_reducible apply wqs); rfl; rfl; rfl; rfl; rfl; rfl; simp only [Act.put, List.setIfInBounds_toArray, List.set_cons_zero, List.set_cons_succ]) | ((with_reducible apply wqu); rfl; rfl; rfl; rfl; rfl; simp only [Act.put, List.setIfInBounds_toArray, List.set_cons_zero, List.set_cons_succ]))
            refine wqIdx_load rfl rfl rfl rfl (fun W hW => load_mo_at _ _ (y1) (y2) W (keep_cell hW p0) (keep_cell hW p1)) ?_
            simp only [Act.put, List.setIfInBounds_toArray, List.set_cons_zero, List.set_cons_succ]
            repeat (first | ((with_reducible apply wq0); rfl; rfl; rfl; intro K hK; go_big_quiet_op; refine hK _ ?_; clear hK K) | ((with_reducible apply wq1); rfl; rfl; rfl; rfl; rfl; rfl; intro K hK; go_big_quiet_op; refine hK _ ?_; clear hK K) | ((with_reducible apply wqs); rfl; rfl; rfl; rfl; rfl; rfl; simp only [Act.put, List.setIfInBounds_toArray, List.set_cons_zero, List.set_cons_succ]) | ((with_reducible apply wqu); rfl; rfl; rfl; rfl; rfl; simp only [Act.put, List.setIfInBounds_toArray, List.set_cons_zero, List.set_cons_succ]))
            refine wqIdx_load rfl rfl rfl rfl (fun W hW => load_mo_at _ _ (x1) (x2) W (keep_cell hW q0) (keep_cell hW q1)) ?_
            simp only [Act.put, List.setIfInBounds_toArray, List.set_cons_zero, List.set_cons_succ]
            repeat (first | ((with_reducible apply wq0); rfl; rfl; rfl; intro K hK; go_big_quiet_op; refine hK _ ?_; clear hK K) | ((with_reducible apply wq1); rfl; rfl; rfl; rfl; rfl; rfl; intro K hK; go_big_quiet_op; refine hK _ ?_; clear hK K) | ((with_reducible apply wqs); rfl; rfl; rfl; rfl; rfl; rfl; simp only [Act.put, List.setIfInBounds_toArray, List.set_cons_zero, List.set_cons_succ]) | ((with_reducible apply wqu); rfl; rfl; rfl; rfl; rfl; simp only [Act.put, List.setIfInBounds_toArray, List.set_cons_zero, List.set_cons_succ]))
            refine wqIdx_nil ?_
            refine wpAnyR_sole (i := 18) rfl (by kernel_rfl) (fun K hK => ?_)
            go_simp
            refine (PA.out _).mono ?_; rintro e w3 ⟨rfl, b3⟩
            refine hK _ _ b3 ?_
            have HW3 := Lib.hid (below_trans HW2.out (Below.of_drew0 b3))
            clear b3
            clear hK K
            refine batchB [19] (fuel := 0) rfl (by kernel_rfl) (by kernel_rfl) (fun _ _ d _ _ h => by cases d <;> exact h) ?_
            repeat (first | ((with_reducible apply wq0); rfl; rfl; rfl; intro K hK; go_big_quiet_op; refine hK _ ?_; clear hK K) | ((with_reducible apply wq1); rfl; rfl; rfl; rfl; rfl; rfl; intro K hK; go_big_quiet_op; refine hK _ ?_; clear hK K) | ((with_reducible apply wqs); rfl; rfl; rfl; rfl; rfl; rfl; simp only [Act.put, List.setIfInBounds_toArray, List.set_cons_zero, List.set_cons_succ]) | ((with_reducible apply wqu); rfl; rfl; rfl; rfl; rfl; simp only [Act.put, List.setIfInBounds_toArray, List.set_cons_zero, List.set_cons_succ]))
            refine wqIdx_nil ?_
            refine wpAnyR_done (by kernel_rfl) ?_ _
            cases r
            · go_wp2
              exact ⟨⟨j + 1, by omega, by go_num, by rw [HSN.out]; simp, HW3.out⟩, by simp [intOf]; omega⟩
            · go_wp2
              exact ⟨⟨j + 1, by omega, by go_num, by rw [HSN.out]; simp, HW3.out⟩, by simp [intOf]; omega⟩
        · obtain rfl : j = l.length := by omega
          have hle : leastM l (x1, x2) = ((l.take l.length).all fun y => !(y != (x1, x2) && aheadM y (x1, x2))) := by rw [List.take_length]; rfl
          rw [← hle]
          have HSTEP := Lib.hid (show stepR l F (x1, x2) = if leastM l (x1, x2) then insR F (x1, x2) else F from rfl)
          clear hle
          generalize leastM l (x1, x2) = least at HSTEP
          obtain ⟨gO, -, sF, -, -, hFc, -⟩ := SlP.of_own HO.out
          have SF := Lib.hid sF
          clear sF
          have hfc2 : F.length ≤ 300 := by omega
          go_wp2_with fail
          go_loopw [7] (fun a wr3 => ∃ j : Nat, j ≤ F.length ∧ a = .int .i64 (j : Int) ∧ (∀ i y, i < j → F[i]? = some y → ltM y (x1, x2) = true) ∧ Below wO.heap.size wO wr3) (fun a _ => F.length - (intOf a).toNat)
          case atStart => exact ⟨0, Nat.zero_le _, rfl, fun i y hi => absurd hi (Nat.not_lt_zero _), HW2.out⟩
          case round =>
            rename World => wr3
            obtain ⟨j, hj, rfl, hall, hb3⟩ := hrel
            have HALL := Lib.hid hall
            have HB3 := Lib.hid (below_trans HB.out hb3)
            have HW3 := Lib.hid hb3
            clear hall hb3
            obtain ⟨-, o2, eA, q0, q1⟩ := (SL.out.below HB3.out).at_ HX.out
            subst eA
            by_cases hlt3 : j < F.length
            · obtain ⟨y, hy⟩ : ∃ y, F[j]? = some y := ⟨_, List.getElem?_eq_getElem hlt3⟩
              obtain ⟨y1, y2⟩ := y
              obtain ⟨-, o3, eB, p0, p1⟩ := (SF.out.below HW3.out).at_ hy
              subst eB
              have HY := Lib.hid hy
              clear hy
              have PC := Lib.hid (fun W => rcompare_any y1 y2 x1 x2 W)
              have hz := cmpM_lt (y1, y2) (x1, x2)
              generalize cmpM (y1, y2) (x1, x2) = z at PC hz
              cases hl3 : ltM (y1, y2) (x1, x2)
              · rw [hl3] at hz
                have hat : atR F (x1, x2) = j := atR_eq F (x1, x2) j hj HALL.out fun y' hy' => by rw [HY.out] at hy'; injection hy' with hy'; rw [← hy']; exact hl3
                have HAT := Lib.hid hat
                clear hat hl3
                go_wp2_with fail
                refine wp_region_R (R := RB) (n := 16) (by kernel_rfl) rfl ?_
                refine batchB [0, 1, 2, 3, 4, 5, 6, 7, 8, 9, 10, 11, 12] (fuel := 3) rfl (by kernel_rfl) (by kernel_rfl) (fun _ _ d _ _ h => by cases d <;> exact h) ?_
                repeat (first | ((with_reducible apply wq0); rfl; rfl; rfl; intro K hK; go_big_quiet_op; refine hK _ ?_; clear hK K) | ((with_reducible apply wq1); rfl; rfl; rfl; rfl; rfl; rfl; intro K hK; go_big_quiet_op; refine hK _ ?_; clear hK K) | ((with_reducible apply wqs); rfl; rfl; rfl; rfl; rfl; rfl; simp only [Act.put, List.setIfInBounds_toArray, List.set_cons_zero, List.set_cons_succ]) | ((with_reducible apply wqu); rfl; rfl; rfl; rfl; rfl; simp only [Act.put, List.setIfInBounds_toArray, List.set_cons_zero, List.set_cons_succ]))
                refine wqIdx_load rfl rfl rfl rfl (fun W hW => load_mo_at _ _ (y1) (y2) W (keep_cell hW p0) (keep_cell hW p1)) ?_
                simp only [Act.put, List.setIfInBounds_toArray, List.set_cons_zero, List.set_cons_succ]
                repeat (first | ((with_reducible apply wq0); rfl; rfl; rfl; intro K hK; go_big_quiet_op; refine hK _ ?_; clear hK K) | ((with_reducible apply wq1); rfl; rfl; rfl; rfl; rfl; rfl; intro K hK; go_big_quiet_op; refine hK _ ?_; clear hK K) | ((with_reducible apply wqs); rfl; rfl; rfl; rfl; rfl; rfl; simp only [Act.put, List.setIfInBounds_toArray, List.set_cons_zero, List.set_cons_succ]) | ((with_reducible apply wqu); rfl; rfl; rfl; rfl; rfl; simp only [Act.put, List.setIfInBounds_toArray, List.set_cons_zero, List.set_cons_succ]))
                refine wqIdx_load rfl rfl rfl rfl (fun W hW => load_mo_at _ _ (x1) (x2) W (keep_cell hW q0) (keep_cell hW q1)) ?_
                simp only [Act.put, List.setIfInBounds_toArray, List.set_cons_zero, List.set_cons_succ]
                repeat (first | ((with_reducible apply wq0); rfl; rfl; rfl; intro K hK; go_big_quiet_op; refine hK _ ?_; clear hK K) | ((with_reducible apply wq1); rfl; rfl; rfl; rfl; rfl; rfl; intro K hK; go_big_quiet_op; refine hK _ ?_; clear hK K) | ((with_reducible apply wqs); rfl; rfl; rfl; rfl; rfl; rfl; simp only [Act.put, List.setIfInBounds_toArray, List.set_cons_zero, List.set_cons_succ]) | ((with_reducible apply wqu); rfl; rfl; rfl; rfl; rfl; simp only [Act.put, List.setIfInBounds_toArray, List.set_cons_zero, List.set_cons_succ]))
                refine wqIdx_nil ?_
                refine wpAnyR_sole (i := 13) rfl (by kernel_rfl) (fun K hK => ?_)
                go_simp
                refine (PC.out _).mono ?_; rintro e w4 ⟨rfl, b4⟩
                refine hK _ _ b4 ?_
                have HW4 := Lib.hid (below_trans HW3.out (Below.of_drew0 b4))
                clear b4
                clear hK K
                refine batchB [14, 15] (fuel := 0) rfl (by kernel_rfl) (by kernel_rfl) (fun _ _ d _ _ h => by cases d <;> exact h) ?_
                repeat (first | ((with_reducible apply wq0); rfl; rfl; rfl; intro K hK; go_big_quiet_op; refine hK _ ?_; clear hK K) | ((with_reducible apply wq1); rfl; rfl; rfl; rfl; rfl; rfl; intro K hK; go_big_quiet_op; refine hK _ ?_; clear hK K) | ((with_reducible apply wqs); rfl; rfl; rfl; rfl; rfl; rfl; simp only [Act.put, List.setIfInBounds_toArray, List.set_cons_zero, List.set_cons_succ]) | ((with_reducible apply wqu); rfl; rfl; rfl; rfl; rfl; simp only [Act.put, List.setIfInBounds_toArray, List.set_cons_zero, List.set_cons_succ]))
                refine wqIdx_nil ?_
                refine wpAnyR_done (by kernel_rfl) ?_ _
                go_wp2_with fail
                have HBW := Lib.hid (below_trans HB.out HW4.out)
                obtain ⟨q0, q1⟩ := (SL.out.below HBW.out).at2 HX.out
                obtain ⟨p0, p1⟩ := (SF.out.below HW4.out).at2 HY.out
                cases least
                · have HST := Lib.hid (show stepR l F (x1, x2) = F by rw [HSTEP.out]; rfl)
                  refine wp_region_R (R := RB) (n := 19) (by kernel_rfl) rfl ?_
                  refine batchB [0, 1, 2, 3, 4, 5, 6, 7, 8, 9, 10, 11, 12, 13, 14, 15, 16, 17, 18] (fuel := 0) rfl (by kernel_rfl) (by kernel_rfl) (fun _ _ d _ _ h => by cases d <;> exact h) ?_
                  repeat (first | ((with_reducible apply wq0); rfl; rfl; rfl; intro K hK; go_big_quiet_op; refine hK _ ?_; clear hK K) | ((with_reducible apply wq1); rfl; rfl; rfl; rfl; rfl; rfl; intro K hK; go_big_quiet_op; refine hK _ ?_; clear hK K) | ((with_reducible apply wqs); rfl; rfl; rfl; rfl; rfl; rfl; simp only [Act.put, List.setIfInBounds_toArray, List.set_cons_zero, List.set_cons_succ]) | ((with_reducible apply wqu); rfl; rfl; rfl; rfl; rfl; simp only [Act.put, List.setIfInBounds_toArray, List.set_cons_zero, List.set_cons_succ]))
                  try (refine wqIdx_load rfl rfl rfl rfl (fun W hW => load_mo_at _ _ (y1) (y2) W (keep_cell hW p0) (keep_cell hW p1)) ?_; simp only [Act.put, List.setIfInBounds_toArray, List.set_cons_zero, List.set_cons_succ])
                  repeat (first | ((with_reducible apply wq0); rfl; rfl; rfl; intro K hK; go_big_quiet_op; refine hK _ ?_; clear hK K) | ((with_reducible apply wq1); rfl; rfl; rfl; rfl; rfl; rfl; intro K hK; go_big_quiet_op; refine hK _ ?_; clear hK K) | ((with_reducible apply wqs); rfl; rfl; rfl; rfl; rfl; rfl; simp only [Act.put, List.setIfInBounds_toArray, List.set_cons_zero, List.set_cons_succ]) | ((with_reducible apply wqu); rfl; rfl; rfl; rfl; rfl; simp only [Act.put, List.setIfInBounds_toArray, List.set_cons_zero, List.set_cons_succ]))
                  try (refine wqIdx_load rfl rfl rfl rfl (fun W hW => load_mo_at _ _ (x1) (x2) W (keep_cell hW q0) (keep_cell hW q1)) ?_; simp only [Act.put, List.setIfInBounds_toArray, List.set_cons_zero, List.set_cons_succ])
                  repeat (first | ((with_reducible apply wq0); rfl; rfl; rfl; intro K hK; go_big_quiet_op; refine hK _ ?_; clear hK K) | ((with_reducible apply wq1); rfl; rfl; rfl; rfl; rfl; rfl; intro K hK; go_big_quiet_op; refine hK _ ?_; clear hK K) | ((with_reducible apply wqs); rfl; rfl; rfl; rfl; rfl; rfl; simp only [Act.put, List.setIfInBounds_toArray, List.set_cons_zero, List.set_cons_succ]) | ((with_reducible apply wqu); rfl; rfl; rfl; rfl; rfl; simp only [Act.put, List.setIfInBounds_toArray, List.set_cons_zero, List.set_cons_succ]))
                  refine wqIdx_nil ?_
                  refine wpAnyR_done (by kernel_rfl) ?_ _
                  go_wp2
                  refine ⟨⟨k + 1, _, c1, by omega, by go_num, by rw [HF.out, HST.out], ?_, RB.of_drew' HBW.out⟩, by simp [intOf]; omega⟩
                  rw [HF.out, HST.out]
                  exact own_below HO.out (RB.of_drew' HW4.out)
                · have HST := Lib.hid (show stepR l F (x1, x2) = insR F (x1, x2) by rw [HSTEP.out]; rfl)
                  by_cases e1 : y1 = x1
                  · by_cases e2 : y2 = x2
                    · subst e1 e2
                      have HST := Lib.hid (show stepR l F (y1, y2) = F by rw [HST.out, insR_eq, HAT.out, HY.out, if_pos rfl])
                      refine wp_region_R (R := RB) (n := 19) (by kernel_rfl) rfl ?_
                      refine batchB [0, 1, 2, 3, 4, 5, 6, 7, 8, 9, 10, 11, 12, 13, 14, 15, 16, 17, 18] (fuel := 0) rfl (by kernel_rfl) (by kernel_rfl) (fun _ _ d _ _ h => by cases d <;> exact h) ?_
                      repeat (first | ((with_reducible apply wq0); rfl; rfl; rfl; intro K hK; go_big_quiet_op; refine hK _ ?_; clear hK K) | ((with_reducible apply wq1); rfl; rfl; rfl; rfl; rfl; rfl; intro K hK; go_big_quiet_op; refine hK _ ?_; clear hK K) | ((with_reducible apply wqs); rfl; rfl; rfl; rfl; rfl; rfl; simp only [Act.put, List.setIfInBounds_toArray, List.set_cons_zero, List.set_cons_succ]) | ((with_reducible apply wqu); rfl; rfl; rfl; rfl; rfl; simp only [Act.put, List.setIfInBounds_toArray, List.set_cons_zero, List.set_cons_succ]))
                      try (refine wqIdx_load rfl rfl rfl rfl (fun W hW => load_mo_at _ _ (y1) (y2) W (keep_cell hW p0) (keep_cell hW p1)) ?_; simp only [Act.put, List.setIfInBounds_toArray, List.set_cons_zero, List.set_cons_succ])
                      repeat (first | ((with_reducible apply wq0); rfl; rfl; rfl; intro K hK; go_big_quiet_op; refine hK _ ?_; clear hK K) | ((with_reducible apply wq1); rfl; rfl; rfl; rfl; rfl; rfl; intro K hK; go_big_quiet_op; refine hK _ ?_; clear hK K) | ((with_reducible apply wqs); rfl; rfl; rfl; rfl; rfl; rfl; simp only [Act.put, List.setIfInBounds_toArray, List.set_cons_zero, List.set_cons_succ]) | ((with_reducible apply wqu); rfl; rfl; rfl; rfl; rfl; simp only [Act.put, List.setIfInBounds_toArray, List.set_cons_zero, List.set_cons_succ]))
                      try (refine wqIdx_load rfl rfl rfl rfl (fun W hW => load_mo_at _ _ (y1) (y2) W (keep_cell hW q0) (keep_cell hW q1)) ?_; simp only [Act.put, List.setIfInBounds_toArray, List.set_cons_zero, List.set_cons_succ])
                      repeat (first | ((with_reducible apply wq0); rfl; rfl; rfl; intro K hK; go_big_quiet_op; refine hK _ ?_; clear hK K) | ((with_reducible apply wq1); rfl; rfl; rfl; rfl; rfl; rfl; intro K hK; go_big_quiet_op; refine hK _ ?_; clear hK K) | ((with_reducible apply wqs); rfl; rfl; rfl; rfl; rfl; rfl; simp only [Act.put, List.setIfInBounds_toArray, List.set_cons_zero, List.set_cons_succ]) | ((with_reducible apply wqu); rfl; rfl; rfl; rfl; rfl; simp only [Act.put, List.setIfInBounds_toArray, List.set_cons_zero, List.set_cons_succ]))
                      refine wqIdx_nil ?_
                      refine wpAnyR_done (by kernel_rfl) ?_ _
                      go_wp2
                      refine ⟨⟨k + 1, _, c1, by omega, by go_num, by rw [HF.out, HST.out], ?_, RB.of_drew' HBW.out⟩, by simp [intOf]; omega⟩
                      rw [HF.out, HST.out]
                      exact own_below HO.out (RB.of_drew' HW4.out)
                    · have d1 : (y1 == x1) = true := by simpa using e1
                      have d2 : (y2 == x2) = false := by simpa using e2
                      have HINS := Lib.hid (show insR F (x1, x2) = F.take j ++ (x1, x2) :: F.drop j by rw [insR_eq, HAT.out, HY.out, if_neg (fun e => e2 (by injection e with e; injection e))])
                      clear e1 e2
                      have hca : ¬ c1 = j := by omega
                      refine wp_region_R (R := RB) (n := 19) (by kernel_rfl) rfl ?_
                      refine batchB [0, 1, 2, 3, 4, 5, 6, 7, 8, 9, 10, 11, 12, 13, 14, 15, 16, 17, 18] (fuel := 0) rfl (by kernel_rfl) (by kernel_rfl) (fun _ _ d _ _ h => by cases d <;> exact h) ?_
                      repeat (first | ((with_reducible apply wq0); rfl; rfl; rfl; intro K hK; go_big_quiet_op; refine hK _ ?_; clear hK K) | ((with_reducible apply wq1); rfl; rfl; rfl; rfl; rfl; rfl; intro K hK; go_big_quiet_op; refine hK _ ?_; clear hK K) | ((with_reducible apply wqs); rfl; rfl; rfl; rfl; rfl; rfl; simp only [Act.put, List.setIfInBounds_toArray, List.set_cons_zero, List.set_cons_succ]) | ((with_reducible apply wqu); rfl; rfl; rfl; rfl; rfl; simp only [Act.put, List.setIfInBounds_toArray, List.set_cons_zero, List.set_cons_succ]))
                      try (refine wqIdx_load rfl rfl rfl rfl (fun W hW => load_mo_at _ _ (y1) (y2) W (keep_cell hW p0) (keep_cell hW p1)) ?_; simp only [Act.put, List.setIfInBounds_toArray, List.set_cons_zero, List.set_cons_succ])
                      repeat (first | ((with_reducible apply wq0); rfl; rfl; rfl; intro K hK; go_big_quiet_op; refine hK _ ?_; clear hK K) | ((with_reducible apply wq1); rfl; rfl; rfl; rfl; rfl; rfl; intro K hK; go_big_quiet_op; refine hK _ ?_; clear hK K) | ((with_reducible apply wqs); rfl; rfl; rfl; rfl; rfl; rfl; simp only [Act.put, List.setIfInBounds_toArray, List.set_cons_zero, List.set_cons_succ]) | ((with_reducible apply wqu); rfl; rfl; rfl; rfl; rfl; simp only [Act.put, List.setIfInBounds_toArray, List.set_cons_zero, List.set_cons_succ]))
                      try (refine wqIdx_load rfl rfl rfl rfl (fun W hW => load_mo_at _ _ (x1) (x2) W (keep_cell hW q0) (keep_cell hW q1)) ?_; simp only [Act.put, List.setIfInBounds_toArray, List.set_cons_zero, List.set_cons_succ])
                      repeat (first | ((with_reducible apply wq0); rfl; rfl; rfl; intro K hK; go_big_quiet_op; refine hK _ ?_; clear hK K) | ((with_reducible apply wq1); rfl; rfl; rfl; rfl; rfl; rfl; intro K hK; go_big_quiet_op; refine hK _ ?_; clear hK K) | ((with_reducible apply wqs); rfl; rfl; rfl; rfl; rfl; rfl; simp only [Act.put, List.setIfInBounds_toArray, List.set_cons_zero, List.set_cons_succ]) | ((with_reducible apply wqu); rfl; rfl; rfl; rfl; rfl; simp only [Act.put, List.setIfInBounds_toArray, List.set_cons_zero, List.set_cons_succ]))
                      refine wqIdx_nil ?_
                      refine wpAnyR_done (by kernel_rfl) ?_ _
                      go_wp2_with fail
                      have HV := Lib.hid (show Below wO.heap.size wO w4.drew.drew from RB.of_drew' (RB.of_drew' HW4.out))
                      have HVw := Lib.hid (show Below w.heap.size w w4.drew.drew from RB.of_drew' (RB.of_drew' HBW.out))
                      have SFV := Lib.hid (SF.out.below HV.out)
                      obtain ⟨hgl, -⟩ := (SL.out.below HBW.out).at_ HX.out
                      have q0 : (w4.drew.drew).cell? _ = _ := q0
                      have q1 : (w4.drew.drew).cell? _ = _ := q1
                      refine wp_region_R (R := RK (fun b => w4.heap.size ≤ b)) (n := 16) (by kernel_rfl) rfl ?_
                      refine batchK [1, 2, 3, 5, 6, 7, 8, 11, 12, 13] (fuel := 6) rfl (by kernel_rfl) (by kernel_rfl) (fun _ _ d _ _ h => by cases d <;> exact h) ?_
                      repeat (first | ((with_reducible apply wq0); rfl; rfl; rfl; intro K hK; go_big_quiet_op; refine hK _ ?_; clear hK K) | ((with_reducible apply wq1); rfl; rfl; rfl; rfl; rfl; rfl; intro K hK; go_big_quiet_op; refine hK _ ?_; clear hK K) | ((with_reducible apply wqs); rfl; rfl; rfl; rfl; rfl; rfl; simp only [Act.put, List.setIfInBounds_toArray, List.set_cons_zero, List.set_cons_succ]) | ((with_reducible apply wqu); rfl; rfl; rfl; rfl; rfl; simp only [Act.put, List.setIfInBounds_toArray, List.set_cons_zero, List.set_cons_succ]))
                      refine wqIdx_load rfl rfl rfl rfl (fun W' hW => load_mo_at _ _ x1 x2 W' (keep_cellK hW (by simp only; omega) q0) (keep_cellK hW (by simp only; omega) q1)) ?_
                      simp only [Act.put, List.setIfInBounds_toArray, List.set_cons_zero, List.set_cons_succ]
                      repeat (first | ((with_reducible apply wq0); rfl; rfl; rfl; intro K hK; go_big_quiet_op; refine hK _ ?_; clear hK K) | ((with_reducible apply wq1); rfl; rfl; rfl; rfl; rfl; rfl; intro K hK; go_big_quiet_op; refine hK _ ?_; clear hK K) | ((with_reducible apply wqs); rfl; rfl; rfl; rfl; rfl; rfl; simp only [Act.put, List.setIfInBounds_toArray, List.set_cons_zero, List.set_cons_succ]) | ((with_reducible apply wqu); rfl; rfl; rfl; rfl; rfl; simp only [Act.put, List.setIfInBounds_toArray, List.set_cons_zero, List.set_cons_succ]))
                      refine wqIdx_nil ?_
                      have E0 := Lib.hid (empty_own2 (w4.drew.drew) 61)
                      refine wpAnyR_two (i := 0) (j := 9) (by kernel_rfl) ⟨_, rfl, fun K hK => ?_⟩ ⟨_, rfl, fun K hK => ?_⟩
                      · go_simp
                        refine hK _ _ (rk_below' (alloc_below _ _)) ?_
                        clear hK K
                        have RK4 := Lib.hid (show RK (fun b => w4.heap.size ≤ b) (w4.drew.drew) ((w4.drew.drew).alloc (.cells #[] 61)) from rk_below' (alloc_below _ _))
                        refine wpAnyR_two (i := 4) (j := 9) (by kernel_rfl) ⟨_, rfl, fun K hK => ?_⟩ ⟨_, rfl, fun K hK => ?_⟩
                        · have hr := (((SFV.out.take j).keptB RK4.out (Nat.le_refl _)).reads)
                          rw [List.length_take, Nat.min_eq_left (by omega)] at hr
                          have HR := Lib.hid hr
                          clear hr
                          rw [if_pos (wanted0 rfl _)]
                          refine wp_appP _ (.tmp 77) (.tmp 80) _ rfl Try.underlying66 info_mo3 E0.out HR.out _ rfl rfl (by omega) (by simp) ?_
                          intro A5 c5 w5 o5 gr5
                          rw [Nat.zero_add, List.nil_append] at o5
                          simp only [Nat.zero_add]
                          refine hK _ _ (rk_grown' (Grew.by_ gr5) (fun i hi => by simp [Value.ownBlock] at hi; show (_ : Nat) ≤ _; first | omega | (simp; omega))) ?_
                          clear hK K
                          have RKa := Lib.hid (RK.trans _ _ _ _ RK4.out (rk_grown' (Grew.by_ gr5) (fun i hi => by simp [Value.ownBlock] at hi; show (_ : Nat) ≤ _; first | omega | (simp; omega))))
                          simp only [Act.put, List.setIfInBounds_toArray, List.set_cons_zero, List.set_cons_succ]
                          refine wpAnyR_sole (i := 9) rfl (by kernel_rfl) (fun K hK => ?_)
                          go_simp
                          refine hK _ _ (rk_below' (alloc_below _ _)) ?_
                          clear hK K
                          have O5 := Lib.hid (World.ownsRow.alloc (show w5.ownsRow w4.heap.size _ _ _ _ _ from o5) (.cells #[.int .i64 x1, .int .i64 x2] 61))
                          have KX := Lib.hid (Blk.new w5 61 #[.int .i64 x1, .int .i64 x2])
                          have RK5 := Lib.hid (RK.trans _ _ _ _ RKa.out (rk_below' (alloc_below w5 (.cells #[.int .i64 x1, .int .i64 x2] 61))))
                          have HS5 := Lib.hid (show w4.heap.size ≤ _ from RK5.out.2.2.2.1)
                          clear o5 gr5 RKa RK4
                          refine wpAnyR_sole (i := 10) rfl (by kernel_rfl) (fun K hK => ?_)
                          rw [if_pos (wanted0 rfl _)]
                          refine wp_appP _ (.tmp 81) (.tmp 86) _ rfl Try.underlying66 info_mo3 O5.out (reads_blk (x1, x2) KX.out) 1 rfl rfl (by omega) HS5.out ?_
                          intro A7 c7 w7 o7 gr7
                          refine hK _ _ (rk_grown' (Grew.by_ gr7) (fun i hi => (World.ownsRow.lt O5.out i hi).1)) ?_
                          clear hK K
                          have RK7 := Lib.hid (RK.trans _ _ _ _ RK5.out (rk_grown' (Grew.by_ gr7) (fun i hi => (World.ownsRow.lt O5.out i hi).1)))
                          have O7 := Lib.hid o7
                          have HS7 := Lib.hid (show w4.heap.size ≤ w7.heap.size from RK7.out.2.2.2.1)
                          clear o7 gr7
                          simp only [Act.put, List.setIfInBounds_toArray, List.set_cons_zero, List.set_cons_succ]
                          have hd := (((SFV.out.drop (k := j) hFc).keptB RK7.out (Nat.le_refl _)).reads)
                          rw [if_neg hca, List.length_drop] at hd
                          simp only [Option.map_some, Addr.add_lit] at hd
                          have HD := Lib.hid hd
                          clear hd
                          refine wpAnyR_sole (i := 14) rfl (by kernel_rfl) (fun K hK => ?_)
                          rw [if_pos (wanted0 rfl _)]
                          refine wp_appP _ (.tmp 87) (.tmp 90) _ rfl Try.underlying66 info_mo3 O7.out HD.out _ rfl rfl (by omega) HS7.out ?_
                          intro A8 c8 w8 o8 gr8
                          refine hK _ _ (rk_grown' (Grew.by_ gr8) (fun i hi => (World.ownsRow.lt O7.out i hi).1)) ?_
                          clear hK K
                          have RK8 := Lib.hid (RK.trans _ _ _ _ RK7.out (rk_grown' (Grew.by_ gr8) (fun i hi => (World.ownsRow.lt O7.out i hi).1)))
                          have O8 := Lib.hid o8
                          clear o8 gr8
                          simp only [Act.put, List.setIfInBounds_toArray, List.set_cons_zero, List.set_cons_succ]
                          refine batchK [15] (fuel := 0) rfl (by kernel_rfl) (by kernel_rfl) (fun _ _ d _ _ h => by cases d <;> exact h) ?_
                          repeat (first | ((with_reducible apply wq0); rfl; rfl; rfl; intro K hK; go_big_quiet_op; refine hK _ ?_; clear hK K) | ((with_reducible apply wq1); rfl; rfl; rfl; rfl; rfl; rfl; intro K hK; go_big_quiet_op; refine hK _ ?_; clear hK K) | ((with_reducible apply wqs); rfl; rfl; rfl; rfl; rfl; rfl; simp only [Act.put, List.setIfInBounds_toArray, List.set_cons_zero, List.set_cons_succ]) | ((with_reducible apply wqu); rfl; rfl; rfl; rfl; rfl; simp only [Act.put, List.setIfInBounds_toArray, List.set_cons_zero, List.set_cons_succ]))
                          refine wqIdx_nil ?_
                          refine wpAnyR_done (by kernel_rfl) ?_ _
                          have hlen : (insR F (x1, x2)).length = j + 1 + (F.length - j) := by rw [HINS.out, List.length_append, List.length_cons, List.length_take, List.length_drop]; omega
                          have HLEN := Lib.hid hlen
                          clear hlen
                          have HB8 := Lib.hid (below_of_rk RK8.out (Nat.le_refl _))
                          have hW4 := HW4.out.size
                          have hW1 := HB.out.size
                          go_wp2
                          refine ⟨⟨k + 1, A8, c8, by omega, by go_num, ?_, ?_, HVw.out.trans (HB8.out.mono (by have := HBW.out.size; exact this))⟩, by simp [intOf]; omega⟩
                          · rw [HF.out, HST.out, HLEN.out]
                          · rw [HF.out, HST.out, HLEN.out]
                            have o := own_mono O8.out (show w.heap.size ≤ w4.heap.size from HBW.out.size)
                            have e : Prs (insR F (x1, x2)) = Prs (F.take j ++ [(x1, x2)] ++ F.drop j) := by rw [HINS.out, List.append_assoc]; rfl
                            rw [e]
                            exact o
                        · go_simp
                          refine hK _ _ (rk_below' (alloc_below _ _)) ?_
                          clear hK K
                          have KX0 := Lib.hid (blk_top ((w4.drew.drew).alloc (.cells #[] 61)) #[.int .i64 x1, .int .i64 x2] 61 (w4.heap.size + 1) (by simp))
                          have RK4 := Lib.hid (RK.trans _ _ _ _ RK4.out (rk_below' (alloc_below ((w4.drew.drew).alloc (.cells #[] 61)) (.cells #[.int .i64 x1, .int .i64 x2] 61))))
                          have E1 := Lib.hid (World.ownsRow.alloc E0.out (.cells #[.int .i64 x1, .int .i64 x2] 61))
                          refine wpAnyR_sole (i := 4) rfl (by kernel_rfl) (fun K hK => ?_)
                          have hr := (((SFV.out.take j).keptB RK4.out (Nat.le_refl _)).reads)
                          rw [List.length_take, Nat.min_eq_left (by omega)] at hr
                          have HR := Lib.hid hr
                          clear hr
                          rw [if_pos (wanted0 rfl _)]
                          refine wp_appP _ (.tmp 77) (.tmp 80) _ rfl Try.underlying66 info_mo3 E1.out HR.out _ rfl rfl (by omega) (by simp; omega) ?_
                          intro A5 c5 w5 o5 gr5
                          rw [Nat.zero_add, List.nil_append] at o5
                          simp only [Nat.zero_add]
                          refine hK _ _ (rk_grown' (Grew.by_ gr5) (fun i hi => by simp [Value.ownBlock] at hi; show (_ : Nat) ≤ _; first | omega | (simp; omega))) ?_
                          clear hK K
                          simp only [Act.put, List.setIfInBounds_toArray, List.set_cons_zero, List.set_cons_succ]
                          have RK5 := Lib.hid (RK.trans _ _ _ _ RK4.out (rk_grown' (Grew.by_ gr5) (fun i hi => by simp [Value.ownBlock] at hi; show (_ : Nat) ≤ _; first | omega | (simp; omega))))
                          have O5 := Lib.hid (show w5.ownsRow w4.heap.size _ _ _ _ _ from o5)
                          have KX := Lib.hid (KX0.out.grown (Grew.by_ gr5) (by simp [Value.ownBlock]))
                          have HS5 := Lib.hid (show w4.heap.size ≤ w5.heap.size from RK5.out.2.2.2.1)
                          clear o5 gr5 RK4
                          refine wpAnyR_sole (i := 10) rfl (by kernel_rfl) (fun K hK => ?_)
                          rw [if_pos (wanted0 rfl _)]
                          refine wp_appP _ (.tmp 81) (.tmp 86) _ rfl Try.underlying66 info_mo3 O5.out (reads_blk (x1, x2) KX.out) 1 rfl rfl (by omega) HS5.out ?_
                          intro A7 c7 w7 o7 gr7
                          refine hK _ _ (rk_grown' (Grew.by_ gr7) (fun i hi => (World.ownsRow.lt O5.out i hi).1)) ?_
                          clear hK K
                          have RK7 := Lib.hid (RK.trans _ _ _ _ RK5.out (rk_grown' (Grew.by_ gr7) (fun i hi => (World.ownsRow.lt O5.out i hi).1)))
                          have O7 := Lib.hid o7
                          have HS7 := Lib.hid (show w4.heap.size ≤ w7.heap.size from RK7.out.2.2.2.1)
                          clear o7 gr7
                          simp only [Act.put, List.setIfInBounds_toArray, List.set_cons_zero, List.set_cons_succ]
                          have hd := (((SFV.out.drop (k := j) hFc).keptB RK7.out (Nat.le_refl _)).reads)
                          rw [if_neg hca, List.length_drop] at hd
                          simp only [Option.map_some, Addr.add_lit] at hd
                          have HD := Lib.hid hd
                          clear hd
                          refine wpAnyR_sole (i := 14) rfl (by kernel_rfl) (fun K hK => ?_)
                          rw [if_pos (wanted0 rfl _)]
                          refine wp_appP _ (.tmp 87) (.tmp 90) _ rfl Try.underlying66 info_mo3 O7.out HD.out _ rfl rfl (by omega) HS7.out ?_
                          intro A8 c8 w8 o8 gr8
                          refine hK _ _ (rk_grown' (Grew.by_ gr8) (fun i hi => (World.ownsRow.lt O7.out i hi).1)) ?_
                          clear hK K
                          have RK8 := Lib.hid (RK.trans _ _ _ _ RK7.out (rk_grown' (Grew.by_ gr8) (fun i hi => (World.ownsRow.lt O7.out i hi).1)))
                          have O8 := Lib.hid o8
                          clear o8 gr8
                          simp only [Act.put, List.setIfInBounds_toArray, List.set_cons_zero, List.set_cons_succ]
                          refine batchK [15] (fuel := 0) rfl (by kernel_rfl) (by kernel_rfl) (fun _ _ d _ _ h => by cases d <;> exact h) ?_
                          repeat (first | ((with_reducible apply wq0); rfl; rfl; rfl; intro K hK; go_big_quiet_op; refine hK _ ?_; clear hK K) | ((with_reducible apply wq1); rfl; rfl; rfl; rfl; rfl; rfl; intro K hK; go_big_quiet_op; refine hK _ ?_; clear hK K) | ((with_reducible apply wqs); rfl; rfl; rfl; rfl; rfl; rfl; simp only [Act.put, List.setIfInBounds_toArray, List.set_cons_zero, List.set_cons_succ]) | ((with_reducible apply wqu); rfl; rfl; rfl; rfl; rfl; simp only [Act.put, List.setIfInBounds_toArray, List.set_cons_zero, List.set_cons_succ]))
                          refine wqIdx_nil ?_
                          refine wpAnyR_done (by kernel_rfl) ?_ _
                          have hlen : (insR F (x1, x2)).length = j + 1 + (F.length - j) := by rw [HINS.out, List.length_append, List.length_cons, List.length_take, List.length_drop]; omega
                          have HLEN := Lib.hid hlen
                          clear hlen
                          have HB8 := Lib.hid (below_of_rk RK8.out (Nat.le_refl _))
                          have hW4 := HW4.out.size
                          have hW1 := HB.out.size
                          go_wp2
                          refine ⟨⟨k + 1, A8, c8, by omega, by go_num, ?_, ?_, HVw.out.trans (HB8.out.mono (by have := HBW.out.size; exact this))⟩, by simp [intOf]; omega⟩
                          · rw [HF.out, HST.out, HLEN.out]
                          · rw [HF.out, HST.out, HLEN.out]
                            have o := own_mono O8.out (show w.heap.size ≤ w4.heap.size from HBW.out.size)
                            have e : Prs (insR F (x1, x2)) = Prs (F.take j ++ [(x1, x2)] ++ F.drop j) := by rw [HINS.out, List.append_assoc]; rfl
                            rw [e]
                            exact o
                      · go_simp
                        refine hK _ _ (rk_below' (alloc_below _ _)) ?_
                        clear hK K
                        have KX0 := Lib.hid ((Blk.new (w4.drew.drew) 61 #[.int .i64 x1, .int .i64 x2]).alloc (.cells #[] 61))
                        refine wpAnyR_sole (i := 0) rfl (by kernel_rfl) (fun K hK => ?_)
                        go_simp
                        refine hK _ _ (rk_below' (alloc_below _ _)) ?_
                        clear hK K
                        have RK4 := Lib.hid (show RK (fun b => w4.heap.size ≤ b) (w4.drew.drew) (((w4.drew.drew).alloc (.cells #[.int .i64 x1, .int .i64 x2] 61)).alloc (.cells #[] 61)) from RK.trans _ _ _ _ (rk_below' (alloc_below _ _)) (rk_below' (alloc_below _ _)))
                        have e1 := empty_own2 ((w4.drew.drew).alloc (.cells #[.int .i64 x1, .int .i64 x2] 61)) 61
                        rw [World.size_alloc] at e1
                        have E1 := Lib.hid e1
                        clear e1
                        refine wpAnyR_sole (i := 4) rfl (by kernel_rfl) (fun K hK => ?_)
                        have hr := (((SFV.out.take j).keptB RK4.out (Nat.le_refl _)).reads)
                        rw [List.length_take, Nat.min_eq_left (by omega)] at hr
                        have HR := Lib.hid hr
                        clear hr
                        rw [if_pos (wanted0 rfl _)]
                        refine wp_appP _ (.tmp 77) (.tmp 80) _ rfl Try.underlying66 info_mo3 E1.out HR.out _ rfl rfl (by omega) (by simp) ?_
                        intro A5 c5 w5 o5 gr5
                        rw [Nat.zero_add, List.nil_append] at o5
                        simp only [Nat.zero_add]
                        refine hK _ _ (rk_grown' (Grew.by_ gr5) (fun i hi => by simp [Value.ownBlock] at hi; show (_ : Nat) ≤ _; first | omega | (simp; omega))) ?_
                        clear hK K
                        simp only [Act.put, List.setIfInBounds_toArray, List.set_cons_zero, List.set_cons_succ]
                        have RK5 := Lib.hid (RK.trans _ _ _ _ RK4.out (rk_grown' (Grew.by_ gr5) (fun i hi => by simp [Value.ownBlock] at hi; show (_ : Nat) ≤ _; first | omega | (simp; omega))))
                        have O5 := Lib.hid (own_mono o5 (show w4.heap.size ≤ _ from Nat.le_succ _))
                        have KX := Lib.hid (KX0.out.grown (Grew.by_ gr5) (by simp [Value.ownBlock]))
                        have HS5 := Lib.hid (show w4.heap.size ≤ w5.heap.size from RK5.out.2.2.2.1)
                        clear o5 gr5 RK4
                        refine wpAnyR_sole (i := 10) rfl (by kernel_rfl) (fun K hK => ?_)
                        rw [if_pos (wanted0 rfl _)]
                        refine wp_appP _ (.tmp 81) (.tmp 86) _ rfl Try.underlying66 info_mo3 O5.out (reads_blk (x1, x2) KX.out) 1 rfl rfl (by omega) HS5.out ?_
                        intro A7 c7 w7 o7 gr7
                        refine hK _ _ (rk_grown' (Grew.by_ gr7) (fun i hi => (World.ownsRow.lt O5.out i hi).1)) ?_
                        clear hK K
                        have RK7 := Lib.hid (RK.trans _ _ _ _ RK5.out (rk_grown' (Grew.by_ gr7) (fun i hi => (World.ownsRow.lt O5.out i hi).1)))
                        have O7 := Lib.hid o7
                        have HS7 := Lib.hid (show w4.heap.size ≤ w7.heap.size from RK7.out.2.2.2.1)
                        clear o7 gr7
                        simp only [Act.put, List.setIfInBounds_toArray, List.set_cons_zero, List.set_cons_succ]
                        have hd := (((SFV.out.drop (k := j) hFc).keptB RK7.out (Nat.le_refl _)).reads)
                        rw [if_neg hca, List.length_drop] at hd
                        simp only [Option.map_some, Addr.add_lit] at hd
                        have HD := Lib.hid hd
                        clear hd
                        refine wpAnyR_sole (i := 14) rfl (by kernel_rfl) (fun K hK => ?_)
                        rw [if_pos (wanted0 rfl _)]
                        refine wp_appP _ (.tmp 87) (.tmp 90) _ rfl Try.underlying66 info_mo3 O7.out HD.out _ rfl rfl (by omega) HS7.out ?_
                        intro A8 c8 w8 o8 gr8
                        refine hK _ _ (rk_grown' (Grew.by_ gr8) (fun i hi => (World.ownsRow.lt O7.out i hi).1)) ?_
                        clear hK K
                        have RK8 := Lib.hid (RK.trans _ _ _ _ RK7.out (rk_grown' (Grew.by_ gr8) (fun i hi => (World.ownsRow.lt O7.out i hi).1)))
                        have O8 := Lib.hid o8
                        clear o8 gr8
                        simp only [Act.put, List.setIfInBounds_toArray, List.set_cons_zero, List.set_cons_succ]
                        refine batchK [15] (fuel := 0) rfl (by kernel_rfl) (by kernel_rfl) (fun _ _ d _ _ h => by cases d <;> exact h) ?_
                        repeat (first | ((with_reducible apply wq0); rfl; rfl; rfl; intro K hK; go_big_quiet_op; refine hK _ ?_; clear hK K) | ((with_reducible apply wq1); rfl; rfl; rfl; rfl; rfl; rfl; intro K hK; go_big_quiet_op; refine hK _ ?_; clear hK K) | ((with_reducible apply wqs); rfl; rfl; rfl; rfl; rfl; rfl; simp only [Act.put, List.setIfInBounds_toArray, List.set_cons_zero, List.set_cons_succ]) | ((with_reducible apply wqu); rfl; rfl; rfl; rfl; rfl; simp only [Act.put, List.setIfInBounds_toArray, List.set_cons_zero, List.set_cons_succ]))
                        refine wqIdx_nil ?_
                        refine wpAnyR_done (by kernel_rfl) ?_ _
                        have hlen : (insR F (x1, x2)).length = j + 1 + (F.length - j) := by rw [HINS.out, List.length_append, List.length_cons, List.length_take, List.length_drop]; omega
                        have HLEN := Lib.hid hlen
                        clear hlen
                        have HB8 := Lib.hid (below_of_rk RK8.out (Nat.le_refl _))
                        have hW4 := HW4.out.size
                        have hW1 := HB.out.size
                        go_wp2
                        refine ⟨⟨k + 1, A8, c8, by omega, by go_num, ?_, ?_, HVw.out.trans (HB8.out.mono (by have := HBW.out.size; exact this))⟩, by simp [intOf]; omega⟩
                        · rw [HF.out, HST.out, HLEN.out]
                        · rw [HF.out, HST.out, HLEN.out]
                          have o := own_mono O8.out (show w.heap.size ≤ w4.heap.size from HBW.out.size)
                          have e : Prs (insR F (x1, x2)) = Prs (F.take j ++ [(x1, x2)] ++ F.drop j) := by rw [HINS.out, List.append_assoc]; rfl
                          rw [e]
                          exact o
                  · have d1 : (y1 == x1) = false := by simpa using e1
                    have HINS := Lib.hid (show insR F (x1, x2) = F.take j ++ (x1, x2) :: F.drop j by rw [insR_eq, HAT.out, HY.out, if_neg (fun e => e1 (by injection e with e; injection e))])
                    clear e1
                    have hca : ¬ c1 = j := by omega
                    refine wp_region_R (R := RB) (n := 19) (by kernel_rfl) rfl ?_
                    refine batchB [0, 1, 2, 3, 4, 5, 6, 7, 8, 9, 10, 11, 12, 13, 14, 15, 16, 17, 18] (fuel := 0) rfl (by kernel_rfl) (by kernel_rfl) (fun _ _ d _ _ h => by cases d <;> exact h) ?_
                    repeat (first | ((with_reducible apply wq0); rfl; rfl; rfl; intro K hK; go_big_quiet_op; refine hK _ ?_; clear hK K) | ((with_reducible apply wq1); rfl; rfl; rfl; rfl; rfl; rfl; intro K hK; go_big_quiet_op; refine hK _ ?_; clear hK K) | ((with_reducible apply wqs); rfl; rfl; rfl; rfl; rfl; rfl; simp only [Act.put, List.setIfInBounds_toArray, List.set_cons_zero, List.set_cons_succ]) | ((with_reducible apply wqu); rfl; rfl; rfl; rfl; rfl; simp only [Act.put, List.setIfInBounds_toArray, List.set_cons_zero, List.set_cons_succ]))
                    try (refine wqIdx_load rfl rfl rfl rfl (fun W hW => load_mo_at _ _ (y1) (y2) W (keep_cell hW p0) (keep_cell hW p1)) ?_; simp only [Act.put, List.setIfInBounds_toArray, List.set_cons_zero, List.set_cons_succ])
                    repeat (first | ((with_reducible apply wq0); rfl; rfl; rfl; intro K hK; go_big_quiet_op; refine hK _ ?_; clear hK K) | ((with_reducible apply wq1); rfl; rfl; rfl; rfl; rfl; rfl; intro K hK; go_big_quiet_op; refine hK _ ?_; clear hK K) | ((with_reducible apply wqs); rfl; rfl; rfl; rfl; rfl; rfl; simp only [Act.put, List.setIfInBounds_toArray, List.set_cons_zero, List.set_cons_succ]) | ((with_reducible apply wqu); rfl; rfl; rfl; rfl; rfl; simp only [Act.put, List.setIfInBounds_toArray, List.set_cons_zero, List.set_cons_succ]))
                    try (refine wqIdx_load rfl rfl rfl rfl (fun W hW => load_mo_at _ _ (x1) (x2) W (keep_cell hW q0) (keep_cell hW q1)) ?_; simp only [Act.put, List.setIfInBounds_toArray, List.set_cons_zero, List.set_cons_succ])
                    repeat (first | ((with_reducible apply wq0); rfl; rfl; rfl; intro K hK; go_big_quiet_op; refine hK _ ?_; clear hK K) | ((with_reducible apply wq1); rfl; rfl; rfl; rfl; rfl; rfl; intro K hK; go_big_quiet_op; refine hK _ ?_; clear hK K) | ((with_reducible apply wqs); rfl; rfl; rfl; rfl; rfl; rfl; simp only [Act.put, List.setIfInBounds_toArray, List.set_cons_zero, List.set_cons_succ]) | ((with_reducible apply wqu); rfl; rfl; rfl; rfl; rfl; simp only [Act.put, List.setIfInBounds_toArray, List.set_cons_zero, List.set_cons_succ]))
                    refine wqIdx_nil ?_
                    refine wpAnyR_done (by kernel_rfl) ?_ _
                    go_wp2_with fail
                    have HV := Lib.hid (show Below wO.heap.size wO w4.drew.drew from RB.of_drew' (RB.of_drew' HW4.out))
                    have HVw := Lib.hid (show Below w.heap.size w w4.drew.drew from RB.of_drew' (RB.of_drew' HBW.out))
                    have SFV := Lib.hid (SF.out.below HV.out)
                    obtain ⟨hgl, -⟩ := (SL.out.below HBW.out).at_ HX.out
                    have q0 : (w4.drew.drew).cell? _ = _ := q0
                    have q1 : (w4.drew.drew).cell? _ = _ := q1
                    refine wp_region_R (R := RK (fun b => w4.heap.size ≤ b)) (n := 16) (by kernel_rfl) rfl ?_
                    refine batchK [1, 2, 3, 5, 6, 7, 8, 11, 12, 13] (fuel := 6) rfl (by kernel_rfl) (by kernel_rfl) (fun _ _ d _ _ h => by cases d <;> exact h) ?_
                    repeat (first | ((with_reducible apply wq0); rfl; rfl; rfl; intro K hK; go_big_quiet_op; refine hK _ ?_; clear hK K) | ((with_reducible apply wq1); rfl; rfl; rfl; rfl; rfl; rfl; intro K hK; go_big_quiet_op; refine hK _ ?_; clear hK K) | ((with_reducible apply wqs); rfl; rfl; rfl; rfl; rfl; rfl; simp only [Act.put, List.setIfInBounds_toArray, List.set_cons_zero, List.set_cons_succ]) | ((with_reducible apply wqu); rfl; rfl; rfl; rfl; rfl; simp only [Act.put, List.setIfInBounds_toArray, List.set_cons_zero, List.set_cons_succ]))
                    refine wqIdx_load rfl rfl rfl rfl (fun W' hW => load_mo_at _ _ x1 x2 W' (keep_cellK hW (by simp only; omega) q0) (keep_cellK hW (by simp only; omega) q1)) ?_
                    simp only [Act.put, List.setIfInBounds_toArray, List.set_cons_zero, List.set_cons_succ]
                    repeat (first | ((with_reducible apply wq0); rfl; rfl; rfl; intro K hK; go_big_quiet_op; refine hK _ ?_; clear hK K) | ((with_reducible apply wq1); rfl; rfl; rfl; rfl; rfl; rfl; intro K hK; go_big_quiet_op; refine hK _ ?_; clear hK K) | ((with_reducible apply wqs); rfl; rfl; rfl; rfl; rfl; rfl; simp only [Act.put, List.setIfInBounds_toArray, List.set_cons_zero, List.set_cons_succ]) | ((with_reducible apply wqu); rfl; rfl; rfl; rfl; rfl; simp only [Act.put, List.setIfInBounds_toArray, List.set_cons_zero, List.set_cons_succ]))
                    refine wqIdx_nil ?_
                    have E0 := Lib.hid (empty_own2 (w4.drew.drew) 61)
                    refine wpAnyR_two (i := 0) (j := 9) (by kernel_rfl) ⟨_, rfl, fun K hK => ?_⟩ ⟨_, rfl, fun K hK => ?_⟩
                    · go_simp
                      refine hK _ _ (rk_below' (alloc_below _ _)) ?_
                      clear hK K
                      have RK4 := Lib.hid (show RK (fun b => w4.heap.size ≤ b) (w4.drew.drew) ((w4.drew.drew).alloc (.cells #[] 61)) from rk_below' (alloc_below _ _))
                      refine wpAnyR_two (i := 4) (j := 9) (by kernel_rfl) ⟨_, rfl, fun K hK => ?_⟩ ⟨_, rfl, fun K hK => ?_⟩
                      · have hr := (((SFV.out.take j).keptB RK4.out (Nat.le_refl _)).reads)
                        rw [List.length_take, Nat.min_eq_left (by omega)] at hr
                        have HR := Lib.hid hr
                        clear hr
                        rw [if_pos (wanted0 rfl _)]
                        refine wp_appP _ (.tmp 77) (.tmp 80) _ rfl Try.underlying66 info_mo3 E0.out HR.out _ rfl rfl (by omega) (by simp) ?_
                        intro A5 c5 w5 o5 gr5
                        rw [Nat.zero_add, List.nil_append] at o5
                        simp only [Nat.zero_add]
                        refine hK _ _ (rk_grown' (Grew.by_ gr5) (fun i hi => by simp [Value.ownBlock] at hi; show (_ : Nat) ≤ _; first | omega | (simp; omega))) ?_
                        clear hK K
                        have RKa := Lib.hid (RK.trans _ _ _ _ RK4.out (rk_grown' (Grew.by_ gr5) (fun i hi => by simp [Value.ownBlock] at hi; show (_ : Nat) ≤ _; first | omega | (simp; omega))))
                        simp only [Act.put, List.setIfInBounds_toArray, List.set_cons_zero, List.set_cons_succ]
                        refine wpAnyR_sole (i := 9) rfl (by kernel_rfl) (fun K hK => ?_)
                        go_simp
                        refine hK _ _ (rk_below' (alloc_below _ _)) ?_
                        clear hK K
                        have O5 := Lib.hid (World.ownsRow.alloc (show w5.ownsRow w4.heap.size _ _ _ _ _ from o5) (.cells #[.int .i64 x1, .int .i64 x2] 61))
                        have KX := Lib.hid (Blk.new w5 61 #[.int .i64 x1, .int .i64 x2])
                        have RK5 := Lib.hid (RK.trans _ _ _ _ RKa.out (rk_below' (alloc_below w5 (.cells #[.int .i64 x1, .int .i64 x2] 61))))
                        have HS5 := Lib.hid (show w4.heap.size ≤ _ from RK5.out.2.2.2.1)
                        clear o5 gr5 RKa RK4
                        refine wpAnyR_sole (i := 10) rfl (by kernel_rfl) (fun K hK => ?_)
                        rw [if_pos (wanted0 rfl _)]
                        refine wp_appP _ (.tmp 81) (.tmp 86) _ rfl Try.underlying66 info_mo3 O5.out (reads_blk (x1, x2) KX.out) 1 rfl rfl (by omega) HS5.out ?_
                        intro A7 c7 w7 o7 gr7
                        refine hK _ _ (rk_grown' (Grew.by_ gr7) (fun i hi => (World.ownsRow.lt O5.out i hi).1)) ?_
                        clear hK K
                        have RK7 := Lib.hid (RK.trans _ _ _ _ RK5.out (rk_grown' (Grew.by_ gr7) (fun i hi => (World.ownsRow.lt O5.out i hi).1)))
                        have O7 := Lib.hid o7
                        have HS7 := Lib.hid (show w4.heap.size ≤ w7.heap.size from RK7.out.2.2.2.1)
                        clear o7 gr7
                        simp only [Act.put, List.setIfInBounds_toArray, List.set_cons_zero, List.set_cons_succ]
                        have hd := (((SFV.out.drop (k := j) hFc).keptB RK7.out (Nat.le_refl _)).reads)
                        rw [if_neg hca, List.length_drop] at hd
                        simp only [Option.map_some, Addr.add_lit] at hd
                        have HD := Lib.hid hd
                        clear hd
                        refine wpAnyR_sole (i := 14) rfl (by kernel_rfl) (fun K hK => ?_)
                        rw [if_pos (wanted0 rfl _)]
                        refine wp_appP _ (.tmp 87) (.tmp 90) _ rfl Try.underlying66 info_mo3 O7.out HD.out _ rfl rfl (by omega) HS7.out ?_
                        intro A8 c8 w8 o8 gr8
                        refine hK _ _ (rk_grown' (Grew.by_ gr8) (fun i hi => (World.ownsRow.lt O7.out i hi).1)) ?_
                        clear hK K
                        have RK8 := Lib.hid (RK.trans _ _ _ _ RK7.out (rk_grown' (Grew.by_ gr8) (fun i hi => (World.ownsRow.lt O7.out i hi).1)))
                        have O8 := Lib.hid o8
                        clear o8 gr8
                        simp only [Act.put, List.setIfInBounds_toArray, List.set_cons_zero, List.set_cons_succ]
                        refine batchK [15] (fuel := 0) rfl (by kernel_rfl) (by kernel_rfl) (fun _ _ d _ _ h => by cases d <;> exact h) ?_
                        repeat (first | ((with_reducible apply wq0); rfl; rfl; rfl; intro K hK; go_big_quiet_op; refine hK _ ?_; clear hK K) | ((with_reducible apply wq1); rfl; rfl; rfl; rfl; rfl; rfl; intro K hK; go_big_quiet_op; refine hK _ ?_; clear hK K) | ((with_reducible apply wqs); rfl; rfl; rfl; rfl; rfl; rfl; simp only [Act.put, List.setIfInBounds_toArray, List.set_cons_zero, List.set_cons_succ]) | ((with_reducible apply wqu); rfl; rfl; rfl; rfl; rfl; simp only [Act.put, List.setIfInBounds_toArray, List.set_cons_zero, List.set_cons_succ]))
                        refine wqIdx_nil ?_
                        refine wpAnyR_done (by kernel_rfl) ?_ _
                        have hlen : (insR F (x1, x2)).length = j + 1 + (F.length - j) := by rw [HINS.out, List.length_append, List.length_cons, List.length_take, List.length_drop]; omega
                        have HLEN := Lib.hid hlen
                        clear hlen
                        have HB8 := Lib.hid (below_of_rk RK8.out (Nat.le_refl _))
                        have hW4 := HW4.out.size
                        have hW1 := HB.out.size
                        go_wp2
                        refine ⟨⟨k + 1, A8, c8, by omega, by go_num, ?_, ?_, HVw.out.trans (HB8.out.mono (by have := HBW.out.size; exact this))⟩, by simp [intOf]; omega⟩
                        · rw [HF.out, HST.out, HLEN.out]
                        · rw [HF.out, HST.out, HLEN.out]
                          have o := own_mono O8.out (show w.heap.size ≤ w4.heap.size from HBW.out.size)
                          have e : Prs (insR F (x1, x2)) = Prs (F.take j ++ [(x1, x2)] ++ F.drop j) := by rw [HINS.out, List.append_assoc]; rfl
                          rw [e]
                          exact o
                      · go_simp
                        refine hK _ _ (rk_below' (alloc_below _ _)) ?_
                        clear hK K
                        have KX0 := Lib.hid (blk_top ((w4.drew.drew).alloc (.cells #[] 61)) #[.int .i64 x1, .int .i64 x2] 61 (w4.heap.size + 1) (by simp))
                        have RK4 := Lib.hid (RK.trans _ _ _ _ RK4.out (rk_below' (alloc_below ((w4.drew.drew).alloc (.cells #[] 61)) (.cells #[.int .i64 x1, .int .i64 x2] 61))))
                        have E1 := Lib.hid (World.ownsRow.alloc E0.out (.cells #[.int .i64 x1, .int .i64 x2] 61))
                        refine wpAnyR_sole (i := 4) rfl (by kernel_rfl) (fun K hK => ?_)
                        have hr := (((SFV.out.take j).keptB RK4.out (Nat.le_refl _)).reads)
                        rw [List.length_take, Nat.min_eq_left (by omega)] at hr
                        have HR := Lib.hid hr
                        clear hr
                        rw [if_pos (wanted0 rfl _)]
                        refine wp_appP _ (.tmp 77) (.tmp 80) _ rfl Try.underlying66 info_mo3 E1.out HR.out _ rfl rfl (by omega) (by simp; omega) ?_
                        intro A5 c5 w5 o5 gr5
                        rw [Nat.zero_add, List.nil_append] at o5
                        simp only [Nat.zero_add]
                        refine hK _ _ (rk_grown' (Grew.by_ gr5) (fun i hi => by simp [Value.ownBlock] at hi; show (_ : Nat) ≤ _; first | omega | (simp; omega))) ?_
                        clear hK K
                        simp only [Act.put, List.setIfInBounds_toArray, List.set_cons_zero, List.set_cons_succ]
                        have RK5 := Lib.hid (RK.trans _ _ _ _ RK4.out (rk_grown' (Grew.by_ gr5) (fun i hi => by simp [Value.ownBlock] at hi; show (_ : Nat) ≤ _; first | omega | (simp; omega))))
                        have O5 := Lib.hid (show w5.ownsRow w4.heap.size _ _ _ _ _ from o5)
                        have KX := Lib.hid (KX0.out.grown (Grew.by_ gr5) (by simp [Value.ownBlock]))
                        have HS5 := Lib.hid (show w4.heap.size ≤ w5.heap.size from RK5.out.2.2.2.1)
                        clear o5 gr5 RK4
                        refine wpAnyR_sole (i := 10) rfl (by kernel_rfl) (fun K hK => ?_)
                        rw [if_pos (wanted0 rfl _)]
                        refine wp_appP _ (.tmp 81) (.tmp 86) _ rfl Try.underlying66 info_mo3 O5.out (reads_blk (x1, x2) KX.out) 1 rfl rfl (by omega) HS5.out ?_
                        intro A7 c7 w7 o7 gr7
                        refine hK _ _ (rk_grown' (Grew.by_ gr7) (fun i hi => (World.ownsRow.lt O5.out i hi).1)) ?_
                        clear hK K
                        have RK7 := Lib.hid (RK.trans _ _ _ _ RK5.out (rk_grown' (Grew.by_ gr7) (fun i hi => (World.ownsRow.lt O5.out i hi).1)))
                        have O7 := Lib.hid o7
                        have HS7 := Lib.hid (show w4.heap.size ≤ w7.heap.size from RK7.out.2.2.2.1)
                        clear o7 gr7
                        simp only [Act.put, List.setIfInBounds_toArray, List.set_cons_zero, List.set_cons_succ]
                        have hd := (((SFV.out.drop (k := j) hFc).keptB RK7.out (Nat.le_refl _)).reads)
                        rw [if_neg hca, List.length_drop] at hd
                        simp only [Option.map_some, Addr.add_lit] at hd
                        have HD := Lib.hid hd
                        clear hd
                        refine wpAnyR_sole (i := 14) rfl (by kernel_rfl) (fun K hK => ?_)
                        rw [if_pos (wanted0 rfl _)]
                        refine wp_appP _ (.tmp 87) (.tmp 90) _ rfl Try.underlying66 info_mo3 O7.out HD.out _ rfl rfl (by omega) HS7.out ?_
                        intro A8 c8 w8 o8 gr8
                        refine hK _ _ (rk_grown' (Grew.by_ gr8) (fun i hi => (World.ownsRow.lt O7.out i hi).1)) ?_
                        clear hK K
                        have RK8 := Lib.hid (RK.trans _ _ _ _ RK7.out (rk_grown' (Grew.by_ gr8) (fun i hi => (World.ownsRow.lt O7.out i hi).1)))
                        have O8 := Lib.hid o8
                        clear o8 gr8
                        simp only [Act.put, List.setIfInBounds_toArray, List.set_cons_zero, List.set_cons_succ]
                        refine batchK [15] (fuel := 0) rfl (by kernel_rfl) (by kernel_rfl) (fun _ _ d _ _ h => by cases d <;> exact h) ?_
                        repeat (first | ((with_reducible apply wq0); rfl; rfl; rfl; intro K hK; go_big_quiet_op; refine hK _ ?_; clear hK K) | ((with_reducible apply wq1); rfl; rfl; rfl; rfl; rfl; rfl; intro K hK; go_big_quiet_op; refine hK _ ?_; clear hK K) | ((with_reducible apply wqs); rfl; rfl; rfl; rfl; rfl; rfl; simp only [Act.put, List.setIfInBounds_toArray, List.set_cons_zero, List.set_cons_succ]) | ((with_reducible apply wqu); rfl; rfl; rfl; rfl; rfl; simp only [Act.put, List.setIfInBounds_toArray, List.set_cons_zero, List.set_cons_succ]))
                        refine wqIdx_nil ?_
                        refine wpAnyR_done (by kernel_rfl) ?_ _
                        have hlen : (insR F (x1, x2)).length = j + 1 + (F.length - j) := by rw [HINS.out, List.length_append, List.length_cons, List.length_take, List.length_drop]; omega
                        have HLEN := Lib.hid hlen
                        clear hlen
                        have HB8 := Lib.hid (below_of_rk RK8.out (Nat.le_refl _))
                        have hW4 := HW4.out.size
                        have hW1 := HB.out.size
                        go_wp2
                        refine ⟨⟨k + 1, A8, c8, by omega, by go_num, ?_, ?_, HVw.out.trans (HB8.out.mono (by have := HBW.out.size; exact this))⟩, by simp [intOf]; omega⟩
                        · rw [HF.out, HST.out, HLEN.out]
                        · rw [HF.out, HST.out, HLEN.out]
                          have o := own_mono O8.out (show w.heap.size ≤ w4.heap.size from HBW.out.size)
                          have e : Prs (insR F (x1, x2)) = Prs (F.take j ++ [(x1, x2)] ++ F.drop j) := by rw [HINS.out, List.append_assoc]; rfl
                          rw [e]
                          exact o
                    · go_simp
                      refine hK _ _ (rk_below' (alloc_below _ _)) ?_
                      clear hK K
                      have KX0 := Lib.hid ((Blk.new (w4.drew.drew) 61 #[.int .i64 x1, .int .i64 x2]).alloc (.cells #[] 61))
                      refine wpAnyR_sole (i := 0) rfl (by kernel_rfl) (fun K hK => ?_)
                      go_simp
                      refine hK _ _ (rk_below' (alloc_below _ _)) ?_
                      clear hK K
                      have RK4 := Lib.hid (show RK (fun b => w4.heap.size ≤ b) (w4.drew.drew) (((w4.drew.drew).alloc (.cells #[.int .i64 x1, .int .i64 x2] 61)).alloc (.cells #[] 61)) from RK.trans _ _ _ _ (rk_below' (alloc_below _ _)) (rk_below' (alloc_below _ _)))
                      have e1 := empty_own2 ((w4.drew.drew).alloc (.cells #[.int .i64 x1, .int .i64 x2] 61)) 61
                      rw [World.size_alloc] at e1
                      have E1 := Lib.hid e1
                      clear e1
                      refine wpAnyR_sole (i := 4) rfl (by kernel_rfl) (fun K hK => ?_)
                      have hr := (((SFV.out.take j).keptB RK4.out (Nat.le_refl _)).reads)
                      rw [List.length_take, Nat.min_eq_left (by omega)] at hr
                      have HR := Lib.hid hr
                      clear hr
                      rw [if_pos (wanted0 rfl _)]
                      refine wp_appP _ (.tmp 77) (.tmp 80) _ rfl Try.underlying66 info_mo3 E1.out HR.out _ rfl rfl (by omega) (by simp) ?_
                      intro A5 c5 w5 o5 gr5
                      rw [Nat.zero_add, List.nil_append] at o5
                      simp only [Nat.zero_add]
                      refine hK _ _ (rk_grown' (Grew.by_ gr5) (fun i hi => by simp [Value.ownBlock] at hi; show (_ : Nat) ≤ _; first | omega | (simp; omega))) ?_
                      clear hK K
                      simp only [Act.put, List.setIfInBounds_toArray, List.set_cons_zero, List.set_cons_succ]
                      have RK5 := Lib.hid (RK.trans _ _ _ _ RK4.out (rk_grown' (Grew.by_ gr5) (fun i hi => by simp [Value.ownBlock] at hi; show (_ : Nat) ≤ _; first | omega | (simp; omega))))
                      have O5 := Lib.hid (own_mono o5 (show w4.heap.size ≤ _ from Nat.le_succ _))
                      have KX := Lib.hid (KX0.out.grown (Grew.by_ gr5) (by simp [Value.ownBlock]))
                      have HS5 := Lib.hid (show w4.heap.size ≤ w5.heap.size from RK5.out.2.2.2.1)
                      clear o5 gr5 RK4
                      refine wpAnyR_sole (i := 10) rfl (by kernel_rfl) (fun K hK => ?_)
                      rw [if_pos (wanted0 rfl _)]
                      refine wp_appP _ (.tmp 81) (.tmp 86) _ rfl Try.underlying66 info_mo3 O5.out (reads_blk (x1, x2) KX.out) 1 rfl rfl (by omega) HS5.out ?_
                      intro A7 c7 w7 o7 gr7
                      refine hK _ _ (rk_grown' (Grew.by_ gr7) (fun i hi => (World.ownsRow.lt O5.out i hi).1)) ?_
                      clear hK K
                      have RK7 := Lib.hid (RK.trans _ _ _ _ RK5.out (rk_grown' (Grew.by_ gr7) (fun i hi => (World.ownsRow.lt O5.out i hi).1)))
                      have O7 := Lib.hid o7
                      have HS7 := Lib.hid (show w4.heap.size ≤ w7.heap.size from RK7.out.2.2.2.1)
                      clear o7 gr7
                      simp only [Act.put, List.setIfInBounds_toArray, List.set_cons_zero, List.set_cons_succ]
                      have hd := (((SFV.out.drop (k := j) hFc).keptB RK7.out (Nat.le_refl _)).reads)
                      rw [if_neg hca, List.length_drop] at hd
                      simp only [Option.map_some, Addr.add_lit] at hd
                      have HD := Lib.hid hd
                      clear hd
                      refine wpAnyR_sole (i := 14) rfl (by kernel_rfl) (fun K hK => ?_)
                      rw [if_pos (wanted0 rfl _)]
                      refine wp_appP _ (.tmp 87) (.tmp 90) _ rfl Try.underlying66 info_mo3 O7.out HD.out _ rfl rfl (by omega) HS7.out ?_
                      intro A8 c8 w8 o8 gr8
                      refine hK _ _ (rk_grown' (Grew.by_ gr8) (fun i hi => (World.ownsRow.lt O7.out i hi).1)) ?_
                      clear hK K
                      have RK8 := Lib.hid (RK.trans _ _ _ _ RK7.out (rk_grown' (Grew.by_ gr8) (fun i hi => (World.ownsRow.lt O7.out i hi).1)))
                      have O8 := Lib.hid o8
                      clear o8 gr8
                      simp only [Act.put, List.setIfInBounds_toArray, List.set_cons_zero, List.set_cons_succ]
                      refine batchK [15] (fuel := 0) rfl (by kernel_rfl) (by kernel_rfl) (fun _ _ d _ _ h => by cases d <;> exact h) ?_
                      repeat (first | ((with_reducible apply wq0); rfl; rfl; rfl; intro K hK; go_big_quiet_op; refine hK _ ?_; clear hK K) | ((with_reducible apply wq1); rfl; rfl; rfl; rfl; rfl; rfl; intro K hK; go_big_quiet_op; refine hK _ ?_; clear hK K) | ((with_reducible apply wqs); rfl; rfl; rfl; rfl; rfl; rfl; simp only [Act.put, List.setIfInBounds_toArray, List.set_cons_zero, List.set_cons_succ]) | ((with_reducible apply wqu); rfl; rfl; rfl; rfl; rfl; simp only [Act.put, List.setIfInBounds_toArray, List.set_cons_zero, List.set_cons_succ]))
                      refine wqIdx_nil ?_
                      refine wpAnyR_done (by kernel_rfl) ?_ _
                      have hlen : (insR F (x1, x2)).length = j + 1 + (F.length - j) := by rw [HINS.out, List.length_append, List.length_cons, List.length_take, List.length_drop]; omega
                      have HLEN := Lib.hid hlen
                      clear hlen
                      have HB8 := Lib.hid (below_of_rk RK8.out (Nat.le_refl _))
                      have hW4 := HW4.out.size
                      have hW1 := HB.out.size
                      go_wp2
                      refine ⟨⟨k + 1, A8, c8, by omega, by go_num, ?_, ?_, HVw.out.trans (HB8.out.mono (by have := HBW.out.size; exact this))⟩, by simp [intOf]; omega⟩
                      · rw [HF.out, HST.out, HLEN.out]
                      · rw [HF.out, HST.out, HLEN.out]
                        have o := own_mono O8.out (show w.heap.size ≤ w4.heap.size from HBW.out.size)
                        have e : Prs (insR F (x1, x2)) = Prs (F.take j ++ [(x1, x2)] ++ F.drop j) := by rw [HINS.out, List.append_assoc]; rfl
                        rw [e]
                        exact o
              · rw [hl3] at hz
                have HL3 := Lib.hid hl3
                clear hl3
                go_wp2_with fail
                refine wp_region_R (R := RB) (n := 16) (by kernel_rfl) rfl ?_
                refine batchB [0, 1, 2, 3, 4, 5, 6, 7, 8, 9, 10, 11, 12] (fuel := 3) rfl (by kernel_rfl) (by kernel_rfl) (fun _ _ d _ _ h => by cases d <;> exact h) ?_
                repeat (first | ((with_reducible apply wq0); rfl; rfl; rfl; intro K hK; go_big_quiet_op; refine hK _ ?_; clear hK K) | ((with_reducible apply wq1); rfl; rfl; rfl; rfl; rfl; rfl; intro K hK; go_big_quiet_op; refine hK _ ?_; clear hK K) | ((with_reducible apply wqs); rfl; rfl; rfl; rfl; rfl; rfl; simp only [Act.put, List.setIfInBounds_toArray, List.set_cons_zero, List.set_cons_succ]) | ((with_reducible apply wqu); rfl; rfl; rfl; rfl; rfl; simp only [Act.put, List.setIfInBounds_toArray, List.set_cons_zero, List.set_cons_succ]))
                refine wqIdx_load rfl rfl rfl rfl (fun W hW => load_mo_at _ _ (y1) (y2) W (keep_cell hW p0) (keep_cell hW p1)) ?_
                simp only [Act.put, List.setIfInBounds_toArray, List.set_cons_zero, List.set_cons_succ]
                repeat (first | ((with_reducible apply wq0); rfl; rfl; rfl; intro K hK; go_big_quiet_op; refine hK _ ?_; clear hK K) | ((with_reducible apply wq1); rfl; rfl; rfl; rfl; rfl; rfl; intro K hK; go_big_quiet_op; refine hK _ ?_; clear hK K) | ((with_reducible apply wqs); rfl; rfl; rfl; rfl; rfl; rfl; simp only [Act.put, List.setIfInBounds_toArray, List.set_cons_zero, List.set_cons_succ]) | ((with_reducible apply wqu); rfl; rfl; rfl; rfl; rfl; simp only [Act.put, List.setIfInBounds_toArray, List.set_cons_zero, List.set_cons_succ]))
                refine wqIdx_load rfl rfl rfl rfl (fun W hW => load_mo_at _ _ (x1) (x2) W (keep_cell hW q0) (keep_cell hW q1)) ?_
                simp only [Act.put, List.setIfInBounds_toArray, List.set_cons_zero, List.set_cons_succ]
                repeat (first | ((with_reducible apply wq0); rfl; rfl; rfl; intro K hK; go_big_quiet_op; refine hK _ ?_; clear hK K) | ((with_reducible apply wq1); rfl; rfl; rfl; rfl; rfl; rfl; intro K hK; go_big_quiet_op; refine hK _ ?_; clear hK K) | ((with_reducible apply wqs); rfl; rfl; rfl; rfl; rfl; rfl; simp only [Act.put, List.setIfInBounds_toArray, List.set_cons_zero, List.set_cons_succ]) | ((with_reducible apply wqu); rfl; rfl; rfl; rfl; rfl; simp only [Act.put, List.setIfInBounds_toArray, List.set_cons_zero, List.set_cons_succ]))
                refine wqIdx_nil ?_
                refine wpAnyR_sole (i := 13) rfl (by kernel_rfl) (fun K hK => ?_)
                go_simp
                refine (PC.out _).mono ?_; rintro e w4 ⟨rfl, b4⟩
                refine hK _ _ b4 ?_
                have HW4 := Lib.hid (below_trans HW3.out (Below.of_drew0 b4))
                clear b4
                clear hK K
                refine batchB [14, 15] (fuel := 0) rfl (by kernel_rfl) (by kernel_rfl) (fun _ _ d _ _ h => by cases d <;> exact h) ?_
                repeat (first | ((with_reducible apply wq0); rfl; rfl; rfl; intro K hK; go_big_quiet_op; refine hK _ ?_; clear hK K) | ((with_reducible apply wq1); rfl; rfl; rfl; rfl; rfl; rfl; intro K hK; go_big_quiet_op; refine hK _ ?_; clear hK K) | ((with_reducible apply wqs); rfl; rfl; rfl; rfl; rfl; rfl; simp only [Act.put, List.setIfInBounds_toArray, List.set_cons_zero, List.set_cons_succ]) | ((with_reducible apply wqu); rfl; rfl; rfl; rfl; rfl; simp only [Act.put, List.setIfInBounds_toArray, List.set_cons_zero, List.set_cons_succ]))
                refine wqIdx_nil ?_
                refine wpAnyR_done (by kernel_rfl) ?_ _
                go_wp2
                refine ⟨⟨j + 1, by omega, by go_num, fun i y' hi hy' => ?_, HW4.out⟩, by simp [intOf]; omega⟩
                by_cases hij : i = j
                · subst hij
                  rw [HY.out] at hy'
                  injection hy' with hy'
                  rw [← hy']
                  exact HL3.out
                · exact HALL.out i y' (by omega) hy'
            · obtain rfl : j = F.length := by omega
              have hat : atR F (x1, x2) = F.length := atR_eq F (x1, x2) F.length hj HALL.out fun y' hy' => by simp at hy'
              have HAT := Lib.hid hat
              clear hat
              go_wp2_with fail
              refine wp_region_R (R := RB) (n := 16) (by kernel_rfl) rfl ?_
              refine batchB [0, 1, 2, 3, 4, 5, 6, 7, 8, 9, 10, 11, 12] (fuel := 3) rfl (by kernel_rfl) (by kernel_rfl) (fun _ _ d _ _ h => by cases d <;> exact h) ?_
              repeat (first | ((with_reducible apply wq0); rfl; rfl; rfl; intro K hK; go_big_quiet_op; refine hK _ ?_; clear hK K) | ((with_reducible apply wq1); rfl; rfl; rfl; rfl; rfl; rfl; intro K hK; go_big_quiet_op; refine hK _ ?_; clear hK K) | ((with_reducible apply wqs); rfl; rfl; rfl; rfl; rfl; rfl; simp only [Act.put, List.setIfInBounds_toArray, List.set_cons_zero, List.set_cons_succ]) | ((with_reducible apply wqu); rfl; rfl; rfl; rfl; rfl; simp only [Act.put, List.setIfInBounds_toArray, List.set_cons_zero, List.set_cons_succ]))
              refine wqIdx_nil ?_
              refine wpAnyR_sole (i := 13) rfl (by kernel_rfl) (fun K hK => ?_)
              go_simp
              refine hK _ _ (RB.refl _) ?_
              clear hK K
              refine batchB [14, 15] (fuel := 0) rfl (by kernel_rfl) (by kernel_rfl) (fun _ _ d _ _ h => by cases d <;> exact h) ?_
              repeat (first | ((with_reducible apply wq0); rfl; rfl; rfl; intro K hK; go_big_quiet_op; refine hK _ ?_; clear hK K) | ((with_reducible apply wq1); rfl; rfl; rfl; rfl; rfl; rfl; intro K hK; go_big_quiet_op; refine hK _ ?_; clear hK K) | ((with_reducible apply wqs); rfl; rfl; rfl; rfl; rfl; rfl; simp only [Act.put, List.setIfInBounds_toArray, List.set_cons_zero, List.set_cons_succ]) | ((with_reducible apply wqu); rfl; rfl; rfl; rfl; rfl; simp only [Act.put, List.setIfInBounds_toArray, List.set_cons_zero, List.set_cons_succ]))
              refine wqIdx_nil ?_
              refine wpAnyR_done (by kernel_rfl) ?_ _
              have HW4 := Lib.hid (RB.of_drew' HW3.out)
              go_wp2_with fail
              have HBW := Lib.hid (below_trans HB.out HW4.out)
              obtain ⟨q0, q1⟩ := (SL.out.below HBW.out).at2 HX.out
              cases least
              · have HST := Lib.hid (show stepR l F (x1, x2) = F by rw [HSTEP.out]; rfl)
                refine wp_region_R (R := RB) (n := 19) (by kernel_rfl) rfl ?_
                refine batchB [0, 1, 2, 3, 4, 5, 6, 7, 8, 9, 10, 11, 12, 13, 14, 15, 16, 17, 18] (fuel := 0) rfl (by kernel_rfl) (by kernel_rfl) (fun _ _ d _ _ h => by cases d <;> exact h) ?_
                repeat (first | ((with_reducible apply wq0); rfl; rfl; rfl; intro K hK; go_big_quiet_op; refine hK _ ?_; clear hK K) | ((with_reducible apply wq1); rfl; rfl; rfl; rfl; rfl; rfl; intro K hK; go_big_quiet_op; refine hK _ ?_; clear hK K) | ((with_reducible apply wqs); rfl; rfl; rfl; rfl; rfl; rfl; simp only [Act.put, List.setIfInBounds_toArray, List.set_cons_zero, List.set_cons_succ]) | ((with_reducible apply wqu); rfl; rfl; rfl; rfl; rfl; simp only [Act.put, List.setIfInBounds_toArray, List.set_cons_zero, List.set_cons_succ]))
                try (refine wqIdx_load rfl rfl rfl rfl (fun W hW => load_mo_at _ _ (y1) (y2) W (keep_cell hW p0) (keep_cell hW p1)) ?_; simp only [Act.put, List.setIfInBounds_toArray, List.set_cons_zero, List.set_cons_succ])
                repeat (first | ((with_reducible apply wq0); rfl; rfl; rfl; intro K hK; go_big_quiet_op; refine hK _ ?_; clear hK K) | ((with_reducible apply wq1); rfl; rfl; rfl; rfl; rfl; rfl; intro K hK; go_big_quiet_op; refine hK _ ?_; clear hK K) | ((with_reducible apply wqs); rfl; rfl; rfl; rfl; rfl; rfl; simp only [Act.put, List.setIfInBounds_toArray, List.set_cons_zero, List.set_cons_succ]) | ((with_reducible apply wqu); rfl; rfl; rfl; rfl; rfl; simp only [Act.put, List.setIfInBounds_toArray, List.set_cons_zero, List.set_cons_succ]))
                try (refine wqIdx_load rfl rfl rfl rfl (fun W hW => load_mo_at _ _ (x1) (x2) W (keep_cell hW q0) (keep_cell hW q1)) ?_; simp only [Act.put, List.setIfInBounds_toArray, List.set_cons_zero, List.set_cons_succ])
                repeat (first | ((with_reducible apply wq0); rfl; rfl; rfl; intro K hK; go_big_quiet_op; refine hK _ ?_; clear hK K) | ((with_reducible apply wq1); rfl; rfl; rfl; rfl; rfl; rfl; intro K hK; go_big_quiet_op; refine hK _ ?_; clear hK K) | ((with_reducible apply wqs); rfl; rfl; rfl; rfl; rfl; rfl; simp only [Act.put, List.setIfInBounds_toArray, List.set_cons_zero, List.set_cons_succ]) | ((with_reducible apply wqu); rfl; rfl; rfl; rfl; rfl; simp only [Act.put, List.setIfInBounds_toArray, List.set_cons_zero, List.set_cons_succ]))
                refine wqIdx_nil ?_
                refine wpAnyR_done (by kernel_rfl) ?_ _
                go_wp2
                refine ⟨⟨k + 1, _, c1, by omega, by go_num, by rw [HF.out, HST.out], ?_, RB.of_drew' HBW.out⟩, by simp [intOf]; omega⟩
                rw [HF.out, HST.out]
                exact own_below HO.out (RB.of_drew' HW4.out)
              · have HST := Lib.hid (show stepR l F (x1, x2) = insR F (x1, x2) by rw [HSTEP.out]; rfl)
                have HINS := Lib.hid (show insR F (x1, x2) = F.take F.length ++ (x1, x2) :: F.drop F.length by rw [insR_eq, HAT.out, List.getElem?_eq_none (Nat.le_refl _), if_neg (by simp)])
                refine wp_region_R (R := RB) (n := 19) (by kernel_rfl) rfl ?_
                refine batchB [0, 1, 2, 3, 4, 5, 6, 7, 8, 9, 10, 11, 12, 13, 14, 15, 16, 17, 18] (fuel := 0) rfl (by kernel_rfl) (by kernel_rfl) (fun _ _ d _ _ h => by cases d <;> exact h) ?_
                repeat (first | ((with_reducible apply wq0); rfl; rfl; rfl; intro K hK; go_big_quiet_op; refine hK _ ?_; clear hK K) | ((with_reducible apply wq1); rfl; rfl; rfl; rfl; rfl; rfl; intro K hK; go_big_quiet_op; refine hK _ ?_; clear hK K) | ((with_reducible apply wqs); rfl; rfl; rfl; rfl; rfl; rfl; simp only [Act.put, List.setIfInBounds_toArray, List.set_cons_zero, List.set_cons_succ]) | ((with_reducible apply wqu); rfl; rfl; rfl; rfl; rfl; simp only [Act.put, List.setIfInBounds_toArray, List.set_cons_zero, List.set_cons_succ]))
                try (refine wqIdx_load rfl rfl rfl rfl (fun W hW => load_mo_at _ _ (y1) (y2) W (keep_cell hW p0) (keep_cell hW p1)) ?_; simp only [Act.put, List.setIfInBounds_toArray, List.set_cons_zero, List.set_cons_succ])
                repeat (first | ((with_reducible apply wq0); rfl; rfl; rfl; intro K hK; go_big_quiet_op; refine hK _ ?_; clear hK K) | ((with_reducible apply wq1); rfl; rfl; rfl; rfl; rfl; rfl; intro K hK; go_big_quiet_op; refine hK _ ?_; clear hK K) | ((with_reducible apply wqs); rfl; rfl; rfl; rfl; rfl; rfl; simp only [Act.put, List.setIfInBounds_toArray, List.set_cons_zero, List.set_cons_succ]) | ((with_reducible apply wqu); rfl; rfl; rfl; rfl; rfl; simp only [Act.put, List.setIfInBounds_toArray, List.set_cons_zero, List.set_cons_succ]))
                try (refine wqIdx_load rfl rfl rfl rfl (fun W hW => load_mo_at _ _ (x1) (x2) W (keep_cell hW q0) (keep_cell hW q1)) ?_; simp only [Act.put, List.setIfInBounds_toArray, List.set_cons_zero, List.set_cons_succ])
                repeat (first | ((with_reducible apply wq0); rfl; rfl; rfl; intro K hK; go_big_quiet_op; refine hK _ ?_; clear hK K) | ((with_reducible apply wq1); rfl; rfl; rfl; rfl; rfl; rfl; intro K hK; go_big_quiet_op; refine hK _ ?_; clear hK K) | ((with_reducible apply wqs); rfl; rfl; rfl; rfl; rfl; rfl; simp only [Act.put, List.setIfInBounds_toArray, List.set_cons_zero, List.set_cons_succ]) | ((with_reducible apply wqu); rfl; rfl; rfl; rfl; rfl; simp only [Act.put, List.setIfInBounds_toArray, List.set_cons_zero, List.set_cons_succ]))
                refine wqIdx_nil ?_
                refine wpAnyR_done (by kernel_rfl) ?_ _
                go_wp2_with fail
                by_cases hca : c1 = F.length
                · have HV := Lib.hid (show Below wO.heap.size wO wr3.drew.drew.drew from RB.of_drew' (RB.of_drew' HW4.out))
                  have HVw := Lib.hid (show Below w.heap.size w wr3.drew.drew.drew from RB.of_drew' (RB.of_drew' HBW.out))
                  have SFV := Lib.hid (SF.out.below HV.out)
                  obtain ⟨hgl, -⟩ := (SL.out.below HBW.out).at_ HX.out
                  have q0 : (wr3.drew.drew.drew).cell? _ = _ := q0
                  have q1 : (wr3.drew.drew.drew).cell? _ = _ := q1
                  refine wp_region_R (R := RK (fun b => wr3.drew.heap.size ≤ b)) (n := 16) (by kernel_rfl) rfl ?_
                  refine batchK [1, 2, 3, 5, 6, 7, 8, 11, 12, 13] (fuel := 6) rfl (by kernel_rfl) (by kernel_rfl) (fun _ _ d _ _ h => by cases d <;> exact h) ?_
                  repeat (first | ((with_reducible apply wq0); rfl; rfl; rfl; intro K hK; go_big_quiet_op; refine hK _ ?_; clear hK K) | ((with_reducible apply wq1); rfl; rfl; rfl; rfl; rfl; rfl; intro K hK; go_big_quiet_op; refine hK _ ?_; clear hK K) | ((with_reducible apply wqs); rfl; rfl; rfl; rfl; rfl; rfl; simp only [Act.put, List.setIfInBounds_toArray, List.set_cons_zero, List.set_cons_succ]) | ((with_reducible apply wqu); rfl; rfl; rfl; rfl; rfl; simp only [Act.put, List.setIfInBounds_toArray, List.set_cons_zero, List.set_cons_succ]))
                  refine wqIdx_load rfl rfl rfl rfl (fun W' hW => load_mo_at _ _ x1 x2 W' (keep_cellK hW (by simp only; omega) q0) (keep_cellK hW (by simp only; omega) q1)) ?_
                  simp only [Act.put, List.setIfInBounds_toArray, List.set_cons_zero, List.set_cons_succ]
                  repeat (first | ((with_reducible apply wq0); rfl; rfl; rfl; intro K hK; go_big_quiet_op; refine hK _ ?_; clear hK K) | ((with_reducible apply wq1); rfl; rfl; rfl; rfl; rfl; rfl; intro K hK; go_big_quiet_op; refine hK _ ?_; clear hK K) | ((with_reducible apply wqs); rfl; rfl; rfl; rfl; rfl; rfl; simp only [Act.put, List.setIfInBounds_toArray, List.set_cons_zero, List.set_cons_succ]) | ((with_reducible apply wqu); rfl; rfl; rfl; rfl; rfl; simp only [Act.put, List.setIfInBounds_toArray, List.set_cons_zero, List.set_cons_succ]))
                  refine wqIdx_nil ?_
                  have E0 := Lib.hid (empty_own2 (wr3.drew.drew.drew) 61)
                  refine wpAnyR_two (i := 0) (j := 9) (by kernel_rfl) ⟨_, rfl, fun K hK => ?_⟩ ⟨_, rfl, fun K hK => ?_⟩
                  · go_simp
                    refine hK _ _ (rk_below' (alloc_below _ _)) ?_
                    clear hK K
                    have RK4 := Lib.hid (show RK (fun b => wr3.drew.heap.size ≤ b) (wr3.drew.drew.drew) ((wr3.drew.drew.drew).alloc (.cells #[] 61)) from rk_below' (alloc_below _ _))
                    refine wpAnyR_two (i := 4) (j := 9) (by kernel_rfl) ⟨_, rfl, fun K hK => ?_⟩ ⟨_, rfl, fun K hK => ?_⟩
                    · have hr := (((SFV.out.take F.length).keptB RK4.out (Nat.le_refl _)).reads)
                      rw [List.length_take, Nat.min_eq_left (by omega)] at hr
                      have HR := Lib.hid hr
                      clear hr
                      rw [if_pos (wanted0 rfl _)]
                      refine wp_appP _ (.tmp 77) (.tmp 80) _ rfl Try.underlying66 info_mo3 E0.out HR.out _ rfl rfl (by omega) (by simp) ?_
                      intro A5 c5 w5 o5 gr5
                      rw [Nat.zero_add, List.nil_append] at o5
                      simp only [Nat.zero_add]
                      refine hK _ _ (rk_grown' (Grew.by_ gr5) (fun i hi => by simp [Value.ownBlock] at hi; show (_ : Nat) ≤ _; first | omega | (simp; omega))) ?_
                      clear hK K
                      have RKa := Lib.hid (RK.trans _ _ _ _ RK4.out (rk_grown' (Grew.by_ gr5) (fun i hi => by simp [Value.ownBlock] at hi; show (_ : Nat) ≤ _; first | omega | (simp; omega))))
                      simp only [Act.put, List.setIfInBounds_toArray, List.set_cons_zero, List.set_cons_succ]
                      refine wpAnyR_sole (i := 9) rfl (by kernel_rfl) (fun K hK => ?_)
                      go_simp
                      refine hK _ _ (rk_below' (alloc_below _ _)) ?_
                      clear hK K
                      have O5 := Lib.hid (World.ownsRow.alloc (show w5.ownsRow wr3.drew.heap.size _ _ _ _ _ from o5) (.cells #[.int .i64 x1, .int .i64 x2] 61))
                      have KX := Lib.hid (Blk.new w5 61 #[.int .i64 x1, .int .i64 x2])
                      have RK5 := Lib.hid (RK.trans _ _ _ _ RKa.out (rk_below' (alloc_below w5 (.cells #[.int .i64 x1, .int .i64 x2] 61))))
                      have HS5 := Lib.hid (show wr3.drew.heap.size ≤ _ from RK5.out.2.2.2.1)
                      clear o5 gr5 RKa RK4
                      refine wpAnyR_sole (i := 10) rfl (by kernel_rfl) (fun K hK => ?_)
                      rw [if_pos (wanted0 rfl _)]
                      refine wp_appP _ (.tmp 81) (.tmp 86) _ rfl Try.underlying66 info_mo3 O5.out (reads_blk (x1, x2) KX.out) 1 rfl rfl (by omega) HS5.out ?_
                      intro A7 c7 w7 o7 gr7
                      refine hK _ _ (rk_grown' (Grew.by_ gr7) (fun i hi => (World.ownsRow.lt O5.out i hi).1)) ?_
                      clear hK K
                      have RK7 := Lib.hid (RK.trans _ _ _ _ RK5.out (rk_grown' (Grew.by_ gr7) (fun i hi => (World.ownsRow.lt O5.out i hi).1)))
                      have O7 := Lib.hid o7
                      have HS7 := Lib.hid (show wr3.drew.heap.size ≤ w7.heap.size from RK7.out.2.2.2.1)
                      clear o7 gr7
                      simp only [Act.put, List.setIfInBounds_toArray, List.set_cons_zero, List.set_cons_succ]
                      have hd : ∀ (X : Option Addr), Reads w7 w7.heap.size 2 X 0 (Prs (F.drop F.length)) := fun X => by rw [List.drop_length]; exact ⟨rfl, fun h => absurd h (Nat.lt_irrefl 0)⟩
                      have HD := Lib.hid hd
                      clear hd
                      refine wpAnyR_sole (i := 14) rfl (by kernel_rfl) (fun K hK => ?_)
                      rw [if_pos (wanted0 rfl _)]
                      refine wp_appP _ (.tmp 87) (.tmp 90) _ rfl Try.underlying66 info_mo3 O7.out (HD.out _) _ rfl rfl (by omega) HS7.out ?_
                      intro A8 c8 w8 o8 gr8
                      refine hK _ _ (rk_grown' (Grew.by_ gr8) (fun i hi => (World.ownsRow.lt O7.out i hi).1)) ?_
                      clear hK K
                      have RK8 := Lib.hid (RK.trans _ _ _ _ RK7.out (rk_grown' (Grew.by_ gr8) (fun i hi => (World.ownsRow.lt O7.out i hi).1)))
                      have O8 := Lib.hid o8
                      clear o8 gr8
                      simp only [Act.put, List.setIfInBounds_toArray, List.set_cons_zero, List.set_cons_succ]
                      refine batchK [15] (fuel := 0) rfl (by kernel_rfl) (by kernel_rfl) (fun _ _ d _ _ h => by cases d <;> exact h) ?_
                      repeat (first | ((with_reducible apply wq0); rfl; rfl; rfl; intro K hK; go_big_quiet_op; refine hK _ ?_; clear hK K) | ((with_reducible apply wq1); rfl; rfl; rfl; rfl; rfl; rfl; intro K hK; go_big_quiet_op; refine hK _ ?_; clear hK K) | ((with_reducible apply wqs); rfl; rfl; rfl; rfl; rfl; rfl; simp only [Act.put, List.setIfInBounds_toArray, List.set_cons_zero, List.set_cons_succ]) | ((with_reducible apply wqu); rfl; rfl; rfl; rfl; rfl; simp only [Act.put, List.setIfInBounds_toArray, List.set_cons_zero, List.set_cons_succ]))
                      refine wqIdx_nil ?_
                      refine wpAnyR_done (by kernel_rfl) ?_ _
                      have hlen : (insR F (x1, x2)).length = F.length + 1 + (F.length - F.length) := by rw [HINS.out, List.length_append, List.length_cons, List.length_take, List.length_drop]; omega
                      have HLEN := Lib.hid hlen
                      clear hlen
                      have HB8 := Lib.hid (below_of_rk RK8.out (Nat.le_refl _))
                      have hW4 := HW4.out.size
                      have hW1 := HB.out.size
                      go_wp2
                      refine ⟨⟨k + 1, A8, c8, by omega, by go_num, ?_, ?_, HVw.out.trans (HB8.out.mono (by have := HBW.out.size; exact this))⟩, by simp [intOf]; omega⟩
                      · rw [HF.out, HST.out, HLEN.out]; simp
                      · rw [HF.out, HST.out, HLEN.out]
                        have o := own_mono O8.out (show w.heap.size ≤ wr3.drew.heap.size from HBW.out.size)
                        have e : Prs (insR F (x1, x2)) = Prs (F.take F.length ++ [(x1, x2)] ++ F.drop F.length) := by rw [HINS.out, List.append_assoc]; rfl
                        rw [e]
                        simpa using o
                    · go_simp
                      refine hK _ _ (rk_below' (alloc_below _ _)) ?_
                      clear hK K
                      have KX0 := Lib.hid (blk_top ((wr3.drew.drew.drew).alloc (.cells #[] 61)) #[.int .i64 x1, .int .i64 x2] 61 (wr3.drew.heap.size + 1) (by simp))
                      have RK4 := Lib.hid (RK.trans _ _ _ _ RK4.out (rk_below' (alloc_below ((wr3.drew.drew.drew).alloc (.cells #[] 61)) (.cells #[.int .i64 x1, .int .i64 x2] 61))))
                      have E1 := Lib.hid (World.ownsRow.alloc E0.out (.cells #[.int .i64 x1, .int .i64 x2] 61))
                      refine wpAnyR_sole (i := 4) rfl (by kernel_rfl) (fun K hK => ?_)
                      have hr := (((SFV.out.take F.length).keptB RK4.out (Nat.le_refl _)).reads)
                      rw [List.length_take, Nat.min_eq_left (by omega)] at hr
                      have HR := Lib.hid hr
                      clear hr
                      rw [if_pos (wanted0 rfl _)]
                      refine wp_appP _ (.tmp 77) (.tmp 80) _ rfl Try.underlying66 info_mo3 E1.out HR.out _ rfl rfl (by omega) (by simp; omega) ?_
                      intro A5 c5 w5 o5 gr5
                      rw [Nat.zero_add, List.nil_append] at o5
                      simp only [Nat.zero_add]
                      refine hK _ _ (rk_grown' (Grew.by_ gr5) (fun i hi => by simp [Value.ownBlock] at hi; show (_ : Nat) ≤ _; first | omega | (simp; omega))) ?_
                      clear hK K
                      simp only [Act.put, List.setIfInBounds_toArray, List.set_cons_zero, List.set_cons_succ]
                      have RK5 := Lib.hid (RK.trans _ _ _ _ RK4.out (rk_grown' (Grew.by_ gr5) (fun i hi => by simp [Value.ownBlock] at hi; show (_ : Nat) ≤ _; first | omega | (simp; omega))))
                      have O5 := Lib.hid (show w5.ownsRow wr3.drew.heap.size _ _ _ _ _ from o5)
                      have KX := Lib.hid (KX0.out.grown (Grew.by_ gr5) (by simp [Value.ownBlock]))
                      have HS5 := Lib.hid (show wr3.drew.heap.size ≤ w5.heap.size from RK5.out.2.2.2.1)
                      clear o5 gr5 RK4
                      refine wpAnyR_sole (i := 10) rfl (by kernel_rfl) (fun K hK => ?_)
                      rw [if_pos (wanted0 rfl _)]
                      refine wp_appP _ (.tmp 81) (.tmp 86) _ rfl Try.underlying66 info_mo3 O5.out (reads_blk (x1, x2) KX.out) 1 rfl rfl (by omega) HS5.out ?_
                      intro A7 c7 w7 o7 gr7
                      refine hK _ _ (rk_grown' (Grew.by_ gr7) (fun i hi => (World.ownsRow.lt O5.out i hi).1)) ?_
                      clear hK K
                      have RK7 := Lib.hid (RK.trans _ _ _ _ RK5.out (rk_grown' (Grew.by_ gr7) (fun i hi => (World.ownsRow.lt O5.out i hi).1)))
                      have O7 := Lib.hid o7
                      have HS7 := Lib.hid (show wr3.drew.heap.size ≤ w7.heap.size from RK7.out.2.2.2.1)
                      clear o7 gr7
                      simp only [Act.put, List.setIfInBounds_toArray, List.set_cons_zero, List.set_cons_succ]
                      have hd : ∀ (X : Option Addr), Reads w7 w7.heap.size 2 X 0 (Prs (F.drop F.length)) := fun X => by rw [List.drop_length]; exact ⟨rfl, fun h => absurd h (Nat.lt_irrefl 0)⟩
                      have HD := Lib.hid hd
                      clear hd
                      refine wpAnyR_sole (i := 14) rfl (by kernel_rfl) (fun K hK => ?_)
                      rw [if_pos (wanted0 rfl _)]
                      refine wp_appP _ (.tmp 87) (.tmp 90) _ rfl Try.underlying66 info_mo3 O7.out (HD.out _) _ rfl rfl (by omega) HS7.out ?_
                      intro A8 c8 w8 o8 gr8
                      refine hK _ _ (rk_grown' (Grew.by_ gr8) (fun i hi => (World.ownsRow.lt O7.out i hi).1)) ?_
                      clear hK K
                      have RK8 := Lib.hid (RK.trans _ _ _ _ RK7.out (rk_grown' (Grew.by_ gr8) (fun i hi => (World.ownsRow.lt O7.out i hi).1)))
                      have O8 := Lib.hid o8
                      clear o8 gr8
                      simp only [Act.put, List.setIfInBounds_toArray, List.set_cons_zero, List.set_cons_succ]
                      refine batchK [15] (fuel := 0) rfl (by kernel_rfl) (by kernel_rfl) (fun _ _ d _ _ h => by cases d <;> exact h) ?_
                      repeat (first | ((with_reducible apply wq0); rfl; rfl; rfl; intro K hK; go_big_quiet_op; refine hK _ ?_; clear hK K) | ((with_reducible apply wq1); rfl; rfl; rfl; rfl; rfl; rfl; intro K hK; go_big_quiet_op; refine hK _ ?_; clear hK K) | ((with_reducible apply wqs); rfl; rfl; rfl; rfl; rfl; rfl; simp only [Act.put, List.setIfInBounds_toArray, List.set_cons_zero, List.set_cons_succ]) | ((with_reducible apply wqu); rfl; rfl; rfl; rfl; rfl; simp only [Act.put, List.setIfInBounds_toArray, List.set_cons_zero, List.set_cons_succ]))
                      refine wqIdx_nil ?_
                      refine wpAnyR_done (by kernel_rfl) ?_ _
                      have hlen : (insR F (x1, x2)).length = F.length + 1 + (F.length - F.length) := by rw [HINS.out, List.length_append, List.length_cons, List.length_take, List.length_drop]; omega
                      have HLEN := Lib.hid hlen
                      clear hlen
                      have HB8 := Lib.hid (below_of_rk RK8.out (Nat.le_refl _))
                      have hW4 := HW4.out.size
                      have hW1 := HB.out.size
                      go_wp2
                      refine ⟨⟨k + 1, A8, c8, by omega, by go_num, ?_, ?_, HVw.out.trans (HB8.out.mono (by have := HBW.out.size; exact this))⟩, by simp [intOf]; omega⟩
                      · rw [HF.out, HST.out, HLEN.out]; simp
                      · rw [HF.out, HST.out, HLEN.out]
                        have o := own_mono O8.out (show w.heap.size ≤ wr3.drew.heap.size from HBW.out.size)
                        have e : Prs (insR F (x1, x2)) = Prs (F.take F.length ++ [(x1, x2)] ++ F.drop F.length) := by rw [HINS.out, List.append_assoc]; rfl
                        rw [e]
                        simpa using o
                  · go_simp
                    refine hK _ _ (rk_below' (alloc_below _ _)) ?_
                    clear hK K
                    have KX0 := Lib.hid ((Blk.new (wr3.drew.drew.drew) 61 #[.int .i64 x1, .int .i64 x2]).alloc (.cells #[] 61))
                    refine wpAnyR_sole (i := 0) rfl (by kernel_rfl) (fun K hK => ?_)
                    go_simp
                    refine hK _ _ (rk_below' (alloc_below _ _)) ?_
                    clear hK K
                    have RK4 := Lib.hid (show RK (fun b => wr3.drew.heap.size ≤ b) (wr3.drew.drew.drew) (((wr3.drew.drew.drew).alloc (.cells #[.int .i64 x1, .int .i64 x2] 61)).alloc (.cells #[] 61)) from RK.trans _ _ _ _ (rk_below' (alloc_below _ _)) (rk_below' (alloc_below _ _)))
                    have e1 := empty_own2 ((wr3.drew.drew.drew).alloc (.cells #[.int .i64 x1, .int .i64 x2] 61)) 61
                    rw [World.size_alloc] at e1
                    have E1 := Lib.hid e1
                    clear e1
                    refine wpAnyR_sole (i := 4) rfl (by kernel_rfl) (fun K hK => ?_)
                    have hr := (((SFV.out.take F.length).keptB RK4.out (Nat.le_refl _)).reads)
                    rw [List.length_take, Nat.min_eq_left (by omega)] at hr
                    have HR := Lib.hid hr
                    clear hr
                    rw [if_pos (wanted0 rfl _)]
                    refine wp_appP _ (.tmp 77) (.tmp 80) _ rfl Try.underlying66 info_mo3 E1.out HR.out _ rfl rfl (by omega) (by simp) ?_
                    intro A5 c5 w5 o5 gr5
                    rw [Nat.zero_add, List.nil_append] at o5
                    simp only [Nat.zero_add]
                    refine hK _ _ (rk_grown' (Grew.by_ gr5) (fun i hi => by simp [Value.ownBlock] at hi; show (_ : Nat) ≤ _; first | omega | (simp; omega))) ?_
                    clear hK K
                    simp only [Act.put, List.setIfInBounds_toArray, List.set_cons_zero, List.set_cons_succ]
                    have RK5 := Lib.hid (RK.trans _ _ _ _ RK4.out (rk_grown' (Grew.by_ gr5) (fun i hi => by simp [Value.ownBlock] at hi; show (_ : Nat) ≤ _; first | omega | (simp; omega))))
                    have O5 := Lib.hid (own_mono o5 (show wr3.drew.heap.size ≤ _ from Nat.le_succ _))
                    have KX := Lib.hid (KX0.out.grown (Grew.by_ gr5) (by simp [Value.ownBlock]))
                    have HS5 := Lib.hid (show wr3.drew.heap.size ≤ w5.heap.size from RK5.out.2.2.2.1)
                    clear o5 gr5 RK4
                    refine wpAnyR_sole (i := 10) rfl (by kernel_rfl) (fun K hK => ?_)
                    rw [if_pos (wanted0 rfl _)]
                    refine wp_appP _ (.tmp 81) (.tmp 86) _ rfl Try.underlying66 info_mo3 O5.out (reads_blk (x1, x2) KX.out) 1 rfl rfl (by omega) HS5.out ?_
                    intro A7 c7 w7 o7 gr7
                    refine hK _ _ (rk_grown' (Grew.by_ gr7) (fun i hi => (World.ownsRow.lt O5.out i hi).1)) ?_
                    clear hK K
                    have RK7 := Lib.hid (RK.trans _ _ _ _ RK5.out (rk_grown' (Grew.by_ gr7) (fun i hi => (World.ownsRow.lt O5.out i hi).1)))
                    have O7 := Lib.hid o7
                    have HS7 := Lib.hid (show wr3.drew.heap.size ≤ w7.heap.size from RK7.out.2.2.2.1)
                    clear o7 gr7
                    simp only [Act.put, List.setIfInBounds_toArray, List.set_cons_zero, List.set_cons_succ]
                    have hd : ∀ (X : Option Addr), Reads w7 w7.heap.size 2 X 0 (Prs (F.drop F.length)) := fun X => by rw [List.drop_length]; exact ⟨rfl, fun h => absurd h (Nat.lt_irrefl 0)⟩
                    have HD := Lib.hid hd
                    clear hd
                    refine wpAnyR_sole (i := 14) rfl (by kernel_rfl) (fun K hK => ?_)
                    rw [if_pos (wanted0 rfl _)]
                    refine wp_appP _ (.tmp 87) (.tmp 90) _ rfl Try.underlying66 info_mo3 O7.out (HD.out _) _ rfl rfl (by omega) HS7.out ?_
                    intro A8 c8 w8 o8 gr8
                    refine hK _ _ (rk_grown' (Grew.by_ gr8) (fun i hi => (World.ownsRow.lt O7.out i hi).1)) ?_
                    clear hK K
                    have RK8 := Lib.hid (RK.trans _ _ _ _ RK7.out (rk_grown' (Grew.by_ gr8) (fun i hi => (World.ownsRow.lt O7.out i hi).1)))
                    have O8 := Lib.hid o8
                    clear o8 gr8
                    simp only [Act.put, List.setIfInBounds_toArray, List.set_cons_zero, List.set_cons_succ]
                    refine batchK [15] (fuel := 0) rfl (by kernel_rfl) (by kernel_rfl) (fun _ _ d _ _ h => by cases d <;> exact h) ?_
                    repeat (first | ((with_reducible apply wq0); rfl; rfl; rfl; intro K hK; go_big_quiet_op; refine hK _ ?_; clear hK K) | ((with_reducible apply wq1); rfl; rfl; rfl; rfl; rfl; rfl; intro K hK; go_big_quiet_op; refine hK _ ?_; clear hK K) | ((with_reducible apply wqs); rfl; rfl; rfl; rfl; rfl; rfl; simp only [Act.put, List.setIfInBounds_toArray, List.set_cons_zero, List.set_cons_succ]) | ((with_reducible apply wqu); rfl; rfl; rfl; rfl; rfl; simp only [Act.put, List.setIfInBounds_toArray, List.set_cons_zero, List.set_cons_succ]))
                    refine wqIdx_nil ?_
                    refine wpAnyR_done (by kernel_rfl) ?_ _
                    have hlen : (insR F (x1, x2)).length = F.length + 1 + (F.length - F.length) := by rw [HINS.out, List.length_append, List.length_cons, List.length_take, List.length_drop]; omega
                    have HLEN := Lib.hid hlen
                    clear hlen
                    have HB8 := Lib.hid (below_of_rk RK8.out (Nat.le_refl _))
                    have hW4 := HW4.out.size
                    have hW1 := HB.out.size
                    go_wp2
                    refine ⟨⟨k + 1, A8, c8, by omega, by go_num, ?_, ?_, HVw.out.trans (HB8.out.mono (by have := HBW.out.size; exact this))⟩, by simp [intOf]; omega⟩
                    · rw [HF.out, HST.out, HLEN.out]; simp
                    · rw [HF.out, HST.out, HLEN.out]
                      have o := own_mono O8.out (show w.heap.size ≤ wr3.drew.heap.size from HBW.out.size)
                      have e : Prs (insR F (x1, x2)) = Prs (F.take F.length ++ [(x1, x2)] ++ F.drop F.length) := by rw [HINS.out, List.append_assoc]; rfl
                      rw [e]
                      simpa using o
                · have HV := Lib.hid (show Below wO.heap.size wO wr3.drew.drew.drew from RB.of_drew' (RB.of_drew' HW4.out))
                  have HVw := Lib.hid (show Below w.heap.size w wr3.drew.drew.drew from RB.of_drew' (RB.of_drew' HBW.out))
                  have SFV := Lib.hid (SF.out.below HV.out)
                  obtain ⟨hgl, -⟩ := (SL.out.below HBW.out).at_ HX.out
                  have q0 : (wr3.drew.drew.drew).cell? _ = _ := q0
                  have q1 : (wr3.drew.drew.drew).cell? _ = _ := q1
                  refine wp_region_R (R := RK (fun b => wr3.drew.heap.size ≤ b)) (n := 16) (by kernel_rfl) rfl ?_
                  refine batchK [1, 2, 3, 5, 6, 7, 8, 11, 12, 13] (fuel := 6) rfl (by kernel_rfl) (by kernel_rfl) (fun _ _ d _ _ h => by cases d <;> exact h) ?_
                  repeat (first | ((with_reducible apply wq0); rfl; rfl; rfl; intro K hK; go_big_quiet_op; refine hK _ ?_; clear hK K) | ((with_reducible apply wq1); rfl; rfl; rfl; rfl; rfl; rfl; intro K hK; go_big_quiet_op; refine hK _ ?_; clear hK K) | ((with_reducible apply wqs); rfl; rfl; rfl; rfl; rfl; rfl; simp only [Act.put, List.setIfInBounds_toArray, List.set_cons_zero, List.set_cons_succ]) | ((with_reducible apply wqu); rfl; rfl; rfl; rfl; rfl; simp only [Act.put, List.setIfInBounds_toArray, List.set_cons_zero, List.set_cons_succ]))
                  refine wqIdx_load rfl rfl rfl rfl (fun W' hW => load_mo_at _ _ x1 x2 W' (keep_cellK hW (by simp only; omega) q0) (keep_cellK hW (by simp only; omega) q1)) ?_
                  simp only [Act.put, List.setIfInBounds_toArray, List.set_cons_zero, List.set_cons_succ]
                  repeat (first | ((with_reducible apply wq0); rfl; rfl; rfl; intro K hK; go_big_quiet_op; refine hK _ ?_; clear hK K) | ((with_reducible apply wq1); rfl; rfl; rfl; rfl; rfl; rfl; intro K hK; go_big_quiet_op; refine hK _ ?_; clear hK K) | ((with_reducible apply wqs); rfl; rfl; rfl; rfl; rfl; rfl; simp only [Act.put, List.setIfInBounds_toArray, List.set_cons_zero, List.set_cons_succ]) | ((with_reducible apply wqu); rfl; rfl; rfl; rfl; rfl; simp only [Act.put, List.setIfInBounds_toArray, List.set_cons_zero, List.set_cons_succ]))
                  refine wqIdx_nil ?_
                  have E0 := Lib.hid (empty_own2 (wr3.drew.drew.drew) 61)
                  refine wpAnyR_two (i := 0) (j := 9) (by kernel_rfl) ⟨_, rfl, fun K hK => ?_⟩ ⟨_, rfl, fun K hK => ?_⟩
                  · go_simp
                    refine hK _ _ (rk_below' (alloc_below _ _)) ?_
                    clear hK K
                    have RK4 := Lib.hid (show RK (fun b => wr3.drew.heap.size ≤ b) (wr3.drew.drew.drew) ((wr3.drew.drew.drew).alloc (.cells #[] 61)) from rk_below' (alloc_below _ _))
                    refine wpAnyR_two (i := 4) (j := 9) (by kernel_rfl) ⟨_, rfl, fun K hK => ?_⟩ ⟨_, rfl, fun K hK => ?_⟩
                    · have hr := (((SFV.out.take F.length).keptB RK4.out (Nat.le_refl _)).reads)
                      rw [List.length_take, Nat.min_eq_left (by omega)] at hr
                      have HR := Lib.hid hr
                      clear hr
                      rw [if_pos (wanted0 rfl _)]
                      refine wp_appP _ (.tmp 77) (.tmp 80) _ rfl Try.underlying66 info_mo3 E0.out HR.out _ rfl rfl (by omega) (by simp) ?_
                      intro A5 c5 w5 o5 gr5
                      rw [Nat.zero_add, List.nil_append] at o5
                      simp only [Nat.zero_add]
                      refine hK _ _ (rk_grown' (Grew.by_ gr5) (fun i hi => by simp [Value.ownBlock] at hi; show (_ : Nat) ≤ _; first | omega | (simp; omega))) ?_
                      clear hK K
                      have RKa := Lib.hid (RK.trans _ _ _ _ RK4.out (rk_grown' (Grew.by_ gr5) (fun i hi => by simp [Value.ownBlock] at hi; show (_ : Nat) ≤ _; first | omega | (simp; omega))))
                      simp only [Act.put, List.setIfInBounds_toArray, List.set_cons_zero, List.set_cons_succ]
                      refine wpAnyR_sole (i := 9) rfl (by kernel_rfl) (fun K hK => ?_)
                      go_simp
                      refine hK _ _ (rk_below' (alloc_below _ _)) ?_
                      clear hK K
                      have O5 := Lib.hid (World.ownsRow.alloc (show w5.ownsRow wr3.drew.heap.size _ _ _ _ _ from o5) (.cells #[.int .i64 x1, .int .i64 x2] 61))
                      have KX := Lib.hid (Blk.new w5 61 #[.int .i64 x1, .int .i64 x2])
                      have RK5 := Lib.hid (RK.trans _ _ _ _ RKa.out (rk_below' (alloc_below w5 (.cells #[.int .i64 x1, .int .i64 x2] 61))))
                      have HS5 := Lib.hid (show wr3.drew.heap.size ≤ _ from RK5.out.2.2.2.1)
                      clear o5 gr5 RKa RK4
                      refine wpAnyR_sole (i := 10) rfl (by kernel_rfl) (fun K hK => ?_)
                      rw [if_pos (wanted0 rfl _)]
                      refine wp_appP _ (.tmp 81) (.tmp 86) _ rfl Try.underlying66 info_mo3 O5.out (reads_blk (x1, x2) KX.out) 1 rfl rfl (by omega) HS5.out ?_
                      intro A7 c7 w7 o7 gr7
                      refine hK _ _ (rk_grown' (Grew.by_ gr7) (fun i hi => (World.ownsRow.lt O5.out i hi).1)) ?_
                      clear hK K
                      have RK7 := Lib.hid (RK.trans _ _ _ _ RK5.out (rk_grown' (Grew.by_ gr7) (fun i hi => (World.ownsRow.lt O5.out i hi).1)))
                      have O7 := Lib.hid o7
                      have HS7 := Lib.hid (show wr3.drew.heap.size ≤ w7.heap.size from RK7.out.2.2.2.1)
                      clear o7 gr7
                      simp only [Act.put, List.setIfInBounds_toArray, List.set_cons_zero, List.set_cons_succ]
                      have hd : ∀ (X : Option Addr), Reads w7 w7.heap.size 2 X 0 (Prs (F.drop F.length)) := fun X => by rw [List.drop_length]; exact ⟨rfl, fun h => absurd h (Nat.lt_irrefl 0)⟩
                      have HD := Lib.hid hd
                      clear hd
                      refine wpAnyR_sole (i := 14) rfl (by kernel_rfl) (fun K hK => ?_)
                      rw [if_pos (wanted0 rfl _)]
                      refine wp_appP _ (.tmp 87) (.tmp 90) _ rfl Try.underlying66 info_mo3 O7.out (HD.out _) _ rfl rfl (by omega) HS7.out ?_
                      intro A8 c8 w8 o8 gr8
                      refine hK _ _ (rk_grown' (Grew.by_ gr8) (fun i hi => (World.ownsRow.lt O7.out i hi).1)) ?_
                      clear hK K
                      have RK8 := Lib.hid (RK.trans _ _ _ _ RK7.out (rk_grown' (Grew.by_ gr8) (fun i hi => (World.ownsRow.lt O7.out i hi).1)))
                      have O8 := Lib.hid o8
                      clear o8 gr8
                      simp only [Act.put, List.setIfInBounds_toArray, List.set_cons_zero, List.set_cons_succ]
                      refine batchK [15] (fuel := 0) rfl (by kernel_rfl) (by kernel_rfl) (fun _ _ d _ _ h => by cases d <;> exact h) ?_
                      repeat (first | ((with_reducible apply wq0); rfl; rfl; rfl; intro K hK; go_big_quiet_op; refine hK _ ?_; clear hK K) | ((with_reducible apply wq1); rfl; rfl; rfl; rfl; rfl; rfl; intro K hK; go_big_quiet_op; refine hK _ ?_; clear hK K) | ((with_reducible apply wqs); rfl; rfl; rfl; rfl; rfl; rfl; simp only [Act.put, List.setIfInBounds_toArray, List.set_cons_zero, List.set_cons_succ]) | ((with_reducible apply wqu); rfl; rfl; rfl; rfl; rfl; simp only [Act.put, List.setIfInBounds_toArray, List.set_cons_zero, List.set_cons_succ]))
                      refine wqIdx_nil ?_
                      refine wpAnyR_done (by kernel_rfl) ?_ _
                      have hlen : (insR F (x1, x2)).length = F.length + 1 + (F.length - F.length) := by rw [HINS.out, List.length_append, List.length_cons, List.length_take, List.length_drop]; omega
                      have HLEN := Lib.hid hlen
                      clear hlen
                      have HB8 := Lib.hid (below_of_rk RK8.out (Nat.le_refl _))
                      have hW4 := HW4.out.size
                      have hW1 := HB.out.size
                      go_wp2
                      refine ⟨⟨k + 1, A8, c8, by omega, by go_num, ?_, ?_, HVw.out.trans (HB8.out.mono (by have := HBW.out.size; exact this))⟩, by simp [intOf]; omega⟩
                      · rw [HF.out, HST.out, HLEN.out]; simp
                      · rw [HF.out, HST.out, HLEN.out]
                        have o := own_mono O8.out (show w.heap.size ≤ wr3.drew.heap.size from HBW.out.size)
                        have e : Prs (insR F (x1, x2)) = Prs (F.take F.length ++ [(x1, x2)] ++ F.drop F.length) := by rw [HINS.out, List.append_assoc]; rfl
                        rw [e]
                        simpa using o
                    · go_simp
                      refine hK _ _ (rk_below' (alloc_below _ _)) ?_
                      clear hK K
                      have KX0 := Lib.hid (blk_top ((wr3.drew.drew.drew).alloc (.cells #[] 61)) #[.int .i64 x1, .int .i64 x2] 61 (wr3.drew.heap.size + 1) (by simp))
                      have RK4 := Lib.hid (RK.trans _ _ _ _ RK4.out (rk_below' (alloc_below ((wr3.drew.drew.drew).alloc (.cells #[] 61)) (.cells #[.int .i64 x1, .int .i64 x2] 61))))
                      have E1 := Lib.hid (World.ownsRow.alloc E0.out (.cells #[.int .i64 x1, .int .i64 x2] 61))
                      refine wpAnyR_sole (i := 4) rfl (by kernel_rfl) (fun K hK => ?_)
                      have hr := (((SFV.out.take F.length).keptB RK4.out (Nat.le_refl _)).reads)
                      rw [List.length_take, Nat.min_eq_left (by omega)] at hr
                      have HR := Lib.hid hr
                      clear hr
                      rw [if_pos (wanted0 rfl _)]
                      refine wp_appP _ (.tmp 77) (.tmp 80) _ rfl Try.underlying66 info_mo3 E1.out HR.out _ rfl rfl (by omega) (by simp; omega) ?_
                      intro A5 c5 w5 o5 gr5
                      rw [Nat.zero_add, List.nil_append] at o5
                      simp only [Nat.zero_add]
                      refine hK _ _ (rk_grown' (Grew.by_ gr5) (fun i hi => by simp [Value.ownBlock] at hi; show (_ : Nat) ≤ _; first | omega | (simp; omega))) ?_
                      clear hK K
                      simp only [Act.put, List.setIfInBounds_toArray, List.set_cons_zero, List.set_cons_succ]
                      have RK5 := Lib.hid (RK.trans _ _ _ _ RK4.out (rk_grown' (Grew.by_ gr5) (fun i hi => by simp [Value.ownBlock] at hi; show (_ : Nat) ≤ _; first | omega | (simp; omega))))
                      have O5 := Lib.hid (show w5.ownsRow wr3.drew.heap.size _ _ _ _ _ from o5)
                      have KX := Lib.hid (KX0.out.grown (Grew.by_ gr5) (by simp [Value.ownBlock]))
                      have HS5 := Lib.hid (show wr3.drew.heap.size ≤ w5.heap.size from RK5.out.2.2.2.1)
                      clear o5 gr5 RK4
                      refine wpAnyR_sole (i := 10) rfl (by kernel_rfl) (fun K hK => ?_)
                      rw [if_pos (wanted0 rfl _)]
                      refine wp_appP _ (.tmp 81) (.tmp 86) _ rfl Try.underlying66 info_mo3 O5.out (reads_blk (x1, x2) KX.out) 1 rfl rfl (by omega) HS5.out ?_
                      intro A7 c7 w7 o7 gr7
                      refine hK _ _ (rk_grown' (Grew.by_ gr7) (fun i hi => (World.ownsRow.lt O5.out i hi).1)) ?_
                      clear hK K
                      have RK7 := Lib.hid (RK.trans _ _ _ _ RK5.out (rk_grown' (Grew.by_ gr7) (fun i hi => (World.ownsRow.lt O5.out i hi).1)))
                      have O7 := Lib.hid o7
                      have HS7 := Lib.hid (show wr3.drew.heap.size ≤ w7.heap.size from RK7.out.2.2.2.1)
                      clear o7 gr7
                      simp only [Act.put, List.setIfInBounds_toArray, List.set_cons_zero, List.set_cons_succ]
                      have hd : ∀ (X : Option Addr), Reads w7 w7.heap.size 2 X 0 (Prs (F.drop F.length)) := fun X => by rw [List.drop_length]; exact ⟨rfl, fun h => absurd h (Nat.lt_irrefl 0)⟩
                      have HD := Lib.hid hd
                      clear hd
                      refine wpAnyR_sole (i := 14) rfl (by kernel_rfl) (fun K hK => ?_)
                      rw [if_pos (wanted0 rfl _)]
                      refine wp_appP _ (.tmp 87) (.tmp 90) _ rfl Try.underlying66 info_mo3 O7.out (HD.out _) _ rfl rfl (by omega) HS7.out ?_
                      intro A8 c8 w8 o8 gr8
                      refine hK _ _ (rk_grown' (Grew.by_ gr8) (fun i hi => (World.ownsRow.lt O7.out i hi).1)) ?_
                      clear hK K
                      have RK8 := Lib.hid (RK.trans _ _ _ _ RK7.out (rk_grown' (Grew.by_ gr8) (fun i hi => (World.ownsRow.lt O7.out i hi).1)))
                      have O8 := Lib.hid o8
                      clear o8 gr8
                      simp only [Act.put, List.setIfInBounds_toArray, List.set_cons_zero, List.set_cons_succ]
                      refine batchK [15] (fuel := 0) rfl (by kernel_rfl) (by kernel_rfl) (fun _ _ d _ _ h => by cases d <;> exact h) ?_
                      repeat (first | ((with_reducible apply wq0); rfl; rfl; rfl; intro K hK; go_big_quiet_op; refine hK _ ?_; clear hK K) | ((with_reducible apply wq1); rfl; rfl; rfl; rfl; rfl; rfl; intro K hK; go_big_quiet_op; refine hK _ ?_; clear hK K) | ((with_reducible apply wqs); rfl; rfl; rfl; rfl; rfl; rfl; simp only [Act.put, List.setIfInBounds_toArray, List.set_cons_zero, List.set_cons_succ]) | ((with_reducible apply wqu); rfl; rfl; rfl; rfl; rfl; simp only [Act.put, List.setIfInBounds_toArray, List.set_cons_zero, List.set_cons_succ]))
                      refine wqIdx_nil ?_
                      refine wpAnyR_done (by kernel_rfl) ?_ _
                      have hlen : (insR F (x1, x2)).length = F.length + 1 + (F.length - F.length) := by rw [HINS.out, List.length_append, List.length_cons, List.length_take, List.length_drop]; omega
                      have HLEN := Lib.hid hlen
                      clear hlen
                      have HB8 := Lib.hid (below_of_rk RK8.out (Nat.le_refl _))
                      have hW4 := HW4.out.size
                      have hW1 := HB.out.size
                      go_wp2
                      refine ⟨⟨k + 1, A8, c8, by omega, by go_num, ?_, ?_, HVw.out.trans (HB8.out.mono (by have := HBW.out.size; exact this))⟩, by simp [intOf]; omega⟩
                      · rw [HF.out, HST.out, HLEN.out]; simp
                      · rw [HF.out, HST.out, HLEN.out]
                        have o := own_mono O8.out (show w.heap.size ≤ wr3.drew.heap.size from HBW.out.size)
                        have e : Prs (insR F (x1, x2)) = Prs (F.take F.length ++ [(x1, x2)] ++ F.drop F.length) := by rw [HINS.out, List.append_assoc]; rfl
                        rw [e]
                        simpa using o
                  · go_simp
                    refine hK _ _ (rk_below' (alloc_below _ _)) ?_
                    clear hK K
                    have KX0 := Lib.hid ((Blk.new (wr3.drew.drew.drew) 61 #[.int .i64 x1, .int .i64 x2]).alloc (.cells #[] 61))
                    refine wpAnyR_sole (i := 0) rfl (by kernel_rfl) (fun K hK => ?_)
                    go_simp
                    refine hK _ _ (rk_below' (alloc_below _ _)) ?_
                    clear hK K
                    have RK4 := Lib.hid (show RK (fun b => wr3.drew.heap.size ≤ b) (wr3.drew.drew.drew) (((wr3.drew.drew.drew).alloc (.cells #[.int .i64 x1, .int .i64 x2] 61)).alloc (.cells #[] 61)) from RK.trans _ _ _ _ (rk_below' (alloc_below _ _)) (rk_below' (alloc_below _ _)))
                    have e1 := empty_own2 ((wr3.drew.drew.drew).alloc (.cells #[.int .i64 x1, .int .i64 x2] 61)) 61
                    rw [World.size_alloc] at e1
                    have E1 := Lib.hid e1
                    clear e1
                    refine wpAnyR_sole (i := 4) rfl (by kernel_rfl) (fun K hK => ?_)
                    have hr := (((SFV.out.take F.length).keptB RK4.out (Nat.le_refl _)).reads)
                    rw [List.length_take, Nat.min_eq_left (by omega)] at hr
                    have HR := Lib.hid hr
                    clear hr
                    rw [if_pos (wanted0 rfl _)]
                    refine wp_appP _ (.tmp 77) (.tmp 80) _ rfl Try.underlying66 info_mo3 E1.out HR.out _ rfl rfl (by omega) (by simp) ?_
                    intro A5 c5 w5 o5 gr5
                    rw [Nat.zero_add, List.nil_append] at o5
                    simp only [Nat.zero_add]
                    refine hK _ _ (rk_grown' (Grew.by_ gr5) (fun i hi => by simp [Value.ownBlock] at hi; show (_ : Nat) ≤ _; first | omega | (simp; omega))) ?_
                    clear hK K
                    simp only [Act.put, List.setIfInBounds_toArray, List.set_cons_zero, List.set_cons_succ]
                    have RK5 := Lib.hid (RK.trans _ _ _ _ RK4.out (rk_grown' (Grew.by_ gr5) (fun i hi => by simp [Value.ownBlock] at hi; show (_ : Nat) ≤ _; first | omega | (simp; omega))))
                    have O5 := Lib.hid (own_mono o5 (show wr3.drew.heap.size ≤ _ from Nat.le_succ _))
                    have KX := Lib.hid (KX0.out.grown (Grew.by_ gr5) (by simp [Value.ownBlock]))
                    have HS5 := Lib.hid (show wr3.drew.heap.size ≤ w5.heap.size from RK5.out.2.2.2.1)
                    clear o5 gr5 RK4
                    refine wpAnyR_sole (i := 10) rfl (by kernel_rfl) (fun K hK => ?_)
                    rw [if_pos (wanted0 rfl _)]
                    refine wp_appP _ (.tmp 81) (.tmp 86) _ rfl Try.underlying66 info_mo3 O5.out (reads_blk (x1, x2) KX.out) 1 rfl rfl (by omega) HS5.out ?_
                    intro A7 c7 w7 o7 gr7
                    refine hK _ _ (rk_grown' (Grew.by_ gr7) (fun i hi => (World.ownsRow.lt O5.out i hi).1)) ?_
                    clear hK K
                    have RK7 := Lib.hid (RK.trans _ _ _ _ RK5.out (rk_grown' (Grew.by_ gr7) (fun i hi => (World.ownsRow.lt O5.out i hi).1)))
                    have O7 := Lib.hid o7
                    have HS7 := Lib.hid (show wr3.drew.heap.size ≤ w7.heap.size from RK7.out.2.2.2.1)
                    clear o7 gr7
                    simp only [Act.put, List.setIfInBounds_toArray, List.set_cons_zero, List.set_cons_succ]
                    have hd : ∀ (X : Option Addr), Reads w7 w7.heap.size 2 X 0 (Prs (F.drop F.length)) := fun X => by rw [List.drop_length]; exact ⟨rfl, fun h => absurd h (Nat.lt_irrefl 0)⟩
                    have HD := Lib.hid hd
                    clear hd
                    refine wpAnyR_sole (i := 14) rfl (by kernel_rfl) (fun K hK => ?_)
                    rw [if_pos (wanted0 rfl _)]
                    refine wp_appP _ (.tmp 87) (.tmp 90) _ rfl Try.underlying66 info_mo3 O7.out (HD.out _) _ rfl rfl (by omega) HS7.out ?_
                    intro A8 c8 w8 o8 gr8
                    refine hK _ _ (rk_grown' (Grew.by_ gr8) (fun i hi => (World.ownsRow.lt O7.out i hi).1)) ?_
                    clear hK K
                    have RK8 := Lib.hid (RK.trans _ _ _ _ RK7.out (rk_grown' (Grew.by_ gr8) (fun i hi => (World.ownsRow.lt O7.out i hi).1)))
                    have O8 := Lib.hid o8
                    clear o8 gr8
                    simp only [Act.put, List.setIfInBounds_toArray, List.set_cons_zero, List.set_cons_succ]
                    refine batchK [15] (fuel := 0) rfl (by kernel_rfl) (by kernel_rfl) (fun _ _ d _ _ h => by cases d <;> exact h) ?_
                    repeat (first | ((with_reducible apply wq0); rfl; rfl; rfl; intro K hK; go_big_quiet_op; refine hK _ ?_; clear hK K) | ((with_reducible apply wq1); rfl; rfl; rfl; rfl; rfl; rfl; intro K hK; go_big_quiet_op; refine hK _ ?_; clear hK K) | ((with_reducible apply wqs); rfl; rfl; rfl; rfl; rfl; rfl; simp only [Act.put, List.setIfInBounds_toArray, List.set_cons_zero, List.set_cons_succ]) | ((with_reducible apply wqu); rfl; rfl; rfl; rfl; rfl; simp only [Act.put, List.setIfInBounds_toArray, List.set_cons_zero, List.set_cons_succ]))
                    refine wqIdx_nil ?_
                    refine wpAnyR_done (by kernel_rfl) ?_ _
                    have hlen : (insR F (x1, x2)).length = F.length + 1 + (F.length - F.length) := by rw [HINS.out, List.length_append, List.length_cons, List.length_take, List.length_drop]; omega
                    have HLEN := Lib.hid hlen
                    clear hlen
                    have HB8 := Lib.hid (below_of_rk RK8.out (Nat.le_refl _))
                    have hW4 := HW4.out.size
                    have hW1 := HB.out.size
                    go_wp2
                    refine ⟨⟨k + 1, A8, c8, by omega, by go_num, ?_, ?_, HVw.out.trans (HB8.out.mono (by have := HBW.out.size; exact this))⟩, by simp [intOf]; omega⟩
                    · rw [HF.out, HST.out, HLEN.out]; simp
                    · rw [HF.out, HST.out, HLEN.out]
                      have o := own_mono O8.out (show w.heap.size ≤ wr3.drew.heap.size from HBW.out.size)
                      have e : Prs (insR F (x1, x2)) = Prs (F.take F.length ++ [(x1, x2)] ++ F.drop F.length) := by rw [HINS.out, List.append_assoc]; rfl
                      rw [e]
                      simpa using o
    · obtain rfl : k = l.length := by omega
      rw [List.take_length] at HO ⊢
      go_wp2
      go_ret
      exact ⟨A1, c1, rfl, HO.out, HB.out⟩
end Go.Proofs.Ytodfpdmmbmbinaa
