/- The walk of the law NumReads. -/
import Derived.Test.YtgpffapnlngnkaaNumDo
import Derived.Test.YtgpffapnlngnkaaOp
import Derived.Deep.SlicePairs
namespace Go.Proofs.Ytgpffapnlngnkaa
open Go.RowKit

/-- A slice of reads that came in: pairs of a kind and a number. -/
def InO (w : World) (A : Option Addr) (g : Nat) (os : List (Int × Int)) (c : Nat) : Prop :=
  (∀ (j : Nat) (p : Int × Int), os[j]? = some p → ∃ ad, A = some ad ∧ ad.block = g ∧ w.cell? (ad.add (j * 2)) = some (.int .i64 p.1) ∧ w.cell? (ad.add (j * 2 + 1)) = some (.int .i64 p.2)) ∧ os.length ≤ c ∧ c ≤ maxLen
def runM (os : List (Int × Int)) (s : Option (List UInt8)) : Option (List UInt8) := os.foldl (fun s o => doM o.1 o.2 s) s
theorem runM_good {os : List (Int × Int)} {s : Option (List UInt8)} (h : Good s) : Good (runM os s) := by
  induction os generalizing s with
  | nil => exact h
  | cons o os ih => exact ih (doM_good h)
theorem runM_snoc (os : List (Int × Int)) (k : Nat) (h : k < os.length) (s : Option (List UInt8)) : runM (os.take (k + 1)) s = doM os[k].1 os[k].2 (runM (os.take k) s) := by
  have e : os.take (k + 1) = os.take k ++ [os[k]] := by rw [List.take_add_one, List.getElem?_eq_getElem h]; rfl
  unfold runM
  rw [e, List.foldl_append]
  rfl
theorem load_op_at (p : Addr) (k n : Int) (w : World) (h0 : w.cell? p = some (.int .i64 k)) (h1 : w.cell? (p.add 1) = some (.int .i64 n)) : (Instr.loadAt 42 (.pointer (some p))).run Try.prog w = .ok (.agg #[.int .i64 k, .int .i64 n]) w := by
  simp only [Addr.add, if_neg Nat.one_ne_zero] at h1
  go_simp
theorem load_bool_at (p : Addr) (b : Bool) (w : World) (h0 : w.cell? p = some (.bool b)) : (Instr.loadAt 4 (.pointer (some p))).run Try.prog w = .ok (.bool b) w := by
  go_simp
theorem own_slb {w : World} {base e n c : Nat} {A : Option Addr} {l : List UInt8} (o : w.ownsRow base e 1 (.slice A n c) n (Byt l)) (hb : base < w.heap.size) : ∃ h, base ≤ h ∧ h < w.heap.size ∧ SlB w h A l := by
  obtain ⟨h, hbh, s, -⟩ := SlB.of_own o
  by_cases hl : l = []
  · subst hl; exact ⟨base, Nat.le_refl _, hb, SlB.nil _ _ _⟩
  · exact ⟨h, hbh, s.lt hl, s⟩
theorem RdAt.near {T : TypeId} {w : World} {g h h0 : Nat} {s : Option (List UInt8)} (r : RdAt T w g h s) (hne : g ≠ h0) (hlt : h0 < w.heap.size) : ∃ h', RdAt T w g h' s ∧ h' < w.heap.size := by
  obtain ⟨A, c, l, hb, hgh, hl, hc, hs, hr⟩ := r
  by_cases e : l = []
  · subst e; exact ⟨h0, ⟨A, c, [], hb, hne, hl, hc, SlB.nil _ _ _, hr⟩, hlt⟩
  · exact ⟨h, ⟨A, c, l, hb, hgh, hl, hc, hs, hr⟩, hs.lt e⟩
theorem SlB.kept2 {S : Nat → Prop} {w w' : World} {h : Nat} {A : Option Addr} {l : List UInt8} (s : SlB w h A l) (k : RK S w w') (hs : h < w.heap.size → ¬ S h) : SlB w' h A l :=
  s.keep' fun hh => k.2.2.2.2 h hh (hs hh)
theorem below_of_RK {b g g2 : Nat} {w w0 w1 : World} (h : Below b w w0) (hb : b ≤ w0.heap.size) (k : RK (two g g2) w0 w1) (h1 : b ≤ g) (h2 : b ≤ g2) : Below b w w1 :=
  ⟨k.1.trans h.os, k.2.1.trans h.tape, k.2.2.1.trans h.output, Nat.le_trans h.size k.2.2.2.1, fun i hi => (k.2.2.2.2 i (by omega) (by rintro (e | e) <;> omega)).trans (h.block i hi)⟩
/-- What is asked of the worlds: but for named blocks all is as it was; and what holds once goes on holding. -/
def RC (S : Nat → Prop) (C : World → Prop) (w w' : World) : Prop := RK S w w' ∧ (C w → C w')
theorem RC.refl (S : Nat → Prop) (C : World → Prop) (w : World) : RC S C w w := ⟨RK.refl S w, fun h => h⟩
theorem RC.trans (S : Nat → Prop) (C : World → Prop) (a b c : World) (h : RC S C a b) (k : RC S C b c) : RC S C a c := ⟨RK.trans S a b c h.1 k.1, fun x => k.2 (h.2 x)⟩
theorem batchC {P : Program} {ops : Array Oper} {Q : Exit → Act → World → Prop} {md : Region.Mode} {S : Nat → Prop} {C : World → Prop} {w : World} (is : List Nat) {fuel N : Nat} {listed : Array Bool} {a : Act} (hN : N = fuel + is.length) (hs : Region.noSelect ops = true) (ht : takeable md ops is listed = true)
    (hQ : ∀ c a d v w, Q (.panic c) (Act.put a d v) w → Q (.panic c) a w) (h : WQ P ops (RC S C w) (fun a' => wpAnyR P md ops Q (RC S C) fuel (listAll is listed) a' w) is a) : wpAnyR P md ops Q (RC S C) N listed a w := by
  subst hN
  exact wpAnyR_batch (RC.refl S C) (RC.trans S C) hs hQ is fuel listed a ht h.out
set_option maxRecDepth 100000 in
set_option maxHeartbeats 2000000 in
theorem reads_in (A B : Option Addr) (g gq : Nat) (l : List UInt8) (os : List (Int × Int)) (c cq : Nat) (w : World) (hin : InB w A g l c) (hq : InO w B gq os cq) (hl : l.length ≤ 5000) :
    Calls Try.prog 4 #[.slice A l.length c, .slice B os.length cq] w (LawPost w) := by
  obtain ⟨hs, hlc, hc⟩ := hin
  obtain ⟨hop, hoc, hocm⟩ := hq
  unfold maxLen at hc hocm
  have d1 : decide (5000 < l.length) = false := by simp; omega
  have hE : (w.alloc (.cells #[] 5)).ownsRow w.heap.size 5 1 (.slice (some ⟨w.heap.size, 0, none⟩) 0 0) 0 (Byt []) := own_new w #[] _ 0 _ rfl rfl (by decide) (Nat.le_refl _)
  have hsA : SlB (w.alloc (.cells #[] 5)) g A l := hs.keep' fun hh => Below.heap_alloc w _ _ hh
  have HS := Lib.hid hs
  have HE := Lib.hid hE
  have HR := Lib.hid (hsA.reads (n := l.length) rfl)
  have HO := Lib.hid hop
  clear hs hE hsA hop
  go_enter Try.func4, Try.ntmps4
  go_wp2_with (at_builtin; (refine wpList_appB _ rfl (.tmp 14) (.tmp 15) _ rfl Try.underlying23 info_u8 HE.out HR.out c rfl rfl (by omega) (by simp) ?_); intro A1 c1 w1 o1 gr1; have O1 := Lib.hid o1; have G1 := Lib.hid gr1; clear o1 gr1)
  rw [Nat.zero_add, List.nil_append] at O1
  have b1 : Below w.heap.size w w1 := grew_only G1.out
  have hsz1 : w.heap.size < w1.heap.size := by have := (Grew.by_ G1.out).size; simp only [World.size_alloc] at this; omega
  clear G1 HE HR
  obtain ⟨ho, hbo, hlo, so⟩ := own_slb O1.out hsz1
  have SO := Lib.hid so
  clear so O1
  refine (from_any A1 c1 ho l w1 SO.out (by omega)).mono ?_
  rintro e w2 ⟨gr, hr0, rfl, kg, -, r2, b2⟩
  obtain ⟨hr, r2, hrl⟩ := r2.near (h0 := w.heap.size) (by omega) (Nat.lt_of_lt_of_le hsz1 b2.size)
  have hgl := r2.lt
  have R2 := Lib.hid r2
  clear r2
  have b02 := below_trans b1 b2
  have hE2 : (w2.alloc (.cells #[] 5)).ownsRow w2.heap.size 5 1 (.slice (some ⟨w2.heap.size, 0, none⟩) 0 0) 0 (Byt []) := own_new w2 #[] _ 0 _ rfl rfl (by decide) (Nat.le_refl _)
  have hsA2 : SlB (w2.alloc (.cells #[] 5)) g A l := (HS.out.below b02 fun h => h).keep' fun hh => Below.heap_alloc w2 _ _ hh
  have HE := Lib.hid hE2
  have HR := Lib.hid (hsA2.reads (n := l.length) rfl)
  clear hE2 hsA2
  go_wp2_with (at_builtin; (refine wpList_appB _ rfl (.tmp 19) (.tmp 20) _ rfl Try.underlying23 info_u8 HE.out HR.out c rfl rfl (by omega) (by simp) ?_); intro A3 c3 w3 o3 gr3; have O3 := Lib.hid o3; have G3 := Lib.hid gr3; clear o3 gr3)
  rw [Nat.zero_add, List.nil_append] at O3
  have b3 : Below w2.heap.size w2 w3 := grew_only G3.out
  have hsz3 : w2.heap.size < w3.heap.size := by have := (Grew.by_ G3.out).size; simp only [World.size_alloc] at this; omega
  clear G3 HE HR
  obtain ⟨h2, hb2, hl2, s2⟩ := own_slb O3.out hsz3
  have hcp3 := own_cap O3.out
  clear O3
  obtain ⟨hlc3, hc3⟩ := hcp3
  have bA := alloc_below w3 (.cells #[.slice A3 l.length c3, .bool false] 39)
  have hx : RdAt 39 (w3.alloc (.cells #[.slice A3 l.length c3, .bool false] 39)) w3.heap.size h2 (some l) :=
    ⟨A3, c3, l, Blk.new w3 _ _, by omega, hlc3, hc3, s2.keep' fun hh => Below.heap_alloc w3 _ _ hh, fun r e => (Option.some.inj e).symm⟩
  have BT := Lib.hid (show Both (w3.alloc (.cells #[.slice A3 l.length c3, .bool false] 39)) gr hr w3.heap.size h2 (some l) from
    ⟨(R2.out.below b3).below bA, hx, by omega, by omega, by omega⟩)
  have b04 : Below w.heap.size w (w3.alloc (.cells #[.slice A3 l.length c3, .bool false] 39)) := below_trans (below_trans b02 b3) bA
  have SO4 := Lib.hid (SlB.below SO.out (below_trans (below_trans b2 b3) bA) fun h => h)
  have hg2 : w2.heap.size < w3.heap.size := hsz3
  generalize hG2 : w3.heap.size = g2 at *
  generalize hW4 : w3.alloc (.cells #[.slice A3 l.length c3, .bool false] 39) = w4 at *
  have B04 := Lib.hid b04
  clear hx bA s2 R2 b04 b3 hW4
  refine (lives_any _).mono ?_; rintro e w5 ⟨rfl, b5⟩
  have BT5 := Lib.hid (BT.out.below b5)
  have B05 := Lib.hid (below_trans B04.out b5)
  have SO5 := Lib.hid (SlB.below SO4.out b5 fun h => h)
  clear BT SO4 B04
  go_wp2_with fail
  go_loopw [8] (fun i wr => ∃ k : Nat, k ≤ os.length ∧ k ≤ 30 ∧ i = .int .i64 (k : Int) ∧ Both wr gr hr g2 h2 (runM (os.take k) (some l)) ∧ RK (two gr g2) w5 wr) (fun i _ => 30 - (intOf i).toNat)
  case atStart => exact ⟨0, Nat.zero_le _, by omega, rfl, BT5.out, RK.refl _ _⟩
  case round =>
    obtain ⟨k, hk, hk30, rfl, bt, rk⟩ := hrel
    have BT := Lib.hid bt
    clear bt
    have hgood : Good (runM (os.take k) (some l)) := runM_good fun r e => by cases e; omega
    have GD := Lib.hid hgood
    clear hgood
    have hbw := below_of_RK B05.out B05.out.size rk (by omega) (by omega)
    by_cases hlt : k < os.length
    · have hd : decide ((k : Int) < (os.length : Int)) = true := by simp; omega
      by_cases hlt2 : k < 30
      · have hd2 : decide ((k : Int) < 30) = true := by simp; omega
        have hst := Lib.hid (runM_snoc os k hlt (some l))
        obtain ⟨ad, hB, hadb, hc0, hc1⟩ := HO.out k os[k] (List.getElem?_eq_getElem hlt)
        subst hB
        obtain ⟨q, n, hqn⟩ : ∃ q n, os[k] = (q, n) := ⟨_, _, rfl⟩
        rw [hqn] at hc0 hc1 hst
        simp only at hc0 hc1 hst
        obtain ⟨s6, hs6⟩ : ∃ s6, s6 = doM q n (runM (os.take k) (some l)) := ⟨_, rfl⟩
        have HD := Lib.hid (do_any gr hr g2 h2 q n _ _ BT.out.drew GD.out)
        rw [← hs6] at hst HD
        clear hs6
        have hld : ∀ W, RK (two gr g2) wr.drew W → (Instr.loadAt 42 (.pointer (some (ad.add (k * 2))))).run Try.prog W = .ok (.agg #[.int .i64 q, .int .i64 n]) W := fun W hW => by
          have hbW : Below w.heap.size w W := below_of_RK hbw hbw.size (RK.of_drew hW) (by omega) (by omega)
          refine load_op_at _ q n W ((World.cell?_of_block (hbW.block _ (World.block_lt_of_cell? _ _ hc0))).trans hc0) ?_
          rw [Go.Deep.add_add]
          exact (World.cell?_of_block (hbW.block _ (World.block_lt_of_cell? _ _ hc1))).trans hc1
        have HL := Lib.hid hld
        clear hld hc0 hc1 hqn
        go_wp2_with fail
        refine wp_region_R (R := RC (two gr g2) (fun W => Both W gr hr g2 h2 s6)) (n := 24) (by kernel_rfl) rfl ?_
        refine batchC [0, 1, 2, 3, 4, 5] (fuel := 18) rfl (by kernel_rfl) (by kernel_rfl) (fun _ _ d _ _ h => by cases d <;> exact h) ?_
        repeat (first | ((with_reducible apply wq0); rfl; rfl; rfl; intro K hK; go_big_quiet_op; refine hK _ ?_; clear hK K) | ((with_reducible apply wq1); rfl; rfl; rfl; rfl; rfl; rfl; intro K hK; go_big_quiet_op; refine hK _ ?_; clear hK K) | ((with_reducible apply wqs); rfl; rfl; rfl; rfl; rfl; rfl; simp only [Act.put, List.setIfInBounds_toArray, List.set_cons_zero, List.set_cons_succ]) | ((with_reducible apply wqu); rfl; rfl; rfl; rfl; rfl; simp only [same]))
        refine wqIdx_load rfl rfl rfl rfl (fun W hW => HL.out W hW.1) ?_
        simp only [Act.put, List.setIfInBounds_toArray, List.set_cons_zero, List.set_cons_succ]
        refine wqIdx_nil ?_
        refine wpAnyR_sole (i := 6) rfl (by kernel_rfl) (fun K hK => ?_)
        go_simp
        refine HD.out.mono ?_
        rintro e w6 ⟨rfl, bt6, rk6⟩
        have BT6 := Lib.hid bt6
        clear bt6
        refine hK _ _ ⟨rk6, fun _ => BT6.out⟩ ?_
        clear hK K
        have KB : ∀ W, RC (two gr g2) (fun W => Both W gr hr g2 h2 s6) w6 W → (Instr.loadAt 4 (.pointer (some ⟨g2, 1, none⟩))).run Try.prog W = .ok (.bool s6.isNone) W := fun W hW => by
          obtain ⟨A7, cc7, l7, k0, k1, -⟩ := rd_cells (hW.2 BT6.out).2.1
          exact load_bool_at _ _ W k1
        refine batchC [7, 8, 9, 11, 12, 13, 14] (fuel := 10) rfl (by kernel_rfl) (by kernel_rfl) (fun _ _ d _ _ h => by cases d <;> exact h) ?_
        repeat (first | ((with_reducible apply wq0); rfl; rfl; rfl; intro K hK; go_big_quiet_op; refine hK _ ?_; clear hK K) | ((with_reducible apply wq1); rfl; rfl; rfl; rfl; rfl; rfl; intro K hK; go_big_quiet_op; refine hK _ ?_; clear hK K) | ((with_reducible apply wqs); rfl; rfl; rfl; rfl; rfl; rfl; simp only [Act.put, List.setIfInBounds_toArray, List.set_cons_zero, List.set_cons_succ]) | ((with_reducible apply wqu); rfl; rfl; rfl; rfl; rfl; simp only [same]))
        refine wqIdx_nil_check rfl rfl rfl rfl ?_
        simp only [Act.put, List.setIfInBounds_toArray, List.set_cons_zero, List.set_cons_succ]
        repeat (first | ((with_reducible apply wq0); rfl; rfl; rfl; intro K hK; go_big_quiet_op; refine hK _ ?_; clear hK K) | ((with_reducible apply wq1); rfl; rfl; rfl; rfl; rfl; rfl; intro K hK; go_big_quiet_op; refine hK _ ?_; clear hK K) | ((with_reducible apply wqs); rfl; rfl; rfl; rfl; rfl; rfl; simp only [Act.put, List.setIfInBounds_toArray, List.set_cons_zero, List.set_cons_succ]) | ((with_reducible apply wqu); rfl; rfl; rfl; rfl; rfl; simp only [same]))
        refine wqIdx_load rfl rfl rfl rfl KB ?_
        simp only [Act.put, List.setIfInBounds_toArray, List.set_cons_zero, List.set_cons_succ]
        refine wqIdx_nil ?_
        refine wpAnyR_sole (i := 10) rfl (by kernel_rfl) (fun K hK => ?_)
        go_simp
        refine (bad_at gr hr s6 _ BT6.out.1).mono ?_; rintro e w' ⟨rfl, rfl⟩
        refine hK _ _ (RC.refl _ _ _) ?_
        clear hK K
        refine batchC [15, 16, 17, 18, 20] (fuel := 4) rfl (by kernel_rfl) (by kernel_rfl) (fun _ _ d _ _ h => by cases d <;> exact h) ?_
        repeat (first | ((with_reducible apply wq0); rfl; rfl; rfl; intro K hK; go_big_quiet_op; refine hK _ ?_; clear hK K) | ((with_reducible apply wq1); rfl; rfl; rfl; rfl; rfl; rfl; intro K hK; go_big_quiet_op; refine hK _ ?_; clear hK K) | ((with_reducible apply wqs); rfl; rfl; rfl; rfl; rfl; rfl; simp only [Act.put, List.setIfInBounds_toArray, List.set_cons_zero, List.set_cons_succ]) | ((with_reducible apply wqu); rfl; rfl; rfl; rfl; rfl; simp only [same]))
        refine wqIdx_nil ?_
        refine wpAnyR_sole (i := 19) rfl (by kernel_rfl) (fun K hK => ?_)
        go_simp
        refine (left_at gr hr s6 _ BT6.out.1).mono ?_; rintro e w' ⟨rfl, rfl⟩
        refine hK _ _ (RC.refl _ _ _) ?_
        clear hK K
        refine wpAnyR_sole (i := 21) rfl (by kernel_rfl) (fun K hK => ?_)
        go_simp
        refine (rleft_at g2 h2 s6 _ BT6.out.2.1).mono ?_; rintro e w' ⟨rfl, rfl⟩
        refine hK _ _ (RC.refl _ _ _) ?_
        clear hK K
        refine batchC [22, 23] (fuel := 0) rfl (by kernel_rfl) (by kernel_rfl) (fun _ _ d _ _ h => by cases d <;> exact h) ?_
        repeat (first | ((with_reducible apply wq0); rfl; rfl; rfl; intro K hK; go_big_quiet_op; refine hK _ ?_; clear hK K) | ((with_reducible apply wq1); rfl; rfl; rfl; rfl; rfl; rfl; intro K hK; go_big_quiet_op; refine hK _ ?_; clear hK K) | ((with_reducible apply wqs); rfl; rfl; rfl; rfl; rfl; rfl; simp only [Act.put, List.setIfInBounds_toArray, List.set_cons_zero, List.set_cons_succ]) | ((with_reducible apply wqu); rfl; rfl; rfl; rfl; rfl; simp only [same]))
        refine wqIdx_nil ?_
        refine wpAnyR_done (by kernel_rfl) ?_ _
        go_wp2
        exact ⟨⟨k + 1, by omega, by omega, by go_num, by rw [hst.out]; exact BT6.out, RK.trans _ _ _ _ rk (RK.of_drew rk6)⟩, by simp [intOf]; omega⟩
      · obtain rfl : k = 30 := by omega
        have hd2 : decide (((30 : Nat) : Int) < 30) = false := by simp
        obtain ⟨A7, cc7, l7, k0, k1, -, -, -, -, hl7⟩ := rd_cells BT.out.2.1
        have hcv1 := run_convB wr Try.underlying23 Try.underlying5 Try.underlying9 c1 ((SlB.kept2 SO5.out rk fun h => by rintro (e | e) <;> omega).reads (n := l.length) rfl)
        have hcv2 := run_convB wr Try.underlying23 Try.underlying5 Try.underlying9 c ((HS.out.below hbw fun h => h).reads (n := l.length) rfl)
        obtain ⟨st, hst⟩ : ∃ st, st = runM (os.take 30) (some l) := ⟨_, rfl⟩
        rw [← hst] at BT k1 hl7
        clear hst GD
        rcases st with _ | l'
        · simp only [Option.isNone_none] at k1
          go_wp2_with fail
          refine (done_at gr hr none _ BT.out.1).mono ?_; rintro e w' ⟨rfl, rfl⟩
          simp only [doneM]
          go_wp2
          go_ret
          exact ⟨rfl, hbw⟩
        · obtain rfl := hl7 l' rfl
          simp only [Option.isNone_some] at k1
          by_cases hl0 : l' = []
          · subst hl0
            simp only [List.length_nil] at k0
            go_wp2_with fail
            refine (done_at gr hr (some []) _ BT.out.1).mono ?_; rintro e w' ⟨rfl, rfl⟩
            simp only [doneM, if_true]
            go_wp2
            go_ret
            exact ⟨rfl, hbw⟩
          · have hpos : 0 < l'.length := List.length_pos_iff.2 hl0
            have d7 : decide ((0 : Int) < (l'.length : Int)) = true := by simp; omega
            go_wp2_with fail
            refine (done_at gr hr (some l') _ BT.out.1).mono ?_; rintro e w' ⟨rfl, rfl⟩
            simp only [doneM, if_neg hl0]
            go_wp2
            go_ret
            exact ⟨rfl, hbw⟩
    · obtain rfl : k = os.length := by omega
      have hd : decide ((os.length : Int) < (os.length : Int)) = false := by simp
      obtain ⟨A7, cc7, l7, k0, k1, -, -, -, -, hl7⟩ := rd_cells BT.out.2.1
      have hcv1 := run_convB wr Try.underlying23 Try.underlying5 Try.underlying9 c1 ((SlB.kept2 SO5.out rk fun h => by rintro (e | e) <;> omega).reads (n := l.length) rfl)
      have hcv2 := run_convB wr Try.underlying23 Try.underlying5 Try.underlying9 c ((HS.out.below hbw fun h => h).reads (n := l.length) rfl)
      obtain ⟨st, hst⟩ : ∃ st, st = runM (os.take os.length) (some l) := ⟨_, rfl⟩
      rw [← hst] at BT k1 hl7
      clear hst GD
      rcases st with _ | l'
      · simp only [Option.isNone_none] at k1
        go_wp2_with fail
        refine (done_at gr hr none _ BT.out.1).mono ?_; rintro e w' ⟨rfl, rfl⟩
        simp only [doneM]
        go_wp2
        go_ret
        exact ⟨rfl, hbw⟩
      · obtain rfl := hl7 l' rfl
        simp only [Option.isNone_some] at k1
        by_cases hl0 : l' = []
        · subst hl0
          simp only [List.length_nil] at k0
          go_wp2_with fail
          refine (done_at gr hr (some []) _ BT.out.1).mono ?_; rintro e w' ⟨rfl, rfl⟩
          simp only [doneM, if_true]
          go_wp2
          go_ret
          exact ⟨rfl, hbw⟩
        · have hpos : 0 < l'.length := List.length_pos_iff.2 hl0
          have d7 : decide ((0 : Int) < (l'.length : Int)) = true := by simp; omega
          go_wp2_with fail
          refine (done_at gr hr (some l') _ BT.out.1).mono ?_; rintro e w' ⟨rfl, rfl⟩
          simp only [doneM, if_neg hl0]
          go_wp2
          go_ret
          exact ⟨rfl, hbw⟩
set_option maxHeartbeats 400000 in
theorem reads_any (A B : Option Addr) (g gq : Nat) (l : List UInt8) (os : List (Int × Int)) (c cq : Nat) (w : World) (hin : InB w A g l c) (hq : InO w B gq os cq) :
    Calls Try.prog 4 #[.slice A l.length c, .slice B os.length cq] w (LawPost w) := by
  by_cases h1 : 5000 < l.length
  · have hlm : l.length ≤ 9223372036854775807 := Nat.le_trans hin.2.1 hin.2.2
    have d1 : decide (5000 < l.length) = true := by simpa using h1
    go_enter Try.func4, Try.ntmps4
    go_wp2_with fail
    refine (lives_any _).mono ?_; rintro e w1 ⟨rfl, b1⟩
    go_wp2
    go_ret
    exact ⟨rfl, b1⟩
  · exact reads_in A B g gq l os c cq w hin hq (by omega)
section
open Go.ChangeShapes Go.WideShapes Go.ChangeAt Go.RowKit Go.ChangeMaps
variable {H : Type} {enc : TypeId × Value → H} {P : Program} {w : World} {spare : Nat → Bool}
theorem open_ops {t e : TypeId} {f0 f1 : Field} {r : Reach} {b0 : Nat} {v : Value} {d : DataW H} {ps : List MemPlace} (ht : P.underlying t = some (.slice e)) (he : P.underlying e = some (.struct #[f0, f1])) (ce : P.cellsOf e = 2) (o0 : f0.offset = 0) (o1 : f1.offset = 1)
    (c0 : P.cellsOf f0.type = 1) (c1 : P.cellsOf f1.type = 1) (i0 : P.underlying f0.type = some (.int .i64)) (i1 : P.underlying f1.type = some (.int .i64))
    (hval : Value.okWide P w r b0 t v) (hd : DataW.Trod enc P w 0 spare true t v d ps) : ∃ A g os c, v = .slice A os.length c ∧ InO w A g os c := by
  obtain ⟨a0, len0, cap0, rfl⟩ := okWide_slice ht hval
  obtain ⟨fuel, hf⟩ := hd
  rcases Go.Deep.open_slice_pairs ht he ce o0 o1 c0 c1 hf with ⟨hcs, -⟩ | ⟨a, len, cap, m, n, V0, V1, D0, D1, P0, P1, hcs, -, hl, hm, hmm, -, hx⟩
  · simp [Value.cells] at hcs
    obtain ⟨rfl, rfl, rfl⟩ := hcs
    exact ⟨none, 0, [], 0, rfl, fun j p hj => by simp at hj, Nat.le_refl _, by decide⟩
  · simp [Value.cells] at hcs
    obtain ⟨rfl, rfl, rfl⟩ := hcs
    have hlm : len0 ≤ m := by rw [hmm]; split <;> omega
    have hint : ∀ i, i < m → ∃ z : Int × Int, V0 i = .int .i64 z.1 ∧ V1 i = .int .i64 z.2 := fun i hi => by
      obtain ⟨-, -, t0, t1⟩ := hx i hi
      obtain ⟨n0, e0, -⟩ := DataW.trod_int i0 t0
      obtain ⟨n1, e1, -⟩ := DataW.trod_int i1 t1
      exact ⟨(n0, n1), by simpa using e0, by simpa using e1⟩
    refine ⟨some a, a.block, (List.range len0).map fun i => (intOf (V0 i), intOf (V1 i)), cap0, by simp, fun j p hj => ⟨a, rfl, rfl, ?_⟩, by simpa using hl, hm⟩
    have hjl : j < len0 := by simpa using (List.getElem?_eq_some_iff.1 hj).1
    obtain ⟨z, e0, e1⟩ := hint j (by omega)
    obtain ⟨k0, k1, -, -⟩ := hx j (by omega)
    rw [List.getElem?_map, List.getElem?_range hjl] at hj
    simp only [Option.map_some, Option.some.injEq] at hj
    rw [k0, k1, e0, e1, ← hj, e0, e1]
    exact ⟨rfl, rfl⟩
end
end Go.Proofs.Ytgpffapnlngnkaa
