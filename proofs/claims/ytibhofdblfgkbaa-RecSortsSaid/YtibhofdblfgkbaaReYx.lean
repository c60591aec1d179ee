/- Contracts of records: Distinct of both sides, slices.Compact, Sort into a row that may be written to. -/
import Derived.Test.YtibhofdblfgkbaaReF
import Derived.Lib.SlicesCompact
namespace Go.Proofs.Ytibhofdblfgkbaa
open Go.RowKit Go.Sort

/-- Each record once, in order. -/
def disR (l : List (Int × Int)) : List (Int × Int) := Lib.compactUpTo (srt l).toArray (srt l).length
theorem arr_get {X : List (Int × Int)} {k : Nat} {x : Int × Int} (h : X[k]? = some x) : X.toArray[k]! = x := by
  rw [getElem!_def]
  simp [h]
set_option maxRecDepth 100000 in
set_option maxHeartbeats 4000000 in
theorem rrc_distinct_any (A : Option Addr) (h : Nat) (a : List (Int × Int)) (c : Nat) (w : World) (ha : SlP w h A a) (hc : a.length ≤ c) (hcm : c ≤ maxLen) (la : a.length ≤ 10000) :
    Calls Try.prog 29 #[.slice A a.length c] w fun e w' => ∃ A' c', e = .returned (.slice A' (disR a).length c') ∧ RowS w (disR a) A' c' w' := by
  have P1 := Lib.hid (rrc_sort_any a.length A h a c w (Nat.le_refl _) ha hc la hcm)
  have hsa := Lib.hid (srt_length a)
  obtain ⟨M, hM⟩ : ∃ M, disR a = M := ⟨_, rfl⟩
  have HM := Lib.hid (show Lib.compactUpTo (srt a).toArray (srt a).length = M from hM)
  rw [hM]
  clear ha hc hcm hM
  go_enter Try.func29, Try.ntmps29
  go_wp2_with fail
  refine P1.out.mono ?_; rintro e w2 ⟨AX, cX, rfl, ⟨gX, sX⟩, b2, -⟩
  have SX := Lib.hid sX
  have B2 := Lib.hid b2
  obtain ⟨X, hX⟩ : ∃ X, srt a = X := ⟨_, rfl⟩
  rw [hX] at SX HM hsa ⊢
  have hXl : X.length ≤ 10000 := by have := hsa.out; omega
  clear sX b2 hX hsa P1
  go_wp2_with fail
  go_loopw [4, 5] (fun vo i wr => ∃ (k : Nat) (o : List (Int × Int)) (A3 : Option Addr) (c3 : Nat), k ≤ X.length ∧ i = .int .i64 (k : Int) ∧ vo = .slice A3 o.length c3 ∧ o.length ≤ k ∧ wr.ownsRow w2.heap.size 24 2 vo o.length (Prs o) ∧ o = Lib.compactUpTo X.toArray k ∧ Below w2.heap.size w2 wr) (fun _ i _ => X.length - (intOf i).toNat)
  case atStart => exact ⟨0, [], none, 0, Nat.zero_le _, rfl, rfl, Nat.zero_le _, World.ownsRow_nil _ _ _ _, rfl, Below.refl _ _⟩
  case round =>
    obtain ⟨k, o, A3, c3, hk, rfl, rfl, hok, ho, hmg, hb⟩ := hrel
    have HO := Lib.hid ho
    have HG := Lib.hid hmg
    have HB := Lib.hid hb
    clear ho hmg hb
    by_cases hlt : k < X.length
    · obtain ⟨x, hx⟩ : ∃ x, X[k]? = some x := ⟨_, List.getElem?_eq_getElem hlt⟩
      have HX := Lib.hid hx
      obtain ⟨x1, x2⟩ := x
      obtain ⟨-, ox, eX, p0, p1⟩ := (SX.out.below HB.out).at_ hx
      subst eX
      have P0 := Lib.hid p0
      have P1 := Lib.hid p1
      have HS := Lib.hid (Lib.compactUpTo_succ X.toArray k)
      clear hx p0 p1
      cases k with
      | zero =>
        have HN := Lib.hid (show o ++ [(x1, x2)] = Lib.compactUpTo X.toArray (0 + 1) by
          rw [HS.out, ← HG.out, if_pos (Lib.keeps_lt_one _ 0 (by omega)), arr_get HX.out])
        go_wp2_with fail
        go_region
        have p0 : wr.drew.cell? ⟨gX, ox, none⟩ = _ := (by simpa using P0.out : wr.cell? ⟨gX, ox, none⟩ = _)
        have p1 : wr.drew.cell? ⟨gX, ox + 1, none⟩ = _ := (by simpa using P1.out : wr.cell? ⟨gX, ox + 1, none⟩ = _)
        have HOX := Lib.hid (World.ownsRow.alloc (own_below HO.out (Below.refl _ _)) (.cells #[.int .i64 x1, .int .i64 x2] 24))
        have HRX := Lib.hid (reads_one wr (x1, x2) 24)
        have hsx : w2.heap.size ≤ (wr.alloc (.cells #[.int .i64 x1, .int .i64 x2] 24)).heap.size := by have h1 := (HB.out).size; rw [World.size_alloc]; omega
        have HSX := Lib.hid hsx
        have BXA := Lib.hid ((HB.out).alloc (by have h1 := (HB.out).size; omega) (.cells #[.int .i64 x1, .int .i64 x2] 24))
        clear hsx
        go_wp2_with (at_builtin; (refine wpList_appP _ rfl (.tmp 28) (.tmp 33) _ rfl Try.underlying22 info_rec3 HOX.out HRX.out 1 rfl rfl (by omega) HSX.out ?_); intro A5 c5 w5 o5 gr5; have O5 := Lib.hid o5; have G5 := Lib.hid gr5; clear o5 gr5)
        have B5 := Lib.hid (BXA.out.grown (grown_of_drew (Grew.by_ G5.out)) HSX.out fun i hi => (World.ownsRow.lt HOX.out i hi).1)
        refine ⟨⟨0 + 1, o ++ [(x1, x2)], _, _, by omega, by go_num, by rw [List.length_append]; rfl, by rw [List.length_append, List.length_singleton]; omega, ?_, HN.out, B5.out⟩, by simp [intOf]; omega⟩
        rw [List.length_append]; exact O5.out
      | succ j =>
        have hj : j < X.length := by omega
        obtain ⟨y, hy⟩ : ∃ y, X[j]? = some y := ⟨_, List.getElem?_eq_getElem hj⟩
        have HY := Lib.hid hy
        obtain ⟨y1, y2⟩ := y
        obtain ⟨-, oy, eY, q0, q1⟩ := (SX.out.below HB.out).at_ hy
        injection eY with eY
        injection eY with _ eY
        subst eY
        have p0 : wr.drew.cell? ⟨gX, ox + (j + 1) * 2, none⟩ = _ := P0.out
        have p1 : wr.drew.cell? ⟨gX, ox + (j + 1) * 2 + 1, none⟩ = _ := P1.out
        have q0' : wr.drew.cell? ⟨gX, ox + j * 2, none⟩ = _ := q0
        have q1' : wr.drew.cell? ⟨gX, ox + j * 2 + 1, none⟩ = _ := q1
        have dz : (((j : Int) + 1) == 0) = false := by rw [beq_eq_false_iff_ne]; omega
        clear hy q0 q1
        by_cases e1 : x1 = y1
        · by_cases e2 : x2 = y2
          · subst e1 e2
            have HN := Lib.hid (show o = Lib.compactUpTo X.toArray (j + 1 + 1) by
              rw [HS.out, ← HG.out, Lib.keeps_neg (by omega) (by rw [arr_get HX.out, Nat.add_sub_cancel, arr_get HY.out])]; simp)
            go_wp2_with fail
            go_region
            go_wp2
            exact ⟨⟨j + 1 + 1, o, _, _, by omega, by go_num, rfl, by omega, own_below HO.out (below_drew0 (Below.refl _ _)), HN.out, below_drew0 HB.out⟩, by simp [intOf]; omega⟩
          · have d5 : (x2 == y2) = false := by simpa using e2
            subst e1
            have HN := Lib.hid (show o ++ [(x1, x2)] = Lib.compactUpTo X.toArray (j + 1 + 1) by
              rw [HS.out, ← HG.out, Lib.keeps_pos (by rw [arr_get HX.out, Nat.add_sub_cancel, arr_get HY.out]; intro e; injection e with _ e; exact e2 e), arr_get HX.out]; simp)
            clear e2
            go_wp2_with fail
            go_region
            clear q0' q1' p0 p1
            have p0 : wr.drew.cell? ⟨gX, ox + (j + 1) * 2, none⟩ = _ := P0.out
            have p1 : wr.drew.cell? ⟨gX, ox + (j + 1) * 2 + 1, none⟩ = _ := P1.out
            have HOX := Lib.hid (World.ownsRow.alloc (own_below HO.out (Below.refl _ _)) (.cells #[.int .i64 x1, .int .i64 x2] 24))
            have HRX := Lib.hid (reads_one wr (x1, x2) 24)
            have hsx : w2.heap.size ≤ (wr.alloc (.cells #[.int .i64 x1, .int .i64 x2] 24)).heap.size := by have h1 := (HB.out).size; rw [World.size_alloc]; omega
            have HSX := Lib.hid hsx
            have BXA := Lib.hid ((HB.out).alloc (by have h1 := (HB.out).size; omega) (.cells #[.int .i64 x1, .int .i64 x2] 24))
            clear hsx
            go_wp2_with (at_builtin; (refine wpList_appP _ rfl (.tmp 28) (.tmp 33) _ rfl Try.underlying22 info_rec3 HOX.out HRX.out 1 rfl rfl (by omega) HSX.out ?_); intro A5 c5 w5 o5 gr5; have O5 := Lib.hid o5; have G5 := Lib.hid gr5; clear o5 gr5)
            have B5 := Lib.hid (BXA.out.grown (grown_of_drew (Grew.by_ G5.out)) HSX.out fun i hi => (World.ownsRow.lt HOX.out i hi).1)
            refine ⟨⟨j + 1 + 1, o ++ [(x1, x2)], _, _, by omega, by go_num, by rw [List.length_append]; rfl, by rw [List.length_append, List.length_singleton]; omega, ?_, HN.out, B5.out⟩, by simp [intOf]; omega⟩
            rw [List.length_append]; exact O5.out
        · have d5 : (x1 == y1) = false := by simpa using e1
          have HN := Lib.hid (show o ++ [(x1, x2)] = Lib.compactUpTo X.toArray (j + 1 + 1) by
            rw [HS.out, ← HG.out, Lib.keeps_pos (by rw [arr_get HX.out, Nat.add_sub_cancel, arr_get HY.out]; intro e; injection e with e _; exact e1 e), arr_get HX.out]; simp)
          clear e1
          go_wp2_with fail
          go_region
          clear q0' q1' p0 p1
          have p0 : wr.drew.cell? ⟨gX, ox + (j + 1) * 2, none⟩ = _ := P0.out
          have p1 : wr.drew.cell? ⟨gX, ox + (j + 1) * 2 + 1, none⟩ = _ := P1.out
          have HOX := Lib.hid (World.ownsRow.alloc (own_below HO.out (Below.refl _ _)) (.cells #[.int .i64 x1, .int .i64 x2] 24))
          have HRX := Lib.hid (reads_one wr (x1, x2) 24)
          have hsx : w2.heap.size ≤ (wr.alloc (.cells #[.int .i64 x1, .int .i64 x2] 24)).heap.size := by have h1 := (HB.out).size; rw [World.size_alloc]; omega
          have HSX := Lib.hid hsx
          have BXA := Lib.hid ((HB.out).alloc (by have h1 := (HB.out).size; omega) (.cells #[.int .i64 x1, .int .i64 x2] 24))
          clear hsx
          go_wp2_with (at_builtin; (refine wpList_appP _ rfl (.tmp 28) (.tmp 33) _ rfl Try.underlying22 info_rec3 HOX.out HRX.out 1 rfl rfl (by omega) HSX.out ?_); intro A5 c5 w5 o5 gr5; have O5 := Lib.hid o5; have G5 := Lib.hid gr5; clear o5 gr5)
          have B5 := Lib.hid (BXA.out.grown (grown_of_drew (Grew.by_ G5.out)) HSX.out fun i hi => (World.ownsRow.lt HOX.out i hi).1)
          refine ⟨⟨j + 1 + 1, o ++ [(x1, x2)], _, _, by omega, by go_num, by rw [List.length_append]; rfl, by rw [List.length_append, List.length_singleton]; omega, ?_, HN.out, B5.out⟩, by simp [intOf]; omega⟩
          rw [List.length_append]; exact O5.out
    · obtain rfl : k = X.length := by omega
      have hg := HG.out
      rw [HM.out] at hg
      subst hg
      go_wp2
      go_ret
      exact ⟨A3, c3, rfl, RowS.own (below_trans B2.out HB.out) HO.out (by have := B2.out.size; omega)⟩

/-- A row's cells, none of them frozen. -/
def HP (w : World) (g : Nat) (l : List (Int × Int)) : Prop := ∀ (j : Nat) (u : Value), (Prs l)[j]? = some u → w.cell? ⟨g, j, none⟩ = some u ∧ w.frozen? ⟨g, j, none⟩ = false
/-- A list in a row of one's own that may be written to. -/
def RowH (w : World) (m : List (Int × Int)) (A' : Option Addr) (c' : Nat) (w' : World) : Prop :=
  Below w.heap.size w w' ∧ (m ≠ [] → ∃ g, A' = some ⟨g, 0, none⟩ ∧ w.heap.size ≤ g ∧ g < w'.heap.size ∧ HP w' g m ∧ m.length ≤ c' ∧ c' ≤ maxLen)
theorem hp_sorted {w : World} {g m : Nat} {l S : List (Int × Int)} {os : Array Obj} (hH : HoldsK encP 2 w g 0 l.toArray) (hg : g < w.heap.size) (hl : S.length = l.length) : g < (sortWorldK encP 2 w g 0 m S.toArray os).heap.size ∧ HP (sortWorldK encP 2 w g 0 m S.toArray os) g S := by
  have h1 : Holds id (putRow id (Go.Sort.ahead w m) g 0 (flatK encP 2 S.toArray)) g 0 (flatK encP 2 S.toArray) := holds_putRow id _ g 0 (flatK encP 2 l.toArray) _ hH (by rw [size_flatK, size_flatK]; simp [hl])
  have h2 := holds_grow id _ os g 0 _ (by rw [size_putRow]; exact hg) h1
  rw [flatK_prs] at h2
  refine ⟨?_, fun j u hj => ?_⟩
  · show g < (grow _ os).heap.size
    rw [size_grow]
    show g < (putRow id (Go.Sort.ahead w m) g 0 _).heap.size + _
    rw [size_putRow]
    exact Nat.lt_of_lt_of_le hg (Nat.le_add_right _ _)
  · have hj' : j < (Prs S).toArray.size := by simpa using (List.getElem?_eq_some_iff.1 hj).1
    have h3 := h2 j hj'
    rw [getElem!_pos _ j hj', Nat.zero_add] at h3
    have h4 : (Prs S).toArray[j] = u := by
      obtain ⟨_, e⟩ := List.getElem?_eq_some_iff.1 hj
      simpa using e
    rw [h4] at h3
    unfold sortWorldK putRowK
    rw [flatK_prs]
    exact h3
set_option maxHeartbeats 400000 in
theorem sortRecH_any (g c : Nat) (cur : Array Value) (l : List (Int × Int)) (w : World) (hh : w.heap[g]? = some (.cells cur 24 (0, 0))) (ht : cur.toList.take (l.length * 2) = Prs l) (hn : l.length ≤ 5000) :
    Calls Try.prog 101 #[.slice (some ⟨g, 0, none⟩) l.length c, .func (.func 46) #[] #[]] w fun e w' => e = .returned (.tuple #[]) ∧ (g < w'.heap.size ∧ HP w' g (sortMo l)) ∧ ∀ B, B ≤ g → Below B w w' := by
  have eg : ∀ args w, (callFunc 46 args).run Try.prog w = .ok (.enter 46 args) w := enters_of Try.func46 (by kernel_rfl) rfl
  have hlt : g < w.heap.size := Blk.lt (t := 24) hh
  have hH := holdsK_of_row hh ht
  have hcon := AnyQ.slices_SortFunc_total Try.sortRec 2 Try.isAgg24 Try.sizeOf24 encP (fun _ => rfl) (fun x v hv => by simp [encP] at hv; rcases hv with rfl | rfl <;> rfl) (fun x y => cmpM x y) (by rw [ltOf_cmp]; exact ltM_swo) 46 #[] g 0 c l.toArray w eg (rc_cmp_lays g 0 l.toArray.size w) hH hlt (by simp; omega) (by rw [ltOf_cmp]; exact ltM_total)
  rw [ltOf_cmp] at hcon
  change Calls Try.prog 101 _ _ _ at hcon
  simp only [List.size_toArray] at hcon
  refine hcon.mono ?_
  rintro e w' ⟨rfl, n, os, rfl⟩
  exact ⟨rfl, hp_sorted hH hlt (sortMo_length l), fun B hB => sorted_below hB hlt⟩
set_option maxRecDepth 100000 in
set_option maxHeartbeats 1000000 in
theorem inOrderH_any (A : Option Addr) (h : Nat) (l : List (Int × Int)) (c : Nat) (w : World) (hl : SlP w h A l) (hn : l.length ≤ 5000) :
    Calls Try.prog 73 #[.slice A l.length c] w fun e w' => ∃ A' c', e = .returned (.slice A' l.length c') ∧ RowH w (srt l) A' c' w' := by
  have P2 := Lib.hid (cloneRec_any A h l c w hl hn)
  clear hl
  go_enter Try.func73, Try.ntmps73
  go_wp2_with fail
  refine P2.out.mono ?_; rintro e w1 ⟨A', c', rfl, b1, hc⟩
  have HC := Lib.hid hc
  have B1 := Lib.hid b1
  clear hc b1
  by_cases h0 : l = []
  · subst h0
    go_wp2_with fail
    refine (AnyF.slices_SortFunc_none Try.sortRec A' c' _ w1).mono ?_
    rintro e w' ⟨rfl, rfl⟩
    go_wp2
    go_ret
    exact ⟨A', c', rfl, B1.out, fun e => absurd (srt_short (l := []) (by simp)) e⟩
  · obtain ⟨g, cur, rfl, hg, hh, ht, hnc, hcm⟩ := HC.out h0
    have P3 := Lib.hid (sortRecH_any g c' cur l w1 hh ht hn)
    clear hh ht
    go_wp2_with fail
    refine P3.out.mono ?_; rintro e w2 ⟨rfl, ⟨hlt, hp⟩, b2⟩
    have b3 := B1.out.trans (b2 _ hg)
    rw [sortMo_srt] at hp
    go_wp2
    go_ret
    exact ⟨_, c', rfl, b3, fun _ => ⟨g, rfl, hg, hlt, hp, by rw [srt_length]; exact hnc, hcm⟩⟩
set_option maxRecDepth 100000 in
set_option maxHeartbeats 1000000 in
theorem rc_sortH_any (A : Option Addr) (h : Nat) (l : List (Int × Int)) (c : Nat) (w : World) (hl : SlP w h A l) (h0 : mayE l = 0) :
    Calls Try.prog 18 #[.slice A l.length c] w fun e w' => ∃ A' c', e = .returned (.tuple #[.slice A' l.length c', .int .i64 0]) ∧ RowH w (srt l) A' c' w' := by
  have hok := mayE_ok h0
  have P1 := Lib.hid (rc_may_any A h l c w hl (by omega))
  have HL := Lib.hid hl
  clear hl
  rw [h0] at P1
  clear h0
  go_enter Try.func18, Try.ntmps18
  go_wp2_with fail
  refine P1.out.mono ?_; rintro e w0 ⟨rfl, b0⟩
  have P2 := Lib.hid (inOrderH_any A h l c w0 (HL.out.below b0) (by omega))
  have B0 := Lib.hid b0
  clear b0
  go_wp2_with fail
  refine P2.out.mono ?_; rintro e w1 ⟨A', c', rfl, b1, hr⟩
  go_wp2
  go_ret2
  exact ⟨A', c', rfl, below_trans B0.out b1, fun hne => by
    obtain ⟨g, e1, hg, h1⟩ := hr hne
    exact ⟨g, e1, Nat.le_trans B0.out.size hg, h1⟩⟩

theorem Prs_set : ∀ (l : List (Int × Int)) (k : Nat) (x : Int × Int), Prs (l.set k x) = ((Prs l).set (k * 2) (.int .i64 x.1)).set (k * 2 + 1) (.int .i64 x.2)
  | [], k, x => by simp [Prs_nil]
  | y :: l, 0, x => by simp [Prs_cons]
  | y :: l, k + 1, x => by
    rw [List.set_cons_succ, Prs_cons, Prs_cons, Prs_set l k x, show (k + 1) * 2 = k * 2 + 1 + 1 by omega]
    simp only [List.set_cons_succ]
theorem HP.at_ {w : World} {g k : Nat} {l : List (Int × Int)} {x : Int × Int} (h : HP w g l) (hk : l[k]? = some x) :
    (w.cell? ⟨g, k * 2, none⟩ = some (.int .i64 x.1) ∧ w.cell? ⟨g, k * 2 + 1, none⟩ = some (.int .i64 x.2)) ∧ w.frozen? ⟨g, k * 2, none⟩ = false ∧ w.frozen? ⟨g, k * 2 + 1, none⟩ = false := by
  obtain ⟨p0, p1⟩ := Prs_get l k x hk
  exact ⟨⟨(h _ _ p0).1, (h _ _ p1).1⟩, (h _ _ p0).2, (h _ _ p1).2⟩
theorem HP.drew {w : World} {g : Nat} {l : List (Int × Int)} (h : HP w g l) : HP w.drew g l := h
theorem HP.set {w : World} {g k : Nat} {l : List (Int × Int)} (h : HP w g l) (hk : k < l.length) (x1 x2 : Int) : HP ((w.setCell ⟨g, k * 2, none⟩ (.int .i64 x1)).setCell ⟨g, k * 2 + 1, none⟩ (.int .i64 x2)) g (l.set k (x1, x2)) := by
  obtain ⟨⟨c0, c1⟩, f0, f1⟩ := h.at_ (List.getElem?_eq_getElem hk)
  have hne : ∀ a b : Nat, a ≠ b → (⟨g, a, none⟩ : Addr) ≠ ⟨g, b, none⟩ := fun a b hab e => hab (by injection e)
  intro j u hj
  rw [Prs_set] at hj
  simp only [World.frozen?_setCell]
  by_cases e1 : j = k * 2 + 1
  · subst e1
    rw [List.getElem?_set_self (by rw [List.length_set, Prs_length]; omega)] at hj
    injection hj with hj
    subst hj
    refine ⟨?_, f1⟩
    rw [World.cell?_setCell_same' _ _ _ (by rw [World.cell?_setCell_other (h := hne _ _ (by omega)), c1]; rfl)]
  · rw [List.getElem?_set_ne (by omega)] at hj
    rw [World.cell?_setCell_other (h := hne _ _ (fun e => e1 e.symm))]
    by_cases e0 : j = k * 2
    · subst e0
      rw [List.getElem?_set_self (by rw [Prs_length]; omega)] at hj
      injection hj with hj
      subst hj
      refine ⟨?_, f0⟩
      rw [World.cell?_setCell_same' _ _ _ (by rw [c0]; rfl)]
    · rw [List.getElem?_set_ne (by omega)] at hj
      obtain ⟨h1, h2⟩ := h j u hj
      refine ⟨?_, h2⟩
      rw [World.cell?_setCell_other (h := hne _ _ (fun e => e0 e.symm))]
      exact h1
theorem keeps_next {X : List (Int × Int)} {k : Nat} (h : ∀ j, j < k → Lib.keeps X.toArray j = true) (hk : Lib.keeps X.toArray k = true) : ∀ j, j < k + 1 → Lib.keeps X.toArray j = true := fun j hj => by
  by_cases e : j = k
  · subst e; exact hk
  · exact h j (by omega)
theorem zeroRec (w : World) : (zeroValue 24).run Try.prog w = .ok (.agg #[.int .i64 0, .int .i64 0]) w := by
  go_simp
theorem run_clear_rec {w : World} {g k n c : Nat} {l : List (Int × Int)} (h : HP w g l) (hn : 0 < n) (hk : k + n = l.length) (ty : TypeId) :
    (Builtin.clear_ #[22] ty #[.slice (some ⟨g, k * 2, none⟩) n c]).run Try.prog w = .ok (.tuple #[]) (w.setCells g (k * 2) (List.replicate (n * 2) (.int .i64 0))) := by
  have hzc : (Builtin.zeroCells (Value.agg #[.int .i64 0, .int .i64 0]).cells n).toList = List.replicate (n * 2) (.int .i64 0) := by
    simp [Builtin.zeroCells, Value.cells]
    apply List.ext_getElem
    · simp
    · intro i h1 h2
      rcases Nat.mod_two_eq_zero_or_one i with e | e <;> simp [e]
  have hin : ∀ j, j < n * 2 → ∃ u, (Prs l)[k * 2 + j]? = some u := fun j hj => ⟨_, List.getElem?_eq_getElem (by rw [Prs_length]; omega)⟩
  have hst := run_storeCells_cells (P := Try.prog) g (k * 2) (List.replicate (n * 2) (.int .i64 0)) 0 w
    (fun j hj => by obtain ⟨u, hu⟩ := hin j (by simpa using hj); rw [Nat.add_zero, (h _ _ hu).1]; rfl)
    (fun j hj => by obtain ⟨u, hu⟩ := hin j (by simpa using hj); rw [Nat.add_zero]; exact (h _ _ hu).2)
    (by intro v hv'; rw [List.eq_of_mem_replicate hv']; rfl)
  simp only [Nat.add_zero] at hst
  obtain ⟨m, rfl⟩ : ∃ m, n = m + 1 := ⟨n - 1, by omega⟩
  simp [Builtin.clear_, run_underlying Try.underlying22, hzc, hst]
theorem HP.cut {w : World} {g k : Nat} {l : List (Int × Int)} (h : HP w g l) (vs : List Value) : HP (w.setCells g (k * 2) vs) g (l.take k) := fun j u hj => by
  have hlt := (List.getElem?_eq_some_iff.1 hj).1
  rw [Prs_length, List.length_take] at hlt
  have h1 : Prs l = Prs (l.take k) ++ Prs (l.drop k) := by rw [← Prs_append, List.take_append_drop]
  have hj2 : (Prs l)[j]? = some u := by
    rw [h1, List.getElem?_append_left (by rw [Prs_length, List.length_take]; exact hlt)]
    exact hj
  obtain ⟨c, f⟩ := h j u hj2
  rw [World.cell?_setCells_out _ _ _ _ _ (fun _ _ => .inl (by show j < k * 2; omega)), World.frozen?_setCells]
  exact ⟨c, f⟩
theorem below_setCells_c {B b : Nat} {a : World} (hb : B ≤ b) : ∀ (vs : List Value) (o : Nat) {w : World}, Below B a w → Below B a (w.setCells b o vs)
  | [], _, _, h => h
  | v :: vs, o, _, h => below_setCells_c hb vs (o + 1) (h.setCell (p := ⟨b, o, none⟩) hb v)
theorem compact_same {X : List (Int × Int)} (h : ∀ j, j < X.length → Lib.keeps X.toArray j = true) : Lib.compactUpTo X.toArray X.length = X := Lib.compact_all X h
theorem comp_take {X dk : List (Int × Int)} {kk : Nat} (hI : Lib.CompInv X.toArray X.length kk dk.toArray) : Lib.compactUpTo X.toArray X.length = dk.take kk := by
  have hs := hI.size
  simp only [List.size_toArray] at hs
  apply List.ext_getElem?
  intro j
  by_cases hj : j < kk
  · have hjd : j < dk.length := by have := hI.lt; omega
    rw [hI.low j hj, List.getElem?_take_of_lt hj, List.getElem?_eq_getElem hjd, getElem!_pos _ j (by simpa using hjd)]
    simp
  · rw [List.getElem?_eq_none (by rw [hI.len]; omega), List.getElem?_eq_none (by rw [List.length_take]; omega)]
set_option maxRecDepth 100000 in
set_option maxHeartbeats 4000000 in
theorem compact_any (g c : Nat) (X : List (Int × Int)) (w : World) (hp : HP w g X) (_ : g < w.heap.size) (hc : X.length ≤ c) (_ : c ≤ maxLen) (hn : X.length ≤ 10000) :
    Calls Try.prog 74 #[.slice (some ⟨g, 0, none⟩) X.length c] w fun e w' => e = .returned (.slice (some ⟨g, 0, none⟩) (Lib.compactUpTo X.toArray X.length).length c) ∧ HP w' g (Lib.compactUpTo X.toArray X.length) ∧ Below g w w' := by
  have HPX := Lib.hid hp
  clear hp
  by_cases h2 : X.length < 2
  · rw [compact_same fun j hj => Lib.keeps_lt_one _ j (by omega)]
    have d1 : decide ((X.length : Int) < 2) = true := by rw [decide_eq_true_eq]; omega
    go_enter Try.func74, Try.ntmps74
    go_wp2
    go_ret
    exact ⟨rfl, HPX.out, Below.refl _ _⟩
  · have d1 : decide ((X.length : Int) < 2) = false := by rw [decide_eq_false_iff_not]; omega
    go_enter Try.func74, Try.ntmps74
    go_wp2_with fail
    go_loopw [3] (fun i wr => ∃ k : Nat, 1 ≤ k ∧ k ≤ X.length ∧ i = .int .i64 (k : Int) ∧ (∀ j, j < k → Lib.keeps X.toArray j = true) ∧ HP wr g X ∧ Below g w wr) (fun i _ => X.length - (intOf i).toNat)
    case atStart => exact ⟨1, Nat.le_refl _, by omega, rfl, Lib.keeps_lt_one _, HPX.out, Below.refl _ _⟩
    case round =>
      rename World => wO
      obtain ⟨k, hk1, hk, rfl, hall, hpr, hb⟩ := hrel
      have HA := Lib.hid hall
      have HR := Lib.hid hpr
      have HB := Lib.hid hb
      clear hall hpr hb
      by_cases hlt : k < X.length
      · obtain ⟨x, hx⟩ : ∃ x, X[k]? = some x := ⟨_, List.getElem?_eq_getElem hlt⟩
        obtain ⟨y, hy⟩ : ∃ y, X[k - 1]? = some y := ⟨_, List.getElem?_eq_getElem (by omega)⟩
        have HX := Lib.hid hx
        have HY := Lib.hid hy
        obtain ⟨x1, x2⟩ := x
        obtain ⟨y1, y2⟩ := y
        obtain ⟨⟨p0, p1⟩, -⟩ := HR.out.drew.at_ hx
        obtain ⟨⟨q0, q1⟩, -⟩ := HR.out.drew.at_ hy
        clear hx hy
        by_cases e1 : x1 = y1
        · by_cases e2 : x2 = y2
          · subst e1 e2
            go_wp2_with fail
            go_region
            clear p0 p1 q0 q1
            go_wp2_with fail
            have hNK := Lib.hid (Lib.keeps_neg (d := X.toArray) (m := k) (by omega) (by rw [arr_get HX.out, arr_get HY.out]))
            go_loopw [3, 5] (fun s3 s5 wi => ∃ (kk k2 : Nat) (dk : List (Int × Int)), s3 = .int .i64 (kk : Int) ∧ s5 = .int .i64 (k2 : Int) ∧ 1 ≤ k2 ∧ k + k2 ≤ X.length ∧ HP wi g dk ∧ Lib.CompInv X.toArray (k + k2) kk dk.toArray ∧ Below g w wi) (fun _ s5 _ => X.length - (intOf s5).toNat)
            case atStart => exact ⟨k, 1, X, rfl, rfl, Nat.le_refl _, by omega, HR.out.drew, Lib.CompInv.start HA.out hNK.out, below_drew0 HB.out⟩
            case round =>
              obtain ⟨kk, k2, dk, rfl, rfl, h1, hle, hpd, hI, hb2⟩ := hrel
              have HD := Lib.hid hpd
              have HI := Lib.hid hI
              have HB2 := Lib.hid hb2
              have hkk := hI.lt
              have HDS := Lib.hid (show dk.length = X.length by simpa using hI.size)
              clear hpd hI hb2
              by_cases hlt2 : k + k2 < X.length
              · have d7 : decide ((k2 : Int) < ((X.length - k : Nat) : Int)) = true := by rw [decide_eq_true_eq]; omega
                obtain ⟨u, hu⟩ : ∃ u, X[k + k2]? = some u := ⟨_, List.getElem?_eq_getElem hlt2⟩
                obtain ⟨v, hv⟩ : ∃ v, X[k + k2 - 1]? = some v := ⟨_, List.getElem?_eq_getElem (by omega)⟩
                have hud : dk[k + k2]? = some u := by
                  have h9 := HI.out.high (k + k2) (by omega)
                  rw [arr_get hu] at h9
                  have h8 := List.getElem?_eq_getElem (show k + k2 < dk.length by rw [HDS.out]; omega)
                  rw [← h9, arr_get h8]
                  exact h8
                have hvd : dk[k + k2 - 1]? = some v := by
                  have h9 := HI.out.high (k + k2 - 1) (by omega)
                  rw [arr_get hv] at h9
                  have h8 := List.getElem?_eq_getElem (show k + k2 - 1 < dk.length by rw [HDS.out]; omega)
                  rw [← h9, arr_get h8]
                  exact h8
                have HU := Lib.hid hu
                have HV := Lib.hid hv
                obtain ⟨u1, u2⟩ := u
                obtain ⟨v1, v2⟩ := v
                obtain ⟨⟨p0, p1⟩, -⟩ := HD.out.drew.at_ hud
                obtain ⟨⟨q0, q1⟩, -⟩ := HD.out.drew.at_ hvd
                obtain ⟨old, hold⟩ : ∃ old, dk[kk]? = some old := ⟨_, List.getElem?_eq_getElem (show kk < dk.length by rw [HDS.out]; omega)⟩
                obtain ⟨⟨r0, r1⟩, f0, f1⟩ := HD.out.at_ hold
                obtain ⟨old1, old2⟩ := old
                rw [show (k + k2) * 2 = k * 2 + k2 * 2 by omega] at p0 p1
                rw [show (k + k2 - 1) * 2 = k * 2 + (k2 - 1) * 2 by omega] at q0 q1
                simp only at p0 p1 q0 q1 r0 r1
                have R0 := Lib.hid r0
                have R1 := Lib.hid r1
                have F0 := Lib.hid f0
                have F1 := Lib.hid f1
                clear hu hv hud hvd hold r0 r1 f0 f1
                by_cases e1 : u1 = v1
                · by_cases e2 : u2 = v2
                  · subst e1 e2
                    have HN := Lib.hid (HI.out.skip (Lib.keeps_neg (by omega) (by rw [arr_get HU.out, arr_get HV.out])))
                    go_wp2_with fail
                    go_region
                    go_wp2
                    exact ⟨⟨kk, k2 + 1, dk, rfl, by go_num, by omega, by omega, HD.out.drew, HN.out, below_drew0 HB2.out⟩, by simp [intOf]; omega⟩
                  · have d5 : (u2 == v2) = false := by simpa using e2
                    subst e1
                    have hkp := HI.out.keep (by simpa using hlt2) (Lib.keeps_pos (by rw [arr_get HU.out, arr_get HV.out]; intro e; injection e with _ e; exact e2 e))
                    rw [arr_get HU.out, List.setIfInBounds_toArray] at hkp
                    have HN := Lib.hid hkp
                    clear hkp e2
                    go_wp2_with fail
                    go_region
                    clear q0 q1
                    have r0 := R0.out
                    have r1 := R1.out
                    have f0 := F0.out
                    have f1 := F1.out
                    go_wp2
                    exact ⟨⟨kk + 1, k2 + 1, _, by go_num, by go_num, by omega, by omega, HD.out.drew.set (by rw [HDS.out]; omega) u1 u2, HN.out, (((below_drew0 HB2.out).setCell (Nat.le_refl _) _).setCell (Nat.le_refl _) _)⟩, by simp [intOf]; omega⟩
                · have d5 : (u1 == v1) = false := by simpa using e1
                  have hkp := HI.out.keep (by simpa using hlt2) (Lib.keeps_pos (by rw [arr_get HU.out, arr_get HV.out]; intro e; injection e with e _; exact e1 e))
                  rw [arr_get HU.out, List.setIfInBounds_toArray] at hkp
                  have HN := Lib.hid hkp
                  clear hkp e1
                  go_wp2_with fail
                  go_region
                  clear q0 q1
                  have r0 := R0.out
                  have r1 := R1.out
                  have f0 := F0.out
                  have f1 := F1.out
                  go_wp2
                  exact ⟨⟨kk + 1, k2 + 1, _, by go_num, by go_num, by omega, by omega, HD.out.drew.set (by rw [HDS.out]; omega) u1 u2, HN.out, (((below_drew0 HB2.out).setCell (Nat.le_refl _) _).setCell (Nat.le_refl _) _)⟩, by simp [intOf]; omega⟩
              · have d7 : decide ((k2 : Int) < ((X.length - k : Nat) : Int)) = false := by rw [decide_eq_false_iff_not]; omega
                have hend : k + k2 = X.length := by omega
                have hI2 := HI.out
                rw [hend] at hI2
                have HT := Lib.hid (comp_take hI2)
                have HLN := Lib.hid hI2.len
                have hcl : ∀ ty, (Builtin.clear_ #[22] ty #[.slice (some ⟨g, kk * 2, none⟩) (X.length - kk) (c - kk)]).run Try.prog wr = .ok (.tuple #[]) (wr.setCells g (kk * 2) (List.replicate ((X.length - kk) * 2) (.int .i64 0))) :=
                  fun ty => run_clear_rec HD.out (by omega) (by rw [HDS.out]; omega) ty
                clear hI2 hend
                go_wp2
                go_ret
                rw [HLN.out]
                refine ⟨rfl, ?_, below_setCells_c (Nat.le_refl _) _ _ HB2.out⟩
                rw [HT.out]
                exact HD.out.cut _
          · have d5 : (x2 == y2) = false := by simpa using e2
            subst e1
            have HK := Lib.hid (Lib.keeps_pos (d := X.toArray) (m := k) (by rw [arr_get HX.out, arr_get HY.out]; intro e; injection e with _ e; exact e2 e))
            clear e2
            go_wp2_with fail
            go_region
            go_wp2
            exact ⟨⟨k + 1, by omega, by omega, by go_num, keeps_next HA.out HK.out, HR.out.drew, below_drew0 HB.out⟩, by simp [intOf]; omega⟩
        · have d5 : (x1 == y1) = false := by simpa using e1
          have HK := Lib.hid (Lib.keeps_pos (d := X.toArray) (m := k) (by rw [arr_get HX.out, arr_get HY.out]; intro e; injection e with e _; exact e1 e))
          clear e1
          go_wp2_with fail
          go_region
          go_wp2
          exact ⟨⟨k + 1, by omega, by omega, by go_num, keeps_next HA.out HK.out, HR.out.drew, below_drew0 HB.out⟩, by simp [intOf]; omega⟩
      · obtain rfl : k = X.length := by omega

        go_wp2
        go_ret
        rw [compact_same HA.out]
        exact ⟨rfl, HR.out, HB.out⟩
set_option maxRecDepth 100000 in
set_option maxHeartbeats 1000000 in
theorem compact_empty (A : Option Addr) (c : Nat) (w : World) :
    Calls Try.prog 74 #[.slice A 0 c] w fun e w' => e = .returned (.slice A 0 c) ∧ w = w' := by
  go_enter Try.func74, Try.ntmps74
  go_wp2
  go_ret
  exact ⟨rfl, rfl⟩
theorem HP.slp {w : World} {g : Nat} {l : List (Int × Int)} (h : HP w g l) (hg : g < w.heap.size) : SlP w g (some ⟨g, 0, none⟩) l := fun _ =>
  ⟨hg, 0, rfl, fun j u hj => by rw [Nat.zero_add]; exact (h j u hj).1⟩
set_option maxRecDepth 100000 in
set_option maxHeartbeats 1000000 in
theorem rc_distinct_ok (A : Option Addr) (h : Nat) (l : List (Int × Int)) (c : Nat) (w : World) (hl : SlP w h A l) (h0 : mayE l = 0) :
    Calls Try.prog 19 #[.slice A l.length c] w fun e w' => ∃ A' c', e = .returned (.tuple #[.slice A' (disR l).length c', .int .i64 0]) ∧ (∃ h', SlP w' h' A' (disR l)) ∧ Below w.heap.size w w' := by
  obtain ⟨-, hn⟩ := mayE_ok h0
  have P1 := Lib.hid (rc_sortH_any A h l c w hl h0)
  have hsl := Lib.hid (srt_length l)
  obtain ⟨D, hD⟩ : ∃ D, disR l = D := ⟨_, rfl⟩
  have HD := Lib.hid (show Lib.compactUpTo (srt l).toArray (srt l).length = D from hD)
  rw [hD]
  clear hl h0 hD
  go_enter Try.func19, Try.ntmps19
  go_wp2_with fail
  refine P1.out.mono ?_; rintro e w1 ⟨A', c', rfl, b1, hr⟩
  have HR := Lib.hid hr
  have B1 := Lib.hid b1
  clear hr b1 P1
  by_cases hz : l.length = 0
  · have hDn : D = [] := by
      rw [← HD.out, hsl.out, hz]
      rfl
    subst hDn
    rw [hz]
    clear hz hn
    go_wp2_with fail
    refine (compact_empty _ _ _).mono ?_; rintro e w2 ⟨rfl, rfl⟩
    go_wp2
    go_ret2
    exact ⟨A', c', rfl, ⟨0, SlP.nil _ _ _⟩, B1.out⟩
  · obtain ⟨g, rfl, hg, hgs, hp, hcc, hcm⟩ := HR.out (fun e => hz (by rw [← hsl.out, e]; rfl))
    have PC := compact_any g c' (srt l) w1 hp hgs hcc hcm (by rw [hsl.out]; omega)
    rw [HD.out, hsl.out] at PC
    have PC2 := Lib.hid PC
    have HG := Lib.hid hg
    have HS := Lib.hid hgs
    clear PC hp hcc hcm hz hn hg hgs
    go_wp2_with fail
    refine PC2.out.mono ?_; rintro e w2 ⟨rfl, hp2, b2⟩
    have B2 := Lib.hid (B1.out.trans (b2.mono HG.out))
    have HP2 := Lib.hid (hp2.slp (Nat.lt_of_lt_of_le HS.out b2.size))
    clear hp2 b2
    go_wp2
    go_ret2
    exact ⟨_, c', rfl, ⟨g, HP2.out⟩, B2.out⟩
set_option maxRecDepth 100000 in
set_option maxHeartbeats 1000000 in
theorem rc_distinct_no (A : Option Addr) (h : Nat) (l : List (Int × Int)) (c : Nat) (w : World) (hl : SlP w h A l) (hn : l.length ≤ 9223372036854775807) (h0 : mayE l ≠ 0) :
    Calls Try.prog 19 #[.slice A l.length c] w fun e w' => e = .returned (.tuple #[.slice none 0 0, .int .i64 (mayE l)]) ∧ Below w.heap.size w w' := by
  have P1 := Lib.hid (rc_sort_any A h l c w hl hn)
  have d1 : (mayE l == 0) = false := by simpa using h0
  have H0 := Lib.hid h0
  clear hl h0
  generalize mayE l = z at P1 d1 H0 ⊢
  go_enter Try.func19, Try.ntmps19
  go_wp2_with fail
  refine P1.out.mono ?_; rintro e w1 (⟨-, rfl, b1⟩ | ⟨hz, -⟩)
  · go_wp2
    go_ret2
    exact ⟨rfl, b1⟩
  · exact absurd hz H0.out
end Go.Proofs.Ytibhofdblfgkbaa
