/- Contracts of package moment: Front. -/
import Derived.Test.YtibhofdblfgkbaaFrB
namespace Go.Proofs.Ytibhofdblfgkbaa
open Go.RowKit Go.Sort

theorem wpList_appP {P : Program} (w : World) {ops : Array Oper} {rest : List Oper} {o : Oper} {a : Act} {Q : Exit → Act → World → Prop} (hgd : o.guard = none) (s x : Operand) (t : TypeId)
    (ho : o.op = .call { callee := .builtin .append, args := #[s, x], argTypes := #[t, t] })
    {e : TypeId} (ht : P.underlying t = some (.slice e)) (hinfo : (P.info? e).map (fun i => (i.zero, i.size, i.bytes)) = some (some (.agg #[.int .i64 0, .int .i64 0]), 2, 16))
    {base : Nat} {v : Value} {xs ys : List (Int × Int)} {n : Nat} (hown : w.ownsRow base e 2 v n (Prs xs)) {B : Nat} {A : Option Addr} {m : Nat} (hr : Reads w B 2 A m (Prs ys)) (c : Nat)
    (hs : a.eval s = v) (hx : a.eval x = .slice A m c) (hle : n + m ≤ 100000) (hbase : base ≤ w.heap.size)
    (h : ∀ A' c' w', w'.ownsRow base e 2 (.slice A' (n + m) c') (n + m) (Prs (xs ++ ys)) → Grew w w' v (.slice A' (n + m) c') → wpList P ops Q rest (a.put o.dst (.slice A' (n + m) c')) w') :
    wpList P ops Q (o :: rest) a w := by
  obtain ⟨i0, hi0, hzz⟩ := Option.map_eq_some_iff.1 hinfo
  simp only [Prod.mk.injEq] at hzz
  obtain ⟨hz0, hz1, hz2⟩ := hzz
  refine wpList_append_any w hgd s x t ho base e i0 _ 2 16 ht hi0 hz0 hz1 hz2 rfl (by omega) v n (Prs xs) hs hown B A m c (Prs ys) hx hr (Prs_one ys) (by unfold maxLen; omega) (by omega) hbase ?_
  intro v' w' h1 h2
  obtain ⟨A', c', rfl⟩ := own_form h1
  refine h A' c' w' ?_ h2
  rw [Prs_append]
  exact h1
theorem own_cap2 {w : World} {base e n c : Nat} {A : Option Addr} {xs : List Value} (h : w.ownsRow base e 2 (.slice A n c) n xs) : n ≤ c ∧ c ≤ maxLen := by
  rcases h.2 with ⟨hv, h0⟩ | ⟨g, cap, cur, hv, _, _, hnc, hcm, _, _⟩
  · injection hv with h1 h2 h3
    subst h2 h3
    exact ⟨Nat.le_refl _, by decide⟩
  · injection hv with h1 h2 h3
    subst h3
    exact ⟨hnc, hcm⟩
theorem reads_one (w : World) (x : Int × Int) (t : TypeId) : Reads (w.alloc (.cells #[.int .i64 x.1, .int .i64 x.2] t)) (w.heap.size + 1) 2 (some ⟨w.heap.size, 0, none⟩) 1 (Prs [x]) :=
  ⟨rfl, fun _ => ⟨_, rfl, Nat.lt_succ_self _, fun j u hu => by
    rw [Addr.add_lit, Nat.zero_add, (Blk.new w t _).cell j]
    match j, hu with
    | 0, hu => simpa [Prs, encP] using hu
    | 1, hu => simpa [Prs, encP] using hu
    | j + 2, hu => simp [Prs, encP] at hu⟩⟩
set_option maxHeartbeats 400000 in
theorem sortCopy_any (w : World) (l : List (Int × Int)) (A' : Option Addr) (c' : Nat) (w1 : World) (hn : l.length ≤ 1000)
    (hc : l ≠ [] → ∃ g cur, A' = some ⟨g, 0, none⟩ ∧ w.heap.size ≤ g ∧ w1.heap[g]? = some (.cells cur 65 (0, 0)) ∧ cur.toList.take (l.length * 2) = Prs l ∧ l.length ≤ c' ∧ c' ≤ maxLen) (hb : Below w.heap.size w w1) :
    Calls Try.prog 96 #[.slice A' l.length c', .func (.func 55) #[] #[]] w1 fun e w' => e = .returned (.tuple #[]) ∧ (∃ h, SlP w' h A' (sortMo l)) ∧ Below w.heap.size w w' := by
  by_cases h0 : l = []
  · subst h0
    refine (AnyF.slices_SortFunc_none Try.sortMo A' c' _ w1).mono ?_
    rintro e w' ⟨rfl, rfl⟩
    exact ⟨rfl, ⟨0, fun e => absurd (List.eq_nil_of_length_eq_zero (sortMo_length [])) e⟩, hb⟩
  · obtain ⟨g, cur, rfl, hg, hh, ht, hnc, hcm⟩ := hc h0
    refine (sortMo_any g c' cur l w1 hh ht hn).mono ?_
    rintro e w' ⟨rfl, hs, hb2⟩
    exact ⟨rfl, ⟨g, hs⟩, hb.trans (hb2 _ hg)⟩
theorem box_cell {wr w4 : World} {cs : Array Value} {t : TypeId} (b4 : Below (wr.alloc (.cells cs t)).heap.size (wr.alloc (.cells cs t)) w4) (i : Nat) (v : Value) (h : cs[i]? = some v) : w4.cell? ⟨wr.heap.size, i, none⟩ = some v :=
  (b4.cell (p := ⟨wr.heap.size, i, none⟩) (by rw [World.size_alloc]; exact Nat.lt_succ_self _)).trans (((Blk.new wr t cs).cell i).trans h)
theorem frontS_nil (m : Int × Int) : frontS [] m = [m] := rfl
theorem foldl_take (S : List (Int × Int)) (k : Nat) (x : Int × Int) (h : S[k]? = some x) : (S.take (k + 1)).foldl frontS [] = frontS ((S.take k).foldl frontS []) x := by
  rw [List.take_add_one, h, List.foldl_append]; rfl
theorem frontS_length (F : List (Int × Int)) (m : Int × Int) : (frontS F m).length ≤ F.length + 1 := by
  unfold frontS; split
  · omega
  · simp
theorem foldl_length (S : List (Int × Int)) (k : Nat) (hk : k ≤ S.length) : ((S.take k).foldl frontS []).length ≤ k := by
  induction k with
  | zero => simp
  | succ k ih =>
    rw [foldl_take S k S[k] (List.getElem?_eq_getElem (by omega))]
    have := frontS_length ((S.take k).foldl frontS []) S[k]
    have := ih (by omega)
    omega
theorem foldl_front (S : List (Int × Int)) (hs : S.Pairwise fun x y => ltM y x = false) (k : Nat) (hk : k ≤ S.length) : FrontIn (S.take k) ((S.take k).foldl frontS []) := by
  induction k with
  | zero => simpa using FrontIn.nil
  | succ k ih =>
    have hx := List.getElem?_eq_getElem (show k < S.length by omega)
    rw [foldl_take S k S[k] hx, List.take_add_one, hx]
    refine (ih (by omega)).step S[k] fun y hy => ?_
    rw [List.pairwise_iff_getElem] at hs
    obtain ⟨i, hi, e⟩ := List.getElem_of_mem hy
    rw [List.length_take] at hi
    rw [← e, List.getElem_take]
    exact hs i k (by omega) (by omega) (by omega)
def FrontAns (w : World) (l : List (Int × Int)) (e : Ending) (w' : World) : Prop :=
  Below w.heap.size w w' ∧ (((∃ x ∈ l, okMo x = false) ∧ e = .returned (.tuple #[.slice none 0 0, .int .i64 40])) ∨ ((∀ x ∈ l, okMo x = true) ∧ ∃ F, FrontOK l F ∧
    ((256 < F.length ∧ e = .returned (.tuple #[.slice none 0 0, .int .i64 31])) ∨ (F.length ≤ 256 ∧ ∃ A c h, e = .returned (.tuple #[.slice A F.length c, .int .i64 0]) ∧ SlP w' h A F ∧ F.length ≤ c ∧ c ≤ maxLen))))
set_option maxRecDepth 100000 in
set_option maxHeartbeats 2000000 in
theorem front_any (A : Option Addr) (h : Nat) (l : List (Int × Int)) (c : Nat) (w : World) (hl : SlP w h A l) (hn : l.length ≤ 300) :
    Calls Try.prog 59 #[.slice A l.length c] w (FrontAns w l) := by
  have eg : ∀ args w, (callFunc 93 args).run Try.prog w = .ok (.enter 93 args) w := enters_of Try.func93 (by kernel_rfl) rfl
  have P1 := Lib.hid (containsMo_any (fun x => !okMo x) 93 #[] eg A h l c w (wrong_pred w) hl (by omega))
  have HL := Lib.hid hl
  clear hl eg
  cases hw : (l.any fun x => !okMo x)
  · have hall : ∀ x ∈ l, okMo x = true := fun x hx => by
      have := List.any_eq_false.1 hw x hx
      simpa using this
    rw [hw] at P1
    have HALL := Lib.hid hall
    clear hall hw
    go_enter Try.func59, Try.ntmps59
    go_wp2_with fail
    refine P1.out.mono ?_; rintro e w0 ⟨rfl, b0⟩
    have P2 := Lib.hid (cloneMo_any A h l c w0 (HL.out.below b0) (by omega))
    have B0 := Lib.hid b0
    clear b0
    go_wp2_with fail
    refine P2.out.mono ?_; rintro e w1 ⟨A', c', rfl, b1, hc⟩
    have P3 := Lib.hid (sortCopy_any w0 l A' c' w1 (by omega) hc b1)
    clear hc b1
    go_wp2_with fail
    refine P3.out.mono ?_; rintro e w2 ⟨rfl, ⟨hS, sS⟩, b2⟩
    have B2 := Lib.hid (below_trans B0.out b2)
    have HSS := Lib.hid sS
    have hsl := sortMo_length l
    have hsrt := sortMo_sorted l
    have hmem := sortMo_mem l
    generalize sortMo l = S at HSS hsl hsrt hmem
    have HSL := Lib.hid hsl
    have HSRT := Lib.hid hsrt
    have HMEM := Lib.hid hmem
    clear sS b2 hsl hsrt hmem
    go_wp2_with fail
    go_loopw [6, 19] (fun f k wr => ∃ (kk : Nat) (A1 : Option Addr) (c1 : Nat), kk ≤ l.length ∧ k = .int .i64 (kk : Int) ∧ f = .slice A1 ((S.take kk).foldl frontS []).length c1 ∧ wr.ownsRow w2.heap.size 65 2 f ((S.take kk).foldl frontS []).length (Prs ((S.take kk).foldl frontS [])) ∧ Below w2.heap.size w2 wr) (fun _ k _ => l.length - (intOf k).toNat)
    case atStart => exact ⟨0, none, 0, by omega, rfl, rfl, World.ownsRow_nil _ _ _ _, Below.refl _ _⟩
    case round =>
      obtain ⟨kk, A1, c1, hkk, rfl, rfl, ho, hb⟩ := hrel
      have HO := Lib.hid ho
      have HB := Lib.hid hb
      clear ho hb
      by_cases hlt : kk < l.length
      · obtain ⟨m, hm⟩ : ∃ m, S[kk]? = some m := ⟨S[kk]'(by rw [HSL.out]; exact hlt), List.getElem?_eq_getElem _⟩
        have hF := foldl_take S kk m hm
        have hFl := foldl_length S kk (by rw [HSL.out]; omega)
        obtain ⟨hlt2, off, hA', k0, k1⟩ := (HSS.out.below HB.out).at_ hm
        subst hA'
        have HM := Lib.hid hm
        clear hm
        generalize (S.take kk).foldl frontS [] = F at HO hF hFl
        have HF := Lib.hid hF
        clear hF
        obtain ⟨m1, m2⟩ := m
        simp only at k0 k1
        have HBX := Lib.hid (alloc_below wr (.cells #[.int .i64 m1, .int .i64 m2] 65))
        by_cases hF0 : F = []
        · subst hF0
          have hmax : max (0 : Int) (-1) = 0 := rfl
          have PC := Lib.hid (fun X Y W => covers_any X 0 [] Y m1 m2 W (SlP.nil _ _ _) (by simp))
          have E1 := Lib.hid (show frontS [] (m1, m2) = [] ++ [(m1, m2)] from rfl)
          clear hFl
          simp only [List.length_nil] at HO PC ⊢
          go_wp2_with fail
          all_goals
            refine (PC.out _ _ _).mono ?_
            rintro e w4 ⟨rfl, b4⟩
            have B4 := Lib.hid (below_trans HBX.out b4)
            have q0 := box_cell b4 0 (.int .i64 m1) rfl
            have q1 := box_cell b4 1 (.int .i64 m2) rfl
            have HO4 := Lib.hid (World.ownsRow.alloc (own_below HO.out B4.out) (.cells #[.int .i64 m1, .int .i64 m2] 65))
            have HR4 := Lib.hid (reads_one w4 (m1, m2) 65)
            have hs4 : w2.heap.size ≤ (w4.alloc (.cells #[.int .i64 m1, .int .i64 m2] 65)).heap.size := by have h1 := HB.out.size; have h2 := B4.out.size; rw [World.size_alloc]; omega
            have HS4 := Lib.hid hs4
            clear b4 hs4
            go_wp2_with (at_builtin; (refine wpList_appP _ rfl (.tmp 33) (.tmp 35) _ rfl Try.underlying72 info_mo3 HO4.out HR4.out 1 rfl rfl (by omega) HS4.out ?_); intro A5 c5 w5 o5 gr5; have O5 := Lib.hid o5; have G5 := Lib.hid gr5; clear o5 gr5)
            have B5 := Lib.hid (((HB.out.trans (B4.out.mono HB.out.size)).alloc (by have h1 := HB.out.size; have h2 := B4.out.size; omega) (.cells #[.int .i64 m1, .int .i64 m2] 65)).grown (Grew.by_ G5.out) HS4.out fun i hi => (World.ownsRow.lt HO4.out i hi).1)
            refine ⟨⟨kk + 1, A5, c5, by omega, by go_num, ?_, ?_, B5.out⟩, by simp [intOf]; omega⟩
            · rw [HF.out, E1.out]; rfl
            · rw [HF.out, E1.out]; exact O5.out
        · have hpos : 0 < F.length := List.length_pos_iff.2 hF0
          have hmax : max (0 : Int) ((F.length : Int) - 1) = ((F.length - 1 : Nat) : Int) := by omega
          have hne : ¬ c1 = F.length - 1 := by have := (own_cap2 HO.out).1; omega
          obtain ⟨gF, -, sF, -, -, hFc, -⟩ := SlP.of_own HO.out
          have PC := Lib.hid (fun W (b : Below wr.heap.size wr W) => covers_any _ gF (F.drop (F.length - 1)) (c1 - (F.length - 1)) m1 m2 W ((sF.below b).drop hFc) (by rw [List.length_drop]; omega))
          rw [if_neg hne] at PC
          simp only [List.length_drop] at PC
          clear sF hFc
          cases hr : ((F.drop (F.length - 1)).any fun x => aheadM x (m1, m2))
          · have E1 := Lib.hid (show frontS F (m1, m2) = F ++ [(m1, m2)] by unfold frontS; rw [if_neg (by rw [hr]; decide)])
            rw [hr] at PC
            clear hr
            go_wp2_with fail
            refine (PC.out _ HBX.out).mono ?_
            rintro e w4 ⟨rfl, b4⟩
            have B4 := Lib.hid (below_trans HBX.out b4)
            have q0 := box_cell b4 0 (.int .i64 m1) rfl
            have q1 := box_cell b4 1 (.int .i64 m2) rfl
            have HO4 := Lib.hid (World.ownsRow.alloc (own_below HO.out B4.out) (.cells #[.int .i64 m1, .int .i64 m2] 65))
            have HR4 := Lib.hid (reads_one w4 (m1, m2) 65)
            have hs4 : w2.heap.size ≤ (w4.alloc (.cells #[.int .i64 m1, .int .i64 m2] 65)).heap.size := by have h1 := HB.out.size; have h2 := B4.out.size; rw [World.size_alloc]; omega
            have HS4 := Lib.hid hs4
            clear b4 hs4
            go_wp2_with (at_builtin; (refine wpList_appP _ rfl (.tmp 33) (.tmp 35) _ rfl Try.underlying72 info_mo3 HO4.out HR4.out 1 rfl rfl (by omega) HS4.out ?_); intro A5 c5 w5 o5 gr5; have O5 := Lib.hid o5; have G5 := Lib.hid gr5; clear o5 gr5)
            have B5 := Lib.hid (((HB.out.trans (B4.out.mono HB.out.size)).alloc (by have h1 := HB.out.size; have h2 := B4.out.size; omega) (.cells #[.int .i64 m1, .int .i64 m2] 65)).grown (Grew.by_ G5.out) HS4.out fun i hi => (World.ownsRow.lt HO4.out i hi).1)
            have e5 : (F ++ [(m1, m2)]).length = F.length + 1 := by simp
            refine ⟨⟨kk + 1, A5, c5, by omega, by go_num, ?_, ?_, B5.out⟩, by simp [intOf]; omega⟩
            · rw [HF.out, E1.out, e5]
            · rw [HF.out, E1.out, e5]; exact O5.out
          · have E1 := Lib.hid (show frontS F (m1, m2) = F by unfold frontS; rw [if_pos hr])
            rw [hr] at PC
            clear hr
            go_wp2_with fail
            refine (PC.out _ HBX.out).mono ?_
            rintro e w4 ⟨rfl, b4⟩
            have B4 := Lib.hid (below_trans HBX.out b4)
            clear b4
            go_wp2
            refine ⟨⟨kk + 1, A1, c1, by omega, by go_num, by rw [HF.out, E1.out], ?_, HB.out.trans (B4.out.mono HB.out.size)⟩, by simp [intOf]; omega⟩
            rw [HF.out, E1.out]
            exact own_below HO.out B4.out
      · obtain rfl : kk = l.length := by omega
        have hfr := foldl_front S HSRT.out S.length (Nat.le_refl _)
        have hfl := foldl_length S S.length (Nat.le_refl _)
        rw [List.take_length] at hfr hfl
        have htk : S.take l.length = S := by rw [← HSL.out, List.take_length]
        rw [htk] at HO ⊢
        have hok := hfr.ok HMEM.out
        generalize S.foldl frontS [] = F at HO hok hfl
        have HOK := Lib.hid hok
        have B6 := Lib.hid (below_trans B2.out HB.out)
        clear hok hfr htk
        rw [HSL.out] at hfl
        by_cases h256 : 256 < F.length
        · have d1 : decide ((256 : Int) < (F.length : Int)) = true := by simp; omega
          go_wp2
          go_ret2
          exact ⟨B6.out, .inr ⟨HALL.out, F, HOK.out, .inl ⟨h256, rfl⟩⟩⟩
        · have d1 : decide ((256 : Int) < (F.length : Int)) = false := by simp; omega
          go_wp2
          go_ret2
          obtain ⟨gF, -, sF, -, -, hFc, hFm⟩ := SlP.of_own HO.out
          exact ⟨B6.out, .inr ⟨HALL.out, F, HOK.out, .inr ⟨by omega, A1, c1, gF, rfl, sF, hFc, hFm⟩⟩⟩
  · have hex : ∃ x ∈ l, okMo x = false := by
      obtain ⟨x, hx, h2⟩ := List.any_eq_true.1 hw
      exact ⟨x, hx, by simpa using h2⟩
    rw [hw] at P1
    clear hw
    have HEX := Lib.hid hex
    clear hex
    go_enter Try.func59, Try.ntmps59
    go_wp2_with fail
    refine P1.out.mono ?_; rintro e w0 ⟨rfl, b0⟩
    go_wp2
    go_ret2
    exact ⟨b0, .inl ⟨HEX.out, rfl⟩⟩
end Go.Proofs.Ytibhofdblfgkbaa
