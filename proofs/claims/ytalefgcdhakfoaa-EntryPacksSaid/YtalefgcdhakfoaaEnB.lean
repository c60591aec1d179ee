/- Contracts of package entry: may, chosen, At, Behind, of both. -/
import Derived.Test.YtalefgcdhakfoaaEnA
import Derived.Test.YtalefgcdhakfoaaFrC
import Derived.Test.YtalefgcdhakfoaaReB
namespace Go.Proofs.Ytalefgcdhakfoaa
open Go.RowKit Go.Sort Go.Shelf

theorem info_en3 : (Try.prog.info? 98).map (fun i => (i.zero, i.size, i.bytes)) = some (some (.agg #[.int .i64 0, .int .i64 0, .int .i64 0, .int .i64 0]), 4, 32) := by kernel_rfl
/-- A function of entries that answers a bool and touches nothing that is there, in every later world. -/
def PredB (g : Nat) (lb : Array Value) (p : En → Bool) (w : World) : Prop :=
  ∀ (W : World) (x : En), Below w.heap.size w W → Calls Try.prog g (#[enV x] ++ lb) W fun e W' => e = .returned (.bool (p x)) ∧ Below W.heap.size W W'
/-- A new row with these entries. -/
def EnRow (w : World) (l : List En) (e : Ending) (w' : World) : Prop :=
  ∃ A c, e = .returned (.slice A l.length c) ∧ w'.ownsRow w.heap.size 98 4 (.slice A l.length c) l.length (RowV encE l) ∧ Below w.heap.size w w'
set_option maxRecDepth 100000 in
set_option maxHeartbeats 2000000 in
theorem chosen_any (p : En → Bool) (g B : Nat) (eg : ∀ args w, (callFunc g args).run Try.prog w = .ok (.enter g args) w) (A : Option Addr) (h : Nat) (l : List En) (c : Nat) (w : World) (hl : SlK encE w h A l) (hbig : l.length ≤ 100000)
    (hp : PredB g #[.pointer (some ⟨B, 0, none⟩)] p w) :
    Calls Try.prog 79 #[.slice A l.length c, .func (.func g) #[] #[.pointer (some ⟨B, 0, none⟩)]] w (EnRow w (l.filter p)) := by
  have HL := Lib.hid hl
  have HP := Lib.hid hp
  clear hl hp
  go_enter Try.func79, Try.ntmps79
  go_wp2_with fail
  go_loopw [5, 10] (fun s i wr => ∃ (k : Nat) (A2 : Option Addr) (c2 : Nat), k ≤ l.length ∧ i = .int .i64 (k : Int) ∧ s = .slice A2 ((l.take k).filter p).length c2 ∧ wr.ownsRow w.heap.size 98 4 s ((l.take k).filter p).length (RowV encE ((l.take k).filter p)) ∧ Below w.heap.size w wr) (fun _ i _ => l.length - (intOf i).toNat)
  case atStart => exact ⟨0, none, 0, Nat.zero_le _, rfl, rfl, own_nil_k layE _ _ _, Below.refl _ _⟩
  case round =>
    obtain ⟨k, A2, c2, hk, rfl, rfl, ho, hb⟩ := hrel
    have HO := Lib.hid ho
    have HB := Lib.hid hb
    clear ho hb
    by_cases hlt : k < l.length
    · have hea := List.getElem?_eq_getElem hlt
      obtain ⟨-, off, rfl, hc⟩ := (HL.out.below HB.out).at_ layE hea
      have htk : l.take (k + 1) = l.take k ++ [l[k]] := by rw [List.take_add_one, hea]; rfl
      obtain ⟨x, hx⟩ : ∃ x, x = l[k] := ⟨_, rfl⟩
      rw [← hx] at hc htk
      obtain ⟨⟨a, b⟩, c', d⟩ := x
      have q0 := hc 0 _ rfl
      have q1 := hc 1 _ rfl
      have q2 := hc 2 _ rfl
      have q3 := hc 3 _ rfl
      rw [Nat.add_zero] at q0
      have HT := Lib.hid htk
      have B1 := Lib.hid (alloc_below wr (.cells #[.int .i64 a, .int .i64 b, .int .i64 c', .int .i64 d] 98))
      have HX := Lib.hid (EnBox.new wr ((a, b), (c', d)) 98)
      have P1 := Lib.hid (HP.out _ ((a, b), (c', d)) (HB.out.trans (B1.out.mono HB.out.size)))
      clear hea hx htk hc
      go_wp2_with fail
      refine P1.out.mono ?_; rintro e w1 ⟨rfl, b1⟩
      clear q0 q1 q2 q3
      obtain ⟨q0, q1, q2, q3⟩ := (HX.out.below b1).four
      have B2 := Lib.hid (below_trans B1.out b1)
      have BW := Lib.hid (HB.out.trans (B2.out.mono HB.out.size))
      have HO2 := Lib.hid (own_below HO.out B2.out)
      obtain ⟨q, hq⟩ : ∃ q, q = p ((a, b), (c', d)) := ⟨_, rfl⟩
      rw [← hq]
      have hf : (l.take (k + 1)).filter p = (l.take k).filter p ++ (if q then [((a, b), (c', d))] else []) := by
        rw [HT.out, List.filter_append, hq]
        congr 1
        rw [List.filter_cons, List.filter_nil]
      have hlen : ((l.take k).filter p).length ≤ 100000 := Nat.le_trans (List.length_filter_le ..) (by rw [List.length_take]; omega)
      have HF := Lib.hid hf
      clear hq hf b1 P1
      obtain ⟨ys, hys⟩ : ∃ ys, ys = (l.take k).filter p := ⟨_, rfl⟩
      rw [← hys] at HF HO2 hlen
      have HYS := Lib.hid hys
      rw [← hys]
      clear hys HO
      cases q
      · go_wp2
        have hf := HF.out
        rw [if_neg (by decide), List.append_nil] at hf
        exact ⟨⟨k + 1, A2, c2, by omega, by go_num, by rw [hf], by rw [hf]; exact HO2.out, BW.out⟩, by simp [intOf]; omega⟩
      · have HR := Lib.hid (reads_oneK layE w1 ((a, b), (c', d)) 98)
        have HOA := Lib.hid (World.ownsRow.alloc HO2.out (.cells (encE ((a, b), (c', d))).toArray 98))
        have BWA := Lib.hid (BW.out.alloc BW.out.size (.cells (encE ((a, b), (c', d))).toArray 98))
        go_wp2_with (at_builtin; (refine wpList_appK layE (ys := [((a, b), (c', d))]) _ rfl (.tmp 17) (.tmp 19) _ rfl Try.underlying54 info_en3 rfl HOA.out HR.out 1 rfl rfl (by omega) (by decide) BWA.out.size ?_); intro A5 c5 w5 o5 gr5; have O5 := Lib.hid o5; have B5 := Lib.hid (show Below w.heap.size w w5 from BWA.out.grown (Grew.by_ gr5) BWA.out.size fun i hi => (World.ownsRow.lt HOA.out i hi).1); clear o5 gr5)
        have hf := HF.out
        rw [if_pos trivial] at hf
        exact ⟨⟨k + 1, A5, c5, by omega, by go_num, by rw [hf, List.length_append]; rfl, by rw [hf, List.length_append]; exact O5.out, B5.out⟩, by simp [intOf]; omega⟩
    · obtain rfl : k = l.length := by omega
      have ho := HO.out
      rw [List.take_length] at ho ⊢
      have HO := Lib.hid ho
      clear ho
      go_wp2
      go_ret
      exact ⟨A2, c2, rfl, HO.out, HB.out⟩
/-- At's function: is the entry at that moment? -/
theorem at1_any (m : Int × Int) (B : Nat) (w : World) (hB : B < w.heap.size) (h0 : w.cell? ⟨B, 0, none⟩ = some (.int .i64 m.1)) (h1 : w.cell? ⟨B, 1, none⟩ = some (.int .i64 m.2)) :
    PredB 80 #[.pointer (some ⟨B, 0, none⟩)] (fun x => x.1 == m) w := fun W x hb => by
  have k0 : W.cell? ⟨B, 0, none⟩ = some (.int .i64 m.1) := (hb.cell (p := ⟨B, 0, none⟩) hB).trans h0
  have k1 : W.cell? ⟨B, 1, none⟩ = some (.int .i64 m.2) := (hb.cell (p := ⟨B, 1, none⟩) hB).trans h1
  have hBW : B < W.heap.size := Nat.lt_of_lt_of_le hB hb.size
  have hne : B ≠ W.heap.size := by omega
  have he : (x.1 == m) = ((x.1.1 == m.1) && (x.1.2 == m.2)) := rfl
  show Calls Try.prog 80 #[enV x, .pointer (some ⟨B, 0, none⟩)] W fun e W' => e = .returned (.bool (x.1 == m)) ∧ Below W.heap.size W W'
  rw [he]
  generalize hq1 : (x.1.1 == m.1) = q1
  generalize hq2 : (x.1.2 == m.2) = q2
  have HB := Lib.hid (EnBox.new W x 98)
  have b1 := Lib.hid (alloc_below W (.cells (encE x).toArray 98))
  unfold enV
  clear hb h0 h1 he
  cases q1 <;> cases q2
  all_goals
    go_enter Try.func80, Try.ntmps80
    go_wp2
    go_ret
    exact ⟨rfl, b1.out⟩
/-- Behind's function: is the entry's moment covered? -/
theorem behind1_any (F : Option Addr) (hf : Nat) (f : List (Int × Int)) (cf : Nat) (B : Nat) (w : World) (hF : SlP w hf F f) (hbig : f.length ≤ 100000) (hB : B < w.heap.size) (h0 : w.cell? ⟨B, 0, none⟩ = some (.slice F f.length cf)) :
    PredB 81 #[.pointer (some ⟨B, 0, none⟩)] (fun x => f.any fun y => aheadM y x.1) w := fun W x hb => by
  have k0 : W.cell? ⟨B, 0, none⟩ = some (.slice F f.length cf) := (hb.cell (p := ⟨B, 0, none⟩) hB).trans h0
  have hBW : B < W.heap.size := Nat.lt_of_lt_of_le hB hb.size
  have hne : B ≠ W.heap.size := by omega
  show Calls Try.prog 81 #[enV x, .pointer (some ⟨B, 0, none⟩)] W fun e W' => e = .returned (.bool (f.any fun y => aheadM y x.1)) ∧ Below W.heap.size W W'
  have b1 := Lib.hid (alloc_below W (.cells (encE x).toArray 98))
  have P := Lib.hid (covers_any F hf f cf x.1.1 x.1.2 (W.alloc (.cells (encE x).toArray 98)) ((hF.keep hb.size fun hh => hb.block hf hh).below b1.out) (by omega))
  have e1 : ((x.1.1, x.1.2) : Int × Int) = x.1 := rfl
  rw [e1] at P
  generalize (f.any fun y => aheadM y x.1) = q at P ⊢
  unfold enV
  clear hb h0 hF e1
  go_enter Try.func81, Try.ntmps81
  go_wp2_with fail
  refine P.out.mono ?_; rintro e w' ⟨rfl, b2⟩
  go_wp2
  go_ret
  exact ⟨rfl, below_trans b1.out b2⟩
/-- Records in a new row. -/
def RecRow (w : World) (l : List (Int × Int)) (e : Ending) (w' : World) : Prop :=
  ∃ A c, e = .returned (.slice A l.length c) ∧ w'.ownsRow w.heap.size 96 2 (.slice A l.length c) l.length (Prs l) ∧ Below w.heap.size w w'
theorem own_form2 {w : World} {base e n c : Nat} {A : Option Addr} {l : List En} (h : w.ownsRow base e 4 (.slice A n c) n (RowV encE l)) : ∃ g, base ≤ g ∧ SlK encE w g A l ∧ n ≤ c ∧ c ≤ maxLen := by
  obtain ⟨g, h1, h2, -, -, h3, h4⟩ := SlK.of_own layE h
  exact ⟨g, h1, h2, h3, h4⟩
set_option maxRecDepth 100000 in
set_option maxHeartbeats 2000000 in
theorem en_at_any (A : Option Addr) (h : Nat) (l : List En) (c : Nat) (m : Int × Int) (w : World) (hl : SlK encE w h A l) (hbig : l.length ≤ 100000) :
    Calls Try.prog 56 #[.slice A l.length c, .agg #[.int .i64 m.1, .int .i64 m.2]] w (RecRow w ((l.filter fun x => x.1 == m).map (·.2))) := by
  have b0 := alloc_below w (.cells #[.int .i64 m.1, .int .i64 m.2] 94)
  have kb := Blk.new w 94 #[.int .i64 m.1, .int .i64 m.2]
  have P1 := Lib.hid (chosen_any (fun x => x.1 == m) 80 w.heap.size (enters_of Try.func80 (by kernel_rfl) rfl) A h l c (w.alloc (.cells #[.int .i64 m.1, .int .i64 m.2] 94)) (hl.below b0) hbig (at1_any m w.heap.size _ (by simp) (kb.cell 0) (kb.cell 1)))
  have B0 := Lib.hid b0
  have hfl : (l.filter fun x => x.1 == m).length ≤ 100000 := Nat.le_trans (List.length_filter_le ..) hbig
  generalize (l.filter fun x => x.1 == m) = r at P1 hfl ⊢
  unfold EnRow at P1
  clear b0 kb hl
  go_enter Try.func56, Try.ntmps56
  go_wp2_with fail
  refine P1.out.mono ?_; rintro e w1 ⟨A1, c1, rfl, o1, b1⟩
  obtain ⟨g1, -, s1, -, -⟩ := own_form2 o1
  have B1 := Lib.hid (below_trans B0.out b1)
  have S1 := Lib.hid s1
  clear o1 b1 s1 P1
  go_wp2_with fail
  go_loopw [5, 12] (fun s i wr => ∃ (k : Nat) (A2 : Option Addr) (c2 : Nat), k ≤ r.length ∧ i = .int .i64 (k : Int) ∧ s = .slice A2 k c2 ∧ wr.ownsRow w1.heap.size 96 2 s k (Prs ((r.take k).map (·.2))) ∧ Below w1.heap.size w1 wr) (fun _ i _ => r.length - (intOf i).toNat)
  case atStart => exact ⟨0, none, 0, Nat.zero_le _, rfl, rfl, World.ownsRow_nil _ _ _ _, Below.refl _ _⟩
  case round =>
    obtain ⟨k, A2, c2, hk, rfl, rfl, ho, hb⟩ := hrel
    have HO := Lib.hid ho
    have HB := Lib.hid hb
    clear ho hb
    by_cases hlt : k < r.length
    · have hea := List.getElem?_eq_getElem hlt
      obtain ⟨-, off, rfl, hc⟩ := (S1.out.below HB.out).at_ layE hea
      have htk : (r.take (k + 1)).map (·.2) = (r.take k).map (·.2) ++ [r[k].2] := by rw [List.take_add_one, hea, List.map_append]; rfl
      obtain ⟨x, hx⟩ : ∃ x, x = r[k] := ⟨_, rfl⟩
      rw [← hx] at hc htk
      obtain ⟨⟨a, b⟩, c', d⟩ := x
      have q0 := hc 0 _ rfl
      have q1 := hc 1 _ rfl
      have q2 := hc 2 _ rfl
      have q3 := hc 3 _ rfl
      rw [Nat.add_zero] at q0
      have HT := Lib.hid htk
      have HOA := Lib.hid (World.ownsRow.alloc (World.ownsRow.alloc HO.out (.cells #[.int .i64 a, .int .i64 b, .int .i64 c', .int .i64 d] 98)) (.cells #[.int .i64 c', .int .i64 d] 96))
      have BWA := Lib.hid ((HB.out.alloc HB.out.size (.cells #[.int .i64 a, .int .i64 b, .int .i64 c', .int .i64 d] 98)).alloc (by rw [World.size_alloc]; have := HB.out.size; omega) (.cells #[.int .i64 c', .int .i64 d] 96))
      have HR := Lib.hid (reads_one (wr.alloc (.cells #[.int .i64 a, .int .i64 b, .int .i64 c', .int .i64 d] 98)) (c', d) 96)
      clear hea hx htk hc
      go_wp2_with (at_builtin; (refine wpList_appP (ys := [(c', d)]) _ rfl (.tmp 16) (.tmp 19) _ rfl Try.underlying102 info_rec3 HOA.out HR.out 1 rfl (by first | rfl | (rw [World.size_alloc]; rfl)) (by omega) BWA.out.size ?_); intro A5 c5 w5 o5 gr5; have O5 := Lib.hid o5; have B5 := Lib.hid (show Below w1.heap.size w1 w5 from BWA.out.grown (Grew.by_ gr5) BWA.out.size fun i hi => (World.ownsRow.lt HOA.out i hi).1); clear o5 gr5)
      exact ⟨⟨k + 1, A5, c5, by omega, by go_num, rfl, by rw [HT.out]; exact O5.out, B5.out⟩, by simp [intOf]; omega⟩
    · obtain rfl : k = r.length := by omega
      have ho := HO.out
      rw [List.take_length] at ho
      have HO := Lib.hid ho
      clear ho
      go_wp2
      go_ret
      refine ⟨A2, c2, by rw [List.length_map]; rfl, ?_, below_trans B1.out HB.out⟩
      rw [List.length_map]
      exact own_mono HO.out B1.out.size
theorem en_behind_any (A : Option Addr) (h : Nat) (l : List En) (c : Nat) (F : Option Addr) (hf : Nat) (f : List (Int × Int)) (cf : Nat) (w : World) (hl : SlK encE w h A l) (hbig : l.length ≤ 100000) (hF : SlP w hf F f) (hfb : f.length ≤ 100000) :
    Calls Try.prog 57 #[.slice A l.length c, .slice F f.length cf] w (EnRow w (l.filter fun x => f.any fun y => aheadM y x.1)) := by
  have b0 := alloc_below w (.cells #[.slice F f.length cf] 105)
  have kb := Blk.new w 105 #[.slice F f.length cf]
  have P1 := Lib.hid (chosen_any (fun x => f.any fun y => aheadM y x.1) 81 w.heap.size (enters_of Try.func81 (by kernel_rfl) rfl) A h l c (w.alloc (.cells #[.slice F f.length cf] 105)) (hl.below b0) hbig (behind1_any F hf f cf w.heap.size _ (hF.below b0) hfb (by simp) (kb.cell 0)))
  have B0 := Lib.hid b0
  generalize (l.filter fun x => f.any fun y => aheadM y x.1) = r at P1 ⊢
  unfold EnRow at P1
  clear b0 kb hl hF
  go_enter Try.func57, Try.ntmps57
  go_wp2_with fail
  refine P1.out.mono ?_; rintro e w1 ⟨A1, c1, rfl, o1, b1⟩
  have O1 := Lib.hid o1
  have B1 := Lib.hid (below_trans B0.out b1)
  clear o1 b1 P1
  go_wp2
  go_ret
  exact ⟨A1, c1, rfl, own_mono O1.out B0.out.size, B1.out⟩
end Go.Proofs.Ytalefgcdhakfoaa
