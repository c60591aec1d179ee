/- Contracts of the document's entries: Unpack. -/
import Derived.Test.YtfilelgbffbnlaaEnH
namespace Go.Proofs.Ytfilelgbffbnlaa
open Go.RowKit Go.Sort

def RUnpAns (w : World) (z : Option (List En)) (e : Ending) (w' : World) : Prop :=
  (z = none ∧ e = .returned (.tuple #[.slice none 0 0, .bool false]) ∧ Below w.heap.size w w') ∨
    ∃ l A' c', z = some l ∧ e = .returned (.tuple #[.slice A' l.length c', .bool true]) ∧ RowE w l A' c' w'
theorem rd_new (w : World) (A : Option Addr) (h : Nat) (b : List UInt8) (c : Nat) (s : SlB w h A b) (hc : b.length ≤ c) (hm : c ≤ maxLen) :
    ∃ h', (b ≠ [] → h' < w.heap.size) ∧ RdAt 137 (w.alloc (.cells #[.slice A b.length c, .bool false] 137)) w.heap.size h' (some b) := by
  by_cases hb : b = []
  · subst hb
    exact ⟨w.heap.size + 1, fun h => absurd rfl h, A, c, [], Blk.new w _ _, by omega, hc, hm, SlB.nil _ _ _, fun r hr => by injection hr with hr; exact hr.symm⟩
  · have hlt := s.lt hb
    exact ⟨h, fun _ => hlt, A, c, b, Blk.new w _ _, by omega, hc, hm, s.below (alloc_below w _) fun h => h, fun r hr => by injection hr with hr; exact hr.symm⟩
theorem rd_some {T : TypeId} {w : World} {g h : Nat} {l : List UInt8} (r : RdAt T w g h (some l)) : ∃ A c, w.cell? ⟨g, 0, none⟩ = some (.slice A l.length c) ∧ w.cell? ⟨g, 1, none⟩ = some (.bool false) := by
  obtain ⟨A, c, l', hb, -, -, -, -, hr⟩ := r
  have := hr l rfl
  subst this
  exact ⟨A, c, hb.cell 0, hb.cell 1⟩
theorem own_caps {w : World} {base e n c : Nat} {A : Option Addr} {xs : List Value} (h : w.ownsRow base e 1 (.slice A n c) n xs) : n ≤ c ∧ c ≤ maxLen := by
  rcases h.2 with ⟨hv, h0⟩ | ⟨g, cap, cur, hv, hb, hh, hnc, hcm, hcs, ht⟩
  · injection hv with h1 h2 h3
    subst h2 h3
    exact ⟨Nat.le_refl _, by decide⟩
  · injection hv with h1 h2 h3
    subst h3
    exact ⟨hnc, hcm⟩
theorem own_emptyB (w : World) (t : TypeId) : (w.alloc (.cells #[] t)).ownsRow w.heap.size t 1 (.slice (some ⟨w.heap.size, 0, none⟩) 0 0) 0 (Byt []) :=
  ⟨by simp [Byt], .inr ⟨w.heap.size, 0, #[], rfl, Nat.le_refl _, heap_alloc_new w _, Nat.le_refl _, by decide, by simp, by simp [Byt]⟩⟩
set_option maxRecDepth 100000 in
set_option maxHeartbeats 4000000 in
theorem ren_unpack_any (A : Option Addr) (h : Nat) (b : List UInt8) (c : Nat) (w : World) (hl : SlB w h A b) (hn : b.length ≤ 43) :
    Calls Try.prog 45 #[.slice A b.length c] w (RUnpAns w (unpM b)) := by
  have ba := alloc_below w (.cells #[] 5)
  have HO0 := Lib.hid (own_emptyB w 5)
  have HR0 := Lib.hid ((hl.below ba fun h => h).reads (n := b.length) rfl)
  have BA := Lib.hid ba
  obtain ⟨Z, hZ⟩ : ∃ Z, unpM b = Z := ⟨_, rfl⟩
  rw [hZ]
  have HZ := Lib.hid hZ
  have HS0 := Lib.hid (show w.heap.size ≤ (w.alloc (.cells #[] 5)).heap.size from ba.size)
  clear hl hZ ba
  go_enter Try.func45, Try.ntmps45
  go_wp2_with (at_builtin; (refine wpList_appB (xs := []) (ys := b) _ rfl (.tmp 10) (.tmp 11) _ rfl Try.underlying30 info_b HO0.out HR0.out c rfl rfl (by omega) HS0.out ?_); intro A1 c1 w1 o1 gr1; have O1 := Lib.hid o1; have G1 := Lib.hid (Grew.by_ gr1); clear o1 gr1)
  have o1 := O1.out
  rw [Nat.zero_add, List.nil_append] at o1
  obtain ⟨h0, -, s0, -⟩ := SlB.of_own o1
  obtain ⟨hnc, hcm⟩ := own_caps o1
  obtain ⟨h1, hh1, r1⟩ := rd_new w1 A1 h0 b c1 s0 hnc hcm
  have b1 : Below w.heap.size w w1 := BA.out.grown G1.out BA.out.size fun i hi => (World.ownsRow.lt HO0.out i hi).1
  have b2 := b1.alloc b1.size (.cells #[.slice A1 b.length c1, .bool false] 137)
  have hgl := r1.lt
  have hg : w.heap.size ≤ w1.heap.size := b1.size
  obtain ⟨w2, hw2⟩ : ∃ w2, w2 = w1.alloc (.cells #[.slice A1 b.length c1, .bool false] 137) := ⟨_, rfl⟩
  have hsz : w2.heap.size = w1.heap.size + 1 := by rw [hw2, World.size_alloc]
  have hh : 0 < b.length → h1 < w2.heap.size := fun h0 => by have := hh1 (fun e => by rw [e] at h0; exact absurd h0 (by decide)); omega
  rw [show w1.alloc (.cells #[.slice A1 b.length c1, .bool false] 137) = w2 from hw2.symm] at r1 b2 hgl ⊢
  generalize hgg : w1.heap.size = g at r1 hgl hg hsz ⊢
  have R2 := Lib.hid r1
  have B2 := Lib.hid b2
  clear r1 b1 b2 s0 o1 hnc hcm hh1 hw2 hgg hsz O1 G1 HO0 HR0 HS0 BA
  go_loopw [5] (fun v wr => ∃ (lk : List En) (l : List UInt8) (A3 : Option Addr) (c3 : Nat), v = .slice A3 lk.length c3 ∧ l.length + lk.length ≤ b.length ∧ wr.ownsRow w2.heap.size 60 4 v lk.length (RowV encE lk) ∧ RdAt 137 wr g h1 (some l) ∧ unpM b = (unpL (b.length - lk.length) (some l)).map (fun y => lk ++ y) ∧ w2.heap.size ≤ wr.heap.size ∧ Below w.heap.size w wr) (fun v _ => b.length - slNE v)
  case atStart => exact ⟨[], b, none, 0, rfl, Nat.le_refl _, own_nil_k layE _ _ _, R2.out, by simp [unpM], Nat.le_refl _, B2.out⟩
  case round =>
    obtain ⟨lk, l, A3, c3, rfl, hlk, ho, hr, hd, hs3, hb⟩ := hrel
    have HO := Lib.hid ho
    have R := Lib.hid hr
    have HB := Lib.hid hb
    rw [HZ.out] at hd
    obtain ⟨Ar, cr, k0, k1⟩ := rd_some hr
    clear ho hr hb
    by_cases hlt : 0 < l.length
    · have hh1' := hh (by omega)
      obtain ⟨n, hn'⟩ : ∃ n, b.length - lk.length = n + 1 := ⟨b.length - lk.length - 1, by omega⟩
      have hgood : Good (some l) := fun l' e => by injection e with e; subst e; omega
      have hlt1 := readS_lt (some l)
      rw [hn', unpL, if_neg (show ¬ leftM (some l) = 0 by show ¬ l.length = 0; omega)] at hd
      have hlt2 := readS_lt (readS (some l))
      have hm0 := fun h => readMo_some (s := some l) h
      have hr0 := fun h => readRec_some (s := readS (some l)) h
      have hgood1 : Good (readS (some l)) := numM_good (numM_good hgood)
      have PM := Lib.hid (fun W (r : RdAt 137 W g h1 (some l)) (hh : h1 ≠ W.heap.size) => rmread_at2 g h1 (some l) W r hh hgood)
      have PR := Lib.hid (fun W (r : RdAt 137 W g h1 (readS (some l))) (hh : h1 ≠ W.heap.size) => rrc_read_at2 g h1 (readS (some l)) W r hh hgood1)
      rw [show (numM (numM (some l)).2).2 = readS (some l) from rfl] at PM
      rw [show (numM (numM (readS (some l))).2).2 = readS (readS (some l)) from rfl] at PR
      rw [show leftM (some l) = l.length from rfl] at hlt1
      generalize readS (readS (some l)) = s2 at hd hlt2 hr0 PR
      generalize readRec (readS (some l)) = z2 at hd hr0 PR
      generalize readS (some l) = s1 at hlt1 hlt2 hm0 hr0 PM PR
      generalize readMo (some l) = z1 at hd hm0 PM
      obtain ⟨⟨x1, x2⟩, er1⟩ := z1
      obtain ⟨⟨x3, x4⟩, er2⟩ := z2
      simp only at hd hm0 hr0
      have HD := Lib.hid hd
      clear hd hgood hgood1
      go_wp2_with fail
      refine (PM.out _ R.out (by omega)).mono ?_; rintro e w4 ⟨rfl, r4, g4⟩
      have R4 := Lib.hid (r4.below (alloc_below _ (.cells #[.int .i64 x1, .int .i64 x2] 56)))
      have HO4 := Lib.hid (World.ownsRow.alloc (HO.out.kept g4 (by
        rcases hob : (Value.slice A3 lk.length c3).ownBlock with _ | gg
        · exact .inl rfl
        · refine .inr fun e => ?_
          injection e with e
          have := (World.ownsRow.lt HO.out gg hob).1
          omega)) (.cells #[.int .i64 x1, .int .i64 x2] 56))
      have B4 := Lib.hid (HB.out.grown g4 HB.out.size fun i hi => by injection hi with hi; omega)
      have hs4 := g4.size
      have K4 := Lib.hid (Blk.new w4 56 #[.int .i64 x1, .int .i64 x2])
      clear r4 g4 k0 k1
      go_wp2_with fail
      refine (PR.out _ R4.out (by rw [World.size_alloc]; omega)).mono ?_; rintro e w5 ⟨rfl, r5, g5⟩
      have R5 := Lib.hid (r5.below (alloc_below _ (.cells #[.int .i64 x3, .int .i64 x4] 58)))
      have hne4 : w4.heap.size ≠ g := by omega
      have K5 := Lib.hid ((g5.block w4.heap.size (by rw [World.size_alloc]; omega) (fun e => hne4 (by injection e))).trans K4.out : w5.heap[w4.heap.size]? = some (.cells #[.int .i64 x1, .int .i64 x2] 56 (0, 0)))
      have HO5 := Lib.hid (World.ownsRow.alloc (HO4.out.kept g5 (by
        rcases hob : (Value.slice A3 lk.length c3).ownBlock with _ | gg
        · exact .inl rfl
        · refine .inr fun e => ?_
          injection e with e
          have := (World.ownsRow.lt HO4.out gg hob).1
          omega)) (.cells #[.int .i64 x3, .int .i64 x4] 58))
      have B5 := Lib.hid ((B4.out.alloc B4.out.size (.cells #[.int .i64 x1, .int .i64 x2] 56)).grown g5 (by rw [World.size_alloc]; have := B4.out.size; omega) fun i hi => by injection hi with hi; omega)
      have hs5 := g5.size
      rw [World.size_alloc] at hs5
      have K6 := (show Blk w5 w4.heap.size 56 #[.int .i64 x1, .int .i64 x2] from K5.out).below (alloc_below w5 (.cells #[.int .i64 x3, .int .i64 x4] 58)) (by omega)
      have q0 : (w5.alloc (.cells #[.int .i64 x3, .int .i64 x4] 58)).cell? ⟨w4.heap.size, 0, none⟩ = some (.int .i64 x1) := K6.cell 0
      have q1 : (w5.alloc (.cells #[.int .i64 x3, .int .i64 x4] 58)).cell? ⟨w4.heap.size, 1, none⟩ = some (.int .i64 x2) := K6.cell 1
      have hne5 : w4.heap.size ≠ w5.heap.size := by omega
      clear r5 g5
      by_cases her : er1 = 0 ∧ er2 = 0
      · obtain ⟨e1, e2⟩ := id her
        obtain ⟨l2', rfl⟩ : ∃ l', s2 = some l' := Option.ne_none_iff_exists'.1 (hr0 e2)
        have hd := HD.out
        rw [if_pos her] at hd
        have HD3 := Lib.hid hd
        have l1 := hlt1 (hm0 e1)
        have l2 := hlt2 (hr0 e2)
        rw [show leftM (some l2') = l2'.length from rfl] at l2
        subst e1 e2
        have HOX := Lib.hid (World.ownsRow.alloc HO5.out (.cells (encE ((x1, x2), (x3, x4))).toArray 60))
        have hrx := reads_oneK layE (w5.alloc (.cells #[.int .i64 x3, .int .i64 x4] 58)) ((x1, x2), (x3, x4)) 60
        rw [World.size_alloc] at hrx
        have HRX := Lib.hid hrx
        have HSX := Lib.hid (show w2.heap.size ≤ ((w5.alloc (.cells #[.int .i64 x3, .int .i64 x4] 58)).alloc (.cells (encE ((x1, x2), (x3, x4))).toArray 60)).heap.size by rw [World.size_alloc, World.size_alloc]; omega)
        clear hrx hd HD her hm0 hr0 hlt1 hlt2
        go_wp2_with (at_builtin; (refine wpList_appK layE (ys := [((x1, x2), (x3, x4))]) _ rfl (.tmp 44) (.tmp 48) _ rfl Try.underlying54 info_en3 rfl HOX.out HRX.out 1 rfl rfl (by omega) (by decide) HSX.out ?_); intro A5 c5 w6 o5 gr5; have O5 := Lib.hid o5; have G5 := Lib.hid gr5; clear o5 gr5)
        have hrow : ∀ i, (Value.slice A3 lk.length c3).ownBlock = some i → w2.heap.size ≤ i := fun i hi => (World.ownsRow.lt HOX.out i hi).1
        have R6 := Lib.hid ((R5.out.below (alloc_below _ (.cells (encE ((x1, x2), (x3, x4))).toArray 60))).grown (Grew.by_ G5.out) (fun e => by have := hrow g e.symm; omega) (fun e => by have := hrow h1 e.symm; omega))
        have B6 := Lib.hid (((B5.out.alloc B5.out.size (.cells #[.int .i64 x3, .int .i64 x4] 58)).alloc (by rw [World.size_alloc]; have := B5.out.size; omega) (.cells (encE ((x1, x2), (x3, x4))).toArray 60)).grown (Grew.by_ G5.out) (by rw [World.size_alloc, World.size_alloc]; have := B5.out.size; omega) fun i hi => by have := hrow i hi; have := B2.out.size; omega)
        have hs6 : w2.heap.size ≤ w6.heap.size := Nat.le_trans HSX.out (Grew.by_ G5.out).size
        refine ⟨⟨lk ++ [((x1, x2), (x3, x4))], l2', A5, c5, by rw [List.length_append]; rfl, by rw [List.length_append, List.length_singleton]; omega, by rw [List.length_append]; exact O5.out, R6.out, ?_, hs6, B6.out⟩, by simp [slNE]; omega⟩
        rw [HZ.out, HD3.out, List.length_append, List.length_singleton, show b.length - (lk.length + 1) = n by omega]
        simp [Option.map_map, Function.comp_def]
      · have hd := HD.out
        rw [if_neg her] at hd
        have HD3 := Lib.hid (show Z = none from hd)
        clear hd HD
        by_cases e1 : er1 = 0
        · have e2 : (er2 == 0) = false := by rw [beq_eq_false_iff_ne]; exact fun e2 => her ⟨e1, e2⟩
          subst e1
          clear her hm0 hr0
          go_wp2
          go_ret2
          exact .inl ⟨HD3.out, rfl, B5.out.alloc B5.out.size _⟩
        · have d3 : (er1 == 0) = false := by rw [beq_eq_false_iff_ne]; exact e1
          clear her hm0 hr0 e1
          go_wp2
          go_ret2
          exact .inl ⟨HD3.out, rfl, B5.out.alloc B5.out.size _⟩
    · have h0 : leftM (some l) = 0 := by show l.length = 0; omega
      rw [unpL_end _ _ h0] at hd
      have HD := Lib.hid hd
      go_wp2
      go_ret2
      refine .inr ⟨lk, A3, c3, by rw [HD.out]; simp, rfl, RowE.own HB.out HO.out B2.out.size⟩
end Go.Proofs.Ytfilelgbffbnlaa
