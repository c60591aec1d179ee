/- Contracts of package entry: Unpack. -/
import Derived.Test.YtalefgcdhakfoaaEnG
import Derived.Test.YtalefgcdhakfoaaMoR
import Derived.Test.YtalefgcdhakfoaaNumU
namespace Go.Proofs.Ytalefgcdhakfoaa
open Go.RowKit Go.Sort

/-- What bytes are as entries. -/
def unpL : Nat → Option (List UInt8) → Option (List En)
  | 0, _ => some []
  | n + 1, s => if leftM s = 0 then some [] else if (readMo s).2 = 0 ∧ (readRec (readS s)).2 = 0 then (unpL n (readS (readS s))).map fun y => ((readMo s).1, (readRec (readS s)).1) :: y else none
def unpM (b : List UInt8) : Option (List En) := unpL b.length (some b)
theorem unpL_end (n : Nat) (s : Option (List UInt8)) (h : leftM s = 0) : unpL n s = some [] := by
  cases n with
  | zero => rfl
  | succ n => unfold unpL; rw [if_pos h]
theorem readS_lt (s : Option (List UInt8)) (h : readS s ≠ none) : leftM (readS s) + 2 ≤ leftM s := by
  unfold readS at h ⊢
  cases s with
  | none => rw [numM_none, numM_none] at h; exact absurd rfl h
  | some b =>
    generalize h1 : numM (some b) = p at *
    obtain ⟨x, s1⟩ := p
    simp only at h ⊢
    cases s1 with
    | none => rw [numM_none] at h; exact absurd rfl h
    | some b1 =>
      generalize h2 : numM (some b1) = q at *
      obtain ⟨y, s2⟩ := q
      simp only at h ⊢
      cases s2 with
      | none => exact absurd rfl h
      | some b2 =>
        obtain ⟨e1, -⟩ := numM_inv h1
        obtain ⟨e2, -⟩ := numM_inv h2
        have m1 := putL_pos x
        have m2 := putL_pos y
        show b2.length + 2 ≤ b.length
        rw [e1, e2, List.length_append, List.length_append]
        omega
theorem readMo_some {s : Option (List UInt8)} (h : (readMo s).2 = 0) : readS s ≠ none := by
  intro e
  unfold readS at e
  unfold readMo at h
  rw [if_pos e] at h
  exact absurd h (by decide)
theorem readRec_some {s : Option (List UInt8)} (h : (readRec s).2 = 0) : readS s ≠ none := by
  intro e
  unfold readS at e
  unfold readRec at h
  rw [if_pos e] at h
  exact absurd h (by decide)
def UnpAns (w : World) (z : Option (List En)) (e : Ending) (w' : World) : Prop :=
  (z = none ∧ e = .returned (.tuple #[.slice none 0 0, .int .i64 10]) ∧ Below w.heap.size w w') ∨
    ∃ l A' c', z = some l ∧ e = .returned (.tuple #[.slice A' l.length c', .int .i64 0]) ∧ RowE w l A' c' w'
def slNE : Value → Nat
  | .slice _ n _ => n
  | _ => 0
theorem slNE_slice (A : Option Addr) (n c : Nat) : slNE (.slice A n c) = n := rfl
theorem RowE.own {w : World} {base e n c : Nat} {A : Option Addr} {m : List En} {w' : World} (hb : Below w.heap.size w w') (ho : w'.ownsRow base e 4 (.slice A n c) n (RowV encE m)) (h0 : w.heap.size ≤ base) : RowE w m A c w' := by
  obtain ⟨g, h1, h2, h3, -, h4, h5⟩ := SlK.of_own layE ho
  refine ⟨⟨g, h2⟩, hb, fun hne => ?_⟩
  have hpos : 0 < n := by rw [h3]; exact List.length_pos_iff.2 hne
  obtain ⟨g', cap, hv, hg, -⟩ := ho.form hpos
  injection hv with hv1 hv2 hv3
  exact ⟨g', hv1, Nat.le_trans h0 hg, by omega, h5⟩
theorem en_unpack_long (A : Option Addr) (b : List UInt8) (c : Nat) (w : World) (hn : 43 < b.length) :
    Calls Try.prog 29 #[.slice A b.length c] w fun e w' => e = .returned (.tuple #[.slice none 0 0, .int .i64 3]) ∧ Below w.heap.size w w' := by
  have d1 : decide ((43 : Int) < (b.length : Int)) = true := by rw [decide_eq_true_eq]; omega
  go_enter Try.func29, Try.ntmps29
  go_wp2
  go_ret2
  exact ⟨rfl, Below.refl _ _⟩
set_option maxRecDepth 100000 in
set_option maxHeartbeats 4000000 in
theorem en_unpack_any (A : Option Addr) (h : Nat) (b : List UInt8) (c : Nat) (w : World) (hl : SlB w h A b) (hn : b.length ≤ 43) :
    Calls Try.prog 29 #[.slice A b.length c] w (UnpAns w (unpM b)) := by
  have P1 := Lib.hid (from_any A c h b w hl (by omega))
  obtain ⟨Z, hZ⟩ : ∃ Z, unpM b = Z := ⟨_, rfl⟩
  rw [hZ]
  have HZ := Lib.hid hZ
  have d1 : decide ((43 : Int) < (b.length : Int)) = false := by rw [decide_eq_false_iff_not]; omega
  clear hl hZ
  go_enter Try.func29, Try.ntmps29
  go_wp2_with fail
  refine P1.out.mono ?_; rintro e w2 ⟨g, h1, rfl, hg, hh1, r1, b1⟩
  have hh : 0 < b.length → h1 < w2.heap.size := fun h0 => by
    obtain ⟨A1, c1, l1, -, -, -, -, hs, hr⟩ := id r1
    have := hr b rfl
    subst this
    exact hs.lt (fun e => by rw [e] at h0; exact absurd h0 (by decide))
  have hgl := r1.lt
  have R2 := Lib.hid r1
  have B2 := Lib.hid b1
  clear r1 b1
  go_wp2_with fail
  go_loopw [4] (fun v wr => ∃ (lk : List En) (sk : Option (List UInt8)) (A3 : Option Addr) (c3 : Nat), v = .slice A3 lk.length c3 ∧ leftM sk + lk.length ≤ b.length ∧ wr.ownsRow w2.heap.size 98 4 v lk.length (RowV encE lk) ∧ RdAt 139 wr g h1 sk ∧ unpM b = (unpL (b.length - lk.length) sk).map (fun y => lk ++ y) ∧ w2.heap.size ≤ wr.heap.size ∧ Below w.heap.size w wr) (fun v _ => b.length - slNE v)
  case atStart => exact ⟨[], some b, none, 0, rfl, Nat.le_refl _, own_nil_k layE _ _ _, R2.out, by simp [unpM], Nat.le_refl _, B2.out⟩
  case round =>
    obtain ⟨lk, sk, A3, c3, rfl, hlk, ho, hr, hd, hs3, hb⟩ := hrel
    have HO := Lib.hid ho
    have R := Lib.hid hr
    have HB := Lib.hid hb
    rw [HZ.out] at hd
    have PL := Lib.hid (left_at g h1 sk wr R.out)
    clear ho hr hb
    by_cases hlt : 0 < leftM sk
    · have hh1' := hh (by omega)
      obtain ⟨n, hn'⟩ : ∃ n, b.length - lk.length = n + 1 := ⟨b.length - lk.length - 1, by omega⟩
      rw [hn', unpL, if_neg (by omega)] at hd
      have hlt1 := readS_lt sk
      have hlt2 := readS_lt (readS sk)
      have hm0 := fun h => readMo_some (s := sk) h
      have hr0 := fun h => readRec_some (s := readS sk) h
      have PM := Lib.hid (fun W (r : RdAt 139 W g h1 sk) (hh : h1 ≠ W.heap.size) => mread_at2 g h1 sk W r hh)
      have PR := Lib.hid (fun W (r : RdAt 139 W g h1 (readS sk)) (hh : h1 ≠ W.heap.size) => rc_read_at2 g h1 (readS sk) W r hh)
      rw [show (numM (numM sk).2).2 = readS sk from rfl] at PM
      rw [show (numM (numM (readS sk)).2).2 = readS (readS sk) from rfl] at PR
      generalize readS (readS sk) = s2 at hd hlt2 hr0 PR
      generalize readRec (readS sk) = z2 at hd hr0 PR
      generalize readS sk = s1 at hlt1 hlt2 hm0 hr0 PM PR
      generalize readMo sk = z1 at hd hm0 PM
      generalize leftM sk = ls at hlt hlk hlt1 PL
      obtain ⟨⟨x1, x2⟩, er1⟩ := z1
      obtain ⟨⟨x3, x4⟩, er2⟩ := z2
      simp only at hd hm0 hr0
      have HD := Lib.hid hd
      clear hd
      go_wp2_with fail
      refine PL.out.mono ?_; rintro e w3 ⟨rfl, rfl⟩
      go_wp2_with fail
      refine (PM.out _ R.out (by omega)).mono ?_; rintro e w4 ⟨rfl, r4, g4⟩
      have R4 := Lib.hid (r4.below (alloc_below _ (.cells #[.int .i64 x1, .int .i64 x2] 94)))
      have HO4 := Lib.hid (World.ownsRow.alloc (HO.out.kept g4 (by
        rcases hob : (Value.slice A3 lk.length c3).ownBlock with _ | gg
        · exact .inl rfl
        · refine .inr fun e => ?_
          injection e with e
          have := (World.ownsRow.lt HO.out gg hob).1
          omega)) (.cells #[.int .i64 x1, .int .i64 x2] 94))
      have B4 := Lib.hid (HB.out.grown g4 HB.out.size fun i hi => by injection hi with hi; omega)
      have hs4 := g4.size
      have K4 := Lib.hid (Blk.new w4 94 #[.int .i64 x1, .int .i64 x2])
      clear r4 g4
      go_wp2_with fail
      refine (PR.out _ R4.out (by rw [World.size_alloc]; omega)).mono ?_; rintro e w5 ⟨rfl, r5, g5⟩
      have R5 := Lib.hid (r5.below (alloc_below _ (.cells #[.int .i64 x3, .int .i64 x4] 96)))
      have hne4 : w4.heap.size ≠ g := by omega
      have K5 := Lib.hid ((g5.block w4.heap.size (by rw [World.size_alloc]; omega) (fun e => hne4 (by injection e))).trans K4.out : w5.heap[w4.heap.size]? = some (.cells #[.int .i64 x1, .int .i64 x2] 94 (0, 0)))
      have HO5 := Lib.hid (World.ownsRow.alloc (HO4.out.kept g5 (by
        rcases hob : (Value.slice A3 lk.length c3).ownBlock with _ | gg
        · exact .inl rfl
        · refine .inr fun e => ?_
          injection e with e
          have := (World.ownsRow.lt HO4.out gg hob).1
          omega)) (.cells #[.int .i64 x3, .int .i64 x4] 96))
      have B5 := Lib.hid ((B4.out.alloc B4.out.size (.cells #[.int .i64 x1, .int .i64 x2] 94)).grown g5 (by rw [World.size_alloc]; have := B4.out.size; omega) fun i hi => by injection hi with hi; omega)
      have hs5 := g5.size
      rw [World.size_alloc] at hs5
      have K6 := (show Blk w5 w4.heap.size 94 #[.int .i64 x1, .int .i64 x2] from K5.out).below (alloc_below w5 (.cells #[.int .i64 x3, .int .i64 x4] 96)) (by omega)
      have q0 : (w5.alloc (.cells #[.int .i64 x3, .int .i64 x4] 96)).cell? ⟨w4.heap.size, 0, none⟩ = some (.int .i64 x1) := K6.cell 0
      have q1 : (w5.alloc (.cells #[.int .i64 x3, .int .i64 x4] 96)).cell? ⟨w4.heap.size, 1, none⟩ = some (.int .i64 x2) := K6.cell 1
      have hne5 : w4.heap.size ≠ w5.heap.size := by omega
      clear r5 g5
      by_cases her : er1 = 0 ∧ er2 = 0
      · obtain ⟨e1, e2⟩ := id her
        have hd := HD.out
        rw [if_pos her] at hd
        have HD3 := Lib.hid hd
        have l1 := hlt1 (hm0 e1)
        have l2 := hlt2 (hr0 e2)
        subst e1 e2
        have HOX := Lib.hid (World.ownsRow.alloc HO5.out (.cells (encE ((x1, x2), (x3, x4))).toArray 98))
        have hrx := reads_oneK layE (w5.alloc (.cells #[.int .i64 x3, .int .i64 x4] 96)) ((x1, x2), (x3, x4)) 98
        rw [World.size_alloc] at hrx
        have HRX := Lib.hid hrx
        have HSX := Lib.hid (show w2.heap.size ≤ ((w5.alloc (.cells #[.int .i64 x3, .int .i64 x4] 96)).alloc (.cells (encE ((x1, x2), (x3, x4))).toArray 98)).heap.size by rw [World.size_alloc, World.size_alloc]; omega)
        clear hrx hd HD her hm0 hr0 hlt1 hlt2
        go_wp2_with (at_builtin; (refine wpList_appK layE (ys := [((x1, x2), (x3, x4))]) _ rfl (.tmp 34) (.tmp 38) _ rfl Try.underlying54 info_en3 rfl HOX.out HRX.out 1 rfl rfl (by omega) (by decide) HSX.out ?_); intro A5 c5 w6 o5 gr5; have O5 := Lib.hid o5; have G5 := Lib.hid gr5; clear o5 gr5)
        have hrow : ∀ i, (Value.slice A3 lk.length c3).ownBlock = some i → w2.heap.size ≤ i := fun i hi => (World.ownsRow.lt HOX.out i hi).1
        have R6 := Lib.hid ((R5.out.below (alloc_below _ (.cells (encE ((x1, x2), (x3, x4))).toArray 98))).grown (Grew.by_ G5.out) (fun e => by have := hrow g e.symm; omega) (fun e => by have := hrow h1 e.symm; omega))
        have B6 := Lib.hid (((B5.out.alloc B5.out.size (.cells #[.int .i64 x3, .int .i64 x4] 96)).alloc (by rw [World.size_alloc]; have := B5.out.size; omega) (.cells (encE ((x1, x2), (x3, x4))).toArray 98)).grown (Grew.by_ G5.out) (by rw [World.size_alloc, World.size_alloc]; have := B5.out.size; omega) fun i hi => by have := hrow i hi; have := B2.out.size; omega)
        have hs6 : w2.heap.size ≤ w6.heap.size := Nat.le_trans HSX.out (Grew.by_ G5.out).size
        refine ⟨⟨lk ++ [((x1, x2), (x3, x4))], s2, A5, c5, by rw [List.length_append]; rfl, by rw [List.length_append, List.length_singleton]; omega, by rw [List.length_append]; exact O5.out, R6.out, ?_, hs6, B6.out⟩, by simp [slNE]; omega⟩
        rw [HZ.out, HD3.out, List.length_append, List.length_singleton, show b.length - (lk.length + 1) = n by omega]
        simp [Option.map_map, Function.comp_def]
      · have hd := HD.out
        rw [if_neg her] at hd
        have HD3 := Lib.hid (show Z = none from hd)
        clear hd HD
        by_cases e1 : er1 = 0
        · have e2 : (er2 == 0) = false := by rw [beq_eq_false_iff_ne]; exact fun e2 => her ⟨e1, e2⟩
          subst e1
          clear her hm0 hr0
          go_wp2
          go_ret2
          exact .inl ⟨HD3.out, rfl, B5.out.alloc B5.out.size _⟩
        · have d3 : (er1 == 0) = false := by rw [beq_eq_false_iff_ne]; exact e1
          clear her hm0 hr0 e1
          go_wp2
          go_ret2
          exact .inl ⟨HD3.out, rfl, B5.out.alloc B5.out.size _⟩
    · have h0 : leftM sk = 0 := by omega
      rw [unpL_end _ _ h0] at hd
      have HD := Lib.hid hd
      rw [h0] at PL
      go_wp2_with fail
      refine PL.out.mono ?_; rintro e w3 ⟨rfl, rfl⟩
      go_wp2
      go_ret2
      refine .inr ⟨lk, A3, c3, by rw [HD.out]; simp, rfl, RowE.own HB.out HO.out B2.out.size⟩
end Go.Proofs.Ytalefgcdhakfoaa
