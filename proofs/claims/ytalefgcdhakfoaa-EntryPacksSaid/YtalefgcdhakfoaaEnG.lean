/- Contracts of package entry: Pack; a row of byte slices that grows. -/
import Derived.Test.YtalefgcdhakfoaaEnF
namespace Go.Proofs.Ytalefgcdhakfoaa
open Go.RowKit Go.Sort

abbrev SlT := Option Addr × Nat × Nat
abbrev encSl (x : SlT) : Value := .slice x.1 x.2.1 x.2.2
theorem info_bs : (Try.prog.info? 30).map (fun i => (i.zero, i.size, i.bytes)) = some (some (.slice none 0 0), 1, 24) := by kernel_rfl
def PgB (w : World) (x : SlT) (l : List UInt8) : Prop := x.2.1 = l.length ∧ w.ownsRow 0 5 1 (encSl x) l.length (Byt l)
theorem PgB.below {w w' : World} {x : SlT} {l : List UInt8} (h : PgB w x l) (hb : Below w.heap.size w w') : PgB w' x l := ⟨h.1, own_below h.2 hb⟩
theorem own_ne {w : World} {b1 b2 e1 e2 s1 s2 n1 n2 : Nat} {v1 v2 : Value} {xs ys : List Value} (h : w.ownsRow b1 e1 s1 v1 n1 xs) (k : w.ownsRow b2 e2 s2 v2 n2 ys) (hne : e1 ≠ e2) : v1.ownBlock = none ∨ v1.ownBlock ≠ v2.ownBlock := by
  rcases h.2 with ⟨rfl, _⟩ | ⟨g, cap, cur, rfl, _, hh, _⟩
  · exact .inl rfl
  · refine .inr fun e => ?_
    exact own_blk_ne (t := e1) k (show Blk w g e1 cur from hh) (Ne.symm hne) e.symm
theorem PgB.grown {w w' : World} {x : SlT} {l : List UInt8} {base n : Nat} {v : Value} {xs : List Value} (h : PgB w x l) (ho : w.ownsRow base 30 1 v n xs) (hg : w.grownBy w' v.ownBlock) : PgB w' x l :=
  ⟨h.1, h.2.kept hg (own_ne h.2 ho (by decide))⟩
/-- A row of such slices. -/
def Pgs (w : World) (base : Nat) (v : Value) (ls : List (List UInt8)) : Prop :=
  ∃ xs : List SlT, xs.length = ls.length ∧ w.ownsRow base 30 1 v ls.length (xs.map encSl) ∧ ∀ (i : Nat) (x : SlT) (l : List UInt8), xs[i]? = some x → ls[i]? = some l → PgB w x l
theorem Pgs.below {w w' : World} {base : Nat} {v : Value} {ls : List (List UInt8)} (h : Pgs w base v ls) (hb : Below w.heap.size w w') : Pgs w' base v ls := by
  obtain ⟨xs, hl, ho, hp⟩ := h
  exact ⟨xs, hl, own_below ho hb, fun i x l hx hy => (hp i x l hx hy).below hb⟩
theorem Pgs.nil (w : World) (base : Nat) : Pgs w base (.slice none 0 0) [] := ⟨[], rfl, World.ownsRow_nil _ _ _ _, fun i x l hx _ => by simp at hx⟩
theorem reads_cell1 (w : World) (v : Value) (t : TypeId) : Reads (w.alloc (.cells #[v] t)) (w.heap.size + 1) 1 (some ⟨w.heap.size, 0, none⟩) 1 [v] :=
  ⟨rfl, fun _ => ⟨_, rfl, Nat.lt_succ_self _, fun j u hj => by
    match j, hj with
    | 0, hj =>
      simp only [List.getElem?_cons_zero, Option.some.injEq] at hj
      subst hj
      exact (Blk.new w t #[v]).cell 0⟩⟩
/-- One more is appended. -/
theorem Pgs.push {w w' : World} {base : Nat} {v v' : Value} {ls : List (List UInt8)} {x : SlT} {l : List UInt8} {o : Obj} {xs : List SlT} (hl : xs.length = ls.length) (ho : w.ownsRow base 30 1 v ls.length (xs.map encSl)) (hp : ∀ (i : Nat) (x : SlT) (l : List UInt8), xs[i]? = some x → ls[i]? = some l → PgB w x l) (hx : PgB w x l)
    (ho' : w'.ownsRow base 30 1 v' (ls.length + 1) ((xs ++ [x]).map encSl)) (hg : (w.alloc o).grownBy w' v.ownBlock) : Pgs w' base v' (ls ++ [l]) := by
  refine ⟨xs ++ [x], by simp [hl], by simpa using ho', fun i y m hy hm => ?_⟩
  have keep : ∀ y m, PgB w y m → PgB w' y m := fun y m hpy => PgB.grown (hpy.below (alloc_below w o)) (World.ownsRow.alloc ho o) hg
  by_cases hi : i < xs.length
  · rw [List.getElem?_append_left hi] at hy
    rw [List.getElem?_append_left (by omega)] at hm
    exact keep _ _ (hp i y m hy hm)
  · have : i = xs.length := by
      have h1 := (List.getElem?_eq_some_iff.1 hy).1
      rw [List.length_append, List.length_singleton] at h1
      omega
    subst this
    rw [List.getElem?_append_right (Nat.le_refl _), Nat.sub_self] at hy
    rw [hl, List.getElem?_append_right (Nat.le_refl _), Nat.sub_self] at hm
    simp only [List.getElem?_cons_zero, Option.some.injEq] at hy hm
    subst hy hm
    exact keep _ _ hx
/-- append of slices to a row of slices of the call's own. -/
theorem wpList_appS {P : Program} (w : World) {ops : Array Oper} {rest : List Oper} {o : Oper} {a : Act} {Q : Exit → Act → World → Prop} (hgd : o.guard = none) (s x : Operand) (t : TypeId)
    (ho : o.op = .call { callee := .builtin .append, args := #[s, x], argTypes := #[t, t] })
    {e : TypeId} (ht : P.underlying t = some (.slice e)) (hinfo : (P.info? e).map (fun i => (i.zero, i.size, i.bytes)) = some (some (.slice none 0 0), 1, 24))
    {base : Nat} {v : Value} {xs ys : List SlT} {n : Nat} (hown : w.ownsRow base e 1 v n (xs.map encSl)) {B : Nat} {A : Option Addr} {m : Nat} (hr : Reads w B 1 A m (ys.map encSl)) (c : Nat)
    (hs : a.eval s = v) (hx : a.eval x = .slice A m c) (hle : n + m ≤ 1000000) (hbase : base ≤ w.heap.size)
    (h : ∀ A' c' w', w'.ownsRow base e 1 (.slice A' (n + m) c') (n + m) ((xs ++ ys).map encSl) → Grew w w' v (.slice A' (n + m) c') → wpList P ops Q rest (a.put o.dst (.slice A' (n + m) c')) w') :
    wpList P ops Q (o :: rest) a w := by
  obtain ⟨i0, hi0, hz0, hz1, hz2⟩ := info_parts hinfo
  refine wpList_append_any w hgd s x t ho base e i0 _ 1 24 ht hi0 hz0 hz1 hz2 rfl (by omega) v n (xs.map encSl) hs hown B A m c (ys.map encSl) hx hr (fun u hu => by
    simp only [List.mem_map] at hu
    obtain ⟨y, _, rfl⟩ := hu
    rfl) (by unfold maxLen; omega) (by omega) hbase ?_
  intro v' w' h1 h2
  obtain ⟨A', c', rfl⟩ := own_form h1
  refine h A' c' w' ?_ h2
  rw [List.map_append]
  exact h1
/-- Packs whose bytes lie below B, in a row of one's own. -/
def Pks (w : World) (base B : Nat) (v : Value) (ls : List (List UInt8)) : Prop :=
  ∃ xs : List SlT, xs.length = ls.length ∧ w.ownsRow base 30 1 v ls.length (xs.map encSl) ∧ ∀ (i : Nat) (x : SlT) (l : List UInt8), xs[i]? = some x → ls[i]? = some l → PgB w x l ∧ ∀ g, (encSl x).ownBlock = some g → g < B
theorem Pks.below {w w' : World} {base B : Nat} {v : Value} {ls : List (List UInt8)} (h : Pks w base B v ls) (hb : Below w.heap.size w w') : Pks w' base B v ls := by
  obtain ⟨xs, hl, ho, hp⟩ := h
  exact ⟨xs, hl, own_below ho hb, fun i x l hx hy => ⟨(hp i x l hx hy).1.below hb, (hp i x l hx hy).2⟩⟩
theorem Pks.nil (w : World) (base B : Nat) : Pks w base B (.slice none 0 0) [] := ⟨[], rfl, World.ownsRow_nil _ _ _ _, fun i x l hx _ => by simp at hx⟩
/-- A row of bytes above B grows. -/
theorem Pks.last {w w' : World} {base B n : Nat} {v u : Value} {ls : List (List UInt8)} {xs : List Value} (h : Pks w base B v ls) (ho : w.ownsRow B 5 1 u n xs) (hg : w.grownBy w' u.ownBlock) : Pks w' base B v ls := by
  obtain ⟨ys, hl, ho2, hp⟩ := h
  refine ⟨ys, hl, ho2.kept hg (own_ne ho2 ho (by decide)), fun i x l hx hy => ⟨⟨(hp i x l hx hy).1.1, (hp i x l hx hy).1.2.kept hg ?_⟩, (hp i x l hx hy).2⟩⟩
  cases hq : (encSl x).ownBlock with
  | none => exact .inl rfl
  | some g =>
    refine .inr fun e => ?_
    have h1 := (hp i x l hx hy).2 g hq
    have h2 := (World.ownsRow.lt ho g e.symm).1
    omega
theorem Pks.push {w w' : World} {base B n c : Nat} {A : Option Addr} {v v' : Value} {ls : List (List UInt8)} {l : List UInt8} {o : Obj} {xs : List SlT} (hl : xs.length = ls.length) (ho : w.ownsRow base 30 1 v ls.length (xs.map encSl)) (hp : ∀ (i : Nat) (x : SlT) (l : List UInt8), xs[i]? = some x → ls[i]? = some l → PgB w x l ∧ ∀ g, (encSl x).ownBlock = some g → g < B)
    (hx : w.ownsRow B 5 1 (.slice A n c) n (Byt l)) (hn : n = l.length) (hB : B ≤ w.heap.size)
    (ho' : w'.ownsRow base 30 1 v' (ls.length + 1) ((xs ++ [(A, n, c)]).map encSl)) (hg : (w.alloc o).grownBy w' v.ownBlock) : Pks w' base w'.heap.size v' (ls ++ [l]) := by
  have hs : w.heap.size ≤ w'.heap.size := Nat.le_trans (alloc_below w o).size hg.size
  refine ⟨xs ++ [(A, n, c)], by simp [hl], by simpa using ho', fun i y m hy hm => ?_⟩
  have keep : ∀ y m, PgB w y m → PgB w' y m := fun y m hpy => PgB.grown (hpy.below (alloc_below w o)) (World.ownsRow.alloc ho o) hg
  by_cases hi : i < xs.length
  · rw [List.getElem?_append_left hi] at hy
    rw [List.getElem?_append_left (by omega)] at hm
    exact ⟨keep _ _ (hp i y m hy hm).1, fun g hg => Nat.lt_of_lt_of_le ((hp i y m hy hm).2 g hg) (Nat.le_trans hB hs)⟩
  · have : i = xs.length := by
      have h1 := (List.getElem?_eq_some_iff.1 hy).1
      rw [List.length_append, List.length_singleton] at h1
      omega
    subst this
    rw [List.getElem?_append_right (Nat.le_refl _), Nat.sub_self] at hy
    rw [hl, List.getElem?_append_right (Nat.le_refl _), Nat.sub_self] at hm
    simp only [List.getElem?_cons_zero, Option.some.injEq] at hy hm
    subst hy hm
    subst hn
    exact ⟨keep _ _ ⟨rfl, own_mono hx (Nat.zero_le _)⟩, fun g hg => Nat.lt_of_lt_of_le (World.ownsRow.lt hx g hg).2 hs⟩
theorem Pks.pgs {w : World} {base B : Nat} {v : Value} {ls : List (List UInt8)} (h : Pks w base B v ls) : Pgs w base v ls := by
  obtain ⟨xs, hl, ho, hp⟩ := h
  exact ⟨xs, hl, ho, fun i x l hx hy => (hp i x l hx hy).1⟩
/-- How packs are made, entry by entry. -/
def stepP (s : List (List UInt8) × List UInt8) (x : En) : List (List UInt8) × List UInt8 :=
  if 43 < s.2.length + (putE x).length then (s.1 ++ [s.2], putE x) else (s.1, s.2 ++ putE x)
def packS (l : List En) : List (List UInt8) × List UInt8 := l.foldl stepP ([], [])
def packM (l : List En) : List (List UInt8) := if (packS l).2.length = 0 then (packS l).1 else (packS l).1 ++ [(packS l).2]
theorem packS_snoc (l : List En) (x : En) : packS (l ++ [x]) = stepP (packS l) x := by unfold packS; rw [List.foldl_append]; rfl
theorem foldP_le : ∀ (l : List En) (st : List (List UInt8) × List UInt8), (∀ x ∈ l, okEn x = true) → st.2.length ≤ 43 → (l.foldl stepP st).1.length ≤ st.1.length + l.length ∧ (l.foldl stepP st).2.length ≤ 43
  | [], st, _, h => ⟨Nat.le_refl _, h⟩
  | x :: l, st, h, hs => by
    have h2 := putE_len x (h x (List.mem_cons_self ..))
    have h3 : (stepP st x).1.length ≤ st.1.length + 1 ∧ (stepP st x).2.length ≤ 43 := by
      unfold stepP
      split
      · exact ⟨by simp only [List.length_append, List.length_singleton]; omega, by simp only; omega⟩
      · exact ⟨by simp only; omega, by simp only [List.length_append]; omega⟩
    have h4 := foldP_le l (stepP st x) (fun y hy => h y (List.mem_cons_of_mem _ hy)) h3.2
    rw [List.foldl_cons, List.length_cons]
    exact ⟨by omega, h4.2⟩
theorem packS_le (l : List En) (h : ∀ x ∈ l, okEn x = true) : (packS l).1.length ≤ l.length ∧ (packS l).2.length ≤ 43 := by
  have := foldP_le l ([], []) h (Nat.zero_le _)
  unfold packS
  simpa using this
theorem firstE_ok : ∀ {l : List En}, firstE l = 0 → ∀ x ∈ l, okEn x = true
  | [], _, x, hx => by cases hx
  | y :: t, h, x, hx => by
    unfold firstE at h
    have hy : enE y = 0 := by
      by_cases h0 : enE y = 0
      · exact h0
      · rw [if_neg h0] at h; exact absurd h h0
    rw [if_pos hy] at h
    rcases List.mem_cons.1 hx with rfl | hx
    · rw [← enE_zero, hy]; rfl
    · exact firstE_ok h x hx
set_option maxRecDepth 100000 in
set_option maxHeartbeats 4000000 in
theorem en_pack_any (A : Option Addr) (h : Nat) (l : List En) (c : Nat) (w : World) (hl : SlK encE w h A l) (hn : l.length ≤ 50000) :
    Calls Try.prog 26 #[.slice A l.length c] w fun e w' => (mayEs l ≠ 0 ∧ e = .returned (.tuple #[.slice none 0 0, .int .i64 (mayEs l)]) ∧ Below w.heap.size w w') ∨ (mayEs l = 0 ∧ ∃ A' c', e = .returned (.tuple #[.slice A' (packM l).length c', .int .i64 0]) ∧ Pgs w' w.heap.size (.slice A' (packM l).length c') (packM l) ∧ Below w.heap.size w w') := by
  have P1 := Lib.hid (en_may_any A h l c w hl hn)
  have HL := Lib.hid hl
  clear hl
  by_cases h0 : mayEs l = 0
  · have hok := mayEs_ok h0
    rw [h0] at P1
    have H0 := Lib.hid h0
    have OK := Lib.hid (firstE_ok hok.1)
    have hn' := hok.2
    clear h0 hok hn
    go_enter Try.func26, Try.ntmps26
    go_wp2_with fail
    refine P1.out.mono ?_; rintro e w0 ⟨rfl, b0⟩
    have B0 := Lib.hid b0
    clear b0 P1
    go_wp2_with fail
    go_loopw [5, 6, 17] (fun p s i wr => ∃ (k B : Nat) (A1 : Option Addr) (c1 : Nat) (A2 : Option Addr) (c2 : Nat), k ≤ l.length ∧ i = .int .i64 (k : Int) ∧ p = .slice A1 (packS (l.take k)).1.length c1 ∧ s = .slice A2 (packS (l.take k)).2.length c2 ∧ Pks wr w.heap.size B p (packS (l.take k)).1 ∧ wr.ownsRow B 5 1 s (packS (l.take k)).2.length (Byt (packS (l.take k)).2) ∧ w.heap.size ≤ B ∧ B ≤ wr.heap.size ∧ Below w.heap.size w wr) (fun _ _ i _ => l.length - (intOf i).toNat)
    case atStart => exact ⟨0, w.heap.size, none, 0, none, 0, Nat.zero_le _, rfl, rfl, rfl, Pks.nil _ _ _, World.ownsRow_nil _ _ _ _, Nat.le_refl _, B0.out.size, B0.out⟩
    case round =>
      obtain ⟨k, B, A1, c1, A2, c2, hk, rfl, rfl, rfl, hp, ho, hB0, hB1, hb⟩ := hrel
      have HP := Lib.hid hp
      have HO := Lib.hid ho
      have HB := Lib.hid hb
      have HB0 := Lib.hid hB0
      have HB1 := Lib.hid hB1
      have hle := packS_le (l.take k) fun x hx => OK.out x (List.mem_of_mem_take hx)
      clear hp ho hb hB0 hB1
      by_cases hlt : k < l.length
      · have hea := List.getElem?_eq_getElem hlt
        obtain ⟨-, off, rfl, hc⟩ := (HL.out.below HB.out).at_ layE hea
        have htk : l.take (k + 1) = l.take k ++ [l[k]] := by rw [List.take_add_one, hea]; rfl
        have hokx := OK.out l[k] (List.getElem_mem hlt)
        obtain ⟨x, hx⟩ : ∃ x, x = l[k] := ⟨_, rfl⟩
        rw [← hx] at hc htk hokx
        have hst : packS (l.take (k + 1)) = stepP (packS (l.take k)) x := by rw [htk, packS_snoc]
        have hlx := putE_len x hokx
        rw [List.length_take] at hle
        obtain ⟨⟨a, b⟩, c', d⟩ := x
        have q0 := hc 0 _ rfl
        have q1 := hc 1 _ rfl
        have q2 := hc 2 _ rfl
        have q3 := hc 3 _ rfl
        rw [Nat.add_zero] at q0
        have b1 := alloc_below wr (.cells #[.int .i64 a, .int .i64 b, .int .i64 c', .int .i64 d] 98)
        have P1 := Lib.hid (en_put_any ((a, b), (c', d)) (wr.alloc (.cells #[.int .i64 a, .int .i64 b, .int .i64 c', .int .i64 d] 98)) hokx)
        have BA := Lib.hid b1
        unfold stepP at hst
        generalize packS (l.take k) = st at HP HO hle hst
        generalize putE ((a, b), (c', d)) = u at P1 hlx hst
        obtain ⟨ps, s⟩ := st
        simp only at HP HO hle hst
        have HST := Lib.hid hst
        unfold enV at P1
        clear hea hx htk hc hokx hst b1
        go_wp2_with fail
        refine P1.out.mono ?_; rintro e w1 ⟨v1, rfl, o1, b1⟩
        obtain ⟨A3, c3, rfl⟩ := own_form o1
        have BR := Lib.hid (below_trans BA.out b1)
        have HP1 := Lib.hid (HP.out.below BR.out)
        have HO1 := Lib.hid (own_below HO.out BR.out)
        have BW := Lib.hid (below_trans HB.out BR.out)
        have O3 := Lib.hid o1
        have R3 := Lib.hid (own_bytes_reads o1)
        clear q0 q1 q2 q3 b1 P1 o1
        by_cases h43 : 43 < s.length + u.length
        · have d1 : decide ((43 : Int) < (s.length : Int) + (u.length : Int)) = true := by rw [decide_eq_true_eq]; omega
          have hst := HST.out
          rw [if_pos h43] at hst
          have HST2 := Lib.hid hst
          clear hst h43 HST
          obtain ⟨xs, hxl, hxo, hxp⟩ := HP1.out
          have X1 := Lib.hid hxl
          have X2 := Lib.hid hxo
          have X3 := Lib.hid hxp
          have X2A := Lib.hid (World.ownsRow.alloc hxo (.cells #[.slice A2 s.length c2] 30))
          clear hxl hxo hxp
          have O3A := Lib.hid (World.ownsRow.alloc O3.out (.cells #[.slice A2 s.length c2] 30))
          have NE := Lib.hid (own_ne O3A.out X2A.out (by decide))
          have hso := World.ownsRow.lt O3A.out
          go_wp2_with (at_builtin; first | (refine wpList_appS (ys := [(A2, s.length, c2)]) _ rfl (.tmp 29) (.tmp 31) _ rfl Try.underlying55 info_bs X2A.out (reads_cell1 w1 _ _) 1 rfl rfl (by omega) (by rw [World.size_alloc]; have := BW.out.size; omega) ?_; intro A6 c6 w6 o6 gr6; have O6 := Lib.hid o6; have G6 := Lib.hid (Grew.by_ gr6); have R6 := Lib.hid (own_bytes_reads (O3A.out.kept G6.out NE.out)); have N6 := Lib.hid (World.ownsRow_nil w6 w6.heap.size 5 1); clear o6 gr6) | (refine wpList_appB (xs := []) (ys := u) _ rfl (.tmp 33) (.tmp 34) _ rfl Try.underlying30 info_b N6.out R6.out c3 rfl rfl (by omega) (Nat.le_refl _) ?_; intro A7 c7 w7 o7 gr7; have O7 := Lib.hid o7; have G7 := Lib.hid (Grew.by_ gr7); clear o7 gr7))
          have hp6 := Pks.push X1.out X2.out X3.out HO1.out rfl (Nat.le_trans HB1.out BR.out.size) O6.out G6.out
          have b6 : Below w.heap.size w w6 := (BW.out.alloc BW.out.size (.cells #[.slice A2 s.length c2] 30)).grown G6.out (Nat.le_trans BW.out.size (alloc_below _ _).size) fun i hi => (World.ownsRow.lt X2A.out i hi).1
          have hp7 := hp6.last N6.out G7.out
          have o7 := O7.out
          rw [Nat.zero_add, List.nil_append] at o7
          have b7 := b6.grown G7.out b6.size fun i hi => absurd hi (by simp [Value.ownBlock])
          refine ⟨⟨k + 1, w6.heap.size, A6, c6, A7, c7, by omega, by go_num, ?_, ?_, ?_, ?_, b6.size, G7.out.size, b7⟩, by simp [intOf]; omega⟩
          · rw [HST2.out]
            show _ = Value.slice A6 (ps ++ [s]).length c6
            rw [List.length_append]; rfl
          · rw [HST2.out]
          · rw [HST2.out]; exact hp7
          · rw [HST2.out]; exact o7
        · have d1 : decide ((43 : Int) < (s.length : Int) + (u.length : Int)) = false := by rw [decide_eq_false_iff_not]; omega
          have hst := HST.out
          rw [if_neg h43] at hst
          have HST2 := Lib.hid hst
          have HBW := Lib.hid (show B ≤ w1.heap.size from Nat.le_trans HB1.out BR.out.size)
          clear hst HST
          go_wp2_with (at_builtin; (refine wpList_appB (xs := s) (ys := u) _ rfl (.tmp 33) (.tmp 34) _ rfl Try.underlying30 info_b HO1.out R3.out c3 rfl rfl (by omega) HBW.out ?_; intro A7 c7 w7 o7 gr7; have O7 := Lib.hid o7; have G7 := Lib.hid (Grew.by_ gr7); clear o7 gr7))
          refine ⟨⟨k + 1, B, A1, c1, A7, c7, by omega, by go_num, by rw [HST2.out], by rw [HST2.out, List.length_append], by rw [HST2.out]; exact HP1.out.last HO1.out G7.out, by rw [HST2.out, List.length_append]; exact O7.out, HB0.out, Nat.le_trans HBW.out G7.out.size, BW.out.grown G7.out BW.out.size fun i hi => Nat.le_trans HB0.out (World.ownsRow.lt HO1.out i hi).1⟩, by simp [intOf]; omega⟩
      · obtain rfl : k = l.length := by omega
        rw [List.take_length] at HP HO hle ⊢
        have HM := Lib.hid (show packM l = if (packS l).2.length = 0 then (packS l).1 else (packS l).1 ++ [(packS l).2] from rfl)
        generalize packS l = st at HP HO hle HM ⊢
        obtain ⟨ps, s⟩ := st
        simp only at HP HO hle HM ⊢
        by_cases hs0 : s.length = 0
        · have d1 : ¬ 0 < s.length := by omega
          have hm := HM.out
          rw [if_pos hs0] at hm
          have HM2 := Lib.hid hm
          clear hm hs0 HM
          go_wp2
          go_ret2
          exact .inr ⟨H0.out, A1, c1, by rw [HM2.out]; rfl, by rw [HM2.out]; exact HP.out.pgs, HB.out⟩
        · have d1 : 0 < s.length := by omega
          have hm := HM.out
          rw [if_neg hs0] at hm
          have HM2 := Lib.hid hm
          clear hm hs0 HM
          obtain ⟨xs, hxl, hxo, hxp⟩ := HP.out
          have X1 := Lib.hid hxl
          have X2 := Lib.hid hxo
          have X3 := Lib.hid hxp
          have X2A := Lib.hid (World.ownsRow.alloc hxo (.cells #[.slice A2 s.length c2] 30))
          clear hxl hxo hxp
          go_wp2_with (at_builtin; (refine wpList_appS (ys := [(A2, s.length, c2)]) _ rfl (.tmp 40) (.tmp 42) _ rfl Try.underlying55 info_bs X2A.out (reads_cell1 wr _ _) 1 rfl rfl (by omega) (by rw [World.size_alloc]; have := HB.out.size; omega) ?_; intro A6 c6 w6 o6 gr6; have O6 := Lib.hid o6; have G6 := Lib.hid (Grew.by_ gr6); clear o6 gr6))
          go_ret2
          have hp6 := Pks.push X1.out X2.out X3.out HO.out rfl HB1.out O6.out G6.out
          have b6 : Below w.heap.size w w6 := (HB.out.alloc HB.out.size (.cells #[.slice A2 s.length c2] 30)).grown G6.out (Nat.le_trans HB.out.size (alloc_below _ _).size) fun i hi => (World.ownsRow.lt X2A.out i hi).1
          exact .inr ⟨H0.out, A6, c6, by rw [HM2.out, List.length_append]; rfl, by rw [HM2.out, List.length_append]; exact hp6.pgs, b6⟩
  · have d1 : (mayEs l == 0) = false := by simpa using h0
    have H0 := Lib.hid h0
    clear h0
    generalize mayEs l = z at P1 d1 H0
    go_enter Try.func26, Try.ntmps26
    go_wp2_with fail
    refine P1.out.mono ?_; rintro e w0 ⟨rfl, b0⟩
    go_wp2
    go_ret2
    exact .inl ⟨H0.out, rfl, b0⟩
end Go.Proofs.Ytalefgcdhakfoaa
