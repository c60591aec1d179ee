/- Contracts of the document's own reader for num, over the same model. -/
import Derived.Test.YtfmmdnjoichifaaNumG
import Derived.Test.YtfmmdnjoichifaaNumRd
namespace Go.Proofs.Ytfmmdnjoichifaa
open Go.RowKit

/-- What a method leaves, of the document's reader. -/
def RfPost (g h : Nat) (w : World) (v : Value) (s' : Option (List UInt8)) (e : Ending) (w' : World) : Prop :=
  e = .returned v ∧ RdAt 130 w' g h s' ∧ w.grownBy w' (some g)
def RfBytes (g h : Nat) (w : World) (t : List UInt8 × Option (List UInt8)) (e : Ending) (w' : World) : Prop :=
  ∃ A c, e = .returned (.slice A t.1.length c) ∧ w'.ownsRow w.heap.size 5 1 (.slice A t.1.length c) t.1.length (Byt t.1) ∧ RdAt 130 w' g h t.2 ∧ w.grownBy w' (some g)
/-- The reader's bad mark is set. -/
theorem rd_spoil {T : TypeId} {w : World} {g h : Nat} {s : Option (List UInt8)} (r : RdAt T w g h s) : RdAt T (w.setCell ⟨g, 1, none⟩ (.bool true)) g h none := by
  obtain ⟨A, c, l, hb, hne, hlc, hc, hs, hr⟩ := r
  refine ⟨A, c, l, ?_, hne, hlc, hc, hs.keep (Below.heap_setCell _ _ _ _ (fun e => hne e.symm)), fun _ e => by cases e⟩
  simpa using hb.set_ 1 (.bool true)
theorem grown_set1 (w : World) (g : Nat) (i : Nat) (v : Value) : w.grownBy (w.setCell ⟨g, i, none⟩ v) (some g) := only_setCell (p := ⟨g, i, none⟩) (World.grownBy.refl w _) (.inl rfl) _
theorem rd_cells {T : TypeId} {w : World} {g h : Nat} {s : Option (List UInt8)} (r : RdAt T w g h s) : ∃ A c l, w.cell? ⟨g, 0, none⟩ = some (.slice A l.length c) ∧ w.cell? ⟨g, 1, none⟩ = some (.bool s.isNone) ∧ w.frozen? ⟨g, 0, none⟩ = false ∧ w.frozen? ⟨g, 1, none⟩ = false ∧ l.length ≤ c ∧ c ≤ 9223372036854775807 ∧ (∀ l', s = some l' → l' = l) := by
  obtain ⟨A, c, l, hb, hne, hlc, hc, hs, hr⟩ := r
  have c0 := hb.cell 0
  have c1 := hb.cell 1
  simp at c0 c1
  exact ⟨A, c, l, c0, c1, hb.frozen 0, hb.frozen 1, hlc, by simpa [maxLen] using hc, hr⟩

set_option maxHeartbeats 400000 in
theorem rbytes_bad (g h : Nat) (n : Int) (w : World) (r : RdAt 130 w g h none) : Calls Try.prog 109 #[.pointer (some ⟨g, 0, none⟩), .int .i64 n] w (RfBytes g h w ([], none)) := by
  obtain ⟨A, c, l, c0, c1, f0, f1, hlc, hc, -⟩ := rd_cells r
  have R := Lib.hid r
  clear r c0 f0
  simp only [Option.isNone_none] at c1
  go_enter Try.func109, Try.ntmps109
  go_wp2
  go_ret
  exact ⟨none, 0, rfl, World.ownsRow_nil _ _ _ _, rd_spoil R.out, grown_set1 w g 1 _⟩
set_option maxHeartbeats 400000 in
theorem rbytes_no (g h : Nat) (n : Int) (l : List UInt8) (w : World) (r : RdAt 130 w g h (some l)) (hn : ¬ (0 ≤ n ∧ n ≤ l.length)) : Calls Try.prog 109 #[.pointer (some ⟨g, 0, none⟩), .int .i64 n] w (RfBytes g h w ([], none)) := by
  obtain ⟨A, c, l', c0, c1, f0, f1, hlc, hc, hl⟩ := rd_cells r
  obtain rfl := hl l rfl
  have R := Lib.hid r
  clear r f0 hl
  simp only [Option.isNone_some] at c1
  by_cases h0 : n < 0
  · have d0 : decide (n < 0) = true := by simpa using h0
    clear hn
    go_enter Try.func109, Try.ntmps109
    go_wp2
    go_ret
    exact ⟨none, 0, rfl, World.ownsRow_nil _ _ _ _, rd_spoil R.out, grown_set1 w g 1 _⟩
  · have d0 : decide (n < 0) = false := by simpa using h0
    have d1 : decide ((l.length : Int) < n) = true := by simp; omega
    clear hn
    go_enter Try.func109, Try.ntmps109
    go_wp2
    go_ret
    exact ⟨none, 0, rfl, World.ownsRow_nil _ _ _ _, rd_spoil R.out, grown_set1 w g 1 _⟩
/-- An old block, behind an append to a new row. -/
theorem old_after {w w2 : World} {o : Obj} {n c : Nat} {v' : Value} {g : Nat} (hg : g < w.heap.size) (G : Grew (w.alloc o) w2 (.slice (some ⟨w.heap.size, 0, none⟩) n c) v') : w2.heap[g]? = w.heap[g]? :=
  ((Grew.by_ G).block g (by simp; omega) (fun e => by simp [Value.ownBlock] at e; omega)).trans (Below.heap_alloc w o g hg)
theorem grew_only {w w2 : World} {o : Obj} {n c : Nat} {v' : Value} (G : Grew (w.alloc o) w2 (.slice (some ⟨w.heap.size, 0, none⟩) n c) v') : Below w.heap.size w w2 :=
  ((Below.refl _ _).alloc (Nat.le_refl _) o).grown (Grew.by_ G) (by simp) (by simp [Value.ownBlock])
set_option maxHeartbeats 1000000 in
theorem rbytes_yes (g ha : Nat) (k : Nat) (l : List UInt8) (w : World) (r : RdAt 130 w g ha (some l)) (hn : k ≤ l.length) (hl : l.length ≤ 70368744177664) :
    Calls Try.prog 109 #[.pointer (some ⟨g, 0, none⟩), .int .i64 (k : Int)] w (RfBytes g ha w (l.take k, some (l.drop k))) := by
  have r0 := r
  obtain ⟨A, c, l', hb, hne, hlc, hc, hs, hr⟩ := r
  obtain rfl := hr l rfl
  have c0 := hb.cell 0
  have c1 := hb.cell 1
  have f0 := hb.frozen 0
  simp at c0 c1
  have HB := Lib.hid hb
  have R := Lib.hid r0
  have hg0 := hb.lt
  have htk : (l.take k).length = k := by rw [List.length_take, Nat.min_eq_left hn]
  have hE : (w.alloc (.cells #[] 5)).ownsRow w.heap.size 5 1 (.slice (some ⟨w.heap.size, 0, none⟩) 0 0) 0 (Byt []) := own_new w #[] _ 0 _ rfl rfl (by decide) (Nat.le_refl _)
  have hsA : SlB (w.alloc (.cells #[] 5)) ha A (l.take k) := (hs.take k).keep' fun hh => Below.heap_alloc w _ _ hh
  have HS := Lib.hid hs
  have HE := Lib.hid hE
  have HR := Lib.hid (hsA.reads (n := k) htk.symm)
  clear hb r0 hr hs hE hsA
  unfold maxLen at hc
  have d0 : decide ((k : Int) < 0) = false := by simp
  have d1 : decide ((l.length : Int) < (k : Int)) = false := by simp; omega
  go_enter Try.func109, Try.ntmps109
  go_wp2_with (at_builtin; (refine wpList_appB _ rfl (.tmp 26) (.tmp 32) _ rfl Try.underlying30 info_u8 HE.out HR.out c rfl rfl (by omega) (by simp) ?_); intro A2 c2 w2 o2 gr2; have O2 := Lib.hid o2; have G2 := Lib.hid gr2; have c02 := (World.cell?_of_block (a := ⟨g, 0, none⟩) (old_after hg0 gr2)).trans c0; have f02 := (World.frozen?_of_block (a := ⟨g, 0, none⟩) (old_after hg0 gr2)).trans f0; clear o2 gr2)
  all_goals
    go_ret
    have b2 := grew_only G2.out
    have hbk : Blk w2 g 130 #[.slice A l.length c, .bool (some l).isNone] := HB.out.below b2 hg0
    have hs2 : SlB w2 ha A l := HS.out.below b2 fun hh => hh
    refine ⟨A2, c2, by simp [htk], ?_, ?_, only_setCell (p := ⟨g, 0, none⟩) (only_below (World.grownBy.refl w _) b2) (.inl rfl) _⟩
  · rw [htk]
    have o2 := O2.out
    rw [Nat.zero_add, List.nil_append] at o2
    exact ownsRow_setCell_below o2 (a := ⟨g, 0, none⟩) hg0 _
  · have hk : k = l.length := by omega
    refine ⟨A, 0, [], ?_, hne, Nat.le_refl _, by decide, SlB.nil _ _ _, fun r e => ?_⟩
    · have := hbk.set_ 0 (.slice A (l.length - k) 0)
      simpa [hk] using this
    · injection e with e
      rw [← e]
      exact List.drop_eq_nil_of_le (by omega)
  · rw [htk]
    have o2 := O2.out
    rw [Nat.zero_add, List.nil_append] at o2
    exact ownsRow_setCell_below o2 (a := ⟨g, 0, none⟩) hg0 _
  · refine ⟨cutA A k c, c - k, l.drop k, ?_, hne, ?_, ?_, ?_, fun r e => ?_⟩
    · rw [List.length_drop]
      have := hbk.set_ 0 (.slice (cutA A k c) (l.length - k) (c - k))
      have hck : ¬ c = k := by assumption
      simpa [cutA, hck] using this
    · rw [List.length_drop]; omega
    · unfold maxLen; omega
    · exact (hs2.drop hlc).keep (Below.heap_setCell _ _ _ _ (fun e => hne e.symm))
    · injection e with e; exact e.symm
theorem rbytes_at (g h : Nat) (n : Int) (s : Option (List UInt8)) (w : World) (r : RdAt 130 w g h s) (hl : ∀ l, s = some l → l.length ≤ 70368744177664) :
    Calls Try.prog 109 #[.pointer (some ⟨g, 0, none⟩), .int .i64 n] w (RfBytes g h w (takeM n s)) := by
  rcases s with _ | l
  · exact rbytes_bad g h n w r
  · by_cases hn : 0 ≤ n ∧ n ≤ l.length
    · obtain ⟨k, rfl⟩ := Int.eq_ofNat_of_zero_le hn.1
      have e : takeM (k : Int) (some l) = (l.take k, some (l.drop k)) := by unfold takeM; simp only [if_pos hn, Int.toNat_natCast]
      rw [e]
      exact rbytes_yes g h k l w r (by omega) (hl l rfl)
    · have e : takeM n (some l) = ([], none) := by unfold takeM; simp only [if_neg hn]
      rw [e]
      exact rbytes_no g h n l w r hn


def Good (s : Option (List UInt8)) : Prop := ∀ l, s = some l → l.length ≤ 70368744177664
theorem takeM_good {n : Int} {s : Option (List UInt8)} (h : Good s) : Good (takeM n s).2 := by
  intro l hl
  rcases s with _ | l'
  · cases hl
  · have h1 := h l' rfl
    unfold takeM at hl
    by_cases hn : 0 ≤ n ∧ n ≤ l'.length
    · simp only [if_pos hn] at hl
      injection hl with hl
      rw [← hl, List.length_drop]
      omega
    · simp only [if_neg hn] at hl
      cases hl
theorem fixedM_good {n : Int} {s : Option (List UInt8)} (h : Good s) : Good (fixedM n s).2 := by
  unfold fixedM
  split
  · split
    · intro l hl; cases hl
    · exact takeM_good h
  · intro l hl; cases hl
theorem takeM_none (n : Int) (s : Option (List UInt8)) (h : (takeM n s).2 = none) : (takeM n s).1 = [] := by
  rcases s with _ | l'
  · rfl
  · unfold takeM at h ⊢
    by_cases hn : 0 ≤ n ∧ n ≤ l'.length
    · simp only [if_pos hn] at h; cases h
    · simp only [if_neg hn]
theorem takeM_some (n : Int) (s : Option (List UInt8)) (r : List UInt8) (h : (takeM n s).2 = some r) : ((takeM n s).1.length : Int) = n := by
  rcases s with _ | l'
  · cases h
  · unfold takeM at h ⊢
    by_cases hn : 0 ≤ n ∧ n ≤ l'.length
    · simp only [if_pos hn, List.length_take]; omega
    · simp only [if_neg hn] at h; cases h
theorem beV_cons (b : UInt8) (l : List UInt8) : beV (b :: l) = b.toNat * 256 ^ l.length + beV l := by
  have h : ∀ (l : List UInt8) (n : Nat), l.foldl (fun n b => n * 256 + b.toNat) n = n * 256 ^ l.length + l.foldl (fun n b => n * 256 + b.toNat) 0 := by
    intro l
    induction l with
    | nil => intro n; simp
    | cons b l ih =>
      intro n
      rw [List.foldl_cons, List.foldl_cons, ih (n * 256 + b.toNat), ih (0 * 256 + b.toNat), List.length_cons, Nat.pow_succ, Nat.add_mul, Nat.zero_mul, Nat.zero_add, Nat.mul_assoc, Nat.mul_comm 256, Nat.add_assoc]
  unfold beV
  rw [List.foldl_cons, h]
  simp
theorem beV_big (t : List UInt8) (h1 : 1 ≤ t.length) (h8 : t.length ≤ 8) : 9223372036854775807 < beV t ↔ t.length = 8 ∧ ∃ b, t[0]? = some b ∧ 127 < b.toNat := by
  match t, h1 with
  | b :: r, _ =>
    have hl := beV_lt r
    have hb := b.toNat_lt
    rw [beV_cons]
    simp only [List.length_cons] at h8
    by_cases h : r.length = 7
    · rw [h] at hl ⊢
      simp [h]
      omega
    · have h2 : 256 ^ r.length ≤ 256 ^ 6 := Nat.pow_le_pow_right (by omega) (by omega)
      have h3 : b.toNat * 256 ^ r.length ≤ 255 * 256 ^ 6 := Nat.mul_le_mul (by omega) h2
      simp only [List.length_cons]
      constructor
      · intro h4; omega
      · rintro ⟨h4, _⟩; omega
theorem beV_append (a b : List UInt8) : beV (a ++ b) = beV a * 256 ^ b.length + beV b := by
  induction a with
  | nil => simp [beV]
  | cons x a ih => rw [List.cons_append, beV_cons, ih, beV_cons, List.length_append, Nat.pow_add, Nat.add_mul, Nat.mul_assoc, Nat.add_assoc]
theorem beV_take_le (t : List UInt8) (k : Nat) : beV (t.take k) ≤ beV t := by
  have h := beV_append (t.take k) (t.drop k)
  rw [List.take_append_drop] at h
  have : beV (t.take k) * 1 ≤ beV (t.take k) * 256 ^ (t.drop k).length := Nat.mul_le_mul_left _ (Nat.pow_pos (by omega))
  omega
set_option maxHeartbeats 400000 in
theorem rfixed_off (g h : Nat) (size : Int) (s : Option (List UInt8)) (w : World) (r : RdAt 130 w g h s) (hn : ¬ (1 ≤ size ∧ size ≤ 8)) :
    Calls Try.prog 110 #[.pointer (some ⟨g, 0, none⟩), .int .i64 size] w (RfPost g h w (.int .i64 0) none) := by
  obtain ⟨A, c, l, c0, c1, f0, f1, -⟩ := rd_cells r
  have R := Lib.hid r
  clear r c0 f0
  by_cases h1 : size < 1
  · have d1 : decide (size < 1) = true := by simpa using h1
    clear hn
    go_enter Try.func110, Try.ntmps110
    go_wp2
    go_ret
    exact ⟨rfl, rd_spoil R.out, grown_set1 w g 1 _⟩
  · have d1 : decide (size < 1) = false := by simpa using h1
    have d2 : decide (8 < size) = true := by simp; omega
    clear hn
    go_enter Try.func110, Try.ntmps110
    go_wp2
    go_ret
    exact ⟨rfl, rd_spoil R.out, grown_set1 w g 1 _⟩
theorem only_trans2 {a b : World} {g : Nat} (h : a.grownBy b (some g)) (v : Value) : a.grownBy (b.setCell ⟨g, 1, none⟩ v) (some g) := only_setCell (p := ⟨g, 1, none⟩) h (.inl rfl) v
set_option maxHeartbeats 1000000 in
theorem rfixed_in (g h : Nat) (size : Int) (s : Option (List UInt8)) (w : World) (r : RdAt 130 w g h s) (hgood : Good s) (h1 : 1 ≤ size) (h2 : size ≤ 8) :
    Calls Try.prog 110 #[.pointer (some ⟨g, 0, none⟩), .int .i64 size] w (RfPost g h w (.int .i64 ((fixedM size s).1 : Int)) (fixedM size s).2) := by
  have R := Lib.hid r
  clear r
  have d1 : decide (size < 1) = false := by simp; omega
  have d2 : decide (8 < size) = false := by simp; omega
  have hfx : fixedM size s = if beV (takeM size s).1 > 9223372036854775807 then (0, none) else (beV (takeM size s).1, (takeM size s).2) := by
    unfold fixedM; rw [if_pos ⟨h1, h2⟩]
  have htn := takeM_none size s
  have hts := takeM_some size s
  obtain ⟨t, s', ht⟩ : ∃ t s', takeM size s = (t, s') := ⟨_, _, rfl⟩
  rw [ht] at hfx htn hts
  simp only at hfx htn hts
  have HF := Lib.hid hfx
  have HT := Lib.hid ht
  have PB := Lib.hid (fun W (rr : RdAt 130 W g h s) => rbytes_at g h size s W rr hgood)
  rw [ht] at PB
  clear hfx ht
  rcases s' with _ | rest
  · obtain rfl := htn rfl
    have e : fixedM size s = (0, none) := by rw [HF.out]; simp [beV]
    have E := Lib.hid e
    clear e hts htn
    go_enter Try.func110, Try.ntmps110
    go_wp2_with fail
    refine (PB.out _ R.out).mono ?_
    rintro e w1 ⟨A, c, rfl, ho, hr, hg⟩
    obtain ⟨A1, cc1, l1, -, c1, -, f1, -⟩ := rd_cells hr
    simp only [Option.isNone_none] at c1
    have HR := Lib.hid hr
    clear hr ho
    go_wp2
    go_ret
    rw [E.out]
    exact ⟨rfl, rd_spoil HR.out, only_trans2 hg _⟩
  · have hlen := hts rest rfl
    have hbig := beV_big t (by omega) (by omega)
    clear hts htn
    go_enter Try.func110, Try.ntmps110
    go_wp2_with fail
    refine (PB.out _ R.out).mono ?_
    rintro e w1 ⟨A, c, rfl, ho, hr, hg⟩
    dsimp only at ho hr ⊢
    have hl0 : 0 < t.length := by omega
    obtain ⟨A1, cc1, l1, -, c1, -, f1, -⟩ := rd_cells hr
    simp only [Option.isNone_some] at c1
    obtain ⟨hh, -, hs, -⟩ := SlB.of_own ho
    have HR := Lib.hid hr
    have HS := Lib.hid hs
    clear hr ho hs
    obtain ⟨ad, hA, hcell0⟩ := HS.out.cell (k := 0) hl0
    subst hA
    have ead : ad.add 0 = ad := by simp [Addr.add]
    rw [ead] at hcell0
    have HB := Lib.hid hbig
    clear hbig ead
    have hb0 := t[0].toNat_lt
    by_cases hov : t.length = 8 ∧ 127 < t[0].toNat
    · have e : fixedM size s = (0, none) := by rw [HF.out, if_pos (HB.out.2 ⟨hov.1, t[0], List.getElem?_eq_getElem _, hov.2⟩)]
      have E := Lib.hid e
      have d3 : (size == 8) = true := by simp; omega
      have d4 : decide ((127 : Int) < (t[0].toNat : Int)) = true := by simp; omega
      clear e
      clear hov
      go_wp2
      go_ret
      rw [E.out]
      exact ⟨rfl, rd_spoil HR.out, only_trans2 hg _⟩
    · have e : fixedM size s = (beV t, some rest) := by
        rw [HF.out, if_neg]
        intro hb
        obtain ⟨h3, b, h4, h5⟩ := HB.out.1 hb
        rw [List.getElem?_eq_getElem hl0] at h4
        injection h4 with h4
        exact hov ⟨h3, by rw [h4]; exact h5⟩
      have E := Lib.hid e
      clear e
      have hmax : beV t ≤ 9223372036854775807 := by
        refine Nat.le_of_not_lt fun hb => ?_
        obtain ⟨h3, b, h4, h5⟩ := HB.out.1 hb
        rw [List.getElem?_eq_getElem hl0] at h4
        injection h4 with h4
        exact hov ⟨h3, by rw [h4]; exact h5⟩
      have hsz : size = (t.length : Int) := hlen.symm
      subst hsz
      by_cases h8 : t.length = 8
      · have d3 : (((t.length : Int)) == 8) = true := by simp; omega
        have d4 : decide ((127 : Int) < (t[0].toNat : Int)) = false := by
          simp
          have : ¬ 127 < t[0].toNat := fun h => hov ⟨h8, h⟩
          omega
        clear hov h8
        go_wp2
        clear d3 d4
        go_loop [6, 7] (fun n i => ∃ k : Nat, k ≤ t.length ∧ i = .int .i64 (k : Int) ∧ n = .int .i64 (beV (t.take k) : Int)) (fun _ i => t.length - (intOf i).toNat)
        case atStart => exact ⟨0, Nat.zero_le _, rfl, rfl⟩
        case round =>
          obtain ⟨k, hk, rfl, rfl⟩ := hrel
          by_cases hlt : k < t.length
          · obtain ⟨ad', hA', hcell⟩ := HS.out.cell hlt
            injection hA' with hA'
            subst hA'
            have hm1 := beV_take_le t (k + 1)
            rw [beV_take_succ t k hlt] at hm1
            have hts := Lib.hid (beV_take_succ t k hlt)
            obtain ⟨m, hm⟩ : ∃ m, m = beV (t.take k) := ⟨_, rfl⟩
            rw [← hm] at hm1 ⊢
            have hmb : m * 256 + t[k].toNat ≤ 9223372036854775807 := by omega
            have HM := Lib.hid hm
            clear hm hm1
            have hb := t[k].toNat_lt
            go_wp2
            refine ⟨⟨k + 1, by omega, by go_num, ?_⟩, by simp [intOf]; omega⟩
            rw [hts.out, ← HM.out]
            go_num
          · obtain rfl : k = t.length := by omega
            rw [List.take_length]
            go_wp2
            go_ret
            rw [E.out]
            exact ⟨rfl, HR.out, hg⟩
      · have d3 : (((t.length : Int)) == 8) = false := by simp; omega
        clear hov h8
        go_wp2
        clear d3
        go_loop [6, 7] (fun n i => ∃ k : Nat, k ≤ t.length ∧ i = .int .i64 (k : Int) ∧ n = .int .i64 (beV (t.take k) : Int)) (fun _ i => t.length - (intOf i).toNat)
        case atStart => exact ⟨0, Nat.zero_le _, rfl, rfl⟩
        case round =>
          obtain ⟨k, hk, rfl, rfl⟩ := hrel
          by_cases hlt : k < t.length
          · obtain ⟨ad', hA', hcell⟩ := HS.out.cell hlt
            injection hA' with hA'
            subst hA'
            have hm1 := beV_take_le t (k + 1)
            rw [beV_take_succ t k hlt] at hm1
            have hts := Lib.hid (beV_take_succ t k hlt)
            obtain ⟨m, hm⟩ : ∃ m, m = beV (t.take k) := ⟨_, rfl⟩
            rw [← hm] at hm1 ⊢
            have hmb : m * 256 + t[k].toNat ≤ 9223372036854775807 := by omega
            have HM := Lib.hid hm
            clear hm hm1
            have hb := t[k].toNat_lt
            go_wp2
            refine ⟨⟨k + 1, by omega, by go_num, ?_⟩, by simp [intOf]; omega⟩
            rw [hts.out, ← HM.out]
            go_num
          · obtain rfl : k = t.length := by omega
            rw [List.take_length]
            go_wp2
            go_ret
            rw [E.out]
            exact ⟨rfl, HR.out, hg⟩
theorem rfixed_at (g h : Nat) (size : Int) (s : Option (List UInt8)) (w : World) (r : RdAt 130 w g h s) (hgood : Good s) :
    Calls Try.prog 110 #[.pointer (some ⟨g, 0, none⟩), .int .i64 size] w (RfPost g h w (.int .i64 ((fixedM size s).1 : Int)) (fixedM size s).2) := by
  by_cases hn : 1 ≤ size ∧ size ≤ 8
  · exact rfixed_in g h size s w r hgood hn.1 hn.2
  · have e : fixedM size s = (0, none) := by unfold fixedM; rw [if_neg hn]
    rw [e]
    exact rfixed_off g h size s w r hn
set_option maxHeartbeats 400000 in
theorem sizeOf_any (c : Int) (w : World) (h0 : 240 ≤ c) (h1 : c ≤ 255) : Calls Try.prog 111 #[.int .i64 c] w fun e w' => e = .returned (.int .i64 (if c < 248 then 2 else c - 245)) ∧ w = w' := by
  by_cases h : c < 248
  · rw [if_pos h]
    go_enter Try.func111, Try.ntmps111
    go_wp2
    go_ret
    exact ⟨rfl, rfl⟩
  · rw [if_neg h]
    go_enter Try.func111, Try.ntmps111
    go_wp2
    go_ret
    exact ⟨rfl, rfl⟩
end Go.Proofs.Ytfmmdnjoichifaa
