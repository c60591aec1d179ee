/- What reads as a number is that number's bytes: the mathematics. -/
import Derived.Test.YtibhofdblfgkbaaNumRd
import Derived.Test.YtibhofdblfgkbaaReO
import Derived.Test.YtibhofdblfgkbaaReN
namespace Go.Proofs.Ytibhofdblfgkbaa
open Go.RowKit

theorem snoc_ind {P : List UInt8 → Prop} (h0 : P []) (h1 : ∀ l b, P l → P (l ++ [b])) (l : List UInt8) : P l := by
  have key : ∀ (n : Nat) (l : List UInt8), l.length = n → P l := by
    intro n
    induction n with
    | zero => intro l hl; rw [List.eq_nil_of_length_eq_zero hl]; exact h0
    | succ n ih =>
      intro l hl
      rcases List.eq_nil_or_concat l with rfl | ⟨t, b, rfl⟩
      · simp at hl
      · rw [List.concat_eq_append] at hl ⊢
        exact h1 t b (ih t (by simpa using hl))
  exact key _ l rfl
theorem be_beV (l : List UInt8) : be l.length (beV l) = l := by
  refine snoc_ind (P := fun l => be l.length (beV l) = l) rfl (fun l b ih => ?_) l
  rw [List.length_append, List.length_singleton, be_succ, beV_snoc]
  have hb := b.toNat_lt
  rw [show (beV l * 256 + b.toNat) / 256 = beV l by omega, ih]
  congr 2
  refine UInt8.toNat_inj.1 ?_
  rw [UInt8.toNat_ofNat']
  omega
theorem fixedM_some {k : Int} {b r : List UInt8} {v : Nat} (h : fixedM k (some b) = (v, some r)) (h1 : 1 ≤ k) (h8 : k ≤ 8) : ∃ t, b = t ++ r ∧ (t.length : Int) = k ∧ beV t = v ∧ beV t ≤ 9223372036854775807 := by
  unfold fixedM at h
  rw [if_pos ⟨h1, h8⟩] at h
  split at h
  · cases h
  · rename_i hv
    have ha : beV (takeM k (some b)).1 = v := congrArg Prod.fst h
    have hb : (takeM k (some b)).2 = some r := congrArg Prod.snd h
    unfold takeM at ha hb hv
    simp only at ha hb hv
    split at hb
    · rename_i hk
      rw [if_pos hk] at ha hv
      simp only at ha hb hv
      injection hb with hb
      exact ⟨b.take k.toNat, by rw [← hb, List.take_append_drop], by rw [List.length_take]; omega, ha, by omega⟩
    · cases hb
set_option maxRecDepth 100000 in
theorem numM_inv {b r : List UInt8} {n : Nat} (h : numM (some b) = (n, some r)) : b = putL n ++ r ∧ n ≤ 9223372036854775807 := by
  unfold numM at h
  simp only at h
  generalize hf : fixedM 1 (some b) = f at h
  obtain ⟨x, sx⟩ := f
  simp only at h
  split at h
  · cases h
  · rename_i hx0
    obtain ⟨b1, rfl⟩ : ∃ b1, sx = some b1 := Option.ne_none_iff_exists'.1 hx0
    obtain ⟨t, e1, e2, e3, -⟩ := fixedM_some hf (by omega) (by omega)
    obtain ⟨c, rfl⟩ : ∃ c, t = [c] := by
      match t, e2 with
      | [c], _ => exact ⟨c, rfl⟩
      | [], e2 => simp at e2
      | _ :: _ :: _, e2 => simp at e2; omega
    have ex : c.toNat = x := by simpa [beV] using e3
    have hc := c.toNat_lt
    subst e1
    split at h
    · rename_i h240
      injection h with h1 h2
      injection h2 with h2
      subst h1 h2
      refine ⟨?_, by omega⟩
      unfold putL
      rw [if_pos h240, ← ex]
      simp
    · rename_i h240
      split at h
      · rename_i h248
        generalize hg : fixedM 1 (some b1) = g at h
        obtain ⟨y, sy⟩ := g
        simp only at h
        split at h
        · cases h
        · rename_i hy0
          obtain ⟨b2, rfl⟩ : ∃ b2, sy = some b2 := Option.ne_none_iff_exists'.1 hy0
          obtain ⟨t, e1, e2, e3, -⟩ := fixedM_some hg (by omega) (by omega)
          obtain ⟨d, rfl⟩ : ∃ d, t = [d] := by
            match t, e2 with
            | [d], _ => exact ⟨d, rfl⟩
            | [], e2 => simp at e2
            | _ :: _ :: _, e2 => simp at e2; omega
          have ey : d.toNat = y := by simpa [beV] using e3
          have hd := d.toNat_lt
          subst e1
          injection h with h1 h2
          injection h2 with h2
          subst h1 h2
          refine ⟨?_, by omega⟩
          unfold putL
          rw [if_neg (by omega), if_pos (by omega)]
          rw [show 240 + (240 + (x - 240) * 256 + y - 240) / 256 = x by omega, show 240 + (x - 240) * 256 + y - 240 = (x - 240) * 256 + y by omega]
          have k1 : UInt8.ofNat x = c := by rw [← ex]; simp
          have k2 : UInt8.ofNat ((x - 240) * 256 + y) = d := by
            refine UInt8.toNat_inj.1 ?_
            rw [UInt8.toNat_ofNat']
            omega
          rw [k1, k2]
          rfl
      · rename_i h248
        split at h
        · rename_i h254
          generalize hg : fixedM ((x : Int) - 246) (some b1) = g at h
          obtain ⟨y, sy⟩ := g
          simp only at h
          split at h
          · cases h
          · rename_i hy0
            have hy1 : sy ≠ none := fun e => hy0 (.inl e)
            have hy2 : (putL y).length = x - 245 := by
              rcases Nat.decEq (putL y).length (x - 245) with e | e
              · exact absurd (.inr e) hy0
              · exact e
            obtain ⟨b2, rfl⟩ := Option.ne_none_iff_exists'.1 hy1
            obtain ⟨t, e1, e2, e3, e4⟩ := fixedM_some hg (by omega) (by omega)
            subst e1
            injection h with h1 h2
            injection h2 with h2
            subst h1 h2
            refine ⟨?_, by omega⟩
            have hpl := putL_length y
            unfold putL
            rw [hy2] at hpl
            by_cases k240 : y < 240
            · rw [if_pos k240] at hpl; omega
            · rw [if_neg k240] at hpl
              by_cases k2288 : y < 2288
              · rw [if_pos k2288] at hpl; omega
              · rw [if_neg k2288] at hpl
                rw [if_neg k240, if_neg k2288]
                have hnb : nb y = t.length := by omega
                rw [hnb, ← e3, be_beV, show 246 + t.length = x by omega, ← ex]
                simp
        · cases h

theorem numM_none : numM none = (0, none) := rfl
set_option maxRecDepth 100000 in
theorem readRec_inv {b r : List UInt8} (h : (readRec (some b)).2 = 0) (hr : (numM (numM (some b)).2).2 = some r) : b = putMo (readRec (some b)).1.1 (readRec (some b)).1.2 ++ r ∧ okRec (readRec (some b)).1 = true := by
  unfold readRec at h ⊢
  rw [if_neg (by rw [hr]; simp)] at h ⊢
  generalize h1 : numM (some b) = p at *
  obtain ⟨x, s1⟩ := p
  simp only at *
  cases s1 with
  | none =>
    rw [numM_none] at hr
    cases hr
  | some b1 =>
    generalize h2 : numM (some b1) = q at *
    obtain ⟨y, s2⟩ := q
    simp only at *
    subst hr
    obtain ⟨e1, -⟩ := numM_inv h1
    obtain ⟨e2, -⟩ := numM_inv h2
    split at h
    · rename_i hok
      rw [if_pos hok]
      refine ⟨?_, hok⟩
      show b = (putL (x : Int).toNat ++ putL (y : Int).toNat) ++ r
      rw [Int.toNat_natCast, Int.toNat_natCast, e1, e2, List.append_assoc]
    · cases h
set_option maxRecDepth 100000 in
theorem readRec_bad (s : Option (List UInt8)) (h : (readRec s).2 = 0) : ∃ b r, s = some b ∧ (numM (numM s).2).2 = some r := by
  match s with
  | none => exact absurd h (by decide)
  | some b =>
    unfold readRec at h
    split at h
    · cases h
    · rename_i hn
      obtain ⟨r, hr⟩ := Option.ne_none_iff_exists'.1 hn
      exact ⟨b, r, rfl, hr⟩
set_option maxRecDepth 100000 in
theorem decL_inv : ∀ (n : Nat) (b : List UInt8) (l : List (Int × Int)) (r : List UInt8), decL n (some b) = some (l, some r) → b = recsB l ++ r ∧ (∀ x ∈ l, okRec x = true) ∧ l.length = n
  | 0, b, l, r, h => by
    injection h with h
    injection h with h1 h2
    injection h2 with h2
    subst h1 h2
    exact ⟨rfl, by simp, rfl⟩
  | n + 1, b, l, r, h => by
    unfold decL at h
    split at h
    · rename_i hz
      obtain ⟨b', r', e, hr⟩ := readRec_bad _ hz
      injection e with e
      subst e
      rw [hr, Option.map_eq_some_iff] at h
      obtain ⟨y, hy, e⟩ := h
      obtain ⟨l', s'⟩ := y
      injection e with e1 e2
      simp only at e1 e2
      subst e1 e2
      obtain ⟨i1, i2, i3⟩ := decL_inv n r' l' r hy
      obtain ⟨j1, j2⟩ := readRec_inv hz hr
      refine ⟨?_, fun x hx => ?_, by rw [List.length_cons, i3]⟩
      · rw [recsB_cons, List.append_assoc, ← i1]
        exact j1
      · rcases List.mem_cons.1 hx with e | hx
        · rw [e]; exact j2
        · exact i2 x hx
    · cases h
set_option maxRecDepth 100000 in
theorem decR_inv {b : List UInt8} {l : List (Int × Int)} (h : decR b = some l) : encR l = b ∧ mayE l = 0 ∧ sortedB l = true ∧ l.length ≤ 4096 := by
  unfold decR at h
  generalize h1 : numM (some b) = p at h
  obtain ⟨n, s1⟩ := p
  simp only at h
  split at h
  · cases h
  · rename_i hn
    split at h
    · cases h
    · rename_i y hy
      split at h
      · rename_i hd
        injection h with h
        obtain ⟨l', s'⟩ := y
        simp only at h hd
        subst h
        have hs' : s' = some [] := by
          have := hd.1
          match s' with
          | none => exact absurd this (by decide)
          | some [] => rfl
          | some (_ :: _) => simp [doneM] at this
        subst hs'
        match s1 with
        | none =>
          exfalso
          cases n with
          | zero => injection hy with hy; injection hy with _ hy; cases hy
          | succ n =>
            unfold decL at hy
            rw [if_neg (by decide)] at hy
            cases hy
        | some b1 =>
          obtain ⟨e1, -⟩ := numM_inv h1
          obtain ⟨i1, i2, i3⟩ := decL_inv n b1 l' [] hy
          rw [List.append_nil] at i1
          refine ⟨?_, ?_, hd.2, by omega⟩
          · unfold encR
            rw [srt_self ((sortedB_srt l').1 hd.2), i3, ← i1]
            exact e1.symm
          · unfold mayE
            rw [if_neg, if_neg (by omega)]
            rw [Bool.not_eq_true, List.any_eq_false]
            intro x hx
            rw [i2 x hx]
            simp
      · cases h

set_option maxRecDepth 100000 in
theorem readRec_put (x : Int × Int) (r : List UInt8) (h : okRec x = true) : readRec (some (putMo x.1 x.2 ++ r)) = (x, 0) ∧ (numM (numM (some (putMo x.1 x.2 ++ r))).2).2 = some r := by
  obtain ⟨a, b⟩ := x
  have hk := (okRec_iff a b).1 h
  have e1 : numM (some (putMo a b ++ r)) = (a.toNat, some (putL b.toNat ++ r)) := by
    show numM (some ((putL a.toNat ++ putL b.toNat) ++ r)) = _
    rw [List.append_assoc]
    exact numM_put a.toNat (by omega) _
  have e2 : numM (some (putL b.toNat ++ r)) = (b.toNat, some r) := numM_put b.toNat (by omega) _
  have ea : ((a.toNat : Nat) : Int) = a := by omega
  have eb : ((b.toNat : Nat) : Int) = b := by omega
  unfold readRec
  simp only
  rw [e1]
  simp only
  rw [e2]
  simp only
  rw [if_neg (by simp), ea, eb, if_pos h]
  exact ⟨rfl, trivial⟩
theorem decL_enc : ∀ (l : List (Int × Int)) (r : List UInt8), (∀ x ∈ l, okRec x = true) → decL l.length (some (recsB l ++ r)) = some (l, some r)
  | [], r, _ => rfl
  | x :: l, r, h => by
    rw [List.length_cons, recsB_cons, List.append_assoc]
    obtain ⟨e1, e2⟩ := readRec_put x (recsB l ++ r) (h x (List.mem_cons_self ..))
    unfold decL
    rw [e1, e2, if_pos rfl, decL_enc l r fun y hy => h y (List.mem_cons_of_mem _ hy)]
    rfl
theorem decR_enc {l : List (Int × Int)} (h : mayE l = 0) : decR (encR l) = some (srt l) := by
  obtain ⟨hok, hn⟩ := mayE_ok h
  have e1 : numM (some (encR l)) = (l.length, some (recsB (srt l))) := numM_put l.length (by omega) _
  have e2 : decL l.length (some (recsB (srt l))) = some (srt l, some []) := by
    have := decL_enc (srt l) [] fun x hx => hok x ((srt_perm l).mem_iff.1 hx)
    rw [srt_length, List.append_nil] at this
    exact this
  unfold decR
  rw [e1]
  simp only
  rw [if_neg (by omega), e2]
  show (if doneM (some []) = 0 ∧ sortedB (srt l) = true then some (srt l) else none) = _
  rw [if_pos ⟨rfl, (sortedB_srt _).2 (srt_sorted l)⟩]
end Go.Proofs.Ytibhofdblfgkbaa
