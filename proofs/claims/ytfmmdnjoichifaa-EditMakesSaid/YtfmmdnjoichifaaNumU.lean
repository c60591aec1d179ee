/- What reads as a number is that number's bytes: the mathematics. -/
import Derived.Test.YtfmmdnjoichifaaNumRd
namespace Go.Proofs.Ytfmmdnjoichifaa
open Go.RowKit

theorem snoc_ind {P : List UInt8 → Prop} (h0 : P []) (h1 : ∀ l b, P l → P (l ++ [b])) (l : List UInt8) : P l := by
  have key : ∀ (n : Nat) (l : List UInt8), l.length = n → P l := by
    intro n
    induction n with
    | zero => intro l hl; rw [List.eq_nil_of_length_eq_zero hl]; exact h0
    | succ n ih =>
      intro l hl
      rcases List.eq_nil_or_concat l with rfl | ⟨t, b, rfl⟩
      · simp at hl
      · rw [List.concat_eq_append] at hl ⊢
        exact h1 t b (ih t (by simpa using hl))
  exact key _ l rfl
theorem be_beV (l : List UInt8) : be l.length (beV l) = l := by
  refine snoc_ind (P := fun l => be l.length (beV l) = l) rfl (fun l b ih => ?_) l
  rw [List.length_append, List.length_singleton, be_succ, beV_snoc]
  have hb := b.toNat_lt
  rw [show (beV l * 256 + b.toNat) / 256 = beV l by omega, ih]
  congr 2
  refine UInt8.toNat_inj.1 ?_
  rw [UInt8.toNat_ofNat']
  omega
theorem fixedM_some {k : Int} {b r : List UInt8} {v : Nat} (h : fixedM k (some b) = (v, some r)) (h1 : 1 ≤ k) (h8 : k ≤ 8) : ∃ t, b = t ++ r ∧ (t.length : Int) = k ∧ beV t = v ∧ beV t ≤ 9223372036854775807 := by
  unfold fixedM at h
  rw [if_pos ⟨h1, h8⟩] at h
  split at h
  · cases h
  · rename_i hv
    have ha : beV (takeM k (some b)).1 = v := congrArg Prod.fst h
    have hb : (takeM k (some b)).2 = some r := congrArg Prod.snd h
    unfold takeM at ha hb hv
    simp only at ha hb hv
    split at hb
    · rename_i hk
      rw [if_pos hk] at ha hv
      simp only at ha hb hv
      injection hb with hb
      exact ⟨b.take k.toNat, by rw [← hb, List.take_append_drop], by rw [List.length_take]; omega, ha, by omega⟩
    · cases hb
set_option maxRecDepth 100000 in
theorem numM_inv {b r : List UInt8} {n : Nat} (h : numM (some b) = (n, some r)) : b = putL n ++ r ∧ n ≤ 9223372036854775807 := by
  unfold numM at h
  simp only at h
  generalize hf : fixedM 1 (some b) = f at h
  obtain ⟨x, sx⟩ := f
  simp only at h
  split at h
  · cases h
  · rename_i hx0
    obtain ⟨b1, rfl⟩ : ∃ b1, sx = some b1 := Option.ne_none_iff_exists'.1 hx0
    obtain ⟨t, e1, e2, e3, -⟩ := fixedM_some hf (by omega) (by omega)
    obtain ⟨c, rfl⟩ : ∃ c, t = [c] := by
      match t, e2 with
      | [c], _ => exact ⟨c, rfl⟩
      | [], e2 => simp at e2
      | _ :: _ :: _, e2 => simp at e2; omega
    have ex : c.toNat = x := by simpa [beV] using e3
    have hc := c.toNat_lt
    subst e1
    split at h
    · rename_i h240
      injection h with h1 h2
      injection h2 with h2
      subst h1 h2
      refine ⟨?_, by omega⟩
      unfold putL
      rw [if_pos h240, ← ex]
      simp
    · rename_i h240
      split at h
      · rename_i h248
        generalize hg : fixedM 1 (some b1) = g at h
        obtain ⟨y, sy⟩ := g
        simp only at h
        split at h
        · cases h
        · rename_i hy0
          obtain ⟨b2, rfl⟩ : ∃ b2, sy = some b2 := Option.ne_none_iff_exists'.1 hy0
          obtain ⟨t, e1, e2, e3, -⟩ := fixedM_some hg (by omega) (by omega)
          obtain ⟨d, rfl⟩ : ∃ d, t = [d] := by
            match t, e2 with
            | [d], _ => exact ⟨d, rfl⟩
            | [], e2 => simp at e2
            | _ :: _ :: _, e2 => simp at e2; omega
          have ey : d.toNat = y := by simpa [beV] using e3
          have hd := d.toNat_lt
          subst e1
          injection h with h1 h2
          injection h2 with h2
          subst h1 h2
          refine ⟨?_, by omega⟩
          unfold putL
          rw [if_neg (by omega), if_pos (by omega)]
          rw [show 240 + (240 + (x - 240) * 256 + y - 240) / 256 = x by omega, show 240 + (x - 240) * 256 + y - 240 = (x - 240) * 256 + y by omega]
          have k1 : UInt8.ofNat x = c := by rw [← ex]; simp
          have k2 : UInt8.ofNat ((x - 240) * 256 + y) = d := by
            refine UInt8.toNat_inj.1 ?_
            rw [UInt8.toNat_ofNat']
            omega
          rw [k1, k2]
          rfl
      · rename_i h248
        split at h
        · rename_i h254
          generalize hg : fixedM ((x : Int) - 246) (some b1) = g at h
          obtain ⟨y, sy⟩ := g
          simp only at h
          split at h
          · cases h
          · rename_i hy0
            have hy1 : sy ≠ none := fun e => hy0 (.inl e)
            have hy2 : (putL y).length = x - 245 := by
              rcases Nat.decEq (putL y).length (x - 245) with e | e
              · exact absurd (.inr e) hy0
              · exact e
            obtain ⟨b2, rfl⟩ := Option.ne_none_iff_exists'.1 hy1
            obtain ⟨t, e1, e2, e3, e4⟩ := fixedM_some hg (by omega) (by omega)
            subst e1
            injection h with h1 h2
            injection h2 with h2
            subst h1 h2
            refine ⟨?_, by omega⟩
            have hpl := putL_length y
            unfold putL
            rw [hy2] at hpl
            by_cases k240 : y < 240
            · rw [if_pos k240] at hpl; omega
            · rw [if_neg k240] at hpl
              by_cases k2288 : y < 2288
              · rw [if_pos k2288] at hpl; omega
              · rw [if_neg k2288] at hpl
                rw [if_neg k240, if_neg k2288]
                have hnb : nb y = t.length := by omega
                rw [hnb, ← e3, be_beV, show 246 + t.length = x by omega, ← ex]
                simp
        · cases h

theorem numM_none : numM none = (0, none) := rfl
end Go.Proofs.Ytfmmdnjoichifaa
