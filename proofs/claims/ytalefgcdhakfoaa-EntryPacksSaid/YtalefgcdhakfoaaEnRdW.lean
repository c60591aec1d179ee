/- The law of package entry about what bytes are as a pack. -/
import Derived.Test.YtalefgcdhakfoaaEnL
import Derived.Test.YtalefgcdhakfoaaEnI
namespace Go.Proofs.Ytalefgcdhakfoaa
open Go.RowKit Go.Sort

theorem readMo_inv {b r : List UInt8} (h : (readMo (some b)).2 = 0) (hr : readS (some b) = some r) : b = putMo (readMo (some b)).1.1 (readMo (some b)).1.2 ++ r ∧ okMo (readMo (some b)).1 = true := by
  unfold readS at hr
  unfold readMo at h ⊢
  rw [if_neg (by rw [hr]; simp)] at h ⊢
  generalize h1 : numM (some b) = p at *
  obtain ⟨x, s1⟩ := p
  simp only at *
  cases s1 with
  | none =>
    rw [numM_none] at hr
    cases hr
  | some b1 =>
    generalize h2 : numM (some b1) = q at *
    obtain ⟨y, s2⟩ := q
    simp only at *
    subst hr
    obtain ⟨e1, -⟩ := numM_inv h1
    obtain ⟨e2, -⟩ := numM_inv h2
    split at h
    · rename_i hok
      rw [if_pos hok]
      refine ⟨?_, hok⟩
      show b = (putL (x : Int).toNat ++ putL (y : Int).toNat) ++ r
      rw [Int.toNat_natCast, Int.toNat_natCast, e1, e2, List.append_assoc]
    · cases h
theorem readRec_inv {b r : List UInt8} (h : (readRec (some b)).2 = 0) (hr : readS (some b) = some r) : b = putMo (readRec (some b)).1.1 (readRec (some b)).1.2 ++ r ∧ okRec (readRec (some b)).1 = true := by
  unfold readS at hr
  unfold readRec at h ⊢
  rw [if_neg (by rw [hr]; simp)] at h ⊢
  generalize h1 : numM (some b) = p at *
  obtain ⟨x, s1⟩ := p
  simp only at *
  cases s1 with
  | none =>
    rw [numM_none] at hr
    cases hr
  | some b1 =>
    generalize h2 : numM (some b1) = q at *
    obtain ⟨y, s2⟩ := q
    simp only at *
    subst hr
    obtain ⟨e1, -⟩ := numM_inv h1
    obtain ⟨e2, -⟩ := numM_inv h2
    split at h
    · rename_i hok
      rw [if_pos hok]
      refine ⟨?_, hok⟩
      show b = (putL (x : Int).toNat ++ putL (y : Int).toNat) ++ r
      rw [Int.toNat_natCast, Int.toNat_natCast, e1, e2, List.append_assoc]
    · cases h
/-- What entries are as bytes, one behind the other. -/
def catE (l : List En) : List UInt8 := l.flatMap putE
theorem unp_inv : ∀ (n : Nat) (r : List UInt8) (l : List En), unpL n (some r) = some l → r.length ≤ n → r = catE l ∧ ∀ x ∈ l, okEn x = true
  | 0, r, l, h, hn => by
    have e : r = [] := List.eq_nil_of_length_eq_zero (by omega)
    injection h with h
    subst h e
    exact ⟨rfl, fun x hx => by cases hx⟩
  | n + 1, r, l, h, hn => by
    unfold unpL at h
    by_cases h0 : leftM (some r) = 0
    · rw [if_pos h0] at h
      have e : r = [] := List.eq_nil_of_length_eq_zero h0
      injection h with h
      subst h e
      exact ⟨rfl, fun x hx => by cases hx⟩
    · rw [if_neg h0] at h
      by_cases hk : (readMo (some r)).2 = 0 ∧ (readRec (readS (some r))).2 = 0
      · rw [if_pos hk, Option.map_eq_some_iff] at h
        obtain ⟨l', h1, rfl⟩ := h
        obtain ⟨r1, hr1⟩ := Option.ne_none_iff_exists'.1 (readMo_some hk.1)
        obtain ⟨k1, k2⟩ := hk
        obtain ⟨e1, o1⟩ := readMo_inv k1 hr1
        rw [hr1] at k2 h1 ⊢
        obtain ⟨r2, hr2⟩ := Option.ne_none_iff_exists'.1 (readRec_some k2)
        obtain ⟨e2, o2⟩ := readRec_inv k2 hr2
        have hl := readS_lt (some r) (readMo_some k1)
        have hl2 := readS_lt (some r1) (readRec_some k2)
        rw [hr1] at hl
        rw [hr2] at hl2 h1
        have hl' : r1.length + 2 ≤ r.length := hl
        have hl2' : r2.length + 2 ≤ r1.length := hl2
        obtain ⟨e3, o3⟩ := unp_inv n r2 l' h1 (by omega)
        refine ⟨?_, fun x hx => ?_⟩
        · show r = putE ((readMo (some r)).1, (readRec (some r1)).1) ++ catE l'
          unfold putE
          rw [List.append_assoc, ← e3, ← e2, ← e1]
        · rcases List.mem_cons.1 hx with rfl | hx
          · show (okMo (readMo (some r)).1 && okRec (readRec (some r1)).1) = true
            rw [o1, o2]; rfl
          · exact o3 x hx
      · rw [if_neg hk] at h; cases h
theorem pack_fold : ∀ (l : List En) (acc : List UInt8), acc.length + (catE l).length ≤ 43 → l.foldl stepP ([], acc) = ([], acc ++ catE l)
  | [], acc, _ => by show ([], acc) = ([], acc ++ []); rw [List.append_nil]
  | x :: l, acc, h => by
    have hc : catE (x :: l) = putE x ++ catE l := rfl
    rw [hc, List.length_append] at h
    rw [List.foldl_cons]
    have hs : stepP ([], acc) x = ([], acc ++ putE x) := by
      unfold stepP
      rw [if_neg (by simp only; omega)]
    rw [hs, pack_fold l (acc ++ putE x) (by rw [List.length_append]; omega), hc, List.append_assoc]
theorem pack_cat (l : List En) (h : (catE l).length ≤ 43) : packM l = if (catE l).length = 0 then [] else [catE l] := by
  have hp : packS l = ([], catE l) := by
    unfold packS
    rw [pack_fold l [] (by simpa using h), List.nil_append]
  unfold packM
  rw [hp]
  rfl
theorem firstE_all : ∀ (l : List En), (∀ x ∈ l, okEn x = true) → firstE l = 0
  | [], _ => rfl
  | x :: l, h => by
    unfold firstE
    have h0 : enE x = 0 := by
      have := enE_zero x
      rw [h x (List.mem_cons_self ..)] at this
      simpa using this
    rw [if_pos h0]
    exact firstE_all l fun y hy => h y (List.mem_cons_of_mem _ hy)
theorem catE_len : ∀ (l : List En), (∀ x ∈ l, okEn x = true) → l.length ≤ (catE l).length
  | [], _ => Nat.le_refl _
  | x :: l, h => by
    have h1 := putE_len x (h x (List.mem_cons_self ..))
    have h2 := catE_len l fun y hy => h y (List.mem_cons_of_mem _ hy)
    have hc : catE (x :: l) = putE x ++ catE l := rfl
    rw [hc, List.length_append, List.length_cons]
    omega
theorem unp_may {b : List UInt8} {l : List En} (h : unpM b = some l) (hb : b.length ≤ 43) : mayEs l = 0 ∧ l.length ≤ 43 ∧ packM l = if b.length = 0 then [] else [b] := by
  obtain ⟨e, ho⟩ := unp_inv _ _ _ h (Nat.le_refl _)
  have h1 := catE_len l ho
  rw [← e] at h1
  refine ⟨?_, by omega, ?_⟩
  · unfold mayEs
    rw [if_pos (firstE_all l ho), if_neg (by omega)]
  · rw [pack_cat l (by rw [← e]; exact hb), ← e]
/-- One pack's row: these bytes. -/
def OneG (w : World) (A' : Option Addr) (l : List UInt8) : Prop :=
  ∃ (g : Nat) (A2 : Option Addr) (h2 c2 : Nat), A' = some ⟨g, 0, none⟩ ∧ w.cell? ⟨g, 0, none⟩ = some (.slice A2 l.length c2) ∧ g < w.heap.size ∧ SlB w h2 A2 l
theorem OneG.below {w w' : World} {A' : Option Addr} {l : List UInt8} (h : OneG w A' l) (hb : Below w.heap.size w w') : OneG w' A' l := by
  obtain ⟨g, A2, h2, c2, e, hc, hg, hs⟩ := h
  exact ⟨g, A2, h2, c2, e, (hb.cell (p := ⟨g, 0, none⟩) hg).trans hc, Nat.lt_of_lt_of_le hg hb.size, hs.below hb fun h => h⟩
theorem Pgs.oneG {w : World} {base c : Nat} {A' : Option Addr} {l : List UInt8} (h : Pgs w base (.slice A' 1 c) [l]) : OneG w A' l := by
  obtain ⟨xs, hl, ho, hp⟩ := h
  obtain ⟨x, rfl⟩ : ∃ x, xs = [x] := by
    match xs, hl with
    | [x], _ => exact ⟨x, rfl⟩
  obtain ⟨A2, n2, c2⟩ := x
  have h1 := hp 0 _ _ rfl rfl
  obtain ⟨hn, ho2⟩ := h1
  simp only at hn
  subst hn
  obtain ⟨g, cap, hv, -, -⟩ := ho.form (by simp)
  injection hv with hv1 hv2 hv3
  subst hv1
  obtain ⟨h2, -, hs, -⟩ := SlB.of_own ho2
  exact ⟨g, A2, h2, c2, rfl, own_cell ho (j := 0) rfl, (World.ownsRow.lt ho g rfl).2, hs⟩
end Go.Proofs.Ytalefgcdhakfoaa
