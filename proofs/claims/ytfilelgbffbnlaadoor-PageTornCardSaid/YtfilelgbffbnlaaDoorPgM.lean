/- Plain mathematics of pages: what a page is, what is read of one; torn and turned. -/
import Derived.Test.YtfilelgbffbnlaaDoorCrcBm
import Derived.Test.YtfilelgbffbnlaaDoorNumRd
namespace Go.Proofs.YtfilelgbffbnlaaDoor
open Go.RowKit

def pageBody (t : Nat) (b : List UInt8) : List UInt8 := be 8 t ++ ([UInt8.ofNat b.length] ++ (b ++ List.replicate (43 - b.length) 0))
def pageM (t : Nat) (b : List UInt8) : List UInt8 := sealM (pageBody t b) ++ be 8 t
def okTag (t : Int) : Bool := decide (1 ≤ t) && decide (t ≤ 4611686018427387903)
theorem okTag_iff (t : Int) : okTag t = true ↔ 1 ≤ t ∧ t ≤ 4611686018427387903 := by
  unfold okTag
  rw [Bool.and_eq_true, decide_eq_true_eq, decide_eq_true_eq]
theorem pageBody_length (t : Nat) (b : List UInt8) (h : b.length ≤ 43) : (pageBody t b).length = 52 := by
  unfold pageBody
  simp [be_length]
  omega
theorem seal_page_length (t : Nat) (b : List UInt8) (h : b.length ≤ 43) : (sealM (pageBody t b)).length = 56 := by
  rw [sealM_length, pageBody_length t b h]
theorem pageM_length (t : Nat) (b : List UInt8) (h : b.length ≤ 43) : (pageM t b).length = 64 := by
  unfold pageM
  rw [List.length_append, seal_page_length t b h, be_length]
theorem pageM_tail (t : Nat) (b : List UInt8) (h : b.length ≤ 43) : (pageM t b).drop 56 = be 8 t := by
  unfold pageM
  exact List.drop_left' (seal_page_length t b h)
theorem pageM_sealed (t : Nat) (b : List UInt8) (h : b.length ≤ 43) : (pageM t b).take 56 = sealM (pageBody t b) := by
  unfold pageM
  exact List.take_left' (seal_page_length t b h)
theorem pageM_split (t : Nat) (b : List UInt8) : pageM t b = be 8 t ++ ([UInt8.ofNat b.length] ++ (b ++ (List.replicate (43 - b.length) 0 ++ (le4 (moreM 0 (pageBody t b)) ++ be 8 t)))) := by
  unfold pageM sealM
  conv => lhs; rw [show pageBody t b ++ le4 (moreM 0 (pageBody t b)) ++ be 8 t = pageBody t b ++ (le4 (moreM 0 (pageBody t b)) ++ be 8 t) from List.append_assoc ..]
  generalize le4 (moreM 0 (pageBody t b)) ++ be 8 t = z
  unfold pageBody
  simp only [List.append_assoc]
theorem pageM_head (t : Nat) (b : List UInt8) : (pageM t b).take 8 = be 8 t := by
  rw [pageM_split]
  exact List.take_left' (be_length 8 t)
theorem pageM_size (t : Nat) (b : List UInt8) (h : b.length ≤ 43) : ((pageM t b).getD 8 0).toNat = b.length := by
  rw [pageM_split, List.getD_eq_getElem?_getD, List.getElem?_append_right (by rw [be_length]; exact Nat.le_refl _), be_length]
  simp
  omega
/-- What stands behind the size. -/
def heldM (s : List UInt8) : List UInt8 := (s.drop 9).take (s.getD 8 0).toNat
theorem pageM_held (t : Nat) (b : List UInt8) (h : b.length ≤ 43) : heldM (pageM t b) = b := by
  unfold heldM
  rw [pageM_size t b h, pageM_split, ← List.append_assoc, List.drop_left' (by rw [List.length_append, be_length]; rfl)]
  exact List.take_left' rfl
theorem beV_tag (t : Nat) (h : t ≤ 4611686018427387903) : beV (be 8 t) = t := beV_be 8 t (by omega)
/-- The tag with which bytes begin, as it is read. -/
def tagV (s : List UInt8) : Int := ((fixedM 8 (some (s.take 8))).1 : Int)
def tagOk (s : List UInt8) : Bool := decide (s.length = 64) && (s.take 8 == s.drop 56) && okTag (tagV s)
theorem tagOk_iff (s : List UInt8) : tagOk s = true ↔ s.length = 64 ∧ s.take 8 = s.drop 56 ∧ okTag (tagV s) = true := by
  unfold tagOk
  rw [Bool.and_eq_true, Bool.and_eq_true, decide_eq_true_eq, beq_iff_eq, and_assoc]
theorem fixed_tag (t : Nat) (h : t ≤ 4611686018427387903) : (fixedM 8 (some (be 8 t))).1 = t := by
  have := fixedM_app (be 8 t) [] 8 (by rw [be_length]; rfl) (by rw [be_length]; omega) (by rw [be_length]; omega) (by rw [beV_tag t h]; omega)
  rw [List.append_nil] at this
  rw [this, beV_tag t h]
theorem pageM_tagV (t : Nat) (b : List UInt8) (ht : t ≤ 4611686018427387903) : tagV (pageM t b) = (t : Int) := by
  unfold tagV
  rw [pageM_head, fixed_tag t ht]
theorem pageM_tagOk (t : Nat) (b : List UInt8) (ht : okTag (t : Int) = true) (hb : b.length ≤ 43) : tagOk (pageM t b) = true := by
  have h2 := (okTag_iff _).1 ht
  rw [tagOk_iff, pageM_length t b hb, pageM_head, pageM_tail t b hb, pageM_tagV t b (by omega)]
  exact ⟨rfl, rfl, ht⟩
/-- What is wrong with bytes as a page of a tag. -/
def getE (s : List UInt8) (tag : Int) : Int :=
  if tagOk s = true ∧ tagV s = tag then (if (s.getD 8 0).toNat ≤ 43 ∧ pageM tag.toNat (heldM s) = s then 0 else 20) else 60
theorem heldM_length (s : List UInt8) (hs : s.length = 64) (h : (s.getD 8 0).toNat ≤ 43) : (heldM s).length = (s.getD 8 0).toNat := by
  unfold heldM
  rw [List.length_take, List.length_drop, hs]
  omega
theorem getE_page (t : Nat) (b : List UInt8) (ht : okTag (t : Int) = true) (hb : b.length ≤ 43) : getE (pageM t b) (t : Int) = 0 := by
  have h2 := (okTag_iff _).1 ht
  unfold getE
  rw [if_pos ⟨pageM_tagOk t b ht hb, pageM_tagV t b (by omega)⟩, if_pos ⟨by rw [pageM_size t b hb]; exact hb, by rw [pageM_held t b hb, Int.toNat_natCast]⟩]
theorem getE_ok {s : List UInt8} {tag : Int} (h : getE s tag = 0) : okTag tag = true ∧ (heldM s).length ≤ 43 ∧ s = pageM tag.toNat (heldM s) := by
  unfold getE at h
  split at h
  · rename_i h1
    split at h
    · rename_i h2
      have h3 := (tagOk_iff s).1 h1.1
      refine ⟨by rw [← h1.2]; exact h3.2.2, by rw [heldM_length s h3.1 h2.1]; exact h2.1, h2.2.symm⟩
    · exact absurd h (by omega)
  · exact absurd h (by omega)
theorem getE_values (s : List UInt8) (tag : Int) : getE s tag = 0 ∨ getE s tag = 20 ∨ getE s tag = 60 := by
  unfold getE
  split
  · split <;> simp
  · simp
theorem getE_other (t : Nat) (b : List UInt8) (ht : okTag (t : Int) = true) (tag : Int) (hne : tag ≠ (t : Int)) : getE (pageM t b) tag = 60 := by
  have h2 := (okTag_iff _).1 ht
  unfold getE
  rw [if_neg]
  rintro ⟨_, h⟩
  rw [pageM_tagV t b (by omega)] at h
  exact hne h.symm
/-- Torn pages: the new one's tag. -/
theorem torn_new (o t : Nat) (a b : List UInt8) (ho : okTag (o : Int) = true) (ht : okTag (t : Int) = true) (ha : a.length ≤ 43) (hb : b.length ≤ 43) (hne : o ≠ t) (n : Nat) (hn : n ≤ 64) :
    getE ((pageM t b).take n ++ (pageM o a).drop n) (t : Int) = 0 ↔ (pageM t b).take n ++ (pageM o a).drop n = pageM t b := by
  have h1 := (okTag_iff _).1 ho
  have h2 := (okTag_iff _).1 ht
  constructor
  · intro h
    obtain ⟨-, hl, hz⟩ := getE_ok h
    rw [Int.toNat_natCast] at hz
    generalize hd : heldM ((pageM t b).take n ++ (pageM o a).drop n) = d at hl hz
    have hzt := pageM_tail t d hl
    have hxt := pageM_tail o a ha
    have hyt := pageM_tail t b hb
    have hx := pageM_length o a ha
    have hy := pageM_length t b hb
    generalize pageM o a = x at *
    generalize hY : pageM t b = y at *
    rw [← hz] at hzt
    by_cases h56 : n ≤ 56
    · exfalso
      rw [List.drop_append, List.drop_eq_nil_of_le (by rw [List.length_take]; omega), List.nil_append, List.drop_drop, List.length_take, Nat.min_eq_left (by omega), show n + (56 - n) = 56 by omega, hxt] at hzt
      have e := congrArg beV hzt
      rw [beV_tag o (by omega), beV_tag t (by omega)] at e
      exact hne e
    · have e1 : ((y.take n ++ x.drop n).take 56) = y.take 56 := by
        rw [List.take_append_of_le_length (by rw [List.length_take]; omega), List.take_take, Nat.min_eq_left (by omega)]
      calc y.take n ++ x.drop n = (y.take n ++ x.drop n).take 56 ++ (y.take n ++ x.drop n).drop 56 := (List.take_append_drop ..).symm
        _ = y.take 56 ++ y.drop 56 := by rw [e1, hzt, hyt]
        _ = y := List.take_append_drop ..
  · intro h
    rw [h]
    exact getE_page t b ht hb
theorem torn_old (o t : Nat) (a b : List UInt8) (ho : okTag (o : Int) = true) (ht : okTag (t : Int) = true) (ha : a.length ≤ 43) (hb : b.length ≤ 43) (hne : o ≠ t) (n : Nat) (hn : n ≤ 64) :
    getE ((pageM t b).take n ++ (pageM o a).drop n) (o : Int) = 0 ↔ (pageM t b).take n ++ (pageM o a).drop n = pageM o a := by
  have h1 := (okTag_iff _).1 ho
  have h2 := (okTag_iff _).1 ht
  constructor
  · intro h
    obtain ⟨-, hl, hz⟩ := getE_ok h
    rw [Int.toNat_natCast] at hz
    generalize hd : heldM ((pageM t b).take n ++ (pageM o a).drop n) = d at hl hz
    have hzt := pageM_head o d
    have hxt := pageM_head o a
    have hyt := pageM_head t b
    have hx := pageM_length o a ha
    have hy := pageM_length t b hb
    generalize hX : pageM o a = x at *
    generalize pageM t b = y at *
    rw [← hz] at hzt
    by_cases h8 : 8 ≤ n
    · exfalso
      rw [List.take_append_of_le_length (by rw [List.length_take]; omega), List.take_take, Nat.min_eq_left h8, hyt] at hzt
      have e := congrArg beV hzt
      rw [beV_tag o (by omega), beV_tag t (by omega)] at e
      exact hne e.symm
    · have e1 : ((y.take n ++ x.drop n).drop 8) = x.drop 8 := by
        rw [List.drop_append, List.drop_eq_nil_of_le (by rw [List.length_take]; omega), List.nil_append, List.drop_drop, List.length_take, Nat.min_eq_left (by omega), show n + (8 - n) = 8 by omega]
      calc y.take n ++ x.drop n = (y.take n ++ x.drop n).take 8 ++ (y.take n ++ x.drop n).drop 8 := (List.take_append_drop ..).symm
        _ = x.take 8 ++ x.drop 8 := by rw [e1, hzt, hxt]
        _ = x := List.take_append_drop ..
  · intro h
    rw [h]
    exact getE_page o a ho ha
theorem leV_append (a b : List UInt8) : leV (a ++ b) = leV a ^^^ leV b * 2 ^ (8 * a.length) := by
  refine Nat.eq_of_testBit_eq fun j => ?_
  rw [Nat.testBit_xor, leV_bit, leV_bit, ← Nat.shiftLeft_eq, Nat.testBit_shiftLeft, leV_bit]
  by_cases h : j / 8 < a.length
  · have h2 : ¬ j ≥ 8 * a.length := by omega
    simp [List.getD_eq_getElem?_getD, List.getElem?_append_left h, h2]
  · have h2 : j ≥ 8 * a.length := by omega
    have h3 : (j - 8 * a.length) / 8 = j / 8 - a.length := by omega
    have h4 : (j - 8 * a.length) % 8 = j % 8 := by omega
    have h5 : a.getD (j / 8) 0 = 0 := by rw [List.getD_eq_getElem?_getD, List.getElem?_eq_none (by omega)]; rfl
    rw [h5, h3, h4]
    simp [List.getD_eq_getElem?_getD, List.getElem?_append_right (show a.length ≤ j / 8 by omega), h2]
theorem leV_lt (l : List UInt8) : leV l < 2 ^ (8 * l.length) := by
  refine Nat.lt_pow_two_of_testBit _ fun j hj => ?_
  rw [leV_bit, List.getD_eq_getElem?_getD, List.getElem?_eq_none (by omega)]
  simp
/-- A page whose bits are turned within 32 in a row is no page of that tag. -/
theorem page_burst (t : Nat) (b d s : List UInt8) (hb : b.length ≤ 43) (hd : d.length ≤ 43) (at_ turn : Nat) (hturn : turn < 4294967296) (hp : turn ≠ 0) (hv : leV s = leV (pageM t b) ^^^ turn * 2 ^ at_)
    (hs : s = pageM t d) : False := by
  obtain ⟨K, hK⟩ : ∃ K : Nat, K = 8 * 56 := ⟨_, rfl⟩
  obtain ⟨J, hJ⟩ : ∃ J : Nat, J = 416 := ⟨_, rfl⟩
  have e1 : leV s = leV (sealM (pageBody t d)) ^^^ leV (be 8 t) * 2 ^ K := by rw [hs, hK]; unfold pageM; rw [leV_append, seal_page_length t d hd]
  have e2 : leV (pageM t b) = leV (sealM (pageBody t b)) ^^^ leV (be 8 t) * 2 ^ K := by rw [hK]; unfold pageM; rw [leV_append, seal_page_length t b hb]
  have l1 := leV_lt (sealM (pageBody t d))
  have l2 := leV_lt (sealM (pageBody t b))
  rw [seal_page_length t d hd, ← hK] at l1
  rw [seal_page_length t b hb, ← hK] at l2
  have key : leV (sealM (pageBody t d)) = leV (sealM (pageBody t b)) ^^^ turn * 2 ^ at_ := by
    rw [e1, e2] at hv
    have h := congrArg (· ^^^ (leV (be 8 t) * 2 ^ K)) hv
    simp only [Nat.xor_assoc, Nat.xor_self, Nat.xor_zero] at h
    rw [h]
    congr 1
    rw [Nat.xor_comm (turn * 2 ^ at_), ← Nat.xor_assoc, Nat.xor_self, Nat.zero_xor]
  have hsmall : turn * 2 ^ at_ < 2 ^ K := by
    have h : turn * 2 ^ at_ = leV (sealM (pageBody t b)) ^^^ leV (sealM (pageBody t d)) := by
      rw [key, ← Nat.xor_assoc, Nat.xor_self, Nat.zero_xor]
    rw [h]
    exact Nat.xor_lt_two_pow l2 l1
  by_cases h : at_ ≤ J
  · exact burst (sealM (pageBody t b)) (sealM (pageBody t d)) at_ turn (by rw [seal_page_length t d hd, seal_page_length t b hb]) (by rw [seal_page_length t b hb]; omega) hturn hp key ⟨_, rfl⟩ ⟨_, rfl⟩
  · have hpow : 2 ^ at_ = 2 ^ (at_ - J) * 2 ^ J := by rw [← Nat.pow_add]; congr 1; omega
    have hk2 : turn * 2 ^ at_ = turn * 2 ^ (at_ - J) * 2 ^ J := by rw [hpow, Nat.mul_assoc]
    have hlt : turn * 2 ^ (at_ - J) < 4294967296 := by
      rw [hk2, show K = 32 + J by omega, Nat.pow_add] at hsmall
      exact Nat.lt_of_mul_lt_mul_right hsmall
    have hne : turn * 2 ^ (at_ - J) ≠ 0 := by
      have := Nat.two_pow_pos (at_ - J)
      exact Nat.mul_ne_zero hp (by omega)
    rw [hk2] at key
    exact burst (sealM (pageBody t b)) (sealM (pageBody t d)) J _ (by rw [seal_page_length t d hd, seal_page_length t b hb]) (by rw [seal_page_length t b hb]; omega) hlt hne key ⟨_, rfl⟩ ⟨_, rfl⟩
end Go.Proofs.YtfilelgbffbnlaaDoor
