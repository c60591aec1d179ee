/- Contracts of a disk: Flip. -/
import Derived.Test.YtfmmdnjoichifaaFiAc
import Derived.Test.YtfmmdnjoichifaaFiAb
import Derived.Test.YtfmmdnjoichifaaFiP
namespace Go.Proofs.Ytfmmdnjoichifaa
open Go.RowKit Go.Sort

theorem own_same {w1 w2 : World} {base e K n g c : Nat} {xs : List Value} (h : w1.ownsRow base e K (.slice (some ⟨g, 0, none⟩) n c) n xs) (he : w2.heap[g]? = w1.heap[g]?) : w2.ownsRow base e K (.slice (some ⟨g, 0, none⟩) n c) n xs := by
  refine ⟨h.1, ?_⟩
  rcases h.2 with ⟨hv, h0⟩ | ⟨g', cap, cur', hv, hb, hh, hnc, hcm, hcs, ht⟩
  · cases hv
  · injection hv with hv1 hv2 hv3
    injection hv1 with hv1
    injection hv1 with hv1
    subst hv1
    subst hv3
    exact .inr ⟨g, c, cur', rfl, hb, he.trans hh, hnc, hcm, hcs, ht⟩
/-- Bits of a sector within a row are turned. -/
theorem turn_row {w : World} {base e K n g c : Nat} {xs : List Value} (h : w.ownsRow base e K (.slice (some ⟨g, 0, none⟩) n c) n xs) (o : Nat) (s : Sec) (hs : ∀ j u, (encSec s)[j]? = some u → xs[o + j]? = some u) (hfit : o + 64 ≤ n * K) (at' tn : Nat) (ha : at' ≤ 480) (ht : tn < 4294967296) :
    Calls Try.prog 93 #[.pointer (some ⟨g, o, none⟩), .int .i64 (at' : Int), .int .u32 (tn : Int)] w fun e' w' => e' = .returned (.tuple #[]) ∧ w'.ownsRow base e K (.slice (some ⟨g, 0, none⟩) n c) n (xs.take o ++ encSec (turnS at' tn s 32) ++ xs.drop (o + 64)) ∧ w.grownBy w' (some g) := by
  have h0 := h
  rcases h0.2 with ⟨hv, -⟩ | ⟨g', cap, cur, hv, hb, hh, hnc, hcm, hcs, hx⟩
  · cases hv
  · injection hv with hv1 hv2 hv3
    injection hv1 with hv1
    injection hv1 with hv1
    subst hv1
    subst hv3
    have hsz : o + 64 ≤ cur.size := by rw [hcs]; exact Nat.le_trans hfit (Nat.mul_le_mul_right K hnc)
    have hcur : cur = (secIn cur o s).toArray := by
      have e1 : (cur.toList.drop o).take 64 = encSec s := by
        apply List.ext_getElem?
        intro j
        by_cases hj : j < 64
        · obtain ⟨u, hu⟩ : ∃ u, (encSec s)[j]? = some u := ⟨(encSec s)[j]'(by rw [laySec.len]; exact hj), List.getElem?_eq_getElem _⟩
          have := hs j u hu
          rw [← hx, List.getElem?_take, if_pos (by omega)] at this
          rw [List.getElem?_take, if_pos hj, List.getElem?_drop, hu]
          exact this
        · rw [List.getElem?_eq_none (by rw [List.length_take]; omega), List.getElem?_eq_none (by rw [laySec.len]; omega)]
      have e2 : cur.toList = secIn cur o s := by
        unfold secIn
        rw [← e1, List.append_assoc, ← List.drop_drop, List.take_append_drop, List.take_append_drop]
      rw [← e2]
    have hh2 : w.heap[g]? = some (.cells (secIn cur o s).toArray e (0, 0)) := by rw [← hcur]; exact hh
    refine (turn_any w g o s cur e at' tn hh2 hsz ha ht).mono ?_
    rintro e' w' ⟨rfl, h2, h3⟩
    refine ⟨rfl, ?_, h3⟩
    have hl := laySec.len (turnS at' tn s 32)
    have hsp := own_splice h hh o (encSec (turnS at' tn s 32)) (by rw [hl]; exact hfit)
    rw [hl] at hsp
    exact own_same hsp (h2.trans (setRow_heap w g cur _ e _ hh).symm)
def flipP (b i at' tn : Nat) (p : Wr) : Wr := if p.f = b ∧ p.i = i then { p with b := turnS at' tn p.b 32 } else p
def flipF (f : Fi) (i at' tn : Nat) : Fi := { f with now := f.now.set i (turnS at' tn (f.now.getD i zS) 32), kept := f.kept.set i (turnS at' tn (f.kept.getD i zS) 32) }
def flipD (D : Dk) (f : Fi) (i at' tn : Nat) : Dk := { D with fs := updF D.fs (flipF f i at' tn), pend := D.pend.map (flipP f.blk i at' tn) }
theorem RowV_turn (l : List Sec) (i : Nat) (hi : i < l.length) (s : Sec) : (RowV encSec l).take (i * 64) ++ encSec s ++ (RowV encSec l).drop (i * 64 + 64) = RowV encSec (l.set i s) := (RowV_set laySec l i s hi).symm
theorem RowV_turnP (l : List Wr) (k : Nat) (p : Wr) (hk : l[k]? = some p) (s : Sec) : (RowV encWr l).take (k * 66 + 2) ++ encSec s ++ (RowV encWr l).drop (k * 66 + 2 + 64) = RowV encWr (l.set k { p with b := s }) := by
  have hkl := (List.getElem?_eq_some_iff.1 hk).1
  rw [RowV_set layWr l k _ hkl]
  have e1 : (RowV encWr l).take (k * 66 + 2) = (RowV encWr l).take (k * 66) ++ [.pointer (some ⟨p.f, 0, none⟩), .int .i64 (p.i : Int)] := by
    rw [List.take_add]
    congr 1
    apply List.ext_getElem?
    intro j
    rw [List.getElem?_take]
    split
    · rw [List.getElem?_drop, RowV_get layWr l k j p hk (by omega)]
      match j with
      | 0 => rfl
      | 1 => rfl
      | j + 2 => omega
    · rw [List.getElem?_eq_none (by simp; omega)]
  rw [e1]
  unfold encWr
  simp only [List.append_assoc, List.cons_append, List.nil_append]
end Go.Proofs.Ytfmmdnjoichifaa
