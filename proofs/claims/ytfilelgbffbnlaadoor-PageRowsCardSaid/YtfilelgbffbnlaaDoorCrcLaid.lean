/- What the table's premise gives: the table's cells. -/
import Derived.Test.YtfilelgbffbnlaaDoorPgC
import Derived.Test.YtfilelgbffbnlaaDoorOp
import Derived.Test.YtfilelgbffbnlaaDoorTie
import Derived.LaidMore
import Derived.Lay
import Derived.LaidOnce
import Derived.SevenTiedAt
import Derived.OpenShut
namespace Go.Proofs.YtfilelgbffbnlaaDoor
open Go.ChangeShapes Go.WideShapes Go.ChangeAt Go.RowKit

def laidH : List (String × DataW Unit) := [("oxbow/crc.halves", Rows.laid_oxbow_crc_halves)]
set_option maxHeartbeats 1000000 in
set_option maxRecDepth 100000 in
theorem halves_of_laid {W : World} (h : laidMetH Tryd.prog laidH W) : HalvesAt W := by
  rw [MakeChecks.laidMetH_plain _ _ _ (by kernel_rfl)] at h
  obtain ⟨ps, ⟨g, t, cs, fuel, p, q, hg, ht, hv, hd, _, _⟩, _, _⟩ := h
  obtain rfl := Option.some.inj ((show Tryd.prog.globalNamed "oxbow/crc.halves" = some 0 by kernel_rfl).symm.trans hg)
  obtain rfl := Option.some.inj ((show (Tryd.prog.globals[0]?).map (·.type) = some 69 by kernel_rfl).symm.trans ht)
  have c5 : Tryd.prog.cellsOf 42 = 1 := by kernel_rfl
  have c29 : Tryd.prog.cellsOf 69 = 16 := by kernel_rfl
  obtain ⟨xs, m, _, ex, hlen, hl, hel⟩ := DataW.trod_array Tryd.underlying69 hd
  rw [c29] at hlen
  rw [c5] at hel
  have hcell := fun j => World.var?_cell (show Tryd.prog.globalNamed "oxbow/crc.halves" = some 0 by kernel_rfl) hv j
  clear hv ht hg hd
  obtain ⟨l⟩ := cs
  have e3 := (DataW.agg.inj (Prod.mk.inj ex).1)
  have key : ∀ (i : Nat) (v : Int), i < 16 → (xs.map (·.1))[i]? = some (.lit (.int .u32 v)) → l[i]? = some (.int .u32 v) := by
    intro i v hi hx
    have k := hel i hi
    rw [List.getElem?_map] at hx
    obtain ⟨x, hx1, hx2⟩ := Option.map_eq_some_iff.1 hx
    rw [hx1] at k
    obtain ⟨z, a, b, _⟩ := DataW.trod_int Tryd.underlying42 k
    rw [b] at hx2
    simp only [DataW.lit.injEq, Lit.int.injEq, true_and] at hx2
    rw [← hx2]
    have h1 : (l.drop (i * 1)).take 1 = [.int .u32 z] := a
    have h2 : ((l.drop (i * 1)).take 1)[0]? = ([.int .u32 z] : List Value)[0]? := by rw [h1]
    rw [List.getElem?_take_of_lt (by decide), List.getElem?_drop, Nat.mul_one, Nat.add_zero] at h2
    exact h2
  intro i hi
  match i, hi with
  | 0, _ => exact (hcell 0).trans (by simpa using key 0 (Go.Proofs.YtfilelgbffbnlaaDoor.hv 0 : Int) (by decide) (by rw [← e3]; rfl))
  | 1, _ => exact (hcell 1).trans (by simpa using key 1 (Go.Proofs.YtfilelgbffbnlaaDoor.hv 1 : Int) (by decide) (by rw [← e3]; rfl))
  | 2, _ => exact (hcell 2).trans (by simpa using key 2 (Go.Proofs.YtfilelgbffbnlaaDoor.hv 2 : Int) (by decide) (by rw [← e3]; rfl))
  | 3, _ => exact (hcell 3).trans (by simpa using key 3 (Go.Proofs.YtfilelgbffbnlaaDoor.hv 3 : Int) (by decide) (by rw [← e3]; rfl))
  | 4, _ => exact (hcell 4).trans (by simpa using key 4 (Go.Proofs.YtfilelgbffbnlaaDoor.hv 4 : Int) (by decide) (by rw [← e3]; rfl))
  | 5, _ => exact (hcell 5).trans (by simpa using key 5 (Go.Proofs.YtfilelgbffbnlaaDoor.hv 5 : Int) (by decide) (by rw [← e3]; rfl))
  | 6, _ => exact (hcell 6).trans (by simpa using key 6 (Go.Proofs.YtfilelgbffbnlaaDoor.hv 6 : Int) (by decide) (by rw [← e3]; rfl))
  | 7, _ => exact (hcell 7).trans (by simpa using key 7 (Go.Proofs.YtfilelgbffbnlaaDoor.hv 7 : Int) (by decide) (by rw [← e3]; rfl))
  | 8, _ => exact (hcell 8).trans (by simpa using key 8 (Go.Proofs.YtfilelgbffbnlaaDoor.hv 8 : Int) (by decide) (by rw [← e3]; rfl))
  | 9, _ => exact (hcell 9).trans (by simpa using key 9 (Go.Proofs.YtfilelgbffbnlaaDoor.hv 9 : Int) (by decide) (by rw [← e3]; rfl))
  | 10, _ => exact (hcell 10).trans (by simpa using key 10 (Go.Proofs.YtfilelgbffbnlaaDoor.hv 10 : Int) (by decide) (by rw [← e3]; rfl))
  | 11, _ => exact (hcell 11).trans (by simpa using key 11 (Go.Proofs.YtfilelgbffbnlaaDoor.hv 11 : Int) (by decide) (by rw [← e3]; rfl))
  | 12, _ => exact (hcell 12).trans (by simpa using key 12 (Go.Proofs.YtfilelgbffbnlaaDoor.hv 12 : Int) (by decide) (by rw [← e3]; rfl))
  | 13, _ => exact (hcell 13).trans (by simpa using key 13 (Go.Proofs.YtfilelgbffbnlaaDoor.hv 13 : Int) (by decide) (by rw [← e3]; rfl))
  | 14, _ => exact (hcell 14).trans (by simpa using key 14 (Go.Proofs.YtfilelgbffbnlaaDoor.hv 14 : Int) (by decide) (by rw [← e3]; rfl))
  | 15, _ => exact (hcell 15).trans (by simpa using key 15 (Go.Proofs.YtfilelgbffbnlaaDoor.hv 15 : Int) (by decide) (by rw [← e3]; rfl))
  | n + 16, hi => exact absurd hi (by omega)
end Go.Proofs.YtfilelgbffbnlaaDoor
