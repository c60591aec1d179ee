/- Contracts of package crc: sealed bytes. -/
import Derived.Test.YtfilelgbffbnlaaDoorCrcA
import Derived.Test.YtfilelgbffbnlaaDoorNumA
namespace Go.Proofs.YtfilelgbffbnlaaDoor
open Go.RowKit

theorem HalvesAt.below {w w' : World} (h : HalvesAt w) {B : Nat} (hb : Below B w w') (h0 : 0 < B) : HalvesAt w' := fun i hi => (World.cell?_of_block (a := ⟨0, i, none⟩) (hb.block 0 h0)).trans (h i hi)
theorem HalvesAt.pos {w : World} (h : HalvesAt w) : 0 < w.heap.size := World.block_lt_of_cell? w ⟨0, 0, none⟩ (h 0 (by decide))
def le4 (s : Nat) : List UInt8 := [UInt8.ofNat s, UInt8.ofNat (s / 256), UInt8.ofNat (s / 65536), UInt8.ofNat (s / 16777216)]
def sealM (l : List UInt8) : List UInt8 := l ++ le4 (moreM 0 l)
theorem sealM_length (l : List UInt8) : (sealM l).length = l.length + 4 := by unfold sealM; rw [List.length_append]; rfl
/-- A new row with these bytes. -/
def OwnB (w : World) (l : List UInt8) (e : Ending) (w' : World) : Prop :=
  ∃ A c, e = .returned (.slice A l.length c) ∧ w'.ownsRow w.heap.size 5 1 (.slice A l.length c) l.length (Byt l) ∧ Below w.heap.size w w'
theorem four_own (w : World) (z0 z1 z2 z3 : Int) (b0 b1 b2 b3 : UInt8) (e0 : z0 = (b0.toNat : Int)) (e1 : z1 = (b1.toNat : Int)) (e2 : z2 = (b2.toNat : Int)) (e3 : z3 = (b3.toNat : Int)) (t : TypeId) :
    (w.alloc (.cells #[.int .u8 z0, .int .u8 z1, .int .u8 z2, .int .u8 z3] t)).ownsRow w.heap.size t 1 (.slice (some ⟨w.heap.size, 0, none⟩) 4 4) 4 (Byt [b0, b1, b2, b3]) := by
  subst e0 e1 e2 e3
  exact own_new w _ t 4 _ rfl rfl (by decide) (Nat.le_refl _)
set_option maxRecDepth 100000 in
set_option maxHeartbeats 400000 in
theorem seal_any (A : Option Addr) (h : Nat) (l : List UInt8) (c : Nat) (w : World) (hh : HalvesAt w) (hl : SlB w h A l) (hlc : l.length ≤ c) (hc : c ≤ maxLen) (hb : l.length ≤ 70368744177664) :
    Calls Tryd.prog 20 #[.slice A l.length c] w (OwnB w (sealM l)) := by
  have P := Lib.hid (sum_any A h l c w hh hl hlc hc)
  have HR := Lib.hid (hl.reads (n := l.length) rfl)
  have hsl := moreM_lt (s := 0) l (by decide)
  have hm : sealM l = l ++ le4 (moreM 0 l) := rfl
  generalize moreM 0 l = s at P hm hsl
  have HM := Lib.hid hm
  clear hh hl hm
  unfold maxLen at hc
  have HN := Lib.hid (show w.ownsRow w.heap.size 5 1 (.slice none 0 0) 0 (Byt []) from World.ownsRow_nil w w.heap.size 5 1)
  go_enter Tryd.func20, Tryd.ntmps20
  go_wp2_with fail
  refine P.out.mono ?_; rintro e w' ⟨rfl, rfl⟩
  have e0 : ((s : Int) % 256) = ((UInt8.ofNat s).toNat : Int) := by simp
  have e1 : ((s : Int) / 256 % 256) = ((UInt8.ofNat (s / 256)).toNat : Int) := by simp
  have e2 : ((s : Int) / 65536 % 256) = ((UInt8.ofNat (s / 65536)).toNat : Int) := by simp
  have e3 : ((s : Int) / 16777216) = ((UInt8.ofNat (s / 16777216)).toNat : Int) := by simp; omega
  have E := Lib.hid (fun W => four_own W _ _ _ _ _ _ _ _ e0 e1 e2 e3 5)
  clear e0 e1 e2 e3
  go_wp2_with (at_builtin; first | ((refine wpList_appB w rfl (.const (.slice none 0 0)) (.tmp 7) _ rfl Tryd.underlying22 info_u8 HN.out HR.out c rfl rfl (by omega) (Nat.le_refl _) ?_); intro A2 c2 w2 o2 gr2; rw [Nat.zero_add, List.nil_append] at o2; have O2 := Lib.hid o2; have G2 := Lib.hid gr2; clear o2 gr2) | ((refine wpList_appB _ rfl (.tmp 9) (.tmp 21) _ rfl Tryd.underlying22 info_u8 (World.ownsRow.alloc O2.out _) (own_bytes_reads (E.out w2)) 4 rfl rfl (by omega) (by rw [World.size_alloc]; have := (Grew.by_ G2.out).size; omega) ?_); intro A3 c3 w3 o3 gr3; have O3 := Lib.hid o3; have G3 := Lib.hid gr3; clear o3 gr3))
  all_goals
    go_ret
    have b2 : Below w.heap.size w w2 := (Below.refl _ _).grown (Grew.by_ G2.out) (Nat.le_refl _) (by simp [Value.ownBlock])
    have b3 : Below w.heap.size w w3 := (b2.alloc b2.size _).grown (Grew.by_ G3.out) (by rw [World.size_alloc]; have := b2.size; omega) fun i hi => (World.ownsRow.lt O2.out i hi).1
    refine ⟨A3, c3, ?_, ?_, b3⟩
    · rw [HM.out, List.length_append]; rfl
    · rw [HM.out, List.length_append]; exact O3.out
theorem one_own (w : World) (x : Int) (b : UInt8) (hx : x = (b.toNat : Int)) (t : TypeId) :
    (w.alloc (.cells #[.int .u8 x] t)).ownsRow w.heap.size t 1 (.slice (some ⟨w.heap.size, 0, none⟩) 1 1) 1 (Byt [b]) := by
  subst hx
  exact own_new w #[.int .u8 (b.toNat : Int)] t 1 _ (by simp [Byt]) (by simp [Byt]) (by decide) (Nat.le_refl _)
set_option maxRecDepth 100000 in
set_option maxHeartbeats 1000000 in
theorem rseal_any (A : Option Addr) (h : Nat) (l : List UInt8) (c : Nat) (w : World) (hl : SlB w h A l) (hlc : l.length ≤ c) (hc : c ≤ maxLen) (hb : l.length ≤ 70368744177664) :
    Calls Tryd.prog 26 #[.slice A l.length c] w (OwnB w (sealM l)) := by
  have P := Lib.hid (rsum_any A h l c w hl hlc hc)
  have hsA : SlB (w.alloc (.cells #[] 5)) h A l := hl.keep' fun hh => Below.heap_alloc w _ _ hh
  have hE : (w.alloc (.cells #[] 5)).ownsRow w.heap.size 5 1 (.slice (some ⟨w.heap.size, 0, none⟩) 0 0) 0 (Byt []) := own_new w #[] _ 0 _ rfl rfl (by decide) (Nat.le_refl _)
  have HR := Lib.hid (hsA.reads (n := l.length) rfl)
  have HE := Lib.hid hE
  have hsl := moreM_lt (s := 0) l (by decide)
  have hm : sealM l = l ++ le4 (moreM 0 l) := rfl
  generalize moreM 0 l = s at P hm hsl
  have HM := Lib.hid hm
  clear hl hm hsA hE
  unfold maxLen at hc
  have e0 : ((s : Int) % 256) = ((UInt8.ofNat s).toNat : Int) := by simp
  have e1 : ((s : Int) / 256 % 256) = ((UInt8.ofNat (s / 256)).toNat : Int) := by simp
  have e2 : ((s : Int) / 65536 % 256) = ((UInt8.ofNat (s / 65536)).toNat : Int) := by simp
  have e3 : ((s : Int) / 16777216) = ((UInt8.ofNat (s / 16777216)).toNat : Int) := by simp; omega
  have E0 := Lib.hid (fun W => one_own W _ _ e0 5)
  have E1 := Lib.hid (fun W => one_own W _ _ e1 5)
  have E2 := Lib.hid (fun W => one_own W _ _ e2 5)
  have E3 := Lib.hid (fun W => one_own W _ _ e3 5)
  clear e0 e1 e2 e3
  go_enter Tryd.func26, Tryd.ntmps26
  go_wp2_with fail
  refine P.out.mono ?_; rintro e w' ⟨rfl, rfl⟩
  go_wp2_with (at_builtin; (refine wpList_appB _ rfl (.tmp 8) (.tmp 9) _ rfl Tryd.underlying22 info_u8 HE.out HR.out c rfl rfl (by omega) (by simp) ?_); intro A2 c2 w2 o2 gr2; rw [Nat.zero_add, List.nil_append] at o2; have O2 := Lib.hid o2; have G2 := Lib.hid gr2; clear o2 gr2)
  have b2 : Below w.heap.size w w2 := ((Below.refl _ _).alloc (Nat.le_refl _) _).grown (Grew.by_ G2.out) (by simp) (by simp [Value.ownBlock])
  go_loopw [4, 5] (fun o i wr => ∃ k : Nat, k ≤ 4 ∧ i = .int .i64 (k : Int) ∧ ∃ A1 c1, o = .slice A1 (l.length + k) c1 ∧ wr.ownsRow w.heap.size 5 1 (.slice A1 (l.length + k) c1) (l.length + k) (Byt (l ++ (le4 s).take k)) ∧ Below w.heap.size w wr) (fun _ i _ => 4 - (intOf i).toNat)
  case atStart => exact ⟨0, by omega, rfl, A2, c2, rfl, by simpa using O2.out, b2⟩
  case round =>
    obtain ⟨k, hk, rfl, A1, c1, rfl, ho, hb1⟩ := hrel
    have HO := Lib.hid ho
    clear ho
    match k, hk with
    | 0, _ =>
      go_wp2_with (at_builtin; (refine wpList_appB _ rfl (.tmp 15) (.tmp 21) _ rfl Tryd.underlying22 info_u8 (World.ownsRow.alloc HO.out _) (own_bytes_reads (E0.out wr)) 1 rfl rfl (by omega) (by rw [World.size_alloc]; have := hb1.size; omega) ?_); intro A3 c3 w3 o3 gr3; have O3 := Lib.hid o3; have G3 := Lib.hid gr3; clear o3 gr3)
      have b3 : Below w.heap.size w w3 := (hb1.alloc hb1.size _).grown (Grew.by_ G3.out) (by rw [World.size_alloc]; have := hb1.size; omega) fun i hi => (World.ownsRow.lt HO.out i hi).1
      exact ⟨⟨1, by omega, rfl, A3, c3, rfl, by have o := O3.out; rw [List.append_assoc] at o; exact o, b3⟩, by simp [intOf]⟩
    | 1, _ =>
      go_wp2_with (at_builtin; (refine wpList_appB _ rfl (.tmp 15) (.tmp 21) _ rfl Tryd.underlying22 info_u8 (World.ownsRow.alloc HO.out _) (own_bytes_reads (E1.out wr)) 1 rfl rfl (by omega) (by rw [World.size_alloc]; have := hb1.size; omega) ?_); intro A3 c3 w3 o3 gr3; have O3 := Lib.hid o3; have G3 := Lib.hid gr3; clear o3 gr3)
      have b3 : Below w.heap.size w w3 := (hb1.alloc hb1.size _).grown (Grew.by_ G3.out) (by rw [World.size_alloc]; have := hb1.size; omega) fun i hi => (World.ownsRow.lt HO.out i hi).1
      exact ⟨⟨2, by omega, rfl, A3, c3, rfl, by have o := O3.out; rw [List.append_assoc] at o; exact o, b3⟩, by simp [intOf]⟩
    | 2, _ =>
      go_wp2_with (at_builtin; (refine wpList_appB _ rfl (.tmp 15) (.tmp 21) _ rfl Tryd.underlying22 info_u8 (World.ownsRow.alloc HO.out _) (own_bytes_reads (E2.out wr)) 1 rfl rfl (by omega) (by rw [World.size_alloc]; have := hb1.size; omega) ?_); intro A3 c3 w3 o3 gr3; have O3 := Lib.hid o3; have G3 := Lib.hid gr3; clear o3 gr3)
      have b3 : Below w.heap.size w w3 := (hb1.alloc hb1.size _).grown (Grew.by_ G3.out) (by rw [World.size_alloc]; have := hb1.size; omega) fun i hi => (World.ownsRow.lt HO.out i hi).1
      exact ⟨⟨3, by omega, rfl, A3, c3, rfl, by have o := O3.out; rw [List.append_assoc] at o; exact o, b3⟩, by simp [intOf]⟩
    | 3, _ =>
      go_wp2_with (at_builtin; (refine wpList_appB _ rfl (.tmp 15) (.tmp 21) _ rfl Tryd.underlying22 info_u8 (World.ownsRow.alloc HO.out _) (own_bytes_reads (E3.out wr)) 1 rfl rfl (by omega) (by rw [World.size_alloc]; have := hb1.size; omega) ?_); intro A3 c3 w3 o3 gr3; have O3 := Lib.hid o3; have G3 := Lib.hid gr3; clear o3 gr3)
      have b3 : Below w.heap.size w w3 := (hb1.alloc hb1.size _).grown (Grew.by_ G3.out) (by rw [World.size_alloc]; have := hb1.size; omega) fun i hi => (World.ownsRow.lt HO.out i hi).1
      exact ⟨⟨4, by omega, rfl, A3, c3, rfl, by have o := O3.out; rw [List.append_assoc] at o; exact o, b3⟩, by simp [intOf]⟩
    | 4, _ =>
      go_wp2
      go_ret
      refine ⟨A1, c1, ?_, ?_, hb1⟩
      · rw [HM.out, List.length_append]; rfl
      · rw [HM.out, List.length_append]; exact HO.out
end Go.Proofs.YtfilelgbffbnlaaDoor
