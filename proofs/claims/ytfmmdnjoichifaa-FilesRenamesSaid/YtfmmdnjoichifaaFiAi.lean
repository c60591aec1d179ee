/- Contracts of a disk: what is pending of a file is looked for. -/
import Derived.Test.YtfmmdnjoichifaaFiAe
namespace Go.Proofs.Ytfmmdnjoichifaa
open Go.RowKit Go.Sort

def FBk (w : World) (b : Nat) : Prop := ∃ cs, Blk w b 90 cs
theorem FBk.below {w w' : World} {b : Nat} (h : FBk w b) (hb : Below w.heap.size w w') : FBk w' b := by
  obtain ⟨cs, hc⟩ := h
  exact ⟨cs, hc.below hb hc.lt⟩
theorem eql_blk {w : World} {a b : Nat} (ha : FBk w a) (hb : FBk w b) : (binOp .eql 86 (.pointer (some ⟨a, 0, none⟩)) (.pointer (some ⟨b, 0, none⟩))).run Try.prog w = .ok (.bool (decide (a = b))) w := by
  obtain ⟨j, hj, hjs⟩ := info_file
  obtain ⟨c1, h1⟩ := ha
  obtain ⟨c2, h2⟩ := hb
  by_cases e : a = b
  · rw [e, decide_eq_true rfl]
    exact run_eql_ptr_same w _ Try.underlying86 hj
  · rw [decide_eq_false e]
    exact run_eql_ptr_other w Try.underlying86 hj (by rw [hjs]; decide) (fun hc => e (by injection hc)) h1 h2
set_option maxRecDepth 100000 in
theorem forget1_any (p : Wr) (b B : Nat) (w : World) (hp : FBk w p.f) (hb : FBk w b) (hB : w.cell? ⟨B, 0, none⟩ = some (.pointer (some ⟨b, 0, none⟩))) :
    Calls Try.prog 96 #[wrV p, .pointer (some ⟨B, 0, none⟩)] w fun e w' => e = .returned (.bool (decide (p.f = b))) ∧ Below w.heap.size w w' := by
  have b1 := al_below w (.cells (encWr p).toArray 96)
  obtain ⟨c0, -, -⟩ := wr_cells (Blk.new w 96 (encWr p).toArray)
  have k0 : (w.alloc (.cells (encWr p).toArray 96)).cell? ⟨w.heap.size, 0, none⟩ = some (.pointer (some ⟨p.f, 0, none⟩)) := c0
  have kB : (w.alloc (.cells (encWr p).toArray 96)).cell? ⟨B, 0, none⟩ = some (.pointer (some ⟨b, 0, none⟩)) := (b1.cell (p := ⟨B, 0, none⟩) (block_lt_of_cell hB)).trans hB
  have HEQ := Lib.hid (eql_blk (hp.below b1) (hb.below b1))
  have B1 := Lib.hid b1
  unfold wrV
  clear c0 hB hp hb b1
  generalize decide (p.f = b) = q at *
  go_enter Try.func96, Try.ntmps96
  go_wp2_with fail
  rw [HEQ.out]
  simp only [Result.andThen]
  rw [Oper.upon_value]
  go_wp2_with fail
  go_ret
  exact ⟨rfl, B1.out⟩
/-- A row of writes, of which all files are there. -/
def WRow (w : World) (base g n c : Nat) (l : List Wr) : Prop := w.ownsRow base 96 66 (.slice (some ⟨g, 0, none⟩) n c) n (RowV encWr l)
theorem WRow.at_ {w : World} {base g n c : Nat} {l : List Wr} (h : WRow w base g n c l) {k : Nat} {p : Wr} (hk : l[k]? = some p) (hn : k < n) : ∀ j u, (encWr p)[j]? = some u → w.cell? ((⟨g, k * 66, none⟩ : Addr).add j) = some u := fun j u hj => by
  rw [Addr.add_lit]
  have hj66 : j < 66 := by have := (List.getElem?_eq_some_iff.1 hj).1; rwa [layWr.len] at this
  rw [World.ownsRow.cellAt h (k * 66 + j) (by omega), RowV_get layWr l k j p hk hj66]
  exact hj
theorem wr_info (p : Wr) : (Try.prog.info? 96).map (·.size) = some (encWr p).length := by rw [layWr.len]; exact info_wrS
theorem index_any (w : World) (base g n c : Nat) (l : List Wr) (hl : WRow w base g n c l) (hn : l.length = n) (hbig : n ≤ 1000000) (b B : Nat) (hf : ∀ p ∈ l, FBk w p.f) (hb : FBk w b) (hB : w.cell? ⟨B, 0, none⟩ = some (.pointer (some ⟨b, 0, none⟩))) :
    Calls Try.prog 116 #[.slice (some ⟨g, 0, none⟩) n c, .func (.func 96) #[] #[.pointer (some ⟨B, 0, none⟩)]] w fun e w' =>
      (((∀ p ∈ l, p.f ≠ b) ∧ e = .returned (.int .i64 (-1))) ∨ ∃ (k : Nat) (p : Wr), l[k]? = some p ∧ p.f = b ∧ (∀ q ∈ l.take k, q.f ≠ b) ∧ e = .returned (.int .i64 (k : Int))) ∧ Below w.heap.size w w' := by
  have HL := Lib.hid hl
  have HF := Lib.hid hf
  have HB := Lib.hid hb
  have HC := Lib.hid hB
  have HN := Lib.hid hn
  clear hl hf hb hB hn
  go_enter Try.func116, Try.ntmps116
  go_wp2_with fail
  go_loopw [8] (fun i wr => ∃ k : Nat, k ≤ n ∧ i = .int .i64 (k : Int) ∧ (∀ q ∈ l.take k, q.f ≠ b) ∧ Below w.heap.size w wr) (fun i _ => n - (intOf i).toNat)
  case atStart => exact ⟨0, Nat.zero_le _, rfl, fun q hq => (by cases hq), Below.refl _ _⟩
  case round =>
    obtain ⟨k, hk, rfl, hno, hbl⟩ := hrel
    have HNO := Lib.hid hno
    have BW := Lib.hid hbl
    clear hno hbl
    by_cases hlt : k < n
    · have hlt' : k < l.length := by rw [HN.out]; exact hlt
      have hea := List.getElem?_eq_getElem hlt'
      obtain ⟨p, hp⟩ : ∃ p, p = l[k] := ⟨_, rfl⟩
      rw [← hp] at hea
      have HEA := Lib.hid hea
      have HPC := Lib.hid (WRow.at_ (show WRow wr base g n c l from own_below HL.out BW.out) hea hlt)
      have hmem : p ∈ l := List.mem_of_getElem? hea
      have PC := Lib.hid (forget1_any p b B wr ((HF.out p hmem).below BW.out) (HB.out.below BW.out) ((BW.out.cell (p := ⟨B, 0, none⟩) (block_lt_of_cell HC.out)).trans HC.out))
      have HTK := Lib.hid (show l.take (k + 1) = l.take k ++ [p] by rw [List.take_add_one, hea]; rfl)
      have HIW := Lib.hid (wr_info p)
      unfold wrV at PC
      clear hea hp hmem hlt'
      go_wp2_with (refine wpList_load_big rfl 96 (.tmp 14) rfl (p := ⟨g, k * 66, none⟩) rfl Try.underlying96 rfl (encWr p) HIW.out HPC.out ?_)
      refine PC.out.mono ?_; rintro e w2 ⟨rfl, b2⟩
      have B2 := Lib.hid (BW.out.trans (b2.mono BW.out.size))
      by_cases hpb : p.f = b
      · rw [decide_eq_true hpb]
        have HPB := Lib.hid hpb
        clear b2 hpb
        go_wp2_with fail
        go_ret
        exact ⟨.inr ⟨k, p, HEA.out, HPB.out, HNO.out, rfl⟩, B2.out⟩
      · rw [decide_eq_false hpb]
        have HPB := Lib.hid hpb
        clear b2 hpb
        go_wp2_with fail
        refine ⟨⟨k + 1, by omega, by go_num, fun q hq => ?_, B2.out⟩, by simp only [intOf]; omega⟩
        rw [HTK.out] at hq
        rcases List.mem_append.1 hq with hq | hq
        · exact HNO.out q hq
        · rw [List.mem_singleton.1 hq]; exact HPB.out
    · obtain rfl : k = n := by omega
      have hno := HNO.out
      rw [List.take_of_length_le (by rw [HN.out]; exact Nat.le_refl _)] at hno
      have HNO2 := Lib.hid hno
      clear hno
      go_wp2_with fail
      go_ret
      exact ⟨.inl ⟨HNO2.out, rfl⟩, BW.out⟩
end Go.Proofs.Ytfmmdnjoichifaa
