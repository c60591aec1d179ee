/- Contracts of a disk: Flip of a sector that is there. -/
import Derived.Test.YtfmmdnjoichifaaFiAd
import Derived.LaidEqlPtr
namespace Go.Proofs.Ytfmmdnjoichifaa
open Go.RowKit Go.Sort

section
variable {w w' : World} {base d m : Nat} {D : Dk}
def flipK (D : Dk) (b i at' tn k : Nat) : List Wr := (D.pend.take k).map (flipP b i at' tn) ++ D.pend.drop k
theorem flipK_len (D : Dk) (b i at' tn k : Nat) : (flipK D b i at' tn k).length = D.pend.length := by
  unfold flipK
  rw [List.length_append, List.length_map, List.length_take, List.length_drop]
  omega
theorem flipK_zero (D : Dk) (b i at' tn : Nat) : flipK D b i at' tn 0 = D.pend := rfl
theorem flipK_all (D : Dk) (b i at' tn : Nat) : flipK D b i at' tn D.pend.length = D.pend.map (flipP b i at' tn) := by
  unfold flipK
  rw [List.take_length, List.drop_length, List.append_nil]
theorem flipK_get {D : Dk} {b i at' tn k : Nat} {p : Wr} (h : D.pend[k]? = some p) : (flipK D b i at' tn k)[k]? = some p := by
  have hk := (List.getElem?_eq_some_iff.1 h).1
  unfold flipK
  rw [List.getElem?_append_right (by rw [List.length_map, List.length_take]; omega), List.length_map, List.length_take, List.getElem?_drop, show k + (k - min k D.pend.length) = k by omega]
  exact h
theorem flipK_succ {D : Dk} {b i at' tn k : Nat} {p : Wr} (h : D.pend[k]? = some p) : flipK D b i at' tn (k + 1) = (flipK D b i at' tn k).set k (flipP b i at' tn p) := by
  have hk := (List.getElem?_eq_some_iff.1 h).1
  unfold flipK
  rw [List.set_append, if_neg (by rw [List.length_map, List.length_take]; omega), List.length_map, List.length_take, show k - min k D.pend.length = 0 by omega, List.take_add_one, h, List.map_append, List.append_assoc]
  congr 1
  have hd : D.pend.drop k = p :: D.pend.drop (k + 1) := by
    rw [List.drop_eq_getElem_cons hk]
    congr 1
    rw [List.getElem?_eq_getElem hk] at h
    injection h
  rw [hd]
  rfl
theorem flipK_same {D : Dk} {b i at' tn k : Nat} {p : Wr} (h : D.pend[k]? = some p) (hp : flipP b i at' tn p = p) : flipK D b i at' tn (k + 1) = flipK D b i at' tn k := by
  have hg := flipK_get (b := b) (i := i) (at' := at') (tn := tn) h
  rw [flipK_succ h, hp]
  apply List.ext_getElem?
  intro j
  rw [List.getElem?_set]
  split
  · rename_i e
    subst e
    have := (List.getElem?_eq_some_iff.1 hg).1
    rw [if_pos this, hg]
  · rfl
theorem flipP_own {D : Dk} {b i at' tn k : Nat} (h : ∀ p ∈ D.pend, p.i ≤ 16384 ∧ ∃ f ∈ D.fs, f.blk = p.f) : ∀ p ∈ flipK D b i at' tn k, p.i ≤ 16384 ∧ ∃ f ∈ D.fs, f.blk = p.f := by
  intro p hp
  unfold flipK at hp
  rcases List.mem_append.1 hp with hp | hp
  · obtain ⟨q, hq, rfl⟩ := List.mem_map.1 hp
    have := h q (List.mem_of_mem_take hq)
    unfold flipP
    split
    · exact this
    · exact this
  · exact h p (List.mem_of_mem_drop hp)
def nowF (f : Fi) (i at' tn : Nat) : Fi := { f with now := f.now.set i (turnS at' tn (f.now.getD i zS) 32) }
theorem cells_own (h : DiskR w base d m D) {pA : Option Addr} {pc : Nat} (hc : w.cell? ⟨d, 2, none⟩ = some (.slice pA D.pend.length pc)) : w.ownsRow base 96 66 (.slice pA D.pend.length pc) D.pend.length (RowV encWr D.pend) := by
  obtain ⟨pA', pc', -, -, -, h2, -, -, -, ho⟩ := h.cells
  rw [hc] at h2
  injection h2 with h2
  rw [h2]
  exact ho
theorem kf_top {w1 : World} (h : DiskR w base d m D) (k : KF base w w1) {v : Value} (hc : w.cell? ⟨d, 2, none⟩ = some v) : w1.cell? ⟨d, 2, none⟩ = some v := by
  obtain ⟨pA, pc, hb, -⟩ := h.top
  rw [(k.blk hb (by decide)).cell 2, ← hb.cell 2]
  exact hc
theorem info_file : ∃ j, Try.prog.info? 90 = some j ∧ j.size = 3 := by
  have h : (Try.prog.info? 90).map (·.size) = some 3 := by kernel_rfl
  cases hj : Try.prog.info? 90 with
  | none => rw [hj] at h; cases h
  | some j => rw [hj] at h; injection h with h; exact ⟨j, rfl, h⟩
theorem eql_files (h : DiskR w base d m D) {a b : Nat} (ha : ∃ f ∈ D.fs, f.blk = a) (hb : ∃ f ∈ D.fs, f.blk = b) : (binOp .eql 86 (.pointer (some ⟨a, 0, none⟩)) (.pointer (some ⟨b, 0, none⟩))).run Try.prog w = .ok (.bool (decide (a = b))) w := by
  obtain ⟨j, hj, hjs⟩ := info_file
  obtain ⟨role, hr⟩ := h.files
  obtain ⟨f, hf, rfl⟩ := ha
  obtain ⟨f', hf', rfl⟩ := hb
  obtain ⟨_, _, _, _, h1, -⟩ := hr f hf
  obtain ⟨_, _, _, _, h2, -⟩ := hr f' hf'
  by_cases e : f.blk = f'.blk
  · rw [e, decide_eq_true rfl]
    exact run_eql_ptr_same w _ Try.underlying86 hj
  · rw [decide_eq_false e]
    exact run_eql_ptr_other w Try.underlying86 hj (by rw [hjs]; decide) (fun hc => e (by injection hc)) h1 h2
set_option maxRecDepth 100000 in
set_option maxHeartbeats 4000000 in
theorem flip_ok (h : DiskR w base d m D) {f : Fi} (hf : f ∈ D.fs) (i : Nat) (hi : i < f.now.length) (hik : i < f.kept.length) (at' tn : Nat) (ha : at' ≤ 480) (ht : tn < 4294967296) (hp : D.pend.length ≤ 1000000) (hbase : base ≤ w.heap.size) :
    Calls Try.prog 43 #[ptD d, strV f.name, .int .i64 (i : Int), .int .i64 (at' : Int), .int .u32 (tn : Int)] w fun e w' => e = .returned (.int .i64 0) ∧ DiskR w' base d m (flipD D f i at' tn) ∧ DF base m w w' := by
  have P1 := Lib.hid (unmade_any h)
  have P2 := Lib.hid (has_any h hf (i : Int))
  have hh : hasM f.now (i : Int) = true := by unfold hasM; rw [decide_eq_true_eq]; omega
  rw [hh] at P2
  obtain ⟨pA, pc, hd, -, h1, hd2, -⟩ := h.cells
  obtain ⟨nA, nc, kA, kc, f0, -, -, f1, f2, hnr, hkr⟩ := h.file hf
  have hsm := h.small f hf
  have hnr' : w.ownsRow base 94 64 (.slice nA f.now.length nc) f.now.length (RowV encSec f.now) := hnr
  obtain ⟨g, cap, hv, -, hgl⟩ := hnr'.form (by omega)
  injection hv with hv1 hv2 hv3
  subst hv1
  subst hv3
  obtain ⟨s, hs⟩ : ∃ s, f.now[i]? = some s := ⟨_, List.getElem?_eq_getElem hi⟩
  have hsd : f.now.getD i zS = s := by rw [List.getD_eq_getElem?_getD, hs]; rfl
  have hl := h.look hf
  have PT := Lib.hid (turn_row hnr' (i * 64) s (fun j u hj => by rw [RowV_get laySec f.now i j s hs (by have := (List.getElem?_eq_some_iff.1 hj).1; rwa [laySec.len] at this)]; exact hj) (by omega) at' tn ha ht)
  have H := Lib.hid h
  have HF := Lib.hid hf
  have HS := Lib.hid hs
  have HSD := Lib.hid hsd
  have HB := Lib.hid hbase
  have HD2 := Lib.hid hd2
  have HSM := Lib.hid hsm
  have i1 : decide ((i : Int) < (f.now.length : Int)) = true := by rw [decide_eq_true_eq]; omega
  have i2 : decide ((at' : Int) < 0) = false := by rw [decide_eq_false_iff_not]; omega
  have i3 : decide ((at' : Int) > 480) = false := by rw [decide_eq_false_iff_not]; omega
  have HFL := Lib.hid f1
  clear h hf hbase hnr hnr' hkr hv2 hgl hh hs hsd hd2 hsm f2
  go_enter Try.func43, Try.ntmps43
  go_wp2_with fail
  refine P1.out.mono ?_; rintro e w' ⟨rfl, rfl⟩
  go_wp2_with fail
  refine P2.out.mono ?_; rintro e w' ⟨rfl, rfl⟩
  go_wp2_with fail
  refine PT.out.mono ?_; rintro e w1 ⟨rfl, hr1, hg1⟩
  rw [RowV_turn f.now i hi] at hr1
  obtain ⟨hn1, hk1⟩ := H.out.turnNow HF.out HFL.out hg1 hr1 (by rw [List.length_set])
  have hnf : (⟨f.blk, f.name, f.now.set i (turnS at' tn s 32), f.kept⟩ : Fi) = nowF f i at' tn := by unfold nowF; rw [HSD.out]
  have hn1' : DiskR w1 base d m { D with fs := updF D.fs (nowF f i at' tn) } := by rw [← hnf]; exact hn1
  have HN1 := Lib.hid hn1'
  have HK1 := Lib.hid hk1
  have hf1 : nowF f i at' tn ∈ updF D.fs (nowF f i at' tn) := mem_updF_self HF.out rfl
  have C1 := Lib.hid (kf_top H.out hk1 HD2.out)
  obtain ⟨nA2, nc2, kA, kc, f0', -, -, -, f2, -, hkr⟩ := hn1'.file hf1
  have hkr' : w1.ownsRow base 94 64 (.slice kA f.kept.length kc) f.kept.length (RowV encSec f.kept) := hkr
  have f2' : w1.cell? ⟨f.blk, 2, none⟩ = some (.slice kA f.kept.length kc) := f2
  have hkl := HSM.out.2.1
  obtain ⟨g', cap', hv, -, hgl'⟩ := hkr'.form (by omega)
  injection hv with hv1 hv2 hv3
  subst hv1
  subst hv3
  obtain ⟨s', hs'⟩ : ∃ s', f.kept[i]? = some s' := ⟨_, List.getElem?_eq_getElem hik⟩
  have hsd' : f.kept.getD i zS = s' := by rw [List.getD_eq_getElem?_getD, hs']; rfl
  have HSD' := Lib.hid hsd'
  have PK := Lib.hid (turn_row hkr' (i * 64) s' (fun j u hj => by rw [RowV_get laySec f.kept i j s' hs' (by have := (List.getElem?_eq_some_iff.1 hj).1; rwa [laySec.len] at this)]; exact hj) (by omega) at' tn ha ht)
  have HF1 := Lib.hid hf1
  have HC2 := Lib.hid f2'
  have i4 : decide ((i : Int) < (f.kept.length : Int)) = true := by rw [decide_eq_true_eq]; omega
  clear hn1 hk1 hn1' hnf hf1 hkr hkr' f2 hv2 hgl' hs' hsd' hr1 hg1 f0' hl h1 f0 f1
  go_wp2_with fail
  refine PK.out.mono ?_; rintro e w2 ⟨rfl, hr2, hg2⟩
  rw [RowV_turn f.kept i hik] at hr2
  obtain ⟨hn2, hk2⟩ := HN1.out.turnKept HF1.out HC2.out hg2 hr2 (by rw [List.length_set]; rfl)
  have hff : (⟨f.blk, f.name, (nowF f i at' tn).now, f.kept.set i (turnS at' tn s' 32)⟩ : Fi) = flipF f i at' tn := by unfold flipF nowF; rw [HSD'.out]
  have hn2' : DiskR w2 base d m { D with fs := updF D.fs (flipF f i at' tn) } := by
    rw [← hff]
    have e := updF_upd (fs := D.fs) (f := nowF f i at' tn) (g := ⟨f.blk, f.name, (nowF f i at' tn).now, f.kept.set i (turnS at' tn s' 32)⟩) rfl
    rw [← e]
    exact hn2
  have HN2 := Lib.hid hn2'
  have HDF := Lib.hid (show DF base m w w2 from (HK1.out.trans hk2).df)
  have C2 := Lib.hid (kf_top HN1.out hk2 C1.out)
  have c2 := C2.out
  clear hn2 hk2 hn2' hff hr2 hg2 f2'
  go_wp2_with fail
  clear c2
  go_loopw [68] (fun x wr => ∃ k : Nat, k ≤ D.pend.length ∧ x = .int .i64 (k : Int) ∧ DiskR wr base d m { D with fs := updF D.fs (flipF f i at' tn), pend := flipK D f.blk i at' tn k } ∧ wr.cell? ⟨d, 2, none⟩ = some (.slice pA D.pend.length pc) ∧ DF base m w2 wr) (fun x _ => D.pend.length - (intOf x).toNat)
  case atStart => exact ⟨0, Nat.zero_le _, rfl, by rw [flipK_zero]; exact HN2.out, C2.out, DF.refl _⟩
  case round =>
    obtain ⟨k, hkl, rfl, hd, hc, hdf⟩ := hrel
    have HD := Lib.hid hd
    have HC := Lib.hid hc
    have HDFr := Lib.hid hdf
    clear hd hc hdf
    by_cases hlt : k < D.pend.length
    · have hea := List.getElem?_eq_getElem hlt
      obtain ⟨p, hp'⟩ : ∃ p, p = D.pend[k] := ⟨_, rfl⟩
      rw [← hp'] at hea
      have hpr : wr.ownsRow base 96 66 (.slice pA D.pend.length pc) D.pend.length (RowV encWr (flipK D f.blk i at' tn k)) := by
        have := cells_own HD.out (pA := pA) (pc := pc) (by rw [flipK_len]; exact HC.out)
        rw [flipK_len] at this
        exact this
      obtain ⟨g2, cap2, hv, -, -⟩ := hpr.form (by omega)
      injection hv with hv1 hv2 hv3
      subst hv1
      subst hv3
      have hpc : ∀ j u, (encWr p)[j]? = some u → wr.cell? ((⟨g2, k * 66, none⟩ : Addr).add j) = some u := fun j u hj => by
        rw [Addr.add_lit]
        have hj66 : j < 66 := by have := (List.getElem?_eq_some_iff.1 hj).1; rwa [layWr.len] at this
        rw [hpr.cellAt (k * 66 + j) (by omega), RowV_get layWr _ k j p (flipK_get hea) hj66]
        exact hj
      have HPC := Lib.hid hpc
      have HEA := Lib.hid hea
      have HPR := Lib.hid hpr
      have hiw : (Try.prog.info? 96).map (·.size) = some (encWr p).length := by rw [layWr.len]; exact info_wrS
      have HIW := Lib.hid hiw
      have HIW2 := Lib.hid (show (Try.prog.info? 96).map (·.size) = some (encWr p).toArray.size by rw [List.size_toArray]; exact hiw)
      have HAL := Lib.hid (show (encWr p).toArray.all (·.oneCell') = true by
        rw [Array.all_eq_true_iff_forall_mem]
        intro v hv
        exact layWr.one p v (by simpa using hv))
      clear hpc hea hp' hpr hiw hv2
      have b1 := al_below wr (.cells (encWr p).toArray 96)
      obtain ⟨c0, c1, -⟩ := wr_cells (Blk.new wr 96 (encWr p).toArray)
      obtain ⟨gx, hgx⟩ : ∃ gx, gx = wr.heap.size := ⟨_, rfl⟩
      have HC1 := Lib.hid ((b1.cell (p := ⟨d, 2, none⟩) (block_lt_of_cell HC.out)).trans HC.out)
      have HD1 := Lib.hid (HD.out.below b1)
      have HPR1 := Lib.hid (own_below HPR.out b1)
      have HDF1 := Lib.hid (HDFr.out.trans (DF.of_below (base := base) (m := m) b1))
      obtain ⟨wb, hwb⟩ : ∃ wb, wb = wr.alloc (.cells (encWr p).toArray 96) := ⟨_, rfl⟩
      rw [← hgx] at c0 c1
      rw [← hwb] at c0 c1 HC1 HD1 HPR1 HDF1
      have c0' : wb.cell? ⟨gx, 0, none⟩ = some (.pointer (some ⟨p.f, 0, none⟩)) := c0
      have HEQ := Lib.hid (eql_files (a := p.f) (b := f.blk) HD1.out (HD1.out.own p (List.mem_of_getElem? (flipK_get HEA.out))).2 ⟨_, mem_updF_self HF.out rfl, (rfl : (flipF f i at' tn).blk = f.blk)⟩)
      have HGX := Lib.hid hgx
      have HWB := Lib.hid hwb
      have c2 := HC1.out
      clear hwb hgx b1 HPR HC HD HDFr c0
      by_cases e1 : p.f = f.blk
      · rw [e1] at c0'
        by_cases e2 : p.i = i
        · rw [e2] at c1
          go_wp2_with (first | (refine wpList_load_big rfl 96 (.tmp 71) rfl (p := ⟨g2, k * 66, none⟩) rfl Try.underlying96 rfl (encWr p) HIW.out HPC.out ?_) | (refine wpList_store_new (o := ⟨none, _, _, _, _, _⟩) rfl 96 (.tmp 13) (.tmp 72) rfl rfl rfl HIW2.out (layWr.len p).symm HAL.out ?_; rw [← HGX.out, ← HWB.out]))
          rw [e1, decide_eq_true rfl] at HEQ
          rw [HEQ.out]
          simp only [Result.andThen]
          rw [Oper.upon_value]
          go_wp2_with fail
          have hsx : ∀ j u, (encSec p.b)[j]? = some u → (RowV encWr (flipK D f.blk i at' tn k))[k * 66 + 2 + j]? = some u := fun j u hj => by
            have hj64 : j < 64 := by have := (List.getElem?_eq_some_iff.1 hj).1; rwa [laySec.len] at this
            rw [Nat.add_assoc, RowV_get layWr _ k (2 + j) p (flipK_get HEA.out) (by omega), Nat.add_comm 2 j]
            exact hj
          refine (turn_row HPR1.out (k * 66 + 2) p.b hsx (by omega) at' tn ha ht).mono ?_
          rintro e w3 ⟨rfl, hr3, hg3⟩
          rw [RowV_turnP _ k p (flipK_get HEA.out)] at hr3
          have hfl : flipP f.blk i at' tn p = { p with b := turnS at' tn p.b 32 } := by unfold flipP; rw [if_pos ⟨e1, e2⟩]
          rw [← hfl, ← flipK_succ HEA.out] at hr3
          have htp := HD1.out.turnPend (g := g2) (pc := pc) (by show _ = some (Value.slice _ (flipK D f.blk i at' tn k).length pc); rw [flipK_len]; exact HC1.out) hg3 (by show World.ownsRow _ _ _ _ (.slice _ (flipK D f.blk i at' tn k).length pc) (flipK D f.blk i at' tn k).length _; rw [flipK_len]; exact hr3) (by rw [flipK_len]; exact (flipK_len _ _ _ _ _ _).symm) ?own
          case own =>
            intro q hq
            have := flipP_own (b := f.blk) (i := i) (at' := at') (tn := tn) (k := k + 1) H.out.own q hq
            exact ⟨this.1, updF_own this.2⟩
          obtain ⟨ht1, ht2⟩ := htp
          have HT1 := Lib.hid ht1
          have HT2 := Lib.hid (HDF1.out.trans ht2)
          have HT3 : RowKit.Hid (w3.cell? ⟨d, 2, none⟩ = some (.slice (some ⟨g2, 0, none⟩) D.pend.length pc)) := by
            obtain ⟨_, _, hb3, -⟩ := HD1.out.top
            obtain ⟨cur3, hc3⟩ := own_blk HPR1.out (g := g2) rfl
            have hb4 := hb3.grown hg3 (fun e => by injection e with e; exact Blk.ne_ hb3 hc3 (by decide) e)
            exact Lib.hid ((hb4.cell 2).trans ((hb3.cell 2).symm.trans HC1.out))
          clear ht1 ht2 hr3 hg3 hfl hsx
          go_wp2_with fail
          exact ⟨⟨k + 1, by omega, by go_num, HT1.out, HT3.out, HT2.out⟩, by simp [intOf]; omega⟩
        · have d2 : decide ((p.i : Int) = (i : Int)) = false := by rw [decide_eq_false_iff_not]; omega
          rw [e1, decide_eq_true rfl] at HEQ
          go_wp2_with (first | (refine wpList_load_big rfl 96 (.tmp 71) rfl (p := ⟨g2, k * 66, none⟩) rfl Try.underlying96 rfl (encWr p) HIW.out HPC.out ?_) | (refine wpList_store_new (o := ⟨none, _, _, _, _, _⟩) rfl 96 (.tmp 13) (.tmp 72) rfl rfl rfl HIW2.out (layWr.len p).symm HAL.out ?_; rw [← HGX.out, ← HWB.out]))
          rw [HEQ.out]
          simp only [Result.andThen]
          rw [Oper.upon_value]
          go_wp2_with fail
          have hfl : flipP f.blk i at' tn p = p := by unfold flipP; rw [if_neg (fun h => e2 h.2)]
          exact ⟨⟨k + 1, by omega, by go_num, by rw [flipK_same HEA.out hfl]; exact HD1.out, HC1.out, HDF1.out⟩, by simp [intOf]; omega⟩
      · rw [decide_eq_false e1] at HEQ
        go_wp2_with (first | (refine wpList_load_big rfl 96 (.tmp 71) rfl (p := ⟨g2, k * 66, none⟩) rfl Try.underlying96 rfl (encWr p) HIW.out HPC.out ?_) | (refine wpList_store_new (o := ⟨none, _, _, _, _, _⟩) rfl 96 (.tmp 13) (.tmp 72) rfl rfl rfl HIW2.out (layWr.len p).symm HAL.out ?_; rw [← HGX.out, ← HWB.out]))
        rw [HEQ.out]
        simp only [Result.andThen]
        rw [Oper.upon_value]
        go_wp2_with fail
        have hfl : flipP f.blk i at' tn p = p := by unfold flipP; rw [if_neg (fun h => e1 h.1)]
        exact ⟨⟨k + 1, by omega, by go_num, by rw [flipK_same HEA.out hfl]; exact HD1.out, HC1.out, HDF1.out⟩, by simp [intOf]; omega⟩
    · obtain rfl : k = D.pend.length := by omega
      have hfin := HD.out
      rw [flipK_all] at hfin
      have HFIN := Lib.hid hfin
      clear hfin
      go_wp2_with fail
      go_ret
      exact ⟨rfl, HFIN.out, HDF.out.trans HDFr.out⟩
end
end Go.Proofs.Ytfmmdnjoichifaa
