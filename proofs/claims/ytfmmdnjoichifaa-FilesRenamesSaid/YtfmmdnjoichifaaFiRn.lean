/- The law FilesRenames. -/
import Derived.Test.YtfmmdnjoichifaaFiRnM
import Derived.Test.YtfmmdnjoichifaaOp
namespace Go.Proofs.Ytfmmdnjoichifaa
open Go.RowKit Go.Sort

/-- What holds of file a behind i rounds. -/
def Inv1 (fa k i : Nat) (kept : List Sec) (pend : List Wr) : Prop := (∀ p ∈ pend, p.f = fa ∧ p.i < i) ∧ (i ≤ k → kept = [] ∧ pend = pendA fa i) ∧ (k < i → kept.length = k ∧ pend.length = i - k)
theorem Inv1.start (fa k : Nat) : Inv1 fa k 0 [] [] := ⟨fun p hp => (by cases hp), fun _ => ⟨rfl, rfl⟩, fun h => absurd h (Nat.not_lt_zero _)⟩
theorem Inv1.next {fa k i : Nat} {kept : List Sec} {pend : List Wr} (h : Inv1 fa k i kept pend) (hik : i ≠ k) : Inv1 fa k (i + 1) kept (pend ++ [⟨fa, i, oneSec (UInt8.ofNat i)⟩]) := by
  obtain ⟨h1, h2, h3⟩ := h
  refine ⟨fun p hp => ?_, fun hi => ?_, fun hi => ?_⟩
  · rcases List.mem_append.1 hp with hp | hp
    · exact ⟨(h1 p hp).1, Nat.lt_succ_of_lt (h1 p hp).2⟩
    · rw [List.mem_singleton.1 hp]; exact ⟨rfl, Nat.lt_succ_self _⟩
  · obtain ⟨e1, e2⟩ := h2 (by omega)
    exact ⟨e1, by rw [e2, pendA_succ]⟩
  · obtain ⟨e1, e2⟩ := h3 (by omega)
    exact ⟨e1, by rw [List.length_append, e2, List.length_singleton]; omega⟩
theorem Inv1.sync {fa k : Nat} {kept : List Sec} (hk : kept.length = k) : Inv1 fa k (k + 1) kept ([] ++ [⟨fa, k, oneSec (UInt8.ofNat k)⟩]) := by
  refine ⟨fun p hp => ?_, fun hi => absurd hi (by omega), fun _ => ⟨hk, by simp⟩⟩
  rw [List.mem_singleton.1 hp]
  exact ⟨rfl, Nat.lt_succ_self _⟩
theorem Inv1.len {fa k i : Nat} {kept : List Sec} {pend : List Wr} (h : Inv1 fa k i kept pend) : pend.length ≤ i := by
  by_cases hi : i ≤ k
  · rw [(h.2.1 hi).2, pendA_len]; exact Nat.le_refl _
  · rw [(h.2.2 (by omega)).2]; omega
theorem inI_at {w : World} {A : Option Addr} {g : Nat} {l : List Int} {c : Nat} (h : InI w A g l c) : IntAt w w.heap.size A l := fun hl => by
  obtain ⟨ad, rfl, rfl, hc⟩ := h.1 hl
  have hg := h.2.2.2.2 hl
  match l, hl with
  | b :: r, _ =>
    have h0 := hc 0 b rfl
    obtain ⟨bl, off, spot⟩ := ad
    have hspot : spot = none := by simpa [Addr.add] using World.cell?_spot h0
    subst hspot
    exact ⟨bl, off, rfl, hg, fun j v hj => by have := hc j v hj; rwa [Addr.add_lit] at this, .inl hg⟩
theorem IntAt.later {w w' : World} {base : Nat} {A : Option Addr} {l : List Int} (h : IntAt w base A l) (hb : Below w.heap.size w w') : IntAt w' base A l := fun hl => by
  obtain ⟨g, off, e, h1, h2, h3⟩ := h hl
  have hh := hb.block g h1
  refine ⟨g, off, e, Nat.lt_of_lt_of_le h1 hb.size, fun j v hj => (World.cell?_of_block (a := ⟨g, off + j, none⟩) hh).trans (h2 j v hj), h3.imp id ?_⟩
  rintro ⟨cs, fr, hc⟩
  exact ⟨cs, fr, hh.trans hc⟩
theorem d2_new {fa fb : Nat} : ({ tick (dk 16384 fa nmA [] [] []) with fs := (dk 16384 fa nmA [] [] []).fs ++ [⟨fb, nmB, [], []⟩] } : Dk) = d2 fa fb [] [] [] [] := rfl
theorem d2_ne {w : World} {base d m fa fb : Nat} {now kept nowb : List Sec} {pend : List Wr} (h : DiskR w base d m (d2 fa fb now kept nowb pend)) : fa ≠ fb := by
  have := h.apart
  unfold d2 at this
  simp only [List.pairwise_cons] at this
  exact this.1 _ (List.mem_singleton.2 rfl)
def secsB (j : Nat) : List Sec := List.replicate j (oneSec 200)
theorem secsB_len (j : Nat) : (secsB j).length = j := List.length_replicate ..
theorem secsB_succ (j : Nat) : secsB (j + 1) = secsB j ++ [oneSec 200] := List.replicate_succ'
theorem secsA_get {n i : Nat} (h : i < n) : (secsA n)[i]? = some (oneSec (UInt8.ofNat i)) := by
  unfold secsA
  rw [List.getElem?_map, List.getElem?_range h]
  rfl
theorem pendM_len (D : Dk) : (pendM D).length = D.pend.length := by unfold pendM; rw [List.length_map]
theorem first_cell {w : World} {base c : Nat} {A : Option Addr} {x : UInt8} (h : w.ownsRow base 5 1 (.slice A (oneSec x).b.length c) (oneSec x).b.length (Byt (oneSec x).b)) : ∃ g, A = some ⟨g, 0, none⟩ ∧ w.cell? ⟨g, 0, none⟩ = some (.int .u8 (x.toNat : Int)) := by
  have hl : (oneSec x).b.length = 64 := by simp [oneSec]
  obtain ⟨g, cap, hv, -, -⟩ := h.form (by omega)
  injection hv with hv1 hv2 hv3
  subst hv1
  subst hv3
  refine ⟨g, rfl, ?_⟩
  have := h.cellAt 0 (by omega)
  rw [this]
  simp [oneSec, Byt]
theorem pd_cell {w : World} {base c t : Nat} {A : Option Addr} {l : List (Nm × Nat)} {x : Nm × Nat} (h : w.ownsRow base 43 2 (.slice A l.length c) l.length (RowV encPd l)) (ht : l[t]? = some x) : ∃ g, A = some ⟨g, 0, none⟩ ∧ w.cell? ⟨g, t * 2, none⟩ = some (strV x.1) := by
  have hlt : t < l.length := (List.getElem?_eq_some_iff.1 ht).1
  obtain ⟨g, cap, hv, -, -⟩ := h.form (by omega)
  injection hv with hv1 hv2 hv3
  subst hv1
  subst hv3
  refine ⟨g, rfl, ?_⟩
  have h0 := h.cellAt (t * 2 + 0) (by omega)
  have h1 := RowV_get layPd l t 0 x ht (by decide)
  rw [h1] at h0
  exact h0
set_option maxRecDepth 100000 in
set_option maxHeartbeats 8000000 in
theorem renames_any (n m k : Int) (A : Option Addr) (g : Nat) (keep : List Int) (c : Nat) (w : World) (_ : -9223372036854775808 ≤ n ∧ n ≤ 9223372036854775807) (_ : -9223372036854775808 ≤ m ∧ m ≤ 9223372036854775807) (_ : -9223372036854775808 ≤ k ∧ k ≤ 9223372036854775807) (hkp : InI w A g keep c) :
    Calls Try.prog 3 #[.int .i64 n, .int .i64 m, .int .i64 k, .slice A keep.length c] w fun e w' => e = .returned (.bool true) ∧ Below w.heap.size w w' := by
  have P1 := Lib.hid (new_ok 16384 w w.heap.size (Nat.le_refl _) (by omega) (by omega))
  by_cases hr : 0 ≤ n ∧ n ≤ 50 ∧ 0 ≤ m ∧ m ≤ 50 ∧ 0 ≤ k ∧ k ≤ n
  · obtain ⟨n, rfl⟩ : ∃ x : Nat, n = (x : Int) := ⟨n.toNat, by omega⟩
    obtain ⟨m, rfl⟩ : ∃ x : Nat, m = (x : Int) := ⟨m.toNat, by omega⟩
    obtain ⟨k, rfl⟩ : ∃ x : Nat, k = (x : Int) := ⟨k.toNat, by omega⟩
    have hn : n ≤ 50 := by omega
    have hm : m ≤ 50 := by omega
    have hk : k ≤ n := by omega
    have t1 : decide ((n : Int) < 0) = false := by rw [decide_eq_false_iff_not]; omega
    have t2 : decide ((n : Int) > 50) = false := by rw [decide_eq_false_iff_not]; omega
    have t3 : decide ((m : Int) < 0) = false := by rw [decide_eq_false_iff_not]; omega
    have t4 : decide ((m : Int) > 50) = false := by rw [decide_eq_false_iff_not]; omega
    have t5 : decide ((k : Int) < 0) = false := by rw [decide_eq_false_iff_not]; omega
    have t6 : decide (n < k) = false := by rw [decide_eq_false_iff_not]; omega
    have HKP := Lib.hid (inI_at hkp)
    have HKV := Lib.hid (show ∀ v ∈ keep, v < 9223372036854775808 from fun v hv => by have := (hkp.2.2.2.1 v hv).2; omega)
    have HKL := Lib.hid hk
    clear hr hkp hk
    go_enter Try.func3, Try.ntmps3
    go_wp2_with fail
    refine P1.out.mono ?_; rintro e w1 ⟨d, mm, rfl, h1, -, -, b1⟩
    have H1 := Lib.hid h1
    have B1 := Lib.hid b1
    clear h1 b1
    go_wp2_with fail
    refine (lives_any _).mono ?_; rintro e w2 ⟨rfl, b2⟩
    have H2 := Lib.hid (H1.out.below b2)
    have B2 := Lib.hid (B1.out.trans (b2.mono B1.out.size))
    clear b2
    go_wp2_with fail
    refine (create_ok H2.out (n := nmA) (by decide) (fun f hf => by cases hf) (by decide) rfl (fun h => by cases h.1) B2.out.size).mono ?_
    rintro e w3 ⟨rfl, fa, h3, k3⟩
    rw [dk_new] at h3
    have H3 := Lib.hid h3
    have B3 := Lib.hid (B2.out.trans (k3.below B2.out.size))
    clear h3 k3
    go_wp2_with fail
    refine (create_ok H3.out (n := nmB) (by decide) (fun f hf => by rw [List.mem_singleton.1 hf]; exact show nmA ≠ nmB by decide) (show (1 : Nat) < 256 by decide) rfl dk_goes B3.out.size).mono ?_
    rintro e w4 ⟨rfl, fb, h4, k4⟩
    rw [d2_new] at h4
    have HNE := Lib.hid (d2_ne h4)
    have H4 := Lib.hid (show DiskR w4 w.heap.size d mm (d2 fa fb (secsA 0) [] [] []) from h4)
    have B4 := Lib.hid (B3.out.trans (k4.below B3.out.size))
    clear h4 k4
    clear t1 t2 t3 t4 t5 t6
    go_wp2_with fail
    go_loopw [11] (fun i wr => ∃ (j : Nat) (kept : List Sec) (pend : List Wr), j ≤ n ∧ i = .int .i64 (j : Int) ∧ Inv1 fa k j kept pend ∧ DiskR wr w.heap.size d mm (d2 fa fb (secsA j) kept [] pend) ∧ Below w.heap.size w wr) (fun i _ => n - (intOf i).toNat)
    case atStart => exact ⟨0, [], [], Nat.zero_le _, rfl, Inv1.start _ _, H4.out, B4.out⟩
    case round =>
      obtain ⟨j, kept, pend, hj, rfl, hinv, hd, hb⟩ := hrel
      have HD := Lib.hid hd
      have HB := Lib.hid hb
      have HI := Lib.hid hinv
      have hpl := hinv.len
      clear hd hb hinv
      by_cases hlt : j < n
      · have HCV := Lib.hid (show ((UInt8.ofNat j).toNat : Int) = (j : Int) % 256 by rw [UInt8.toNat_ofNat']; push_cast; rfl)
        by_cases hjk : j = k
        · subst hjk
          obtain ⟨rfl, rfl⟩ := HI.out.2.1 (Nat.le_refl _)
          have HS := Lib.hid (sync_any HD.out (f := fl fa nmA (secsA j) []) d2_a rfl d2_goes (by show (pendA fa j).length ≤ 1000000; rw [pendA_len]; omega) HB.out.size)
          have hs : (fl fa nmA (secsA j) []).blk = fa := rfl
          rw [hs] at HS
          clear hs
          obtain ⟨kept, hkd, hkl⟩ := d2_sync (now := secsA j) (nowb := []) HNE.out j
          rw [hkd] at HS
          have HKP2 := Lib.hid (Inv1.sync (fa := fa) hkl)
          clear hkd hkl
          go_wp2_with fail
          refine HS.out.mono ?_
          clear HS
          rintro e w5 ⟨rfl, h5, k5⟩
          have H5 := Lib.hid h5
          have B5 := Lib.hid (HB.out.trans (k5.below HB.out.size))
          clear h5 k5
          go_wp2_with fail
          have SC := sector_any (UInt8.ofNat j) w5
          rw [HCV.out, show (j : Int) % 256 = (j : Int) by omega] at SC
          refine SC.mono ?_
          clear SC
          rintro e w6 ⟨A6, rfl, s6, b6⟩
          have H6 := Lib.hid (H5.out.below b6)
          have B6 := Lib.hid (B5.out.trans (b6.mono B5.out.size))
          have Q6 := Lib.hid (s6.any w.heap.size)
          clear s6 b6
          go_wp2_with fail
          have PA := append_ok (c := 64) H6.out (f := fl fa nmA (secsA j) kept) d2_a Q6.out rfl d2_goes (by rw [d2_used, secsA_len]; show ((j + 0 : Nat) : Int) < 16384; omega) (by show (secsA j).length ≤ 16384; rw [secsA_len]; omega) (show (0 : Nat) ≤ 1000000 by decide) B6.out.size
          rw [d2_apa HNE.out, secsA_len, ← secsA_succ] at PA
          refine PA.mono ?_
          clear PA
          rintro e w7 ⟨rfl, h7, k7⟩
          have H7 := Lib.hid h7
          have B7 := Lib.hid (B6.out.trans (k7.below B6.out.size))
          clear h7 k7
          go_wp2_with fail
          exact ⟨⟨j + 1, _, _, by omega, by go_num, HKP2.out, H7.out, B7.out⟩, by simp only [intOf]; omega⟩
        · have i1 : ((j : Int) == (k : Int)) = false := by rw [beq_eq_false_iff_ne]; omega
          have HI2 := Lib.hid (HI.out.next hjk)
          have HJ2 := Lib.hid (show (j : Int) % 256 = (j : Int) by omega)
          clear hjk
          go_wp2_with fail
          have SC := sector_any (UInt8.ofNat j) wr
          rw [HCV.out, HJ2.out] at SC
          refine SC.mono ?_
          clear SC
          rintro e w6 ⟨A6, rfl, s6, b6⟩
          have H6 := Lib.hid (HD.out.below b6)
          have B6 := Lib.hid (HB.out.trans (b6.mono HB.out.size))
          have Q6 := Lib.hid (s6.any w.heap.size)
          clear s6 b6
          go_wp2_with fail
          have PA := append_ok (c := 64) H6.out (f := fl fa nmA (secsA j) kept) d2_a Q6.out rfl d2_goes (by rw [d2_used, secsA_len]; show ((j + 0 : Nat) : Int) < 16384; omega) (by show (secsA j).length ≤ 16384; rw [secsA_len]; omega) (show pend.length ≤ 1000000 by omega) B6.out.size
          rw [d2_apa HNE.out, secsA_len, ← secsA_succ] at PA
          refine PA.mono ?_
          clear PA
          rintro e w7 ⟨rfl, h7, k7⟩
          have H7 := Lib.hid h7
          have B7 := Lib.hid (B6.out.trans (k7.below B6.out.size))
          clear h7 k7
          go_wp2_with fail
          exact ⟨⟨j + 1, _, _, by omega, by go_num, HI2.out, H7.out, B7.out⟩, by simp only [intOf]; omega⟩
      · obtain rfl : j = n := by omega
        have HF1 := Lib.hid HI.out.1
        have HF2 := Lib.hid (show kept.length ≤ j ∧ (k < j → kept.length = k ∧ pend.length = j - k) from ⟨by
          by_cases hkj : j ≤ k
          · rw [(HI.out.2.1 hkj).1]; exact Nat.zero_le _
          · rw [(HI.out.2.2 (by omega)).1]; omega, HI.out.2.2⟩)
        clear HI hlt hj
        go_wp2_with fail
        rename World => w5
        go_loopw [12] (fun i wr => ∃ q : Nat, q ≤ m ∧ i = .int .i64 (q : Int) ∧ DiskR wr w.heap.size d mm (d2 fa fb (secsA j) kept (secsB q) (pend ++ pendB fb q)) ∧ Below w.heap.size w wr) (fun i _ => m - (intOf i).toNat)
        case atStart => exact ⟨0, Nat.zero_le _, rfl, by rw [show pendB fb 0 = [] from rfl, List.append_nil]; exact HD.out, HB.out⟩
        case round =>
          obtain ⟨q, hq, rfl, hd, hb⟩ := hrel
          clear HD HB
          have HD := Lib.hid hd
          have HB := Lib.hid hb
          clear hd hb
          by_cases hlt : q < m
          · go_wp2_with fail
            refine (sector_any 200 wr).mono ?_
            rintro e w6 ⟨A6, rfl, s6, b6⟩
            have H6 := Lib.hid (HD.out.below b6)
            have B6 := Lib.hid (HB.out.trans (b6.mono HB.out.size))
            have Q6 := Lib.hid (s6.any w.heap.size)
            clear s6 b6
            go_wp2_with fail
            have PA := append_ok (c := 64) H6.out (f := fl fb nmB (secsB q) []) d2_b Q6.out rfl d2_goes (by rw [d2_used, secsA_len, secsB_len]; show ((j + q : Nat) : Int) < 16384; omega) (by show (secsB q).length ≤ 16384; rw [secsB_len]; omega) (by show (pend ++ pendB fb q).length ≤ 1000000; rw [List.length_append, pendB_len]; omega) B6.out.size
            rw [d2_apb HNE.out, secsB_len, ← secsB_succ, List.append_assoc, ← pendB_succ] at PA
            refine PA.mono ?_
            clear PA
            rintro e w7 ⟨rfl, h7, k7⟩
            have H7 := Lib.hid h7
            have B7 := Lib.hid (B6.out.trans (k7.below B6.out.size))
            clear h7 k7
            go_wp2_with fail
            exact ⟨⟨q + 1, by omega, by go_num, H7.out, B7.out⟩, by simp only [intOf]; omega⟩
          · obtain rfl : q = m := by omega
            clear hlt hq
            go_wp2_with fail
            have PD := pending_any HD.out (by show (pend ++ pendB fb q).length ≤ 1000000; rw [List.length_append, pendB_len]; omega)
            unfold PdRow at PD
            obtain ⟨L, hL⟩ : ∃ L, L = pend.length + q := ⟨_, rfl⟩
            rw [pendM_len, show (d2 fa fb (secsA j) kept (secsB q) (pend ++ pendB fb q)).pend.length = L by rw [hL]; show (pend ++ pendB fb q).length = _; rw [List.length_append, pendB_len]] at PD
            have hbb : ((L : Int) != (j : Int) + (q : Int) - (k : Int)) = false ∨ (((L : Int) != (j : Int) + (q : Int) - (k : Int)) = true ∧ decide (k < j) = false) := by
              have hkj0 := HKL.out
              by_cases hkj : k < j
              · have := (HF2.out.2 hkj).2
                left
                rw [bne_eq_false_iff_eq]
                omega
              · by_cases he : (L : Int) = (j : Int) + (q : Int) - (k : Int)
                · left; rw [bne_eq_false_iff_eq]; exact he
                · right; exact ⟨by rw [bne_iff_ne]; exact he, by rw [decide_eq_false_iff_not]; exact hkj⟩
            have hL2 : L ≤ 200 := by omega
            clear hL
            refine PD.mono ?_
            clear PD
            rintro e w6 ⟨A6, c6, rfl, -, b6⟩
            have H6 := Lib.hid (HD.out.below b6)
            have B6 := Lib.hid (HB.out.trans (b6.mono HB.out.size))
            clear b6
            go_wp2_with fail
            have PR := rename_over H6.out (f := fl fa nmA (secsA j) kept) (g := fl fb nmB (secsB q) []) d2_a d2_b (show mayNm nmB = true by decide) (show nmA ≠ nmB by decide) (by show (pend ++ pendB fb q).length ≤ 1000000; rw [List.length_append, pendB_len]; omega) rfl d2_goes
            rw [d2_ren HNE.out, filter_ab HNE.out (fun p hp => (HF1.out p hp).1)] at PR
            refine PR.mono ?_
            clear PR
            rintro e w7 ⟨rfl, h7, k7⟩
            have H7 := Lib.hid h7
            have B7 := Lib.hid (B6.out.trans (k7.below B6.out.size))
            clear h7 k7
            have HPF := Lib.hid (dk_pendM (now := secsA j) (kept := kept) (fun p hp => (HF1.out p hp).1))
            have HPL := Lib.hid (pendM_len (dk 16384 fa nmB (secsA j) kept pend))
            rcases hbb with e1 | ⟨e1, e2⟩
            all_goals
              go_wp2_with fail
              have PD := pending_any H7.out (show pend.length ≤ 1000000 by omega)
              unfold PdRow at PD
              refine PD.mono ?_
              clear PD
              rintro e w8 ⟨A8, c8, rfl, o8, b8⟩
              have hql : (pendM (dk 16384 fa nmB (secsA j) kept pend)).length ≤ 50 := by rw [HPL.out]; show pend.length ≤ 50; omega
              generalize pendM (dk 16384 fa nmB (secsA j) kept pend) = pm at *
              have O8 := Lib.hid o8
              have H8 := Lib.hid (H7.out.below b8)
              have B8 := Lib.hid (B7.out.trans (b8.mono B7.out.size))
              have Z8 := Lib.hid b8.size
              clear b8 o8 e1
              go_wp2_with fail
              refine (fsize_ok H8.out (f := fl fa nmB (secsA j) kept) dk_mem).mono ?_; rintro e w' ⟨rfl, rfl⟩
              rw [show (((fl fa nmB (secsA j) kept).now.length : Nat) : Int) = (j : Int) by show (((secsA j).length : Nat) : Int) = _; rw [secsA_len]]
              go_wp2_with fail
              refine (fsize_none H8.out (n := nmA) (by decide) (fun f hf => by rw [List.mem_singleton.1 hf]; exact show nmB ≠ nmA by decide)).mono ?_; rintro e w' ⟨rfl, rfl⟩
              go_wp2_with fail
              refine (list_one H8.out (f := fl fa nmB (secsA j) kept) rfl).mono ?_; rintro e w9 ⟨A9, c9, rfl, b9⟩
              have H9 := Lib.hid (H8.out.below b9)
              have O9 := Lib.hid (own_below O8.out b9)
              have B9 := Lib.hid (B8.out.trans (b9.mono B8.out.size))
              clear b9
              go_wp2_with fail
              refine (used_any H9.out).mono ?_; rintro e w10 ⟨rfl, b10⟩
              rw [show ((usedN (dk 16384 fa nmB (secsA j) kept pend).fs : Nat) : Int) = (j : Int) by rw [dk_used, secsA_len]]
              have H10 := Lib.hid (H9.out.below b10)
              have O10 := Lib.hid (own_below O9.out b10)
              have B10 := Lib.hid (B9.out.trans (b10.mono B9.out.size))
              clear b10
              go_wp2_with fail
              rename World => w11
              go_loopw [19] (fun i wr => ∃ r : Nat, r ≤ j ∧ i = .int .i64 (r : Int) ∧ Below w11.heap.size w11 wr) (fun i _ => j - (intOf i).toNat)
              case atStart => exact ⟨0, Nat.zero_le _, rfl, Below.refl _ _⟩
              case round =>
                obtain ⟨r, hr, rfl, hb⟩ := hrel
                have HX := Lib.hid (H10.out.below hb)
                have HBX := Lib.hid hb
                clear hb
                by_cases hlt : r < j
                · have hr256 : (r : Int) % 256 = (r : Int) := by omega
                  have HRD := Lib.hid (read_ok HX.out (f := fl fa nmB (secsA j) kept) dk_mem rfl r (oneSec (UInt8.ofNat r)) (secsA_get hlt))
                  have HCV := Lib.hid (show ((UInt8.ofNat r).toNat : Int) = (r : Int) by rw [UInt8.toNat_ofNat']; push_cast; exact hr256)
                  have HR2 := Lib.hid hr256
                  clear hr256
                  go_wp2_with fail
                  refine HRD.out.mono ?_; rintro e w12 ⟨A12, c12, rfl, o12, b12⟩
                  obtain ⟨ad, had, hcell⟩ := first_cell o12
                  subst had
                  rw [HCV.out] at hcell
                  have B12 := Lib.hid (below_trans HBX.out b12)
                  have h64 : (oneSec (UInt8.ofNat r)).b.length = 64 := (oneSec (UInt8.ofNat r)).h
                  rw [h64]
                  clear b12 o12 h64
                  have hr2 := HR2.out
                  go_wp2_with fail
                  exact ⟨⟨r + 1, by omega, by go_num, B12.out⟩, by simp only [intOf]; omega⟩
                · obtain rfl : r = j := by omega
                  clear hr hlt
                  have OX := Lib.hid (own_below O10.out HBX.out)
                  have BX := Lib.hid (B10.out.trans (HBX.out.mono B10.out.size))
                  clear HBX
                  go_wp2_with fail
                  obtain ⟨wx, hwx⟩ : ∃ wx, wx = wr := ⟨_, rfl⟩
                  rw [← hwx] at HX OX BX ⊢
                  clear hwx wr
                  go_loopw [22] (fun i wr => ∃ t : Nat, t ≤ pm.length ∧ i = .int .i64 (t : Int) ∧ wx = wr) (fun i _ => pm.length - (intOf i).toNat)
                  case atStart => exact ⟨0, Nat.zero_le _, rfl, rfl⟩
                  case round =>
                    obtain ⟨t, ht, rfl, rfl⟩ := hrel
                    by_cases hlt : t < pm.length
                    · obtain ⟨gp, hgp, hcl⟩ := pd_cell OX.out (List.getElem?_eq_getElem hlt)
                      rw [HPF.out _ (List.getElem_mem hlt)] at hcl
                      have hcl' : wx.cell? ⟨gp, t * 2, none⟩ = some (.string ⟨#[98]⟩) := hcl
                      subst hgp
                      clear hcl
                      go_wp2_with fail
                      exact ⟨⟨t + 1, by omega, by go_num, by trivial⟩, by simp only [intOf]; omega⟩
                    · obtain rfl : t = pm.length := by omega
                      clear ht hlt
                      have HCR := Lib.hid (crash_any (c := c) HX.out (HKP.out.later BX.out) HKV.out (show pend.length ≤ 1000000 by omega) BX.out.size)
                      obtain ⟨kc, hkc, hl1, hl2⟩ := dk_crashB (now := secsA r) (kept := kept) keep r HF1.out HF2.out.1
                      rw [hkc] at HCR
                      have hfin : (k < r → k ≤ kc.length) ∧ kc.length ≤ r := ⟨fun h => by have := (HF2.out.2 h).1; omega, hl2⟩
                      have HFIN := Lib.hid hfin
                      clear hkc hl1 hl2 hfin
                      go_wp2_with fail
                      refine HCR.out.mono ?_; rintro e w14 ⟨rfl, h14, k14⟩
                      have B14 := Lib.hid (BX.out.trans (k14.below BX.out.size))
                      have H14 := Lib.hid h14
                      clear h14 k14 HCR
                      go_wp2_with fail
                      refine (fsize_ok H14.out (f := fl fa nmB kc kc) dk_mem).mono ?_; rintro e w' ⟨rfl, rfl⟩
                      rw [show (fl fa nmB kc kc).now.length = kc.length from rfl]
                      obtain ⟨f1, f2⟩ := HFIN.out
                      have g1 : decide (kc.length ≤ r) = true := by rw [decide_eq_true_eq]; exact f2
                      by_cases hkr : k < r
                      · have g2 : decide (r ≤ k) = false := by rw [decide_eq_false_iff_not]; omega
                        have g3 : decide (k ≤ kc.length) = true := by rw [decide_eq_true_eq]; exact f1 hkr
                        clear f1 f2 hkr
                        go_wp2_with fail
                        go_ret
                        exact ⟨rfl, B14.out⟩
                      · have g2 : decide (r ≤ k) = true := by rw [decide_eq_true_eq]; omega
                        clear f1 f2 hkr
                        go_wp2_with fail
                        go_ret
                        exact ⟨rfl, B14.out⟩
  · have go : ∀ a b c1 d1 e1 f1 : Bool, decide (n < 0) = a → decide (n > 50) = b → decide (m < 0) = c1 → decide (m > 50) = d1 → decide (k < 0) = e1 → decide (k > n) = f1 → (a || b || c1 || d1 || e1 || f1) = true →
        Calls Try.prog 3 #[.int .i64 n, .int .i64 m, .int .i64 k, .slice A keep.length c] w fun e w' => e = .returned (.bool true) ∧ Below w.heap.size w w' := by
      intro a b c1 d1 e1 f1 t1 t2 t3 t4 t5 t6 hh
      clear hr hkp
      go_enter Try.func3, Try.ntmps3
      go_wp2_with fail
      refine P1.out.mono ?_; rintro e w1 ⟨d, mm, rfl, h1, -, -, b1⟩
      have B1 := Lib.hid b1
      clear h1 b1
      go_wp2_with fail
      refine (lives_any _).mono ?_; rintro e w2 ⟨rfl, b2⟩
      have B2 := Lib.hid (B1.out.trans (b2.mono B1.out.size))
      clear b2
      cases a <;> cases b <;> cases c1 <;> cases d1 <;> cases e1 <;> cases f1 <;> first | (exact absurd hh (by decide)) | skip
      all_goals
        clear hh
        go_wp2_with fail
        refine (lives_any _).mono ?_; rintro e w3 ⟨rfl, b3⟩
        have B3 := Lib.hid (B2.out.trans (b3.mono B2.out.size))
        clear b3
        go_wp2_with fail
        go_ret
        exact ⟨rfl, B3.out⟩
    refine go _ _ _ _ _ _ rfl rfl rfl rfl rfl rfl ?_
    simp only [Bool.or_eq_true, decide_eq_true_eq]
    omega
end Go.Proofs.Ytfmmdnjoichifaa
