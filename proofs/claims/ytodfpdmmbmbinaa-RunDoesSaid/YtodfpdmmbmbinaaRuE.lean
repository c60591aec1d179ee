/- Runs: Front. -/
import Derived.Test.YtodfpdmmbmbinaaRuD
namespace Go.Proofs.Ytodfpdmmbmbinaa
open Go.RowKit Go.Sort

theorem layMo : Lay (Int × Int) encP 2 := ⟨fun _ => rfl, fun x u hu => by
  unfold encP at hu
  rcases List.mem_cons.1 hu with rfl | hu
  · rfl
  · rcases List.mem_cons.1 hu with rfl | hu
    · rfl
    · exact absurd hu List.not_mem_nil, by decide⟩
theorem info_moZ : (Try.prog.info? 61).map (fun i => (i.zero, i.size, i.bytes)) = some (some (.agg #[.int .i64 0, .int .i64 0]), 2, 16) := by kernel_rfl
def covM (F : List (Int × Int)) (m : Int × Int) : Bool := F.any fun y => aheadM y m
def stepFr (F : List (Int × Int)) (e : En) : List (Int × Int) := if F.length = 256 then F else if covM F e.1 then F else F ++ [e.1]
def frontE (l : List En) : List (Int × Int) := l.foldl stepFr []
theorem frontE_snoc (l : List En) (e : En) : frontE (l ++ [e]) = stepFr (frontE l) e := by
  unfold frontE
  rw [List.foldl_append]
  rfl
theorem frontE_len (l : List En) : (frontE l).length ≤ 256 := by
  unfold frontE
  have : ∀ (l : List En) (F : List (Int × Int)), F.length ≤ 256 → (l.foldl stepFr F).length ≤ 256 := by
    intro l
    induction l with
    | nil => intro F h; exact h
    | cons e l ih =>
      intro F h
      refine ih _ ?_
      unfold stepFr
      split
      · exact h
      · split
        · exact h
        · rw [List.length_append, List.length_singleton]; omega
  exact this l [] (by simp)
theorem frontE_stop (l : List En) (k : Nat) (h : (frontE (l.take k)).length = 256) : frontE l = frontE (l.take k) := by
  have : ∀ (l : List En) (F : List (Int × Int)), F.length = 256 → l.foldl stepFr F = F := by
    intro l
    induction l with
    | nil => intro F h; rfl
    | cons e l ih =>
      intro F h
      have : stepFr F e = F := by unfold stepFr; rw [if_pos h]
      rw [List.foldl_cons, this]
      exact ih F h
  conv => lhs; rw [← List.take_append_drop k l]
  unfold frontE at h ⊢
  rw [List.foldl_append]
  exact this _ _ h
section
variable {w w' w1 : World} {base r : Nat} {hb : Option Nat} {R : Rn}
/-- A new row of moments. -/
def MoRow (w : World) (F : List (Int × Int)) (e : Ending) (w' : World) : Prop := ∃ A c, e = .returned (.slice A F.length c) ∧ w'.ownsRow w.heap.size 61 2 (.slice A F.length c) F.length (Prs F) ∧ Below w.heap.size w w'
set_option maxRecDepth 100000 in
set_option maxHeartbeats 2000000 in
theorem rfront_any (h : RunR w base r hb R) : Calls Try.prog 40 #[ptR r] w (MoRow w (frontE (srtE R.held))) := by
  have P := Lib.hid (rall_any h)
  have hg := h.good
  have hbig : (srtE R.held).length ≤ 4096 := by rw [srtE_length]; exact Nat.le_trans hg.2.2.2.1 hg.2.1
  clear h hg
  generalize srtE R.held = l at *
  go_enter Try.func40, Try.ntmps40
  go_wp2_with fail
  refine P.out.mono ?_; rintro e w1 ⟨A, c, rfl, ⟨gg, hs⟩, hbl, -⟩
  have HL := Lib.hid hs
  have HBL := Lib.hid hbl
  clear hs hbl
  go_wp2_with fail
  go_loopw [3, 9] (fun s i wr => ∃ (k : Nat) (A2 : Option Addr) (c2 : Nat), k ≤ l.length ∧ i = .int .i64 (k : Int) ∧ s = .slice A2 (frontE (l.take k)).length c2 ∧ wr.ownsRow w1.heap.size 61 2 s (frontE (l.take k)).length (Prs (frontE (l.take k))) ∧ Below w1.heap.size w1 wr) (fun _ i _ => l.length - (intOf i).toNat)
  case atStart => exact ⟨0, none, 0, Nat.zero_le _, rfl, rfl, own_nil_k layMo _ _ _, Below.refl _ _⟩
  case round =>
    obtain ⟨k, A2, c2, hk, rfl, rfl, ho, hb⟩ := hrel
    have HO := Lib.hid ho
    have HB := Lib.hid hb
    have hfl := frontE_len (l.take k)
    clear ho hb
    by_cases hlt : k < l.length
    · have hea := List.getElem?_eq_getElem hlt
      obtain ⟨-, off, rfl, hc⟩ := (HL.out.below HB.out).at_ layE hea
      have htk : l.take (k + 1) = l.take k ++ [l[k]] := by rw [List.take_add_one, hea]; rfl
      obtain ⟨x, hx⟩ : ∃ x, x = l[k] := ⟨_, rfl⟩
      rw [← hx] at hc htk
      obtain ⟨⟨a, b⟩, c', d⟩ := x
      have q0 := hc 0 _ rfl
      have q1 := hc 1 _ rfl
      have q2 := hc 2 _ rfl
      have q3 := hc 3 _ rfl
      rw [Nat.add_zero] at q0
      have hst : frontE (l.take (k + 1)) = stepFr (frontE (l.take k)) ((a, b), (c', d)) := by rw [htk, frontE_snoc]
      have HT := Lib.hid hst
      have HSTOP := Lib.hid (frontE_stop l k)
      have b1 := alloc_below wr (.cells #[.int .i64 a, .int .i64 b, .int .i64 c', .int .i64 d] 65)
      have B1 := Lib.hid b1
      have HX := Lib.hid (EnBox.new wr ((a, b), (c', d)) 65)
      obtain ⟨F, hF⟩ : ∃ F, F = frontE (l.take k) := ⟨_, rfl⟩
      rw [← hF] at HT HO HSTOP hfl ⊢
      have HFE := Lib.hid hF
      obtain ⟨g2, -, sF, -, -, hcap, hmx⟩ := SlP.of_own HO.out
      have PC := Lib.hid (covers_any A2 g2 F c2 a b (wr.alloc (.cells #[.int .i64 a, .int .i64 b, .int .i64 c', .int .i64 d] 65)) (sF.below b1) (by omega))
      clear hea hx htk hc hst hF b1 sF
      by_cases hfull : F.length = 256
      · have d1 : ((F.length : Int) == 256) = true := by rw [beq_iff_eq]; omega
        have HST := Lib.hid (HSTOP.out hfull)
        have HFU := Lib.hid hfull
        have HO3 := Lib.hid (own_below HO.out B1.out)
        clear hfl hcap hmx
        go_wp2_with fail
        go_ret
        refine ⟨A2, c2, by rw [HST.out, HFU.out]; rfl, by rw [HST.out]; exact own_mono HO3.out HBL.out.size, HBL.out.trans ((HB.out.trans (B1.out.mono HB.out.size)).mono HBL.out.size)⟩
      · have d1 : ((F.length : Int) == 256) = false := by rw [beq_eq_false_iff_ne]; omega
        have HNF := Lib.hid hfull
        clear hfull hcap hmx
        go_wp2_with fail
        refine PC.out.mono ?_; rintro e w2 ⟨rfl, b2⟩
        clear q0 q1 q2 q3
        obtain ⟨q0, q1, q2, q3⟩ := (HX.out.below b2).four
        have B2 := Lib.hid (below_trans B1.out b2)
        have BW := Lib.hid (HB.out.trans (B2.out.mono HB.out.size))
        have HO2 := Lib.hid (own_below HO.out B2.out)
        have hcv : (F.any fun x => aheadM x (a, b)) = covM F (a, b) := rfl
        rw [hcv]
        obtain ⟨q, hq⟩ : ∃ q, q = covM F (a, b) := ⟨_, rfl⟩
        rw [← hq]
        have hs2 : frontE (l.take (k + 1)) = if q then F else F ++ [(a, b)] := by
          rw [HT.out, hq]
          unfold stepFr
          rw [if_neg HNF.out]
        have HS2 := Lib.hid hs2
        clear hq hs2 b2 PC hcv HO HNF
        cases q
        · have HR := Lib.hid (reads_oneK layMo w2 (a, b) 61)
          have HOA := Lib.hid (World.ownsRow.alloc HO2.out (.cells (encP (a, b)).toArray 61))
          have BWA := Lib.hid (BW.out.alloc BW.out.size (.cells (encP (a, b)).toArray 61))
          go_wp2_with (at_builtin; (refine wpList_appK layMo (ys := [(a, b)]) _ rfl (.tmp 21) (.tmp 24) _ rfl Try.underlying66 info_moZ rfl HOA.out HR.out 1 rfl rfl (by omega) (by decide) BWA.out.size ?_); intro A5 c5 w5 o5 gr5; have O5 := Lib.hid o5; have G5 := Lib.hid gr5; clear o5 gr5)
          have hf := HS2.out
          rw [if_neg (by decide)] at hf
          have B5 := Lib.hid (show Below w1.heap.size w1 w5 from BWA.out.grown (Grew.by_ G5.out) BWA.out.size fun i hi => (World.ownsRow.lt HOA.out i hi).1)
          exact ⟨⟨k + 1, A5, c5, by omega, by go_num, by rw [hf, List.length_append]; rfl, by rw [hf, List.length_append]; exact O5.out, B5.out⟩, by simp [intOf]; omega⟩
        · go_wp2
          have hf := HS2.out
          rw [if_pos trivial] at hf
          exact ⟨⟨k + 1, A2, c2, by omega, by go_num, by rw [hf], by rw [hf]; exact HO2.out, BW.out⟩, by simp [intOf]; omega⟩
    · obtain rfl : k = l.length := by omega
      have ho := HO.out
      rw [List.take_length] at ho ⊢
      have HO := Lib.hid ho
      clear ho
      go_wp2
      go_ret
      exact ⟨A2, c2, rfl, own_mono HO.out HBL.out.size, HBL.out.trans (HB.out.mono HBL.out.size)⟩
end
end Go.Proofs.Ytodfpdmmbmbinaa
