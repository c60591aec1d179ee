/- Contracts of package page: Tag and Get. -/
import Derived.Test.YtfilelgbffbnlaaDoorPgB
import Derived.Test.YtfilelgbffbnlaaDoorCrcC
namespace Go.Proofs.YtfilelgbffbnlaaDoor
open Go.RowKit

theorem eql_slice_nil {P : Program} (w : World) (t e : TypeId) (a : Option Addr) (l c : Nat) (h : P.underlying t = some (.slice e)) : (binOp .eql t (.slice a l c) (.slice none 0 0)).run P w = .ok (.bool a.isNone) w := by
  simp only [binOp]
  simp [run_equal_slice_nil w t e a l c h]
theorem equal_any (A B : Option Addr) (h g : Nat) (l m : List UInt8) (c d : Nat) (w : World) (hl : SlB w h A l) (hm : SlB w g B m) :
    Calls Tryd.prog 22 #[.slice A l.length c, .slice B m.length d] w fun e w' => e = .returned (.bool (l == m)) ∧ w = w' := by
  by_cases he : l = m
  · subst he
    rw [beq_self_eq_true]
    exact equal_yes A B h g l c d w hl hm
  · rw [show (l == m) = false by simpa using he]
    exact equal_no A B h g l m c d w hl hm he
/-- A slice with some bytes, wherever they lie, behind what was there. -/
def NewS (w w' : World) (A : Option Addr) (c : Nat) (l : List UInt8) : Prop := ∃ g, SlB w' g A l ∧ w.heap.size ≤ g ∧ l.length ≤ c ∧ c ≤ maxLen
theorem NewS.nil (w w' : World) : NewS w w' none 0 [] := ⟨w.heap.size, SlB.nil _ _ _, Nat.le_refl _, Nat.le_refl _, by decide⟩
theorem NewS.of_own {w w' : World} {A : Option Addr} {c : Nat} {l : List UInt8} (h : w'.ownsRow w.heap.size 5 1 (.slice A l.length c) l.length (Byt l)) : NewS w w' A c l := by
  obtain ⟨g, hg, s, -⟩ := SlB.of_own h
  exact ⟨g, s, hg, own_cap h⟩
set_option maxHeartbeats 400000 in
theorem cloneU8_any (A : Option Addr) (h : Nat) (l : List UInt8) (c : Nat) (w : World) (hs : SlB w h A l) (hl : l.length ≤ 10000) :
    Calls Tryd.prog 21 #[.slice A l.length c] w fun e w' => ∃ A' c', e = .returned (.slice A' l.length c') ∧ NewS w w' A' c' l ∧ Below w.heap.size w w' := by
  rcases A with _ | ad
  · obtain rfl : l = [] := by
      by_cases h0 : l = []
      · exact h0
      · obtain ⟨ad, he, -⟩ := hs h0
        cases he
    have e0 := fun W => eql_slice_nil (P := Tryd.prog) W 22 5 none 0 c Tryd.underlying22
    go_enter Tryd.func21, Tryd.ntmps21
    go_wp2
    go_ret
    exact ⟨none, 0, rfl, NewS.nil _ _, Below.refl _ _⟩
  · have HE := Lib.hid (empty_own w 5)
    have HR := Lib.hid (SlB.reads (n := l.length) (hs.below (alloc_below w (.cells #[] 5)) fun h => h) rfl)
    have e0 := fun W => eql_slice_nil (P := Tryd.prog) W 22 5 (some ad) l.length c Tryd.underlying22
    clear hs
    go_enter Tryd.func21, Tryd.ntmps21
    go_wp2_with (at_builtin; (refine wpList_appB _ rfl (.tmp 5) (.tmp 6) _ rfl Tryd.underlying22 info_u8 HE.out HR.out c rfl rfl (by omega) (by simp) ?_); intro A2 c2 w2 o2 gr2; rw [Nat.zero_add, List.nil_append] at o2; have O2 := Lib.hid o2; have B2 := Lib.hid (show Below w.heap.size w w2 from ((Below.refl _ _).alloc (Nat.le_refl _) _).grown (Grew.by_ gr2) (by simp) (by simp [Value.ownBlock])); clear o2 gr2)
    go_ret
    exact ⟨A2, c2, by simp, NewS.of_own O2.out, B2.out⟩
/-- The tag that is told. -/
def tagT (s : List UInt8) : Int := if tagOk s then tagV s else 0
theorem below_drew0 (w : World) : Below w.heap.size w w.drew := ⟨rfl, rfl, rfl, Nat.le_refl _, fun _ _ => rfl⟩
def TagAns (w : World) (s : List UInt8) (e : Ending) (w' : World) : Prop := e = .returned (.tuple #[.int .i64 (tagT s), .bool (tagOk s)]) ∧ Below w.heap.size w w'
theorem TagAns.no {w w' : World} {s : List UInt8} (h : tagOk s = false) (hb : Below w.heap.size w w') : TagAns w s (.returned (.tuple #[.int .i64 0, .bool false])) w' := by
  refine ⟨?_, hb⟩
  unfold tagT
  rw [h]
  rfl
theorem TagAns.yes {w w' : World} {s : List UInt8} {t : Int} (h : tagOk s = true) (ht : tagV s = t) (hb : Below w.heap.size w w') : TagAns w s (.returned (.tuple #[.int .i64 t, .bool true])) w' := by
  refine ⟨?_, hb⟩
  unfold tagT
  rw [h, ← ht]
  rfl
set_option maxRecDepth 100000 in
set_option maxHeartbeats 2000000 in
theorem ptag_any (A : Option Addr) (h : Nat) (s : List UInt8) (c : Nat) (w : World) (hs : SlB w h A s) (hsc : s.length ≤ c) (hc : c ≤ maxLen) :
    Calls Tryd.prog 11 #[.slice A s.length c] w (TagAns w s) := by
  have hsm : s.length ≤ 9223372036854775807 := Nat.le_trans hsc hc
  by_cases h64 : s.length = 64
  · have d1 : ((s.length : Int) != 64) = false := by rw [bne_eq_false_iff_eq]; omega
    have hh := hs.drop (k := 56) hsc
    unfold cutA at hh
    rw [if_neg (by omega)] at hh
    have hd8 : (s.drop 56).length = 8 := by rw [List.length_drop]; omega
    have ht8 : (s.take 8).length = 8 := by rw [List.length_take]; omega
    have PE := Lib.hid (fun W (b : Below w.heap.size w W) => equal_any A (A.map (·.add 56)) h h (s.take 8) (s.drop 56) c (c - 56) W ((hs.take 8).below b fun h => h) (hh.below b fun h => h))
    have PR := Lib.hid (fun W (b : Below w.heap.size w W) => from_any A c h (s.take 8) W ((hs.take 8).below b fun h => h) (by omega))
    have hta : tagOk s = ((s.take 8 == s.drop 56) && okTag (tagV s)) := by unfold tagOk; rw [decide_eq_true h64]; rfl
    have htv : tagV s = ((fixedM 8 (some (s.take 8))).1 : Int) := rfl
    rw [ht8] at PE PR
    rw [hd8] at PE
    have HTA := Lib.hid hta
    have HTV := Lib.hid htv
    generalize (s.take 8 == s.drop 56) = q at PE HTA
    generalize s.take 8 = p at PR HTV
    obtain ⟨tg, htg⟩ : ∃ tg, tg = tagV s := ⟨_, rfl⟩
    rw [← htg] at HTV HTA
    have HTG := Lib.hid htg
    clear htg
    clear hs hh hd8 ht8 hta htv
    unfold maxLen at hc
    have h64c : 64 ≤ c := by omega
    rw [h64]
    clear d1 hsc h64 hsm
    go_enter Tryd.func11, Tryd.ntmps11
    go_wp2_with fail
    refine wp_region_R (R := RB) (n := 11) (by kernel_rfl) rfl ?_
    refine batchB [0, 1, 2, 3, 4, 5, 6, 7] (fuel := 3) rfl (by kernel_rfl) (by kernel_rfl) (fun _ _ d _ _ h => by cases d <;> exact h) ?_; (repeat (first | ((with_reducible apply wq0); rfl; rfl; rfl; intro K hK; go_big_quiet_op; refine hK _ ?_; clear hK K) | ((with_reducible apply wq1); rfl; rfl; rfl; rfl; rfl; rfl; intro K hK; go_big_quiet_op; refine hK _ ?_; clear hK K) | ((with_reducible apply wqs); rfl; rfl; rfl; rfl; rfl; rfl; simp only [Act.put, List.setIfInBounds_toArray, List.set_cons_zero, List.set_cons_succ]) | ((with_reducible apply wqu); rfl; rfl; rfl; rfl; rfl; simp only [same, Act.put, List.setIfInBounds_toArray, List.set_cons_zero, List.set_cons_succ]))); refine wqIdx_nil ?_
    refine wpAnyR_sole (i := 8) rfl (by kernel_rfl) (fun K hK => ?_); go_simp
    refine (PE.out _ (below_drew0 w)).mono ?_; rintro e w' ⟨rfl, rfl⟩
    refine hK _ _ (RB.refl _) ?_
    clear hK K
    cases q
    · refine batchB [9, 10] (fuel := 0) rfl (by kernel_rfl) (by kernel_rfl) (fun _ _ d _ _ h => by cases d <;> exact h) ?_; (repeat (first | ((with_reducible apply wq0); rfl; rfl; rfl; intro K hK; go_big_quiet_op; refine hK _ ?_; clear hK K) | ((with_reducible apply wq1); rfl; rfl; rfl; rfl; rfl; rfl; intro K hK; go_big_quiet_op; refine hK _ ?_; clear hK K) | ((with_reducible apply wqs); rfl; rfl; rfl; rfl; rfl; rfl; simp only [Act.put, List.setIfInBounds_toArray, List.set_cons_zero, List.set_cons_succ]) | ((with_reducible apply wqu); rfl; rfl; rfl; rfl; rfl; simp only [same, Act.put, List.setIfInBounds_toArray, List.set_cons_zero, List.set_cons_succ]))); refine wqIdx_nil ?_
      refine wpAnyR_done (by kernel_rfl) ?_ _
      go_wp2
      go_ret2
      exact TagAns.no HTA.out (below_drew0 w)
    · refine batchB [9, 10] (fuel := 0) rfl (by kernel_rfl) (by kernel_rfl) (fun _ _ d _ _ h => by cases d <;> exact h) ?_; (repeat (first | ((with_reducible apply wq0); rfl; rfl; rfl; intro K hK; go_big_quiet_op; refine hK _ ?_; clear hK K) | ((with_reducible apply wq1); rfl; rfl; rfl; rfl; rfl; rfl; intro K hK; go_big_quiet_op; refine hK _ ?_; clear hK K) | ((with_reducible apply wqs); rfl; rfl; rfl; rfl; rfl; rfl; simp only [Act.put, List.setIfInBounds_toArray, List.set_cons_zero, List.set_cons_succ]) | ((with_reducible apply wqu); rfl; rfl; rfl; rfl; rfl; simp only [same, Act.put, List.setIfInBounds_toArray, List.set_cons_zero, List.set_cons_succ]))); refine wqIdx_nil ?_
      refine wpAnyR_done (by kernel_rfl) ?_ _
      go_wp2_with fail
      refine (PR.out _ (below_drew0 w)).mono ?_; rintro e w1 ⟨g, h1, rfl, hg, -, r1, b1⟩
      have R1 := Lib.hid r1
      have B1 := Lib.hid (show Below w.heap.size w w1 from ⟨b1.os, b1.tape, b1.output, b1.size, b1.block⟩)
      clear r1 b1
      go_wp2_with fail
      refine (fixed_at g h1 8 (some p) w1 R1.out).mono ?_; rintro e w2 ⟨rfl, -, gr⟩
      rw [← HTV.out]
      have B2 := Lib.hid (show Below w.heap.size w w2 from B1.out.grown gr B1.out.size fun i hi => by injection hi with hi; subst hi; exact hg)
      clear gr hg
      go_wp2_with fail
      refine (mayTag_any tg w2).mono ?_; rintro e w3 ⟨rfl, rfl⟩
      obtain ⟨ok, hok⟩ : ∃ ok, ok = okTag tg := ⟨_, rfl⟩
      rw [← hok]
      rw [← hok] at HTA
      clear hok
      cases ok
      · go_wp2
        go_ret2
        exact TagAns.no HTA.out B2.out
      · go_wp2
        go_ret2
        exact TagAns.yes HTA.out HTG.out.symm B2.out
  · have d1 : ((s.length : Int) != 64) = true := by rw [bne_iff_ne]; omega
    have hta : tagOk s = false := by unfold tagOk; rw [decide_eq_false h64]; rfl
    have HTA := Lib.hid hta
    clear hta
    go_enter Tryd.func11, Tryd.ntmps11
    go_wp2_with fail
    refine wp_region_R (R := RB) (n := 11) (by kernel_rfl) rfl ?_
    refine batchB [0, 1, 2, 3, 4, 5, 6, 7, 8, 9, 10] (fuel := 0) rfl (by kernel_rfl) (by kernel_rfl) (fun _ _ d _ _ h => by cases d <;> exact h) ?_; (repeat (first | ((with_reducible apply wq0); rfl; rfl; rfl; intro K hK; go_big_quiet_op; refine hK _ ?_; clear hK K) | ((with_reducible apply wq1); rfl; rfl; rfl; rfl; rfl; rfl; intro K hK; go_big_quiet_op; refine hK _ ?_; clear hK K) | ((with_reducible apply wqs); rfl; rfl; rfl; rfl; rfl; rfl; simp only [Act.put, List.setIfInBounds_toArray, List.set_cons_zero, List.set_cons_succ]) | ((with_reducible apply wqu); rfl; rfl; rfl; rfl; rfl; simp only [same, Act.put, List.setIfInBounds_toArray, List.set_cons_zero, List.set_cons_succ]))); refine wqIdx_nil ?_
    refine wpAnyR_done (by kernel_rfl) ?_ _
    go_wp2
    go_ret2
    exact TagAns.no HTA.out (below_drew0 w)
/-- What is got. -/
def getD (s : List UInt8) (tag : Int) : List UInt8 := if getE s tag = 0 then heldM s else []
def GetAns (w : World) (s : List UInt8) (tag : Int) (e : Ending) (w' : World) : Prop := ∃ A c, e = .returned (.tuple #[.slice A (getD s tag).length c, .int .i64 (getE s tag)]) ∧ NewS w w' A c (getD s tag) ∧ Below w.heap.size w w'
theorem GetAns.no {w w' : World} {s : List UInt8} {tag n : Int} (h : getE s tag = n) (hn : n ≠ 0) (hb : Below w.heap.size w w') : GetAns w s tag (.returned (.tuple #[.slice none 0 0, .int .i64 n])) w' := by
  have hd : getD s tag = [] := by unfold getD; rw [h, if_neg hn]
  refine ⟨none, 0, ?_, ?_, hb⟩
  · rw [hd, h]; rfl
  · rw [hd]; exact NewS.nil _ _
set_option maxRecDepth 100000 in
set_option maxHeartbeats 2000000 in
theorem pget_any (A : Option Addr) (h : Nat) (s : List UInt8) (c : Nat) (tag : Int) (w : World) (hs : SlB w h A s) (hsc : s.length ≤ c) (hc : c ≤ maxLen) (hh : HalvesAt w) :
    Calls Tryd.prog 10 #[.slice A s.length c, .int .i64 tag] w (GetAns w s tag) := by
  have PT := Lib.hid ((ptag_any A h s c w hs hsc hc).mono (R' := fun e w' => e = .returned (.tuple #[.int .i64 (tagT s), .bool (tagOk s)]) ∧ Below w.heap.size w w') fun e w' h => h)
  by_cases hok : tagOk s = true
  · have h3 := (tagOk_iff s).1 hok
    by_cases htg : tagV s = tag
    · have d1 : (tagV s != tag) = false := by rw [bne_eq_false_iff_eq]; exact htg
      have h64 := h3.1
      have hc8 := hs.cell (k := 8) (by omega)
      have hg8 : s.getD 8 0 = s[8]'(by omega) := by rw [List.getD_eq_getElem?_getD, List.getElem?_eq_getElem (by omega)]; rfl
      have hget : getE s tag = if (s.getD 8 0).toNat ≤ 43 ∧ pageM tag.toNat (heldM s) = s then 0 else 20 := by unfold getE; rw [if_pos ⟨hok, htg⟩]
      rw [← hg8] at hc8
      obtain ⟨⟨bk, off, sp⟩, rfl, hcell⟩ := hc8
      obtain rfl : sp = none := by
        obtain ⟨ad', e0, hc0⟩ := hs.cell (k := 0) (by omega)
        injection e0 with e0
        subst e0
        simpa [Addr.add] using World.cell?_spot hc0
      rw [Addr.add_lit] at hcell
      have hotg : okTag tag = true := by rw [← htg]; exact h3.2.2
      have hT : tagT s = tagV s := by unfold tagT; rw [hok]; rfl
      rw [hT, hok, h64] at PT
      generalize tagV s = tv at PT d1 htg
      clear hT htg hg8 h3
      have hhl := heldM_length s h64
      have hhm : SlB w h (if c = 9 then some ⟨bk, off, none⟩ else (some (⟨bk, off, none⟩ : Addr)).map (·.add 9)) (heldM s) := (hs.drop (k := 9) hsc).take _
      rw [if_neg (by omega), Option.map_some, Addr.add_lit] at hhm
      obtain ⟨n, hn⟩ : ∃ n, n = (s.getD 8 0).toNat := ⟨_, rfl⟩
      rw [← hn] at hcell hget hhl
      have hn256 : n < 256 := by rw [hn]; exact UInt8.toNat_lt _
      clear hn
      have HS := Lib.hid hs
      have HH := Lib.hid hh
      have HC := Lib.hid (fun W (b : Below w.heap.size w W) => (World.cell?_of_block (a := ⟨bk, off + 8, none⟩) (b.block _ (World.block_lt_of_cell? w _ hcell))).trans hcell)
      have HM := Lib.hid hhm
      have HG := Lib.hid hget
      have HL := Lib.hid hhl
      have HK := Lib.hid hok
      have h64c : 64 ≤ c := by omega
      have H64 := Lib.hid h64
      rw [h64]
      unfold maxLen at hc
      clear hs hh hcell hhm hget hhl hok h64 hsc
      by_cases h43 : 43 < n
      · have d2 : decide ((43 : Int) < (n : Int)) = true := by rw [decide_eq_true_eq]; omega
        have hge : getE s tag = 20 := by rw [HG.out, if_neg (by omega)]
        have HGE := Lib.hid hge
        clear hge
        go_enter Tryd.func10, Tryd.ntmps10
        go_wp2_with fail
        refine PT.out.mono ?_; rintro e w1 ⟨rfl, b1⟩
        have B1 := Lib.hid b1
        have c8 := HC.out _ b1
        clear b1
        go_wp2
        go_ret2
        exact GetAns.no HGE.out (by decide) B1.out
      · have d2 : decide ((43 : Int) < (n : Int)) = false := by rw [decide_eq_false_iff_not]; omega
        have hlen := HL.out (by omega)
        generalize hhd : heldM s = d at HM HG HL hlen
        have HHD := Lib.hid hhd
        have HLEN := Lib.hid hlen
        clear hhd HL
        subst hlen
        go_enter Tryd.func10, Tryd.ntmps10
        go_wp2_with fail
        refine PT.out.mono ?_; rintro e w1 ⟨rfl, b1⟩
        have B1 := Lib.hid b1
        have c8 := HC.out _ b1
        have M1 := Lib.hid (HM.out.below b1 fun h => h)
        clear b1
        go_wp2_with fail
        refine (cloneU8_any _ h d (c - 9) w1 M1.out (by omega)).mono ?_; rintro e w2 ⟨A2, c2, rfl, n2, b2⟩
        obtain ⟨g2, s2, hg2, q21, q22⟩ := n2
        have B2 := Lib.hid (below_trans B1.out b2)
        have S2 := Lib.hid s2
        have HH2 := HH.out.below B2.out HH.out.pos
        have P3 := Lib.hid (pput_ok tag A2 g2 d c2 w2 hotg s2 (by omega) q21 q22 HH2)
        have hpl := pageM_length tag.toNat d (by omega)
        have hg := HG.out
        simp only [show d.length ≤ 43 by omega, true_and] at hg
        generalize pageM tag.toNat d = pg at P3 hpl hg
        have HPL := Lib.hid hpl
        have HG := Lib.hid hg
        have Q21 := Lib.hid q21
        have Q22 := Lib.hid q22
        have HG2 := Lib.hid (Nat.le_trans B1.out.size hg2)
        clear s2 b2 HH2 hpl hg q21 q22 hg2
        go_wp2_with fail
        refine P3.out.mono ?_; rintro e w3 ⟨v3, rfl, o3, b3⟩
        obtain ⟨A3, c3, rfl⟩ := own_form o3
        obtain ⟨g3, hg3, s3, -⟩ := SlB.of_own o3
        have B3 := Lib.hid (below_trans B2.out b3)
        have S23 := Lib.hid (S2.out.below b3 fun h => h)
        have P4 := Lib.hid (equal_any A3 _ g3 h pg s c3 c w3 s3 (HS.out.below B3.out fun h => h))
        rw [HPL.out, H64.out] at P4
        rw [HPL.out]
        clear o3 b3 s3 hg3
        obtain ⟨q, hq⟩ : ∃ q, q = (pg == s) := ⟨_, rfl⟩
        rw [← hq] at P4
        have HQ := Lib.hid hq
        clear hq
        go_wp2_with fail
        refine P4.out.mono ?_; rintro e w4 ⟨rfl, rfl⟩
        cases q
        · go_wp2
          go_ret2
          exact GetAns.no (by rw [HG.out, if_neg (by simpa using HQ.out)]) (by decide) B3.out
        · go_wp2
          go_ret2
          have h0 : getE s tag = 0 := by rw [HG.out, if_pos (by simpa using HQ.out)]
          have hd : getD s tag = d := by unfold getD; rw [if_pos h0]; exact HHD.out
          refine ⟨A2, c2, ?_, ?_, B3.out⟩
          · rw [hd, h0]; rfl
          · rw [hd]; exact ⟨g2, S23.out, HG2.out, Q21.out, Q22.out⟩
    · have d1 : (tagV s != tag) = true := by rw [bne_iff_ne]; exact htg
      have hget : getE s tag = 60 := by unfold getE; rw [if_neg fun h => htg h.2]
      have HG := Lib.hid hget
      have hok' := hok
      clear hget h3 hok
      have hT : tagT s = tagV s := by unfold tagT; rw [hok']; rfl
      rw [hT, hok'] at PT
      clear hT hok'
      generalize tagV s = tv at PT d1
      clear htg
      go_enter Tryd.func10, Tryd.ntmps10
      go_wp2_with fail
      refine PT.out.mono ?_; rintro e w1 ⟨rfl, b1⟩
      have B1 := Lib.hid b1
      clear b1
      go_wp2
      go_ret2
      exact GetAns.no HG.out (by decide) B1.out
  · have hok' : tagOk s = false := by simpa using hok
    have hT : tagT s = 0 := by unfold tagT; rw [hok']; rfl
    rw [hT, hok'] at PT
    clear hT
    have hget : getE s tag = 60 := by unfold getE; rw [if_neg fun h => hok h.1]
    have HG := Lib.hid hget
    clear hget hok hok'
    go_enter Tryd.func10, Tryd.ntmps10
    go_wp2_with fail
    refine PT.out.mono ?_; rintro e w1 ⟨rfl, b1⟩
    have B1 := Lib.hid b1
    clear b1
    go_wp2
    go_ret2
    exact GetAns.no HG.out (by decide) B1.out
end Go.Proofs.YtfilelgbffbnlaaDoor
