/- The walk of the law CrcJoins. -/
import Derived.Test.YtalcgkfnjhlnoaaDoorCrcM
import Derived.Test.YtalcgkfnjhlnoaaDoorOp
import Derived.Test.YtalcgkfnjhlnoaaDoorRegR
namespace Go.Proofs.YtalcgkfnjhlnoaaDoor
open Go.RowKit

/-- An append that is done only if an earlier operation said so. -/
theorem wpList_appBG {P : Program} (w : World) {l : List Oper} {rest : List Oper} {o oj : Oper} {ts : List Value} {ds : List Deferred} {Q : Exit → Act → World → Prop} {j d : Nat} {bb : Bool} (hg : o.guard = some (j, bb)) (hj : l[j]? = some oj) (hd : oj.dst = some d) (hv : ts[d]? = some (.bool bb)) (s x : Operand) (t : TypeId)
    (ho : o.op = .call { callee := .builtin .append, args := #[s, x], argTypes := #[t, t] })
    {e : TypeId} (ht : P.underlying t = some (.slice e)) (hinfo : (P.info? e).map (fun i => (i.zero, i.size, i.bytes)) = some (some (.int .u8 0), 1, 1))
    {base : Nat} {v : Value} {xs ys : List UInt8} {n : Nat} (hown : w.ownsRow base e 1 v n (Byt xs)) {B : Nat} {A : Option Addr} {m : Nat} (hr : Reads w B 1 A m (Byt ys)) (c : Nat)
    (hs : (Act.mk ts.toArray ds).eval s = v) (hx : (Act.mk ts.toArray ds).eval x = .slice A m c) (hle : n + m ≤ 140737488355328) (hbase : base ≤ w.heap.size)
    (h : ∀ A' c' w', w'.ownsRow base e 1 (.slice A' (n + m) c') (n + m) (Byt (xs ++ ys)) → Grew w w' v (.slice A' (n + m) c') → wpList P l.toArray Q rest ((Act.mk ts.toArray ds).put o.dst (.slice A' (n + m) c')) w') :
    wpList P l.toArray Q (o :: rest) (Act.mk ts.toArray ds) w := by
  obtain ⟨i0, hi0, hz0, hz1, hz2⟩ := info_parts hinfo
  refine wpList_step fun K hK => ?_
  rw [if_pos ((wanted1 hg hj hd hv).trans (by simp))]
  refine wp_append_any w s x t ho base e i0 _ 1 1 ht hi0 hz0 hz1 hz2 rfl (by omega) v n (Byt xs) hs hown B A m c (Byt ys) hx hr (Byt_one ys) (by unfold maxLen; omega) (by omega) hbase ?_
  intro v' w' h1 h2
  obtain ⟨A', c', rfl⟩ := own_form h1
  refine hK _ _ (h A' c' w' ?_ h2)
  rw [Byt_append]
  exact h1
theorem empty_own (w : World) (t : TypeId) : (w.alloc (.cells #[] t)).ownsRow w.heap.size t 1 (.slice (some ⟨w.heap.size, 0, none⟩) 0 0) 0 (Byt []) := own_new w #[] _ 0 _ rfl rfl (by decide) (Nat.le_refl _)
set_option maxRecDepth 100000 in
set_option maxHeartbeats 1000000 in
theorem joins_in (A B : Option Addr) (g h : Nat) (a b : List UInt8) (c d : Nat) (n : Int) (w : World) (ha : InB w A g a c) (hb : InB w B h b d) (hla : a.length ≤ 2000) (hlb : b.length ≤ 2000) (hn : n ≤ 9223372036854775807) (hh : HalvesAt w) :
    Calls Tryd.prog 4 #[.slice A a.length c, .slice B b.length d, .int .i64 n] w (LawPost w) := by
  obtain ⟨sa, hac, hcm⟩ := ha
  obtain ⟨sb, hbd, hdm⟩ := hb
  have d1 : decide ((2000 : Int) < (a.length : Int)) = false := by simp; omega
  have d2 : decide ((2000 : Int) < (b.length : Int)) = false := by simp; omega
  have P1 := Lib.hid (sum_any A g a c w hh sa hac hcm)
  have P2 := Lib.hid (sum_any B h b d w hh sb hbd hdm)
  have la := moreM_lt (s := 0) a (by decide)
  have lb := moreM_lt (s := 0) b (by decide)
  have P3 := Lib.hid (join_any (moreM 0 a) (moreM 0 b) (b.length : Int) w la lb (by omega) hh)
  rw [joinM_more] at P3
  have HA := Lib.hid sa
  have HB := Lib.hid sb
  have HH := Lib.hid hh
  have HAC := Lib.hid hac
  have HCM := Lib.hid hcm
  clear sa sb hh lb
  obtain ⟨s, hs⟩ : ∃ s, s = moreM 0 (a ++ b) := ⟨_, rfl⟩
  obtain ⟨sA, hsA⟩ : ∃ s, s = moreM 0 a := ⟨_, rfl⟩
  rw [← hs, ← hsA] at P3
  rw [← hsA] at P1 la
  generalize moreM 0 b = sB at P2 P3
  have HS := Lib.hid hs
  have HSA := Lib.hid hsA
  have HLA := Lib.hid la
  clear hs hsA la
  go_enter Tryd.func4, Tryd.ntmps4
  go_wp2_with fail
  refine P1.out.mono ?_; rintro e w' ⟨rfl, rfl⟩
  go_wp2_with fail
  refine P2.out.mono ?_; rintro e w' ⟨rfl, rfl⟩
  go_wp2_with fail
  refine P3.out.mono ?_; rintro e w1 ⟨rfl, b1⟩
  have HH1 := Lib.hid (HH.out.below b1 HH.out.pos)
  go_wp2_with fail
  refine (lives_any _ HH1.out).mono ?_; rintro e w2 ⟨rfl, b2⟩
  have B2 := Lib.hid (below_trans b1 b2)
  have HH2 := Lib.hid (HH1.out.below b2 HH1.out.pos)
  clear b1 b2
  have HE := Lib.hid (empty_own w2 5)
  have b3 := below_trans B2.out (alloc_below w2 (.cells #[] 5))
  have HR := Lib.hid ((HA.out.below b3 fun h => h).reads (n := a.length) rfl)
  have B3 := Lib.hid b3
  have hsz3 : w2.heap.size ≤ (w2.alloc (.cells #[] 5)).heap.size := by simp
  clear b3
  go_wp2_with (at_builtin; first | ((refine wpList_appBG _ rfl rfl rfl rfl (.tmp 28) (.tmp 29) _ rfl Tryd.underlying23 info_u8 HE.out HR.out c rfl rfl (by omega) (by simp) ?_); intro A3 c3 w3 o3 gr3; rw [Nat.zero_add, List.nil_append] at o3; have O3 := Lib.hid o3; have b4 : Below w2.heap.size w2 w3 := ((Below.refl _ _).alloc (Nat.le_refl _) _).grown (Grew.by_ gr3) (by simp) (by simp [Value.ownBlock]); have B4 := Lib.hid b4; have HR2 := Lib.hid ((HB.out.below (below_trans B2.out b4) fun h => h).reads (n := b.length) rfl); clear o3 gr3 b4) | ((refine wpList_appBG _ rfl rfl rfl rfl (.tmp 30) (.tmp 31) _ rfl Tryd.underlying23 info_u8 O3.out HR2.out d rfl rfl (by omega) B4.out.size ?_); intro A5 c5 w5 o5 gr5; have O5 := Lib.hid o5; have G5 := Lib.hid gr5; clear o5 gr5))
  have b5 : Below w2.heap.size w2 w5 := B4.out.grown (Grew.by_ G5.out) B4.out.size fun i hi => (World.ownsRow.lt O3.out i hi).1
  obtain ⟨g5, hg5, s5, -⟩ := SlB.of_own O5.out
  obtain ⟨q1, q2⟩ := own_cap O5.out
  have P5 := Lib.hid (rsum_any A5 g5 (a ++ b) c5 w5 s5 (by rw [List.length_append]; exact q1) q2)
  rw [List.length_append, ← HS.out] at P5
  have HH5 := Lib.hid (HH2.out.below b5 HH2.out.pos)
  have B5 := Lib.hid (below_trans B2.out b5)
  clear s5 b5
  refine P5.out.mono ?_; rintro e w' ⟨rfl, rfl⟩
  by_cases h3 : 3000 < n
  · have d3 : decide (3000 < n) = true := by simpa using h3
    clear h3
    go_wp2
    go_ret
    exact ⟨rfl, B5.out⟩
  · have d3 : decide (3000 < n) = false := by simpa using h3
    have P6 := Lib.hid (sum_any A g a c w5 HH5.out (HA.out.below B5.out fun h => h) HAC.out HCM.out)
    have P7 := Lib.hid (zeros_any sA n w5 HLA.out hn HH5.out)
    have P8 := Lib.hid (fun W (hb : Below w5.heap.size w5 W) => rsum_any A g a c W ((HA.out.below B5.out fun h => h).below hb fun h => h) HAC.out HCM.out)
    have P9 := Lib.hid (fun W => rzeros_any sA n W HLA.out (by omega))
    rw [← HSA.out] at P6 P8
    clear h3
    generalize zerosM sA n = z at P7 P9
    go_wp2_with fail
    refine P6.out.mono ?_; rintro e w' ⟨rfl, rfl⟩
    go_wp2_with fail
    refine P7.out.mono ?_; rintro e w7 ⟨rfl, b7⟩
    have B7 := Lib.hid b7
    clear b7
    go_wp2_with fail
    refine (P8.out w7 B7.out).mono ?_; rintro e w' ⟨rfl, rfl⟩
    go_wp2_with fail
    refine (P9.out w7).mono ?_; rintro e w9 ⟨rfl, b9⟩
    go_wp2
    go_ret
    exact ⟨rfl, below_trans B5.out (below_trans B7.out b9)⟩
theorem joins_law (A B : Option Addr) (g h : Nat) (a b : List UInt8) (c d : Nat) (n : Int) (w : World) (ha : InB w A g a c) (hb : InB w B h b d) (hn : n ≤ 9223372036854775807) (hh : HalvesAt w) :
    Calls Tryd.prog 4 #[.slice A a.length c, .slice B b.length d, .int .i64 n] w (LawPost w) := by
  have hlm : a.length ≤ 9223372036854775807 := Nat.le_trans ha.2.1 ha.2.2
  have hqm : b.length ≤ 9223372036854775807 := Nat.le_trans hb.2.1 hb.2.2
  by_cases h1 : 2000 < a.length
  · have d1 : decide ((2000 : Int) < (a.length : Int)) = true := by simp; omega
    have HH := Lib.hid hh
    clear hh ha hb
    go_enter Tryd.func4, Tryd.ntmps4
    go_wp2_with fail
    refine (lives_any _ HH.out).mono ?_; rintro e w1 ⟨rfl, b1⟩
    go_wp2
    go_ret
    exact ⟨rfl, b1⟩
  · by_cases h2 : 2000 < b.length
    · have d1 : decide ((2000 : Int) < (a.length : Int)) = false := by simp; omega
      have d2 : decide ((2000 : Int) < (b.length : Int)) = true := by simp; omega
      have HH := Lib.hid hh
      clear hh ha hb
      go_enter Tryd.func4, Tryd.ntmps4
      go_wp2_with fail
      refine (lives_any _ HH.out).mono ?_; rintro e w1 ⟨rfl, b1⟩
      go_wp2
      go_ret
      exact ⟨rfl, b1⟩
    · exact joins_in A B g h a b c d n w ha hb (by omega) (by omega) hn hh
end Go.Proofs.YtalcgkfnjhlnoaaDoor
