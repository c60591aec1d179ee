/- Contracts of package rec: Same. -/
import Derived.Test.YtibhofdblfgkbaaReK
import Derived.Lib.SlMapEqual
namespace Go.Proofs.Ytibhofdblfgkbaa
open Go.RowKit Go.Sort Go.Maps Go.ChangeMaps

set_option maxRecDepth 100000 in
set_option maxHeartbeats 1000000 in
theorem keyRec_inv (key : Value) (kl : Lit) (h : keyOf Try.prog 24 key = some kl) : ∃ x : Int × Int, key = .agg #[.int .i64 x.1, .int .i64 x.2] ∧ InR x := by
  obtain ⟨xs, L, rfl, hl, -⟩ := keyOf_top wideRec h
  have ci : Try.prog.cellsOf 3 = 1 := by kernel_rfl
  have ts : ∃ n, Try.prog.types.size + 1 = n + 1 + 1 := ⟨Try.prog.types.size - 1, by have : 0 < Try.prog.types.size := Nat.lt_of_le_of_lt (Nat.zero_le _) rowRec; omega⟩
  have c2 : Try.prog.cellsOf 24 = 2 := by kernel_rfl
  obtain ⟨n, hn⟩ := ts
  rw [hn] at hl
  obtain ⟨l⟩ := xs
  simp only [Program.keyLits, Try.underlying24, c2] at hl
  split at hl
  · rename_i hc
    match l, hc.1 with
    | [v0, v1], _ =>
      simp [Try.underlying3, ci] at hl
      rw [Option.bind_eq_some_iff] at hl
      obtain ⟨y0, h0, hl⟩ := hl
      simp only [Function.comp, Option.map_eq_some_iff, Option.bind_eq_some_iff] at hl
      obtain ⟨_, ⟨_, ⟨y1, h1, -⟩, -⟩, -⟩ := hl
      cases v0 <;> simp at h0
      cases v1 <;> simp at h1
      obtain ⟨⟨rfl, w0⟩, -⟩ := h0
      obtain ⟨⟨rfl, w1⟩, -⟩ := h1
      exact ⟨(_, _), rfl, w0, w1⟩
  · cases hl
def eqdR (x y : DataW Unit) : Bool := match x, y with
  | .lit (.int _ a), .lit (.int _ b) => a == b
  | _, _ => false
theorem elR_inv {v : Value} {y : DataW Unit × List MemPlace} (h : elR v = some y) : ∃ c : Int, v = .int .i64 c ∧ y = (.lit (.int .i64 c), []) := by
  obtain ⟨a, e1, e2, -⟩ := plainElem_int_inv Try.underlying3 h
  exact ⟨a, e1, e2⟩
set_option maxRecDepth 100000 in
set_option maxHeartbeats 2000000 in
theorem equalRec_any (b1 b2 n1 n2 : Nat) (D1 D2 : DataW Unit) (w : World) (h1 : w.ownsMap Try.prog 24 elR b1 n1 D1) (h2 : w.ownsMap Try.prog 24 elR b2 n2 D2) :
    Calls Try.prog 83 #[.map (some b1), .map (some b2)] w fun e w' => e = .returned (.bool (Lib.equalFuncD eqdR D1 D2)) ∧ w.grownBy w' none := by
  have l1 := fun ty => h1.len (t := 99) Try.underlying99 ty
  have l2 := fun ty => h2.len (t := 99) Try.underlying99 ty
  obtain ⟨es1, rfl, hap, hkeys⟩ := h1.entries keyedRec
  have hb2 := h2.lt
  have HAP := Lib.hid hap
  have HKS := Lib.hid hkeys
  generalize hres : Lib.equalFuncD eqdR (.map es1) D2 = res
  have RES := Lib.hid hres
  clear hres hap hkeys
  by_cases hsz : Maps.size (.map es1 : DataW Unit) = Maps.size D2
  · have d1 : ((Maps.size (.map es1 : DataW Unit) : Int) == (Maps.size D2 : Int)) = true := by rw [hsz]; exact beq_self_eq_true _
    have HSZ := Lib.hid hsz
    have H1 := Lib.hid h1
    have H2 := Lib.hid h2
    clear hsz h1 h2
    go_enter Try.func83, Try.ntmps83
    go_wp2_with (at_range; refine wpList_range_own _ rfl _ 99 rfl 24 3 keyedRec Try.underlying99 elR b1 n1 _ rfl H1.out ?_; intro w0 hrg0 hg0 hs0)
    have RG0 := Lib.hid hrg0
    have G0 := Lib.hid hg0
    clear hrg0 hg0 l1 l2
    go_frame
    go_loopw [16] (fun _ wr => ∃ (left : Lit → Bool) (cnt : Nat), wr.ranges Try.prog 24 elR b1 w.heap.size n1 (.map es1) left cnt ∧ wr.ownsMap Try.prog 24 elR b2 n2 D2 ∧ w.grownBy wr none ∧ GoodAt eqdR es1 D2 left)
      (fun _ wr => wr.rangeLeft b1 w.heap.size)
    case atStart => exact ⟨_, _, RG0.out, H2.out.kept G0.out (by simp), G0.out, good_start HKS.out D2⟩
    case round =>
      obtain ⟨left, cnt, hrg, h2r, hgw, hG⟩ := hrel
      have RG := Lib.hid hrg
      have H2R := Lib.hid h2r
      have GW := Lib.hid hgw
      have GG := Lib.hid hG
      clear hrg h2r hgw hG
      go_wp2_with (at_next; refine wpList_next_ranges _ rfl _ rfl 24 keyedRec elR (fun x : Int × Int => .agg #[.int .i64 x.1, .int .i64 x.2]) (fun c : Int => .int .i64 c) (fun key kl h => by obtain ⟨x, e, -⟩ := keyRec_inv key kl h; exact ⟨x, e⟩) (fun v y h => by obtain ⟨c, e, -⟩ := elR_inv h; exact ⟨c, e⟩) b1 w.heap.size n1 _ _ _ rfl RG.out ?_ ?_)
      · intro _ hl0
        have HL0 := Lib.hid hl0
        clear hl0
        go_wp2
        go_ret
        exact ⟨by rw [← RES.out, all_good GG.out HL0.out HSZ.out]; rfl, GW.out⟩
      · intro x1 x2 c kl dd pp w1 cnt1 hkey hlx hv hat hrg1 hlt hg1 hs1 hen
        have hen1 : (Instr.entry (.pointer (some ⟨w.heap.size, 0, none⟩))).run Try.prog w1 = .ok (.tuple #[.agg #[.int .i64 x1, .int .i64 x2], .int .i64 c]) w1 := hen
        have hkey1 : keyOf Try.prog 24 (.agg #[.int .i64 x1, .int .i64 x2]) = some kl := hkey
        obtain ⟨c', ec, ey⟩ := elR_inv hv
        injection ec with _ ec
        injection ey with ey _
        subst ec
        rw [ey] at hat
        have GW1 := Lib.hid (GW.out.andThen hg1 (fun j hj => by cases hj; exact Or.inl (Nat.le_refl _)))
        have h2w1 := H2R.out.kept hg1 (fun e => by have := Option.some.inj e; omega)
        have HAT := Lib.hid hat
        have h2wa := h2w1.alloc (.cells #[.int .i64 x1, .int .i64 x2] 24)
        obtain ⟨v2, ps2, hlk, hv2⟩ := h2wa.look_ok keyedRec Try.underlying99 (zeroInt _) (elR_int 0 (by decide)) hkey1
        obtain ⟨c2, e2, ey2⟩ := elR_inv hv2
        subst e2
        injection ey2 with ey2 _
        have RG1 := Lib.hid hrg1
        have H2W := Lib.hid h2wa
        have EY2 := Lib.hid ey2
        have HLT := Lib.hid hlt
        clear hen hkey hv hat hrg1 hg1 h2w1 h2wa hv2 ey2 hlx hlt hkey1
        cases hh : Maps.has D2 kl
        · rw [hh] at hlk
          have hbad : Lib.goodD eqdR D2 (kl, .lit (.int .i64 c)) = false := by unfold Lib.goodD; rw [hh]; rfl
          have BAD := Lib.hid hbad
          clear hbad hh
          go_wp2
          go_ret
          exact ⟨by rw [← RES.out, bad_false HAP.out HKS.out HAT.out BAD.out]; rfl, GW1.out.andThen (World.grownBy_alloc w1 _ none) (fun j hj => by cases hj)⟩
        · rw [hh] at hlk
          have hgd : Lib.goodD eqdR D2 (kl, .lit (.int .i64 c)) = (c == c2) := by
            unfold Lib.goodD
            rw [hh, atKey_indep hh .nil (.lit (.int .i64 0)), EY2.out]
            rfl
          have HGD := Lib.hid hgd
          clear hgd hh
          cases he : c == c2
          · have BAD := Lib.hid (HGD.out.trans he)
            go_wp2
            go_ret
            exact ⟨by rw [← RES.out, bad_false HAP.out HKS.out HAT.out BAD.out]; rfl, GW1.out.andThen (World.grownBy_alloc w1 _ none) (fun j hj => by cases hj)⟩
          · have GOOD := Lib.hid (HGD.out.trans he)
            go_wp2
            have RG2 := RG1.out.alloc (.cells #[.int .i64 x1, .int .i64 x2] 24)
            exact ⟨⟨_, ⟨cnt1, RG2⟩, H2W.out, GW1.out.andThen (World.grownBy_alloc w1 _ none) (fun j hj => by cases hj), good_step HAP.out HKS.out HAT.out GG.out GOOD.out⟩, by rw [RG2.left_eq, RG.out.left_eq]; exact HLT.out⟩
  · have d1 : ((Maps.size (.map es1 : DataW Unit) : Int) == (Maps.size D2 : Int)) = false := by rw [beq_eq_false_iff_ne]; omega
    clear h1 h2
    go_enter Try.func83, Try.ntmps83
    go_wp2
    go_ret
    exact ⟨by rw [← RES.out, sizes_false hsz]; rfl, World.grownBy.refl _ _⟩
def sameR (a b : List (Int × Int)) : Bool := srt a == srt b
theorem sameR_iff (a b : List (Int × Int)) : sameR a b = true ↔ a.Perm b := by
  unfold sameR
  rw [beq_iff_eq, srt_eq_iff]
/-- Two counts are the same just if the bags are. -/
theorem equal_counts {w : World} {a b : List (Int × Int)} {m n b1 b2 : Nat} (hl : a.length = b.length) (ra : ∀ x ∈ a, InR x) (_ : ∀ x ∈ b, InR x) (h1 : CntAt w b1 m (cnt a) (fun r => decide (0 < cnt a r))) (h2 : CntAt w b2 n (cnt b) (fun r => decide (0 < cnt b r))) :
    ∃ D1 D2, w.ownsMap Try.prog 24 elR b1 m D1 ∧ w.ownsMap Try.prog 24 elR b2 n D2 ∧ Lib.equalFuncD eqdR D1 D2 = sameR a b := by
  obtain ⟨D1, o1, p1, q1, -, s1⟩ := h1
  obtain ⟨D2, o2, p2, q2, -, s2⟩ := h2
  simp only at p1 q1 p2 q2
  refine ⟨D1, D2, o1, o2, ?_⟩
  rw [Bool.eq_iff_iff, sameR_iff]
  constructor
  · intro h
    obtain ⟨es1, rfl, hap, hkeys⟩ := o1.entries keyedRec
    unfold Lib.equalFuncD at h
    rw [Bool.and_eq_true] at h
    have hall := List.all_eq_true.1 h.2
    refine perm_of_counts a b hl fun r hr => ?_
    have hir := ra r hr
    have hpos : 0 < cnt a r := List.count_pos_iff.2 hr
    have hh := p1 r hir
    rw [decide_eq_true hpos] at hh
    obtain ⟨p, hp, hs⟩ := List.any_eq_true.1 (show es1.any (fun p => p.1.sameKey (klR r)) = true from hh)
    have e1 : p.1 = klR r := WideAt.sameKey_eq hs
    have e2 : (DataW.map es1).atKey (klR r) .nil = p.2 := WideAt.atKey_mem .nil (klR_key hir) hap (by rw [← e1]; exact hp)
    rw [q1 r .nil hir (decide_eq_true hpos)] at e2
    have hg := hall p hp
    unfold Lib.goodD at hg
    rw [e1, ← e2, Bool.and_eq_true] at hg
    have hb := p2 r hir
    rw [hg.1] at hb
    have hb2 := q2 r .nil hir hb.symm
    rw [hb2] at hg
    have he : ((cnt a r : Nat) : Int) = ((cnt b r : Nat) : Int) := by simpa [eqdR] using hg.2
    show cnt b r = cnt a r
    omega
  · intro h
    have hc : ∀ r, cnt a r = cnt b r := fun r => h.count_eq r
    have hD : D1 = D2 := Maps.ext (o1.canon keyedRec) (o2.canon keyedRec) (fun k => by
      rw [Bool.eq_iff_iff]
      constructor
      · intro hk
        obtain ⟨x, hx, rfl⟩ := s1 k hk
        rw [p1 x hx] at hk
        rw [p2 x hx, ← hc]
        exact hk
      · intro hk
        obtain ⟨x, hx, rfl⟩ := s2 k hk
        rw [p2 x hx] at hk
        rw [p1 x hx, hc]
        exact hk) (fun k z hk => by
      obtain ⟨x, hx, rfl⟩ := s1 k hk
      rw [p1 x hx] at hk
      rw [q1 x z hx hk, q2 x z hx (by rw [← hc]; exact hk), hc])
    subst hD
    obtain ⟨es1, rfl, hap, hkeys⟩ := o1.entries keyedRec
    unfold Lib.equalFuncD
    rw [decide_eq_true rfl, Bool.true_and, List.all_eq_true]
    intro p hp
    have hh : Maps.has (DataW.map es1) p.1 = true := List.any_eq_true.2 ⟨p, hp, WideAt.sameKey_self (hkeys p hp)⟩
    obtain ⟨x, hx, ex⟩ := s1 p.1 hh
    have e2 : (DataW.map es1).atKey p.1 .nil = p.2 := WideAt.atKey_mem .nil (hkeys p hp) hap hp
    unfold Lib.goodD
    rw [hh, e2, Bool.true_and, ← e2, ex]
    have hk := p1 x hx
    rw [← ex, hh] at hk
    rw [q1 x .nil hx hk.symm]
    simp [eqdR]
set_option maxRecDepth 100000 in
set_option maxHeartbeats 1000000 in
theorem rc_same_any (A : Option Addr) (h : Nat) (a : List (Int × Int)) (c : Nat) (B : Option Addr) (g : Nat) (b : List (Int × Int)) (d : Nat) (w : World) (ha : SlP w h A a) (hb : SlP w g B b) (la : a.length ≤ 100000) (lb : b.length ≤ 100000) (ra : ∀ x ∈ a, InR x) (rb : ∀ x ∈ b, InR x) :
    Calls Try.prog 32 #[.slice A a.length c, .slice B b.length d] w fun e w' => e = .returned (.bool (sameR a b)) ∧ Below w.heap.size w w' := by
  by_cases hl : a.length = b.length
  · have P1 := Lib.hid (fun W (k : Below w.heap.size w W) => counts_any A h a c W (ha.below k) la ra)
    have P2 := Lib.hid (fun W (k : Below w.heap.size w W) => counts_any B g b d W (hb.below k) lb rb)
    have HEQ := Lib.hid (fun W m n b1 b2 => equal_counts (w := W) (m := m) (n := n) (b1 := b1) (b2 := b2) hl ra rb)
    have d1 : ((a.length : Int) == (b.length : Int)) = true := by rw [hl]; exact beq_self_eq_true _
    generalize sameR a b = z at HEQ
    clear ha hb ra rb hl
    go_enter Try.func32, Try.ntmps32
    go_wp2_with fail
    refine (P1.out _ (Below.refl _ _)).mono ?_; rintro e w1 ⟨b1, rfl, hb1, hc1, k1⟩
    go_wp2_with fail
    refine (P2.out _ k1).mono ?_; rintro e w2 ⟨b2, rfl, hb2, hc2, k2⟩
    obtain ⟨D1, D2, o1, o2, e12⟩ := HEQ.out w2 _ _ _ _ (hc1.kept (row := none) ⟨k2.os, k2.tape, k2.output, k2.size, fun i hi _ => k2.block i hi⟩ (by simp)) hc2
    have P3 := Lib.hid (equalRec_any b1 b2 _ _ D1 D2 w2 o1 o2)
    rw [e12] at P3
    have KK := Lib.hid (below_trans k1 k2)
    clear o1 o2 hc1 hc2 k1 k2 e12
    go_wp2_with fail
    refine P3.out.mono ?_; rintro e w3 ⟨rfl, g3⟩
    go_wp2
    go_ret
    exact ⟨rfl, KK.out.grown g3 KK.out.size (fun i hi => by cases hi)⟩
  · have hz : sameR a b = false := by
      rw [Bool.eq_false_iff]
      intro h
      exact hl ((sameR_iff a b).1 h).length_eq
    have d1 : ((a.length : Int) == (b.length : Int)) = false := by rw [beq_eq_false_iff_ne]; omega
    rw [hz]
    clear ha hb ra rb hz hl
    go_enter Try.func32, Try.ntmps32
    go_wp2
    go_ret
    exact ⟨rfl, Below.refl _ _⟩
end Go.Proofs.Ytibhofdblfgkbaa
