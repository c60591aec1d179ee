/- Parts of the proofs about edit, joined. -/
import Derived.Test.YtfmmdnjoichifaaSk
import Derived.Test.YtfmmdnjoichifaaMoB
namespace Go.Proofs.Ytfmmdnjoichifaa
open Go.RowKit Go.Sort

structure Rf where
  name : ByteArray
  base : Int
  count : Int
def encRf (r : Rf) : List Value := [.string r.name, .int .i64 r.base, .int .i64 r.count]
theorem layRf : Lay Rf encRf 3 := ⟨fun _ => rfl, fun x u hu => by simp [encRf] at hu; rcases hu with rfl | rfl | rfl <;> rfl, by decide⟩
def rfV (r : Rf) : Value := .agg #[.string r.name, .int .i64 r.base, .int .i64 r.count]
structure Ed where
  kind : Int
  ep : Int
  rd : Int
  refs : List Rf
def edV (e : Ed) (A : Option Addr) (c : Nat) : Value := .agg #[.int .i64 e.kind, .int .i64 e.ep, .int .i64 e.rd, .slice A e.refs.length c]
def okRf (r : Rf) : Bool := decide (1 ≤ r.name.size ∧ r.name.size ≤ 24) && decide (1 ≤ r.base ∧ r.base ≤ 2305843009213693952) && decide (0 ≤ r.count ∧ r.count ≤ 16384)
def okEd (e : Ed) : Bool := decide (e.kind = 1 ∨ e.kind = 2) && okMo (e.ep, e.rd) && decide (e.kind = 2 → e.rd = 0) && decide (e.refs.length ≤ 256) && e.refs.all okRf
def edE (e : Ed) : Int := if okEd e then 0 else 140
theorem info_rf : (Try.prog.info? 110).map (fun i => (i.zero, i.size, i.bytes)) = some (some (.agg #[.string ⟨#[]⟩, .int .i64 0, .int .i64 0]), 3, 32) := by kernel_rfl
theorem load_rf_at (h off : Nat) (x : Rf) (w : World) (hc : ∀ i u, (encRf x)[i]? = some u → w.cell? ⟨h, off + i, none⟩ = some u) : (Instr.loadAt 110 (.pointer (some ⟨h, off, none⟩))).run Try.prog w = .ok (rfV x) w := by
  have h0 := hc 0 _ rfl
  have h1 := hc 1 _ rfl
  have h2 := hc 2 _ rfl
  rw [Nat.add_zero] at h0
  unfold rfV
  clear hc
  go_simp
set_option maxRecDepth 100000 in
set_option maxHeartbeats 2000000 in
theorem odd_any (r : Rf) (w : World) : Calls Try.prog 72 #[rfV r] w fun e w' => e = .returned (.bool (!okRf r)) ∧ Below w.heap.size w w' := by
  obtain ⟨s, b, c⟩ := r
  have key : ∀ p1 p2 p3 p4 p5 p6 : Bool, decide ((s.size : Int) < 1) = p1 → decide ((s.size : Int) > 24) = p2 → decide (b < 1) = p3 → decide (b > 2305843009213693952) = p4 → decide (c < 0) = p5 → decide (c > 16384) = p6 → (!okRf ⟨s, b, c⟩) = (p1 || p2 || p3 || p4 || p5 || p6) := by
    intro p1 p2 p3 p4 p5 p6 h1 h2 h3 h4 h5 h6
    unfold okRf
    rw [← h1, ← h2, ← h3, ← h4, ← h5, ← h6, Bool.eq_iff_iff]
    simp only [Bool.not_eq_true', Bool.and_eq_false_iff, decide_eq_false_iff_not, Bool.or_eq_true, decide_eq_true_eq]
    omega
  obtain ⟨p1, h1⟩ : ∃ p, decide ((s.size : Int) < 1) = p := ⟨_, rfl⟩
  obtain ⟨p2, h2⟩ : ∃ p, decide ((s.size : Int) > 24) = p := ⟨_, rfl⟩
  obtain ⟨p3, h3⟩ : ∃ p, decide (b < 1) = p := ⟨_, rfl⟩
  obtain ⟨p4, h4⟩ : ∃ p, decide (b > 2305843009213693952) = p := ⟨_, rfl⟩
  obtain ⟨p5, h5⟩ : ∃ p, decide (c < 0) = p := ⟨_, rfl⟩
  obtain ⟨p6, h6⟩ : ∃ p, decide (c > 16384) = p := ⟨_, rfl⟩
  rw [key p1 p2 p3 p4 p5 p6 h1 h2 h3 h4 h5 h6]
  have B := Lib.hid (alloc_below w (.cells #[.string s, .int .i64 b, .int .i64 c] 110))
  clear key
  unfold rfV
  cases p1
  · cases p2
    · cases p3
      · cases p4
        · cases p5
          · cases p6
            all_goals
              go_enter Try.func72, Try.ntmps72
              go_wp2
              go_ret
              exact ⟨rfl, B.out⟩
          · go_enter Try.func72, Try.ntmps72
            go_wp2
            go_ret
            exact ⟨rfl, B.out⟩
        · go_enter Try.func72, Try.ntmps72
          go_wp2
          go_ret
          exact ⟨rfl, B.out⟩
      · go_enter Try.func72, Try.ntmps72
        go_wp2
        go_ret
        exact ⟨rfl, B.out⟩
    · go_enter Try.func72, Try.ntmps72
      go_wp2
      go_ret
      exact ⟨rfl, B.out⟩
  · go_enter Try.func72, Try.ntmps72
    go_wp2
    go_ret
    exact ⟨rfl, B.out⟩
/-- Refs behind a slice; the rows that a call writes are none of these. -/
def RfAt (w : World) (base : Nat) (A : Option Addr) (l : List Rf) : Prop :=
  l ≠ [] → ∃ h off, A = some ⟨h, off, none⟩ ∧ h < w.heap.size ∧ (∀ j u, (RowV encRf l)[j]? = some u → w.cell? ⟨h, off + j, none⟩ = some u) ∧ (h < base ∨ ∃ cs fr, w.heap[h]? = some (.cells cs 110 fr))
theorem RfAt.nil (w : World) (base : Nat) (A : Option Addr) : RfAt w base A [] := fun h => absurd rfl h
theorem RfAt.keep {w w' : World} {base : Nat} {A : Option Addr} {l : List Rf} (h : RfAt w base A l) (hs : w.heap.size ≤ w'.heap.size) (hk : ∀ k, k < w.heap.size → (k < base ∨ ∃ cs fr, w.heap[k]? = some (.cells cs 110 fr)) → w'.heap[k]? = w.heap[k]?) : RfAt w' base A l := fun hl => by
  obtain ⟨g, off, e, h1, h2, h3⟩ := h hl
  have hh := hk g h1 h3
  refine ⟨g, off, e, Nat.lt_of_lt_of_le h1 hs, fun j v hj => (World.cell?_of_block (a := ⟨g, off + j, none⟩) hh).trans (h2 j v hj), h3.imp id ?_⟩
  rintro ⟨cs, fr, hc⟩
  exact ⟨cs, fr, hh.trans hc⟩
theorem RfAt.below {w w' : World} {base : Nat} {A : Option Addr} {l : List Rf} (h : RfAt w base A l) (hb : Below w.heap.size w w') : RfAt w' base A l := h.keep hb.size fun k hk _ => hb.block k hk
theorem RfAt.at_ {w : World} {base : Nat} {A : Option Addr} {l : List Rf} (h : RfAt w base A l) {j : Nat} {x : Rf} (hj : l[j]? = some x) : ∃ g off, A = some ⟨g, off, none⟩ ∧ g < w.heap.size ∧ ∀ i u, (encRf x)[i]? = some u → w.cell? ⟨g, off + j * 3 + i, none⟩ = some u := by
  obtain ⟨g, off, e, h1, h2, -⟩ := h (fun e => by rw [e] at hj; cases hj)
  refine ⟨g, off, e, h1, fun i u hu => ?_⟩
  have hi : i < 3 := by have := (List.getElem?_eq_some_iff.1 hu).1; rwa [layRf.len] at this
  rw [Nat.add_assoc]
  exact h2 _ _ (by rw [RowV_get layRf l j i x hj hi]; exact hu)
theorem RfAt.reads {w : World} {base : Nat} {A : Option Addr} {l : List Rf} (h : RfAt w base A l) {n : Nat} (hn : n = l.length) : Reads w w.heap.size 3 A n (RowV encRf l) := by
  subst hn
  refine ⟨(RowV_length layRf l).trans rfl, fun hl => ?_⟩
  obtain ⟨g, off, e, h1, h2, -⟩ := h (fun e => by subst e; exact absurd hl (by decide))
  exact ⟨⟨g, off, none⟩, e, h1, fun j u hj => by rw [Addr.add_lit]; exact h2 j u hj⟩
end Go.Proofs.Ytfmmdnjoichifaa

namespace Go.Proofs.Ytfmmdnjoichifaa
open Go.RowKit Go.Sort

def badRf (l : List Rf) : Bool := l.any fun r => !okRf r
theorem badRf_false {l : List Rf} : badRf l = false ↔ l.all okRf = true := by
  unfold badRf
  rw [List.any_eq_false, List.all_eq_true]
  constructor
  · intro h x hx; have := h x hx; simpa using this
  · intro h x hx; have := h x hx; simpa using this
theorem badRf_snoc (l : List Rf) (x : Rf) : badRf (l ++ [x]) = (badRf l || !okRf x) := by unfold badRf; simp
theorem badRf_take {l : List Rf} {k : Nat} {x : Rf} (h : l[k]? = some x) : badRf (l.take (k + 1)) = (badRf (l.take k) || !okRf x) := by
  rw [List.take_add_one, h]
  exact badRf_snoc _ _
theorem badRf_mem {l : List Rf} {k : Nat} {x : Rf} (h : l[k]? = some x) (hx : okRf x = false) : badRf l = true := by
  unfold badRf
  rw [List.any_eq_true]
  exact ⟨x, List.mem_of_getElem? h, by simp [hx]⟩
set_option maxRecDepth 100000 in
set_option maxHeartbeats 2000000 in
theorem rf_index_any (w : World) (base : Nat) (A : Option Addr) (l : List Rf) (c : Nat) (hl : RfAt w base A l) (hbig : l.length ≤ 1000000) :
    Calls Try.prog 102 #[.slice A l.length c, .func (.func 72) #[] #[]] w fun e w' =>
      ∃ i : Int, e = .returned (.int .i64 i) ∧ decide (0 ≤ i) = badRf l ∧ Below w.heap.size w w' := by
  have HL := Lib.hid hl
  clear hl
  go_enter Try.func102, Try.ntmps102
  go_wp2_with fail
  go_loopw [8] (fun i wr => ∃ k : Nat, k ≤ l.length ∧ i = .int .i64 (k : Int) ∧ badRf (l.take k) = false ∧ Below w.heap.size w wr) (fun i _ => l.length - (intOf i).toNat)
  case atStart => exact ⟨0, Nat.zero_le _, rfl, rfl, Below.refl _ _⟩
  case round =>
    obtain ⟨k, hk, rfl, hno, hbl⟩ := hrel
    have HNO := Lib.hid hno
    have BW := Lib.hid hbl
    clear hno hbl
    by_cases hlt : k < l.length
    · have hea := List.getElem?_eq_getElem hlt
      obtain ⟨p, hp⟩ : ∃ p, p = l[k] := ⟨_, rfl⟩
      rw [← hp] at hea
      have HEA := Lib.hid hea
      obtain ⟨g, off, rfl, -, hc⟩ := (HL.out.below BW.out).at_ hea
      have PC := Lib.hid (odd_any p wr)
      have q0 := hc 0 _ rfl
      have q1 := hc 1 _ rfl
      have q2 := hc 2 _ rfl
      rw [Nat.add_zero] at q0
      obtain ⟨s, b, n⟩ := p
      unfold rfV at PC
      clear hea hp hc
      go_wp2_with fail
      refine PC.out.mono ?_; rintro e w2 ⟨rfl, b2⟩
      have B2 := Lib.hid (BW.out.trans (b2.mono BW.out.size))
      clear q0 q1 q2 b2 PC
      cases hpb : okRf ⟨s, b, n⟩
      · have HPB := Lib.hid (badRf_mem HEA.out hpb)
        clear hpb
        go_wp2_with fail
        go_ret
        exact ⟨_, rfl, by rw [HPB.out, decide_eq_true_eq]; omega, B2.out⟩
      · have HPB := Lib.hid (badRf_take HEA.out)
        rw [hpb, HNO.out] at HPB
        clear hpb
        go_wp2_with fail
        exact ⟨⟨k + 1, by omega, by go_num, HPB.out, B2.out⟩, by simp only [intOf]; omega⟩
    · obtain rfl : k = l.length := by omega
      have hno := HNO.out
      rw [List.take_length] at hno
      have HNO2 := Lib.hid hno
      clear hno
      go_wp2_with fail
      go_ret
      exact ⟨_, rfl, by rw [HNO2.out]; rfl, BW.out⟩
set_option maxRecDepth 100000 in
theorem rf_contains_any (w : World) (base : Nat) (A : Option Addr) (l : List Rf) (c : Nat) (hl : RfAt w base A l) (hbig : l.length ≤ 1000000) :
    Calls Try.prog 74 #[.slice A l.length c, .func (.func 72) #[] #[]] w fun e w' => e = .returned (.bool (badRf l)) ∧ Below w.heap.size w w' := by
  have P1 := Lib.hid (rf_index_any w base A l c hl hbig)
  clear hl
  go_enter Try.func74, Try.ntmps74
  go_wp2_with fail
  refine P1.out.mono ?_; rintro e w1 ⟨i, rfl, hi, b1⟩
  have B1 := Lib.hid b1
  have HI := Lib.hid hi
  clear hi b1
  go_wp2
  go_ret
  exact ⟨ret_bool' HI.out, B1.out⟩
def EdBox (w : World) (g : Nat) (e : Ed) (A : Option Addr) (c : Nat) : Prop :=
  g < w.heap.size ∧ w.cell? ⟨g, 0, none⟩ = some (.int .i64 e.kind) ∧ w.cell? ⟨g, 1, none⟩ = some (.int .i64 e.ep) ∧ w.cell? ⟨g, 2, none⟩ = some (.int .i64 e.rd) ∧ w.cell? ⟨g, 3, none⟩ = some (.slice A e.refs.length c)
def edCs (e : Ed) (A : Option Addr) (c : Nat) : Array Value := #[.int .i64 e.kind, .int .i64 e.ep, .int .i64 e.rd, .slice A e.refs.length c]
theorem EdBox.of {w : World} {g : Nat} {e : Ed} {A : Option Addr} {c : Nat} {t : TypeId} (h : Blk w g t (edCs e A c)) : EdBox w g e A c := ⟨h.lt, h.cell 0, h.cell 1, h.cell 2, h.cell 3⟩
theorem EdBox.new (w : World) (e : Ed) (A : Option Addr) (c : Nat) (t : TypeId) : EdBox (w.alloc (.cells (edCs e A c) t)) w.heap.size e A c := EdBox.of (Blk.new w t _)
theorem EdBox.below {w w' : World} {g : Nat} {e : Ed} {A : Option Addr} {c : Nat} (h : EdBox w g e A c) (hb : Below w.heap.size w w') : EdBox w' g e A c := by
  obtain ⟨h0, h1, h2, h3, h4⟩ := h
  have hk : ∀ i, w'.cell? ⟨g, i, none⟩ = w.cell? ⟨g, i, none⟩ := fun i => World.cell?_of_block (a := ⟨g, i, none⟩) (hb.block g h0)
  exact ⟨Nat.lt_of_lt_of_le h0 hb.size, (hk 0).trans h1, (hk 1).trans h2, (hk 2).trans h3, (hk 3).trans h4⟩
theorem edE_bad {e : Ed} (h : okEd e = false) : edE e = 140 := by unfold edE; rw [h]; rfl
theorem edE_ok {e : Ed} (h : okEd e = true) : edE e = 0 := by unfold edE; rw [h]; rfl
set_option maxRecDepth 100000 in
set_option maxHeartbeats 4000000 in
theorem ed_check_any (e : Ed) (A : Option Addr) (c base : Nat) (w : World) (hr : RfAt w base A e.refs) (hbig : e.refs.length ≤ 1000000) :
    Calls Try.prog 28 #[edV e A c] w fun x w' => x = .returned (.int .i64 (edE e)) ∧ Below w.heap.size w w' := by
  obtain ⟨kind, ep, rd, refs⟩ := e
  simp only at hr hbig
  have HB := Lib.hid (EdBox.new w ⟨kind, ep, rd, refs⟩ A c 50)
  have B0 := Lib.hid (alloc_below w (.cells (edCs ⟨kind, ep, rd, refs⟩ A c) 50))
  have HR := Lib.hid hr
  have P1 := Lib.hid (fun W => check_any ep rd W)
  have P2 := Lib.hid (fun W (h : RfAt W base A refs) => rf_contains_any W base A refs c h hbig)
  clear hr
  have hm : moE (ep, rd) = if okMo (ep, rd) then 0 else 40 := rfl
  obtain ⟨m, hM⟩ : ∃ m, m = okMo (ep, rd) := ⟨_, rfl⟩
  obtain ⟨q, hQ⟩ : ∃ q, q = badRf refs := ⟨_, rfl⟩
  rw [← hM] at hm
  rw [← hQ] at P2
  rw [hm] at P1
  clear hm
  have hall : refs.all okRf = !q := by
    rw [hQ]
    cases hb : badRf refs
    · rw [badRf_false.1 hb]; rfl
    · cases ha : refs.all okRf
      · rfl
      · rw [badRf_false.2 ha] at hb; cases hb
  have hok : okEd ⟨kind, ep, rd, refs⟩ = (decide (kind = 1 ∨ kind = 2) && m && decide (kind = 2 → rd = 0) && decide (refs.length ≤ 256) && !q) := by
    unfold okEd
    rw [hall, hM]
  obtain ⟨q0, q1, q2, q3, q4⟩ := HB.out
  unfold edCs at q1 q2 q3 q4
  simp only at q1 q2 q3 q4
  have HM := Lib.hid hM
  have HQ := Lib.hid hQ
  clear hM hQ hall q0
  unfold edV
  by_cases k1 : kind = 1
  · subst k1
    simp only [show decide ((1 : Int) = 2 → rd = 0) = true by simp, Bool.and_true] at hok
    have HK := Lib.hid hok
    clear hok
    go_enter Try.func28, Try.ntmps28
    go_wp2_with fail
    refine (P1.out _).mono ?_; rintro x w1 ⟨rfl, b1⟩
    clear q1 q2 q3 q4
    obtain ⟨-, q1, q2, q3, q4⟩ := HB.out.below b1
    simp only at q1 q2 q3 q4
    have B1 := Lib.hid (below_trans B0.out b1)
    have HR1 := Lib.hid (HR.out.below B1.out)
    clear b1
    cases m
    · have hbad := Lib.hid (edE_bad HK.out)
      go_wp2
      go_ret
      exact ⟨ret_int' hbad.out.symm, B1.out⟩
    · by_cases h3 : refs.length ≤ 256
      · have d3 : decide (256 < (refs.length : Int)) = false := by rw [decide_eq_false_iff_not]; omega
        have hk := HK.out
        rw [decide_eq_true h3] at hk
        have HK2 := Lib.hid hk
        clear hk h3
        go_wp2_with fail
        refine (P2.out _ HR1.out).mono ?_; rintro x w2 ⟨rfl, b2⟩
        have B2 := Lib.hid (below_trans B1.out b2)
        clear b2
        cases q
        · have hgood := Lib.hid (edE_ok HK2.out)
          go_wp2
          go_ret
          exact ⟨ret_int' hgood.out.symm, B2.out⟩
        · have hgood := Lib.hid (edE_bad HK2.out)
          go_wp2
          go_ret
          exact ⟨ret_int' hgood.out.symm, B2.out⟩
      · have d3 : decide (256 < (refs.length : Int)) = true := by rw [decide_eq_true_eq]; omega
        have hk := HK.out
        rw [decide_eq_false h3] at hk
        have hbad := Lib.hid (edE_bad (by rw [hk]; simp))
        clear hk h3
        go_wp2
        go_ret
        exact ⟨ret_int' hbad.out.symm, B1.out⟩
  · by_cases k2 : kind = 2
    · subst k2
      simp only at hok
      have HK := Lib.hid hok
      clear hok k1
      go_enter Try.func28, Try.ntmps28
      go_wp2_with fail
      refine (P1.out _).mono ?_; rintro x w1 ⟨rfl, b1⟩
      clear q1 q2 q3 q4
      obtain ⟨-, q1, q2, q3, q4⟩ := HB.out.below b1
      simp only at q1 q2 q3 q4
      have B1 := Lib.hid (below_trans B0.out b1)
      have HR1 := Lib.hid (HR.out.below B1.out)
      clear b1
      cases m
      · have hbad := Lib.hid (edE_bad HK.out)
        go_wp2
        go_ret
        exact ⟨ret_int' hbad.out.symm, B1.out⟩
      · by_cases h0 : rd = 0
        · subst h0
          by_cases h3 : refs.length ≤ 256
          · have d3 : decide (256 < (refs.length : Int)) = false := by rw [decide_eq_false_iff_not]; omega
            have hk := HK.out
            rw [decide_eq_true h3] at hk
            have HK2 := Lib.hid hk
            clear hk h3
            go_wp2_with fail
            refine (P2.out _ HR1.out).mono ?_; rintro x w2 ⟨rfl, b2⟩
            have B2 := Lib.hid (below_trans B1.out b2)
            clear b2
            cases q
            · have hgood := Lib.hid (edE_ok HK2.out)
              go_wp2
              go_ret
              exact ⟨ret_int' hgood.out.symm, B2.out⟩
            · have hgood := Lib.hid (edE_bad HK2.out)
              go_wp2
              go_ret
              exact ⟨ret_int' hgood.out.symm, B2.out⟩
          · have d3 : decide (256 < (refs.length : Int)) = true := by rw [decide_eq_true_eq]; omega
            have hk := HK.out
            rw [decide_eq_false h3] at hk
            have hbad := Lib.hid (edE_bad (by rw [hk]; simp))
            clear hk h3
            go_wp2
            go_ret
            exact ⟨ret_int' hbad.out.symm, B1.out⟩
        · have d0 : (rd != 0) = true := by simpa using h0
          have hbad := Lib.hid (edE_bad (by rw [HK.out]; simp [h0]))
          clear h0
          go_wp2
          go_ret
          exact ⟨ret_int' hbad.out.symm, B1.out⟩
    · have d1 : (kind != 1) = true := by simpa using k1
      have d2 : (kind != 2) = true := by simpa using k2
      have hbad := Lib.hid (edE_bad (by rw [hok]; simp [k1, k2]))
      clear hok k1 k2
      go_enter Try.func28, Try.ntmps28
      go_wp2
      go_ret
      exact ⟨ret_int' hbad.out.symm, B0.out⟩
end Go.Proofs.Ytfmmdnjoichifaa

namespace Go.Proofs.Ytfmmdnjoichifaa
open Go.RowKit Go.Sort

theorem load_rf_box {w : World} {g : Nat} {s : ByteArray} {b n : Int} (h : Blk w g 110 #[.string s, .int .i64 b, .int .i64 n]) : w.cell? ⟨g, 0, none⟩ = some (.string s) ∧ w.cell? ⟨g, 1, none⟩ = some (.int .i64 b) ∧ w.cell? ⟨g, 2, none⟩ = some (.int .i64 n) := ⟨h.cell 0, h.cell 1, h.cell 2⟩
/-- The refs, one by one, as the document's Check goes through them. -/
theorem okRf_parts (s : ByteArray) (b c : Int) (p1 p2 p3 p4 p5 p6 : Bool) (h1 : decide ((s.size : Int) < 1) = p1) (h2 : decide ((s.size : Int) > 24) = p2) (h3 : decide (b < 1) = p3) (h4 : decide (b > 2305843009213693952) = p4) (h5 : decide (c < 0) = p5) (h6 : decide (c > 16384) = p6) : okRf ⟨s, b, c⟩ = !(p1 || p2 || p3 || p4 || p5 || p6) := by
  unfold okRf
  rw [← h1, ← h2, ← h3, ← h4, ← h5, ← h6, Bool.eq_iff_iff]
  simp only [Bool.not_eq_true', Bool.and_eq_true, decide_eq_false_iff_not, Bool.or_eq_false_iff, decide_eq_true_eq]
  omega
theorem all_snoc {l : List Rf} {k : Nat} {x : Rf} (h : l[k]? = some x) (h1 : (l.take k).all okRf = true) (h2 : okRf x = true) : (l.take (k + 1)).all okRf = true := by
  rw [List.take_add_one, h, List.all_append, h1]
  simp [h2]
theorem all_bad {l : List Rf} {k : Nat} {x : Rf} (h : l[k]? = some x) (h2 : okRf x = false) : l.all okRf = false := by
  rw [List.all_eq_false]
  exact ⟨x, List.mem_of_getElem? h, by simp [h2]⟩
set_option maxRecDepth 100000 in
set_option maxHeartbeats 8000000 in
theorem red_check_any (e : Ed) (A : Option Addr) (c base : Nat) (w : World) (hr : RfAt w base A e.refs) (hbig : e.refs.length ≤ 1000000) :
    Calls Try.prog 27 #[edV e A c] w fun x w' => x = .returned (.bool (okEd e)) ∧ Below w.heap.size w w' := by
  obtain ⟨kind, ep, rd, refs⟩ := e
  simp only at hr hbig
  have HB := Lib.hid (EdBox.new w ⟨kind, ep, rd, refs⟩ A c 50)
  have B0 := Lib.hid (alloc_below w (.cells (edCs ⟨kind, ep, rd, refs⟩ A c) 50))
  have HR := Lib.hid hr
  have P1 := Lib.hid (fun W => rcheck_any ep rd W)
  clear hr
  obtain ⟨m, hM⟩ : ∃ m, m = okMo (ep, rd) := ⟨_, rfl⟩
  rw [← hM] at P1
  have hok : okEd ⟨kind, ep, rd, refs⟩ = (decide (kind = 1 ∨ kind = 2) && m && decide (kind = 2 → rd = 0) && decide (refs.length ≤ 256) && refs.all okRf) := by
    unfold okEd
    rw [hM]
  have HK := Lib.hid hok
  have HM := Lib.hid hM
  obtain ⟨q0, q1, q2, q3, q4⟩ := HB.out
  unfold edCs at q1 q2 q3 q4
  simp only at q1 q2 q3 q4
  clear hM hok q0
  unfold edV
  by_cases k12 : kind = 1 ∨ kind = 2
  · cases m
    · have hbad := Lib.hid (show okEd ⟨kind, ep, rd, refs⟩ = false by rw [HK.out]; simp)
      rcases k12 with rfl | rfl
      all_goals
        go_enter Try.func27, Try.ntmps27
        go_wp2_with fail
        refine (P1.out _).mono ?_; rintro x w1 ⟨rfl, b1⟩
        have B1 := Lib.hid (below_trans B0.out b1)
        clear b1
        go_wp2
        go_ret
        exact ⟨ret_bool' hbad.out.symm, B1.out⟩
    · by_cases k0 : kind = 2 → rd = 0
      · by_cases h3 : refs.length ≤ 256
        · have d3 : decide (256 < (refs.length : Int)) = false := by rw [decide_eq_false_iff_not]; omega
          have HK2 := Lib.hid (show okEd ⟨kind, ep, rd, refs⟩ = refs.all okRf by rw [HK.out, decide_eq_true k12, decide_eq_true k0, decide_eq_true h3]; simp)
          clear HK
          rcases k12 with rfl | rfl
          rotate_left
          obtain rfl := k0 rfl
          rotate_left
          all_goals
            clear k0
            go_enter Try.func27, Try.ntmps27
            go_wp2_with fail
            refine (P1.out _).mono ?_; rintro x w1 ⟨rfl, b1⟩
            clear q1 q2 q3 q4
            obtain ⟨-, q1, q2, q3, q4⟩ := HB.out.below b1
            simp only at q1 q2 q3 q4
            have HB1 := Lib.hid (HB.out.below b1)
            have B1 := Lib.hid (below_trans B0.out b1)
            clear b1
            go_wp2_with fail
            clear q1 q2 q3 q4
            go_loopw [3] (fun i wr => ∃ k : Nat, k ≤ refs.length ∧ i = .int .i64 (k : Int) ∧ (refs.take k).all okRf = true ∧ Below w1.heap.size w1 wr) (fun i _ => refs.length - (intOf i).toNat)
            case atStart => exact ⟨0, Nat.zero_le _, rfl, rfl, Below.refl _ _⟩
            case round =>
              obtain ⟨k, hk, rfl, hno, hbl⟩ := hrel
              have HNO := Lib.hid hno
              have BR := Lib.hid hbl
              have BW := Lib.hid (below_trans B1.out hbl)
              obtain ⟨-, q1, q2, q3, q4⟩ := HB1.out.below hbl
              simp only at q1 q2 q3 q4
              clear hno hbl
              by_cases hlt : k < refs.length
              · have hea := List.getElem?_eq_getElem hlt
                obtain ⟨p, hp⟩ : ∃ p, p = refs[k] := ⟨_, rfl⟩
                rw [← hp] at hea
                have HEA := Lib.hid hea
                obtain ⟨g, off, rfl, -, hc⟩ := (HR.out.below BW.out).at_ hea
                obtain ⟨s, b, n⟩ := p
                have HBX := Lib.hid (below_trans BR.out (alloc_below wr (.cells #[.string s, .int .i64 b, .int .i64 n] 110)))
                have BX := Lib.hid (below_trans BW.out (alloc_below wr (.cells #[.string s, .int .i64 b, .int .i64 n] 110)))
                have z0 := hc 0 _ rfl
                have z1 := hc 1 _ rfl
                have z2 := hc 2 _ rfl
                rw [Nat.add_zero] at z0
                obtain ⟨p1, h1⟩ : ∃ p, decide ((s.size : Int) < 1) = p := ⟨_, rfl⟩
                obtain ⟨p2, h2⟩ : ∃ p, decide ((s.size : Int) > 24) = p := ⟨_, rfl⟩
                obtain ⟨p3, h3⟩ : ∃ p, decide (b < 1) = p := ⟨_, rfl⟩
                obtain ⟨p4, h4⟩ : ∃ p, decide (b > 2305843009213693952) = p := ⟨_, rfl⟩
                obtain ⟨p5, h5⟩ : ∃ p, decide (n < 0) = p := ⟨_, rfl⟩
                obtain ⟨p6, h6⟩ : ∃ p, decide (n > 16384) = p := ⟨_, rfl⟩
                have HOK := Lib.hid (okRf_parts s b n p1 p2 p3 p4 p5 p6 h1 h2 h3 h4 h5 h6)
                clear hea hp hc
                by_cases hgood : okRf ⟨s, b, n⟩ = true
                · have hg := HOK.out
                  rw [hgood] at hg
                  have hn := Lib.hid (all_snoc HEA.out HNO.out hgood)
                  clear hgood HOK
                  cases p1 <;> cases p2 <;> cases p3 <;> cases p4 <;> cases p5 <;> cases p6 <;> first | (exact absurd hg (by decide)) | skip
                  clear hg
                  go_wp2
                  exact ⟨⟨k + 1, by omega, by go_num, hn.out, HBX.out⟩, by simp only [intOf]; omega⟩
                · have hbad := Lib.hid (show okEd ⟨_, _, _, refs⟩ = false by rw [HK2.out]; exact all_bad HEA.out (by simpa using hgood))
                  have hg := HOK.out
                  rw [show okRf ⟨s, b, n⟩ = false by simpa using hgood] at hg
                  clear hgood HOK
                  cases p1
                  · cases p2
                    · cases p3
                      · cases p4
                        · cases p5
                          · cases p6
                            · exact absurd hg (by decide)
                            · clear hg
                              go_wp2
                              go_ret
                              exact ⟨ret_bool' hbad.out.symm, BX.out⟩
                          · clear hg
                            go_wp2
                            go_ret
                            exact ⟨ret_bool' hbad.out.symm, BX.out⟩
                        · clear hg
                          go_wp2
                          go_ret
                          exact ⟨ret_bool' hbad.out.symm, BX.out⟩
                      · clear hg
                        go_wp2
                        go_ret
                        exact ⟨ret_bool' hbad.out.symm, BX.out⟩
                    · clear hg
                      go_wp2
                      go_ret
                      exact ⟨ret_bool' hbad.out.symm, BX.out⟩
                  · clear hg
                    go_wp2
                    go_ret
                    exact ⟨ret_bool' hbad.out.symm, BX.out⟩
              · obtain rfl : k = refs.length := by omega
                have hno := HNO.out
                rw [List.take_length] at hno
                have HG := Lib.hid (HK2.out.trans hno)
                clear hno
                go_wp2
                go_ret
                exact ⟨ret_bool' HG.out.symm, BW.out⟩
        · have d3 : decide (256 < (refs.length : Int)) = true := by rw [decide_eq_true_eq]; omega
          have hbad := Lib.hid (show okEd ⟨kind, ep, rd, refs⟩ = false by rw [HK.out, decide_eq_false h3]; simp)
          clear h3
          rcases k12 with rfl | rfl
          rotate_left
          obtain rfl := k0 rfl
          rotate_left
          all_goals
            clear k0
            go_enter Try.func27, Try.ntmps27
            go_wp2_with fail
            refine (P1.out _).mono ?_; rintro x w1 ⟨rfl, b1⟩
            clear q1 q2 q3 q4
            obtain ⟨-, q1, q2, q3, q4⟩ := HB.out.below b1
            simp only at q1 q2 q3 q4
            have B1 := Lib.hid (below_trans B0.out b1)
            clear b1
            go_wp2
            go_ret
            exact ⟨ret_bool' hbad.out.symm, B1.out⟩
      · have hk2 : kind = 2 := Decidable.byContradiction fun h => k0 fun e => absurd e h
        have hrd : rd ≠ 0 := fun h => k0 fun _ => h
        have d0 : (rd != 0) = true := by simpa using hrd
        have hbad := Lib.hid (show okEd ⟨kind, ep, rd, refs⟩ = false by rw [HK.out, decide_eq_false k0]; simp)
        clear k0 hrd k12
        subst hk2
        go_enter Try.func27, Try.ntmps27
        go_wp2_with fail
        refine (P1.out _).mono ?_; rintro x w1 ⟨rfl, b1⟩
        clear q1 q2 q3 q4
        obtain ⟨-, q1, q2, q3, q4⟩ := HB.out.below b1
        simp only at q1 q2 q3 q4
        have B1 := Lib.hid (below_trans B0.out b1)
        clear b1
        go_wp2
        go_ret
        exact ⟨ret_bool' hbad.out.symm, B1.out⟩
  · have d1 : (kind != 1) = true := by simp; exact fun h => k12 (.inl h)
    have d2 : (kind != 2) = true := by simp; exact fun h => k12 (.inr h)
    have hbad := Lib.hid (show okEd ⟨kind, ep, rd, refs⟩ = false by rw [HK.out, decide_eq_false k12]; simp)
    clear k12
    go_enter Try.func27, Try.ntmps27
    go_wp2
    go_ret
    exact ⟨ret_bool' hbad.out.symm, B0.out⟩
end Go.Proofs.Ytfmmdnjoichifaa
