/- The law RecReads. -/
import Derived.Test.YtibhofdblfgkbaaReV
import Derived.Test.YtibhofdblfgkbaaReS
import Derived.Test.YtibhofdblfgkbaaOp
namespace Go.Proofs.Ytibhofdblfgkbaa
open Go.RowKit Go.Sort

def LawRd (w : World) (e : Ending) (w' : World) : Prop := e = .returned (.bool true) ∧ Below w.heap.size w w'
theorem conv_rd {w : World} {h : Nat} {A : Option Addr} {l : List UInt8} (s : SlB w h A l) (c : Nat) : (convert 41 9 (.slice A l.length c)).run Try.prog w = .ok (.string ⟨l.toArray⟩) w :=
  run_convB w Try.underlying41 Try.underlying5 Try.underlying9 c (s.reads rfl)
theorem RdAt.room {T : TypeId} {w : World} {g h : Nat} {b : List UInt8} (r : RdAt T w g h (some b)) : ∃ k, k ≠ w.heap.size ∧ RdAt T w g k (some b) := by
  have hlt := r.lt
  obtain ⟨A, c, l, hb, hne, hl, hc, hs, hr⟩ := r
  have e := hr b rfl
  subst e
  by_cases h0 : b = []
  · subst h0
    exact ⟨w.heap.size + 1, by omega, A, c, [], hb, by omega, hl, hc, SlB.nil _ _ _, fun r e => by injection e with e; exact e.symm⟩
  · have := hs.lt h0
    exact ⟨h, by omega, A, c, b, hb, hne, hl, hc, hs, fun r e => by injection e with e; exact e.symm⟩
/-- The program's reader and one record. -/
theorem rc_read_bytes (A : Option Addr) (c h : Nat) (b : List UInt8) (w : World) (hs : SlB w h A b) (hl : b.length ≤ 70368744177664) :
    Calls Try.prog 40 #[.slice A b.length c] w fun e w' => ∃ g, e = .returned (.pointer (some ⟨g, 0, none⟩)) ∧ Below w.heap.size w w' ∧
      Calls Try.prog 39 #[.pointer (some ⟨g, 0, none⟩)] w' fun e w2 => e = .returned (.tuple #[.agg #[.int .i64 (readRec (some b)).1.1, .int .i64 (readRec (some b)).1.2], .int .i64 (readRec (some b)).2]) ∧ Below w.heap.size w w2 := by
  refine (from_any A c h b w hs hl).mono ?_
  rintro e w1 ⟨g, h', rfl, hg, -, r, b1⟩
  obtain ⟨k, hk, r2⟩ := r.room
  refine ⟨g, rfl, b1, (rc_read_at2 g k (some b) w1 r2 hk).mono ?_⟩
  rintro e w2 ⟨rfl, -, g2⟩
  exact ⟨rfl, b1.grown g2 b1.size fun i hi => by injection hi with hi; omega⟩
theorem rrc_read_bytes (A : Option Addr) (c h : Nat) (b : List UInt8) (w : World) (hs : SlB w h A b) (hl : b.length ≤ 70368744177664) (hc : b.length ≤ c) (hm : c ≤ maxLen) :
    Calls Try.prog 45 #[.pointer (some ⟨w.heap.size, 0, none⟩)] (w.alloc (.cells #[.slice A b.length c, .bool false] 60)) fun e w2 => e = .returned (.tuple #[.agg #[.int .i64 (readRec (some b)).1.1, .int .i64 (readRec (some b)).1.2], .int .i64 (readRec (some b)).2]) ∧ Below w.heap.size w w2 := by
  obtain ⟨h', -, r⟩ := rd_new w A h b c hs hc hm
  obtain ⟨k, hk, r2⟩ := r.room
  refine (rrc_read_at2 w.heap.size k (some b) _ r2 hk fun l e => by injection e with e; subst e; exact hl).mono ?_
  rintro e w2 ⟨rfl, -, g2⟩
  exact ⟨rfl, (alloc_below w _).grown g2 (by rw [World.size_alloc]; omega) fun i hi => by injection hi with hi; omega⟩
set_option maxRecDepth 100000 in
set_option maxHeartbeats 4000000 in
theorem reads_none (A : Option Addr) (h : Nat) (b : List UInt8) (c : Nat) (w : World) (hb : SlB w h A b) (hc : b.length ≤ c) (hm : c ≤ maxLen) (hz : decR b = none) :
    Calls Try.prog 7 #[.slice A b.length c] w (LawRd w) := by
  have HS := Lib.hid hb
  by_cases la : 5000 < b.length
  · have d1 : decide ((5000 : Int) < (b.length : Int)) = true := by rw [decide_eq_true_eq]; omega
    clear hb
    go_enter Try.func7, Try.ntmps7
    go_wp2_with fail
    refine (lives_any _).mono ?_; rintro e w2 ⟨rfl, b2⟩
    go_wp2
    go_ret
    exact ⟨rfl, b2⟩
  have d1 : decide ((5000 : Int) < (b.length : Int)) = false := by rw [decide_eq_false_iff_not]; omega
  have hlen : b.length ≤ 5000 := by omega
  have HLEN := Lib.hid hlen
  have PC := Lib.hid (fun W (k : Below w.heap.size w W) => rc_decode_any A h b c W (HS.out.below k fun h => h) (by omega))
  have PD := Lib.hid (fun W (k : Below w.heap.size w W) => rrc_decode_any A h b c W (HS.out.below k fun h => h) (by omega) hc hm)
  have PF := Lib.hid (fun W (k : Below w.heap.size w W) => rc_read_bytes A c h b W (HS.out.below k fun h => h) (by omega))
  have PR := Lib.hid (fun W A2 h2 c2 (s : SlB W h2 A2 b) (k1 : b.length ≤ c2) (k2 : c2 ≤ maxLen) => rrc_read_bytes A2 c2 h2 b W s (by omega) k1 k2)
  have PE := Lib.hid (fun W => rexact_any none none 0 0 [] [] 0 0 W (SlP.nil _ _ _) (SlP.nil _ _ _) (by simp) (by simp))
  simp only [List.length_nil, beq_self_eq_true] at PE
  have HR := Lib.hid (fun W (k : Below w.heap.size w W) => (HS.out.below k fun h => h).reads (n := b.length) rfl)
  obtain ⟨z, hzz⟩ : ∃ z, readRec (some b) = z := ⟨_, rfl⟩
  rw [hz] at PC PD
  rw [hzz] at PF PR
  obtain ⟨⟨x1, x2⟩, er⟩ := z
  clear hb hc hm hz hzz la hlen
  go_enter Try.func7, Try.ntmps7
  go_wp2_with fail
  refine (PC.out _ (Below.refl _ _)).mono ?_; rintro e w1 (⟨-, rfl, b1⟩ | ⟨l, A', c', hx, -⟩)
  rotate_left
  · cases hx
  have B1 := Lib.hid b1
  clear b1
  go_wp2_with fail
  refine (PD.out _ B1.out).mono ?_; rintro e w2 (⟨-, rfl, b2⟩ | ⟨l, A', c', hx, -⟩)
  rotate_left
  · cases hx
  have B2 := Lib.hid (below_trans B1.out b2)
  clear b2
  go_wp2_with fail
  refine (PF.out _ B2.out).mono ?_; rintro e w3 ⟨g, rfl, b3, r3⟩
  have B3 := Lib.hid (below_trans B2.out b3)
  have R3 := Lib.hid r3
  have HS2 := Lib.hid B2.out.size
  clear b3 r3
  go_wp2_with fail
  refine R3.out.mono ?_; rintro e w4 ⟨rfl, b4⟩
  have B4 := Lib.hid (below_trans B2.out b4)
  have K4 := Lib.hid (Blk.new w4 24 #[.int .i64 x1, .int .i64 x2])
  have hE : ((w4.alloc (.cells #[.int .i64 x1, .int .i64 x2] 24)).alloc (.cells #[] 5)).ownsRow (w4.heap.size + 1) 5 1 (.slice (some ⟨w4.heap.size + 1, 0, none⟩) 0 0) 0 (Byt []) := by
    have := own_new (w4.alloc (.cells #[.int .i64 x1, .int .i64 x2] 24)) #[] 5 0 (Byt []) rfl rfl (by decide) (Nat.le_refl _)
    rwa [World.size_alloc] at this
  have HE := Lib.hid hE
  have HRR := Lib.hid (HR.out _ (below_trans B4.out (below_trans (alloc_below w4 (.cells #[.int .i64 x1, .int .i64 x2] 24)) (alloc_below _ (.cells #[] 5)))))
  clear b4 hE
  go_wp2_with (at_builtin; (refine wpList_appB _ rfl (.tmp 36) (.tmp 37) _ rfl Try.underlying41 info_u8 HE.out HRR.out c rfl rfl (by have := HLEN.out; omega) (by simp) ?_); intro A5 c5 w5 o5 gr5; have O5 := Lib.hid o5; have G5 := Lib.hid gr5; clear o5 gr5)
  rw [Nat.zero_add, List.nil_append] at O5
  have BX := Lib.hid ((alloc_below (w4.alloc (.cells #[.int .i64 x1, .int .i64 x2] 24)) (.cells #[] 5)).grown (Grew.by_ G5.out) (by rw [World.size_alloc (w4.alloc (.cells #[.int .i64 x1, .int .i64 x2] 24))]; omega) fun i hi => by
    injection hi with hi
    subst hi
    rw [World.size_alloc]
    exact Nat.le_refl _)
  have B5 := Lib.hid (below_trans (below_trans B4.out (alloc_below w4 (.cells #[.int .i64 x1, .int .i64 x2] 24))) BX.out)
  have K5 := Lib.hid (K4.out.below BX.out K4.out.lt)
  obtain ⟨ho, -, so, -⟩ := SlB.of_own O5.out
  have hcp := own_cap O5.out
  have S5 := Lib.hid so
  clear so O5 G5 HE HRR K4 BX
  refine (PR.out w5 A5 ho c5 S5.out hcp.1 hcp.2).mono ?_; rintro e w6 ⟨rfl, b6⟩
  have B6 := Lib.hid (below_trans B5.out b6)
  have K6 := Lib.hid (K5.out.below b6 K5.out.lt)
  have KY := Lib.hid (Blk.new w6 24 #[.int .i64 x1, .int .i64 x2])
  have HKX := Lib.hid K6.out.lt
  clear b6 K5 S5 hcp
  go_wp2_with fail
  refine (rc_read_nil _).mono ?_; rintro e w7 ⟨rfl, b7⟩
  have B7 := Lib.hid (below_trans (below_trans B6.out (alloc_below w6 (.cells #[.int .i64 x1, .int .i64 x2] 24))) b7)
  have K7 := Lib.hid ((K6.out.below (alloc_below w6 (.cells #[.int .i64 x1, .int .i64 x2] 24)) K6.out.lt).below b7 (by rw [World.size_alloc]; have := HKX.out; omega))
  have KY7 := Lib.hid (KY.out.below b7 KY.out.lt)
  clear b7 K6 KY
  go_wp2_with fail
  refine (lives_any _).mono ?_; rintro e w8 ⟨rfl, b8⟩
  have A8 := Lib.hid (below_trans (alloc_below w7 (.cells #[.int .i64 0, .int .i64 0] 24)) (b8.mono (by rw [World.size_alloc]; omega)))
  clear b8
  go_wp2_with fail
  refine (PE.out _).mono ?_; rintro e w9 ⟨rfl, b9⟩
  have A9 := Lib.hid (below_trans A8.out b9)
  have k9 := K7.out.below A9.out K7.out.lt
  have l9 := KY7.out.below A9.out KY7.out.lt
  have q0 := k9.cell 0
  have q1 := k9.cell 1
  have p0 := l9.cell 0
  have p1 := l9.cell 1
  simp at q0 q1 p0 p1
  have B9 := Lib.hid (below_trans B7.out A9.out)
  clear b9 k9 l9
  go_wp2
  go_ret
  exact ⟨rfl, B9.out⟩
set_option maxRecDepth 100000 in
set_option maxHeartbeats 4000000 in
theorem reads_some (A : Option Addr) (h : Nat) (b : List UInt8) (c : Nat) (w : World) (hb : SlB w h A b) (hc : b.length ≤ c) (hm : c ≤ maxLen) (l : List (Int × Int)) (hz : decR b = some l) :
    Calls Try.prog 7 #[.slice A b.length c] w (LawRd w) := by
  have HS := Lib.hid hb
  by_cases la : 5000 < b.length
  · have d1 : decide ((5000 : Int) < (b.length : Int)) = true := by rw [decide_eq_true_eq]; omega
    clear hb
    go_enter Try.func7, Try.ntmps7
    go_wp2_with fail
    refine (lives_any _).mono ?_; rintro e w2 ⟨rfl, b2⟩
    go_wp2
    go_ret
    exact ⟨rfl, b2⟩
  have d1 : decide ((5000 : Int) < (b.length : Int)) = false := by rw [decide_eq_false_iff_not]; omega
  have hlen : b.length ≤ 5000 := by omega
  have HLEN := Lib.hid hlen
  have PC := Lib.hid (fun W (k : Below w.heap.size w W) => rc_decode_any A h b c W (HS.out.below k fun h => h) (by omega))
  have PD := Lib.hid (fun W (k : Below w.heap.size w W) => rrc_decode_any A h b c W (HS.out.below k fun h => h) (by omega) hc hm)
  have PF := Lib.hid (fun W (k : Below w.heap.size w W) => rc_read_bytes A c h b W (HS.out.below k fun h => h) (by omega))
  have PR := Lib.hid (fun W A2 h2 c2 (s : SlB W h2 A2 b) (k1 : b.length ≤ c2) (k2 : c2 ≤ maxLen) => rrc_read_bytes A2 c2 h2 b W s (by omega) k1 k2)
  obtain ⟨henc, hmay, -, hll⟩ := decR_inv hz
  have PE := Lib.hid (fun W A1 A2 h1 h2 c1 c2 (s1 : SlP W h1 A1 l) (s2 : SlP W h2 A2 l) => rexact_any A1 A2 h1 h2 l l c1 c2 W s1 s2 (by omega) (by omega))
  simp only [beq_self_eq_true] at PE
  have PG := Lib.hid (fun W A1 h1 c1 (s1 : SlP W h1 A1 l) => rc_encode_ok A1 h1 l c1 W s1 hmay)
  rw [henc] at PG
  have HR := Lib.hid (fun W (k : Below w.heap.size w W) => (HS.out.below k fun h => h).reads (n := b.length) rfl)
  obtain ⟨z, hzz⟩ : ∃ z, readRec (some b) = z := ⟨_, rfl⟩
  rw [hz] at PC PD
  rw [hzz] at PF PR
  obtain ⟨⟨x1, x2⟩, er⟩ := z
  clear hb hc hm hz hzz la hlen henc hmay hll
  go_enter Try.func7, Try.ntmps7
  go_wp2_with fail
  refine (PC.out _ (Below.refl _ _)).mono ?_; rintro e w1 (⟨hx, -⟩ | ⟨l', A1, c1, hx, rfl, ⟨h1, s1⟩, b1, -⟩)
  · cases hx
  injection hx with hx
  subst hx
  have B1 := Lib.hid b1
  have S1 := Lib.hid s1
  clear b1 s1
  go_wp2_with fail
  refine (PD.out _ B1.out).mono ?_; rintro e w2 (⟨hx, -⟩ | ⟨l', A2, c2, hx, rfl, ⟨h2, s2⟩, b2, -⟩)
  · cases hx
  injection hx with hx
  subst hx
  have B2 := Lib.hid (below_trans B1.out b2)
  have S1 := Lib.hid (S1.out.below b2)
  have S2 := Lib.hid s2
  clear b2 s2
  go_wp2_with fail
  refine (PF.out _ B2.out).mono ?_; rintro e w3 ⟨g, rfl, b3, r3⟩
  have B3 := Lib.hid (below_trans B2.out b3)
  have R3 := Lib.hid r3
  have HS2 := Lib.hid B2.out.size
  clear b3 r3
  go_wp2_with fail
  refine R3.out.mono ?_; rintro e w4 ⟨rfl, b4⟩
  have B4 := Lib.hid (below_trans B2.out b4)
  have S1 := Lib.hid (S1.out.below b4)
  have S2 := Lib.hid (S2.out.below b4)
  have K4 := Lib.hid (Blk.new w4 24 #[.int .i64 x1, .int .i64 x2])
  have hE : ((w4.alloc (.cells #[.int .i64 x1, .int .i64 x2] 24)).alloc (.cells #[] 5)).ownsRow (w4.heap.size + 1) 5 1 (.slice (some ⟨w4.heap.size + 1, 0, none⟩) 0 0) 0 (Byt []) := by
    have := own_new (w4.alloc (.cells #[.int .i64 x1, .int .i64 x2] 24)) #[] 5 0 (Byt []) rfl rfl (by decide) (Nat.le_refl _)
    rwa [World.size_alloc] at this
  have HE := Lib.hid hE
  have HRR := Lib.hid (HR.out _ (below_trans B4.out (below_trans (alloc_below w4 (.cells #[.int .i64 x1, .int .i64 x2] 24)) (alloc_below _ (.cells #[] 5)))))
  clear b4 hE
  go_wp2_with (at_builtin; (refine wpList_appB _ rfl (.tmp 36) (.tmp 37) _ rfl Try.underlying41 info_u8 HE.out HRR.out c rfl rfl (by have := HLEN.out; omega) (by simp) ?_); intro A5 c5 w5 o5 gr5; have O5 := Lib.hid o5; have G5 := Lib.hid gr5; clear o5 gr5)
  rw [Nat.zero_add, List.nil_append] at O5
  have BX := Lib.hid ((alloc_below (w4.alloc (.cells #[.int .i64 x1, .int .i64 x2] 24)) (.cells #[] 5)).grown (Grew.by_ G5.out) (by rw [World.size_alloc (w4.alloc (.cells #[.int .i64 x1, .int .i64 x2] 24))]; omega) fun i hi => by
    injection hi with hi
    subst hi
    rw [World.size_alloc]
    exact Nat.le_refl _)
  have B5 := Lib.hid (below_trans (below_trans B4.out (alloc_below w4 (.cells #[.int .i64 x1, .int .i64 x2] 24))) BX.out)
  have S1 := Lib.hid ((S1.out.below (alloc_below w4 (.cells #[.int .i64 x1, .int .i64 x2] 24))).below BX.out)
  have S2 := Lib.hid ((S2.out.below (alloc_below w4 (.cells #[.int .i64 x1, .int .i64 x2] 24))).below BX.out)
  have K5 := Lib.hid (K4.out.below BX.out K4.out.lt)
  obtain ⟨ho, -, so, -⟩ := SlB.of_own O5.out
  have hcp := own_cap O5.out
  have S5 := Lib.hid so
  clear so O5 G5 HE HRR K4 BX
  refine (PR.out w5 A5 ho c5 S5.out hcp.1 hcp.2).mono ?_; rintro e w6 ⟨rfl, b6⟩
  have B6 := Lib.hid (below_trans B5.out b6)
  have S1 := Lib.hid (S1.out.below b6)
  have S2 := Lib.hid (S2.out.below b6)
  have K6 := Lib.hid (K5.out.below b6 K5.out.lt)
  have KY := Lib.hid (Blk.new w6 24 #[.int .i64 x1, .int .i64 x2])
  have HKX := Lib.hid K6.out.lt
  clear b6 K5 S5 hcp
  go_wp2_with fail
  refine (rc_read_nil _).mono ?_; rintro e w7 ⟨rfl, b7⟩
  have B7 := Lib.hid (below_trans (below_trans B6.out (alloc_below w6 (.cells #[.int .i64 x1, .int .i64 x2] 24))) b7)
  have S1 := Lib.hid ((S1.out.below (alloc_below w6 (.cells #[.int .i64 x1, .int .i64 x2] 24))).below b7)
  have S2 := Lib.hid ((S2.out.below (alloc_below w6 (.cells #[.int .i64 x1, .int .i64 x2] 24))).below b7)
  have K7 := Lib.hid ((K6.out.below (alloc_below w6 (.cells #[.int .i64 x1, .int .i64 x2] 24)) K6.out.lt).below b7 (by rw [World.size_alloc]; have := HKX.out; omega))
  have KY7 := Lib.hid (KY.out.below b7 KY.out.lt)
  clear b7 K6 KY
  go_wp2_with fail
  refine (lives_any _).mono ?_; rintro e w8 ⟨rfl, b8⟩
  have A8 := Lib.hid (below_trans (alloc_below w7 (.cells #[.int .i64 0, .int .i64 0] 24)) (b8.mono (by rw [World.size_alloc]; omega)))
  have S1 := Lib.hid (S1.out.below A8.out)
  have S2 := Lib.hid (S2.out.below A8.out)
  clear b8
  go_wp2_with fail
  refine (PE.out _ _ _ _ _ _ _ S1.out S2.out).mono ?_; rintro e w9 ⟨rfl, b9⟩
  have A9 := Lib.hid (below_trans A8.out b9)
  have k9 := K7.out.below A9.out K7.out.lt
  have l9 := KY7.out.below A9.out KY7.out.lt
  have q0 := k9.cell 0
  have q1 := k9.cell 1
  have p0 := l9.cell 0
  have p1 := l9.cell 1
  simp at q0 q1 p0 p1
  have B9 := Lib.hid (below_trans B7.out A9.out)
  have S1 := Lib.hid (S1.out.below b9)
  clear b9 k9 l9
  go_wp2_with fail
  refine (PG.out _ _ _ _ S1.out).mono ?_; rintro e w10 ⟨A6, c6, rfl, o6, b10⟩
  obtain ⟨h6, -, s6, -⟩ := SlB.of_own o6
  have B10 := Lib.hid (below_trans B9.out b10)
  have v1 := conv_rd s6 c6
  have v2 := conv_rd (HS.out.below B10.out fun h => h) c
  clear o6 s6 b10 q0 q1 p0 p1
  go_wp2
  go_ret
  exact ⟨rfl, B10.out⟩
theorem recReads_any (A : Option Addr) (g : Nat) (l : List UInt8) (c : Nat) (w : World) (b : InB w A g l c) : Calls Try.prog 7 #[.slice A l.length c] w (LawRd w) := by
  cases h : decR l with
  | none => exact reads_none A g l c w b.1 b.2.1 b.2.2 h
  | some m => exact reads_some A g l c w b.1 b.2.1 b.2.2 m h
end Go.Proofs.Ytibhofdblfgkbaa
