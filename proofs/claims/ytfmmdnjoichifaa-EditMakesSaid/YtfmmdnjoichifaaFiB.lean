/- Contracts of a disk: what only looks. -/
import Derived.Test.YtfmmdnjoichifaaFiA
namespace Go.Proofs.Ytfmmdnjoichifaa
open Go.RowKit Go.Sort

abbrev ptD (d : Nat) : Value := .pointer (some ⟨d, 0, none⟩)
section
variable {w : World} {base d m : Nat} {D : Dk}
/-- The disk's cells. -/
theorem DiskR.cells (h : DiskR w base d m D) : ∃ pA pc, d < w.heap.size ∧ w.cell? ⟨d, 0, none⟩ = some (.int .i64 D.limit) ∧ w.cell? ⟨d, 1, none⟩ = some (.map (some m)) ∧ w.cell? ⟨d, 2, none⟩ = some (.slice pA D.pend.length pc) ∧ w.cell? ⟨d, 3, none⟩ = some (.bool D.off) ∧ w.cell? ⟨d, 4, none⟩ = some (.bool D.stops) ∧ w.cell? ⟨d, 5, none⟩ = some (.int .i64 D.others) ∧
    w.ownsRow base 96 66 (.slice pA D.pend.length pc) D.pend.length (RowV encWr D.pend) := by
  obtain ⟨pA, pc, hb, ho⟩ := h.top
  exact ⟨pA, pc, hb.lt, hb.cell 0, hb.cell 1, hb.cell 2, hb.cell 3, hb.cell 4, hb.cell 5, ho⟩
set_option maxRecDepth 100000 in
theorem unmade_any (h : DiskR w base d m D) : Calls Try.prog 47 #[ptD d] w fun e w' => e = .returned (.bool false) ∧ w = w' := by
  obtain ⟨pA, pc, hd, -, h1, -⟩ := h.cells
  have q := run_eql_map_nil (P := Try.prog) w 77 9 86 (some m) Try.underlying77
  clear h
  go_enter Try.func47, Try.ntmps47
  go_wp2
  go_ret
  exact ⟨rfl, rfl⟩
theorem unmade_nil (w : World) : Calls Try.prog 47 #[.pointer none] w fun e w' => e = .returned (.bool true) ∧ w = w' := by
  go_enter Try.func47, Try.ntmps47
  go_wp2
  go_ret
  exact ⟨rfl, rfl⟩
def mayNm (n : Nm) : Bool := decide (1 ≤ n.length ∧ n.length ≤ 24)
theorem mayName_any (n : Nm) (w : World) : Calls Try.prog 48 #[strV n] w fun e w' => e = .returned (.bool (mayNm n)) ∧ w = w' := by
  unfold mayNm
  have e0 : (ByteArray.mk n.toArray).size = n.length := by show n.toArray.size = _; simp
  unfold strV
  generalize ByteArray.mk n.toArray = s at e0
  generalize n.length = k at e0
  subst e0
  by_cases h1 : 1 ≤ s.size
  · by_cases h2 : s.size ≤ 24
    · have d1 : decide (1 ≤ (s.size : Int)) = true := by rw [decide_eq_true_eq]; omega
      have d2 : decide ((s.size : Int) ≤ 24) = true := by rw [decide_eq_true_eq]; omega
      go_enter Try.func48, Try.ntmps48
      go_wp2
      go_ret
      exact ⟨by simp [h1, h2], rfl⟩
    · have d1 : decide (1 ≤ (s.size : Int)) = true := by rw [decide_eq_true_eq]; omega
      have d2 : decide ((s.size : Int) ≤ 24) = false := by rw [decide_eq_false_iff_not]; omega
      go_enter Try.func48, Try.ntmps48
      go_wp2
      go_ret
      exact ⟨by simp [h2], rfl⟩
  · have d1 : decide (1 ≤ (s.size : Int)) = false := by rw [decide_eq_false_iff_not]; omega
    go_enter Try.func48, Try.ntmps48
    go_wp2
    go_ret
    exact ⟨by simp [h1], rfl⟩
theorem lookO_mem {fs : List (Nm × Nat)} (hp : fs.Pairwise fun p q => p.1 ≠ q.1) {n : Nm} {b : Nat} (h : (n, b) ∈ fs) : lookO fs n = some b := by
  unfold lookO
  induction fs with
  | nil => cases h
  | cons p fs ih =>
    obtain ⟨h1, h2⟩ := List.pairwise_cons.1 hp
    rcases List.mem_cons.1 h with rfl | h
    · simp
    · have hne : p.1 ≠ n := h1 _ h
      rw [List.find?_cons_of_neg (by simpa using hne)]
      exact ih h2 h
theorem MapR.pw {fs : List (Nm × Nat)} (h : MapR w m fs) : fs.Pairwise fun p q => p.1 ≠ q.1 := by obtain ⟨_, _, _, _, _, hp⟩ := h; exact hp
theorem DiskR.names (h : DiskR w base d m D) {f g : Fi} (hf : f ∈ D.fs) (hg : g ∈ D.fs) (hn : f.name = g.name) : f = g := by
  have h1 := h.map.pw
  unfold nmOf at h1
  rw [List.pairwise_map] at h1
  have key : ∀ l : List Fi, l.Pairwise (fun a b => (a.name, a.blk).1 ≠ (b.name, b.blk).1) → f ∈ l → g ∈ l → f = g := by
    intro l hl hf hg
    induction l with
    | nil => cases hf
    | cons x l ih =>
      obtain ⟨h2, h3⟩ := List.pairwise_cons.1 hl
      rcases List.mem_cons.1 hf with e1 | f2
      · rcases List.mem_cons.1 hg with e2 | g2
        · rw [e1, e2]
        · rw [← e1] at h2; exact absurd hn (h2 g g2)
      · rcases List.mem_cons.1 hg with e2 | g2
        · rw [← e2] at h2; exact absurd hn.symm (h2 f f2)
        · exact ih h3 f2 g2
  exact key _ h1 hf hg
theorem DiskR.look (h : DiskR w base d m D) {f : Fi} (hf : f ∈ D.fs) : (Instr.lookup 77 (.map (some m)) (strV f.name) false).run Try.prog w = .ok (.pointer (some ⟨f.blk, 0, none⟩)) w := by
  have h1 := h.map.look f.name (by have := (h.small f hf).2.2.2; unfold maxLen; omega)
  rw [lookO_mem h.map.pw (b := f.blk) (by unfold nmOf; exact List.mem_map.2 ⟨f, hf, rfl⟩)] at h1
  exact h1
theorem lookO_none {fs : List Fi} {n : Nm} (h : ∀ f ∈ fs, f.name ≠ n) : lookO (nmOf fs) n = none := by
  unfold lookO nmOf
  rw [Option.map_eq_none_iff, List.find?_eq_none]
  intro p hp
  obtain ⟨f, hf, rfl⟩ := List.mem_map.1 hp
  simpa using h f hf
theorem DiskR.lookN (h : DiskR w base d m D) {n : Nm} (hk : n.length ≤ maxLen) (hn : ∀ f ∈ D.fs, f.name ≠ n) : (Instr.lookup 77 (.map (some m)) (strV n) false).run Try.prog w = .ok (.pointer none) w := by
  have h1 := h.map.look n hk
  rw [lookO_none hn] at h1
  exact h1
/-- A file's cells. -/
theorem DiskR.file (h : DiskR w base d m D) {f : Fi} (hf : f ∈ D.fs) : ∃ nA nc kA kc, f.blk < w.heap.size ∧ f.blk ≠ d ∧ w.cell? ⟨f.blk, 0, none⟩ = some (strV f.name) ∧ w.cell? ⟨f.blk, 1, none⟩ = some (slN nA f.now nc) ∧ w.cell? ⟨f.blk, 2, none⟩ = some (slN kA f.kept kc) ∧
    SecRow w base (slN nA f.now nc) f.now ∧ SecRow w base (slN kA f.kept kc) f.kept := by
  obtain ⟨role, hr⟩ := h.files
  obtain ⟨nA, nc, kA, kc, hb, -, hn, hk, -, -⟩ := hr f hf
  obtain ⟨pA, pc, ht, -⟩ := h.top
  exact ⟨nA, nc, kA, kc, hb.lt, Blk.ne_ hb ht (by decide), hb.cell 0, hb.cell 1, hb.cell 2, hn, hk⟩
theorem reach_ok (h : DiskR w base d m D) {f : Fi} (hf : f ∈ D.fs) (ho : D.off = false) : Calls Try.prog 51 #[ptD d, strV f.name] w fun e w' => e = .returned (.tuple #[ptD f.blk, .int .i64 0]) ∧ w = w' := by
  have P1 := Lib.hid (unmade_any h)
  obtain ⟨pA, pc, hd, -, h1, -, h3, -⟩ := h.cells
  have hl := h.look hf
  rw [ho] at h3
  clear h hf ho
  go_enter Try.func51, Try.ntmps51
  go_wp2_with fail
  refine P1.out.mono ?_; rintro e w' ⟨rfl, rfl⟩
  go_wp2
  go_ret2
  exact ⟨rfl, rfl⟩
theorem reach_off (h : DiskR w base d m D) (n : Nm) (ho : D.off = true) : Calls Try.prog 51 #[ptD d, strV n] w fun e w' => e = .returned (.tuple #[.pointer none, .int .i64 50]) ∧ w = w' := by
  have P1 := Lib.hid (unmade_any h)
  obtain ⟨pA, pc, hd, -, h1, -, h3, -⟩ := h.cells
  rw [ho] at h3
  clear h ho
  go_enter Try.func51, Try.ntmps51
  go_wp2_with fail
  refine P1.out.mono ?_; rintro e w' ⟨rfl, rfl⟩
  go_wp2
  go_ret2
  exact ⟨rfl, rfl⟩
theorem reach_none (h : DiskR w base d m D) {n : Nm} (hk : n.length ≤ maxLen) (hn : ∀ f ∈ D.fs, f.name ≠ n) (ho : D.off = false) : Calls Try.prog 51 #[ptD d, strV n] w fun e w' => e = .returned (.tuple #[.pointer none, .int .i64 4]) ∧ w = w' := by
  have P1 := Lib.hid (unmade_any h)
  obtain ⟨pA, pc, hd, -, h1, -, h3, -⟩ := h.cells
  have hl := h.lookN hk hn
  rw [ho] at h3
  clear h hn ho hk
  go_enter Try.func51, Try.ntmps51
  go_wp2_with fail
  refine P1.out.mono ?_; rintro e w' ⟨rfl, rfl⟩
  go_wp2
  go_ret2
  exact ⟨rfl, rfl⟩
theorem reach_nil (w : World) (n : Value) : Calls Try.prog 51 #[.pointer none, n] w fun e w' => e = .returned (.tuple #[.pointer none, .int .i64 6]) ∧ w = w' := by
  go_enter Try.func51, Try.ntmps51
  go_wp2_with fail
  refine (unmade_nil _).mono ?_; rintro e w' ⟨rfl, rfl⟩
  go_wp2
  go_ret2
  exact ⟨rfl, rfl⟩
theorem fsize_ok (h : DiskR w base d m D) {f : Fi} (hf : f ∈ D.fs) : Calls Try.prog 17 #[ptD d, strV f.name] w fun e w' => e = .returned (.tuple #[.int .i64 (f.now.length : Int), .int .i64 0]) ∧ w = w' := by
  have P1 := Lib.hid (unmade_any h)
  obtain ⟨pA, pc, hd, -, h1, -⟩ := h.cells
  obtain ⟨nA, nc, kA, kc, f0, -, -, f1, -⟩ := h.file hf
  have hl := h.look hf
  clear h hf
  go_enter Try.func17, Try.ntmps17
  go_wp2_with fail
  refine P1.out.mono ?_; rintro e w' ⟨rfl, rfl⟩
  go_wp2
  go_ret2
  exact ⟨rfl, rfl⟩
theorem fsize_none (h : DiskR w base d m D) {n : Nm} (hk : n.length ≤ maxLen) (hn : ∀ f ∈ D.fs, f.name ≠ n) : Calls Try.prog 17 #[ptD d, strV n] w fun e w' => e = .returned (.tuple #[.int .i64 0, .int .i64 4]) ∧ w = w' := by
  have P1 := Lib.hid (unmade_any h)
  obtain ⟨pA, pc, hd, -, h1, -⟩ := h.cells
  have hl := h.lookN hk hn
  clear h hn hk
  go_enter Try.func17, Try.ntmps17
  go_wp2_with fail
  refine P1.out.mono ?_; rintro e w' ⟨rfl, rfl⟩
  go_wp2
  go_ret2
  exact ⟨rfl, rfl⟩
theorem fsize_nil (w : World) (n : Value) : Calls Try.prog 17 #[.pointer none, n] w fun e w' => e = .returned (.tuple #[.int .i64 0, .int .i64 6]) ∧ w = w' := by
  go_enter Try.func17, Try.ntmps17
  go_wp2_with fail
  refine (unmade_nil _).mono ?_; rintro e w' ⟨rfl, rfl⟩
  go_wp2
  go_ret2
  exact ⟨rfl, rfl⟩
theorem off_any (h : DiskR w base d m D) : Calls Try.prog 46 #[ptD d] w fun e w' => e = .returned (.bool D.off) ∧ w = w' := by
  have P1 := Lib.hid (unmade_any h)
  obtain ⟨pA, pc, hd, -, h1, -, h3, -⟩ := h.cells
  clear h
  go_enter Try.func46, Try.ntmps46
  go_wp2_with fail
  refine P1.out.mono ?_; rintro e w' ⟨rfl, rfl⟩
  go_wp2
  go_ret
  exact ⟨rfl, rfl⟩
theorem off_nil (w : World) : Calls Try.prog 46 #[.pointer none] w fun e w' => e = .returned (.bool true) ∧ w = w' := by
  go_enter Try.func46, Try.ntmps46
  go_wp2_with fail
  refine (unmade_nil _).mono ?_; rintro e w' ⟨rfl, rfl⟩
  go_wp2
  go_ret
  exact ⟨rfl, rfl⟩
/-- Is there a sector of that number? -/
def hasM (l : List Sec) (i : Int) : Bool := decide (0 ≤ i ∧ i < (l.length : Int))
theorem has_any (h : DiskR w base d m D) {f : Fi} (hf : f ∈ D.fs) (i : Int) : Calls Try.prog 62 #[ptD f.blk, .int .i64 i] w fun e w' => e = .returned (.bool (hasM f.now i)) ∧ w = w' := by
  obtain ⟨nA, nc, kA, kc, f0, -, -, f1, -⟩ := h.file hf
  unfold hasM
  clear h hf
  by_cases h1 : 0 ≤ i
  · by_cases h2 : i < (f.now.length : Int)
    · have d1 : decide (0 ≤ i) = true := by simpa using h1
      have d2 : decide (i < (f.now.length : Int)) = true := by simpa using h2
      go_enter Try.func62, Try.ntmps62
      go_wp2
      go_ret
      exact ⟨by simp [h1, h2], rfl⟩
    · have d1 : decide (0 ≤ i) = true := by simpa using h1
      have d2 : decide (i < (f.now.length : Int)) = false := by simpa using h2
      go_enter Try.func62, Try.ntmps62
      go_wp2
      go_ret
      exact ⟨by simp, rfl⟩
  · have d1 : decide (0 ≤ i) = false := by simpa using h1
    go_enter Try.func62, Try.ntmps62
    go_wp2
    go_ret
    exact ⟨by simp, rfl⟩
end
end Go.Proofs.Ytfmmdnjoichifaa
