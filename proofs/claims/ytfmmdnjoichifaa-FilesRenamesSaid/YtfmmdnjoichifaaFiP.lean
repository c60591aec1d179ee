/- Contracts of a disk: Crash. -/
import Derived.Test.YtfmmdnjoichifaaFiO
namespace Go.Proofs.Ytfmmdnjoichifaa
open Go.RowKit Go.Sort

def findB (fs : List Fi) (b : Nat) : Option Fi := fs.find? fun f => f.blk == b
/-- One write is kept, as far as it is told. -/
def stepC (keep : List Int) (fs : List Fi) (p : Wr × Nat) : List Fi :=
  if p.2 < keep.length ∧ 0 < keep.getD p.2 0 then (match findB fs p.1.f with | some f => updF fs (keepF f p.1 (keep.getD p.2 0).toNat) | none => fs) else fs
def keptFs (fs : List Fi) (pend : List Wr) (keep : List Int) (k : Nat) : List Fi := (pend.zipIdx.take k).foldl (stepC keep) fs
theorem keptFs_succ (fs : List Fi) (pend : List Wr) (keep : List Int) (k : Nat) (p : Wr) (h : pend[k]? = some p) : keptFs fs pend keep (k + 1) = stepC keep (keptFs fs pend keep k) (p, k) := by
  unfold keptFs
  have h1 : pend.zipIdx[k]? = some (p, k) := by rw [List.getElem?_zipIdx, h]; simp
  rw [List.take_add_one, h1, List.foldl_append]
  rfl
theorem findB_mem {fs : List Fi} (hap : fs.Pairwise fun a b => a.blk ≠ b.blk) {f : Fi} (hf : f ∈ fs) : findB fs f.blk = some f := by
  unfold findB
  induction fs with
  | nil => cases hf
  | cons x fs ih =>
    obtain ⟨h1, h2⟩ := List.pairwise_cons.1 hap
    rcases List.mem_cons.1 hf with rfl | hf
    · rw [List.find?_cons_of_pos (by simp)]
    · rw [List.find?_cons_of_neg (by simpa using h1 f hf)]
      exact ih h2 hf
/-- Numbers behind a slice; the disk is not what they lie in. -/
def IntAt (w : World) (base : Nat) (A : Option Addr) (l : List Int) : Prop :=
  l ≠ [] → ∃ h off, A = some ⟨h, off, none⟩ ∧ h < w.heap.size ∧ (∀ j v, l[j]? = some v → w.cell? ⟨h, off + j, none⟩ = some (.int .i64 v)) ∧ (h < base ∨ ∃ cs fr, w.heap[h]? = some (.cells cs 3 fr))
theorem IntAt.nil (w : World) (base : Nat) (A : Option Addr) : IntAt w base A [] := fun h => absurd rfl h
theorem IntAt.kf {w w' : World} {base : Nat} {A : Option Addr} {l : List Int} (h : IntAt w base A l) (hk : KF base w w') : IntAt w' base A l := fun hl => by
  obtain ⟨g, off, e, h1, h2, h3⟩ := h hl
  have hh : w'.heap[g]? = w.heap[g]? := hk.2.2.2.2 g h1 (h3.imp id (by
    rintro ⟨cs, fr, hc⟩ ⟨cs', t', hc', ht⟩
    rw [hc] at hc'
    injection hc' with hc'
    injection hc' with _ e
    subst e
    revert ht
    decide))
  refine ⟨g, off, e, Nat.lt_of_lt_of_le h1 hk.size, fun j v hj => (World.cell?_of_block (a := ⟨g, off + j, none⟩) hh).trans (h2 j v hj), h3.imp id ?_⟩
  rintro ⟨cs, fr, hc⟩
  exact ⟨cs, fr, hh.trans hc⟩
theorem KF.own {w w' : World} {base b e size n : Nat} {v : Value} {xs : List Value} (h : KF base w w') (ho : w.ownsRow b e size v n xs) (he : e ≠ 90 ∧ e ≠ 94) : w'.ownsRow b e size v n xs := by
  refine ⟨ho.1, ho.2.imp id ?_⟩
  rintro ⟨g, cap, cur, h1, h2, h3, h4⟩
  exact ⟨g, cap, cur, h1, h2, h.blk (t := e) (cs := cur) h3 he, h4⟩
section
variable {w : World} {base d m : Nat} {D : Dk}
theorem DiskR.reset (h : DiskR w base d m D) : DiskR (((w.setCell ⟨d, 2, none⟩ (.slice none 0 0)).setCell ⟨d, 3, none⟩ (.bool false)).setCell ⟨d, 4, none⟩ (.bool false)) base d m { D with pend := [], off := false, stops := false } ∧
    DF base m w (((w.setCell ⟨d, 2, none⟩ (.slice none 0 0)).setCell ⟨d, 3, none⟩ (.bool false)).setCell ⟨d, 4, none⟩ (.bool false)) := by
  have hg := gr_trans (gr_trans (gr_set w d 2 (.slice none 0 0)) (gr_set _ d 3 (.bool false))) (gr_set _ d 4 (.bool false))
  obtain ⟨h1, h2, h3, ⟨pA, pc, h4, h5⟩, ⟨role, h6⟩, h7, h8, h9, h10⟩ := h
  refine ⟨⟨h1, h2, h3.kept hg (fun e => ?_), ⟨none, 0, ((h4.set_ 2 _).set_ 3 _).set_ 4 _, own_nil_k layWr _ _ _⟩, ⟨role, fun f hf => ?_⟩, fun p hp => (by cases hp), h8, h9, h10⟩, DF.of_grown hg fun g hgd => ?_⟩
  · injection e with e
    exact map_ne_blk h3 h4 e.symm
  · obtain ⟨nA, nc, kA, kc, hb', -⟩ := h6 f hf
    exact (h6 f hf).kept hg (fun e => by injection e with e; exact Blk.ne_ hb' h4 (by decide) e.symm) fun g hgd => by
      injection hgd with hgd
      subst hgd
      exact .inl ⟨_, _, h4, by decide⟩
  · injection hgd with hgd
    subst hgd
    exact ⟨h1, dty_blk h4 (.inl rfl)⟩
theorem RangeR.no_blk {r cnt : Nat} {fs : List (Nm × Nat)} {left : Nm → Bool} (h : RangeR w m r fs left cnt) : ¬ ∃ t c, Blk w r t c := by
  obtain ⟨D, left', ⟨es, clock, since, seen, c0, -, -, -, -, hr, -⟩, -⟩ := h
  rintro ⟨t, c, hb⟩
  unfold Blk at hb
  rw [hr] at hb
  cases hb
theorem RangeR.ne {r cnt : Nat} {fs : List (Nm × Nat)} {left : Nm → Bool} (h : RangeR w m r fs left cnt) : r ≠ m := by
  obtain ⟨D, left', h1, -⟩ := h
  exact h1.ne
theorem RangeR.below {w' : World} {r cnt : Nat} {fs : List (Nm × Nat)} {left : Nm → Bool} (h : RangeR w m r fs left cnt) (hb : Below w.heap.size w w') : RangeR w' m r fs left cnt :=
  h.kept (row := none) ⟨hb.os, hb.tape, hb.output, hb.size, fun i hi _ => hb.block i hi⟩ (by simp) (by simp)
/-- Some files are as they are kept. -/
def backF (fs : List Fi) (left : Nm → Bool) : List Fi := fs.map fun f => if left f.name then f else { f with now := f.kept }
theorem backF_blk (fs : List Fi) (left : Nm → Bool) : nmOf (backF fs left) = nmOf fs := by
  unfold nmOf backF
  rw [List.map_map]
  apply List.map_congr_left
  intro x _
  show ((if left x.name then x else { x with now := x.kept }).name, (if left x.name then x else { x with now := x.kept }).blk) = _
  split <;> rfl
theorem backF_all {fs : List Fi} {left : Nm → Bool} (h : ∀ f ∈ fs, left f.name = true) : backF fs left = fs := by
  unfold backF
  have : ∀ f ∈ fs, (if left f.name then f else { f with now := f.kept }) = f := fun f hf => by rw [h f hf, if_pos rfl]
  calc fs.map _ = fs.map id := List.map_congr_left this
    _ = fs := List.map_id _
theorem backF_none {fs : List Fi} {left : Nm → Bool} (h : ∀ k, left k = false) : backF fs left = fs.map fun f => { f with now := f.kept } := by
  unfold backF
  apply List.map_congr_left
  intro f _
  rw [h, if_neg (by simp)]
theorem backF_mem {fs : List Fi} {left : Nm → Bool} {f : Fi} (hf : f ∈ fs) (hl : left f.name = true) : f ∈ backF fs left := by
  unfold backF
  exact List.mem_map.2 ⟨f, hf, by rw [hl, if_pos rfl]⟩
theorem backF_step {fs : List Fi} {left : Nm → Bool} {f : Fi} (hp : fs.Pairwise fun a b => a.name ≠ b.name) (hap : fs.Pairwise fun a b => a.blk ≠ b.blk) (hf : f ∈ fs) (hl : left f.name = true) :
    updF (backF fs left) { f with now := f.kept } = backF fs fun k => left k && k != f.name := by
  unfold updF backF
  rw [List.map_map]
  apply List.map_congr_left
  intro x hx
  have hxb : (if left x.name then x else { x with now := x.kept }).blk = x.blk := by split <;> rfl
  show (if (if left x.name then x else { x with now := x.kept }).blk = f.blk then _ else _) = (if (left x.name && x.name != f.name) = true then x else { x with now := x.kept })
  rw [hxb]
  have key : ∀ (r : Fi → Fi → Prop), (∀ a b, r a b → r b a) → ∀ l : List Fi, l.Pairwise r → x ∈ l → f ∈ l → x = f ∨ r x f := by
    intro r hs l hl hx hf
    induction l with
    | nil => cases hx
    | cons y l ih =>
      obtain ⟨h2, h3⟩ := List.pairwise_cons.1 hl
      rcases List.mem_cons.1 hx with e1 | x2
      · rcases List.mem_cons.1 hf with e2 | f2
        · exact .inl (e1.trans e2.symm)
        · rw [← e1] at h2; exact .inr (h2 f f2)
      · rcases List.mem_cons.1 hf with e2 | f2
        · rw [← e2] at h2; exact .inr (hs _ _ (h2 x x2))
        · exact ih h3 x2 f2
  by_cases he : x = f
  · subst he
    rw [if_pos rfl, if_neg (by simp)]
  · have n1 : x.name ≠ f.name := (key _ (fun a b h => Ne.symm h) fs hp hx hf).resolve_left he
    have n2 : x.blk ≠ f.blk := (key _ (fun a b h => Ne.symm h) fs hap hx hf).resolve_left he
    rw [if_neg n2, show (x.name != f.name) = true by simpa using n1, Bool.and_true]
theorem crash_nil (w : World) (A : Option Addr) (l c : Nat) : Calls Try.prog 21 #[.pointer none, .slice A l c] w fun e w' => e = .returned (.tuple #[]) ∧ w = w' := by
  go_enter Try.func21, Try.ntmps21
  go_wp2_with fail
  refine (unmade_nil _).mono ?_; rintro e w' ⟨rfl, rfl⟩
  go_wp2
  refine bodyPost_ret (results_none rfl _ _ _) rfl ?_
  exact ⟨rfl, rfl⟩
/-- Behind a crash. -/
def crashD (D : Dk) (keep : List Int) : Dk := { D with fs := (keptFs D.fs D.pend keep D.pend.length).map fun f => { f with now := f.kept }, pend := [], off := false, stops := false }
set_option maxRecDepth 100000 in
set_option maxHeartbeats 2000000 in
theorem crash_any (h : DiskR w base d m D) {A : Option Addr} {keep : List Int} {c : Nat} (hk : IntAt w base A keep) (hv : ∀ v ∈ keep, v < 9223372036854775808) (hp : D.pend.length ≤ 1000000) (hbase : base ≤ w.heap.size) :
    Calls Try.prog 21 #[ptD d, .slice A keep.length c] w fun e w' => e = .returned (.tuple #[]) ∧ DiskR w' base d m (crashD D keep) ∧ DF base m w w' := by
  have P1 := Lib.hid (unmade_any h)
  obtain ⟨pA, pc, -, -, -, c2, -, -, -, hpo⟩ := h.cells
  have H := Lib.hid h
  have HK := Lib.hid hk
  have HV := Lib.hid hv
  have HP := Lib.hid hp
  have HB := Lib.hid hbase
  have HPO := Lib.hid hpo
  clear h hk hv hp hbase hpo
  go_enter Try.func21, Try.ntmps21
  go_wp2_with fail
  refine P1.out.mono ?_; rintro e w' ⟨rfl, rfl⟩
  go_wp2_with fail
  go_loopw [15] (fun i wr => ∃ k : Nat, k ≤ D.pend.length ∧ i = .int .i64 (k : Int) ∧ DiskR wr base d m { D with fs := keptFs D.fs D.pend keep k } ∧ KF base w wr) (fun i _ => D.pend.length - (intOf i).toNat)
  case atStart => exact ⟨0, Nat.zero_le _, rfl, H.out, KF.refl _⟩
  case round =>
    obtain ⟨k, hkl, rfl, hd, hkf⟩ := hrel
    have HD := Lib.hid hd
    have HKF := Lib.hid hkf
    have HPR := Lib.hid (hkf.own HPO.out (by decide))
    have HKI := Lib.hid (HK.out.kf hkf)
    have hple := HP.out
    clear hd hkf
    by_cases hlt : k < D.pend.length
    · have hea := List.getElem?_eq_getElem hlt
      obtain ⟨p, hp⟩ : ∃ p, p = D.pend[k] := ⟨_, rfl⟩
      rw [← hp] at hea
      obtain ⟨hpi, f, hf, hfb⟩ := HD.out.own p (by rw [hp]; exact List.getElem_mem hlt)
      obtain ⟨g, cap, hv, -, -⟩ := HPR.out.form (by omega)
      injection hv with hv1 hv2 hv3
      subst hv1
      subst hv3
      have hpc : ∀ j u, (encWr p)[j]? = some u → wr.cell? ((⟨g, k * 66, none⟩ : Addr).add j) = some u := fun j u hj => by
        rw [Addr.add_lit]
        have hj66 : j < 66 := by have := (List.getElem?_eq_some_iff.1 hj).1; rwa [layWr.len] at this
        rw [HPR.out.cellAt (k * 66 + j) (by omega), RowV_get layWr D.pend k j p hea hj66]
        exact hj
      have HPC := Lib.hid hpc
      have HST := Lib.hid (keptFs_succ D.fs D.pend keep k p hea)
      have HF := Lib.hid hf
      have HFB := Lib.hid hfb
      have HPI := Lib.hid hpi
      have hiw : (Try.prog.info? 96).map (·.size) = some (encWr p).length := by rw [layWr.len]; exact info_wrS
      have HIW := Lib.hid hiw
      have HIW2 := Lib.hid (show (Try.prog.info? 96).map (·.size) = some (encWr p).toArray.size by rw [List.size_toArray]; exact hiw)
      have HAL := Lib.hid (show (encWr p).toArray.all (·.oneCell') = true by
        rw [Array.all_eq_true_iff_forall_mem]
        intro v hv
        exact layWr.one p v (by simpa using hv))
      clear hpc hea hp hf hfb hpi hiw hv2
      by_cases hkk : k < keep.length
      · have d2 : decide ((k : Int) < (keep.length : Int)) = true := by rw [decide_eq_true_eq]; omega
        go_wp2_with (first | (refine wpList_load_big rfl 96 (.tmp 18) rfl (p := ⟨g, k * 66, none⟩) rfl Try.underlying96 rfl (encWr p) HIW.out HPC.out ?_) | (refine wpList_store_new (o := ⟨none, _, _, _, _, _⟩) rfl 96 (.tmp 5) (.tmp 19) rfl rfl rfl HIW2.out ?_ HAL.out ?_))
        · exact (layWr.len p).symm
        have b1 := al_below wr (.cells (encWr p).toArray 96)
        have X1 := Blk.new wr 96 (encWr p).toArray
        have h1 := HD.out.below b1
        obtain ⟨hh, off, rfl, hhl, hci, -⟩ := HKI.out (fun e => by rw [e] at hkk; cases hkk)
        obtain ⟨v, hvv⟩ : ∃ v, v = keep[k] := ⟨_, rfl⟩
        have hcv := hci k v (by rw [hvv]; exact List.getElem?_eq_getElem hkk)
        have hv63 := HV.out v (by rw [hvv]; exact List.getElem_mem hkk)
        have hgd : keep.getD k 0 = v := by rw [List.getD_eq_getElem?_getD, List.getElem?_eq_getElem hkk, hvv]; rfl
        obtain ⟨gx, hgx⟩ : ∃ gx, gx = wr.heap.size := ⟨_, rfl⟩
        rw [← hgx] at X1 ⊢
        have KB := Lib.hid (KF.of_below (base := base) b1)
        have CV := Lib.hid ((b1.cell (p := ⟨hh, off + k, none⟩) (block_lt_of_cell hcv)).trans hcv)
        have HGD := Lib.hid hgd
        have HSB := Lib.hid (Nat.le_trans HB.out (Nat.le_trans HKF.out.size b1.size))
        have HH1 := Lib.hid h1
        have HX1 := Lib.hid (cells_big X1)
        obtain ⟨wb, hwb⟩ : ∃ wb, wb = wr.alloc (.cells (encWr p).toArray 96) := ⟨_, rfl⟩
        rw [← hwb] at KB CV HSB HH1 HX1 ⊢
        clear hwb hgx b1 X1 h1 hhl hci hcv hgd hvv
        have ik : k < keep.length := hkk
        refine wp_region_J RT [5] (n := 6) (by kernel_rfl) rfl ?_
        refine batchJ RT.refl [0, 1, 2, 3, 4] (fuel := 1) rfl (by kernel_rfl) (by kernel_rfl) (fun _ _ d _ _ h => by cases d <;> exact h) ?_
        (repeat (first | ((with_reducible apply wq0); rfl; rfl; rfl; intro K hK; go_big_quiet_op; refine hK _ ?_; clear hK K) | ((with_reducible apply wq1); rfl; rfl; rfl; rfl; rfl; rfl; intro K hK; go_big_quiet_op; refine hK _ ?_; clear hK K) | ((with_reducible apply wqs); rfl; rfl; rfl; rfl; rfl; rfl; simp only [Act.put, List.setIfInBounds_toArray, List.set_cons_zero, List.set_cons_succ]) | ((with_reducible apply wqu); rfl; rfl; rfl; rfl; rfl; (first | simp only [same, Act.put, List.setIfInBounds_toArray, List.set_cons_zero, List.set_cons_succ] | simp only [Act.put, List.setIfInBounds_toArray, List.set_cons_zero, List.set_cons_succ]))))
        refine wqIdx_load rfl rfl rfl rfl (fun W hW => run_load_big Try.underlying96 rfl _ (encWr p) HIW.out (fun j v hj => keep_c hW (HX1.out j v hj))) ?_
        simp only [Act.put, List.setIfInBounds_toArray, List.set_cons_zero, List.set_cons_succ]
        (repeat (first | ((with_reducible apply wq0); rfl; rfl; rfl; intro K hK; go_big_quiet_op; refine hK _ ?_; clear hK K) | ((with_reducible apply wq1); rfl; rfl; rfl; rfl; rfl; rfl; intro K hK; go_big_quiet_op; refine hK _ ?_; clear hK K) | ((with_reducible apply wqs); rfl; rfl; rfl; rfl; rfl; rfl; simp only [Act.put, List.setIfInBounds_toArray, List.set_cons_zero, List.set_cons_succ]) | ((with_reducible apply wqu); rfl; rfl; rfl; rfl; rfl; (first | simp only [same, Act.put, List.setIfInBounds_toArray, List.set_cons_zero, List.set_cons_succ] | simp only [Act.put, List.setIfInBounds_toArray, List.set_cons_zero, List.set_cons_succ]))))
        refine wqIdx_load rfl rfl rfl rfl (fun W hW => run_load1 (fun _ => by kernel_rfl) (keep_c hW (CV.out))) ?_; simp only [Act.put, List.setIfInBounds_toArray, List.set_cons_zero, List.set_cons_succ]
        refine wqIdx_nil ?_
        refine wpAnyJ_sole (i := 5) rfl (by kernel_rfl) (fun K hK => ?_); go_simp
        by_cases hpos : 0 < v
        · obtain ⟨n, rfl⟩ : ∃ n : Nat, v = (n : Int) := ⟨v.toNat, by omega⟩
          refine (keep_yes HH1.out.drew (f := f) HF.out p HFB.out.symm HPI.out n (by omega) (by omega) HSB.out).mono ?_
          rintro e w2 ⟨rfl, h2, k2⟩
          refine hK _ _ ⟨fun hc => absurd (List.mem_singleton.2 rfl) hc, trivial⟩ ?_
          clear hK K
          have hs2 : stepC keep (keptFs D.fs D.pend keep k) (p, k) = updF (keptFs D.fs D.pend keep k) (keepF f p n) := by
            unfold stepC
            rw [if_pos ⟨hkk, by rw [HGD.out]; exact hpos⟩, HGD.out, ← HFB.out, findB_mem HH1.out.apart HF.out]
            rfl
          have H2 := Lib.hid h2
          have K2 := Lib.hid k2
          have HS2 := Lib.hid hs2
          clear h2 k2 hs2
          refine wpAnyJ_done (by kernel_rfl) ?_ _
          go_wp2
          refine ⟨⟨k + 1, by omega, by go_num, ?_, HKF.out.trans (KB.out.trans ((KF.drew (KF.refl wb)).trans K2.out))⟩, by simp [intOf]; omega⟩
          rw [HST.out, HS2.out]
          exact H2.out
        · refine (keep_no p v _ (by omega)).mono ?_
          rintro e w2 ⟨rfl, b2⟩
          refine hK _ _ ⟨fun hc => absurd (List.mem_singleton.2 rfl) hc, trivial⟩ ?_
          clear hK K
          have hs2 : stepC keep (keptFs D.fs D.pend keep k) (p, k) = keptFs D.fs D.pend keep k := by
            unfold stepC
            rw [if_neg (by rw [HGD.out]; exact fun h => hpos h.2)]
          have B2 := Lib.hid b2
          have HS2 := Lib.hid hs2
          clear b2 hs2
          refine wpAnyJ_done (by kernel_rfl) ?_ _
          go_wp2
          refine ⟨⟨k + 1, by omega, by go_num, ?_, HKF.out.trans (KB.out.trans ((KF.drew (KF.refl wb)).trans (KF.of_below B2.out)))⟩, by simp [intOf]; omega⟩
          rw [HST.out, HS2.out]
          exact HH1.out.drew.below B2.out
      · have d2 : decide ((k : Int) < (keep.length : Int)) = false := by rw [decide_eq_false_iff_not]; omega
        go_wp2_with (first | (refine wpList_load_big rfl 96 (.tmp 18) rfl (p := ⟨g, k * 66, none⟩) rfl Try.underlying96 rfl (encWr p) HIW.out HPC.out ?_) | (refine wpList_store_new (o := ⟨none, _, _, _, _, _⟩) rfl 96 (.tmp 5) (.tmp 19) rfl rfl rfl HIW2.out ?_ HAL.out ?_))
        · exact (layWr.len p).symm
        have b1 := al_below wr (.cells (encWr p).toArray 96)
        refine ⟨⟨k + 1, by omega, by go_num, ?_, HKF.out.trans (KF.of_below b1)⟩, by simp [intOf]; omega⟩
        rw [HST.out]
        unfold stepC
        rw [if_neg (fun h => hkk h.1)]
        exact HD.out.below b1
    · obtain rfl : k = D.pend.length := by omega
      obtain ⟨wl, rfl⟩ : ∃ wl : World, wl = wr := ⟨_, rfl⟩
      obtain ⟨pA2, pc2, -, -, c1, -⟩ := HD.out.cells
      have HM := Lib.hid HD.out.map
      generalize hfs : keptFs D.fs D.pend keep D.pend.length = fs1 at HD HM
      have HFS := Lib.hid hfs
      have HBL := Lib.hid (Nat.le_trans HB.out HKF.out.size)
      clear hfs hkl hlt c2 hple
      go_wp2_with (at_range; refine wpList_rangeR rfl (.tmp 34) rfl rfl HM.out ?_; intro w0 hr0 hg0 hs0; have R0 := Lib.hid hr0; have G0 := Lib.hid (grown_below hg0); clear hr0 hg0 hs0)
      clear c1
      obtain ⟨r, hr⟩ : ∃ r, r = wl.heap.size := ⟨_, rfl⟩
      rw [← hr] at R0 ⊢
      have HR := Lib.hid hr
      clear hr
      go_loopw [7] (fun _ w2 => ∃ (left : Nm → Bool) (cnt : Nat), RangeR w2 m r (nmOf fs1) left cnt ∧ DiskR w2 base d m { D with fs := backF fs1 left } ∧ DF base m wl w2) (fun _ w2 => w2.rangeLeft m r)
      case atStart => exact ⟨_, _, R0.out, by rw [backF_all fun f hf => by { rw [lookO_mem R0.out.mapR.pw (b := f.blk) (by unfold nmOf; exact List.mem_map.2 ⟨f, hf, rfl⟩)]; rfl }]; exact HD.out.below G0.out, DF.of_below G0.out⟩
      case round =>
        obtain ⟨left, cnt, hr, hd, hdf⟩ := hrel
        have HRr := Lib.hid hr
        have HDr := Lib.hid hd
        have HFr := Lib.hid hdf
        clear hr hd hdf
        go_wp2_with (at_next; refine wpList_nextR rfl (.tmp 35) rfl rfl HRr.out ?_ ?_)
        · intro hc0 hl0
          have e1 := backF_none (fs := fs1) hl0
          have hd := HDr.out
          rw [e1] at hd
          have hrs := hd.reset
          obtain ⟨pA3, pc3, htb, -⟩ := hd.top
          have k2 := htb.cell 2
          have k3 := htb.cell 3
          have k4 := htb.cell 4
          have z2 := htb.frozen 2
          have z3 := htb.frozen 3
          have z4 := htb.frozen 4
          have HRS := Lib.hid hrs
          clear hd hrs htb e1 hc0 hl0
          go_wp2
          go_end0
          refine ⟨rfl, ?_, (HKF.out.df).trans (HFr.out.trans HRS.out.2)⟩
          have h1 := HRS.out.1
          unfold crashD
          rw [HFS.out]
          exact h1
        · intro key b w3 cnt' hkb hlk hr1 hlt hg1 hs1 hen
          obtain ⟨f, hf, rfl, rfl⟩ := lookO_inv hkb
          have hfm := backF_mem (fs := fs1) hf hlk
          have h3 := HDr.out.other hg1 HRr.out.no_blk HRr.out.ne
          have hdf3 := HFr.out.other hg1 (by rw [HR.out]; exact Nat.le_refl _)
          obtain ⟨nA, nc, kA, kc, -, -, -, f1, f2, -, hkr⟩ := h3.file hfm
          have hsm := h3.small f hfm
          have P3 := Lib.hid (cloneSec_any (w := w3) hkr (by have := hsm.2.1; omega))
          have HST := Lib.hid (backF_step (left := left) HD.out.pwn HD.out.apart hf hlk)
          have H3 := Lib.hid h3
          have HF3 := Lib.hid hdf3
          have R1 := Lib.hid hr1
          have HFM := Lib.hid hfm
          have HSM := Lib.hid hsm
          have HS3 := Lib.hid (show base ≤ w3.heap.size from Nat.le_trans HBL.out (Nat.le_trans HFr.out.size (by rw [hs1]; exact Nat.le_refl _)))
          have HM1 := Lib.hid (show w3.rangeLeft m r < wr.rangeLeft m r by rw [hr1.left_eq, HRr.out.left_eq]; exact hlt)
          clear hkr hsm h3 hdf3 hr1 hlt hg1 hs1 hkb f1 hlk hfm
          go_wp2_with fail
          refine P3.out.mono ?_; rintro e w4 ⟨A4, c4, rfl, o4, b4⟩
          have B4 := Lib.hid b4
          have O4 := Lib.hid o4
          obtain ⟨role, hro⟩ := H3.out.files
          obtain ⟨nA', nc', kA', kc', hbf, -⟩ := hro f HFM.out
          have hb4 := hbf.below b4 hbf.lt
          have k4 := hb4.cell 1
          have z4 := hb4.frozen 1
          have HBF := Lib.hid hb4
          clear b4 o4 hbf hb4 hro f2 hen
          go_wp2
          have hsn := H3.out.setNow HFM.out B4.out O4.out (by have := HSM.out.2.1; omega) HS3.out
          rw [HST.out] at hsn
          have hr4 := (R1.out.below B4.out).kept (gr_set w4 f.blk 1 (.slice A4 f.kept.length c4)) (fun e => by injection e with e; exact map_ne_blk (R1.out.below B4.out).mapR HBF.out e.symm) (fun e => by injection e with e; exact (R1.out.below B4.out).no_blk ⟨_, _, e ▸ HBF.out⟩)
          refine ⟨⟨_, cnt', hr4, hsn.1, HF3.out.trans (hsn.2.df)⟩, ?_⟩
          rw [hr4.left_eq, ← R1.out.left_eq]
          exact HM1.out
end
end Go.Proofs.Ytfmmdnjoichifaa
