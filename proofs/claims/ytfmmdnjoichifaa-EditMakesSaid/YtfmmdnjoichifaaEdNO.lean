/- Parts of the proofs about edit, joined. -/
import Derived.Test.YtfmmdnjoichifaaEdIL
import Derived.Test.YtfmmdnjoichifaaShelfI
namespace Go.Proofs.Ytfmmdnjoichifaa
open Go.RowKit Go.Maps Go.Sort Go.Shelf

/-- slices.Sort's two contracts. -/
theorem sortsN (m : Nat) : AnyZ.SortsIn Try.prog Try.sortedI_ren Fence.wide m :=
  ⟨fun blk off cap ss W hH hblk hsz => callsIn_wide.2 (AnyM.slices_Sort_string Try.sortI blk off cap ss W hH hblk hsz),
   fun p cap W => callsIn_wide.2 (AnyM.slices_Sort_string_none Try.sortI p cap W)⟩
theorem keysN (mb : Option Nat) (W : World) : Calls Try.prog 91 #[.map mb] W fun e w' => e = .returned (.func (.func 115) #[] #[.pointer (some ⟨W.heap.size, 0, none⟩)]) ∧ w' = W.alloc (.cells #[.map mb] 135) :=
  (callsIn_wide (n := 5)).1 (AnyZ.keys_in Try.keysI Fence.wide 5 trivial rfl mb W)
set_option maxHeartbeats 1000000 in
theorem sortedN {H : Type} (b nn : Nat) (D0 : DataW H) (R : Value → Option (DataW H × List MemPlace)) (w : World) (hown : w.ownsMap Try.prog 9 R b nn D0) (hmax : Maps.size D0 ≤ maxLen) (hbytes : Maps.size D0 * 16 ≤ 140737488355328) :
    Calls Try.prog 90 #[.func (.func 115) #[] #[.pointer (some ⟨w.heap.size, 0, none⟩)]] (w.alloc (.cells #[.map (some b)] 135)) fun e w' => ∃ (v : Value) (ss : List (List UInt8)), e = .returned v ∧ ss.Perm (strKeys D0) ∧
      w'.ownsRow (w.alloc (.cells #[.map (some b)] 135)).heap.size 9 1 v ss.length ((ss.mergeSort (fun x y => decide (x ≤ y))).map encStr) ∧ (v = .slice none 0 0 ↔ ss = []) ∧ Below (w.alloc (.cells #[.map (some b)] 135)).heap.size (w.alloc (.cells #[.map (some b)] 135)) w' := by
  have hbl := hown.lt
  have hseq : SeqGives Fence.wide 2 Try.prog 115 #[.pointer (some ⟨w.heap.size, 0, none⟩)] encStr (fun ss => ss.Perm (strKeys D0)) (Maps.size D0) (w.alloc (.cells #[.map (some b)] 135)) :=
    AnyZ.keys_gives (ρ := Try.keysI_ren) { Try.keysI with } Fence.wide _ trivial rfl (by omega) w.heap.size b nn D0 _ (by simp) (by simp) (by
      obtain ⟨es, clock, hb, Ft, hs, hD⟩ := hown
      exact ⟨es, clock, (Below.heap_alloc _ _ b hbl).trans hb, Ft, hs, hD⟩)
  exact (callsIn_wide (n := 5)).1 (AnyZ.sorted_in Try.sortedI Fence.wide 5 trivial trivial trivial trivial rfl (by omega) (sortsN _) (enters_of Try.func114 (by kernel_rfl) rfl) 115 #[.pointer (some ⟨w.heap.size, 0, none⟩)] trivial (enters_of Try.func115 (by kernel_rfl) rfl) _ _ hmax hbytes _ hseq)
def intR : Value → Option (DataW Unit × List MemPlace)
  | .int .i64 n => some (.lit (.int .i64 n), [])
  | _ => none
theorem intR_inv {v : Value} {z : DataW Unit × List MemPlace} (h : intR v = some z) : ∃ n, v = .int .i64 n := by
  unfold intR at h
  split at h
  · exact ⟨_, rfl⟩
  · cases h
def insK (ks : List Nm) (k : Nm) : List Nm := if k ∈ ks then ks else ks ++ [k]
/-- Block m is a map of which these are the keys. -/
def SetR (w : World) (m : Nat) (ks : List Nm) : Prop :=
  ∃ D : DataW Unit, w.ownsMap Try.prog 9 intR m (Maps.size D) D ∧ (∀ key, Maps.has D (.string key) = decide (key ∈ ks)) ∧ ks.Nodup ∧ Maps.size D = ks.length
theorem zeroInt64 (w : World) : (zeroValue 3).run Try.prog w = .ok (.int .i64 0) w := by kernel_rfl
theorem ownsMap_tight2 {k : TypeId} {R : Value → Option (DataW Unit × List MemPlace)} {w : World} {b n : Nat} {D : DataW Unit} (h : w.ownsMap Try.prog k R b n D) : w.ownsMap Try.prog k R b (Maps.size D) D := by
  obtain ⟨es, clock, hb, F, hs, rfl⟩ := h
  exact ⟨es, clock, hb, F, by simp [Maps.size, length_sorted], rfl⟩
section
variable {w w' : World} {m : Nat} {ks : List Nm}
theorem SetR.lt (h : SetR w m ks) : m < w.heap.size := by obtain ⟨D, h, -⟩ := h; exact h.lt
theorem SetR.same (h : SetR w m ks) (hh : w'.heap[m]? = w.heap[m]?) : SetR w' m ks := by
  obtain ⟨D, ⟨es, clock, hb, F, hs, hD⟩, r⟩ := h
  exact ⟨D, ⟨es, clock, hh.trans hb, F, hs, hD⟩, r⟩
theorem SetR.below (h : SetR w m ks) (hb : Below w.heap.size w w') : SetR w' m ks := h.same (hb.block m h.lt)
theorem SetR.isMap (h : SetR w m ks) : ∃ es clock, w.heap[m]? = some (.map es clock) := by
  obtain ⟨D, ⟨es, clock, hb, -⟩, -⟩ := h; exact ⟨es, clock, hb⟩
theorem SetR.made (w : World) : SetR (w.alloc (.map #[] 0)) w.heap.size [] :=
  ⟨.map [], World.ownsMap_made _ _ _ _, fun _ => rfl, List.nodup_nil, rfl⟩
set_option maxRecDepth 100000 in
theorem SetR.bump (h : SetR w m ks) (key : Nm) (hk : key.length ≤ maxLen) (hl : ks.length < 100000000) :
    ∃ n : Int, (Instr.lookup 135 (.map (some m)) (strV key) false).run Try.prog w = .ok (.int .i64 n) w ∧
      ∀ v : Int, ∃ w', (Instr.mapUpdate 135 (.map (some m)) (strV key) (.int .i64 v)).run Try.prog w = .ok () w' ∧ SetR w' m (insK ks key) ∧ w.grownBy w' (some m) := by
  obtain ⟨D, ho, hh, hnd, hs⟩ := h
  obtain ⟨v, ps, hrun, hv⟩ := ho.lookup strK Try.underlying135 (zeroInt64 w) (show intR (.int .i64 0) = some (.lit (.int .i64 0), []) from rfl) (strKey key hk)
  obtain ⟨n, rfl⟩ := intR_inv hv
  refine ⟨n, hrun, fun v => ?_⟩
  obtain ⟨w', hrun', ho', hg⟩ := ho.update strK Try.underlying135 (by unfold maxLen; omega) (strKey key hk) (show intR (.int .i64 v) = some (.lit (.int .i64 v), []) from rfl)
  have hm := ho.isMap
  refine ⟨w', hrun', ⟨_, ownsMap_tight2 ho', fun k => ?_, ?_, ?_⟩, hg⟩
  · by_cases e : k = key
    · subst e
      rw [has_put_same hm (strK.key (strKey k hk))]
      symm
      rw [decide_eq_true_eq]
      unfold insK
      split
      · assumption
      · exact List.mem_append_right _ (List.mem_singleton.2 rfl)
    · rw [has_put_other (str_ne e), hh]
      congr 1
      unfold insK
      split
      · rfl
      · rw [List.mem_append, List.mem_singleton]
        exact propext ⟨.inl, fun h => h.resolve_right e⟩
  · unfold insK
    split
    · exact hnd
    · rename_i hn
      rw [List.nodup_append]
      exact ⟨hnd, by simp, fun a ha b hb e => hn (by rw [← List.mem_singleton.1 hb, ← e]; exact ha)⟩
  · rw [size_put (ho.tidy strK), hh, hs]
    unfold insK
    by_cases hin : key ∈ ks
    · rw [if_pos hin, decide_eq_true hin]
      simp
    · rw [if_neg hin, decide_eq_false hin]
      simp
theorem SetR.perm (h : SetR w m ks) : ∃ D : DataW Unit, w.ownsMap Try.prog 9 intR m (Maps.size D) D ∧ Maps.size D = ks.length ∧ ks.Perm (strKeys D) := by
  obtain ⟨D, hown, hh, hnd, hs⟩ := h
  refine ⟨D, hown, hs, ?_⟩
  obtain ⟨es, hD, hpw, _⟩ := hown.entries strK
  obtain ⟨es', hD', hko⟩ := hown.keysOf
  obtain rfl : es = es' := by rw [hD] at hD'; simpa using hD'
  subst hD
  exact perm_strKeys hpw (fun p hp => by obtain ⟨v, hv⟩ := hko p hp; obtain ⟨x, _, hx, _⟩ := Maps.keyOf_str Try.underlying9 hv; exact ⟨x, hx⟩) hnd fun x => by rw [hh x, decide_eq_true_eq]
end
/-- Names in order. -/
def srtK (ks : List Nm) : List Nm := ks.mergeSort fun x y => decide (x ≤ y)
theorem srtK_perm {a b : List Nm} (h : a.Perm b) : srtK a = srtK b := by
  unfold srtK
  have tr : ∀ a b c : Nm, decide (a ≤ b) = true → decide (b ≤ c) = true → decide (a ≤ c) = true := fun a b c h1 h2 => by
    rw [decide_eq_true_eq] at *
    exact List.le_trans h1 h2
  have to : ∀ a b : Nm, (decide (a ≤ b) || decide (b ≤ a)) = true := fun a b => by
    rw [Bool.or_eq_true, decide_eq_true_eq, decide_eq_true_eq]
    exact List.le_total a b
  refine List.Perm.eq_of_pairwise (le := fun x y => decide (x ≤ y) = true) (fun x y _ _ h1 h2 => ?_) (List.pairwise_mergeSort tr to a) (List.pairwise_mergeSort tr to b) (((List.mergeSort_perm a _).trans h).trans (List.mergeSort_perm b _).symm)
  rw [decide_eq_true_eq] at h1 h2
  exact List.le_antisymm h1 h2
end Go.Proofs.Ytfmmdnjoichifaa

namespace Go.Proofs.Ytfmmdnjoichifaa
open Go.RowKit Go.Maps Go.Sort

def rfNs (l : List Rf) : List Nm := l.map fun r => strL r.name
def edNs (l : List Ed) : List Nm := l.flatMap fun e => rfNs e.refs
def notedN (l : List Nm) : List Nm := l.foldl insK []
def St.names (S : St) : List Nm := srtK (notedN (edNs S.edits))
theorem notedN_snoc (l : List Nm) (k : Nm) : notedN (l ++ [k]) = insK (notedN l) k := by unfold notedN; rw [List.foldl_append]; rfl
theorem insK_len (ks : List Nm) (k : Nm) : (insK ks k).length ≤ ks.length + 1 := by
  unfold insK
  split
  · omega
  · rw [List.length_append]; exact Nat.le_refl _
theorem notedN_len (l : List Nm) : (notedN l).length ≤ l.length := by
  unfold notedN
  have : ∀ (l : List Nm) (a : List Nm), (l.foldl insK a).length ≤ a.length + l.length := by
    intro l
    induction l with
    | nil => intro a; exact Nat.le_refl _
    | cons x l ih =>
      intro a
      rw [List.foldl_cons, List.length_cons]
      have := ih (insK a x)
      have := insK_len a x
      omega
  have := this l []
  simpa using this
theorem edNs_len (l : List Ed) (h : ∀ e ∈ l, e.refs.length ≤ 256) : (edNs l).length ≤ 256 * l.length := by
  induction l with
  | nil => exact Nat.le_refl _
  | cons e l ih =>
    have h1 := ih fun e he => h e (List.mem_cons_of_mem _ he)
    have h2 := h e (List.mem_cons_self ..)
    unfold edNs at h1 ⊢
    rw [List.flatMap_cons, List.length_append, List.length_cons]
    have : (rfNs e.refs).length = e.refs.length := by unfold rfNs; rw [List.length_map]
    omega
theorem strV_L (s : ByteArray) : strV (strL s) = .string s := by
  unfold strV strL
  rw [Array.toArray_toList]
theorem RfAt.mapped {w w' : World} {base m : Nat} {A : Option Addr} {l : List Rf} {ks : List Nm} (h : RfAt w base A l) (hs : SetR w m ks) (hm : base ≤ m) (hg : w.grownBy w' (some m)) : RfAt w' base A l :=
  h.keep hg.size fun k hk ho => hg.block k hk fun e => by
    injection e with e
    subst e
    rcases ho with ho | ⟨cs, fr, ho⟩
    · omega
    · obtain ⟨es, clock, hm'⟩ := hs.isMap
      rw [hm'] at ho
      cases ho
theorem EdRow.mapped {w w' : World} {base m : Nat} {xs : List EdX} {es : List Ed} {ks : List Nm} (h : EdRow w base xs es) (hs : SetR w m ks) (hm : base ≤ m) (hg : w.grownBy w' (some m)) : EdRow w' base xs es :=
  ⟨h.1, fun i e he => by obtain ⟨A, c, h1, h2⟩ := h.2 i e he; exact ⟨A, c, h1, h2.mapped hs hm hg⟩⟩
theorem own_mapped {w w' : World} {base e size n m : Nat} {v : Value} {xs : List Value} {ks : List Nm} (h : w.ownsRow base e size v n xs) (hs : SetR w m ks) (hg : w.grownBy w' (some m)) : w'.ownsRow base e size v n xs :=
  h.kept hg (by
    rcases hv : v.ownBlock with _ | k
    · exact .inl rfl
    · refine .inr fun e => ?_
      injection e with e
      subst e
      obtain ⟨-, cur, hc⟩ := own_cur h hv
      obtain ⟨es, clock, hm'⟩ := hs.isMap
      unfold Blk at hc
      rw [hm'] at hc
      cases hc)
theorem Blk.mapped {w w' : World} {g m : Nat} {t : TypeId} {cs : Array Value} {ks : List Nm} (h : Blk w g t cs) (hs : SetR w m ks) (hg : w.grownBy w' (some m)) : Blk w' g t cs :=
  h.grown hg fun e => by
    injection e with e
    subst e
    obtain ⟨es, clock, hm'⟩ := hs.isMap
    unfold Blk at h
    rw [hm'] at h
    cases h
theorem wpList_bump {w : World} {m : Nat} {ks : List Nm} {ops : Array Oper} {rest : List Oper} {o : Oper} {a : Act} {Q : Exit → Act → World → Prop} (hgd : o.guard = none) (x y z : Operand) (ho : o.op = .mapUpdate 135 x y z) (hm : SetR w m ks) {key : Nm} (hk : key.length ≤ maxLen) (hl : ks.length < 100000000) (v : Int)
    (hx : a.eval x = .map (some m)) (hy : a.eval y = strV key) (hz : a.eval z = .int .i64 v) (h : ∀ w', SetR w' m (insK ks key) → w.grownBy w' (some m) → wpList Try.prog ops Q rest (a.put o.dst undef) w') : wpList Try.prog ops Q (o :: rest) a w := by
  obtain ⟨n, -, hr⟩ := hm.bump key hk hl
  obtain ⟨w', hrun, h1, h2⟩ := hr v
  refine wpList_plain hgd fun _ hK => ?_
  unfold Oper.wp execOp
  simp only [ho, hx, hy, hz, Sem.run_bind, hrun, Result.andThen_ok, Sem.run_pure]
  exact hK _ _ (h w' h1 h2)
/-- A new row of names. -/
def NamesAns (w : World) (l : List Nm) (x : Ending) (w' : World) : Prop := ∃ v, x = .returned v ∧ w'.ownsRow w.heap.size 9 1 v l.length (l.map encStr) ∧ Below w.heap.size w w'
set_option maxRecDepth 100000 in
set_option maxHeartbeats 4000000 in
theorem st_names {w : World} {base g : Nat} {hb : Option Nat} {S : St} (h : StR 133 w base g hb S) : Calls Try.prog 41 #[.pointer (some ⟨g, 0, none⟩)] w (NamesAns w S.names) := by
  have HM := Lib.hid (SetR.made w)
  have b0 := alloc_below w (.map #[] 0)
  have B0 := Lib.hid b0
  have PE := Lib.hid (st_edits (h.below b0))
  have hall : ∀ e ∈ S.edits, okEd e = true := fun e he => by
    unfold St.edits at he
    rcases List.mem_append.1 he with he | he
    · exact h.good.1 e he
    · exact h.good.2.1 e (by simpa using he)
  have HALL := Lib.hid hall
  have hlen : S.edits.length ≤ 65537 := by
    unfold St.edits
    rw [List.length_append]
    have := h.good.2.2
    have : S.mark.toList.length ≤ 1 := by cases S.mark <;> simp
    omega
  have HNM := Lib.hid (show S.names = srtK (notedN (edNs S.edits)) from rfl)
  rw [HNM.out]
  have hn1 : (edNs S.edits).length ≤ 16777472 := by
    have := edNs_len S.edits fun e he => okEd_len (hall e he)
    omega
  generalize S.edits = es at *
  clear h b0 hall HNM
  have hmk : (Instr.makeMap 135 none).run Try.prog w = .ok (.map (some w.heap.size)) (w.alloc (.map #[] 0)) := by kernel_rfl
  go_enter Try.func41, Try.ntmps41
  go_wp2_with fail
  refine PE.out.mono ?_; rintro x w2 ⟨A, c, xs, rfl, ho, hx, b2⟩
  have hsz2 := b2.size
  rw [World.size_alloc] at ho hsz2
  have O2 := Lib.hid ho
  have X2 := Lib.hid hx
  have M2 := Lib.hid (HM.out.below b2)
  have B2 := Lib.hid (below_trans B0.out b2)
  clear ho hx b2 PE B0 HM
  go_wp2_with fail
  go_loopw [12] (fun i wr => ∃ k : Nat, k ≤ es.length ∧ i = .int .i64 (k : Int) ∧ SetR wr w.heap.size (notedN (edNs (es.take k))) ∧ wr.ownsRow (w.heap.size + 1) 50 4 (.slice A es.length c) es.length (RowV encX xs) ∧ EdRow wr 0 xs es ∧ Below w.heap.size w wr) (fun i _ => es.length - (intOf i).toNat)
  case atStart => exact ⟨0, Nat.zero_le _, rfl, M2.out, O2.out, X2.out, B2.out⟩
  case round =>
    obtain ⟨k, hk, rfl, hm, ho, hx, hb⟩ := hrel
    have M := Lib.hid hm
    have O := Lib.hid ho
    have X := Lib.hid hx
    have B := Lib.hid hb
    clear hm ho hx hb
    by_cases hlt : k < es.length
    · have hea := List.getElem?_eq_getElem hlt
      obtain ⟨e, he⟩ : ∃ e, e = es[k] := ⟨_, rfl⟩
      rw [← he] at hea
      obtain ⟨eA, ec, hxk, hr⟩ := X.out.2 k e hea
      have HR := Lib.hid hr
      have htk := Lib.hid (show edNs (es.take (k + 1)) = edNs (es.take k) ++ rfNs e.refs by
        unfold edNs
        rw [List.take_add_one, hea, List.flatMap_append]
        simp)
      have hoke := okEd_len (HALL.out e (List.mem_of_getElem? hea))
      have hall := Lib.hid (((okEd_iff e).1 (HALL.out e (List.mem_of_getElem? hea))).2.2.2.2)
      obtain ⟨q, cap, hv, -, hql⟩ := O.out.form (by omega)
      injection hv with hv1 hv2 hv3
      subst hv1
      subst hv3
      have hc : ∀ j u, (encX (xOf e eA ec))[j]? = some u → wr.cell? ⟨q, k * 4 + j, none⟩ = some u := fun j u hu => by
        have hj : j < 4 := by have := (List.getElem?_eq_some_iff.1 hu).1; rwa [layX.len] at this
        have := O.out.cellAt (k * 4 + j) (by omega)
        rw [this, RowV_get layX xs k j _ hxk hj]
        exact hu
      have q0 := hc 0 _ rfl
      have q1 := hc 1 _ rfl
      have q2 := hc 2 _ rfl
      have q3 := hc 3 _ rfl
      simp only [xOf, Nat.add_zero] at q0 q1 q2 q3
      have hlen1 : (edNs (es.take k)).length ≤ 256 * k := by
        have := edNs_len (es.take k) fun e he => okEd_len (HALL.out e (List.mem_of_mem_take he))
        rw [List.length_take] at this
        omega
      have ba := alloc_below wr (.cells (edCs e eA ec) 50)
      have M1 := Lib.hid (M.out.below ba)
      have O1 := Lib.hid (own_below O.out ba)
      have X1 := Lib.hid (X.out.below ba)
      have HR1 := Lib.hid (HR.out.below ba)
      have B1 := Lib.hid (B.out.trans (ba.mono B.out.size))
      have E1 := Lib.hid (Blk.new wr 50 (edCs e eA ec))
      have HLT := Lib.hid hlt
      clear hea he hc hr ba
      obtain ⟨ke, epe, rde, re⟩ := e
      unfold edCs at *
      simp only at *
      go_wp2_with fail
      clear q0 q1 q2 q3 hlt
      rename World => wo
      go_loopw [19] (fun i wr => ∃ j : Nat, j ≤ re.length ∧ i = .int .i64 (j : Int) ∧ SetR wr w.heap.size (notedN (edNs (es.take k) ++ rfNs (re.take j))) ∧ wr.ownsRow (w.heap.size + 1) 50 4 (.slice (some ⟨q, 0, none⟩) es.length c) es.length (RowV encX xs) ∧ EdRow wr 0 xs es ∧ RfAt wr 0 eA re ∧ Below w.heap.size w wr) (fun i _ => re.length - (intOf i).toNat)
      case atStart => exact ⟨0, Nat.zero_le _, rfl, by rw [show rfNs (re.take 0) = [] from rfl, List.append_nil]; exact M1.out, O1.out, X1.out, HR1.out, B1.out⟩
      case round =>
        obtain ⟨j, hj, rfl, hm, ho, hx, hr, hb⟩ := hrel
        have N := Lib.hid hm
        have P := Lib.hid ho
        have Y := Lib.hid hx
        have V := Lib.hid hr
        have C := Lib.hid hb
        clear hm ho hx hr hb
        by_cases hlt : j < re.length
        · have hea := List.getElem?_eq_getElem hlt
          obtain ⟨p, hp⟩ : ∃ p, p = re[j] := ⟨_, rfl⟩
          rw [← hp] at hea
          obtain ⟨h, off, rfl, -, hc⟩ := V.out.at_ hea
          have hokp := (List.all_eq_true.1 hall.out) p (List.mem_of_getElem? hea)
          obtain ⟨⟨n1, n2⟩, -⟩ := (okRf_iff p).1 hokp
          have htk2 := Lib.hid (show rfNs (re.take (j + 1)) = rfNs (re.take j) ++ [strL p.name] by
            unfold rfNs
            rw [List.take_add_one, hea, List.map_append]
            rfl)
          have r0 := hc 0 _ rfl
          have r1 := hc 1 _ rfl
          have r2 := hc 2 _ rfl
          rw [Nat.add_zero] at r0
          obtain ⟨s, b, n⟩ := p
          simp only at n1 n2 htk2
          have ba := alloc_below wr (.cells #[.string s, .int .i64 b, .int .i64 n] 110)
          have N1 := Lib.hid (N.out.below ba)
          have P1 := Lib.hid (own_below P.out ba)
          have Y1 := Lib.hid (Y.out.below ba)
          have V1 := Lib.hid (V.out.below ba)
          have C1 := Lib.hid (C.out.trans (ba.mono C.out.size))
          have hkl : (strL s).length ≤ maxLen := by rw [strL_length]; unfold maxLen; omega
          have hsl : (notedN (edNs (es.take k) ++ rfNs (re.take j))).length < 100000000 := by
            have h1 := notedN_len (edNs (es.take k) ++ rfNs (re.take j))
            rw [List.length_append] at h1
            have h2 : (rfNs (re.take j)).length ≤ 256 := by unfold rfNs; rw [List.length_map, List.length_take]; omega
            omega
          obtain ⟨nv, hlk, -⟩ := N1.out.bump (strL s) hkl hsl
          rw [strV_L] at hlk
          clear hea hp hc hokp ba
          go_wp2_with (refine wpList_bump rfl (.tmp 23) (.tmp 25) (.tmp 27) rfl N1.out (key := strL s) hkl hsl _ rfl (strV_L s).symm rfl ?_; intro w6 m6 g6; have M6 := Lib.hid m6; have G6 := Lib.hid g6; clear m6 g6)
          have m6 := M6.out
          rw [← notedN_snoc, List.append_assoc, ← htk2.out] at m6
          have M7 := Lib.hid m6
          have BC := Lib.hid (C1.out.grown G6.out C1.out.size fun i hi => by injection hi with hi; omega)
          clear m6
          exact ⟨⟨j + 1, by omega, by go_num, M7.out, own_mapped P1.out N1.out G6.out, Y1.out.mapped N1.out (Nat.zero_le _) G6.out, V1.out.mapped N1.out (Nat.zero_le _) G6.out, BC.out⟩, by simp only [intOf]; omega⟩
        · obtain rfl : j = re.length := by omega
          have hm := N.out
          rw [List.take_length, ← htk.out] at hm
          have N2 := Lib.hid hm
          have hlt2 := HLT.out
          clear hm hlt hj
          go_wp2
          exact ⟨⟨k + 1, by omega, by go_num, N2.out, P.out, Y.out, C.out⟩, by simp only [intOf]; omega⟩
    · obtain rfl : k = es.length := by omega
      have hm := M.out
      rw [List.take_length] at hm
      obtain ⟨D, hown, hds, hpm⟩ := hm.perm
      have hnl := notedN_len (edNs es)
      have PK := Lib.hid (keysN (some w.heap.size) wr)
      have PS := Lib.hid (sortedN w.heap.size _ D intR wr hown (by unfold maxLen; omega) (by omega))
      have HPM := Lib.hid hpm
      clear hm hown hds hpm hlt hk hnl
      go_wp2_with fail
      refine PK.out.mono ?_; rintro x w3 ⟨rfl, rfl⟩
      go_wp2_with fail
      refine PS.out.mono ?_; rintro x w4 ⟨v, ss, rfl, hp, hrow, -, hb4⟩
      have b3 := alloc_below wr (.cells #[.map (some w.heap.size)] 135)
      have heq : srtK ss = srtK (notedN (edNs es)) := srtK_perm (hp.trans HPM.out.symm)
      have hlen' : ss.length = (srtK (notedN (edNs es))).length := by
        rw [← heq]
        unfold srtK
        exact (List.mergeSort_perm ss _).length_eq.symm
      have hrow' := hrow
      rw [show ss.mergeSort (fun x y => decide (x ≤ y)) = srtK (notedN (edNs es)) from heq, hlen'] at hrow'
      have HROW := Lib.hid (own_mono hrow' (Nat.le_trans B.out.size b3.size))
      have BF := Lib.hid (B.out.trans ((below_trans b3 hb4).mono B.out.size))
      clear hp hrow hrow' hb4 heq hlen' b3
      go_wp2
      go_ret
      exact ⟨v, rfl, HROW.out, BF.out⟩
set_option maxRecDepth 100000 in
set_option maxHeartbeats 4000000 in
theorem st_names_nil (w : World) : Calls Try.prog 41 #[.pointer none] w (NamesAns w []) := by
  have HM := Lib.hid (SetR.made w)
  have B0 := Lib.hid (alloc_below w (.map #[] 0))
  have PE := Lib.hid (st_edits_nil (w.alloc (.map #[] 0)))
  have hmk : (Instr.makeMap 135 none).run Try.prog w = .ok (.map (some w.heap.size)) (w.alloc (.map #[] 0)) := by kernel_rfl
  go_enter Try.func41, Try.ntmps41
  go_wp2_with fail
  refine PE.out.mono ?_; rintro x w2 ⟨rfl, b2⟩
  have M2 := Lib.hid (HM.out.below b2)
  have B2 := Lib.hid (below_trans B0.out b2)
  clear b2 PE B0 HM
  go_wp2_with fail
  go_loopw [12] (fun i wr => i = .int .i64 0 ∧ w2 = wr) (fun _ _ => 0)
  case atStart => exact ⟨rfl, rfl⟩
  case round =>
    obtain ⟨rfl, rfl⟩ := hrel
    obtain ⟨D, hown, hds, hpm⟩ := M2.out.perm
    have PK := Lib.hid (keysN (some w.heap.size) w2)
    have PS := Lib.hid (sortedN w.heap.size _ D intR w2 hown (by rw [hds]; decide) (by rw [hds]; decide))
    have HPM := Lib.hid hpm
    clear hown hds hpm
    go_wp2_with fail
    refine PK.out.mono ?_; rintro x w3 ⟨rfl, rfl⟩
    go_wp2_with fail
    refine PS.out.mono ?_; rintro x w4 ⟨v, ss, rfl, hp, hrow, -, hb4⟩
    have b3 := alloc_below w2 (.cells #[.map (some w.heap.size)] 135)
    obtain rfl : ss = [] := (hp.trans HPM.out.symm).eq_nil
    rw [show ([] : List (List UInt8)).mergeSort (fun x y => decide (x ≤ y)) = [] by simp] at hrow
    have HROW := Lib.hid (own_mono hrow (Nat.le_trans B2.out.size b3.size))
    have BF := Lib.hid (B2.out.trans ((below_trans b3 hb4).mono B2.out.size))
    clear hp hrow hb4 b3
    go_wp2
    go_ret
    exact ⟨v, rfl, HROW.out, BF.out⟩
end Go.Proofs.Ytfmmdnjoichifaa
