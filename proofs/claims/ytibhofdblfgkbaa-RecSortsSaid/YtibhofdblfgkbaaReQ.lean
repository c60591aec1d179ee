/- Contracts of package rec: Groups. -/
import Derived.Test.YtibhofdblfgkbaaReF
namespace Go.Proofs.Ytibhofdblfgkbaa
open Go.RowKit Go.Sort

def keyIs (k : Int) (r : Int × Int) : Bool := r.1 == k
theorem tw_lt (p : Int × Int → Bool) : ∀ (l : List (Int × Int)) (j : Nat), j < (l.takeWhile p).length → p l[j]! = true
  | [], j, h => by simp at h
  | x :: l, j, h => by
    rw [List.takeWhile_cons] at h
    split at h
    · rename_i hp
      cases j with
      | zero => simpa using hp
      | succ j => simpa using tw_lt p l j (by simpa using h)
    · simp at h
theorem tw_at (p : Int × Int → Bool) : ∀ (l : List (Int × Int)), (l.takeWhile p).length < l.length → p l[(l.takeWhile p).length]! = false
  | [], h => by simp at h
  | x :: l, h => by
    rw [List.takeWhile_cons] at h ⊢
    split at h
    · rename_i hp
      rw [if_pos hp]
      simpa using tw_at p l (by simpa using h)
    · rename_i hp
      rw [if_neg hp]
      simpa using hp
theorem tw_take (p : Int × Int → Bool) : ∀ (l : List (Int × Int)), l.take (l.takeWhile p).length = l.takeWhile p ∧ l.drop (l.takeWhile p).length = l.dropWhile p
  | [] => by simp
  | x :: l => by
    rw [List.takeWhile_cons, List.dropWhile_cons]
    by_cases hp : p x = true
    · rw [if_pos hp, if_pos hp]
      have := tw_take p l
      exact ⟨by simp [this.1], by simp [this.2]⟩
    · rw [if_neg hp, if_neg hp]
      simp
theorem tw_le (p : Int × Int → Bool) (l : List (Int × Int)) : (l.takeWhile p).length ≤ l.length := (List.takeWhile_sublist p).length_le
/-- Records in order, by keys. -/
def grpN : Nat → List (Int × Int) → List (List (Int × Int))
  | 0, _ => []
  | _ + 1, [] => []
  | n + 1, x :: t => (x :: t).takeWhile (keyIs x.1) :: grpN n ((x :: t).dropWhile (keyIs x.1))
def grp (l : List (Int × Int)) : List (List (Int × Int)) := grpN l.length l
theorem tw_head (x : Int × Int) (t : List (Int × Int)) : 0 < ((x :: t).takeWhile (keyIs x.1)).length := by
  rw [List.takeWhile_cons, if_pos (by unfold keyIs; exact beq_self_eq_true _)]
  simp
theorem idx_tw (k : Int) (l : List (Int × Int)) : Lib.idxBy (fun _ y => !(keyIs k y)) l default = if (l.takeWhile (keyIs k)).length < l.length then (((l.takeWhile (keyIs k)).length : Nat) : Int) else -1 := by
  have hle := tw_le (keyIs k) l
  by_cases h : (l.takeWhile (keyIs k)).length < l.length
  · rw [if_pos h]
    have := Lib.idxBy_hit (fun _ y => !(keyIs k y)) l l.length _ default h (Nat.le_refl _) (by show (!(keyIs k _)) = true; rw [tw_at _ _ h]; rfl) (fun j hj => by show (!(keyIs k _)) = false; rw [tw_lt (keyIs k) l j hj]; rfl)
    rw [List.take_length] at this
    exact this
  · rw [if_neg h]
    have := Lib.idxBy_miss (fun _ y => !(keyIs k y)) l l.length default (fun j hj => by show (!(keyIs k _)) = false; rw [tw_lt (keyIs k) l j (by omega)]; rfl)
    rw [List.take_length] at this
    exact this
set_option maxRecDepth 100000 in
set_option maxHeartbeats 400000 in
theorem first_pred (k : Int) (B : Nat) (w : World) (hB : B < w.heap.size) (h0 : w.cell? ⟨B, 0, none⟩ = some (.int .i64 k)) :
    PredBelow Try.prog 103 #[.pointer (some ⟨B, 0, none⟩)] (fun x => .agg (encP x).toArray) (fun y => !(keyIs k y)) w := fun W x hb => by
  have k0 : W.cell? ⟨B, 0, none⟩ = some (.int .i64 k) := (hb.cell (p := ⟨B, 0, none⟩) hB).trans h0
  have hBW : B < W.heap.size := Nat.lt_of_lt_of_le hB hb.size
  have hne : B ≠ W.heap.size := by omega
  show Calls Try.prog 103 #[.agg #[.int .i64 x.1, .int .i64 x.2], .pointer (some ⟨B, 0, none⟩)] W _
  have HB := Lib.hid hb
  clear hb h0
  go_enter Try.func103, Try.ntmps103
  go_wp2
  go_ret
  exact ⟨rfl, HB.out.trans ((alloc_below W _).mono HB.out.size)⟩
set_option maxRecDepth 100000 in
set_option maxHeartbeats 1000000 in
theorem firstGroup_any (A : Option Addr) (h : Nat) (x : Int × Int) (t : List (Int × Int)) (c : Nat) (w : World) (hl : SlP w h A (x :: t)) (hn : (x :: t).length ≤ 100000) :
    Calls Try.prog 75 #[.slice A (x :: t).length c] w fun e w' => e = .returned (.int .i64 ((((x :: t).takeWhile (keyIs x.1)).length : Nat) : Int)) ∧ Below w.heap.size w w' := by
  obtain ⟨x1, x2⟩ := x
  have eg : ∀ args w, (callFunc 103 args).run Try.prog w = .ok (.enter 103 args) w := enters_of Try.func103 (by kernel_rfl) rfl
  obtain ⟨off, rfl, p0, p1⟩ := hl.head
  have HB := Lib.hid (alloc_below w (.cells #[.int .i64 x1] 3))
  have hlb := hl.below HB.out
  obtain ⟨hh, off', eo, hc⟩ := hlb (by simp)
  injection eo with eo
  injection eo with _ eo
  subst eo
  have hcon := AnyQ.slices_IndexFunc Try.indexRec 2 Try.isAgg24 Try.sizeOf24 encP (fun _ => rfl) (fun y => !(keyIs x1 y)) 103 #[.pointer (some ⟨w.heap.size, 0, none⟩)] eg h off ((x1, x2) :: t).length c ((x1, x2) :: t) (w.alloc (.cells #[.int .i64 x1] 3)) (first_pred x1 w.heap.size _ (by simp) (by simp)) (Nat.le_refl _) (by omega) hh (enc_cells hc)
  rw [List.take_length, idx_tw] at hcon
  have P := Lib.hid hcon
  have hle := tw_le (keyIs x1) ((x1, x2) :: t)
  clear hcon hl hlb eg hc
  show Calls _ _ _ _ fun e w' => e = .returned (.int .i64 (((((x1, x2) :: t).takeWhile (keyIs x1)).length : Nat) : Int)) ∧ _
  generalize (((x1, x2) :: t).takeWhile (keyIs x1)).length = m at P hle
  generalize hL : ((x1, x2) :: t).length = L at P hle hn
  have HL := Lib.hid hL
  have hL0 : 0 < L := by rw [← hL]; simp
  clear hL
  by_cases hm : m < L
  · rw [if_pos hm] at P
    have d1 : decide ((m : Int) < 0) = false := by rw [decide_eq_false_iff_not]; omega
    go_enter Try.func75, Try.ntmps75
    go_wp2_with fail
    refine P.out.mono ?_; rintro e w1 ⟨rfl, b1⟩
    go_wp2
    go_ret
    exact ⟨rfl, below_trans HB.out b1⟩
  · rw [if_neg hm] at P
    obtain rfl : m = L := by omega
    go_enter Try.func75, Try.ntmps75
    go_wp2_with fail
    refine P.out.mono ?_; rintro e w1 ⟨rfl, b1⟩
    go_wp2
    go_ret
    exact ⟨rfl, below_trans HB.out b1⟩
/-- Slices of pairs, each in a row that an append does not touch. -/
def GrpAt (w : World) (row : Option Nat) : List (List (Int × Int)) → List Value → Prop
  | [], [] => True
  | g :: gs, v :: vs => (∃ A c h, v = .slice A g.length c ∧ g ≠ [] ∧ SlP w h A g ∧ row ≠ some h) ∧ GrpAt w row gs vs
  | _, _ => False
theorem GrpAt.length {w : World} {row : Option Nat} : ∀ {gs : List (List (Int × Int))} {vs : List Value}, GrpAt w row gs vs → vs.length = gs.length
  | [], [], _ => rfl
  | g :: gs, v :: vs, h => by rw [List.length_cons, List.length_cons, GrpAt.length h.2]
  | [], _ :: _, h => h.elim
  | _ :: _, [], h => h.elim
theorem GrpAt.keep {w w' : World} {row row' : Option Nat} (hs : w.heap.size ≤ w'.heap.size) (hb : ∀ h, h < w.heap.size → row ≠ some h → w'.heap[h]? = w.heap[h]? ∧ row' ≠ some h) : ∀ {gs : List (List (Int × Int))} {vs : List Value}, GrpAt w row gs vs → GrpAt w' row' gs vs
  | [], [], _ => trivial
  | g :: gs, v :: vs, h => by
    obtain ⟨⟨A, c, h1, e, hne, hsl, hr⟩, h2⟩ := h
    have hlt := (hsl hne).1
    exact ⟨⟨A, c, h1, e, hne, hsl.keep hs fun _ => (hb h1 hlt hr).1, (hb h1 hlt hr).2⟩, GrpAt.keep hs hb h2⟩
  | [], _ :: _, h => h.elim
  | _ :: _, [], h => h.elim
theorem GrpAt.snoc {w : World} {row : Option Nat} {g : List (Int × Int)} {v : Value} : ∀ {gs : List (List (Int × Int))} {vs : List Value}, GrpAt w row gs vs → (∃ A c h, v = .slice A g.length c ∧ g ≠ [] ∧ SlP w h A g ∧ row ≠ some h) → GrpAt w row (gs ++ [g]) (vs ++ [v])
  | [], [], _, hv => ⟨hv, trivial⟩
  | _ :: _, _ :: _, h, hv => ⟨h.1, GrpAt.snoc h.2 hv⟩
  | [], _ :: _, h, _ => h.elim
  | _ :: _, [], h, _ => h.elim
theorem info_sl : (Try.prog.info? 22).map (fun i => (i.zero, i.size, i.bytes)) = some (some (.slice none 0 0), 1, 24) := by kernel_rfl
theorem wpList_appV {P : Program} (w : World) {ops : Array Oper} {rest : List Oper} {o : Oper} {a : Act} {Q : Exit → Act → World → Prop} (hgd : o.guard = none) (s x : Operand) (t : TypeId)
    (ho : o.op = .call { callee := .builtin .append, args := #[s, x], argTypes := #[t, t] })
    {e : TypeId} (ht : P.underlying t = some (.slice e)) (hinfo : (P.info? e).map (fun i => (i.zero, i.size, i.bytes)) = some (some (.slice none 0 0), 1, 24))
    {base : Nat} {v : Value} {xs : List Value} {A1 : Option Addr} {n1 c1 : Nat} {n : Nat} (hown : w.ownsRow base e 1 v n xs) {B : Nat} {A : Option Addr} (hr : Reads w B 1 A 1 [.slice A1 n1 c1]) (c : Nat)
    (hs : a.eval s = v) (hx : a.eval x = .slice A 1 c) (hle : n + 1 ≤ 100000) (hbase : base ≤ w.heap.size)
    (h : ∀ A' c' w', w'.ownsRow base e 1 (.slice A' (n + 1) c') (n + 1) (xs ++ [.slice A1 n1 c1]) → Grew w w' v (.slice A' (n + 1) c') → wpList P ops Q rest (a.put o.dst (.slice A' (n + 1) c')) w') :
    wpList P ops Q (o :: rest) a w := by
  obtain ⟨i0, hi0, hz0, hz1, hz2⟩ := info_parts hinfo
  refine wpList_append_any w hgd s x t ho base e i0 _ 1 24 ht hi0 hz0 hz1 hz2 rfl (by omega) v n xs hs hown B A 1 c _ hx hr (fun u hu => by rw [List.mem_singleton] at hu; subst hu; rfl) (by unfold maxLen; omega) (by omega) hbase ?_
  intro v' w' h1 h2
  obtain ⟨A', c', rfl⟩ := own_form h1
  exact h A' c' w' h1 h2
theorem reads_val (w : World) (v : Value) (t : TypeId) : Reads (w.alloc (.cells #[v] t)) (w.heap.size + 1) 1 (some ⟨w.heap.size, 0, none⟩) 1 [v] :=
  ⟨rfl, fun _ => ⟨_, rfl, Nat.lt_succ_self _, fun j u hu => by
    rw [Addr.add_lit, Nat.zero_add, (Blk.new w t _).cell j]
    match j, hu with
    | 0, hu => simpa using hu
    | j + 1, hu => simp at hu⟩⟩
def GroupsAns (w : World) (G : List (List (Int × Int))) (e : Ending) (w' : World) : Prop :=
  ∃ A c vs row, e = .returned (.tuple #[.slice A G.length c, .int .i64 0]) ∧ w'.ownsRow w.heap.size 22 1 (.slice A G.length c) G.length vs ∧ GrpAt w' row G vs ∧ Below w.heap.size w w'
set_option maxRecDepth 100000 in
set_option maxHeartbeats 2000000 in
theorem rc_groups_no (A : Option Addr) (h : Nat) (l : List (Int × Int)) (c : Nat) (w : World) (hl : SlP w h A l) (hn : l.length ≤ 9223372036854775807) (h0 : mayE l ≠ 0) :
    Calls Try.prog 20 #[.slice A l.length c] w fun e w' => e = .returned (.tuple #[.slice none 0 0, .int .i64 (mayE l)]) ∧ Below w.heap.size w w' := by
  have P1 := Lib.hid (rc_sort_any A h l c w hl hn)
  have d1 : (mayE l == 0) = false := by simpa using h0
  clear hl
  generalize mayE l = z at P1 h0 d1
  have HZ := Lib.hid h0
  clear h0
  go_enter Try.func20, Try.ntmps20
  go_wp2_with fail
  refine P1.out.mono ?_; rintro e w0 (⟨-, rfl, b0⟩ | ⟨hz, -⟩)
  · go_wp2
    go_ret2
    exact ⟨rfl, b0⟩
  · exact absurd hz HZ.out
set_option maxRecDepth 100000 in
set_option maxHeartbeats 4000000 in
theorem rc_groups_ok (A : Option Addr) (h : Nat) (l : List (Int × Int)) (c : Nat) (w : World) (hl : SlP w h A l) (h0 : mayE l = 0) :
    Calls Try.prog 20 #[.slice A l.length c] w (GroupsAns w (grp (srt l))) := by
  obtain ⟨hok, hn⟩ := mayE_ok h0
  have P1 := Lib.hid (rc_sort_any A h l c w hl (by omega))
  have hsl := srt_length l
  obtain ⟨G, hG⟩ : ∃ G, grp (srt l) = G := ⟨_, rfl⟩
  rw [hG]
  have hGG : grpN (srt l).length (srt l) = G := hG
  have H0 := Lib.hid h0
  clear hl hG h0 hok
  go_enter Try.func20, Try.ntmps20
  go_wp2_with fail
  refine P1.out.mono ?_; rintro e w0 (⟨hz, -⟩ | ⟨-, AS, cS, rfl, hra⟩)
  · exact absurd H0.out hz
  · have hrs := hra.s
    clear hra
    obtain ⟨⟨gS, sS⟩, b0, kS⟩ := hrs
    have SS := Lib.hid sS
    have B0 := Lib.hid b0
    have hcap : (srt l).length ≤ cS := by
      by_cases e : srt l = []
      · rw [e]; exact Nat.zero_le _
      · obtain ⟨_, _, _, h, _⟩ := kS e; exact h
    rw [← hsl]
    generalize srt l = S at SS hsl hGG hcap
    have hn' : S.length ≤ 4096 := by omega
    have HGG := Lib.hid hGG
    clear sS b0 kS hsl hn H0 P1 hGG
    go_wp2_with fail
    go_loopw [4, 6] (fun v u wr => ∃ (lf : List (Int × Int)) (AL : Option Addr) (cL : Nat) (gs : List (List (Int × Int))) (vs : List Value) (A3 : Option Addr) (c3 n : Nat), v = .slice AL lf.length cL ∧ u = .slice A3 vs.length c3 ∧ SlP w0 gS AL lf ∧ lf.length ≤ cL ∧ lf.length ≤ 4096 ∧ wr.ownsRow w0.heap.size 22 1 u vs.length vs ∧ GrpAt wr (Value.slice A3 vs.length c3).ownBlock gs vs ∧ vs.length + lf.length ≤ 4096 ∧ lf.length ≤ n ∧ gs ++ grpN n lf = G ∧ Below w0.heap.size w0 wr) (fun v _ _ => slN v)
    case atStart => exact ⟨S, AS, cS, [], [], none, 0, S.length, rfl, rfl, SS.out, hcap, hn', World.ownsRow_nil _ _ _ _, trivial, by simpa using hn', Nat.le_refl _, HGG.out, Below.refl _ _⟩
    case round =>
      obtain ⟨lf, AL, cL, gs, vs, A3, c3, n, rfl, rfl, hsl, hcl, hl4, ho, hga, hvs, hln, hgg, hb⟩ := hrel
      have HSL := Lib.hid hsl
      have HO := Lib.hid ho
      have GA := Lib.hid hga
      have HG := Lib.hid hgg
      have HB := Lib.hid hb
      clear hsl ho hga hgg hb
      cases lf with
      | nil =>
        have hge : gs = G := by
          have := HG.out
          cases n <;> simpa [grpN] using this
        have hvl := GA.out.length
        have HVL := Lib.hid hvl
        clear hvl
        go_wp2
        go_ret2
        subst hge
        unfold GroupsAns
        rw [← HVL.out]
        exact ⟨A3, c3, vs, _, rfl, own_mono HO.out B0.out.size, GA.out, below_trans B0.out HB.out⟩
      | cons x t =>
        obtain ⟨n', rfl⟩ : ∃ n', n = n' + 1 := ⟨n - 1, by simp at hln; omega⟩
        have hg := HG.out
        rw [grpN] at hg
        have PF := Lib.hid (firstGroup_any AL gS x t cL wr (HSL.out.below HB.out) (by omega))
        have ht := tw_take (keyIs x.1) (x :: t)
        have hle := tw_le (keyIs x.1) (x :: t)
        have hpos := tw_head x t
        rw [← ht.1, ← ht.2] at hg
        generalize ((x :: t).takeWhile (keyIs x.1)).length = m at PF ht hle hpos hg
        have HG2 := Lib.hid hg
        generalize hL : x :: t = L at *
        have HL := Lib.hid hL
        clear hg ht hL HG
        have d1 : decide ((0 : Int) < (L.length : Int)) = true := by rw [decide_eq_true_eq]; omega
        go_wp2_with fail
        refine PF.out.mono ?_; rintro e w1 ⟨rfl, b1⟩
        have hs1 := b1.size
        have B1 := Lib.hid (HB.out.trans (b1.mono HB.out.size))
        have HO1 := Lib.hid (own_below HO.out b1)
        have GA1 := Lib.hid (GA.out.keep b1.size fun h hh hr => ⟨b1.block h hh, hr⟩)
        have PC := cloneRec_any AL gS (L.take m) cL w1 ((HSL.out.below B1.out).take m) (by rw [List.length_take]; omega)
        rw [List.length_take, Nat.min_eq_left hle] at PC
        have PC := Lib.hid PC
        clear b1
        go_wp2_with fail
        refine PC.out.mono ?_; rintro e w2 ⟨A4, c4, rfl, b2, hcp⟩
        rw [List.length_take, Nat.min_eq_left hle] at hcp ⊢
        have hne : L.take m ≠ [] := fun e => by
          have := congrArg List.length e
          rw [List.length_take, Nat.min_eq_left hle] at this
          simp at this
          omega
        obtain ⟨g4, cur, rfl, hg4, hh4, ht4, -, -⟩ := hcp hne
        have hlt4 : g4 < w2.heap.size := Blk.lt (t := 24) hh4
        have S4 := Lib.hid (show SlP w2 g4 (some ⟨g4, 0, none⟩) (L.take m) from fun _ => ⟨hlt4, 0, rfl, fun j u hj => by
          rw [Nat.zero_add, cell_of_row w2 g4 j cur 24 (0, 0) hh4, ← Array.getElem?_toList]
          have hj2 : j < m * 2 := by
            have := (List.getElem?_eq_some_iff.1 hj).1
            rw [Prs_length, List.length_take, Nat.min_eq_left hle] at this
            omega
          have h2 := congrArg (·[j]?) ht4
          simp only [List.getElem?_take_of_lt hj2] at h2
          rw [h2]
          exact hj⟩)
        have B2 := Lib.hid (B1.out.trans (b2.mono B1.out.size))
        have HO2 := Lib.hid (own_below HO1.out b2)
        have GA2 := Lib.hid (GA1.out.keep b2.size fun h hh hr => ⟨b2.block h hh, hr⟩)
        have hs2 := b2.size
        have hrow1 : ∀ i, (Value.slice A3 vs.length c3).ownBlock = some i → i < w1.heap.size := fun i hi => (World.ownsRow.lt HO1.out i hi).2
        have HN4 := Lib.hid (show (Value.slice A3 vs.length c3).ownBlock ≠ some g4 from fun e => by have := hrow1 g4 e; omega)
        clear b2 hcp hh4 ht4
        have HOX := Lib.hid (World.ownsRow.alloc HO2.out (.cells #[.slice (some ⟨g4, 0, none⟩) m c4] 22))
        have HRX := Lib.hid (reads_val w2 (.slice (some ⟨g4, 0, none⟩) m c4) 22)
        have hb2s := B2.out.size
        have HSX := Lib.hid (show w0.heap.size ≤ (w2.alloc (.cells #[.slice (some ⟨g4, 0, none⟩) m c4] 22)).heap.size by rw [World.size_alloc]; omega)
        have hfin : ∀ (W : World) (v' : Value), Grew (w2.alloc (.cells #[.slice (some ⟨g4, 0, none⟩) m c4] 22)) W (.slice A3 vs.length c3) v' → GrpAt W v'.ownBlock (gs ++ [L.take m]) (vs ++ [.slice (some ⟨g4, 0, none⟩) m c4]) ∧ Below w0.heap.size w0 W := fun W v' gr => by
          have hal := alloc_below w2 (.cells #[.slice (some ⟨g4, 0, none⟩) m c4] 22)
          have ga : GrpAt w2 (Value.slice A3 vs.length c3).ownBlock (gs ++ [L.take m]) (vs ++ [.slice (some ⟨g4, 0, none⟩) m c4]) :=
            GA2.out.snoc ⟨_, c4, g4, by rw [List.length_take, Nat.min_eq_left hle], hne, S4.out, HN4.out⟩
          refine ⟨ga.keep (Nat.le_trans hal.size gr.by_.size) fun h hh hr => ?_, (B2.out.alloc hb2s _).grown gr.by_ (by rw [World.size_alloc]; omega) fun i hi => (World.ownsRow.lt HO2.out i hi).1⟩
          have hh' : h < (w2.alloc (.cells #[.slice (some ⟨g4, 0, none⟩) m c4] 22)).heap.size := by rw [World.size_alloc]; omega
          refine ⟨(gr.by_.block h hh' fun e => hr e.symm).trans (hal.block h hh), ?_⟩
          rcases gr.at_ with e | e
          · rw [e]; exact hr
          · rw [e, World.size_alloc]
            intro e2
            injection e2 with e2
            omega
        have HFIN := Lib.hid hfin
        clear hfin
        have hvl : vs.length < 4096 := by omega
        by_cases hcm : cL = m
        · subst hcm
          go_wp2_with (at_builtin; (refine wpList_appV _ rfl (.tmp 21) (.tmp 26) _ rfl Try.underlying31 info_sl HOX.out HRX.out 1 rfl rfl (by omega) HSX.out ?_); intro A5 c5 w5 o5 gr5; have O5 := Lib.hid o5; have G5 := Lib.hid gr5; clear o5 gr5)
          obtain ⟨ga5, b5⟩ := HFIN.out _ _ G5.out
          have hLL : L.length = cL := by omega
          refine ⟨⟨[], AL, 0, gs ++ [L.take cL], vs ++ [.slice (some ⟨g4, 0, none⟩) cL c4], A5, c5, n', by simp, by rw [List.length_append]; rfl, SlP.nil _ _ _, Nat.zero_le _, Nat.zero_le _, ?_, ?_, ?_, Nat.zero_le _, ?_, b5⟩, ?_⟩
          · rw [List.length_append]; exact O5.out
          · rw [List.length_append]; exact ga5
          · rw [List.length_append]; simp; omega
          · have hg := HG2.out
            rw [show L.drop cL = [] from List.drop_eq_nil_of_le (by omega)] at hg
            rw [← hg, List.append_assoc]
            rfl
          · simp [slN]; omega
        · have HD := HSL.out.drop (k := m) hcl
          rw [if_neg hcm] at HD
          go_wp2_with (at_builtin; (refine wpList_appV _ rfl (.tmp 21) (.tmp 26) _ rfl Try.underlying31 info_sl HOX.out HRX.out 1 rfl rfl (by omega) HSX.out ?_); intro A5 c5 w5 o5 gr5; have O5 := Lib.hid o5; have G5 := Lib.hid gr5; clear o5 gr5)
          obtain ⟨ga5, b5⟩ := HFIN.out _ _ G5.out
          refine ⟨⟨L.drop m, _, _, gs ++ [L.take m], vs ++ [.slice (some ⟨g4, 0, none⟩) m c4], A5, c5, n', by rw [List.length_drop], by rw [List.length_append]; rfl, HD, by rw [List.length_drop]; omega, by rw [List.length_drop]; omega, ?_, ?_, ?_, by rw [List.length_drop]; omega, ?_, b5⟩, ?_⟩
          · rw [List.length_append]; exact O5.out
          · rw [List.length_append]; exact ga5
          · rw [List.length_append, List.length_drop]; simp; omega
          · rw [← HG2.out, List.append_assoc]
            rfl
          · simp [slN]; omega
end Go.Proofs.Ytibhofdblfgkbaa
