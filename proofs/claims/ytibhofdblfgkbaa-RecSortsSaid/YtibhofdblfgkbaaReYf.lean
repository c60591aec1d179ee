/- Contracts of the document's records: Groups. -/
import Derived.Test.YtibhofdblfgkbaaReF
import Derived.Test.YtibhofdblfgkbaaReQ
import Derived.Test.YtibhofdblfgkbaaTwo
namespace Go.Proofs.Ytibhofdblfgkbaa
open Go.RowKit Go.Sort

/-- The groups, one of them under way. -/
def gcur : Int → List (Int × Int) → List (Int × Int) → List (List (Int × Int))
  | _, g, [] => [g]
  | k, g, x :: r => if x.1 = k then gcur k (g ++ [x]) r else g :: gcur x.1 [x] r
theorem grpN_nil (m : Nat) : grpN m [] = [] := by cases m <;> rfl
theorem gcur_eq : ∀ (r : List (Int × Int)) (k : Int) (g : List (Int × Int)) (m : Nat), r.length ≤ m → gcur k g r = (g ++ r.takeWhile (keyIs k)) :: grpN m (r.dropWhile (keyIs k))
  | [], k, g, m, _ => by rw [gcur, List.takeWhile_nil, List.dropWhile_nil, grpN_nil, List.append_nil]
  | x :: r, k, g, m, h => by
    rw [List.length_cons] at h
    unfold gcur
    by_cases hk : x.1 = k
    · have hp : keyIs k x = true := by unfold keyIs; simpa using hk
      rw [if_pos hk, gcur_eq r k (g ++ [x]) m (by omega), List.takeWhile_cons, if_pos hp, List.dropWhile_cons, if_pos hp, List.append_assoc]
      rfl
    · have hp : ¬ keyIs k x = true := by unfold keyIs; simpa using hk
      have hq : keyIs x.1 x = true := by unfold keyIs; simp
      obtain ⟨m, rfl⟩ : ∃ m', m = m' + 1 := ⟨m - 1, by omega⟩
      rw [if_neg hk, gcur_eq r x.1 [x] m (by omega), List.takeWhile_cons, if_neg hp, List.dropWhile_cons, if_neg hp, List.append_nil, grpN, List.takeWhile_cons, if_pos hq, List.dropWhile_cons, if_pos hq]
      rfl
theorem grp_cur (x : Int × Int) (t : List (Int × Int)) : grp (x :: t) = gcur x.1 [x] t := by
  have hq : keyIs x.1 x = true := by unfold keyIs; simp
  rw [gcur_eq t x.1 [x] t.length (Nat.le_refl _)]
  show grpN (t.length + 1) (x :: t) = _
  rw [grpN, List.takeWhile_cons, if_pos hq, List.dropWhile_cons, if_pos hq]
  rfl
/-- Slices of pairs, none of them in a row that is written to. -/
def GrpB (w : World) (S : Nat → Prop) : List (List (Int × Int)) → List Value → Prop
  | [], [] => True
  | g :: gs, v :: vs => (∃ A c h, v = .slice A g.length c ∧ g ≠ [] ∧ SlP w h A g ∧ ¬ S h) ∧ GrpB w S gs vs
  | _, _ => False
theorem GrpB.keep {w w' : World} {S S' : Nat → Prop} (hs : w.heap.size ≤ w'.heap.size) (hb : ∀ h, h < w.heap.size → ¬ S h → w'.heap[h]? = w.heap[h]? ∧ ¬ S' h) : ∀ {gs : List (List (Int × Int))} {vs : List Value}, GrpB w S gs vs → GrpB w' S' gs vs
  | [], [], _ => trivial
  | g :: gs, v :: vs, h => by
    obtain ⟨⟨A, c, h1, e, hne, hsl, hr⟩, h2⟩ := h
    have hlt := (hsl hne).1
    exact ⟨⟨A, c, h1, e, hne, hsl.keep hs fun _ => (hb h1 hlt hr).1, (hb h1 hlt hr).2⟩, GrpB.keep hs hb h2⟩
  | [], _ :: _, h => h.elim
  | _ :: _, [], h => h.elim
theorem GrpB.snoc {w : World} {S : Nat → Prop} {g : List (Int × Int)} {v : Value} : ∀ {gs : List (List (Int × Int))} {vs : List Value}, GrpB w S gs vs → (∃ A c h, v = .slice A g.length c ∧ g ≠ [] ∧ SlP w h A g ∧ ¬ S h) → GrpB w S (gs ++ [g]) (vs ++ [v])
  | [], [], _, hv => ⟨hv, trivial⟩
  | _ :: _, _ :: _, h, hv => ⟨h.1, GrpB.snoc h.2 hv⟩
  | [], _ :: _, h, _ => h.elim
  | _ :: _, [], h, _ => h.elim
theorem GrpB.at_ {w : World} {S : Nat → Prop} : ∀ {gs : List (List (Int × Int))} {vs : List Value}, GrpB w S gs vs → GrpAt w none gs vs
  | [], [], _ => trivial
  | _ :: _, _ :: _, h => by
    obtain ⟨⟨A, c, h1, e, hne, hsl, -⟩, h2⟩ := h
    exact ⟨⟨A, c, h1, e, hne, hsl, by simp⟩, GrpB.at_ h2⟩
  | [], _ :: _, h => h.elim
  | _ :: _, [], h => h.elim
/-- Two rows: the groups', and the last group's. -/
structure Grs (B : Nat) (w : World) (gs : List (List (Int × Int))) (g : List (Int × Int)) (vs : List Value) (bo co bl cl : Nat) : Prop where
  out : w.ownsRow B 22 1 (.slice (some ⟨bo, 0, none⟩) (gs.length + 1) co) (gs.length + 1) (vs ++ [.slice (some ⟨bl, 0, none⟩) g.length cl])
  len : vs.length = gs.length
  last : w.ownsRow B 24 2 (.slice (some ⟨bl, 0, none⟩) g.length cl) g.length (Prs g)
  ne : bo ≠ bl
  some_ : g ≠ []
  rest : GrpB w (fun h => h = bo ∨ h = bl) gs vs
  lo : B ≤ bo
  ll : B ≤ bl
theorem wp_appG {P : Program} (w : World) {o : Oper} {a : Act} {K : Act → World → Prop} {Q : Exit → Act → World → Prop} (s x : Operand) (t : TypeId)
    (ho : o.op = .call { callee := .builtin .append, args := #[s, x], argTypes := #[t, t] })
    {e : TypeId} (ht : P.underlying t = some (.slice e)) (hinfo : (P.info? e).map (fun i => (i.zero, i.size, i.bytes)) = some (some (.agg #[.int .i64 0, .int .i64 0]), 2, 16))
    {base : Nat} {v : Value} {xs ys : List (Int × Int)} {n : Nat} (hown : w.ownsRow base e 2 v n (Prs xs)) {B : Nat} {A : Option Addr} {m : Nat} (hr : Reads w B 2 A m (Prs ys)) (c : Nat)
    (hs : a.eval s = v) (hx : a.eval x = .slice A m c) (hle : n + m ≤ 100000) (hbase : base ≤ w.heap.size)
    (h : ∀ A' c' w', w'.ownsRow base e 2 (.slice A' (n + m) c') (n + m) (Prs (xs ++ ys)) → Grew w w' v (.slice A' (n + m) c') → K (a.put o.dst (.slice A' (n + m) c')) w') : o.wp P a w K Q := by
  obtain ⟨i0, hi0, hzz⟩ := Option.map_eq_some_iff.1 hinfo
  simp only [Prod.mk.injEq] at hzz
  obtain ⟨hz0, hz1, hz2⟩ := hzz
  refine wp_append_any w s x t ho base e i0 _ 2 16 ht hi0 hz0 hz1 hz2 rfl (by omega) v n (Prs xs) hs hown B A m c (Prs ys) hx hr (Prs_one ys) (by unfold maxLen; omega) (by omega) hbase ?_
  intro v' w' h1 h2
  obtain ⟨A', c', rfl⟩ := own_form h1
  refine h A' c' w' ?_ h2
  rw [Prs_append]
  exact h1
theorem own_pair (w : World) (x1 x2 : Int) {B : Nat} (hb : B ≤ w.heap.size) : (w.alloc (.cells #[.int .i64 x1, .int .i64 x2] 24)).ownsRow B 24 2 (.slice (some ⟨w.heap.size, 0, none⟩) 1 1) 1 (Prs [(x1, x2)]) :=
  ⟨rfl, .inr ⟨w.heap.size, 1, #[.int .i64 x1, .int .i64 x2], rfl, hb, heap_alloc_new w _, Nat.le_refl _, by decide, rfl, rfl⟩⟩
/-- The first group. -/
theorem Grs.first {B : Nat} {w w' : World} {x1 x2 : Int} {A : Option Addr} {c : Nat} (hb : B ≤ w.heap.size)
    (o : w'.ownsRow B 22 1 (.slice A 1 c) 1 [.slice (some ⟨w.heap.size, 0, none⟩) 1 1])
    (gr : Grew ((w.alloc (.cells #[.int .i64 x1, .int .i64 x2] 24)).alloc (.cells #[.slice (some ⟨w.heap.size, 0, none⟩) 1 1] 22)) w' (.slice none 0 0) (.slice A 1 c)) :
    ∃ bo, A = some ⟨bo, 0, none⟩ ∧ Grs B w' [] [(x1, x2)] [] bo c w.heap.size 1 := by
  obtain ⟨bo, cap, e, hbo, -⟩ := o.form (by omega)
  injection e with e _ e2
  subst e e2
  have hbn : bo ≠ w.heap.size := by
    rcases gr.at_ with e | e
    · cases e
    · injection e with e
      have e3 : bo = _ := e
      rw [World.size_alloc, World.size_alloc] at e3
      omega
  exact ⟨bo, rfl, o, rfl, ((own_pair w x1 x2 hb).alloc _).kept gr.by_ (.inr (by simp [Value.ownBlock])), hbn, by simp, trivial, hbo, hb⟩
/-- A new group. -/
theorem Grs.more {B : Nat} {w w' : World} {gs : List (List (Int × Int))} {g : List (Int × Int)} {vs : List Value} {bo co bl cl : Nat} (G : Grs B w gs g vs bo co bl cl) {x1 x2 : Int} {A : Option Addr} {c : Nat} (hb : B ≤ w.heap.size)
    (o : w'.ownsRow B 22 1 (.slice A (gs.length + 1 + 1) c) (gs.length + 1 + 1) ((vs ++ [.slice (some ⟨bl, 0, none⟩) g.length cl]) ++ [.slice (some ⟨w.heap.size, 0, none⟩) 1 1]))
    (gr : Grew ((w.alloc (.cells #[.int .i64 x1, .int .i64 x2] 24)).alloc (.cells #[.slice (some ⟨w.heap.size, 0, none⟩) 1 1] 22)) w' (.slice (some ⟨bo, 0, none⟩) (gs.length + 1) co) (.slice A (gs.length + 1 + 1) c)) :
    ∃ bo', A = some ⟨bo', 0, none⟩ ∧ Grs B w' (gs ++ [g]) [(x1, x2)] (vs ++ [.slice (some ⟨bl, 0, none⟩) g.length cl]) bo' c w.heap.size 1 := by
  obtain ⟨bo', cap, e, hbo, -⟩ := o.form (by omega)
  injection e with e _ e2
  subst e e2
  have hob := (World.ownsRow.lt G.out bo rfl).2
  have hlb := (World.ownsRow.lt G.last bl rfl).2
  have hs : ((w.alloc (.cells #[.int .i64 x1, .int .i64 x2] 24)).alloc (.cells #[.slice (some ⟨w.heap.size, 0, none⟩) 1 1] 22)).heap.size = w.heap.size + 1 + 1 := by rw [World.size_alloc, World.size_alloc]
  have hat : bo' = bo ∨ bo' = w.heap.size + 1 + 1 := by
    rcases gr.at_ with e | e
    · injection e with e; exact .inl e
    · injection e with e; rw [hs] at e; exact .inr e
  have hkeep : ∀ h, h < w.heap.size → h ≠ bo → w'.heap[h]? = w.heap[h]? := fun h hh hne => by
    rw [gr.by_.block h (by rw [hs]; omega) (by simp [Value.ownBlock]; exact hne), Below.heap_alloc _ _ _ (by rw [World.size_alloc]; omega), Below.heap_alloc _ _ _ hh]
  have hsz : w.heap.size ≤ w'.heap.size := by have := gr.by_.size; rw [hs] at this; omega
  obtain ⟨gl, -, sl, -, hgl, -⟩ := SlP.of_own G.last
  have hgl2 := hgl bl rfl
  subst hgl2
  refine ⟨bo', rfl, by rw [List.length_append]; exact o, by rw [List.length_append, List.length_append, G.len]; rfl, ((own_pair w x1 x2 hb).alloc _).kept gr.by_ (.inr ?_), by omega, by simp, ?_, hbo, hb⟩
  · simp only [Value.ownBlock]
    intro e
    injection e with e
    omega
  · refine GrpB.snoc (G.rest.keep hsz fun h hh hn => ⟨hkeep h hh fun e => hn (.inl e), ?_⟩) ⟨_, cl, bl, rfl, G.some_, sl.keep hsz fun hh => hkeep bl hh fun e => G.ne e.symm, ?_⟩
    · rintro (e | e)
      · rcases hat with k | k
        · exact hn (.inl (e.trans k))
        · omega
      · omega
    · rintro (e | e)
      · rcases hat with k | k
        · exact G.ne (k.symm.trans e.symm)
        · omega
      · omega
/-- One more in the last group. -/
theorem Grs.grow {B : Nat} {w w' : World} {gs : List (List (Int × Int))} {g : List (Int × Int)} {vs : List Value} {bo co bl cl : Nat} (G : Grs B w gs g vs bo co bl cl) {x1 x2 : Int} {A : Option Addr} {c : Nat}
    (o : w'.ownsRow B 24 2 (.slice A (g.length + 1) c) (g.length + 1) (Prs (g ++ [(x1, x2)])))
    (gr : Grew (w.alloc (.cells #[.int .i64 x1, .int .i64 x2] 24)) w' (.slice (some ⟨bl, 0, none⟩) g.length cl) (.slice A (g.length + 1) c)) :
    w'.cell? ⟨bo, gs.length, none⟩ = some (.slice (some ⟨bl, 0, none⟩) g.length cl) ∧ w'.frozen? ⟨bo, gs.length, none⟩ = false ∧ w'.grownBy (w'.setCell ⟨bo, gs.length, none⟩ (.slice A (g.length + 1) c)) (some bo) ∧
      ∃ bl', A = some ⟨bl', 0, none⟩ ∧ Grs B (w'.setCell ⟨bo, gs.length, none⟩ (.slice A (g.length + 1) c)) gs (g ++ [(x1, x2)]) vs bo co bl' c := by
  have hob := (World.ownsRow.lt G.out bo rfl).2
  have hlb := (World.ownsRow.lt G.last bl rfl).2
  have o1 := (G.out.alloc (.cells #[.int .i64 x1, .int .i64 x2] 24)).kept gr.by_ (.inr (by simp only [Value.ownBlock]; intro e; injection e with e; exact G.ne e))
  have hc := o1.cellAt gs.length (by omega)
  rw [← G.len, List.getElem?_append_right (Nat.le_refl _), Nat.sub_self] at hc
  have hst := o1.stored gs.length (.slice A (g.length + 1) c)
  have hset : (vs ++ [Value.slice (some ⟨bl, 0, none⟩) g.length cl]).set gs.length (.slice A (g.length + 1) c) = vs ++ [.slice A (g.length + 1) c] := by
    rw [← G.len, List.set_append_right _ _ (Nat.le_refl _), Nat.sub_self]
    rfl
  rw [hset] at hst
  obtain ⟨bl', cap, e, hbl, -⟩ := o.form (by omega)
  injection e with e _ e2
  subst e e2
  have hat : bl' = bl ∨ bl' = w.heap.size + 1 := by
    rcases gr.at_ with e | e
    · injection e with e; exact .inl e
    · injection e with e; rw [World.size_alloc] at e; exact .inr e
  have hne : bo ≠ bl' := by
    rcases hat with k | k
    · rw [k]; exact G.ne
    · omega
  have hsz : w.heap.size ≤ w'.heap.size := by have := gr.by_.size; rw [World.size_alloc] at this; omega
  refine ⟨by rw [← G.len]; exact hc, o1.frozenAt _, hst.2, bl', rfl, by rw [List.length_append]; exact hst.1, G.len, by rw [List.length_append]; exact ownsRow_setCell_other o (by simp only [Value.ownBlock]; intro e; injection e with e; exact hne e.symm) _, hne, by simp, ?_, G.lo, hbl⟩
  refine G.rest.keep (by rw [World.size_setCell]; exact hsz) fun h hh hn => ⟨?_, ?_⟩
  · rw [Below.heap_setCell _ _ _ _ (fun e => hn (.inl e)), gr.by_.block h (by rw [World.size_alloc]; omega) (by simp only [Value.ownBlock]; intro e; injection e with e; exact hn (.inr e)), Below.heap_alloc _ _ _ hh]
  · rintro (e | e)
    · exact hn (.inl e)
    · rcases hat with k | k
      · exact hn (.inr (e.trans k))
      · omega
theorem grew_of_drew {w w' : World} {v v' : Value} (h : Grew w.drew w' v v') : Grew w w' v v' := by
  rcases h with ⟨h1, h2⟩ | ⟨h1, h2⟩
  · exact .inl ⟨h1, grown_of_drew h2⟩
  · exact .inr ⟨h1, grown_of_drew h2⟩
set_option maxRecDepth 100000 in
set_option maxHeartbeats 8000000 in
theorem rrc_groups_any (A : Option Addr) (h : Nat) (a : List (Int × Int)) (c : Nat) (w : World) (ha : SlP w h A a) (hc : a.length ≤ c) (hcm : c ≤ maxLen) (la : a.length ≤ 10000) :
    Calls Try.prog 27 #[.slice A a.length c] w fun e w' => ∃ A c vs row, e = .returned (.slice A (grp (srt a)).length c) ∧ w'.ownsRow w.heap.size 22 1 (.slice A (grp (srt a)).length c) (grp (srt a)).length vs ∧ GrpAt w' row (grp (srt a)) vs ∧ Below w.heap.size w w' := by
  have P1 := Lib.hid (rrc_sort_any a.length A h a c w (Nat.le_refl _) ha hc la hcm)
  have hsa := Lib.hid (srt_length a)
  obtain ⟨G, hG⟩ : ∃ G, grp (srt a) = G := ⟨_, rfl⟩
  have HG0 := Lib.hid hG
  rw [hG]
  clear ha hc hcm hG
  go_enter Try.func27, Try.ntmps27
  go_wp2_with fail
  refine P1.out.mono ?_; rintro e w2 ⟨AX, cX, rfl, ⟨gX, sX⟩, b2, -⟩
  have SX := Lib.hid sX
  have B2 := Lib.hid b2
  obtain ⟨X, hX⟩ : ∃ X, srt a = X := ⟨_, rfl⟩
  rw [hX] at SX HG0 hsa ⊢
  have hXl : X.length ≤ 10000 := by have := hsa.out; omega
  clear sX b2 hX hsa P1
  go_wp2_with fail
  go_loopw [4, 5] (fun vo i wr => ∃ k : Nat, k ≤ X.length ∧ i = .int .i64 (k : Int) ∧ Below w2.heap.size w2 wr ∧ ((k = 0 ∧ vo = .slice none 0 0) ∨ ∃ gs g key vs bo co bl cl, 0 < k ∧ vo = .slice (some ⟨bo, 0, none⟩) (gs.length + 1) co ∧ gs.length + 1 ≤ k ∧ g.length ≤ k ∧ Grs w2.heap.size wr gs g vs bo co bl cl ∧ g.head?.map Prod.fst = some key ∧ gs ++ gcur key g (X.drop k) = G)) (fun _ i _ => X.length - (intOf i).toNat)
  case atStart => exact ⟨0, Nat.zero_le _, rfl, Below.refl _ _, .inl ⟨rfl, rfl⟩⟩
  case round =>
    obtain ⟨k, hk, rfl, hb, hcase⟩ := hrel
    have HB := Lib.hid hb
    clear hb
    by_cases hlt : k < X.length
    · obtain ⟨x, hx⟩ : ∃ x, X[k]? = some x := ⟨_, List.getElem?_eq_getElem hlt⟩
      have hdr : X.drop k = x :: X.drop (k + 1) := by
        obtain ⟨h1, h2⟩ := List.getElem?_eq_some_iff.1 hx
        rw [← h2]
        exact List.drop_eq_getElem_cons h1
      have HDR := Lib.hid hdr
      obtain ⟨x1, x2⟩ := x
      have HLT := Lib.hid (show gX < w2.heap.size from (SX.out (fun e => by rw [e] at hlt; simp at hlt)).1)
      obtain ⟨-, ox, eX, p0, p1⟩ := (SX.out.below HB.out).at_ hx
      subst eX
      have P0 := Lib.hid p0
      have P1 := Lib.hid p1
      have hbs := HB.out.size
      clear hx hdr p0 p1
      have HRX := Lib.hid (reads_val (wr.alloc (.cells #[.int .i64 x1, .int .i64 x2] 24)) (.slice (some ⟨wr.heap.size, 0, none⟩) 1 1) 22)
      have HSX := Lib.hid (show w2.heap.size ≤ ((wr.alloc (.cells #[.int .i64 x1, .int .i64 x2] 24)).alloc (.cells #[.slice (some ⟨wr.heap.size, 0, none⟩) 1 1] 22)).heap.size by rw [World.size_alloc, World.size_alloc]; omega)
      rw [World.size_alloc] at HRX
      have BXA := Lib.hid ((HB.out.alloc hbs (.cells #[.int .i64 x1, .int .i64 x2] 24)).alloc (by rw [World.size_alloc]; omega) (.cells #[.slice (some ⟨wr.heap.size, 0, none⟩) 1 1] 22))
      rcases hcase with ⟨hk0, rfl⟩ | ⟨gs, g, key, vs, bo, co, bl, cl, hk0, rfl, hgk, hgl, hG, hkey, hmath⟩
      · subst hk0
        have p0 : wr.drew.cell? ⟨gX, ox, none⟩ = _ := (by simpa using P0.out : wr.cell? ⟨gX, ox, none⟩ = _)
        have p1 : wr.drew.cell? ⟨gX, ox + 1, none⟩ = _ := (by simpa using P1.out : wr.cell? ⟨gX, ox + 1, none⟩ = _)
        have HO := Lib.hid (World.ownsRow_nil ((wr.alloc (.cells #[.int .i64 x1, .int .i64 x2] 24)).alloc (.cells #[.slice (some ⟨wr.heap.size, 0, none⟩) 1 1] 22)) w2.heap.size 22 1)
        go_wp2_with fail
        go_region
        go_wp2_with (at_builtin; (refine wpList_appV _ rfl (.tmp 50) (.tmp 56) _ rfl Try.underlying31 info_sl HO.out HRX.out 1 rfl rfl (by omega) HSX.out ?_); intro A5 c5 w5 o5 gr5; have O5 := Lib.hid o5; have G5 := Lib.hid gr5; clear o5 gr5)
        have B5 := Lib.hid (BXA.out.grown (grown_of_drew (Grew.by_ G5.out)) HSX.out fun i hi => by simp [Value.ownBlock] at hi)
        obtain ⟨bo, rfl, gg⟩ := Grs.first hbs O5.out (grew_of_drew G5.out)
        refine ⟨⟨0 + 1, by omega, by go_num, B5.out, .inr ⟨[], [(x1, x2)], x1, [], bo, _, wr.heap.size, 1, by omega, rfl, by simp, by simp, gg, rfl, ?_⟩⟩, by simp [intOf]; omega⟩
        rw [← HG0.out, show X = (x1, x2) :: X.drop (0 + 1) from HDR.out, grp_cur]
        rfl
      · have GG := Lib.hid hG
        have HM := Lib.hid hmath
        have HK := Lib.hid hkey
        have hob := (World.ownsRow.lt hG.out bo rfl).2
        have hlb := (World.ownsRow.lt hG.last bl rfl).2
        have hlo := hG.lo
        have hll := hG.ll
        have hlen := hG.len
        have hgp : 0 < g.length := List.length_pos_iff.2 hG.some_
        have c0 := hG.out.cellAt gs.length (by omega)
        rw [← hG.len, List.getElem?_append_right (Nat.le_refl _), Nat.sub_self, hG.len] at c0
        have c1 : wr.cell? ⟨bl, 0, none⟩ = some (.int .i64 key) := by
          have h9 := hG.last.cellAt 0 (by omega)
          cases g with
          | nil => simp at hgp
          | cons g0 g1 =>
            simp only [List.head?_cons, Option.map_some, Option.some.injEq] at hkey
            rw [h9, Prs_cons, ← hkey]
            rfl
        have C0 := Lib.hid (show wr.cell? ⟨bo, gs.length, none⟩ = some (.slice (some ⟨bl, 0, none⟩) g.length cl) from c0)
        have c0' : wr.drew.cell? ⟨bo, gs.length, none⟩ = some (.slice (some ⟨bl, 0, none⟩) g.length cl) := c0
        have c1' : wr.drew.cell? ⟨bl, 0, none⟩ = some (.int .i64 key) := c1
        have p0 : wr.drew.cell? ⟨gX, ox + k * 2, none⟩ = some (.int .i64 x1) := P0.out
        have p1 : wr.drew.cell? ⟨gX, ox + k * 2 + 1, none⟩ = some (.int .i64 x2) := P1.out
        have dg : decide ((0 : Int) < (gs.length : Int) + 1) = true := by rw [decide_eq_true_eq]; omega
        clear hG hkey hmath c0 c1 hlen
        by_cases hkx : x1 = key
        · have hm := HM.out
          rw [HDR.out, gcur, if_pos hkx] at hm
          have HM2 := Lib.hid hm
          subst hkx
          clear hm
          go_wp2_with fail
          go_region
          have hnx : ¬ (gX = bl ∨ gX = bo) := by have := HLT.out; omega
          have hhd : (g ++ [(x1, x2)]).head?.map Prod.fst = some x1 := by
            have h9 := HK.out
            cases g with
            | nil => simp at hgp
            | cons g0 g1 => simpa using h9
          have HK2 := Lib.hid hhd
          have HOX := Lib.hid (GG.out.last.alloc (.cells #[.int .i64 x1, .int .i64 x2] 24))
          have HRX2 := Lib.hid (reads_one wr (x1, x2) 24)
          have HSX2 := Lib.hid (show w2.heap.size ≤ (wr.alloc (.cells #[.int .i64 x1, .int .i64 x2] 24)).heap.size by rw [World.size_alloc]; omega)
          have BX2 := Lib.hid (HB.out.alloc hbs (.cells #[.int .i64 x1, .int .i64 x2] 24))
          have CA := Lib.hid (show (wr.alloc (.cells #[.int .i64 x1, .int .i64 x2] 24)).cell? ⟨bo, gs.length, none⟩ = some (.slice (some ⟨bl, 0, none⟩) g.length cl) from (Below.cell (alloc_below wr (.cells #[.int .i64 x1, .int .i64 x2] 24)) (p := ⟨bo, gs.length, none⟩) hob).trans C0.out)
          clear c1' hhd HRX HSX BXA dg
          go_wp2_with fail
          refine wp_region_R (R := RK (fun b => b = bl ∨ b = bo)) (n := 16) (by kernel_rfl) rfl ?_
          refine batchK [0, 1, 2, 3, 4, 5, 6, 8, 9, 10] (fuel := 6) rfl (by kernel_rfl) (by kernel_rfl) (fun _ _ d _ _ h => by cases d <;> exact h) ?_
          repeat (first | ((with_reducible apply wq0); rfl; rfl; rfl; intro K hK; go_big_quiet_op; refine hK _ ?_; clear hK K) | ((with_reducible apply wq1); rfl; rfl; rfl; rfl; rfl; rfl; intro K hK; go_big_quiet_op; refine hK _ ?_; clear hK K) | ((with_reducible apply wqs); rfl; rfl; rfl; rfl; rfl; rfl; simp only [Act.put, List.setIfInBounds_toArray, List.set_cons_zero, List.set_cons_succ]) | ((with_reducible apply wqu); rfl; rfl; rfl; rfl; rfl; simp only [same]) | ((with_reducible apply wqu); rfl; rfl; rfl; rfl; rfl; simp only [Act.put, List.setIfInBounds_toArray, List.set_cons_zero, List.set_cons_succ]))
          refine wqIdx_nil ?_
          refine batchK [11] (fuel := 5) rfl (by kernel_rfl) (by kernel_rfl) (fun _ _ d _ _ h => by cases d <;> exact h) ?_
          refine wqIdx_load rfl rfl rfl rfl (fun W hW => load_rec_at _ _ x1 x2 W (keep_cellK hW hnx p0) (keep_cellK hW hnx p1)) ?_
          simp only [Act.put, List.setIfInBounds_toArray, List.set_cons_zero, List.set_cons_succ]
          refine wqIdx_nil ?_
          clear c0' p0 p1
          refine steps_two (i := 7) (j := 12) (by kernel_rfl) ⟨_, rfl, fun K hK => ?_⟩ ⟨_, rfl, fun K hK => ?_⟩
          · have c0' := C0.out
            go_simp
            refine hK _ _ (RK.refl _ _) ?_
            clear hK K
            try simp only [Act.put, List.setIfInBounds_toArray, List.set_cons_zero, List.set_cons_succ]
            clear c0'
            refine wpAnyR_sole (i := 12) rfl (by kernel_rfl) (fun K hK => ?_)
            go_simp
            refine hK _ _ (rk_below (alloc_below _ _)) ?_
            clear hK K
            try simp only [Act.put, List.setIfInBounds_toArray, List.set_cons_zero, List.set_cons_succ]
            refine wpAnyR_sole (i := 13) rfl (by kernel_rfl) (fun K hK => ?_)
            rw [if_pos (wanted0 rfl _)]
            refine wp_appG _ (.tmp 42) (.tmp 47) _ rfl Try.underlying22 info_rec3 HOX.out HRX2.out 1 rfl rfl (by omega) HSX2.out ?_
            intro A5 c5 w5 o5 gr5
            refine hK _ _ (rk_grown (Grew.by_ gr5) fun i hi => .inl (by injection hi with hi; exact hi.symm)) ?_
            clear hK K
            have B5 := Lib.hid (BX2.out.grown (grown_of_drew (grown_of_drew (show (wr.alloc (.cells #[.int .i64 x1, .int .i64 x2] 24)).drew.drew.grownBy w5 _ from Grew.by_ gr5))) HSX2.out fun i hi => by injection hi with hi; rw [← hi]; exact hll)
            obtain ⟨k1, k2, k3, bl', rfl, gg⟩ := Grs.grow GG.out o5 (grew_of_drew (grew_of_drew (show Grew (wr.alloc (.cells #[.int .i64 x1, .int .i64 x2] 24)).drew.drew w5 _ _ from gr5)))
            have GG2 := Lib.hid gg
            have K3 := Lib.hid k3
            clear o5 gr5 gg k3
            try simp only [Act.put, List.setIfInBounds_toArray, List.set_cons_zero, List.set_cons_succ]
            refine batchK [14] (fuel := 1) rfl (by kernel_rfl) (by kernel_rfl) (fun _ _ d _ _ h => by cases d <;> exact h) ?_
            repeat (first | ((with_reducible apply wq0); rfl; rfl; rfl; intro K hK; go_big_quiet_op; refine hK _ ?_; clear hK K) | ((with_reducible apply wq1); rfl; rfl; rfl; rfl; rfl; rfl; intro K hK; go_big_quiet_op; refine hK _ ?_; clear hK K) | ((with_reducible apply wqs); rfl; rfl; rfl; rfl; rfl; rfl; simp only [Act.put, List.setIfInBounds_toArray, List.set_cons_zero, List.set_cons_succ]) | ((with_reducible apply wqu); rfl; rfl; rfl; rfl; rfl; simp only [same]) | ((with_reducible apply wqu); rfl; rfl; rfl; rfl; rfl; simp only [Act.put, List.setIfInBounds_toArray, List.set_cons_zero, List.set_cons_succ]))
            refine wqIdx_nil ?_
            refine wpAnyR_sole (i := 15) rfl (by kernel_rfl) (fun K hK => ?_)
            go_simp
            refine hK _ _ (rk_grown K3.out fun i hi => .inr (by injection hi with hi; exact hi.symm)) ?_
            clear hK K
            refine wpAnyR_done (by kernel_rfl) ?_ _
            go_wp2
            exact ⟨⟨k + 1, by omega, by go_num, B5.out.setCell hlo _, .inr ⟨gs, g ++ [(x1, x2)], x1, vs, bo, _, bl', c5, by omega, rfl, by omega, by rw [List.length_append, List.length_singleton]; omega, GG2.out, HK2.out, HM2.out⟩⟩, by simp [intOf]; omega⟩
          · go_simp
            refine hK _ _ (rk_below (alloc_below _ _)) ?_
            clear hK K
            try simp only [Act.put, List.setIfInBounds_toArray, List.set_cons_zero, List.set_cons_succ]
            refine wpAnyR_sole (i := 7) rfl (by kernel_rfl) (fun K hK => ?_)
            have c0' := CA.out
            go_simp
            refine hK _ _ (RK.refl _ _) ?_
            clear hK K
            try simp only [Act.put, List.setIfInBounds_toArray, List.set_cons_zero, List.set_cons_succ]
            clear c0'
            refine wpAnyR_sole (i := 13) rfl (by kernel_rfl) (fun K hK => ?_)
            rw [if_pos (wanted0 rfl _)]
            refine wp_appG _ (.tmp 42) (.tmp 47) _ rfl Try.underlying22 info_rec3 HOX.out HRX2.out 1 rfl rfl (by omega) HSX2.out ?_
            intro A5 c5 w5 o5 gr5
            refine hK _ _ (rk_grown (Grew.by_ gr5) fun i hi => .inl (by injection hi with hi; exact hi.symm)) ?_
            clear hK K
            have B5 := Lib.hid (BX2.out.grown (grown_of_drew (grown_of_drew (show (wr.alloc (.cells #[.int .i64 x1, .int .i64 x2] 24)).drew.drew.grownBy w5 _ from Grew.by_ gr5))) HSX2.out fun i hi => by injection hi with hi; rw [← hi]; exact hll)
            obtain ⟨k1, k2, k3, bl', rfl, gg⟩ := Grs.grow GG.out o5 (grew_of_drew (grew_of_drew (show Grew (wr.alloc (.cells #[.int .i64 x1, .int .i64 x2] 24)).drew.drew w5 _ _ from gr5)))
            have GG2 := Lib.hid gg
            have K3 := Lib.hid k3
            clear o5 gr5 gg k3
            try simp only [Act.put, List.setIfInBounds_toArray, List.set_cons_zero, List.set_cons_succ]
            refine batchK [14] (fuel := 1) rfl (by kernel_rfl) (by kernel_rfl) (fun _ _ d _ _ h => by cases d <;> exact h) ?_
            repeat (first | ((with_reducible apply wq0); rfl; rfl; rfl; intro K hK; go_big_quiet_op; refine hK _ ?_; clear hK K) | ((with_reducible apply wq1); rfl; rfl; rfl; rfl; rfl; rfl; intro K hK; go_big_quiet_op; refine hK _ ?_; clear hK K) | ((with_reducible apply wqs); rfl; rfl; rfl; rfl; rfl; rfl; simp only [Act.put, List.setIfInBounds_toArray, List.set_cons_zero, List.set_cons_succ]) | ((with_reducible apply wqu); rfl; rfl; rfl; rfl; rfl; simp only [same]) | ((with_reducible apply wqu); rfl; rfl; rfl; rfl; rfl; simp only [Act.put, List.setIfInBounds_toArray, List.set_cons_zero, List.set_cons_succ]))
            refine wqIdx_nil ?_
            refine wpAnyR_sole (i := 15) rfl (by kernel_rfl) (fun K hK => ?_)
            go_simp
            refine hK _ _ (rk_grown K3.out fun i hi => .inr (by injection hi with hi; exact hi.symm)) ?_
            clear hK K
            refine wpAnyR_done (by kernel_rfl) ?_ _
            go_wp2
            exact ⟨⟨k + 1, by omega, by go_num, B5.out.setCell hlo _, .inr ⟨gs, g ++ [(x1, x2)], x1, vs, bo, _, bl', c5, by omega, rfl, by omega, by rw [List.length_append, List.length_singleton]; omega, GG2.out, HK2.out, HM2.out⟩⟩, by simp [intOf]; omega⟩
        · have dk : (key == x1) = false := by rw [beq_eq_false_iff_ne]; exact fun e => hkx e.symm
          have hm := HM.out
          rw [HDR.out, gcur, if_neg hkx] at hm
          have HM2 := Lib.hid (show (gs ++ [g]) ++ gcur x1 [(x1, x2)] (X.drop (k + 1)) = G by rw [← hm]; simp)
          clear hm hkx
          go_wp2_with fail
          go_region
          clear c0' c1'
          have HO := Lib.hid ((GG.out.out.alloc (.cells #[.int .i64 x1, .int .i64 x2] 24)).alloc (.cells #[.slice (some ⟨wr.heap.size, 0, none⟩) 1 1] 22))
          go_wp2_with (at_builtin; (refine wpList_appV _ rfl (.tmp 50) (.tmp 56) _ rfl Try.underlying31 info_sl HO.out HRX.out 1 rfl rfl (by omega) HSX.out ?_); intro A5 c5 w5 o5 gr5; have O5 := Lib.hid o5; have G5 := Lib.hid gr5; clear o5 gr5)
          have B5 := Lib.hid (BXA.out.grown (grown_of_drew (Grew.by_ G5.out)) HSX.out fun i hi => by injection hi with hi; rw [← hi]; exact hlo)
          obtain ⟨bo', rfl, gg⟩ := Grs.more GG.out hbs O5.out (grew_of_drew G5.out)
          exact ⟨⟨k + 1, by omega, by go_num, B5.out, .inr ⟨gs ++ [g], [(x1, x2)], x1, vs ++ [.slice (some ⟨bl, 0, none⟩) g.length cl], bo', _, wr.heap.size, 1, by omega, by rw [List.length_append]; rfl, by rw [List.length_append, List.length_singleton]; omega, by simp, gg, rfl, HM2.out⟩⟩, by simp [intOf]; omega⟩
    · obtain rfl : k = X.length := by omega
      rcases hcase with ⟨hk0, rfl⟩ | ⟨gs, g, key, vs, bo, co, bl, cl, hk0, rfl, hgk, hgl, hG, hkey, hmath⟩
      · have hX0 := List.eq_nil_of_length_eq_zero hk0
        subst hX0
        have hg0 : G = [] := by rw [← HG0.out]; rfl
        subst hg0
        go_wp2
        go_ret
        exact ⟨none, 0, [], none, rfl, World.ownsRow_nil _ _ _ _, trivial, below_trans B2.out HB.out⟩
      · rw [List.drop_length, gcur] at hmath
        have hgl9 : G.length = gs.length + 1 := by rw [← hmath, List.length_append]; rfl
        have GG := Lib.hid hG
        have HM := Lib.hid hmath
        have HL := Lib.hid hgl9
        clear hG hmath hgl9
        go_wp2
        go_ret
        have hat : GrpAt wr none G (vs ++ [.slice (some ⟨bl, 0, none⟩) g.length cl]) := by
          obtain ⟨gl, -, sl, -, -, -⟩ := SlP.of_own GG.out.last
          rw [← HM.out]
          exact GG.out.rest.at_.snoc ⟨_, cl, gl, rfl, GG.out.some_, sl, by simp⟩
        refine ⟨_, co, _, none, by rw [HL.out]; rfl, ?_, hat, below_trans B2.out HB.out⟩
        rw [HL.out]
        exact own_mono GG.out.out B2.out.size
end Go.Proofs.Ytibhofdblfgkbaa
