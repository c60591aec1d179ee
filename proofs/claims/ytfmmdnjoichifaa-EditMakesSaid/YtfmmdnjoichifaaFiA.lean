/- A disk in memory: its sectors, what is pending, its files. -/
import Derived.Test.YtfmmdnjoichifaaFiM
import Derived.Test.YtfmmdnjoichifaaSk
import Derived.Test.YtfmmdnjoichifaaRegJ
import Derived.Test.YtfmmdnjoichifaaNumA
namespace Go.Proofs.Ytfmmdnjoichifaa
open Go.RowKit Go.Sort

theorem al_below (w : World) (o : Obj) : Below w.heap.size w (w.alloc o) := (Below.refl _ _).alloc (Nat.le_refl _) _
theorem dr_below {B : Nat} {w w' : World} (h : Below B w w') : Below B w w'.drew := ⟨h.os, h.tape, h.output, h.size, h.block⟩
structure Sec where
  b : List UInt8
  h : b.length = 64
def encSec (s : Sec) : List Value := Byt s.b
theorem laySec : Lay Sec encSec 64 := ⟨fun s => by unfold encSec; rw [Byt_length]; exact s.h, fun s u hu => Byt_one s.b u hu, by decide⟩
structure Wr where
  f : Nat
  i : Nat
  b : Sec
def encWr (x : Wr) : List Value := .pointer (some ⟨x.f, 0, none⟩) :: .int .i64 (x.i : Int) :: encSec x.b
theorem layWr : Lay Wr encWr 66 := ⟨fun x => by unfold encWr; rw [List.length_cons, List.length_cons, laySec.len], fun x u hu => by
  unfold encWr at hu
  rcases List.mem_cons.1 hu with rfl | hu
  · rfl
  · rcases List.mem_cons.1 hu with rfl | hu
    · rfl
    · exact laySec.one _ u hu, by decide⟩
structure Fi where
  blk : Nat
  name : Nm
  now : List Sec
  kept : List Sec
structure Dk where
  limit : Int
  fs : List Fi
  pend : List Wr
  off : Bool
  stops : Bool
  others : Int
abbrev slN (A : Option Addr) (l : List Sec) (c : Nat) : Value := .slice A l.length c
def SecRow (w : World) (base : Nat) (v : Value) (l : List Sec) : Prop := w.ownsRow base 94 64 v l.length (RowV encSec l)
/-- A file in memory; whose row is whose. -/
def FileR (w : World) (base : Nat) (role : Nat → Nat) (f : Fi) : Prop :=
  ∃ nA nc kA kc, Blk w f.blk 90 #[strV f.name, slN nA f.now nc, slN kA f.kept kc] ∧ base ≤ f.blk ∧ SecRow w base (slN nA f.now nc) f.now ∧ SecRow w base (slN kA f.kept kc) f.kept ∧
    (∀ g, (slN nA f.now nc).ownBlock = some g → role g = 2 * f.blk) ∧ (∀ g, (slN kA f.kept kc).ownBlock = some g → role g = 2 * f.blk + 1)
def nmOf (fs : List Fi) : List (Nm × Nat) := fs.map fun f => (f.name, f.blk)
/-- Block d is a disk, its map is block m. -/
structure DiskR (w : World) (base d m : Nat) (D : Dk) : Prop where
  hd : base ≤ d
  hm : base ≤ m
  map : MapR w m (nmOf D.fs)
  top : ∃ pA pc, Blk w d 80 #[.int .i64 D.limit, .map (some m), .slice pA D.pend.length pc, .bool D.off, .bool D.stops, .int .i64 D.others] ∧ w.ownsRow base 96 66 (.slice pA D.pend.length pc) D.pend.length (RowV encWr D.pend)
  files : ∃ role, ∀ f ∈ D.fs, FileR w base role f
  own : ∀ p ∈ D.pend, p.i ≤ 16384 ∧ ∃ f ∈ D.fs, f.blk = p.f
  apart : D.fs.Pairwise fun f g => f.blk ≠ g.blk
  small : ∀ f ∈ D.fs, f.now.length ≤ 16385 ∧ f.kept.length ≤ 16385 ∧ 1 ≤ f.name.length ∧ f.name.length ≤ 24
  lim : 0 ≤ D.limit ∧ D.limit ≤ 16384 ∧ 0 ≤ D.others ∧ D.others < 9223372036854775808 ∧ D.fs.length ≤ 256
/-- A block of a disk's. -/
def DTy (w : World) (m k : Nat) : Prop := k = m ∨ ∃ cs t, w.heap[k]? = some (.cells cs t (0, 0)) ∧ (t = 80 ∨ t = 96 ∨ t = 90 ∨ t = 94)
/-- What a disk's call leaves as it was. -/
def DF (base m : Nat) (w w' : World) : Prop := w'.os = w.os ∧ w'.tape = w.tape ∧ w'.output = w.output ∧ w.heap.size ≤ w'.heap.size ∧ ∀ k, k < w.heap.size → (k < base ∨ ¬ DTy w m k) → w'.heap[k]? = w.heap[k]?
section
variable {w w' w1 w2 : World} {base d m : Nat} {D : Dk}
theorem DF.refl (w : World) : DF base m w w := ⟨rfl, rfl, rfl, Nat.le_refl _, fun _ _ _ => rfl⟩
theorem DF.trans (h : DF base m w w1) (k : DF base m w1 w2) : DF base m w w2 :=
  ⟨k.1.trans h.1, k.2.1.trans h.2.1, k.2.2.1.trans h.2.2.1, Nat.le_trans h.2.2.2.1 k.2.2.2.1, fun i hi hs => by
    have e := h.2.2.2.2 i hi hs
    refine (k.2.2.2.2 i (Nat.lt_of_lt_of_le hi h.2.2.2.1) ?_).trans e
    rcases hs with hs | hs
    · exact .inl hs
    · refine .inr fun hd => hs ?_
      rcases hd with hd | ⟨cs, t, hc, ht⟩
      · exact .inl hd
      · exact .inr ⟨cs, t, e.symm.trans hc, ht⟩⟩
theorem DF.of_below (h : Below w.heap.size w w') : DF base m w w' := ⟨h.os, h.tape, h.output, h.size, fun i hi _ => h.block i hi⟩
theorem DF.of_grown {row : Option Nat} (h : w.grownBy w' row) (hr : ∀ g, row = some g → base ≤ g ∧ DTy w m g) : DF base m w w' :=
  ⟨h.os, h.tape, h.output, h.size, fun i hi hs => h.block i hi fun e => by
    obtain ⟨h1, h2⟩ := hr i e.symm
    rcases hs with hs | hs
    · omega
    · exact hs h2⟩
theorem DF.below (h : DF base m w w') (hb : base ≤ w.heap.size) : Below base w w' := ⟨h.1, h.2.1, h.2.2.1, h.2.2.2.1, fun i hi => h.2.2.2.2 i (Nat.lt_of_lt_of_le hi hb) (.inl hi)⟩
theorem DF.size (h : DF base m w w') : w.heap.size ≤ w'.heap.size := h.2.2.2.1
theorem DF.drew (h : DF base m w w') : DF base m w w'.drew := h
/-- A block of a file's. -/
def KTy (w : World) (k : Nat) : Prop := ∃ cs t, w.heap[k]? = some (.cells cs t (0, 0)) ∧ (t = 90 ∨ t = 94)
/-- What a call on files leaves as it was: all but files and their rows. -/
def KF (base : Nat) (w w' : World) : Prop := w'.os = w.os ∧ w'.tape = w.tape ∧ w'.output = w.output ∧ w.heap.size ≤ w'.heap.size ∧ ∀ k, k < w.heap.size → (k < base ∨ ¬ KTy w k) → w'.heap[k]? = w.heap[k]?
theorem KF.refl (w : World) : KF base w w := ⟨rfl, rfl, rfl, Nat.le_refl _, fun _ _ _ => rfl⟩
theorem KF.trans (h : KF base w w1) (k : KF base w1 w2) : KF base w w2 :=
  ⟨k.1.trans h.1, k.2.1.trans h.2.1, k.2.2.1.trans h.2.2.1, Nat.le_trans h.2.2.2.1 k.2.2.2.1, fun i hi hs => by
    have e := h.2.2.2.2 i hi hs
    refine (k.2.2.2.2 i (Nat.lt_of_lt_of_le hi h.2.2.2.1) ?_).trans e
    rcases hs with hs | hs
    · exact .inl hs
    · exact .inr fun ⟨cs, t, hc, ht⟩ => hs ⟨cs, t, e.symm.trans hc, ht⟩⟩
theorem KF.of_below (h : Below w.heap.size w w') : KF base w w' := ⟨h.os, h.tape, h.output, h.size, fun i hi _ => h.block i hi⟩
theorem KF.of_grown {row : Option Nat} (h : w.grownBy w' row) (hr : ∀ g, row = some g → base ≤ g ∧ KTy w g) : KF base w w' :=
  ⟨h.os, h.tape, h.output, h.size, fun i hi hs => h.block i hi fun e => by
    obtain ⟨h1, h2⟩ := hr i e.symm
    rcases hs with hs | hs
    · omega
    · exact hs h2⟩
theorem KF.size (h : KF base w w') : w.heap.size ≤ w'.heap.size := h.2.2.2.1
theorem KF.drew (h : KF base w w') : KF base w w'.drew := h
theorem KF.df (h : KF base w w') : DF base m w w' := ⟨h.1, h.2.1, h.2.2.1, h.2.2.2.1, fun k hk hs => h.2.2.2.2 k hk (hs.imp id fun hn ⟨cs, t, hc, ht⟩ => hn (.inr ⟨cs, t, hc, .inr (.inr ht)⟩))⟩
theorem KF.same {g : Nat} (h : KF base w w') (hg : g < w.heap.size) (hk : ¬ KTy w g) : w'.heap[g]? = w.heap[g]? := h.2.2.2.2 g hg (.inr hk)
theorem KF.blk {g : Nat} {t : TypeId} {cs : Array Value} (h : KF base w w') (hb : Blk w g t cs) (ht : t ≠ 90 ∧ t ≠ 94) : Blk w' g t cs :=
  (h.same hb.lt fun ⟨cs', t', hc, hd⟩ => by
    have := (show w.heap[g]? = some (.cells cs t (0, 0)) from hb).symm.trans hc
    injection this with this
    injection this with _ e
    subst e
    rcases hd with e | e
    · exact ht.1 e
    · exact ht.2 e).trans hb
theorem DF.blk {g : Nat} {t : TypeId} {cs : Array Value} (h : DF base m w w') (hb : Blk w g t cs) (hm : g ≠ m) (ht : t ≠ 80 ∧ t ≠ 96 ∧ t ≠ 90 ∧ t ≠ 94) : Blk w' g t cs :=
  (h.2.2.2.2 g hb.lt (.inr fun hd => by
    rcases hd with hd | ⟨cs', t', hc, hd⟩
    · exact hm hd
    · have := (show w.heap[g]? = some (.cells cs t (0, 0)) from hb).symm.trans hc
      injection this with this
      injection this with _ e
      subst e
      rcases hd with e | e | e | e
      · exact ht.1 e
      · exact ht.2.1 e
      · exact ht.2.2.1 e
      · exact ht.2.2.2 e)).trans hb
theorem dty_blk {g : Nat} {t : TypeId} {cs : Array Value} (hb : Blk w g t cs) (ht : t = 80 ∨ t = 96 ∨ t = 90 ∨ t = 94) : DTy w m g := .inr ⟨cs, t, hb, ht⟩
theorem dty_own {e size n : Nat} {v : Value} {xs : List Value} (h : w.ownsRow base e size v n xs) (ht : e = 80 ∨ e = 96 ∨ e = 90 ∨ e = 94) : ∀ g, v.ownBlock = some g → base ≤ g ∧ DTy w m g := by
  intro g hg
  refine ⟨(World.ownsRow.lt h g hg).1, ?_⟩
  rcases h.2 with ⟨rfl, _⟩ | ⟨g', cap, cur, rfl, _, hh, _⟩
  · cases hg
  · injection hg with hg
    subst hg
    exact .inr ⟨cur, e, hh, ht⟩
theorem kty_blk {g : Nat} {t : TypeId} {cs : Array Value} (hb : Blk w g t cs) (ht : t = 90 ∨ t = 94) : KTy w g := ⟨cs, t, hb, ht⟩
theorem kty_own {e size n : Nat} {v : Value} {xs : List Value} (h : w.ownsRow base e size v n xs) (ht : e = 90 ∨ e = 94) : ∀ g, v.ownBlock = some g → base ≤ g ∧ KTy w g := by
  intro g hg
  refine ⟨(World.ownsRow.lt h g hg).1, ?_⟩
  rcases h.2 with ⟨rfl, _⟩ | ⟨g', cap, cur, rfl, _, hh, _⟩
  · cases hg
  · injection hg with hg
    subst hg
    exact ⟨cur, e, hh, ht⟩
theorem own_blk {e size n g : Nat} {v : Value} {xs : List Value} (h : w.ownsRow base e size v n xs) (hg : v.ownBlock = some g) : ∃ cur, Blk w g e cur := by
  rcases h.2 with ⟨rfl, _⟩ | ⟨g', cap, cur, rfl, _, hh, _⟩
  · cases hg
  · injection hg with hg
    subst hg
    exact ⟨cur, hh⟩
theorem own_ne_blk {e size n g : Nat} {v : Value} {xs : List Value} {t : TypeId} {c : Array Value} (h : w.ownsRow base e size v n xs) (hb : Blk w g t c) (hne : e ≠ t) : v.ownBlock ≠ some g := fun hg => by
  obtain ⟨cur, h1⟩ := own_blk h hg
  exact Blk.ne_ h1 hb hne rfl
theorem map_ne_blk {g : Nat} {t : TypeId} {c : Array Value} {fs : List (Nm × Nat)} (h : MapR w m fs) (hb : Blk w g t c) : g ≠ m := by
  obtain ⟨es, clock, h1⟩ := h.isMap
  rintro rfl
  unfold Blk at hb
  rw [h1] at hb
  cases hb
/-- A file stays while another block is written. -/
theorem FileR.kept {role : Nat → Nat} {f : Fi} {row : Option Nat} (h : FileR w base role f) (hg : w.grownBy w' row) (h1 : row ≠ some f.blk)
    (h2 : ∀ g, row = some g → (∃ t c, Blk w g t c ∧ t ≠ 94) ∨ (¬ ∃ t c, Blk w g t c) ∨ (role g ≠ 2 * f.blk ∧ role g ≠ 2 * f.blk + 1)) : FileR w' base role f := by
  obtain ⟨nA, nc, kA, kc, hb, hbase, hn, hk, rn, rk⟩ := h
  have key : ∀ (v : Value) (l : List Sec), SecRow w base v l → (∀ g, v.ownBlock = some g → role g = 2 * f.blk ∨ role g = 2 * f.blk + 1) → SecRow w' base v l := fun v l hs hr => by
    refine hs.kept hg ?_
    cases hv : v.ownBlock with
    | none => exact .inl rfl
    | some g =>
      refine .inr fun e => ?_
      obtain ⟨cur, hc⟩ := own_blk hs hv
      rcases h2 g e.symm with ⟨t, c, h3, h4⟩ | h3 | ⟨h3, h4⟩
      · exact Blk.ne_ h3 hc h4 rfl
      · exact h3 ⟨_, cur, hc⟩
      · rcases hr g hv with h5 | h5
        · exact h3 h5
        · exact h4 h5
  exact ⟨nA, nc, kA, kc, hb.grown hg (Ne.symm h1), hbase, key _ _ hn fun g hg => .inl (rn g hg), key _ _ hk fun g hg => .inr (rk g hg), rn, rk⟩
theorem FileR.below {role : Nat → Nat} {f : Fi} (h : FileR w base role f) (hb : Below w.heap.size w w') : FileR w' base role f := by
  obtain ⟨nA, nc, kA, kc, h0, hbase, hn, hk, rn, rk⟩ := h
  exact ⟨nA, nc, kA, kc, h0.below hb h0.lt, hbase, own_below hn hb, own_below hk hb, rn, rk⟩
theorem FileR.role {role role' : Nat → Nat} {f : Fi} (h : FileR w base role f) (hr : ∀ g, g < w.heap.size → role' g = role g) : FileR w base role' f := by
  obtain ⟨nA, nc, kA, kc, h0, hbase, hn, hk, rn, rk⟩ := h
  exact ⟨nA, nc, kA, kc, h0, hbase, hn, hk, fun g hg => (hr g (World.ownsRow.lt hn g hg).2).trans (rn g hg), fun g hg => (hr g (World.ownsRow.lt hk g hg).2).trans (rk g hg)⟩
theorem DiskR.below (h : DiskR w base d m D) (hb : Below w.heap.size w w') : DiskR w' base d m D := by
  obtain ⟨h1, h2, h3, ⟨pA, pc, h4, h5⟩, ⟨role, h6⟩, h7, h8, h9, h10⟩ := h
  exact ⟨h1, h2, h3.below hb, ⟨pA, pc, h4.below hb h4.lt, own_below h5 hb⟩, ⟨role, fun f hf => (h6 f hf).below hb⟩, h7, h8, h9, h10⟩
theorem DiskR.drew (h : DiskR w base d m D) : DiskR w.drew base d m D := h.below (dr_below (Below.refl _ _))
end
end Go.Proofs.Ytfmmdnjoichifaa
