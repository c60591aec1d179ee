/- Contracts of package rec: Encode. -/
import Derived.Test.YtibhofdblfgkbaaReF
import Derived.Test.YtibhofdblfgkbaaReR
namespace Go.Proofs.Ytibhofdblfgkbaa
open Go.RowKit Go.Sort

def recsB (l : List (Int × Int)) : List UInt8 := l.flatMap fun x => putMo x.1 x.2
theorem recsB_nil : recsB [] = [] := rfl
theorem recsB_cons (x : Int × Int) (l : List (Int × Int)) : recsB (x :: l) = putMo x.1 x.2 ++ recsB l := rfl
theorem recsB_take {l : List (Int × Int)} {k : Nat} {x : Int × Int} (h : l[k]? = some x) : recsB (l.take (k + 1)) = recsB (l.take k) ++ putMo x.1 x.2 := by
  unfold recsB
  rw [List.take_add_one, h, List.flatMap_append]
  simp
theorem putMo_le (x : Int × Int) (h : okRec x = true) : (putMo x.1 x.2).length ≤ 18 := by
  obtain ⟨a, b⟩ := x
  rw [okRec_iff] at h
  have l1 := putL_small2 a.toNat (by omega)
  have l2 := putL_small2 b.toNat (by omega)
  rw [show putMo (a, b).1 (a, b).2 = putL a.toNat ++ putL b.toNat from rfl, List.length_append]
  omega
theorem recsB_le : ∀ (l : List (Int × Int)), (∀ x ∈ l, okRec x = true) → (recsB l).length ≤ 18 * l.length
  | [], _ => by simp [recsB]
  | x :: l, h => by
    rw [recsB_cons, List.length_append, List.length_cons]
    have h1 := putMo_le x (h x (List.mem_cons_self ..))
    have h2 := recsB_le l fun y hy => h y (List.mem_cons_of_mem _ hy)
    omega
/-- A bag's bytes. -/
def encR (l : List (Int × Int)) : List UInt8 := putL l.length ++ recsB (srt l)
set_option maxRecDepth 100000 in
set_option maxHeartbeats 2000000 in
theorem rc_encode_no (A : Option Addr) (h : Nat) (l : List (Int × Int)) (c : Nat) (w : World) (hl : SlP w h A l) (hn : l.length ≤ 9223372036854775807) (h0 : mayE l ≠ 0) :
    Calls Try.prog 36 #[.slice A l.length c] w fun e w' => e = .returned (.tuple #[.slice none 0 0, .int .i64 (mayE l)]) ∧ Below w.heap.size w w' := by
  have P1 := Lib.hid (rc_sort_any A h l c w hl hn)
  have d1 : (mayE l == 0) = false := by simpa using h0
  clear hl
  generalize mayE l = z at P1 h0 d1
  have HZ := Lib.hid h0
  clear h0
  go_enter Try.func36, Try.ntmps36
  go_wp2_with fail
  refine P1.out.mono ?_; rintro e w0 (⟨-, rfl, b0⟩ | ⟨hz, -⟩)
  · go_wp2
    go_ret2
    exact ⟨rfl, b0⟩
  · exact absurd hz HZ.out
set_option maxRecDepth 100000 in
set_option maxHeartbeats 4000000 in
theorem rc_encode_ok (A : Option Addr) (h : Nat) (l : List (Int × Int)) (c : Nat) (w : World) (hl : SlP w h A l) (h0 : mayE l = 0) :
    Calls Try.prog 36 #[.slice A l.length c] w (PutAns w (encR l)) := by
  obtain ⟨hok, hn⟩ := mayE_ok h0
  have P1 := Lib.hid (rc_sort_any A h l c w hl (by omega))
  have hok' : ∀ x ∈ srt l, okRec x = true := fun x hx => hok x ((srt_perm l).mem_iff.1 hx)
  have hsl := srt_length l
  have P2 := Lib.hid (fun W => put_ok (l.length : Int) W (by omega) (by omega))
  rw [Int.toNat_natCast] at P2
  obtain ⟨M, hM⟩ : ∃ M, encR l = M := ⟨_, rfl⟩
  rw [hM]
  have hMM : putL l.length ++ recsB (srt l) = M := hM
  have hp9 := putL_small2 l.length (by omega)
  have H0 := Lib.hid h0
  clear hl hM h0
  go_enter Try.func36, Try.ntmps36
  go_wp2_with fail
  refine P1.out.mono ?_; rintro e w0 (⟨hz, -⟩ | ⟨-, AS, cS, rfl, hra⟩)
  · exact absurd H0.out hz
  · have hrs := hra.s
    clear hra
    obtain ⟨⟨gS, sS⟩, b0, -⟩ := hrs
    have SS := Lib.hid sS
    have B0 := Lib.hid b0
    rw [← hsl] at P2 hp9 hMM ⊢
    generalize srt l = S at SS hok' hsl P2 hp9 hMM ⊢
    have HOK := Lib.hid hok'
    have hn' : S.length ≤ 4096 := by omega
    clear sS b0 hok' hok hsl P1 hn H0
    go_wp2_with fail
    refine (P2.out _).mono ?_; rintro e w1 ⟨v1, rfl, o1, b1⟩
    obtain ⟨A1, c1, rfl⟩ := own_form o1
    have S1 := Lib.hid (SS.out.below b1)
    have hgs : S ≠ [] → gS < w0.heap.size := fun hne => (SS.out hne).1
    have B1 := Lib.hid (below_trans B0.out b1)
    have O1 := Lib.hid o1
    have b1s := b1.size
    have K1 := Lib.hid b1
    generalize putL S.length = p at O1 hp9 hMM
    have HMM := Lib.hid hMM
    clear hMM
    clear o1 b1
    go_wp2_with fail
    go_loopw [6, 28] (fun v i wr => ∃ (k : Nat) (A2 : Option Addr) (c2 : Nat) (xs : List UInt8), k ≤ S.length ∧ i = .int .i64 (k : Int) ∧ v = .slice A2 xs.length c2 ∧ wr.ownsRow w0.heap.size 5 1 v xs.length (Byt xs) ∧ xs = p ++ recsB (S.take k) ∧ xs.length ≤ 9 + 18 * k ∧ Below w0.heap.size w0 wr) (fun _ i _ => S.length - (intOf i).toNat)
    case atStart => exact ⟨0, A1, c1, p, Nat.zero_le _, rfl, rfl, O1.out, by simp [recsB], by omega, K1.out⟩
    case round =>
      obtain ⟨k, A2, c2, xs, hk, rfl, rfl, ho, hxs, hxl, hb⟩ := hrel
      have HO := Lib.hid ho
      have HB := Lib.hid hb
      have HXS := Lib.hid hxs
      clear ho hb hxs
      by_cases hlt : k < S.length
      · obtain ⟨x, hx⟩ : ∃ x, S[k]? = some x := ⟨_, List.getElem?_eq_getElem hlt⟩
        have hokx := HOK.out x (List.mem_of_getElem? hx)
        have HT := Lib.hid (recsB_take hx)
        have hle2 := putMo_le x hokx
        obtain ⟨x1, x2⟩ := x
        obtain ⟨-, o1, eA, p0, p1⟩ := (SS.out.below HB.out).at_ hx
        subst eA
        clear hx
        have PP := Lib.hid (fun W => rc_put_ok x1 x2 W hokx)
        generalize putMo x1 x2 = y at PP HT hle2
        have HB1 := Lib.hid (alloc_below wr (.cells #[.int .i64 x1, .int .i64 x2] 24))
        go_wp2_with fail
        refine (PP.out _).mono ?_; rintro e w4 ⟨A4, c4, rfl, o4, b4⟩
        have B4 := Lib.hid (below_trans HB1.out b4)
        have O2 := Lib.hid (own_bytes_reads o4)
        have O3 := Lib.hid (own_below HO.out B4.out)
        have HS := Lib.hid (show w0.heap.size ≤ w4.heap.size from Nat.le_trans HB.out.size B4.out.size)
        clear o4 b4
        go_wp2_with (at_builtin; (refine wpList_appB _ rfl (.tmp 37) (.tmp 38) _ rfl Try.underlying41 info_b O3.out O2.out c4 rfl rfl (by omega) HS.out ?_); intro A5 c5 w5 o5 gr5; have O5 := Lib.hid o5; have G5 := Lib.hid gr5; clear o5 gr5)
        have hlen : (xs ++ y).length = xs.length + y.length := List.length_append
        refine ⟨⟨k + 1, A5, c5, xs ++ y, by omega, by go_num, by rw [hlen], by rw [hlen]; exact O5.out, ?_, by rw [hlen]; omega, ?_⟩, by simp [intOf]; omega⟩
        · rw [HT.out, HXS.out, List.append_assoc]
        · exact (HB.out.trans (B4.out.mono HB.out.size)).grown (Grew.by_ G5.out) HS.out fun i hi => (World.ownsRow.lt O3.out i hi).1
      · obtain rfl : k = S.length := by omega
        have hxs := HXS.out
        rw [List.take_length] at hxs
        rw [HMM.out] at hxs
        subst hxs
        go_wp2
        go_ret2
        exact ⟨A2, c2, rfl, own_mono HO.out B0.out.size, below_trans B0.out HB.out⟩
end Go.Proofs.Ytibhofdblfgkbaa
