/- Contracts of the document's records: Encode. -/
import Derived.Test.YtibhofdblfgkbaaReN
namespace Go.Proofs.Ytibhofdblfgkbaa
open Go.RowKit Go.Sort

set_option maxRecDepth 100000 in
set_option maxHeartbeats 2000000 in
theorem rrc_encode_ok (A : Option Addr) (h : Nat) (l : List (Int × Int)) (c : Nat) (w : World) (hl : SlP w h A l) (hc : l.length ≤ c) (hm : c ≤ maxLen) (h0 : mayE l = 0) :
    Calls Try.prog 43 #[.slice A l.length c] w (Own1 w (encR l)) := by
  obtain ⟨hok, hn⟩ := mayE_ok h0
  have P1 := Lib.hid (rrc_sort_any l.length A h l c w (Nat.le_refl _) hl hc (by omega) hm)
  have hok' : ∀ x ∈ srt l, okRec x = true := fun x hx => hok x ((srt_perm l).mem_iff.1 hx)
  have hsl := srt_length l
  have P2 := Lib.hid (fun W => rput_any l.length W (by omega))
  obtain ⟨M, hM⟩ : ∃ M, encR l = M := ⟨_, rfl⟩
  rw [hM]
  have hMM : putL l.length ++ recsB (srt l) = M := hM
  have hp9 := putL_small2 l.length (by omega)
  clear hl hM h0 hc hm
  go_enter Try.func43, Try.ntmps43
  go_wp2_with fail
  refine P1.out.mono ?_; rintro e w0 ⟨AS, cS, rfl, hrs⟩
  · obtain ⟨⟨gS, sS⟩, b0, -⟩ := hrs
    have SS := Lib.hid sS
    have B0 := Lib.hid b0
    rw [← hsl] at P2 hp9 hMM ⊢
    generalize srt l = S at SS hok' hsl P2 hp9 hMM ⊢
    have HOK := Lib.hid hok'
    have hn' : S.length ≤ 4096 := by omega
    clear sS b0 hok' hok hsl P1 hn
    go_wp2_with fail
    refine (P2.out _).mono ?_; rintro e w1 ⟨v1, rfl, o1, b1⟩
    obtain ⟨A1, c1, rfl⟩ := own_form o1
    have S1 := Lib.hid (SS.out.below b1)
    have hgs : S ≠ [] → gS < w0.heap.size := fun hne => (SS.out hne).1
    have B1 := Lib.hid (below_trans B0.out b1)
    have O1 := Lib.hid o1
    have b1s := b1.size
    have K1 := Lib.hid b1
    generalize putL S.length = p at O1 hp9 hMM
    have HMM := Lib.hid hMM
    clear hMM
    clear o1 b1
    go_wp2_with fail
    go_loopw [4, 5] (fun v i wr => ∃ (k : Nat) (A2 : Option Addr) (c2 : Nat) (xs : List UInt8), k ≤ S.length ∧ i = .int .i64 (k : Int) ∧ v = .slice A2 xs.length c2 ∧ wr.ownsRow w0.heap.size 5 1 v xs.length (Byt xs) ∧ xs = p ++ recsB (S.take k) ∧ xs.length ≤ 9 + 18 * k ∧ Below w0.heap.size w0 wr) (fun _ i _ => S.length - (intOf i).toNat)
    case atStart => exact ⟨0, A1, c1, p, Nat.zero_le _, rfl, rfl, O1.out, by simp [recsB], by omega, K1.out⟩
    case round =>
      obtain ⟨k, A2, c2, xs, hk, rfl, rfl, ho, hxs, hxl, hb⟩ := hrel
      have HO := Lib.hid ho
      have HB := Lib.hid hb
      have HXS := Lib.hid hxs
      clear ho hb hxs
      by_cases hlt : k < S.length
      · obtain ⟨x, hx⟩ : ∃ x, S[k]? = some x := ⟨_, List.getElem?_eq_getElem hlt⟩
        have hokx := HOK.out x (List.mem_of_getElem? hx)
        have HT := Lib.hid (recsB_take hx)
        have hle2 := putMo_le x hokx
        obtain ⟨x1, x2⟩ := x
        obtain ⟨-, o1, eA, p0, p1⟩ := (SS.out.below HB.out).at_ hx
        subst eA
        clear hx
        have PP := Lib.hid (fun W => rrc_put x1 x2 W hokx)
        generalize putMo x1 x2 = y at PP HT hle2
        go_wp2_with fail
        refine (PP.out _).mono ?_; rintro e w4 ⟨v4, rfl, o4, b4⟩
        obtain ⟨A4, c4, rfl⟩ := own_form o4
        have B4 := Lib.hid b4
        have O2 := Lib.hid (own_bytes_reads o4)
        have O3 := Lib.hid (own_below HO.out B4.out)
        have HS := Lib.hid (show w0.heap.size ≤ w4.heap.size from Nat.le_trans HB.out.size B4.out.size)
        clear o4 b4
        go_wp2_with (at_builtin; (refine wpList_appB _ rfl (.tmp 17) (.tmp 22) _ rfl Try.underlying41 info_b O3.out O2.out c4 rfl rfl (by omega) HS.out ?_); intro A5 c5 w5 o5 gr5; have O5 := Lib.hid o5; have G5 := Lib.hid gr5; clear o5 gr5)
        have hlen : (xs ++ y).length = xs.length + y.length := List.length_append
        refine ⟨⟨k + 1, A5, c5, xs ++ y, by omega, by go_num, by rw [hlen], by rw [hlen]; exact O5.out, ?_, by rw [hlen]; omega, ?_⟩, by simp [intOf]; omega⟩
        · rw [HT.out, HXS.out, List.append_assoc]
        · exact (HB.out.trans (B4.out.mono HB.out.size)).grown (Grew.by_ G5.out) HS.out fun i hi => (World.ownsRow.lt O3.out i hi).1
      · obtain rfl : k = S.length := by omega
        have hxs := HXS.out
        rw [List.take_length] at hxs
        rw [HMM.out] at hxs
        subst hxs
        go_wp2
        go_ret
        exact ⟨_, rfl, own_mono HO.out B0.out.size, below_trans B0.out HB.out⟩
end Go.Proofs.Ytibhofdblfgkbaa
