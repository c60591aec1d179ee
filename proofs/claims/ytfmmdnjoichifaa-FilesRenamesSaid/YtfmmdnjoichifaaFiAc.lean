/- Contracts of a disk: bits of a sector are turned. -/
import Derived.Test.YtfmmdnjoichifaaFiZ
import Derived.Laws.BitsAllLaws
namespace Go.Proofs.Ytfmmdnjoichifaa
open Go.RowKit Go.Sort

def bitT (at' tn k : Nat) : UInt8 := UInt8.ofNat (((tn / 2 ^ k) % 2) * 2 ^ ((at' + k) % 8))
def turn1 (at' tn : Nat) (s : Sec) (k : Nat) : Sec := ⟨s.b.set ((at' + k) / 8) (s.b.getD ((at' + k) / 8) 0 ^^^ bitT at' tn k), by rw [List.length_set]; exact s.h⟩
def turnS (at' tn : Nat) (s : Sec) (n : Nat) : Sec := (List.range n).foldl (turn1 at' tn) s
theorem turnS_succ (at' tn : Nat) (s : Sec) (n : Nat) : turnS at' tn s (n + 1) = turn1 at' tn (turnS at' tn s n) n := by
  unfold turnS
  rw [List.range_succ, List.foldl_append]
  rfl
def secIn (cur : Array Value) (o : Nat) (s : Sec) : List Value := cur.toList.take o ++ encSec s ++ cur.toList.drop (o + 64)
theorem wqIdx_convV {P : Program} {l : List Oper} {S : World → Prop} {K : Act → Prop} {i : Nat} {is : List Nat} {o : Oper} {a : Act} {src dst : TypeId} {x : Operand} {X v : Value} (ho : l[i]? = some o) (hw : Region.wanted o (yielded l.toArray a.tmps) = true) (hop : o.op = .convert src dst x) (hx : a.eval x = X)
    (hc : ∀ w, (convert src dst X).run P w = .ok v w) (h : WQ P l.toArray S K is (a.put o.dst v)) : WQ P l.toArray S K (i :: is) a :=
  wqIdx_read ho hw (fun w _ => by obtain ⟨dst, op, type, pos, after, guard⟩ := o; subst hop; simp only [execOp, hx, Sem.run_bind, hc w, Result.andThen, Sem.run_pure]) h
set_option maxRecDepth 100000 in
theorem conv_bit (q : Nat) (hq : q < 2) (w : World) : (convert 83 5 (.int .u32 (q : Int))).run Try.prog w = .ok (.int .u8 (q : Int)) w := by
  match q, hq with
  | 0, _ => rfl
  | 1, _ => rfl
theorem gr_undrew {w w' : World} {row : Option Nat} (h : w.drew.grownBy w' row) : w.grownBy w' row := ⟨h.os, h.tape, h.output, h.size, h.block⟩
theorem secIn_cell {w : World} {g o : Nat} {s : Sec} {cur : Array Value} {t : TypeId} (h : w.heap[g]? = some (.cells (secIn cur o s).toArray t (0, 0))) (ho : o + 64 ≤ cur.size) (j : Nat) (hj : j < 64) :
    w.cell? ⟨g, o + j, none⟩ = some (.int .u8 ((s.b.getD j 0).toNat : Int)) := by
  rw [cell_of_row w g _ _ t (0, 0) h]
  unfold secIn
  rw [List.getElem?_toArray, List.append_assoc, List.getElem?_append_right (by rw [List.length_take]; omega), List.getElem?_append_left (by rw [List.length_take, Array.length_toList, laySec.len]; omega), List.length_take, Array.length_toList,
    show o + j - min o cur.size = j by omega]
  unfold encSec Byt
  rw [List.getElem?_map, List.getD_eq_getElem?_getD, List.getElem?_eq_getElem (by rw [s.h]; exact hj)]
  rfl
theorem secIn_set (cur : Array Value) (o : Nat) (s : Sec) (ho : o + 64 ≤ cur.size) (j : Nat) (hj : j < 64) (x : UInt8) (h : (s.b.set j x).length = 64) :
    (secIn cur o s).toArray.setIfInBounds (o + j) (.int .u8 (x.toNat : Int)) = (secIn cur o ⟨s.b.set j x, h⟩).toArray := by
  rw [List.setIfInBounds_toArray]
  congr 1
  unfold secIn
  have e : encSec ⟨s.b.set j x, h⟩ = (encSec s).set j (.int .u8 (x.toNat : Int)) := by
    unfold encSec Byt
    rw [List.map_set]
  rw [e, List.append_assoc, List.set_append, if_neg (by rw [List.length_take, Array.length_toList]; omega), List.set_append, if_pos (by rw [List.length_take, Array.length_toList, laySec.len]; omega), List.length_take, Array.length_toList,
    show o + j - min o cur.size = j by omega, List.append_assoc]
set_option maxRecDepth 100000 in
theorem turn_any (w : World) (g o : Nat) (s : Sec) (cur : Array Value) (t : TypeId) (at' tn : Nat) (hg : w.heap[g]? = some (.cells (secIn cur o s).toArray t (0, 0))) (ho : o + 64 ≤ cur.size) (ha : at' ≤ 480) (ht : tn < 4294967296) :
    Calls Try.prog 93 #[.pointer (some ⟨g, o, none⟩), .int .i64 (at' : Int), .int .u32 (tn : Int)] w fun e w' => e = .returned (.tuple #[]) ∧ w'.heap[g]? = some (.cells (secIn cur o (turnS at' tn s 32)).toArray t (0, 0)) ∧ w.grownBy w' (some g) := by
  have HG := Lib.hid hg
  clear hg
  go_enter Try.func93, Try.ntmps93
  go_wp2_with fail
  go_loopw [8] (fun i wr => ∃ k : Nat, k ≤ 32 ∧ i = .int .i64 (k : Int) ∧ RowKit.Hid (wr.heap[g]? = some (.cells (secIn cur o (turnS at' tn s k)).toArray t (0, 0))) ∧ RowKit.Hid (w.grownBy wr (some g))) (fun i _ => match i with | .int .i64 k => (32 - k).toNat | _ => 0)
  case atStart => exact ⟨0, by omega, rfl, HG, Lib.hid (World.grownBy.refl _ _)⟩
  case round =>
    obtain ⟨k, hk, rfl, HR, HGR⟩ := hrel
    by_cases hl : k < 32
    · have d1 : decide ((k : Int) < 32) = true := by rw [decide_eq_true_eq]; omega
      obtain ⟨q, hq⟩ : ∃ q, q = tn / 2 ^ k % 2 := ⟨_, rfl⟩
      have e1 : bits .and .u32 ((tn : Int) / 2 ^ k) 1 = (q : Int) := by
        rw [show (1 : Int) = ((1 : Nat) : Int) from rfl, show ((tn : Int) / 2 ^ k) = ((tn / 2 ^ k : Nat) : Int) by push_cast; rfl, u32_and_nat _ 1 (Nat.lt_of_le_of_lt (Nat.div_le_self _ _) ht) (by omega), hq]
        congr 1
        exact Nat.and_two_pow_sub_one_eq_mod _ 1
      have q2 : q < 2 := by omega
      have HQ := Lib.hid hq
      clear hq
      have e2 : bits .xor .u8 (((turnS at' tn s k).b[(at' + k) / 8]?.getD 0).toNat : Int) ((q : Int) * 2 ^ ((at' + k) % 8) % 256) = ((((turnS at' tn s k).b.getD ((at' + k) / 8) 0) ^^^ bitT at' tn k).toNat : Int) := by
        rw [show ((q : Int) * 2 ^ ((at' + k) % 8) % 256) = ((q * 2 ^ ((at' + k) % 8) % 256 : Nat) : Int) by push_cast; rfl, u8_xor_nat _ _ (UInt8.toNat_lt _) (Nat.mod_lt _ (by decide)), List.getD_eq_getElem?_getD, UInt8.toNat_xor]
        unfold bitT
        rw [HQ.out, UInt8.toNat_ofNat']
      have HC := Lib.hid (secIn_cell HR.out ho ((at' + k) / 8) (by omega))
      go_wp2_with fail
      refine wp_region_J RT [17] (n := 18) (by kernel_rfl) rfl ?_
      refine batchJ RT.refl [0, 1, 2, 3, 4, 5, 6, 7, 8, 9, 10, 11, 12, 13, 14, 15, 16] (fuel := 1) rfl (by kernel_rfl) (by kernel_rfl) (fun _ _ d _ _ h => by cases d <;> exact h) ?_
      (repeat (first | ((with_reducible apply wq0); rfl; rfl; rfl; intro K hK; go_big_quiet_op; refine hK _ ?_; clear hK K) | ((with_reducible apply wq1); rfl; rfl; rfl; rfl; rfl; rfl; intro K hK; go_big_quiet_op; refine hK _ ?_; clear hK K) | ((with_reducible apply wqs); rfl; rfl; rfl; rfl; rfl; rfl; simp only [Act.put, List.setIfInBounds_toArray, List.set_cons_zero, List.set_cons_succ]) | ((with_reducible apply wqu); rfl; rfl; rfl; rfl; rfl; (first | simp only [same, Act.put, List.setIfInBounds_toArray, List.set_cons_zero, List.set_cons_succ] | simp only [Act.put, List.setIfInBounds_toArray, List.set_cons_zero, List.set_cons_succ]))))
      refine wqIdx_nil_check rfl rfl rfl rfl ?_; simp only [Act.put, List.setIfInBounds_toArray, List.set_cons_zero, List.set_cons_succ]
      (repeat (first | ((with_reducible apply wq0); rfl; rfl; rfl; intro K hK; go_big_quiet_op; refine hK _ ?_; clear hK K) | ((with_reducible apply wq1); rfl; rfl; rfl; rfl; rfl; rfl; intro K hK; go_big_quiet_op; refine hK _ ?_; clear hK K) | ((with_reducible apply wqs); rfl; rfl; rfl; rfl; rfl; rfl; simp only [Act.put, List.setIfInBounds_toArray, List.set_cons_zero, List.set_cons_succ]) | ((with_reducible apply wqu); rfl; rfl; rfl; rfl; rfl; (first | simp only [same, Act.put, List.setIfInBounds_toArray, List.set_cons_zero, List.set_cons_succ] | simp only [Act.put, List.setIfInBounds_toArray, List.set_cons_zero, List.set_cons_succ]))))
      refine wqIdx_load rfl rfl rfl rfl (fun W hW => run_load1 (fun _ => by kernel_rfl) (keep_c hW (HC.out))) ?_; simp only [Act.put, List.setIfInBounds_toArray, List.set_cons_zero, List.set_cons_succ]
      (repeat (first | ((with_reducible apply wq0); rfl; rfl; rfl; intro K hK; go_big_quiet_op; refine hK _ ?_; clear hK K) | ((with_reducible apply wq1); rfl; rfl; rfl; rfl; rfl; rfl; intro K hK; go_big_quiet_op; refine hK _ ?_; clear hK K) | ((with_reducible apply wqs); rfl; rfl; rfl; rfl; rfl; rfl; simp only [Act.put, List.setIfInBounds_toArray, List.set_cons_zero, List.set_cons_succ]) | ((with_reducible apply wqu); rfl; rfl; rfl; rfl; rfl; (first | simp only [same, Act.put, List.setIfInBounds_toArray, List.set_cons_zero, List.set_cons_succ] | simp only [Act.put, List.setIfInBounds_toArray, List.set_cons_zero, List.set_cons_succ]))))
      refine wqIdx_convV rfl rfl rfl rfl (conv_bit q q2) ?_
      simp only [Act.put, List.setIfInBounds_toArray, List.set_cons_zero, List.set_cons_succ]
      (repeat (first | ((with_reducible apply wq0); rfl; rfl; rfl; intro K hK; go_big_quiet_op; refine hK _ ?_; clear hK K) | ((with_reducible apply wq1); rfl; rfl; rfl; rfl; rfl; rfl; intro K hK; go_big_quiet_op; refine hK _ ?_; clear hK K) | ((with_reducible apply wqs); rfl; rfl; rfl; rfl; rfl; rfl; simp only [Act.put, List.setIfInBounds_toArray, List.set_cons_zero, List.set_cons_succ]) | ((with_reducible apply wqu); rfl; rfl; rfl; rfl; rfl; (first | simp only [same, Act.put, List.setIfInBounds_toArray, List.set_cons_zero, List.set_cons_succ] | simp only [Act.put, List.setIfInBounds_toArray, List.set_cons_zero, List.set_cons_succ]))))
      refine wqIdx_nil_check rfl rfl rfl rfl ?_; simp only [Act.put, List.setIfInBounds_toArray, List.set_cons_zero, List.set_cons_succ]
      (repeat (first | ((with_reducible apply wq0); rfl; rfl; rfl; intro K hK; go_big_quiet_op; refine hK _ ?_; clear hK K) | ((with_reducible apply wq1); rfl; rfl; rfl; rfl; rfl; rfl; intro K hK; go_big_quiet_op; refine hK _ ?_; clear hK K) | ((with_reducible apply wqs); rfl; rfl; rfl; rfl; rfl; rfl; simp only [Act.put, List.setIfInBounds_toArray, List.set_cons_zero, List.set_cons_succ]) | ((with_reducible apply wqu); rfl; rfl; rfl; rfl; rfl; (first | simp only [same, Act.put, List.setIfInBounds_toArray, List.set_cons_zero, List.set_cons_succ] | simp only [Act.put, List.setIfInBounds_toArray, List.set_cons_zero, List.set_cons_succ]))))
      refine wqIdx_nil ?_
      have k7 : wr.drew.cell? ⟨g, o + (at' + k) / 8, none⟩ = some (.int .u8 ((turnS at' tn s k).b.getD ((at' + k) / 8) 0).toNat) := HC.out
      have z7 : wr.drew.frozen? ⟨g, o + (at' + k) / 8, none⟩ = false := Blk.frozen (t := t) (cs := (secIn cur o (turnS at' tn s k)).toArray) HR.out _
      refine wpAnyJ_sole (i := 17) rfl (by kernel_rfl) (fun K hK => ?_); go_simp
      refine hK _ _ ⟨fun hc => absurd (by decide) hc, trivial⟩ ?_
      clear hK K k7 z7
      have hb : wr.drew.heap[g]? = some (.cells (secIn cur o (turnS at' tn s k)).toArray t (0, 0)) := HR.out
      have hs := Blk.set_ (t := t) hb (o + (at' + k) / 8) (.int .u8 ((((turnS at' tn s k).b.getD ((at' + k) / 8) 0) ^^^ bitT at' tn k).toNat : Int))
      rw [secIn_set cur o _ ho _ (by omega) _ (by rw [List.length_set]; exact (turnS at' tn s k).h)] at hs
      have hs2 : (wr.drew.setCell ⟨g, o + (at' + k) / 8, none⟩ (.int .u8 ((((turnS at' tn s k).b.getD ((at' + k) / 8) 0) ^^^ bitT at' tn k).toNat : Int))).heap[g]? = some (.cells (secIn cur o (turnS at' tn s (k + 1))).toArray t (0, 0)) := by
        rw [turnS_succ]
        exact hs
      have hg2 := (gr_trans HGR.out (gr_undrew (gr_set wr.drew g (o + (at' + k) / 8) (.int .u8 ((((turnS at' tn s k).b.getD ((at' + k) / 8) 0) ^^^ bitT at' tn k).toNat : Int)))))
      rw [UInt8.toNat_xor, List.getD_eq_getElem?_getD] at hs2 hg2
      have HS := Lib.hid hs2
      have HG2 := Lib.hid hg2
      clear hs hs2 hg2 hb HC HR HGR
      refine wpAnyJ_done (by kernel_rfl) ?_ _
      go_wp2
      exact ⟨⟨k + 1, by omega, by go_num, HS.out, HG2.out⟩, by show (32 - ((k : Int) + 1)).toNat < (32 - (k : Int)).toNat; omega⟩
    · have d1 : decide ((k : Int) < 32) = false := by rw [decide_eq_false_iff_not]; omega
      obtain rfl : k = 32 := by omega
      go_wp2_with fail
      go_end0
      exact ⟨rfl, HR.out, HGR.out⟩
end Go.Proofs.Ytfmmdnjoichifaa
