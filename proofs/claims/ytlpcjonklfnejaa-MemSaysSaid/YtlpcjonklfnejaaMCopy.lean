/- Bytes laid into a page, a page cleared: the builtins copy and clear on memory. -/
import Derived.Test.YtlpcjonklfnejaaMMap
import Derived.Lib.BufferWrite
namespace Go.Proofs.Ytlpcjonklfnejaa
open Go.RowKit

/-- Bytes stand at an address on. -/
def writeBy (m : MS) (a : Nat) (l : List UInt8) : MS := { m with byte := fun x => if a ≤ x ∧ x < a + l.length then (l.getD (x - a) 0).toNat else m.byte x }

theorem row_write (m : MS) (n j : Nat) (l : List UInt8) (hn : n < 12) (hl : j + l.length ≤ 64) :
    ((VA 792 (cellM m)).toList.take (n * 66 + j) ++ Lib.byteCells l ++ (VA 792 (cellM m)).toList.drop (n * 66 + j + l.length)).toArray = VA 792 (cellM (writeBy m (n * 64 + j) l)) := by
  have hlen : (VA 792 (cellM m)).toList.length = 792 := by rw [Array.length_toList, VA_size]
  have hbl : (Lib.byteCells l).length = l.length := by simp [Lib.byteCells]
  apply Array.ext_getElem?
  intro i
  rw [List.getElem?_toArray]
  by_cases hi : i < 792
  · rw [VA_get 792 _ i hi]
    have hv : (VA 792 (cellM m)).toList[i]? = some (cellM m i) := by rw [Array.getElem?_toList, VA_get 792 _ i hi]
    by_cases h1 : i < n * 66 + j
    · rw [List.append_assoc, List.getElem?_append_left (by rw [List.length_take, hlen]; omega), List.getElem?_take, if_pos h1, hv]
      congr 1
      unfold cellM writeBy
      by_cases h6 : i % 66 < 64
      · rw [if_pos h6, if_pos h6]
        show _ = Value.int .u8 ((if n * 64 + j ≤ i / 66 * 64 + i % 66 ∧ i / 66 * 64 + i % 66 < n * 64 + j + l.length then _ else m.byte (i / 66 * 64 + i % 66) : Nat) : Int)
        rw [if_neg (by omega)]
      · rw [if_neg h6, if_neg h6]
    · by_cases h2 : i < n * 66 + j + l.length
      · have ht : ((VA 792 (cellM m)).toList.take (n * 66 + j)).length = n * 66 + j := by rw [List.length_take, hlen]; omega
        rw [List.append_assoc, List.getElem?_append_right (by rw [ht]; omega), ht, List.getElem?_append_left (by rw [hbl]; omega)]
        have hil : i - (n * 66 + j) < l.length := by omega
        have e1 : (Lib.byteCells l)[i - (n * 66 + j)]? = some (.int .u8 (l[i - (n * 66 + j)].toNat : Int)) := by
          unfold Lib.byteCells
          rw [List.getElem?_map, List.getElem?_eq_getElem hil]
          rfl
        rw [e1]
        congr 1
        unfold cellM writeBy
        rw [if_pos (by omega)]
        show _ = Value.int .u8 ((if n * 64 + j ≤ i / 66 * 64 + i % 66 ∧ i / 66 * 64 + i % 66 < n * 64 + j + l.length then (l.getD (i / 66 * 64 + i % 66 - (n * 64 + j)) 0).toNat else m.byte (i / 66 * 64 + i % 66) : Nat) : Int)
        rw [if_pos (by omega), show i / 66 * 64 + i % 66 - (n * 64 + j) = i - (n * 66 + j) by omega, List.getD_eq_getElem?_getD, List.getElem?_eq_getElem hil]
        rfl
      · have ht : ((VA 792 (cellM m)).toList.take (n * 66 + j) ++ Lib.byteCells l).length = n * 66 + j + l.length := by rw [List.length_append, List.length_take, hlen, hbl]; omega
        rw [List.getElem?_append_right (by rw [ht]; omega), ht, List.getElem?_drop, show n * 66 + j + l.length + (i - (n * 66 + j + l.length)) = i by omega, hv]
        congr 1
        unfold cellM writeBy
        by_cases h6 : i % 66 < 64
        · rw [if_pos h6, if_pos h6]
          show _ = Value.int .u8 ((if n * 64 + j ≤ i / 66 * 64 + i % 66 ∧ i / 66 * 64 + i % 66 < n * 64 + j + l.length then _ else m.byte (i / 66 * 64 + i % 66) : Nat) : Int)
          rw [if_neg (by omega)]
        · rw [if_neg h6, if_neg h6]
  · rw [VA_none 792 _ i hi, List.getElem?_eq_none]
    rw [List.length_append, List.length_append, List.length_take, List.length_drop, hlen, hbl]
    omega

theorem PW_store (B : MB) (m : MS) (k n j : Nat) (l : List UInt8) (hn : n < 12) (hl : j + l.length ≤ 64) :
    (storeCells ⟨B.g, n * 66 + j, none⟩ (Lib.byteCells l)).run Try.prog (PW B m k) = .ok () (PW B (writeBy m (n * 64 + j) l) k) := by
  have h := run_storeCells_at Try.prog B.g (n * 66 + j) 115 (Lib.byteCells l) 0 (VA 792 (cellM m)) (PW B m k) (PW_heap B m k) (by rw [VA_size]; simp [Lib.byteCells]; omega) (Lib.byteCells_one _)
  rw [Nat.add_zero, show (Lib.byteCells l).length = l.length by simp [Lib.byteCells], row_write m n j l hn hl] at h
  rw [h, PW_row]

/-- 'copy(p.bytes[j:], s)'. -/
theorem run_copy_page (B : MB) (m : MS) (k n j cap ty : Nat) (s : ByteArray) (hn : n < 12) (hj : j ≤ 64) :
    (Builtin.copy_ #[120, 9] ty #[.slice (some ⟨B.g, n * 66 + j, none⟩) (64 - j) cap, .string s]).run Try.prog (PW B m k) =
      .ok (goInt (Nat.min s.size (64 - j))) (PW B (writeBy m (n * 64 + j) (s.data.toList.take (Nat.min s.size (64 - j)))) k) := by
  have hs : (Try.prog.info? 5).map (·.size) = some 1 := by kernel_rfl
  have hst := PW_store B m k n j (s.data.toList.take (Nat.min s.size (64 - j))) hn (by have h1 := List.length_take_le (Nat.min s.size (64 - j)) s.data.toList; have h2 : Nat.min s.size (64 - j) ≤ 64 - j := Nat.min_le_right _ _; omega)
  have htk : List.take (Nat.min s.size (64 - j)) (List.map (fun b : UInt8 => Value.int IntKind.u8 (b.toNat : Int)) s.data.toList) = Lib.byteCells (s.data.toList.take (Nat.min s.size (64 - j))) := by
    unfold Lib.byteCells
    rw [List.map_take]
  cases hq : Try.prog.info? 5 with
  | none => simp [hq] at hs
  | some i =>
    simp [Builtin.copy_, run_underlying Try.underlying120, Builtin.lenOf, Builtin.firstCells, sizeOf, typeInfo, hq]
    rw [htk, hst]
    simp [Result.andThen]

/-- Sixty-four noughts. -/
def Z64 : List UInt8 := List.replicate 64 0
theorem Z64_len : Z64.length = 64 := by unfold Z64; rw [List.length_replicate]

/-- 'clear(p.bytes[:])'. -/
theorem run_clear_page (B : MB) (m : MS) (k n cap ty : Nat) (hn : n < 12) :
    (Builtin.clear_ #[120] ty #[.slice (some ⟨B.g, n * 66, none⟩) 64 cap]).run Try.prog (PW B m k) = .ok (.tuple #[]) (PW B (writeBy m (n * 64) Z64) k) := by
  have hst := PW_store B m k n 0 Z64 hn (by rw [Z64_len]; omega)
  rw [Nat.add_zero, Nat.add_zero] at hst
  have hz : (Builtin.zeroCells (Value.int IntKind.u8 0).cells 64).toList = Lib.byteCells Z64 := by kernel_rfl
  have hv : ∀ w, (zeroValue 5).run Try.prog w = .ok (.int .u8 0) w := Try.zeroValue5
  simp [Builtin.clear_, run_underlying Try.underlying120, hv, hz, hst, Result.andThen]

theorem wpList_copy_page {ops : Array Oper} {rest : List Oper} {o : Oper} {a : Act} {Q : Exit → Act → World → Prop} (hgd : o.guard = none) (d x : Operand)
    (ho : o.op = .call { callee := .builtin .copy, args := #[d, x], argTypes := #[120, 9] }) (B : MB) (m : MS) (k n j cap : Nat) (s : ByteArray) (hn : n < 12) (hj : j ≤ 64)
    (hd : a.eval d = .slice (some ⟨B.g, n * 66 + j, none⟩) (64 - j) cap) (hs : a.eval x = .string s)
    (h : wpList Try.prog ops Q rest (a.put o.dst (goInt (Nat.min s.size (64 - j)))) (PW B (writeBy m (n * 64 + j) (s.data.toList.take (Nat.min s.size (64 - j)))) k)) : wpList Try.prog ops Q (o :: rest) a (PW B m k) := by
  refine wpList_plain hgd fun K hK => ?_
  have hrun := run_copy_page B m k n j cap o.type s hn hj
  unfold Oper.wp
  simp [execOp, ho, resolve, invoke, builtin, hd, hs, hrun, Result.andThen]
  exact hK _ _ h

theorem wpList_clear_page {ops : Array Oper} {rest : List Oper} {o : Oper} {a : Act} {Q : Exit → Act → World → Prop} (hgd : o.guard = none) (d : Operand)
    (ho : o.op = .call { callee := .builtin .clear, args := #[d], argTypes := #[120] }) (B : MB) (m : MS) (k n cap : Nat) (hn : n < 12)
    (hd : a.eval d = .slice (some ⟨B.g, n * 66, none⟩) 64 cap)
    (h : wpList Try.prog ops Q rest (a.put o.dst (.tuple #[])) (PW B (writeBy m (n * 64) Z64) k)) : wpList Try.prog ops Q (o :: rest) a (PW B m k) := by
  refine wpList_plain hgd fun K hK => ?_
  have hrun := run_clear_page B m k n cap o.type hn
  unfold Oper.wp
  simp [execOp, ho, resolve, invoke, builtin, hd, hrun, Result.andThen]
  exact hK _ _ h
end Go.Proofs.Ytlpcjonklfnejaa
