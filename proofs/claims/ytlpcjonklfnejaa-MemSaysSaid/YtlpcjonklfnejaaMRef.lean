/- The document's memory: cells by a function; Unmap, Byte, Free, Sealed. -/
import Derived.Test.YtlpcjonklfnejaaMArr
import Derived.Laws.CopyOwn
namespace Go.Proofs.Ytlpcjonklfnejaa
open Go.RowKit

/-- The document's memory: what each page is, the bytes by their addresses. -/
structure RS where
  is : Nat → Nat
  by' : Nat → Nat
def cellR (r : RS) (i : Nat) : Value := if i < 12 then .int .i64 (r.is i) else .int .u8 (r.by' (i - 12))
theorem cellR_is (r : RS) (n : Nat) (hn : n < 12) : cellR r n = .int .i64 (r.is n) := by unfold cellR; rw [if_pos hn]
theorem cellR_by (r : RS) (a : Nat) : cellR r (12 + a) = .int .u8 (r.by' a) := by unfold cellR; rw [if_neg (by omega), show 12 + a - 12 = a by omega]
def setIs (r : RS) (n x : Nat) : RS := { r with is := fun k => if k = n then x else r.is k }
def setRB (r : RS) (a x : Nat) : RS := { r with by' := fun k => if k = a then x else r.by' k }
theorem updR_is (r : RS) (n x : Nat) (hn : n < 12) : updV (cellR r) n (.int .i64 x) = cellR (setIs r n x) := by
  funext i
  unfold updV
  by_cases h : i = n
  · rw [if_pos h, h, cellR_is _ n hn]; simp [setIs]
  · rw [if_neg h]
    unfold cellR setIs
    by_cases h1 : i < 12
    · rw [if_pos h1, if_pos h1]
      show _ = Value.int .i64 ((if i = n then x else r.is i : Nat) : Int)
      rw [if_neg h]
    · rw [if_neg h1, if_neg h1]
theorem updR_by (r : RS) (a x : Nat) : updV (cellR r) (12 + a) (.int .u8 x) = cellR (setRB r a x) := by
  funext i
  unfold updV
  by_cases h : i = 12 + a
  · rw [if_pos h, h, cellR_by]; simp [setRB]
  · rw [if_neg h]
    unfold cellR setRB
    by_cases h1 : i < 12
    · rw [if_pos h1, if_pos h1]
    · rw [if_neg h1, if_neg h1]
      show _ = Value.int .u8 ((if i - 12 = a then x else r.by' (i - 12) : Nat) : Int)
      rw [if_neg (by omega)]

/-- The document's memory lies in block g. -/
def IsR (g : Nat) (r : RS) (W : World) : Prop := W.heap[g]? = some (.cells (VA 780 (cellR r)) 41 (0, 0))
structure RB where
  W : World
  g : Nat
  r0 : RS
  ok : IsR g r0 W
def RW (B : RB) (r : RS) (k : Nat) : World := (B.W.setRow B.g (VA 780 (cellR r))).drewN k
theorem RW_heap (B : RB) (r : RS) (k : Nat) : (RW B r k).heap[B.g]? = some (.cells (VA 780 (cellR r)) 41 (0, 0)) := setRow_heap _ _ _ _ _ _ B.ok
theorem RW_isR (B : RB) (r : RS) (k : Nat) : IsR B.g r (RW B r k) := RW_heap B r k
theorem RW_cell (B : RB) (r : RS) (k i : Nat) (hi : i < 780) : (RW B r k).cell? ⟨B.g, i, none⟩ = some (cellR r i) := by
  rw [cell_of_row _ _ i _ _ _ (RW_heap B r k), VA_get 780 _ i hi]
theorem RW_fro (B : RB) (r : RS) (k i : Nat) : (RW B r k).frozen? ⟨B.g, i, none⟩ = false := frozen_of_row _ _ i _ _ (RW_heap B r k)
theorem RW_row (B : RB) (r r' : RS) (k : Nat) : (RW B r k).setRow B.g (VA 780 (cellR r')) = RW B r' k := by
  unfold RW
  exact congrArg (World.drewN · k) (setRow_again B.W B.g _ _ _ _ B.ok)
theorem RW_set (B : RB) (r : RS) (k i : Nat) (v : Value) (r' : RS) (h : updV (cellR r) i v = cellR r') : (RW B r k).setCell ⟨B.g, i, none⟩ v = RW B r' k := by
  rw [setCell_eq_setRow _ _ i _ _ _ _ (RW_heap B r k), VA_set, h, RW_row]
theorem RW_is (B : RB) (r : RS) (k n : Nat) (hn : n < 12) : (RW B r k).cell? ⟨B.g, n, none⟩ = some (.int .i64 (r.is n)) := by rw [RW_cell B r k _ (by omega), cellR_is _ _ hn]
theorem RW_by (B : RB) (r : RS) (k n j : Nat) (hn : n < 12) (hj : j < 64) : (RW B r k).cell? ⟨B.g, 12 + n * 64 + j, none⟩ = some (.int .u8 (r.by' (n * 64 + j))) := by rw [RW_cell B r k _ (by omega), show 12 + n * 64 + j = 12 + (n * 64 + j) by omega, cellR_by]
theorem RW_setIs (B : RB) (r : RS) (k n x : Nat) (hn : n < 12) : (RW B r k).setCell ⟨B.g, n, none⟩ (.int .i64 x) = RW B (setIs r n x) k := RW_set B r k _ _ _ (updR_is r n x hn)
theorem RW_setBy (B : RB) (r : RS) (k n j x : Nat) : (RW B r k).setCell ⟨B.g, 12 + n * 64 + j, none⟩ (.int .u8 x) = RW B (setRB r (n * 64 + j) x) k := RW_set B r k _ _ _ (by rw [show 12 + n * 64 + j = 12 + (n * 64 + j) by omega]; exact updR_by r _ x)
theorem RW_drewN (B : RB) (r : RS) (k n : Nat) : (RW B r k).drewN n = RW B r (k + n) := by unfold RW; rw [World.drewN_drewN]
theorem RW_drew (B : RB) (r : RS) (k : Nat) : (RW B r k).drew = RW B r (k + 1) := RW_drewN B r k 1
theorem RW_of {g : Nat} {r : RS} {W : World} (h : IsR g r W) : W = RW ⟨W, g, r, h⟩ r 0 := by
  show W = (W.setRow g (VA 780 (cellR r))).drewN 0
  rw [show (W.setRow g (VA 780 (cellR r))) = W from setRow_self W g _ _ _ h]
  rfl
/-- Only block g has turned. -/
theorem RW_grown (B : RB) (r : RS) (k : Nat) : B.W.grownBy (RW B r k) (some B.g) :=
  ⟨rfl, rfl, rfl, by show B.W.heap.size ≤ (B.W.heap.modify _ _).size; rw [Array.size_modify]; exact Nat.le_refl _, fun j _ hne => by
    show (B.W.heap.modify _ _)[j]? = _
    rw [Array.getElem?_modify, if_neg (fun e => hne (by rw [e]))]⟩

attribute [local go_sem] RW_drew RW_drewN RW_fro
theorem runmap_bad (B : RB) (r : RS) (k : Nat) (n : Int) (hn : ¬ (0 ≤ n ∧ n ≤ 7)) :
    Calls Try.prog 24 #[.pointer (some ⟨B.g, 0, none⟩), .int .i64 n] (RW B r k) fun e w' => e = .returned (.int .i64 5) ∧ w' = RW B r k := by
  by_cases h0 : n < 0
  · go_enter Try.func24, Try.ntmps24
    go_wp2
    go_ret
    exact ⟨rfl, rfl⟩
  · have h7 : 7 < n := by omega
    go_enter Try.func24, Try.ntmps24
    go_wp2
    go_ret
    exact ⟨rfl, rfl⟩
theorem runmap_no (B : RB) (r : RS) (k n : Nat) (hn : n < 8) (h0 : r.is n = 0) :
    Calls Try.prog 24 #[.pointer (some ⟨B.g, 0, none⟩), .int .i64 n] (RW B r k) fun e w' => e = .returned (.int .i64 5) ∧ w' = RW B r k := by
  have c1 := RW_is B r k n (by omega)
  rw [h0] at c1
  go_enter Try.func24, Try.ntmps24
  go_wp2
  go_ret
  exact ⟨rfl, rfl⟩
theorem runmap_ok (B : RB) (r : RS) (k n : Nat) (hn : n < 8) (h0 : r.is n ≠ 0) :
    Calls Try.prog 24 #[.pointer (some ⟨B.g, 0, none⟩), .int .i64 n] (RW B r k) fun e w' => e = .returned (.int .i64 0) ∧ w' = RW B (setIs r n 0) k := by
  have c1 := RW_is B r k n (by omega)
  have c2 := RW_setIs B r k n 0 (by omega)
  have d : ((r.is n : Int) == 0) = false := by rw [beq_eq_false_iff_ne]; omega
  go_enter Try.func24, Try.ntmps24
  go_wp2
  go_ret
  exact ⟨rfl, c2⟩

/-- What may be read of the document's memory. -/
def rpeek (r : RS) (a : Nat) : Option Nat := if a < 768 ∧ r.is (a / 64) ≠ 0 then some (r.by' a) else none
def rbyteV : Option Nat → Value
  | none => .tuple #[.int .u8 0, .int .i64 5]
  | some x => .tuple #[.int .u8 x, .int .i64 0]
theorem rbyte_any (B : RB) (r : RS) (k a : Nat) (ha : a < 18446744073709551616) :
    Calls Try.prog 36 #[.pointer (some ⟨B.g, 0, none⟩), .int .u64 a] (RW B r k) fun e w' => e = .returned (rbyteV (rpeek r a)) ∧ w' = RW B r k := by
  unfold rpeek
  by_cases h : a < 768
  · have c1 := RW_is B r k (a / 64) (by omega)
    by_cases h0 : r.is (a / 64) = 0
    · rw [if_neg (fun e => e.2 h0)]
      rw [h0] at c1
      go_enter Try.func36, Try.ntmps36
      go_wp2
      go_ret2
      exact ⟨rfl, rfl⟩
    · rw [if_pos ⟨h, h0⟩]
      have d : ((r.is (a / 64) : Int) == 0) = false := by rw [beq_eq_false_iff_ne]; omega
      have c2 := RW_by B r k (a / 64) (a % 64) (by omega) (by omega)
      rw [show a / 64 * 64 + a % 64 = a by omega] at c2
      go_enter Try.func36, Try.ntmps36
      go_wp2
      go_ret2
      exact ⟨rfl, rfl⟩
  · rw [if_neg (fun e => h e.1)]
    obtain ⟨q, hq⟩ : ∃ q : Int, q = (a : Int) / 64 := ⟨_, rfl⟩
    have hw : IntKind.u64.wrap ((a : Int) / 64) = q := by rw [IntKind.wrap_u64, hq]; omega
    have h12 : (11 : Int) < q := by omega
    clear ha hq h
    go_enter Try.func36, Try.ntmps36
    go_wp2
    go_ret2
    exact ⟨rfl, rfl⟩
end Go.Proofs.Ytlpcjonklfnejaa
