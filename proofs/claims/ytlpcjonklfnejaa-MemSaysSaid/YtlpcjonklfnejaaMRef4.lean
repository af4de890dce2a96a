/- The document's Map. -/
import Derived.Test.YtlpcjonklfnejaaMRef3
import Derived.Deep.MidRow
namespace Go.Proofs.Ytlpcjonklfnejaa
open Go.RowKit
attribute [local go_sem] RW_drew RW_drewN RW_fro

/-- Noughts, j of them, from a on. -/
def zeroTo (r : RS) (a j : Nat) : RS := { r with by' := fun x => if a ≤ x ∧ x < a + j then 0 else r.by' x }
theorem zeroTo_step (r : RS) (a j : Nat) : zeroTo (setRB r a 0) (a + 1) j = zeroTo r a (j + 1) := by
  unfold zeroTo setRB
  congr 1
  funext x
  by_cases h : x = a
  · subst h; simp
  · by_cases h1 : a + 1 ≤ x ∧ x < a + 1 + j
    · rw [if_pos h1, if_pos (by omega)]
    · rw [if_neg h1, if_neg (by omega)]
      exact if_neg h
theorem zeroTo_zero (r : RS) (a : Nat) : zeroTo r a 0 = r := by
  unfold zeroTo
  have : (fun x => if a ≤ x ∧ x < a + 0 then 0 else r.by' x) = r.by' := by funext x; rw [if_neg (by omega)]
  rw [this]
theorem RW_zero (B : RB) (k : Nat) : ∀ (j : Nat) (r : RS) (a : Nat), (RW B r k).setCells B.g (12 + a) (List.replicate j (.int .u8 0)) = RW B (zeroTo r a j) k
  | 0, r, a => by rw [zeroTo_zero]; rfl
  | j + 1, r, a => by
    have h : (RW B r k).setCell ⟨B.g, 12 + a, none⟩ (.int .u8 0) = RW B (setRB r a 0) k := RW_set B r k (12 + a) _ (setRB r a 0) (updR_by r a 0)
    rw [List.replicate_succ, World.setCells, h, Nat.add_assoc, RW_zero B k j (setRB r a 0) (a + 1), zeroTo_step]
theorem setIs_again (r : RS) (n x y : Nat) : setIs (setIs r n x) n y = setIs r n y := by
  unfold setIs
  congr 1
  funext k
  by_cases h : k = n
  · simp [h]
  · simp [h]
theorem size_page : (Try.prog.info? 38).map (·.size) = some 64 := by kernel_rfl
/-- A page of noughts stored. -/
theorem wpList_zero_page {ops : Array Oper} {rest : List Oper} {o : Oper} {a : Act} {Q : Exit → Act → World → Prop} (hgd : o.guard = none) (x y : Operand) (ho : o.op = .store 38 x y)
    (B : RB) (r : RS) (k n : Nat) (hn : n < 12) (hx : a.eval x = .pointer (some ⟨B.g, 12 + n * 64, none⟩)) (hy : a.eval y = .agg (List.replicate 64 (.int .u8 0)).toArray)
    (h : wpList Try.prog ops Q rest (a.put o.dst undef) (RW B (zeroTo r (n * 64) 64) k)) : wpList Try.prog ops Q (o :: rest) a (RW B r k) := by
  refine wpList_store_mid (P := Try.prog) hgd 38 x y ho B.g (12 + n * 64) _ hx hy ?_ (by rw [size_page]; rfl) (all_oneCell_toArray fun v hv => by rw [List.eq_of_mem_replicate hv]; rfl) ?_
  · intro j hj
    have hj' : j < 64 := by simpa using hj
    exact ⟨by rw [RW_cell B r k _ (by omega)]; rfl, RW_fro B r k _⟩
  · rw [show (List.replicate 64 (Value.int .u8 0)).toArray.toList = List.replicate 64 (.int .u8 0) from rfl, RW_zero]
    exact h

theorem rmap_bad (B : RB) (r : RS) (k : Nat) (n : Int) (b : Bool) (hn : ¬ (0 ≤ n ∧ n ≤ 7)) :
    Calls Try.prog 22 #[.pointer (some ⟨B.g, 0, none⟩), .int .i64 n, .bool b] (RW B r k) fun e w' => e = .returned (.int .i64 5) ∧ w' = RW B r k := by
  by_cases h0 : n < 0
  · go_enter Try.func22, Try.ntmps22
    go_wp2
    go_ret
    exact ⟨rfl, rfl⟩
  · have h7 : 7 < n := by omega
    go_enter Try.func22, Try.ntmps22
    go_wp2
    go_ret
    exact ⟨rfl, rfl⟩
/-- A page mapped, as the document has it. -/
def rmapS (r : RS) (n : Nat) (b : Bool) : RS := setIs (if r.is n = 0 then zeroTo r (n * 64) 64 else r) n (if b then 2 else 1)
set_option maxRecDepth 20000 in
theorem rmap_ok (B : RB) (r : RS) (k n : Nat) (b : Bool) (hn : n < 8) :
    Calls Try.prog 22 #[.pointer (some ⟨B.g, 0, none⟩), .int .i64 n, .bool b] (RW B r k) fun e w' => e = .returned (.int .i64 0) ∧ w' = RW B (rmapS r n b) k := by
  have c1 := fun r => RW_is B r k n (by omega)
  have c2 := fun r x => RW_setIs B r k n x (by omega)
  have c3 := fun r => c2 r 1
  have c4 := fun r => c2 r 2
  have e1 : ((1 : Nat) : Int) = 1 := rfl
  have e2 : ((2 : Nat) : Int) = 2 := rfl
  rw [e1] at c3
  rw [e2] at c4
  clear c2 e1 e2
  by_cases h0 : r.is n = 0
  · have HS := hide (show rmapS r n b = setIs (zeroTo r (n * 64) 64) n (if b then 2 else 1) by unfold rmapS; rw [if_pos h0])
    have c0 := c1 r
    rw [h0] at c0
    cases b with
    | false =>
      go_enter Try.func22, Try.ntmps22
      go_wp2_with (refine wpList_zero_page rfl _ _ rfl B r k n (by omega) ?_ ?_ ?_; (· rfl); (· rfl))
      go_ret
      exact ⟨rfl, by rw [HS.out]; rfl⟩
    | true =>
      go_enter Try.func22, Try.ntmps22
      go_wp2_with (refine wpList_zero_page rfl _ _ rfl B r k n (by omega) ?_ ?_ ?_; (· rfl); (· rfl))
      go_ret
      exact ⟨rfl, by rw [HS.out, setIs_again]; rfl⟩
  · have HS := hide (show rmapS r n b = setIs r n (if b then 2 else 1) by unfold rmapS; rw [if_neg h0])
    have d : ((r.is n : Int) == 0) = false := by rw [beq_eq_false_iff_ne]; omega
    cases b with
    | false =>
      go_enter Try.func22, Try.ntmps22
      go_wp2
      go_ret
      exact ⟨rfl, by rw [HS.out]; rfl⟩
    | true =>
      go_enter Try.func22, Try.ntmps22
      go_wp2
      go_ret
      exact ⟨rfl, by rw [HS.out, setIs_again]; rfl⟩
end Go.Proofs.Ytlpcjonklfnejaa
