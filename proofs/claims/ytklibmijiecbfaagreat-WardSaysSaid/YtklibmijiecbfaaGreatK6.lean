/- policy.Check: what a cond's op does not use. -/
import Derived.Test.YtklibmijiecbfaaGreatK5
namespace Go.Proofs.YtklibmijiecbfaaGreat
open Go.RowKit

set_option maxHeartbeats 4000000 in
set_option maxRecDepth 100000 in
theorem hasUnused_seven (arg vi mi ii b lo hi : Int) (g : ByteArray) (w : World) : Calls Tryz.prog 103 #[.agg #[.int .i64 arg, .int .i64 7, .int .u64 vi, .int .u64 mi, .string g, .int .u32 ii, .int .i64 b, .int .i64 lo, .int .i64 hi]] w fun e w' => (∃ z, e = .returned (.bool z) ∧ (z = true ↔ g.toList ≠ [] ∨ ¬ (ii = 0 ∧ b = 0 ∧ lo = 0 ∧ hi = 0))) ∧ Below w.heap.size w w' := by
 have HK : ∀ w, Calls Tryz.prog 102 #[.int .i64 7] w fun e w' => e = .returned (.int .i64 1) ∧ w' = w := fun w => by
  have h := kindOf_any 7 w
  rwa [show ((kindOp 7 : Nat) : Int) = 1 by simp [kindOp]] at h
 go_enter Tryz.func103, Tryz.ntmps103
 go_wp2_with (go_at_call 102; refine (HK _).mono ?_; rintro e w' ⟨rfl, rfl⟩)
 all_goals
  go_ret
  refine ⟨⟨_, rfl, ?_⟩, box_below _ _⟩
 all_goals
  clear HK
  first
  | (simp_all; done)
  | (simp_all; omega)
set_option maxHeartbeats 4000000 in
set_option maxRecDepth 100000 in
theorem hasUnused_eight (arg vi mi ii b lo hi : Int) (g : ByteArray) (w : World) : Calls Tryz.prog 103 #[.agg #[.int .i64 arg, .int .i64 8, .int .u64 vi, .int .u64 mi, .string g, .int .u32 ii, .int .i64 b, .int .i64 lo, .int .i64 hi]] w fun e w' => (∃ z, e = .returned (.bool z) ∧ (z = true ↔ mi ≠ 0 ∨ vi ≠ 0 ∨ ¬ (ii = 0 ∧ b = 0 ∧ lo = 0 ∧ hi = 0))) ∧ Below w.heap.size w w' := by
 have HK : ∀ w, Calls Tryz.prog 102 #[.int .i64 8] w fun e w' => e = .returned (.int .i64 2) ∧ w' = w := fun w => by
  have h := kindOf_any 8 w
  rwa [show ((kindOp 8 : Nat) : Int) = 2 by simp [kindOp]] at h
 go_enter Tryz.func103, Tryz.ntmps103
 go_wp2_with (go_at_call 102; refine (HK _).mono ?_; rintro e w' ⟨rfl, rfl⟩)
 all_goals
  go_ret
  refine ⟨⟨_, rfl, ?_⟩, box_below _ _⟩
 all_goals
  clear HK
  first
  | (simp_all; done)
  | (simp_all; omega)
set_option maxHeartbeats 4000000 in
set_option maxRecDepth 100000 in
theorem hasUnused_nine (arg vi mi ii b lo hi : Int) (g : ByteArray) (w : World) : Calls Tryz.prog 103 #[.agg #[.int .i64 arg, .int .i64 9, .int .u64 vi, .int .u64 mi, .string g, .int .u32 ii, .int .i64 b, .int .i64 lo, .int .i64 hi]] w fun e w' => (∃ z, e = .returned (.bool z) ∧ (z = true ↔ mi ≠ 0 ∨ vi ≠ 0 ∨ g.toList ≠ [])) ∧ Below w.heap.size w w' := by
 have HK : ∀ w, Calls Tryz.prog 102 #[.int .i64 9] w fun e w' => e = .returned (.int .i64 3) ∧ w' = w := fun w => by
  have h := kindOf_any 9 w
  rwa [show ((kindOp 9 : Nat) : Int) = 3 by simp [kindOp]] at h
 go_enter Tryz.func103, Tryz.ntmps103
 go_wp2_with (go_at_call 102; refine (HK _).mono ?_; rintro e w' ⟨rfl, rfl⟩)
 all_goals
  go_ret
  refine ⟨⟨_, rfl, ?_⟩, box_below _ _⟩
 all_goals
  clear HK
  first
  | (simp_all; done)
  | (simp_all; omega)
set_option maxHeartbeats 4000000 in
set_option maxRecDepth 100000 in
theorem hasUnused_num (arg op vi mi ii b lo hi : Int) (g : ByteArray) (h7 : ¬ op = 7) (h8 : ¬ op = 8) (h9 : ¬ op = 9) (w : World) : Calls Tryz.prog 103 #[.agg #[.int .i64 arg, .int .i64 op, .int .u64 vi, .int .u64 mi, .string g, .int .u32 ii, .int .i64 b, .int .i64 lo, .int .i64 hi]] w fun e w' => (∃ z, e = .returned (.bool z) ∧ (z = true ↔ mi ≠ 0 ∨ g.toList ≠ [] ∨ ¬ (ii = 0 ∧ b = 0 ∧ lo = 0 ∧ hi = 0))) ∧ Below w.heap.size w w' := by
 have HK : ∀ w, Calls Tryz.prog 102 #[.int .i64 op] w fun e w' => e = .returned (.int .i64 1) ∧ w' = w := fun w => by
  have h := kindOf_any op w
  rwa [show ((kindOp op : Nat) : Int) = 1 by simp [kindOp, h8, h9]] at h
 go_enter Tryz.func103, Tryz.ntmps103
 go_wp2_with (go_at_call 102; refine (HK _).mono ?_; rintro e w' ⟨rfl, rfl⟩)
 all_goals
  go_ret
  refine ⟨⟨_, rfl, ?_⟩, box_below _ _⟩
 all_goals
  clear HK
  first
  | (simp_all; done)
  | (simp_all; omega)
theorem toList_nil (g : ByteArray) : g.toList = [] ↔ g.size = 0 := by
 rw [Lib.toList_data, Lib.size_eq, List.length_eq_zero_iff]
theorem hasUnused_any (c : CD) (w : World) : Calls Tryz.prog 103 #[condV c] w fun e w' => e = .returned (.bool (decide (unusedP c))) ∧ Below w.heap.size w w' := by
 obtain ⟨arg, op, v, m, g, ⟨ip, b, lo, hi⟩⟩ := c
 have hg := toList_nil g
 by_cases h7 : op = 7
 ·
  subst h7
  refine (hasUnused_seven arg v m ip b lo hi g w).mono ?_
  rintro e w' ⟨⟨z, rfl, hz⟩, hb⟩
  refine ⟨ret_bool ?_, hb⟩
  rw [Bool.eq_iff_iff, hz, decide_eq_true_iff]
  simp only [unusedP, netZ, hg, ne_eq, Int.natCast_eq_zero]
  by_cases x1 : m = 0 <;> by_cases x2 : v = 0 <;> by_cases x3 : g.size = 0 <;> by_cases x4 : (ip = 0 ∧ b = 0 ∧ lo = 0 ∧ hi = 0) <;> simp [*]
 by_cases h8 : op = 8
 ·
  subst h8
  refine (hasUnused_eight arg v m ip b lo hi g w).mono ?_
  rintro e w' ⟨⟨z, rfl, hz⟩, hb⟩
  refine ⟨ret_bool ?_, hb⟩
  rw [Bool.eq_iff_iff, hz, decide_eq_true_iff]
  simp only [unusedP, netZ, ne_eq, Int.natCast_eq_zero]
  by_cases x1 : m = 0 <;> by_cases x2 : v = 0 <;> by_cases x4 : (ip = 0 ∧ b = 0 ∧ lo = 0 ∧ hi = 0) <;> simp [*]
 by_cases h9 : op = 9
 ·
  subst h9
  refine (hasUnused_nine arg v m ip b lo hi g w).mono ?_
  rintro e w' ⟨⟨z, rfl, hz⟩, hb⟩
  refine ⟨ret_bool ?_, hb⟩
  rw [Bool.eq_iff_iff, hz, decide_eq_true_iff]
  simp only [unusedP, netZ, hg, ne_eq, Int.natCast_eq_zero]
  by_cases x1 : m = 0 <;> by_cases x2 : v = 0 <;> by_cases x3 : g.size = 0 <;> by_cases x4 : (ip = 0 ∧ b = 0 ∧ lo = 0 ∧ hi = 0) <;> simp [*]
 ·
  refine (hasUnused_num arg op v m ip b lo hi g h7 h8 h9 w).mono ?_
  rintro e w' ⟨⟨z, rfl, hz⟩, hb⟩
  refine ⟨ret_bool ?_, hb⟩
  rw [Bool.eq_iff_iff, hz, decide_eq_true_iff]
  simp only [unusedP, netZ, hg, ne_eq, Int.natCast_eq_zero]
  by_cases x1 : m = 0 <;> by_cases x2 : v = 0 <;> by_cases x3 : g.size = 0 <;> by_cases x4 : (ip = 0 ∧ b = 0 ∧ lo = 0 ∧ hi = 0) <;> simp [*]
end Go.Proofs.YtklibmijiecbfaaGreat
