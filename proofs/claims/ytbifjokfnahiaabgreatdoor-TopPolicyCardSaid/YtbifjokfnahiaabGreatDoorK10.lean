/- policy.Check: actions, conds. -/
import Derived.Test.YtbifjokfnahiaabGreatDoorK8
import Derived.Test.YtbifjokfnahiaabGreatDoorK9
import Derived.Lib.QuietBelow
namespace Go.Proofs.YtbifjokfnahiaabGreatDoor
open Go.RowKit

theorem ret_err {v : Value} {f : Nat} (k : Nat) (hv : v = errV k) (h : f = k) : Ending.returned v = .returned (errV f) := by rw [hv, h]

theorem kindOf_any (op : Int) (w : World) : Calls Tryz.prog 29 #[.int .i64 op] w fun e w' => e = .returned (.int .i64 (kindOp op : Nat)) ∧ w' = w := by
  go_enter Tryz.func29, Tryz.ntmps29
  go_wp2
  all_goals
    go_ret
    refine ⟨ret_int ?_, rfl⟩
    simp_all [kindOp]

theorem checkAction_any (a : ACT) (w : World) : Calls Tryz.prog 13 #[actV a] w fun e w' => e = .returned (errV (actF a)) ∧ Below w.heap.size w w' := by
  obtain ⟨k, e⟩ := a
  unfold actV
  simp only
  go_enter Tryz.func13, Tryz.ntmps13
  go_wp2
  all_goals
    go_ret
    refine ⟨?_, box_below _ _⟩
  all_goals first
    | (refine ret_err 0 rfl ?_; simp_all [actF]; done)
    | (refine ret_err 1 rfl ?_; simp_all [actF]; done)
    | (refine ret_err 3 rfl ?_; simp_all [actF]; done)
    | (refine ret_err 0 rfl ?_; simp [actF, *]; omega)
    | (refine ret_err 1 rfl ?_; simp [actF, *]; omega)
    | (refine ret_err 3 rfl ?_; simp [actF, *]; omega)
end Go.Proofs.YtbifjokfnahiaabGreatDoor

/- policy.Check: what a cond's op does not use. -/
namespace Go.Proofs.YtbifjokfnahiaabGreatDoor
open Go.RowKit

set_option maxHeartbeats 4000000 in
set_option maxRecDepth 100000 in
theorem hasUnused_seven (arg vi mi ii b lo hi : Int) (g : ByteArray) (w : World) : Calls Tryz.prog 33 #[.agg #[.int .i64 arg, .int .i64 7, .int .u64 vi, .int .u64 mi, .string g, .int .u32 ii, .int .i64 b, .int .i64 lo, .int .i64 hi]] w fun e w' => (∃ z, e = .returned (.bool z) ∧ (z = true ↔ g.toList ≠ [] ∨ ¬ (ii = 0 ∧ b = 0 ∧ lo = 0 ∧ hi = 0))) ∧ Below w.heap.size w w' := by
  have HK : ∀ w, Calls Tryz.prog 29 #[.int .i64 7] w fun e w' => e = .returned (.int .i64 1) ∧ w' = w := fun w => by
    have h := kindOf_any 7 w
    rwa [show ((kindOp 7 : Nat) : Int) = 1 by simp [kindOp]] at h
  go_enter Tryz.func33, Tryz.ntmps33
  go_wp2_with (go_at_call 29; refine (HK _).mono ?_; rintro e w' ⟨rfl, rfl⟩)
  all_goals
    go_ret
    refine ⟨⟨_, rfl, ?_⟩, box_below _ _⟩
  all_goals
    clear HK
    first
    | (simp_all; done)
    | (simp_all; omega)
set_option maxHeartbeats 4000000 in
set_option maxRecDepth 100000 in
theorem hasUnused_eight (arg vi mi ii b lo hi : Int) (g : ByteArray) (w : World) : Calls Tryz.prog 33 #[.agg #[.int .i64 arg, .int .i64 8, .int .u64 vi, .int .u64 mi, .string g, .int .u32 ii, .int .i64 b, .int .i64 lo, .int .i64 hi]] w fun e w' => (∃ z, e = .returned (.bool z) ∧ (z = true ↔ mi ≠ 0 ∨ vi ≠ 0 ∨ ¬ (ii = 0 ∧ b = 0 ∧ lo = 0 ∧ hi = 0))) ∧ Below w.heap.size w w' := by
  have HK : ∀ w, Calls Tryz.prog 29 #[.int .i64 8] w fun e w' => e = .returned (.int .i64 2) ∧ w' = w := fun w => by
    have h := kindOf_any 8 w
    rwa [show ((kindOp 8 : Nat) : Int) = 2 by simp [kindOp]] at h
  go_enter Tryz.func33, Tryz.ntmps33
  go_wp2_with (go_at_call 29; refine (HK _).mono ?_; rintro e w' ⟨rfl, rfl⟩)
  all_goals
    go_ret
    refine ⟨⟨_, rfl, ?_⟩, box_below _ _⟩
  all_goals
    clear HK
    first
    | (simp_all; done)
    | (simp_all; omega)
set_option maxHeartbeats 4000000 in
set_option maxRecDepth 100000 in
theorem hasUnused_nine (arg vi mi ii b lo hi : Int) (g : ByteArray) (w : World) : Calls Tryz.prog 33 #[.agg #[.int .i64 arg, .int .i64 9, .int .u64 vi, .int .u64 mi, .string g, .int .u32 ii, .int .i64 b, .int .i64 lo, .int .i64 hi]] w fun e w' => (∃ z, e = .returned (.bool z) ∧ (z = true ↔ mi ≠ 0 ∨ vi ≠ 0 ∨ g.toList ≠ [])) ∧ Below w.heap.size w w' := by
  have HK : ∀ w, Calls Tryz.prog 29 #[.int .i64 9] w fun e w' => e = .returned (.int .i64 3) ∧ w' = w := fun w => by
    have h := kindOf_any 9 w
    rwa [show ((kindOp 9 : Nat) : Int) = 3 by simp [kindOp]] at h
  go_enter Tryz.func33, Tryz.ntmps33
  go_wp2_with (go_at_call 29; refine (HK _).mono ?_; rintro e w' ⟨rfl, rfl⟩)
  all_goals
    go_ret
    refine ⟨⟨_, rfl, ?_⟩, box_below _ _⟩
  all_goals
    clear HK
    first
    | (simp_all; done)
    | (simp_all; omega)
set_option maxHeartbeats 4000000 in
set_option maxRecDepth 100000 in
theorem hasUnused_num (arg op vi mi ii b lo hi : Int) (g : ByteArray) (h7 : ¬ op = 7) (h8 : ¬ op = 8) (h9 : ¬ op = 9) (w : World) : Calls Tryz.prog 33 #[.agg #[.int .i64 arg, .int .i64 op, .int .u64 vi, .int .u64 mi, .string g, .int .u32 ii, .int .i64 b, .int .i64 lo, .int .i64 hi]] w fun e w' => (∃ z, e = .returned (.bool z) ∧ (z = true ↔ mi ≠ 0 ∨ g.toList ≠ [] ∨ ¬ (ii = 0 ∧ b = 0 ∧ lo = 0 ∧ hi = 0))) ∧ Below w.heap.size w w' := by
  have HK : ∀ w, Calls Tryz.prog 29 #[.int .i64 op] w fun e w' => e = .returned (.int .i64 1) ∧ w' = w := fun w => by
    have h := kindOf_any op w
    rwa [show ((kindOp op : Nat) : Int) = 1 by simp [kindOp, h8, h9]] at h
  go_enter Tryz.func33, Tryz.ntmps33
  go_wp2_with (go_at_call 29; refine (HK _).mono ?_; rintro e w' ⟨rfl, rfl⟩)
  all_goals
    go_ret
    refine ⟨⟨_, rfl, ?_⟩, box_below _ _⟩
  all_goals
    clear HK
    first
    | (simp_all; done)
    | (simp_all; omega)
theorem toList_nil (g : ByteArray) : g.toList = [] ↔ g.size = 0 := by
  rw [Lib.toList_data, Lib.size_eq, List.length_eq_zero_iff]
theorem hasUnused_any (c : CD) (w : World) : Calls Tryz.prog 33 #[condV c] w fun e w' => e = .returned (.bool (decide (unusedP c))) ∧ Below w.heap.size w w' := by
  obtain ⟨arg, op, v, m, g, ⟨ip, b, lo, hi⟩⟩ := c
  have hg := toList_nil g
  by_cases h7 : op = 7
  · subst h7
    refine (hasUnused_seven arg v m ip b lo hi g w).mono ?_
    rintro e w' ⟨⟨z, rfl, hz⟩, hb⟩
    refine ⟨ret_bool ?_, hb⟩
    rw [Bool.eq_iff_iff, hz, decide_eq_true_iff]
    simp only [unusedP, netZ, hg, ne_eq, Int.natCast_eq_zero]
    by_cases x1 : m = 0 <;> by_cases x2 : v = 0 <;> by_cases x3 : g.size = 0 <;> by_cases x4 : (ip = 0 ∧ b = 0 ∧ lo = 0 ∧ hi = 0) <;> simp [*]
  by_cases h8 : op = 8
  · subst h8
    refine (hasUnused_eight arg v m ip b lo hi g w).mono ?_
    rintro e w' ⟨⟨z, rfl, hz⟩, hb⟩
    refine ⟨ret_bool ?_, hb⟩
    rw [Bool.eq_iff_iff, hz, decide_eq_true_iff]
    simp only [unusedP, netZ, ne_eq, Int.natCast_eq_zero]
    by_cases x1 : m = 0 <;> by_cases x2 : v = 0 <;> by_cases x4 : (ip = 0 ∧ b = 0 ∧ lo = 0 ∧ hi = 0) <;> simp [*]
  by_cases h9 : op = 9
  · subst h9
    refine (hasUnused_nine arg v m ip b lo hi g w).mono ?_
    rintro e w' ⟨⟨z, rfl, hz⟩, hb⟩
    refine ⟨ret_bool ?_, hb⟩
    rw [Bool.eq_iff_iff, hz, decide_eq_true_iff]
    simp only [unusedP, netZ, hg, ne_eq, Int.natCast_eq_zero]
    by_cases x1 : m = 0 <;> by_cases x2 : v = 0 <;> by_cases x3 : g.size = 0 <;> by_cases x4 : (ip = 0 ∧ b = 0 ∧ lo = 0 ∧ hi = 0) <;> simp [*]
  · refine (hasUnused_num arg op v m ip b lo hi g h7 h8 h9 w).mono ?_
    rintro e w' ⟨⟨z, rfl, hz⟩, hb⟩
    refine ⟨ret_bool ?_, hb⟩
    rw [Bool.eq_iff_iff, hz, decide_eq_true_iff]
    simp only [unusedP, netZ, hg, ne_eq, Int.natCast_eq_zero]
    by_cases x1 : m = 0 <;> by_cases x2 : v = 0 <;> by_cases x3 : g.size = 0 <;> by_cases x4 : (ip = 0 ∧ b = 0 ∧ lo = 0 ∧ hi = 0) <;> simp [*]
end Go.Proofs.YtbifjokfnahiaabGreatDoor

/- api.Forms. -/
namespace Go.Proofs.YtbifjokfnahiaabGreatDoor
open Go.RowKit

def formsArr : Array Value := #[.string ⟨#[114, 101, 97, 100]⟩, .int .i64 1, .int .i64 1, .int .i64 0, .int .i64 0, .string ⟨#[119, 114, 105, 116, 101]⟩, .int .i64 1, .int .i64 1, .int .i64 0, .int .i64 0, .string ⟨#[111, 112, 101, 110]⟩, .int .i64 2, .int .i64 1, .int .i64 1, .int .i64 0, .string ⟨#[99, 108, 111, 115, 101]⟩, .int .i64 1, .int .i64 0, .int .i64 0, .int .i64 0, .string ⟨#[115, 116, 97, 116]⟩, .int .i64 2, .int .i64 0, .int .i64 0, .int .i64 0, .string ⟨#[114, 101, 110, 97, 109, 101]⟩, .int .i64 2, .int .i64 2, .int .i64 0, .int .i64 0, .string ⟨#[99, 111, 110, 110, 101, 99, 116]⟩, .int .i64 1, .int .i64 3, .int .i64 0, .int .i64 0, .string ⟨#[108, 105, 110, 107]⟩, .int .i64 2, .int .i64 2, .int .i64 1, .int .i64 0, .string ⟨#[115, 101, 110, 100]⟩, .int .i64 1, .int .i64 1, .int .i64 3, .int .i64 1]

set_option maxRecDepth 100000 in
set_option maxHeartbeats 2000000 in
theorem forms_any (w : World) :
    Calls Tryz.prog 20 #[] w fun e w' => e = .returned (.agg formsArr) ∧ Below w.heap.size w w' := by
  go_enter Tryz.func20, Tryz.ntmps20
  go_wp2_with (first | (refine wpList_buildTo rfl 72 _ rfl (some 19) rfl formsArr (by kernel_rfl) ?_) | (refine wpList_store_row rfl 72 _ _ rfl w.heap.size formsArr rfl rfl 72 _ (heap_alloc_new _ _) (by kernel_rfl) (by kernel_rfl) (by kernel_rfl) ?_))
  rw [World.setRow_alloc_new]
  exact bodyPost_ret (v := .agg formsArr) (results_cell_row rfl _ _ w.heap.size 72 formsArr (0, 0) _ rfl (heap_alloc_new _ _) Tryz.underlying72 rfl (by kernel_rfl)) rfl ⟨rfl, (Below.refl _ _).alloc (Nat.le_refl _) _⟩

def kindsV (nr : Nat) : Value := .agg #[.int .i64 (kindAt nr 0 : Nat), .int .i64 (kindAt nr 1 : Nat), .int .i64 (kindAt nr 2 : Nat), .int .i64 (kindAt nr 3 : Nat)]
def formV (nr : Nat) : Value := .agg #[.string ⟨(nameOf nr).toArray⟩, .int .i64 (kindAt nr 0 : Nat), .int .i64 (kindAt nr 1 : Nat), .int .i64 (kindAt nr 2 : Nat), .int .i64 (kindAt nr 3 : Nat)]
theorem forms_index (nr : Nat) (h : nr ≤ 8) (w : World) : (Instr.index 72 (.agg formsArr) (.int .i64 nr)).run Tryz.prog w = .ok (formV nr) w := by
  rcases nine h with rfl | rfl | rfl | rfl | rfl | rfl | rfl | rfl | rfl <;> kernel_rfl
theorem form_kinds (nr : Nat) (w : World) : (Instr.field 71 (formV nr) 1).run Tryz.prog w = .ok (kindsV nr) w := by kernel_rfl
theorem form_name (nr : Nat) (w : World) : (Instr.field 71 (formV nr) 0).run Tryz.prog w = .ok (.string ⟨(nameOf nr).toArray⟩) w := by kernel_rfl
end Go.Proofs.YtbifjokfnahiaabGreatDoor
