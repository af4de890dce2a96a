/- The document's Kind at every call and argument. -/
import Derived.Test.YtkogafponpjdnaaGreatDoorK3
import Derived.Test.YtkogafponpjdnaaGreatDoorK7
import Derived.Test.YtkogafponpjdnaaGreatDoorK8
import Derived.Test.YtkogafponpjdnaaGreatDoorK1
import Derived.Test.YtkogafponpjdnaaGreatDoorK4
import Derived.BigQuiet
namespace Go.Proofs.YtkogafponpjdnaaGreatDoor
open Go.RowKit

theorem kindIdx_0 (w : World) : (Instr.index 81 (.agg #[.string ⟨#[49, 49]⟩, .string ⟨#[49, 49]⟩, .string ⟨#[50, 49, 49]⟩, .string ⟨#[49]⟩, .string ⟨#[50]⟩, .string ⟨#[50, 50]⟩, .string ⟨#[49, 51]⟩, .string ⟨#[50, 50, 49]⟩, .string ⟨#[49, 49, 51, 49]⟩]) (.int .i64 0)).run Tryz.prog w = .ok (.string ⟨#[49, 49]⟩) w := by kernel_rfl
theorem kindIdx_1 (w : World) : (Instr.index 81 (.agg #[.string ⟨#[49, 49]⟩, .string ⟨#[49, 49]⟩, .string ⟨#[50, 49, 49]⟩, .string ⟨#[49]⟩, .string ⟨#[50]⟩, .string ⟨#[50, 50]⟩, .string ⟨#[49, 51]⟩, .string ⟨#[50, 50, 49]⟩, .string ⟨#[49, 49, 51, 49]⟩]) (.int .i64 1)).run Tryz.prog w = .ok (.string ⟨#[49, 49]⟩) w := by kernel_rfl
theorem kindIdx_2 (w : World) : (Instr.index 81 (.agg #[.string ⟨#[49, 49]⟩, .string ⟨#[49, 49]⟩, .string ⟨#[50, 49, 49]⟩, .string ⟨#[49]⟩, .string ⟨#[50]⟩, .string ⟨#[50, 50]⟩, .string ⟨#[49, 51]⟩, .string ⟨#[50, 50, 49]⟩, .string ⟨#[49, 49, 51, 49]⟩]) (.int .i64 2)).run Tryz.prog w = .ok (.string ⟨#[50, 49, 49]⟩) w := by kernel_rfl
theorem kindIdx_3 (w : World) : (Instr.index 81 (.agg #[.string ⟨#[49, 49]⟩, .string ⟨#[49, 49]⟩, .string ⟨#[50, 49, 49]⟩, .string ⟨#[49]⟩, .string ⟨#[50]⟩, .string ⟨#[50, 50]⟩, .string ⟨#[49, 51]⟩, .string ⟨#[50, 50, 49]⟩, .string ⟨#[49, 49, 51, 49]⟩]) (.int .i64 3)).run Tryz.prog w = .ok (.string ⟨#[49]⟩) w := by kernel_rfl
theorem kindIdx_4 (w : World) : (Instr.index 81 (.agg #[.string ⟨#[49, 49]⟩, .string ⟨#[49, 49]⟩, .string ⟨#[50, 49, 49]⟩, .string ⟨#[49]⟩, .string ⟨#[50]⟩, .string ⟨#[50, 50]⟩, .string ⟨#[49, 51]⟩, .string ⟨#[50, 50, 49]⟩, .string ⟨#[49, 49, 51, 49]⟩]) (.int .i64 4)).run Tryz.prog w = .ok (.string ⟨#[50]⟩) w := by kernel_rfl
theorem kindIdx_5 (w : World) : (Instr.index 81 (.agg #[.string ⟨#[49, 49]⟩, .string ⟨#[49, 49]⟩, .string ⟨#[50, 49, 49]⟩, .string ⟨#[49]⟩, .string ⟨#[50]⟩, .string ⟨#[50, 50]⟩, .string ⟨#[49, 51]⟩, .string ⟨#[50, 50, 49]⟩, .string ⟨#[49, 49, 51, 49]⟩]) (.int .i64 5)).run Tryz.prog w = .ok (.string ⟨#[50, 50]⟩) w := by kernel_rfl
theorem kindIdx_6 (w : World) : (Instr.index 81 (.agg #[.string ⟨#[49, 49]⟩, .string ⟨#[49, 49]⟩, .string ⟨#[50, 49, 49]⟩, .string ⟨#[49]⟩, .string ⟨#[50]⟩, .string ⟨#[50, 50]⟩, .string ⟨#[49, 51]⟩, .string ⟨#[50, 50, 49]⟩, .string ⟨#[49, 49, 51, 49]⟩]) (.int .i64 6)).run Tryz.prog w = .ok (.string ⟨#[49, 51]⟩) w := by kernel_rfl
theorem kindIdx_7 (w : World) : (Instr.index 81 (.agg #[.string ⟨#[49, 49]⟩, .string ⟨#[49, 49]⟩, .string ⟨#[50, 49, 49]⟩, .string ⟨#[49]⟩, .string ⟨#[50]⟩, .string ⟨#[50, 50]⟩, .string ⟨#[49, 51]⟩, .string ⟨#[50, 50, 49]⟩, .string ⟨#[49, 49, 51, 49]⟩]) (.int .i64 7)).run Tryz.prog w = .ok (.string ⟨#[50, 50, 49]⟩) w := by kernel_rfl
theorem kindIdx_8 (w : World) : (Instr.index 81 (.agg #[.string ⟨#[49, 49]⟩, .string ⟨#[49, 49]⟩, .string ⟨#[50, 49, 49]⟩, .string ⟨#[49]⟩, .string ⟨#[50]⟩, .string ⟨#[50, 50]⟩, .string ⟨#[49, 51]⟩, .string ⟨#[50, 50, 49]⟩, .string ⟨#[49, 49, 51, 49]⟩]) (.int .i64 8)).run Tryz.prog w = .ok (.string ⟨#[49, 49, 51, 49]⟩) w := by kernel_rfl
theorem kind_0_0 (w : World) : Calls Tryz.prog 39 #[.int .i64 0, .int .i64 0] w fun e w' => e = .returned (.int .i64 1) ∧ w' = w := by
  have hi := kindIdx_0
  go_enter Tryz.func39, Tryz.ntmps39
  go_wp2
  go_ret
  exact ⟨rfl, rfl⟩
theorem kind_0_1 (w : World) : Calls Tryz.prog 39 #[.int .i64 0, .int .i64 1] w fun e w' => e = .returned (.int .i64 1) ∧ w' = w := by
  have hi := kindIdx_0
  go_enter Tryz.func39, Tryz.ntmps39
  go_wp2
  go_ret
  exact ⟨rfl, rfl⟩
theorem kind_0_2 (w : World) : Calls Tryz.prog 39 #[.int .i64 0, .int .i64 2] w fun e w' => e = .returned (.int .i64 0) ∧ w' = w := by
  have hi := kindIdx_0
  go_enter Tryz.func39, Tryz.ntmps39
  go_wp2
  go_ret
  exact ⟨rfl, rfl⟩
theorem kind_0_3 (w : World) : Calls Tryz.prog 39 #[.int .i64 0, .int .i64 3] w fun e w' => e = .returned (.int .i64 0) ∧ w' = w := by
  have hi := kindIdx_0
  go_enter Tryz.func39, Tryz.ntmps39
  go_wp2
  go_ret
  exact ⟨rfl, rfl⟩
theorem kind_1_0 (w : World) : Calls Tryz.prog 39 #[.int .i64 1, .int .i64 0] w fun e w' => e = .returned (.int .i64 1) ∧ w' = w := by
  have hi := kindIdx_1
  go_enter Tryz.func39, Tryz.ntmps39
  go_wp2
  go_ret
  exact ⟨rfl, rfl⟩
theorem kind_1_1 (w : World) : Calls Tryz.prog 39 #[.int .i64 1, .int .i64 1] w fun e w' => e = .returned (.int .i64 1) ∧ w' = w := by
  have hi := kindIdx_1
  go_enter Tryz.func39, Tryz.ntmps39
  go_wp2
  go_ret
  exact ⟨rfl, rfl⟩
theorem kind_1_2 (w : World) : Calls Tryz.prog 39 #[.int .i64 1, .int .i64 2] w fun e w' => e = .returned (.int .i64 0) ∧ w' = w := by
  have hi := kindIdx_1
  go_enter Tryz.func39, Tryz.ntmps39
  go_wp2
  go_ret
  exact ⟨rfl, rfl⟩
theorem kind_1_3 (w : World) : Calls Tryz.prog 39 #[.int .i64 1, .int .i64 3] w fun e w' => e = .returned (.int .i64 0) ∧ w' = w := by
  have hi := kindIdx_1
  go_enter Tryz.func39, Tryz.ntmps39
  go_wp2
  go_ret
  exact ⟨rfl, rfl⟩
theorem kind_2_0 (w : World) : Calls Tryz.prog 39 #[.int .i64 2, .int .i64 0] w fun e w' => e = .returned (.int .i64 2) ∧ w' = w := by
  have hi := kindIdx_2
  go_enter Tryz.func39, Tryz.ntmps39
  go_wp2
  go_ret
  exact ⟨rfl, rfl⟩
theorem kind_2_1 (w : World) : Calls Tryz.prog 39 #[.int .i64 2, .int .i64 1] w fun e w' => e = .returned (.int .i64 1) ∧ w' = w := by
  have hi := kindIdx_2
  go_enter Tryz.func39, Tryz.ntmps39
  go_wp2
  go_ret
  exact ⟨rfl, rfl⟩
theorem kind_2_2 (w : World) : Calls Tryz.prog 39 #[.int .i64 2, .int .i64 2] w fun e w' => e = .returned (.int .i64 1) ∧ w' = w := by
  have hi := kindIdx_2
  go_enter Tryz.func39, Tryz.ntmps39
  go_wp2
  go_ret
  exact ⟨rfl, rfl⟩
theorem kind_2_3 (w : World) : Calls Tryz.prog 39 #[.int .i64 2, .int .i64 3] w fun e w' => e = .returned (.int .i64 0) ∧ w' = w := by
  have hi := kindIdx_2
  go_enter Tryz.func39, Tryz.ntmps39
  go_wp2
  go_ret
  exact ⟨rfl, rfl⟩
theorem kind_3_0 (w : World) : Calls Tryz.prog 39 #[.int .i64 3, .int .i64 0] w fun e w' => e = .returned (.int .i64 1) ∧ w' = w := by
  have hi := kindIdx_3
  go_enter Tryz.func39, Tryz.ntmps39
  go_wp2
  go_ret
  exact ⟨rfl, rfl⟩
theorem kind_3_1 (w : World) : Calls Tryz.prog 39 #[.int .i64 3, .int .i64 1] w fun e w' => e = .returned (.int .i64 0) ∧ w' = w := by
  have hi := kindIdx_3
  go_enter Tryz.func39, Tryz.ntmps39
  go_wp2
  go_ret
  exact ⟨rfl, rfl⟩
theorem kind_3_2 (w : World) : Calls Tryz.prog 39 #[.int .i64 3, .int .i64 2] w fun e w' => e = .returned (.int .i64 0) ∧ w' = w := by
  have hi := kindIdx_3
  go_enter Tryz.func39, Tryz.ntmps39
  go_wp2
  go_ret
  exact ⟨rfl, rfl⟩
theorem kind_3_3 (w : World) : Calls Tryz.prog 39 #[.int .i64 3, .int .i64 3] w fun e w' => e = .returned (.int .i64 0) ∧ w' = w := by
  have hi := kindIdx_3
  go_enter Tryz.func39, Tryz.ntmps39
  go_wp2
  go_ret
  exact ⟨rfl, rfl⟩
theorem kind_4_0 (w : World) : Calls Tryz.prog 39 #[.int .i64 4, .int .i64 0] w fun e w' => e = .returned (.int .i64 2) ∧ w' = w := by
  have hi := kindIdx_4
  go_enter Tryz.func39, Tryz.ntmps39
  go_wp2
  go_ret
  exact ⟨rfl, rfl⟩
theorem kind_4_1 (w : World) : Calls Tryz.prog 39 #[.int .i64 4, .int .i64 1] w fun e w' => e = .returned (.int .i64 0) ∧ w' = w := by
  have hi := kindIdx_4
  go_enter Tryz.func39, Tryz.ntmps39
  go_wp2
  go_ret
  exact ⟨rfl, rfl⟩
theorem kind_4_2 (w : World) : Calls Tryz.prog 39 #[.int .i64 4, .int .i64 2] w fun e w' => e = .returned (.int .i64 0) ∧ w' = w := by
  have hi := kindIdx_4
  go_enter Tryz.func39, Tryz.ntmps39
  go_wp2
  go_ret
  exact ⟨rfl, rfl⟩
theorem kind_4_3 (w : World) : Calls Tryz.prog 39 #[.int .i64 4, .int .i64 3] w fun e w' => e = .returned (.int .i64 0) ∧ w' = w := by
  have hi := kindIdx_4
  go_enter Tryz.func39, Tryz.ntmps39
  go_wp2
  go_ret
  exact ⟨rfl, rfl⟩
theorem kind_5_0 (w : World) : Calls Tryz.prog 39 #[.int .i64 5, .int .i64 0] w fun e w' => e = .returned (.int .i64 2) ∧ w' = w := by
  have hi := kindIdx_5
  go_enter Tryz.func39, Tryz.ntmps39
  go_wp2
  go_ret
  exact ⟨rfl, rfl⟩
theorem kind_5_1 (w : World) : Calls Tryz.prog 39 #[.int .i64 5, .int .i64 1] w fun e w' => e = .returned (.int .i64 2) ∧ w' = w := by
  have hi := kindIdx_5
  go_enter Tryz.func39, Tryz.ntmps39
  go_wp2
  go_ret
  exact ⟨rfl, rfl⟩
theorem kind_5_2 (w : World) : Calls Tryz.prog 39 #[.int .i64 5, .int .i64 2] w fun e w' => e = .returned (.int .i64 0) ∧ w' = w := by
  have hi := kindIdx_5
  go_enter Tryz.func39, Tryz.ntmps39
  go_wp2
  go_ret
  exact ⟨rfl, rfl⟩
theorem kind_5_3 (w : World) : Calls Tryz.prog 39 #[.int .i64 5, .int .i64 3] w fun e w' => e = .returned (.int .i64 0) ∧ w' = w := by
  have hi := kindIdx_5
  go_enter Tryz.func39, Tryz.ntmps39
  go_wp2
  go_ret
  exact ⟨rfl, rfl⟩
theorem kind_6_0 (w : World) : Calls Tryz.prog 39 #[.int .i64 6, .int .i64 0] w fun e w' => e = .returned (.int .i64 1) ∧ w' = w := by
  have hi := kindIdx_6
  go_enter Tryz.func39, Tryz.ntmps39
  go_wp2
  go_ret
  exact ⟨rfl, rfl⟩
theorem kind_6_1 (w : World) : Calls Tryz.prog 39 #[.int .i64 6, .int .i64 1] w fun e w' => e = .returned (.int .i64 3) ∧ w' = w := by
  have hi := kindIdx_6
  go_enter Tryz.func39, Tryz.ntmps39
  go_wp2
  go_ret
  exact ⟨rfl, rfl⟩
theorem kind_6_2 (w : World) : Calls Tryz.prog 39 #[.int .i64 6, .int .i64 2] w fun e w' => e = .returned (.int .i64 0) ∧ w' = w := by
  have hi := kindIdx_6
  go_enter Tryz.func39, Tryz.ntmps39
  go_wp2
  go_ret
  exact ⟨rfl, rfl⟩
theorem kind_6_3 (w : World) : Calls Tryz.prog 39 #[.int .i64 6, .int .i64 3] w fun e w' => e = .returned (.int .i64 0) ∧ w' = w := by
  have hi := kindIdx_6
  go_enter Tryz.func39, Tryz.ntmps39
  go_wp2
  go_ret
  exact ⟨rfl, rfl⟩
theorem kind_7_0 (w : World) : Calls Tryz.prog 39 #[.int .i64 7, .int .i64 0] w fun e w' => e = .returned (.int .i64 2) ∧ w' = w := by
  have hi := kindIdx_7
  go_enter Tryz.func39, Tryz.ntmps39
  go_wp2
  go_ret
  exact ⟨rfl, rfl⟩
theorem kind_7_1 (w : World) : Calls Tryz.prog 39 #[.int .i64 7, .int .i64 1] w fun e w' => e = .returned (.int .i64 2) ∧ w' = w := by
  have hi := kindIdx_7
  go_enter Tryz.func39, Tryz.ntmps39
  go_wp2
  go_ret
  exact ⟨rfl, rfl⟩
theorem kind_7_2 (w : World) : Calls Tryz.prog 39 #[.int .i64 7, .int .i64 2] w fun e w' => e = .returned (.int .i64 1) ∧ w' = w := by
  have hi := kindIdx_7
  go_enter Tryz.func39, Tryz.ntmps39
  go_wp2
  go_ret
  exact ⟨rfl, rfl⟩
theorem kind_7_3 (w : World) : Calls Tryz.prog 39 #[.int .i64 7, .int .i64 3] w fun e w' => e = .returned (.int .i64 0) ∧ w' = w := by
  have hi := kindIdx_7
  go_enter Tryz.func39, Tryz.ntmps39
  go_wp2
  go_ret
  exact ⟨rfl, rfl⟩
theorem kind_8_0 (w : World) : Calls Tryz.prog 39 #[.int .i64 8, .int .i64 0] w fun e w' => e = .returned (.int .i64 1) ∧ w' = w := by
  have hi := kindIdx_8
  go_enter Tryz.func39, Tryz.ntmps39
  go_wp2
  go_ret
  exact ⟨rfl, rfl⟩
theorem kind_8_1 (w : World) : Calls Tryz.prog 39 #[.int .i64 8, .int .i64 1] w fun e w' => e = .returned (.int .i64 1) ∧ w' = w := by
  have hi := kindIdx_8
  go_enter Tryz.func39, Tryz.ntmps39
  go_wp2
  go_ret
  exact ⟨rfl, rfl⟩
theorem kind_8_2 (w : World) : Calls Tryz.prog 39 #[.int .i64 8, .int .i64 2] w fun e w' => e = .returned (.int .i64 3) ∧ w' = w := by
  have hi := kindIdx_8
  go_enter Tryz.func39, Tryz.ntmps39
  go_wp2
  go_ret
  exact ⟨rfl, rfl⟩
theorem kind_8_3 (w : World) : Calls Tryz.prog 39 #[.int .i64 8, .int .i64 3] w fun e w' => e = .returned (.int .i64 1) ∧ w' = w := by
  have hi := kindIdx_8
  go_enter Tryz.func39, Tryz.ntmps39
  go_wp2
  go_ret
  exact ⟨rfl, rfl⟩
theorem dkind_any (i k : Nat) (hi : i < 9) (hk : k < 4) (w : World) : Calls Tryz.prog 39 #[.int .i64 i, .int .i64 k] w fun e w' => e = .returned (.int .i64 (kindAt i k)) ∧ w' = w := by
  match i, hi, k, hk with
  | 0, _, 0, _ => exact kind_0_0 w
  | 0, _, 1, _ => exact kind_0_1 w
  | 0, _, 2, _ => exact kind_0_2 w
  | 0, _, 3, _ => exact kind_0_3 w
  | 1, _, 0, _ => exact kind_1_0 w
  | 1, _, 1, _ => exact kind_1_1 w
  | 1, _, 2, _ => exact kind_1_2 w
  | 1, _, 3, _ => exact kind_1_3 w
  | 2, _, 0, _ => exact kind_2_0 w
  | 2, _, 1, _ => exact kind_2_1 w
  | 2, _, 2, _ => exact kind_2_2 w
  | 2, _, 3, _ => exact kind_2_3 w
  | 3, _, 0, _ => exact kind_3_0 w
  | 3, _, 1, _ => exact kind_3_1 w
  | 3, _, 2, _ => exact kind_3_2 w
  | 3, _, 3, _ => exact kind_3_3 w
  | 4, _, 0, _ => exact kind_4_0 w
  | 4, _, 1, _ => exact kind_4_1 w
  | 4, _, 2, _ => exact kind_4_2 w
  | 4, _, 3, _ => exact kind_4_3 w
  | 5, _, 0, _ => exact kind_5_0 w
  | 5, _, 1, _ => exact kind_5_1 w
  | 5, _, 2, _ => exact kind_5_2 w
  | 5, _, 3, _ => exact kind_5_3 w
  | 6, _, 0, _ => exact kind_6_0 w
  | 6, _, 1, _ => exact kind_6_1 w
  | 6, _, 2, _ => exact kind_6_2 w
  | 6, _, 3, _ => exact kind_6_3 w
  | 7, _, 0, _ => exact kind_7_0 w
  | 7, _, 1, _ => exact kind_7_1 w
  | 7, _, 2, _ => exact kind_7_2 w
  | 7, _, 3, _ => exact kind_7_3 w
  | 8, _, 0, _ => exact kind_8_0 w
  | 8, _, 1, _ => exact kind_8_1 w
  | 8, _, 2, _ => exact kind_8_2 w
  | 8, _, 3, _ => exact kind_8_3 w

end Go.Proofs.YtkogafponpjdnaaGreatDoor

/- The document's callNames, actionText. -/
namespace Go.Proofs.YtkogafponpjdnaaGreatDoor
open Go.RowKit Go.Sort

def namesA : Array Value := #[.string ⟨#[114, 101, 97, 100]⟩, .string ⟨#[119, 114, 105, 116, 101]⟩, .string ⟨#[111, 112, 101, 110]⟩, .string ⟨#[99, 108, 111, 115, 101]⟩, .string ⟨#[115, 116, 97, 116]⟩, .string ⟨#[114, 101, 110, 97, 109, 101]⟩, .string ⟨#[99, 111, 110, 110, 101, 99, 116]⟩, .string ⟨#[108, 105, 110, 107]⟩, .string ⟨#[115, 101, 110, 100]⟩]
set_option maxRecDepth 100000 in
theorem callNames_any (w : World) : Calls Tryz.prog 30 #[] w fun e w' => e = .returned (.agg namesA) ∧ Below w.heap.size w w' := by
  go_enter Tryz.func30, Tryz.ntmps30
  go_wp2_with (first | (refine wpList_buildTo rfl 81 _ rfl (some 1) rfl namesA (by kernel_rfl) ?_) | (refine wpList_store_row rfl 81 _ _ rfl w.heap.size namesA rfl rfl 81 _ (heap_alloc_new _ _) (by kernel_rfl) (by kernel_rfl) (by kernel_rfl) ?_))
  rw [World.setRow_alloc_new]
  exact bodyPost_ret (v := .agg namesA) (results_cell_row rfl _ _ w.heap.size 81 namesA (0, 0) _ rfl (heap_alloc_new _ _) Tryz.underlying81 rfl (by kernel_rfl)) rfl ⟨rfl, (Below.refl _ _).alloc (Nat.le_refl _) _⟩
theorem names_index (nr : Nat) (h : nr ≤ 8) (w : World) : (Instr.index 81 (.agg namesA) (.int .i64 nr)).run Tryz.prog w = .ok (.string (bs (nameOf nr))) w := by
  rcases nine h with rfl | rfl | rfl | rfl | rfl | rfl | rfl | rfl | rfl <;> kernel_rfl

set_option maxRecDepth 20000 in
theorem ractText_any (a : ACT) (h : actF a = 0) (w : World) : Calls Tryz.prog 29 #[actV a] w fun e w' => e = .returned (.string (bs (joinC 32 (actW a)))) ∧ Below w.heap.size w w' := by
  unfold actV
  rcases act_cases h with rfl | rfl | ⟨n, h1, h2, rfl⟩
  · go_enter Tryz.func29, Tryz.ntmps29
    go_wp2
    go_ret
    exact ⟨rfl, box_below _ _⟩
  · go_enter Tryz.func29, Tryz.ntmps29
    go_wp2
    go_ret
    exact ⟨rfl, box_below _ _⟩
  · have HD := digits_any n (by omega)
    have HE := hide (show bs [100, 101, 110, 121, 32] ++ bs (Lib.decDigits n) = bs (joinC 32 (actW ⟨2, n⟩)) by
      rw [bs_append]
      simp [actW, joinC, wDeny])
    obtain ⟨q, hq⟩ : ∃ q : ByteArray, q = ⟨(Lib.decDigits n).toArray⟩ := ⟨_, rfl⟩
    have hq' : q = bs (Lib.decDigits n) := hq
    rw [← hq] at HD
    rw [← hq'] at HE
    have hqs : q.size ≤ 20 := by rw [hq', bs_size]; exact nDigits_le20 n (by omega)
    clear hq hq' h
    simp only
    go_enter Tryz.func29, Tryz.ntmps29
    go_wp2_with (go_at_call 50; refine (HD _).mono ?_; rintro e w' ⟨rfl, hb⟩)
    go_ret
    exact ⟨by rw [← HE.out]; rfl, below_next (box_below _ _) hb⟩
end Go.Proofs.YtkogafponpjdnaaGreatDoor

/- The document's reading of a number. -/
namespace Go.Proofs.YtkogafponpjdnaaGreatDoor
open Go.RowKit

def figV (l : List UInt8) : Value := .tuple #[.int .u64 (figN l), .bool (figOk l)]
theorem figV_bad {l : List UInt8} (h : 20 < l.length ∨ l.all isDig = false) : figV l = .tuple #[.int .u64 0, .bool false] := by
  unfold figV figOk figN
  rw [if_pos h, if_pos h]
  rfl

theorem figures_any (s : ByteArray) (hs : s.size < 4294967296) (w : World) : Calls Tryz.prog 61 #[.string s] w fun e w' => e = .returned (figV s.data.toList) ∧ Below w.heap.size w w' := by
  by_cases h20 : 20 < s.size
  · have HV := hide (figV_bad (l := s.data.toList) (Or.inl (by rw [← Lib.size_eq]; exact h20)))
    go_enter Tryz.func61, Tryz.ntmps61
    go_wp2
    go_ret2
    exact ⟨by rw [HV.out]; rfl, Below.refl _ _⟩
  · go_enter Tryz.func61, Tryz.ntmps61
    go_wp2
    go_loopw [4, 5] (fun x i w' => ∃ (k : Nat) (y : Int), k ≤ s.size ∧ i = .int .i64 k ∧ x = .int .u64 y ∧ 0 ≤ y ∧ w' = w ∧ Hid (y = (digVal 0 (s.data.toList.take k) % 18446744073709551616 : Nat)) ∧ Hid ((s.data.toList.take k).all isDig = true)) (fun _ i _ => s.size - (intOf i).toNat)
    case atStart => exact ⟨0, 0, by omega, rfl, rfl, by omega, rfl, hide rfl, hide rfl⟩
    case round =>
      obtain ⟨k, y, hk, rfl, rfl, hy, rfl, HY, HA⟩ := hrel
      by_cases hlt : k < s.size
      · have ek := byteAt_eq s k hlt
        have lk := byteAt_lt s k
        have HB := hide (byte_list s k hlt)
        by_cases hdg : 48 ≤ byteAt s k ∧ byteAt s k ≤ 57
        · have HA2 := hide (show (s.data.toList.take (k + 1)).all isDig = true by rw [HB.out, List.all_append, HA.out]; simp [isDig_byte _ lk, hdg.1, hdg.2])
          have HY2 := hide (show IntKind.u64.wrap (IntKind.u64.wrap (y * 10) + ((byteAt s k : Int) - 48)) = (digVal 0 (s.data.toList.take (k + 1)) % 18446744073709551616 : Nat) by
            rw [HB.out, digVal_snoc, UInt8.toNat_ofNat', Nat.mod_eq_of_lt lk, IntKind.wrap_u64, IntKind.wrap_u64, HY.out]
            omega)
          go_wp2
          go_round
          case rel => exact ⟨k + 1, _, by omega, by go_num, rfl, by rw [HY2.out]; omega, trivial, HY2, HA2⟩
          case measure => simp [intOf]; omega
        · have HV := hide (figV_bad (l := s.data.toList) (Or.inr (all_take _ (k + 1) (by
            rw [HB.out, List.all_append, HA.out]
            simp only [List.all_cons, List.all_nil, isDig_byte _ lk, Bool.and_true, Bool.true_and]
            rw [Bool.and_eq_false_iff]
            simp
            omega))))
          go_wp2
          all_goals
            go_ret2
            exact ⟨by rw [HV.out]; rfl, Below.refl _ _⟩
      · obtain rfl : k = s.size := by omega
        have htk : s.data.toList.take s.size = s.data.toList := List.take_of_length_le (by rw [← Lib.size_eq]; omega)
        rw [htk] at HY HA
        have hng : ¬ (20 < s.data.toList.length ∨ s.data.toList.all isDig = false) := by
          rw [← Lib.size_eq, HA.out]
          rintro (h | h)
          · exact h20 h
          · cases h
        have hfn : figN s.data.toList = digVal 0 s.data.toList % 18446744073709551616 := by unfold figN; rw [if_neg hng]
        obtain ⟨N, hN⟩ : ∃ N, N = figN s.data.toList := ⟨_, rfl⟩
        obtain rfl : y = (N : Int) := by rw [HY.out, ← hfn, hN]
        have HNb := hide (show N < 18446744073709551616 by rw [hN, hfn]; exact Nat.mod_lt _ (by decide))
        have HC := fun V => digits_any N HNb.out V
        obtain ⟨dk, hdk⟩ : ∃ d : ByteArray, d = ⟨(Lib.decDigits N).toArray⟩ := ⟨_, rfl⟩
        rw [← hdk] at HC
        have HV := hide (show figV s.data.toList = .tuple #[.int .u64 N, .bool (dk.toList == s.toList)] by
          unfold figV figOk
          rw [if_neg hng, ← hN, Lib.toList_data, Lib.toList_data, hdk])
        clear hdk hN hfn hng htk hy HY
        go_wp2_with (go_at_call 50; refine (HC _).mono ?_; rintro e V ⟨rfl, hV⟩)
        go_ret2
        exact ⟨by rw [HV.out]; rfl, hV⟩
end Go.Proofs.YtkogafponpjdnaaGreatDoor

/- The document's reading of a net. -/
namespace Go.Proofs.YtkogafponpjdnaaGreatDoor
open Go.RowKit Go.Sort

def netOfV : Option (Nat × Nat × Nat × Nat) → Value
  | none => .tuple #[netV 0 0 0 0, .bool false]
  | some (ip, b, lo, hi) => .tuple #[netV ip b lo hi, .bool true]

/-- What is kept of the world: the result's block, the numbers' block. -/
def FX (w : World) (ns : List Nat) (V : World) : Prop := Below w.heap.size w V ∧ V.heap[w.heap.size]? = some (.cells (netC 0 0 0 0) 67 (0, 0)) ∧ V.heap[w.heap.size + 1]? = some (.cells (padN ns) 159 (0, 0))
theorem FX.start (w : World) : FX w [] ((w.alloc (.cells (netC 0 0 0 0) 67)).alloc (.cells (padN []) 159)) :=
  ⟨((Below.refl _ _).alloc (Nat.le_refl _) _).alloc (by simp) _, heap_alloc2_old _ _ _, heap_alloc2_new _ _ _⟩
theorem FX.on {w V Y : World} {ns : List Nat} (h : FX w ns V) (hb : Below V.heap.size V Y) : FX w ns Y :=
  ⟨h.1.trans (hb.mono h.1.size), (hb.block _ (Array.getElem?_eq_some_iff.1 h.2.1).1).trans h.2.1, (hb.block _ (Array.getElem?_eq_some_iff.1 h.2.2).1).trans h.2.2⟩
theorem FX.set {w V : World} {ns : List Nat} (h : FX w ns V) (k x : Nat) (hk : ns.length = k) (h7 : k < 7) : FX w (ns ++ [x]) (V.setCell ⟨w.heap.size + 1, k, none⟩ (.int .i64 x)) := by
  rw [setCell_eq_setRow _ _ k _ _ _ _ h.2.2, padN_set ns x k hk h7]
  exact ⟨below_setRow h.1 (by omega) _, (setRow_other _ _ _ _ (by omega)).trans h.2.1, setRow_heap _ _ _ _ _ _ h.2.2⟩
theorem FX.cell {w V : World} {ns : List Nat} (h : FX w ns V) (k : Nat) (h7 : k < 7) : V.cell? ⟨w.heap.size + 1, k, none⟩ = some (.int .i64 (ns.getD k 0)) := by
  rw [cell_of_row _ _ k _ _ _ h.2.2, padN_get ns k h7]
theorem FX.fro {w V : World} {ns : List Nat} (h : FX w ns V) (k : Nat) : V.frozen? ⟨w.heap.size + 1, k, none⟩ = false := frozen_of_row _ _ k _ _ h.2.2

def seg (l : List UInt8) (f i : Nat) : List UInt8 := (l.drop f).take (i - f)
theorem seg_nil (l : List UInt8) (i : Nat) : seg l i i = [] := by unfold seg; simp
theorem seg_snoc (s : ByteArray) (f i : Nat) (hf : f ≤ i) (hi : i < s.size) : seg s.data.toList f (i + 1) = seg s.data.toList f i ++ [UInt8.ofNat (byteAt s i)] := by
  unfold seg
  have hil : i < s.data.toList.length := by rw [← Lib.size_eq]; exact hi
  rw [show i + 1 - f = (i - f) + 1 by omega, List.take_add_one, List.getElem?_drop, show f + (i - f) = i by omega, List.getElem?_eq_getElem hil]
  unfold byteAt
  rw [List.getD_eq_getElem?_getD, List.getElem?_eq_getElem hil]
  simp
theorem drop_cons (s : ByteArray) (i : Nat) (hi : i < s.size) : s.data.toList.drop i = UInt8.ofNat (byteAt s i) :: s.data.toList.drop (i + 1) := by
  have hil : i < s.data.toList.length := by rw [← Lib.size_eq]; exact hi
  rw [List.drop_eq_getElem_cons hil]
  unfold byteAt
  rw [List.getD_eq_getElem?_getD, List.getElem?_eq_getElem hil]
  simp
theorem drop_end (s : ByteArray) : s.data.toList.drop s.size = [] := List.drop_eq_nil_of_le (by rw [← Lib.size_eq]; exact Nat.le_refl _)
theorem extract_seg (s : ByteArray) (f i : Nat) : (s.extract f i).data.toList = seg s.data.toList f i := Lib.extract_data s f i

/-- The numbers that stand so far, and what is still to be scanned. -/
def Scan (s : ByteArray) (k f i : Nat) (ns : List Nat) : Prop :=
  (i ≤ s.size ∧ f ≤ i ∧ scanN [] s.data.toList 0 = (scanN (seg s.data.toList f i) (s.data.toList.drop i) k).map fun r => ns ++ r) ∨ (i = s.size + 1 ∧ scanN [] s.data.toList 0 = some ns)
theorem Scan.start (s : ByteArray) : Scan s 0 0 0 [] := Or.inl ⟨Nat.zero_le _, Nat.le_refl _, by rw [seg_nil, List.drop_zero]; simp⟩
theorem Scan.digit {s : ByteArray} {k f i : Nat} {ns : List Nat} (h : Scan s k f i ns) (hi : i < s.size) (hd : 48 ≤ byteAt s i ∧ byteAt s i ≤ 57) : Scan s k f (i + 1) ns := by
  rcases h with ⟨_, h2, h3⟩ | ⟨h1, _⟩
  · refine Or.inl ⟨by omega, by omega, ?_⟩
    rw [h3, drop_cons s i hi, scanN, if_pos, seg_snoc s f i h2 hi]
    rw [isDig_byte _ (byteAt_lt s i)]
    simp [hd.1, hd.2]
  · omega
theorem Scan.bad {s : ByteArray} {k f i : Nat} {ns : List Nat} (h : Scan s k f i ns) (hi : i ≤ s.size) (hd : i < s.size → ¬ (48 ≤ byteAt s i ∧ byteAt s i ≤ 57)) (hb : fig70 (seg s.data.toList f i) = none ∨ 6 < k) : scanN [] s.data.toList 0 = none := by
  rcases h with ⟨_, h2, h3⟩ | ⟨h1, _⟩
  · rw [h3]
    by_cases hlt : i < s.size
    · rw [drop_cons s i hlt, scanN, if_neg (by
        rw [isDig_byte _ (byteAt_lt s i)]
        intro h
        simp at h
        exact hd hlt h)]
      rcases hb with hb | hb
      · rw [hb]; rfl
      · cases hq : fig70 (seg s.data.toList f i) with
        | none => rfl
        | some x => rw [Option.bind_some, if_neg (by omega)]; rfl
    · rw [show i = s.size by omega, drop_end, scanN, ← show i = s.size by omega]
      rcases hb with hb | hb
      · rw [hb]; rfl
      · cases hq : fig70 (seg s.data.toList f i) with
        | none => rfl
        | some x => rw [Option.bind_some, if_neg (by omega)]; rfl
  · omega
theorem Scan.good {s : ByteArray} {k f i x : Nat} {ns : List Nat} (h : Scan s k f i ns) (hi : i ≤ s.size) (hd : i < s.size → ¬ (48 ≤ byteAt s i ∧ byteAt s i ≤ 57)) (hx : fig70 (seg s.data.toList f i) = some x) (hk : k ≤ 6) : Scan s (k + 1) (i + 1) (i + 1) (ns ++ [x]) := by
  rcases h with ⟨_, h2, h3⟩ | ⟨h1, _⟩
  · by_cases hlt : i < s.size
    · refine Or.inl ⟨by omega, Nat.le_refl _, ?_⟩
      rw [h3, drop_cons s i hlt, scanN, if_neg (by
        rw [isDig_byte _ (byteAt_lt s i)]
        intro h
        simp at h
        exact hd hlt h), hx, Option.bind_some, if_pos hk, Option.map_map, seg_nil]
      congr 1
      funext r
      simp
    · refine Or.inr ⟨by omega, ?_⟩
      rw [h3, show s.data.toList.drop i = [] by rw [show i = s.size by omega]; exact drop_end s, scanN, hx, Option.bind_some, if_pos hk]
      rfl
  · omega

theorem fx_on {w wr V : World} {ns : List Nat} {ip e f g : Nat} (h : Hid (FX w ns wr)) (hb : Below (wr.alloc (.cells (netC ip e f g) 67)).heap.size (wr.alloc (.cells (netC ip e f g) 67)) V) :
    Hid (FX w ns V) ∧ V.heap[wr.heap.size]? = some (.cells (netC ip e f g) 67 (0, 0)) :=
  ⟨hide ((h.out.on ((Below.refl _ _).alloc (Nat.le_refl _) _)).on hb), (hb.block _ (by simp)).trans (heap_alloc_new _ _)⟩

set_option maxHeartbeats 2000000 in
theorem netOf_any (s : ByteArray) (hs : s.size ≤ 9000) (w : World) : Calls Tryz.prog 80 #[.string s] w fun e w' => e = .returned (netOfV (parseR s.data.toList)) ∧ Below w.heap.size w w' := by
  go_enter Tryz.func80, Tryz.ntmps80
  go_wp2
  go_loopw [5, 6, 7] (fun K F I w' => ∃ (k f i : Nat) (ns : List Nat), k ≤ 7 ∧ f ≤ i ∧ i ≤ s.size + 1 ∧ K = .int .i64 k ∧ F = .int .i64 f ∧ I = .int .i64 i ∧ ns.length = k ∧ Hid (∀ n ∈ ns, n ≤ 70000) ∧ Hid (Scan s k f i ns) ∧ Hid (FX w ns w')) (fun _ _ I _ => s.size + 1 - (intOf I).toNat)
  case atStart => exact ⟨0, 0, 0, [], by omega, by omega, by omega, rfl, rfl, rfl, rfl, hide (fun _ h => by cases h), hide (Scan.start s), hide (FX.start w)⟩
  case round =>
    obtain ⟨k, f, i, ns, hk, hfi, hi, rfl, rfl, rfl, hlen, HM, HS, HF⟩ := hrel
    by_cases hend : i ≤ s.size
    · by_cases hdg : i < s.size ∧ 48 ≤ byteAt s i ∧ byteAt s i ≤ 57
      · obtain ⟨hlt, hdg⟩ := hdg
        have HS2 := hide (HS.out.digit hlt hdg)
        have ei := byteAt_eq s i hlt
        go_wp2
        go_round
        case rel => exact ⟨k, f, i + 1, ns, hk, by omega, by omega, rfl, rfl, by go_num, hlen, HM, HS2, HF⟩
        case measure => simp [intOf]; omega
      · -- SECOND
        have HND := hide (show i < s.size → ¬ (48 ≤ byteAt s i ∧ byteAt s i ≤ 57) from fun h h2 => hdg ⟨h, h2.1, h2.2⟩)
        by_cases hlt : i < s.size
        · have ei := byteAt_eq s i hlt
          have hnd := HND.out hlt
          clear hdg
          have HC : ∀ V, Calls Tryz.prog 61 #[.string (s.extract f i)] V fun e w' => e = .returned (figV (seg s.data.toList f i)) ∧ Below V.heap.size V w' := fun V => (figures_any (s.extract f i) (by simp; omega) V).mono fun e w' h => by rw [extract_seg] at h; exact h
          have HFV := hide (show figV (seg s.data.toList f i) = .tuple #[.int .u64 (figN (seg s.data.toList f i)), .bool (figOk (seg s.data.toList f i))] from rfl)
          have H70 := hide (show fig70 (seg s.data.toList f i) = if figOk (seg s.data.toList f i) = true ∧ figN (seg s.data.toList f i) ≤ 70000 then some (figN (seg s.data.toList f i)) else none from rfl)
          obtain ⟨N, hN⟩ : ∃ N, N = figN (seg s.data.toList f i) := ⟨_, rfl⟩
          obtain ⟨ok, hok⟩ : ∃ o, o = figOk (seg s.data.toList f i) := ⟨_, rfl⟩
          rw [← hN, ← hok] at HFV H70
          rw [HFV.out] at HC
          clear hN hok HFV
          by_cases hgood : ok = true ∧ N ≤ 70000 ∧ k ≤ 6
          · obtain ⟨rfl, hN7, hk6⟩ := hgood
            have HS2 := hide (HS.out.good hend HND.out (by rw [H70.out, if_pos ⟨rfl, hN7⟩]) hk6)
            have HM2 := hide (show ∀ n ∈ ns ++ [N], n ≤ 70000 from fun n hn => by
              rcases List.mem_append.1 hn with h | h
              · exact HM.out n h
              · rw [List.mem_singleton.1 h]; exact hN7)
            go_wp2_with (go_at_call 61; refine (HC _).mono ?_; rintro e V ⟨rfl, hV⟩; have HV := hide (HF.out.on hV); clear hV; have fc := HV.out.cell k (by omega); have ff := HV.out.fro k)
            all_goals
              go_round
              case rel => exact ⟨k + 1, i + 1, i + 1, ns ++ [N], by omega, by omega, by omega, by go_num, by go_num, by go_num, by rw [List.length_append, hlen]; rfl, HM2, HS2, hide (HV.out.set k N hlen (by omega))⟩
              case measure => simp [intOf] <;> omega
          · have HP := hide (show parseR s.data.toList = none from parse_none_of fun ip b lo hi h => by
              have h1 := scan_parse h
              rw [HS.out.bad hend HND.out (by
                rw [H70.out]
                by_cases h6 : 6 < k
                · exact Or.inr h6
                · refine Or.inl (if_neg fun h => hgood ⟨h.1, h.2, by omega⟩))] at h1
              cases h1)
            cases ok with
            | false =>
              clear hgood
              go_wp2_with (first
                | (go_at_call 61; refine (HC _).mono ?_; rintro e V ⟨rfl, hV⟩; have HV := hide (HF.out.on hV); clear hV; obtain ⟨r1, r2, r3⟩ := res_start HV.out.2.1; obtain ⟨r4, r5, r6⟩ := res_row HV.out.2.1)
                | (refine bodyPost_ret (results_net rfl _ _ w.heap.size 0 0 0 0 (.bool false) rfl rfl (setRow_heap _ _ _ _ _ _ HV.out.2.1)) rfl ⟨?_, ?_⟩; (· rw [HP.out]; rfl); (· exact below_setRow HV.out.1 (Nat.le_refl _) _)))
            | true =>
              by_cases hN7 : N ≤ 70000
              · have h6 : 6 < k := by
                  rcases Nat.lt_or_ge 6 k with h | h
                  · exact h
                  · exact absurd ⟨rfl, hN7, h⟩ hgood
                clear hgood
                go_wp2_with (first
                  | (go_at_call 61; refine (HC _).mono ?_; rintro e V ⟨rfl, hV⟩; have HV := hide (HF.out.on hV); clear hV; obtain ⟨r1, r2, r3⟩ := res_start HV.out.2.1; obtain ⟨r4, r5, r6⟩ := res_row HV.out.2.1)
                  | (refine bodyPost_ret (results_net rfl _ _ w.heap.size 0 0 0 0 (.bool false) rfl rfl (setRow_heap _ _ _ _ _ _ HV.out.2.1)) rfl ⟨?_, ?_⟩; (· rw [HP.out]; rfl); (· exact below_setRow HV.out.1 (Nat.le_refl _) _)))
              · clear hgood
                go_wp2_with (first
                  | (go_at_call 61; refine (HC _).mono ?_; rintro e V ⟨rfl, hV⟩; have HV := hide (HF.out.on hV); clear hV; obtain ⟨r1, r2, r3⟩ := res_start HV.out.2.1; obtain ⟨r4, r5, r6⟩ := res_row HV.out.2.1)
                  | (refine bodyPost_ret (results_net rfl _ _ w.heap.size 0 0 0 0 (.bool false) rfl rfl (setRow_heap _ _ _ _ _ _ HV.out.2.1)) rfl ⟨?_, ?_⟩; (· rw [HP.out]; rfl); (· exact below_setRow HV.out.1 (Nat.le_refl _) _)))
        · obtain rfl : i = s.size := by omega
          clear hdg
          have HC : ∀ V, Calls Tryz.prog 61 #[.string (s.extract f s.size)] V fun e w' => e = .returned (figV (seg s.data.toList f s.size)) ∧ Below V.heap.size V w' := fun V => (figures_any (s.extract f s.size) (by simp; omega) V).mono fun e w' h => by rw [extract_seg] at h; exact h
          have HFV := hide (show figV (seg s.data.toList f s.size) = .tuple #[.int .u64 (figN (seg s.data.toList f s.size)), .bool (figOk (seg s.data.toList f s.size))] from rfl)
          have H70 := hide (show fig70 (seg s.data.toList f s.size) = if figOk (seg s.data.toList f s.size) = true ∧ figN (seg s.data.toList f s.size) ≤ 70000 then some (figN (seg s.data.toList f s.size)) else none from rfl)
          obtain ⟨N, hN⟩ : ∃ N, N = figN (seg s.data.toList f s.size) := ⟨_, rfl⟩
          obtain ⟨ok, hok⟩ : ∃ o, o = figOk (seg s.data.toList f s.size) := ⟨_, rfl⟩
          rw [← hN, ← hok] at HFV H70
          rw [HFV.out] at HC
          clear hN hok HFV
          by_cases hgood : ok = true ∧ N ≤ 70000 ∧ k ≤ 6
          · obtain ⟨rfl, hN7, hk6⟩ := hgood
            have HS2 := hide (HS.out.good hend HND.out (by rw [H70.out, if_pos ⟨rfl, hN7⟩]) hk6)
            have HM2 := hide (show ∀ n ∈ ns ++ [N], n ≤ 70000 from fun n hn => by
              rcases List.mem_append.1 hn with h | h
              · exact HM.out n h
              · rw [List.mem_singleton.1 h]; exact hN7)
            go_wp2_with (go_at_call 61; refine (HC _).mono ?_; rintro e V ⟨rfl, hV⟩; have HV := hide (HF.out.on hV); clear hV; have fc := HV.out.cell k (by omega); have ff := HV.out.fro k)
            all_goals
              go_round
              case rel => exact ⟨k + 1, s.size + 1, s.size + 1, ns ++ [N], by omega, by omega, by omega, by go_num, by go_num, by go_num, by rw [List.length_append, hlen]; rfl, HM2, HS2, hide (HV.out.set k N hlen (by omega))⟩
              case measure => simp [intOf] <;> omega
          · have HP := hide (show parseR s.data.toList = none from parse_none_of fun ip b lo hi h => by
              have h1 := scan_parse h
              rw [HS.out.bad hend HND.out (by
                rw [H70.out]
                by_cases h6 : 6 < k
                · exact Or.inr h6
                · refine Or.inl (if_neg fun h => hgood ⟨h.1, h.2, by omega⟩))] at h1
              cases h1)
            cases ok with
            | false =>
              clear hgood
              go_wp2_with (first
                | (go_at_call 61; refine (HC _).mono ?_; rintro e V ⟨rfl, hV⟩; have HV := hide (HF.out.on hV); clear hV; obtain ⟨r1, r2, r3⟩ := res_start HV.out.2.1; obtain ⟨r4, r5, r6⟩ := res_row HV.out.2.1)
                | (refine bodyPost_ret (results_net rfl _ _ w.heap.size 0 0 0 0 (.bool false) rfl rfl (setRow_heap _ _ _ _ _ _ HV.out.2.1)) rfl ⟨?_, ?_⟩; (· rw [HP.out]; rfl); (· exact below_setRow HV.out.1 (Nat.le_refl _) _)))
            | true =>
              by_cases hN7 : N ≤ 70000
              · have h6 : 6 < k := by
                  rcases Nat.lt_or_ge 6 k with h | h
                  · exact h
                  · exact absurd ⟨rfl, hN7, h⟩ hgood
                clear hgood
                go_wp2_with (first
                  | (go_at_call 61; refine (HC _).mono ?_; rintro e V ⟨rfl, hV⟩; have HV := hide (HF.out.on hV); clear hV; obtain ⟨r1, r2, r3⟩ := res_start HV.out.2.1; obtain ⟨r4, r5, r6⟩ := res_row HV.out.2.1)
                  | (refine bodyPost_ret (results_net rfl _ _ w.heap.size 0 0 0 0 (.bool false) rfl rfl (setRow_heap _ _ _ _ _ _ HV.out.2.1)) rfl ⟨?_, ?_⟩; (· rw [HP.out]; rfl); (· exact below_setRow HV.out.1 (Nat.le_refl _) _)))
              · clear hgood
                go_wp2_with (first
                  | (go_at_call 61; refine (HC _).mono ?_; rintro e V ⟨rfl, hV⟩; have HV := hide (HF.out.on hV); clear hV; obtain ⟨r1, r2, r3⟩ := res_start HV.out.2.1; obtain ⟨r4, r5, r6⟩ := res_row HV.out.2.1)
                  | (refine bodyPost_ret (results_net rfl _ _ w.heap.size 0 0 0 0 (.bool false) rfl rfl (setRow_heap _ _ _ _ _ _ HV.out.2.1)) rfl ⟨?_, ?_⟩; (· rw [HP.out]; rfl); (· exact below_setRow HV.out.1 (Nat.le_refl _) _)))
    · -- END
      obtain rfl : i = s.size + 1 := by omega
      have hsc : scanN [] s.data.toList 0 = some ns := by
        rcases HS.out with ⟨h, _, _⟩ | ⟨_, h⟩
        · omega
        · exact h
      have HSC := hide hsc
      clear hsc HS
      obtain ⟨r1, r2, r3⟩ := res_start HF.out.2.1
      obtain ⟨r4, r5, r6⟩ := res_row HF.out.2.1
      by_cases h7 : k < 7
      · have HP := hide (show parseR s.data.toList = none from parse_none_of fun ip b lo hi h => by
          have h1 := scan_parse h
          rw [HSC.out] at h1
          rw [Option.some.inj h1] at hlen
          exact absurd hlen (by show 7 ≠ k; omega))
        go_wp2_with (refine bodyPost_ret (results_net rfl _ _ w.heap.size 0 0 0 0 (.bool false) rfl rfl (setRow_heap _ _ _ _ _ _ HF.out.2.1)) rfl ⟨?_, ?_⟩; (· rw [HP.out]; rfl); (· exact below_setRow HF.out.1 (Nat.le_refl _) _))
      · obtain rfl : k = 7 := by omega
        obtain ⟨a, b, c, d, e, f', g, rfl⟩ := len7 hlen
        have n0 : wr.cell? ⟨w.heap.size + 1, 0, none⟩ = some (.int .i64 a) := HF.out.cell 0 (by omega)
        have n1 : wr.cell? ⟨w.heap.size + 1, 1, none⟩ = some (.int .i64 b) := HF.out.cell 1 (by omega)
        have n2 : wr.cell? ⟨w.heap.size + 1, 2, none⟩ = some (.int .i64 c) := HF.out.cell 2 (by omega)
        have n3 : wr.cell? ⟨w.heap.size + 1, 3, none⟩ = some (.int .i64 d) := HF.out.cell 3 (by omega)
        have n4 : wr.cell? ⟨w.heap.size + 1, 4, none⟩ = some (.int .i64 e) := HF.out.cell 4 (by omega)
        have n5 : wr.cell? ⟨w.heap.size + 1, 5, none⟩ = some (.int .i64 f') := HF.out.cell 5 (by omega)
        have n6 : wr.cell? ⟨w.heap.size + 1, 6, none⟩ = some (.int .i64 g) := HF.out.cell 6 (by omega)
        have me : e ≤ 70000 := HM.out e (by simp)
        have mf : f' ≤ 70000 := HM.out f' (by simp)
        have mg : g ≤ 70000 := HM.out g (by simp)
        have HQ := hide (show ∀ ip' b' lo' hi', parseR s.data.toList = some (ip', b', lo', hi') → [a, b, c, d, e, f', g] = netNums ip' b' lo' hi' from fun ip' b' lo' hi' h => by
          have h1 := scan_parse h
          rw [HSC.out] at h1
          exact Option.some.inj h1)
        clear r1 r2 r3 r4 r5 r6
        by_cases h255 : a ≤ 255 ∧ b ≤ 255 ∧ c ≤ 255 ∧ d ≤ 255
        · obtain ⟨ha, hb, hc, hd⟩ := h255
          have hip := ipOf_lt ha hb hc hd
          have hipe : (a : Int) * 16777216 + (b : Int) * 65536 + (c : Int) * 256 + (d : Int) = (ipOf a b c d : Nat) := by unfold ipOf; omega
          have HPS := hide (show ∀ ip' b' lo' hi', parseR s.data.toList = some (ip', b', lo', hi') → faultOf (ipOf a b c d) e f' g = 0 ∧ netText (ipOf a b c d) e f' g = s.data.toList from fun ip' b' lo' hi' h => by
            obtain ⟨q1, q2, q3⟩ := parse_some h
            have q4 := HQ.out _ _ _ _ h
            simp only [netNums, List.cons.injEq, and_true] at q4
            obtain ⟨w0, w1, w2, w3, rfl, rfl, rfl⟩ := q4
            have q5 : ipOf a b c d = ip' := by rw [w0, w1, w2, w3]; exact ipOf_parts ip' q1
            rw [q5]
            exact ⟨q2, q3.symm⟩)
          obtain ⟨ip, hip0⟩ : ∃ n, n = ipOf a b c d := ⟨_, rfl⟩
          rw [← hip0] at hip hipe HPS
          clear hip0
          by_cases hf : faultOf ip e f' g = 0
          · have HE := hide hf
            obtain ⟨tx, htx⟩ : ∃ t : ByteArray, t = ⟨(netText ip e f' g).toArray⟩ := ⟨_, rfl⟩
            have HT := fun V => netText_any ip hip e f' g hf V
            rw [← htx] at HT
            by_cases ht : netText ip e f' g = s.data.toList
            · have HP := hide (show parseR s.data.toList = some (ip, e, f', g) by rw [← ht]; exact parse_text hip hf)
              have hcmp : (tx.toList == s.toList) = true := by rw [Lib.toList_data, Lib.toList_data, htx, beq_iff_eq]; exact ht
              clear htx ht hf
              go_wp2_with (first
                | (go_at_call 41; refine (netFault_any ip hip e f' g ⟨by omega, by omega⟩ ⟨by omega, by omega⟩ ⟨by omega, by omega⟩ _).mono ?_; rw [HE.out]; rintro e V ⟨rfl, hV⟩; obtain ⟨HV, hx⟩ := fx_on HF hV; clear hV; obtain ⟨r1, r2, r3⟩ := res_start HV.out.2.1; obtain ⟨r4, r5, r6⟩ := res_row HV.out.2.1; have x0 := cell_of_row _ _ 0 _ _ _ hx; have x1 := cell_of_row _ _ 1 _ _ _ hx; have x2 := cell_of_row _ _ 2 _ _ _ hx; have x3 := cell_of_row _ _ 3 _ _ _ hx)
                | (go_at_call 51; refine (HT _).mono ?_; rintro e V2 ⟨rfl, hV2⟩; have HV2 := hide (HV.out.on hV2); have hx2 := (hV2.block _ (Array.getElem?_eq_some_iff.1 hx).1).trans hx; clear hV2; obtain ⟨r1, r2, r3⟩ := res_start HV2.out.2.1; obtain ⟨r4, r5, r6⟩ := res_row HV2.out.2.1; have x0 := cell_of_row _ _ 0 _ _ _ hx2; have x1 := cell_of_row _ _ 1 _ _ _ hx2; have x2 := cell_of_row _ _ 2 _ _ _ hx2; have x3 := cell_of_row _ _ 3 _ _ _ hx2)
                | (refine bodyPost_ret (results_net rfl _ _ w.heap.size ip e f' g (.bool true) rfl rfl (setRow_heap _ _ _ _ _ _ HV2.out.2.1)) rfl ⟨?_, ?_⟩; (· rw [HP.out]; rfl); (· exact below_setRow HV2.out.1 (Nat.le_refl _) _)))
            · have HP := hide (show parseR s.data.toList = none from parse_none_of fun _ _ _ _ h => ht (HPS.out _ _ _ _ h).2)
              have hcmp : (tx.toList == s.toList) = false := by rw [Lib.toList_data, Lib.toList_data, htx, beq_eq_false_iff_ne]; exact ht
              clear htx ht hf
              go_wp2_with (first
                | (go_at_call 41; refine (netFault_any ip hip e f' g ⟨by omega, by omega⟩ ⟨by omega, by omega⟩ ⟨by omega, by omega⟩ _).mono ?_; rw [HE.out]; rintro e V ⟨rfl, hV⟩; obtain ⟨HV, hx⟩ := fx_on HF hV; clear hV; obtain ⟨r1, r2, r3⟩ := res_start HV.out.2.1; obtain ⟨r4, r5, r6⟩ := res_row HV.out.2.1; have x0 := cell_of_row _ _ 0 _ _ _ hx; have x1 := cell_of_row _ _ 1 _ _ _ hx; have x2 := cell_of_row _ _ 2 _ _ _ hx; have x3 := cell_of_row _ _ 3 _ _ _ hx)
                | (go_at_call 51; refine (HT _).mono ?_; rintro e V2 ⟨rfl, hV2⟩; have HV2 := hide (HV.out.on hV2); have hx2 := (hV2.block _ (Array.getElem?_eq_some_iff.1 hx).1).trans hx; clear hV2; obtain ⟨r1, r2, r3⟩ := res_start HV2.out.2.1; obtain ⟨r4, r5, r6⟩ := res_row HV2.out.2.1; have x0 := cell_of_row _ _ 0 _ _ _ hx2; have x1 := cell_of_row _ _ 1 _ _ _ hx2; have x2 := cell_of_row _ _ 2 _ _ _ hx2; have x3 := cell_of_row _ _ 3 _ _ _ hx2)
                | (refine bodyPost_ret (results_net rfl _ _ w.heap.size 0 0 0 0 (.bool false) rfl rfl (setRow_heap _ _ _ _ _ _ HV2.out.2.1)) rfl ⟨?_, ?_⟩; (· rw [HP.out]; rfl); (· exact below_setRow HV2.out.1 (Nat.le_refl _) _)))
          · have HP := hide (show parseR s.data.toList = none from parse_none_of fun _ _ _ _ h => hf (HPS.out _ _ _ _ h).1)
            obtain ⟨n, hn⟩ : ∃ n, n = faultOf ip e f' g := ⟨_, rfl⟩
            have HE := hide hn.symm
            have hn0 : 0 < n := by omega
            clear hn hf
            go_wp2_with (first
              | (go_at_call 41; refine (netFault_any ip hip e f' g ⟨by omega, by omega⟩ ⟨by omega, by omega⟩ ⟨by omega, by omega⟩ _).mono ?_; rw [HE.out]; rintro e V ⟨rfl, hV⟩; obtain ⟨HV, hx⟩ := fx_on HF hV; clear hV; obtain ⟨r1, r2, r3⟩ := res_start HV.out.2.1; obtain ⟨r4, r5, r6⟩ := res_row HV.out.2.1; have x0 := cell_of_row _ _ 0 _ _ _ hx; have x1 := cell_of_row _ _ 1 _ _ _ hx; have x2 := cell_of_row _ _ 2 _ _ _ hx; have x3 := cell_of_row _ _ 3 _ _ _ hx)
              | (refine bodyPost_ret (results_net rfl _ _ w.heap.size 0 0 0 0 (.bool false) rfl rfl (setRow_heap _ _ _ _ _ _ HV.out.2.1)) rfl ⟨?_, ?_⟩; (· rw [HP.out]; rfl); (· exact below_setRow HV.out.1 (Nat.le_refl _) _)))
        · have HP := hide (show parseR s.data.toList = none from parse_none_of fun ip' b' lo' hi' h => by
            have q4 := HQ.out _ _ _ _ h
            obtain ⟨q1, _, _⟩ := parse_some h
            simp only [netNums, List.cons.injEq, and_true] at q4
            exact h255 (by omega))
          obtain ⟨r1, r2, r3⟩ := res_start HF.out.2.1
          obtain ⟨r4, r5, r6⟩ := res_row HF.out.2.1
          by_cases ha : a ≤ 255
          · by_cases hb : b ≤ 255
            · by_cases hc : c ≤ 255
              · have hd : 255 < d := by omega
                clear h255
                go_wp2_with (refine bodyPost_ret (results_net rfl _ _ w.heap.size 0 0 0 0 (.bool false) rfl rfl (setRow_heap _ _ _ _ _ _ HF.out.2.1)) rfl ⟨?_, ?_⟩; (· rw [HP.out]; rfl); (· exact below_setRow HF.out.1 (Nat.le_refl _) _))
              · clear h255
                go_wp2_with (refine bodyPost_ret (results_net rfl _ _ w.heap.size 0 0 0 0 (.bool false) rfl rfl (setRow_heap _ _ _ _ _ _ HF.out.2.1)) rfl ⟨?_, ?_⟩; (· rw [HP.out]; rfl); (· exact below_setRow HF.out.1 (Nat.le_refl _) _))
            · clear h255
              go_wp2_with (refine bodyPost_ret (results_net rfl _ _ w.heap.size 0 0 0 0 (.bool false) rfl rfl (setRow_heap _ _ _ _ _ _ HF.out.2.1)) rfl ⟨?_, ?_⟩; (· rw [HP.out]; rfl); (· exact below_setRow HF.out.1 (Nat.le_refl _) _))
          · clear h255
            go_wp2_with (refine bodyPost_ret (results_net rfl _ _ w.heap.size 0 0 0 0 (.bool false) rfl rfl (setRow_heap _ _ _ _ _ _ HF.out.2.1)) rfl ⟨?_, ?_⟩; (· rw [HP.out]; rfl); (· exact below_setRow HF.out.1 (Nat.le_refl _) _))
end Go.Proofs.YtkogafponpjdnaaGreatDoor

/- The document's side: a text cut at each of a byte. -/
namespace Go.Proofs.YtkogafponpjdnaaGreatDoor
open Go.RowKit Go.Sort

/-- Texts in a row. -/
structure IsStrs (oa : Option Addr) (ws : List W8) (W : World) : Prop where
  lie : 0 < ws.length → ∃ b off, oa = some ⟨b, off, none⟩ ∧ b < W.heap.size ∧ ∀ i x, ws[i]? = some x → W.cell? ⟨b, off + i, none⟩ = some (.string (bs x))
theorem IsStrs.on {oa : Option Addr} {ws : List W8} {W V : World} (h : IsStrs oa ws W) (hb : Below W.heap.size W V) : IsStrs oa ws V :=
  ⟨fun h0 => by
    obtain ⟨b, off, h1, h2, h3⟩ := h.lie h0
    exact ⟨b, off, h1, Nat.lt_of_lt_of_le h2 hb.size, fun i x hi => keep_cell hb (h3 i x hi)⟩⟩
def strsL (ws : List W8) : List Value := ws.map fun x => Value.string (bs x)
theorem info_str : ∃ i, Tryz.prog.info? 9 = some i ∧ i.zero = some (.string ⟨#[]⟩) ∧ i.size = 1 ∧ i.bytes = 16 := by
  have hz : (Tryz.prog.info? 9).map (·.zero) = some (some (.string ⟨#[]⟩)) := by kernel_rfl
  have hs : (Tryz.prog.info? 9).map (·.size) = some 1 := by kernel_rfl
  have hb : (Tryz.prog.info? 9).map (·.bytes) = some 16 := by kernel_rfl
  cases hq : Tryz.prog.info? 9 with
  | none => rw [hq] at hs; simp at hs
  | some i =>
    rw [hq] at hz hs hb
    simp at hz hs hb
    exact ⟨i, rfl, hz, hs, hb⟩
theorem strs_owned {W : World} {base : Nat} {v : Value} {ws : List W8} (h : W.ownsRow base 9 1 v ws.length (strsL ws)) : ∃ oa cap, v = .slice oa ws.length cap ∧ ws.length ≤ cap ∧ cap ≤ maxLen ∧ IsStrs oa ws W := by
  have h' := h
  rcases h.2 with ⟨rfl, hn⟩ | ⟨g, cap, cur, rfl, hb, hg, h1, h2, h3, h4⟩
  · exact ⟨none, 0, by rw [hn], by omega, by unfold maxLen; omega, ⟨fun h0 => by omega⟩⟩
  · refine ⟨_, cap, rfl, h1, h2, ⟨fun h0 => ⟨g, 0, rfl, (h'.lt g rfl).2, fun i x hx => ?_⟩⟩⟩
    have h5 := h'.cells (g := g) rfl i (.string (bs x)) (by unfold strsL; rw [List.getElem?_map, hx]; rfl)
    rwa [show (⟨g, 0, none⟩ : Addr).add i = ⟨g, 0 + i, none⟩ by unfold Addr.add; split <;> simp_all] at h5

/-- What has been cut when the next byte is at i, the word begun at f. -/
def CutAt (c : UInt8) (l : W8) (f i : Nat) (ws : List W8) : Prop := (i ≤ l.length ∧ f ≤ i ∧ splitC c l = ws ++ splitC c (l.drop f) ∧ c ∉ seg l f i) ∨ (i = l.length + 1 ∧ ws = splitC c l)
theorem CutAt.start (c : UInt8) (l : W8) : CutAt c l 0 0 [] := .inl ⟨Nat.zero_le _, Nat.le_refl _, by simp, by rw [seg_nil]; simp⟩
theorem seg_split (l : W8) (f i : Nat) (hf : f ≤ i) (_hi : i ≤ l.length) : l.drop f = seg l f i ++ l.drop i := by
  unfold seg
  conv => lhs; rw [← List.take_append_drop (i - f) (l.drop f), List.drop_drop, show f + (i - f) = i by omega]
theorem CutAt.cut {c : UInt8} {s : ByteArray} {f i : Nat} {ws : List W8} (h : CutAt c s.data.toList f i ws) (hi : i < s.size) (hc : byteAt s i = c.toNat) : CutAt c s.data.toList (i + 1) (i + 1) (ws ++ [seg s.data.toList f i]) := by
  have hl : s.data.toList.length = s.size := (Lib.size_eq s).symm
  rcases h with ⟨h1, h2, h3, h4⟩ | ⟨h1, _⟩
  · refine .inl ⟨by omega, Nat.le_refl _, ?_, by rw [seg_nil]; simp⟩
    rw [h3, seg_split _ f i h2 h1, drop_cons s i hi, hc, show UInt8.ofNat c.toNat = c by simp, splitC_app c _ _ h4, List.append_assoc]
    rfl
  · omega
theorem CutAt.step {c : UInt8} {s : ByteArray} {f i : Nat} {ws : List W8} (h : CutAt c s.data.toList f i ws) (hi : i < s.size) (hc : byteAt s i ≠ c.toNat) : CutAt c s.data.toList f (i + 1) ws := by
  have hl : s.data.toList.length = s.size := (Lib.size_eq s).symm
  rcases h with ⟨h1, h2, h3, h4⟩ | ⟨h1, _⟩
  · refine .inl ⟨by omega, by omega, h3, ?_⟩
    rw [seg_snoc s f i h2 hi, List.mem_append, List.mem_singleton]
    rintro (h | h)
    · exact h4 h
    · refine hc ?_
      rw [h, UInt8.toNat_ofNat', Nat.mod_eq_of_lt (byteAt_lt s i)]
  · omega
theorem CutAt.last {c : UInt8} {s : ByteArray} {f : Nat} {ws : List W8} (h : CutAt c s.data.toList f s.size ws) : CutAt c s.data.toList (s.size + 1) (s.size + 1) (ws ++ [seg s.data.toList f s.size]) := by
  have hl : s.data.toList.length = s.size := (Lib.size_eq s).symm
  rcases h with ⟨h1, h2, h3, h4⟩ | ⟨h1, _⟩
  · refine .inr ⟨by omega, ?_⟩
    rw [h3, seg_split _ f s.size h2 h1, drop_end, List.append_nil, splitC_self c _ h4]
  · omega

set_option maxHeartbeats 2000000 in
set_option maxRecDepth 100000 in
theorem dcut_any (s : ByteArray) (hs : s.size ≤ 9000) (c : UInt8) (cn : Nat) (hcn : cn = c.toNat) (w : World) : Calls Tryz.prog 36 #[.string s, .int .u8 cn] w fun e w' => (∃ oa cap, e = .returned (.slice oa (splitC c s.data.toList).length cap) ∧ (splitC c s.data.toList).length ≤ cap ∧ cap ≤ maxLen ∧ IsStrs oa (splitC c s.data.toList) w') ∧ Below w.heap.size w w' := by
  have HCN := hide hcn
  have hc256 : cn < 256 := by rw [hcn]; exact c.toNat_lt
  clear hcn
  obtain ⟨inf, hi0, hz0, hz1, hz2⟩ := info_str
  go_enter Tryz.func36, Tryz.ntmps36
  go_wp2
  go_loopw [5, 6, 7] (fun L F I w' => ∃ (f i : Nat) (ws : List W8) (lv : Value), L = lv ∧ f ≤ i ∧ i ≤ s.size + 1 ∧ F = .int .i64 f ∧ I = .int .i64 i ∧ Hid (CutAt c s.data.toList f i ws) ∧ ws.length ≤ i ∧ Hid (w'.ownsRow w.heap.size 9 1 lv ws.length (strsL ws)) ∧ Hid (Below w.heap.size w w')) (fun _ _ I _ => s.size + 1 - (intOf I).toNat)
  case atStart => exact ⟨0, 0, [], _, rfl, by omega, by omega, rfl, rfl, hide (CutAt.start _ _), by simp, hide (World.ownsRow_nil _ _ _ _), hide (Below.refl _ _)⟩
  case round =>
    obtain ⟨f, i, ws, L, hlv, hfi, hi, rfl, rfl, HC, hwl, HO, HB⟩ := hrel
    replace hlv := hlv.symm
    subst hlv
    have hbs := HB.out.size
    have i0 : (0 : Int) ≤ f := by omega
    have i1 : (f : Int) ≤ i := by omega
    by_cases hend : i ≤ s.size
    · have hsg : (s.extract f i) = bs (seg s.data.toList f i) := by
        apply ByteArray.ext
        apply Array.toList_inj.1
        rw [extract_seg]
        unfold bs
        simp
      have i2 : (i : Int) ≤ s.size := by omega
      by_cases hlt : i < s.size
      · have ei := byteAt_eq s i hlt
        by_cases hce : byteAt s i = cn
        · have HC2 := hide (HC.out.cut hlt (hce.trans HCN.out))
          rw [hce] at ei
          clear hce
          go_wp2_with (refine wpList_append_lies _ (by rfl) _ _ _ (by rfl) w.heap.size 9 inf _ 1 16 Tryz.underlying89 hi0 hz0 hz1 hz2 rfl (by omega) L ws.length (strsL ws) (by rfl) (HO.out.alloc _) ⟨wr.heap.size, 0, none⟩ 1 1 [.string (bs (seg s.data.toList f i))] (by rfl) (by rfl) (World.news_of_block (cs := #[.string (bs (seg s.data.toList f i))]) (t := 9) (fr := (0, 0)) (heap_alloc_new wr _)) (by simp [Value.oneCell']) (by omega) (by simp only [maxLen]; omega) (by omega) (by rw [World.size_alloc]; omega) (wr.heap.size + 1) (by simp) ?_; intro g7 cap7 w7 hown7 hgrow7 hat7 hlt7; have HB7 := hide ((HB.out.trans ((box_below wr _).mono hbs)).grown hgrow7 (by rw [World.size_alloc]; omega) (fun k hk => (HO.out.lt k hk).1)); have HO7 := hide hown7; clear hown7 hgrow7 hat7 hlt7)
          replace HO7 := hide (show w7.ownsRow w.heap.size 9 1 (.slice (some ⟨g7, 0, none⟩) (ws.length + 1) cap7) (ws ++ [seg s.data.toList f i]).length (strsL (ws ++ [seg s.data.toList f i])) by
            have := HO7.out
            unfold strsL at this ⊢
            rw [List.length_append, List.length_singleton, List.map_append]
            exact this)
          go_wp2
          go_round
          case rel => exact ⟨i + 1, i + 1, _, _, rfl, by omega, by omega, by go_num, by go_num, HC2, by rw [List.length_append, List.length_singleton]; omega, HO7, HB7⟩
          case measure => simp [intOf]; omega
        · have HC2 := hide (HC.out.step hlt (fun h => hce (h.trans HCN.out.symm)))
          have hb1 : ((byteAt s i : Int) == (cn : Int)) = false := by simp; omega
          have hb2 : (byteAt s i == cn) = false := by simpa using hce
          go_wp2
          go_round
          case rel => exact ⟨f, i + 1, ws, _, rfl, by omega, by omega, rfl, by go_num, HC2, by omega, HO, HB⟩
          case measure => simp [intOf]; omega
      · obtain rfl : i = s.size := by omega
        have HC2 := hide HC.out.last
        go_wp2_with (refine wpList_append_lies _ (by rfl) _ _ _ (by rfl) w.heap.size 9 inf _ 1 16 Tryz.underlying89 hi0 hz0 hz1 hz2 rfl (by omega) L ws.length (strsL ws) (by rfl) (HO.out.alloc _) ⟨wr.heap.size, 0, none⟩ 1 1 [.string (bs (seg s.data.toList f s.size))] (by rfl) (by rfl) (World.news_of_block (cs := #[.string (bs (seg s.data.toList f s.size))]) (t := 9) (fr := (0, 0)) (heap_alloc_new wr _)) (by simp [Value.oneCell']) (by omega) (by simp only [maxLen]; omega) (by omega) (by rw [World.size_alloc]; omega) (wr.heap.size + 1) (by simp) ?_; intro g7 cap7 w7 hown7 hgrow7 hat7 hlt7; have HB7 := hide ((HB.out.trans ((box_below wr _).mono hbs)).grown hgrow7 (by rw [World.size_alloc]; omega) (fun k hk => (HO.out.lt k hk).1)); have HO7 := hide hown7; clear hown7 hgrow7 hat7 hlt7)
        replace HO7 := hide (show w7.ownsRow w.heap.size 9 1 (.slice (some ⟨g7, 0, none⟩) (ws.length + 1) cap7) (ws ++ [seg s.data.toList f s.size]).length (strsL (ws ++ [seg s.data.toList f s.size])) by
          have := HO7.out
          unfold strsL at this ⊢
          rw [List.length_append, List.length_singleton, List.map_append]
          exact this)
        go_wp2
        go_round
        case rel => exact ⟨s.size + 1, s.size + 1, _, _, rfl, by omega, by omega, by go_num, by go_num, HC2, by rw [List.length_append, List.length_singleton]; omega, HO7, HB7⟩
        case measure => simp [intOf]
    · obtain rfl : i = s.size + 1 := by omega
      have hws : ws = splitC c s.data.toList := by
        rcases HC.out with ⟨h1, _⟩ | ⟨_, h⟩
        · rw [← Lib.size_eq] at h1; omega
        · exact h
      subst hws
      obtain ⟨oa, cap, hL, q1, q2, q3⟩ := strs_owned HO.out
      subst hL
      go_wp2
      go_ret
      exact ⟨⟨oa, cap, rfl, q1, q2, q3⟩, HB.out⟩
end Go.Proofs.YtkogafponpjdnaaGreatDoor

/- The document's actionOf. -/
namespace Go.Proofs.YtkogafponpjdnaaGreatDoor
open Go.RowKit Go.Sort

def docActV (o : Option (ACT × Nat)) : Value := match o with
  | some (a, n) => .tuple #[actV a, .int .i64 n]
  | none => .tuple #[actV ⟨0, 0⟩, .int .i64 0]

theorem docAct_cons (w : W8) (r : List W8) : docAct (w :: r) = if w = wAllow then some (⟨1, 0⟩, 1) else if w = wKill then some (⟨3, 0⟩, 1) else if w = wDeny then docDeny r else none := rfl

set_option maxHeartbeats 2000000 in
set_option maxRecDepth 100000 in
theorem dact_any (ws : List W8) (hsm : ∀ x ∈ ws, x.length ≤ 9000) (oa : Option Addr) (cap : Nat) (w : World) (hS : IsStrs oa ws w) (hl : ws.length ≤ 9001) :
    Calls Tryz.prog 37 #[.slice oa ws.length cap] w fun e w' => e = .returned (docActV (docAct ws)) ∧ Below w.heap.size w w' := by
  have hres : (w.alloc (.cells #[.int .i64 0, .int .i64 0] 24)).heap[w.heap.size]? = some (.cells #[.int .i64 0, .int .i64 0] 24 (0, 0)) := heap_alloc_new _ _
  match ws, hsm, hS, hl with
  | [], _, _, _ =>
    have HV := hide (show docActV (docAct []) = .tuple #[.agg #[.int .i64 0, .int .i64 0], .int .i64 0] from rfl)
    simp only [List.length_nil]
    go_enter Tryz.func37, Tryz.ntmps37
    go_wp2_with (refine wpList_store_row rfl 24 _ _ rfl w.heap.size #[.int .i64 0, .int .i64 0] rfl rfl 24 _ hres size_action rfl (one2 _ _) ?_)
    refine bodyPost_ret (v := .tuple #[.agg #[.int .i64 0, .int .i64 0], .int .i64 0]) (results_act rfl _ _ w.heap.size #[.int .i64 0, .int .i64 0] _ rfl rfl rfl (setRow_heap _ _ _ _ _ _ hres)) rfl ⟨?_, below_setRow (box_below _ _) (Nat.le_refl _) _⟩
    rw [HV.out]
  | x :: r, hsm, hS, hl =>
    obtain ⟨b, off, rfl, hbw, hc⟩ := hS.lie (by simp)
    obtain ⟨n, hn⟩ : ∃ n, n = (x :: r).length := ⟨_, rfl⟩
    have k0 := hc 0 x rfl
    rw [Nat.add_zero] at k0
    have HC := hide hc
    have hn0 : 0 < n := by rw [hn]; simp
    have hnl : n ≤ 9001 := by omega
    have HN := hide hn
    rw [← hn]
    clear hn hc hS hl
    by_cases h1 : x = wAllow
    · have HV := hide (show docActV (docAct (x :: r)) = .tuple #[.agg #[.int .i64 1, .int .i64 0], .int .i64 1] by rw [docAct_cons, if_pos h1]; rfl)
      rw [h1] at k0
      unfold bs wAllow at k0
      clear h1
      go_enter Tryz.func37, Tryz.ntmps37
      go_wp2_with (refine wpList_store_row rfl 24 _ _ rfl w.heap.size #[.int .i64 1, .int .i64 0] rfl rfl 24 _ hres size_action rfl (one2 _ _) ?_)
      refine bodyPost_ret (v := .tuple #[.agg #[.int .i64 1, .int .i64 0], .int .i64 1]) (results_act rfl _ _ w.heap.size #[.int .i64 1, .int .i64 0] _ rfl rfl rfl (setRow_heap _ _ _ _ _ _ hres)) rfl ⟨?_, below_setRow (box_below _ _) (Nat.le_refl _) _⟩
      rw [HV.out]
    have n1 := h1
    clear h1
    by_cases h1 : x = wKill
    · have HV := hide (show docActV (docAct (x :: r)) = .tuple #[.agg #[.int .i64 3, .int .i64 0], .int .i64 1] by rw [docAct_cons, if_neg n1, if_pos h1]; rfl)
      rw [h1] at k0
      unfold bs wKill at k0
      clear h1 n1
      go_enter Tryz.func37, Tryz.ntmps37
      go_wp2_with (refine wpList_store_row rfl 24 _ _ rfl w.heap.size #[.int .i64 3, .int .i64 0] rfl rfl 24 _ hres size_action rfl (one2 _ _) ?_)
      refine bodyPost_ret (v := .tuple #[.agg #[.int .i64 3, .int .i64 0], .int .i64 1]) (results_act rfl _ _ w.heap.size #[.int .i64 3, .int .i64 0] _ rfl rfl rfl (setRow_heap _ _ _ _ _ _ hres)) rfl ⟨?_, below_setRow (box_below _ _) (Nat.le_refl _) _⟩
      rw [HV.out]
    have n2 := h1
    clear h1
    by_cases h1 : x = wDeny
    · have HV0 := hide (show docAct (x :: r) = docDeny r by rw [docAct_cons, if_neg n1, if_neg n2, if_pos h1])
      rw [h1] at k0
      unfold bs wDeny at k0
      clear h1 n1 n2
      match r, hsm, HC, HN, HV0 with
      | [], _, _, HN, HV0 =>
        have HV := hide (show docActV (docAct [x]) = .tuple #[.agg #[.int .i64 0, .int .i64 0], .int .i64 0] by rw [HV0.out]; rfl)
        obtain rfl : n = 1 := HN.out
        go_enter Tryz.func37, Tryz.ntmps37
        go_wp2_with (refine wpList_store_row rfl 24 _ _ rfl w.heap.size #[.int .i64 0, .int .i64 0] rfl rfl 24 _ hres size_action rfl (one2 _ _) ?_)
        refine bodyPost_ret (v := .tuple #[.agg #[.int .i64 0, .int .i64 0], .int .i64 0]) (results_act rfl _ _ w.heap.size #[.int .i64 0, .int .i64 0] _ rfl rfl rfl (setRow_heap _ _ _ _ _ _ hres)) rfl ⟨?_, below_setRow (box_below _ _) (Nat.le_refl _) _⟩
        rw [HV.out]
      | y :: t, hsm, HC, HN, HV0 =>
        have k1 := HC.out 1 y rfl
        have hn1 : 1 < n := by rw [HN.out]; simp
        have hy := hsm y (by simp)
        have HF := fun X => figures_any (bs y) (by rw [bs_size]; omega) X
        rw [bs_data] at HF
        unfold figV at HF
        obtain ⟨q, hq⟩ : ∃ q, q = bs y := ⟨_, rfl⟩
        rw [← hq] at HF k1
        have HV1 := hide (show docAct (x :: y :: t) = if figOk y = true ∧ figN y < 1000 then some (⟨2, figN y⟩, 2) else none by rw [HV0.out]; rfl)
        obtain ⟨u, hu⟩ : ∃ u, u = figN y := ⟨_, rfl⟩
        obtain ⟨ok, hok⟩ : ∃ o, o = figOk y := ⟨_, rfl⟩
        rw [← hu, ← hok] at HV1 HF
        clear hu hok hq HV0 hsm HC HN hy
        by_cases hg : ok = true ∧ u < 1000
        · have HV := hide (show docActV (docAct (x :: y :: t)) = .tuple #[.agg #[.int .i64 2, .int .i64 u], .int .i64 2] by rw [HV1.out, if_pos hg]; rfl)
          obtain ⟨rfl, hu1⟩ := hg
          have hwr : IntKind.i64.wrap (u : Int) = u := by rw [IntKind.wrap_i64]; omega
          go_enter Tryz.func37, Tryz.ntmps37
          go_wp2_with (first
            | (go_at_call 61; refine (HF _).mono ?_; rintro e X ⟨rfl, hX⟩; have hXr := (hX.block w.heap.size (by simp)).trans hres; have HX := hide hX; clear hX)
            | (refine wpList_store_row rfl 24 _ _ rfl w.heap.size #[.int .i64 2, .int .i64 u] rfl rfl 24 _ hXr size_action rfl (one2 _ _) ?_))
          refine bodyPost_ret (v := .tuple #[.agg #[.int .i64 2, .int .i64 u], .int .i64 2]) (results_act rfl _ _ w.heap.size #[.int .i64 2, .int .i64 u] _ rfl rfl rfl (setRow_heap _ _ _ _ _ _ hXr)) rfl ⟨?_, below_setRow (below_next (box_below _ _) HX.out) (Nat.le_refl _) _⟩
          rw [HV.out]
        · have HV := hide (show docActV (docAct (x :: y :: t)) = .tuple #[.agg #[.int .i64 0, .int .i64 0], .int .i64 0] by rw [HV1.out, if_neg hg]; rfl)
          cases ok with
          | false =>
            clear hg HV1
            go_enter Tryz.func37, Tryz.ntmps37
            go_wp2_with (first
              | (go_at_call 61; refine (HF _).mono ?_; rintro e X ⟨rfl, hX⟩; have hXr := (hX.block w.heap.size (by simp)).trans hres; have HX := hide hX; clear hX)
              | (refine wpList_store_row rfl 24 _ _ rfl w.heap.size #[.int .i64 0, .int .i64 0] rfl rfl 24 _ hXr size_action rfl (one2 _ _) ?_))
            refine bodyPost_ret (v := .tuple #[.agg #[.int .i64 0, .int .i64 0], .int .i64 0]) (results_act rfl _ _ w.heap.size #[.int .i64 0, .int .i64 0] _ rfl rfl rfl (setRow_heap _ _ _ _ _ _ hXr)) rfl ⟨?_, below_setRow (below_next (box_below _ _) HX.out) (Nat.le_refl _) _⟩
            rw [HV.out]
          | true =>
            have hu2 : ¬ u < 1000 := fun h => hg ⟨rfl, h⟩
            clear hg HV1
            go_enter Tryz.func37, Tryz.ntmps37
            go_wp2_with (first
              | (go_at_call 61; refine (HF _).mono ?_; rintro e X ⟨rfl, hX⟩; have hXr := (hX.block w.heap.size (by simp)).trans hres; have HX := hide hX; clear hX)
              | (refine wpList_store_row rfl 24 _ _ rfl w.heap.size #[.int .i64 0, .int .i64 0] rfl rfl 24 _ hXr size_action rfl (one2 _ _) ?_))
            refine bodyPost_ret (v := .tuple #[.agg #[.int .i64 0, .int .i64 0], .int .i64 0]) (results_act rfl _ _ w.heap.size #[.int .i64 0, .int .i64 0] _ rfl rfl rfl (setRow_heap _ _ _ _ _ _ hXr)) rfl ⟨?_, below_setRow (below_next (box_below _ _) HX.out) (Nat.le_refl _) _⟩
            rw [HV.out]
    · have HV := hide (show docActV (docAct (x :: r)) = .tuple #[.agg #[.int .i64 0, .int .i64 0], .int .i64 0] by rw [docAct_cons, if_neg n1, if_neg n2, if_neg h1]; rfl)
      have b1 := beq_no n1
      have b2 := beq_no n2
      have b3 := beq_no h1
      obtain ⟨q, hq⟩ : ∃ q, q = bs x := ⟨_, rfl⟩
      have hqx : q.toList = x := by rw [hq, bs_toList]
      rw [← hqx] at b1 b2 b3
      rw [← hq] at k0
      unfold wAllow at b1
      unfold wKill at b2
      unfold wDeny at b3
      clear hq hqx n1 n2 h1
      go_enter Tryz.func37, Tryz.ntmps37
      go_wp2_with (refine wpList_store_row rfl 24 _ _ rfl w.heap.size #[.int .i64 0, .int .i64 0] rfl rfl 24 _ hres size_action rfl (one2 _ _) ?_)
      all_goals
        refine bodyPost_ret (v := .tuple #[.agg #[.int .i64 0, .int .i64 0], .int .i64 0]) (results_act rfl _ _ w.heap.size #[.int .i64 0, .int .i64 0] _ rfl rfl rfl (setRow_heap _ _ _ _ _ _ hres)) rfl ⟨?_, below_setRow (box_below _ _) (Nat.le_refl _) _⟩
        rw [HV.out]
end Go.Proofs.YtkogafponpjdnaaGreatDoor

/- The document's condOf: the laws, and where there is none by the first word. -/
namespace Go.Proofs.YtkogafponpjdnaaGreatDoor
open Go.RowKit Go.Sort

def docCondV (o : Option (CD × Nat)) : Value := match o with
  | some (c, n) => .tuple #[.agg (condC c), .int .i64 n]
  | none => .tuple #[.agg (condC zeroCD), .int .i64 0]
theorem results_cnd {fn : Func} {p u : Tmp} (h : fn.results = #[.cell p 69, .tmp u]) (tmps : Array Value) (w : World) (g : Nat) (cs : Array Value) (v : Value) (hs : cs.size = 9)
    (hp : tmps.getD p undef = .pointer (some ⟨g, 0, none⟩)) (hv : tmps.getD u undef = v) (hg : w.heap[g]? = some (.cells cs 69 (0, 0))) :
    (results fn tmps).run Tryz.prog w = .ok (.tuple #[.agg cs, v]) w := by
  rw [results_cell_tmp h, hp, hv]
  have hl := run_loadVar_row (P := Tryz.prog) w g 69 69 cs (0, 0) _ hg Tryz.underlying69 rfl (by rw [hs]; exact size_cond)
  simp [asAddr, hl]
/-- The world in the midst of condOf: the result's row, the cond's own. -/
structure DX (w : World) (r6 : Nat) (c : CD) (X : World) : Prop where
  below : Below w.heap.size w X
  res : X.heap[w.heap.size]? = some (.cells (condC zeroCD) 69 (0, 0))
  row : X.heap[r6]? = some (.cells (condC c) 69 (0, 0))
  le : w.heap.size < r6
theorem DX.on {w : World} {r6 : Nat} {c : CD} {X Y : World} (h : DX w r6 c X) (hb : Below X.heap.size X Y) : DX w r6 c Y :=
  ⟨h.below.trans (hb.mono h.below.size), (hb.block _ (Array.getElem?_eq_some_iff.1 h.res).1).trans h.res, (hb.block _ (Array.getElem?_eq_some_iff.1 h.row).1).trans h.row, h.le⟩
theorem DX.cell {w : World} {r6 : Nat} {c : CD} {X : World} (h : DX w r6 c X) (j : Nat) : X.cell? ⟨r6, j, none⟩ = (condC c)[j]? := cell_of_row _ _ j _ _ _ h.row
theorem DX.fro {w : World} {r6 : Nat} {c : CD} {X : World} (h : DX w r6 c X) (j : Nat) : X.frozen? ⟨r6, j, none⟩ = false := frozen_of_row _ _ j _ _ h.row
theorem DX.set {w : World} {r6 : Nat} {c : CD} {X : World} (h : DX w r6 c X) (j : Nat) (v : Value) (c' : CD) (hc : (condC c).setIfInBounds j v = condC c') : DX w r6 c' (X.setCell ⟨r6, j, none⟩ v) := by
  have hl := h.le
  rw [setCell_eq_setRow _ _ j _ _ _ _ h.row, hc]
  have hb : ∀ k, k ≠ r6 → (X.setRow r6 (condC c')).heap[k]? = X.heap[k]? := fun k hk => row_heap X r6 k _ hk
  exact ⟨h.below.trans ⟨rfl, rfl, rfl, by rw [row_size]; exact Nat.le_refl _, fun k hk => hb k (by omega)⟩, (hb _ (by omega)).trans h.res, setRow_heap _ _ _ _ _ _ h.row, h.le⟩
theorem DX.start {w X : World} (c : CD) (hb : Below w.heap.size w X) (hr : X.heap[w.heap.size]? = some (.cells (condC zeroCD) 69 (0, 0))) : DX w X.heap.size c (X.alloc (.cells (condC c) 69)) :=
  ⟨below_next hb (box_below _ _), ((box_below X _).block _ (Array.getElem?_eq_some_iff.1 hr).1).trans hr, heap_alloc_new _ _, (Array.getElem?_eq_some_iff.1 hr).1⟩

set_option maxRecDepth 100000 in
/-- Fewer than three words. -/
theorem dcond_few (ws : List W8) (oa : Option Addr) (cap : Nat) (w : World) (hl : ws.length < 3) :
    Calls Tryz.prog 62 #[.slice oa ws.length cap] w fun e w' => e = .returned (docCondV (docCond ws)) ∧ Below w.heap.size w w' := by
  have HV := hide (show docCondV (docCond ws) = .tuple #[.agg (condC zeroCD), .int .i64 0] by
    match ws, hl with
    | [], _ => rfl
    | [_], _ => rfl
    | [_, _], _ => rfl)
  have hres : (w.alloc (.cells #[.int .i64 0, .int .i64 0, .int .u64 0, .int .u64 0, .string ⟨#[]⟩, .int .u32 0, .int .i64 0, .int .i64 0, .int .i64 0] 69)).heap[w.heap.size]? = some (.cells (condC zeroCD) 69 (0, 0)) := heap_alloc_new _ _
  obtain ⟨n, hn⟩ : ∃ n, n = ws.length := ⟨_, rfl⟩
  rw [← hn] at hl ⊢
  clear hn
  go_enter Tryz.func62, Tryz.ntmps62
  go_wp2_with (refine wpList_store_row rfl 69 _ _ rfl w.heap.size (condC zeroCD) rfl rfl 69 _ hres size_cond rfl (condC_one _) ?_)
  refine bodyPost_ret (v := .tuple #[.agg (condC zeroCD), .int .i64 0]) (results_cnd rfl _ _ w.heap.size (condC zeroCD) _ rfl rfl rfl (setRow_heap _ _ _ _ _ _ hres)) rfl ⟨?_, below_setRow (box_below _ _) (Nat.le_refl _) _⟩
  rw [HV.out]

theorem docCond_cons (a s x : W8) (r : List W8) : docCond (a :: s :: x :: r) =
    if figOk a = true ∧ figN a ≤ 3 then
      if s = [38] then docMask a x r
      else if s = [126] then (if 2 ≤ x.length ∧ x.head? = some 34 ∧ x.getLast? = some 34 then some (⟨figN a, 8, 0, 0, ⟨x.tail.dropLast.toArray⟩, noNet⟩, 3) else none)
      else if s = [105, 110] then (match parseR x with
        | some (ip, b, lo, hi) => some (⟨figN a, 9, 0, 0, ByteArray.empty, ⟨ip, b, lo, hi⟩⟩, 3)
        | none => none)
      else if findOp6 s ≠ 0 ∧ figOk x = true then some (⟨figN a, findOp6 s, figN x, 0, ByteArray.empty, noNet⟩, 3) else none
    else none := rfl

set_option maxHeartbeats 2000000 in
set_option maxRecDepth 100000 in
/-- The first word is no argument's number. -/
theorem dcond_arg (a s x : W8) (r : List W8) (hsm : ∀ y ∈ a :: s :: x :: r, y.length ≤ 9000) (oa : Option Addr) (cap : Nat) (w : World) (hS : IsStrs oa (a :: s :: x :: r) w) (hl : (a :: s :: x :: r).length ≤ 9001) (hno : ¬ (figOk a = true ∧ figN a ≤ 3)) :
    Calls Tryz.prog 62 #[.slice oa (a :: s :: x :: r).length cap] w fun e w' => e = .returned (docCondV (docCond (a :: s :: x :: r))) ∧ Below w.heap.size w w' := by
  have HV := hide (show docCondV (docCond (a :: s :: x :: r)) = .tuple #[.agg (condC zeroCD), .int .i64 0] by rw [docCond_cons, if_neg hno]; rfl)
  obtain ⟨b, off, rfl, hbw, hc⟩ := hS.lie (by simp)
  obtain ⟨n, hn⟩ : ∃ n, n = (a :: s :: x :: r).length := ⟨_, rfl⟩
  have k0 := hc 0 a rfl
  rw [Nat.add_zero] at k0
  have k1 := hc 1 s rfl
  have k2 := hc 2 x rfl
  have HC := hide hc
  have hn3 : 3 ≤ n := by rw [hn]; simp
  have hnl : n ≤ 9001 := by omega
  have HN := hide hn
  rw [← hn]
  clear hn hc hS hl
  obtain ⟨V0, hV0, hV0b, hV0r, hV0s⟩ : ∃ V, V = w.alloc (.cells #[.int .i64 0, .int .i64 0, .int .u64 0, .int .u64 0, .string ⟨#[]⟩, .int .u32 0, .int .i64 0, .int .i64 0, .int .i64 0] 69) ∧ Below w.heap.size w V ∧ V.heap[w.heap.size]? = some (.cells (condC zeroCD) 69 (0, 0)) ∧ w.heap.size < V.heap.size := ⟨_, rfl, box_below _ _, heap_alloc_new _ _, by rw [World.size_alloc]; omega⟩
  have HFA := fun X => figures_any (bs a) (by rw [bs_size]; have := hsm a (by simp); omega) X
  rw [bs_data] at HFA
  unfold figV at HFA
  obtain ⟨qa, hqa⟩ : ∃ q, q = bs a := ⟨_, rfl⟩
  rw [← hqa] at HFA k0
  obtain ⟨A, hA⟩ : ∃ u, u = figN a := ⟨_, rfl⟩
  obtain ⟨okA, hok⟩ : ∃ o, o = figOk a := ⟨_, rfl⟩
  rw [← hA, ← hok] at HFA
  have HAA := hide (And.intro hA hok)
  clear hqa hA hok
  have HNO := hide (show ¬ (okA = true ∧ A ≤ 3) by rw [HAA.out.1, HAA.out.2]; exact hno)
  clear hno HAA k1 k2
  cases okA with
  | false =>
    go_enter Tryz.func62, Tryz.ntmps62
    go_wp2_with (first
      | (go_at_call 61; rw [← hV0]; clear hV0; refine (HFA _).mono ?_; rintro e X ⟨rfl, hX⟩; have hres := (hX.block w.heap.size hV0s).trans hV0r)
      | (refine wpList_store_row rfl 69 _ _ rfl w.heap.size (condC zeroCD) rfl rfl 69 _ hres size_cond rfl (condC_one _) ?_))
    refine bodyPost_ret (v := .tuple #[.agg (condC zeroCD), .int .i64 0]) (results_cnd rfl _ _ w.heap.size (condC zeroCD) _ rfl rfl rfl (setRow_heap _ _ _ _ _ _ hres)) rfl ⟨?_, below_setRow (below_next hV0b hX) (Nat.le_refl _) _⟩
    rw [HV.out]
  | true =>
    have h3 : (3 : Int) < A := by have := HNO.out; simp at this; omega
    go_enter Tryz.func62, Tryz.ntmps62
    go_wp2_with (first
      | (go_at_call 61; rw [← hV0]; clear hV0; refine (HFA _).mono ?_; rintro e X ⟨rfl, hX⟩; have hres := (hX.block w.heap.size hV0s).trans hV0r)
      | (refine wpList_store_row rfl 69 _ _ rfl w.heap.size (condC zeroCD) rfl rfl 69 _ hres size_cond rfl (condC_one _) ?_))
    refine bodyPost_ret (v := .tuple #[.agg (condC zeroCD), .int .i64 0]) (results_cnd rfl _ _ w.heap.size (condC zeroCD) _ rfl rfl rfl (setRow_heap _ _ _ _ _ _ hres)) rfl ⟨?_, below_setRow (below_next hV0b hX) (Nat.le_refl _) _⟩
    rw [HV.out]
end Go.Proofs.YtkogafponpjdnaaGreatDoor

/- The document's condOf: a number. -/
namespace Go.Proofs.YtkogafponpjdnaaGreatDoor
open Go.RowKit Go.Sort

/-- The signs' table. -/
def sigT (j : Nat) : W8 := ([[], [61, 61], [33, 61], [60], [60, 61], [62], [62, 61]] : List W8).getD j []
def OpAt (s : W8) (K i : Nat) : Prop := (K = 0 ∧ ∀ j, 1 ≤ j → j < i → sigT j ≠ s) ∨ (1 ≤ K ∧ K < i ∧ sigT K = s)
theorem op_end {s : W8} {K : Nat} (h : OpAt s K 7) : K = findOp6 s := by
  rcases h with ⟨rfl, h⟩ | ⟨h1, h2, rfl⟩
  · unfold findOp6
    cases hf : (signW.take 6).findIdx? (· == s) with
    | none => rfl
    | some i =>
      have h1 := find_some hf
      have hi : i < 6 := h1.2
      refine absurd ?_ (h (i + 1) (by omega) (by omega))
      rw [← h1.1]
      rcases (by omega : i = 0 ∨ i = 1 ∨ i = 2 ∨ i = 3 ∨ i = 4 ∨ i = 5) with rfl | rfl | rfl | rfl | rfl | rfl <;> rfl
  · rcases (by omega : K = 1 ∨ K = 2 ∨ K = 3 ∨ K = 4 ∨ K = 5 ∨ K = 6) with rfl | rfl | rfl | rfl | rfl | rfl <;> rfl

set_option maxHeartbeats 4000000 in
set_option maxRecDepth 100000 in
/-- A number. -/
theorem dcond_num (a s x : W8) (r : List W8) (hsm : ∀ y ∈ a :: s :: x :: r, y.length ≤ 9000) (oa : Option Addr) (cap : Nat) (w : World) (hS : IsStrs oa (a :: s :: x :: r) w) (hl : (a :: s :: x :: r).length ≤ 9001) (hA : figOk a = true ∧ figN a ≤ 3) (h38 : s ≠ [38]) (h126 : s ≠ [126]) (hin : s ≠ [105, 110]) :
    Calls Tryz.prog 62 #[.slice oa (a :: s :: x :: r).length cap] w fun e w' => e = .returned (docCondV (docCond (a :: s :: x :: r))) ∧ Below w.heap.size w w' := by
  have HV0 := hide (show docCond (a :: s :: x :: r) = if findOp6 s ≠ 0 ∧ figOk x = true then some (⟨figN a, findOp6 s, figN x, 0, ByteArray.empty, noNet⟩, 3) else none by rw [docCond_cons, if_pos hA, if_neg h38, if_neg h126, if_neg hin])
  obtain ⟨b, off, rfl, hbw, hc⟩ := hS.lie (by simp)
  obtain ⟨n, hn⟩ : ∃ n, n = (a :: s :: x :: r).length := ⟨_, rfl⟩
  have k0 := hc 0 a rfl
  rw [Nat.add_zero] at k0
  have k1 := hc 1 s rfl
  have k2 := hc 2 x rfl
  have HC := hide hc
  have hn3 : 3 ≤ n := by rw [hn]; simp
  have hnl : n ≤ 9001 := by omega
  have HN := hide hn
  rw [← hn]
  clear hn hc hS hl
  obtain ⟨V0, hV0, hV0b, hV0r, hV0s⟩ : ∃ V, V = w.alloc (.cells #[.int .i64 0, .int .i64 0, .int .u64 0, .int .u64 0, .string ⟨#[]⟩, .int .u32 0, .int .i64 0, .int .i64 0, .int .i64 0] 69) ∧ Below w.heap.size w V ∧ V.heap[w.heap.size]? = some (.cells (condC zeroCD) 69 (0, 0)) ∧ w.heap.size < V.heap.size := ⟨_, rfl, box_below _ _, heap_alloc_new _ _, by rw [World.size_alloc]; omega⟩
  have HFA := fun X => figures_any (bs a) (by rw [bs_size]; have := hsm a (by simp); omega) X
  rw [bs_data] at HFA
  unfold figV at HFA
  obtain ⟨qa, hqa⟩ : ∃ q, q = bs a := ⟨_, rfl⟩
  rw [← hqa] at HFA k0
  obtain ⟨A, hA⟩ : ∃ u, u = figN a := ⟨_, rfl⟩
  obtain ⟨okA, hok⟩ : ∃ o, o = figOk a := ⟨_, rfl⟩
  rw [← hA, ← hok] at HFA
  have HAA := hide (And.intro hA hok)
  clear hqa hA hok
  have hA3 : A ≤ 3 := by rw [HAA.out.1]; exact hA.2
  obtain rfl : okA = true := by rw [HAA.out.2]; exact hA.1
  have hwr : IntKind.i64.wrap (A : Int) = A := by rw [IntKind.wrap_i64]; omega
  rw [← HAA.out.1] at HV0
  have HFX := fun X => figures_any (bs x) (by rw [bs_size]; have := hsm x (by simp); omega) X
  rw [bs_data] at HFX
  unfold figV at HFX
  obtain ⟨M, hM⟩ : ∃ u, u = figN x := ⟨_, rfl⟩
  obtain ⟨ok1, ho1⟩ : ∃ o, o = figOk x := ⟨_, rfl⟩
  rw [← hM, ← ho1] at HFX HV0
  clear hM ho1
  have b1 := beq_no h38
  have b2 := beq_no h126
  have b3 := beq_no hin
  obtain ⟨q, hq⟩ : ∃ q, q = bs s := ⟨_, rfl⟩
  have hqs : q.toList = s := by rw [hq, bs_toList]
  rw [← hqs] at b1 b2 b3
  have HQS := hide hqs
  rw [← hq] at k1
  clear hq hqs h38 h126 hin
  obtain ⟨qx, hqx⟩ : ∃ q, q = bs x := ⟨_, rfl⟩
  rw [← hqx] at k2 HFX
  clear hqx
  go_enter Tryz.func62, Tryz.ntmps62
  go_wp2_with fail
  rw [← hV0]
  clear hV0
  refine (HFA _).mono ?_
  rintro e X1 ⟨rfl, hX1⟩
  have HB := hide (below_next hV0b hX1)
  have HR := hide ((hX1.block w.heap.size hV0s).trans hV0r)
  clear hX1 HFA k0
  have l0 : w.heap.size < X1.heap.size := (Array.getElem?_eq_some_iff.1 HR.out).1
  have lb : b < X1.heap.size := Nat.lt_of_lt_of_le hbw HB.out.size
  have HS := hide (DX.start (X := X1) ⟨A, 0, 0, 0, ⟨#[]⟩, noNet⟩ HB.out HR.out)
  have j1 := keep_cell HB.out k1
  have j2 := keep_cell HB.out k2
  obtain ⟨U, hU⟩ : ∃ U, U = X1.alloc (.cells #[.int .i64 A, .int .i64 0, .int .u64 0, .int .u64 0, .string ⟨#[]⟩, .int .u32 0, .int .i64 0, .int .i64 0, .int .i64 0] 69) := ⟨_, rfl⟩
  obtain ⟨T, hT, hTb, hTs, hTc⟩ := one_box U #[.string ⟨#[]⟩, .string ⟨#[61, 61]⟩, .string ⟨#[33, 61]⟩, .string ⟨#[60]⟩, .string ⟨#[60, 61]⟩, .string ⟨#[62]⟩, .string ⟨#[62, 61]⟩] 109
  have HD0 := hide (HS.out.on (show Below (X1.alloc (.cells #[.int .i64 A, .int .i64 0, .int .u64 0, .int .u64 0, .string ⟨#[]⟩, .int .u32 0, .int .i64 0, .int .i64 0, .int .i64 0] 69)).heap.size (X1.alloc (.cells #[.int .i64 A, .int .i64 0, .int .u64 0, .int .u64 0, .string ⟨#[]⟩, .int .u32 0, .int .i64 0, .int .i64 0, .int .i64 0] 69)) T by rw [← hU]; exact hTb))
  have HTC := hide (show ∀ j, j < 7 → T.cell? ⟨U.heap.size, j, none⟩ = some (.string (bs (sigT j))) from fun j hj => by
    rw [hTc]
    rcases (by omega : j = 0 ∨ j = 1 ∨ j = 2 ∨ j = 3 ∨ j = 4 ∨ j = 5 ∨ j = 6) with rfl | rfl | rfl | rfl | rfl | rfl | rfl <;> rfl)
  have hUs : U.heap.size = X1.heap.size + 1 := by rw [hU, World.size_alloc]
  rw [hUs] at HTC hTs
  clear hTc
  go_wp2
  rw [← hU, ← hT]
  rw [hU] at hUs
  clear hT hU hTb hUs HS HR l0 lb j1 j2
  have hBX := HB.out.size
  clear HB
  obtain ⟨r6, hr6⟩ : ∃ r, r = X1.heap.size := ⟨_, rfl⟩
  rw [← hr6] at HD0 HTC ⊢
  clear hr6 hTs hBX
  go_loopw [15] (fun I w' => ∃ i K : Nat, 1 ≤ i ∧ i ≤ 7 ∧ I = .int .i64 i ∧ Hid (OpAt s K i) ∧ Hid (DX w r6 ⟨A, K, 0, 0, ⟨#[]⟩, noNet⟩ w') ∧ Hid (∀ j, j < 7 → w'.cell? ⟨r6 + 1, j, none⟩ = some (.string (bs (sigT j))))) (fun I _ => 7 - (intOf I).toNat)
  case atStart => exact ⟨1, 0, by omega, by omega, rfl, hide (.inl ⟨rfl, fun j h1 h2 => by omega⟩), HD0, HTC⟩
  case round =>
    obtain ⟨i, K, h1i, hi7, rfl, HOP, HD, HT⟩ := hrel
    clear HD0 HTC
    have i1 : (0 : Int) ≤ i := by omega
    by_cases hlt : i < 7
    · have i2 : (i : Int) < 7 := by omega
      have c := HT.out i hlt
      obtain ⟨st, hst⟩ : ∃ z, z = bs (sigT i) := ⟨_, rfl⟩
      rw [← hst] at c
      have HSS := hide (show st.toList = sigT i by rw [hst, bs_toList])
      clear hst
      have j1 := keep_cell HD.out.below k1
      by_cases he : st.toList = q.toList
      · have HOP2 := hide (show OpAt s i (i + 1) from .inr ⟨h1i, by omega, by rw [← HSS.out, he, HQS.out]⟩)
        have he2 : (st.toList == q.toList) = true := by simpa using he
        have c1 := HD.out.cell 1
        simp only [condC, List.getElem?_toArray, List.getElem?_cons_zero, List.getElem?_cons_succ] at c1
        have f1 := HD.out.fro 1
        clear he
        go_wp2_with fail
        go_quiet (fail)
        go_wp2
        go_round
        case rel => exact ⟨i + 1, i, by omega, by omega, by go_num, HOP2, hide ((HD.out.on (below_drewN' (Below.refl _ _) _)).set 1 (.int .i64 i) ⟨A, i, 0, 0, ⟨#[]⟩, noNet⟩ (by rfl)), hide (fun j hj => (But.set r6 1 _ _).cell (by omega) (HT.out j hj))⟩
        case measure => simp [intOf]; omega
      · have HOP2 := hide (show OpAt s K (i + 1) by
          rcases HOP.out with ⟨h0, h2⟩ | ⟨h0, h2, h3⟩
          · refine .inl ⟨h0, fun j hj1 hj2 => ?_⟩
            by_cases e : j = i
            · rw [e, ← HSS.out, ← HQS.out]; exact he
            · exact h2 j hj1 (by omega)
          · exact .inr ⟨h0, by omega, h3⟩)
        have he2 : (st.toList == q.toList) = false := by simpa using he
        clear he
        go_wp2_with fail
        go_quiet (fail)
        go_wp2
        go_round
        case rel => exact ⟨i + 1, K, by omega, by omega, by go_num, HOP2, hide (by first | exact HD.out | exact HD.out.on (Below.refl _ _).drew | exact HD.out.on (below_drewN' (Below.refl _ _) _)), hide (by first | exact HT.out | exact fun j hj => HT.out j hj)⟩
        case measure => simp [intOf]; omega
    · obtain rfl : i = 7 := by omega
      have hK := op_end HOP.out
      rw [← hK] at HV0
      have HK6 := hide (show K ≤ 6 by rcases HOP.out with ⟨h0, _⟩ | ⟨_, h0, _⟩ <;> omega)
      have j2 := keep_cell HD.out.below k2
      clear hK HOP
      go_wp2_with fail
      refine (HFX _).mono ?_
      rintro e Y ⟨rfl, hY⟩
      have HC2 := hide (HD.out.on hY)
      clear hY HD HFX j2
      have c0 := HC2.out.cell 0
      have c1 := HC2.out.cell 1
      have c2 := HC2.out.cell 2
      have c3 := HC2.out.cell 3
      have c4 := HC2.out.cell 4
      have c5 := HC2.out.cell 5
      have c6 := HC2.out.cell 6
      have c7 := HC2.out.cell 7
      have c8 := HC2.out.cell 8
      simp only [condC, noNet, List.getElem?_toArray, List.getElem?_cons_zero, List.getElem?_cons_succ] at c0 c1 c2 c3 c4 c5 c6 c7 c8
      have hres := HC2.out.res
      by_cases hK0 : K = 0
      · have HV := hide (show docCondV (docCond (a :: s :: x :: r)) = .tuple #[.agg (condC zeroCD), .int .i64 0] by rw [HV0.out, if_neg (fun h => h.1 hK0)]; rfl)
        subst hK0
        go_wp2_with (refine wpList_store_row rfl 69 _ _ rfl w.heap.size (condC zeroCD) rfl rfl 69 _ hres size_cond rfl (condC_one _) ?_)
        refine bodyPost_ret (v := .tuple #[.agg (condC zeroCD), .int .i64 0]) (results_cnd rfl _ _ w.heap.size (condC zeroCD) _ rfl rfl rfl (setRow_heap _ _ _ _ _ _ hres)) rfl ⟨?_, below_setRow HC2.out.below (Nat.le_refl _) _⟩
        rw [HV.out]
      have bK : ((K : Int) == 0) = false := by simp; omega
      cases ok1 with
      | false =>
        have HV := hide (show docCondV (docCond (a :: s :: x :: r)) = .tuple #[.agg (condC zeroCD), .int .i64 0] by rw [HV0.out, if_neg (fun h => by simp at h)]; rfl)
        clear hK0
        go_wp2_with (refine wpList_store_row rfl 69 _ _ rfl w.heap.size (condC zeroCD) rfl rfl 69 _ hres size_cond rfl (condC_one _) ?_)
        refine bodyPost_ret (v := .tuple #[.agg (condC zeroCD), .int .i64 0]) (results_cnd rfl _ _ w.heap.size (condC zeroCD) _ rfl rfl rfl (setRow_heap _ _ _ _ _ _ hres)) rfl ⟨?_, below_setRow HC2.out.below (Nat.le_refl _) _⟩
        rw [HV.out]
      | true =>
        have HV := hide (show docCondV (docCond (a :: s :: x :: r)) = .tuple #[.agg (condC ⟨A, K, M, 0, ⟨#[]⟩, noNet⟩), .int .i64 3] by rw [HV0.out, if_pos ⟨hK0, rfl⟩]; rfl)
        clear hK0
        have f2 := HC2.out.fro 2
        have HS2 := hide (HC2.out.set 2 (.int .u64 M) ⟨A, K, M, 0, ⟨#[]⟩, noNet⟩ (by rfl))
        have hres2 := HS2.out.res
        go_wp2_with (refine wpList_store_row rfl 69 _ _ rfl w.heap.size (condC ⟨A, K, M, 0, ⟨#[]⟩, noNet⟩) rfl rfl 69 _ hres2 size_cond rfl (condC_one _) ?_)
        refine bodyPost_ret (v := .tuple #[.agg (condC ⟨A, K, M, 0, ⟨#[]⟩, noNet⟩), .int .i64 3]) (results_cnd rfl _ _ w.heap.size (condC ⟨A, K, M, 0, ⟨#[]⟩, noNet⟩) _ rfl rfl rfl (setRow_heap _ _ _ _ _ _ hres2)) rfl ⟨?_, below_setRow HS2.out.below (Nat.le_refl _) _⟩
        rw [HV.out]
end Go.Proofs.YtkogafponpjdnaaGreatDoor
