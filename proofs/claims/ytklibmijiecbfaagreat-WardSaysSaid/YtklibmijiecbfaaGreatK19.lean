/- The document's Kind at every call and argument. -/
import Derived.Test.YtklibmijiecbfaaGreatK5
namespace Go.Proofs.YtklibmijiecbfaaGreat
open Go.RowKit

theorem kindIdx_0 (w : World) : (Instr.index 156 (.agg #[.string ⟨#[49, 49]⟩, .string ⟨#[49, 49]⟩, .string ⟨#[50, 49, 49]⟩, .string ⟨#[49]⟩, .string ⟨#[50]⟩, .string ⟨#[50, 50]⟩, .string ⟨#[49, 51]⟩, .string ⟨#[50, 50, 49]⟩, .string ⟨#[49, 49, 51, 49]⟩]) (.int .i64 0)).run Tryz.prog w = .ok (.string ⟨#[49, 49]⟩) w := by kernel_rfl
theorem kindIdx_1 (w : World) : (Instr.index 156 (.agg #[.string ⟨#[49, 49]⟩, .string ⟨#[49, 49]⟩, .string ⟨#[50, 49, 49]⟩, .string ⟨#[49]⟩, .string ⟨#[50]⟩, .string ⟨#[50, 50]⟩, .string ⟨#[49, 51]⟩, .string ⟨#[50, 50, 49]⟩, .string ⟨#[49, 49, 51, 49]⟩]) (.int .i64 1)).run Tryz.prog w = .ok (.string ⟨#[49, 49]⟩) w := by kernel_rfl
theorem kindIdx_2 (w : World) : (Instr.index 156 (.agg #[.string ⟨#[49, 49]⟩, .string ⟨#[49, 49]⟩, .string ⟨#[50, 49, 49]⟩, .string ⟨#[49]⟩, .string ⟨#[50]⟩, .string ⟨#[50, 50]⟩, .string ⟨#[49, 51]⟩, .string ⟨#[50, 50, 49]⟩, .string ⟨#[49, 49, 51, 49]⟩]) (.int .i64 2)).run Tryz.prog w = .ok (.string ⟨#[50, 49, 49]⟩) w := by kernel_rfl
theorem kindIdx_3 (w : World) : (Instr.index 156 (.agg #[.string ⟨#[49, 49]⟩, .string ⟨#[49, 49]⟩, .string ⟨#[50, 49, 49]⟩, .string ⟨#[49]⟩, .string ⟨#[50]⟩, .string ⟨#[50, 50]⟩, .string ⟨#[49, 51]⟩, .string ⟨#[50, 50, 49]⟩, .string ⟨#[49, 49, 51, 49]⟩]) (.int .i64 3)).run Tryz.prog w = .ok (.string ⟨#[49]⟩) w := by kernel_rfl
theorem kindIdx_4 (w : World) : (Instr.index 156 (.agg #[.string ⟨#[49, 49]⟩, .string ⟨#[49, 49]⟩, .string ⟨#[50, 49, 49]⟩, .string ⟨#[49]⟩, .string ⟨#[50]⟩, .string ⟨#[50, 50]⟩, .string ⟨#[49, 51]⟩, .string ⟨#[50, 50, 49]⟩, .string ⟨#[49, 49, 51, 49]⟩]) (.int .i64 4)).run Tryz.prog w = .ok (.string ⟨#[50]⟩) w := by kernel_rfl
theorem kindIdx_5 (w : World) : (Instr.index 156 (.agg #[.string ⟨#[49, 49]⟩, .string ⟨#[49, 49]⟩, .string ⟨#[50, 49, 49]⟩, .string ⟨#[49]⟩, .string ⟨#[50]⟩, .string ⟨#[50, 50]⟩, .string ⟨#[49, 51]⟩, .string ⟨#[50, 50, 49]⟩, .string ⟨#[49, 49, 51, 49]⟩]) (.int .i64 5)).run Tryz.prog w = .ok (.string ⟨#[50, 50]⟩) w := by kernel_rfl
theorem kindIdx_6 (w : World) : (Instr.index 156 (.agg #[.string ⟨#[49, 49]⟩, .string ⟨#[49, 49]⟩, .string ⟨#[50, 49, 49]⟩, .string ⟨#[49]⟩, .string ⟨#[50]⟩, .string ⟨#[50, 50]⟩, .string ⟨#[49, 51]⟩, .string ⟨#[50, 50, 49]⟩, .string ⟨#[49, 49, 51, 49]⟩]) (.int .i64 6)).run Tryz.prog w = .ok (.string ⟨#[49, 51]⟩) w := by kernel_rfl
theorem kindIdx_7 (w : World) : (Instr.index 156 (.agg #[.string ⟨#[49, 49]⟩, .string ⟨#[49, 49]⟩, .string ⟨#[50, 49, 49]⟩, .string ⟨#[49]⟩, .string ⟨#[50]⟩, .string ⟨#[50, 50]⟩, .string ⟨#[49, 51]⟩, .string ⟨#[50, 50, 49]⟩, .string ⟨#[49, 49, 51, 49]⟩]) (.int .i64 7)).run Tryz.prog w = .ok (.string ⟨#[50, 50, 49]⟩) w := by kernel_rfl
theorem kindIdx_8 (w : World) : (Instr.index 156 (.agg #[.string ⟨#[49, 49]⟩, .string ⟨#[49, 49]⟩, .string ⟨#[50, 49, 49]⟩, .string ⟨#[49]⟩, .string ⟨#[50]⟩, .string ⟨#[50, 50]⟩, .string ⟨#[49, 51]⟩, .string ⟨#[50, 50, 49]⟩, .string ⟨#[49, 49, 51, 49]⟩]) (.int .i64 8)).run Tryz.prog w = .ok (.string ⟨#[49, 49, 51, 49]⟩) w := by kernel_rfl
theorem kind_0_0 (w : World) : Calls Tryz.prog 44 #[.int .i64 0, .int .i64 0] w fun e w' => e = .returned (.int .i64 1) ∧ w' = w := by
 have hi := kindIdx_0
 go_enter Tryz.func44, Tryz.ntmps44
 go_wp2
 go_ret
 exact ⟨rfl, rfl⟩
theorem kind_0_1 (w : World) : Calls Tryz.prog 44 #[.int .i64 0, .int .i64 1] w fun e w' => e = .returned (.int .i64 1) ∧ w' = w := by
 have hi := kindIdx_0
 go_enter Tryz.func44, Tryz.ntmps44
 go_wp2
 go_ret
 exact ⟨rfl, rfl⟩
theorem kind_0_2 (w : World) : Calls Tryz.prog 44 #[.int .i64 0, .int .i64 2] w fun e w' => e = .returned (.int .i64 0) ∧ w' = w := by
 have hi := kindIdx_0
 go_enter Tryz.func44, Tryz.ntmps44
 go_wp2
 go_ret
 exact ⟨rfl, rfl⟩
theorem kind_0_3 (w : World) : Calls Tryz.prog 44 #[.int .i64 0, .int .i64 3] w fun e w' => e = .returned (.int .i64 0) ∧ w' = w := by
 have hi := kindIdx_0
 go_enter Tryz.func44, Tryz.ntmps44
 go_wp2
 go_ret
 exact ⟨rfl, rfl⟩
theorem kind_1_0 (w : World) : Calls Tryz.prog 44 #[.int .i64 1, .int .i64 0] w fun e w' => e = .returned (.int .i64 1) ∧ w' = w := by
 have hi := kindIdx_1
 go_enter Tryz.func44, Tryz.ntmps44
 go_wp2
 go_ret
 exact ⟨rfl, rfl⟩
theorem kind_1_1 (w : World) : Calls Tryz.prog 44 #[.int .i64 1, .int .i64 1] w fun e w' => e = .returned (.int .i64 1) ∧ w' = w := by
 have hi := kindIdx_1
 go_enter Tryz.func44, Tryz.ntmps44
 go_wp2
 go_ret
 exact ⟨rfl, rfl⟩
theorem kind_1_2 (w : World) : Calls Tryz.prog 44 #[.int .i64 1, .int .i64 2] w fun e w' => e = .returned (.int .i64 0) ∧ w' = w := by
 have hi := kindIdx_1
 go_enter Tryz.func44, Tryz.ntmps44
 go_wp2
 go_ret
 exact ⟨rfl, rfl⟩
theorem kind_1_3 (w : World) : Calls Tryz.prog 44 #[.int .i64 1, .int .i64 3] w fun e w' => e = .returned (.int .i64 0) ∧ w' = w := by
 have hi := kindIdx_1
 go_enter Tryz.func44, Tryz.ntmps44
 go_wp2
 go_ret
 exact ⟨rfl, rfl⟩
theorem kind_2_0 (w : World) : Calls Tryz.prog 44 #[.int .i64 2, .int .i64 0] w fun e w' => e = .returned (.int .i64 2) ∧ w' = w := by
 have hi := kindIdx_2
 go_enter Tryz.func44, Tryz.ntmps44
 go_wp2
 go_ret
 exact ⟨rfl, rfl⟩
theorem kind_2_1 (w : World) : Calls Tryz.prog 44 #[.int .i64 2, .int .i64 1] w fun e w' => e = .returned (.int .i64 1) ∧ w' = w := by
 have hi := kindIdx_2
 go_enter Tryz.func44, Tryz.ntmps44
 go_wp2
 go_ret
 exact ⟨rfl, rfl⟩
theorem kind_2_2 (w : World) : Calls Tryz.prog 44 #[.int .i64 2, .int .i64 2] w fun e w' => e = .returned (.int .i64 1) ∧ w' = w := by
 have hi := kindIdx_2
 go_enter Tryz.func44, Tryz.ntmps44
 go_wp2
 go_ret
 exact ⟨rfl, rfl⟩
theorem kind_2_3 (w : World) : Calls Tryz.prog 44 #[.int .i64 2, .int .i64 3] w fun e w' => e = .returned (.int .i64 0) ∧ w' = w := by
 have hi := kindIdx_2
 go_enter Tryz.func44, Tryz.ntmps44
 go_wp2
 go_ret
 exact ⟨rfl, rfl⟩
theorem kind_3_0 (w : World) : Calls Tryz.prog 44 #[.int .i64 3, .int .i64 0] w fun e w' => e = .returned (.int .i64 1) ∧ w' = w := by
 have hi := kindIdx_3
 go_enter Tryz.func44, Tryz.ntmps44
 go_wp2
 go_ret
 exact ⟨rfl, rfl⟩
theorem kind_3_1 (w : World) : Calls Tryz.prog 44 #[.int .i64 3, .int .i64 1] w fun e w' => e = .returned (.int .i64 0) ∧ w' = w := by
 have hi := kindIdx_3
 go_enter Tryz.func44, Tryz.ntmps44
 go_wp2
 go_ret
 exact ⟨rfl, rfl⟩
theorem kind_3_2 (w : World) : Calls Tryz.prog 44 #[.int .i64 3, .int .i64 2] w fun e w' => e = .returned (.int .i64 0) ∧ w' = w := by
 have hi := kindIdx_3
 go_enter Tryz.func44, Tryz.ntmps44
 go_wp2
 go_ret
 exact ⟨rfl, rfl⟩
theorem kind_3_3 (w : World) : Calls Tryz.prog 44 #[.int .i64 3, .int .i64 3] w fun e w' => e = .returned (.int .i64 0) ∧ w' = w := by
 have hi := kindIdx_3
 go_enter Tryz.func44, Tryz.ntmps44
 go_wp2
 go_ret
 exact ⟨rfl, rfl⟩
theorem kind_4_0 (w : World) : Calls Tryz.prog 44 #[.int .i64 4, .int .i64 0] w fun e w' => e = .returned (.int .i64 2) ∧ w' = w := by
 have hi := kindIdx_4
 go_enter Tryz.func44, Tryz.ntmps44
 go_wp2
 go_ret
 exact ⟨rfl, rfl⟩
theorem kind_4_1 (w : World) : Calls Tryz.prog 44 #[.int .i64 4, .int .i64 1] w fun e w' => e = .returned (.int .i64 0) ∧ w' = w := by
 have hi := kindIdx_4
 go_enter Tryz.func44, Tryz.ntmps44
 go_wp2
 go_ret
 exact ⟨rfl, rfl⟩
theorem kind_4_2 (w : World) : Calls Tryz.prog 44 #[.int .i64 4, .int .i64 2] w fun e w' => e = .returned (.int .i64 0) ∧ w' = w := by
 have hi := kindIdx_4
 go_enter Tryz.func44, Tryz.ntmps44
 go_wp2
 go_ret
 exact ⟨rfl, rfl⟩
theorem kind_4_3 (w : World) : Calls Tryz.prog 44 #[.int .i64 4, .int .i64 3] w fun e w' => e = .returned (.int .i64 0) ∧ w' = w := by
 have hi := kindIdx_4
 go_enter Tryz.func44, Tryz.ntmps44
 go_wp2
 go_ret
 exact ⟨rfl, rfl⟩
theorem kind_5_0 (w : World) : Calls Tryz.prog 44 #[.int .i64 5, .int .i64 0] w fun e w' => e = .returned (.int .i64 2) ∧ w' = w := by
 have hi := kindIdx_5
 go_enter Tryz.func44, Tryz.ntmps44
 go_wp2
 go_ret
 exact ⟨rfl, rfl⟩
theorem kind_5_1 (w : World) : Calls Tryz.prog 44 #[.int .i64 5, .int .i64 1] w fun e w' => e = .returned (.int .i64 2) ∧ w' = w := by
 have hi := kindIdx_5
 go_enter Tryz.func44, Tryz.ntmps44
 go_wp2
 go_ret
 exact ⟨rfl, rfl⟩
theorem kind_5_2 (w : World) : Calls Tryz.prog 44 #[.int .i64 5, .int .i64 2] w fun e w' => e = .returned (.int .i64 0) ∧ w' = w := by
 have hi := kindIdx_5
 go_enter Tryz.func44, Tryz.ntmps44
 go_wp2
 go_ret
 exact ⟨rfl, rfl⟩
theorem kind_5_3 (w : World) : Calls Tryz.prog 44 #[.int .i64 5, .int .i64 3] w fun e w' => e = .returned (.int .i64 0) ∧ w' = w := by
 have hi := kindIdx_5
 go_enter Tryz.func44, Tryz.ntmps44
 go_wp2
 go_ret
 exact ⟨rfl, rfl⟩
theorem kind_6_0 (w : World) : Calls Tryz.prog 44 #[.int .i64 6, .int .i64 0] w fun e w' => e = .returned (.int .i64 1) ∧ w' = w := by
 have hi := kindIdx_6
 go_enter Tryz.func44, Tryz.ntmps44
 go_wp2
 go_ret
 exact ⟨rfl, rfl⟩
theorem kind_6_1 (w : World) : Calls Tryz.prog 44 #[.int .i64 6, .int .i64 1] w fun e w' => e = .returned (.int .i64 3) ∧ w' = w := by
 have hi := kindIdx_6
 go_enter Tryz.func44, Tryz.ntmps44
 go_wp2
 go_ret
 exact ⟨rfl, rfl⟩
theorem kind_6_2 (w : World) : Calls Tryz.prog 44 #[.int .i64 6, .int .i64 2] w fun e w' => e = .returned (.int .i64 0) ∧ w' = w := by
 have hi := kindIdx_6
 go_enter Tryz.func44, Tryz.ntmps44
 go_wp2
 go_ret
 exact ⟨rfl, rfl⟩
theorem kind_6_3 (w : World) : Calls Tryz.prog 44 #[.int .i64 6, .int .i64 3] w fun e w' => e = .returned (.int .i64 0) ∧ w' = w := by
 have hi := kindIdx_6
 go_enter Tryz.func44, Tryz.ntmps44
 go_wp2
 go_ret
 exact ⟨rfl, rfl⟩
theorem kind_7_0 (w : World) : Calls Tryz.prog 44 #[.int .i64 7, .int .i64 0] w fun e w' => e = .returned (.int .i64 2) ∧ w' = w := by
 have hi := kindIdx_7
 go_enter Tryz.func44, Tryz.ntmps44
 go_wp2
 go_ret
 exact ⟨rfl, rfl⟩
theorem kind_7_1 (w : World) : Calls Tryz.prog 44 #[.int .i64 7, .int .i64 1] w fun e w' => e = .returned (.int .i64 2) ∧ w' = w := by
 have hi := kindIdx_7
 go_enter Tryz.func44, Tryz.ntmps44
 go_wp2
 go_ret
 exact ⟨rfl, rfl⟩
theorem kind_7_2 (w : World) : Calls Tryz.prog 44 #[.int .i64 7, .int .i64 2] w fun e w' => e = .returned (.int .i64 1) ∧ w' = w := by
 have hi := kindIdx_7
 go_enter Tryz.func44, Tryz.ntmps44
 go_wp2
 go_ret
 exact ⟨rfl, rfl⟩
theorem kind_7_3 (w : World) : Calls Tryz.prog 44 #[.int .i64 7, .int .i64 3] w fun e w' => e = .returned (.int .i64 0) ∧ w' = w := by
 have hi := kindIdx_7
 go_enter Tryz.func44, Tryz.ntmps44
 go_wp2
 go_ret
 exact ⟨rfl, rfl⟩
theorem kind_8_0 (w : World) : Calls Tryz.prog 44 #[.int .i64 8, .int .i64 0] w fun e w' => e = .returned (.int .i64 1) ∧ w' = w := by
 have hi := kindIdx_8
 go_enter Tryz.func44, Tryz.ntmps44
 go_wp2
 go_ret
 exact ⟨rfl, rfl⟩
theorem kind_8_1 (w : World) : Calls Tryz.prog 44 #[.int .i64 8, .int .i64 1] w fun e w' => e = .returned (.int .i64 1) ∧ w' = w := by
 have hi := kindIdx_8
 go_enter Tryz.func44, Tryz.ntmps44
 go_wp2
 go_ret
 exact ⟨rfl, rfl⟩
theorem kind_8_2 (w : World) : Calls Tryz.prog 44 #[.int .i64 8, .int .i64 2] w fun e w' => e = .returned (.int .i64 3) ∧ w' = w := by
 have hi := kindIdx_8
 go_enter Tryz.func44, Tryz.ntmps44
 go_wp2
 go_ret
 exact ⟨rfl, rfl⟩
theorem kind_8_3 (w : World) : Calls Tryz.prog 44 #[.int .i64 8, .int .i64 3] w fun e w' => e = .returned (.int .i64 1) ∧ w' = w := by
 have hi := kindIdx_8
 go_enter Tryz.func44, Tryz.ntmps44
 go_wp2
 go_ret
 exact ⟨rfl, rfl⟩
theorem dkind_any (i k : Nat) (hi : i < 9) (hk : k < 4) (w : World) : Calls Tryz.prog 44 #[.int .i64 i, .int .i64 k] w fun e w' => e = .returned (.int .i64 (kindAt i k)) ∧ w' = w := by
 match i, hi, k, hk with
 | 0, _, 0, _ => exact kind_0_0 w
 | 0, _, 1, _ => exact kind_0_1 w
 | 0, _, 2, _ => exact kind_0_2 w
 | 0, _, 3, _ => exact kind_0_3 w
 | 1, _, 0, _ => exact kind_1_0 w
 | 1, _, 1, _ => exact kind_1_1 w
 | 1, _, 2, _ => exact kind_1_2 w
 | 1, _, 3, _ => exact kind_1_3 w
 | 2, _, 0, _ => exact kind_2_0 w
 | 2, _, 1, _ => exact kind_2_1 w
 | 2, _, 2, _ => exact kind_2_2 w
 | 2, _, 3, _ => exact kind_2_3 w
 | 3, _, 0, _ => exact kind_3_0 w
 | 3, _, 1, _ => exact kind_3_1 w
 | 3, _, 2, _ => exact kind_3_2 w
 | 3, _, 3, _ => exact kind_3_3 w
 | 4, _, 0, _ => exact kind_4_0 w
 | 4, _, 1, _ => exact kind_4_1 w
 | 4, _, 2, _ => exact kind_4_2 w
 | 4, _, 3, _ => exact kind_4_3 w
 | 5, _, 0, _ => exact kind_5_0 w
 | 5, _, 1, _ => exact kind_5_1 w
 | 5, _, 2, _ => exact kind_5_2 w
 | 5, _, 3, _ => exact kind_5_3 w
 | 6, _, 0, _ => exact kind_6_0 w
 | 6, _, 1, _ => exact kind_6_1 w
 | 6, _, 2, _ => exact kind_6_2 w
 | 6, _, 3, _ => exact kind_6_3 w
 | 7, _, 0, _ => exact kind_7_0 w
 | 7, _, 1, _ => exact kind_7_1 w
 | 7, _, 2, _ => exact kind_7_2 w
 | 7, _, 3, _ => exact kind_7_3 w
 | 8, _, 0, _ => exact kind_8_0 w
 | 8, _, 1, _ => exact kind_8_1 w
 | 8, _, 2, _ => exact kind_8_2 w
 | 8, _, 3, _ => exact kind_8_3 w

end Go.Proofs.YtklibmijiecbfaaGreat
