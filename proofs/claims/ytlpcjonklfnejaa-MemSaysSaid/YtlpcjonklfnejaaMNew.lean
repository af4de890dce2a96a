/- New memory; small functions of package mem. -/
import Derived.Test.YtlpcjonklfnejaaMArr
namespace Go.Proofs.Ytlpcjonklfnejaa
open Go.RowKit

theorem isThreads_any (n : Int) (w : World) : Calls Try.prog 59 #[.int .i64 n] w fun e w' => e = .returned (.bool (decide (0 ≤ n) && decide (n < 8))) ∧ w' = w := by
  go_enter Try.func59, Try.ntmps59
  go_wp2
  all_goals
    go_ret
    exact ⟨ret_bool (by rw [Bool.eq_iff_iff]; simp; try omega), rfl⟩

theorem start_any (n : Nat) (hn : n ≤ 12) (w : World) : Calls Try.prog 62 #[.int .i64 n] w fun e w' => e = .returned (.int .u64 (n * 64 : Nat)) ∧ w' = w := by
  go_enter Try.func62, Try.ntmps62
  go_wp2
  go_ret
  refine ⟨ret_int ?_, rfl⟩
  omega

def zeroM : MS := ⟨fun _ => 0, fun _ => false, fun _ => false⟩

set_option maxRecDepth 100000 in
theorem zero_cells : Try.zeroCells115 = VA 792 (cellM zeroM) := by
  rw [VA_eq]
  kernel_rfl

theorem new_any (w : World) : Calls Try.prog 20 #[] w fun e w' => e = .returned (.pointer (some ⟨w.heap.size, 0, none⟩)) ∧ Below w.heap.size w w' ∧ IsM w.heap.size zeroM w' := by
  go_enter Try.func20, Try.ntmps20
  go_wp2_with fail
  go_ret
  exact ⟨rfl, (Below.refl _ _).alloc (Nat.le_refl _) _, by rw [zero_cells]; exact heap_alloc_new _ _⟩
end Go.Proofs.Ytlpcjonklfnejaa
