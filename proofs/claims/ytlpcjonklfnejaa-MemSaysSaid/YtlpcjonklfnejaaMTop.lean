/- What TopMem calls besides: is. -/
import Derived.Test.YtlpcjonklfnejaaMPut
namespace Go.Proofs.Ytlpcjonklfnejaa
open Go.RowKit

/-- 'is(nil, f)'. -/
theorem is_nil (f : Int) (w : World) :
    Calls Try.prog 41 #[.nilIface, .int .i64 f] w fun e w' => e = .returned (.bool (f == 0)) ∧ w' = w := by
  go_enter Try.func41, Try.ntmps41
  go_wp2
  go_ret
  exact ⟨rfl, rfl⟩

/-- 'is(err, f)' at an error of the project's own. -/
theorem is_errno (n f : Int) (w : World) :
    Calls Try.prog 41 #[.iface 98 (.int .i64 n), .int .i64 f] w fun e w' => e = .returned (.bool (decide (0 < f) && n == f)) ∧ w' = w := by
  have ta := assert_errno n
  by_cases h : 0 < f
  · go_enter Try.func41, Try.ntmps41
    go_wp2
    go_ret
    exact ⟨by simp [h], rfl⟩
  · have hd : decide (0 < f) = false := by simpa using h
    rw [hd]
    go_enter Try.func41, Try.ntmps41
    go_wp2
    go_ret
    exact ⟨rfl, rfl⟩
end Go.Proofs.Ytlpcjonklfnejaa
