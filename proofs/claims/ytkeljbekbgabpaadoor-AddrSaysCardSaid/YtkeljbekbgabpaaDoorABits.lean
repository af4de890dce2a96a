/- The bits of a net: masks as remainders; mask, bit. -/
import Derived.Test.YtkeljbekbgabpaaDoorBase
import Derived.Laws.BitsAllLaws
namespace Go.Proofs.YtkeljbekbgabpaaDoor
open Go.RowKit

/-- The bits behind the first b of 32. -/
def restN (b : Nat) : Nat := 2 ^ (32 - b)
def maskN (b : Nat) : Nat := 4294967296 - restN b
theorem restN_pos (b : Nat) : 1 ≤ restN b := Nat.one_le_two_pow
theorem restN_le (b : Nat) : restN b ≤ 4294967296 := by
  unfold restN
  exact Nat.pow_le_pow_right (n := 2) (j := 32) (by decide) (by omega)
theorem maskN_lt (b : Nat) : maskN b < 4294967296 := by
  have := restN_pos b
  unfold maskN
  omega
theorem and_rest (x b : Nat) : x &&& (4294967295 - maskN b) = x % restN b := by
  have h := restN_le b
  have h1 := restN_pos b
  rw [show 4294967295 - maskN b = restN b - 1 by unfold maskN; omega]
  exact Nat.and_two_pow_sub_one_eq_mod x _
theorem and_mask (x b : Nat) (hx : x < 4294967296) (hb : b ≤ 32) : x &&& maskN b = x / restN b * restN b := by
  have e : maskN b = (2 ^ b - 1) * 2 ^ (32 - b) := by
    unfold maskN restN
    rw [Nat.sub_mul, ← Nat.pow_add, show b + (32 - b) = 32 by omega, Nat.one_mul]
  rw [e]
  unfold restN
  apply Nat.eq_of_testBit_eq
  intro i
  rw [Nat.testBit_and, Nat.testBit_mul_two_pow, Nat.testBit_mul_two_pow, Nat.testBit_two_pow_sub_one, Nat.testBit_div_two_pow]
  by_cases hi : 32 - b ≤ i
  · rw [show i - (32 - b) + (32 - b) = i by omega]
    by_cases h2 : i - (32 - b) < b
    · simp [hi, h2]
    · have : x.testBit i = false := Nat.testBit_lt_two_pow (Nat.lt_of_lt_of_le hx (Nat.pow_le_pow_right (n := 2) (i := 32) (by decide) (by omega)))
      simp [hi, h2, this]
  · simp [hi]

theorem mask_any (b : Nat) (hb : b ≤ 32) (w : World) : Calls Tryd.prog 27 #[.int .i64 b] w fun e w' => e = .returned (.int .u32 (maskN b)) ∧ w' = w := by
  go_enter Tryd.func27, Tryd.ntmps27
  go_wp2
  go_ret
  refine ⟨?_, rfl⟩
  have er : ((2 : Int) ^ (32 - b)) = (restN b : Int) := by unfold restN; simp
  have h1 := restN_pos b
  have h2 := restN_le b
  refine ret_int ?_
  rw [er]
  unfold maskN
  omega

theorem bit_any (ip i : Nat) (hip : ip < 4294967296) (hi : i ≤ 31) (w : World) : Calls Tryd.prog 25 #[.int .u32 ip, .int .i64 i] w fun e w' => e = .returned (.bool (ip / 2 ^ (31 - i) % 2 == 1)) ∧ w' = w := by
  go_enter Tryd.func25, Tryd.ntmps25
  go_wp2
  go_ret
  refine ⟨?_, rfl⟩
  have er : ((ip : Int) / 2 ^ (31 - i)) = ((ip / 2 ^ (31 - i) : Nat) : Int) := by simp
  have hl : ip / 2 ^ (31 - i) < 4294967296 := Nat.lt_of_le_of_lt (Nat.div_le_self _ _) hip
  refine ret_bool ?_
  rw [er, show (1 : Int) = ((1 : Nat) : Int) from rfl, u32_and_nat _ 1 hl (by decide), nat_mask1, Bool.eq_iff_iff]
  simp
  omega
end Go.Proofs.YtkeljbekbgabpaaDoor
