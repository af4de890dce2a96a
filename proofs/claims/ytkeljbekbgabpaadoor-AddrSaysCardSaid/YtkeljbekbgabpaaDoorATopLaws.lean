/- A net with one bit less. No walk in it. -/
import Derived.Test.YtkeljbekbgabpaaDoorAHas2
namespace Go.Proofs.YtkeljbekbgabpaaDoor
open Go.RowKit

/-- The address of the wider net. -/
def wideIp (ip k : Nat) : Nat := ip / restN (k - 1) * restN (k - 1)

theorem clear_bit (ip k : Nat) (hip : ip < 4294967296) (hk : 1 ≤ k) (hk2 : k ≤ 32) (hr : ip % restN k = 0) : ip &&& (4294967295 - restN k) = wideIp ip k := by
  unfold wideIp
  rw [← and_mask ip (k - 1) hip (by omega)]
  have em : maskN (k - 1) = (2 ^ (k - 1) - 1) * 2 ^ (32 - (k - 1)) := by
    unfold maskN restN
    rw [Nat.sub_mul, ← Nat.pow_add, show k - 1 + (32 - (k - 1)) = 32 by omega, Nat.one_mul]
  have er : 4294967295 - restN k = 2 ^ 32 - (2 ^ (32 - k) + 1) := by
    unfold restN
    omega
  have hlow : ∀ i, i < 32 - k → ip.testBit i = false := fun i hi => by
    have h1 : (ip % 2 ^ (32 - k)).testBit i = ip.testBit i := by rw [Nat.testBit_mod_two_pow]; simp [hi]
    rw [← h1]
    have : ip % 2 ^ (32 - k) = 0 := hr
    rw [this, Nat.zero_testBit]
  have hlt : 2 ^ (32 - k) < 2 ^ 32 := Nat.pow_lt_pow_right (by decide) (by omega)
  apply Nat.eq_of_testBit_eq
  intro i
  rw [Nat.testBit_and, Nat.testBit_and, em, er, Nat.testBit_two_pow_sub_succ hlt, Nat.testBit_mul_two_pow, Nat.testBit_two_pow_sub_one, Nat.testBit_two_pow]
  by_cases hi : i < 32 - k
  · rw [hlow i hi]; simp
  · by_cases hb : ip.testBit i = true
    · have hi32 : i < 32 := by
        rcases Nat.lt_or_ge i 32 with h | h
        · exact h
        · rw [Nat.testBit_lt_two_pow (Nat.lt_of_lt_of_le hip (Nat.pow_le_pow_right (n := 2) (i := 32) (by decide) h))] at hb
          cases hb
      rw [hb, Bool.true_and, Bool.true_and, Bool.eq_iff_iff]
      simp
      omega
    · have : ip.testBit i = false := by simpa using hb
      rw [this]; simp

theorem wide_fault (ip k : Nat) (lo hi : Int) (_hip : ip < 4294967296) (hk : 1 ≤ k) (hf : faultOf ip (k : Int) lo hi = 0) : faultOf (wideIp ip k) ((k : Int) - 1) lo hi = 0 := by
  obtain ⟨h1, h2, h3⟩ := fault_ok hf
  unfold faultOf
  rw [if_neg (by omega), show ((k : Int) - 1).toNat = k - 1 by omega, if_pos]
  unfold wideIp
  exact Nat.mul_mod_left _ _

theorem wide_has (ip k x : Nat) (lo hi port : Int) (hip : ip < 4294967296) (hk : 1 ≤ k) (hf : faultOf ip (k : Int) lo hi = 0) (h : hasOf ip (k : Int) lo hi x port = true) : hasOf (wideIp ip k) ((k : Int) - 1) lo hi x port = true := by
  obtain ⟨h1, h2, h3⟩ := fault_ok hf
  unfold hasOf at h ⊢
  rw [decide_eq_true hf, Bool.true_and, Int.toNat_natCast] at h
  rw [decide_eq_true (wide_fault ip k lo hi hip hk hf), Bool.true_and, show ((k : Int) - 1).toNat = k - 1 by omega]
  simp only [Bool.and_eq_true, decide_eq_true_eq] at h ⊢
  refine ⟨?_, h.2⟩
  unfold wideIp
  rw [Nat.mul_div_cancel _ (restN_pos _)]
  exact quot_down x ip 1 (k - 1) (by omega) (by rw [show k - 1 + 1 = k by omega]; exact h.1)

theorem wideIp_lt (ip k : Nat) (hip : ip < 4294967296) : wideIp ip k < 4294967296 := Nat.lt_of_le_of_lt (Nat.div_mul_le_self _ _) hip
theorem has_self (ip : Nat) (b lo hi p : Int) (hf : faultOf ip b lo hi = 0) (h1 : lo ≤ p) (h2 : p ≤ hi) : hasOf ip b lo hi ip p = true := by
  unfold hasOf
  rw [decide_eq_true hf, decide_eq_true rfl, decide_eq_true h1, decide_eq_true h2]
  rfl
end Go.Proofs.YtkeljbekbgabpaaDoor
