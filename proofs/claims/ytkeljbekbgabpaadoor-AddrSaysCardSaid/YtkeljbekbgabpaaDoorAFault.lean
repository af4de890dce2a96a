/- The document's fault of a net. -/
import Derived.Test.YtkeljbekbgabpaaDoorACheck
namespace Go.Proofs.YtkeljbekbgabpaaDoor
open Go.RowKit

theorem restN_succ (k : Nat) (hk : k < 32) : restN k = restN (k + 1) * 2 := by
  unfold restN
  rw [show 32 - k = (32 - (k + 1)) + 1 by omega, Nat.pow_succ]
theorem restN_bit (k : Nat) : 2 ^ (31 - k) = restN (k + 1) := by unfold restN; rw [show 31 - k = 32 - (k + 1) by omega]
theorem rest_step (ip k : Nat) (hk : k < 32) : ip % restN k = ip % restN (k + 1) + restN (k + 1) * (ip / 2 ^ (31 - k) % 2) := by
  rw [restN_succ k hk, Nat.mod_mul, restN_bit]
theorem quot_step (ip k : Nat) (hk : k < 32) : ip / restN (k + 1) = 2 * (ip / restN k) + ip / 2 ^ (31 - k) % 2 := by
  rw [restN_succ k hk, restN_bit, ← Nat.div_div_eq_div_mul]
  omega
theorem quot_down (x y : Nat) : ∀ j k, k + j ≤ 32 → x / restN (k + j) = y / restN (k + j) → x / restN k = y / restN k
  | 0, _, _, h => h
  | j + 1, k, hk, h => by
    have h' : x / restN (k + 1) = y / restN (k + 1) := quot_down x y j (k + 1) (by omega) (by rw [show k + 1 + j = k + (j + 1) by omega]; exact h)
    rw [quot_step x k (by omega), quot_step y k (by omega)] at h'
    omega

theorem netFault_any (ip : Nat) (hip : ip < 4294967296) (b lo hi : Int) (hb : -9223372036854775808 ≤ b ∧ b ≤ 9223372036854775807) (hl : -9223372036854775808 ≤ lo ∧ lo ≤ 9223372036854775807) (hh : -9223372036854775808 ≤ hi ∧ hi ≤ 9223372036854775807) (w : World) :
    Calls Tryd.prog 12 #[netV ip b lo hi] w fun e w' => e = .returned (.int .i64 (faultOf ip b lo hi)) ∧ Below w.heap.size w w' := by
  by_cases c0 : b < 0
  · have HF := hide (show faultOf ip b lo hi = 1 by unfold faultOf; rw [if_pos (by omega)])
    have d0 : decide (b < 0) = true := decide_eq_true c0
    go_enter Tryd.func12, Tryd.ntmps12
    go_wp2
    go_ret
    exact ⟨by rw [HF.out]; rfl, (Below.refl _ _).alloc (Nat.le_refl _) _⟩
  · have d0 : decide (b < 0) = false := decide_eq_false c0
    by_cases c1 : 32 < b
    · have HF := hide (show faultOf ip b lo hi = 1 by unfold faultOf; rw [if_pos (by omega)])
      have d1 : decide ((32 : Int) < b) = true := decide_eq_true c1
      go_enter Tryd.func12, Tryd.ntmps12
      go_wp2
      go_ret
      exact ⟨by rw [HF.out]; rfl, (Below.refl _ _).alloc (Nat.le_refl _) _⟩
    · have d1 : decide ((32 : Int) < b) = false := decide_eq_false c1
      by_cases c2 : lo < 0
      · have HF := hide (show faultOf ip b lo hi = 1 by unfold faultOf; rw [if_pos (by omega)])
        have d2 : decide (lo < 0) = true := decide_eq_true c2
        go_enter Tryd.func12, Tryd.ntmps12
        go_wp2
        go_ret
        exact ⟨by rw [HF.out]; rfl, (Below.refl _ _).alloc (Nat.le_refl _) _⟩
      · have d2 : decide (lo < 0) = false := decide_eq_false c2
        by_cases c3 : 65535 < hi
        · have HF := hide (show faultOf ip b lo hi = 1 by unfold faultOf; rw [if_pos (by omega)])
          have d3 : decide ((65535 : Int) < hi) = true := decide_eq_true c3
          go_enter Tryd.func12, Tryd.ntmps12
          go_wp2
          go_ret
          exact ⟨by rw [HF.out]; rfl, (Below.refl _ _).alloc (Nat.le_refl _) _⟩
        · have d3 : decide ((65535 : Int) < hi) = false := decide_eq_false c3
          by_cases c4 : hi < lo
          · have HF := hide (show faultOf ip b lo hi = 1 by unfold faultOf; rw [if_pos (by omega)])
            have d4 : decide (hi < lo) = true := decide_eq_true c4
            go_enter Tryd.func12, Tryd.ntmps12
            go_wp2
            go_ret
            exact ⟨by rw [HF.out]; rfl, (Below.refl _ _).alloc (Nat.le_refl _) _⟩
          · have d4 : decide (hi < lo) = false := decide_eq_false c4
            obtain ⟨k0, rfl⟩ : ∃ k : Nat, b = k := ⟨b.toNat, by omega⟩
            have hk : k0 ≤ 32 := by omega
            have HF := hide (show faultOf ip (k0 : Int) lo hi = if ip % restN k0 = 0 then 0 else 3 by unfold faultOf; rw [if_neg (by omega), Int.toNat_natCast])
            go_enter Tryd.func12, Tryd.ntmps12
            go_wp2
            go_loop [3] (fun i => ∃ k : Nat, k0 ≤ k ∧ k ≤ 32 ∧ i = .int .i64 k ∧ Hid (ip % restN k0 = ip % restN k)) (fun i => 32 - (intOf i).toNat)
            case atStart => exact ⟨k0, Nat.le_refl _, hk, rfl, hide rfl⟩
            case round =>
              obtain ⟨k, hk1, hk2, rfl, HI⟩ := hrel
              by_cases hlt : k < 32
              · have HS := hide (rest_step ip k hlt)
                by_cases c : ip / 2 ^ (31 - k) % 2 = 1
                · have HB := hide (show (ip / 2 ^ (31 - k) % 2 == 1) = true by rw [beq_iff_eq]; exact c)
                  have HV := hide (show faultOf ip (k0 : Int) lo hi = 3 by
                    rw [HF.out, HI.out, HS.out, c, if_neg]
                    have := restN_pos (k + 1)
                    omega)
                  clear c
                  go_wp2_with (go_at_call 25; refine (bit_any ip k hip (by omega) _).mono ?_; rw [HB.out]; rintro e wx ⟨rfl, hwx⟩; rw [hwx]; clear hwx wx)
                  go_ret
                  exact ⟨by rw [HV.out]; rfl, (Below.refl _ _).alloc (Nat.le_refl _) _⟩
                · have HB := hide (show (ip / 2 ^ (31 - k) % 2 == 1) = false by rw [beq_eq_false_iff_ne]; exact c)
                  have HN := hide (show ip % restN k0 = ip % restN (k + 1) by
                    rw [HI.out, HS.out, show ip / 2 ^ (31 - k) % 2 = 0 by omega]
                    rfl)
                  clear c
                  go_wp2_with (go_at_call 25; refine (bit_any ip k hip (by omega) _).mono ?_; rw [HB.out]; rintro e wx ⟨rfl, hwx⟩; rw [hwx]; clear hwx wx)
                  go_round
                  case rel => exact ⟨k + 1, by omega, by omega, by go_num, HN⟩
                  case measure => simp [intOf]; omega
              · obtain rfl : k = 32 := by omega
                have HV := hide (show faultOf ip (k0 : Int) lo hi = 0 by
                  rw [HF.out, HI.out, if_pos]
                  rw [show restN 32 = 1 from rfl]
                  exact Nat.mod_one ip)
                go_wp2
                go_ret
                exact ⟨by rw [HV.out]; rfl, (Below.refl _ _).alloc (Nat.le_refl _) _⟩
end Go.Proofs.YtkeljbekbgabpaaDoor
