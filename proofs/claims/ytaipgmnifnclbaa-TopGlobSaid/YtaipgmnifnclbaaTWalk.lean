/- The walks of stars, slashes and of the law TopGlob. -/
import Derived.Test.YtaipgmnifnclbaaTSlash
namespace Go.Proofs.Ytaipgmnifnclbaa
open Go.RowKit

/-- Two stars side by side among the first k bytes. -/
def twoTo (s : ByteArray) : Nat → Bool
  | 0 => false
  | k + 1 => twoTo s k || (decide (0 < k) && (byteAt s k == 42 && byteAt s (k - 1) == 42))
theorem twoTo_none {s : ByteArray} : ∀ k, twoTo s k = false → ∀ i, i + 1 < k → ¬ (byteAt s i = 42 ∧ byteAt s (i + 1) = 42)
  | 0, _, i, hi => by omega
  | k + 1, h, i, hi => by
    rw [twoTo, Bool.or_eq_false_iff] at h
    by_cases e : i + 1 = k
    · subst e
      intro hh
      have := h.2
      rw [Nat.add_sub_cancel, hh.1, hh.2] at this
      simp at this
    · exact twoTo_none k h.1 i (by omega)
theorem noTwo_of {s : ByteArray} (h : twoTo s s.size = false) : NoTwo s := fun i hi => twoTo_none s.size h i hi

def beginsB (s : ByteArray) : Bool := decide (0 < s.size) && byteAt s 0 == 42
def endsB (s : ByteArray) : Bool := decide (0 < s.size) && byteAt s (s.size - 1) == 42

set_option maxHeartbeats 400000 in
theorem stars_any (s : ByteArray) (hz : s.size ≤ 1000) (w : World) :
    Calls Try.prog 11 #[.string s] w fun e w' => e = .returned (.tuple #[.bool (beginsB s), .bool (endsB s), .bool (twoTo s s.size)]) ∧ Below w.heap.size w w' := by
  by_cases h0 : s.size = 0
  · have he : s = .empty := by
      apply ByteArray.ext
      apply Array.eq_empty_of_size_eq_zero
      exact h0
    subst he
    go_enter Try.func11, Try.ntmps11
    go_wp2
    go_ret3
    exact ⟨rfl, Below.refl _ _⟩
  · have hne : s.toList.isEmpty = false := by
      rw [Lib.toList_data, List.isEmpty_eq_false_iff]
      intro h
      have := Lib.size_eq s
      rw [h, List.length_nil] at this
      exact h0 this
    have hb : beginsB s = (byteAt s 0 == 42) := by unfold beginsB; simp; omega
    have he : endsB s = (byteAt s (s.size - 1) == 42) := by unfold endsB; simp; omega
    rw [hb, he]
    have e0 := byteAt_eq s 0 (by omega)
    have en := byteAt_eq s (s.size - 1) (by omega)
    clear hb he
    go_enter Try.func11, Try.ntmps11
    go_wp2
    go_loop [5, 6] (fun v i => ∃ k : Nat, 1 ≤ k ∧ k ≤ s.size ∧ i = .int .i64 k ∧ v = .bool (twoTo s k)) (fun _ i => s.size - (intOf i).toNat)
    case atStart => exact ⟨1, by omega, by omega, rfl, rfl⟩
    case round =>
      obtain ⟨k, hk1, hk2, rfl, rfl⟩ := hrel
      by_cases hlt : k < s.size
      · have ek := byteAt_eq s k hlt
        have ek1 := byteAt_eq s (k - 1) (by omega)
        have HT := hide (show twoTo s (k + 1) = (twoTo s k || (byteAt s k == 42 && byteAt s (k - 1) == 42)) by rw [twoTo, decide_eq_true (show 0 < k by omega), Bool.true_and])
        cases ht : twoTo s k
        · by_cases c1 : byteAt s k = 42
          · have b1 : ((byteAt s k : Int) == 42) = true := by rw [beq_iff_eq]; omega
            by_cases c2 : byteAt s (k - 1) = 42
            · have b2 : ((byteAt s (k - 1) : Int) == 42) = true := by rw [beq_iff_eq]; omega
              have HV := hide (show twoTo s (k + 1) = true by rw [HT.out, c1, c2]; simp)
              clear c1 c2
              go_wp2
              go_round
              case rel => exact ⟨k + 1, by omega, by omega, by go_num, by rw [HV.out]⟩
              case measure => simp [intOf]; omega
            · have b2 : ((byteAt s (k - 1) : Int) == 42) = false := by rw [beq_eq_false_iff_ne]; omega
              have HV := hide (show twoTo s (k + 1) = false by rw [HT.out, ht]; simp [c2])
              clear c1 c2
              go_wp2
              go_round
              case rel => exact ⟨k + 1, by omega, by omega, by go_num, by rw [HV.out]⟩
              case measure => simp [intOf]; omega
          · have b1 : ((byteAt s k : Int) == 42) = false := by rw [beq_eq_false_iff_ne]; omega
            have HV := hide (show twoTo s (k + 1) = false by rw [HT.out, ht]; simp [c1])
            clear c1
            go_wp2
            go_round
            case rel => exact ⟨k + 1, by omega, by omega, by go_num, by rw [HV.out]⟩
            case measure => simp [intOf]; omega
        · have HV := hide (show twoTo s (k + 1) = true by rw [HT.out, ht]; rfl)
          go_wp2
          go_round
          case rel => exact ⟨k + 1, by omega, by omega, by go_num, by rw [HV.out]⟩
          case measure => simp [intOf]; omega
      · obtain rfl : k = s.size := by omega
        go_wp2
        go_quiet (fail)
        go_wp2
        go_ret3
        refine ⟨?_, below_drewN' (Below.refl _ _) _⟩
        have x1 : ∀ n : Nat, ((n : Int) == 42) = (n == 42) := fun n => by rw [Bool.eq_iff_iff]; simp; omega
        simp only [x1]
        rfl

set_option maxHeartbeats 400000 in
theorem slashes_any (s : ByteArray) (hz : s.size ≤ 1000) (w : World) :
    Calls Try.prog 12 #[.string s] w fun e w' => e = .returned (.int .i64 (cnt s s.size)) ∧ w' = w := by
  have hle : ∀ k, cnt s k ≤ k := fun k => by
    induction k with
    | zero => simp [cnt]
    | succ k ih => rw [cnt]; split <;> omega
  have Hle := hide hle
  clear hle
  go_enter Try.func12, Try.ntmps12
  go_wp2
  go_loop [3, 4] (fun n i => ∃ k : Nat, k ≤ s.size ∧ i = .int .i64 k ∧ n = .int .i64 (cnt s k)) (fun _ i => s.size - (intOf i).toNat)
  case atStart => exact ⟨0, by omega, rfl, rfl⟩
  case round =>
    obtain ⟨k, hk, rfl, rfl⟩ := hrel
    have hc := Hle.out k
    by_cases hlt : k < s.size
    · have ek := byteAt_eq s k hlt
      by_cases c : byteAt s k = 47
      · have b1 : ((byteAt s k : Int) == 47) = true := by rw [beq_iff_eq]; omega
        have HV := hide (show cnt s (k + 1) = cnt s k + 1 by rw [cnt, if_pos c])
        clear c
        go_wp2
        go_round
        case rel => exact ⟨k + 1, by omega, by go_num, by rw [HV.out]; go_num⟩
        case measure => simp [intOf]; omega
      · have b1 : ((byteAt s k : Int) == 47) = false := by rw [beq_eq_false_iff_ne]; omega
        have HV := hide (show cnt s (k + 1) = cnt s k by rw [cnt, if_neg c]; rfl)
        clear c
        go_wp2
        go_round
        case rel => exact ⟨k + 1, by omega, by go_num, by rw [HV.out]⟩
        case measure => simp [intOf]; omega
    · obtain rfl : k = s.size := by omega
      go_wp2
      go_ret
      exact ⟨rfl, rfl⟩
end Go.Proofs.Ytaipgmnifnclbaa
