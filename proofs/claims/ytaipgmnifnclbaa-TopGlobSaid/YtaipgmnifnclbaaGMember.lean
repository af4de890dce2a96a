/- Walks of glob.member and glob.escaped. -/
import Derived.Test.YtaipgmnifnclbaaGByte
import Derived.Test.YtaipgmnifnclbaaGOnly
namespace Go.Proofs.Ytaipgmnifnclbaa
open Go.RowKit

/-- The byte at a place; nought behind the end. -/
def byteAt (s : ByteArray) (i : Nat) : Nat := (s.data.toList.getD i 0).toNat
theorem byteAt_lt (s : ByteArray) (i : Nat) : byteAt s i < 256 := (s.data.toList.getD i 0).toNat_lt
theorem byteAt_eq (s : ByteArray) (i : Nat) (h : i < s.size) : s[i].toNat = byteAt s i := by
  unfold byteAt
  rw [List.getD_eq_getElem?_getD, List.getElem?_eq_getElem (by rw [← Lib.size_eq]; exact h)]
  rfl

def memberN (n b0 b1 b2 : Nat) : Nat :=
  if nameB b0 = true then (if n < 2 then 1 else if b1 = 45 then (if n < 3 then 0 else if nameB b2 = true then (if b2 < b0 then 0 else 3) else 0) else 1) else 0

set_option maxHeartbeats 400000 in
theorem member_any (s : ByteArray) (hs : 0 < s.size) (hz : s.size ≤ 1000) (w : World) :
    Calls Try.prog 30 #[.string s] w fun e w' => e = .returned (.int .i64 (memberN s.size (byteAt s 0) (byteAt s 1) (byteAt s 2))) ∧ ∃ n, w' = w.drewN n := by
  have e0 := byteAt_eq s 0 hs
  unfold memberN
  by_cases n0 : nameB (byteAt s 0) = true
  · rw [if_pos n0]
    by_cases h2 : s.size < 2
    · rw [if_pos h2]
      go_enter Try.func30, Try.ntmps30
      go_wp2_with (go_at_call 32; refine (isName_any _ _).mono ?_; rintro e w' ⟨rfl, rfl⟩)
      go_ret
      exact ⟨rfl, 0, rfl⟩
    · rw [if_neg h2]
      have e1 := byteAt_eq s 1 (by omega)
      by_cases h1 : byteAt s 1 = 45
      · rw [if_pos h1]
        have b1 : (((byteAt s 1 : Nat) : Int) != 45) = false := by simp [h1]
        have H1 := hide h1
        clear h1
        by_cases h3 : s.size < 3
        · rw [if_pos h3]
          have d3 : decide ((s.size : Int) < 3) = true := by simp; omega
          go_enter Try.func30, Try.ntmps30
          go_wp2_with (go_at_call 32; refine (isName_any _ _).mono ?_; rintro e w' ⟨rfl, rfl⟩)
          go_quiet (fail)
          go_wp2
          go_ret
          exact ⟨rfl, _, rfl⟩
        · rw [if_neg h3]
          have e2 := byteAt_eq s 2 (by omega)
          have d3 : decide ((s.size : Int) < 3) = false := by simp; omega
          by_cases n2 : nameB (byteAt s 2) = true
          · rw [if_pos n2]
            by_cases hlt : byteAt s 2 < byteAt s 0
            · rw [if_pos hlt]
              have dl : decide ((byteAt s 2 : Int) < (byteAt s 0 : Int)) = true := by simp; omega
              go_enter Try.func30, Try.ntmps30
              go_wp2_with (go_at_call 32; refine (isName_any _ _).mono ?_; rintro e w' ⟨rfl, rfl⟩)
              go_quiet ((go_at_call 32; exact Calls.quiet_of_same (isName_any _ _)))
              go_wp2
              go_ret
              exact ⟨rfl, _, rfl⟩
            · rw [if_neg hlt]
              have dl : decide ((byteAt s 2 : Int) < (byteAt s 0 : Int)) = false := by simp; omega
              go_enter Try.func30, Try.ntmps30
              go_wp2_with (go_at_call 32; refine (isName_any _ _).mono ?_; rintro e w' ⟨rfl, rfl⟩)
              go_quiet ((go_at_call 32; exact Calls.quiet_of_same (isName_any _ _)))
              go_wp2
              go_ret
              exact ⟨rfl, _, rfl⟩
          · rw [if_neg n2]
            have n2' : nameB (byteAt s 2) = false := by simpa using n2
            clear n2
            go_enter Try.func30, Try.ntmps30
            go_wp2_with (go_at_call 32; refine (isName_any _ _).mono ?_; rintro e w' ⟨rfl, rfl⟩)
            go_quiet ((go_at_call 32; exact Calls.quiet_of_same (isName_any _ _)))
            go_wp2
            go_ret
            exact ⟨rfl, _, rfl⟩
      · rw [if_neg h1]
        have b1 : (((byteAt s 1 : Nat) : Int) != 45) = true := by rw [bne_iff_ne]; omega
        go_enter Try.func30, Try.ntmps30
        go_wp2_with (go_at_call 32; refine (isName_any _ _).mono ?_; rintro e w' ⟨rfl, rfl⟩)
        go_ret
        exact ⟨rfl, 0, rfl⟩
  · rw [if_neg n0]
    have n0' : nameB (byteAt s 0) = false := by simpa using n0
    clear n0
    go_enter Try.func30, Try.ntmps30
    go_wp2_with (go_at_call 32; refine (isName_any _ _).mono ?_; rintro e w' ⟨rfl, rfl⟩)
    go_ret
    exact ⟨rfl, 0, rfl⟩
end Go.Proofs.Ytaipgmnifnclbaa
