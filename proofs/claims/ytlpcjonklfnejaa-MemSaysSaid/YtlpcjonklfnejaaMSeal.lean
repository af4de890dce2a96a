/- Seal. -/
import Derived.Test.YtlpcjonklfnejaaMDrop
namespace Go.Proofs.Ytlpcjonklfnejaa
open Go.RowKit
attribute [local go_sem] PW_drew PW_drewN PW_fro PW_setRd PW_setWt

/-- What is sealed in page q. -/
def sealM (m : MS) (q : Nat) (l : List UInt8) : MS := writeBy (setRd m q true) (q * 64) l

theorem seal_long (B : MB) (m : MS) (k : Nat) (s : ByteArray) (hs : 64 < s.size) :
    Calls Try.prog 31 #[.pointer (some ⟨B.g, 0, none⟩), .string s] (PW B m k) fun e w' => e = .returned (.tuple #[.int .u64 0, .iface 98 (.int .i64 1)]) ∧ ∃ k', w' = PW B m k' := by
  go_enter Try.func31, Try.ntmps31
  go_wp2
  go_ret2
  exact ⟨rfl, k, rfl⟩

theorem seal_ok (B : MB) (m : MS) (k q : Nat) (s : ByteArray) (hs : s.size ≤ 64) (hq8 : 8 ≤ q) (hq : q < 12) (hbef : ∀ n, 8 ≤ n → n < q → m.rd n = true) (hrq : m.rd q = false) :
    Calls Try.prog 31 #[.pointer (some ⟨B.g, 0, none⟩), .string s] (PW B m k) fun e w' => e = .returned (.tuple #[.int .u64 ((q * 64 : Nat) : Int), .nilIface]) ∧ ∃ k', w' = PW B (sealM m q s.data.toList) k' := by
  have HB := hide hbef
  have HR := hide hrq
  clear hbef hrq
  go_enter Try.func31, Try.ntmps31
  go_wp2
  go_loopw [6] (fun N w' => ∃ n : Nat, 8 ≤ n ∧ n ≤ q ∧ N = .int .i64 n ∧ w' = PW B m k) (fun N _ => 12 - (intOf N).toNat)
  case atStart => exact ⟨8, by omega, by omega, rfl, rfl⟩
  case round =>
    obtain ⟨n, h8, h12, rfl, rfl⟩ := hrel
    have c1 := PW_rd B m k n (by omega)
    by_cases hlt : n < q
    · rw [HB.out n h8 hlt] at c1
      go_wp2
      go_round
      case rel => exact ⟨n + 1, by omega, by omega, by go_num, trivial⟩
      case measure => simp [intOf]; omega
    · obtain rfl : n = q := by omega
      rw [HR.out] at c1
      go_wp2_with (first
        | (go_at_call 62; refine (start_any n (by omega) _).mono ?_; rintro e w' ⟨rfl, hw⟩; rw [hw]; clear hw w')
        | (refine wpList_copy_page rfl _ _ rfl B _ _ n 0 _ s (by omega) (by omega) rfl rfl ?_))
      go_ret2
      exact ⟨rfl, k, by
        have e : s.data.toList.take s.size = s.data.toList := List.take_of_length_le (by rw [← Lib.size_eq]; exact Nat.le_refl _)
        rw [e]
        rfl⟩

theorem seal_full (B : MB) (m : MS) (k : Nat) (s : ByteArray) (hs : s.size ≤ 64) (hall : ∀ n, 8 ≤ n → n < 12 → m.rd n = true) :
    Calls Try.prog 31 #[.pointer (some ⟨B.g, 0, none⟩), .string s] (PW B m k) fun e w' => e = .returned (.tuple #[.int .u64 0, .iface 98 (.int .i64 9)]) ∧ ∃ k', w' = PW B m k' := by
  have HB := hide hall
  clear hall
  go_enter Try.func31, Try.ntmps31
  go_wp2
  go_loopw [6] (fun N w' => ∃ n : Nat, 8 ≤ n ∧ n ≤ 12 ∧ N = .int .i64 n ∧ w' = PW B m k) (fun N _ => 12 - (intOf N).toNat)
  case atStart => exact ⟨8, by omega, by omega, rfl, rfl⟩
  case round =>
    obtain ⟨n, h8, h12, rfl, rfl⟩ := hrel
    by_cases hlt : n < 12
    · have c1 := PW_rd B m k n hlt
      rw [HB.out n h8 hlt] at c1
      go_wp2
      go_round
      case rel => exact ⟨n + 1, by omega, by omega, by go_num, trivial⟩
      case measure => simp [intOf]; omega
    · obtain rfl : n = 12 := by omega
      go_wp2
      go_ret2
      exact ⟨rfl, k, rfl⟩
end Go.Proofs.Ytlpcjonklfnejaa
