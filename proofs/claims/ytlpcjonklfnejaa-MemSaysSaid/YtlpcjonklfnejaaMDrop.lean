/- drop, Unmap. -/
import Derived.Test.YtlpcjonklfnejaaMCopy
namespace Go.Proofs.Ytlpcjonklfnejaa
open Go.RowKit
attribute [local go_sem] PW_drew PW_drewN PW_fro PW_setRd PW_setWt

/-- A page made one that may not be read. -/
def dropM (m : MS) (n : Nat) : MS := writeBy (setWt (setRd m n false) n false) (n * 64) Z64

theorem drop_any (B : MB) (m : MS) (k n : Nat) (hn : n < 12) :
    Calls Try.prog 60 #[.pointer (some ⟨B.g, n * 66, none⟩)] (PW B m k) fun e w' => e = .returned (.tuple #[]) ∧ w' = PW B (dropM m n) k := by
  have c1 := fun m k => PW_rd B m k n hn
  have c2 := fun m k => PW_wt B m k n hn
  go_enter Try.func60, Try.ntmps60
  go_wp2_with (refine wpList_clear_page rfl _ rfl B _ _ n _ hn rfl ?_)
  go_end0
  exact ⟨rfl, rfl⟩

theorem unmap_bad (B : MB) (m : MS) (k : Nat) (n : Int) (hn : ¬ (0 ≤ n ∧ n < 8)) :
    Calls Try.prog 23 #[.pointer (some ⟨B.g, 0, none⟩), .int .i64 n] (PW B m k) fun e w' => e = .returned (.iface 98 (.int .i64 5)) ∧ ∃ k', w' = PW B m k' := by
  have hd : (decide (0 ≤ n) && decide (n < 8)) = false := by rw [Bool.and_eq_false_iff]; simp; omega
  go_enter Try.func23, Try.ntmps23
  go_wp2_with (go_at_call 59; refine (isThreads_any _ _).mono ?_; rw [hd]; rintro e w' ⟨rfl, rfl⟩)
  go_ret
  exact ⟨rfl, _, rfl⟩

theorem unmap_ok (B : MB) (m : MS) (k n : Nat) (hn : n < 8) (hr : m.rd n = true) :
    Calls Try.prog 23 #[.pointer (some ⟨B.g, 0, none⟩), .int .i64 n] (PW B m k) fun e w' => e = .returned .nilIface ∧ ∃ k', w' = PW B (dropM m n) k' := by
  have hd : (decide (0 ≤ (n : Int)) && decide ((n : Int) < 8)) = true := by simp; omega
  have c1 := fun k => PW_rd B m k n (by omega)
  rw [hr] at c1
  go_enter Try.func23, Try.ntmps23
  go_wp2_with (first
    | (go_at_call 59; refine (isThreads_any _ _).mono ?_; rw [hd]; rintro e w' ⟨rfl, hw⟩; rw [hw]; clear hw w')
    | (go_at_call 60; refine (drop_any B m _ n (by omega)).mono ?_; rintro e w' ⟨rfl, rfl⟩))
  go_ret
  exact ⟨rfl, _, rfl⟩

theorem unmap_no (B : MB) (m : MS) (k n : Nat) (hn : n < 8) (hr : m.rd n = false) :
    Calls Try.prog 23 #[.pointer (some ⟨B.g, 0, none⟩), .int .i64 n] (PW B m k) fun e w' => e = .returned (.iface 98 (.int .i64 5)) ∧ ∃ k', w' = PW B m k' := by
  have hd : (decide (0 ≤ (n : Int)) && decide ((n : Int) < 8)) = true := by simp; omega
  have c1 := fun k => PW_rd B m k n (by omega)
  rw [hr] at c1
  go_enter Try.func23, Try.ntmps23
  go_wp2_with (go_at_call 59; refine (isThreads_any _ _).mono ?_; rw [hd]; rintro e w' ⟨rfl, hw⟩; rw [hw]; clear hw w')
  go_ret
  exact ⟨rfl, _, rfl⟩

/-- How many of the pages from 8 on, j of them looked at, are sealed. -/
def cntM (m : MS) : Nat → Nat
  | 0 => 0
  | j + 1 => cntM m j + if m.rd (8 + j) = true then 1 else 0
theorem cntM_le (m : MS) : ∀ j, cntM m j ≤ j
  | 0 => Nat.le_refl _
  | j + 1 => by have := cntM_le m j; rw [cntM]; split <;> omega

theorem sealed_any (B : MB) (m : MS) (k : Nat) : Calls Try.prog 40 #[.pointer (some ⟨B.g, 0, none⟩)] (PW B m k) fun e w' => e = .returned (.int .i64 (cntM m 4)) ∧ ∃ k', w' = PW B m k' := by
  go_enter Try.func40, Try.ntmps40
  go_wp2
  go_loopw [3, 4] (fun K N w' => ∃ n : Nat, 8 ≤ n ∧ n ≤ 12 ∧ K = .int .i64 (cntM m (n - 8)) ∧ N = .int .i64 n ∧ w' = PW B m k) (fun _ N _ => 12 - (intOf N).toNat)
  case atStart => exact ⟨8, by omega, by omega, rfl, rfl, rfl⟩
  case round =>
    obtain ⟨n, h8, h12, rfl, rfl, rfl⟩ := hrel
    have hc := cntM_le m (n - 8)
    by_cases hlt : n < 12
    · have c1 := PW_rd B m k n hlt
      have HC := hide (show cntM m (n + 1 - 8) = cntM m (n - 8) + if m.rd n = true then 1 else 0 by rw [show n + 1 - 8 = (n - 8) + 1 by omega, cntM, show 8 + (n - 8) = n by omega])
      cases hr : m.rd n with
      | false =>
        rw [hr] at c1 HC
        clear hr
        go_wp2
        go_round
        case rel => exact ⟨n + 1, by omega, by omega, by rw [HC.out]; rfl, by go_num, trivial⟩
        case measure => simp [intOf]; omega
      | true =>
        rw [hr] at c1 HC
        clear hr
        go_wp2
        go_round
        case rel => exact ⟨n + 1, by omega, by omega, by rw [HC.out]; rfl, by go_num, trivial⟩
        case measure => simp [intOf]; omega
    · obtain rfl : n = 12 := by omega
      go_wp2
      go_ret
      exact ⟨rfl, k, rfl⟩

/-- Free at an address that no sealed page begins at. -/
theorem free_none (B : MB) (m : MS) (k : Nat) (a : Int) (hno : ∀ n, 8 ≤ n → n < 12 → m.rd n = true → (a ≠ (n * 64 : Nat))) :
    Calls Try.prog 33 #[.pointer (some ⟨B.g, 0, none⟩), .int .u64 a] (PW B m k) fun e w' => e = .returned (.iface 98 (.int .i64 8)) ∧ ∃ k', w' = PW B m k' := by
  have HNO := hide hno
  clear hno
  go_enter Try.func33, Try.ntmps33
  go_wp2
  go_loopw [5] (fun N w' => ∃ n : Nat, 8 ≤ n ∧ n ≤ 12 ∧ N = .int .i64 n ∧ w' = PW B m k) (fun N _ => 12 - (intOf N).toNat)
  case atStart => exact ⟨8, by omega, by omega, rfl, rfl⟩
  case round =>
    obtain ⟨n, h8, h12, rfl, rfl⟩ := hrel
    by_cases hlt : n < 12
    · have c1 := PW_rd B m k n hlt
      cases hr : m.rd n with
      | false =>
        rw [hr] at c1
        clear hr
        go_wp2
        go_round
        case rel => exact ⟨n + 1, by omega, by omega, by go_num, trivial⟩
        case measure => simp [intOf]; omega
      | true =>
        have hne : (((n * 64 : Nat) : Int) == a) = false := by
          have := HNO.out n h8 hlt hr
          rw [beq_eq_false_iff_ne]
          exact fun e => this e.symm
        rw [hr] at c1
        clear hr
        go_wp2_with (go_at_call 62; refine (start_any n (by omega) _).mono ?_; rintro e w' ⟨rfl, hw⟩; rw [hw]; clear hw w')
        go_round
        case rel => exact ⟨n + 1, by omega, by omega, by go_num, trivial⟩
        case measure => simp [intOf]; omega
    · obtain rfl : n = 12 := by omega
      go_wp2
      go_ret
      exact ⟨rfl, k, rfl⟩

/-- Free of a sealed page. -/
theorem free_ok (B : MB) (m : MS) (k q : Nat) (hq8 : 8 ≤ q) (hq : q < 12) (hrq : m.rd q = true) :
    Calls Try.prog 33 #[.pointer (some ⟨B.g, 0, none⟩), .int .u64 ((q * 64 : Nat) : Int)] (PW B m k) fun e w' => e = .returned .nilIface ∧ ∃ k', w' = PW B (dropM m q) k' := by
  obtain ⟨a, ha⟩ : ∃ a : Int, a = ((q * 64 : Nat) : Int) := ⟨_, rfl⟩
  rw [← ha]
  have HA := hide ha
  clear ha
  go_enter Try.func33, Try.ntmps33
  go_wp2
  go_loopw [5] (fun N w' => ∃ n : Nat, 8 ≤ n ∧ n ≤ q ∧ N = .int .i64 n ∧ w' = PW B m k) (fun N _ => 12 - (intOf N).toNat)
  case atStart => exact ⟨8, by omega, by omega, rfl, rfl⟩
  case round =>
    obtain ⟨n, h8, h12, rfl, rfl⟩ := hrel
    have c1 := PW_rd B m k n (by omega)
    by_cases hlt : n < q
    · cases hr : m.rd n with
      | false =>
        rw [hr] at c1
        clear hr
        go_wp2
        go_round
        case rel => exact ⟨n + 1, by omega, by omega, by go_num, trivial⟩
        case measure => simp [intOf]; omega
      | true =>
        have hne : (((n * 64 : Nat) : Int) == a) = false := by
          rw [beq_eq_false_iff_ne, HA.out]
          omega
        rw [hr] at c1
        clear hr
        go_wp2_with (go_at_call 62; refine (start_any n (by omega) _).mono ?_; rintro e w' ⟨rfl, hw⟩; rw [hw]; clear hw w')
        go_round
        case rel => exact ⟨n + 1, by omega, by omega, by go_num, trivial⟩
        case measure => simp [intOf]; omega
    · obtain rfl : n = q := by omega
      have heq : (((n * 64 : Nat) : Int) == a) = true := by rw [beq_iff_eq, HA.out]
      rw [hrq] at c1
      go_wp2_with (first
        | (go_at_call 62; refine (start_any n (by omega) _).mono ?_; rintro e w' ⟨rfl, hw⟩; rw [hw]; clear hw w')
        | (go_at_call 60; refine (drop_any B m _ n (by omega)).mono ?_; rintro e w' ⟨rfl, hw⟩; rw [hw]; clear hw w'))
      go_ret
      exact ⟨rfl, _, rfl⟩
end Go.Proofs.Ytlpcjonklfnejaa
