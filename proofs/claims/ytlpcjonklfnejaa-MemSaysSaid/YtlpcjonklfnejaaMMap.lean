/- Map, find, Byte. -/
import Derived.Test.YtlpcjonklfnejaaMNew
namespace Go.Proofs.Ytlpcjonklfnejaa
open Go.RowKit
attribute [local go_sem] PW_drew PW_drewN PW_fro PW_setRd PW_setWt

theorem map_bad (B : MB) (m : MS) (k : Nat) (n : Int) (hn : ¬ (0 ≤ n ∧ n < 8)) (b : Bool) :
    Calls Try.prog 21 #[.pointer (some ⟨B.g, 0, none⟩), .int .i64 n, .bool b] (PW B m k) fun e w' => e = .returned (.iface 98 (.int .i64 5)) ∧ w' = PW B m k := by
  have hd : (decide (0 ≤ n) && decide (n < 8)) = false := by rw [Bool.and_eq_false_iff]; simp; omega
  go_enter Try.func21, Try.ntmps21
  go_wp2_with (go_at_call 59; refine (isThreads_any _ _).mono ?_; rw [hd]; rintro e w' ⟨rfl, rfl⟩)
  go_ret
  exact ⟨rfl, rfl⟩

theorem map_ok (B : MB) (m : MS) (k n : Nat) (hn : n < 8) (b : Bool) :
    Calls Try.prog 21 #[.pointer (some ⟨B.g, 0, none⟩), .int .i64 n, .bool b] (PW B m k) fun e w' => e = .returned .nilIface ∧ ∃ k', w' = PW B (setWt (setRd m n true) n b) k' := by
  have hd : (decide (0 ≤ (n : Int)) && decide ((n : Int) < 8)) = true := by simp; omega
  have c1 := fun m k => PW_rd B m k n (by omega)
  have c2 := fun m k => PW_wt B m k n (by omega)
  go_enter Try.func21, Try.ntmps21
  go_wp2_with (go_at_call 59; refine (isThreads_any _ _).mono ?_; rw [hd]; rintro e w' ⟨rfl, hw⟩; rw [hw]; clear hw w')
  go_region
  go_wp2
  go_ret
  exact ⟨rfl, _, rfl⟩

theorem find_ok (g : Nat) (a : Nat) (ha : a < 768) (w : World) :
    Calls Try.prog 61 #[.pointer (some ⟨g, 0, none⟩), .int .u64 a] w fun e w' => e = .returned (.tuple #[.pointer (some ⟨g, a / 64 * 66, none⟩), .int .i64 (a % 64 : Nat)]) ∧ w' = w := by
  go_enter Try.func61, Try.ntmps61
  go_wp2
  go_ret2
  exact ⟨rfl, rfl⟩
theorem find_no (g : Nat) (a : Nat) (ha : 768 ≤ a) (hb : a < 18446744073709551616) (w : World) :
    Calls Try.prog 61 #[.pointer (some ⟨g, 0, none⟩), .int .u64 a] w fun e w' => e = .returned (.tuple #[.pointer none, .int .i64 0]) ∧ w' = w := by
  obtain ⟨q, hq⟩ : ∃ q : Int, q = (a : Int) / 64 := ⟨_, rfl⟩
  have hw : IntKind.u64.wrap ((a : Int) / 64) = q := by rw [IntKind.wrap_u64, hq]; omega
  have h12 : (12 : Int) ≤ q := by omega
  clear hb hq
  go_enter Try.func61, Try.ntmps61
  go_wp2
  go_ret2
  exact ⟨rfl, rfl⟩

theorem byte_ok (B : MB) (m : MS) (k a : Nat) (ha : a < 768) (hr : m.rd (a / 64) = true) :
    Calls Try.prog 35 #[.pointer (some ⟨B.g, 0, none⟩), .int .u64 a] (PW B m k) fun e w' => e = .returned (.tuple #[.int .u8 (m.byte a), .nilIface]) ∧ w' = PW B m k := by
  have c1 := fun k => PW_rd B m k (a / 64) (by omega)
  rw [hr] at c1
  have c2 := fun k => PW_by B m k (a / 64) (a % 64) (by omega) (by omega)
  rw [show a / 64 * 64 + a % 64 = a by omega] at c2
  go_enter Try.func35, Try.ntmps35
  go_wp2_with (go_at_call 61; refine (find_ok _ a ha _).mono ?_; rintro e w' ⟨rfl, hw⟩; rw [hw]; clear hw w')
  go_ret2
  exact ⟨rfl, rfl⟩

theorem byte_out (B : MB) (m : MS) (k a : Nat) (ha : 768 ≤ a) (hb : a < 18446744073709551616) :
    Calls Try.prog 35 #[.pointer (some ⟨B.g, 0, none⟩), .int .u64 a] (PW B m k) fun e w' => e = .returned (.tuple #[.int .u8 0, .iface 98 (.int .i64 5)]) ∧ w' = PW B m k := by
  have HF := fun w => find_no B.g a ha hb w
  clear hb ha
  go_enter Try.func35, Try.ntmps35
  go_wp2_with (go_at_call 61; refine (HF _).mono ?_; rintro e w' ⟨rfl, hw⟩; rw [hw]; clear hw w')
  go_ret2
  exact ⟨rfl, rfl⟩

theorem byte_no (B : MB) (m : MS) (k a : Nat) (ha : a < 768) (hr : m.rd (a / 64) = false) :
    Calls Try.prog 35 #[.pointer (some ⟨B.g, 0, none⟩), .int .u64 a] (PW B m k) fun e w' => e = .returned (.tuple #[.int .u8 0, .iface 98 (.int .i64 5)]) ∧ w' = PW B m k := by
  have c1 := fun k => PW_rd B m k (a / 64) (by omega)
  rw [hr] at c1
  go_enter Try.func35, Try.ntmps35
  go_wp2_with (go_at_call 61; refine (find_ok _ a ha _).mono ?_; rintro e w' ⟨rfl, hw⟩; rw [hw]; clear hw w')
  go_ret2
  exact ⟨rfl, rfl⟩
end Go.Proofs.Ytlpcjonklfnejaa
