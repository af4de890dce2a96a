/- The document's Seal. -/
import Derived.Test.YtlpcjonklfnejaaMCopyM
import Derived.Test.YtlpcjonklfnejaaByteAt
namespace Go.Proofs.Ytlpcjonklfnejaa
open Go.RowKit
attribute [local go_sem] RW_drew RW_drewN RW_fro

/-- The first i bytes of a text stand from a on. -/
def writeR (r : RS) (a : Nat) (s : ByteArray) (i : Nat) : RS := { r with by' := fun x => if a ≤ x ∧ x < a + i then byteAt s (x - a) else r.by' x }
theorem writeR_zero (r : RS) (a : Nat) (s : ByteArray) : writeR r a s 0 = r := by
  unfold writeR
  have : (fun x => if a ≤ x ∧ x < a + 0 then byteAt s (x - a) else r.by' x) = r.by' := by funext x; rw [if_neg (by omega)]
  rw [this]
theorem writeR_step (r : RS) (a : Nat) (s : ByteArray) (i : Nat) : setRB (writeR r a s i) (a + i) (byteAt s i) = writeR r a s (i + 1) := by
  unfold writeR setRB
  congr 1
  funext x
  by_cases h : x = a + i
  · rw [if_pos h, if_pos (by omega), h, show a + i - a = i by omega]
  · rw [if_neg h]
    show (if a ≤ x ∧ x < a + i then _ else _) = _
    by_cases h1 : a ≤ x ∧ x < a + i
    · rw [if_pos h1, if_pos (by omega)]
    · rw [if_neg h1, if_neg (by omega)]
/-- What is sealed in page q, as the document has it. -/
def rsealS (r : RS) (q : Nat) (s : ByteArray) : RS := writeR (zeroTo (setIs r q 3) (q * 64) 64) (q * 64) s s.size

theorem rseal_long (B : RB) (r : RS) (k : Nat) (s : ByteArray) (hs : 64 < s.size) (hm : s.size ≤ 9223372036854775807) :
    Calls Try.prog 32 #[.pointer (some ⟨B.g, 0, none⟩), .string s] (RW B r k) fun e w' => e = .returned (.tuple #[.int .u64 0, .int .i64 1]) ∧ ∃ k', w' = RW B r k' := by
  have d : decide ((64 : Int) < (s.size : Int)) = true := by simp; omega
  go_enter Try.func32, Try.ntmps32
  go_wp2
  go_ret2
  exact ⟨rfl, k, rfl⟩
theorem rseal_full (B : RB) (r : RS) (k : Nat) (s : ByteArray) (hs : s.size ≤ 64) (hall : ∀ n, 8 ≤ n → n < 12 → r.is n ≠ 0) :
    Calls Try.prog 32 #[.pointer (some ⟨B.g, 0, none⟩), .string s] (RW B r k) fun e w' => e = .returned (.tuple #[.int .u64 0, .int .i64 9]) ∧ ∃ k', w' = RW B r k' := by
  have HB := hide hall
  clear hall
  go_enter Try.func32, Try.ntmps32
  go_wp2
  go_loopw [6] (fun N w' => ∃ n : Nat, 8 ≤ n ∧ n ≤ 12 ∧ N = .int .i64 n ∧ w' = RW B r k) (fun N _ => 12 - (intOf N).toNat)
  case atStart => exact ⟨8, by omega, by omega, rfl, rfl⟩
  case round =>
    obtain ⟨n, h8, h12, rfl, rfl⟩ := hrel
    by_cases hlt : n < 12
    · have c1 := RW_is B r k n hlt
      have h1 : (0 : Int) < (r.is n : Int) := by have := HB.out n h8 hlt; omega
      go_wp2
      go_round
      case rel => exact ⟨n + 1, by omega, by omega, by go_num, trivial⟩
      case measure => simp [intOf]; omega
    · obtain rfl : n = 12 := by omega
      go_wp2
      go_ret2
      exact ⟨rfl, k, rfl⟩
set_option maxRecDepth 20000 in
set_option maxHeartbeats 1000000 in
theorem rseal_ok (B : RB) (r : RS) (k q : Nat) (s : ByteArray) (hs : s.size ≤ 64) (hq8 : 8 ≤ q) (hq : q < 12) (hbef : ∀ n, 8 ≤ n → n < q → r.is n ≠ 0) (hrq : r.is q = 0) :
    Calls Try.prog 32 #[.pointer (some ⟨B.g, 0, none⟩), .string s] (RW B r k) fun e w' => e = .returned (.tuple #[.int .u64 ((q * 64 : Nat) : Int), .int .i64 0]) ∧ ∃ k', w' = RW B (rsealS r q s) k' := by
  have HB := hide hbef
  have HR := hide hrq
  clear hbef hrq
  go_enter Try.func32, Try.ntmps32
  go_wp2
  go_loopw [6] (fun N w' => ∃ n : Nat, 8 ≤ n ∧ n ≤ q ∧ N = .int .i64 n ∧ w' = RW B r k) (fun N _ => 12 - (intOf N).toNat)
  case atStart => exact ⟨8, by omega, by omega, rfl, rfl⟩
  case round =>
    obtain ⟨n, h8, h12, rfl, rfl⟩ := hrel
    have c1 := RW_is B r k n (by omega)
    by_cases hlt : n < q
    · have h1 : (0 : Int) < (r.is n : Int) := by have := HB.out n h8 hlt; omega
      go_wp2
      go_round
      case rel => exact ⟨n + 1, by omega, by omega, by go_num, trivial⟩
      case measure => simp [intOf]; omega
    · obtain rfl : n = q := by omega
      rw [HR.out] at c1
      have c3 : (RW B r k).setCell ⟨B.g, n, none⟩ (.int .i64 3) = RW B (setIs r n 3) k := RW_setIs B r k n 3 (by omega)
      go_wp2_with (refine wpList_zero_page rfl _ _ rfl B (setIs r n 3) k n (by omega) ?_ ?_ ?_; (· rfl); (· rfl))
      obtain ⟨r1, hr1⟩ : ∃ r1, r1 = zeroTo (setIs r n 3) (n * 64) 64 := ⟨_, rfl⟩
      rw [← hr1]
      replace hr1 := hide hr1
      clear c1 c3
      go_loopw [7] (fun I w' => ∃ i k' : Nat, i ≤ s.size ∧ I = .int .i64 i ∧ w' = RW B (writeR r1 (n * 64) s i) k') (fun I _ => 64 - (intOf I).toNat)
      case atStart => exact ⟨0, k, by omega, rfl, by rw [writeR_zero]⟩
      case round =>
        obtain ⟨i, k1, hi, rfl, rfl⟩ := hrel
        by_cases hi2 : i < s.size
        · have bb := byteAt_eq s i hi2
          have lb := byteAt_lt s i
          have c5 := fun k => RW_by B (writeR r1 (n * 64) s i) k n i (by omega) (by omega)
          have c6 := fun k => RW_setBy B (writeR r1 (n * 64) s i) k n i (byteAt s i)
          simp only [writeR_step] at c6
          have hii : (i : Int) < (s.size : Int) := by omega
          have hi64 : (i : Int) < 64 := by omega
          go_wp2_with fail
          go_region
          go_wp2
          go_round
          case rel => exact ⟨i + 1, _, by omega, by go_num, rfl⟩
          case measure => simp [intOf]; omega
        · obtain rfl : i = s.size := by omega
          go_wp2
          go_ret2
          refine ⟨?_, k1, by rw [hr1.out]; rfl⟩
          congr 3
          simp
          omega
end Go.Proofs.Ytlpcjonklfnejaa
