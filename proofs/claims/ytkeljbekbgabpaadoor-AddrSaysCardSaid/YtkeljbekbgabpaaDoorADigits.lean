/- The document's digits of a number. -/
import Derived.Test.YtkeljbekbgabpaaDoorASpec
import Derived.Lib.ItoaLen
import Derived.Laws.BytesString
namespace Go.Proofs.YtkeljbekbgabpaaDoor
open Go.RowKit

theorem dec_small {k : Nat} (h : k < 10) : Lib.decDigits k = [UInt8.ofNat (48 + k)] := by rw [Lib.decDigits, dif_pos h]
theorem dec_big {k : Nat} (h : ¬ k < 10) : Lib.decDigits k = Lib.decDigits (k / 10) ++ [UInt8.ofNat (48 + k % 10)] := by rw [Lib.decDigits, dif_neg h]

/-- 'string([]byte{c})'. -/
theorem conv_one (W : World) (c : Nat) (hc : c < 256) (g : Nat) (hg : W.cell? ⟨g, 0, none⟩ = some (.int .u8 c)) : (convert 73 9 (.slice (some ⟨g, 0, none⟩) 1 1)).run Tryd.prog W = .ok (.string ⟨#[UInt8.ofNat c]⟩) W :=
  run_convert_bytes_back (P := Tryd.prog) W 73 9 5 ⟨g, 0, none⟩ 1 [UInt8.ofNat c] Tryd.underlying73 Tryd.underlying5 Tryd.underlying9 fun j hj => by
    obtain rfl : j = 0 := by simp at hj; omega
    rw [show (⟨g, 0, none⟩ : Addr).add 0 = ⟨g, 0, none⟩ by simp [Addr.add], hg]
    simp [UInt8.toNat_ofNat', Nat.mod_eq_of_lt hc]

theorem digits_any (n : Nat) (hn : n < 18446744073709551616) (w : World) : Calls Tryd.prog 28 #[.int .u64 n] w fun e w' => e = .returned (.string ⟨(Lib.decDigits n).toArray⟩) ∧ Below w.heap.size w w' := by
  have hlen : Lib.nDigits n ≤ 20 := Lib.nDigits_le20 n hn
  have HN := hide hn
  clear hn
  go_enter Tryd.func28, Tryd.ntmps28
  go_wp2
  go_loopw [0, 3] (fun a s w' => ∃ (x : Int) (t : ByteArray), 0 ≤ x ∧ a = .int .u64 x ∧ s = .string t ∧ t.size ≤ 20 ∧ Hid (x < 18446744073709551616 ∧ Lib.decDigits n = Lib.decDigits x.toNat ++ t.data.toList) ∧ Hid (Below w.heap.size w w')) (fun a _ _ => (intOf a).toNat)
  case atStart => exact ⟨n, ⟨#[]⟩, by omega, rfl, rfl, by decide, hide ⟨by have := HN.out; omega, by simp⟩, hide (Below.refl _ _)⟩
  case round =>
    obtain ⟨x, t, hx0, rfl, rfl, ht, HD, HB⟩ := hrel
    have hr0 : 0 ≤ x % 10 := by omega
    have hr1 : x % 10 < 10 := by omega
    obtain ⟨c, hc⟩ : ∃ c : Nat, (c : Int) = 48 + x % 10 := ⟨(48 + x % 10).toNat, by omega⟩
    have hc1 : c < 256 := by omega
    have cv : (convert 73 9 (.slice (some ⟨wr.heap.size, 0, none⟩) 1 1)).run Tryd.prog (wr.alloc (.cells #[.int .u8 (48 + x % 10)] 5)) = .ok (.string ⟨#[UInt8.ofNat c]⟩) (wr.alloc (.cells #[.int .u8 (48 + x % 10)] 5)) := by
      refine conv_one _ c hc1 _ ?_
      rw [hc]
      exact World.cell?_alloc_at _ _ _ _ rfl
    obtain ⟨q, hq⟩ : ∃ q : Int, q = x / 10 := ⟨_, rfl⟩
    have hw : IntKind.u64.wrap (x.tdiv 10) = q := by
      have h1 := HD.out.1
      rw [Int.tdiv_eq_ediv_of_nonneg hx0, IntKind.wrap_u64, hq]
      omega
    have hq0 : 0 ≤ q := by omega
    by_cases hs : x < 10
    · have bz : (q == 0) = true := by rw [beq_iff_eq]; omega
      have HF := hide (show Lib.decDigits n = [UInt8.ofNat c] ++ t.data.toList by
        rw [HD.out.2, dec_small (by omega), show 48 + x.toNat = c by omega])
      have HC := hide hc
      clear hc hs hq
      go_wp2
      go_ret
      refine ⟨?_, HB.out.alloc HB.out.size _⟩
      rw [HF.out]
      show Ending.returned (Value.string (⟨#[UInt8.ofNat c]⟩ ++ t)) = _
      congr 2
    · have bz : (q == 0) = false := by rw [beq_eq_false_iff_ne]; omega
      have HF := hide (show q < 18446744073709551616 ∧ Lib.decDigits n = Lib.decDigits q.toNat ++ ([UInt8.ofNat c] ++ t.data.toList) by
        have h1 := HD.out.1
        refine ⟨by omega, ?_⟩
        rw [HD.out.2, dec_big (by omega), show 48 + x.toNat % 10 = c by omega, show q.toNat = x.toNat / 10 by omega, List.append_assoc])
      have HC := hide hc
      have HM := hide (show q.toNat < x.toNat by omega)
      clear hc hq
      go_wp2
      go_round
      case rel =>
        refine ⟨q, _, hq0, rfl, rfl, ?_, hide ⟨HF.out.1, ?_⟩, hide (HB.out.alloc HB.out.size _)⟩
        · have h1 := congrArg List.length HF.out.2
          rw [Lib.decDigits_length, List.length_append, List.length_append] at h1
          rw [ByteArray.size_append, Lib.size_eq t]
          have h3 : (ByteArray.mk #[UInt8.ofNat c]).size = 1 := rfl
          have h4 : [UInt8.ofNat c].length = 1 := rfl
          omega
        · rw [HF.out.2]
          congr 1
      case measure =>
        have := HM.out
        simp [intOf]
        omega
end Go.Proofs.YtkeljbekbgabpaaDoor
