/- The document's reading of a number. -/
import Derived.Test.YtkeljbekbgabpaaDoorAScan
import Derived.Test.YtkeljbekbgabpaaDoorADigits
import Derived.Test.YtkeljbekbgabpaaDoorANum
namespace Go.Proofs.YtkeljbekbgabpaaDoor
open Go.RowKit

def figV (l : List UInt8) : Value := .tuple #[.int .u64 (figN l), .bool (figOk l)]
theorem figV_bad {l : List UInt8} (h : 20 < l.length ∨ l.all isDig = false) : figV l = .tuple #[.int .u64 0, .bool false] := by
  unfold figV figOk figN
  rw [if_pos h, if_pos h]
  rfl

theorem figures_any (s : ByteArray) (hs : s.size < 4294967296) (w : World) : Calls Tryd.prog 30 #[.string s] w fun e w' => e = .returned (figV s.data.toList) ∧ Below w.heap.size w w' := by
  by_cases h20 : 20 < s.size
  · have HV := hide (figV_bad (l := s.data.toList) (Or.inl (by rw [← Lib.size_eq]; exact h20)))
    go_enter Tryd.func30, Tryd.ntmps30
    go_wp2
    go_ret2
    exact ⟨by rw [HV.out]; rfl, Below.refl _ _⟩
  · go_enter Tryd.func30, Tryd.ntmps30
    go_wp2
    go_loopw [4, 5] (fun x i w' => ∃ (k : Nat) (y : Int), k ≤ s.size ∧ i = .int .i64 k ∧ x = .int .u64 y ∧ 0 ≤ y ∧ w' = w ∧ Hid (y = (digVal 0 (s.data.toList.take k) % 18446744073709551616 : Nat)) ∧ Hid ((s.data.toList.take k).all isDig = true)) (fun _ i _ => s.size - (intOf i).toNat)
    case atStart => exact ⟨0, 0, by omega, rfl, rfl, by omega, rfl, hide rfl, hide rfl⟩
    case round =>
      obtain ⟨k, y, hk, rfl, rfl, hy, rfl, HY, HA⟩ := hrel
      by_cases hlt : k < s.size
      · have ek := byteAt_eq s k hlt
        have lk := byteAt_lt s k
        have HB := hide (byte_list s k hlt)
        by_cases hdg : 48 ≤ byteAt s k ∧ byteAt s k ≤ 57
        · have HA2 := hide (show (s.data.toList.take (k + 1)).all isDig = true by rw [HB.out, List.all_append, HA.out]; simp [isDig_byte _ lk, hdg.1, hdg.2])
          have HY2 := hide (show IntKind.u64.wrap (IntKind.u64.wrap (y * 10) + ((byteAt s k : Int) - 48)) = (digVal 0 (s.data.toList.take (k + 1)) % 18446744073709551616 : Nat) by
            rw [HB.out, digVal_snoc, UInt8.toNat_ofNat', Nat.mod_eq_of_lt lk, IntKind.wrap_u64, IntKind.wrap_u64, HY.out]
            omega)
          go_wp2
          go_round
          case rel => exact ⟨k + 1, _, by omega, by go_num, rfl, by rw [HY2.out]; omega, trivial, HY2, HA2⟩
          case measure => simp [intOf]; omega
        · have HV := hide (figV_bad (l := s.data.toList) (Or.inr (all_take _ (k + 1) (by
            rw [HB.out, List.all_append, HA.out]
            simp only [List.all_cons, List.all_nil, isDig_byte _ lk, Bool.and_true, Bool.true_and]
            rw [Bool.and_eq_false_iff]
            simp
            omega))))
          go_wp2
          all_goals
            go_ret2
            exact ⟨by rw [HV.out]; rfl, Below.refl _ _⟩
      · obtain rfl : k = s.size := by omega
        have htk : s.data.toList.take s.size = s.data.toList := List.take_of_length_le (by rw [← Lib.size_eq]; omega)
        rw [htk] at HY HA
        have hng : ¬ (20 < s.data.toList.length ∨ s.data.toList.all isDig = false) := by
          rw [← Lib.size_eq, HA.out]
          rintro (h | h)
          · exact h20 h
          · cases h
        have hfn : figN s.data.toList = digVal 0 s.data.toList % 18446744073709551616 := by unfold figN; rw [if_neg hng]
        obtain ⟨N, hN⟩ : ∃ N, N = figN s.data.toList := ⟨_, rfl⟩
        obtain rfl : y = (N : Int) := by rw [HY.out, ← hfn, hN]
        have HNb := hide (show N < 18446744073709551616 by rw [hN, hfn]; exact Nat.mod_lt _ (by decide))
        have HC := fun V => digits_any N HNb.out V
        obtain ⟨dk, hdk⟩ : ∃ d : ByteArray, d = ⟨(Lib.decDigits N).toArray⟩ := ⟨_, rfl⟩
        rw [← hdk] at HC
        have HV := hide (show figV s.data.toList = .tuple #[.int .u64 N, .bool (dk.toList == s.toList)] by
          unfold figV figOk
          rw [if_neg hng, ← hN, Lib.toList_data, Lib.toList_data, hdk])
        clear hdk hN hfn hng htk hy HY
        go_wp2_with (go_at_call 28; refine (HC _).mono ?_; rintro e V ⟨rfl, hV⟩)
        go_ret2
        exact ⟨by rw [HV.out]; rfl, hV⟩
end Go.Proofs.YtkeljbekbgabpaaDoor
