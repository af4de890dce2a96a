/- addr.number: digits read. -/
import Derived.Test.YtkeljbekbgabpaaDoorACut
import Derived.Test.YtkeljbekbgabpaaDoorByteAt
namespace Go.Proofs.YtkeljbekbgabpaaDoor
open Go.RowKit

def numV : Option Nat → Value
  | none => .tuple #[.int .i64 0, .bool false]
  | some n => .tuple #[.int .i64 n, .bool true]

theorem byte_list (s : ByteArray) (k : Nat) (h : k < s.size) : s.data.toList.take (k + 1) = s.data.toList.take k ++ [UInt8.ofNat (byteAt s k)] := by
  have hk : k < s.data.toList.length := by rw [← Lib.size_eq]; exact h
  rw [List.take_add_one, List.getElem?_eq_getElem hk]
  unfold byteAt
  rw [List.getD_eq_getElem?_getD, List.getElem?_eq_getElem hk]
  simp
theorem isDig_byte (n : Nat) (h : n < 256) : isDig (UInt8.ofNat n) = (decide (48 ≤ n) && decide (n ≤ 57)) := by
  unfold isDig
  rw [UInt8.toNat_ofNat', Nat.mod_eq_of_lt h]
theorem all_take (l : List UInt8) (k : Nat) (h : (l.take k).all isDig = false) : l.all isDig = false := by
  cases hb : l.all isDig with
  | false => rfl
  | true =>
    rw [List.all_eq_true] at hb
    have : (l.take k).all isDig = true := List.all_eq_true.2 fun x hx => hb x (List.mem_of_mem_take hx)
    rw [h] at this
    cases this

theorem number_any (s : ByteArray) (hs : s.size < 4294967296) (w : World) : Calls Tryd.prog 34 #[.string s] w fun e w' => e = .returned (numV (numR s.data.toList)) ∧ ∃ n, w' = w.drewN n := by
  by_cases h0 : s.size = 0
  · have HV := hide (show numR s.data.toList = none by unfold numR; rw [if_pos (Or.inl (by rw [← Lib.size_eq]; exact h0))])
    go_enter Tryd.func34, Tryd.ntmps34
    go_wp2
    go_ret2
    exact ⟨by rw [HV.out]; rfl, 0, rfl⟩
  · have b0 : ((s.size : Int) == 0) = false := by rw [beq_eq_false_iff_ne]; omega
    by_cases h5 : 5 < s.size
    · have HV := hide (show numR s.data.toList = none by unfold numR; rw [if_pos (Or.inr (Or.inl (by rw [← Lib.size_eq]; exact h5)))])
      go_enter Tryd.func34, Tryd.ntmps34
      go_wp2
      go_ret2
      exact ⟨by rw [HV.out]; rfl, 0, rfl⟩
    · have e0 := byteAt_eq s 0 (by omega)
      have hd : s.data.toList.head? = some (UInt8.ofNat (byteAt s 0)) := by
        have := byte_list s 0 (by omega)
        cases hl : s.data.toList with
        | nil => rw [hl] at this; simp at this
        | cons x r => rw [hl] at this; simpa using this
      by_cases h1 : 1 < s.size ∧ byteAt s 0 = 48
      · have HV := hide (show numR s.data.toList = none by unfold numR; rw [if_pos (Or.inr (Or.inr (Or.inl ⟨by rw [← Lib.size_eq]; exact h1.1, by rw [hd, h1.2]; rfl⟩)))])
        have c1 : ((byteAt s 0 : Int) == 48) = true := by rw [beq_iff_eq]; omega
        have c2 : (1 : Int) < s.size := by omega
        clear hd
        go_enter Tryd.func34, Tryd.ntmps34
        go_wp2
        go_ret2
        exact ⟨by rw [HV.out]; rfl, 0, rfl⟩
      · have HR := hide (show numR s.data.toList = if s.data.toList.all isDig = false then none else some (digVal 0 s.data.toList) by
          unfold numR
          rw [hd]
          by_cases ha : s.data.toList.all isDig = false
          · rw [if_pos (Or.inr (Or.inr (Or.inr ha))), if_pos ha]
          · rw [if_neg ha, if_neg]
            rw [← Lib.size_eq]
            rintro (h | h | ⟨h, h'⟩ | h)
            · omega
            · omega
            · refine h1 ⟨h, ?_⟩
              have := congrArg UInt8.toNat (Option.some.inj h')
              rw [UInt8.toNat_ofNat', Nat.mod_eq_of_lt (byteAt_lt s 0)] at this
              exact this
            · exact ha h)
        have hk : (1 : Int) < s.size → ((byteAt s 0 : Int) == 48) = false := fun h => by rw [beq_eq_false_iff_ne]; intro h'; exact h1 ⟨by omega, by omega⟩
        clear hd h1
        go_enter Tryd.func34, Tryd.ntmps34
        go_wp2
        all_goals
          go_loopw [26, 4] (fun i x w' => ∃ k m : Nat, k ≤ s.size ∧ i = .int .i64 k ∧ (∃ n : Nat, n < 100000 ∧ x = .int .i64 n ∧ Hid (n = digVal 0 (s.data.toList.take k))) ∧ w' = w.drewN m ∧ Hid ((s.data.toList.take k).all isDig = true)) (fun i _ _ => s.size - (intOf i).toNat)
          case atStart => exact ⟨0, 0, by omega, rfl, ⟨0, by omega, rfl, hide rfl⟩, rfl, hide rfl⟩
          case round =>
            obtain ⟨k, m, hk, rfl, ⟨n, hn, rfl, HN⟩, rfl, HA⟩ := hrel
            by_cases hlt : k < s.size
            · have ek := byteAt_eq s k hlt
              have lk := byteAt_lt s k
              have HB := hide (byte_list s k hlt)
              by_cases hdg : 48 ≤ byteAt s k ∧ byteAt s k ≤ 57
              · have HA2 := hide (show (s.data.toList.take (k + 1)).all isDig = true by rw [HB.out, List.all_append, HA.out]; simp [isDig_byte _ lk, hdg.1, hdg.2])
                have HN2 := hide (show n * 10 + (byteAt s k - 48) = digVal 0 (s.data.toList.take (k + 1)) by rw [HB.out, digVal_snoc, ← HN.out, UInt8.toNat_ofNat', Nat.mod_eq_of_lt lk])
                have hn2 : n * 10 + (byteAt s k - 48) < 100000 := by
                  have h1 := digVal_lt _ 0 HA2.out
                  rw [← HN2.out, List.length_take, ← Lib.size_eq] at h1
                  have h2 : 10 ^ min (k + 1) s.size ≤ 10 ^ 5 := Nat.pow_le_pow_right (by decide) (by omega)
                  omega
                go_wp2
                go_round
                case rel => exact ⟨k + 1, m, by omega, by go_num, ⟨n * 10 + (byteAt s k - 48), hn2, by go_num, HN2⟩, rfl, HA2⟩
                case measure => simp [intOf]; omega
              · have HV := hide (show numR s.data.toList = none by
                  rw [HR.out, if_pos]
                  refine all_take _ (k + 1) ?_
                  rw [HB.out, List.all_append, HA.out]
                  simp only [List.all_cons, List.all_nil, isDig_byte _ lk, Bool.and_true, Bool.true_and]
                  rw [Bool.and_eq_false_iff]
                  simp
                  omega)
                go_wp2
                all_goals
                  go_ret2
                  exact ⟨by rw [HV.out]; rfl, m, rfl⟩
            · obtain rfl : k = s.size := by omega
              have HV := hide (show numR s.data.toList = some n by
                rw [List.take_of_length_le (by rw [← Lib.size_eq]; omega)] at HN HA
                rw [HR.out, HA.out, if_neg (by decide), ← HN.out])
              go_wp2
              go_ret2
              exact ⟨by rw [HV.out]; rfl, m, rfl⟩
end Go.Proofs.YtkeljbekbgabpaaDoor
