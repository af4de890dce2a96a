/- Put. -/
import Derived.Test.YtlpcjonklfnejaaMGet
namespace Go.Proofs.Ytlpcjonklfnejaa
open Go.RowKit
attribute [local go_sem] PW_drew PW_drewN PW_fro

def strLen : Value → Nat
  | .string s => s.size
  | _ => 0
/-- May a byte be written there? -/
def goodM (m : MS) (x : Nat) : Prop := x < 768 ∧ m.wt (x / 64) = true
theorem find_any (g a : Nat) (ha : a < 18446744073709551616) (w : World) :
    Calls Try.prog 61 #[.pointer (some ⟨g, 0, none⟩), .int .u64 a] w fun e w' => e = .returned (if a < 768 then .tuple #[.pointer (some ⟨g, a / 64 * 66, none⟩), .int .i64 (a % 64 : Nat)] else .tuple #[.pointer none, .int .i64 0]) ∧ w' = w := by
  by_cases h : a < 768
  · rw [if_pos h]; exact find_ok g a h w
  · rw [if_neg h]; exact find_no g a (by omega) ha w

theorem put_bad (B : MB) (m : MS) (k a : Nat) (s : ByteArray) (hs : s.size < 4294967296) (hbad : ∃ i, i < s.size ∧ ¬ goodM m (addrI a i)) :
    Calls Try.prog 25 #[.pointer (some ⟨B.g, 0, none⟩), .int .u64 a, .string s] (PW B m k) fun e w' => e = .returned (.iface 98 (.int .i64 5)) ∧ ∃ k', w' = PW B m k' := by
  have HBAD := hide hbad
  clear hbad
  obtain ⟨ai, hai⟩ : ∃ x : Int, x = (a : Int) := ⟨_, rfl⟩
  rw [← hai]
  have HAI := hide hai
  clear hai
  go_enter Try.func25, Try.ntmps25
  go_wp2
  go_loopw [15] (fun I w' => ∃ i : Nat, i ≤ s.size ∧ I = .int .i64 i ∧ w' = PW B m k ∧ Hid (∀ j, j < i → goodM m (addrI a j))) (fun I _ => s.size - (intOf I).toNat)
  case atStart => exact ⟨0, by omega, rfl, rfl, hide (fun j hj => by omega)⟩
  case round =>
    obtain ⟨i, hi, rfl, rfl, HG⟩ := hrel
    by_cases hlt : i < s.size
    · obtain ⟨y, hy⟩ : ∃ y, y = addrI a i := ⟨_, rfl⟩
      obtain ⟨x, hx⟩ : ∃ x : Int, x = (y : Int) := ⟨_, rfl⟩
      have hw : IntKind.u64.wrap (ai + i) = x := by
        rw [IntKind.wrap_u64, HAI.out, hx, hy]
        unfold addrI
        omega
      have HC := fun w => find_any B.g y (by rw [hy]; exact Nat.mod_lt _ (by decide)) w
      rw [← hx] at HC
      have HX := hide hx
      have HY := hide hy
      clear hx hy
      by_cases hin : y < 768
      · have c1 := PW_wt B m k (y / 64) (by omega)
        simp only [if_pos hin] at HC
        cases hr : m.wt (y / 64) with
        | false =>
          rw [hr] at c1
          clear hr
          go_wp2_with (go_at_call 61; refine (HC _).mono ?_; rintro e w' ⟨rfl, hww⟩; rw [hww]; clear hww w')
          go_ret
          exact ⟨rfl, k, rfl⟩
        | true =>
          have HG2 := hide (show ∀ j, j < i + 1 → goodM m (addrI a j) from fun j hj => by
            by_cases h : j < i
            · exact HG.out j h
            · rw [show j = i by omega, ← HY.out]; exact ⟨hin, hr⟩)
          rw [hr] at c1
          clear hr
          go_wp2_with (go_at_call 61; refine (HC _).mono ?_; rintro e w' ⟨rfl, hww⟩; rw [hww]; clear hww w')
          go_round
          case rel => exact ⟨i + 1, by omega, by go_num, trivial, HG2⟩
          case measure => simp [intOf]; omega
      · simp only [if_neg hin] at HC
        go_wp2_with (go_at_call 61; refine (HC _).mono ?_; rintro e w' ⟨rfl, hww⟩; rw [hww]; clear hww w')
        go_ret
        exact ⟨rfl, k, rfl⟩
    · obtain rfl : i = s.size := by omega
      obtain ⟨j, hj, hb⟩ := HBAD.out
      exact absurd (HG.out j hj) hb

theorem writeBy_nil (m : MS) (a : Nat) : writeBy m a [] = m := by
  unfold writeBy
  have : (fun x => if a ≤ x ∧ x < a + ([] : List UInt8).length then (([] : List UInt8).getD (x - a) 0).toNat else m.byte x) = m.byte := by
    funext x
    rw [if_neg (by simp)]
  rw [this]
theorem writeBy_app (m : MS) (a : Nat) (l1 l2 : List UInt8) : writeBy (writeBy m a l1) (a + l1.length) l2 = writeBy m a (l1 ++ l2) := by
  unfold writeBy
  congr 1
  funext x
  show (if a + l1.length ≤ x ∧ x < a + l1.length + l2.length then (l2.getD (x - (a + l1.length)) 0).toNat else if a ≤ x ∧ x < a + l1.length then (l1.getD (x - a) 0).toNat else m.byte x) = if a ≤ x ∧ x < a + (l1 ++ l2).length then ((l1 ++ l2).getD (x - a) 0).toNat else m.byte x
  rw [List.length_append]
  by_cases h1 : a + l1.length ≤ x ∧ x < a + l1.length + l2.length
  · rw [if_pos h1, if_pos (by omega), List.getD_eq_getElem?_getD, List.getD_eq_getElem?_getD, List.getElem?_append_right (by omega), show x - a - l1.length = x - (a + l1.length) by omega]
  · rw [if_neg h1]
    by_cases h2 : a ≤ x ∧ x < a + l1.length
    · rw [if_pos h2, if_pos (by omega), List.getD_eq_getElem?_getD, List.getD_eq_getElem?_getD, List.getElem?_append_left (by omega)]
    · rw [if_neg h2, if_neg (by omega)]

theorem good_fits {m : MS} {a n : Nat} (ha : a < 18446744073709551616) (h : ∀ i, i < n → goodM m (addrI a i)) (h0 : 0 < n) : a + n ≤ 768 := by
  have h1 := (h 0 h0).1
  unfold addrI at h1
  rw [Nat.add_zero, Nat.mod_eq_of_lt ha] at h1
  rcases Nat.lt_or_ge 768 (a + n) with h2 | h2
  · have h3 := (h (768 - a) (by omega)).1
    unfold addrI at h3
    rw [show a + (768 - a) = 768 by omega] at h3
    exact absurd h3 (by decide)
  · exact h2

/-- 'p.bytes[at:]'. -/
theorem slice_page (g y : Nat) (W : World) : (Instr.sliceAt 38 (.pointer (some ⟨g, y / 64 * 66, none⟩)) (some (.int .i64 ((y : Int) % 64))) none none).run Try.prog W = .ok (.slice (some ⟨g, y / 64 * 66 + y % 64, none⟩) (64 - y % 64) (64 - y % 64)) W := by
  have hal : Try.prog.arrayLen 38 = 64 := by kernel_rfl
  rw [run_sliceAt_array_l W 38 ⟨g, y / 64 * 66, none⟩ (by kernel_rfl) .i64 ((y : Int) % 64) (by omega) (by rw [hal]; omega)]
  rw [hal, show Try.prog.elem 38 = 5 by kernel_rfl, Try.sizeOf5 W, Result.andThen_ok, show ((y : Int) % 64).toNat = y % 64 by omega]
  unfold slicedAt
  rw [Nat.mul_one, if_neg (by omega)]
  have e : (⟨g, y / 64 * 66, none⟩ : Addr).add (y % 64) = ⟨g, y / 64 * 66 + y % 64, none⟩ := by
    by_cases h : y % 64 = 0
    · rw [h]; simp [Addr.add]
    · simp [Addr.add, h]
  rw [e]

set_option maxRecDepth 20000 in
theorem put_ok (B : MB) (m : MS) (k a : Nat) (s : ByteArray) (ha : a < 18446744073709551616) (hs : s.size < 4294967296) (hgood : ∀ i, i < s.size → goodM m (addrI a i)) :
    Calls Try.prog 25 #[.pointer (some ⟨B.g, 0, none⟩), .int .u64 a, .string s] (PW B m k) fun e w' => e = .returned .nilIface ∧ ∃ k', w' = PW B (writeBy m a s.data.toList) k' := by
  have HGD := hide hgood
  have HFIT := hide (good_fits ha hgood)
  clear hgood ha
  obtain ⟨ai, hai⟩ : ∃ x : Int, x = (a : Int) := ⟨_, rfl⟩
  rw [← hai]
  have HAI := hide hai
  clear hai
  go_enter Try.func25, Try.ntmps25
  go_wp2
  go_loopw [15] (fun I w' => ∃ i : Nat, i ≤ s.size ∧ I = .int .i64 i ∧ w' = PW B m k ∧ Hid (∀ j, j < i → goodM m (addrI a j))) (fun I _ => s.size - (intOf I).toNat)
  case atStart => exact ⟨0, by omega, rfl, rfl, hide (fun j hj => by omega)⟩
  case round =>
    obtain ⟨i, hi, rfl, rfl, HG⟩ := hrel
    by_cases hlt : i < s.size
    · obtain ⟨y, hy⟩ : ∃ y, y = addrI a i := ⟨_, rfl⟩
      obtain ⟨x, hx⟩ : ∃ x : Int, x = (y : Int) := ⟨_, rfl⟩
      have hw : IntKind.u64.wrap (ai + i) = x := by
        rw [IntKind.wrap_u64, HAI.out, hx, hy]
        unfold addrI
        omega
      have HC := fun w => find_any B.g y (by rw [hy]; exact Nat.mod_lt _ (by decide)) w
      rw [← hx] at HC
      have HX := hide hx
      have HY := hide hy
      clear hx hy
      obtain ⟨hin, hr⟩ := HGD.out i hlt
      rw [← HY.out] at hin hr
      have c1 := PW_wt B m k (y / 64) (by omega)
      simp only [if_pos hin] at HC
      have HG2 := hide (show ∀ j, j < i + 1 → goodM m (addrI a j) from fun j hj => HGD.out j (by omega))
      rw [hr] at c1
      clear hr
      go_wp2_with (go_at_call 61; refine (HC _).mono ?_; rintro e w' ⟨rfl, hww⟩; rw [hww]; clear hww w')
      go_round
      case rel => exact ⟨i + 1, by omega, by go_num, trivial, HG2⟩
      case measure => simp [intOf]; omega
    · obtain rfl : i = s.size := by omega
      go_wp2
      go_loopw [1, 2] (fun A S w' => ∃ (t : Nat) (x : Int) (z : ByteArray), t ≤ s.size ∧ A = .int .u64 x ∧ S = .string z ∧ z.size = s.size - t ∧ w' = PW B (writeBy m a (s.data.toList.take t)) k ∧ Hid (x = ((a + t : Nat) : Int)) ∧ Hid (z.data.toList = s.data.toList.drop t)) (fun _ S _ => strLen S)
      case atStart => exact ⟨0, ai, s, by omega, rfl, rfl, by omega, by rw [List.take_zero, writeBy_nil], hide HAI.out, hide (by rw [List.drop_zero])⟩
      case round =>
        obtain ⟨t, x, z, ht, rfl, rfl, hz, rfl, HX, HZ⟩ := hrel
        by_cases hlt : t < s.size
        · have hfit : a + s.size ≤ 768 := HFIT.out (by omega)
          obtain ⟨y, hy⟩ : ∃ y, y = a + t := ⟨_, rfl⟩
          have hy7 : y < 768 := by omega
          have HC := fun w => find_ok B.g y hy7 w
          rw [show ((y : Nat) : Int) = x by rw [HX.out, hy]] at HC
          have HY := hide hy
          clear hy
          have hsl := slice_page B.g y
          go_wp2_with (first
            | (go_at_call 61; refine (HC _).mono ?_; rintro e w' ⟨rfl, hww⟩; rw [hww]; clear hww w')
            | (refine wpList_copy_page rfl _ _ rfl B _ _ (y / 64) (y % 64) _ z ?_ ?_ ?_ ?_ ?_; (· omega); (· omega); (· rfl); (· rfl)))
          have hcp := run_copy_page B (writeBy m a (s.data.toList.take t)) k (y / 64) (y % 64) (64 - y % 64) 3 z (by omega) (by omega)
          rw [hcp]
          simp only [Result.andThen]
          rw [Oper.upon_value]
          clear hcp hsl HC
          obtain ⟨q, hq⟩ : ∃ q, q = Nat.min z.size (64 - y % 64) := ⟨_, rfl⟩
          have hq1 : q ≤ z.size := by rw [hq]; exact Nat.min_le_left _ _
          have hq2 : q ≤ 64 - y % 64 := by rw [hq]; exact Nat.min_le_right _ _
          have hq3 : 0 < q := by rw [hq]; exact Nat.lt_min.2 ⟨by omega, by omega⟩
          rw [← hq]
          clear hq
          have hx7 : 0 ≤ x ∧ x < 768 := by rw [HX.out, ← HY.out]; omega
          have hll : (s.data.toList.take t).length = t := by rw [List.length_take, ← Lib.size_eq]; omega
          have HW := hide (show writeBy (writeBy m a (s.data.toList.take t)) (y / 64 * 64 + y % 64) (z.data.toList.take q) = writeBy m a (s.data.toList.take (t + q)) by
            have h1 := writeBy_app m a (s.data.toList.take t) ((s.data.toList.drop t).take q)
            rw [hll, ← HZ.out, ← HY.out] at h1
            rw [show y / 64 * 64 + y % 64 = y by omega, h1, HZ.out, ← List.take_add])
          go_wp2
          go_round
          case rel =>
            refine ⟨t + q, x + q, _, by omega, rfl, rfl, ?_, by rw [HW.out], hide (by rw [HX.out]; omega), hide ?_⟩
            · simp; omega
            · rw [Lib.extract_data, HZ.out, List.drop_drop, List.take_of_length_le (by rw [List.length_drop, ← Lib.size_eq]; omega)]
          case measure => simp [strLen]; omega
        · obtain rfl : t = s.size := by omega
          have hz0 : z.size = 0 := by omega
          have HE := hide (show s.data.toList.take s.size = s.data.toList from List.take_of_length_le (by rw [← Lib.size_eq]; exact Nat.le_refl _))
          go_wp2
          go_ret
          exact ⟨rfl, k, by rw [HE.out]⟩
end Go.Proofs.Ytlpcjonklfnejaa
