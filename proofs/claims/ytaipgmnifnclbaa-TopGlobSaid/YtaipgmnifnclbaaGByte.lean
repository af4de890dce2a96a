/- Walks of the predicates on one byte, of strings.IndexByte and strings.HasPrefix. -/
import Derived.Test.YtaipgmnifnclbaaBase
import Derived.Lib.Bytealg
import Derived.Lib.Strings
import Derived.Lib.Walk
namespace Go.Proofs.Ytaipgmnifnclbaa
open Go.RowKit

/-- 'isName', 'letter'. -/
def nameB (b : Int) : Bool := decide (97 ≤ b) && decide (b ≤ 122) || decide (65 ≤ b) && decide (b ≤ 90) || decide (48 ≤ b) && decide (b ≤ 57) || b == 46 || b == 95
/-- One of the five signs. -/
def signB (b : Int) : Bool := b == 42 || b == 63 || b == 91 || b == 93 || b == 92
def plainB (b : Int) : Bool := decide (33 ≤ b) && decide (b ≤ 126) && b != 34 && !signB b

theorem isName_any (b : Int) (w : World) : Calls Try.prog 32 #[.int .u8 b] w fun e w' => e = .returned (.bool (nameB b)) ∧ w' = w := by
  go_enter Try.func32, Try.ntmps32
  go_wp2
  all_goals
    go_ret
    exact ⟨ret_bool (by rw [Bool.eq_iff_iff]; simp [nameB]; try omega), rfl⟩

theorem letter_any (b : Int) (w : World) : Calls Try.prog 28 #[.int .u8 b] w fun e w' => e = .returned (.bool (nameB b)) ∧ w' = w := by
  go_enter Try.func28, Try.ntmps28
  go_wp2
  all_goals
    go_ret
    exact ⟨ret_bool (by rw [Bool.eq_iff_iff]; simp [nameB]; try omega), rfl⟩

theorem special_any (b : Int) (w : World) : Calls Try.prog 20 #[.int .u8 b] w fun e w' => e = .returned (.bool (signB b)) ∧ w' = w := by
  go_enter Try.func20, Try.ntmps20
  go_wp2
  all_goals
    go_ret
    exact ⟨ret_bool (by rw [Bool.eq_iff_iff]; simp [signB]; try omega), rfl⟩

theorem lite_IndexByte (s : ByteArray) (c : Int) (w : World) :
    Calls Try.prog 33 #[.string s, .int .u8 c] w fun e w' => e = .returned (.int .i64 (Lib.indexByte s.data.toList c.toNat.toUInt8)) ∧ w' = w := by
  go_enter Try.func33, Try.ntmps33
  go_wp2
  rw [run_callFunc_extern Try.func34 (by kernel_rfl) (by kernel_rfl) (by kernel_rfl) (e := Extern.BytealgIndexByte.indexByte) (by kernel_rfl), Lib.run_indexByteString]
  simp only [Result.andThen]
  rw [Oper.upon_value]
  go_wp2
  go_ret
  exact ⟨rfl, rfl⟩

theorem strings_IndexByte (s : ByteArray) (c : Int) (w : World) :
    Calls Try.prog 31 #[.string s, .int .u8 c] w fun e w' => e = .returned (.int .i64 (Lib.indexByte s.data.toList c.toNat.toUInt8)) ∧ w' = w := by
  go_enter Try.func31, Try.ntmps31
  go_wp2_with (go_at_call 33; refine (lite_IndexByte _ _ _).mono ?_; rintro e w' ⟨rfl, rfl⟩)
  go_ret
  exact ⟨rfl, rfl⟩

/-- Is a byte among the five signs? As Go asks it. -/
theorem signs_index (c : Nat) (hc : c < 256) : decide (Lib.indexByte [42, 63, 91, 93, 92] (UInt8.ofNat c) < 0) = !signB c := by
  have h : ∀ c : Fin 256, decide (Lib.indexByte [42, 63, 91, 93, 92] (UInt8.ofNat c.val) < 0) = !signB c.val := by decide +kernel
  exact h ⟨c, hc⟩

theorem isPlain_any (b : Nat) (hb : b < 256) (w : World) : Calls Try.prog 27 #[.int .u8 b] w fun e w' => e = .returned (.bool (plainB b)) ∧ w' = w := by
  have hs := signs_index b hb
  have Hs := hide hs
  clear hs
  go_enter Try.func27, Try.ntmps27
  go_wp2_with (go_at_call 31; refine (strings_IndexByte _ _ _).mono ?_; rintro e w' ⟨rfl, rfl⟩)
  · go_ret
    exact ⟨ret_bool (by rw [Bool.eq_iff_iff]; simp [plainB]; omega), rfl⟩
  · go_ret
    exact ⟨ret_bool (by rw [Hs.out]; rw [Bool.eq_iff_iff]; simp [plainB]; omega), rfl⟩
  · go_ret
    exact ⟨ret_bool (by rw [Bool.eq_iff_iff]; simp [plainB]; omega), rfl⟩
  · go_ret
    exact ⟨ret_bool (by rw [Bool.eq_iff_iff]; simp [plainB]; omega), rfl⟩

theorem lite_HasPrefix (s p : ByteArray) (w : World) :
    Calls Try.prog 29 #[.string s, .string p] w fun e w' => e = .returned (.bool (Lib.hasPrefix s.data.toList p.data.toList)) ∧ w' = w := by
  rw [← Lib.hasPrefix_of_take, ← Lib.size_eq, ← Lib.size_eq]
  go_enter Try.func29, Try.ntmps29
  go_wp2
  · rename_i h
    go_ret
    refine ⟨?_, rfl⟩
    show Ending.returned (Value.bool ((s.extract 0 p.size).toList == p.toList)) = _
    rw [Lib.extract_toList, Lib.toList_data]
    simp [h]
  · rename_i h
    go_ret
    refine ⟨?_, rfl⟩
    show Ending.returned (Value.bool false) = _
    simp [h]

theorem strings_HasPrefix (s p : ByteArray) (w : World) :
    Calls Try.prog 22 #[.string s, .string p] w fun e w' => e = .returned (.bool (Lib.hasPrefix s.data.toList p.data.toList)) ∧ w' = w := by
  go_enter Try.func22, Try.ntmps22
  go_wp2_with (go_at_call 29; refine (lite_HasPrefix _ _ _).mono ?_; rintro e w' ⟨rfl, rfl⟩)
  go_ret
  exact ⟨rfl, rfl⟩
end Go.Proofs.Ytaipgmnifnclbaa
