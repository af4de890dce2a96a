/- strconv.Itoa and strings.Cut at this seat. -/
import Derived.Test.YtkeljbekbgabpaaDoorShelf
import Derived.Test.YtkeljbekbgabpaaDoorASpec
import Derived.Lib.AppendIntMem
import Derived.Lib.SmallJoins
import Derived.Laws.Strings3
import Derived.Lib.Slices
namespace Go.Proofs.YtkeljbekbgabpaaDoor
open Go.RowKit

/-- The library's table of powers of ten lies there. -/
def Tab (w : World) : Prop := Lib.TabIs Tryd.prog w "internal/strconv.uint64pow10" .u64 Lib.pow10Tab
theorem tab_on {w w' : World} (h : Tab w) (hb : Below w.heap.size w w') : Tab w' := Lib.tabBelow_of_tabIs h w' hb

theorem itoa_any (n : Nat) (hn : n ≤ 9223372036854775807) (w : World) (ht : Tab w) : Calls Tryd.prog 24 #[.int .i64 n] w fun e w' => e = .returned (.string ⟨(Lib.decDigits n).toArray⟩) ∧ Below w.heap.size w w' :=
  (Tryd.strconv_Itoa n (by omega) (by omega) w ht).mono fun e w' ⟨he, k, os, hw⟩ => ⟨by rw [he, Lib.itoa_nonneg], by
    rw [hw]
    exact ⟨rfl, rfl, rfl, by simp [Sort.grow], fun k hk => by simp [Sort.grow, Array.getElem?_append_left hk]⟩⟩

theorem lite_cut_hit (s sep : ByteArray) (i : Nat) (hx : ∀ w, Calls Tryd.prog 41 #[.string s, .string sep] w fun e w' => e = .returned (.int .i64 i) ∧ w' = w) (hl : i + sep.size ≤ s.size) (hs : s.size < 4294967296) (w : World) :
    Calls Tryd.prog 36 #[.string s, .string sep] w fun e w' => e = .returned (.tuple #[.string (s.extract 0 i), .string (s.extract (i + sep.size) s.size), .bool true]) ∧ ∃ n, w' = w.drewN n := by
  have c1 : (0 : Int) ≤ i := by omega
  have c2 : (i : Int) ≤ s.size := by omega
  have c3 : (0 : Int) ≤ (i : Int) + sep.size := by omega
  have c4 : (i : Int) + sep.size ≤ s.size := by omega
  go_enter Tryd.func36, Tryd.ntmps36
  go_wp2_with (go_at_call 41; refine (hx _).mono ?_; rintro e w' ⟨rfl, rfl⟩)
  go_quiet (fail)
  go_wp2
  go_ret3
  exact ⟨rfl, _, rfl⟩

theorem cut_hit (s : ByteArray) (c : UInt8) (i : Nat) (hi : Lib.indexByte s.data.toList c = i) (hs : s.size < 4294967296) (w : World) : Calls Tryd.prog 33 #[.string s, .string ⟨#[c]⟩] w fun e w' => e = .returned (.tuple #[.string (s.extract 0 i), .string (s.extract (i + 1) s.size), .bool true]) ∧ ∃ n, w' = w.drewN n := by
  have hl : i < s.size := by
    rw [Lib.size_eq]
    exact (indexByte_split _ _ _ hi).1
  have hc := lite_cut_hit s ⟨#[c]⟩ i (fun w => (Tryd.stringslite_Index_one s c w).mono fun e w' ⟨he, hw⟩ => ⟨by rw [he, hi], hw⟩) hl hs w
  go_enter Tryd.func33, Tryd.ntmps33
  go_wp2_with (go_at_call 36; refine hc.mono ?_; rintro e w' ⟨rfl, n, rfl⟩)
  go_ret3
  exact ⟨rfl, _, rfl⟩

theorem cut_miss (s : ByteArray) (c : UInt8) (hi : Lib.indexByte s.data.toList c < 0) (w : World) : Calls Tryd.prog 33 #[.string s, .string ⟨#[c]⟩] w fun e w' => e = .returned (.tuple #[.string s, .string ⟨#[]⟩, .bool false]) ∧ ∃ n, w' = w.drewN n := by
  have hc : Calls Tryd.prog 36 #[.string s, .string ⟨#[c]⟩] w fun e w' => e = .returned (.tuple #[.string s, .string ⟨#[]⟩, .bool false]) ∧ ∃ n, w' = w.drewN n := by
    go_enter Tryd.func36, Tryd.ntmps36
    go_wp2_with (go_at_call 41; refine (Tryd.stringslite_Index_one _ _ _).mono ?_; rintro e w' ⟨rfl, rfl⟩)
    go_ret3
    exact ⟨rfl, 0, rfl⟩
  go_enter Tryd.func33, Tryd.ntmps33
  go_wp2_with (go_at_call 36; refine hc.mono ?_; rintro e w' ⟨rfl, n, rfl⟩)
  go_ret3
  exact ⟨rfl, _, rfl⟩
end Go.Proofs.YtkeljbekbgabpaaDoor
