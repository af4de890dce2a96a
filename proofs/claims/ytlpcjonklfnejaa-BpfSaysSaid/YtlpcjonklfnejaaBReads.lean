/- The closed fact; the walk of the law BpfReads. -/
import Derived.Test.YtlpcjonklfnejaaBOf
import Derived.Test.YtlpcjonklfnejaaBRRun
namespace Go.Proofs.Ytlpcjonklfnejaa
open Go.RowKit

/-- The program of the closed fact. -/
def factP (i : Nat) : IN := if i = 0 then ⟨1, 0, 0, 0⟩ else if i = 1 then ⟨4, 1, 0, 5⟩ else if i = 2 then ⟨8, 0, 0, 1⟩ else ⟨8, 0, 0, 2⟩
def factC : CL := ⟨0, 5, 0, 0, 0, 0⟩
theorem factC_ok : ClOk factC := ⟨by decide, by decide, by decide, by decide, by decide, by decide⟩
theorem fact_check : checkR 4 factP = 0 := by decide +kernel
theorem fact_run : runR factP factC 4 0 0 0 = (2, 3) := by decide +kernel
theorem fact_prog (w : World) : IsProg (some ⟨w.heap.size, 0, none⟩) 4 factP (w.alloc (.cells #[.int .i64 1, .int .i64 0, .int .i64 0, .int .u32 0, .int .i64 4, .int .i64 1, .int .i64 0, .int .u32 5, .int .i64 8, .int .i64 0, .int .i64 0, .int .u32 1, .int .i64 8, .int .i64 0, .int .i64 0, .int .u32 2] 78)) :=
  ⟨fun _ => ⟨w.heap.size, 0, rfl, by simp, fun i hi => by
    have h := fun j => cell_of_row (w.alloc (.cells #[.int .i64 1, .int .i64 0, .int .i64 0, .int .u32 0, .int .i64 4, .int .i64 1, .int .i64 0, .int .u32 5, .int .i64 8, .int .i64 0, .int .i64 0, .int .u32 1, .int .i64 8, .int .i64 0, .int .i64 0, .int .u32 2] 78)) w.heap.size j _ _ _ (heap_alloc_new w _)
    have hc : i = 0 ∨ i = 1 ∨ i = 2 ∨ i = 3 := by omega
    rcases hc with rfl | rfl | rfl | rfl
    · exact ⟨h 0, h 1, h 2, h 3, ⟨by decide, by decide, by decide, by decide, by decide, by decide, by decide⟩⟩
    · exact ⟨h 4, h 5, h 6, h 7, ⟨by decide, by decide, by decide, by decide, by decide, by decide, by decide⟩⟩
    · exact ⟨h 8, h 9, h 10, h 11, ⟨by decide, by decide, by decide, by decide, by decide, by decide, by decide⟩⟩
    · exact ⟨h 12, h 13, h 14, h 15, ⟨by decide, by decide, by decide, by decide, by decide, by decide, by decide⟩⟩⟩⟩

theorem returns_any (w : World) : Calls Try.prog 42 #[] w fun e w' => e = .returned (.bool true) ∧ Below w.heap.size w w' := by
  have HR := run_ok (some ⟨w.heap.size, 0, none⟩) 4 4 factP factC factC_ok _ (fact_prog w) fact_check
  rw [fact_run] at HR
  unfold callV at HR
  simp only [factC] at HR
  go_enter Try.func42, Try.ntmps42
  go_wp2_with fail
  refine HR.mono ?_
  rintro e w1 ⟨rfl, hb1⟩
  replace hb1 := hide (below_next (box_below w _) hb1)
  go_wp2_with (go_at_call 11; refine (same_nil _ _).mono ?_; rintro e w' ⟨rfl, rfl⟩)
  go_ret
  exact ⟨rfl, hb1.out⟩

theorem strB_size (l : List Nat) : (strB l).size = l.length := by unfold strB; show (l.map UInt8.ofNat).toArray.size = _; simp
theorem sameTo_self (L : Nat → IN) (n : Nat) : sameTo L L n = true := by
  unfold sameTo
  rw [List.all_eq_true]
  intro j _
  simp [sameIns]

theorem bpfReads_any (s : ByteArray) (hm : s.size ≤ 9223372036854775807) (w : World) : Calls Try.prog 8 #[.string s] w fun e w' => e = .returned (.bool true) ∧ Below w.heap.size w w' := by
  by_cases hl : 2000 < s.size
  · have dl : decide ((2000 : Int) < (s.size : Int)) = true := by simp; omega
    go_enter Try.func8, Try.ntmps8
    go_wp2_with fail
    refine (returns_any _).mono ?_
    rintro e w1 ⟨rfl, hb1⟩
    go_wp2
    go_ret
    exact ⟨rfl, hb1⟩
  have dl : decide ((2000 : Int) < (s.size : Int)) = false := by simp; omega
  have HP := hide (fun w => parse_any s (by omega) w)
  by_cases hp : checkR (s.size / 8) (progOf s) = 0 ∧ strB (progB (progOf s) (s.size / 8)) = s
  · have h8 : s.size = 8 * (s.size / 8) := by
      have h := congrArg ByteArray.size hp.2
      rw [strB_size, progB_len] at h
      exact h.symm
    have HO := hide (fun w => rof_any s (s.size / 8) h8 (by omega) w)
    have HQ := hide hp
    obtain ⟨n, hn⟩ : ∃ n, n = s.size / 8 := ⟨_, rfl⟩
    rw [← hn] at HP HO HQ
    have hn2 : n ≤ 250 := by omega
    clear hn h8 hp
    go_enter Try.func8, Try.ntmps8
    go_wp2_with fail
    refine (returns_any _).mono ?_
    rintro e w1 ⟨rfl, hb1⟩
    replace hb1 := hide hb1
    go_wp2_with fail
    refine (HP.out _).mono ?_
    rintro e w2 ⟨hb2, h2 | h2⟩
    case inr => exact absurd HQ.out h2.1
    obtain ⟨_, _, g, rfl, hA⟩ := h2
    replace hA := hide hA
    replace hb2 := hide (below_next hb1.out hb2)
    clear hb1
    go_wp2_with fail
    refine (HO.out _).mono ?_
    rintro e w3 ⟨hb3, h3 | h3⟩
    case inr => exact absurd HQ.out h3.1
    obtain ⟨_, _, oa, cap, rfl, hB⟩ := h3
    have HS := sameProg_any (some ⟨g, 0, none⟩) oa n n cap (by omega) (progOf s) (progOf s) w3 (hA.out.on hb3) hB
    rw [sameTo_self] at HS
    replace hb3 := hide (below_next hb2.out hb3)
    clear hb2 hA hB HP HO HQ
    go_wp2_with (go_at_call 11; refine (same_nil _ _).mono ?_; rintro e w' ⟨rfl, rfl⟩)
    refine HS.mono ?_
    rintro e w4 ⟨rfl, k, rfl⟩
    go_wp2
    go_ret
    exact ⟨rfl, below_drewN' hb3.out k⟩
  · have HO := hide (show ∀ w, Calls Try.prog 53 #[.string s] w fun e w' => e = .returned (.tuple #[.slice none 0 0, .bool false]) ∧ Below w.heap.size w w' from fun w => by
      by_cases h8 : s.size % 8 = 0
      · refine (rof_any s (s.size / 8) (by omega) (by omega) w).mono ?_
        rintro e w' ⟨hb, h | h⟩
        · exact absurd ⟨h.1, h.2.1⟩ hp
        · exact ⟨h.2, hb⟩
      · exact rof_short s (.inr h8) hm w)
    have HQ := hide hp
    clear hp
    go_enter Try.func8, Try.ntmps8
    go_wp2_with fail
    refine (returns_any _).mono ?_
    rintro e w1 ⟨rfl, hb1⟩
    replace hb1 := hide hb1
    go_wp2_with fail
    refine (HP.out _).mono ?_
    rintro e w2 ⟨hb2, h2 | h2⟩
    case inl => exact absurd ⟨h2.1, h2.2.1⟩ HQ.out
    obtain ⟨_, rfl⟩ := h2
    replace hb2 := hide (below_next hb1.out hb2)
    clear hb1
    go_wp2_with fail
    refine (HO.out _).mono ?_
    rintro e w3 ⟨rfl, hb3⟩
    replace hb3 := hide (below_next hb2.out hb3)
    clear hb2
    go_wp2_with (go_at_call 11; refine (same_errno 4 4 _).mono ?_; rintro e w' ⟨rfl, rfl⟩)
    go_ret
    exact ⟨rfl, hb3.out⟩
end Go.Proofs.Ytlpcjonklfnejaa
