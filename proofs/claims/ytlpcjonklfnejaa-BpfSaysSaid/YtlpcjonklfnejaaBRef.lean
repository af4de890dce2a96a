/- The document's record, Word. -/
import Derived.Test.YtlpcjonklfnejaaBRun2
namespace Go.Proofs.Ytlpcjonklfnejaa
open Go.RowKit

/-- The record's cells, i arguments being written. -/
def recA (c : CL) : Nat → Array Value
  | 0 => #[.int .u32 c.nr, .int .u32 c.arch, .int .u32 0, .int .u32 0, .int .u32 0, .int .u32 0, .int .u32 0, .int .u32 0, .int .u32 0, .int .u32 0]
  | 1 => #[.int .u32 c.nr, .int .u32 c.arch, .int .u32 (wordN c 2), .int .u32 (wordN c 3), .int .u32 0, .int .u32 0, .int .u32 0, .int .u32 0, .int .u32 0, .int .u32 0]
  | 2 => #[.int .u32 c.nr, .int .u32 c.arch, .int .u32 (wordN c 2), .int .u32 (wordN c 3), .int .u32 (wordN c 4), .int .u32 (wordN c 5), .int .u32 0, .int .u32 0, .int .u32 0, .int .u32 0]
  | 3 => #[.int .u32 c.nr, .int .u32 c.arch, .int .u32 (wordN c 2), .int .u32 (wordN c 3), .int .u32 (wordN c 4), .int .u32 (wordN c 5), .int .u32 (wordN c 6), .int .u32 (wordN c 7), .int .u32 0, .int .u32 0]
  | _ => #[.int .u32 (wordN c 0), .int .u32 (wordN c 1), .int .u32 (wordN c 2), .int .u32 (wordN c 3), .int .u32 (wordN c 4), .int .u32 (wordN c 5), .int .u32 (wordN c 6), .int .u32 (wordN c 7), .int .u32 (wordN c 8), .int .u32 (wordN c 9)]
def recZ : Array Value := #[.int .u32 0, .int .u32 0, .int .u32 0, .int .u32 0, .int .u32 0, .int .u32 0, .int .u32 0, .int .u32 0, .int .u32 0, .int .u32 0]

theorem size_rec : (Try.prog.info? 125).map (·.size) = some 10 := by kernel_rfl
theorem heap_mid (w : World) (o1 o2 o3 : Obj) : (((w.alloc o1).alloc o2).alloc o3).heap[w.heap.size + 1]? = some o2 := by
  have h1 : (w.alloc o1).heap.size = w.heap.size + 1 := by simp
  have h := heap_alloc_new (w.alloc o1) o2
  rw [h1] at h
  exact (heap_alloc_old ((w.alloc o1).alloc o2) o3 (h := by simp)).trans h
set_option maxRecDepth 20000 in
theorem record_any (c : CL) (hc : ClOk c) (w : World) : Calls Try.prog 65 #[callV c] w fun e w' => e = .returned (.agg (recA c 4)) ∧ Below w.heap.size w w' := by
  obtain ⟨h1, h2, h3, h4, h5, h6⟩ := hc
  have q0 : ((wordN c 2 : Nat) : Int) = (c.a0 : Int) % 4294967296 := by simp only [wordN]; omega
  have q1 : ((wordN c 3 : Nat) : Int) = (c.a0 : Int) / 4294967296 := by simp only [wordN]; omega
  have q2 : ((wordN c 4 : Nat) : Int) = (c.a1 : Int) % 4294967296 := by simp only [wordN]; omega
  have q3 : ((wordN c 5 : Nat) : Int) = (c.a1 : Int) / 4294967296 := by simp only [wordN]; omega
  have q4 : ((wordN c 6 : Nat) : Int) = (c.a2 : Int) % 4294967296 := by simp only [wordN]; omega
  have q5 : ((wordN c 7 : Nat) : Int) = (c.a2 : Int) / 4294967296 := by simp only [wordN]; omega
  have q6 : ((wordN c 8 : Nat) : Int) = (c.a3 : Int) % 4294967296 := by simp only [wordN]; omega
  have q7 : ((wordN c 9 : Nat) : Int) = (c.a3 : Int) / 4294967296 := by simp only [wordN]; omega
  have HQ := hide (And.intro q0 (And.intro q1 (And.intro q2 (And.intro q3 (And.intro q4 (And.intro q5 (And.intro q6 q7)))))))
  clear q0 q1 q2 q3 q4 q5 q6 q7
  unfold callV
  go_enter Try.func65, Try.ntmps65
  go_wp2
  go_loopw [4] (fun I wr => ∃ i : Nat, i ≤ 4 ∧ I = .int .i64 i ∧ wr = ((w.alloc (.cells #[.int .u32 c.arch, .int .u32 c.nr, .int .u64 c.a0, .int .u64 c.a1, .int .u64 c.a2, .int .u64 c.a3] 46)).alloc (.cells recZ 125)).alloc (.cells (recA c i) 125)) (fun I _ => 4 - (intOf I).toNat)
  case atStart => exact ⟨0, by omega, rfl, rfl⟩
  case round =>
    obtain ⟨i, hi, rfl, rfl⟩ := hrel
    have hcase : i = 0 ∨ i = 1 ∨ i = 2 ∨ i = 3 ∨ i = 4 := by omega
    rcases hcase with rfl | rfl | rfl | rfl | rfl
    · simp only [recA, recZ]
      go_wp2
      go_round
      case rel => exact ⟨1, by omega, by go_num, by rw [HQ.out.1, HQ.out.2.1] <;> rfl⟩
      case measure => simp [intOf]
    · simp only [recA, recZ]
      go_wp2
      go_round
      case rel => exact ⟨2, by omega, by go_num, by rw [HQ.out.2.2.1, HQ.out.2.2.2.1] <;> rfl⟩
      case measure => simp [intOf]
    · simp only [recA, recZ]
      go_wp2
      go_round
      case rel => exact ⟨3, by omega, by go_num, by rw [HQ.out.2.2.2.2.1, HQ.out.2.2.2.2.2.1] <;> rfl⟩
      case measure => simp [intOf]
    · simp only [recA, recZ]
      go_wp2
      go_round
      case rel => exact ⟨4, by omega, by go_num, by rw [HQ.out.2.2.2.2.2.2.1, HQ.out.2.2.2.2.2.2.2] <;> rfl⟩
      case measure => simp [intOf]
    · simp only [recA, recZ]
      go_wp2
      refine bodyPost_ret (results_cell_row rfl _ _ (w.heap.size + 1) 125 (recA c 4) (0, 0) _ rfl ?_ Try.underlying125 rfl size_rec) rfl ⟨rfl, ?_⟩
      · exact heap_mid w _ _ _
      · exact below_next (below_next (box_below w _) (box_below _ _)) (box_below _ _)

theorem rec_get (c : CL) (i : Nat) (hi : i < 10) : (recA c 4)[i]? = some (.int .u32 (wordN c i)) := by
  match i, hi with
  | 0, _ => rfl
  | 1, _ => rfl
  | 2, _ => rfl
  | 3, _ => rfl
  | 4, _ => rfl
  | 5, _ => rfl
  | 6, _ => rfl
  | 7, _ => rfl
  | 8, _ => rfl
  | 9, _ => rfl

/-- The document's word: what it is, and the error's number. -/
def rwordV (c : CL) (k : Nat) : Value := .tuple #[.int .u32 (if placeB k then wordN c (k / 4) else 0), .int .i64 (if placeB k then 0 else 1)]
theorem rword_any (c : CL) (hc : ClOk c) (k : Nat) (hk : k < 4294967296) (w : World) : Calls Try.prog 44 #[callV c, .int .u32 k] w fun e w' => e = .returned (rwordV c k) ∧ Below w.heap.size w w' := by
  have HR := record_any c hc
  unfold callV at HR ⊢
  have HK := hide hk
  go_enter Try.func44, Try.ntmps44
  go_wp2_with fail
  refine (HR _).mono ?_
  rintro e w1 ⟨rfl, hb1⟩
  replace hb1 := hide (below_next (box_below w _) hb1)
  clear HR
  have HG := hide (fun i (hi : i < 10) => (cell_of_row (w1.alloc (.cells (recA c 4) 125)) w1.heap.size i _ _ _ (heap_alloc_new w1 _)).trans (rec_get c i hi))
  simp only [recA]
  go_wp2
  go_loopw [7] (fun I wr => ∃ i : Nat, i ≤ 10 ∧ I = .int .i64 i ∧ wr = w1.alloc (.cells (recA c 4) 125) ∧ Hid (∀ j, j < i → k ≠ 4 * j)) (fun I _ => 10 - (intOf I).toNat)
  case atStart => exact ⟨0, by omega, rfl, rfl, hide fun j hj => by omega⟩
  case round =>
    obtain ⟨i, hi, rfl, rfl, HN⟩ := hrel
    by_cases hlt : i < 10
    · by_cases he : k = 4 * i
      · have HP := hide (show placeB k = true by unfold placeB; simp; omega)
        have HD := hide (show k / 4 = i by omega)
        have c1 := HG.out i hlt
        have d1 : ((k : Int) == 4 * (i : Int)) = true := by rw [beq_iff_eq]; omega
        clear he
        go_wp2
        go_ret2
        refine ⟨?_, below_next hb1.out (box_below _ _)⟩
        unfold rwordV
        rw [HP.out, HD.out]
        rfl
      · have d1 : ((k : Int) == 4 * (i : Int)) = false := by rw [beq_eq_false_iff_ne]; omega
        have HN2 := hide (show ∀ j, j < i + 1 → k ≠ 4 * j from fun j hj => by
          by_cases h : j < i
          · exact HN.out j h
          · rw [show j = i by omega]; exact he)
        clear he
        go_wp2
        go_round
        case rel => exact ⟨i + 1, by omega, by go_num, trivial, HN2⟩
        case measure => simp [intOf]; omega
    · obtain rfl : i = 10 := by omega
      have HP := hide (show placeB k = false by
        cases hp : placeB k with
        | false => rfl
        | true =>
          rcases place_cases hp with h | h | h | h | h | h | h | h | h | h
          · exact absurd h (HN.out 0 (by omega))
          · exact absurd h (HN.out 1 (by omega))
          · exact absurd h (HN.out 2 (by omega))
          · exact absurd h (HN.out 3 (by omega))
          · exact absurd h (HN.out 4 (by omega))
          · exact absurd h (HN.out 5 (by omega))
          · exact absurd h (HN.out 6 (by omega))
          · exact absurd h (HN.out 7 (by omega))
          · exact absurd h (HN.out 8 (by omega))
          · exact absurd h (HN.out 9 (by omega)))
      go_wp2
      go_ret2
      refine ⟨?_, below_next hb1.out (box_below _ _)⟩
      unfold rwordV
      rw [HP.out]
      rfl
end Go.Proofs.Ytlpcjonklfnejaa
