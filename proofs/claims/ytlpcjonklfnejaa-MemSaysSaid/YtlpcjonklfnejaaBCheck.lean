/- checkInsn, Check. -/
import Derived.Test.YtlpcjonklfnejaaBIns
namespace Go.Proofs.Ytlpcjonklfnejaa
open Go.RowKit

/-- What is wrong with an instruction that has so many behind it: D2. -/
def faultI (x : IN) (behind : Nat) : Nat :=
  if decide (x.op < 1) || decide (8 < x.op) || !skipB x.jt || !skipB x.jf then 1
  else if !branchB x.op && (x.jt != 0 || x.jf != 0) then 3
  else if (x.op == 1 && !placeB x.k) || (x.op == 3 && decide (behind ≤ x.k)) || (branchB x.op && (decide ((behind : Int) ≤ x.jt) || decide ((behind : Int) ≤ x.jf))) then 1 else 0
/-- An error's number, as a value. -/
def errV (f : Nat) : Value := if f = 0 then .nilIface else .iface 98 (.int .i64 f)

theorem checkInsn_a (op jt jf : Int) (k : Nat) (m : Nat) (w : World) (h : op < 1 ∨ 8 < op ∨ skipB jt = false ∨ skipB jf = false) : Calls Try.prog 68 #[insV ⟨op, jt, jf, k⟩, .int .i64 m] w fun e w' => e = .returned (errV (faultI ⟨op, jt, jf, k⟩ m)) ∧ Below w.heap.size w w' := by
  have HF := hide (show faultI ⟨op, jt, jf, k⟩ m = 1 by
    unfold faultI
    rw [if_pos]
    rcases h with h | h | h | h <;> simp [h])
  unfold insV
  simp only
  by_cases d1 : op < 1
  · go_enter Try.func68, Try.ntmps68
    go_wp2
    go_ret
    exact ⟨by rw [HF.out]; rfl, box_below _ _⟩
  by_cases d2 : 8 < op
  · go_enter Try.func68, Try.ntmps68
    go_wp2
    go_ret
    exact ⟨by rw [HF.out]; rfl, box_below _ _⟩
  cases e1 : skipB jt with
  | false =>
    go_enter Try.func68, Try.ntmps68
    go_wp2_with (go_at_call 75; refine (isSkip_any _ _).mono ?_; rw [e1]; rintro e w' ⟨rfl, rfl⟩)
    go_ret
    exact ⟨by rw [HF.out]; rfl, box_below _ _⟩
  | true =>
    have e2 : skipB jf = false := by simp_all
    go_enter Try.func68, Try.ntmps68
    go_wp2_with (go_at_call 75; refine (isSkip_any _ _).mono ?_; (first | rw [e1] | rw [e2]); rintro e w' ⟨rfl, rfl⟩)
    go_ret
    exact ⟨by rw [HF.out]; rfl, box_below _ _⟩

theorem checkInsn_b (op jt jf : Int) (k : Nat) (m : Nat) (w : World) (d1 : ¬ op < 1) (d2 : ¬ 8 < op) (e1 : skipB jt = true) (e2 : skipB jf = true) (e3 : branchB op = false) (h : jt ≠ 0 ∨ jf ≠ 0) : Calls Try.prog 68 #[insV ⟨op, jt, jf, k⟩, .int .i64 m] w fun e w' => e = .returned (errV (faultI ⟨op, jt, jf, k⟩ m)) ∧ Below w.heap.size w w' := by
  have HF := hide (show faultI ⟨op, jt, jf, k⟩ m = 3 by
    unfold faultI
    rw [if_neg (by simp [d1, d2, e1, e2]), if_pos]
    rcases h with h | h <;> simp [h, e3])
  unfold insV
  simp only
  by_cases h0 : jt = 0
  · subst h0
    have h1 : jf ≠ 0 := by simpa using h
    go_enter Try.func68, Try.ntmps68
    go_wp2_with (first
      | (go_at_call 76; refine (isBranch_any _ _).mono ?_; rw [e3]; rintro e w' ⟨rfl, rfl⟩)
      | (go_at_call 75; refine (isSkip_any _ _).mono ?_; (first | rw [e1] | rw [e2]); rintro e w' ⟨rfl, rfl⟩))
    go_ret
    exact ⟨by rw [HF.out]; rfl, box_below _ _⟩
  · go_enter Try.func68, Try.ntmps68
    go_wp2_with (first
      | (go_at_call 76; refine (isBranch_any _ _).mono ?_; rw [e3]; rintro e w' ⟨rfl, rfl⟩)
      | (go_at_call 75; refine (isSkip_any _ _).mono ?_; (first | rw [e1] | rw [e2]); rintro e w' ⟨rfl, rfl⟩))
    go_ret
    exact ⟨by rw [HF.out]; rfl, box_below _ _⟩

theorem checkInsn_c (op : Int) (k : Nat) (hk : k < 4294967296) (m : Nat) (hm : m ≤ 4096) (w : World) (h : op = 1 ∨ op = 2 ∨ op = 3 ∨ op = 8) : Calls Try.prog 68 #[insV ⟨op, 0, 0, k⟩, .int .i64 m] w fun e w' => e = .returned (errV (faultI ⟨op, 0, 0, k⟩ m)) ∧ Below w.heap.size w w' := by
  have e1 : skipB 0 = true := rfl
  have e2 : skipB 0 = true := rfl
  unfold insV
  simp only
  rcases h with rfl | rfl | rfl | rfl
  · have e3 : branchB 1 = false := rfl
    cases e4 : placeB k
    · have HF := hide (show faultI ⟨1, 0, 0, k⟩ m = 1 by unfold faultI; rw [if_neg (by simp [e1]), if_neg (by simp [e3]), if_pos (by simp [e4])])
      go_enter Try.func68, Try.ntmps68
      go_wp2_with (first
        | (go_at_call 64; refine (isPlace_any _ hk _).mono ?_; rw [e4]; rintro e w' ⟨rfl, rfl⟩)
        | (go_at_call 76; refine (isBranch_any _ _).mono ?_; rw [e3]; rintro e w' ⟨rfl, rfl⟩)
        | (go_at_call 75; refine (isSkip_any _ _).mono ?_; (first | rw [e1] | rw [e2]); rintro e w' ⟨rfl, rfl⟩))
      go_ret
      exact ⟨by rw [HF.out]; rfl, box_below _ _⟩
    · have HF := hide (show faultI ⟨1, 0, 0, k⟩ m = 0 by unfold faultI; rw [if_neg (by simp [e1]), if_neg (by simp [e3]), if_neg (by simp [e4, e3])])
      go_enter Try.func68, Try.ntmps68
      go_wp2_with (first
        | (go_at_call 64; refine (isPlace_any _ hk _).mono ?_; rw [e4]; rintro e w' ⟨rfl, rfl⟩)
        | (go_at_call 76; refine (isBranch_any _ _).mono ?_; rw [e3]; rintro e w' ⟨rfl, rfl⟩)
        | (go_at_call 75; refine (isSkip_any _ _).mono ?_; (first | rw [e1] | rw [e2]); rintro e w' ⟨rfl, rfl⟩))
      go_ret
      exact ⟨by rw [HF.out]; rfl, box_below _ _⟩
  · have e3 : branchB 2 = false := rfl
    have e4 : placeB k = placeB k := rfl
    have HF := hide (show faultI ⟨2, 0, 0, k⟩ m = 0 by unfold faultI; rw [if_neg (by simp [e1]), if_neg (by simp [e3]), if_neg (by simp [e3])])
    go_enter Try.func68, Try.ntmps68
    go_wp2_with (first
      | (go_at_call 64; refine (isPlace_any _ hk _).mono ?_; rw [e4]; rintro e w' ⟨rfl, rfl⟩)
      | (go_at_call 76; refine (isBranch_any _ _).mono ?_; rw [e3]; rintro e w' ⟨rfl, rfl⟩)
      | (go_at_call 75; refine (isSkip_any _ _).mono ?_; (first | rw [e1] | rw [e2]); rintro e w' ⟨rfl, rfl⟩))
    go_ret
    exact ⟨by rw [HF.out]; rfl, box_below _ _⟩
  · have e3 : branchB 3 = false := rfl
    have e4 : placeB k = placeB k := rfl
    by_cases h4 : m ≤ k
    · have HF := hide (show faultI ⟨3, 0, 0, k⟩ m = 1 by unfold faultI; rw [if_neg (by simp [e1]), if_neg (by simp [e3]), if_pos (by simp [h4])])
      go_enter Try.func68, Try.ntmps68
      go_wp2_with (first
        | (go_at_call 64; refine (isPlace_any _ hk _).mono ?_; rw [e4]; rintro e w' ⟨rfl, rfl⟩)
        | (go_at_call 76; refine (isBranch_any _ _).mono ?_; rw [e3]; rintro e w' ⟨rfl, rfl⟩)
        | (go_at_call 75; refine (isSkip_any _ _).mono ?_; (first | rw [e1] | rw [e2]); rintro e w' ⟨rfl, rfl⟩))
      go_ret
      exact ⟨by rw [HF.out]; rfl, box_below _ _⟩
    · have HF := hide (show faultI ⟨3, 0, 0, k⟩ m = 0 by unfold faultI; rw [if_neg (by simp [e1]), if_neg (by simp [e3]), if_neg (by simp [h4, e3])])
      go_enter Try.func68, Try.ntmps68
      go_wp2_with (first
        | (go_at_call 64; refine (isPlace_any _ hk _).mono ?_; rw [e4]; rintro e w' ⟨rfl, rfl⟩)
        | (go_at_call 76; refine (isBranch_any _ _).mono ?_; rw [e3]; rintro e w' ⟨rfl, rfl⟩)
        | (go_at_call 75; refine (isSkip_any _ _).mono ?_; (first | rw [e1] | rw [e2]); rintro e w' ⟨rfl, rfl⟩))
      go_ret
      exact ⟨by rw [HF.out]; rfl, box_below _ _⟩
  · have e3 : branchB 8 = false := rfl
    have e4 : placeB k = placeB k := rfl
    have HF := hide (show faultI ⟨8, 0, 0, k⟩ m = 0 by unfold faultI; rw [if_neg (by simp [e1]), if_neg (by simp [e3]), if_neg (by simp [e3])])
    go_enter Try.func68, Try.ntmps68
    go_wp2_with (first
      | (go_at_call 64; refine (isPlace_any _ hk _).mono ?_; rw [e4]; rintro e w' ⟨rfl, rfl⟩)
      | (go_at_call 76; refine (isBranch_any _ _).mono ?_; rw [e3]; rintro e w' ⟨rfl, rfl⟩)
      | (go_at_call 75; refine (isSkip_any _ _).mono ?_; (first | rw [e1] | rw [e2]); rintro e w' ⟨rfl, rfl⟩))
    go_ret
    exact ⟨by rw [HF.out]; rfl, box_below _ _⟩

theorem checkInsn_d (op jt jf : Int) (k : Nat) (m : Nat) (w : World) (h4 : 4 ≤ op) (h7 : op ≤ 7) (e1 : skipB jt = true) (e2 : skipB jf = true) : Calls Try.prog 68 #[insV ⟨op, jt, jf, k⟩, .int .i64 m] w fun e w' => e = .returned (errV (faultI ⟨op, jt, jf, k⟩ m)) ∧ Below w.heap.size w w' := by
  have e3 : branchB op = true := by unfold branchB; simp [h4, h7]
  have d1 : (op == 1) = false := by rw [beq_eq_false_iff_ne]; omega
  have d3 : (op == 3) = false := by rw [beq_eq_false_iff_ne]; omega
  have f1 : ¬ op < 1 := by omega
  have f2 : ¬ 8 < op := by omega
  have HG := hide (show faultI ⟨op, jt, jf, k⟩ m = if decide ((m : Int) ≤ jt) || decide ((m : Int) ≤ jf) then 1 else 0 by
    unfold faultI
    rw [if_neg (by simp [f1, f2, e1, e2]), if_neg (by simp [e3])]
    simp only [d1, d3, e3, Bool.false_and, Bool.true_and, Bool.false_or])
  clear h4 h7
  unfold insV
  simp only
  by_cases c1 : (m : Int) ≤ jt
  · have HF := hide (show faultI ⟨op, jt, jf, k⟩ m = 1 by rw [HG.out, if_pos (by simp [c1])])
    go_enter Try.func68, Try.ntmps68
    go_wp2_with (first
      | (go_at_call 76; refine (isBranch_any _ _).mono ?_; rw [e3]; rintro e w' ⟨rfl, rfl⟩)
      | (go_at_call 75; refine (isSkip_any _ _).mono ?_; (first | rw [e1] | rw [e2]); rintro e w' ⟨rfl, rfl⟩))
    go_ret
    exact ⟨by rw [HF.out]; rfl, box_below _ _⟩
  by_cases c2 : (m : Int) ≤ jf
  · have HF := hide (show faultI ⟨op, jt, jf, k⟩ m = 1 by rw [HG.out, if_pos (by simp [c2])])
    go_enter Try.func68, Try.ntmps68
    go_wp2_with (first
      | (go_at_call 76; refine (isBranch_any _ _).mono ?_; rw [e3]; rintro e w' ⟨rfl, rfl⟩)
      | (go_at_call 75; refine (isSkip_any _ _).mono ?_; (first | rw [e1] | rw [e2]); rintro e w' ⟨rfl, rfl⟩))
    go_ret
    exact ⟨by rw [HF.out]; rfl, box_below _ _⟩
  · have HF := hide (show faultI ⟨op, jt, jf, k⟩ m = 0 by rw [HG.out, if_neg (by simp [c1, c2])])
    go_enter Try.func68, Try.ntmps68
    go_wp2_with (first
      | (go_at_call 76; refine (isBranch_any _ _).mono ?_; rw [e3]; rintro e w' ⟨rfl, rfl⟩)
      | (go_at_call 75; refine (isSkip_any _ _).mono ?_; (first | rw [e1] | rw [e2]); rintro e w' ⟨rfl, rfl⟩))
    go_ret
    exact ⟨by rw [HF.out]; rfl, box_below _ _⟩

theorem checkInsn_any (x : IN) (hx : InOk x) (m : Nat) (hm : m ≤ 4096) (w : World) : Calls Try.prog 68 #[insV x, .int .i64 m] w fun e w' => e = .returned (errV (faultI x m)) ∧ Below w.heap.size w w' := by
  obtain ⟨op, jt, jf, k⟩ := x
  have hk : k < 4294967296 := hx.k2
  by_cases h : op < 1 ∨ 8 < op ∨ skipB jt = false ∨ skipB jf = false
  · exact checkInsn_a op jt jf k m w h
  rw [not_or, not_or, not_or, Bool.not_eq_false, Bool.not_eq_false] at h
  obtain ⟨d1, d2, e1, e2⟩ := h
  cases e3 : branchB op with
  | true =>
    have e5 := e3
    unfold branchB at e5
    rw [Bool.and_eq_true, decide_eq_true_eq, decide_eq_true_eq] at e5
    exact checkInsn_d op jt jf k m w e5.1 e5.2 e1 e2
  | false =>
    by_cases h0 : jt ≠ 0 ∨ jf ≠ 0
    · exact checkInsn_b op jt jf k m w d1 d2 e1 e2 e3 h0
    · obtain ⟨rfl, rfl⟩ : jt = 0 ∧ jf = 0 := by omega
      unfold branchB at e3
      rw [Bool.and_eq_false_iff, decide_eq_false_iff_not, decide_eq_false_iff_not] at e3
      exact checkInsn_c op k hk m hm w (by omega)
end Go.Proofs.Ytlpcjonklfnejaa
