/- A net's check: the code's and the document's. -/
import Derived.Test.YtkeljbekbgabpaaDoorABits
namespace Go.Proofs.YtkeljbekbgabpaaDoor
open Go.RowKit

/-- A net, as a value. -/
abbrev netV (ip : Nat) (b lo hi : Int) : Value := .agg #[.int .u32 ip, .int .i64 b, .int .i64 lo, .int .i64 hi]
/-- What is wrong with a net: 0: nothing. -/
def faultOf (ip : Nat) (b lo hi : Int) : Nat := if b < 0 ∨ 32 < b ∨ lo < 0 ∨ 65535 < hi ∨ hi < lo then 1 else if ip % restN b.toNat = 0 then 0 else 3
def errV (n : Nat) : Value := if n = 0 then .nilIface else .iface 23 (.int .i64 n)

theorem acheck_any (ip : Nat) (hip : ip < 4294967296) (b lo hi : Int) (hb : -9223372036854775808 ≤ b ∧ b ≤ 9223372036854775807) (hl : -9223372036854775808 ≤ lo ∧ lo ≤ 9223372036854775807) (hh : -9223372036854775808 ≤ hi ∧ hi ≤ 9223372036854775807) (w : World) :
    Calls Tryd.prog 14 #[netV ip b lo hi] w fun e w' => e = .returned (errV (faultOf ip b lo hi)) ∧ Below w.heap.size w w' := by
  by_cases c0 : b < 0
  · have HF := hide (show errV (faultOf ip b lo hi) = .iface 23 (.int .i64 1) by unfold faultOf; rw [if_pos (by omega)]; rfl)
    have d0 : decide (b < 0) = true := decide_eq_true c0
    go_enter Tryd.func14, Tryd.ntmps14
    go_wp2
    go_ret
    refine ⟨by rw [HF.out]; rfl, ?_⟩
    first | exact (Below.refl _ _).alloc (Nat.le_refl _) _ | exact below_drewN' ((Below.refl _ _).alloc (Nat.le_refl _) _) _
  · have d0 : decide (b < 0) = false := decide_eq_false c0
    by_cases c1 : 32 < b
    · have HF := hide (show errV (faultOf ip b lo hi) = .iface 23 (.int .i64 1) by unfold faultOf; rw [if_pos (by omega)]; rfl)
      have d1 : decide ((32 : Int) < b) = true := decide_eq_true c1
      go_enter Tryd.func14, Tryd.ntmps14
      go_wp2
      go_ret
      refine ⟨by rw [HF.out]; rfl, ?_⟩
      first | exact (Below.refl _ _).alloc (Nat.le_refl _) _ | exact below_drewN' ((Below.refl _ _).alloc (Nat.le_refl _) _) _
    · have d1 : decide ((32 : Int) < b) = false := decide_eq_false c1
      by_cases c2 : lo < 0
      · have HF := hide (show errV (faultOf ip b lo hi) = .iface 23 (.int .i64 1) by unfold faultOf; rw [if_pos (by omega)]; rfl)
        have d2 : decide (lo < 0) = true := decide_eq_true c2
        go_enter Tryd.func14, Tryd.ntmps14
        go_wp2
        go_ret
        refine ⟨by rw [HF.out]; rfl, ?_⟩
        first | exact (Below.refl _ _).alloc (Nat.le_refl _) _ | exact below_drewN' ((Below.refl _ _).alloc (Nat.le_refl _) _) _
      · have d2 : decide (lo < 0) = false := decide_eq_false c2
        by_cases c3 : 65535 < hi
        · have HF := hide (show errV (faultOf ip b lo hi) = .iface 23 (.int .i64 1) by unfold faultOf; rw [if_pos (by omega)]; rfl)
          have d3 : decide ((65535 : Int) < hi) = true := decide_eq_true c3
          go_enter Tryd.func14, Tryd.ntmps14
          go_wp2
          go_ret
          refine ⟨by rw [HF.out]; rfl, ?_⟩
          first | exact (Below.refl _ _).alloc (Nat.le_refl _) _ | exact below_drewN' ((Below.refl _ _).alloc (Nat.le_refl _) _) _
        · have d3 : decide ((65535 : Int) < hi) = false := decide_eq_false c3
          by_cases c4 : hi < lo
          · have HF := hide (show errV (faultOf ip b lo hi) = .iface 23 (.int .i64 1) by unfold faultOf; rw [if_pos (by omega)]; rfl)
            have d4 : decide (hi < lo) = true := decide_eq_true c4
            go_enter Tryd.func14, Tryd.ntmps14
            go_wp2
            go_ret
            refine ⟨by rw [HF.out]; rfl, ?_⟩
            first | exact (Below.refl _ _).alloc (Nat.le_refl _) _ | exact below_drewN' ((Below.refl _ _).alloc (Nat.le_refl _) _) _
          · have d4 : decide (hi < lo) = false := decide_eq_false c4
            obtain ⟨k, rfl⟩ : ∃ k : Nat, b = k := ⟨b.toNat, by omega⟩
            have hk : k ≤ 32 := by omega
            have er : bits .andNot .u32 (ip : Int) (maskN k : Int) = ((ip % restN k : Nat) : Int) := by rw [u32_andNot_nat _ _ hip (maskN_lt k), and_rest]
            by_cases cr : ip % restN k = 0
            · have HF := hide (show errV (faultOf ip (k : Int) lo hi) = .nilIface by unfold faultOf; rw [if_neg (by omega), Int.toNat_natCast, if_pos cr]; rfl)
              have bn : (((ip % restN k : Nat) : Int) == 0) = true := by rw [beq_iff_eq]; omega
              clear cr
              go_enter Tryd.func14, Tryd.ntmps14
              go_wp2
              go_quiet ((go_at_call 27; first | exact Calls.quiet_of_same (mask_any k hk _) | exact quiet_same (mask_any k hk _)))
              go_wp2
              go_ret
              refine ⟨by rw [HF.out]; rfl, ?_⟩
              first | exact (Below.refl _ _).alloc (Nat.le_refl _) _ | exact below_drewN' ((Below.refl _ _).alloc (Nat.le_refl _) _) _
            · have HF := hide (show errV (faultOf ip (k : Int) lo hi) = .iface 23 (.int .i64 3) by unfold faultOf; rw [if_neg (by omega), Int.toNat_natCast, if_neg cr]; rfl)
              have bn : (((ip % restN k : Nat) : Int) == 0) = false := by rw [beq_eq_false_iff_ne]; omega
              clear cr
              go_enter Tryd.func14, Tryd.ntmps14
              go_wp2
              go_quiet ((go_at_call 27; first | exact Calls.quiet_of_same (mask_any k hk _) | exact quiet_same (mask_any k hk _)))
              go_wp2
              go_ret
              refine ⟨by rw [HF.out]; rfl, ?_⟩
              first | exact (Below.refl _ _).alloc (Nat.le_refl _) _ | exact below_drewN' ((Below.refl _ _).alloc (Nat.le_refl _) _) _
end Go.Proofs.YtkeljbekbgabpaaDoor
