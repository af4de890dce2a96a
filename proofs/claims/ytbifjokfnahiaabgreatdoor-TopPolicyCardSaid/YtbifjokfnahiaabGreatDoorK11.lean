/- The document's fault of a net. -/
import Derived.Test.YtbifjokfnahiaabGreatDoorK2
import Derived.Lib.QuietBelow
namespace Go.Proofs.YtbifjokfnahiaabGreatDoor
open Go.RowKit

theorem restN_succ (k : Nat) (hk : k < 32) : restN k = restN (k + 1) * 2 := by
  unfold restN
  rw [show 32 - k = (32 - (k + 1)) + 1 by omega, Nat.pow_succ]
theorem restN_bit (k : Nat) : 2 ^ (31 - k) = restN (k + 1) := by unfold restN; rw [show 31 - k = 32 - (k + 1) by omega]
theorem rest_step (ip k : Nat) (hk : k < 32) : ip % restN k = ip % restN (k + 1) + restN (k + 1) * (ip / 2 ^ (31 - k) % 2) := by
  rw [restN_succ k hk, Nat.mod_mul, restN_bit]
theorem quot_step (ip k : Nat) (hk : k < 32) : ip / restN (k + 1) = 2 * (ip / restN k) + ip / 2 ^ (31 - k) % 2 := by
  rw [restN_succ k hk, restN_bit, ← Nat.div_div_eq_div_mul]
  omega
theorem quot_down (x y : Nat) : ∀ j k, k + j ≤ 32 → x / restN (k + j) = y / restN (k + j) → x / restN k = y / restN k
  | 0, _, _, h => h
  | j + 1, k, hk, h => by
    have h' : x / restN (k + 1) = y / restN (k + 1) := quot_down x y j (k + 1) (by omega) (by rw [show k + 1 + j = k + (j + 1) by omega]; exact h)
    rw [quot_step x k (by omega), quot_step y k (by omega)] at h'
    omega

end Go.Proofs.YtbifjokfnahiaabGreatDoor

/- What a net has: the code's and the document's. -/
namespace Go.Proofs.YtbifjokfnahiaabGreatDoor
open Go.RowKit

def hasOf (ip : Nat) (b lo hi : Int) (x : Nat) (port : Int) : Bool := decide (faultOf ip b lo hi = 0) && (decide (x / restN b.toNat = ip / restN b.toNat) && (decide (lo ≤ port) && decide (port ≤ hi)))

/-- The cells of a net that was boxed, behind what left all older blocks. -/
theorem box_cells {w W : World} {ip : Nat} {b lo hi : Int} (hW : Below (w.heap.size + 1) (w.alloc (.cells #[.int .u32 ip, .int .i64 b, .int .i64 lo, .int .i64 hi] 58)) W) :
    W.cell? ⟨w.heap.size, 0, none⟩ = some (.int .u32 ip) ∧ W.cell? ⟨w.heap.size, 1, none⟩ = some (.int .i64 b) ∧ W.cell? ⟨w.heap.size, 2, none⟩ = some (.int .i64 lo) ∧ W.cell? ⟨w.heap.size, 3, none⟩ = some (.int .i64 hi) := by
  have hc : ∀ o, W.cell? ⟨w.heap.size, o, none⟩ = (#[.int .u32 ip, .int .i64 b, .int .i64 lo, .int .i64 hi] : Array Value)[o]? := fun o => by
    rw [hW.cell (p := ⟨w.heap.size, o, none⟩) (Nat.lt_succ_self _)]
    exact World.cell?_alloc_at _ _ _ _ rfl
  exact ⟨hc 0, hc 1, hc 2, hc 3⟩

end Go.Proofs.YtbifjokfnahiaabGreatDoor

/- What a net has: addr.Has. -/
namespace Go.Proofs.YtbifjokfnahiaabGreatDoor
open Go.RowKit Go.Sort

/-- The world with a net boxed, and what is called in worlds that grew out of it. -/
theorem boxed (w : World) (ip : Nat) (b lo hi : Int) : ∃ V, V = w.alloc (.cells #[.int .u32 ip, .int .i64 b, .int .i64 lo, .int .i64 hi] 58) ∧ Below w.heap.size w V ∧
    V.cell? ⟨w.heap.size, 0, none⟩ = some (.int .u32 ip) ∧ V.cell? ⟨w.heap.size, 1, none⟩ = some (.int .i64 b) ∧ V.cell? ⟨w.heap.size, 2, none⟩ = some (.int .i64 lo) ∧ V.cell? ⟨w.heap.size, 3, none⟩ = some (.int .i64 hi) :=
  ⟨_, rfl, (Below.refl _ _).alloc (Nat.le_refl _) _, box_cells (Below.refl _ _)⟩
theorem regrown_same {P : Program} {f : FuncId} {args : Array Value} {V : World} {d : Nat} {os : Array Obj} {v : Value}
    (h : Calls P f args (grow (redrawn V d) os) fun e w' => e = .returned v ∧ w' = grow (redrawn V d) os) : Calls P f args (grow (redrawn V d) os) fun e w'' => e = .returned v ∧ ∃ p : Regrown, w'' = grow (redrawn V p.d) p.os :=
  h.mono fun _ _ ⟨he, hw⟩ => ⟨he, ⟨d, os⟩, hw⟩

theorem has_bad (ip : Nat) (hip : ip < 4294967296) (b lo hi : Int) (hb : -9223372036854775808 ≤ b ∧ b ≤ 9223372036854775807) (hl : -9223372036854775808 ≤ lo ∧ lo ≤ 9223372036854775807) (hh : -9223372036854775808 ≤ hi ∧ hi ≤ 9223372036854775807)
    (x : Nat) (port n : Int) (HE : Hid (errV (faultOf ip b lo hi) = .iface 61 (.int .i64 n))) (w : World) :
    Calls Tryz.prog 32 #[netV ip b lo hi, .int .u32 x, .int .i64 port] w fun e w' => e = .returned (.bool false) ∧ Below w.heap.size w w' := by
  go_enter Tryz.func32, Tryz.ntmps32
  go_wp2
  obtain ⟨V, hV, hB, h0, h1, h2, h3⟩ := boxed w ip b lo hi
  rw [← hV]
  clear hV
  have HB := hide hB
  clear hB
  have g0 := cell_regrown h0
  have g1 := cell_regrown h1
  have g2 := cell_regrown h2
  have g3 := cell_regrown h3
  have cC : ∀ d os, Calls Tryz.prog 35 #[.agg #[.int .u32 ip, .int .i64 b, .int .i64 lo, .int .i64 hi]] (grow (redrawn V d) os) fun e w'' => e = .returned (.iface 61 (.int .i64 n)) ∧ ∃ p : Regrown, w'' = grow (redrawn V p.d) p.os := fun d os => Calls.regrown_of ((acheck_any ip hip b lo hi hb hl hh _).mono fun e w' h => by rw [HE.out] at h; exact h)
  refine wp_region_quiet_below (by kernel_rfl) (by kernel_rfl) ?_
  repeat (go_big_quiet_step ((go_at_call 35; exact cC _ _)))
  refine wpQuiet_nil ?_
  intro _ hw'
  obtain ⟨⟨dq, osq⟩, hw''⟩ := hw'
  subst hw''
  go_wp2
  go_ret
  exact ⟨rfl, HB.out.trans ((below_regrown V dq osq).mono HB.out.size)⟩

set_option maxHeartbeats 1000000 in
theorem has_any (ip : Nat) (hip : ip < 4294967296) (b lo hi : Int) (hb : -9223372036854775808 ≤ b ∧ b ≤ 9223372036854775807) (hl : -9223372036854775808 ≤ lo ∧ lo ≤ 9223372036854775807) (hh : -9223372036854775808 ≤ hi ∧ hi ≤ 9223372036854775807)
    (x : Nat) (hx : x < 4294967296) (port : Int) (w : World) :
    Calls Tryz.prog 32 #[netV ip b lo hi, .int .u32 x, .int .i64 port] w fun e w' => e = .returned (.bool (hasOf ip b lo hi x port)) ∧ Below w.heap.size w w' := by
  by_cases hf : faultOf ip b lo hi = 0
  · obtain ⟨⟨hb0, hb32⟩, _, hr⟩ := fault_ok hf
    obtain ⟨k0, rfl⟩ : ∃ k : Nat, b = k := ⟨b.toNat, by omega⟩
    have hk0 : k0 ≤ 32 := by omega
    rw [Int.toNat_natCast] at hr
    have HV := hide (show hasOf ip (k0 : Int) lo hi x port = (decide (x / restN k0 = ip / restN k0) && (decide (lo ≤ port) && decide (port ≤ hi))) by unfold hasOf; rw [decide_eq_true hf, Bool.true_and, Int.toNat_natCast])
    have HF := hide (show errV (faultOf ip (k0 : Int) lo hi) = .nilIface by rw [hf]; rfl)
    have er : bits .and .u32 (x : Int) (maskN k0 : Int) = ((x / restN k0 * restN k0 : Nat) : Int) := by rw [u32_and_nat _ _ hx (maskN_lt k0), and_mask x k0 hx hk0]
    have hq : (x / restN k0 * restN k0 = ip) ↔ (x / restN k0 = ip / restN k0) := by
      have h1 := Nat.div_add_mod ip (restN k0)
      rw [hr, Nat.add_zero, Nat.mul_comm] at h1
      constructor
      · intro h
        rw [← h1] at h
        exact Nat.eq_of_mul_eq_mul_right (restN_pos k0) h
      · intro h
        rw [h, h1]
    have HQ := hide (show (((x / restN k0 * restN k0 : Nat) : Int) == (ip : Int)) = decide (x / restN k0 = ip / restN k0) by rw [Bool.eq_iff_iff]; simp only [beq_iff_eq, decide_eq_true_eq]; rw [← hq]; omega)
    obtain ⟨q, hqq⟩ : ∃ q, q = x / restN k0 * restN k0 := ⟨_, rfl⟩
    rw [← hqq] at er HQ
    clear hf hr hq hqq
    cases hd : decide (x / restN k0 = ip / restN k0) with
    | false =>
      rw [hd] at HQ HV
      have bq := HQ.out
      go_enter Tryz.func32, Tryz.ntmps32
      go_wp2
      obtain ⟨V, hV, hB, h0, h1, h2, h3⟩ := boxed w ip k0 lo hi
      rw [← hV]
      clear hV
      have HB := hide hB
      clear hB
      have g0 := cell_regrown h0
      have g1 := cell_regrown h1
      have g2 := cell_regrown h2
      have g3 := cell_regrown h3
      have cC : ∀ d os, Calls Tryz.prog 35 #[.agg #[.int .u32 ip, .int .i64 k0, .int .i64 lo, .int .i64 hi]] (grow (redrawn V d) os) fun e w'' => e = .returned .nilIface ∧ ∃ p : Regrown, w'' = grow (redrawn V p.d) p.os := fun d os => Calls.regrown_of ((acheck_any ip hip k0 lo hi hb hl hh _).mono fun e w' h => by rw [HF.out] at h; exact h)
      have cM : ∀ d os, Calls Tryz.prog 46 #[.int .i64 k0] (grow (redrawn V d) os) fun e w'' => e = .returned (.int .u32 (maskN k0)) ∧ ∃ p : Regrown, w'' = grow (redrawn V p.d) p.os := fun d os => regrown_same (mask_any k0 hk0 _)
      refine wp_region_quiet_below (by kernel_rfl) (by kernel_rfl) ?_
      repeat (go_big_quiet_step (first | (go_at_call 35; exact cC _ _) | (go_at_call 46; exact cM _ _)))
      refine wpQuiet_nil ?_
      intro _ hw'
      obtain ⟨⟨dq, osq⟩, hw''⟩ := hw'
      subst hw''
      go_wp2
      go_ret
      exact ⟨by rw [HV.out]; rfl, HB.out.trans ((below_regrown V dq osq).mono HB.out.size)⟩
    | true =>
      rw [hd, Bool.true_and] at HV
      rw [hd] at HQ
      have bq := HQ.out
      by_cases c1 : lo ≤ port
      · have d1 : decide (lo ≤ port) = true := decide_eq_true c1
        rw [d1, Bool.true_and] at HV
        go_enter Tryz.func32, Tryz.ntmps32
        go_wp2
        obtain ⟨V, hV, hB, h0, h1, h2, h3⟩ := boxed w ip k0 lo hi
        rw [← hV]
        clear hV
        have HB := hide hB
        clear hB
        have g0 := cell_regrown h0
        have g1 := cell_regrown h1
        have g2 := cell_regrown h2
        have g3 := cell_regrown h3
        have cC : ∀ d os, Calls Tryz.prog 35 #[.agg #[.int .u32 ip, .int .i64 k0, .int .i64 lo, .int .i64 hi]] (grow (redrawn V d) os) fun e w'' => e = .returned .nilIface ∧ ∃ p : Regrown, w'' = grow (redrawn V p.d) p.os := fun d os => Calls.regrown_of ((acheck_any ip hip k0 lo hi hb hl hh _).mono fun e w' h => by rw [HF.out] at h; exact h)
        have cM : ∀ d os, Calls Tryz.prog 46 #[.int .i64 k0] (grow (redrawn V d) os) fun e w'' => e = .returned (.int .u32 (maskN k0)) ∧ ∃ p : Regrown, w'' = grow (redrawn V p.d) p.os := fun d os => regrown_same (mask_any k0 hk0 _)
        refine wp_region_quiet_below (by kernel_rfl) (by kernel_rfl) ?_
        repeat (go_big_quiet_step (first | (go_at_call 35; exact cC _ _) | (go_at_call 46; exact cM _ _)))
        refine wpQuiet_nil ?_
        intro _ hw'
        obtain ⟨⟨dq, osq⟩, hw''⟩ := hw'
        subst hw''
        go_wp2
        go_ret
        exact ⟨by rw [HV.out]; rfl, HB.out.trans ((below_regrown V dq osq).mono HB.out.size)⟩
      · have d1 : decide (lo ≤ port) = false := decide_eq_false c1
        rw [d1, Bool.false_and] at HV
        go_enter Tryz.func32, Tryz.ntmps32
        go_wp2
        obtain ⟨V, hV, hB, h0, h1, h2, h3⟩ := boxed w ip k0 lo hi
        rw [← hV]
        clear hV
        have HB := hide hB
        clear hB
        have g0 := cell_regrown h0
        have g1 := cell_regrown h1
        have g2 := cell_regrown h2
        have g3 := cell_regrown h3
        have cC : ∀ d os, Calls Tryz.prog 35 #[.agg #[.int .u32 ip, .int .i64 k0, .int .i64 lo, .int .i64 hi]] (grow (redrawn V d) os) fun e w'' => e = .returned .nilIface ∧ ∃ p : Regrown, w'' = grow (redrawn V p.d) p.os := fun d os => Calls.regrown_of ((acheck_any ip hip k0 lo hi hb hl hh _).mono fun e w' h => by rw [HF.out] at h; exact h)
        have cM : ∀ d os, Calls Tryz.prog 46 #[.int .i64 k0] (grow (redrawn V d) os) fun e w'' => e = .returned (.int .u32 (maskN k0)) ∧ ∃ p : Regrown, w'' = grow (redrawn V p.d) p.os := fun d os => regrown_same (mask_any k0 hk0 _)
        refine wp_region_quiet_below (by kernel_rfl) (by kernel_rfl) ?_
        repeat (go_big_quiet_step (first | (go_at_call 35; exact cC _ _) | (go_at_call 46; exact cM _ _)))
        refine wpQuiet_nil ?_
        intro _ hw'
        obtain ⟨⟨dq, osq⟩, hw''⟩ := hw'
        subst hw''
        go_wp2
        go_ret
        exact ⟨by rw [HV.out]; rfl, HB.out.trans ((below_regrown V dq osq).mono HB.out.size)⟩
  · obtain ⟨n, hn⟩ : ∃ n : Int, n = (faultOf ip b lo hi : Nat) := ⟨_, rfl⟩
    have HE := hide (show errV (faultOf ip b lo hi) = .iface 61 (.int .i64 n) by unfold errV; rw [if_neg hf, hn])
    rw [show hasOf ip b lo hi x port = false by unfold hasOf; rw [decide_eq_false hf, Bool.false_and]]
    exact has_bad ip hip b lo hi hb hl hh x port n HE w
end Go.Proofs.YtbifjokfnahiaabGreatDoor
