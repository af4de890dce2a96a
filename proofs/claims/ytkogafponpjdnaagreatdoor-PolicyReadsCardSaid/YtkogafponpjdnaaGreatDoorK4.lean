/- The document's fault of a net. -/
import Derived.Test.YtkogafponpjdnaaGreatDoorK1
import Derived.Lib.QuietBelow
import Derived.Test.YtkogafponpjdnaaGreatDoorK3
import Derived.Deep.RegionHeld3
import Derived.Deep.RegionWith
import Derived.Laws.Slices
import Derived.Lib.Strings
import Derived.Laws.BitsAllLaws
import Derived.Laws.ResultCell
import Derived.Laws.CopyOwn
namespace Go.Proofs.YtkogafponpjdnaaGreatDoor
open Go.RowKit

theorem restN_succ (k : Nat) (hk : k < 32) : restN k = restN (k + 1) * 2 := by
  unfold restN
  rw [show 32 - k = (32 - (k + 1)) + 1 by omega, Nat.pow_succ]
theorem restN_bit (k : Nat) : 2 ^ (31 - k) = restN (k + 1) := by unfold restN; rw [show 31 - k = 32 - (k + 1) by omega]
theorem rest_step (ip k : Nat) (hk : k < 32) : ip % restN k = ip % restN (k + 1) + restN (k + 1) * (ip / 2 ^ (31 - k) % 2) := by
  rw [restN_succ k hk, Nat.mod_mul, restN_bit]
theorem quot_step (ip k : Nat) (hk : k < 32) : ip / restN (k + 1) = 2 * (ip / restN k) + ip / 2 ^ (31 - k) % 2 := by
  rw [restN_succ k hk, restN_bit, ← Nat.div_div_eq_div_mul]
  omega
theorem quot_down (x y : Nat) : ∀ j k, k + j ≤ 32 → x / restN (k + j) = y / restN (k + j) → x / restN k = y / restN k
  | 0, _, _, h => h
  | j + 1, k, hk, h => by
    have h' : x / restN (k + 1) = y / restN (k + 1) := quot_down x y j (k + 1) (by omega) (by rw [show k + 1 + j = k + (j + 1) by omega]; exact h)
    rw [quot_step x k (by omega), quot_step y k (by omega)] at h'
    omega

theorem netFault_any (ip : Nat) (hip : ip < 4294967296) (b lo hi : Int) (hb : -9223372036854775808 ≤ b ∧ b ≤ 9223372036854775807) (hl : -9223372036854775808 ≤ lo ∧ lo ≤ 9223372036854775807) (hh : -9223372036854775808 ≤ hi ∧ hi ≤ 9223372036854775807) (w : World) :
    Calls Tryz.prog 41 #[netV ip b lo hi] w fun e w' => e = .returned (.int .i64 (faultOf ip b lo hi)) ∧ Below w.heap.size w w' := by
  by_cases c0 : b < 0
  · have HF := hide (show faultOf ip b lo hi = 1 by unfold faultOf; rw [if_pos (by omega)])
    have d0 : decide (b < 0) = true := decide_eq_true c0
    go_enter Tryz.func41, Tryz.ntmps41
    go_wp2
    go_ret
    exact ⟨by rw [HF.out]; rfl, (Below.refl _ _).alloc (Nat.le_refl _) _⟩
  · have d0 : decide (b < 0) = false := decide_eq_false c0
    by_cases c1 : 32 < b
    · have HF := hide (show faultOf ip b lo hi = 1 by unfold faultOf; rw [if_pos (by omega)])
      have d1 : decide ((32 : Int) < b) = true := decide_eq_true c1
      go_enter Tryz.func41, Tryz.ntmps41
      go_wp2
      go_ret
      exact ⟨by rw [HF.out]; rfl, (Below.refl _ _).alloc (Nat.le_refl _) _⟩
    · have d1 : decide ((32 : Int) < b) = false := decide_eq_false c1
      by_cases c2 : lo < 0
      · have HF := hide (show faultOf ip b lo hi = 1 by unfold faultOf; rw [if_pos (by omega)])
        have d2 : decide (lo < 0) = true := decide_eq_true c2
        go_enter Tryz.func41, Tryz.ntmps41
        go_wp2
        go_ret
        exact ⟨by rw [HF.out]; rfl, (Below.refl _ _).alloc (Nat.le_refl _) _⟩
      · have d2 : decide (lo < 0) = false := decide_eq_false c2
        by_cases c3 : 65535 < hi
        · have HF := hide (show faultOf ip b lo hi = 1 by unfold faultOf; rw [if_pos (by omega)])
          have d3 : decide ((65535 : Int) < hi) = true := decide_eq_true c3
          go_enter Tryz.func41, Tryz.ntmps41
          go_wp2
          go_ret
          exact ⟨by rw [HF.out]; rfl, (Below.refl _ _).alloc (Nat.le_refl _) _⟩
        · have d3 : decide ((65535 : Int) < hi) = false := decide_eq_false c3
          by_cases c4 : hi < lo
          · have HF := hide (show faultOf ip b lo hi = 1 by unfold faultOf; rw [if_pos (by omega)])
            have d4 : decide (hi < lo) = true := decide_eq_true c4
            go_enter Tryz.func41, Tryz.ntmps41
            go_wp2
            go_ret
            exact ⟨by rw [HF.out]; rfl, (Below.refl _ _).alloc (Nat.le_refl _) _⟩
          · have d4 : decide (hi < lo) = false := decide_eq_false c4
            obtain ⟨k0, rfl⟩ : ∃ k : Nat, b = k := ⟨b.toNat, by omega⟩
            have hk : k0 ≤ 32 := by omega
            have HF := hide (show faultOf ip (k0 : Int) lo hi = if ip % restN k0 = 0 then 0 else 3 by unfold faultOf; rw [if_neg (by omega), Int.toNat_natCast])
            go_enter Tryz.func41, Tryz.ntmps41
            go_wp2
            go_loop [3] (fun i => ∃ k : Nat, k0 ≤ k ∧ k ≤ 32 ∧ i = .int .i64 k ∧ Hid (ip % restN k0 = ip % restN k)) (fun i => 32 - (intOf i).toNat)
            case atStart => exact ⟨k0, Nat.le_refl _, hk, rfl, hide rfl⟩
            case round =>
              obtain ⟨k, hk1, hk2, rfl, HI⟩ := hrel
              by_cases hlt : k < 32
              · have HS := hide (rest_step ip k hlt)
                by_cases c : ip / 2 ^ (31 - k) % 2 = 1
                · have HB := hide (show (ip / 2 ^ (31 - k) % 2 == 1) = true by rw [beq_iff_eq]; exact c)
                  have HV := hide (show faultOf ip (k0 : Int) lo hi = 3 by
                    rw [HF.out, HI.out, HS.out, c, if_neg]
                    have := restN_pos (k + 1)
                    omega)
                  clear c
                  go_wp2_with (go_at_call 55; refine (bit_any ip k hip (by omega) _).mono ?_; rw [HB.out]; rintro e wx ⟨rfl, hwx⟩; rw [hwx]; clear hwx wx)
                  go_ret
                  exact ⟨by rw [HV.out]; rfl, (Below.refl _ _).alloc (Nat.le_refl _) _⟩
                · have HB := hide (show (ip / 2 ^ (31 - k) % 2 == 1) = false by rw [beq_eq_false_iff_ne]; exact c)
                  have HN := hide (show ip % restN k0 = ip % restN (k + 1) by
                    rw [HI.out, HS.out, show ip / 2 ^ (31 - k) % 2 = 0 by omega]
                    rfl)
                  clear c
                  go_wp2_with (go_at_call 55; refine (bit_any ip k hip (by omega) _).mono ?_; rw [HB.out]; rintro e wx ⟨rfl, hwx⟩; rw [hwx]; clear hwx wx)
                  go_round
                  case rel => exact ⟨k + 1, by omega, by omega, by go_num, HN⟩
                  case measure => simp [intOf]; omega
              · obtain rfl : k = 32 := by omega
                have HV := hide (show faultOf ip (k0 : Int) lo hi = 0 by
                  rw [HF.out, HI.out, if_pos]
                  rw [show restN 32 = 1 from rfl]
                  exact Nat.mod_one ip)
                go_wp2
                go_ret
                exact ⟨by rw [HV.out]; rfl, (Below.refl _ _).alloc (Nat.le_refl _) _⟩
end Go.Proofs.YtkogafponpjdnaaGreatDoor

/- What a net has: the code's and the document's. -/
namespace Go.Proofs.YtkogafponpjdnaaGreatDoor
open Go.RowKit

def hasOf (ip : Nat) (b lo hi : Int) (x : Nat) (port : Int) : Bool := decide (faultOf ip b lo hi = 0) && (decide (x / restN b.toNat = ip / restN b.toNat) && (decide (lo ≤ port) && decide (port ≤ hi)))

/-- The cells of a net that was boxed, behind what left all older blocks. -/
theorem box_cells {w W : World} {ip : Nat} {b lo hi : Int} (hW : Below (w.heap.size + 1) (w.alloc (.cells #[.int .u32 ip, .int .i64 b, .int .i64 lo, .int .i64 hi] 67)) W) :
    W.cell? ⟨w.heap.size, 0, none⟩ = some (.int .u32 ip) ∧ W.cell? ⟨w.heap.size, 1, none⟩ = some (.int .i64 b) ∧ W.cell? ⟨w.heap.size, 2, none⟩ = some (.int .i64 lo) ∧ W.cell? ⟨w.heap.size, 3, none⟩ = some (.int .i64 hi) := by
  have hc : ∀ o, W.cell? ⟨w.heap.size, o, none⟩ = (#[.int .u32 ip, .int .i64 b, .int .i64 lo, .int .i64 hi] : Array Value)[o]? := fun o => by
    rw [hW.cell (p := ⟨w.heap.size, o, none⟩) (Nat.lt_succ_self _)]
    exact World.cell?_alloc_at _ _ _ _ rfl
  exact ⟨hc 0, hc 1, hc 2, hc 3⟩

theorem hasNet_any (ip : Nat) (hip : ip < 4294967296) (b lo hi : Int) (hb : -9223372036854775808 ≤ b ∧ b ≤ 9223372036854775807) (hl : -9223372036854775808 ≤ lo ∧ lo ≤ 9223372036854775807) (hh : -9223372036854775808 ≤ hi ∧ hi ≤ 9223372036854775807)
    (x : Nat) (hx : x < 4294967296) (port : Int) (w : World) :
    Calls Tryz.prog 34 #[netV ip b lo hi, .int .u32 x, .int .i64 port] w fun e w' => e = .returned (.bool (hasOf ip b lo hi x port)) ∧ Below w.heap.size w w' := by
  by_cases hf : faultOf ip b lo hi = 0
  · obtain ⟨⟨hb0, hb32⟩, _, _⟩ := fault_ok hf
    obtain ⟨k0, rfl⟩ : ∃ k : Nat, b = k := ⟨b.toNat, by omega⟩
    have hk0 : k0 ≤ 32 := by omega
    have HV := hide (show hasOf ip (k0 : Int) lo hi x port = (decide (x / restN k0 = ip / restN k0) && (decide (lo ≤ port) && decide (port ≤ hi))) by unfold hasOf; rw [decide_eq_true hf, Bool.true_and, Int.toNat_natCast])
    have HF := hide hf
    clear hf
    go_enter Tryz.func34, Tryz.ntmps34
    go_wp2_with (go_at_call 41; refine (netFault_any ip hip k0 lo hi hb hl hh _).mono ?_; rw [HF.out]; rintro e W ⟨rfl, hW⟩; have hW2 : Below (w.heap.size + 1) (w.alloc (.cells #[.int .u32 ip, .int .i64 k0, .int .i64 lo, .int .i64 hi] 67)) W := hW.mono (by simp); obtain ⟨h0, h1, h2, h3⟩ := box_cells hW2)
    have hW' : Below w.heap.size w W := ((Below.refl w.heap.size w).alloc (Nat.le_refl _) _).trans (hW.mono (by simp))
    have HW := hide hW'
    clear hW hW2 hW'
    have h0 : ∀ m, (W.drewN m).cell? ⟨w.heap.size, 0, none⟩ = _ := fun _ => h0
    have h1 : ∀ m, (W.drewN m).cell? ⟨w.heap.size, 1, none⟩ = _ := fun _ => h1
    have h2 : ∀ m, (W.drewN m).cell? ⟨w.heap.size, 2, none⟩ = _ := fun _ => h2
    have h3 : ∀ m, (W.drewN m).cell? ⟨w.heap.size, 3, none⟩ = _ := fun _ => h3
    go_loopw [7] (fun i w' => ∃ k m : Nat, k ≤ k0 ∧ i = .int .i64 k ∧ w' = W.drewN m ∧ Hid (x / restN k = ip / restN k)) (fun i _ => k0 - (intOf i).toNat)
    case atStart => exact ⟨0, 0, by omega, rfl, rfl, hide (by rw [show restN 0 = 4294967296 from rfl, Nat.div_eq_of_lt hx, Nat.div_eq_of_lt hip])⟩
    case round =>
      obtain ⟨k, m, hk, rfl, rfl, HI⟩ := hrel
      by_cases hlt : k < k0
      · have HX := hide (quot_step x k (by omega))
        have HP := hide (quot_step ip k (by omega))
        by_cases c : x / 2 ^ (31 - k) % 2 = ip / 2 ^ (31 - k) % 2
        · have HN := hide (show x / restN (k + 1) = ip / restN (k + 1) by rw [HX.out, HP.out, HI.out, c])
          have bb : ((x / 2 ^ (31 - k) % 2 == 1) == (ip / 2 ^ (31 - k) % 2 == 1)) = true := by rw [c]; simp
          clear c
          go_wp2
          go_quiet ((go_at_call 55; first | exact Calls.quiet_of_same (bit_any _ k (by assumption) (by omega) _) | exact quiet_same (bit_any _ k (by assumption) (by omega) _)))
          go_wp2
          go_round
          case rel => exact ⟨k + 1, _, by omega, by go_num, rfl, HN⟩
          case measure => simp [intOf]; omega
        · have HV2 := hide (show hasOf ip (k0 : Int) lo hi x port = false by
            rw [HV.out, decide_eq_false, Bool.false_and]
            intro h
            have h' := quot_down x ip (k0 - (k + 1)) (k + 1) (by omega) (by rw [show k + 1 + (k0 - (k + 1)) = k0 by omega]; exact h)
            rw [HX.out, HP.out, HI.out] at h'
            omega)
          have bb : ((x / 2 ^ (31 - k) % 2 == 1) == (ip / 2 ^ (31 - k) % 2 == 1)) = false := by
            rw [beq_eq_false_iff_ne]
            intro h
            rw [Bool.eq_iff_iff] at h
            simp at h
            omega
          clear c
          go_wp2
          go_quiet ((go_at_call 55; first | exact Calls.quiet_of_same (bit_any _ k (by assumption) (by omega) _) | exact quiet_same (bit_any _ k (by assumption) (by omega) _)))
          go_wp2
          go_ret
          exact ⟨by rw [HV2.out]; rfl, below_drewN' (below_drewN' HW.out _) _⟩
      · obtain rfl : k = k0 := by omega
        have HV2 := hide (show hasOf ip (k : Int) lo hi x port = (decide (lo ≤ port) && decide (port ≤ hi)) by rw [HV.out, decide_eq_true HI.out, Bool.true_and])
        by_cases c1 : lo ≤ port
        · have d1 : decide (lo ≤ port) = true := decide_eq_true c1
          go_wp2
          go_ret
          exact ⟨by rw [HV2.out, d1, Bool.true_and]; rfl, below_drewN' HW.out _⟩
        · have d1 : decide (lo ≤ port) = false := decide_eq_false c1
          go_wp2
          go_ret
          exact ⟨by rw [HV2.out, d1, Bool.false_and]; rfl, below_drewN' HW.out _⟩
  · have hf1 : 0 < faultOf ip b lo hi := by omega
    have HV := hide (show hasOf ip b lo hi x port = false by unfold hasOf; rw [decide_eq_false hf, Bool.false_and])
    go_enter Tryz.func34, Tryz.ntmps34
    go_wp2_with (go_at_call 41; refine (netFault_any ip hip b lo hi hb hl hh _).mono ?_; rintro e W ⟨rfl, hW⟩)
    go_ret
    exact ⟨by rw [HV.out]; rfl, ((Below.refl w.heap.size w).alloc (Nat.le_refl _) _).trans (hW.mono (by simp))⟩
end Go.Proofs.YtkogafponpjdnaaGreatDoor

/- What a net has: addr.Has. -/
namespace Go.Proofs.YtkogafponpjdnaaGreatDoor
open Go.RowKit Go.Sort

/-- The world with a net boxed, and what is called in worlds that grew out of it. -/
theorem boxed (w : World) (ip : Nat) (b lo hi : Int) : ∃ V, V = w.alloc (.cells #[.int .u32 ip, .int .i64 b, .int .i64 lo, .int .i64 hi] 67) ∧ Below w.heap.size w V ∧
    V.cell? ⟨w.heap.size, 0, none⟩ = some (.int .u32 ip) ∧ V.cell? ⟨w.heap.size, 1, none⟩ = some (.int .i64 b) ∧ V.cell? ⟨w.heap.size, 2, none⟩ = some (.int .i64 lo) ∧ V.cell? ⟨w.heap.size, 3, none⟩ = some (.int .i64 hi) :=
  ⟨_, rfl, (Below.refl _ _).alloc (Nat.le_refl _) _, box_cells (Below.refl _ _)⟩
theorem regrown_same {P : Program} {f : FuncId} {args : Array Value} {V : World} {d : Nat} {os : Array Obj} {v : Value}
    (h : Calls P f args (grow (redrawn V d) os) fun e w' => e = .returned v ∧ w' = grow (redrawn V d) os) : Calls P f args (grow (redrawn V d) os) fun e w'' => e = .returned v ∧ ∃ p : Regrown, w'' = grow (redrawn V p.d) p.os :=
  h.mono fun _ _ ⟨he, hw⟩ => ⟨he, ⟨d, os⟩, hw⟩

theorem has_bad (ip : Nat) (hip : ip < 4294967296) (b lo hi : Int) (hb : -9223372036854775808 ≤ b ∧ b ≤ 9223372036854775807) (hl : -9223372036854775808 ≤ lo ∧ lo ≤ 9223372036854775807) (hh : -9223372036854775808 ≤ hi ∧ hi ≤ 9223372036854775807)
    (x : Nat) (port n : Int) (HE : Hid (errV (faultOf ip b lo hi) = .iface 75 (.int .i64 n))) (w : World) :
    Calls Tryz.prog 47 #[netV ip b lo hi, .int .u32 x, .int .i64 port] w fun e w' => e = .returned (.bool false) ∧ Below w.heap.size w w' := by
  go_enter Tryz.func47, Tryz.ntmps47
  go_wp2
  obtain ⟨V, hV, hB, h0, h1, h2, h3⟩ := boxed w ip b lo hi
  rw [← hV]
  clear hV
  have HB := hide hB
  clear hB
  have g0 := cell_regrown h0
  have g1 := cell_regrown h1
  have g2 := cell_regrown h2
  have g3 := cell_regrown h3
  have cC : ∀ d os, Calls Tryz.prog 68 #[.agg #[.int .u32 ip, .int .i64 b, .int .i64 lo, .int .i64 hi]] (grow (redrawn V d) os) fun e w'' => e = .returned (.iface 75 (.int .i64 n)) ∧ ∃ p : Regrown, w'' = grow (redrawn V p.d) p.os := fun d os => Calls.regrown_of ((acheck_any ip hip b lo hi hb hl hh _).mono fun e w' h => by rw [HE.out] at h; exact h)
  refine wp_region_quiet_below (by kernel_rfl) (by kernel_rfl) ?_
  repeat (go_big_quiet_step ((go_at_call 68; exact cC _ _)))
  refine wpQuiet_nil ?_
  intro _ hw'
  obtain ⟨⟨dq, osq⟩, hw''⟩ := hw'
  subst hw''
  go_wp2
  go_ret
  exact ⟨rfl, HB.out.trans ((below_regrown V dq osq).mono HB.out.size)⟩

set_option maxHeartbeats 1000000 in
theorem has_any (ip : Nat) (hip : ip < 4294967296) (b lo hi : Int) (hb : -9223372036854775808 ≤ b ∧ b ≤ 9223372036854775807) (hl : -9223372036854775808 ≤ lo ∧ lo ≤ 9223372036854775807) (hh : -9223372036854775808 ≤ hi ∧ hi ≤ 9223372036854775807)
    (x : Nat) (hx : x < 4294967296) (port : Int) (w : World) :
    Calls Tryz.prog 47 #[netV ip b lo hi, .int .u32 x, .int .i64 port] w fun e w' => e = .returned (.bool (hasOf ip b lo hi x port)) ∧ Below w.heap.size w w' := by
  by_cases hf : faultOf ip b lo hi = 0
  · obtain ⟨⟨hb0, hb32⟩, _, hr⟩ := fault_ok hf
    obtain ⟨k0, rfl⟩ : ∃ k : Nat, b = k := ⟨b.toNat, by omega⟩
    have hk0 : k0 ≤ 32 := by omega
    rw [Int.toNat_natCast] at hr
    have HV := hide (show hasOf ip (k0 : Int) lo hi x port = (decide (x / restN k0 = ip / restN k0) && (decide (lo ≤ port) && decide (port ≤ hi))) by unfold hasOf; rw [decide_eq_true hf, Bool.true_and, Int.toNat_natCast])
    have HF := hide (show errV (faultOf ip (k0 : Int) lo hi) = .nilIface by rw [hf]; rfl)
    have er : bits .and .u32 (x : Int) (maskN k0 : Int) = ((x / restN k0 * restN k0 : Nat) : Int) := by rw [u32_and_nat _ _ hx (maskN_lt k0), and_mask x k0 hx hk0]
    have hq : (x / restN k0 * restN k0 = ip) ↔ (x / restN k0 = ip / restN k0) := by
      have h1 := Nat.div_add_mod ip (restN k0)
      rw [hr, Nat.add_zero, Nat.mul_comm] at h1
      constructor
      · intro h
        rw [← h1] at h
        exact Nat.eq_of_mul_eq_mul_right (restN_pos k0) h
      · intro h
        rw [h, h1]
    have HQ := hide (show (((x / restN k0 * restN k0 : Nat) : Int) == (ip : Int)) = decide (x / restN k0 = ip / restN k0) by rw [Bool.eq_iff_iff]; simp only [beq_iff_eq, decide_eq_true_eq]; rw [← hq]; omega)
    obtain ⟨q, hqq⟩ : ∃ q, q = x / restN k0 * restN k0 := ⟨_, rfl⟩
    rw [← hqq] at er HQ
    clear hf hr hq hqq
    cases hd : decide (x / restN k0 = ip / restN k0) with
    | false =>
      rw [hd] at HQ HV
      have bq := HQ.out
      go_enter Tryz.func47, Tryz.ntmps47
      go_wp2
      obtain ⟨V, hV, hB, h0, h1, h2, h3⟩ := boxed w ip k0 lo hi
      rw [← hV]
      clear hV
      have HB := hide hB
      clear hB
      have g0 := cell_regrown h0
      have g1 := cell_regrown h1
      have g2 := cell_regrown h2
      have g3 := cell_regrown h3
      have cC : ∀ d os, Calls Tryz.prog 68 #[.agg #[.int .u32 ip, .int .i64 k0, .int .i64 lo, .int .i64 hi]] (grow (redrawn V d) os) fun e w'' => e = .returned .nilIface ∧ ∃ p : Regrown, w'' = grow (redrawn V p.d) p.os := fun d os => Calls.regrown_of ((acheck_any ip hip k0 lo hi hb hl hh _).mono fun e w' h => by rw [HF.out] at h; exact h)
      have cM : ∀ d os, Calls Tryz.prog 69 #[.int .i64 k0] (grow (redrawn V d) os) fun e w'' => e = .returned (.int .u32 (maskN k0)) ∧ ∃ p : Regrown, w'' = grow (redrawn V p.d) p.os := fun d os => regrown_same (mask_any k0 hk0 _)
      refine wp_region_quiet_below (by kernel_rfl) (by kernel_rfl) ?_
      repeat (go_big_quiet_step (first | (go_at_call 68; exact cC _ _) | (go_at_call 69; exact cM _ _)))
      refine wpQuiet_nil ?_
      intro _ hw'
      obtain ⟨⟨dq, osq⟩, hw''⟩ := hw'
      subst hw''
      go_wp2
      go_ret
      exact ⟨by rw [HV.out]; rfl, HB.out.trans ((below_regrown V dq osq).mono HB.out.size)⟩
    | true =>
      rw [hd, Bool.true_and] at HV
      rw [hd] at HQ
      have bq := HQ.out
      by_cases c1 : lo ≤ port
      · have d1 : decide (lo ≤ port) = true := decide_eq_true c1
        rw [d1, Bool.true_and] at HV
        go_enter Tryz.func47, Tryz.ntmps47
        go_wp2
        obtain ⟨V, hV, hB, h0, h1, h2, h3⟩ := boxed w ip k0 lo hi
        rw [← hV]
        clear hV
        have HB := hide hB
        clear hB
        have g0 := cell_regrown h0
        have g1 := cell_regrown h1
        have g2 := cell_regrown h2
        have g3 := cell_regrown h3
        have cC : ∀ d os, Calls Tryz.prog 68 #[.agg #[.int .u32 ip, .int .i64 k0, .int .i64 lo, .int .i64 hi]] (grow (redrawn V d) os) fun e w'' => e = .returned .nilIface ∧ ∃ p : Regrown, w'' = grow (redrawn V p.d) p.os := fun d os => Calls.regrown_of ((acheck_any ip hip k0 lo hi hb hl hh _).mono fun e w' h => by rw [HF.out] at h; exact h)
        have cM : ∀ d os, Calls Tryz.prog 69 #[.int .i64 k0] (grow (redrawn V d) os) fun e w'' => e = .returned (.int .u32 (maskN k0)) ∧ ∃ p : Regrown, w'' = grow (redrawn V p.d) p.os := fun d os => regrown_same (mask_any k0 hk0 _)
        refine wp_region_quiet_below (by kernel_rfl) (by kernel_rfl) ?_
        repeat (go_big_quiet_step (first | (go_at_call 68; exact cC _ _) | (go_at_call 69; exact cM _ _)))
        refine wpQuiet_nil ?_
        intro _ hw'
        obtain ⟨⟨dq, osq⟩, hw''⟩ := hw'
        subst hw''
        go_wp2
        go_ret
        exact ⟨by rw [HV.out]; rfl, HB.out.trans ((below_regrown V dq osq).mono HB.out.size)⟩
      · have d1 : decide (lo ≤ port) = false := decide_eq_false c1
        rw [d1, Bool.false_and] at HV
        go_enter Tryz.func47, Tryz.ntmps47
        go_wp2
        obtain ⟨V, hV, hB, h0, h1, h2, h3⟩ := boxed w ip k0 lo hi
        rw [← hV]
        clear hV
        have HB := hide hB
        clear hB
        have g0 := cell_regrown h0
        have g1 := cell_regrown h1
        have g2 := cell_regrown h2
        have g3 := cell_regrown h3
        have cC : ∀ d os, Calls Tryz.prog 68 #[.agg #[.int .u32 ip, .int .i64 k0, .int .i64 lo, .int .i64 hi]] (grow (redrawn V d) os) fun e w'' => e = .returned .nilIface ∧ ∃ p : Regrown, w'' = grow (redrawn V p.d) p.os := fun d os => Calls.regrown_of ((acheck_any ip hip k0 lo hi hb hl hh _).mono fun e w' h => by rw [HF.out] at h; exact h)
        have cM : ∀ d os, Calls Tryz.prog 69 #[.int .i64 k0] (grow (redrawn V d) os) fun e w'' => e = .returned (.int .u32 (maskN k0)) ∧ ∃ p : Regrown, w'' = grow (redrawn V p.d) p.os := fun d os => regrown_same (mask_any k0 hk0 _)
        refine wp_region_quiet_below (by kernel_rfl) (by kernel_rfl) ?_
        repeat (go_big_quiet_step (first | (go_at_call 68; exact cC _ _) | (go_at_call 69; exact cM _ _)))
        refine wpQuiet_nil ?_
        intro _ hw'
        obtain ⟨⟨dq, osq⟩, hw''⟩ := hw'
        subst hw''
        go_wp2
        go_ret
        exact ⟨by rw [HV.out]; rfl, HB.out.trans ((below_regrown V dq osq).mono HB.out.size)⟩
  · obtain ⟨n, hn⟩ : ∃ n : Int, n = (faultOf ip b lo hi : Nat) := ⟨_, rfl⟩
    have HE := hide (show errV (faultOf ip b lo hi) = .iface 75 (.int .i64 n) by unfold errV; rw [if_neg hf, hn])
    rw [show hasOf ip b lo hi x port = false by unfold hasOf; rw [decide_eq_false hf, Bool.false_and]]
    exact has_bad ip hip b lo hi hb hl hh x port n HE w
end Go.Proofs.YtkogafponpjdnaaGreatDoor

/- policy.Check: conds. -/
namespace Go.Proofs.YtkogafponpjdnaaGreatDoor
open Go.RowKit Go.Sort

theorem two_box (w : World) (x y : Array Value) (tx ty : TypeId) : ∃ V, V = (w.alloc (.cells x tx)).alloc (.cells y ty) ∧ Below w.heap.size w V ∧ (∀ j : Nat, V.cell? ⟨w.heap.size, j, none⟩ = x[j]?) ∧ (∀ j : Nat, V.cell? ⟨w.heap.size + 1, j, none⟩ = y[j]?) := by
  refine ⟨_, rfl, below_next (box_below w _) (box_below _ _), fun j => ?_, fun j => ?_⟩
  · rw [((bcell (box_below (w.alloc (.cells x tx)) (.cells y ty))).1 w.heap.size j (by rw [World.size_alloc]; omega)), World.cell?_alloc_new]
  · have h := World.cell?_alloc_new (w.alloc (.cells x tx)) y ty j
    rwa [World.size_alloc] at h

/-- glob.Check at any pattern. -/
theorem gparse_big (p : ByteArray) (h : 24 < p.size) (w : World) : Calls Tryz.prog 65 #[.string p] w fun e w' => e = .returned (.tuple #[.slice none 0 0, .iface 75 (.int .i64 2)]) ∧ Below w.heap.size w w' := by
  go_enter Tryz.func65, Tryz.ntmps65
  go_wp2
  go_ret2
  exact ⟨rfl, Below.refl _ _⟩
theorem gcheck_any (p : ByteArray) (w : World) : Calls Tryz.prog 71 #[.string p] w fun e w' => e = .returned (errV (globF p)) ∧ Below w.heap.size w w' := by
  by_cases h : 24 < p.size
  · have HE := hide (show errV (globF p) = .iface 75 (.int .i64 2) by
      unfold globF Gl.parseR
      rw [if_pos h]
      rfl)
    go_enter Tryz.func71, Tryz.ntmps71
    go_wp2_with (go_at_call 65; refine (gparse_big p h _).mono ?_; rintro e W ⟨rfl, hW⟩)
    go_ret
    exact ⟨by rw [HE.out]; rfl, hW⟩
  · refine (Gl.check_any p (by omega) w).mono ?_
    rintro e w' ⟨rfl, hb⟩
    refine ⟨?_, hb⟩
    unfold globF errV
    cases hp : Gl.parseR p with
    | inr ps => rfl
    | inl n =>
      have hn : n ≠ 0 := by
        unfold Gl.parseR at hp
        repeat' split at hp
        all_goals simp at hp
        all_goals omega
      simp only
      rw [if_neg hn]

theorem checkCond_bound (c : CD) (kv : Array Value) (w : World) (h : c.arg < 0 ∨ 3 < c.arg ∨ c.op < 1 ∨ 9 < c.op) : Calls Tryz.prog 49 #[condV c, .agg kv] w fun e w' => e = .returned (errV 1) ∧ Below w.heap.size w w' := by
  obtain ⟨arg, op, v, m, g, ⟨ip, b, lo, hi⟩⟩ := c
  unfold condV
  simp only at h ⊢
  go_enter Tryz.func49, Tryz.ntmps49
  go_wp2
  all_goals first
    | omega
    | (go_ret
       exact ⟨rfl, below_next (box_below _ _) (box_below _ _)⟩)

theorem kinds_at (nr a : Nat) (h : a ≤ 3) : (#[.int .i64 (kindAt nr 0 : Nat), .int .i64 (kindAt nr 1 : Nat), .int .i64 (kindAt nr 2 : Nat), .int .i64 (kindAt nr 3 : Nat)] : Array Value)[a]? = some (.int .i64 (kindAt nr a : Nat)) := by
  rcases (by omega : a = 0 ∨ a = 1 ∨ a = 2 ∨ a = 3) with rfl | rfl | rfl | rfl <;> rfl
end Go.Proofs.YtkogafponpjdnaaGreatDoor

/- policy.Check: conds, behind their bounds. -/
namespace Go.Proofs.YtkogafponpjdnaaGreatDoor
open Go.RowKit Go.Sort

set_option maxHeartbeats 4000000 in
theorem checkCond_kind (nr a : Nat) (ha : a ≤ 3) (op : Int) (v m : Nat) (g : ByteArray) (ip : Nat) (b lo hi : Int) (h1 : ¬ op < 1) (h9 : ¬ 9 < op) (w : World) (h : kindAt nr a ≠ kindOp op) :
    Calls Tryz.prog 49 #[condV ⟨a, op, v, m, g, ⟨ip, b, lo, hi⟩⟩, kindsV nr] w fun e w' => e = .returned (errV 3) ∧ Below w.heap.size w w' := by
  have HU := fun w => hasUnused_any ⟨a, op, v, m, g, ⟨ip, b, lo, hi⟩⟩ w
  obtain ⟨u, hu⟩ : ∃ u, u = decide (unusedP ⟨a, op, v, m, g, ⟨ip, b, lo, hi⟩⟩) := ⟨_, rfl⟩
  rw [← hu] at HU
  obtain ⟨ko, hko⟩ : ∃ k : Int, k = (kindOp op : Nat) := ⟨_, rfl⟩
  have HK := fun w => kindOf_any op w
  rw [← hko] at HK
  obtain ⟨ka, hka⟩ : ∃ k : Int, k = (kindAt nr a : Nat) := ⟨_, rfl⟩
  have hat := kinds_at nr a ha
  rw [← hka] at hat
  have hne : (ka != ko) = true := by rw [hka, hko, bne_iff_ne]; omega
  clear hu hko hka h
  unfold kindsV condV at *
  simp only at *
  have i1 : ¬ (a : Int) < 0 := by omega
  have i2 : ¬ (4 : Int) ≤ a := by omega
  have i3 : (0 : Int) ≤ a := by omega
  have i4 : (a : Int) < 4 := by omega
  go_enter Tryz.func49, Tryz.ntmps49
  go_wp2
  obtain ⟨V, hV, hB, hx, hy⟩ := two_box w #[.int .i64 a, .int .i64 op, .int .u64 v, .int .u64 m, .string g, .int .u32 ip, .int .i64 b, .int .i64 lo, .int .i64 hi] #[.int .i64 (kindAt nr 0 : Nat), .int .i64 (kindAt nr 1 : Nat), .int .i64 (kindAt nr 2 : Nat), .int .i64 (kindAt nr 3 : Nat)] 69 101
  rw [← hV]
  clear hV
  have HB := hide hB
  clear hB
  have g0 := cell_regrown (hx 0)
  have g1 := cell_regrown (hx 1)
  have g2 := cell_regrown (hx 2)
  have g3 := cell_regrown (hx 3)
  have g4 := cell_regrown (hx 4)
  have g5 := cell_regrown (hx 5)
  have g6 := cell_regrown (hx 6)
  have g7 := cell_regrown (hx 7)
  have g8 := cell_regrown (hx 8)
  have gk := cell_regrown ((hy a).trans hat)
  have cK : ∀ d os, Calls Tryz.prog 44 #[.int .i64 op] (grow (redrawn V d) os) fun e w'' => e = .returned (.int .i64 ko) ∧ ∃ p : Regrown, w'' = grow (redrawn V p.d) p.os := fun d os => regrown_same (HK _)
  have cU : ∀ d os, Calls Tryz.prog 70 #[.agg #[.int .i64 a, .int .i64 op, .int .u64 v, .int .u64 m, .string g, .int .u32 ip, .int .i64 b, .int .i64 lo, .int .i64 hi]] (grow (redrawn V d) os) fun e w'' => e = .returned (.bool u) ∧ ∃ p : Regrown, w'' = grow (redrawn V p.d) p.os := fun d os => Calls.regrown_of (HU _)
  clear hx hy hat HU HK
  refine wp_region_quiet_below (by kernel_rfl) (by kernel_rfl) ?_
  repeat (go_big_quiet_step (first | (go_at_call 44; exact cK _ _) | (go_at_call 70; exact cU _ _)))
  refine wpQuiet_nil ?_
  intro _ hw'
  obtain ⟨⟨dq, osq⟩, hw''⟩ := hw'
  subst hw''
  go_wp2
  go_ret
  exact ⟨rfl, HB.out.trans ((below_regrown V dq osq).mono HB.out.size)⟩

set_option maxHeartbeats 4000000 in
theorem checkCond_unused (nr a : Nat) (ha : a ≤ 3) (op : Int) (v m : Nat) (g : ByteArray) (ip : Nat) (b lo hi : Int) (h1 : ¬ op < 1) (h9 : ¬ 9 < op) (w : World) (hk : kindAt nr a = kindOp op) (h : unusedP ⟨a, op, v, m, g, ⟨ip, b, lo, hi⟩⟩) :
    Calls Tryz.prog 49 #[condV ⟨a, op, v, m, g, ⟨ip, b, lo, hi⟩⟩, kindsV nr] w fun e w' => e = .returned (errV 3) ∧ Below w.heap.size w w' := by
  have HU := fun w => hasUnused_any ⟨a, op, v, m, g, ⟨ip, b, lo, hi⟩⟩ w
  obtain ⟨u, hu⟩ : ∃ u, u = decide (unusedP ⟨a, op, v, m, g, ⟨ip, b, lo, hi⟩⟩) := ⟨_, rfl⟩
  rw [← hu] at HU
  obtain ⟨ko, hko⟩ : ∃ k : Int, k = (kindOp op : Nat) := ⟨_, rfl⟩
  have HK := fun w => kindOf_any op w
  rw [← hko] at HK
  obtain ⟨ka, hka⟩ : ∃ k : Int, k = (kindAt nr a : Nat) := ⟨_, rfl⟩
  have hat := kinds_at nr a ha
  rw [← hka] at hat
  have hne : ko = ka := by rw [hka, hko, hk]
  subst hne
  have hut : u = true := by rw [hu]; exact decide_eq_true h
  subst hut
  clear hu hko hka h hk
  have hnn : (ko != ko) = false := by simp
  unfold kindsV condV at *
  simp only at *
  have i1 : ¬ (a : Int) < 0 := by omega
  have i2 : ¬ (4 : Int) ≤ a := by omega
  have i3 : (0 : Int) ≤ a := by omega
  have i4 : (a : Int) < 4 := by omega
  go_enter Tryz.func49, Tryz.ntmps49
  go_wp2
  obtain ⟨V, hV, hB, hx, hy⟩ := two_box w #[.int .i64 a, .int .i64 op, .int .u64 v, .int .u64 m, .string g, .int .u32 ip, .int .i64 b, .int .i64 lo, .int .i64 hi] #[.int .i64 (kindAt nr 0 : Nat), .int .i64 (kindAt nr 1 : Nat), .int .i64 (kindAt nr 2 : Nat), .int .i64 (kindAt nr 3 : Nat)] 69 101
  rw [← hV]
  clear hV
  have HB := hide hB
  clear hB
  have g0 := cell_regrown (hx 0)
  have g1 := cell_regrown (hx 1)
  have g2 := cell_regrown (hx 2)
  have g3 := cell_regrown (hx 3)
  have g4 := cell_regrown (hx 4)
  have g5 := cell_regrown (hx 5)
  have g6 := cell_regrown (hx 6)
  have g7 := cell_regrown (hx 7)
  have g8 := cell_regrown (hx 8)
  have gk := cell_regrown ((hy a).trans hat)
  have cK : ∀ d os, Calls Tryz.prog 44 #[.int .i64 op] (grow (redrawn V d) os) fun e w'' => e = .returned (.int .i64 ko) ∧ ∃ p : Regrown, w'' = grow (redrawn V p.d) p.os := fun d os => regrown_same (HK _)
  have cU : ∀ d os, Calls Tryz.prog 70 #[.agg #[.int .i64 a, .int .i64 op, .int .u64 v, .int .u64 m, .string g, .int .u32 ip, .int .i64 b, .int .i64 lo, .int .i64 hi]] (grow (redrawn V d) os) fun e w'' => e = .returned (.bool true) ∧ ∃ p : Regrown, w'' = grow (redrawn V p.d) p.os := fun d os => Calls.regrown_of (HU _)
  clear hx hy hat HU HK
  refine wp_region_quiet_below (by kernel_rfl) (by kernel_rfl) ?_
  repeat (go_big_quiet_step (first | (go_at_call 44; exact cK _ _) | (go_at_call 70; exact cU _ _)))
  refine wpQuiet_nil ?_
  intro _ hw'
  obtain ⟨⟨dq, osq⟩, hw''⟩ := hw'
  subst hw''
  go_wp2
  go_ret
  exact ⟨rfl, HB.out.trans ((below_regrown V dq osq).mono HB.out.size)⟩

set_option maxHeartbeats 4000000 in
theorem checkCond_like (nr a : Nat) (ha : a ≤ 3) (v m : Nat) (g : ByteArray) (ip : Nat) (b lo hi : Int) (_hc : CdOk ⟨a, 8, v, m, g, ⟨ip, b, lo, hi⟩⟩)  (w : World) (hk : kindAt nr a = kindOp 8) (h : ¬ unusedP ⟨a, 8, v, m, g, ⟨ip, b, lo, hi⟩⟩) :
    Calls Tryz.prog 49 #[condV ⟨a, 8, v, m, g, ⟨ip, b, lo, hi⟩⟩, kindsV nr] w fun e w' => e = .returned (errV (globF g)) ∧ Below w.heap.size w w' := by
  have HU := fun w => hasUnused_any ⟨a, 8, v, m, g, ⟨ip, b, lo, hi⟩⟩ w
  obtain ⟨u, hu⟩ : ∃ u, u = decide (unusedP ⟨a, 8, v, m, g, ⟨ip, b, lo, hi⟩⟩) := ⟨_, rfl⟩
  rw [← hu] at HU
  obtain ⟨ko, hko⟩ : ∃ k : Int, k = (kindOp 8 : Nat) := ⟨_, rfl⟩
  have HK := fun w => kindOf_any 8 w
  rw [← hko] at HK
  obtain ⟨ka, hka⟩ : ∃ k : Int, k = (kindAt nr a : Nat) := ⟨_, rfl⟩
  have hat := kinds_at nr a ha
  rw [← hka] at hat
  have hne : ko = ka := by rw [hka, hko, hk]
  subst hne
  have hut : u = false := by rw [hu]; exact decide_eq_false h
  subst hut
  clear hu hko hka h hk
  have hnn : (ko != ko) = false := by simp
  unfold kindsV condV at *
  simp only at *
  have i1 : ¬ (a : Int) < 0 := by omega
  have i2 : ¬ (4 : Int) ≤ a := by omega
  have i3 : (0 : Int) ≤ a := by omega
  have i4 : (a : Int) < 4 := by omega
  go_enter Tryz.func49, Tryz.ntmps49
  go_wp2
  obtain ⟨V, hV, hB, hx, hy⟩ := two_box w #[.int .i64 a, .int .i64 8, .int .u64 v, .int .u64 m, .string g, .int .u32 ip, .int .i64 b, .int .i64 lo, .int .i64 hi] #[.int .i64 (kindAt nr 0 : Nat), .int .i64 (kindAt nr 1 : Nat), .int .i64 (kindAt nr 2 : Nat), .int .i64 (kindAt nr 3 : Nat)] 69 101
  rw [← hV]
  clear hV
  have HB := hide hB
  clear hB
  have g0 := cell_regrown (hx 0)
  have g1 := cell_regrown (hx 1)
  have g2 := cell_regrown (hx 2)
  have g3 := cell_regrown (hx 3)
  have g4 := cell_regrown (hx 4)
  have g5 := cell_regrown (hx 5)
  have g6 := cell_regrown (hx 6)
  have g7 := cell_regrown (hx 7)
  have g8 := cell_regrown (hx 8)
  have gk := cell_regrown ((hy a).trans hat)
  have cK : ∀ d os, Calls Tryz.prog 44 #[.int .i64 8] (grow (redrawn V d) os) fun e w'' => e = .returned (.int .i64 ko) ∧ ∃ p : Regrown, w'' = grow (redrawn V p.d) p.os := fun d os => regrown_same (HK _)
  have cU : ∀ d os, Calls Tryz.prog 70 #[.agg #[.int .i64 a, .int .i64 8, .int .u64 v, .int .u64 m, .string g, .int .u32 ip, .int .i64 b, .int .i64 lo, .int .i64 hi]] (grow (redrawn V d) os) fun e w'' => e = .returned (.bool false) ∧ ∃ p : Regrown, w'' = grow (redrawn V p.d) p.os := fun d os => Calls.regrown_of (HU _)
  clear hx hy hat HU HK
  refine wp_region_quiet_below (by kernel_rfl) (by kernel_rfl) ?_
  repeat (go_big_quiet_step (first | (go_at_call 44; exact cK _ _) | (go_at_call 70; exact cU _ _)))
  refine wpQuiet_nil ?_
  intro _ hw'
  obtain ⟨⟨dq, osq⟩, hw''⟩ := hw'
  subst hw''
  have HE := gcheck_any g
  go_wp2_with (go_at_call 71; refine (HE _).mono ?_; rintro e W2 ⟨rfl, hb2⟩)
  go_ret
  exact ⟨rfl, below_next (HB.out.trans ((below_regrown V dq osq).mono HB.out.size)) hb2⟩

set_option maxHeartbeats 4000000 in
theorem checkCond_net (nr a : Nat) (ha : a ≤ 3) (v m : Nat) (g : ByteArray) (ip : Nat) (b lo hi : Int) (hc : CdOk ⟨a, 9, v, m, g, ⟨ip, b, lo, hi⟩⟩)  (w : World) (hk : kindAt nr a = kindOp 9) (h : ¬ unusedP ⟨a, 9, v, m, g, ⟨ip, b, lo, hi⟩⟩) :
    Calls Tryz.prog 49 #[condV ⟨a, 9, v, m, g, ⟨ip, b, lo, hi⟩⟩, kindsV nr] w fun e w' => e = .returned (errV (faultOf ip b lo hi)) ∧ Below w.heap.size w w' := by
  have HU := fun w => hasUnused_any ⟨a, 9, v, m, g, ⟨ip, b, lo, hi⟩⟩ w
  obtain ⟨u, hu⟩ : ∃ u, u = decide (unusedP ⟨a, 9, v, m, g, ⟨ip, b, lo, hi⟩⟩) := ⟨_, rfl⟩
  rw [← hu] at HU
  obtain ⟨ko, hko⟩ : ∃ k : Int, k = (kindOp 9 : Nat) := ⟨_, rfl⟩
  have HK := fun w => kindOf_any 9 w
  rw [← hko] at HK
  obtain ⟨ka, hka⟩ : ∃ k : Int, k = (kindAt nr a : Nat) := ⟨_, rfl⟩
  have hat := kinds_at nr a ha
  rw [← hka] at hat
  have hne : ko = ka := by rw [hka, hko, hk]
  subst hne
  have hut : u = false := by rw [hu]; exact decide_eq_false h
  subst hut
  clear hu hko hka h hk
  have hnn : (ko != ko) = false := by simp
  unfold kindsV condV at *
  simp only at *
  have i1 : ¬ (a : Int) < 0 := by omega
  have i2 : ¬ (4 : Int) ≤ a := by omega
  have i3 : (0 : Int) ≤ a := by omega
  have i4 : (a : Int) < 4 := by omega
  go_enter Tryz.func49, Tryz.ntmps49
  go_wp2
  obtain ⟨V, hV, hB, hx, hy⟩ := two_box w #[.int .i64 a, .int .i64 9, .int .u64 v, .int .u64 m, .string g, .int .u32 ip, .int .i64 b, .int .i64 lo, .int .i64 hi] #[.int .i64 (kindAt nr 0 : Nat), .int .i64 (kindAt nr 1 : Nat), .int .i64 (kindAt nr 2 : Nat), .int .i64 (kindAt nr 3 : Nat)] 69 101
  rw [← hV]
  clear hV
  have HB := hide hB
  clear hB
  have g0 := cell_regrown (hx 0)
  have g1 := cell_regrown (hx 1)
  have g2 := cell_regrown (hx 2)
  have g3 := cell_regrown (hx 3)
  have g4 := cell_regrown (hx 4)
  have g5 := cell_regrown (hx 5)
  have g6 := cell_regrown (hx 6)
  have g7 := cell_regrown (hx 7)
  have g8 := cell_regrown (hx 8)
  have gk := cell_regrown ((hy a).trans hat)
  have cK : ∀ d os, Calls Tryz.prog 44 #[.int .i64 9] (grow (redrawn V d) os) fun e w'' => e = .returned (.int .i64 ko) ∧ ∃ p : Regrown, w'' = grow (redrawn V p.d) p.os := fun d os => regrown_same (HK _)
  have cU : ∀ d os, Calls Tryz.prog 70 #[.agg #[.int .i64 a, .int .i64 9, .int .u64 v, .int .u64 m, .string g, .int .u32 ip, .int .i64 b, .int .i64 lo, .int .i64 hi]] (grow (redrawn V d) os) fun e w'' => e = .returned (.bool false) ∧ ∃ p : Regrown, w'' = grow (redrawn V p.d) p.os := fun d os => Calls.regrown_of (HU _)
  clear hx hy hat HU HK
  refine wp_region_quiet_below (by kernel_rfl) (by kernel_rfl) ?_
  repeat (go_big_quiet_step (first | (go_at_call 44; exact cK _ _) | (go_at_call 70; exact cU _ _)))
  refine wpQuiet_nil ?_
  intro _ hw'
  obtain ⟨⟨dq, osq⟩, hw''⟩ := hw'
  subst hw''
  have HE := acheck_any ip hc.net.ip b lo hi hc.net.bits hc.net.lo hc.net.hi
  go_wp2_with (go_at_call 68; refine (HE _).mono ?_; rintro e W2 ⟨rfl, hb2⟩)
  go_ret
  exact ⟨rfl, below_next (HB.out.trans ((below_regrown V dq osq).mono HB.out.size)) hb2⟩

set_option maxHeartbeats 4000000 in
theorem checkCond_num (nr a : Nat) (ha : a ≤ 3) (op : Int) (v m : Nat) (g : ByteArray) (ip : Nat) (b lo hi : Int) (h1 : ¬ op < 1) (h9 : ¬ 9 < op) (_hc : CdOk ⟨a, op, v, m, g, ⟨ip, b, lo, hi⟩⟩) (h8 : ¬ op = 8) (h9n : ¬ op = 9) (w : World) (hk : kindAt nr a = kindOp op) (h : ¬ unusedP ⟨a, op, v, m, g, ⟨ip, b, lo, hi⟩⟩) :
    Calls Tryz.prog 49 #[condV ⟨a, op, v, m, g, ⟨ip, b, lo, hi⟩⟩, kindsV nr] w fun e w' => e = .returned (errV 0) ∧ Below w.heap.size w w' := by
  have HU := fun w => hasUnused_any ⟨a, op, v, m, g, ⟨ip, b, lo, hi⟩⟩ w
  obtain ⟨u, hu⟩ : ∃ u, u = decide (unusedP ⟨a, op, v, m, g, ⟨ip, b, lo, hi⟩⟩) := ⟨_, rfl⟩
  rw [← hu] at HU
  obtain ⟨ko, hko⟩ : ∃ k : Int, k = (kindOp op : Nat) := ⟨_, rfl⟩
  have HK := fun w => kindOf_any op w
  rw [← hko] at HK
  obtain ⟨ka, hka⟩ : ∃ k : Int, k = (kindAt nr a : Nat) := ⟨_, rfl⟩
  have hat := kinds_at nr a ha
  rw [← hka] at hat
  have hne : ko = ka := by rw [hka, hko, hk]
  subst hne
  have hut : u = false := by rw [hu]; exact decide_eq_false h
  subst hut
  clear hu hko hka h hk
  have hnn : (ko != ko) = false := by simp
  unfold kindsV condV at *
  simp only at *
  have i1 : ¬ (a : Int) < 0 := by omega
  have i2 : ¬ (4 : Int) ≤ a := by omega
  have i3 : (0 : Int) ≤ a := by omega
  have i4 : (a : Int) < 4 := by omega
  go_enter Tryz.func49, Tryz.ntmps49
  go_wp2
  obtain ⟨V, hV, hB, hx, hy⟩ := two_box w #[.int .i64 a, .int .i64 op, .int .u64 v, .int .u64 m, .string g, .int .u32 ip, .int .i64 b, .int .i64 lo, .int .i64 hi] #[.int .i64 (kindAt nr 0 : Nat), .int .i64 (kindAt nr 1 : Nat), .int .i64 (kindAt nr 2 : Nat), .int .i64 (kindAt nr 3 : Nat)] 69 101
  rw [← hV]
  clear hV
  have HB := hide hB
  clear hB
  have g0 := cell_regrown (hx 0)
  have g1 := cell_regrown (hx 1)
  have g2 := cell_regrown (hx 2)
  have g3 := cell_regrown (hx 3)
  have g4 := cell_regrown (hx 4)
  have g5 := cell_regrown (hx 5)
  have g6 := cell_regrown (hx 6)
  have g7 := cell_regrown (hx 7)
  have g8 := cell_regrown (hx 8)
  have gk := cell_regrown ((hy a).trans hat)
  have cK : ∀ d os, Calls Tryz.prog 44 #[.int .i64 op] (grow (redrawn V d) os) fun e w'' => e = .returned (.int .i64 ko) ∧ ∃ p : Regrown, w'' = grow (redrawn V p.d) p.os := fun d os => regrown_same (HK _)
  have cU : ∀ d os, Calls Tryz.prog 70 #[.agg #[.int .i64 a, .int .i64 op, .int .u64 v, .int .u64 m, .string g, .int .u32 ip, .int .i64 b, .int .i64 lo, .int .i64 hi]] (grow (redrawn V d) os) fun e w'' => e = .returned (.bool false) ∧ ∃ p : Regrown, w'' = grow (redrawn V p.d) p.os := fun d os => Calls.regrown_of (HU _)
  clear hx hy hat HU HK
  refine wp_region_quiet_below (by kernel_rfl) (by kernel_rfl) ?_
  repeat (go_big_quiet_step (first | (go_at_call 44; exact cK _ _) | (go_at_call 70; exact cU _ _)))
  refine wpQuiet_nil ?_
  intro _ hw'
  obtain ⟨⟨dq, osq⟩, hw''⟩ := hw'
  subst hw''
  clear _hc
  go_wp2
  go_ret
  exact ⟨rfl, HB.out.trans ((below_regrown V dq osq).mono HB.out.size)⟩

theorem checkCond_any (nr : Nat) (c : CD) (hc : CdOk c) (w : World) : Calls Tryz.prog 49 #[condV c, kindsV nr] w fun e w' => e = .returned (errV (condF nr c)) ∧ Below w.heap.size w w' := by
  by_cases h : c.arg < 0 ∨ 3 < c.arg ∨ c.op < 1 ∨ 9 < c.op
  · rw [show condF nr c = 1 from if_pos h]
    exact checkCond_bound c _ w h
  have hf : condF nr c = if kindAt nr c.arg.toNat ≠ kindOp c.op ∨ unusedP c then 3 else if c.op = 8 then globF c.glob else if c.op = 9 then netF c.net else 0 := if_neg h
  obtain ⟨arg, op, v, m, g, ⟨ip, b, lo, hi⟩⟩ := c
  simp only [not_or] at h hf
  obtain ⟨a, rfl⟩ : ∃ a : Nat, arg = a := ⟨arg.toNat, by omega⟩
  have ha : a ≤ 3 := by omega
  rw [Int.toNat_natCast] at hf
  by_cases hk : kindAt nr a = kindOp op
  · by_cases hu : unusedP ⟨a, op, v, m, g, ⟨ip, b, lo, hi⟩⟩
    · rw [hf, if_pos (.inr hu)]
      exact checkCond_unused nr a ha op v m g ip b lo hi h.2.2.1 h.2.2.2 w hk hu
    · rw [if_neg (by rw [not_or]; exact ⟨fun hc => hc hk, hu⟩)] at hf
      by_cases h8 : op = 8
      · rw [hf, if_pos h8]
        subst h8
        exact checkCond_like nr a ha v m g ip b lo hi hc w hk hu
      · by_cases h9 : op = 9
        · rw [hf, if_neg h8, if_pos h9]
          subst h9
          exact checkCond_net nr a ha v m g ip b lo hi hc w hk hu
        · rw [hf, if_neg h8, if_neg h9]
          exact checkCond_num nr a ha op v m g ip b lo hi h.2.2.1 h.2.2.2 hc h8 h9 w hk hu
  · rw [hf, if_pos (.inl hk)]
    exact checkCond_kind nr a ha op v m g ip b lo hi h.2.2.1 h.2.2.2 w hk
end Go.Proofs.YtkogafponpjdnaaGreatDoor

/- policy.Check: rules, and a policy. -/
namespace Go.Proofs.YtkogafponpjdnaaGreatDoor
open Go.RowKit Go.Sort

theorem one_box (w : World) (x : Array Value) (tx : TypeId) : ∃ V, V = w.alloc (.cells x tx) ∧ Below w.heap.size w V ∧ w.heap.size < V.heap.size ∧ (∀ j : Nat, V.cell? ⟨w.heap.size, j, none⟩ = x[j]?) :=
  ⟨_, rfl, box_below w _, by rw [World.size_alloc]; omega, fun j => World.cell?_alloc_new w x tx j⟩

theorem keep_cell {X Y : World} {b o : Nat} {v : Value} (hb : Below X.heap.size X Y) (h : X.cell? ⟨b, o, none⟩ = some v) : Y.cell? ⟨b, o, none⟩ = some v := ((bcell hb).1 b o (block_lt_of_cell h)).trans h

theorem below_undrew {B : Nat} {a w : World} (h : Below B a.drew w) : Below B a w := ⟨h.os, h.tape, h.output, h.size, h.block⟩
theorem forget_any {R : World → Prop} {W0 : World} (F : World → Prop) (h : F W0) (H : ∀ W, F W → R W) : R W0 := H _ h
/-- The world with the kinds laid at kb. -/
structure KX (V : World) (k kb : Nat) (X : World) : Prop where
  below : Below V.heap.size V X
  kinds : ∀ j, j < 4 → X.cell? ⟨kb, j, none⟩ = some (.int .i64 (kindAt k j : Nat))
theorem take_next {α : Type} {cs : List α} {i : Nat} (h : i < cs.length) : ∃ c, cs[i]? = some c ∧ cs.take (i + 1) = cs.take i ++ [c] :=
  ⟨cs[i], List.getElem?_eq_getElem h, by rw [List.take_add_one, List.getElem?_eq_getElem h]; rfl⟩
theorem firstF_append : ∀ a b : List Nat, firstF (a ++ b) = if firstF a = 0 then firstF b else firstF a
  | [], b => by simp [firstF]
  | x :: r, b => by
    rw [List.cons_append, firstF, firstF]
    by_cases h : x = 0
    · rw [if_pos h, if_pos h, firstF_append r b]
    · rw [if_neg h, if_neg h, if_neg h]
theorem firstF_one (x : Nat) : firstF [x] = x := by
  by_cases h : x = 0
  · simp [firstF, h]
  · simp [firstF]
    omega
theorem four {j : Nat} (h : j < 4) : j = 0 ∨ j = 1 ∨ j = 2 ∨ j = 3 := by omega
theorem KX.made {V w1 : World} {k : Nat} (hb : Below V.heap.size V w1) : KX V k w1.heap.size (w1.alloc (.cells #[.int .i64 (kindAt k 0 : Nat), .int .i64 (kindAt k 1 : Nat), .int .i64 (kindAt k 2 : Nat), .int .i64 (kindAt k 3 : Nat)] 101)) :=
  ⟨hb.alloc hb.size _, fun j hj => by
    rw [World.cell?_alloc_new]
    rcases four hj with rfl | rfl | rfl | rfl <;> rfl⟩
theorem sc {X : World} {b j : Nat} {v : Value} (h : X.cell? ⟨b, j, none⟩ = some v) (i : Nat) (u : Value) : (X.setCell ⟨b, i, none⟩ u).cell? ⟨b, j, none⟩ = some (if i = j then u else v) := by
  by_cases e : i = j
  · subst e
    rw [if_pos rfl]
    exact World.cell?_setCell_same _ _ _ h
  · rw [if_neg e, World.cell?_setCell_other _ _ _ _ (by simp_all)]
    exact h
theorem drewA {V w1 : World} (hb : Below V.drew.heap.size V.drew w1) : Below V.heap.size V w1 := ⟨hb.os, hb.tape, hb.output, hb.size, hb.block⟩
theorem drewB {V w1 : World} {o : Obj} (hb : Below (V.alloc o).drew.heap.size (V.alloc o).drew w1) : Below V.heap.size V w1 := below_next (box_below V o) (drewA hb)
theorem KX.set {V w1 : World} {k : Nat} (hb : Below V.heap.size V w1) (h : ∀ j, j < 4 → w1.cell? ⟨V.heap.size, j, none⟩ = some (.int .i64 0)) : KX V k V.heap.size ((((w1.setCell ⟨V.heap.size, 0, none⟩ (.int .i64 (kindAt k 0 : Nat))).setCell ⟨V.heap.size, 1, none⟩ (.int .i64 (kindAt k 1 : Nat))).setCell ⟨V.heap.size, 2, none⟩ (.int .i64 (kindAt k 2 : Nat))).setCell ⟨V.heap.size, 3, none⟩ (.int .i64 (kindAt k 3 : Nat))) := by
  refine ⟨?_, fun j hj => ?_⟩
  · exact (((hb.setCell (p := ⟨V.heap.size, 0, none⟩) (Nat.le_refl _) _).setCell (p := ⟨V.heap.size, 1, none⟩) (Nat.le_refl _) _).setCell (p := ⟨V.heap.size, 2, none⟩) (Nat.le_refl _) _).setCell (p := ⟨V.heap.size, 3, none⟩) (Nat.le_refl _) _
  · rw [sc (sc (sc (sc (h j hj) 0 _) 1 _) 2 _) 3 _]
    rcases four hj with rfl | rfl | rfl | rfl <;> rfl

set_option maxHeartbeats 4000000 in
theorem checkRule_any (r : RL) (oa : Option Addr) (cap : Nat) (w : World) (hc : IsConds oa r.conds w) (hr : RlOk r) (hcap : r.conds.length ≤ cap ∧ cap ≤ maxLen) :
    Calls Tryz.prog 28 #[ruleV r oa cap] w fun e w' => e = .returned (errV (ruleF r)) ∧ Below w.heap.size w w' := by
  obtain ⟨nr, cs, ⟨ak, ae⟩⟩ := r
  unfold ruleV
  simp only at hc hcap ⊢
  obtain ⟨n, hn⟩ : ∃ n, n = cs.length := ⟨_, rfl⟩
  rw [← hn] at hcap ⊢
  have hmax : n ≤ 9223372036854775807 := by have := hcap.2; unfold maxLen at this; omega
  by_cases h0 : nr < 0 ∨ 8 < nr
  · rw [show ruleF ⟨nr, cs, ⟨ak, ae⟩⟩ = 1 from if_pos h0]
    go_enter Tryz.func28, Tryz.ntmps28
    go_wp2
    all_goals first
      | omega
      | (go_ret
         exact ⟨rfl, box_below _ _⟩)
  have hf0 : ruleF ⟨nr, cs, ⟨ak, ae⟩⟩ = if 4 < cs.length then 2 else if firstF (cs.map (condF nr.toNat)) = 0 then actF ⟨ak, ae⟩ else firstF (cs.map (condF nr.toNat)) := if_neg h0
  obtain ⟨k, rfl⟩ : ∃ k : Nat, nr = k := ⟨nr.toNat, by omega⟩
  have hk8 : k ≤ 8 := by omega
  rw [Int.toNat_natCast, ← hn] at hf0
  have i1 : ¬ (k : Int) < 0 := by omega
  have i2 : ¬ (9 : Int) ≤ k := by omega
  by_cases h4 : 4 < n
  · have HF := hide (hf0.trans (if_pos h4))
    clear hf0 hn
    go_enter Tryz.func28, Tryz.ntmps28
    go_wp2
    go_ret
    exact ⟨by rw [HF.out]; rfl, box_below _ _⟩
  rw [if_neg h4] at hf0
  have HF := hide hf0
  have HN := hide hn
  have HC := hide (show 0 < n → ∃ b off, oa = some ⟨b, off, none⟩ ∧ b < w.heap.size ∧ Hid (∀ i c, cs[i]? = some c → CondAt w b (off + i * 9) c) from fun h => by
    obtain ⟨b, off, q1, q2, q3⟩ := hc.lie (by omega)
    exact ⟨b, off, q1, q2, hide q3⟩)
  have HL := hide (show ∀ i, i < n → ∃ c, cs[i]? = some c ∧ cs.take (i + 1) = cs.take i ++ [c] from fun i h => take_next (by omega))
  clear hc hr
  have i3 : ¬ (4 : Int) < n := by omega
  have fx := forms_index k hk8
  have fk := form_kinds k
  unfold kindsV at fk
  have HFO := forms_any
  obtain ⟨FA, hFA⟩ : ∃ a, a = formsArr := ⟨_, rfl⟩
  rw [← hFA] at fx HFO
  obtain ⟨FV, hFV⟩ : ∃ a, a = formV k := ⟨_, rfl⟩
  rw [← hFV] at fx fk
  clear hFA hFV hf0 hn h0 hcap
  go_enter Tryz.func28, Tryz.ntmps28
  go_wp2
  obtain ⟨V, hV, hB, hsz, hx⟩ := one_box w #[.int .i64 k, .slice oa n cap, .int .i64 ak, .int .i64 ae] 65
  rw [← hV]
  clear hV
  have c0 := hx 0
  obtain ⟨Z, hZ⟩ : ∃ Z : Obj, Z = .cells #[.int .i64 0, .int .i64 0, .int .i64 0, .int .i64 0] 101 := ⟨_, rfl⟩
  have z0 : ∀ j : Nat, j < 4 → (V.alloc Z).cell? ⟨V.heap.size, j, none⟩ = some (.int .i64 0) := fun j hj => by
    rw [hZ, World.cell?_alloc_new]
    rcases (by omega : j = 0 ∨ j = 1 ∨ j = 2 ∨ j = 3) with rfl | rfl | rfl | rfl <;> rfl
  have z1 : ∀ j : Nat, (V.alloc Z).frozen? ⟨V.heap.size, j, none⟩ = false := fun j => by rw [hZ]; exact World.frozen?_alloc_new _ _ _ _
  rw [hZ] at z0 z1
  clear hZ
  go_region_with (first
    | (go_at_call 48; refine (HFO V.drew).mono ?_; rintro e w1 ⟨rfl, hb1⟩; have c1 := keep_cell (o := 0) (v := .int .i64 k) (b := w.heap.size) hb1 c0; have l1 : w.heap.size < w1.heap.size := block_lt_of_cell c1; have HK := hide (KX.made (k := k) (drewA hb1)))
    | (go_at_call 48; refine (HFO (V.alloc _).drew).mono ?_; rintro e w1 ⟨rfl, hb1⟩; have c1 := keep_cell (o := 0) (v := .int .i64 k) (b := w.heap.size) hb1 (keep_cell (box_below V _) c0 : (V.alloc _).cell? _ = _); have l1 : w.heap.size < w1.heap.size := block_lt_of_cell c1; have d0 := keep_cell hb1 (z0 0 (by omega)); have d1 := keep_cell hb1 (z0 1 (by omega)); have d2 := keep_cell hb1 (z0 2 (by omega)); have d3 := keep_cell hb1 (z0 3 (by omega)); have f0 := ((bcell hb1).2 V.heap.size 0 (block_lt_of_cell (z0 0 (by omega)))).trans (z1 0); have f1 := ((bcell hb1).2 V.heap.size 1 (block_lt_of_cell (z0 0 (by omega)))).trans (z1 1); have f2 := ((bcell hb1).2 V.heap.size 2 (block_lt_of_cell (z0 0 (by omega)))).trans (z1 2); have f3 := ((bcell hb1).2 V.heap.size 3 (block_lt_of_cell (z0 0 (by omega)))).trans (z1 3); have HK := hide (KX.set (k := k) (drewB hb1) (fun j hj => keep_cell hb1 (z0 j hj)))))
  all_goals
    refine forget_any (KX V k _) HK.out ?_
    clear HK
    intro X hX
    have k0 := keep_cell hX.below (hx 0)
    have k1 := keep_cell hX.below (hx 1)
    have k2 := keep_cell hX.below (hx 2)
    have k3 := keep_cell hX.below (hx 3)
    go_wp2
    go_loopw [28] (fun I w' => ∃ i : Nat, i ≤ n ∧ I = .int .i64 i ∧ Hid (Below X.heap.size X w') ∧ Hid (firstF ((cs.take i).map (condF k)) = 0)) (fun I _ => n - (intOf I).toNat)
    case atStart => exact ⟨0, by omega, rfl, hide (Below.refl _ _), hide rfl⟩
    case round =>
      obtain ⟨i, hi, rfl, HB, HG⟩ := hrel
      by_cases hlt : i < n
      · obtain ⟨c, hcs, hcat⟩ := HL.out i hlt
        obtain ⟨b, off, rfl, hbw, HA⟩ := HC.out (by omega)
        have hA := (HA.out i c hcs).on fun j => (bcell (below_next (below_next (below_next hB hX.below) HB.out) (Below.refl _ _))).1 b j hbw
        have hok := hA.ok
        obtain ⟨f, hf⟩ : ∃ f, f = condF k c := ⟨_, rfl⟩
        have HQ := hide (show firstF ((cs.take (i + 1)).map (condF k)) = f by rw [hcat, List.map_append, firstF_append, if_pos HG.out, hf]; exact firstF_one _)
        have HCC := fun w => checkCond_any k c hok w
        rw [← hf] at HCC
        clear hf hok hcs hcat
        have g1 := cell_regrown (keep_cell HB.out k1)
        have e0 := cell_regrown (keep_cell HB.out (hX.kinds 0 (by omega)))
        have e1 := cell_regrown (keep_cell HB.out (hX.kinds 1 (by omega)))
        have e2 := cell_regrown (keep_cell HB.out (hX.kinds 2 (by omega)))
        have e3 := cell_regrown (keep_cell HB.out (hX.kinds 3 (by omega)))
        obtain ⟨a0, a1, a2, a3, a4, a5, a6, a7, a8, _⟩ := hA
        replace a0 := cell_regrown a0
        replace a1 := cell_regrown a1
        replace a2 := cell_regrown a2
        replace a3 := cell_regrown a3
        replace a4 := cell_regrown a4
        replace a5 := cell_regrown a5
        replace a6 := cell_regrown a6
        replace a7 := cell_regrown a7
        replace a8 := cell_regrown a8
        obtain ⟨arg, op, v, m, gl, ⟨ip, bb, lo, hh⟩⟩ := c
        unfold condV kindsV at HCC
        simp only at a0 a1 a2 a3 a4 a5 a6 a7 a8 HCC
        obtain ⟨ev, hev⟩ : ∃ e, e = errV f := ⟨_, rfl⟩
        rw [← hev] at HCC
        have cC : ∀ d os, Calls Tryz.prog 49 #[.agg #[.int .i64 arg, .int .i64 op, .int .u64 v, .int .u64 m, .string gl, .int .u32 ip, .int .i64 bb, .int .i64 lo, .int .i64 hh], .agg #[.int .i64 (kindAt k 0 : Nat), .int .i64 (kindAt k 1 : Nat), .int .i64 (kindAt k 2 : Nat), .int .i64 (kindAt k 3 : Nat)]] (grow (redrawn wr d) os) fun e w'' => e = .returned ev ∧ ∃ p : Regrown, w'' = grow (redrawn wr p.d) p.os := fun d os => Calls.regrown_of (HCC _)
        clear HCC
        have i5 : (0 : Int) ≤ i := by omega
        have i6 : (i : Int) < n := by omega
        go_wp2
        refine wp_region_quiet_below (by kernel_rfl) (by kernel_rfl) ?_
        repeat (go_big_quiet_step (first | (go_at_call 49; exact cC _ _)))
        refine wpQuiet_nil ?_
        intro _ hw'
        obtain ⟨⟨dq, osq⟩, hw''⟩ := hw'
        subst hw''
        clear a0 a1 a2 a3 a4 a5 a6 a7 a8 g1 e0 e1 e2 e3 cC
        by_cases hz : f = 0
        · subst hz
          obtain rfl : ev = .nilIface := hev
          go_wp2
          go_round
          case rel => exact ⟨i + 1, by omega, by go_num, hide (below_next HB.out (below_regrown wr dq osq)), HQ⟩
          case measure => simp [intOf]; omega
        · rw [errV_pos hz] at hev
          subst hev
          have HE := hide (show ruleF ⟨k, cs, ⟨ak, ae⟩⟩ = f by
            have h1 : firstF (cs.map (condF k)) = f := by
              rw [← List.take_append_drop (i + 1) cs, List.map_append, firstF_append, if_neg (by rw [HQ.out]; exact hz), HQ.out]
            rw [HF.out, h1, if_neg hz])
          go_wp2
          go_ret
          exact ⟨by rw [HE.out, errV_pos hz]; rfl, below_next (below_next (below_next hB hX.below) HB.out) (below_regrown wr dq osq)⟩
      · obtain rfl : i = n := by omega
        have q2 := keep_cell HB.out k2
        have q3 := keep_cell HB.out k3
        have HE := hide (show ruleF ⟨k, cs, ⟨ak, ae⟩⟩ = actF ⟨ak, ae⟩ by
          have h1 : firstF (cs.map (condF k)) = 0 := by
            have := HG.out
            rwa [List.take_of_length_le (by rw [HN.out]; exact Nat.le_refl _)] at this
          rw [HF.out, if_pos h1])
        go_wp2_with (go_at_call 27; refine (checkAction_any ⟨ak, ae⟩ _).mono ?_; rintro e w2 ⟨rfl, hb2⟩)
        go_ret
        exact ⟨by rw [HE.out]; rfl, below_next (below_next (below_next hB hX.below) HB.out) hb2⟩
end Go.Proofs.YtkogafponpjdnaaGreatDoor

/- policy.Check: a policy. -/
namespace Go.Proofs.YtkogafponpjdnaaGreatDoor
open Go.RowKit Go.Sort

/-- What is kept of a policy's rules, for a walk. -/
theorem pol_parts {oa : Option Addr} {cap : Nat} {p : POL} {w : World} (h : IsPol oa cap p w) (n : Nat) (hn : n = p.rules.length) : 0 < n → ∃ b off, oa = some ⟨b, off, none⟩ ∧ b < w.heap.size ∧ Hid (∀ i r, p.rules[i]? = some r → ∃ ca ccap, RuleAt w b (off + i * 4) r ca ccap) := fun h0 => by
  obtain ⟨b, off, q1, q2, q3⟩ := h.rules.lie (by omega)
  exact ⟨b, off, q1, q2, hide q3⟩

set_option maxHeartbeats 4000000 in
theorem pcheck_any (p : POL) (oa : Option Addr) (cap : Nat) (w : World) (h : IsPol oa cap p w) :
    Calls Tryz.prog 14 #[polV p oa cap] w fun e w' => e = .returned (errV (polF p)) ∧ Below w.heap.size w w' := by
  obtain ⟨n, hn⟩ : ∃ n, n = p.rules.length := ⟨_, rfl⟩
  have HC := hide (pol_parts h n hn)
  have hmax : n ≤ 9223372036854775807 := by have h1 := h.le; have h2 := h.cap; unfold maxLen at h2; omega
  clear h
  obtain ⟨rs, ⟨ak, ae⟩⟩ := p
  unfold polV
  simp only at HC hn ⊢
  rw [← hn]
  have hf0 : polF ⟨rs, ⟨ak, ae⟩⟩ = if 12 < n then 2 else if actF ⟨ak, ae⟩ = 0 then firstF (rs.map ruleF) else actF ⟨ak, ae⟩ := by rw [hn]; rfl
  by_cases h4 : 12 < n
  · have HF := hide (hf0.trans (if_pos h4))
    clear hf0 hn
    go_enter Tryz.func14, Tryz.ntmps14
    go_wp2
    go_ret
    exact ⟨by rw [HF.out]; rfl, box_below _ _⟩
  rw [if_neg h4] at hf0
  have HA := checkAction_any ⟨ak, ae⟩
  obtain ⟨f0, hf⟩ : ∃ f, f = actF ⟨ak, ae⟩ := ⟨_, rfl⟩
  rw [← hf] at HA hf0
  have HF := hide hf0
  have HN := hide hn
  have HL := hide (show ∀ i, i < n → ∃ c, rs[i]? = some c ∧ rs.take (i + 1) = rs.take i ++ [c] from fun i h => take_next (by omega))
  clear hf0 hn hf
  unfold actV at HA
  simp only at HA
  by_cases hz0 : f0 = 0
  · subst hz0
    rw [if_pos rfl] at HF
    rw [errV_zero] at HA
    go_enter Tryz.func14, Tryz.ntmps14
    obtain ⟨V, hV, hB, hsz, hx⟩ := one_box w #[.slice oa n cap, .int .i64 ak, .int .i64 ae] 26
    go_wp2_with (go_at_call 27; rw [← hV]; clear hV; refine (HA _).mono ?_; rintro e X ⟨rfl, hX⟩; have k0 := keep_cell hX (hx 0); have k1 := keep_cell hX (hx 1); have k2 := keep_cell hX (hx 2))
    go_loopw [20] (fun I w' => ∃ i : Nat, i ≤ n ∧ I = .int .i64 i ∧ Hid (Below X.heap.size X w') ∧ Hid (firstF ((rs.take i).map ruleF) = 0)) (fun I _ => n - (intOf I).toNat)
    case atStart => exact ⟨0, by omega, rfl, hide (Below.refl _ _), hide rfl⟩
    case round =>
      obtain ⟨i, hi, rfl, HB, HG⟩ := hrel
      have HW := hide (below_next (below_next hB hX) HB.out)
      by_cases hlt : i < n
      · obtain ⟨c, hcs, hcat⟩ := HL.out i hlt
        obtain ⟨b, off, rfl, hbw, HA2⟩ := HC.out (by omega)
        obtain ⟨ca, cc, hR0⟩ := HA2.out i c hcs
        have hR := hR0.on hbw HW.out
        clear hR0
        obtain ⟨f, hf⟩ : ∃ f, f = ruleF c := ⟨_, rfl⟩
        have HQ := hide (show firstF ((rs.take (i + 1)).map ruleF) = f by rw [hcat, List.map_append, firstF_append, if_pos HG.out, hf]; exact firstF_one _)
        have HCC := checkRule_any c ca cc wr hR.conds hR.ok ⟨hR.le, hR.cap⟩
        rw [← hf] at HCC
        obtain ⟨a0, a1, a2, a3, _, _, _, _⟩ := hR
        clear hf hcs hcat
        have g0 := keep_cell HB.out k0
        obtain ⟨nr, cs, ⟨rk, re⟩⟩ := c
        unfold ruleV at HCC
        simp only at a0 a1 a2 a3 HCC
        by_cases hz : f = 0
        · subst hz
          rw [errV_zero] at HCC
          go_wp2_with (go_at_call 28; refine HCC.mono ?_; rintro e w1 ⟨rfl, hb1⟩)
          go_round
          case rel => exact ⟨i + 1, by omega, by go_num, hide (below_next HB.out hb1), HQ⟩
          case measure => simp [intOf]; omega
        · rw [errV_pos hz] at HCC
          have HE := hide (show polF ⟨rs, ⟨ak, ae⟩⟩ = f by
            have h1 : firstF (rs.map ruleF) = f := by
              rw [← List.take_append_drop (i + 1) rs, List.map_append, firstF_append, if_neg (by rw [HQ.out]; exact hz), HQ.out]
            rw [HF.out, h1])
          go_wp2_with (go_at_call 28; refine HCC.mono ?_; rintro e w1 ⟨rfl, hb1⟩)
          go_ret
          exact ⟨by rw [HE.out, errV_pos hz]; rfl, below_next HW.out hb1⟩
      · obtain rfl : i = n := by omega
        have HE := hide (show polF ⟨rs, ⟨ak, ae⟩⟩ = 0 by
          have := HG.out
          rw [List.take_of_length_le (by rw [HN.out]; exact Nat.le_refl _)] at this
          rw [HF.out, this])
        go_wp2
        go_ret
        exact ⟨by rw [HE.out]; rfl, HW.out⟩
  · rw [if_neg hz0] at HF
    rw [errV_pos hz0] at HA
    go_enter Tryz.func14, Tryz.ntmps14
    go_wp2_with (go_at_call 27; refine (HA _).mono ?_; rintro e X ⟨rfl, hX⟩)
    go_ret
    exact ⟨by rw [HF.out, errV_pos hz0]; rfl, below_next (box_below _ _) hX⟩
end Go.Proofs.YtkogafponpjdnaaGreatDoor

/- What the library's variables hold. -/
namespace Go.Proofs.YtkogafponpjdnaaGreatDoor
open Go.RowKit Go.Sort

/-- A text, as Go has it. -/
def bs (l : W8) : ByteArray := ⟨l.toArray⟩
theorem bs_size (l : W8) : (bs l).size = l.length := by unfold bs; simp [ByteArray.size]
theorem bs_append (a b : W8) : bs a ++ bs b = bs (a ++ b) := by
  apply ByteArray.ext
  simp [bs, ByteArray.data_append]
theorem bs_data (l : W8) : (bs l).data.toList = l := by unfold bs; simp
theorem bs_of (g : ByteArray) : bs g.data.toList = g := by unfold bs; simp

structure EV (w : World) : Prop where
  tab : Tab w
  sign : ∀ i, i < 9 → w.cell? ⟨0, i, none⟩ = some (.string (bs (signW.getD i [])))
  maxl : ∃ m, w.cell? ⟨1, 0, none⟩ = some (.int .i64 m)
  syn : ∃ ev, w.cell? ⟨5, 0, none⟩ = some ev ∧ (ev = .nilIface ∨ ∃ te pe, ev = .iface te pe)
  rng : ∃ ev, w.cell? ⟨6, 0, none⟩ = some ev ∧ (ev = .nilIface ∨ ∃ te pe, ev = .iface te pe)
theorem EV.on {w w' : World} (h : EV w) (hb : Below w.heap.size w w') : EV w' :=
  ⟨tab_on h.tab hb, fun i hi => keep_cell hb (h.sign i hi), by
    obtain ⟨m, hm⟩ := h.maxl
    exact ⟨m, keep_cell hb hm⟩, by
    obtain ⟨m, hm, hx⟩ := h.syn
    exact ⟨m, keep_cell hb hm, hx⟩, by
    obtain ⟨m, hm, hx⟩ := h.rng
    exact ⟨m, keep_cell hb hm, hx⟩⟩

theorem actText_any (a : ACT) (h : actF a = 0) (w : World) (hE : EV w) : Calls Tryz.prog 42 #[actV a] w fun e w' => e = .returned (.string (bs (joinC 32 (actW a)))) ∧ Below w.heap.size w w' := by
  rcases act_cases h with rfl | rfl | ⟨n, h1, h2, rfl⟩
  · unfold actV
    go_enter Tryz.func42, Tryz.ntmps42
    go_wp2
    go_ret
    exact ⟨rfl, box_below _ _⟩
  · unfold actV
    go_enter Tryz.func42, Tryz.ntmps42
    go_wp2
    go_ret
    exact ⟨rfl, box_below _ _⟩
  · have HI := fun X hX => itoa_any n (by omega) X hX
    have hl : (Lib.decDigits n).length ≤ 20 := nDigits_le20 n (by omega)
    obtain ⟨d, hd⟩ : ∃ d : ByteArray, d = ⟨(Lib.decDigits n).toArray⟩ := ⟨_, rfl⟩
    have hds : d.size ≤ 20 := by rw [hd]; simpa [ByteArray.size] using hl
    rw [← hd] at HI
    have HV := hide (show bs (joinC 32 (actW ⟨2, n⟩)) = ⟨#[100, 101, 110, 121, 32]⟩ ++ d by
      rw [hd, show (⟨#[100, 101, 110, 121, 32]⟩ : ByteArray) = bs [100, 101, 110, 121, 32] from rfl, show (⟨(Lib.decDigits n).toArray⟩ : ByteArray) = bs (Lib.decDigits n) from rfl, bs_append]
      simp [actW, joinC, wDeny])
    have HE := hide hE
    clear hd hE h hl
    have z1 : ¬ 9223372036854775807 < 5 + d.size := by omega
    unfold actV
    simp only
    go_enter Tryz.func42, Tryz.ntmps42
    go_wp2_with (go_at_call 63; refine (HI _ (HE.out.on (box_below _ _)).tab).mono ?_; rintro e w' ⟨rfl, hb⟩)
    go_ret
    exact ⟨by rw [HV.out]; rfl, below_next (box_below _ _) hb⟩
end Go.Proofs.YtkogafponpjdnaaGreatDoor

/- A byte of an address. -/
namespace Go.Proofs.YtkogafponpjdnaaGreatDoor
open Go.RowKit

/-- A byte of an address, the highest at 0. -/
def ipB (ip i : Nat) : Nat := ip / 2 ^ (24 - 8 * i) % 256

theorem ipByte_any (ip i : Nat) (_hip : ip < 4294967296) (hi : i ≤ 3) (w : World) : Calls Tryz.prog 124 #[.int .u32 ip, .int .i64 i] w fun e w' => e = .returned (.int .u8 (ipB ip i)) ∧ w' = w := by
  go_enter Tryz.func124, Tryz.ntmps124
  go_wp2
  go_ret
  refine ⟨?_, rfl⟩
  refine ret_int ?_
  unfold ipB
  simp
theorem ipB_lt (ip i : Nat) : ipB ip i < 256 := Nat.mod_lt _ (by decide)
end Go.Proofs.YtkogafponpjdnaaGreatDoor

/- A string's bytes as numbers; '|' of numbers that share no bit. -/
namespace Go.Proofs.YtkogafponpjdnaaGreatDoor
open Go.RowKit

def byteAt (s : ByteArray) (i : Nat) : Nat := (s.data.toList.getD i 0).toNat
theorem byteAt_lt (s : ByteArray) (i : Nat) : byteAt s i < 256 := (s.data.toList.getD i 0).toNat_lt
theorem byteAt_eq (s : ByteArray) (i : Nat) (h : i < s.size) : s[i].toNat = byteAt s i := by
  unfold byteAt
  rw [List.getD_eq_getElem?_getD, List.getElem?_eq_getElem (by rw [← Lib.size_eq]; exact h)]
  rfl
theorem or8 (a b : Nat) (hb : b < 256) : a * 256 ||| b = a * 256 + b := by
  have := Nat.shiftLeft_add_eq_or_of_lt (i := 8) (b := b) (by omega) a
  rw [Nat.shiftLeft_eq] at this
  exact this.symm
theorem u32_or8 (a b : Nat) (ha : a < 16777216) (hb : b < 256) : bits .or .u32 ((a : Int) * 256) (b : Int) = ((a * 256 + b : Nat) : Int) := by
  rw [show (a : Int) * 256 = ((a * 256 : Nat) : Int) by simp, u32_or_nat _ _ (by omega) (by omega), or8 a b hb]
theorem i64_or_nat (a b : Nat) (ha : a < 9223372036854775808) (hb : b < 9223372036854775808) : bits .or .i64 (a : Int) (b : Int) = ((a ||| b : Nat) : Int) := by
  have hx : a ||| b < 2 ^ 63 := Nat.or_lt_two_pow (by omega) (by omega)
  have h1 : (BitVec.ofInt 64 (a : Int)).toNat = a := by rw [BitVec.ofInt_natCast, BitVec.toNat_ofNat]; exact Nat.mod_eq_of_lt (by omega)
  have h2 : (BitVec.ofInt 64 (b : Int)).toNat = b := by rw [BitVec.ofInt_natCast, BitVec.toNat_ofNat]; exact Nat.mod_eq_of_lt (by omega)
  show IntKind.i64.wrap ((BitVec.ofInt 64 (a : Int) ||| BitVec.ofInt 64 (b : Int)).toNat : Int) = _
  rw [BitVec.toNat_or, h1, h2]
  rw [IntKind.wrap_i64]
  omega
theorem i64_or8 (a b : Nat) (ha : a < 256) (hb : b < 256) : bits .or .i64 ((a : Int) * 256) (b : Int) = ((a * 256 + b : Nat) : Int) := by
  rw [show (a : Int) * 256 = ((a * 256 : Nat) : Int) by simp, i64_or_nat _ _ (by omega) (by omega), or8 a b hb]
end Go.Proofs.YtkogafponpjdnaaGreatDoor

/- addr.number: digits read. -/
namespace Go.Proofs.YtkogafponpjdnaaGreatDoor
open Go.RowKit

def numV : Option Nat → Value
  | none => .tuple #[.int .i64 0, .bool false]
  | some n => .tuple #[.int .i64 n, .bool true]

theorem byte_list (s : ByteArray) (k : Nat) (h : k < s.size) : s.data.toList.take (k + 1) = s.data.toList.take k ++ [UInt8.ofNat (byteAt s k)] := by
  have hk : k < s.data.toList.length := by rw [← Lib.size_eq]; exact h
  rw [List.take_add_one, List.getElem?_eq_getElem hk]
  unfold byteAt
  rw [List.getD_eq_getElem?_getD, List.getElem?_eq_getElem hk]
  simp
theorem isDig_byte (n : Nat) (h : n < 256) : isDig (UInt8.ofNat n) = (decide (48 ≤ n) && decide (n ≤ 57)) := by
  unfold isDig
  rw [UInt8.toNat_ofNat', Nat.mod_eq_of_lt h]
theorem all_take (l : List UInt8) (k : Nat) (h : (l.take k).all isDig = false) : l.all isDig = false := by
  cases hb : l.all isDig with
  | false => rfl
  | true =>
    rw [List.all_eq_true] at hb
    have : (l.take k).all isDig = true := List.all_eq_true.2 fun x hx => hb x (List.mem_of_mem_take hx)
    rw [h] at this
    cases this

theorem number_any (s : ByteArray) (hs : s.size < 4294967296) (w : World) : Calls Tryz.prog 143 #[.string s] w fun e w' => e = .returned (numV (numR s.data.toList)) ∧ ∃ n, w' = w.drewN n := by
  by_cases h0 : s.size = 0
  · have HV := hide (show numR s.data.toList = none by unfold numR; rw [if_pos (Or.inl (by rw [← Lib.size_eq]; exact h0))])
    go_enter Tryz.func143, Tryz.ntmps143
    go_wp2
    go_ret2
    exact ⟨by rw [HV.out]; rfl, 0, rfl⟩
  · have b0 : ((s.size : Int) == 0) = false := by rw [beq_eq_false_iff_ne]; omega
    by_cases h5 : 5 < s.size
    · have HV := hide (show numR s.data.toList = none by unfold numR; rw [if_pos (Or.inr (Or.inl (by rw [← Lib.size_eq]; exact h5)))])
      go_enter Tryz.func143, Tryz.ntmps143
      go_wp2
      go_ret2
      exact ⟨by rw [HV.out]; rfl, 0, rfl⟩
    · have e0 := byteAt_eq s 0 (by omega)
      have hd : s.data.toList.head? = some (UInt8.ofNat (byteAt s 0)) := by
        have := byte_list s 0 (by omega)
        cases hl : s.data.toList with
        | nil => rw [hl] at this; simp at this
        | cons x r => rw [hl] at this; simpa using this
      by_cases h1 : 1 < s.size ∧ byteAt s 0 = 48
      · have HV := hide (show numR s.data.toList = none by unfold numR; rw [if_pos (Or.inr (Or.inr (Or.inl ⟨by rw [← Lib.size_eq]; exact h1.1, by rw [hd, h1.2]; rfl⟩)))])
        have c1 : ((byteAt s 0 : Int) == 48) = true := by rw [beq_iff_eq]; omega
        have c2 : (1 : Int) < s.size := by omega
        clear hd
        go_enter Tryz.func143, Tryz.ntmps143
        go_wp2
        go_ret2
        exact ⟨by rw [HV.out]; rfl, 0, rfl⟩
      · have HR := hide (show numR s.data.toList = if s.data.toList.all isDig = false then none else some (digVal 0 s.data.toList) by
          unfold numR
          rw [hd]
          by_cases ha : s.data.toList.all isDig = false
          · rw [if_pos (Or.inr (Or.inr (Or.inr ha))), if_pos ha]
          · rw [if_neg ha, if_neg]
            rw [← Lib.size_eq]
            rintro (h | h | ⟨h, h'⟩ | h)
            · omega
            · omega
            · refine h1 ⟨h, ?_⟩
              have := congrArg UInt8.toNat (Option.some.inj h')
              rw [UInt8.toNat_ofNat', Nat.mod_eq_of_lt (byteAt_lt s 0)] at this
              exact this
            · exact ha h)
        have hk : (1 : Int) < s.size → ((byteAt s 0 : Int) == 48) = false := fun h => by rw [beq_eq_false_iff_ne]; intro h'; exact h1 ⟨by omega, by omega⟩
        clear hd h1
        go_enter Tryz.func143, Tryz.ntmps143
        go_wp2
        all_goals
          go_loopw [26, 4] (fun i x w' => ∃ k m : Nat, k ≤ s.size ∧ i = .int .i64 k ∧ (∃ n : Nat, n < 100000 ∧ x = .int .i64 n ∧ Hid (n = digVal 0 (s.data.toList.take k))) ∧ w' = w.drewN m ∧ Hid ((s.data.toList.take k).all isDig = true)) (fun i _ _ => s.size - (intOf i).toNat)
          case atStart => exact ⟨0, 0, by omega, rfl, ⟨0, by omega, rfl, hide rfl⟩, rfl, hide rfl⟩
          case round =>
            obtain ⟨k, m, hk, rfl, ⟨n, hn, rfl, HN⟩, rfl, HA⟩ := hrel
            by_cases hlt : k < s.size
            · have ek := byteAt_eq s k hlt
              have lk := byteAt_lt s k
              have HB := hide (byte_list s k hlt)
              by_cases hdg : 48 ≤ byteAt s k ∧ byteAt s k ≤ 57
              · have HA2 := hide (show (s.data.toList.take (k + 1)).all isDig = true by rw [HB.out, List.all_append, HA.out]; simp [isDig_byte _ lk, hdg.1, hdg.2])
                have HN2 := hide (show n * 10 + (byteAt s k - 48) = digVal 0 (s.data.toList.take (k + 1)) by rw [HB.out, digVal_snoc, ← HN.out, UInt8.toNat_ofNat', Nat.mod_eq_of_lt lk])
                have hn2 : n * 10 + (byteAt s k - 48) < 100000 := by
                  have h1 := digVal_lt _ 0 HA2.out
                  rw [← HN2.out, List.length_take, ← Lib.size_eq] at h1
                  have h2 : 10 ^ min (k + 1) s.size ≤ 10 ^ 5 := Nat.pow_le_pow_right (by decide) (by omega)
                  omega
                go_wp2
                go_round
                case rel => exact ⟨k + 1, m, by omega, by go_num, ⟨n * 10 + (byteAt s k - 48), hn2, by go_num, HN2⟩, rfl, HA2⟩
                case measure => simp [intOf]; omega
              · have HV := hide (show numR s.data.toList = none by
                  rw [HR.out, if_pos]
                  refine all_take _ (k + 1) ?_
                  rw [HB.out, List.all_append, HA.out]
                  simp only [List.all_cons, List.all_nil, isDig_byte _ lk, Bool.and_true, Bool.true_and]
                  rw [Bool.and_eq_false_iff]
                  simp
                  omega)
                go_wp2
                all_goals
                  go_ret2
                  exact ⟨by rw [HV.out]; rfl, m, rfl⟩
            · obtain rfl : k = s.size := by omega
              have HV := hide (show numR s.data.toList = some n by
                rw [List.take_of_length_le (by rw [← Lib.size_eq]; omega)] at HN HA
                rw [HR.out, HA.out, if_neg (by decide), ← HN.out])
              go_wp2
              go_ret2
              exact ⟨by rw [HV.out]; rfl, m, rfl⟩
end Go.Proofs.YtkogafponpjdnaaGreatDoor

/- addr.split: the numbers of a net's text. -/
namespace Go.Proofs.YtkogafponpjdnaaGreatDoor
open Go.RowKit

/-- Seven numbers in a row of cells, noughts behind those that are there. -/
def padN (ns : List Nat) : Array Value := #[.int .i64 (ns.getD 0 0), .int .i64 (ns.getD 1 0), .int .i64 (ns.getD 2 0), .int .i64 (ns.getD 3 0), .int .i64 (ns.getD 4 0), .int .i64 (ns.getD 5 0), .int .i64 (ns.getD 6 0)]

def signsB : ByteArray := ⟨#[46, 46, 46, 47, 58, 45]⟩

theorem signs_extract (k : Nat) (hk : k < 6) : (⟨#[46, 46, 46, 47, 58, 45]⟩ : ByteArray).extract k (k + 1) = ⟨#[signsL.getD k 0]⟩ := by
  match k, hk with
  | 0, _ => rfl
  | 1, _ => rfl
  | 2, _ => rfl
  | 3, _ => rfl
  | 4, _ => rfl
  | 5, _ => rfl
theorem signs_drop (k : Nat) (hk : k < 6) : signsL.drop k = signsL.getD k 0 :: signsL.drop (k + 1) := by
  match k, hk with
  | 0, _ => rfl
  | 1, _ => rfl
  | 2, _ => rfl
  | 3, _ => rfl
  | 4, _ => rfl
  | 5, _ => rfl

theorem cutS_hit (s : ByteArray) (k : Nat) (hk : k < 6) (i : Nat) (hi : Lib.indexByte s.data.toList (signsL.getD k 0) = i) (hs : s.size < 4294967296) (w : World) :
    Calls Tryz.prog 142 #[.string s, .string ((⟨#[46, 46, 46, 47, 58, 45]⟩ : ByteArray).extract k (k + 1))] w fun e w' => e = .returned (.tuple #[.string (s.extract 0 i), .string (s.extract (i + 1) s.size), .bool true]) ∧ ∃ n, w' = w.drewN n := by
  rw [signs_extract k hk]
  exact cut_hit s _ i hi hs w
theorem cutS_miss (s : ByteArray) (k : Nat) (hk : k < 6) (hi : Lib.indexByte s.data.toList (signsL.getD k 0) < 0) (w : World) :
    Calls Tryz.prog 142 #[.string s, .string ((⟨#[46, 46, 46, 47, 58, 45]⟩ : ByteArray).extract k (k + 1))] w fun e w' => e = .returned (.tuple #[.string s, .string ⟨#[]⟩, .bool false]) ∧ ∃ n, w' = w.drewN n := by
  rw [signs_extract k hk]
  exact cut_miss s _ hi w
theorem number_some (s : ByteArray) (n : Nat) (h : numR s.data.toList = some n) (hs : s.size < 4294967296) (w : World) : Calls Tryz.prog 143 #[.string s] w fun e w' => e = .returned (.tuple #[.int .i64 n, .bool true]) ∧ ∃ n, w' = w.drewN n :=
  (number_any s hs w).mono fun e w' ⟨he, hw⟩ => ⟨by rw [he, h]; rfl, hw⟩
theorem number_none (s : ByteArray) (h : numR s.data.toList = none) (hs : s.size < 4294967296) (w : World) : Calls Tryz.prog 143 #[.string s] w fun e w' => e = .returned (.tuple #[.int .i64 0, .bool false]) ∧ ∃ n, w' = w.drewN n :=
  (number_any s hs w).mono fun e w' ⟨he, hw⟩ => ⟨by rw [he, h]; rfl, hw⟩
theorem number_opt (s : ByteArray) (hs : s.size < 4294967296) (w : World) : Calls Tryz.prog 143 #[.string s] w fun e w' => (∃ (a : Int) (b : Bool), e = .returned (.tuple #[.int .i64 a, .bool b])) ∧ ∃ n, w' = w.drewN n :=
  (number_any s hs w).mono fun e w' ⟨he, hw⟩ => ⟨by cases h : numR s.data.toList <;> rw [he, h] <;> exact ⟨_, _, rfl⟩, hw⟩

/-- The world in the midst of split: the numbers' block, some draws. -/
def SW (w : World) (ns : List Nat) (m : Nat) : World := ((w.alloc (.cells (padN []) 159)).alloc (.cells (padN ns) 159)).drewN m
theorem SW_heap (w : World) (ns : List Nat) (m : Nat) : (SW w ns m).heap[w.heap.size + 1]? = some (.cells (padN ns) 159 (0, 0)) := heap_alloc2_new w _ _
theorem SW_heap0 (w : World) (ns : List Nat) (m : Nat) : (SW w ns m).heap[w.heap.size]? = some (.cells (padN []) 159 (0, 0)) := heap_alloc2_old w _ _
theorem SW_drewN (w : World) (ns : List Nat) (m n : Nat) : (SW w ns m).drewN n = SW w ns (m + n) := by unfold SW; rw [World.drewN_drewN]
theorem SW_start (w : World) : SW w [] 0 = (w.alloc (.cells (padN []) 159)).alloc (.cells (padN []) 159) := World.drewN_zero _
theorem SW_below (w : World) (ns : List Nat) (m : Nat) : Below w.heap.size w (SW w ns m) := below_drewN' (((Below.refl _ _).alloc (Nat.le_refl _) _).alloc (by simp) _) m
theorem padN_get (ns : List Nat) (k : Nat) (hk : k < 7) : (padN ns)[k]? = some (.int .i64 (ns.getD k 0)) := by
  match k, hk with
  | 0, _ => rfl
  | 1, _ => rfl
  | 2, _ => rfl
  | 3, _ => rfl
  | 4, _ => rfl
  | 5, _ => rfl
  | 6, _ => rfl
theorem getD_app (ns : List Nat) (n j : Nat) : (ns ++ [n]).getD j 0 = if j = ns.length then n else ns.getD j 0 := by
  rw [List.getD_eq_getElem?_getD, List.getD_eq_getElem?_getD, List.getElem?_append]
  by_cases h : j < ns.length
  · rw [if_pos h, if_neg (by omega)]
  · rw [if_neg h]
    by_cases h2 : j = ns.length
    · rw [if_pos h2, h2]; simp
    · rw [if_neg h2, List.getElem?_eq_none (by simp; omega), List.getElem?_eq_none (by omega)]
theorem padN_set (ns : List Nat) (n k : Nat) (hl : ns.length = k) (hk : k < 7) : (padN ns).setIfInBounds k (.int .i64 n) = padN (ns ++ [n]) := by
  subst hl
  apply Array.ext_getElem?
  intro j
  rw [Array.getElem?_setIfInBounds]
  by_cases hj : j < 7
  · rw [padN_get _ j hj, padN_get _ j hj, getD_app]
    by_cases h : j = ns.length
    · rw [if_pos h, if_pos h.symm, if_pos (by show ns.length < 7; exact hk)]
    · rw [if_neg h, if_neg (fun e => h e.symm)]
  · rw [if_neg (by omega), Array.getElem?_eq_none (by show 7 ≤ j; omega), Array.getElem?_eq_none (by show 7 ≤ j; omega)]
theorem SW_cell (w : World) (ns : List Nat) (m k : Nat) (hk : k < 7) : (SW w ns m).cell? ⟨w.heap.size + 1, k, none⟩ = some (.int .i64 (ns.getD k 0)) := by
  rw [cell_of_row _ _ k _ _ _ (SW_heap w ns m), padN_get ns k hk]
theorem SW_frozen (w : World) (ns : List Nat) (m k : Nat) : (SW w ns m).frozen? ⟨w.heap.size + 1, k, none⟩ = false := frozen_of_row _ _ k _ _ (SW_heap w ns m)
theorem SW_set (w : World) (ns : List Nat) (m n k : Nat) (hl : ns.length = k) (hk : k < 7) : (SW w ns m).setCell ⟨w.heap.size + 1, k, none⟩ (.int .i64 n) = SW w (ns ++ [n]) m := by
  rw [setCell_eq_setRow _ _ k _ _ _ _ (SW_heap w ns m), padN_set ns n k hl hk]
  have h := World.setRow_alloc_new (w.alloc (.cells (padN []) 159)) (padN ns) (padN (ns ++ [n])) 159
  rw [show (w.alloc (.cells (padN []) 159)).heap.size = w.heap.size + 1 by simp] at h
  exact congrArg (World.drewN · m) h

theorem SW_row (w : World) (ns ns' : List Nat) (m k : Nat) (v : Value) (h : (padN ns).setIfInBounds k v = padN ns') : (SW w ns m).setCell ⟨w.heap.size + 1, k, none⟩ v = SW w ns' m := by
  rw [setCell_eq_setRow _ _ k _ _ _ _ (SW_heap w ns m), h]
  have h := World.setRow_alloc_new (w.alloc (.cells (padN []) 159)) (padN ns) (padN ns') 159
  rw [show (w.alloc (.cells (padN []) 159)).heap.size = w.heap.size + 1 by simp] at h
  exact congrArg (World.drewN · m) h
theorem size_arr7 : (Tryz.prog.info? 159).map (·.size) = some 7 := by kernel_rfl
theorem padN_one (ns : List Nat) : (padN ns).all (·.oneCell') = true := by simp [padN, Value.oneCell']
theorem wpList_load_pad {ops : Array Oper} {rest : List Oper} {o : Oper} {a : Act} {Q : Exit → Act → World → Prop} (hgd : o.guard = none) (x : Operand) (ho : o.op = .load 159 x) (w : World) (ns : List Nat) (m : Nat)
    (hx : a.eval x = .pointer (some ⟨w.heap.size + 1, 0, none⟩)) (h : wpList Tryz.prog ops Q rest (a.put o.dst (.agg (padN ns))) (SW w ns m)) : wpList Tryz.prog ops Q (o :: rest) a (SW w ns m) :=
  wpList_load_row hgd 159 x ho _ hx 159 (padN ns) (0, 0) _ (SW_heap w ns m) Tryz.underlying159 rfl size_arr7 h
theorem wpList_store_pad {ops : Array Oper} {rest : List Oper} {o : Oper} {a : Act} {Q : Exit → Act → World → Prop} (hgd : o.guard = none) (x y : Operand) (ho : o.op = .store 159 x y) (w : World) (ns : List Nat) (m : Nat)
    (hx : a.eval x = .pointer (some ⟨w.heap.size, 0, none⟩)) (hy : a.eval y = .agg (padN ns)) (h : wpList Tryz.prog ops Q rest (a.put o.dst undef) ((SW w ns m).setRow w.heap.size (padN ns))) : wpList Tryz.prog ops Q (o :: rest) a (SW w ns m) :=
  wpList_store_row hgd 159 x y ho _ (padN ns) hx hy 159 (padN []) (SW_heap0 w ns m) size_arr7 rfl (padN_one ns) h
/-- Numbers and a word handed back, the numbers out of their block. -/
theorem results_pad {fn : Func} {p u : Tmp} (h : fn.results = #[.cell p 159, .tmp u]) (tmps : Array Value) (w : World) (ns : List Nat) (m : Nat) (v : Value)
    (hp : tmps.getD p undef = .pointer (some ⟨w.heap.size, 0, none⟩)) (hv : tmps.getD u undef = v) :
    (results fn tmps).run Tryz.prog ((SW w ns m).setRow w.heap.size (padN ns)) = .ok (.tuple #[.agg (padN ns), v]) ((SW w ns m).setRow w.heap.size (padN ns)) := by
  rw [results_cell_tmp h, hp, hv]
  have hl := run_loadVar_row (P := Tryz.prog) ((SW w ns m).setRow w.heap.size (padN ns)) w.heap.size 159 159 (padN ns) (0, 0) _ (setRow_heap _ _ _ _ _ _ (SW_heap0 w ns m)) Tryz.underlying159 rfl size_arr7
  simp [asAddr, hl]
theorem SWr_below (w : World) (ns : List Nat) (m : Nat) : Below w.heap.size w ((SW w ns m).setRow w.heap.size (padN ns)) := below_setRow (SW_below w ns m) (Nat.le_refl _) _
attribute [local go_sem] SW_drewN

theorem split_any (s : ByteArray) (hs : s.size < 4294967296) (w : World) :
    Calls Tryz.prog 118 #[.string s] w fun e w' => (∃ ns ok, e = .returned (.tuple #[.agg (padN ns), .bool ok]) ∧ (splitN signsL s.data.toList = if ok = true then some ns else none)) ∧ Below w.heap.size w w' := by
  go_enter Tryz.func118, Tryz.ntmps118
  go_wp2
  go_loopw [13, 0] (fun i x w' => ∃ (k m : Nat) (ns : List Nat) (cur : ByteArray), k ≤ 6 ∧ i = .int .i64 k ∧ x = .string cur ∧ cur.size < 4294967296 ∧ ns.length = k ∧ w' = SW w ns m ∧ Hid (splitN signsL s.data.toList = (splitN (signsL.drop k) cur.data.toList).map fun r => ns ++ r)) (fun i _ _ => 6 - (intOf i).toNat)
  case atStart => exact ⟨0, 0, [], s, by omega, rfl, rfl, hs, rfl, (SW_start w).symm, hide (by rw [List.drop_zero]; simp)⟩
  case round =>
    obtain ⟨k, m, ns, cur, hk, rfl, rfl, hcur, hl, rfl, HS⟩ := hrel
    have hcell := SW_cell w ns
    have hfro := SW_frozen w ns
    by_cases hlt : k < 6
    · have HD := hide (signs_drop k hlt)
      by_cases hi : Lib.indexByte cur.data.toList (signsL.getD k 0) < 0
      · have HV := hide (show splitN signsL s.data.toList = none by rw [HS.out, HD.out, splitN, if_pos hi]; rfl)
        have HI := hide hi
        clear hi
        go_wp2_with (first
          | (go_at_call 142; refine (cutS_miss cur k hlt HI.out _).mono ?_; rintro e w' ⟨rfl, n1, rfl⟩)
          | (go_at_call 143; refine (number_opt cur hcur _).mono ?_; rintro e w' ⟨⟨a, b, rfl⟩, n2, rfl⟩)
          | (refine wpList_load_pad rfl _ rfl w ns _ rfl ?_)
          | (refine wpList_store_pad rfl _ _ rfl w ns _ rfl rfl ?_)
          | (refine bodyPost_ret (results_pad rfl _ w ns _ (.bool false) rfl rfl) rfl ⟨⟨ns, false, rfl, ?_⟩, SWr_below _ _ _⟩; rw [HV.out]; rfl))
      · obtain ⟨i, hi'⟩ : ∃ i : Nat, Lib.indexByte cur.data.toList (signsL.getD k 0) = i := ⟨(Lib.indexByte cur.data.toList (signsL.getD k 0)).toNat, by omega⟩
        have HI := hide hi'
        have HX : splitN (signsL.drop k) cur.data.toList = (numR (cur.extract 0 i).data.toList).bind fun n => (splitN (signsL.drop (k + 1)) (cur.extract (i + 1) cur.size).data.toList).map fun r => n :: r := by
          rw [HD.out, splitN, if_neg hi, hi', Int.toNat_natCast, Lib.extract_data, Lib.extract_data, List.drop_zero, Nat.sub_zero]
          rw [List.take_of_length_le (l := cur.data.toList.drop (i + 1)) (by rw [List.length_drop, ← Lib.size_eq]; exact Nat.le_refl _)]
        have HX := hide HX
        clear hi hi'
        have hc1 : (cur.extract 0 i).size < 4294967296 := by simp; omega
        have hc2 : (cur.extract (i + 1) cur.size).size < 4294967296 := by simp; omega
        cases hn : numR (cur.extract 0 i).data.toList with
        | none =>
          have HV := hide (show splitN signsL s.data.toList = none by rw [HS.out, HX.out, hn]; rfl)
          have HN := hide hn
          clear hn
          go_wp2_with (first
            | (go_at_call 142; refine (cutS_hit cur k hlt i HI.out hcur _).mono ?_; rintro e w' ⟨rfl, n1, rfl⟩)
            | (go_at_call 143; refine (number_none _ HN.out hc1 _).mono ?_; rintro e w' ⟨rfl, n2, rfl⟩)
            | (refine wpList_load_pad rfl _ rfl w ns _ rfl ?_)
            | (refine wpList_store_pad rfl _ _ rfl w ns _ rfl rfl ?_)
            | (refine bodyPost_ret (results_pad rfl _ w ns _ (.bool false) rfl rfl) rfl ⟨⟨ns, false, rfl, ?_⟩, SWr_below _ _ _⟩; rw [HV.out]; rfl))
        | some n =>
          have HV := hide (show splitN signsL s.data.toList = (splitN (signsL.drop (k + 1)) (cur.extract (i + 1) cur.size).data.toList).map fun r => (ns ++ [n]) ++ r by
            rw [HS.out, HX.out, hn, Option.bind_some, Option.map_map]
            congr 1
            funext r
            simp)
          have HN := hide hn
          clear hn
          have hset := SW_set w ns
          go_wp2_with (first
            | (go_at_call 142; refine (cutS_hit cur k hlt i HI.out hcur _).mono ?_; rintro e w' ⟨rfl, n1, rfl⟩)
            | (go_at_call 143; refine (number_some _ n HN.out hc1 _).mono ?_; rintro e w' ⟨rfl, n2, rfl⟩))
          go_round
          case rel => exact ⟨k + 1, _, ns ++ [n], _, by omega, by go_num, rfl, hc2, by rw [List.length_append, hl]; rfl, rfl, HV⟩
          case measure => simp [intOf]; omega
    · obtain rfl : k = 6 := by omega
      have HX := hide (show splitN (signsL.drop 6) cur.data.toList = (numR cur.data.toList).map fun n => [n] from rfl)
      have hset := SW_set w ns
      cases hn : numR cur.data.toList with
      | none =>
        have HV := hide (show splitN signsL s.data.toList = none by rw [HS.out, HX.out, hn]; rfl)
        have HN := hide hn
        clear hn hset
        have hset : ∀ m, (SW w ns m).setCell ⟨w.heap.size + 1, 6, none⟩ (.int .i64 0) = SW w (ns ++ [0]) m := fun m => SW_set w ns m 0 6 hl (by omega)
        go_wp2_with (first
          | (go_at_call 143; refine (number_none _ HN.out hcur _).mono ?_; rintro e w' ⟨rfl, n2, rfl⟩)
          | (refine wpList_load_pad rfl _ rfl w _ _ rfl ?_)
          | (refine wpList_store_pad rfl _ _ rfl w _ _ rfl rfl ?_)
          | (refine bodyPost_ret (results_pad rfl _ w _ _ (.bool false) rfl rfl) rfl ⟨⟨_, false, rfl, ?_⟩, SWr_below _ _ _⟩; rw [HV.out]; rfl))
      | some n =>
        have HV := hide (show splitN signsL s.data.toList = some (ns ++ [n]) by rw [HS.out, HX.out, hn]; rfl)
        have HN := hide hn
        clear hn
        go_wp2_with (first
          | (go_at_call 143; refine (number_some _ n HN.out hcur _).mono ?_; rintro e w' ⟨rfl, n2, rfl⟩)
          | (refine wpList_load_pad rfl _ rfl w _ _ rfl ?_)
          | (refine wpList_store_pad rfl _ _ rfl w _ _ rfl rfl ?_)
          | (refine bodyPost_ret (results_pad rfl _ w _ _ (.bool true) rfl rfl) rfl ⟨⟨_, true, rfl, ?_⟩, SWr_below _ _ _⟩; rw [HV.out]; rfl))
end Go.Proofs.YtkogafponpjdnaaGreatDoor
