/- api.Forms. -/
import Derived.Test.YtklibmijiecbfaaGreatK5
import Derived.Test.YtklibmijiecbfaaGreatK3
import Derived.Lib.QuietBelow
import Derived.Test.YtklibmijiecbfaaGreatK6
namespace Go.Proofs.YtklibmijiecbfaaGreat
open Go.RowKit

def formsArr : Array Value := #[.string ⟨#[114, 101, 97, 100]⟩, .int .i64 1, .int .i64 1, .int .i64 0, .int .i64 0, .string ⟨#[119, 114, 105, 116, 101]⟩, .int .i64 1, .int .i64 1, .int .i64 0, .int .i64 0, .string ⟨#[111, 112, 101, 110]⟩, .int .i64 2, .int .i64 1, .int .i64 1, .int .i64 0, .string ⟨#[99, 108, 111, 115, 101]⟩, .int .i64 1, .int .i64 0, .int .i64 0, .int .i64 0, .string ⟨#[115, 116, 97, 116]⟩, .int .i64 2, .int .i64 0, .int .i64 0, .int .i64 0, .string ⟨#[114, 101, 110, 97, 109, 101]⟩, .int .i64 2, .int .i64 2, .int .i64 0, .int .i64 0, .string ⟨#[99, 111, 110, 110, 101, 99, 116]⟩, .int .i64 1, .int .i64 3, .int .i64 0, .int .i64 0, .string ⟨#[108, 105, 110, 107]⟩, .int .i64 2, .int .i64 2, .int .i64 1, .int .i64 0, .string ⟨#[115, 101, 110, 100]⟩, .int .i64 1, .int .i64 1, .int .i64 3, .int .i64 1]

set_option maxRecDepth 100000 in
set_option maxHeartbeats 2000000 in
theorem forms_any (w : World) :
  Calls Tryz.prog 75 #[] w fun e w' => e = .returned (.agg formsArr) ∧ Below w.heap.size w w' := by
 go_enter Tryz.func75, Tryz.ntmps75
 go_wp2_with (first | (refine wpList_buildTo rfl 153 _ rfl (some 19) rfl formsArr (by kernel_rfl) ?_) | (refine wpList_store_row rfl 153 _ _ rfl w.heap.size formsArr rfl rfl 153 _ (heap_alloc_new _ _) (by kernel_rfl) (by kernel_rfl) (by kernel_rfl) ?_))
 rw [World.setRow_alloc_new]
 exact bodyPost_ret (v := .agg formsArr) (results_cell_row rfl _ _ w.heap.size 153 formsArr (0, 0) _ rfl (heap_alloc_new _ _) Tryz.underlying153 rfl (by kernel_rfl)) rfl ⟨rfl, (Below.refl _ _).alloc (Nat.le_refl _) _⟩

def kindsV (nr : Nat) : Value := .agg #[.int .i64 (kindAt nr 0 : Nat), .int .i64 (kindAt nr 1 : Nat), .int .i64 (kindAt nr 2 : Nat), .int .i64 (kindAt nr 3 : Nat)]
def formV (nr : Nat) : Value := .agg #[.string ⟨(nameOf nr).toArray⟩, .int .i64 (kindAt nr 0 : Nat), .int .i64 (kindAt nr 1 : Nat), .int .i64 (kindAt nr 2 : Nat), .int .i64 (kindAt nr 3 : Nat)]
theorem forms_index (nr : Nat) (h : nr ≤ 8) (w : World) : (Instr.index 153 (.agg formsArr) (.int .i64 nr)).run Tryz.prog w = .ok (formV nr) w := by
 rcases nine h with rfl | rfl | rfl | rfl | rfl | rfl | rfl | rfl | rfl <;> kernel_rfl
theorem form_kinds (nr : Nat) (w : World) : (Instr.field 152 (formV nr) 1).run Tryz.prog w = .ok (kindsV nr) w := by kernel_rfl
end Go.Proofs.YtklibmijiecbfaaGreat

/- The document's fault of a net. -/
namespace Go.Proofs.YtklibmijiecbfaaGreat
open Go.RowKit

theorem restN_succ (k : Nat) (hk : k < 32) : restN k = restN (k + 1) * 2 := by
 unfold restN
 rw [show 32 - k = (32 - (k + 1)) + 1 by omega, Nat.pow_succ]
theorem restN_bit (k : Nat) : 2 ^ (31 - k) = restN (k + 1) := by unfold restN; rw [show 31 - k = 32 - (k + 1) by omega]
theorem rest_step (ip k : Nat) (hk : k < 32) : ip % restN k = ip % restN (k + 1) + restN (k + 1) * (ip / 2 ^ (31 - k) % 2) := by
 rw [restN_succ k hk, Nat.mod_mul, restN_bit]
theorem quot_step (ip k : Nat) (hk : k < 32) : ip / restN (k + 1) = 2 * (ip / restN k) + ip / 2 ^ (31 - k) % 2 := by
 rw [restN_succ k hk, restN_bit, ← Nat.div_div_eq_div_mul]
 omega
theorem quot_down (x y : Nat) : ∀ j k, k + j ≤ 32 → x / restN (k + j) = y / restN (k + j) → x / restN k = y / restN k
 | 0, _, _, h => h
 | j + 1, k, hk, h => by
  have h' : x / restN (k + 1) = y / restN (k + 1) := quot_down x y j (k + 1) (by omega) (by rw [show k + 1 + j = k + (j + 1) by omega]; exact h)
  rw [quot_step x k (by omega), quot_step y k (by omega)] at h'
  omega

theorem netFault_any (ip : Nat) (hip : ip < 4294967296) (b lo hi : Int) (hb : -9223372036854775808 ≤ b ∧ b ≤ 9223372036854775807) (hl : -9223372036854775808 ≤ lo ∧ lo ≤ 9223372036854775807) (hh : -9223372036854775808 ≤ hi ∧ hi ≤ 9223372036854775807) (w : World) :
  Calls Tryz.prog 46 #[netV ip b lo hi] w fun e w' => e = .returned (.int .i64 (faultOf ip b lo hi)) ∧ Below w.heap.size w w' := by
 by_cases c0 : b < 0
 ·
  have HF := hide (show faultOf ip b lo hi = 1 by unfold faultOf; rw [if_pos (by omega)])
  have d0 : decide (b < 0) = true := decide_eq_true c0
  go_enter Tryz.func46, Tryz.ntmps46
  go_wp2
  go_ret
  exact ⟨by rw [HF.out]; rfl, (Below.refl _ _).alloc (Nat.le_refl _) _⟩
 ·
  have d0 : decide (b < 0) = false := decide_eq_false c0
  by_cases c1 : 32 < b
  ·
   have HF := hide (show faultOf ip b lo hi = 1 by unfold faultOf; rw [if_pos (by omega)])
   have d1 : decide ((32 : Int) < b) = true := decide_eq_true c1
   go_enter Tryz.func46, Tryz.ntmps46
   go_wp2
   go_ret
   exact ⟨by rw [HF.out]; rfl, (Below.refl _ _).alloc (Nat.le_refl _) _⟩
  ·
   have d1 : decide ((32 : Int) < b) = false := decide_eq_false c1
   by_cases c2 : lo < 0
   ·
    have HF := hide (show faultOf ip b lo hi = 1 by unfold faultOf; rw [if_pos (by omega)])
    have d2 : decide (lo < 0) = true := decide_eq_true c2
    go_enter Tryz.func46, Tryz.ntmps46
    go_wp2
    go_ret
    exact ⟨by rw [HF.out]; rfl, (Below.refl _ _).alloc (Nat.le_refl _) _⟩
   ·
    have d2 : decide (lo < 0) = false := decide_eq_false c2
    by_cases c3 : 65535 < hi
    ·
     have HF := hide (show faultOf ip b lo hi = 1 by unfold faultOf; rw [if_pos (by omega)])
     have d3 : decide ((65535 : Int) < hi) = true := decide_eq_true c3
     go_enter Tryz.func46, Tryz.ntmps46
     go_wp2
     go_ret
     exact ⟨by rw [HF.out]; rfl, (Below.refl _ _).alloc (Nat.le_refl _) _⟩
    ·
     have d3 : decide ((65535 : Int) < hi) = false := decide_eq_false c3
     by_cases c4 : hi < lo
     ·
      have HF := hide (show faultOf ip b lo hi = 1 by unfold faultOf; rw [if_pos (by omega)])
      have d4 : decide (hi < lo) = true := decide_eq_true c4
      go_enter Tryz.func46, Tryz.ntmps46
      go_wp2
      go_ret
      exact ⟨by rw [HF.out]; rfl, (Below.refl _ _).alloc (Nat.le_refl _) _⟩
     ·
      have d4 : decide (hi < lo) = false := decide_eq_false c4
      obtain ⟨k0, rfl⟩ : ∃ k : Nat, b = k := ⟨b.toNat, by omega⟩
      have hk : k0 ≤ 32 := by omega
      have HF := hide (show faultOf ip (k0 : Int) lo hi = if ip % restN k0 = 0 then 0 else 3 by unfold faultOf; rw [if_neg (by omega), Int.toNat_natCast])
      go_enter Tryz.func46, Tryz.ntmps46
      go_wp2
      go_loop [3] (fun i => ∃ k : Nat, k0 ≤ k ∧ k ≤ 32 ∧ i = .int .i64 k ∧ Hid (ip % restN k0 = ip % restN k)) (fun i => 32 - (intOf i).toNat)
      case atStart => exact ⟨k0, Nat.le_refl _, hk, rfl, hide rfl⟩
      case round =>
       obtain ⟨k, hk1, hk2, rfl, HI⟩ := hrel
       by_cases hlt : k < 32
       ·
        have HS := hide (rest_step ip k hlt)
        by_cases c : ip / 2 ^ (31 - k) % 2 = 1
        ·
         have HB := hide (show (ip / 2 ^ (31 - k) % 2 == 1) = true by rw [beq_iff_eq]; exact c)
         have HV := hide (show faultOf ip (k0 : Int) lo hi = 3 by
          rw [HF.out, HI.out, HS.out, c, if_neg]
          have := restN_pos (k + 1)
          omega)
         clear c
         go_wp2_with (go_at_call 78; refine (bit_any ip k hip (by omega) _).mono ?_; rw [HB.out]; rintro e wx ⟨rfl, hwx⟩; rw [hwx]; clear hwx wx)
         go_ret
         exact ⟨by rw [HV.out]; rfl, (Below.refl _ _).alloc (Nat.le_refl _) _⟩
        ·
         have HB := hide (show (ip / 2 ^ (31 - k) % 2 == 1) = false by rw [beq_eq_false_iff_ne]; exact c)
         have HN := hide (show ip % restN k0 = ip % restN (k + 1) by
          rw [HI.out, HS.out, show ip / 2 ^ (31 - k) % 2 = 0 by omega]
          rfl)
         clear c
         go_wp2_with (go_at_call 78; refine (bit_any ip k hip (by omega) _).mono ?_; rw [HB.out]; rintro e wx ⟨rfl, hwx⟩; rw [hwx]; clear hwx wx)
         go_round
         case rel => exact ⟨k + 1, by omega, by omega, by go_num, HN⟩
         case measure => simp [intOf]; omega
       ·
        obtain rfl : k = 32 := by omega
        have HV := hide (show faultOf ip (k0 : Int) lo hi = 0 by
         rw [HF.out, HI.out, if_pos]
         rw [show restN 32 = 1 from rfl]
         exact Nat.mod_one ip)
        go_wp2
        go_ret
        exact ⟨by rw [HV.out]; rfl, (Below.refl _ _).alloc (Nat.le_refl _) _⟩
end Go.Proofs.YtklibmijiecbfaaGreat

/- What a net has: the code's and the document's. -/
namespace Go.Proofs.YtklibmijiecbfaaGreat
open Go.RowKit

def hasOf (ip : Nat) (b lo hi : Int) (x : Nat) (port : Int) : Bool := decide (faultOf ip b lo hi = 0) && (decide (x / restN b.toNat = ip / restN b.toNat) && (decide (lo ≤ port) && decide (port ≤ hi)))

theorem box_cells {w W : World} {ip : Nat} {b lo hi : Int} (hW : Below (w.heap.size + 1) (w.alloc (.cells #[.int .u32 ip, .int .i64 b, .int .i64 lo, .int .i64 hi] 45)) W) :
  W.cell? ⟨w.heap.size, 0, none⟩ = some (.int .u32 ip) ∧ W.cell? ⟨w.heap.size, 1, none⟩ = some (.int .i64 b) ∧ W.cell? ⟨w.heap.size, 2, none⟩ = some (.int .i64 lo) ∧ W.cell? ⟨w.heap.size, 3, none⟩ = some (.int .i64 hi) := by
 have hc : ∀ o, W.cell? ⟨w.heap.size, o, none⟩ = (#[.int .u32 ip, .int .i64 b, .int .i64 lo, .int .i64 hi] : Array Value)[o]? := fun o => by
  rw [hW.cell (p := ⟨w.heap.size, o, none⟩) (Nat.lt_succ_self _)]
  exact World.cell?_alloc_at _ _ _ _ rfl
 exact ⟨hc 0, hc 1, hc 2, hc 3⟩

theorem hasNet_any (ip : Nat) (hip : ip < 4294967296) (b lo hi : Int) (hb : -9223372036854775808 ≤ b ∧ b ≤ 9223372036854775807) (hl : -9223372036854775808 ≤ lo ∧ lo ≤ 9223372036854775807) (hh : -9223372036854775808 ≤ hi ∧ hi ≤ 9223372036854775807)
  (x : Nat) (hx : x < 4294967296) (port : Int) (w : World) :
  Calls Tryz.prog 98 #[netV ip b lo hi, .int .u32 x, .int .i64 port] w fun e w' => e = .returned (.bool (hasOf ip b lo hi x port)) ∧ Below w.heap.size w w' := by
 by_cases hf : faultOf ip b lo hi = 0
 ·
  obtain ⟨⟨hb0, hb32⟩, _, _⟩ := fault_ok hf
  obtain ⟨k0, rfl⟩ : ∃ k : Nat, b = k := ⟨b.toNat, by omega⟩
  have hk0 : k0 ≤ 32 := by omega
  have HV := hide (show hasOf ip (k0 : Int) lo hi x port = (decide (x / restN k0 = ip / restN k0) && (decide (lo ≤ port) && decide (port ≤ hi))) by unfold hasOf; rw [decide_eq_true hf, Bool.true_and, Int.toNat_natCast])
  have HF := hide hf
  clear hf
  go_enter Tryz.func98, Tryz.ntmps98
  go_wp2_with (go_at_call 46; refine (netFault_any ip hip k0 lo hi hb hl hh _).mono ?_; rw [HF.out]; rintro e W ⟨rfl, hW⟩; have hW2 : Below (w.heap.size + 1) (w.alloc (.cells #[.int .u32 ip, .int .i64 k0, .int .i64 lo, .int .i64 hi] 45)) W := hW.mono (by simp); obtain ⟨h0, h1, h2, h3⟩ := box_cells hW2)
  have hW' : Below w.heap.size w W := ((Below.refl w.heap.size w).alloc (Nat.le_refl _) _).trans (hW.mono (by simp))
  have HW := hide hW'
  clear hW hW2 hW'
  have h0 : ∀ m, (W.drewN m).cell? ⟨w.heap.size, 0, none⟩ = _ := fun _ => h0
  have h1 : ∀ m, (W.drewN m).cell? ⟨w.heap.size, 1, none⟩ = _ := fun _ => h1
  have h2 : ∀ m, (W.drewN m).cell? ⟨w.heap.size, 2, none⟩ = _ := fun _ => h2
  have h3 : ∀ m, (W.drewN m).cell? ⟨w.heap.size, 3, none⟩ = _ := fun _ => h3
  go_loopw [7] (fun i w' => ∃ k m : Nat, k ≤ k0 ∧ i = .int .i64 k ∧ w' = W.drewN m ∧ Hid (x / restN k = ip / restN k)) (fun i _ => k0 - (intOf i).toNat)
  case atStart => exact ⟨0, 0, by omega, rfl, rfl, hide (by rw [show restN 0 = 4294967296 from rfl, Nat.div_eq_of_lt hx, Nat.div_eq_of_lt hip])⟩
  case round =>
   obtain ⟨k, m, hk, rfl, rfl, HI⟩ := hrel
   by_cases hlt : k < k0
   ·
    have HX := hide (quot_step x k (by omega))
    have HP := hide (quot_step ip k (by omega))
    by_cases c : x / 2 ^ (31 - k) % 2 = ip / 2 ^ (31 - k) % 2
    ·
     have HN := hide (show x / restN (k + 1) = ip / restN (k + 1) by rw [HX.out, HP.out, HI.out, c])
     have bb : ((x / 2 ^ (31 - k) % 2 == 1) == (ip / 2 ^ (31 - k) % 2 == 1)) = true := by rw [c]; simp
     clear c
     go_wp2
     go_quiet ((go_at_call 78; first | exact Calls.quiet_of_same (bit_any _ k (by assumption) (by omega) _) | exact quiet_same (bit_any _ k (by assumption) (by omega) _)))
     go_wp2
     go_round
     case rel => exact ⟨k + 1, _, by omega, by go_num, rfl, HN⟩
     case measure => simp [intOf]; omega
    ·
     have HV2 := hide (show hasOf ip (k0 : Int) lo hi x port = false by
      rw [HV.out, decide_eq_false, Bool.false_and]
      intro h
      have h' := quot_down x ip (k0 - (k + 1)) (k + 1) (by omega) (by rw [show k + 1 + (k0 - (k + 1)) = k0 by omega]; exact h)
      rw [HX.out, HP.out, HI.out] at h'
      omega)
     have bb : ((x / 2 ^ (31 - k) % 2 == 1) == (ip / 2 ^ (31 - k) % 2 == 1)) = false := by
      rw [beq_eq_false_iff_ne]
      intro h
      rw [Bool.eq_iff_iff] at h
      simp at h
      omega
     clear c
     go_wp2
     go_quiet ((go_at_call 78; first | exact Calls.quiet_of_same (bit_any _ k (by assumption) (by omega) _) | exact quiet_same (bit_any _ k (by assumption) (by omega) _)))
     go_wp2
     go_ret
     exact ⟨by rw [HV2.out]; rfl, below_drewN' (below_drewN' HW.out _) _⟩
   ·
    obtain rfl : k = k0 := by omega
    have HV2 := hide (show hasOf ip (k : Int) lo hi x port = (decide (lo ≤ port) && decide (port ≤ hi)) by rw [HV.out, decide_eq_true HI.out, Bool.true_and])
    by_cases c1 : lo ≤ port
    ·
     have d1 : decide (lo ≤ port) = true := decide_eq_true c1
     go_wp2
     go_ret
     exact ⟨by rw [HV2.out, d1, Bool.true_and]; rfl, below_drewN' HW.out _⟩
    ·
     have d1 : decide (lo ≤ port) = false := decide_eq_false c1
     go_wp2
     go_ret
     exact ⟨by rw [HV2.out, d1, Bool.false_and]; rfl, below_drewN' HW.out _⟩
 ·
  have hf1 : 0 < faultOf ip b lo hi := by omega
  have HV := hide (show hasOf ip b lo hi x port = false by unfold hasOf; rw [decide_eq_false hf, Bool.false_and])
  go_enter Tryz.func98, Tryz.ntmps98
  go_wp2_with (go_at_call 46; refine (netFault_any ip hip b lo hi hb hl hh _).mono ?_; rintro e W ⟨rfl, hW⟩)
  go_ret
  exact ⟨by rw [HV.out]; rfl, ((Below.refl w.heap.size w).alloc (Nat.le_refl _) _).trans (hW.mono (by simp))⟩
end Go.Proofs.YtklibmijiecbfaaGreat

/- What a net has: addr.Has. -/
namespace Go.Proofs.YtklibmijiecbfaaGreat
open Go.RowKit Go.Sort

theorem boxed (w : World) (ip : Nat) (b lo hi : Int) : ∃ V, V = w.alloc (.cells #[.int .u32 ip, .int .i64 b, .int .i64 lo, .int .i64 hi] 45) ∧ Below w.heap.size w V ∧
  V.cell? ⟨w.heap.size, 0, none⟩ = some (.int .u32 ip) ∧ V.cell? ⟨w.heap.size, 1, none⟩ = some (.int .i64 b) ∧ V.cell? ⟨w.heap.size, 2, none⟩ = some (.int .i64 lo) ∧ V.cell? ⟨w.heap.size, 3, none⟩ = some (.int .i64 hi) :=
 ⟨_, rfl, (Below.refl _ _).alloc (Nat.le_refl _) _, box_cells (Below.refl _ _)⟩
theorem regrown_same {P : Program} {f : FuncId} {args : Array Value} {V : World} {d : Nat} {os : Array Obj} {v : Value}
  (h : Calls P f args (grow (redrawn V d) os) fun e w' => e = .returned v ∧ w' = grow (redrawn V d) os) : Calls P f args (grow (redrawn V d) os) fun e w'' => e = .returned v ∧ ∃ p : Regrown, w'' = grow (redrawn V p.d) p.os :=
 h.mono fun _ _ ⟨he, hw⟩ => ⟨he, ⟨d, os⟩, hw⟩

theorem has_bad (ip : Nat) (hip : ip < 4294967296) (b lo hi : Int) (hb : -9223372036854775808 ≤ b ∧ b ≤ 9223372036854775807) (hl : -9223372036854775808 ≤ lo ∧ lo ≤ 9223372036854775807) (hh : -9223372036854775808 ≤ hi ∧ hi ≤ 9223372036854775807)
  (x : Nat) (port n : Int) (HE : Hid (errV (faultOf ip b lo hi) = .iface 82 (.int .i64 n))) (w : World) :
  Calls Tryz.prog 114 #[netV ip b lo hi, .int .u32 x, .int .i64 port] w fun e w' => e = .returned (.bool false) ∧ Below w.heap.size w w' := by
 go_enter Tryz.func114, Tryz.ntmps114
 go_wp2
 obtain ⟨V, hV, hB, h0, h1, h2, h3⟩ := boxed w ip b lo hi
 rw [← hV]
 clear hV
 have HB := hide hB
 clear hB
 have g0 := cell_regrown h0
 have g1 := cell_regrown h1
 have g2 := cell_regrown h2
 have g3 := cell_regrown h3
 have cC : ∀ d os, Calls Tryz.prog 105 #[.agg #[.int .u32 ip, .int .i64 b, .int .i64 lo, .int .i64 hi]] (grow (redrawn V d) os) fun e w'' => e = .returned (.iface 82 (.int .i64 n)) ∧ ∃ p : Regrown, w'' = grow (redrawn V p.d) p.os := fun d os => Calls.regrown_of ((acheck_any ip hip b lo hi hb hl hh _).mono fun e w' h => by rw [HE.out] at h; exact h)
 refine wp_region_quiet_below (by kernel_rfl) (by kernel_rfl) ?_
 repeat (go_big_quiet_step ((go_at_call 105; exact cC _ _)))
 refine wpQuiet_nil ?_
 intro _ hw'
 obtain ⟨⟨dq, osq⟩, hw''⟩ := hw'
 subst hw''
 go_wp2
 go_ret
 exact ⟨rfl, HB.out.trans ((below_regrown V dq osq).mono HB.out.size)⟩

set_option maxHeartbeats 1000000 in
theorem has_any (ip : Nat) (hip : ip < 4294967296) (b lo hi : Int) (hb : -9223372036854775808 ≤ b ∧ b ≤ 9223372036854775807) (hl : -9223372036854775808 ≤ lo ∧ lo ≤ 9223372036854775807) (hh : -9223372036854775808 ≤ hi ∧ hi ≤ 9223372036854775807)
  (x : Nat) (hx : x < 4294967296) (port : Int) (w : World) :
  Calls Tryz.prog 114 #[netV ip b lo hi, .int .u32 x, .int .i64 port] w fun e w' => e = .returned (.bool (hasOf ip b lo hi x port)) ∧ Below w.heap.size w w' := by
 by_cases hf : faultOf ip b lo hi = 0
 ·
  obtain ⟨⟨hb0, hb32⟩, _, hr⟩ := fault_ok hf
  obtain ⟨k0, rfl⟩ : ∃ k : Nat, b = k := ⟨b.toNat, by omega⟩
  have hk0 : k0 ≤ 32 := by omega
  rw [Int.toNat_natCast] at hr
  have HV := hide (show hasOf ip (k0 : Int) lo hi x port = (decide (x / restN k0 = ip / restN k0) && (decide (lo ≤ port) && decide (port ≤ hi))) by unfold hasOf; rw [decide_eq_true hf, Bool.true_and, Int.toNat_natCast])
  have HF := hide (show errV (faultOf ip (k0 : Int) lo hi) = .nilIface by rw [hf]; rfl)
  have er : bits .and .u32 (x : Int) (maskN k0 : Int) = ((x / restN k0 * restN k0 : Nat) : Int) := by rw [u32_and_nat _ _ hx (maskN_lt k0), and_mask x k0 hx hk0]
  have hq : (x / restN k0 * restN k0 = ip) ↔ (x / restN k0 = ip / restN k0) := by
   have h1 := Nat.div_add_mod ip (restN k0)
   rw [hr, Nat.add_zero, Nat.mul_comm] at h1
   constructor
   ·
    intro h
    rw [← h1] at h
    exact Nat.eq_of_mul_eq_mul_right (restN_pos k0) h
   ·
    intro h
    rw [h, h1]
  have HQ := hide (show (((x / restN k0 * restN k0 : Nat) : Int) == (ip : Int)) = decide (x / restN k0 = ip / restN k0) by rw [Bool.eq_iff_iff]; simp only [beq_iff_eq, decide_eq_true_eq]; rw [← hq]; omega)
  obtain ⟨q, hqq⟩ : ∃ q, q = x / restN k0 * restN k0 := ⟨_, rfl⟩
  rw [← hqq] at er HQ
  clear hf hr hq hqq
  cases hd : decide (x / restN k0 = ip / restN k0) with
  | false =>
   rw [hd] at HQ HV
   have bq := HQ.out
   go_enter Tryz.func114, Tryz.ntmps114
   go_wp2
   obtain ⟨V, hV, hB, h0, h1, h2, h3⟩ := boxed w ip k0 lo hi
   rw [← hV]
   clear hV
   have HB := hide hB
   clear hB
   have g0 := cell_regrown h0
   have g1 := cell_regrown h1
   have g2 := cell_regrown h2
   have g3 := cell_regrown h3
   have cC : ∀ d os, Calls Tryz.prog 105 #[.agg #[.int .u32 ip, .int .i64 k0, .int .i64 lo, .int .i64 hi]] (grow (redrawn V d) os) fun e w'' => e = .returned .nilIface ∧ ∃ p : Regrown, w'' = grow (redrawn V p.d) p.os := fun d os => Calls.regrown_of ((acheck_any ip hip k0 lo hi hb hl hh _).mono fun e w' h => by rw [HF.out] at h; exact h)
   have cM : ∀ d os, Calls Tryz.prog 122 #[.int .i64 k0] (grow (redrawn V d) os) fun e w'' => e = .returned (.int .u32 (maskN k0)) ∧ ∃ p : Regrown, w'' = grow (redrawn V p.d) p.os := fun d os => regrown_same (mask_any k0 hk0 _)
   refine wp_region_quiet_below (by kernel_rfl) (by kernel_rfl) ?_
   repeat (go_big_quiet_step (first | (go_at_call 105; exact cC _ _) | (go_at_call 122; exact cM _ _)))
   refine wpQuiet_nil ?_
   intro _ hw'
   obtain ⟨⟨dq, osq⟩, hw''⟩ := hw'
   subst hw''
   go_wp2
   go_ret
   exact ⟨by rw [HV.out]; rfl, HB.out.trans ((below_regrown V dq osq).mono HB.out.size)⟩
  | true =>
   rw [hd, Bool.true_and] at HV
   rw [hd] at HQ
   have bq := HQ.out
   by_cases c1 : lo ≤ port
   ·
    have d1 : decide (lo ≤ port) = true := decide_eq_true c1
    rw [d1, Bool.true_and] at HV
    go_enter Tryz.func114, Tryz.ntmps114
    go_wp2
    obtain ⟨V, hV, hB, h0, h1, h2, h3⟩ := boxed w ip k0 lo hi
    rw [← hV]
    clear hV
    have HB := hide hB
    clear hB
    have g0 := cell_regrown h0
    have g1 := cell_regrown h1
    have g2 := cell_regrown h2
    have g3 := cell_regrown h3
    have cC : ∀ d os, Calls Tryz.prog 105 #[.agg #[.int .u32 ip, .int .i64 k0, .int .i64 lo, .int .i64 hi]] (grow (redrawn V d) os) fun e w'' => e = .returned .nilIface ∧ ∃ p : Regrown, w'' = grow (redrawn V p.d) p.os := fun d os => Calls.regrown_of ((acheck_any ip hip k0 lo hi hb hl hh _).mono fun e w' h => by rw [HF.out] at h; exact h)
    have cM : ∀ d os, Calls Tryz.prog 122 #[.int .i64 k0] (grow (redrawn V d) os) fun e w'' => e = .returned (.int .u32 (maskN k0)) ∧ ∃ p : Regrown, w'' = grow (redrawn V p.d) p.os := fun d os => regrown_same (mask_any k0 hk0 _)
    refine wp_region_quiet_below (by kernel_rfl) (by kernel_rfl) ?_
    repeat (go_big_quiet_step (first | (go_at_call 105; exact cC _ _) | (go_at_call 122; exact cM _ _)))
    refine wpQuiet_nil ?_
    intro _ hw'
    obtain ⟨⟨dq, osq⟩, hw''⟩ := hw'
    subst hw''
    go_wp2
    go_ret
    exact ⟨by rw [HV.out]; rfl, HB.out.trans ((below_regrown V dq osq).mono HB.out.size)⟩
   ·
    have d1 : decide (lo ≤ port) = false := decide_eq_false c1
    rw [d1, Bool.false_and] at HV
    go_enter Tryz.func114, Tryz.ntmps114
    go_wp2
    obtain ⟨V, hV, hB, h0, h1, h2, h3⟩ := boxed w ip k0 lo hi
    rw [← hV]
    clear hV
    have HB := hide hB
    clear hB
    have g0 := cell_regrown h0
    have g1 := cell_regrown h1
    have g2 := cell_regrown h2
    have g3 := cell_regrown h3
    have cC : ∀ d os, Calls Tryz.prog 105 #[.agg #[.int .u32 ip, .int .i64 k0, .int .i64 lo, .int .i64 hi]] (grow (redrawn V d) os) fun e w'' => e = .returned .nilIface ∧ ∃ p : Regrown, w'' = grow (redrawn V p.d) p.os := fun d os => Calls.regrown_of ((acheck_any ip hip k0 lo hi hb hl hh _).mono fun e w' h => by rw [HF.out] at h; exact h)
    have cM : ∀ d os, Calls Tryz.prog 122 #[.int .i64 k0] (grow (redrawn V d) os) fun e w'' => e = .returned (.int .u32 (maskN k0)) ∧ ∃ p : Regrown, w'' = grow (redrawn V p.d) p.os := fun d os => regrown_same (mask_any k0 hk0 _)
    refine wp_region_quiet_below (by kernel_rfl) (by kernel_rfl) ?_
    repeat (go_big_quiet_step (first | (go_at_call 105; exact cC _ _) | (go_at_call 122; exact cM _ _)))
    refine wpQuiet_nil ?_
    intro _ hw'
    obtain ⟨⟨dq, osq⟩, hw''⟩ := hw'
    subst hw''
    go_wp2
    go_ret
    exact ⟨by rw [HV.out]; rfl, HB.out.trans ((below_regrown V dq osq).mono HB.out.size)⟩
 ·
  obtain ⟨n, hn⟩ : ∃ n : Int, n = (faultOf ip b lo hi : Nat) := ⟨_, rfl⟩
  have HE := hide (show errV (faultOf ip b lo hi) = .iface 82 (.int .i64 n) by unfold errV; rw [if_neg hf, hn])
  rw [show hasOf ip b lo hi x port = false by unfold hasOf; rw [decide_eq_false hf, Bool.false_and]]
  exact has_bad ip hip b lo hi hb hl hh x port n HE w
end Go.Proofs.YtklibmijiecbfaaGreat

/- policy.Check: conds. -/
namespace Go.Proofs.YtklibmijiecbfaaGreat
open Go.RowKit Go.Sort

theorem two_box (w : World) (x y : Array Value) (tx ty : TypeId) : ∃ V, V = (w.alloc (.cells x tx)).alloc (.cells y ty) ∧ Below w.heap.size w V ∧ (∀ j : Nat, V.cell? ⟨w.heap.size, j, none⟩ = x[j]?) ∧ (∀ j : Nat, V.cell? ⟨w.heap.size + 1, j, none⟩ = y[j]?) := by
  refine ⟨_, rfl, below_next (box_below w _) (box_below _ _), fun j => ?_, fun j => ?_⟩
  · rw [((bcell (box_below (w.alloc (.cells x tx)) (.cells y ty))).1 w.heap.size j (by rw [World.size_alloc]; omega)), World.cell?_alloc_new]
  · have h := World.cell?_alloc_new (w.alloc (.cells x tx)) y ty j
    rwa [World.size_alloc] at h

theorem gparse_big (p : ByteArray) (h : 24 < p.size) (w : World) : Calls Tryz.prog 121 #[.string p] w fun e w' => e = .returned (.tuple #[.slice none 0 0, .iface 82 (.int .i64 2)]) ∧ Below w.heap.size w w' := by
  go_enter Tryz.func121, Tryz.ntmps121
  go_wp2
  go_ret2
  exact ⟨rfl, Below.refl _ _⟩
theorem gcheck_any (p : ByteArray) (w : World) : Calls Tryz.prog 104 #[.string p] w fun e w' => e = .returned (errV (globF p)) ∧ Below w.heap.size w w' := by
  by_cases h : 24 < p.size
  · have HE := hide (show errV (globF p) = .iface 82 (.int .i64 2) by
      unfold globF Gl.parseR
      rw [if_pos h]
      rfl)
    go_enter Tryz.func104, Tryz.ntmps104
    go_wp2_with (go_at_call 121; refine (gparse_big p h _).mono ?_; rintro e W ⟨rfl, hW⟩)
    go_ret
    exact ⟨by rw [HE.out]; rfl, hW⟩
  · refine (Gl.check_any p (by omega) w).mono ?_
    rintro e w' ⟨rfl, hb⟩
    refine ⟨?_, hb⟩
    unfold globF errV
    cases hp : Gl.parseR p with
    | inr ps => rfl
    | inl n =>
      have hn : n ≠ 0 := by
        unfold Gl.parseR at hp
        repeat' split at hp
        all_goals simp at hp
        all_goals omega
      simp only
      rw [if_neg hn]

theorem checkCond_bound (c : CD) (kv : Array Value) (w : World) (h : c.arg < 0 ∨ 3 < c.arg ∨ c.op < 1 ∨ 9 < c.op) : Calls Tryz.prog 76 #[condV c, .agg kv] w fun e w' => e = .returned (errV 1) ∧ Below w.heap.size w w' := by
  obtain ⟨arg, op, v, m, g, ⟨ip, b, lo, hi⟩⟩ := c
  unfold condV
  simp only at h ⊢
  go_enter Tryz.func76, Tryz.ntmps76
  go_wp2
  all_goals first
    | omega
    | (go_ret
       exact ⟨rfl, below_next (box_below _ _) (box_below _ _)⟩)

theorem kinds_at (nr a : Nat) (h : a ≤ 3) : (#[.int .i64 (kindAt nr 0 : Nat), .int .i64 (kindAt nr 1 : Nat), .int .i64 (kindAt nr 2 : Nat), .int .i64 (kindAt nr 3 : Nat)] : Array Value)[a]? = some (.int .i64 (kindAt nr a : Nat)) := by
  rcases (by omega : a = 0 ∨ a = 1 ∨ a = 2 ∨ a = 3) with rfl | rfl | rfl | rfl <;> rfl
end Go.Proofs.YtklibmijiecbfaaGreat

/- policy.Check: conds, behind their bounds. -/
namespace Go.Proofs.YtklibmijiecbfaaGreat
open Go.RowKit Go.Sort

set_option maxHeartbeats 4000000 in
theorem checkCond_kind (nr a : Nat) (ha : a ≤ 3) (op : Int) (v m : Nat) (g : ByteArray) (ip : Nat) (b lo hi : Int) (h1 : ¬ op < 1) (h9 : ¬ 9 < op) (w : World) (h : kindAt nr a ≠ kindOp op) :
  Calls Tryz.prog 76 #[condV ⟨a, op, v, m, g, ⟨ip, b, lo, hi⟩⟩, kindsV nr] w fun e w' => e = .returned (errV 3) ∧ Below w.heap.size w w' := by
 have HU := fun w => hasUnused_any ⟨a, op, v, m, g, ⟨ip, b, lo, hi⟩⟩ w
 obtain ⟨u, hu⟩ : ∃ u, u = decide (unusedP ⟨a, op, v, m, g, ⟨ip, b, lo, hi⟩⟩) := ⟨_, rfl⟩
 rw [← hu] at HU
 obtain ⟨ko, hko⟩ : ∃ k : Int, k = (kindOp op : Nat) := ⟨_, rfl⟩
 have HK := fun w => kindOf_any op w
 rw [← hko] at HK
 obtain ⟨ka, hka⟩ : ∃ k : Int, k = (kindAt nr a : Nat) := ⟨_, rfl⟩
 have hat := kinds_at nr a ha
 rw [← hka] at hat
 have hne : (ka != ko) = true := by rw [hka, hko, bne_iff_ne]; omega
 clear hu hko hka h
 unfold kindsV condV at *
 simp only at *
 have i1 : ¬ (a : Int) < 0 := by omega
 have i2 : ¬ (4 : Int) ≤ a := by omega
 have i3 : (0 : Int) ≤ a := by omega
 have i4 : (a : Int) < 4 := by omega
 go_enter Tryz.func76, Tryz.ntmps76
 go_wp2
 obtain ⟨V, hV, hB, hx, hy⟩ := two_box w #[.int .i64 a, .int .i64 op, .int .u64 v, .int .u64 m, .string g, .int .u32 ip, .int .i64 b, .int .i64 lo, .int .i64 hi] #[.int .i64 (kindAt nr 0 : Nat), .int .i64 (kindAt nr 1 : Nat), .int .i64 (kindAt nr 2 : Nat), .int .i64 (kindAt nr 3 : Nat)] 47 126
 rw [← hV]
 clear hV
 have HB := hide hB
 clear hB
 have g0 := cell_regrown (hx 0)
 have g1 := cell_regrown (hx 1)
 have g2 := cell_regrown (hx 2)
 have g3 := cell_regrown (hx 3)
 have g4 := cell_regrown (hx 4)
 have g5 := cell_regrown (hx 5)
 have g6 := cell_regrown (hx 6)
 have g7 := cell_regrown (hx 7)
 have g8 := cell_regrown (hx 8)
 have gk := cell_regrown ((hy a).trans hat)
 have cK : ∀ d os, Calls Tryz.prog 102 #[.int .i64 op] (grow (redrawn V d) os) fun e w'' => e = .returned (.int .i64 ko) ∧ ∃ p : Regrown, w'' = grow (redrawn V p.d) p.os := fun d os => regrown_same (HK _)
 have cU : ∀ d os, Calls Tryz.prog 103 #[.agg #[.int .i64 a, .int .i64 op, .int .u64 v, .int .u64 m, .string g, .int .u32 ip, .int .i64 b, .int .i64 lo, .int .i64 hi]] (grow (redrawn V d) os) fun e w'' => e = .returned (.bool u) ∧ ∃ p : Regrown, w'' = grow (redrawn V p.d) p.os := fun d os => Calls.regrown_of (HU _)
 clear hx hy hat HU HK
 refine wp_region_quiet_below (by kernel_rfl) (by kernel_rfl) ?_
 repeat (go_big_quiet_step (first | (go_at_call 102; exact cK _ _) | (go_at_call 103; exact cU _ _)))
 refine wpQuiet_nil ?_
 intro _ hw'
 obtain ⟨⟨dq, osq⟩, hw''⟩ := hw'
 subst hw''
 go_wp2
 go_ret
 exact ⟨rfl, HB.out.trans ((below_regrown V dq osq).mono HB.out.size)⟩

set_option maxHeartbeats 4000000 in
theorem checkCond_unused (nr a : Nat) (ha : a ≤ 3) (op : Int) (v m : Nat) (g : ByteArray) (ip : Nat) (b lo hi : Int) (h1 : ¬ op < 1) (h9 : ¬ 9 < op) (w : World) (hk : kindAt nr a = kindOp op) (h : unusedP ⟨a, op, v, m, g, ⟨ip, b, lo, hi⟩⟩) :
  Calls Tryz.prog 76 #[condV ⟨a, op, v, m, g, ⟨ip, b, lo, hi⟩⟩, kindsV nr] w fun e w' => e = .returned (errV 3) ∧ Below w.heap.size w w' := by
 have HU := fun w => hasUnused_any ⟨a, op, v, m, g, ⟨ip, b, lo, hi⟩⟩ w
 obtain ⟨u, hu⟩ : ∃ u, u = decide (unusedP ⟨a, op, v, m, g, ⟨ip, b, lo, hi⟩⟩) := ⟨_, rfl⟩
 rw [← hu] at HU
 obtain ⟨ko, hko⟩ : ∃ k : Int, k = (kindOp op : Nat) := ⟨_, rfl⟩
 have HK := fun w => kindOf_any op w
 rw [← hko] at HK
 obtain ⟨ka, hka⟩ : ∃ k : Int, k = (kindAt nr a : Nat) := ⟨_, rfl⟩
 have hat := kinds_at nr a ha
 rw [← hka] at hat
 have hne : ko = ka := by rw [hka, hko, hk]
 subst hne
 have hut : u = true := by rw [hu]; exact decide_eq_true h
 subst hut
 clear hu hko hka h hk
 have hnn : (ko != ko) = false := by simp
 unfold kindsV condV at *
 simp only at *
 have i1 : ¬ (a : Int) < 0 := by omega
 have i2 : ¬ (4 : Int) ≤ a := by omega
 have i3 : (0 : Int) ≤ a := by omega
 have i4 : (a : Int) < 4 := by omega
 go_enter Tryz.func76, Tryz.ntmps76
 go_wp2
 obtain ⟨V, hV, hB, hx, hy⟩ := two_box w #[.int .i64 a, .int .i64 op, .int .u64 v, .int .u64 m, .string g, .int .u32 ip, .int .i64 b, .int .i64 lo, .int .i64 hi] #[.int .i64 (kindAt nr 0 : Nat), .int .i64 (kindAt nr 1 : Nat), .int .i64 (kindAt nr 2 : Nat), .int .i64 (kindAt nr 3 : Nat)] 47 126
 rw [← hV]
 clear hV
 have HB := hide hB
 clear hB
 have g0 := cell_regrown (hx 0)
 have g1 := cell_regrown (hx 1)
 have g2 := cell_regrown (hx 2)
 have g3 := cell_regrown (hx 3)
 have g4 := cell_regrown (hx 4)
 have g5 := cell_regrown (hx 5)
 have g6 := cell_regrown (hx 6)
 have g7 := cell_regrown (hx 7)
 have g8 := cell_regrown (hx 8)
 have gk := cell_regrown ((hy a).trans hat)
 have cK : ∀ d os, Calls Tryz.prog 102 #[.int .i64 op] (grow (redrawn V d) os) fun e w'' => e = .returned (.int .i64 ko) ∧ ∃ p : Regrown, w'' = grow (redrawn V p.d) p.os := fun d os => regrown_same (HK _)
 have cU : ∀ d os, Calls Tryz.prog 103 #[.agg #[.int .i64 a, .int .i64 op, .int .u64 v, .int .u64 m, .string g, .int .u32 ip, .int .i64 b, .int .i64 lo, .int .i64 hi]] (grow (redrawn V d) os) fun e w'' => e = .returned (.bool true) ∧ ∃ p : Regrown, w'' = grow (redrawn V p.d) p.os := fun d os => Calls.regrown_of (HU _)
 clear hx hy hat HU HK
 refine wp_region_quiet_below (by kernel_rfl) (by kernel_rfl) ?_
 repeat (go_big_quiet_step (first | (go_at_call 102; exact cK _ _) | (go_at_call 103; exact cU _ _)))
 refine wpQuiet_nil ?_
 intro _ hw'
 obtain ⟨⟨dq, osq⟩, hw''⟩ := hw'
 subst hw''
 go_wp2
 go_ret
 exact ⟨rfl, HB.out.trans ((below_regrown V dq osq).mono HB.out.size)⟩

set_option maxHeartbeats 4000000 in
theorem checkCond_like (nr a : Nat) (ha : a ≤ 3) (v m : Nat) (g : ByteArray) (ip : Nat) (b lo hi : Int) (_hc : CdOk ⟨a, 8, v, m, g, ⟨ip, b, lo, hi⟩⟩)  (w : World) (hk : kindAt nr a = kindOp 8) (h : ¬ unusedP ⟨a, 8, v, m, g, ⟨ip, b, lo, hi⟩⟩) :
  Calls Tryz.prog 76 #[condV ⟨a, 8, v, m, g, ⟨ip, b, lo, hi⟩⟩, kindsV nr] w fun e w' => e = .returned (errV (globF g)) ∧ Below w.heap.size w w' := by
 have HU := fun w => hasUnused_any ⟨a, 8, v, m, g, ⟨ip, b, lo, hi⟩⟩ w
 obtain ⟨u, hu⟩ : ∃ u, u = decide (unusedP ⟨a, 8, v, m, g, ⟨ip, b, lo, hi⟩⟩) := ⟨_, rfl⟩
 rw [← hu] at HU
 obtain ⟨ko, hko⟩ : ∃ k : Int, k = (kindOp 8 : Nat) := ⟨_, rfl⟩
 have HK := fun w => kindOf_any 8 w
 rw [← hko] at HK
 obtain ⟨ka, hka⟩ : ∃ k : Int, k = (kindAt nr a : Nat) := ⟨_, rfl⟩
 have hat := kinds_at nr a ha
 rw [← hka] at hat
 have hne : ko = ka := by rw [hka, hko, hk]
 subst hne
 have hut : u = false := by rw [hu]; exact decide_eq_false h
 subst hut
 clear hu hko hka h hk
 have hnn : (ko != ko) = false := by simp
 unfold kindsV condV at *
 simp only at *
 have i1 : ¬ (a : Int) < 0 := by omega
 have i2 : ¬ (4 : Int) ≤ a := by omega
 have i3 : (0 : Int) ≤ a := by omega
 have i4 : (a : Int) < 4 := by omega
 go_enter Tryz.func76, Tryz.ntmps76
 go_wp2
 obtain ⟨V, hV, hB, hx, hy⟩ := two_box w #[.int .i64 a, .int .i64 8, .int .u64 v, .int .u64 m, .string g, .int .u32 ip, .int .i64 b, .int .i64 lo, .int .i64 hi] #[.int .i64 (kindAt nr 0 : Nat), .int .i64 (kindAt nr 1 : Nat), .int .i64 (kindAt nr 2 : Nat), .int .i64 (kindAt nr 3 : Nat)] 47 126
 rw [← hV]
 clear hV
 have HB := hide hB
 clear hB
 have g0 := cell_regrown (hx 0)
 have g1 := cell_regrown (hx 1)
 have g2 := cell_regrown (hx 2)
 have g3 := cell_regrown (hx 3)
 have g4 := cell_regrown (hx 4)
 have g5 := cell_regrown (hx 5)
 have g6 := cell_regrown (hx 6)
 have g7 := cell_regrown (hx 7)
 have g8 := cell_regrown (hx 8)
 have gk := cell_regrown ((hy a).trans hat)
 have cK : ∀ d os, Calls Tryz.prog 102 #[.int .i64 8] (grow (redrawn V d) os) fun e w'' => e = .returned (.int .i64 ko) ∧ ∃ p : Regrown, w'' = grow (redrawn V p.d) p.os := fun d os => regrown_same (HK _)
 have cU : ∀ d os, Calls Tryz.prog 103 #[.agg #[.int .i64 a, .int .i64 8, .int .u64 v, .int .u64 m, .string g, .int .u32 ip, .int .i64 b, .int .i64 lo, .int .i64 hi]] (grow (redrawn V d) os) fun e w'' => e = .returned (.bool false) ∧ ∃ p : Regrown, w'' = grow (redrawn V p.d) p.os := fun d os => Calls.regrown_of (HU _)
 clear hx hy hat HU HK
 refine wp_region_quiet_below (by kernel_rfl) (by kernel_rfl) ?_
 repeat (go_big_quiet_step (first | (go_at_call 102; exact cK _ _) | (go_at_call 103; exact cU _ _)))
 refine wpQuiet_nil ?_
 intro _ hw'
 obtain ⟨⟨dq, osq⟩, hw''⟩ := hw'
 subst hw''
 have HE := gcheck_any g
 go_wp2_with (go_at_call 104; refine (HE _).mono ?_; rintro e W2 ⟨rfl, hb2⟩)
 go_ret
 exact ⟨rfl, below_next (HB.out.trans ((below_regrown V dq osq).mono HB.out.size)) hb2⟩

set_option maxHeartbeats 4000000 in
theorem checkCond_net (nr a : Nat) (ha : a ≤ 3) (v m : Nat) (g : ByteArray) (ip : Nat) (b lo hi : Int) (hc : CdOk ⟨a, 9, v, m, g, ⟨ip, b, lo, hi⟩⟩)  (w : World) (hk : kindAt nr a = kindOp 9) (h : ¬ unusedP ⟨a, 9, v, m, g, ⟨ip, b, lo, hi⟩⟩) :
  Calls Tryz.prog 76 #[condV ⟨a, 9, v, m, g, ⟨ip, b, lo, hi⟩⟩, kindsV nr] w fun e w' => e = .returned (errV (faultOf ip b lo hi)) ∧ Below w.heap.size w w' := by
 have HU := fun w => hasUnused_any ⟨a, 9, v, m, g, ⟨ip, b, lo, hi⟩⟩ w
 obtain ⟨u, hu⟩ : ∃ u, u = decide (unusedP ⟨a, 9, v, m, g, ⟨ip, b, lo, hi⟩⟩) := ⟨_, rfl⟩
 rw [← hu] at HU
 obtain ⟨ko, hko⟩ : ∃ k : Int, k = (kindOp 9 : Nat) := ⟨_, rfl⟩
 have HK := fun w => kindOf_any 9 w
 rw [← hko] at HK
 obtain ⟨ka, hka⟩ : ∃ k : Int, k = (kindAt nr a : Nat) := ⟨_, rfl⟩
 have hat := kinds_at nr a ha
 rw [← hka] at hat
 have hne : ko = ka := by rw [hka, hko, hk]
 subst hne
 have hut : u = false := by rw [hu]; exact decide_eq_false h
 subst hut
 clear hu hko hka h hk
 have hnn : (ko != ko) = false := by simp
 unfold kindsV condV at *
 simp only at *
 have i1 : ¬ (a : Int) < 0 := by omega
 have i2 : ¬ (4 : Int) ≤ a := by omega
 have i3 : (0 : Int) ≤ a := by omega
 have i4 : (a : Int) < 4 := by omega
 go_enter Tryz.func76, Tryz.ntmps76
 go_wp2
 obtain ⟨V, hV, hB, hx, hy⟩ := two_box w #[.int .i64 a, .int .i64 9, .int .u64 v, .int .u64 m, .string g, .int .u32 ip, .int .i64 b, .int .i64 lo, .int .i64 hi] #[.int .i64 (kindAt nr 0 : Nat), .int .i64 (kindAt nr 1 : Nat), .int .i64 (kindAt nr 2 : Nat), .int .i64 (kindAt nr 3 : Nat)] 47 126
 rw [← hV]
 clear hV
 have HB := hide hB
 clear hB
 have g0 := cell_regrown (hx 0)
 have g1 := cell_regrown (hx 1)
 have g2 := cell_regrown (hx 2)
 have g3 := cell_regrown (hx 3)
 have g4 := cell_regrown (hx 4)
 have g5 := cell_regrown (hx 5)
 have g6 := cell_regrown (hx 6)
 have g7 := cell_regrown (hx 7)
 have g8 := cell_regrown (hx 8)
 have gk := cell_regrown ((hy a).trans hat)
 have cK : ∀ d os, Calls Tryz.prog 102 #[.int .i64 9] (grow (redrawn V d) os) fun e w'' => e = .returned (.int .i64 ko) ∧ ∃ p : Regrown, w'' = grow (redrawn V p.d) p.os := fun d os => regrown_same (HK _)
 have cU : ∀ d os, Calls Tryz.prog 103 #[.agg #[.int .i64 a, .int .i64 9, .int .u64 v, .int .u64 m, .string g, .int .u32 ip, .int .i64 b, .int .i64 lo, .int .i64 hi]] (grow (redrawn V d) os) fun e w'' => e = .returned (.bool false) ∧ ∃ p : Regrown, w'' = grow (redrawn V p.d) p.os := fun d os => Calls.regrown_of (HU _)
 clear hx hy hat HU HK
 refine wp_region_quiet_below (by kernel_rfl) (by kernel_rfl) ?_
 repeat (go_big_quiet_step (first | (go_at_call 102; exact cK _ _) | (go_at_call 103; exact cU _ _)))
 refine wpQuiet_nil ?_
 intro _ hw'
 obtain ⟨⟨dq, osq⟩, hw''⟩ := hw'
 subst hw''
 have HE := acheck_any ip hc.net.ip b lo hi hc.net.bits hc.net.lo hc.net.hi
 go_wp2_with (go_at_call 105; refine (HE _).mono ?_; rintro e W2 ⟨rfl, hb2⟩)
 go_ret
 exact ⟨rfl, below_next (HB.out.trans ((below_regrown V dq osq).mono HB.out.size)) hb2⟩

set_option maxHeartbeats 4000000 in
theorem checkCond_num (nr a : Nat) (ha : a ≤ 3) (op : Int) (v m : Nat) (g : ByteArray) (ip : Nat) (b lo hi : Int) (h1 : ¬ op < 1) (h9 : ¬ 9 < op) (_hc : CdOk ⟨a, op, v, m, g, ⟨ip, b, lo, hi⟩⟩) (h8 : ¬ op = 8) (h9n : ¬ op = 9) (w : World) (hk : kindAt nr a = kindOp op) (h : ¬ unusedP ⟨a, op, v, m, g, ⟨ip, b, lo, hi⟩⟩) :
  Calls Tryz.prog 76 #[condV ⟨a, op, v, m, g, ⟨ip, b, lo, hi⟩⟩, kindsV nr] w fun e w' => e = .returned (errV 0) ∧ Below w.heap.size w w' := by
 have HU := fun w => hasUnused_any ⟨a, op, v, m, g, ⟨ip, b, lo, hi⟩⟩ w
 obtain ⟨u, hu⟩ : ∃ u, u = decide (unusedP ⟨a, op, v, m, g, ⟨ip, b, lo, hi⟩⟩) := ⟨_, rfl⟩
 rw [← hu] at HU
 obtain ⟨ko, hko⟩ : ∃ k : Int, k = (kindOp op : Nat) := ⟨_, rfl⟩
 have HK := fun w => kindOf_any op w
 rw [← hko] at HK
 obtain ⟨ka, hka⟩ : ∃ k : Int, k = (kindAt nr a : Nat) := ⟨_, rfl⟩
 have hat := kinds_at nr a ha
 rw [← hka] at hat
 have hne : ko = ka := by rw [hka, hko, hk]
 subst hne
 have hut : u = false := by rw [hu]; exact decide_eq_false h
 subst hut
 clear hu hko hka h hk
 have hnn : (ko != ko) = false := by simp
 unfold kindsV condV at *
 simp only at *
 have i1 : ¬ (a : Int) < 0 := by omega
 have i2 : ¬ (4 : Int) ≤ a := by omega
 have i3 : (0 : Int) ≤ a := by omega
 have i4 : (a : Int) < 4 := by omega
 go_enter Tryz.func76, Tryz.ntmps76
 go_wp2
 obtain ⟨V, hV, hB, hx, hy⟩ := two_box w #[.int .i64 a, .int .i64 op, .int .u64 v, .int .u64 m, .string g, .int .u32 ip, .int .i64 b, .int .i64 lo, .int .i64 hi] #[.int .i64 (kindAt nr 0 : Nat), .int .i64 (kindAt nr 1 : Nat), .int .i64 (kindAt nr 2 : Nat), .int .i64 (kindAt nr 3 : Nat)] 47 126
 rw [← hV]
 clear hV
 have HB := hide hB
 clear hB
 have g0 := cell_regrown (hx 0)
 have g1 := cell_regrown (hx 1)
 have g2 := cell_regrown (hx 2)
 have g3 := cell_regrown (hx 3)
 have g4 := cell_regrown (hx 4)
 have g5 := cell_regrown (hx 5)
 have g6 := cell_regrown (hx 6)
 have g7 := cell_regrown (hx 7)
 have g8 := cell_regrown (hx 8)
 have gk := cell_regrown ((hy a).trans hat)
 have cK : ∀ d os, Calls Tryz.prog 102 #[.int .i64 op] (grow (redrawn V d) os) fun e w'' => e = .returned (.int .i64 ko) ∧ ∃ p : Regrown, w'' = grow (redrawn V p.d) p.os := fun d os => regrown_same (HK _)
 have cU : ∀ d os, Calls Tryz.prog 103 #[.agg #[.int .i64 a, .int .i64 op, .int .u64 v, .int .u64 m, .string g, .int .u32 ip, .int .i64 b, .int .i64 lo, .int .i64 hi]] (grow (redrawn V d) os) fun e w'' => e = .returned (.bool false) ∧ ∃ p : Regrown, w'' = grow (redrawn V p.d) p.os := fun d os => Calls.regrown_of (HU _)
 clear hx hy hat HU HK
 refine wp_region_quiet_below (by kernel_rfl) (by kernel_rfl) ?_
 repeat (go_big_quiet_step (first | (go_at_call 102; exact cK _ _) | (go_at_call 103; exact cU _ _)))
 refine wpQuiet_nil ?_
 intro _ hw'
 obtain ⟨⟨dq, osq⟩, hw''⟩ := hw'
 subst hw''
 clear _hc
 go_wp2
 go_ret
 exact ⟨rfl, HB.out.trans ((below_regrown V dq osq).mono HB.out.size)⟩

theorem checkCond_any (nr : Nat) (c : CD) (hc : CdOk c) (w : World) : Calls Tryz.prog 76 #[condV c, kindsV nr] w fun e w' => e = .returned (errV (condF nr c)) ∧ Below w.heap.size w w' := by
 by_cases h : c.arg < 0 ∨ 3 < c.arg ∨ c.op < 1 ∨ 9 < c.op
 ·
  rw [show condF nr c = 1 from if_pos h]
  exact checkCond_bound c _ w h
 have hf : condF nr c = if kindAt nr c.arg.toNat ≠ kindOp c.op ∨ unusedP c then 3 else if c.op = 8 then globF c.glob else if c.op = 9 then netF c.net else 0 := if_neg h
 obtain ⟨arg, op, v, m, g, ⟨ip, b, lo, hi⟩⟩ := c
 simp only [not_or] at h hf
 obtain ⟨a, rfl⟩ : ∃ a : Nat, arg = a := ⟨arg.toNat, by omega⟩
 have ha : a ≤ 3 := by omega
 rw [Int.toNat_natCast] at hf
 by_cases hk : kindAt nr a = kindOp op
 ·
  by_cases hu : unusedP ⟨a, op, v, m, g, ⟨ip, b, lo, hi⟩⟩
  ·
   rw [hf, if_pos (.inr hu)]
   exact checkCond_unused nr a ha op v m g ip b lo hi h.2.2.1 h.2.2.2 w hk hu
  ·
   rw [if_neg (by rw [not_or]; exact ⟨fun hc => hc hk, hu⟩)] at hf
   by_cases h8 : op = 8
   ·
    rw [hf, if_pos h8]
    subst h8
    exact checkCond_like nr a ha v m g ip b lo hi hc w hk hu
   ·
    by_cases h9 : op = 9
    ·
     rw [hf, if_neg h8, if_pos h9]
     subst h9
     exact checkCond_net nr a ha v m g ip b lo hi hc w hk hu
    ·
     rw [hf, if_neg h8, if_neg h9]
     exact checkCond_num nr a ha op v m g ip b lo hi h.2.2.1 h.2.2.2 hc h8 h9 w hk hu
 ·
  rw [hf, if_pos (.inl hk)]
  exact checkCond_kind nr a ha op v m g ip b lo hi h.2.2.1 h.2.2.2 w hk
end Go.Proofs.YtklibmijiecbfaaGreat
